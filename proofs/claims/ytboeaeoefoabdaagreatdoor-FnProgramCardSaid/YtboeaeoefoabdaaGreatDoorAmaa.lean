/-
  Texts put together by program: HxA, HxS, HxB, RhA, HxN, TbA, NeL.
  Conditions: as each theorem says.
-/
import Derived.Deep.OwnRows
import Derived.Handy
import Derived.Laws.BitsLemmas
import Derived.Laws.Closers25b
import Derived.Lib.Strings
import Derived.ProofKit
import Derived.Test.YtboeaeoefoabdaaGreatDoorProg
import Derived.WalkKit
namespace Go.Proofs.YtboeaeoefoabdaaGreatDoor
theorem i64_and15 (n : Int) : bits .and .i64 n 15 = n % 16 := by
 have h15 : (BitVec.ofInt 64 15).toNat = 2 ^ 4 - 1 := by decide
 have key : (BitVec.ofInt 64 n &&& BitVec.ofInt 64 15).toNat = (n % ((2 ^ 64 : Nat) : Int)).toNat % 2 ^ 4 := by
  rw [BitVec.toNat_and, BitVec.toNat_ofInt, h15, Nat.and_two_pow_sub_one_eq_mod]
 show IntKind.i64.wrap ((BitVec.ofInt 64 n &&& BitVec.ofInt 64 15).toNat : Nat) = n % 16
 rw [key, IntKind.wrap_i64]
 omega
def hexTab : List UInt8 := [48, 49, 50, 51, 52, 53, 54, 55, 56, 57, 65, 66, 67, 68, 69, 70]
def hexAt (n : Int) (k : Nat) : UInt8 := hexTab.getD ((n / 16 ^ k) % 16).toNat 0
def hexl (n : Int) (d : Nat) : List UInt8 := (List.range d).map fun j => hexAt n (d - 1 - j)
def hexRow (n : Int) (d k : Nat) (j : Nat) : Value := if d - k ≤ j then .int .u8 (hexAt n (d - 1 - j)).toNat else .int .u8 0
theorem hexRow_zero (n : Int) (d : Nat) : ∀ j, j < d → Value.int .u8 0 = hexRow n d 0 j := fun j hj => by unfold hexRow; rw [if_neg (by omega)]
theorem hexRow_succ (n : Int) (d k : Nat) (hk : k < d) : ∀ j, j < d → (if j = d - 1 - k then Value.int .u8 (hexAt n k).toNat else hexRow n d k j) = hexRow n d (k + 1) j := fun j hj => by
 unfold hexRow
 by_cases h : j = d - 1 - k
 ·rw [if_pos h, if_pos (by omega)]
  have : d - 1 - j = k := by omega
  rw [this]
 ·rw [if_neg h]
  by_cases h2 : d - k ≤ j
  ·rw [if_pos h2, if_pos (by omega)]
  ·rw [if_neg h2, if_neg (by omega)]
theorem hexRow_all (n : Int) (d : Nat) (j : Nat) (hj : j < d) : hexRow n d d j = .int .u8 ((hexl n d)[j]?.getD 0).toNat := by
 unfold hexRow hexl
 rw [if_pos (by omega)]
 simp [hj]
theorem hexl_length (n : Int) (d : Nat) : (hexl n d).length = d := by simp [hexl]
theorem div16 (n : Int) (k : Nat) : n / 16 ^ k / 16 = n / 16 ^ (k + 1) := by
 rw [Int.ediv_ediv_of_nonneg (Int.pow_nonneg (by omega)), Int.pow_succ]
theorem hexTab_at (m : Int) (h : 0 ≤ m ∧ m < 16) (h' : m.toNat < (ByteArray.mk #[48, 49, 50, 51, 52, 53, 54, 55, 56, 57, 65, 66, 67, 68, 69, 70]).size) :
  (ByteArray.mk #[48, 49, 50, 51, 52, 53, 54, 55, 56, 57, 65, 66, 67, 68, 69, 70])[m.toNat] = hexTab.getD m.toNat 0 := by
 obtain ⟨j, rfl⟩ : ∃ j : Nat, m = j := ⟨m.toNat, by omega⟩
 simp only [Int.toNat_natCast] at h' ⊢
 have hj : j < 16 := by omega
 have key : ∀ i : Fin 16, (ByteArray.mk #[48, 49, 50, 51, 52, 53, 54, 55, 56, 57, 65, 66, 67, 68, 69, 70])[i.val]'(by simp [ByteArray.size]) = hexTab.getD i.val 0 := by decide
 exact key ⟨j, hj⟩
def hexCells (n : Int) (d k : Nat) : List Value := ((hexl n d).take k).map fun b => Value.int .u8 (b.toNat : Int)
theorem hexCells_succ (n : Int) (d k : Nat) (h : k < d) : hexCells n d k ++ [Value.int .u8 ((hexAt n (d - 1 - k)).toNat : Int)] = hexCells n d (k + 1) := by
 unfold hexCells
 rw [List.take_succ_eq_append_getElem (by rw [hexl_length]; exact h)]
 simp [hexl]
theorem hexCells_all (n : Int) (d : Nat) : hexCells n d d = (hexl n d).map fun b => Value.int .u8 (b.toNat : Int) := by
 unfold hexCells; rw [List.take_of_length_le (by rw [hexl_length]; omega)]
theorem shift4 (n : Int) (d k : Nat) (h : k < d) : n / 2 ^ (4 * ((d : Int) - 1 - k)).toNat = n / 16 ^ (d - 1 - k) := by
 have e : (4 * ((d : Int) - 1 - k)).toNat = 4 * (d - 1 - k) := by omega
 rw [e, Int.pow_mul]; rfl
end Go.Proofs.YtboeaeoefoabdaaGreatDoor
namespace Go.Proofs.YtboeaeoefoabdaaGreatDoor
open Go.RowKit Go.Deep Go.WideShapes Go.ChangeShapes
theorem infoU8 : (Tryz.prog.info? 5).map (fun i => (i.zero, i.size, i.bytes)) = some (some (.int .u8 0), 1, 1) := by kernel_rfl
theorem hx_in_yes (x a b : Int) (w : World) (h1 : a ≤ x) (h2 : x ≤ b) :
  Calls Tryz.prog 82 #[.int .i64 x, .int .i64 a, .int .i64 b] w fun e w' => e = .returned (.bool true) ∧ w = w' := by
 go_enter Tryz.func82, Tryz.ntmps82
 go_wp2
 go_ret
 exact ⟨rfl, rfl⟩
theorem hx_in_no (x a b : Int) (w : World) (h : x < a ∨ b < x) :
  Calls Tryz.prog 82 #[.int .i64 x, .int .i64 a, .int .i64 b] w fun e w' => e = .returned (.bool false) ∧ w = w' := by
 by_cases h1 : a ≤ x
 ·have h2 : ¬ x ≤ b := by omega
  clear h
  go_enter Tryz.func82, Tryz.ntmps82
  go_wp2
  go_ret
  exact ⟨rfl, rfl⟩
 ·clear h
  go_enter Tryz.func82, Tryz.ntmps82
  go_wp2
  go_ret
  exact ⟨rfl, rfl⟩
set_option maxRecDepth 100000 in
set_option maxHeartbeats 400000 in
theorem spec_hex (n : Int) (d : Nat) (h1 : 1 ≤ d) (h8 : d ≤ 8) (w : World) :
  Calls Tryz.prog 45 #[.int .i64 n, .int .i64 (d : Int)] w fun e w' => e = .returned (.string ⟨(hexl n d).toArray⟩) ∧ Below w.heap.size w w' := by
 obtain ⟨i0, hi, hz0, hz1, hz2⟩ := info_parts infoU8
 have hbt := i64_and15
 go_enter Tryz.func45, Tryz.ntmps45
 go_wp2_with (go_at_call 82; refine (hx_in_yes _ _ _ _ (by omega) (by omega)).mono ?_; rintro e w' ⟨rfl, rfl⟩)
 go_loopw [5, 6] (fun v5 v6 wr => ∃ k : Nat, k ≤ d ∧ v6 = .int .i64 ((d : Int) - 1 - k) ∧ wr.ownsRow w.heap.size 5 1 v5 k (hexCells n d k) ∧ Below w.heap.size w wr) (fun _ v6 _ => (1 + intOf v6).toNat)
 case atStart =>
  exact ⟨0, by omega, by simp, World.ownsRow_lit _ #[] 0 (Nat.le_refl _) (by decide) rfl, (Below.refl _ _).alloc (Nat.le_refl _) _⟩
 case round =>
  obtain ⟨k, hk, rfl, hown, hb⟩ := hrel
  by_cases hlt : k < d
  ·have hsh := shift4 n d k hlt
   have hx : (ByteArray.mk #[48, 49, 50, 51, 52, 53, 54, 55, 56, 57, 65, 66, 67, 68, 69, 70])[((n / 16 ^ (d - 1 - k)) % 16).toNat]'(by show _ < 16; omega) = hexAt n (d - 1 - k) := hexTab_at _ (by omega) (by show _ < 16; omega)
   go_wp2_with (at_builtin; refine wpList_append_own _ rfl _ _ 22 rfl w.heap.size 5 i0 (.int .u8 0) 1 1 Tryz.underlying22 hi hz0 hz1 hz2 rfl (by decide) _ _ _ rfl (hown.alloc _) ⟨wr.heap.size, 0, none⟩ 1 1 [.int .u8 ((hexAt n (d - 1 - k)).toNat : Int)] rfl rfl ?c1 ?c2 ?c3 ?c4 ?c5 ?_)
   case c1 =>
    intro j u hj
    match j, hj with
    | 0, hj => simp at hj; subst hj; simp [Addr.add]
   case c2 => intro u hu; simp at hu; subst hu; rfl
   case c3 => unfold maxLen; omega
   case c4 => omega
   case c5 => have := hb.size; simp; omega
   intro v' w1 hown' hgrow _
   rw [hexCells_succ n d k hlt] at hown'
   have hb' : Below w.heap.size w w1 := (hb.alloc hb.size _).grown hgrow (by have := hb.size; simp; omega) (fun g hg => (hown.lt g hg).1)
   clear hgrow hb hown hx
   go_wp2
   go_roundw
   case rel => exact ⟨k + 1, by omega, by go_num, hown', hb'⟩
   case measure => simp [intOf]; omega
  ·obtain rfl : k = d := by omega
   obtain ⟨g, cap, rfl⟩ : ∃ g cap, u5 = Value.slice (some ⟨g, 0, none⟩) k cap := by
    rcases hown.2 with ⟨_, h0⟩ | ⟨g, cap, cur, h0, _⟩
    ·omega
    ·exact ⟨g, cap, h0⟩
   rw [hexCells_all] at hown
   have hcv := run_convert_bytes_back (P := Tryz.prog) wr 22 9 5 ⟨g, 0, none⟩ cap (hexl n k) Tryz.underlying22 Tryz.underlying5 Tryz.underlying9 (fun j hj => hown.cells (g := g) rfl j _ (by simp [hj]))
   rw [hexl_length] at hcv
   go_wp2
   go_ret
   exact ⟨rfl, hb⟩
end Go.Proofs.YtboeaeoefoabdaaGreatDoor
namespace Go.Proofs.YtboeaeoefoabdaaGreatDoor
open Go.RowKit Go.Deep Go.WideShapes Go.ChangeShapes
theorem impl_hex (n : Int) (d : Nat) (h1 : 1 ≤ d) (h8 : d ≤ 8) (w : World) :
  Calls Tryz.prog 112 #[.int .i64 n, .int .i64 (d : Int)] w fun e w' => e = .returned (.string ⟨(hexl n d).toArray⟩) ∧ Below w.heap.size w w' := by
 have hmk := run_make_row' (P := Tryz.prog) 22 5 (.int .u8 0) 1 Tryz.underlying22 infoU8 rfl .i64 .i64 d (by omega) (by omega)
 have hbt := i64_and15
 have hd1 : decide ((d : Int) < 1) = false := by simp; omega
 have hd2 : decide (8 < (d : Int)) = false := by simp; omega
 go_enter Tryz.func112, Tryz.ntmps112
 go_wp2
 go_loopw [0, 17] (fun v0 v17 wr => ∃ k : Nat, k ≤ d ∧ v17 = .int .i64 k ∧ v0 = .int .i64 (n / 16 ^ k) ∧ wr.rowIs w.heap.size 5 d (hexRow n d k) ∧ Below w.heap.size w wr) (fun _ v17 _ => d - (intOf v17).toNat)
 case atStart =>
  exact ⟨0, by omega, rfl, by simp, (World.rowIs_made w _ d 5).congr (hexRow_zero n d), (Below.refl _ _).alloc (Nat.le_refl _) _⟩
 case round =>
  obtain ⟨k, hk, rfl, rfl, hrow, hb⟩ := hrel
  by_cases hlt : k < d
  ·have hc : wr.cell? ⟨w.heap.size, d - 1 - k, none⟩ = some (hexRow n d k (d - 1 - k)) := hrow.cell (by omega)
   have hf : wr.frozen? ⟨w.heap.size, d - 1 - k, none⟩ = false := hrow.frozen _
   go_wp2
   rename_i h0
   have hx := hexTab_at _ h0 (by show _ < 16; omega)
   go_roundw
   case rel =>
    refine ⟨k + 1, by omega, by go_num, by rw [div16], ?_, hb.setCell (Nat.le_refl _) _⟩
    rw [hx]
    exact (hrow.set _ _).congr (hexRow_succ n d k hlt)
   case measure => simp [intOf]; omega
  ·obtain rfl : k = d := by omega
   have hcv := run_convert_bytes_back (P := Tryz.prog) wr 22 9 5 ⟨w.heap.size, 0, none⟩ k (hexl n k) Tryz.underlying22 Tryz.underlying5 Tryz.underlying9 (fun j hj => by
    rw [hexl_length] at hj
    have := hrow.cell hj
    rw [hexRow_all n k j hj, List.getElem?_eq_getElem (by rw [hexl_length]; exact hj)] at this
    rcases Nat.eq_zero_or_pos j with rfl | hpos
    ·simpa [Addr.add] using this
    ·simpa [Addr.add, Nat.ne_of_gt hpos] using this)
   rw [hexl_length] at hcv
   go_wp2
   go_ret
   exact ⟨rfl, hb⟩
end Go.Proofs.YtboeaeoefoabdaaGreatDoor
namespace Go.Proofs.YtboeaeoefoabdaaGreatDoor
def hxv (c : Int) : Int := if 48 ≤ c ∧ c ≤ 57 then c - 48 else if 65 ≤ c ∧ c ≤ 70 then c - 55 else if 97 ≤ c ∧ c ≤ 102 then c - 87 else -1
theorem hxv_bd (c : Int) : -1 ≤ hxv c ∧ hxv c ≤ 15 := by unfold hxv; (repeat' split) <;> omega
def HexOk (l : List UInt8) : Prop := ∀ c ∈ l, 0 ≤ hxv c.toNat
def hexNum (l : List UInt8) : Int := l.foldl (fun a c => 16 * a + hxv c.toNat) 0
theorem hexNum_snoc (l : List UInt8) (c : UInt8) : hexNum (l ++ [c]) = 16 * hexNum l + hxv c.toNat := by simp [hexNum]
theorem hexNum_fold (l : List UInt8) : ∀ (a : Int), 0 ≤ a → HexOk l → 0 ≤ l.foldl (fun a c => 16 * a + hxv c.toNat) a ∧ l.foldl (fun a c => 16 * a + hxv c.toNat) a + 1 ≤ (a + 1) * 16 ^ l.length := by
 induction l with
 | nil => intro a ha _; simpa using ha
 | cons c r ih =>
  intro a ha h
  have h1 := h c (by simp)
  have hb := hxv_bd c.toNat
  have h2 := ih (16 * a + hxv c.toNat) (by omega) (fun x hx => h x (by simp [hx]))
  simp only [List.foldl_cons, List.length_cons]
  refine ⟨h2.1, Int.le_trans h2.2 ?_⟩
  rw [Int.pow_succ, Int.mul_comm (16 ^ r.length) 16, ← Int.mul_assoc]
  exact Int.mul_le_mul_of_nonneg_right (by omega) (Int.pow_nonneg (by omega))
theorem hexNum_bd (l : List UInt8) (h : HexOk l) (h8 : l.length ≤ 8) : 0 ≤ hexNum l ∧ hexNum l < 4294967296 := by
 have h1 := hexNum_fold l 0 (by omega) h
 unfold hexNum
 refine ⟨h1.1, ?_⟩
 have h2 : (16 : Int) ^ l.length ≤ 4294967296 := by
  have : (16 : Nat) ^ l.length ≤ 16 ^ 8 := Nat.pow_le_pow_right (by omega) h8
  have e : ((16 ^ l.length : Nat) : Int) = (16 : Int) ^ l.length := by norm_cast
  rw [← e]; omega
 omega
open Classical in
noncomputable def rh (l : List UInt8) : Int := if HexOk l ∧ 1 ≤ l.length ∧ l.length ≤ 7 then hexNum l else -1
theorem rh_yes (l : List UInt8) (h : HexOk l) (h1 : 1 ≤ l.length) (h7 : l.length ≤ 7) : rh l = hexNum l := by unfold rh; rw [if_pos ⟨h, h1, h7⟩]
theorem rh_len (l : List UInt8) (h : l.length < 1 ∨ 7 < l.length) : rh l = -1 := by unfold rh; rw [if_neg (by omega)]
theorem rh_bad (l : List UInt8) (c : UInt8) (hc : c ∈ l) (h : hxv c.toNat < 0) : rh l = -1 := by
 unfold rh
 rw [if_neg]
 rintro ⟨h1, _⟩
 have := h1 c hc
 omega
theorem low_all : ∀ c : Fin 256, (97 ≤ c.val ∧ c.val ≤ 102 → bits .or .u8 (c.val : Int) 32 = c.val) ∧ (65 ≤ c.val ∧ c.val ≤ 70 → bits .or .u8 (c.val : Int) 32 = c.val + 32) ∧
  (¬ (97 ≤ c.val ∧ c.val ≤ 102) → ¬ (65 ≤ c.val ∧ c.val ≤ 70) → ¬ (97 ≤ bits .or .u8 (c.val : Int) 32 ∧ bits .or .u8 (c.val : Int) 32 ≤ 102)) := by decide +kernel
theorem low_small (c : Int) (h : 97 ≤ c ∧ c ≤ 102) : bits .or .u8 c 32 = c := by
 obtain ⟨n, rfl⟩ : ∃ n : Nat, c = n := ⟨c.toNat, by omega⟩
 exact (low_all ⟨n, by omega⟩).1 (by simp; omega)
theorem low_great (c : Int) (h : 65 ≤ c ∧ c ≤ 70) : bits .or .u8 c 32 = c + 32 := by
 obtain ⟨n, rfl⟩ : ∃ n : Nat, c = n := ⟨c.toNat, by omega⟩
 exact (low_all ⟨n, by omega⟩).2.1 (by simp; omega)
theorem low_none (c : Int) (h0 : 0 ≤ c ∧ c < 256) (h1 : ¬ (97 ≤ c ∧ c ≤ 102)) (h2 : ¬ (65 ≤ c ∧ c ≤ 70)) : ¬ (97 ≤ bits .or .u8 c 32 ∧ bits .or .u8 c 32 ≤ 102) := by
 obtain ⟨n, rfl⟩ : ∃ n : Nat, c = n := ⟨c.toNat, by omega⟩
 exact (low_all ⟨n, by omega⟩).2.2 (by simp; omega) (by simp; omega)
theorem low_bd (c : Int) : 0 ≤ bits .or .u8 c 32 ∧ bits .or .u8 c 32 < 256 := ⟨by have := bits_lo_u8 .or c 32; omega, by have := bits_hi_u8 .or c 32; omega⟩
end Go.Proofs.YtboeaeoefoabdaaGreatDoor
namespace Go.Proofs.YtboeaeoefoabdaaGreatDoor
theorem hexl_succ (n : Int) (d : Nat) : hexl n (d + 1) = hexl (n / 16) d ++ [hexAt n 0] := by
 unfold hexl
 rw [List.range_succ, List.map_append]
 congr 1
 ·apply List.map_congr_left
  intro j hj
  have hj' : j < d := by simpa using hj
  have e : d + 1 - 1 - j = (d - 1 - j) + 1 := by omega
  rw [e]
  unfold hexAt
  rw [← div16, Int.ediv_ediv_of_nonneg (Int.pow_nonneg (by omega)), Int.mul_comm, ← Int.ediv_ediv_of_nonneg (by omega)]
 ·simp
theorem tab_val : ∀ m : Fin 16, hxv ((hexTab.getD m.val 0).toNat : Int) = m.val := by decide
theorem hxv_hexAt (n : Int) (k : Nat) : hxv (hexAt n k).toNat = (n / 16 ^ k) % 16 := by
 unfold hexAt
 have h0 := Int.emod_nonneg (n / 16 ^ k) (by omega : (16 : Int) ≠ 0)
 have h1 := Int.emod_lt_of_pos (n / 16 ^ k) (by omega : (0 : Int) < 16)
 obtain ⟨m, hm⟩ : ∃ m : Nat, n / 16 ^ k % 16 = m := ⟨(n / 16 ^ k % 16).toNat, by omega⟩
 rw [hm]
 have := tab_val ⟨m, by omega⟩
 simpa using this
theorem hexl_ok (n : Int) (d : Nat) : HexOk (hexl n d) := by
 intro c hc
 unfold hexl at hc
 obtain ⟨j, _, rfl⟩ := List.mem_map.1 hc
 rw [hxv_hexAt]
 exact Int.emod_nonneg _ (by omega)
theorem emod_step (n m : Int) (hm : 0 < m) : 16 * (n / 16 % m) + n % 16 = n % (16 * m) := by
 have h1 := Int.mul_ediv_add_emod n 16
 have h2 := Int.mul_ediv_add_emod (n / 16) m
 have h3 := Int.emod_nonneg n (by omega : (16 : Int) ≠ 0)
 have h4 := Int.emod_lt_of_pos n (by omega : (0 : Int) < 16)
 have h5 := Int.emod_nonneg (n / 16) (by omega : m ≠ 0)
 have h6 := Int.emod_lt_of_pos (n / 16) hm
 obtain ⟨q, hq⟩ : ∃ q, q = n / 16 % m := ⟨_, rfl⟩
 obtain ⟨r, hr⟩ : ∃ r, r = n % 16 := ⟨_, rfl⟩
 obtain ⟨p, hp⟩ : ∃ p, p = n / 16 / m := ⟨_, rfl⟩
 rw [← hq] at h2 h5 h6
 rw [← hr] at h1 h3 h4
 rw [← hp] at h2
 rw [← hq, ← hr]
 have e : n = (16 * q + r) + (16 * m) * p := by
  have e2 : (16 * m) * p = 16 * (m * p) := by rw [Int.mul_assoc]
  rw [e2]; omega
 rw [e, Int.add_mul_emod_self_left, Int.emod_eq_of_lt (by omega) (by omega)]
theorem hexNum_hexl (d : Nat) : ∀ n : Int, hexNum (hexl n d) = n % 16 ^ d := by
 induction d with
 | zero => intro n; simp [hexl, hexNum]
 | succ d ih =>
  intro n
  rw [hexl_succ, hexNum_snoc, ih, hxv_hexAt, Int.pow_succ, Int.mul_comm _ 16]
  have := emod_step n (16 ^ d) (Int.pow_pos (by omega))
  simpa using this
theorem rh_hexl (n : Int) (d : Nat) (h1 : 1 ≤ d) (h7 : d ≤ 7) : rh (hexl n d) = n % 16 ^ d := by
 rw [rh_yes _ (hexl_ok n d) (by rw [hexl_length]; exact h1) (by rw [hexl_length]; exact h7), hexNum_hexl]
end Go.Proofs.YtboeaeoefoabdaaGreatDoor
namespace Go.Proofs.YtboeaeoefoabdaaGreatDoor
def opRows : List (Nat × List UInt8 × List UInt8) := [
 (0, [66, 82, 75], [105, 109, 112]),
 (1, [79, 82, 65], [105, 110, 120]),
 (5, [79, 82, 65], [122, 112, 103]),
 (6, [65, 83, 76], [122, 112, 103]),
 (8, [80, 72, 80], [105, 109, 112]),
 (9, [79, 82, 65], [105, 109, 109]),
 (10, [65, 83, 76], [97, 99, 99]),
 (13, [79, 82, 65], [97, 98, 115]),
 (14, [65, 83, 76], [97, 98, 115]),
 (16, [66, 80, 76], [114, 101, 108]),
 (17, [79, 82, 65], [105, 110, 121]),
 (21, [79, 82, 65], [122, 112, 120]),
 (22, [65, 83, 76], [122, 112, 120]),
 (24, [67, 76, 67], [105, 109, 112]),
 (25, [79, 82, 65], [97, 98, 121]),
 (29, [79, 82, 65], [97, 98, 120]),
 (30, [65, 83, 76], [97, 98, 120]),
 (32, [74, 83, 82], [97, 98, 115]),
 (33, [65, 78, 68], [105, 110, 120]),
 (36, [66, 73, 84], [122, 112, 103]),
 (37, [65, 78, 68], [122, 112, 103]),
 (38, [82, 79, 76], [122, 112, 103]),
 (40, [80, 76, 80], [105, 109, 112]),
 (41, [65, 78, 68], [105, 109, 109]),
 (42, [82, 79, 76], [97, 99, 99]),
 (44, [66, 73, 84], [97, 98, 115]),
 (45, [65, 78, 68], [97, 98, 115]),
 (46, [82, 79, 76], [97, 98, 115]),
 (48, [66, 77, 73], [114, 101, 108]),
 (49, [65, 78, 68], [105, 110, 121]),
 (53, [65, 78, 68], [122, 112, 120]),
 (54, [82, 79, 76], [122, 112, 120]),
 (56, [83, 69, 67], [105, 109, 112]),
 (57, [65, 78, 68], [97, 98, 121]),
 (61, [65, 78, 68], [97, 98, 120]),
 (62, [82, 79, 76], [97, 98, 120]),
 (64, [82, 84, 73], [105, 109, 112]),
 (65, [69, 79, 82], [105, 110, 120]),
 (69, [69, 79, 82], [122, 112, 103]),
 (70, [76, 83, 82], [122, 112, 103]),
 (72, [80, 72, 65], [105, 109, 112]),
 (73, [69, 79, 82], [105, 109, 109]),
 (74, [76, 83, 82], [97, 99, 99]),
 (76, [74, 77, 80], [97, 98, 115]),
 (77, [69, 79, 82], [97, 98, 115]),
 (78, [76, 83, 82], [97, 98, 115]),
 (80, [66, 86, 67], [114, 101, 108]),
 (81, [69, 79, 82], [105, 110, 121]),
 (85, [69, 79, 82], [122, 112, 120]),
 (86, [76, 83, 82], [122, 112, 120]),
 (88, [67, 76, 73], [105, 109, 112]),
 (89, [69, 79, 82], [97, 98, 121]),
 (93, [69, 79, 82], [97, 98, 120]),
 (94, [76, 83, 82], [97, 98, 120]),
 (96, [82, 84, 83], [105, 109, 112]),
 (97, [65, 68, 67], [105, 110, 120]),
 (101, [65, 68, 67], [122, 112, 103]),
 (102, [82, 79, 82], [122, 112, 103]),
 (104, [80, 76, 65], [105, 109, 112]),
 (105, [65, 68, 67], [105, 109, 109]),
 (106, [82, 79, 82], [97, 99, 99]),
 (108, [74, 77, 80], [105, 110, 100]),
 (109, [65, 68, 67], [97, 98, 115]),
 (110, [82, 79, 82], [97, 98, 115]),
 (112, [66, 86, 83], [114, 101, 108]),
 (113, [65, 68, 67], [105, 110, 121]),
 (117, [65, 68, 67], [122, 112, 120]),
 (118, [82, 79, 82], [122, 112, 120]),
 (120, [83, 69, 73], [105, 109, 112]),
 (121, [65, 68, 67], [97, 98, 121]),
 (125, [65, 68, 67], [97, 98, 120]),
 (126, [82, 79, 82], [97, 98, 120]),
 (129, [83, 84, 65], [105, 110, 120]),
 (132, [83, 84, 89], [122, 112, 103]),
 (133, [83, 84, 65], [122, 112, 103]),
 (134, [83, 84, 88], [122, 112, 103]),
 (136, [68, 69, 89], [105, 109, 112]),
 (138, [84, 88, 65], [105, 109, 112]),
 (140, [83, 84, 89], [97, 98, 115]),
 (141, [83, 84, 65], [97, 98, 115]),
 (142, [83, 84, 88], [97, 98, 115]),
 (144, [66, 67, 67], [114, 101, 108]),
 (145, [83, 84, 65], [105, 110, 121]),
 (148, [83, 84, 89], [122, 112, 120]),
 (149, [83, 84, 65], [122, 112, 120]),
 (150, [83, 84, 88], [122, 112, 121]),
 (152, [84, 89, 65], [105, 109, 112]),
 (153, [83, 84, 65], [97, 98, 121]),
 (154, [84, 88, 83], [105, 109, 112]),
 (157, [83, 84, 65], [97, 98, 120]),
 (160, [76, 68, 89], [105, 109, 109]),
 (161, [76, 68, 65], [105, 110, 120]),
 (162, [76, 68, 88], [105, 109, 109]),
 (164, [76, 68, 89], [122, 112, 103]),
 (165, [76, 68, 65], [122, 112, 103]),
 (166, [76, 68, 88], [122, 112, 103]),
 (168, [84, 65, 89], [105, 109, 112]),
 (169, [76, 68, 65], [105, 109, 109]),
 (170, [84, 65, 88], [105, 109, 112]),
 (172, [76, 68, 89], [97, 98, 115]),
 (173, [76, 68, 65], [97, 98, 115]),
 (174, [76, 68, 88], [97, 98, 115]),
 (176, [66, 67, 83], [114, 101, 108]),
 (177, [76, 68, 65], [105, 110, 121]),
 (180, [76, 68, 89], [122, 112, 120]),
 (181, [76, 68, 65], [122, 112, 120]),
 (182, [76, 68, 88], [122, 112, 121]),
 (184, [67, 76, 86], [105, 109, 112]),
 (185, [76, 68, 65], [97, 98, 121]),
 (186, [84, 83, 88], [105, 109, 112]),
 (188, [76, 68, 89], [97, 98, 120]),
 (189, [76, 68, 65], [97, 98, 120]),
 (190, [76, 68, 88], [97, 98, 121]),
 (192, [67, 80, 89], [105, 109, 109]),
 (193, [67, 77, 80], [105, 110, 120]),
 (196, [67, 80, 89], [122, 112, 103]),
 (197, [67, 77, 80], [122, 112, 103]),
 (198, [68, 69, 67], [122, 112, 103]),
 (200, [73, 78, 89], [105, 109, 112]),
 (201, [67, 77, 80], [105, 109, 109]),
 (202, [68, 69, 88], [105, 109, 112]),
 (204, [67, 80, 89], [97, 98, 115]),
 (205, [67, 77, 80], [97, 98, 115]),
 (206, [68, 69, 67], [97, 98, 115]),
 (208, [66, 78, 69], [114, 101, 108]),
 (209, [67, 77, 80], [105, 110, 121]),
 (213, [67, 77, 80], [122, 112, 120]),
 (214, [68, 69, 67], [122, 112, 120]),
 (216, [67, 76, 68], [105, 109, 112]),
 (217, [67, 77, 80], [97, 98, 121]),
 (221, [67, 77, 80], [97, 98, 120]),
 (222, [68, 69, 67], [97, 98, 120]),
 (224, [67, 80, 88], [105, 109, 109]),
 (225, [83, 66, 67], [105, 110, 120]),
 (228, [67, 80, 88], [122, 112, 103]),
 (229, [83, 66, 67], [122, 112, 103]),
 (230, [73, 78, 67], [122, 112, 103]),
 (232, [73, 78, 88], [105, 109, 112]),
 (233, [83, 66, 67], [105, 109, 109]),
 (234, [78, 79, 80], [105, 109, 112]),
 (236, [67, 80, 88], [97, 98, 115]),
 (237, [83, 66, 67], [97, 98, 115]),
 (238, [73, 78, 67], [97, 98, 115]),
 (240, [66, 69, 81], [114, 101, 108]),
 (241, [83, 66, 67], [105, 110, 121]),
 (245, [83, 66, 67], [122, 112, 120]),
 (246, [73, 78, 67], [122, 112, 120]),
 (248, [83, 69, 68], [105, 109, 112]),
 (249, [83, 66, 67], [97, 98, 121]),
 (253, [83, 66, 67], [97, 98, 120]),
 (254, [73, 78, 67], [97, 98, 120])]
def rowTxt (r : Nat × List UInt8 × List UInt8) : List UInt8 := hexl (r.1 : Int) 2 ++ 32 :: (r.2.1 ++ 32 :: (r.2.2 ++ [32]))
def tabL : List UInt8 := opRows.flatMap rowTxt
def tabS : ByteArray := ⟨tabL.toArray⟩
set_option maxRecDepth 100000 in
theorem rows_length : opRows.length = 151 := rfl
theorem rows_ok : ∀ r ∈ opRows, r.1 < 256 ∧ r.2.1.length = 3 ∧ r.2.2.length = 3 := by
 have h : opRows.all (fun r => decide (r.1 < 256 ∧ r.2.1.length = 3 ∧ r.2.2.length = 3)) = true := by decide
 intro r hr
 simpa using List.all_eq_true.1 h r hr
theorem rowTxt_length (r) (hr : r ∈ opRows) : (rowTxt r).length = 11 := by
 obtain ⟨_, h1, h2⟩ := rows_ok r hr
 simp [rowTxt, hexl_length, h1, h2]
theorem flat_drop {α β} (f : α → List β) (n : Nat) : ∀ (l : List α) (k : Nat), (∀ r ∈ l, (f r).length = n) → (l.flatMap f).drop (n * k) = (l.drop k).flatMap f
 | [], k, _ => by simp
 | r :: l, 0, _ => by simp
 | r :: l, k + 1, h => by
  have h1 := h r (by simp)
  have ih := flat_drop f n l k fun x hx => h x (by simp [hx])
  rw [List.flatMap_cons, List.drop_append, h1, List.drop_succ_cons, show n * (k + 1) - n = n * k by rw [Nat.mul_succ]; omega, ih, List.drop_eq_nil_of_le (by rw [h1, Nat.mul_succ]; omega)]
  rfl
theorem flat_length {α β} (f : α → List β) (n : Nat) : ∀ (l : List α), (∀ r ∈ l, (f r).length = n) → (l.flatMap f).length = n * l.length
 | [], _ => by simp
 | r :: l, h => by
  have ih := flat_length f n l fun x hx => h x (by simp [hx])
  rw [List.flatMap_cons, List.length_append, h r (by simp), ih, List.length_cons, Nat.mul_succ]; omega
theorem tabL_length : tabL.length = 1661 := by
 unfold tabL
 rw [flat_length rowTxt 11 opRows rowTxt_length, rows_length]
theorem tabS_size : tabS.size = 1661 := by
 show tabL.toArray.size = 1661
 simp [tabL_length]
theorem tabL_at (k : Nat) (h : k < opRows.length) : ∃ rest, tabL.drop (11 * k) = rowTxt opRows[k] ++ rest := by
 unfold tabL
 rw [flat_drop rowTxt 11 opRows k rowTxt_length, List.drop_eq_getElem_cons h, List.flatMap_cons]
 exact ⟨_, rfl⟩
theorem ext_of (i n : Nat) (l : List UInt8) (h : (tabL.drop i).take n = l) : tabS.extract i (i + n) = ⟨l.toArray⟩ := by
 have e : (tabS.extract i (i + n)).data.toList = l := by
  rw [Lib.extract_data]
  show (tabL.toArray.toList.drop i).take (i + n - i) = l
  rw [List.toList_toArray, Nat.add_sub_cancel_left, h]
 apply ByteArray.ext
 rw [← Array.toList_inj, e]
theorem cut3 (b c : List UInt8) (h1 : b.length = 3) (h2 : c.length = 3) (d : List UInt8) (hd : d.length = 2) (rest : List UInt8) :
  let t := (d ++ 32 :: (b ++ 32 :: (c ++ [32]))) ++ rest
  t.take 2 = d ∧ (t.drop 3).take 3 = b ∧ (t.drop 7).take 3 = c := by
 match d, hd with
 | [d0, d1], _ =>
  match b, h1 with
  | [b0, b1, b2], _ =>
   match c, h2 with
   | [c0, c1, c2], _ => exact ⟨rfl, rfl, rfl⟩
theorem tab_row (k : Nat) (h : k < opRows.length) :
  tabS.extract (11 * k) (11 * k + 2) = ⟨(hexl (opRows[k].1 : Int) 2).toArray⟩ ∧ tabS.extract (11 * k + 3) (11 * k + 6) = ⟨opRows[k].2.1.toArray⟩ ∧ tabS.extract (11 * k + 7) (11 * k + 10) = ⟨opRows[k].2.2.toArray⟩ := by
 obtain ⟨rest, hr⟩ := tabL_at k h
 obtain ⟨_, h1, h2⟩ := rows_ok opRows[k] (List.getElem_mem h)
 obtain ⟨c1, c2, c3⟩ := cut3 _ _ h1 h2 (hexl (opRows[k].1 : Int) 2) (hexl_length _ _) rest
 have hr' : tabL.drop (11 * k) = (hexl (opRows[k].1 : Int) 2 ++ 32 :: (opRows[k].2.1 ++ 32 :: (opRows[k].2.2 ++ [32]))) ++ rest := hr
 refine ⟨ext_of _ 2 _ ?_, ext_of (11 * k + 3) 3 _ ?_, ext_of (11 * k + 7) 3 _ ?_⟩
 ·rw [hr', c1]
 ·rw [← List.drop_drop, hr', c2]
 ·rw [← List.drop_drop, hr', c3]
def nmR (r : Nat × List UInt8 × List UInt8) : ByteArray := ⟨r.2.1.toArray⟩
def mdR (r : Nat × List UInt8 × List UInt8) : ByteArray := ⟨r.2.2.toArray⟩
def jamN : ByteArray := ⟨#[74, 65, 77]⟩
def impM : ByteArray := ⟨#[105, 109, 112]⟩
def opOf (n : Int) : ByteArray × ByteArray := match opRows.find? fun r => (r.1 : Int) == n % 256 with
 | some r => (nmR r, mdR r)
 | none => (jamN, impM)
def codeOf (a b : ByteArray) : Int := match opRows.find? fun r => decide (nmR r = a ∧ mdR r = b) with
 | some r => r.1
 | none => -1
theorem hexl2_eq (n : Int) (c : Nat) (hc : c < 256) : ((⟨(hexl (c : Int) 2).toArray⟩ : ByteArray) = ⟨(hexl n 2).toArray⟩) ↔ (c : Int) = n % 256 := by
 have h1 := hexNum_hexl 2 n
 have h2 := hexNum_hexl 2 (c : Int)
 constructor
 ·intro h
  have h3 : hexl (c : Int) 2 = hexl n 2 := by
   have := congrArg (fun b : ByteArray => b.data.toList) h
   simpa using this
  rw [h3, h1] at h2
  have e : (16 : Int) ^ 2 = 256 := by decide
  rw [e] at h2
  omega
 ·intro h
  have hm : ∀ a b : Int, a % 256 = b % 256 → hexl a 2 = hexl b 2 := by
   intro a b hab
   have e0 : hexAt a 0 = hexAt b 0 := by unfold hexAt; congr 2; simp; omega
   have e1 : hexAt a 1 = hexAt b 1 := by unfold hexAt; congr 2; simp; omega
   show [hexAt a 1, hexAt a 0] = [hexAt b 1, hexAt b 0]
   rw [e0, e1]
  rw [hm c n (by omega)]
theorem opOf_hit (n : Int) (k : Nat) (h : k < opRows.length) (hk : (opRows[k].1 : Int) = n % 256) (hp : ∀ j (hj : j < k), (opRows[j].1 : Int) ≠ n % 256) : opOf n = (nmR opRows[k], mdR opRows[k]) := by
 have e : (opRows.find? fun r => (r.1 : Int) == n % 256) = some opRows[k] := by
  rw [List.find?_eq_some_iff_getElem]
  exact ⟨by simpa using hk, k, h, rfl, fun j hj => by simpa using hp j hj⟩
 unfold opOf
 rw [e]
theorem opOf_miss (n : Int) (hp : ∀ j (hj : j < opRows.length), (opRows[j].1 : Int) ≠ n % 256) : opOf n = (jamN, impM) := by
 have e : (opRows.find? fun r => (r.1 : Int) == n % 256) = none := by
  rw [List.find?_eq_none]
  intro r hr
  obtain ⟨j, hj, rfl⟩ := List.mem_iff_getElem.1 hr
  simpa using hp j hj
 unfold opOf
 rw [e]
theorem opOf_mod (n : Int) : opOf n = opOf (n % 256) := by
 unfold opOf
 rw [show n % 256 % 256 = n % 256 by omega]
theorem op_all : ∀ m : Fin 256, ((opOf (m.val : Int)).1 = jamN ∧ (opOf (m.val : Int)).2 = impM ∧ codeOf (opOf (m.val : Int)).1 (opOf (m.val : Int)).2 = -1) ∨ ((opOf (m.val : Int)).1 ≠ jamN ∧ codeOf (opOf (m.val : Int)).1 (opOf (m.val : Int)).2 = (m.val : Int)) := by decide +kernel
theorem op_back (n : Int) : ((opOf n).1 = jamN ∧ (opOf n).2 = impM ∧ codeOf (opOf n).1 (opOf n).2 = -1) ∨ ((opOf n).1 ≠ jamN ∧ codeOf (opOf n).1 (opOf n).2 = n % 256) := by
 have h := op_all ⟨(n % 256).toNat, by omega⟩
 have e : (((n % 256).toNat : Nat) : Int) = n % 256 := by omega
 simp only [e] at h
 rw [opOf_mod n]
 exact h
end Go.Proofs.YtboeaeoefoabdaaGreatDoor
namespace Go.Proofs.YtboeaeoefoabdaaGreatDoor
theorem eq_no {a b : ByteArray} (h : ¬ a = b) : (a.toList == b.toList) = false := by
 rw [beq_eq_false_iff_ne]
 intro e
 rw [ByteArray.toList_eq, ByteArray.toList_eq] at e
 exact h (ByteArray.ext (Array.toList_inj.mp e))
theorem ne_list {x : ByteArray} (l : List UInt8) (h : ¬ x = ⟨l.toArray⟩) : (x.toList == l) = false := by
 have := eq_no h
 rw [ByteArray.toList_eq (⟨l.toArray⟩ : ByteArray)] at this
 exact this
end Go.Proofs.YtboeaeoefoabdaaGreatDoor
