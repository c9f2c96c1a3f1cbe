/-
  Texts put together by program: CuB, RpB, RpC, AsI.
  Conditions: as each theorem says.
-/
import Derived.Lib.IndexMore
import Derived.Test.YtboeaeoefoabdaaGreatDoorAmaq
namespace Go.Proofs.YtboeaeoefoabdaaGreatDoor
open Go.RowKit
theorem cut_index (l : List UInt8) : (0 ≤ Lib.index l [32] ∧ l.take (Lib.index l [32]).toNat = nameL l ∧ l.drop ((Lib.index l [32]).toNat + 1) = restB l) ∨ (Lib.index l [32] = -1 ∧ nameL l = l ∧ restB l = []) := by
 unfold nameL restB
 induction l with
 | nil => exact .inr ⟨rfl, rfl, rfl⟩
 | cons c l ih =>
  unfold Lib.index
  by_cases hc : c = 32
  ·subst hc
   refine .inl ?_
   simp
  ·have h1 : ([32] : List UInt8).isPrefixOf (c :: l) = false := by simp [List.isPrefixOf, Ne.symm hc]
   have h2 : (c != 32) = true := by simp [hc]
   rw [if_neg (by simp [h1]), List.takeWhile_cons, if_pos h2, List.dropWhile_cons, if_pos h2]
   rcases ih with ⟨i0, i1, i2⟩ | ⟨i0, i1, i2⟩
   ·refine .inl ?_
    rw [if_neg (by simp; omega)]
    have e : (Lib.index l [32] + 1).toNat = (Lib.index l [32]).toNat + 1 := by omega
    refine ⟨by omega, ?_, ?_⟩
    ·rw [e, List.take_succ_cons, i1]
    ·rw [e, List.drop_succ_cons, i2]
   ·refine .inr ?_
    rw [if_pos (by simp [i0])]
    exact ⟨rfl, by rw [i1], i2⟩
theorem cut_blank (l : List UInt8) : (Lib.cut l [32]).1 = nameL l ∧ (Lib.cut l [32]).2.1 = restB l := by
 unfold Lib.cut
 rcases cut_index l with ⟨h0, h1, h2⟩ | ⟨h0, h1, h2⟩
 ·rw [if_pos h0]; exact ⟨h1, h2⟩
 ·rw [if_neg (by omega)]; exact ⟨h1.symm, h2.symm⟩
theorem cut_call (s : ByteArray) (hs : s.size < 4294967281) (m : Int) (w : World) (hm : w.cell? ⟨1, 0, none⟩ = some (.int .i64 m)) : ∃ b, Calls Tryz.prog 54 #[.string s, .string ⟨#[32]⟩] w fun e w' => e = .returned (.tuple #[.string ⟨(nameL s.data.toList).toArray⟩, .string ⟨(restB s.data.toList).toArray⟩, .bool b]) ∧ Below w.heap.size w w' := by
 have h := Tryz.strings_Cut s ⟨#[32]⟩ m w hs hm
 obtain ⟨e1, e2⟩ := cut_blank s.data.toList
 rw [show (⟨#[32]⟩ : ByteArray).data.toList = [32] from rfl, e1, e2] at h
 exact ⟨(Lib.cut s.data.toList [32]).2.2, h.mono fun e w' ⟨he, n, hw⟩ => ⟨he, by rw [hw]; exact below_drewN (Below.refl _ _) n⟩⟩
end Go.Proofs.YtboeaeoefoabdaaGreatDoor
namespace Go.Proofs.YtboeaeoefoabdaaGreatDoor
open Go.RowKit
def Got (bs : List UInt8) (k : Nat) (a : Int) : Prop := HexOk (bs.take k) ∧ a = hexNum (bs.take k)
theorem Got.step {bs : List UInt8} {k : Nat} {a : Int} (h : Got bs k a) (hk : k < bs.length) (hv : 0 ≤ hxv bs[k].toNat) : Got bs (k + 1) (a * 16 + hxv bs[k].toNat) := by
 obtain ⟨h1, rfl⟩ := h
 have e : bs.take (k + 1) = bs.take k ++ [bs[k]] := List.take_succ_eq_append_getElem hk
 refine ⟨?_, by rw [e, hexNum_snoc]; omega⟩
 rw [e]
 intro c hc
 simp only [List.mem_append, List.mem_singleton] at hc
 rcases hc with hc | rfl
 ·exact h1 c hc
 ·exact hv
theorem Got.bd {bs : List UInt8} {k : Nat} {a : Int} (h : Got bs k a) (h7 : bs.length ≤ 7) : 0 ≤ a ∧ a < 4294967296 := by
 obtain ⟨h1, rfl⟩ := h
 exact hexNum_bd _ h1 (by simp; omega)
def Ends16 (l : List UInt8) (W1 : World) (e : Ending) (w' : World) : Prop :=
 ((HexOk l ∧ e = .returned (.tuple #[.int .u64 (hexNum l), .nilIface])) ∨ ((∃ c ∈ l, hxv c.toNat < 0) ∧ e = .returned (.tuple #[.int .u64 0, .iface 167 (.int .i64 2)]))) ∧ w' = W1
theorem ends_ok {l : List UInt8} {W1 : World} (h : HexOk l) : Ends16 l W1 (.returned (.tuple #[.int .u64 (hexNum l), .nilIface])) W1 := ⟨.inl ⟨h, rfl⟩, rfl⟩
theorem ends_bad {l : List UInt8} {W1 : World} {c : UInt8} (hc : c ∈ l) (h : hxv c.toNat < 0) : Ends16 l W1 (.returned (.tuple #[.int .u64 0, .iface 167 (.int .i64 2)])) W1 := ⟨.inr ⟨⟨c, hc, h⟩, rfl⟩, rfl⟩
set_option maxHeartbeats 4000000 in
set_option maxRecDepth 100000 in
theorem parse16 (t : ByteArray) (hne : t.size ≠ 0) (h7 : t.size ≤ 7) (w : World) :
  Calls Tryz.prog 117 #[.string t, .int .i64 16, .int .i64 64] w (Ends16 t.data.toList (Lib.bytesWorld w 5 t)) := by
 have hemp : t.toList.isEmpty = false := by
  rw [← decide_eq_emptyBytes]
  exact decide_eq_false (fun h => hne (by rw [h]; rfl))
 have hcv := Lib.run_convert_string_bytes (P := Tryz.prog) w 9 22 5 t (u := .string) Tryz.underlying9 Tryz.underlying22 Tryz.underlying5
 have hB : ∀ j, j < t.size → (Lib.bytesWorld w 5 t).cell? ⟨w.heap.size, j, none⟩ = some (.int .u8 (t.data.toList.getD j 0).toNat) := fun j hj => Lib.bytesWorld_cell w 5 t j hj
 obtain ⟨W1, hW1⟩ : ∃ W1, W1 = Lib.bytesWorld w 5 t := ⟨_, rfl⟩
 rw [← hW1] at hcv hB ⊢
 clear hW1
 obtain ⟨bs, hL⟩ : ∃ bs, bs = t.data.toList := ⟨_, rfl⟩
 have hLn : bs.length = t.size := by rw [hL, Lib.size_eq]
 rw [← hL] at hB ⊢
 clear hL
 have hmv : IntKind.u64.wrap (IntKind.u64.wrap 18446744073709551616 - 1) = 18446744073709551615 := by
  rw [IntKind.wrap_u64, IntKind.wrap_u64]
  decide
 go_enter Tryz.func117, Tryz.ntmps117
 go_wp2
 go_loop [12, 13, 101] (fun vu vn vi => ∃ (k : Nat) (a : Int), vu = .bool false ∧ vn = .int .u64 a ∧ vi = .int .i64 k ∧ k ≤ t.size ∧ Hid (Got bs k a)) (fun _ _ vi => t.size - (intOf vi).toNat)
 case atStart => exact ⟨0, 0, rfl, rfl, rfl, by omega, ⟨(fun c hc => by simp at hc), rfl⟩⟩
 case round =>
  obtain ⟨k, a, rfl, rfl, rfl, hk, hh⟩ := hrel
  obtain ⟨a0, a1⟩ := hh.out.bd (by omega)
  by_cases hkn : k < t.size
  ·have hc := hB k hkn
   have hkl : k < bs.length := by omega
   have hget : bs.getD k 0 = bs[k] := by simp [List.getD, List.getElem?_eq_getElem hkl]
   rw [hget] at hc
   have hst := fun h => hh.out.step hkl h
   have hmem : bs[k] ∈ bs := List.getElem_mem hkl
   generalize bs[k] = c at hc hst hmem
   have hc0 : 0 ≤ (c.toNat : Int) := by omega
   have hc1 : (c.toNat : Int) < 256 := by have := c.toNat_lt; omega
   have hdef : hxv (c.toNat : Int) = hxv c.toNat := rfl
   clear hB hget hh hdef
   by_cases hd1 : 48 ≤ (c.toNat : Int) ∧ (c.toNat : Int) ≤ 57
   ·have hx : hxv c.toNat = (c.toNat : Int) - 48 := by unfold hxv; rw [if_pos hd1]
    have HG := Lib.hid (hst (by omega))
    rw [hx] at HG
    obtain ⟨hd1, hd2⟩ := hd1
    clear hst hx hmem
    go_wp2
    refine ⟨⟨k + 1, a * 16 + ((c.toNat : Int) - 48), rfl, (by first | rfl | (congr 1; omega)), (by first | rfl | (congr 1; omega)), by omega, HG⟩, by simp [intOf]; omega⟩
   ·by_cases hd2 : 97 ≤ (c.toNat : Int) ∧ (c.toNat : Int) ≤ 102
    ·have hx : hxv c.toNat = (c.toNat : Int) - 87 := by unfold hxv; rw [if_neg hd1, if_neg (by omega), if_pos hd2]
     have HG := Lib.hid (hst (by omega))
     rw [hx] at HG
     have hlow := low_small _ hd2
     obtain ⟨hd2, hd3⟩ := hd2
     clear hst hx hmem
     go_wp2_with (go_at_call 139; refine (Tryz.internal_strconv_lower _ _).mono ?_; rintro e w' ⟨rfl, rfl⟩)
     refine ⟨⟨k + 1, a * 16 + ((c.toNat : Int) - 87), rfl, (by first | rfl | (congr 1; omega)), (by first | rfl | (congr 1; omega)), by omega, HG⟩, by simp [intOf]; omega⟩
    ·by_cases hd3 : 65 ≤ (c.toNat : Int) ∧ (c.toNat : Int) ≤ 70
     ·have hx : hxv c.toNat = (c.toNat : Int) - 55 := by unfold hxv; rw [if_neg hd1, if_pos hd3]
      have HG := Lib.hid (hst (by omega))
      rw [hx] at HG
      have hlow := low_great _ hd3
      obtain ⟨hd3, hd4⟩ := hd3
      clear hst hx hmem
      go_wp2_with (go_at_call 139; refine (Tryz.internal_strconv_lower _ _).mono ?_; rintro e w' ⟨rfl, rfl⟩)
      refine ⟨⟨k + 1, a * 16 + ((c.toNat : Int) - 55), rfl, (by first | rfl | (congr 1; omega)), (by first | rfl | (congr 1; omega)), by omega, HG⟩, by simp [intOf]; omega⟩
     ·have hx : hxv c.toNat < 0 := by unfold hxv; rw [if_neg hd1, if_neg hd3, if_neg hd2]; omega
      have hE := ends_bad (W1 := W1) hmem hx
      have hl := low_none _ ⟨hc0, hc1⟩ hd2 hd3
      have hl2 := low_bd c.toNat
      have hu : bits .or .u8 95 32 = 127 := by decide
      clear hst hx hmem
      go_wp2_with (go_at_call 139; refine (Tryz.internal_strconv_lower _ _).mono ?_; rintro e w' ⟨rfl, rfl⟩)
      all_goals go_ret2
      all_goals exact hE
  ·obtain rfl : k = t.size := by omega
   have hG := hh.out
   unfold Got at hG
   rw [← hLn, List.take_of_length_le (Nat.le_refl _)] at hG
   obtain ⟨g1, g2⟩ := hG
   subst g2
   clear hh
   go_wp2
   go_ret2
   exact ends_ok g1
end Go.Proofs.YtboeaeoefoabdaaGreatDoor
namespace Go.Proofs.YtboeaeoefoabdaaGreatDoor
open Go.RowKit Go.Lib
theorem gES : Tryz.prog.globalNamed "strconv.ErrSyntax" = some 2 := by kernel_rfl
set_option maxRecDepth 100000 in
theorem parse16_empty (w : World) : Calls Tryz.prog 117 #[.string ⟨#[]⟩, .int .i64 16, .int .i64 64] w fun e w' => e = .returned (.tuple #[.int .u64 0, .iface 167 (.int .i64 2)]) ∧ w = w' := by
 go_enter Tryz.func117, Tryz.ntmps117
 go_wp2
 go_ret2
 exact ⟨rfl, rfl⟩
theorem err_cell {w : World} {x : Value} (h : w.var? Tryz.prog "strconv.ErrSyntax" = some #[.iface 188 x]) : w.cell? ⟨2, 0, none⟩ = some (.iface 188 x) := by
 have := World.var?_cell gES h 0
 simpa using this
def PuErr (w : World) (e : Ending) (w' : World) : Prop := ∃ (N : Nat), e = .returned (.tuple #[.int .u64 0, .iface 169 (.pointer (some ⟨N, 0, none⟩))]) ∧ Below w.heap.size w w'
theorem toerr (t : ByteArray) (ht : t.size ≤ 7) (w w1 : World) (hb : Below w.heap.size w w1) (x : Value) (h : w.cell? ⟨2, 0, none⟩ = some (.iface 188 x)) :
  Calls Tryz.prog 118 #[.string ⟨#[80, 97, 114, 115, 101, 85, 105, 110, 116]⟩, .string t, .int .i64 16, .int .i64 64, .iface 167 (.int .i64 2)] w1 fun e w' => ∃ N, e = .returned (.iface 169 (.pointer (some ⟨N, 0, none⟩))) ∧ Below w1.heap.size w1 w' := by
 have h1 : w1.cell? ⟨2, 0, none⟩ = some (.iface 188 x) := (hb.cell (p := ⟨2, 0, none⟩) (World.block_lt_of_cell? _ _ h)).trans h
 refine (Tryz.strconv_toError_syntax _ t 16 64 _ w1 (by omega) h1 (.inr ⟨_, _, rfl⟩)).mono ?_
 rintro e w' ⟨N, rfl, _, _, hb⟩
 exact ⟨N, rfl, hb⟩
theorem pu_empty (w : World) (x : Value) (h : w.cell? ⟨2, 0, none⟩ = some (.iface 188 x)) : Calls Tryz.prog 92 #[.string ⟨#[]⟩, .int .i64 16, .int .i64 64] w (PuErr w) := by
 have hT := toerr ⟨#[]⟩ (by decide) w w (Below.refl _ _) x h
 have hP := parse16_empty w
 clear h
 go_enter Tryz.func92, Tryz.ntmps92
 go_wp2_with (first
  | (go_at_call 117; refine hP.mono ?_; rintro e w' ⟨rfl, rfl⟩)
  | (go_at_call 118; refine hT.mono ?_; rintro e w2 ⟨N, rfl, hb2⟩))
 go_ret2
 exact ⟨N, rfl, hb2⟩
def PuOk (l : List UInt8) (w : World) (e : Ending) (w' : World) : Prop := e = .returned (.tuple #[.int .u64 (hexNum l), .nilIface]) ∧ Below w.heap.size w w'
theorem parse_ok (t : ByteArray) (hne : t.size ≠ 0) (h7 : t.size ≤ 7) (hok : HexOk t.data.toList) (w : World) :
  Calls Tryz.prog 117 #[.string t, .int .i64 16, .int .i64 64] w fun e w' => e = .returned (.tuple #[.int .u64 (hexNum t.data.toList), .nilIface]) ∧ Below w.heap.size w w' := by
 refine (parse16 t hne h7 w).mono ?_
 rintro e w' ⟨⟨_, rfl⟩ | ⟨⟨c, hc, hv⟩, _⟩, rfl⟩
 ·exact ⟨rfl, bytesWorld_below _ _ _⟩
 ·have := hok c hc; omega
theorem parse_bad (t : ByteArray) (hne : t.size ≠ 0) (h7 : t.size ≤ 7) (hbad : ¬ HexOk t.data.toList) (w : World) :
  Calls Tryz.prog 117 #[.string t, .int .i64 16, .int .i64 64] w fun e w' => e = .returned (.tuple #[.int .u64 0, .iface 167 (.int .i64 2)]) ∧ Below w.heap.size w w' := by
 refine (parse16 t hne h7 w).mono ?_
 rintro e w' ⟨⟨h, _⟩ | ⟨_, rfl⟩, rfl⟩
 ·exact absurd h hbad
 ·exact ⟨rfl, bytesWorld_below _ _ _⟩
theorem pu_ok (t : ByteArray) (hne : t.size ≠ 0) (h7 : t.size ≤ 7) (hok : HexOk t.data.toList) (w : World) :
  Calls Tryz.prog 92 #[.string t, .int .i64 16, .int .i64 64] w (PuOk t.data.toList w) := by
 have hP := parse_ok t hne h7 hok w
 clear hok
 go_enter Tryz.func92, Tryz.ntmps92
 go_wp2_with (go_at_call 117; refine hP.mono ?_; rintro e w1 ⟨rfl, hb1⟩)
 go_ret2
 exact ⟨rfl, hb1⟩
theorem pu_bad (t : ByteArray) (hne : t.size ≠ 0) (h7 : t.size ≤ 7) (hbad : ¬ HexOk t.data.toList) (w : World) (x : Value) (h : w.cell? ⟨2, 0, none⟩ = some (.iface 188 x)) :
  Calls Tryz.prog 92 #[.string t, .int .i64 16, .int .i64 64] w (PuErr w) := by
 have hP := parse_bad t hne h7 hbad w
 have hT := fun (w1 : World) (hb : Below w.heap.size w w1) => toerr t h7 w w1 hb x h
 clear hbad h hne
 go_enter Tryz.func92, Tryz.ntmps92
 go_wp2_with (first
  | (go_at_call 117; refine hP.mono ?_; rintro e w1 ⟨rfl, hb1⟩)
  | (go_at_call 118; refine (hT _ hb1).mono ?_; rintro e w2 ⟨N, rfl, hb2⟩))
 go_ret2
 exact ⟨N, rfl, hb1.trans (hb2.mono hb1.size)⟩
theorem impl_rh (s : ByteArray) (w : World) (x : Value) (hx : w.cell? ⟨2, 0, none⟩ = some (.iface 188 x)) :
  Calls Tryz.prog 55 #[.string s] w fun e w' => e = .returned (.int .i64 (rh s.data.toList)) ∧ Below w.heap.size w w' := by
 have hlen : s.data.toList.length = s.size := by simp
 by_cases h7 : 7 < s.size
 ·have hr := rh_len s.data.toList (by omega)
  clear hlen hx
  go_enter Tryz.func55, Tryz.ntmps55
  go_wp2
  go_ret
  exact ⟨by rw [hr]; rfl, Below.refl _ _⟩
 ·by_cases h0 : s.size = 0
  ·have hr := rh_len s.data.toList (by omega)
   obtain rfl : s = ⟨#[]⟩ := by
    obtain ⟨⟨l⟩⟩ := s
    cases l with
    | nil => rfl
    | cons _ _ => simp [ByteArray.size] at h0
   have hE := pu_empty w x hx
   clear hlen hx h0 h7
   go_enter Tryz.func55, Tryz.ntmps55
   go_wp2_with (go_at_call 92; refine hE.mono ?_; rintro e w' ⟨N, rfl, hb⟩)
   go_ret
   exact ⟨by rw [hr]; rfl, hb⟩
  ·by_cases hok : HexOk s.data.toList
   ·have hr := rh_yes _ hok (by omega) (by omega)
    have hbd := hexNum_bd _ hok (by omega)
    have hE := pu_ok s h0 (by omega) hok w
    clear hlen hx hok h0
    go_enter Tryz.func55, Tryz.ntmps55
    go_wp2_with (go_at_call 92; refine hE.mono ?_; rintro e w' ⟨rfl, hb⟩)
    go_ret
    exact ⟨by rw [hr]; rfl, hb⟩
   ·have hr : rh s.data.toList = -1 := by unfold rh; rw [if_neg (fun h => hok h.1)]
    have hE := pu_bad s h0 (by omega) hok w x hx
    clear hlen hx hok h0
    go_enter Tryz.func55, Tryz.ntmps55
    go_wp2_with (go_at_call 92; refine hE.mono ?_; rintro e w' ⟨N, rfl, hb⟩)
    go_ret
    exact ⟨by rw [hr]; rfl, hb⟩
end Go.Proofs.YtboeaeoefoabdaaGreatDoor
namespace Go.Proofs.YtboeaeoefoabdaaGreatDoor
open Go.RowKit
def FirstR (zs : List Int) (lo hi : Int) (S : List UInt8) (zc : Int) (ok : Bool) : Prop :=
 (ok = true ∧ ∃ (i : Nat) (h : i < zs.length), zc = zs[i] ∧ IsL S lo hi zs[i] ∧ ∀ j (hj : j < i), ¬ IsL S lo hi (zs[j]'(by omega))) ∨ (ok = false ∧ zc = 0 ∧ ∀ j (hj : j < zs.length), ¬ IsL S lo hi zs[j])
theorem first_post {zs : List Int} {lo hi : Int} {S : List UInt8} {w : World} {e : Ending} {w' : World} (h : FirstPost zs lo hi S w e w') : ∃ (zc : Int) (ok : Bool), e = .returned (.tuple #[.int .u8 zc, .bool ok]) ∧ FirstR zs lo hi S zc ok ∧ Below w.heap.size w w' := by
 rcases h with ⟨⟨i, hi', he, hy, hp⟩ | ⟨he, hp⟩, hb⟩
 ·exact ⟨_, _, he, .inl ⟨rfl, i, hi', rfl, hy, hp⟩, hb⟩
 ·exact ⟨_, _, he, .inr ⟨rfl, rfl, hp⟩, hb⟩
theorem some_back (x y z : Int) (hx : 0 ≤ x ∧ x < 256) (hy : 0 ≤ y ∧ y < 256) (hz : 0 ≤ z ∧ z < 256) (n : Nat) (hn : n ≤ 3) (g : Nat) (W : World) (hW : W.heap[g]? = some (.cells #[.int .u8 x, .int .u8 y, .int .u8 z] 5 (0, 0))) :
  (convert 22 9 (.slice (some ⟨g, 0, none⟩) n 3)).run Tryz.prog W = .ok (.string ⟨([UInt8.ofNat x.toNat, UInt8.ofNat y.toNat, UInt8.ofNat z.toNat].take n).toArray⟩) W := by
 have h := run_convert_bytes_back (P := Tryz.prog) W 22 9 5 ⟨g, 0, none⟩ 3 ([UInt8.ofNat x.toNat, UInt8.ofNat y.toNat, UInt8.ofNat z.toNat].take n) Tryz.underlying22 Tryz.underlying5 Tryz.underlying9 (fun j hj => by
  rw [addr_add]
  refine cell_of_blk hW ?_
  simp only [List.length_take, List.length_cons, List.length_nil] at hj
  rw [List.getElem_take]
  match j, hj with
  | 0, _ => simp; omega
  | 1, _ => simp; omega
  | 2, _ => simp; omega
  | j + 3, hj => omega)
 rw [List.length_take, show min n [UInt8.ofNat x.toNat, UInt8.ofNat y.toNat, UInt8.ofNat z.toNat].length = n by simp; omega] at h
 exact h
theorem nameL_le (S : List UInt8) : (nameL S).length ≤ S.length := (List.takeWhile_sublist _).length_le
theorem restB_le (S : List UInt8) : (restB S).length ≤ S.length := by
 unfold restB
 have := (List.dropWhile_sublist (fun c : UInt8 => c != 32) (l := S)).length_le
 rw [List.length_drop]
 omega
set_option maxRecDepth 100000 in
set_option maxHeartbeats 4000000 in
theorem impl_asm (s : ByteArray) (hs : s.size ≤ 1048576) (w : World) (m : Int) (hm : w.cell? ⟨1, 0, none⟩ = some (.int .i64 m)) (x : Value) (hx : w.cell? ⟨2, 0, none⟩ = some (.iface 188 x)) :
  Calls Tryz.prog 21 #[.string s] w (AsmPost s.data.toList w) := by
 have HW := Lib.hid (fun w => impl_words s hs w)
 have HT := Lib.hid (impl_opTable)
 obtain ⟨z, hz, hzs⟩ : ∃ z : Array Value, (∀ w, (zeroValue 81).run Tryz.prog w = .ok (.agg z) w) ∧ z.size = 512 := ⟨_, tab_zero, by simp⟩
 have HZ := Lib.hid hzs
 have HZ0 := Lib.hid hz
 clear hzs hz
 have hl : s.data.toList.length ≤ 1048576 := by simpa using hs
 generalize s.data.toList = l at *
 have hm := Lib.hid hm
 have hx := Lib.hid hx
 have HL := Lib.hid hl
 clear hs hl
 go_enter Tryz.func21, Tryz.ntmps21
 go_wp2_with (go_at_call 53; (with_reducible refine (HW.out _).mono ?_); rintro e w1 ⟨A, k, cap, rfl, hg, hz, hcap, hc, hb1⟩; refine Hid.out ?_)
 have HJ := Lib.hid (join_call l HL.out A k cap hg hcap w1 hc)
 have hS : (upL (lineS l k)).length ≤ 1048576 := by
  have a := lineS_bound hg
  have b := HL.out
  rw [upL_length]
  omega
 have hS0 : (lineS l k).length ≤ 1048576 := by rw [upL_length] at hS; exact hS
 have HU := fun w => impl_upper ⟨(lineS l k).toArray⟩ (by rw [bsize]; exact hS0) w
 rw [show (⟨(lineS l k).toArray⟩ : ByteArray).data.toList = lineS l k by simp] at HU
 have fin := Lib.hid (fun (out : List UInt8) (ok : Bool) (w' : World) (h : AsmOk (upL (lineS l k)) out ok) (hb : Below w.heap.size w w') => (⟨k, out, ok, hg, hz, rfl, h, hb⟩ : AsmPost l w (.returned (.tuple #[.string ⟨out.toArray⟩, .bool ok])) w'))
 clear hg hz hc hcap HW hS0
 replace HU := Lib.hid HU
 generalize upL (lineS l k) = S at *
 generalize lineS l k = T at *
 refine Lib.hid ?_
 go_wp2_with (first
  | (go_at_call 52; (with_reducible refine HJ.out.mono ?_); rintro e w2 ⟨rfl, hb2⟩)
  | (go_at_call 51; (with_reducible refine (HU.out _).mono ?_); rintro e w3 ⟨rfl, hb3⟩; refine Hid.out ?_))
 have B3 := below_then (below_then hb1 hb2) hb3
 clear hb1 hb2 hb3 HJ HU
 have bS := below_alloc B3 (.cells #[.string ⟨S.toArray⟩] 9)
 obtain ⟨bt, hcut⟩ := cut_call ⟨S.toArray⟩ (by rw [bsize]; omega) m _ ((bS.cell (p := ⟨_, 0, none⟩) (World.block_lt_of_cell? _ _ hm.out)).trans hm.out)
 rw [show (⟨S.toArray⟩ : ByteArray).data.toList = S by simp] at hcut
 have ct := Lib.hid (blk_new w3 (.cells #[.string ⟨S.toArray⟩] 9))
 have BS := Lib.hid bS
 have hcut := Lib.hid hcut
 clear B3 bS
 refine Lib.hid ?_
 go_wp2_with (go_at_call 54; refine hcut.out.mono ?_; rintro e w4 ⟨rfl, hb4⟩; refine Hid.out ?_)
 have ct4 := Lib.hid (blk_below ct.out hb4)
 have B4 := Lib.hid (below_then BS.out hb4)
 clear hb4 ct BS hcut
 have hR := restB_le S
 have hN := nameL_le S
 have HTr := Lib.hid (fun w => trim_call (restB S) (by omega) w)
 have HR := fun w h => impl_rh ⟨(trimT (restB S)).toArray⟩ w x h
 rw [show (⟨(trimT (restB S)).toArray⟩ : ByteArray).data.toList = trimT (restB S) by simp] at HR
 obtain ⟨nm, hnm⟩ : ∃ nm : ByteArray, nm = ⟨(nameL S).toArray⟩ := ⟨_, rfl⟩
 have hns : nm.size ≤ maxLen := by rw [hnm, bsize]; unfold maxLen; omega
 have hnl : nm.data.toList = nameL S := by rw [hnm]
 obtain ⟨lo, hlo⟩ : ∃ lo, lo = rh (trimT (restB S)) % 256 := ⟨_, rfl⟩
 obtain ⟨hi, hhi⟩ : ∃ hi, hi = rh (trimT (restB S)) / 256 % 256 := ⟨_, rfl⟩
 have hlob : 0 ≤ lo ∧ lo < 256 := by omega
 have hhib : 0 ≤ hi ∧ hi < 256 := by omega
 obtain ⟨zs, ez⟩ : ∃ zs, codesAt nm 256 = zs := ⟨_, rfl⟩
 have hit := Lib.hid (codes_hit2 ez hnl hlo hhi)
 have miss := Lib.hid (codes_miss2 ez hnl hlo hhi)
 have hbyH := Lib.hid (codes_byte2 ez)
 have hlnH : Hid (zs.length ≤ 256) := Lib.hid (by rw [← ez]; exact codesAt_length nm 256)
 have EZ := Lib.hid ez
 have HLo := fun w => low_b (rh (trimT (restB S))) w
 have HHi := fun w => high_b (rh (trimT (restB S))) w
 rw [← hlo] at HLo
 rw [← hhi] at HHi
 rw [← hnm]
 clear hlo hhi hnm hnl hR hN hS ez
 generalize rh (trimT (restB S)) = q at *
 generalize trimT (restB S) = R2 at *
 generalize restB S = R1 at *
 replace HR := Lib.hid HR
 replace HLo := Lib.hid HLo
 replace HHi := Lib.hid HHi
 refine Lib.hid ?_
 go_wp2_with (go_at_call 56; (with_reducible refine (HTr.out _).mono ?_); rintro e w5 ⟨rfl, hb5⟩; refine Hid.out ?_)
 have ct5 := Lib.hid (blk_below ct4.out hb5)
 have B5 := Lib.hid (below_then B4.out hb5)
 have hx5 := Lib.hid ((B5.out.cell (p := ⟨_, 0, none⟩) (World.block_lt_of_cell? _ _ hx.out)).trans hx.out)
 clear hb5 ct4 B4 HTr hx hm
 refine Lib.hid ?_
 go_wp2_with (go_at_call 55; refine (HR.out _ hx5.out).mono ?_; rintro e w6 ⟨rfl, hb6⟩; refine Hid.out ?_)
 have ct6 := Lib.hid (blk_below ct5.out hb6)
 have B6 := Lib.hid (below_then B5.out hb6)
 clear hb6 ct5 B5 HR hx5
 refine Lib.hid ?_
 go_wp2_with (first
  | (go_at_call 57; (with_reducible refine (HLo.out _).mono ?_); rintro e w7 ⟨rfl, rfl⟩)
  | (go_at_call 58; (with_reducible refine (HHi.out _).mono ?_); rintro e w7 ⟨rfl, rfl⟩)
  | (go_at_call 59; refine (HT.out _).mono ?_; rintro e w8 ⟨rfl, hb8⟩; refine Hid.out ?_))
 have cl8 := Lib.hid (blk_below (blk_old (blk_new w6 (.cells #[.int .i64 lo] 3))) hb8)
 have ch8 := Lib.hid (blk_below (blk_new2 w6 (.cells #[.int .i64 lo] 3) (.cells #[.int .i64 hi] 3)) hb8)
 have ct8 := Lib.hid (blk_below (blk_old (blk_old ct6.out)) hb8)
 have B8 := Lib.hid (below_then (below_alloc (below_alloc B6.out (.cells #[.int .i64 lo] 3)) (.cells #[.int .i64 hi] 3)) hb8)
 have hz := HZ0.out
 clear hb8 ct6 B6 HT HLo HHi HZ0
 refine Lib.hid ?_
 go_wp2_with (first
  | (refine store_tab rfl (.tmp 11) (.tmp 32) rfl w8.heap.size rfl rfl z (heap_alloc_new w8 _) HZ.out ?_; intro w9 ht hb9 hlt9)
  | (go_at_call 61; refine (impl_codes w8.heap.size w9 hlt9 ht).mono ?_; rintro e w10 ⟨rfl, hcod, hb10⟩; refine Hid.out ?_))
 obtain ⟨v, hrun, hoi⟩ := looked hcod nm hns
 have hb89 : Below w8.heap.size w8 w10 := below_then ((below_alloc (Below.refl w8.heap.size w8) _).trans hb9) hb10
 have CA : Caught w8.heap.size w6.heap.size (w6.heap.size + 1) w3.heap.size lo hi S w10 := ⟨ht.below hlt9 hb10, Nat.lt_of_lt_of_le hlt9 hb10.size, cell_of_blk (i := 0) (blk_below cl8.out hb89) rfl, cell_of_blk (i := 0) (blk_below ch8.out hb89) rfl, cell_of_blk (i := 0) (blk_below ct8.out hb89) rfl⟩
 have B10 := Lib.hid (below_then B8.out hb89)
 have hby := hbyH.out
 have hln := hlnH.out
 rw [EZ.out] at hoi
 have hsh := ints_shape hoi
 have hcl8 := Lib.hid (blk_below cl8.out hb89)
 have hch8 := Lib.hid (blk_below ch8.out hb89)
 clear hb9 hb10 hcod hb89 cl8 ch8 ct8 B8 hz HZ hoi hns EZ hlnH
 obtain ⟨A2, cap2, hv, hA2⟩ : ∃ (A2 : Option Addr) (cap2 : Nat), v = .slice A2 zs.length cap2 ∧ (zs = [] ∨ ∃ g, A2 = some ⟨g, 0, none⟩ ∧ ∀ i (h : i < zs.length), w10.cell? ⟨g, i, none⟩ = some (.int .u8 zs[i])) := by
  rcases hsh with ⟨rfl, rfl⟩ | ⟨g, c2, rfl, h⟩
  ·exact ⟨none, 0, rfl, .inl rfl⟩
  ·exact ⟨_, c2, rfl, .inr ⟨g, rfl, h⟩⟩
 subst hv
 have HF := Lib.hid ((first_of zs (fun i h => (hby i h).imp fun c hc => ⟨hc.1, hc.2.1⟩) hln A2 cap2 w8.heap.size w6.heap.size (w6.heap.size + 1) w3.heap.size lo hi S w10 hA2 CA).mono fun _ _ h => first_post h)
 have HB := Lib.hid hby
 have CA := Lib.hid CA
 clear hsh hA2 hby hln
 refine Lib.hid ?_
 go_wp2_with (go_at_call 60; refine HF.out.mono ?_; rintro e w11 ⟨zc, ok, rfl, hres, hb11⟩; refine Hid.out ?_)
 have B11 := Lib.hid (below_then B10.out hb11)
 have hcl := cell_of_blk (i := 0) (v := .int .i64 lo) (blk_below hcl8.out hb11) rfl
 have hch := cell_of_blk (i := 0) (v := .int .i64 hi) (blk_below hch8.out hb11) rfl
 have CA11 := CA.out.below hb11
 clear hb11 B10 hcl8 hch8 CA HF
 rcases hres with ⟨rfl, i, hil, rfl, hy, hp⟩ | ⟨rfl, rfl, hp⟩
 ·skip
  obtain ⟨c, hcl256, ec, hr0⟩ := HB.out i hil
  have HA := hit.out i hil hy hp
  rw [ec] at HA ⊢
  rw [Int.toNat_natCast] at HA
  have tm := (CA11.1 c hcl256).2
  have hz3 := mode_sz (row_good hcl256 hr0).2
  have HM := fun w => impl_modeSize (rowAt c).2 w
  generalize (rowAt c).2 = m2 at *
  generalize modeSz m2 = zz at *
  replace HM := Lib.hid HM
  have c0 : 0 ≤ (c : Int) := by omega
  have c1 : (c : Int) < 256 := by omega
  have tm2 : (w11.alloc (.cells #[.int .u8 (c : Int), .int .u8 lo, .int .u8 hi] 5)).cell? ⟨w8.heap.size, c * 2 + 1, none⟩ = some (.string m2) := ((below_alloc (Below.refl w11.heap.size w11) _).cell (p := ⟨w8.heap.size, c * 2 + 1, none⟩) CA11.2.1).trans tm
  have HA := Lib.hid HA
  clear CA11 hy hp hit miss hrun hr0 ec
  refine Lib.hid ?_
  go_wp2_with (go_at_call 63; (with_reducible refine (HM.out _).mono ?_); rintro e w12 ⟨rfl, hb12⟩; refine Hid.out ?_)
  have R12 := blk_below (blk_new w11 (.cells #[.int .u8 (c : Int), .int .u8 lo, .int .u8 hi] 5)) hb12
  have B12 := Lib.hid (below_then (below_alloc B11.out (.cells #[.int .u8 (c : Int), .int .u8 lo, .int .u8 hi] 5)) hb12)
  have hcv := fun n hn => some_back (c : Int) lo hi ⟨c0, c1⟩ hlob hhib n hn w11.heap.size w12 R12
  have e1 : lo % 256 = lo := by omega
  have e2 : hi % 256 = hi := by omega
  have HA := HA.out
  rw [e1, e2] at HA
  rw [Int.toNat_natCast] at hcv
  clear R12 hb12 HM tm tm2 hcl hch e1 e2
  rcases hz3 with rfl | rfl | rfl
  ·have hcv1 := hcv 1 (by omega)
   have HF := Lib.hid (fin.out _ true w12 HA B12.out)
   clear hcv HA fin
   refine Lib.hid ?_
   go_wp2
   go_ret2
   exact HF.out
  ·have hcv1 := hcv 2 (by omega)
   have HF := Lib.hid (fin.out _ true w12 HA B12.out)
   clear hcv HA fin
   refine Lib.hid ?_
   go_wp2
   go_ret2
   exact HF.out
  ·have hcv1 := hcv 3 (by omega)
   have HF := Lib.hid (fin.out _ true w12 HA B12.out)
   clear hcv HA fin
   refine Lib.hid ?_
   go_wp2
   go_ret2
   exact HF.out
 ·have HA := Lib.hid (fin.out [] false w11 (miss.out hp) B11.out)
  clear hp fin miss hit hrun CA11
  refine Lib.hid ?_
  go_wp2
  go_ret2
  exact HA.out
end Go.Proofs.YtboeaeoefoabdaaGreatDoor
