/-
  Texts put together by program: Wkr, BnA, ChA, KpA, RgC, ChJ, KpB.
  Conditions: as each theorem says.
-/
import Derived.Deep.CutRange
import Derived.Test.YthklebkpoccblaaGreatRqah
import Derived.Test.YthklebkpoccblaaGreatRqaj
namespace Go.Proofs.YthklebkpoccblaaGreat
open Go.RowKit
section
variable {P : Program} {ops : Array Oper} {rest : List Oper} {o : Oper} {a : Act} {w : World} {Q : Exit → Act → World → Prop}
theorem run_loadVar_cell (w : World) (b f : Nat) (t T : TypeId) (cs : Array Value) (d : TypeDesc) (v : Value) (hg : w.heap[b]? = some (.cells cs t (0, 0))) (hv : cs[f]? = some v)
  (hu : P.underlying T = some d) (hd : (match d with | .struct _ | .array _ _ => true | _ => false) = false) : (loadVar T ⟨b, f, none⟩).run P w = .ok v w := by
 have hagg : (isAgg T).run P w = .ok false w := by
  unfold isAgg
  rw [Sem.run_bind, run_underlying hu w]
  cases d <;> simp_all
 have hc : w.cell? ⟨b, f, none⟩ = some v := by rw [cell_of_row w b f cs t (0, 0) hg]; exact hv
 simp [loadVar, Sem.run_bind, hagg, hc]
theorem run_storeVar_cell (w : World) (b f : Nat) (t T : TypeId) (old new : Array Value) (v : Value) (hg : w.heap[b]? = some (.cells old t (0, 0))) (hfit : Nat.ble (f + 1) old.size = true)
  (hn : (old.toList.take f ++ [v] ++ old.toList.drop (f + 1)).toArray = new) (hi : (P.info? T).map (·.size) = some 1) (h1 : v.oneCell' = true) :
  (storeVar T ⟨b, f, none⟩ v).run P w = .ok () (w.setRow b new) := by
 have := run_storeCells_at P b f t [v] 0 old w hg (by simpa using Nat.le_of_ble_eq_true hfit) (fun x hx => by simp at hx; subst hx; exact h1)
 have hc : v.cells = #[v] := by cases v <;> first | rfl | cases h1
 cases hq : P.info? T with
 | none => simp [hq] at hi
 | some i =>
  have hs : i.size = 1 := by simpa [hq] using hi
  simp only [Nat.add_zero, List.length_singleton] at this
  rw [hn] at this
  simp [storeVar, sizeOf, typeInfo, hq, hc, hs, this]
theorem load_cell_if (hw : Region.wanted o (yielded ops a.tmps) = true) (T : TypeId) (x : Operand) (ho : o.op = .load T x) (b f : Nat) (hx : a.eval x = .pointer (some ⟨b, f, none⟩)) (d : TypeDesc) (hu : P.underlying T = some d) (hd : (match d with | .struct _ | .array _ _ => true | _ => false) = false)
  {cs : Array Value} {t : TypeId} (hg : w.heap[b]? = some (.cells cs t (0, 0))) (v : Value) (hv : cs[f]? = some v) (h : wpList P ops Q rest (a.put o.dst v) w) : wpList P ops Q (o :: rest) a w :=
 wpList_some hw fun K hK => by
  unfold Oper.wp execOp
  simp only [ho, hx, Instr.loadAt, Instr.sureAddr, Sem.run_bind, Sem.run_pure, Result.andThen_ok, run_loadVar_cell w b f t T cs d v hg hv hu hd]
  exact hK _ _ h
theorem store_cell (hgd : o.guard = none) (T : TypeId) (x y : Operand) (ho : o.op = .store T x y) (b f : Nat) (hx : a.eval x = .pointer (some ⟨b, f, none⟩)) (v : Value) (hy : a.eval y = v) (hi : (P.info? T).map (·.size) = some 1) (h1 : v.oneCell' = true)
  {old : Array Value} {t : TypeId} (hg : w.heap[b]? = some (.cells old t (0, 0))) (hfit : Nat.ble (f + 1) old.size = true) (new : Array Value) (hn : (old.toList.take f ++ [v] ++ old.toList.drop (f + 1)).toArray = new) (h : wpList P ops Q rest (a.put o.dst undef) (w.setRow b new)) : wpList P ops Q (o :: rest) a w :=
 wpList_plain hgd fun K hK => by
  unfold Oper.wp execOp
  simp only [ho, hx, hy, Instr.storeAt, Instr.sureAddr, Sem.run_bind, Sem.run_pure, Result.andThen_ok, run_storeVar_cell w b f t T old new v hg hfit hn hi h1]
  exact hK _ _ h
end
end Go.Proofs.YthklebkpoccblaaGreat
namespace Go.Proofs.YthklebkpoccblaaGreat
def natOp (op : BinOp) (a b : Nat) : Nat :=
 match op with
 | .and => a &&& b
 | .or => a ||| b
 | .xor => a ^^^ b
 | _ => a ^^^ (a &&& b)
structure Words (k : IntKind) : Prop where
 wide : 16 ≤ k.bits
 keep : ∀ n : Nat, n < 65536 → k.wrap (n : Int) = (n : Int)
theorem words_i64 : Words .i64 := ⟨by decide, fun n h => by rw [IntKind.wrap_i64]; omega⟩
theorem of_nat {w : Nat} (hw : 16 ≤ w) (a : Nat) (h : a < 65536) : (BitVec.ofInt w (a : Int)).toNat = a := by
 rw [BitVec.ofInt_natCast, BitVec.toNat_ofNat]
 refine Nat.mod_eq_of_lt (Nat.lt_of_lt_of_le h ?_)
 exact Nat.pow_le_pow_right (n := 2) (by omega) hw
theorem andNot_xor {w : Nat} (x y : BitVec w) : x &&& ~~~y = x ^^^ (x &&& y) := by
 ext i hi
 simp only [BitVec.getElem_and, BitVec.getElem_not, BitVec.getElem_xor]
 cases x[i] <;> cases y[i] <;> rfl
theorem natOp_lt (op : BinOp) (a b : Nat) (ha : a < 65536) (hb : b < 65536) : natOp op a b < 65536 := by
 have h1 : a < 2 ^ 16 := ha
 have h2 : b < 2 ^ 16 := hb
 unfold natOp
 split
 ·exact Nat.and_lt_two_pow _ h2
 ·exact Nat.or_lt_two_pow h1 h2
 ·exact Nat.xor_lt_two_pow h1 h2
 ·exact Nat.xor_lt_two_pow h1 (Nat.and_lt_two_pow _ h2)
theorem bits_nat {k : IntKind} (hk : Words k) (op : BinOp) (a b : Nat) (ha : a < 65536) (hb : b < 65536) : bits op k (a : Int) (b : Int) = (natOp op a b : Int) := by
 rw [← hk.keep _ (natOp_lt op a b ha hb)]
 unfold bits natOp
 cases op <;> simp only [andNot_xor, BitVec.toNat_and, BitVec.toNat_or, BitVec.toNat_xor, of_nat hk.wide a ha, of_nat hk.wide b hb]
theorem or_add (q v : Nat) (h : v < 256) : q * 256 ||| v = q * 256 + v := by
 have := Nat.shiftLeft_add_eq_or_of_lt (i := 8) (b := v) h q
 rw [Nat.shiftLeft_eq] at this
 exact this.symm
section
variable {k : IntKind} (hk : Words k)
include hk
theorem w_or {q v : Int} (h : 0 ≤ q ∧ q ≤ 255) (hv : 0 ≤ v ∧ v ≤ 255) : bits .or k (q * 256) v = q * 256 + v := by
 obtain ⟨a, rfl⟩ : ∃ a : Nat, q = a := ⟨q.toNat, by omega⟩
 obtain ⟨b, rfl⟩ : ∃ b : Nat, v = b := ⟨v.toNat, by omega⟩
 have := bits_nat hk .or (a * 256) b (by omega) (by omega)
 rw [show natOp .or (a * 256) b = a * 256 + b from or_add a b (by omega)] at this
 rw [show (a : Int) * 256 = ((a * 256 : Nat) : Int) by omega, this]
 omega
end
end Go.Proofs.YthklebkpoccblaaGreat
namespace Go.Proofs.YthklebkpoccblaaGreat
def f5 (n : Int) : Bool := decide (n = 32 ∨ n = 96)
end Go.Proofs.YthklebkpoccblaaGreat
namespace Go.Proofs.YthklebkpoccblaaGreat
def isUp (n m : Int) : Bool := decide (0 ≤ n ∧ n ≤ m)
theorem isUp_yes {n m : Int} (h : isUp n m = true) : 0 ≤ n ∧ n ≤ m := of_decide_eq_true h
theorem isUp_no {n m : Int} (h : isUp n m = false) : n < 0 ∨ m < n := by have := of_decide_eq_false h; omega
end Go.Proofs.YthklebkpoccblaaGreat
namespace Go.Proofs.YthklebkpoccblaaGreat
open Go.RowKit
def regsV (a x y s p pc : Int) : Value := .agg #[.int .i64 a, .int .i64 x, .int .i64 y, .int .i64 s, .int .i64 p, .int .i64 pc]
theorem spec_byte (n : Int) (w : World) : Calls Tryz.prog 45 #[.int .i64 n] w fun e w' => e = .returned (.bool (isB n)) ∧ w = w' := by
 cases h : isB n
 ·have HI := Lib.hid (hx_in_no n 0 255 w (isB_no h))
  clear h
  go_enter Tryz.func45, Tryz.ntmps45
  go_wp2_with (go_at_call 44; refine HI.out.mono ?_; rintro e w' ⟨rfl, rfl⟩)
  go_ret
  exact ⟨rfl, rfl⟩
 ·obtain ⟨h0, h1⟩ := isB_yes h
  have HI := Lib.hid (hx_in_yes n 0 255 w h0 h1)
  clear h
  go_enter Tryz.func45, Tryz.ntmps45
  go_wp2_with (go_at_call 44; refine HI.out.mono ?_; rintro e w' ⟨rfl, rfl⟩)
  go_ret
  exact ⟨rfl, rfl⟩
theorem spec_addr (n : Int) (w : World) : Calls Tryz.prog 44 #[.int .i64 n, .int .i64 0, .int .i64 65535] w fun e w' => e = .returned (.bool (isAd n)) ∧ w = w' := by
 cases h : isAd n
 ·exact hx_in_no n 0 65535 w (isAd_no h)
 ·exact hx_in_yes n 0 65535 w (isAd_yes h).1 (isAd_yes h).2
theorem keptB_mod (p : Int) : keptB (p % 256) = keptB p := by unfold keptB; rw [tst_mod, tst_mod]
set_option maxHeartbeats 1000000 in
theorem impl_regsOk (a x y s p pc : Int) (w : World) : Calls Tryz.prog 41 #[regsV a x y s p pc] w fun e w' => e = .returned (.bool (okR a x y s p pc)) ∧ Below w.heap.size w w' := by
 have HB := Lib.hid is_byte
 have HA := Lib.hid is_addr
 have HK := Lib.hid (fun w => are_kept (p % 256) (by omega) (by omega) w)
 have H : Hid (okR a x y s p pc = (isB a && isB x && isB y && isB s && isB p && keptB p && isAd pc)) := Lib.hid rfl
 unfold regsV
 go_enter Tryz.func41, Tryz.ntmps41
 go_wp2_with (first
  | (go_at_call 40; refine (HB.out _ _).mono ?_; rintro e w' ⟨rfl, rfl⟩)
  | (go_at_call 78; refine (HA.out _ _).mono ?_; rintro e w' ⟨rfl, rfl⟩)
  | (go_at_call 77; refine (HK.out _).mono ?_; rintro e w' ⟨rfl, rfl⟩; rw [keptB_mod]))
 all_goals go_ret
 all_goals exact ⟨by rw [H.out]; simp [*], (Below.refl _ _).alloc (Nat.le_refl _) _⟩
set_option maxHeartbeats 1000000 in
theorem spec_regsOk (a x y s p pc : Int) (w : World) : Calls Tryz.prog 43 #[regsV a x y s p pc] w fun e w' => e = .returned (.bool (okR a x y s p pc)) ∧ Below w.heap.size w w' := by
 have HB := Lib.hid spec_byte
 have HA := Lib.hid spec_addr
 have h32 := spec_u p
 have h16 := spec_b p
 have H : Hid (okR a x y s p pc = (isB a && isB x && isB y && isB s && isB p && (tst p 32 && !tst p 16) && isAd pc)) := Lib.hid rfl
 unfold regsV
 cases t32 : tst p 32 <;> cases t16 : tst p 16
 all_goals
  rw [t32] at h32
  rw [t16] at h16
  have H32 := Lib.hid t32
  have H16 := Lib.hid t16
  clear t32 t16
  go_enter Tryz.func43, Tryz.ntmps43
  go_wp2_with (first
   | (go_at_call 45; refine (HB.out _ _).mono ?_; rintro e w' ⟨rfl, rfl⟩)
   | (go_at_call 44; refine (HA.out _ _).mono ?_; rintro e w' ⟨rfl, rfl⟩))
  all_goals go_ret
  all_goals exact ⟨by rw [H.out, H32.out, H16.out]; simp [*], (Below.refl _ _).alloc (Nat.le_refl _) _⟩
end Go.Proofs.YthklebkpoccblaaGreat
namespace Go.Proofs.YthklebkpoccblaaGreat
open Go.RowKit
theorem low_of (n : Int) (w : World) : Calls Tryz.prog 61 #[.int .i64 n] w fun e w' => e = .returned (.int .i64 (n % 256)) ∧ w = w' := by
 have e := and_255 n
 go_enter Tryz.func61, Tryz.ntmps61
 go_wp2
 go_ret
 exact ⟨rfl, rfl⟩
theorem high_of (n : Int) (h0 : 0 ≤ n) (h1 : n ≤ 65535) (w : World) : Calls Tryz.prog 156 #[.int .i64 n] w fun e w' => e = .returned (.int .i64 (n / 256)) ∧ w = w' := by
 have e := and_255 (n / 256)
 rw [show n / 256 % 256 = n / 256 by omega] at e
 go_enter Tryz.func156, Tryz.ntmps156
 go_wp2
 go_ret
 exact ⟨rfl, rfl⟩
theorem word_of (h l : Int) (h0 : 0 ≤ h) (h1 : h ≤ 255) (l0 : 0 ≤ l) (l1 : l ≤ 255) (w : World) : Calls Tryz.prog 161 #[.int .i64 h, .int .i64 l] w fun e w' => e = .returned (.int .i64 (h * 256 + l)) ∧ w = w' := by
 have e := w_or words_i64 (q := h) (v := l) ⟨h0, h1⟩ ⟨l0, l1⟩
 go_enter Tryz.func161, Tryz.ntmps161
 go_wp2
 go_ret
 exact ⟨rfl, rfl⟩
end Go.Proofs.YthklebkpoccblaaGreat
namespace Go.Proofs.YthklebkpoccblaaGreat
open Go.RowKit
theorem spec_up (n m : Int) (w : World) : Calls Tryz.prog 44 #[.int .i64 n, .int .i64 0, .int .i64 m] w fun e w' => e = .returned (.bool (isUp n m)) ∧ w = w' := by
 cases h : isUp n m
 ·have h' := isUp_no h
  refine (hx_in_no n 0 m w (by omega)).mono ?_
  rintro e w' ⟨rfl, rfl⟩
  exact ⟨rfl, rfl⟩
 ·have h' := isUp_yes h
  refine (hx_in_yes n 0 m w (by omega) (by omega)).mono ?_
  rintro e w' ⟨rfl, rfl⟩
  exact ⟨rfl, rfl⟩
theorem is_up (n m : Int) (w : World) : Calls Tryz.prog 39 #[.int .i64 n, .int .i64 m] w fun e w' => e = .returned (.bool (isUp n m)) ∧ w = w' := by
 cases h : isUp n m
 ·have h' := isUp_no h
  by_cases h0 : 0 ≤ n
  ·have h1 : ¬ n ≤ m := by omega
   clear h h'
   go_enter Tryz.func39, Tryz.ntmps39
   go_wp2
   go_ret
   exact ⟨rfl, rfl⟩
  ·clear h h'
   go_enter Tryz.func39, Tryz.ntmps39
   go_wp2
   go_ret
   exact ⟨rfl, rfl⟩
 ·obtain ⟨h0, h1⟩ := isUp_yes h
  clear h
  go_enter Tryz.func39, Tryz.ntmps39
  go_wp2
  go_ret
  exact ⟨rfl, rfl⟩
end Go.Proofs.YthklebkpoccblaaGreat
