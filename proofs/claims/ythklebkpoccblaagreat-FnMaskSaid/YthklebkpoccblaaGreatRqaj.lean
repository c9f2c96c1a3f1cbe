/-
  Texts put together by program: Prt, Hnd, MmA, MmB, MmC, MmD.
  Conditions: as each theorem says.
-/
import Derived.Deep.RegionHeld3
import Derived.Great.BuildSlice
import Derived.Laws.CopyOwn
import Derived.Laws.CopyRow
import Derived.Lib.BufferWrite
import Derived.Test.YthklebkpoccblaaGreatRqae
namespace Go.Proofs.YthklebkpoccblaaGreat
open Go.RowKit
section
variable {P : Program} {ops : Array Oper} {rest : List Oper} {o : Oper} {a : Act} {w : World} {Q : Exit → Act → World → Prop}
theorem addr_step (b f j : Nat) : (⟨b, f, none⟩ : Addr).add j = ⟨b, f + j, none⟩ := by unfold Addr.add; split <;> simp_all
theorem run_loadVar_part (w : World) (b f : Nat) (t T : TypeId) (cs part : Array Value) (d : TypeDesc) (hg : w.heap[b]? = some (.cells cs t (0, 0))) (hp : (cs.toList.drop f).take part.size = part.toList)
  (hu : P.underlying T = some d) (hd : (match d with | .struct _ | .array _ _ => true | _ => false) = true) (hi : (P.info? T).map (·.size) = some part.size) :
  (loadVar T ⟨b, f, none⟩).run P w = .ok (.agg part) w := by
 have hl : (loadCells ⟨b, f, none⟩ part.toList.length).run P w = .ok part.toList.toArray w :=
  run_loadCells_list (P := P) w ⟨b, f, none⟩ part.toList (fun j v hv => by
   rw [addr_step, cell_of_row w b (f + j) cs t (0, 0) hg]
   rw [← hp, List.getElem?_take] at hv
   split at hv
   ·rw [List.getElem?_drop] at hv
    rw [← Array.getElem?_toList]
    exact hv
   ·exact absurd hv (by simp))
 cases hq : P.info? T with
 | none => simp [hq] at hi
 | some i =>
  have hs : i.size = part.size := by simpa [hq] using hi
  have hagg : (isAgg T).run P w = .ok true w := by
   unfold isAgg
   rw [Sem.run_bind, run_underlying hu w]
   cases d <;> simp_all
  simp only [Array.length_toList, Array.toArray_toList] at hl
  simp [loadVar, Sem.run_bind, hagg, sizeOf, typeInfo, hq, hs, hl]
theorem run_storeVar_part (w : World) (b f : Nat) (t T : TypeId) (old part new : Array Value) (hg : w.heap[b]? = some (.cells old t (0, 0))) (hfit : f + part.size ≤ old.size)
  (hn : (old.toList.take f ++ part.toList ++ old.toList.drop (f + part.size)).toArray = new) (hi : (P.info? T).map (·.size) = some part.size) (h1 : part.toList.all (·.oneCell') = true) :
  (storeVar T ⟨b, f, none⟩ (.agg part)).run P w = .ok () (w.setRow b new) := by
 have := run_storeCells_at P b f t part.toList 0 old w hg (by simpa using hfit) (fun v hv => List.all_eq_true.1 h1 v hv)
 cases hq : P.info? T with
 | none => simp [hq] at hi
 | some i =>
  have hs : part.size = i.size := by simp [hq] at hi; omega
  simp only [Nat.add_zero, Array.length_toList] at this
  rw [hn] at this
  simp [storeVar, sizeOf, typeInfo, hq, Value.cells, hs, this]
theorem wpList_some (hw : Region.wanted o (yielded ops a.tmps) = true)
  (h : ∀ K : Act → World → Prop, (∀ a w, wpList P ops Q rest a w → K a w) → o.wp P a w K Q) : wpList P ops Q (o :: rest) a w :=
 wpList_step fun K hK => by simp only [hw, if_true]; exact h K hK
theorem load_part_if (hw : Region.wanted o (yielded ops a.tmps) = true) (T : TypeId) (x : Operand) (ho : o.op = .load T x) (b f : Nat) (hx : a.eval x = .pointer (some ⟨b, f, none⟩)) (part : Array Value) (d : TypeDesc) (hu : P.underlying T = some d) (hd : (match d with | .struct _ | .array _ _ => true | _ => false) = true) (hi : (P.info? T).map (·.size) = some part.size)
  {cs : Array Value} {t : TypeId} (hg : w.heap[b]? = some (.cells cs t (0, 0))) (hp : (cs.toList.drop f).take part.size = part.toList) (h : wpList P ops Q rest (a.put o.dst (.agg part)) w) : wpList P ops Q (o :: rest) a w :=
 wpList_some hw fun K hK => by
  unfold Oper.wp execOp
  simp only [ho, hx, Instr.loadAt, Instr.sureAddr, Sem.run_bind, Sem.run_pure, Result.andThen_ok, run_loadVar_part w b f t T cs part d hg hp hu hd hi]
  exact hK _ _ h
theorem load_part (hgd : o.guard = none) (T : TypeId) (x : Operand) (ho : o.op = .load T x) (b f : Nat) (hx : a.eval x = .pointer (some ⟨b, f, none⟩)) (part : Array Value) (d : TypeDesc) (hu : P.underlying T = some d) (hd : (match d with | .struct _ | .array _ _ => true | _ => false) = true) (hi : (P.info? T).map (·.size) = some part.size)
  {cs : Array Value} {t : TypeId} (hg : w.heap[b]? = some (.cells cs t (0, 0))) (hp : (cs.toList.drop f).take part.size = part.toList) (h : wpList P ops Q rest (a.put o.dst (.agg part)) w) : wpList P ops Q (o :: rest) a w :=
 load_part_if (by simp only [Region.wanted, hgd]) T x ho b f hx part d hu hd hi hg hp h
theorem store_part (hgd : o.guard = none) (T : TypeId) (x y : Operand) (ho : o.op = .store T x y) (b f : Nat) (part new : Array Value) (hx : a.eval x = .pointer (some ⟨b, f, none⟩)) (hy : a.eval y = .agg part) (hi : (P.info? T).map (·.size) = some part.size)
  {old : Array Value} {t : TypeId} (hg : w.heap[b]? = some (.cells old t (0, 0))) (hfit : f + part.size ≤ old.size) (hn : (old.toList.take f ++ part.toList ++ old.toList.drop (f + part.size)).toArray = new) (h1 : part.toList.all (·.oneCell') = true) (h : wpList P ops Q rest (a.put o.dst undef) (w.setRow b new)) : wpList P ops Q (o :: rest) a w :=
 wpList_plain hgd fun K hK => by
  unfold Oper.wp execOp
  simp only [ho, hx, hy, Instr.storeAt, Instr.sureAddr, Sem.run_bind, Sem.run_pure, Result.andThen_ok, run_storeVar_part w b f t T old part new hg hfit hn hi h1]
  exact hK _ _ h
end
end Go.Proofs.YthklebkpoccblaaGreat
namespace Go.Proofs.YthklebkpoccblaaGreat
open Go.RowKit
section
variable {P : Program} {ops : Array Oper} {S : World → Prop} {o : Oper} {a : Act}
theorem yields_build (hw : Region.wanted o (yielded ops a.tmps) = true) (t : TypeId) (parts : Array (Nat × Operand)) (ho : o.op = .build t parts) (cells : Array Value)
  (hf : P.built t (parts.map fun (i, x) => (i, a.eval x)).toList = some cells) : YieldsIf P ops S o (.agg cells) a :=
 Or.inl ⟨hw, fun w _ => by unfold execOp; simp only [ho, Sem.run_bind, run_build w t _ cells hf, Result.andThen_ok, Sem.run_pure]⟩
theorem yields_load_part (hw : Region.wanted o (yielded ops a.tmps) = true) (T : TypeId) (x : Operand) (ho : o.op = .load T x) (b f : Nat) (hx : a.eval x = .pointer (some ⟨b, f, none⟩)) (part : Array Value) (d : TypeDesc) (hu : P.underlying T = some d) (hd : (match d with | .struct _ | .array _ _ => true | _ => false) = true) (hi : (P.info? T).map (·.size) = some part.size)
  {cs : Array Value} {t : TypeId} (hp : (cs.toList.drop f).take part.size = part.toList) (hg : ∀ w, S w → w.heap[b]? = some (.cells cs t (0, 0))) : YieldsIf P ops S o (.agg part) a :=
 Or.inl ⟨hw, fun w hS => by
  unfold execOp
  simp only [ho, hx, Instr.loadAt, Instr.sureAddr, Sem.run_bind, Sem.run_pure, Result.andThen_ok, run_loadVar_part w b f t T cs part d (hg w hS) hp hu hd hi]⟩
theorem wp_load_part {K : Act → World → Prop} {Q : Exit → Act → World → Prop} {w : World} (T : TypeId) (x : Operand) (ho : o.op = .load T x) (b f : Nat) (hx : a.eval x = .pointer (some ⟨b, f, none⟩)) (part : Array Value) (d : TypeDesc) (hu : P.underlying T = some d) (hd : (match d with | .struct _ | .array _ _ => true | _ => false) = true) (hi : (P.info? T).map (·.size) = some part.size)
  {cs : Array Value} {t : TypeId} (hg : w.heap[b]? = some (.cells cs t (0, 0))) (hp : (cs.toList.drop f).take part.size = part.toList) (h : K (a.put o.dst (.agg part)) w) : o.wp P a w K Q := by
 unfold Oper.wp execOp
 simp only [ho, hx, Instr.loadAt, Instr.sureAddr, Sem.run_bind, Sem.run_pure, Result.andThen_ok, run_loadVar_part w b f t T cs part d hg hp hu hd hi]
 exact h
theorem wp_store_part {K : Act → World → Prop} {Q : Exit → Act → World → Prop} {w : World} (T : TypeId) (x y : Operand) (ho : o.op = .store T x y) (b f : Nat) (part new : Array Value) (hx : a.eval x = .pointer (some ⟨b, f, none⟩)) (hy : a.eval y = .agg part) (hi : (P.info? T).map (·.size) = some part.size)
  {old : Array Value} {t : TypeId} (hg : w.heap[b]? = some (.cells old t (0, 0))) (hfit : f + part.size ≤ old.size) (hn : (old.toList.take f ++ part.toList ++ old.toList.drop (f + part.size)).toArray = new) (h1 : part.toList.all (·.oneCell') = true) (h : K (a.put o.dst undef) (w.setRow b new)) : o.wp P a w K Q := by
 unfold Oper.wp execOp
 simp only [ho, hx, hy, Instr.storeAt, Instr.sureAddr, Sem.run_bind, Sem.run_pure, Result.andThen_ok, run_storeVar_part w b f t T old part new hg hfit hn hi h1]
 exact h
end
theorem grown_drewR {a b : World} {g : Nat} (h : a.grownBy b (some g)) : a.grownBy b.drew (some g) := ⟨h.os, h.tape, h.output, h.size, h.block⟩
theorem drawn_row {B g n c V : Nat} {A : Option Addr} {w : World} {cs : Array Value} (h : Drawn B g n c A w) (hV : V ≠ g) (hBV : B ≤ V) : Drawn B g n c A (w.setRow V cs) :=
 ⟨by rw [setRow_size]; exact h.hB, h.hBg, h.code.keep (fun p hp => World.cell?_of_block (setRow_other w V p.block cs (by omega))), h.cur.keep (setRow_other w V g cs (by omega))⟩
theorem grown_row {g V : Nat} {w w' : World} {cs : Array Value} (h : w.grownBy w' (some g)) (hV : w.heap.size ≤ V) : w.grownBy (w'.setRow V cs) (some g) :=
 ⟨h.os, h.tape, h.output, by rw [setRow_size]; exact h.size, fun k hk hn => (setRow_other w' V k cs (by omega)).trans (h.block k hk hn)⟩
end Go.Proofs.YthklebkpoccblaaGreat
namespace Go.Proofs.YthklebkpoccblaaGreat
theorem and16 (n : Int) : bits .and .i64 n 65535 = n % 65536 := i64_mask 16 (by omega) n 65535 (by decide)
theorem and10 (n : Int) : bits .and .i64 n 1023 = n % 1024 := i64_mask 10 (by omega) n 1023 (by decide)
theorem and9 (n : Int) : bits .and .i64 n 511 = n % 512 := i64_mask 9 (by omega) n 511 (by decide)
theorem and8 (n : Int) : bits .and .i64 n 255 = n % 256 := i64_mask 8 (by omega) n 255 (by decide)
def whereI (a : Int) : Int := if a % 65536 < 8192 then 0 else if a % 65536 < 12288 then 1 else if a % 65536 < 12544 then 2 else if a % 65536 < 61440 then 3 else 4
abbrev OkM (r o : ByteArray) : Prop := r.size ≤ 1024 ∧ o.size ≤ 512
def atB (s : ByteArray) (i : Nat) : Int := ((s.data.toList[i]?.getD 0).toNat : Int)
theorem atB_in (s : ByteArray) (i : Nat) (h : i < s.size) : atB s i = (s[i].toNat : Int) := by
 unfold atB
 have : s.data.toList[i]? = some s[i] := by simp [h]; rfl
 rw [this]; rfl
theorem atB_out (s : ByteArray) (i : Nat) (h : s.size ≤ i) : atB s i = 0 := by
 unfold atB
 have : s.data.toList[i]? = none := by rw [List.getElem?_eq_none_iff]; simpa using h
 rw [this]; rfl
def peekI (r o : ByteArray) (a v : Int) : Int := if OkM r o then (if whereI a = 0 then atB r (a % 1024).toNat else if whereI a = 4 then atB o (a % 512).toNat else v % 256) else 0
def padL (r : ByteArray) : List UInt8 := r.data.toList ++ List.replicate (1024 - r.size) 0
theorem padL_length (r : ByteArray) (h : r.size ≤ 1024) : (padL r).length = 1024 := by simp [padL]; omega
def pokeB (r : ByteArray) (a v : Int) : ByteArray := ⟨((padL r).set (a % 1024).toNat (b8 v)).toArray⟩
theorem pokeB_size (r : ByteArray) (a v : Int) (h : r.size ≤ 1024) : (pokeB r a v).size = 1024 := by
 show ((padL r).set _ _).toArray.size = _
 simp [padL_length r h]
def pokeR (r o : ByteArray) (a v : Int) : ByteArray := if OkM r o ∧ whereI a = 0 then pokeB r a v else r
def loadN (r o : ByteArray) (a : Int) (s : ByteArray) : Nat → ByteArray
 | 0 => r
 | k + 1 => pokeR (loadN r o a s k) o (a % 65536 + k) (atB s k)
def loadR (r o : ByteArray) (a : Int) (s : ByteArray) : ByteArray := if 1024 < s.size then r else loadN r o a s s.size
end Go.Proofs.YthklebkpoccblaaGreat
namespace Go.Proofs.YthklebkpoccblaaGreat
open Go.RowKit
def memV (r o : ByteArray) : Value := .agg #[.string r, .string o]
theorem spec_where (a : Int) (w : World) : Calls Tryz.prog 113 #[.int .i64 a] w fun e w' => e = .returned (.int .i64 (whereI a)) ∧ w = w' := by
 have h16 := and16 a
 have hd : whereI a = if a % 65536 < 8192 then 0 else if a % 65536 < 12288 then 1 else if a % 65536 < 12544 then 2 else if a % 65536 < 61440 then 3 else 4 := rfl
 have HD := Lib.hid hd
 clear hd
 generalize a % 65536 = x at *
 go_enter Tryz.func113, Tryz.ntmps113
 by_cases h1 : x < 8192
 ·have e := Lib.hid (show whereI a = 0 by rw [HD.out, if_pos h1])
  go_wp2
  go_ret
  exact ⟨by rw [e.out]; rfl, rfl⟩
 by_cases h2 : x < 12288
 ·have e := Lib.hid (show whereI a = 1 by rw [HD.out, if_neg h1, if_pos h2])
  go_wp2
  go_ret
  exact ⟨by rw [e.out]; rfl, rfl⟩
 by_cases h3 : x < 12544
 ·have e := Lib.hid (show whereI a = 2 by rw [HD.out, if_neg h1, if_neg h2, if_pos h3])
  go_wp2
  go_ret
  exact ⟨by rw [e.out]; rfl, rfl⟩
 by_cases h4 : x < 61440
 ·have e := Lib.hid (show whereI a = 3 by rw [HD.out, if_neg h1, if_neg h2, if_neg h3, if_pos h4])
  go_wp2
  go_ret
  exact ⟨by rw [e.out]; rfl, rfl⟩
 ·have e := Lib.hid (show whereI a = 4 by rw [HD.out, if_neg h1, if_neg h2, if_neg h3, if_neg h4])
  go_wp2
  go_ret
  exact ⟨by rw [e.out]; rfl, rfl⟩
theorem spec_memOk (r o : ByteArray) (w : World) : Calls Tryz.prog 112 #[memV r o] w fun e w' => e = .returned (.bool (decide (OkM r o))) ∧ Below w.heap.size w w' := by
 unfold memV
 obtain ⟨K, hK⟩ : ∃ K, K = decide (OkM r o) := ⟨_, rfl⟩
 rw [← hK]
 go_enter Tryz.func112, Tryz.ntmps112
 by_cases h1 : r.size ≤ 1024
 ·replace hK := Lib.hid (hK.trans (show decide (OkM r o) = decide ((o.size : Int) ≤ 512) from decide_eq_decide.2 (by unfold OkM; omega)))
  go_wp2
  go_ret
  exact ⟨by rw [hK.out]; rfl, below_alloc (Below.refl _ _) _⟩
 ·replace hK := Lib.hid (hK.trans (decide_eq_false (fun h => h1 h.1)))
  go_wp2
  go_ret
  exact ⟨by rw [hK.out]; rfl, below_alloc (Below.refl _ _) _⟩
theorem spec_at (s : ByteArray) (i : Nat) (w : World) : Calls Tryz.prog 114 #[.string s, .int .i64 (i : Int)] w fun e w' => e = .returned (.int .i64 (atB s i)) ∧ w = w' := by
 go_enter Tryz.func114, Tryz.ntmps114
 by_cases h : i < s.size
 ·have e := Lib.hid (atB_in s i h)
  have hb0 : (0 : Int) ≤ (s[i].toNat : Int) := by omega
  have hb1 : (s[i].toNat : Int) ≤ 255 := by have := s[i].toNat_lt; omega
  go_wp2
  go_ret
  exact ⟨by rw [e.out]; rfl, rfl⟩
 ·have e := Lib.hid (atB_out s i (by omega))
  go_wp2
  go_ret
  exact ⟨by rw [e.out]; rfl, rfl⟩
theorem spec_peek (r o : ByteArray) (a v : Int) (w : World) : Calls Tryz.prog 86 #[memV r o, .int .i64 a, .int .i64 v] w fun e w' => e = .returned (.int .i64 (peekI r o a v)) ∧ Below w.heap.size w w' := by
 have hk := Lib.hid (spec_memOk r o)
 have hw := Lib.hid (spec_where a)
 have h10 := and10 a
 have h9 := and9 a
 have h8 := and8 v
 have hd : peekI r o a v = if OkM r o then (if whereI a = 0 then atB r (a % 1024).toNat else if whereI a = 4 then atB o (a % 512).toNat else v % 256) else 0 := rfl
 obtain ⟨A, hA⟩ : ∃ A : Nat, (A : Int) = a % 1024 := ⟨(a % 1024).toNat, by omega⟩
 obtain ⟨C, hC⟩ : ∃ C : Nat, (C : Int) = a % 512 := ⟨(a % 512).toNat, by omega⟩
 rw [← hA, ← hC] at hd
 rw [← hA] at h10
 rw [← hC] at h9
 simp only [Int.toNat_natCast] at hd
 have hs1 := Lib.hid (spec_at r A)
 have hs2 := Lib.hid (spec_at o C)
 clear hA hC
 have HT := Lib.hid (twoAt_new w r o 80)
 have HL : w.heap.size < (w.alloc (.cells #[.string r, .string o] 80)).heap.size := by simp
 have HB := Lib.hid (below_alloc (Below.refl w.heap.size w) (.cells #[.string r, .string o] 80))
 have HL := Lib.hid HL
 unfold memV at hk ⊢
 obtain ⟨K, hK⟩ : ∃ K, K = decide (OkM r o) := ⟨_, rfl⟩
 rw [← hK] at hk
 have HK := Lib.hid hK
 clear hK
 go_enter Tryz.func86, Tryz.ntmps86
 go_wp2_with (go_at_call 112; (with_reducible refine (hk.out _).mono ?_); rintro e w1 ⟨rfl, hb⟩; refine Hid.out ?_)
 have HT := HT.out.below HL.out hb
 have HB := Lib.hid (below_then HB.out hb)
 obtain ⟨k0, k1⟩ := HT
 clear hb hk HL
 by_cases hok : OkM r o
 ·rw [if_pos hok] at hd
  have hK := HK.out
  rw [decide_eq_true hok] at hK
  clear HK
  subst hK
  clear hok
  by_cases h0 : whereI a = 0
  ·rw [if_pos h0] at hd
   rw [h0] at hw
   have HD := Lib.hid hd
   clear hd h0 hs2
   refine Lib.hid ?_
   go_wp2_with (first
    | (go_at_call 113; (with_reducible refine (hw.out _).mono ?_); rintro e w2 ⟨rfl, rfl⟩)
    | (go_at_call 114; (with_reducible refine (hs1.out _).mono ?_); rintro e w3 ⟨rfl, rfl⟩))
   go_ret
   exact ⟨by rw [HD.out]; rfl, HB.out⟩
  rw [if_neg h0] at hd
  by_cases h4 : whereI a = 4
  ·rw [if_pos h4] at hd
   rw [h4] at hw
   have HD := Lib.hid hd
   clear hd h0 h4 hs1
   refine Lib.hid ?_
   go_wp2_with (first
    | (go_at_call 113; (with_reducible refine (hw.out _).mono ?_); rintro e w2 ⟨rfl, rfl⟩)
    | (go_at_call 114; (with_reducible refine (hs2.out _).mono ?_); rintro e w3 ⟨rfl, rfl⟩))
   go_ret
   exact ⟨by rw [HD.out]; rfl, HB.out⟩
  ·rw [if_neg h4] at hd
   have HD := Lib.hid hd
   generalize whereI a = X at *
   clear hd hs1 hs2
   refine Lib.hid ?_
   go_wp2_with (go_at_call 113; (with_reducible refine (hw.out _).mono ?_); rintro e w2 ⟨rfl, rfl⟩)
   go_ret
   exact ⟨by rw [HD.out]; rfl, HB.out⟩
 ·rw [if_neg hok] at hd
  have hK := HK.out
  rw [decide_eq_false hok] at hK
  clear HK
  subst hK
  have HD := Lib.hid hd
  clear hd hok hs1 hs2 hw
  refine Lib.hid ?_
  go_wp2
  go_ret
  exact ⟨by rw [HD.out]; rfl, HB.out⟩
end Go.Proofs.YthklebkpoccblaaGreat
namespace Go.Proofs.YthklebkpoccblaaGreat
open Go.RowKit Go.Deep Go.WideShapes Go.ChangeShapes
theorem mem_size : (Tryz.prog.info? 80).map (·.size) = some 2 := by kernel_rfl
theorem infoB8 : (Tryz.prog.info? 5).map (fun i => (i.zero, i.size, i.bytes)) = some (some (.int .u8 0), 1, 1) := by kernel_rfl
theorem made_list (z : Value) (n : Nat) : (madeCells #[z] n).toList = List.replicate n z := by
 apply List.ext_getElem
 ·simp [size_madeCells]
 ·intro i h1 h2
  simp [madeCells, Nat.mod_one]
theorem pad_cells (r : ByteArray) : ((madeCells #[Value.int .u8 0] 1024).toList.take 0 ++ Lib.byteCells r.data.toList ++ (madeCells #[Value.int .u8 0] 1024).toList.drop (0 + r.size)).toArray = (Lib.byteCells (padL r)).toArray := by
 rw [made_list]
 unfold padL Lib.byteCells
 rw [List.map_append, List.map_replicate]
 have key : ∀ n : Nat, (List.take 0 (List.replicate n (Value.int .u8 0)) ++ r.data.toList.map (fun b => Value.int .u8 (b.toNat : Int)) ++ List.drop (0 + r.size) (List.replicate n (Value.int .u8 0))).toArray = (r.data.toList.map (fun b => Value.int .u8 (b.toNat : Int)) ++ List.replicate (n - r.size) (Value.int .u8 ((0 : UInt8).toNat : Int))).toArray := by
  intro n
  rw [List.take_zero, List.nil_append, Nat.zero_add, List.drop_replicate]
  rfl
 exact key 1024
theorem cells_set (l : List UInt8) (i : Nat) (v : Int) : (Lib.byteCells l).toArray.setIfInBounds i (.int .u8 (v % 256)) = (Lib.byteCells (l.set i (b8 v))).toArray := by
 have e : Value.int .u8 (v % 256) = (fun b : UInt8 => Value.int .u8 (b.toNat : Int)) (b8 v) := by show _ = Value.int .u8 ((b8 v).toNat : Int); rw [b8_val]
 rw [e, List.setIfInBounds_toArray]
 unfold Lib.byteCells
 rw [List.map_set]
set_option maxRecDepth 100000 in
set_option maxHeartbeats 2000000 in
theorem spec_poke (r o : ByteArray) (a v : Int) (w : World) : Calls Tryz.prog 85 #[memV r o, .int .i64 a, .int .i64 v] w fun e w' => e = .returned (memV (pokeR r o a v) o) ∧ Below w.heap.size w w' := by
 have hk := Lib.hid (spec_memOk r o)
 have hw := Lib.hid (spec_where a)
 have h10 := and10 a
 have hmk := run_make_row' (P := Tryz.prog) 22 5 (.int .u8 0) 1 Tryz.underlying22 infoB8 rfl .i64 .i64 1024 (by omega) (by omega)
 have hmk : ∀ w, (Instr.makeSlice 22 (.int .i64 1024) (.int .i64 1024)).run Tryz.prog w = .ok (.slice (some ⟨w.heap.size, 0, none⟩) 1024 1024) (w.alloc (.cells (madeCells #[.int .u8 0] 1024) 5)) := hmk
 have hM := blk_new w (.cells #[.string r, .string o] 80)
 have hM := blk_old (o := .cells #[.string ⟨#[]⟩, .string ⟨#[]⟩] 80) hM
 have hR := blk_new (w.alloc (.cells #[.string r, .string o] 80)) (.cells #[.string ⟨#[]⟩, .string ⟨#[]⟩] 80)
 have e1 : (w.alloc (.cells #[.string r, .string o] 80)).heap.size = w.heap.size + 1 := by simp
 rw [e1] at hR
 clear e1
 have HM := Lib.hid hM
 have HR := Lib.hid hR
 have HB := Lib.hid (below_alloc (below_alloc (Below.refl w.heap.size w) (.cells #[.string r, .string o] 80)) (.cells #[.string ⟨#[]⟩, .string ⟨#[]⟩] 80))
 clear hM hR
 unfold memV at hk ⊢
 obtain ⟨K, hK⟩ : ∃ K, K = decide (OkM r o) := ⟨_, rfl⟩
 rw [← hK] at hk
 have HK := Lib.hid hK
 clear hK
 go_enter Tryz.func85, Tryz.ntmps85
 go_wp2_with (go_at_call 112; (with_reducible refine (hk.out _).mono ?_); rintro e w1 ⟨rfl, hb⟩; refine Hid.out ?_)
 have HM := Lib.hid (blk_below HM.out hb)
 have HR := Lib.hid (blk_below HR.out hb)
 have HB := Lib.hid (below_then HB.out hb)
 have hL := hb.size
 simp only [World.size_alloc] at hL
 clear hb
 by_cases hok : OkM r o
 ·have hK := HK.out
  rw [decide_eq_true hok] at hK
  clear HK
  subst hK
  by_cases h0 : whereI a = 0
  ·rw [h0] at hw
   have hr0 := cell_of_blk (i := 0) (blk_old (o := .cells (madeCells #[.int .u8 0] 1024) 5) HM.out) rfl
   have hrow := blk_new w1 (.cells (madeCells #[.int .u8 0] 1024) 5)
   have hcp := Lib.run_copy_row_string (P := Tryz.prog) (w1.alloc (.cells (madeCells #[.int .u8 0] 1024) 5)) 22 9 3 5 w1.heap.size 0 1024 1024 r _ 5 Tryz.underlying22 rfl hrow (by have := hok.1; omega) (by rw [size_madeCells]; have := hok.1; simp; omega)
   rw [pad_cells r] at hcp
   have hM3 := (setRow_other (w1.alloc (.cells (madeCells #[.int .u8 0] 1024) 5)) w1.heap.size w.heap.size (Lib.byteCells (padL r)).toArray (by omega)).trans (blk_old HM.out)
   have hR3 := (setRow_other (w1.alloc (.cells (madeCells #[.int .u8 0] 1024) 5)) w1.heap.size (w.heap.size + 1) (Lib.byteCells (padL r)).toArray (by omega)).trans (blk_old HR.out)
   have hW3 := setRow_heap _ _ _ (Lib.byteCells (padL r)).toArray _ _ hrow
   have hB3 : Below w.heap.size w ((w1.alloc (.cells (madeCells #[.int .u8 0] 1024) 5)).setRow w1.heap.size (Lib.byteCells (padL r)).toArray) := below_setRow (below_alloc HB.out _) (by omega) _
   have hL3 : ((w1.alloc (.cells (madeCells #[.int .u8 0] 1024) 5)).setRow w1.heap.size (Lib.byteCells (padL r)).toArray).heap.size = w1.heap.size + 1 := by simp
   obtain ⟨W3, hW⟩ : ∃ W3, W3 = (w1.alloc (.cells (madeCells #[.int .u8 0] 1024) 5)).setRow w1.heap.size (Lib.byteCells (padL r)).toArray := ⟨_, rfl⟩
   rw [← hW] at hcp hM3 hR3 hW3 hB3 hL3
   clear hW hrow
   obtain ⟨A, hA⟩ : ∃ A : Nat, (A : Int) = a % 1024 := ⟨(a % 1024).toNat, by omega⟩
   have hA1 : A < 1024 := by omega
   have hpl := padL_length r hok.1
   obtain ⟨x, hcA⟩ : ∃ x : Int, W3.cell? ⟨w1.heap.size, A, none⟩ = some (.int .u8 x) := ⟨((padL r)[A]'(by omega)).toNat, cell_of_blk hW3 (by simp [Lib.byteCells, hpl, hA1])⟩
   have hfA : W3.frozen? ⟨w1.heap.size, A, none⟩ = false := free_of_blk hW3
   have hW4 := heap_setCell_same W3 w1.heap.size A _ _ (.int .u8 (v % 256)) hW3
   rw [cells_set] at hW4
   have hM4 := (heap_setCell_other W3 ⟨w1.heap.size, A, none⟩ w.heap.size (.int .u8 (v % 256)) (by simp; omega)).trans hM3
   have hR4 := (heap_setCell_other W3 ⟨w1.heap.size, A, none⟩ (w.heap.size + 1) (.int .u8 (v % 256)) (by simp; omega)).trans hR3
   have hB4 := hB3.setCell (p := ⟨w1.heap.size, A, none⟩) (by simp; omega) (.int .u8 (v % 256))
   have hcv := run_convert_bytes_back (P := Tryz.prog) (W3.setCell ⟨w1.heap.size, A, none⟩ (.int .u8 (v % 256))) 22 9 5 ⟨w1.heap.size, 0, none⟩ 1024 ((padL r).set A (b8 v)) Tryz.underlying22 Tryz.underlying5 Tryz.underlying9 (fun j hj => by
    have hc := cell_of_blk (i := j) (v := .int .u8 (((padL r).set A (b8 v))[j]).toNat) hW4 (by simp only [Lib.byteCells, List.getElem?_toArray, List.getElem?_map, List.getElem?_eq_getElem hj, Option.map_some])
    cases j with
    | zero => simpa [Addr.add] using hc
    | succ j => simpa [Addr.add] using hc)
   rw [List.length_set, hpl] at hcv
   have hp : pokeR r o a v = ⟨((padL r).set A (b8 v)).toArray⟩ := by
    unfold pokeR pokeB
    rw [if_pos ⟨hok, h0⟩, ← hA, Int.toNat_natCast]
   obtain ⟨N, hN⟩ : ∃ N : ByteArray, N = ⟨((padL r).set A (b8 v)).toArray⟩ := ⟨_, rfl⟩
   rw [← hN] at hp hcv
   clear hN
   have HP := Lib.hid hp
   rw [← hA] at h10
   clear hp hpl hA hW3 hM3 hR3 hB3 hk h0 hok
   have hm0 := cell_of_blk (i := 0) hM4 rfl
   have hg0 : (W3.setCell ⟨w1.heap.size, A, none⟩ (.int .u8 (v % 256))).frozen? ⟨w.heap.size, 0, none⟩ = false := free_of_blk hM4
   have hM5 := Lib.hid (heap_setCell_same _ w.heap.size 0 _ _ (.string N) hM4)
   have hR5 := Lib.hid ((heap_setCell_other _ ⟨w.heap.size, 0, none⟩ (w.heap.size + 1) (.string N) (by simp)).trans hR4)
   have hB5 := Lib.hid (hB4.setCell (p := ⟨w.heap.size, 0, none⟩) (Nat.le_refl _) (.string N))
   have hst : (Tryz.prog.info? 80).map (·.size) = some 2 := mem_size
   clear hM4 hR4 hB4 hW4 HM HR HB
   refine Lib.hid ?_
   go_wp2_with (first
    | (go_at_call 113; (with_reducible refine (hw.out _).mono ?_); rintro e w2 ⟨rfl, rfl⟩)
    | (refine wpList_load_row rfl 80 (.tmp 3) rfl w.heap.size ?a1 80 #[.string N, .string o] (0, 0) _ ?a2 Tryz.underlying80 rfl ?a3 ?_)
    | (refine wpList_store_row rfl 80 (.tmp 6) (.tmp 31) rfl (w.heap.size + 1) #[.string N, .string o] ?a4 ?a5 80 #[.string ⟨#[]⟩, .string ⟨#[]⟩] ?a6 ?a7 ?a8 ?a9 ?_))
   try (case a1 => rfl)
   case a2 => exact hM5.out
   case a3 => exact hst
   try (case a4 => rfl)
   try (case a5 => rfl)
   case a6 => exact hR5.out
   case a7 => exact hst
   case a8 => rfl
   case a9 => simp [Value.oneCell']
   have hend := setRow_heap _ _ _ #[.string N, .string o] _ _ hR5.out
   exact bodyPost_ret (v := .agg #[.string N, .string o]) (results_cell_row rfl _ _ (w.heap.size + 1) _ _ _ _ rfl hend Tryz.underlying80 rfl mem_size) rfl ⟨by rw [HP.out], below_setRow hB5.out (by omega) _⟩
  ·have hp : pokeR r o a v = r := by unfold pokeR; rw [if_neg (fun h => h0 h.2)]
   have HP := Lib.hid hp
   have hst : (Tryz.prog.info? 80).map (·.size) = some 2 := mem_size
   generalize whereI a = X at *
   clear hp hmk hok
   refine Lib.hid ?_
   go_wp2_with (first
    | (go_at_call 113; (with_reducible refine (hw.out _).mono ?_); rintro e w2 ⟨rfl, rfl⟩)
    | (refine wpList_load_row rfl 80 (.tmp 3) rfl w.heap.size ?b1 80 #[.string r, .string o] (0, 0) _ ?b2 Tryz.underlying80 rfl ?b3 ?_)
    | (refine wpList_store_row rfl 80 (.tmp 6) (.tmp 16) rfl (w.heap.size + 1) #[.string r, .string o] ?b4 ?b5 80 #[.string ⟨#[]⟩, .string ⟨#[]⟩] ?b6 ?b7 ?b8 ?b9 ?_))
   try (case b1 => rfl)
   case b2 => exact HM.out
   case b3 => exact hst
   try (case b4 => rfl)
   try (case b5 => rfl)
   case b6 => exact HR.out
   case b7 => exact hst
   case b8 => rfl
   case b9 => simp [Value.oneCell']
   have hend := setRow_heap _ _ _ #[.string r, .string o] _ _ HR.out
   exact bodyPost_ret (v := .agg #[.string r, .string o]) (results_cell_row rfl _ _ (w.heap.size + 1) _ _ _ _ rfl hend Tryz.underlying80 rfl mem_size) rfl ⟨by rw [HP.out], below_setRow HB.out (by omega) _⟩
 ·have hp : pokeR r o a v = r := by unfold pokeR; rw [if_neg (fun h => hok h.1)]
  have HP := Lib.hid hp
  have hK := HK.out
  rw [decide_eq_false hok] at hK
  clear HK
  subst hK
  have hst : (Tryz.prog.info? 80).map (·.size) = some 2 := mem_size
  clear hp hmk hok
  refine Lib.hid ?_
  go_wp2_with (first
   | (refine wpList_load_row rfl 80 (.tmp 3) rfl w.heap.size ?c1 80 #[.string r, .string o] (0, 0) _ ?c2 Tryz.underlying80 rfl ?c3 ?_)
   | (refine wpList_store_row rfl 80 (.tmp 6) (.tmp 16) rfl (w.heap.size + 1) #[.string r, .string o] ?c4 ?c5 80 #[.string ⟨#[]⟩, .string ⟨#[]⟩] ?c6 ?c7 ?c8 ?c9 ?_))
  try (case c1 => rfl)
  case c2 => exact HM.out
  case c3 => exact hst
  try (case c4 => rfl)
  try (case c5 => rfl)
  case c6 => exact HR.out
  case c7 => exact hst
  case c8 => rfl
  case c9 => simp [Value.oneCell']
  have hend := setRow_heap _ _ _ #[.string r, .string o] _ _ HR.out
  exact bodyPost_ret (v := .agg #[.string r, .string o]) (results_cell_row rfl _ _ (w.heap.size + 1) _ _ _ _ rfl hend Tryz.underlying80 rfl mem_size) rfl ⟨by rw [HP.out], below_setRow HB.out (by omega) _⟩
end Go.Proofs.YthklebkpoccblaaGreat
namespace Go.Proofs.YthklebkpoccblaaGreat
open Go.RowKit Go.Deep Go.WideShapes Go.ChangeShapes
set_option maxRecDepth 100000 in
set_option maxHeartbeats 2000000 in
theorem spec_load (r o : ByteArray) (a : Int) (s : ByteArray) (hs : s.size ≤ maxLen) (w : World) : Calls Tryz.prog 110 #[memV r o, .int .i64 a, .string s] w fun e w' => e = .returned (memV (loadR r o a s) o) ∧ Below w.heap.size w w' := by
 unfold maxLen at hs
 have h16 := and16 a
 have hM := blk_new w (.cells #[.string r, .string o] 80)
 have hM := blk_old (o := .cells #[.string ⟨#[]⟩, .string ⟨#[]⟩] 80) hM
 have hR := blk_new (w.alloc (.cells #[.string r, .string o] 80)) (.cells #[.string ⟨#[]⟩, .string ⟨#[]⟩] 80)
 have e1 : (w.alloc (.cells #[.string r, .string o] 80)).heap.size = w.heap.size + 1 := by simp
 rw [e1] at hR
 clear e1
 have HM := Lib.hid hM
 have HR := Lib.hid hR
 have HB := Lib.hid (below_alloc (below_alloc (Below.refl w.heap.size w) (.cells #[.string r, .string o] 80)) (.cells #[.string ⟨#[]⟩, .string ⟨#[]⟩] 80))
 clear hM hR
 have hst : (Tryz.prog.info? 80).map (·.size) = some 2 := mem_size
 unfold memV
 go_enter Tryz.func110, Tryz.ntmps110
 by_cases hbig : 1024 < s.size
 ·have hp : loadR r o a s = r := by unfold loadR; rw [if_pos hbig]
  have HP := Lib.hid hp
  clear hp
  go_wp2
  exact bodyPost_ret (v := .agg #[.string r, .string o]) (by simp [results, Tryz.results110, go_sem]) rfl ⟨by rw [HP.out], below_alloc (below_alloc (Below.refl _ _) _) _⟩
 ·have hp : loadR r o a s = loadN r o a s s.size := by unfold loadR; rw [if_neg hbig]
  have HP := Lib.hid hp
  clear hp
  go_wp2_with (fail)
  go_loopw [7] (fun v7 wr => ∃ k : Nat, k ≤ s.size ∧ v7 = .int .i64 (k : Int) ∧ Hid (wr.heap[w.heap.size]? = some (.cells #[.string (loadN r o a s k), .string o] 80 (0, 0))) ∧ Hid (wr.heap[w.heap.size + 1]? = some (.cells #[.string ⟨#[]⟩, .string ⟨#[]⟩] 80 (0, 0))) ∧ Hid (Below w.heap.size w wr)) (fun v7 _ => s.size - (intOf v7).toNat)
  case atStart => exact ⟨0, by omega, rfl, HM, HR, HB⟩
  case round =>
   obtain ⟨k, hk, rfl, hm, hr, hb⟩ := hrel
   clear HM HR HB
   by_cases hlt : k < s.size
   ·have hpk := fun w => spec_poke (loadN r o a s k) o (a % 65536 + k) (atB s k) w
    have hat := atB_in s k hlt
    have hstep : loadN r o a s (k + 1) = pokeR (loadN r o a s k) o (a % 65536 + k) (atB s k) := rfl
    have HS := Lib.hid hstep
    rw [← hstep] at hpk
    clear hstep
    rw [hat] at hpk
    have hb0 : (0 : Int) ≤ (s[k].toNat : Int) := by omega
    have hb1 : (s[k].toNat : Int) ≤ 255 := by have := s[k].toNat_lt; omega
    unfold memV at hpk
    generalize loadN r o a s k = N at *
    have HPK := Lib.hid hpk
    clear hpk hat
    have c0 := cell_of_blk (i := 0) hm.out rfl
    have c1 := cell_of_blk (i := 1) hm.out rfl
    have hw1 : IntKind.i64.wrap (a % 65536 + (k : Int)) = a % 65536 + (k : Int) := IntWalk.i64_in _ ⟨by omega, by omega⟩
    have hw2 : IntKind.i64.wrap (s[k].toNat : Int) = (s[k].toNat : Int) := IntWalk.i64_in _ ⟨by omega, by omega⟩
    go_wp2
    go_region_with (go_at_call 85; (with_reducible refine (HPK.out _).mono ?_); rintro e w2 ⟨rfl, hb2⟩; obtain ⟨q0, q1, f0, f1⟩ := two_keep (w := wr.drew) hm.out hb2)
    all_goals
     go_wp2
     go_roundw
     case rel =>
      have hb2 : Below wr.heap.size wr w2 := (Below.refl wr.heap.size wr).drew.trans hb2
      refine ⟨k + 1, by omega, by go_num, Lib.hid (two_put (blk_below hm.out hb2) _ _), Lib.hid ((put_other (by omega) _ _).trans (blk_below hr.out hb2)), Lib.hid (((below_then hb.out hb2).setCell (Nat.le_refl _) _).setCell (Nat.le_refl _) _)⟩
     case measure => simp [intOf]; omega
   ·obtain rfl : k = s.size := by omega
    go_wp2_with (first
     | (refine wpList_load_row rfl 80 (.tmp 3) rfl w.heap.size ?d1 80 #[.string (loadN r o a s s.size), .string o] (0, 0) _ ?d2 Tryz.underlying80 rfl ?d3 ?_)
     | (refine wpList_store_row rfl 80 (.tmp 6) (.tmp 28) rfl (w.heap.size + 1) #[.string (loadN r o a s s.size), .string o] ?d4 ?d5 80 #[.string ⟨#[]⟩, .string ⟨#[]⟩] ?d6 ?d7 ?d8 ?d9 ?_))
    try (case d1 => rfl)
    case d2 => exact hm.out
    case d3 => exact hst
    try (case d4 => rfl)
    try (case d5 => rfl)
    case d6 => exact hr.out
    case d7 => exact hst
    case d8 => rfl
    case d9 => simp [Value.oneCell']
    have hend := setRow_heap _ _ _ #[.string (loadN r o a s s.size), .string o] _ _ hr.out
    exact bodyPost_ret (v := .agg #[.string (loadN r o a s s.size), .string o]) (results_cell_row rfl _ _ (w.heap.size + 1) _ _ _ _ rfl hend Tryz.underlying80 rfl mem_size) rfl ⟨by rw [HP.out], below_setRow hb.out (by omega) _⟩
end Go.Proofs.YthklebkpoccblaaGreat
