/-
  Texts put together by one of any number of them (chapter 13).
  Conditions: none; old memory stays as it was.
-/
import Derived.Test.YtboeaeoefoabdaaGreatDoorHxB
import Derived.Test.YtboeaeoefoabdaaGreatDoorAsA
import Derived.Test.YtboeaeoefoabdaaGreatDoorBel
import Derived.Laws.CopyOwn
import Derived.Lib.BufferWrite
import Derived.BigQuiet
import Derived.Lib.Hide
namespace Go.Proofs.YtboeaeoefoabdaaGreatDoor
open Go.RowKit Go.Deep Go.WideShapes Go.ChangeShapes
/-- 'copy' out of a text into a row that is known whole: whatever the slice's address where nothing goes over. -/
theorem wpList_copy_text {P : Program} {w : World} {ops : Array Oper} {rest : List Oper} {o : Oper} {a : Act} {Q : Exit → Act → World → Prop} (hgd : o.guard = none) (d s : Operand) (dT sT : TypeId)
    (ho : o.op = .call { callee := .builtin .copy, args := #[d, s], argTypes := #[dT, sT] }) (elem : TypeId) (hu : P.underlying dT = some (.slice elem)) (hsz : (P.info? elem).map (·.size) = some 1)
    (t : ByteArray) (hs : a.eval s = .string t) (dp : Option Addr) (dLen dCap : Nat) (hd : a.eval d = .slice dp dLen dCap) (hle : t.size ≤ dLen)
    (g off : Nat) (cur : List Value) (ty : TypeId) (hg : w.heap[g]? = some (.cells cur.toArray ty (0, 0))) (hpos : 0 < t.size → dp = some ⟨g, off, none⟩) (hfit : off + t.size ≤ cur.length)
    (B : Nat) (w0 : World) (hb : Below B w0 w) (hBg : B ≤ g)
    (h : ∀ w', Hid (w'.heap[g]? = some (.cells (splice cur off (Lib.byteCells t.data.toList)).toArray ty (0, 0))) → Below B w0 w' → wpList P ops Q rest (a.put o.dst (goInt t.size)) w') :
    wpList P ops Q (o :: rest) a w := by
  refine wpList_plain hgd fun K hK => ?_
  by_cases h0 : t.size = 0
  · have hrun := Lib.run_copy_empty_string (P := P) w dT sT o.type elem dp dLen dCap t hu (by cases hq : P.info? elem with | none => simp [hq] at hsz | some i => rfl) h0
    unfold Oper.wp
    simp [execOp, ho, resolve, invoke, builtin, hd, hs, hrun, Result.andThen]
    have e : t.data.toList = [] := List.eq_nil_of_length_eq_zero (by simpa using h0)
    have := h w (Lib.hid (by rw [e]; simpa [splice, Lib.byteCells] using hg)) hb
    rw [h0] at this
    exact hK _ _ this
  · have hrun := Lib.run_copy_row_string (P := P) w dT sT o.type elem g off dLen dCap t cur.toArray ty hu hsz hg hle (by simpa using hfit)
    obtain rfl := hpos (by omega)
    unfold Oper.wp
    simp [execOp, ho, resolve, invoke, builtin, hd, hs, hrun, Result.andThen]
    refine hK _ _ (h _ (Lib.hid ?_) (below_setRow hb hBg _))
    have e := setRow_heap w g cur.toArray (splice cur off (Lib.byteCells t.data.toList)).toArray ty (0, 0) hg
    simpa [splice, Lib.byteCells] using e
/-- All bytes of texts, one behind the other. -/
def flatB (xs : List ByteArray) : List UInt8 := xs.flatMap fun x => x.data.toList
theorem flatB_take (xs : List ByteArray) (k : Nat) (h : k < xs.length) : flatB (xs.take (k + 1)) = flatB (xs.take k) ++ xs[k].data.toList := by
  have e : xs.take (k + 1) = xs.take k ++ [xs[k]] := List.take_succ_eq_append_getElem h
  rw [e]; unfold flatB; rw [List.flatMap_append]; simp
theorem flatB_le (xs : List ByteArray) (k : Nat) : (flatB (xs.take k)).length ≤ (flatB xs).length := by
  conv => rhs; rw [← List.take_append_drop k xs]
  unfold flatB
  rw [List.flatMap_append, List.length_append]; omega
/-- A list of texts in memory. -/
def TextsAt (w : World) (A : Option Addr) (xs : List ByteArray) : Prop := xs = [] ∨ ∃ g, A = some ⟨g, 0, none⟩ ∧ g < w.heap.size ∧ ∀ i (h : i < xs.length), w.cell? ⟨g, i, none⟩ = some (.string xs[i])
def rowJ (l : List UInt8) (n : Nat) : List Value := Lib.byteCells l ++ List.replicate (n - l.length) (.int .u8 0)
theorem rowJ_nil (n : Nat) : rowJ [] n = List.replicate n (.int .u8 0) := by simp [rowJ, Lib.byteCells]
theorem rowJ_splice (l s : List UInt8) (n : Nat) : splice (rowJ l n) l.length (Lib.byteCells s) = rowJ (l ++ s) n := by
  have e1 : (rowJ l n).take l.length = Lib.byteCells l := by
    unfold rowJ
    rw [List.take_append_of_le_length (by simp [Lib.byteCells])]
    exact List.take_of_length_le (by simp [Lib.byteCells])
  have e2 : (rowJ l n).drop (l.length + (Lib.byteCells s).length) = List.replicate (n - (l ++ s).length) (.int .u8 0) := by
    unfold rowJ
    rw [← List.drop_drop, show l.length = (Lib.byteCells l).length by simp [Lib.byteCells], List.drop_left]
    simp [Lib.byteCells]; omega
  unfold splice
  rw [e1, e2]
  unfold rowJ
  simp [Lib.byteCells]
theorem rowJ_all (l : List UInt8) : rowJ l l.length = l.map fun c => Value.int .u8 (c.toNat : Int) := by simp [rowJ, Lib.byteCells]
set_option maxRecDepth 100000 in
set_option maxHeartbeats 4000000 in
theorem impl_joined (xs : List ByteArray) (A : Option Addr) (cap : Nat) (hb : (flatB xs).length ≤ 1048576000) (hn : xs.length ≤ 1048576000) (w : World) (hx : TextsAt w A xs) :
    Calls Tryz.prog 70 #[.slice A xs.length cap] w fun e w' => e = .returned (.string ⟨(flatB xs).toArray⟩) ∧ Below w.heap.size w w' := by
  have HX := Lib.hid hx
  obtain ⟨n, hN⟩ : ∃ n, n = (flatB xs).length := ⟨_, rfl⟩
  have hle := flatB_le xs
  have hlen : ∀ k (h : k < xs.length), (flatB (xs.take (k + 1))).length = (flatB (xs.take k)).length + xs[k].size := fun k h => by rw [flatB_take xs k h]; simp
  rw [← hN] at hb hle
  have HLE := Lib.hid hle
  have HLEN := Lib.hid hlen
  have HB := Lib.hid hb
  have HNN := Lib.hid hN
  clear hx hle hlen hN
  go_enter Tryz.func70, Tryz.ntmps70
  go_wp2
  go_loopw [3, 12] (fun v3 v12 wr => ∃ k : Nat, k ≤ xs.length ∧ v12 = .int .i64 k ∧ v3 = .int .i64 ((flatB (xs.take k)).length : Int) ∧ w = wr) (fun _ v12 _ => xs.length - (intOf v12).toNat)
  case atStart => exact ⟨0, by omega, rfl, rfl, rfl⟩
  case round =>
    obtain ⟨k, hk, rfl, rfl, rfl⟩ := hrel
    by_cases hlt : k < xs.length
    · rcases HX.out with rfl | ⟨g, rfl, hg, hc⟩
      · exact absurd hlt (Nat.not_lt_zero _)
      have hc := hc k hlt
      have e := HLEN.out k hlt
      have l1 := HLE.out (k + 1)
      have b1 := HB.out
      have hsz : (xs[k].size : Int) ≤ 1048576000 := by omega
      have hs0 : ((flatB (xs.take k)).length : Int) ≤ 1048576000 := by omega
      have HE := Lib.hid e
      clear e l1 b1
      go_wp2
      go_roundw
      case rel => exact ⟨k + 1, by omega, by go_num, by rw [HE.out]; go_num, trivial⟩
      case measure => simp [intOf]; omega
    · obtain rfl : k = xs.length := by omega
      have e : (flatB (xs.take xs.length)).length = n := by rw [List.take_length, HNN.out]
      rw [e]
      clear e
      have hmk := run_make_row' (P := Tryz.prog) 22 5 (.int .u8 0) 1 Tryz.underlying22 infoU8 rfl .i64 .i64 n (by omega) (by omega)
      go_wp2
      go_loopw [7, 25] (fun v7 v25 wr => ∃ k : Nat, k ≤ xs.length ∧ v25 = .int .i64 k ∧ v7 = .int .i64 ((flatB (xs.take k)).length : Int) ∧ wr.heap[w.heap.size]? = some (.cells (rowJ (flatB (xs.take k)) n).toArray 5 (0, 0)) ∧ Below w.heap.size w wr) (fun _ v25 _ => xs.length - (intOf v25).toNat)
      case atStart =>
        refine ⟨0, by omega, rfl, rfl, ?_, below_alloc (Below.refl _ _) _⟩
        rw [show flatB (xs.take 0) = [] from rfl, rowJ_nil]
        have e := heap_alloc_new w (Obj.cells (madeCells #[Value.int IntKind.u8 0] n) 5)
        have em : madeCells #[Value.int IntKind.u8 0] n = (List.replicate n (Value.int .u8 0)).toArray := by rw [← toList_madeCells_one]
        exact e.trans (by rw [em])
      case round =>
        obtain ⟨k, hk, rfl, rfl, hrow, hbl⟩ := hrel
        by_cases hlt : k < xs.length
        · rcases HX.out with rfl | ⟨g, rfl, hg, hc⟩
          · exact absurd hlt (Nat.not_lt_zero _)
          have hc : wr.cell? ⟨g, k, none⟩ = some (.string xs[k]) := (hbl.cell (p := ⟨g, k, none⟩) hg).trans (hc k hlt)
          have e := HLEN.out k hlt
          have l1 := HLE.out (k + 1)
          have b1 := HB.out
          have l2 := HLE.out k
          obtain ⟨o, ho⟩ : ∃ o, o = (flatB (xs.take k)).length := ⟨_, rfl⟩
          have hcl : (rowJ (flatB (xs.take k)) n).length = n := by simp [rowJ, Lib.byteCells]; omega
          have hsp := rowJ_splice (flatB (xs.take k)) xs[k].data.toList n
          rw [← flatB_take xs k hlt, ← ho] at hsp
          rw [← ho] at e l2
          rw [← ho]
          have hsz : (xs[k].size : Int) ≤ 1048576000 := by omega
          have hs0 : (o : Int) ≤ 1048576000 := by omega
          have hon : (o : Int) ≤ (n : Int) := by omega
          generalize rowJ (flatB (xs.take k)) n = cur at hrow hcl hsp
          replace hsp := Lib.hid hsp
          replace hrow := Lib.hid hrow
          replace hbl := Lib.hid hbl
          have HE := Lib.hid e
          have HL1 := Lib.hid l1
          clear e l1 b1 ho
          generalize hX : xs[k] = x at *
          by_cases hz : x.size = 0
          · have hrun : ∀ (d : Option Addr) (p q : Nat), (Builtin.copy_ #[22, 9] 3 #[.slice d p q, .string x]).run Tryz.prog wr = .ok (.int .i64 0) wr := fun d p q => Lib.run_copy_empty_string wr 22 9 3 5 d p q x Tryz.underlying22 (by kernel_rfl) hz
            have h0 : x.data.toList = [] := List.eq_nil_of_length_eq_zero (by simpa using hz)
            have hrow2 : Hid (wr.heap[w.heap.size]? = some (.cells (rowJ (flatB (xs.take (k + 1))) n).toArray 5 (0, 0))) := Lib.hid (by
              have e2 := hsp.out
              rw [h0] at e2
              rw [← e2]
              simpa [splice, Lib.byteCells] using hrow.out)
            rw [hz] at HE
            clear hsp h0 hz hrow
            go_wp2
            all_goals go_roundw
            all_goals first
              | exact ⟨k + 1, by omega, by go_num, by rw [HE.out]; go_num, hrow2.out, hbl.out⟩
              | (simp [intOf]; omega)
          · have hfit : o + x.size ≤ n := by have e1 := HE.out; have e2 := HL1.out; omega
            have hlto : (o : Int) < (n : Int) := by omega
            have hcur := hrow.out
            have hrun : (Builtin.copy_ #[22, 9] 3 #[.slice (some ⟨w.heap.size, o, none⟩) (n - o) (n - o), .string x]).run Tryz.prog wr = .ok (.int .i64 (x.size : Int)) (wr.setRow w.heap.size (cur.toArray.toList.take o ++ Lib.byteCells x.data.toList ++ cur.toArray.toList.drop (o + x.size)).toArray) := Lib.run_copy_row_string wr 22 9 3 5 w.heap.size o (n - o) (n - o) x cur.toArray 5 Tryz.underlying22 (by kernel_rfl) hcur (by omega) (by simp; omega)
            replace hfit := Lib.hid hfit
            obtain ⟨w2, hw2⟩ : ∃ w2, w2 = wr.setRow w.heap.size (cur.toArray.toList.take o ++ Lib.byteCells x.data.toList ++ cur.toArray.toList.drop (o + x.size)).toArray := ⟨_, rfl⟩
            rw [← hw2] at hrun
            have hrow2 : Hid (w2.heap[w.heap.size]? = some (.cells (rowJ (flatB (xs.take (k + 1))) n).toArray 5 (0, 0))) := Lib.hid (by
              have e := setRow_heap wr w.heap.size cur.toArray (splice cur o (Lib.byteCells x.data.toList)).toArray 5 (0, 0) hcur
              rw [← hsp.out, hw2, ← e]
              simp [splice, Lib.byteCells])
            have hb2 : Hid (Below w.heap.size w w2) := Lib.hid (by rw [hw2]; exact below_setRow hbl.out (Nat.le_refl _) _)
            clear hsp hw2 hcur hrow
            go_wp2
            all_goals go_roundw
            all_goals first
              | exact ⟨k + 1, by omega, by go_num, by rw [HE.out]; go_num, hrow2.out, hb2.out⟩
              | (simp [intOf]; omega)
        · obtain rfl : k = xs.length := by omega
          rw [List.take_length, HNN.out, rowJ_all] at hrow
          have hcv := run_convert_bytes_back (P := Tryz.prog) wr 22 9 5 ⟨w.heap.size, 0, none⟩ (flatB xs).length (flatB xs) Tryz.underlying22 Tryz.underlying5 Tryz.underlying9 (fun j hj => by
            rw [addr_add]
            refine cell_of_blk hrow ?_
            simp [List.getElem?_eq_getElem hj])
          have HN2 := HNN.out
          subst HN2
          replace hbl := Lib.hid hbl
          clear hrow
          go_wp2
          go_ret
          exact ⟨rfl, hbl.out⟩
end Go.Proofs.YtboeaeoefoabdaaGreatDoor
