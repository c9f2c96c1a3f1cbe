/-
  Texts put together by program: AsE, AsJ, Two.
  Conditions: as each theorem says.
-/
import Derived.Laws.CopyOwn
import Derived.Lib.BufferWrite
import Derived.Test.YtboeaeoefoabdaaGreatDoorPmai
namespace Go.Proofs.YtboeaeoefoabdaaGreatDoor
open Go.RowKit
theorem drop36 (Q r : List UInt8) (h : ∀ c ∈ Q, c ≠ 36) : (Q ++ 36 :: r).dropWhile (fun c => c != 36) = 36 :: r := by
 induction Q with
 | nil => simp
 | cons c Q ih =>
  have hc := h c (by simp)
  rw [List.cons_append, List.dropWhile_cons, if_pos (by simp [hc])]
  exact ih fun x hx => h x (by simp [hx])
theorem take_hx (A r : List UInt8) (hA : ∀ c ∈ A, isHx c = true) (hr : r = [] ∨ ∃ c r', r = c :: r' ∧ isHx c = false) : (A ++ r).takeWhile isHx = A := by
 have hq : r.takeWhile isHx = [] := by
  rcases hr with rfl | ⟨c, r', rfl, hc⟩
  ·rfl
  ·rw [List.takeWhile_cons, hc]; rfl
 rw [List.takeWhile_append_of_pos hA, hq, List.append_nil]
theorem ext_list (s : ByteArray) (a b : Nat) : (s.extract a b).data.toList = (s.data.toList.take b).drop a := by
 rw [ByteArray.data_extract, Array.toList_extract, List.extract_eq_take_drop, List.drop_take]
theorem num_found (S : List UInt8) (k e : Nat) (hk : k < S.length) (h0 : ∀ c ∈ S.take k, c ≠ 36) (h1 : S[k] = 36) (he : k + 1 ≤ e) (heS : e ≤ S.length) (hx : ∀ c ∈ (S.take e).drop (k + 1), isHx c = true) (hend : e = S.length ∨ ∃ h : e < S.length, isHx S[e] = false) :
  numN S = rh ((S.take e).drop (k + 1)) ∧ numD S = (e : Int) - k - 1 := by
 have hS : S = S.take k ++ 36 :: S.drop (k + 1) := by
  conv => lhs; rw [← List.take_append_drop k S, List.drop_eq_getElem_cons hk, h1]
 have hm : 36 ∈ S := by rw [hS]; simp
 have hb : behindS S = S.drop (k + 1) := by
  unfold behindS
  conv => lhs; rw [hS, drop36 _ _ h0]
  rfl
 have hsplit : S.drop (k + 1) = (S.take e).drop (k + 1) ++ S.drop e := by
  conv => lhs; rw [← List.take_append_drop e S]
  rw [List.drop_append_of_le_length (by simp; omega)]
 have hd : digsL S = (S.take e).drop (k + 1) := by
  unfold digsL
  rw [hb, hsplit]
  refine take_hx _ _ hx ?_
  rcases hend with h | ⟨h, h2⟩
  ·exact .inl (by rw [h]; simp)
  ·exact .inr ⟨S[e], S.drop (e + 1), List.drop_eq_getElem_cons h, h2⟩
 unfold numN numD
 rw [if_pos hm, if_pos hm, hd]
 refine ⟨rfl, ?_⟩
 rw [List.length_drop, List.length_take]
 omega
theorem num_none (S : List UInt8) (h : ∀ c ∈ S, c ≠ 36) : numN S = 0 ∧ numD S = 0 := by
 have hm : ¬ 36 ∈ S := fun hx => h 36 hx rfl
 unfold numN numD
 rw [if_neg hm, if_neg hm]
 exact ⟨rfl, rfl⟩
set_option maxRecDepth 100000 in
set_option maxHeartbeats 4000000 in
theorem spec_number (s : ByteArray) (hs : s.size ≤ 1048576) (w : World) : Calls Tryz.prog 65 #[.string s] w fun e w' => e = .returned (.tuple #[.int .i64 (numN s.data.toList), .int .i64 (numD s.data.toList)]) ∧ w = w' := by
 have hlen : s.data.toList.length = s.size := by simp
 have HL := Lib.hid hlen
 go_enter Tryz.func65, Tryz.ntmps65
 clear hlen
 go_wp2
 go_loopw [4] (fun v4 wr => ∃ k : Nat, k ≤ s.size ∧ v4 = .int .i64 k ∧ Hid (∀ c ∈ s.data.toList.take k, c ≠ 36) ∧ w = wr) (fun v4 _ => s.size - (intOf v4).toNat)
 case atStart => exact ⟨0, by omega, rfl, Lib.hid (fun c hc => by simp at hc), rfl⟩
 case round =>
  obtain ⟨k, hk, rfl, h0, rfl⟩ := hrel
  by_cases hlt : k < s.size
  ·have e1 := take_snoc s k hlt
   have hget : s.data.toList[k]'(by rw [HL.out]; exact hlt) = s[k] := rfl
   by_cases hc : s[k] = 36
   ·have HD := Lib.hid (num_found s.data.toList k · (by rw [HL.out]; exact hlt) h0.out (hget.trans hc))
    have hci : (s[k].toNat : Int) = 36 := by rw [hc]; rfl
    clear e1 hc hget h0
    go_wp2
    go_loopw [5] (fun v5 wr => ∃ e : Nat, k + 1 ≤ e ∧ e ≤ s.size ∧ v5 = .int .i64 e ∧ Hid (∀ c ∈ (s.data.toList.take e).drop (k + 1), isHx c = true) ∧ w = wr) (fun v5 _ => s.size - (intOf v5).toNat)
    case atStart => exact ⟨k + 1, by omega, by omega, by go_num, Lib.hid (fun c hc => by simp at hc), rfl⟩
    case round =>
     obtain ⟨e, he1, he2, rfl, hx, rfl⟩ := hrel
     by_cases hle : e < s.size
     ·have hb : 0 ≤ (s[e].toNat : Int) ∧ (s[e].toNat : Int) ≤ 255 := by have := s[e].toNat_lt; omega
      have hc := Lib.hid (spec_hxv (s[e].toNat : Int) hb)
      have hvb := hxv_bd s[e].toNat
      have hgete : s.data.toList[e]'(by rw [HL.out]; exact hle) = s[e] := rfl
      by_cases hv : 0 ≤ hxv s[e].toNat
      ·have hx2 : Hid (∀ c ∈ (s.data.toList.take (e + 1)).drop (k + 1), isHx c = true) := Lib.hid (by
        rw [take_snoc s e hle, List.drop_append_of_le_length (by rw [List.length_take, HL.out]; omega)]
        intro c hc
        rcases List.mem_append.1 hc with hc | hc
        ·exact hx.out c hc
        ·rw [List.mem_singleton.1 hc]; exact decide_eq_true hv)
       clear hx hgete
       go_wp2_with (go_at_call 100; refine (hc.out _).mono ?_; rintro e w1 ⟨rfl, rfl⟩)
       go_roundw
       case rel => exact ⟨e + 1, by omega, by omega, by go_num, hx2, trivial⟩
       case measure => simp [intOf]; omega
      ·have hnv : isHx s[e] = false := decide_eq_false hv
       obtain ⟨d1, d2⟩ := HD.out e he1 (by rw [HL.out]; exact he2) hx.out (.inr ⟨by rw [HL.out]; exact hle, hgete ▸ hnv⟩)
       have HR := fun w => spec_rh (s.extract (k + 1) e) (by unfold maxLen; simp; omega) w
       rw [ext_list, ← d1] at HR
       replace HR := Lib.hid HR
       have D2 := Lib.hid d2
       have z1 : (0 : Int) ≤ (k : Int) + 1 := by omega
       have z2 : (k : Int) + 1 ≤ (e : Int) := by omega
       have z3 : (e : Int) ≤ (s.size : Int) := by omega
       clear HD hx d1 d2
       clear hnv hgete hvb
       go_wp2_with (first | (go_at_call 100; refine (hc.out _).mono ?_; rintro e w1 ⟨rfl, rfl⟩) | (go_at_call 101; (with_reducible refine (HR.out _).mono ?_); rintro e w1 ⟨rfl, rfl⟩))
       go_ret2
       exact ⟨by rw [D2.out]; first | rfl | (congr 1; omega), rfl⟩
     ·obtain rfl : e = s.size := by omega
      obtain ⟨d1, d2⟩ := HD.out s.size he1 (by rw [HL.out]; exact he2) hx.out (.inl HL.out.symm)
      have HR := fun w => spec_rh (s.extract (k + 1) s.size) (by unfold maxLen; simp; omega) w
      rw [ext_list, ← d1] at HR
      replace HR := Lib.hid HR
      have D2 := Lib.hid d2
      have z1 : (0 : Int) ≤ (k : Int) + 1 := by omega
      have z2 : (k : Int) + 1 ≤ (s.size : Int) := by omega
      clear HD hx d1 d2
      go_wp2_with (go_at_call 101; (with_reducible refine (HR.out _).mono ?_); rintro e w1 ⟨rfl, rfl⟩)
      go_ret2
      exact ⟨by rw [D2.out]; first | rfl | (congr 1; omega), rfl⟩
   ·have hx2 : Hid (∀ c ∈ s.data.toList.take (k + 1), c ≠ 36) := Lib.hid (by
     rw [e1]
     intro c hcm
     rcases List.mem_append.1 hcm with hcm | hcm
     ·exact h0.out c hcm
     ·rw [List.mem_singleton.1 hcm]; exact hc)
    have hne : ¬ ((s[k].toNat : Int) = 36) := fun h => hc (UInt8.toNat_inj.mp (by show s[k].toNat = 36; omega))
    clear h0 e1 hget hc
    go_wp2
    go_roundw
    case rel => exact ⟨k + 1, by omega, by go_num, hx2, trivial⟩
    case measure => simp [intOf]; omega
  ·obtain rfl : k = s.size := by omega
   have h1 := h0.out
   rw [List.take_of_length_le (by rw [HL.out]; omega)] at h1
   have D := Lib.hid (num_none _ h1)
   clear h0 h1
   go_wp2
   go_ret2
   exact ⟨by rw [D.out.1, D.out.2]; rfl, rfl⟩
end Go.Proofs.YtboeaeoefoabdaaGreatDoor
namespace Go.Proofs.YtboeaeoefoabdaaGreatDoor
open Go.RowKit Go.Deep Go.WideShapes Go.ChangeShapes
def flatB (xs : List ByteArray) : List UInt8 := xs.flatMap fun x => x.data.toList
theorem flatB_take (xs : List ByteArray) (k : Nat) (h : k < xs.length) : flatB (xs.take (k + 1)) = flatB (xs.take k) ++ xs[k].data.toList := by
 have e : xs.take (k + 1) = xs.take k ++ [xs[k]] := List.take_succ_eq_append_getElem h
 rw [e]; unfold flatB; rw [List.flatMap_append]; simp
theorem flatB_le (xs : List ByteArray) (k : Nat) : (flatB (xs.take k)).length ≤ (flatB xs).length := by
 conv => rhs; rw [← List.take_append_drop k xs]
 unfold flatB
 rw [List.flatMap_append, List.length_append]; omega
def TextsAt (w : World) (A : Option Addr) (xs : List ByteArray) : Prop := xs = [] ∨ ∃ g, A = some ⟨g, 0, none⟩ ∧ g < w.heap.size ∧ ∀ i (h : i < xs.length), w.cell? ⟨g, i, none⟩ = some (.string xs[i])
def rowJ (l : List UInt8) (n : Nat) : List Value := Lib.byteCells l ++ List.replicate (n - l.length) (.int .u8 0)
theorem rowJ_nil (n : Nat) : rowJ [] n = List.replicate n (.int .u8 0) := by simp [rowJ, Lib.byteCells]
theorem rowJ_splice (l s : List UInt8) (n : Nat) : splice (rowJ l n) l.length (Lib.byteCells s) = rowJ (l ++ s) n := by
 have e1 : (rowJ l n).take l.length = Lib.byteCells l := by
  unfold rowJ
  rw [List.take_append_of_le_length (by simp [Lib.byteCells])]
  exact List.take_of_length_le (by simp [Lib.byteCells])
 have e2 : (rowJ l n).drop (l.length + (Lib.byteCells s).length) = List.replicate (n - (l ++ s).length) (.int .u8 0) := by
  unfold rowJ
  rw [← List.drop_drop, show l.length = (Lib.byteCells l).length by simp [Lib.byteCells], List.drop_left]
  simp [Lib.byteCells]; omega
 unfold splice
 rw [e1, e2]
 unfold rowJ
 simp [Lib.byteCells]
theorem rowJ_all (l : List UInt8) : rowJ l l.length = l.map fun c => Value.int .u8 (c.toNat : Int) := by simp [rowJ, Lib.byteCells]
set_option maxRecDepth 100000 in
set_option maxHeartbeats 4000000 in
theorem impl_joined (xs : List ByteArray) (A : Option Addr) (cap : Nat) (hb : (flatB xs).length ≤ 1048576000) (hn : xs.length ≤ 1048576000) (w : World) (hx : TextsAt w A xs) :
  Calls Tryz.prog 70 #[.slice A xs.length cap] w fun e w' => e = .returned (.string ⟨(flatB xs).toArray⟩) ∧ Below w.heap.size w w' := by
 have HX := Lib.hid hx
 obtain ⟨n, hN⟩ : ∃ n, n = (flatB xs).length := ⟨_, rfl⟩
 have hle := flatB_le xs
 have hlen : ∀ k (h : k < xs.length), (flatB (xs.take (k + 1))).length = (flatB (xs.take k)).length + xs[k].size := fun k h => by rw [flatB_take xs k h]; simp
 rw [← hN] at hb hle
 have HLE := Lib.hid hle
 have HLEN := Lib.hid hlen
 have HB := Lib.hid hb
 have HNN := Lib.hid hN
 clear hx hle hlen hN
 go_enter Tryz.func70, Tryz.ntmps70
 go_wp2
 go_loopw [3, 12] (fun v3 v12 wr => ∃ k : Nat, k ≤ xs.length ∧ v12 = .int .i64 k ∧ v3 = .int .i64 ((flatB (xs.take k)).length : Int) ∧ w = wr) (fun _ v12 _ => xs.length - (intOf v12).toNat)
 case atStart => exact ⟨0, by omega, rfl, rfl, rfl⟩
 case round =>
  obtain ⟨k, hk, rfl, rfl, rfl⟩ := hrel
  by_cases hlt : k < xs.length
  ·rcases HX.out with rfl | ⟨g, rfl, hg, hc⟩
   ·exact absurd hlt (Nat.not_lt_zero _)
   have hc := hc k hlt
   have e := HLEN.out k hlt
   have l1 := HLE.out (k + 1)
   have b1 := HB.out
   have hsz : (xs[k].size : Int) ≤ 1048576000 := by omega
   have hs0 : ((flatB (xs.take k)).length : Int) ≤ 1048576000 := by omega
   have HE := Lib.hid e
   clear e l1 b1
   go_wp2
   go_roundw
   case rel => exact ⟨k + 1, by omega, by go_num, by rw [HE.out]; go_num, trivial⟩
   case measure => simp [intOf]; omega
  ·obtain rfl : k = xs.length := by omega
   have e : (flatB (xs.take xs.length)).length = n := by rw [List.take_length, HNN.out]
   rw [e]
   clear e
   have hmk := run_make_row' (P := Tryz.prog) 22 5 (.int .u8 0) 1 Tryz.underlying22 infoU8 rfl .i64 .i64 n (by omega) (by omega)
   go_wp2
   go_loopw [7, 25] (fun v7 v25 wr => ∃ k : Nat, k ≤ xs.length ∧ v25 = .int .i64 k ∧ v7 = .int .i64 ((flatB (xs.take k)).length : Int) ∧ wr.heap[w.heap.size]? = some (.cells (rowJ (flatB (xs.take k)) n).toArray 5 (0, 0)) ∧ Below w.heap.size w wr) (fun _ v25 _ => xs.length - (intOf v25).toNat)
   case atStart =>
    refine ⟨0, by omega, rfl, rfl, ?_, below_alloc (Below.refl _ _) _⟩
    rw [show flatB (xs.take 0) = [] from rfl, rowJ_nil]
    have e := heap_alloc_new w (Obj.cells (madeCells #[Value.int IntKind.u8 0] n) 5)
    have em : madeCells #[Value.int IntKind.u8 0] n = (List.replicate n (Value.int .u8 0)).toArray := by rw [← toList_madeCells_one]
    exact e.trans (by rw [em])
   case round =>
    obtain ⟨k, hk, rfl, rfl, hrow, hbl⟩ := hrel
    by_cases hlt : k < xs.length
    ·rcases HX.out with rfl | ⟨g, rfl, hg, hc⟩
     ·exact absurd hlt (Nat.not_lt_zero _)
     have hc : wr.cell? ⟨g, k, none⟩ = some (.string xs[k]) := (hbl.cell (p := ⟨g, k, none⟩) hg).trans (hc k hlt)
     have e := HLEN.out k hlt
     have l1 := HLE.out (k + 1)
     have b1 := HB.out
     have l2 := HLE.out k
     obtain ⟨o, ho⟩ : ∃ o, o = (flatB (xs.take k)).length := ⟨_, rfl⟩
     have hcl : (rowJ (flatB (xs.take k)) n).length = n := by simp [rowJ, Lib.byteCells]; omega
     have hsp := rowJ_splice (flatB (xs.take k)) xs[k].data.toList n
     rw [← flatB_take xs k hlt, ← ho] at hsp
     rw [← ho] at e l2
     rw [← ho]
     have hsz : (xs[k].size : Int) ≤ 1048576000 := by omega
     have hs0 : (o : Int) ≤ 1048576000 := by omega
     have hon : (o : Int) ≤ (n : Int) := by omega
     generalize rowJ (flatB (xs.take k)) n = cur at hrow hcl hsp
     replace hsp := Lib.hid hsp
     replace hrow := Lib.hid hrow
     replace hbl := Lib.hid hbl
     have HE := Lib.hid e
     have HL1 := Lib.hid l1
     clear e l1 b1 ho
     generalize hX : xs[k] = x at *
     by_cases hz : x.size = 0
     ·have hrun : ∀ (d : Option Addr) (p q : Nat), (Builtin.copy_ #[22, 9] 3 #[.slice d p q, .string x]).run Tryz.prog wr = .ok (.int .i64 0) wr := fun d p q => Lib.run_copy_empty_string wr 22 9 3 5 d p q x Tryz.underlying22 (by kernel_rfl) hz
      have h0 : x.data.toList = [] := List.eq_nil_of_length_eq_zero (by simpa using hz)
      have hrow2 : Hid (wr.heap[w.heap.size]? = some (.cells (rowJ (flatB (xs.take (k + 1))) n).toArray 5 (0, 0))) := Lib.hid (by
       have e2 := hsp.out
       rw [h0] at e2
       rw [← e2]
       simpa [splice, Lib.byteCells] using hrow.out)
      rw [hz] at HE
      clear hsp h0 hz hrow
      go_wp2
      all_goals go_roundw
      all_goals first
       | exact ⟨k + 1, by omega, by go_num, by rw [HE.out]; go_num, hrow2.out, hbl.out⟩
       | (simp [intOf]; omega)
     ·have hfit : o + x.size ≤ n := by have e1 := HE.out; have e2 := HL1.out; omega
      have hlto : (o : Int) < (n : Int) := by omega
      have hcur := hrow.out
      have hrun : (Builtin.copy_ #[22, 9] 3 #[.slice (some ⟨w.heap.size, o, none⟩) (n - o) (n - o), .string x]).run Tryz.prog wr = .ok (.int .i64 (x.size : Int)) (wr.setRow w.heap.size (cur.toArray.toList.take o ++ Lib.byteCells x.data.toList ++ cur.toArray.toList.drop (o + x.size)).toArray) := Lib.run_copy_row_string wr 22 9 3 5 w.heap.size o (n - o) (n - o) x cur.toArray 5 Tryz.underlying22 (by kernel_rfl) hcur (by omega) (by simp; omega)
      replace hfit := Lib.hid hfit
      obtain ⟨w2, hw2⟩ : ∃ w2, w2 = wr.setRow w.heap.size (cur.toArray.toList.take o ++ Lib.byteCells x.data.toList ++ cur.toArray.toList.drop (o + x.size)).toArray := ⟨_, rfl⟩
      rw [← hw2] at hrun
      have hrow2 : Hid (w2.heap[w.heap.size]? = some (.cells (rowJ (flatB (xs.take (k + 1))) n).toArray 5 (0, 0))) := Lib.hid (by
       have e := setRow_heap wr w.heap.size cur.toArray (splice cur o (Lib.byteCells x.data.toList)).toArray 5 (0, 0) hcur
       rw [← hsp.out, hw2, ← e]
       simp [splice, Lib.byteCells])
      have hb2 : Hid (Below w.heap.size w w2) := Lib.hid (by rw [hw2]; exact below_setRow hbl.out (Nat.le_refl _) _)
      clear hsp hw2 hcur hrow
      go_wp2
      all_goals go_roundw
      all_goals first
       | exact ⟨k + 1, by omega, by go_num, by rw [HE.out]; go_num, hrow2.out, hb2.out⟩
       | (simp [intOf]; omega)
    ·obtain rfl : k = xs.length := by omega
     rw [List.take_length, HNN.out, rowJ_all] at hrow
     have hcv := run_convert_bytes_back (P := Tryz.prog) wr 22 9 5 ⟨w.heap.size, 0, none⟩ (flatB xs).length (flatB xs) Tryz.underlying22 Tryz.underlying5 Tryz.underlying9 (fun j hj => by
      rw [addr_add]
      refine cell_of_blk hrow ?_
      simp [List.getElem?_eq_getElem hj])
     have HN2 := HNN.out
     subst HN2
     replace hbl := Lib.hid hbl
     clear hrow
     go_wp2
     go_ret
     exact ⟨rfl, hbl.out⟩
end Go.Proofs.YtboeaeoefoabdaaGreatDoor
namespace Go.Proofs.YtboeaeoefoabdaaGreatDoor
open Go.RowKit
theorem two_new {w w' : World} {t : TypeId} (hb : Below (w.alloc (.cells #[.string ⟨#[]⟩, .string ⟨#[]⟩] t)).heap.size (w.alloc (.cells #[.string ⟨#[]⟩, .string ⟨#[]⟩] t)) w') :
  w'.cell? ⟨w.heap.size, 0, none⟩ = some (.string ⟨#[]⟩) ∧ w'.cell? ⟨w.heap.size, 1, none⟩ = some (.string ⟨#[]⟩) ∧ w'.frozen? ⟨w.heap.size, 0, none⟩ = false ∧ w'.frozen? ⟨w.heap.size, 1, none⟩ = false ∧ Below w.heap.size w w' := by
 have hk : (w.alloc (.cells #[.string ⟨#[]⟩, .string ⟨#[]⟩] t)).heap[w.heap.size]? = some (.cells #[.string ⟨#[]⟩, .string ⟨#[]⟩] t) := by
  show (w.heap.push _)[w.heap.size]? = _
  simp
 have hl : w.heap.size < (w.alloc (.cells #[.string ⟨#[]⟩, .string ⟨#[]⟩] t)).heap.size := by simp
 have hk' := (hb.block w.heap.size hl).trans hk
 refine ⟨?_, ?_, ?_, ?_, ((Below.refl _ _).alloc (Nat.le_refl _) _).trans (hb.mono (by omega))⟩
 ·unfold World.cell?; rw [hk']; rfl
 ·unfold World.cell?; rw [hk']; rfl
 ·unfold World.frozen?; rw [hk']; rfl
 ·unfold World.frozen?; rw [hk']; rfl
def TwoAt (W : World) (B : Nat) (a b : ByteArray) : Prop := W.cell? ⟨B, 0, none⟩ = some (.string a) ∧ W.cell? ⟨B, 1, none⟩ = some (.string b)
theorem TwoAt.below {w w' : World} {B : Nat} {a b : ByteArray} (h : TwoAt w B a b) (hB : B < w.heap.size) (hb : Below w.heap.size w w') : TwoAt w' B a b :=
 ⟨(hb.cell (p := ⟨B, 0, none⟩) hB).trans h.1, (hb.cell (p := ⟨B, 1, none⟩) hB).trans h.2⟩
end Go.Proofs.YtboeaeoefoabdaaGreatDoor
