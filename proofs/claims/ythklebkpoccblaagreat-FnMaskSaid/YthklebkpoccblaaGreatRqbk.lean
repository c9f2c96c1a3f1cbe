/-
  Texts put together by program: FdI.
  Conditions: as each theorem says.
-/
import Derived.Test.YthklebkpoccblaaGreatRqbg
import Derived.Test.YthklebkpoccblaaGreatRqbh
import Derived.Test.YthklebkpoccblaaGreatRqbi
import Derived.Test.YthklebkpoccblaaGreatRqbj
namespace Go.Proofs.YthklebkpoccblaaGreat
open Go.RowKit
set_option maxRecDepth 100000 in
set_option maxHeartbeats 20000000 in
theorem s_own (k : CorI) (oa ob : ByteArray) (w : World) : Calls Tryz.prog 48 #[.agg (corC k), .agg #[.string oa, .string ob]] w (BusPost w) := by
 by_cases h2 : k.t = 2
 ·exact s_own2 k oa ob h2 w
 by_cases h3 : k.t = 3
 ·exact s_own3 k oa ob h3 w
 by_cases h4 : k.t = 4
 ·exact s_own4 k oa ob h4 w
 exact s_own0 k oa ob h2 h3 h4 w
set_option maxRecDepth 100000 in
set_option maxHeartbeats 20000000 in
theorem s_memory (k : CorI) (oa ob : ByteArray) (w : World) : Calls Tryz.prog 49 #[.agg (corC k), .agg #[.string oa, .string ob]] w (BusPost w) := by
 by_cases hT : k.t = 19 ∨ k.t = 20 ∨ k.t = 21 ∨ k.t = 22 ∨ k.t = 1
 ·exact s_memory0 k oa ob hT w
 exact s_memory1 k oa ob ⟨by omega, by omega, by omega, by omega, by omega⟩ w
theorem load_core {ops : Array Oper} {rest : List Oper} {o : Oper} {a : Act} {w : World} {Q : Exit → Act → World → Prop} (hgd : o.guard = none) (x : Operand) (ho : o.op = .load 27 x) (b : Nat) (hx : a.eval x = .pointer (some ⟨b, 0, none⟩)) {k : CorI} (hg : CorAt b k w) (h : wpList Tryz.prog ops Q rest (a.put o.dst (.agg (corC k))) w) : wpList Tryz.prog ops Q (o :: rest) a w :=
 load_row hgd 27 x ho b hx 15 _ Tryz.underlying27 rfl cor_size hg rfl h
theorem s_ok (k : CorI) (w : World) : Calls Tryz.prog 13 #[.agg (corC k)] w fun e w' => e = .returned (.bool (okCo k.a k.x k.y k.s k.p k.pc k.sq k.cd k.t k.lo k.hi k.vl k.nx)) ∧ Below w.heap.size w w' := spec_coreOk k.a k.x k.y k.s k.p k.pc k.sq k.cd k.t k.lo k.hi k.vl k.cr k.nx k.jm w
set_option maxRecDepth 100000 in
set_option maxHeartbeats 20000000 in
theorem s_want (k : CorI) (wn we wi : Bool) (w : World) : Calls Tryz.prog 18 #[.agg (corC k), .agg #[.bool wn, .bool we, .bool wi]] w (BusPost w) := by
 unfold BusPost
 go_enter Tryz.func18, Tryz.ntmps18
 go_upto_region 1 with fail
 have K0 : (((w.alloc (.cells (corC k) 27)).alloc (.cells #[.bool wn, .bool we, .bool wi] 29)).alloc (.cells #[.int .i64 0, .int .i64 0, .bool false] 38)).heap[w.heap.size]? = some (.cells (corC k) 27 (0, 0)) := by
  have h := blk_old (o := .cells #[.int .i64 0, .int .i64 0, .bool false] 38) (blk_old (o := .cells #[.bool wn, .bool we, .bool wi] 29) (blk_new w (.cells (corC k) 27)))
  try simp only [alloc_size] at h
  exact h
 have K1 : (((w.alloc (.cells (corC k) 27)).alloc (.cells #[.bool wn, .bool we, .bool wi] 29)).alloc (.cells #[.int .i64 0, .int .i64 0, .bool false] 38)).heap[w.heap.size + 1]? = some (.cells #[.bool wn, .bool we, .bool wi] 29 (0, 0)) := by
  have h := blk_old (o := .cells #[.int .i64 0, .int .i64 0, .bool false] 38) (blk_new (w.alloc (.cells (corC k) 27)) (.cells #[.bool wn, .bool we, .bool wi] 29))
  try simp only [alloc_size] at h
  exact h
 have K2 : (((w.alloc (.cells (corC k) 27)).alloc (.cells #[.bool wn, .bool we, .bool wi] 29)).alloc (.cells #[.int .i64 0, .int .i64 0, .bool false] 38)).heap[w.heap.size + 1 + 1]? = some (.cells #[.int .i64 0, .int .i64 0, .bool false] 38 (0, 0)) := by
  have h := blk_new ((w.alloc (.cells (corC k) 27)).alloc (.cells #[.bool wn, .bool we, .bool wi] 29)) (.cells #[.int .i64 0, .int .i64 0, .bool false] 38)
  try simp only [alloc_size] at h
  exact h
 have B0 := below_alloc (below_alloc (below_alloc (Below.refl w.heap.size w) (.cells (corC k) 27)) (.cells #[.bool wn, .bool we, .bool wi] 29)) (.cells #[.int .i64 0, .int .i64 0, .bool false] 38)
 generalize (((w.alloc (.cells (corC k) 27)).alloc (.cells #[.bool wn, .bool we, .bool wi] 29)).alloc (.cells #[.int .i64 0, .int .i64 0, .bool false] 38)) = w0 at K0 K1 K2 B0 ⊢
 replace K0 : Hid (CorAt w.heap.size k w0) := Lib.hid K0
 replace K1 := Lib.hid K1
 replace K2 := Lib.hid K2
 replace B0 := Lib.hid B0
 have fz := CorAt.free K0.out
 have c_cd := CorAt.c_cd K0.out
 have c_t := CorAt.c_t K0.out
 have c_jm := CorAt.c_jm K0.out
 go_wp2_with (first
  | (go_at_call 34; refine (spec_opOf _ _).mono ?_; rintro e w1 ⟨rfl, hb⟩; refine Hid.out ?_))
 have K0 := Lib.hid (CorAt.below K0.out hb)
 have K1 := Lib.hid (blk_below (b := w.heap.size + 1) (show _ = some (Obj.cells #[.bool wn, .bool we, .bool wi] 29 (0, 0)) by exact rowS) hb)
 have K2 := Lib.hid (blk_below (b := w.heap.size + 1 + 1) (show _ = some (Obj.cells #[.int .i64 0, .int .i64 0, .bool false] 38 (0, 0)) by exact rowS) hb)
 have B0 := Lib.hid (below_then (show Below w.heap.size w _ by exact belS) hb)
 clear hb fz c_cd c_t c_jm
 have fz := CorAt.free K0.out
 have hlt := (Array.getElem?_eq_some_iff.1 K2.out).1
 refine Lib.hid ?_
 have HOK := fun w => s_ok k w
 generalize okCo k.a k.x k.y k.s k.p k.pc k.sq k.cd k.t k.lo k.hi k.vl k.nx = ok at HOK
 replace HOK := Lib.hid HOK
 generalize (opOf k.cd).1 = oa
 generalize (opOf k.cd).2 = ob
 go_upto_region 2 with (first | (refine store_row (by rfl) 55 _ _ (by rfl) _ _ (by rfl) (by rfl) 2 (by kernel_rfl) (by exact rowS; done) rfl rfl (by rfl) ?_))
 have K3 := Lib.hid (setRow_heap _ _ _ #[.string oa, .string ob] _ _ (blk_new w1 (.cells #[.string ⟨#[]⟩, .string ⟨#[]⟩] 55)))
 have K0 := Lib.hid (show CorAt w.heap.size k _ from row_row (cs := #[.string oa, .string ob]) (blk_old (o := .cells #[.string ⟨#[]⟩, .string ⟨#[]⟩] 55) K0.out) (show w.heap.size ≠ w1.heap.size by omega))
 have K1 := Lib.hid (row_row (cs := #[.string oa, .string ob]) (blk_old (o := .cells #[.string ⟨#[]⟩, .string ⟨#[]⟩] 55) K1.out) (show w.heap.size + 1 ≠ w1.heap.size by omega))
 have K2 := Lib.hid (row_row (cs := #[.string oa, .string ob]) (blk_old (o := .cells #[.string ⟨#[]⟩, .string ⟨#[]⟩] 55) K2.out) (show w.heap.size + 1 + 1 ≠ w1.heap.size by omega))
 have B0 := Lib.hid (below_row (cs := #[.string oa, .string ob]) (below_alloc B0.out (.cells #[.string ⟨#[]⟩, .string ⟨#[]⟩] 55)) (show w.heap.size ≤ w1.heap.size by omega))
 generalize World.setRow _ w1.heap.size #[.string oa, .string ob] = w2 at K0 K1 K2 K3 B0 ⊢
 generalize w1.heap.size = V at K3 hlt ⊢
 clear fz
 have fz := CorAt.free K0.out
 go_wp2_with (first
  | (refine load_core (by rfl) _ (by rfl) _ (by rfl) K0.out ?_)
  | (go_at_call 13; refine (HOK.out _).mono ?_; rintro e w1 ⟨rfl, hb⟩; refine Hid.out ?_))
 have K0 := Lib.hid (CorAt.below K0.out hb)
 have K1 := Lib.hid (blk_below (b := w.heap.size + 1) (show _ = some (Obj.cells #[.bool wn, .bool we, .bool wi] 29 (0, 0)) by exact rowS) hb)
 have K2 := Lib.hid (blk_below (b := w.heap.size + 1 + 1) (show _ = some (Obj.cells #[.int .i64 0, .int .i64 0, .bool false] 38 (0, 0)) by exact rowS) hb)
 have K3 := Lib.hid (blk_below (b := V) (show _ = some (Obj.cells #[.string oa, .string ob] 55 (0, 0)) by exact rowS) hb)
 have B0 := Lib.hid (below_then (show Below w.heap.size w _ by exact belS) hb)
 clear hb fz 
 have fz := CorAt.free K0.out
 have hlt := (Array.getElem?_eq_some_iff.1 K3.out).1
 have c_cd := CorAt.c_cd K0.out
 have c_t := CorAt.c_t K0.out
 have c_jm := CorAt.c_jm K0.out
 refine Lib.hid ?_
 by_cases ho : ok = true
 ·by_cases hj : k.jm = true
  ·go_upto_region 5 with fail
   go_wp2_with (first
    | (refine store_row (by rfl) 38 _ _ (by rfl) _ _ (by rfl) (by rfl) 3 (by kernel_rfl) (by exact rowS; done) rfl rfl (by rfl) ?_))
   exact bodyPost_ret (results_cell_row rfl _ _ (w.heap.size + 1 + 1) _ _ _ _ rfl (setRow_heap _ _ _ _ _ _ (by exact rowS)) Tryz.underlying38 rfl (by kernel_rfl)) rfl ⟨_, _, _, rfl, below_row (by exact belS) (by omega)⟩
  ·replace hj := Bool.eq_false_iff.2 hj
   by_cases h0 : k.t = 0
   ·go_upto_region 7 with fail
    go_wp2_with (first
     | (refine load_some (by rfl) _ (by rfl) _ (by rfl) (by exact someS) ?_; intro k2 hk2)
     | (refine store_row (by rfl) 38 _ _ (by rfl) _ _ (by rfl) (by rfl) 3 (by kernel_rfl) (by exact rowS; done) rfl rfl (by rfl) ?_)
     | (go_at_call 46; refine (s_l10Here _ _).mono ?_; rintro e w1 ⟨x9, y9, z9, rfl, hb⟩))
    exact bodyPost_ret (results_cell_row rfl _ _ (w.heap.size + 1 + 1) _ _ _ _ rfl (setRow_heap _ _ _ _ _ _ (by exact rowS)) Tryz.underlying38 rfl (by kernel_rfl)) rfl ⟨_, _, _, rfl, below_row (by exact belS) (by omega)⟩
   ·by_cases hc : k.cd = 0
    ·go_upto_region 9 with fail
     go_wp2_with (first
      | (refine load_some (by rfl) _ (by rfl) _ (by rfl) (by exact someS) ?_; intro k2 hk2)
      | (refine store_row (by rfl) 38 _ _ (by rfl) _ _ (by rfl) (by rfl) 3 (by kernel_rfl) (by exact rowS; done) rfl rfl (by rfl) ?_)
      | (refine load_row (by rfl) 29 _ (by rfl) _ (by rfl) 3 _ Tryz.underlying29 rfl (by kernel_rfl) (by exact rowS) rfl ?_)
      | (go_at_call 47; refine (s_break _ _ _ _ _).mono ?_; rintro e w1 ⟨x9, y9, z9, rfl, hb⟩))
     exact bodyPost_ret (results_cell_row rfl _ _ (w.heap.size + 1 + 1) _ _ _ _ rfl (setRow_heap _ _ _ _ _ _ (by exact rowS)) Tryz.underlying38 rfl (by kernel_rfl)) rfl ⟨_, _, _, rfl, below_row (by exact belS) (by omega)⟩
    ·by_cases hk : kindI oa ob = 3
     ·go_upto_region 10 with fail
      have o1 := cell_of_blk (i := 1) (v := .string ob) K3.out rfl
      go_wp2_with (first
       | (refine load_row (by rfl) 55 _ (by rfl) _ (by rfl) 2 _ Tryz.underlying55 rfl (by kernel_rfl) (by exact rowS) rfl ?_)
       | (go_at_call 36; refine ((fun w => show Calls Tryz.prog 36 #[.agg #[.string oa, .string ob]] w _ from spec_kindOf oa ob w) _).mono ?_; rintro e w1 ⟨rfl, hb⟩; refine Hid.out ?_))
      have K0 := Lib.hid (CorAt.below K0.out hb)
      have K1 := Lib.hid (blk_below (b := w.heap.size + 1) (show _ = some (Obj.cells #[.bool wn, .bool we, .bool wi] 29 (0, 0)) by exact rowS) hb)
      have K2 := Lib.hid (blk_below (b := w.heap.size + 1 + 1) (show _ = some (Obj.cells #[.int .i64 0, .int .i64 0, .bool false] 38 (0, 0)) by exact rowS) hb)
      have K3 := Lib.hid (blk_below (b := V) (show _ = some (Obj.cells #[.string oa, .string ob] 55 (0, 0)) by exact rowS) hb)
      have B0 := Lib.hid (below_then (show Below w.heap.size w _ by exact belS) hb)
      clear hb fz hlt c_cd c_t c_jm o1
      have fz := CorAt.free K0.out
      have hlt := (Array.getElem?_eq_some_iff.1 K3.out).1
      have o1 := cell_of_blk (i := 1) (v := .string ob) K3.out rfl
      refine Lib.hid ?_
      go_upto_region 11 with fail
      go_wp2_with (first
       | (refine load_some (by rfl) _ (by rfl) _ (by rfl) (by exact someS) ?_; intro k2 hk2)
       | (refine store_row (by rfl) 38 _ _ (by rfl) _ _ (by rfl) (by rfl) 3 (by kernel_rfl) (by exact rowS; done) rfl rfl (by rfl) ?_)
       | (refine load_row (by rfl) 55 _ (by rfl) _ (by rfl) 2 _ Tryz.underlying55 rfl (by kernel_rfl) (by exact rowS) rfl ?_)
       | (go_at_call 48; refine (s_own _ _ _ _).mono ?_; rintro e w1 ⟨x9, y9, z9, rfl, hb⟩))
      exact bodyPost_ret (results_cell_row rfl _ _ (w.heap.size + 1 + 1) _ _ _ _ rfl (setRow_heap _ _ _ _ _ _ (by exact rowS)) Tryz.underlying38 rfl (by kernel_rfl)) rfl ⟨_, _, _, rfl, below_row (by exact belS) (by omega)⟩
     ·by_cases hm : ob = ⟨#[105, 109, 109]⟩
      ·have ehm0 : (ob.toList == [105, 109, 109]) = true := by rw [hm, ByteArray.toList_eq]; decide
       clear hm
       go_upto_region 10 with fail
       have o1 := cell_of_blk (i := 1) (v := .string ob) K3.out rfl
       go_wp2_with (first
        | (refine load_row (by rfl) 55 _ (by rfl) _ (by rfl) 2 _ Tryz.underlying55 rfl (by kernel_rfl) (by exact rowS) rfl ?_)
        | (go_at_call 36; refine ((fun w => show Calls Tryz.prog 36 #[.agg #[.string oa, .string ob]] w _ from spec_kindOf oa ob w) _).mono ?_; rintro e w1 ⟨rfl, hb⟩; refine Hid.out ?_))
       have K0 := Lib.hid (CorAt.below K0.out hb)
       have K1 := Lib.hid (blk_below (b := w.heap.size + 1) (show _ = some (Obj.cells #[.bool wn, .bool we, .bool wi] 29 (0, 0)) by exact rowS) hb)
       have K2 := Lib.hid (blk_below (b := w.heap.size + 1 + 1) (show _ = some (Obj.cells #[.int .i64 0, .int .i64 0, .bool false] 38 (0, 0)) by exact rowS) hb)
       have K3 := Lib.hid (blk_below (b := V) (show _ = some (Obj.cells #[.string oa, .string ob] 55 (0, 0)) by exact rowS) hb)
       have B0 := Lib.hid (below_then (show Below w.heap.size w _ by exact belS) hb)
       clear hb fz hlt c_cd c_t c_jm o1
       have fz := CorAt.free K0.out
       have hlt := (Array.getElem?_eq_some_iff.1 K3.out).1
       have o1 := cell_of_blk (i := 1) (v := .string ob) K3.out rfl
       refine Lib.hid ?_
       go_upto_region 11 with fail
       go_wp2_with (first
        | (refine load_some (by rfl) _ (by rfl) _ (by rfl) (by exact someS) ?_; intro k2 hk2)
        | (refine store_row (by rfl) 38 _ _ (by rfl) _ _ (by rfl) (by rfl) 3 (by kernel_rfl) (by exact rowS; done) rfl rfl (by rfl) ?_)
        | (refine load_row (by rfl) 55 _ (by rfl) _ (by rfl) 2 _ Tryz.underlying55 rfl (by kernel_rfl) (by exact rowS) rfl ?_)
        | (go_at_call 48; refine (s_own _ _ _ _).mono ?_; rintro e w1 ⟨x9, y9, z9, rfl, hb⟩))
       exact bodyPost_ret (results_cell_row rfl _ _ (w.heap.size + 1 + 1) _ _ _ _ rfl (setRow_heap _ _ _ _ _ _ (by exact rowS)) Tryz.underlying38 rfl (by kernel_rfl)) rfl ⟨_, _, _, rfl, below_row (by exact belS) (by omega)⟩
      ·have nhm := ne_list [105, 109, 109] hm
       clear hm
       go_upto_region 10 with fail
       have o1 := cell_of_blk (i := 1) (v := .string ob) K3.out rfl
       go_wp2_with (first
        | (refine load_row (by rfl) 55 _ (by rfl) _ (by rfl) 2 _ Tryz.underlying55 rfl (by kernel_rfl) (by exact rowS) rfl ?_)
        | (go_at_call 36; refine ((fun w => show Calls Tryz.prog 36 #[.agg #[.string oa, .string ob]] w _ from spec_kindOf oa ob w) _).mono ?_; rintro e w1 ⟨rfl, hb⟩; refine Hid.out ?_))
       have K0 := Lib.hid (CorAt.below K0.out hb)
       have K1 := Lib.hid (blk_below (b := w.heap.size + 1) (show _ = some (Obj.cells #[.bool wn, .bool we, .bool wi] 29 (0, 0)) by exact rowS) hb)
       have K2 := Lib.hid (blk_below (b := w.heap.size + 1 + 1) (show _ = some (Obj.cells #[.int .i64 0, .int .i64 0, .bool false] 38 (0, 0)) by exact rowS) hb)
       have K3 := Lib.hid (blk_below (b := V) (show _ = some (Obj.cells #[.string oa, .string ob] 55 (0, 0)) by exact rowS) hb)
       have B0 := Lib.hid (below_then (show Below w.heap.size w _ by exact belS) hb)
       clear hb fz hlt c_cd c_t c_jm o1
       have fz := CorAt.free K0.out
       have hlt := (Array.getElem?_eq_some_iff.1 K3.out).1
       have o1 := cell_of_blk (i := 1) (v := .string ob) K3.out rfl
       refine Lib.hid ?_
       go_upto_region 12 with fail
       go_wp2_with (first
        | (refine load_some (by rfl) _ (by rfl) _ (by rfl) (by exact someS) ?_; intro k2 hk2)
        | (refine store_row (by rfl) 38 _ _ (by rfl) _ _ (by rfl) (by rfl) 3 (by kernel_rfl) (by exact rowS; done) rfl rfl (by rfl) ?_)
        | (refine load_row (by rfl) 55 _ (by rfl) _ (by rfl) 2 _ Tryz.underlying55 rfl (by kernel_rfl) (by exact rowS) rfl ?_)
        | (go_at_call 49; refine (s_memory _ _ _ _).mono ?_; rintro e w1 ⟨x9, y9, z9, rfl, hb⟩))
       exact bodyPost_ret (results_cell_row rfl _ _ (w.heap.size + 1 + 1) _ _ _ _ rfl (setRow_heap _ _ _ _ _ _ (by exact rowS)) Tryz.underlying38 rfl (by kernel_rfl)) rfl ⟨_, _, _, rfl, below_row (by exact belS) (by omega)⟩
 ·replace ho := Bool.eq_false_iff.2 ho
  go_upto_region 3 with fail
  go_wp2_with (first
   | (refine store_row (by rfl) 38 _ _ (by rfl) _ _ (by rfl) (by rfl) 3 (by kernel_rfl) (by exact rowS; done) rfl rfl (by rfl) ?_))
  exact bodyPost_ret (results_cell_row rfl _ _ (w.heap.size + 1 + 1) _ _ _ _ rfl (setRow_heap _ _ _ _ _ _ (by exact rowS)) Tryz.underlying38 rfl (by kernel_rfl)) rfl ⟨_, _, _, rfl, below_row (by exact belS) (by omega)⟩
end Go.Proofs.YthklebkpoccblaaGreat
