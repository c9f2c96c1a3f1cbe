/-
  Texts put together by program: CkI.
  Conditions: as each theorem says.
-/
import Derived.Deep.Cut
import Derived.Test.YthklebkpoccblaaGreatRqbs
namespace Go.Proofs.YthklebkpoccblaaGreat
open Go.RowKit
def allSteps (fs : Array Value) (kd : Int) (b : Nat) : Array Value :=
 if kd = 3 then fs.setIfInBounds 0 (stepV 118 b)
 else if kd = 2 then ((((fs.setIfInBounds 0 (stepV 118 b)).setIfInBounds 21 (stepV 119 b)).setIfInBounds 22 (stepV 120 b)).setIfInBounds 19 (stepV 121 b)).setIfInBounds 20 (stepV 122 b)
 else ((fs.setIfInBounds 0 (stepV 118 b)).setIfInBounds 19 (stepV 121 b)).setIfInBounds 20 (stepV 122 b)
theorem one_set {fs : Array Value} {v : Value} (h : okS fs) (i : Nat) (hv : v.oneCell' = true) : okS (fs.setIfInBounds i v) := by
 refine ⟨by rw [Array.size_setIfInBounds]; exact h.1, ?_⟩
 have h2 := h.2
 rw [List.all_eq_true] at h2 ⊢
 intro x hx
 rw [Array.toList_setIfInBounds] at hx
 rcases List.mem_or_eq_of_mem_set hx with h3 | h3
 ·exact h2 x h3
 ·rw [h3]; exact hv
theorem allSteps_ok {fs : Array Value} (h : okS fs) (kd : Int) (b : Nat) : okS (allSteps fs kd b) := by
 unfold allSteps
 split
 ·exact one_set h _ rfl
 ·split
  ·exact one_set (one_set (one_set (one_set (one_set h _ rfl) _ rfl) _ rfl) _ rfl) _ rfl
  ·exact one_set (one_set (one_set h _ rfl) _ rfl) _ rfl
theorem okS_at {fs : Array Value} (h : okS fs) (i : Nat) (hi : i < 23) : ∃ v, fs[i]? = some v := by
 rw [Array.getElem?_eq_getElem (by rw [h.1]; exact hi)]
 exact ⟨_, rfl⟩
set_option maxRecDepth 100000 in
set_option maxHeartbeats 2000000 in
theorem m_steps_own {b : Nat} (k : ClkI) (w : World) (h : ClkAt b k w) (hk : k.kd = 3) : Calls Tryz.prog 92 #[.pointer (some ⟨b, 0, none⟩)] w fun e w' => e = .returned (.agg (allSteps (nameSteps k.on k.om b) 3 b)) ∧ Below w.heap.size w w' := by
 have hsz := Lib.hid steps_size
 have hmf : ∀ (fn : Fn) (first cap : Array Value) (w : World), (Instr.makeFunc fn first cap).run Tryz.prog w = .ok (.func fn first cap) w := fun _ _ _ _ => rfl
 have HN := fun w h => m_stepsOfName k w h (b := b)
 have hS := nameSteps_ok k.on k.om b
 generalize nameSteps k.on k.om b = fs at *
 replace HN := Lib.hid HN
 rw [show allSteps fs 3 b = (fs.setIfInBounds 0 (.func (.func 118) #[.pointer (some ⟨b, 0, none⟩)] #[])) from rfl]
 have hlt := h.lt
 have h := Lib.hid h
 go_enter Tryz.func92, Tryz.ntmps92
 go_wp2_with (go_at_call 117; refine (HN.out _ (h.out.new _)).mono ?_; rintro e w1 ⟨rfl, hb⟩; refine Hid.out ?_)
 have K := Lib.hid (blk_below (blk_new w (.cells #[.nilFunc, .nilFunc, .nilFunc, .nilFunc, .nilFunc, .nilFunc, .nilFunc, .nilFunc, .nilFunc, .nilFunc, .nilFunc, .nilFunc, .nilFunc, .nilFunc, .nilFunc, .nilFunc, .nilFunc, .nilFunc, .nilFunc, .nilFunc, .nilFunc, .nilFunc, .nilFunc] 108)) hb)
 have Z := Lib.hid ((h.out.new (.cells #[.nilFunc, .nilFunc, .nilFunc, .nilFunc, .nilFunc, .nilFunc, .nilFunc, .nilFunc, .nilFunc, .nilFunc, .nilFunc, .nilFunc, .nilFunc, .nilFunc, .nilFunc, .nilFunc, .nilFunc, .nilFunc, .nilFunc, .nilFunc, .nilFunc, .nilFunc, .nilFunc] 108)).below hb)
 have B := Lib.hid (below_then (below_alloc (Below.refl w.heap.size w) (.cells #[.nilFunc, .nilFunc, .nilFunc, .nilFunc, .nilFunc, .nilFunc, .nilFunc, .nilFunc, .nilFunc, .nilFunc, .nilFunc, .nilFunc, .nilFunc, .nilFunc, .nilFunc, .nilFunc, .nilFunc, .nilFunc, .nilFunc, .nilFunc, .nilFunc, .nilFunc, .nilFunc] 108)) hb)
 clear hb
 have hlt1 := Z.out.lt
 have hne : w1.heap.size ≠ b := by omega
 have hne2 : w.heap.size ≠ w1.heap.size := by have := (Array.getElem?_eq_some_iff.1 K.out).1; omega
 refine Lib.hid ?_
 go_wp2_with (refine store_row (by rfl) 108 (.tmp 3) (.tmp 5) rfl w1.heap.size fs rfl rfl 23 hsz.out (blk_new w1 (.cells #[.nilFunc, .nilFunc, .nilFunc, .nilFunc, .nilFunc, .nilFunc, .nilFunc, .nilFunc, .nilFunc, .nilFunc, .nilFunc, .nilFunc, .nilFunc, .nilFunc, .nilFunc, .nilFunc, .nilFunc, .nilFunc, .nilFunc, .nilFunc, .nilFunc, .nilFunc, .nilFunc] 108)) hS.1 rfl hS.2 ?_; refine Hid.out ?_)
 have N := Lib.hid (setRow_heap _ _ _ fs _ _ (blk_new w1 (.cells #[.nilFunc, .nilFunc, .nilFunc, .nilFunc, .nilFunc, .nilFunc, .nilFunc, .nilFunc, .nilFunc, .nilFunc, .nilFunc, .nilFunc, .nilFunc, .nilFunc, .nilFunc, .nilFunc, .nilFunc, .nilFunc, .nilFunc, .nilFunc, .nilFunc, .nilFunc, .nilFunc] 108)))
 have K := Lib.hid (row_row (cs := fs) (blk_old (o := .cells #[.nilFunc, .nilFunc, .nilFunc, .nilFunc, .nilFunc, .nilFunc, .nilFunc, .nilFunc, .nilFunc, .nilFunc, .nilFunc, .nilFunc, .nilFunc, .nilFunc, .nilFunc, .nilFunc, .nilFunc, .nilFunc, .nilFunc, .nilFunc, .nilFunc, .nilFunc, .nilFunc] 108) K.out) (show w.heap.size ≠ w1.heap.size by have := (Array.getElem?_eq_some_iff.1 K.out).1; omega))
 have Z := Lib.hid (show ClkAt b k _ from row_row (cs := fs) (Z.out.new (.cells #[.nilFunc, .nilFunc, .nilFunc, .nilFunc, .nilFunc, .nilFunc, .nilFunc, .nilFunc, .nilFunc, .nilFunc, .nilFunc, .nilFunc, .nilFunc, .nilFunc, .nilFunc, .nilFunc, .nilFunc, .nilFunc, .nilFunc, .nilFunc, .nilFunc, .nilFunc, .nilFunc] 108)) (Ne.symm hne))
 have hge : w.heap.size ≤ w1.heap.size := B.out.size
 have hK := (Array.getElem?_eq_some_iff.1 K.out).1
 have B := Lib.hid (below_row (cs := fs) (below_alloc B.out (.cells #[.nilFunc, .nilFunc, .nilFunc, .nilFunc, .nilFunc, .nilFunc, .nilFunc, .nilFunc, .nilFunc, .nilFunc, .nilFunc, .nilFunc, .nilFunc, .nilFunc, .nilFunc, .nilFunc, .nilFunc, .nilFunc, .nilFunc, .nilFunc, .nilFunc, .nilFunc, .nilFunc] 108)) hge)
 generalize hg : w1.heap.size = G at *
 generalize (w1.alloc (.cells #[.nilFunc, .nilFunc, .nilFunc, .nilFunc, .nilFunc, .nilFunc, .nilFunc, .nilFunc, .nilFunc, .nilFunc, .nilFunc, .nilFunc, .nilFunc, .nilFunc, .nilFunc, .nilFunc, .nilFunc, .nilFunc, .nilFunc, .nilFunc, .nilFunc, .nilFunc, .nilFunc] 108)).setRow G fs = w2 at N K Z B hK ⊢
 have c_kd : w2.cell? ⟨b, 22, none⟩ = some (.int .i64 3) := by rw [Z.out.c_kd, hk]
 obtain ⟨e0, he0⟩ := okS_at hS 0 (by omega)
 have x0 := cell_of_blk (i := 0) N.out he0
 have fN := fun i => free_of_blk (i := i) N.out
 have c_kd := Z.out.c_kd
 rw [hk] at c_kd
 have hS0 := Lib.hid hS
 clear hS
 refine Lib.hid ?_
 go_upto_region 11 with fail
 have hS := one_set (v := (.func (.func 118) #[.pointer (some ⟨b, 0, none⟩)] #[])) hS0.out 0 rfl
 have N := Lib.hid (row_set (i := 0) (v := (.func (.func 118) #[.pointer (some ⟨b, 0, none⟩)] #[])) N.out)
 have K := Lib.hid (row_far (i := 0) (v := (.func (.func 118) #[.pointer (some ⟨b, 0, none⟩)] #[])) K.out hne2)
 have Z := Lib.hid (Z.out.far (i := 0) (v := (.func (.func 118) #[.pointer (some ⟨b, 0, none⟩)] #[])) (Ne.symm hne))
 have B := Lib.hid (below_put (i := 0) (v := (.func (.func 118) #[.pointer (some ⟨b, 0, none⟩)] #[])) B.out hge)
 clear x0 fN c_kd hS0 he0
 obtain ⟨f1, y0⟩ : ∃ x, x = fs.setIfInBounds 0 (.func (.func 118) #[.pointer (some ⟨b, 0, none⟩)] #[]) := ⟨_, rfl⟩
 have N := N.out
 rw [← y0] at hS N
 have N := Lib.hid N
 have y0 := Lib.hid y0
 generalize World.setCell _ ⟨G, 0, none⟩ (.func (.func 118) #[.pointer (some ⟨b, 0, none⟩)] #[]) = w2 at *
 have N := N
 go_wp2_with (first | (refine load_row rfl 108 (.tmp 3) rfl G rfl 23 _ Tryz.underlying108 rfl hsz.out N.out hS.1 ?_) | (refine store_row rfl 108 (.tmp 2) (.tmp 30) rfl w.heap.size _ rfl rfl 23 hsz.out K.out hS.1 rfl hS.2 ?_))
 exact row_post rfl rfl Tryz.underlying108 rfl steps_size hS.1 rfl K.out ⟨by rw [y0.out], below_row B.out (Nat.le_refl _)⟩
set_option maxRecDepth 100000 in
set_option maxHeartbeats 2000000 in
theorem m_steps_mod {b : Nat} (k : ClkI) (w : World) (h : ClkAt b k w) (hk : k.kd = 2) : Calls Tryz.prog 92 #[.pointer (some ⟨b, 0, none⟩)] w fun e w' => e = .returned (.agg (allSteps (nameSteps k.on k.om b) 2 b)) ∧ Below w.heap.size w w' := by
 have hsz := Lib.hid steps_size
 have hmf : ∀ (fn : Fn) (first cap : Array Value) (w : World), (Instr.makeFunc fn first cap).run Tryz.prog w = .ok (.func fn first cap) w := fun _ _ _ _ => rfl
 have HN := fun w h => m_stepsOfName k w h (b := b)
 have hS := nameSteps_ok k.on k.om b
 generalize nameSteps k.on k.om b = fs at *
 replace HN := Lib.hid HN
 rw [show allSteps fs 2 b = (((((fs.setIfInBounds 0 (.func (.func 118) #[.pointer (some ⟨b, 0, none⟩)] #[])).setIfInBounds 21 (.func (.func 119) #[.pointer (some ⟨b, 0, none⟩)] #[])).setIfInBounds 22 (.func (.func 120) #[.pointer (some ⟨b, 0, none⟩)] #[])).setIfInBounds 19 (.func (.func 121) #[.pointer (some ⟨b, 0, none⟩)] #[])).setIfInBounds 20 (.func (.func 122) #[.pointer (some ⟨b, 0, none⟩)] #[])) from rfl]
 have hlt := h.lt
 have h := Lib.hid h
 go_enter Tryz.func92, Tryz.ntmps92
 go_wp2_with (go_at_call 117; refine (HN.out _ (h.out.new _)).mono ?_; rintro e w1 ⟨rfl, hb⟩; refine Hid.out ?_)
 have K := Lib.hid (blk_below (blk_new w (.cells #[.nilFunc, .nilFunc, .nilFunc, .nilFunc, .nilFunc, .nilFunc, .nilFunc, .nilFunc, .nilFunc, .nilFunc, .nilFunc, .nilFunc, .nilFunc, .nilFunc, .nilFunc, .nilFunc, .nilFunc, .nilFunc, .nilFunc, .nilFunc, .nilFunc, .nilFunc, .nilFunc] 108)) hb)
 have Z := Lib.hid ((h.out.new (.cells #[.nilFunc, .nilFunc, .nilFunc, .nilFunc, .nilFunc, .nilFunc, .nilFunc, .nilFunc, .nilFunc, .nilFunc, .nilFunc, .nilFunc, .nilFunc, .nilFunc, .nilFunc, .nilFunc, .nilFunc, .nilFunc, .nilFunc, .nilFunc, .nilFunc, .nilFunc, .nilFunc] 108)).below hb)
 have B := Lib.hid (below_then (below_alloc (Below.refl w.heap.size w) (.cells #[.nilFunc, .nilFunc, .nilFunc, .nilFunc, .nilFunc, .nilFunc, .nilFunc, .nilFunc, .nilFunc, .nilFunc, .nilFunc, .nilFunc, .nilFunc, .nilFunc, .nilFunc, .nilFunc, .nilFunc, .nilFunc, .nilFunc, .nilFunc, .nilFunc, .nilFunc, .nilFunc] 108)) hb)
 clear hb
 have hlt1 := Z.out.lt
 have hne : w1.heap.size ≠ b := by omega
 have hne2 : w.heap.size ≠ w1.heap.size := by have := (Array.getElem?_eq_some_iff.1 K.out).1; omega
 refine Lib.hid ?_
 go_wp2_with (refine store_row (by rfl) 108 (.tmp 3) (.tmp 5) rfl w1.heap.size fs rfl rfl 23 hsz.out (blk_new w1 (.cells #[.nilFunc, .nilFunc, .nilFunc, .nilFunc, .nilFunc, .nilFunc, .nilFunc, .nilFunc, .nilFunc, .nilFunc, .nilFunc, .nilFunc, .nilFunc, .nilFunc, .nilFunc, .nilFunc, .nilFunc, .nilFunc, .nilFunc, .nilFunc, .nilFunc, .nilFunc, .nilFunc] 108)) hS.1 rfl hS.2 ?_; refine Hid.out ?_)
 have N := Lib.hid (setRow_heap _ _ _ fs _ _ (blk_new w1 (.cells #[.nilFunc, .nilFunc, .nilFunc, .nilFunc, .nilFunc, .nilFunc, .nilFunc, .nilFunc, .nilFunc, .nilFunc, .nilFunc, .nilFunc, .nilFunc, .nilFunc, .nilFunc, .nilFunc, .nilFunc, .nilFunc, .nilFunc, .nilFunc, .nilFunc, .nilFunc, .nilFunc] 108)))
 have K := Lib.hid (row_row (cs := fs) (blk_old (o := .cells #[.nilFunc, .nilFunc, .nilFunc, .nilFunc, .nilFunc, .nilFunc, .nilFunc, .nilFunc, .nilFunc, .nilFunc, .nilFunc, .nilFunc, .nilFunc, .nilFunc, .nilFunc, .nilFunc, .nilFunc, .nilFunc, .nilFunc, .nilFunc, .nilFunc, .nilFunc, .nilFunc] 108) K.out) (show w.heap.size ≠ w1.heap.size by have := (Array.getElem?_eq_some_iff.1 K.out).1; omega))
 have Z := Lib.hid (show ClkAt b k _ from row_row (cs := fs) (Z.out.new (.cells #[.nilFunc, .nilFunc, .nilFunc, .nilFunc, .nilFunc, .nilFunc, .nilFunc, .nilFunc, .nilFunc, .nilFunc, .nilFunc, .nilFunc, .nilFunc, .nilFunc, .nilFunc, .nilFunc, .nilFunc, .nilFunc, .nilFunc, .nilFunc, .nilFunc, .nilFunc, .nilFunc] 108)) (Ne.symm hne))
 have hge : w.heap.size ≤ w1.heap.size := B.out.size
 have hK := (Array.getElem?_eq_some_iff.1 K.out).1
 have B := Lib.hid (below_row (cs := fs) (below_alloc B.out (.cells #[.nilFunc, .nilFunc, .nilFunc, .nilFunc, .nilFunc, .nilFunc, .nilFunc, .nilFunc, .nilFunc, .nilFunc, .nilFunc, .nilFunc, .nilFunc, .nilFunc, .nilFunc, .nilFunc, .nilFunc, .nilFunc, .nilFunc, .nilFunc, .nilFunc, .nilFunc, .nilFunc] 108)) hge)
 generalize hg : w1.heap.size = G at *
 generalize (w1.alloc (.cells #[.nilFunc, .nilFunc, .nilFunc, .nilFunc, .nilFunc, .nilFunc, .nilFunc, .nilFunc, .nilFunc, .nilFunc, .nilFunc, .nilFunc, .nilFunc, .nilFunc, .nilFunc, .nilFunc, .nilFunc, .nilFunc, .nilFunc, .nilFunc, .nilFunc, .nilFunc, .nilFunc] 108)).setRow G fs = w2 at N K Z B hK ⊢
 have c_kd : w2.cell? ⟨b, 22, none⟩ = some (.int .i64 2) := by rw [Z.out.c_kd, hk]
 obtain ⟨e0, he0⟩ := okS_at hS 0 (by omega)
 have x0 := cell_of_blk (i := 0) N.out he0
 have fN := fun i => free_of_blk (i := i) N.out
 have c_kd := Z.out.c_kd
 rw [hk] at c_kd
 have hS0 := Lib.hid hS
 clear hS
 refine Lib.hid ?_
 go_upto_region 7 with fail
 have hS := one_set (v := (.func (.func 118) #[.pointer (some ⟨b, 0, none⟩)] #[])) hS0.out 0 rfl
 have N := Lib.hid (row_set (i := 0) (v := (.func (.func 118) #[.pointer (some ⟨b, 0, none⟩)] #[])) N.out)
 have K := Lib.hid (row_far (i := 0) (v := (.func (.func 118) #[.pointer (some ⟨b, 0, none⟩)] #[])) K.out hne2)
 have Z := Lib.hid (Z.out.far (i := 0) (v := (.func (.func 118) #[.pointer (some ⟨b, 0, none⟩)] #[])) (Ne.symm hne))
 have B := Lib.hid (below_put (i := 0) (v := (.func (.func 118) #[.pointer (some ⟨b, 0, none⟩)] #[])) B.out hge)
 clear x0 fN c_kd hS0 he0
 obtain ⟨f1, y0⟩ : ∃ x, x = fs.setIfInBounds 0 (.func (.func 118) #[.pointer (some ⟨b, 0, none⟩)] #[]) := ⟨_, rfl⟩
 have N := N.out
 rw [← y0] at hS N
 have N := Lib.hid N
 have y0 := Lib.hid y0
 generalize World.setCell _ ⟨G, 0, none⟩ (.func (.func 118) #[.pointer (some ⟨b, 0, none⟩)] #[]) = w2 at *
 obtain ⟨e0, he0⟩ := okS_at hS 21 (by omega)
 have x0 := cell_of_blk (i := 21) N.out he0
 have fN := fun i => free_of_blk (i := i) N.out
 have c_kd := Z.out.c_kd
 rw [hk] at c_kd
 have hS0 := Lib.hid hS
 clear hS
 go_upto_region 8 with fail
 have hS := one_set (v := (.func (.func 119) #[.pointer (some ⟨b, 0, none⟩)] #[])) hS0.out 21 rfl
 have N := Lib.hid (row_set (i := 21) (v := (.func (.func 119) #[.pointer (some ⟨b, 0, none⟩)] #[])) N.out)
 have K := Lib.hid (row_far (i := 21) (v := (.func (.func 119) #[.pointer (some ⟨b, 0, none⟩)] #[])) K.out hne2)
 have Z := Lib.hid (Z.out.far (i := 21) (v := (.func (.func 119) #[.pointer (some ⟨b, 0, none⟩)] #[])) (Ne.symm hne))
 have B := Lib.hid (below_put (i := 21) (v := (.func (.func 119) #[.pointer (some ⟨b, 0, none⟩)] #[])) B.out hge)
 clear x0 fN c_kd hS0 he0
 obtain ⟨f2, y1⟩ : ∃ x, x = f1.setIfInBounds 21 (.func (.func 119) #[.pointer (some ⟨b, 0, none⟩)] #[]) := ⟨_, rfl⟩
 have N := N.out
 rw [← y1] at hS N
 have N := Lib.hid N
 have y1 := Lib.hid y1
 generalize World.setCell _ ⟨G, 21, none⟩ (.func (.func 119) #[.pointer (some ⟨b, 0, none⟩)] #[]) = w2 at *
 obtain ⟨e0, he0⟩ := okS_at hS 22 (by omega)
 have x0 := cell_of_blk (i := 22) N.out he0
 have fN := fun i => free_of_blk (i := i) N.out
 have c_kd := Z.out.c_kd
 rw [hk] at c_kd
 have hS0 := Lib.hid hS
 clear hS
 go_upto_region 9 with fail
 have hS := one_set (v := (.func (.func 120) #[.pointer (some ⟨b, 0, none⟩)] #[])) hS0.out 22 rfl
 have N := Lib.hid (row_set (i := 22) (v := (.func (.func 120) #[.pointer (some ⟨b, 0, none⟩)] #[])) N.out)
 have K := Lib.hid (row_far (i := 22) (v := (.func (.func 120) #[.pointer (some ⟨b, 0, none⟩)] #[])) K.out hne2)
 have Z := Lib.hid (Z.out.far (i := 22) (v := (.func (.func 120) #[.pointer (some ⟨b, 0, none⟩)] #[])) (Ne.symm hne))
 have B := Lib.hid (below_put (i := 22) (v := (.func (.func 120) #[.pointer (some ⟨b, 0, none⟩)] #[])) B.out hge)
 clear x0 fN c_kd hS0 he0
 obtain ⟨f3, y2⟩ : ∃ x, x = f2.setIfInBounds 22 (.func (.func 120) #[.pointer (some ⟨b, 0, none⟩)] #[]) := ⟨_, rfl⟩
 have N := N.out
 rw [← y2] at hS N
 have N := Lib.hid N
 have y2 := Lib.hid y2
 generalize World.setCell _ ⟨G, 22, none⟩ (.func (.func 120) #[.pointer (some ⟨b, 0, none⟩)] #[]) = w2 at *
 obtain ⟨e0, he0⟩ := okS_at hS 19 (by omega)
 have x0 := cell_of_blk (i := 19) N.out he0
 have fN := fun i => free_of_blk (i := i) N.out
 have c_kd := Z.out.c_kd
 rw [hk] at c_kd
 have hS0 := Lib.hid hS
 clear hS
 go_upto_region 10 with fail
 have hS := one_set (v := (.func (.func 121) #[.pointer (some ⟨b, 0, none⟩)] #[])) hS0.out 19 rfl
 have N := Lib.hid (row_set (i := 19) (v := (.func (.func 121) #[.pointer (some ⟨b, 0, none⟩)] #[])) N.out)
 have K := Lib.hid (row_far (i := 19) (v := (.func (.func 121) #[.pointer (some ⟨b, 0, none⟩)] #[])) K.out hne2)
 have Z := Lib.hid (Z.out.far (i := 19) (v := (.func (.func 121) #[.pointer (some ⟨b, 0, none⟩)] #[])) (Ne.symm hne))
 have B := Lib.hid (below_put (i := 19) (v := (.func (.func 121) #[.pointer (some ⟨b, 0, none⟩)] #[])) B.out hge)
 clear x0 fN c_kd hS0 he0
 obtain ⟨f4, y3⟩ : ∃ x, x = f3.setIfInBounds 19 (.func (.func 121) #[.pointer (some ⟨b, 0, none⟩)] #[]) := ⟨_, rfl⟩
 have N := N.out
 rw [← y3] at hS N
 have N := Lib.hid N
 have y3 := Lib.hid y3
 generalize World.setCell _ ⟨G, 19, none⟩ (.func (.func 121) #[.pointer (some ⟨b, 0, none⟩)] #[]) = w2 at *
 obtain ⟨e0, he0⟩ := okS_at hS 20 (by omega)
 have x0 := cell_of_blk (i := 20) N.out he0
 have fN := fun i => free_of_blk (i := i) N.out
 have c_kd := Z.out.c_kd
 rw [hk] at c_kd
 have hS0 := Lib.hid hS
 clear hS
 go_upto_region 11 with fail
 have hS := one_set (v := (.func (.func 122) #[.pointer (some ⟨b, 0, none⟩)] #[])) hS0.out 20 rfl
 have N := Lib.hid (row_set (i := 20) (v := (.func (.func 122) #[.pointer (some ⟨b, 0, none⟩)] #[])) N.out)
 have K := Lib.hid (row_far (i := 20) (v := (.func (.func 122) #[.pointer (some ⟨b, 0, none⟩)] #[])) K.out hne2)
 have Z := Lib.hid (Z.out.far (i := 20) (v := (.func (.func 122) #[.pointer (some ⟨b, 0, none⟩)] #[])) (Ne.symm hne))
 have B := Lib.hid (below_put (i := 20) (v := (.func (.func 122) #[.pointer (some ⟨b, 0, none⟩)] #[])) B.out hge)
 clear x0 fN c_kd hS0 he0
 obtain ⟨f5, y4⟩ : ∃ x, x = f4.setIfInBounds 20 (.func (.func 122) #[.pointer (some ⟨b, 0, none⟩)] #[]) := ⟨_, rfl⟩
 have N := N.out
 rw [← y4] at hS N
 have N := Lib.hid N
 have y4 := Lib.hid y4
 generalize World.setCell _ ⟨G, 20, none⟩ (.func (.func 122) #[.pointer (some ⟨b, 0, none⟩)] #[]) = w2 at *
 have N := N
 go_wp2_with (first | (refine load_row rfl 108 (.tmp 3) rfl G rfl 23 _ Tryz.underlying108 rfl hsz.out N.out hS.1 ?_) | (refine store_row rfl 108 (.tmp 2) (.tmp 30) rfl w.heap.size _ rfl rfl 23 hsz.out K.out hS.1 rfl hS.2 ?_))
 exact row_post rfl rfl Tryz.underlying108 rfl steps_size hS.1 rfl K.out ⟨by rw [y4.out, y3.out, y2.out, y1.out, y0.out], below_row B.out (Nat.le_refl _)⟩
set_option maxRecDepth 100000 in
set_option maxHeartbeats 2000000 in
theorem m_steps_rd {b : Nat} (k : ClkI) (w : World) (h : ClkAt b k w) (hk : k.kd = 0) : Calls Tryz.prog 92 #[.pointer (some ⟨b, 0, none⟩)] w fun e w' => e = .returned (.agg (allSteps (nameSteps k.on k.om b) 0 b)) ∧ Below w.heap.size w w' := by
 have hsz := Lib.hid steps_size
 have hmf : ∀ (fn : Fn) (first cap : Array Value) (w : World), (Instr.makeFunc fn first cap).run Tryz.prog w = .ok (.func fn first cap) w := fun _ _ _ _ => rfl
 have HN := fun w h => m_stepsOfName k w h (b := b)
 have hS := nameSteps_ok k.on k.om b
 generalize nameSteps k.on k.om b = fs at *
 replace HN := Lib.hid HN
 rw [show allSteps fs 0 b = (((fs.setIfInBounds 0 (.func (.func 118) #[.pointer (some ⟨b, 0, none⟩)] #[])).setIfInBounds 19 (.func (.func 121) #[.pointer (some ⟨b, 0, none⟩)] #[])).setIfInBounds 20 (.func (.func 122) #[.pointer (some ⟨b, 0, none⟩)] #[])) from rfl]
 have hlt := h.lt
 have h := Lib.hid h
 go_enter Tryz.func92, Tryz.ntmps92
 go_wp2_with (go_at_call 117; refine (HN.out _ (h.out.new _)).mono ?_; rintro e w1 ⟨rfl, hb⟩; refine Hid.out ?_)
 have K := Lib.hid (blk_below (blk_new w (.cells #[.nilFunc, .nilFunc, .nilFunc, .nilFunc, .nilFunc, .nilFunc, .nilFunc, .nilFunc, .nilFunc, .nilFunc, .nilFunc, .nilFunc, .nilFunc, .nilFunc, .nilFunc, .nilFunc, .nilFunc, .nilFunc, .nilFunc, .nilFunc, .nilFunc, .nilFunc, .nilFunc] 108)) hb)
 have Z := Lib.hid ((h.out.new (.cells #[.nilFunc, .nilFunc, .nilFunc, .nilFunc, .nilFunc, .nilFunc, .nilFunc, .nilFunc, .nilFunc, .nilFunc, .nilFunc, .nilFunc, .nilFunc, .nilFunc, .nilFunc, .nilFunc, .nilFunc, .nilFunc, .nilFunc, .nilFunc, .nilFunc, .nilFunc, .nilFunc] 108)).below hb)
 have B := Lib.hid (below_then (below_alloc (Below.refl w.heap.size w) (.cells #[.nilFunc, .nilFunc, .nilFunc, .nilFunc, .nilFunc, .nilFunc, .nilFunc, .nilFunc, .nilFunc, .nilFunc, .nilFunc, .nilFunc, .nilFunc, .nilFunc, .nilFunc, .nilFunc, .nilFunc, .nilFunc, .nilFunc, .nilFunc, .nilFunc, .nilFunc, .nilFunc] 108)) hb)
 clear hb
 have hlt1 := Z.out.lt
 have hne : w1.heap.size ≠ b := by omega
 have hne2 : w.heap.size ≠ w1.heap.size := by have := (Array.getElem?_eq_some_iff.1 K.out).1; omega
 refine Lib.hid ?_
 go_wp2_with (refine store_row (by rfl) 108 (.tmp 3) (.tmp 5) rfl w1.heap.size fs rfl rfl 23 hsz.out (blk_new w1 (.cells #[.nilFunc, .nilFunc, .nilFunc, .nilFunc, .nilFunc, .nilFunc, .nilFunc, .nilFunc, .nilFunc, .nilFunc, .nilFunc, .nilFunc, .nilFunc, .nilFunc, .nilFunc, .nilFunc, .nilFunc, .nilFunc, .nilFunc, .nilFunc, .nilFunc, .nilFunc, .nilFunc] 108)) hS.1 rfl hS.2 ?_; refine Hid.out ?_)
 have N := Lib.hid (setRow_heap _ _ _ fs _ _ (blk_new w1 (.cells #[.nilFunc, .nilFunc, .nilFunc, .nilFunc, .nilFunc, .nilFunc, .nilFunc, .nilFunc, .nilFunc, .nilFunc, .nilFunc, .nilFunc, .nilFunc, .nilFunc, .nilFunc, .nilFunc, .nilFunc, .nilFunc, .nilFunc, .nilFunc, .nilFunc, .nilFunc, .nilFunc] 108)))
 have K := Lib.hid (row_row (cs := fs) (blk_old (o := .cells #[.nilFunc, .nilFunc, .nilFunc, .nilFunc, .nilFunc, .nilFunc, .nilFunc, .nilFunc, .nilFunc, .nilFunc, .nilFunc, .nilFunc, .nilFunc, .nilFunc, .nilFunc, .nilFunc, .nilFunc, .nilFunc, .nilFunc, .nilFunc, .nilFunc, .nilFunc, .nilFunc] 108) K.out) (show w.heap.size ≠ w1.heap.size by have := (Array.getElem?_eq_some_iff.1 K.out).1; omega))
 have Z := Lib.hid (show ClkAt b k _ from row_row (cs := fs) (Z.out.new (.cells #[.nilFunc, .nilFunc, .nilFunc, .nilFunc, .nilFunc, .nilFunc, .nilFunc, .nilFunc, .nilFunc, .nilFunc, .nilFunc, .nilFunc, .nilFunc, .nilFunc, .nilFunc, .nilFunc, .nilFunc, .nilFunc, .nilFunc, .nilFunc, .nilFunc, .nilFunc, .nilFunc] 108)) (Ne.symm hne))
 have hge : w.heap.size ≤ w1.heap.size := B.out.size
 have hK := (Array.getElem?_eq_some_iff.1 K.out).1
 have B := Lib.hid (below_row (cs := fs) (below_alloc B.out (.cells #[.nilFunc, .nilFunc, .nilFunc, .nilFunc, .nilFunc, .nilFunc, .nilFunc, .nilFunc, .nilFunc, .nilFunc, .nilFunc, .nilFunc, .nilFunc, .nilFunc, .nilFunc, .nilFunc, .nilFunc, .nilFunc, .nilFunc, .nilFunc, .nilFunc, .nilFunc, .nilFunc] 108)) hge)
 generalize hg : w1.heap.size = G at *
 generalize (w1.alloc (.cells #[.nilFunc, .nilFunc, .nilFunc, .nilFunc, .nilFunc, .nilFunc, .nilFunc, .nilFunc, .nilFunc, .nilFunc, .nilFunc, .nilFunc, .nilFunc, .nilFunc, .nilFunc, .nilFunc, .nilFunc, .nilFunc, .nilFunc, .nilFunc, .nilFunc, .nilFunc, .nilFunc] 108)).setRow G fs = w2 at N K Z B hK ⊢
 have c_kd : w2.cell? ⟨b, 22, none⟩ = some (.int .i64 0) := by rw [Z.out.c_kd, hk]
 obtain ⟨e0, he0⟩ := okS_at hS 0 (by omega)
 have x0 := cell_of_blk (i := 0) N.out he0
 have fN := fun i => free_of_blk (i := i) N.out
 have c_kd := Z.out.c_kd
 rw [hk] at c_kd
 have hS0 := Lib.hid hS
 clear hS
 refine Lib.hid ?_
 go_upto_region 9 with fail
 have hS := one_set (v := (.func (.func 118) #[.pointer (some ⟨b, 0, none⟩)] #[])) hS0.out 0 rfl
 have N := Lib.hid (row_set (i := 0) (v := (.func (.func 118) #[.pointer (some ⟨b, 0, none⟩)] #[])) N.out)
 have K := Lib.hid (row_far (i := 0) (v := (.func (.func 118) #[.pointer (some ⟨b, 0, none⟩)] #[])) K.out hne2)
 have Z := Lib.hid (Z.out.far (i := 0) (v := (.func (.func 118) #[.pointer (some ⟨b, 0, none⟩)] #[])) (Ne.symm hne))
 have B := Lib.hid (below_put (i := 0) (v := (.func (.func 118) #[.pointer (some ⟨b, 0, none⟩)] #[])) B.out hge)
 clear x0 fN c_kd hS0 he0
 obtain ⟨f1, y0⟩ : ∃ x, x = fs.setIfInBounds 0 (.func (.func 118) #[.pointer (some ⟨b, 0, none⟩)] #[]) := ⟨_, rfl⟩
 have N := N.out
 rw [← y0] at hS N
 have N := Lib.hid N
 have y0 := Lib.hid y0
 generalize World.setCell _ ⟨G, 0, none⟩ (.func (.func 118) #[.pointer (some ⟨b, 0, none⟩)] #[]) = w2 at *
 obtain ⟨e0, he0⟩ := okS_at hS 19 (by omega)
 have x0 := cell_of_blk (i := 19) N.out he0
 have fN := fun i => free_of_blk (i := i) N.out
 have c_kd := Z.out.c_kd
 rw [hk] at c_kd
 have hS0 := Lib.hid hS
 clear hS
 go_upto_region 10 with fail
 have hS := one_set (v := (.func (.func 121) #[.pointer (some ⟨b, 0, none⟩)] #[])) hS0.out 19 rfl
 have N := Lib.hid (row_set (i := 19) (v := (.func (.func 121) #[.pointer (some ⟨b, 0, none⟩)] #[])) N.out)
 have K := Lib.hid (row_far (i := 19) (v := (.func (.func 121) #[.pointer (some ⟨b, 0, none⟩)] #[])) K.out hne2)
 have Z := Lib.hid (Z.out.far (i := 19) (v := (.func (.func 121) #[.pointer (some ⟨b, 0, none⟩)] #[])) (Ne.symm hne))
 have B := Lib.hid (below_put (i := 19) (v := (.func (.func 121) #[.pointer (some ⟨b, 0, none⟩)] #[])) B.out hge)
 clear x0 fN c_kd hS0 he0
 obtain ⟨f2, y1⟩ : ∃ x, x = f1.setIfInBounds 19 (.func (.func 121) #[.pointer (some ⟨b, 0, none⟩)] #[]) := ⟨_, rfl⟩
 have N := N.out
 rw [← y1] at hS N
 have N := Lib.hid N
 have y1 := Lib.hid y1
 generalize World.setCell _ ⟨G, 19, none⟩ (.func (.func 121) #[.pointer (some ⟨b, 0, none⟩)] #[]) = w2 at *
 obtain ⟨e0, he0⟩ := okS_at hS 20 (by omega)
 have x0 := cell_of_blk (i := 20) N.out he0
 have fN := fun i => free_of_blk (i := i) N.out
 have c_kd := Z.out.c_kd
 rw [hk] at c_kd
 have hS0 := Lib.hid hS
 clear hS
 go_upto_region 11 with fail
 have hS := one_set (v := (.func (.func 122) #[.pointer (some ⟨b, 0, none⟩)] #[])) hS0.out 20 rfl
 have N := Lib.hid (row_set (i := 20) (v := (.func (.func 122) #[.pointer (some ⟨b, 0, none⟩)] #[])) N.out)
 have K := Lib.hid (row_far (i := 20) (v := (.func (.func 122) #[.pointer (some ⟨b, 0, none⟩)] #[])) K.out hne2)
 have Z := Lib.hid (Z.out.far (i := 20) (v := (.func (.func 122) #[.pointer (some ⟨b, 0, none⟩)] #[])) (Ne.symm hne))
 have B := Lib.hid (below_put (i := 20) (v := (.func (.func 122) #[.pointer (some ⟨b, 0, none⟩)] #[])) B.out hge)
 clear x0 fN c_kd hS0 he0
 obtain ⟨f3, y2⟩ : ∃ x, x = f2.setIfInBounds 20 (.func (.func 122) #[.pointer (some ⟨b, 0, none⟩)] #[]) := ⟨_, rfl⟩
 have N := N.out
 rw [← y2] at hS N
 have N := Lib.hid N
 have y2 := Lib.hid y2
 generalize World.setCell _ ⟨G, 20, none⟩ (.func (.func 122) #[.pointer (some ⟨b, 0, none⟩)] #[]) = w2 at *
 have N := N
 go_wp2_with (first | (refine load_row rfl 108 (.tmp 3) rfl G rfl 23 _ Tryz.underlying108 rfl hsz.out N.out hS.1 ?_) | (refine store_row rfl 108 (.tmp 2) (.tmp 30) rfl w.heap.size _ rfl rfl 23 hsz.out K.out hS.1 rfl hS.2 ?_))
 exact row_post rfl rfl Tryz.underlying108 rfl steps_size hS.1 rfl K.out ⟨by rw [y2.out, y1.out, y0.out], below_row B.out (Nat.le_refl _)⟩
set_option maxRecDepth 100000 in
set_option maxHeartbeats 2000000 in
theorem m_steps_wr {b : Nat} (k : ClkI) (w : World) (h : ClkAt b k w) (hk : k.kd = 1) : Calls Tryz.prog 92 #[.pointer (some ⟨b, 0, none⟩)] w fun e w' => e = .returned (.agg (allSteps (nameSteps k.on k.om b) 1 b)) ∧ Below w.heap.size w w' := by
 have hsz := Lib.hid steps_size
 have hmf : ∀ (fn : Fn) (first cap : Array Value) (w : World), (Instr.makeFunc fn first cap).run Tryz.prog w = .ok (.func fn first cap) w := fun _ _ _ _ => rfl
 have HN := fun w h => m_stepsOfName k w h (b := b)
 have hS := nameSteps_ok k.on k.om b
 generalize nameSteps k.on k.om b = fs at *
 replace HN := Lib.hid HN
 rw [show allSteps fs 1 b = (((fs.setIfInBounds 0 (.func (.func 118) #[.pointer (some ⟨b, 0, none⟩)] #[])).setIfInBounds 19 (.func (.func 121) #[.pointer (some ⟨b, 0, none⟩)] #[])).setIfInBounds 20 (.func (.func 122) #[.pointer (some ⟨b, 0, none⟩)] #[])) from rfl]
 have hlt := h.lt
 have h := Lib.hid h
 go_enter Tryz.func92, Tryz.ntmps92
 go_wp2_with (go_at_call 117; refine (HN.out _ (h.out.new _)).mono ?_; rintro e w1 ⟨rfl, hb⟩; refine Hid.out ?_)
 have K := Lib.hid (blk_below (blk_new w (.cells #[.nilFunc, .nilFunc, .nilFunc, .nilFunc, .nilFunc, .nilFunc, .nilFunc, .nilFunc, .nilFunc, .nilFunc, .nilFunc, .nilFunc, .nilFunc, .nilFunc, .nilFunc, .nilFunc, .nilFunc, .nilFunc, .nilFunc, .nilFunc, .nilFunc, .nilFunc, .nilFunc] 108)) hb)
 have Z := Lib.hid ((h.out.new (.cells #[.nilFunc, .nilFunc, .nilFunc, .nilFunc, .nilFunc, .nilFunc, .nilFunc, .nilFunc, .nilFunc, .nilFunc, .nilFunc, .nilFunc, .nilFunc, .nilFunc, .nilFunc, .nilFunc, .nilFunc, .nilFunc, .nilFunc, .nilFunc, .nilFunc, .nilFunc, .nilFunc] 108)).below hb)
 have B := Lib.hid (below_then (below_alloc (Below.refl w.heap.size w) (.cells #[.nilFunc, .nilFunc, .nilFunc, .nilFunc, .nilFunc, .nilFunc, .nilFunc, .nilFunc, .nilFunc, .nilFunc, .nilFunc, .nilFunc, .nilFunc, .nilFunc, .nilFunc, .nilFunc, .nilFunc, .nilFunc, .nilFunc, .nilFunc, .nilFunc, .nilFunc, .nilFunc] 108)) hb)
 clear hb
 have hlt1 := Z.out.lt
 have hne : w1.heap.size ≠ b := by omega
 have hne2 : w.heap.size ≠ w1.heap.size := by have := (Array.getElem?_eq_some_iff.1 K.out).1; omega
 refine Lib.hid ?_
 go_wp2_with (refine store_row (by rfl) 108 (.tmp 3) (.tmp 5) rfl w1.heap.size fs rfl rfl 23 hsz.out (blk_new w1 (.cells #[.nilFunc, .nilFunc, .nilFunc, .nilFunc, .nilFunc, .nilFunc, .nilFunc, .nilFunc, .nilFunc, .nilFunc, .nilFunc, .nilFunc, .nilFunc, .nilFunc, .nilFunc, .nilFunc, .nilFunc, .nilFunc, .nilFunc, .nilFunc, .nilFunc, .nilFunc, .nilFunc] 108)) hS.1 rfl hS.2 ?_; refine Hid.out ?_)
 have N := Lib.hid (setRow_heap _ _ _ fs _ _ (blk_new w1 (.cells #[.nilFunc, .nilFunc, .nilFunc, .nilFunc, .nilFunc, .nilFunc, .nilFunc, .nilFunc, .nilFunc, .nilFunc, .nilFunc, .nilFunc, .nilFunc, .nilFunc, .nilFunc, .nilFunc, .nilFunc, .nilFunc, .nilFunc, .nilFunc, .nilFunc, .nilFunc, .nilFunc] 108)))
 have K := Lib.hid (row_row (cs := fs) (blk_old (o := .cells #[.nilFunc, .nilFunc, .nilFunc, .nilFunc, .nilFunc, .nilFunc, .nilFunc, .nilFunc, .nilFunc, .nilFunc, .nilFunc, .nilFunc, .nilFunc, .nilFunc, .nilFunc, .nilFunc, .nilFunc, .nilFunc, .nilFunc, .nilFunc, .nilFunc, .nilFunc, .nilFunc] 108) K.out) (show w.heap.size ≠ w1.heap.size by have := (Array.getElem?_eq_some_iff.1 K.out).1; omega))
 have Z := Lib.hid (show ClkAt b k _ from row_row (cs := fs) (Z.out.new (.cells #[.nilFunc, .nilFunc, .nilFunc, .nilFunc, .nilFunc, .nilFunc, .nilFunc, .nilFunc, .nilFunc, .nilFunc, .nilFunc, .nilFunc, .nilFunc, .nilFunc, .nilFunc, .nilFunc, .nilFunc, .nilFunc, .nilFunc, .nilFunc, .nilFunc, .nilFunc, .nilFunc] 108)) (Ne.symm hne))
 have hge : w.heap.size ≤ w1.heap.size := B.out.size
 have hK := (Array.getElem?_eq_some_iff.1 K.out).1
 have B := Lib.hid (below_row (cs := fs) (below_alloc B.out (.cells #[.nilFunc, .nilFunc, .nilFunc, .nilFunc, .nilFunc, .nilFunc, .nilFunc, .nilFunc, .nilFunc, .nilFunc, .nilFunc, .nilFunc, .nilFunc, .nilFunc, .nilFunc, .nilFunc, .nilFunc, .nilFunc, .nilFunc, .nilFunc, .nilFunc, .nilFunc, .nilFunc] 108)) hge)
 generalize hg : w1.heap.size = G at *
 generalize (w1.alloc (.cells #[.nilFunc, .nilFunc, .nilFunc, .nilFunc, .nilFunc, .nilFunc, .nilFunc, .nilFunc, .nilFunc, .nilFunc, .nilFunc, .nilFunc, .nilFunc, .nilFunc, .nilFunc, .nilFunc, .nilFunc, .nilFunc, .nilFunc, .nilFunc, .nilFunc, .nilFunc, .nilFunc] 108)).setRow G fs = w2 at N K Z B hK ⊢
 have c_kd : w2.cell? ⟨b, 22, none⟩ = some (.int .i64 1) := by rw [Z.out.c_kd, hk]
 obtain ⟨e0, he0⟩ := okS_at hS 0 (by omega)
 have x0 := cell_of_blk (i := 0) N.out he0
 have fN := fun i => free_of_blk (i := i) N.out
 have c_kd := Z.out.c_kd
 rw [hk] at c_kd
 have hS0 := Lib.hid hS
 clear hS
 refine Lib.hid ?_
 go_upto_region 9 with fail
 have hS := one_set (v := (.func (.func 118) #[.pointer (some ⟨b, 0, none⟩)] #[])) hS0.out 0 rfl
 have N := Lib.hid (row_set (i := 0) (v := (.func (.func 118) #[.pointer (some ⟨b, 0, none⟩)] #[])) N.out)
 have K := Lib.hid (row_far (i := 0) (v := (.func (.func 118) #[.pointer (some ⟨b, 0, none⟩)] #[])) K.out hne2)
 have Z := Lib.hid (Z.out.far (i := 0) (v := (.func (.func 118) #[.pointer (some ⟨b, 0, none⟩)] #[])) (Ne.symm hne))
 have B := Lib.hid (below_put (i := 0) (v := (.func (.func 118) #[.pointer (some ⟨b, 0, none⟩)] #[])) B.out hge)
 clear x0 fN c_kd hS0 he0
 obtain ⟨f1, y0⟩ : ∃ x, x = fs.setIfInBounds 0 (.func (.func 118) #[.pointer (some ⟨b, 0, none⟩)] #[]) := ⟨_, rfl⟩
 have N := N.out
 rw [← y0] at hS N
 have N := Lib.hid N
 have y0 := Lib.hid y0
 generalize World.setCell _ ⟨G, 0, none⟩ (.func (.func 118) #[.pointer (some ⟨b, 0, none⟩)] #[]) = w2 at *
 obtain ⟨e0, he0⟩ := okS_at hS 19 (by omega)
 have x0 := cell_of_blk (i := 19) N.out he0
 have fN := fun i => free_of_blk (i := i) N.out
 have c_kd := Z.out.c_kd
 rw [hk] at c_kd
 have hS0 := Lib.hid hS
 clear hS
 go_upto_region 10 with fail
 have hS := one_set (v := (.func (.func 121) #[.pointer (some ⟨b, 0, none⟩)] #[])) hS0.out 19 rfl
 have N := Lib.hid (row_set (i := 19) (v := (.func (.func 121) #[.pointer (some ⟨b, 0, none⟩)] #[])) N.out)
 have K := Lib.hid (row_far (i := 19) (v := (.func (.func 121) #[.pointer (some ⟨b, 0, none⟩)] #[])) K.out hne2)
 have Z := Lib.hid (Z.out.far (i := 19) (v := (.func (.func 121) #[.pointer (some ⟨b, 0, none⟩)] #[])) (Ne.symm hne))
 have B := Lib.hid (below_put (i := 19) (v := (.func (.func 121) #[.pointer (some ⟨b, 0, none⟩)] #[])) B.out hge)
 clear x0 fN c_kd hS0 he0
 obtain ⟨f2, y1⟩ : ∃ x, x = f1.setIfInBounds 19 (.func (.func 121) #[.pointer (some ⟨b, 0, none⟩)] #[]) := ⟨_, rfl⟩
 have N := N.out
 rw [← y1] at hS N
 have N := Lib.hid N
 have y1 := Lib.hid y1
 generalize World.setCell _ ⟨G, 19, none⟩ (.func (.func 121) #[.pointer (some ⟨b, 0, none⟩)] #[]) = w2 at *
 obtain ⟨e0, he0⟩ := okS_at hS 20 (by omega)
 have x0 := cell_of_blk (i := 20) N.out he0
 have fN := fun i => free_of_blk (i := i) N.out
 have c_kd := Z.out.c_kd
 rw [hk] at c_kd
 have hS0 := Lib.hid hS
 clear hS
 go_upto_region 11 with fail
 have hS := one_set (v := (.func (.func 122) #[.pointer (some ⟨b, 0, none⟩)] #[])) hS0.out 20 rfl
 have N := Lib.hid (row_set (i := 20) (v := (.func (.func 122) #[.pointer (some ⟨b, 0, none⟩)] #[])) N.out)
 have K := Lib.hid (row_far (i := 20) (v := (.func (.func 122) #[.pointer (some ⟨b, 0, none⟩)] #[])) K.out hne2)
 have Z := Lib.hid (Z.out.far (i := 20) (v := (.func (.func 122) #[.pointer (some ⟨b, 0, none⟩)] #[])) (Ne.symm hne))
 have B := Lib.hid (below_put (i := 20) (v := (.func (.func 122) #[.pointer (some ⟨b, 0, none⟩)] #[])) B.out hge)
 clear x0 fN c_kd hS0 he0
 obtain ⟨f3, y2⟩ : ∃ x, x = f2.setIfInBounds 20 (.func (.func 122) #[.pointer (some ⟨b, 0, none⟩)] #[]) := ⟨_, rfl⟩
 have N := N.out
 rw [← y2] at hS N
 have N := Lib.hid N
 have y2 := Lib.hid y2
 generalize World.setCell _ ⟨G, 20, none⟩ (.func (.func 122) #[.pointer (some ⟨b, 0, none⟩)] #[]) = w2 at *
 have N := N
 go_wp2_with (first | (refine load_row rfl 108 (.tmp 3) rfl G rfl 23 _ Tryz.underlying108 rfl hsz.out N.out hS.1 ?_) | (refine store_row rfl 108 (.tmp 2) (.tmp 30) rfl w.heap.size _ rfl rfl 23 hsz.out K.out hS.1 rfl hS.2 ?_))
 exact row_post rfl rfl Tryz.underlying108 rfl steps_size hS.1 rfl K.out ⟨by rw [y2.out, y1.out, y0.out], below_row B.out (Nat.le_refl _)⟩
end Go.Proofs.YthklebkpoccblaaGreat
