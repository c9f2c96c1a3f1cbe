/-
  Texts put together by program: CrA.
  Conditions: as each theorem says.
-/
import Derived.Test.YthklebkpoccblaaGreatRqam
namespace Go.Proofs.YthklebkpoccblaaGreat
open Go.RowKit
def coreC (a x y s p pc sq cd t lo hi vl : Int) (cr : Bool) (nx : Int) (jm : Bool) : Array Value := #[.int .i64 a, .int .i64 x, .int .i64 y, .int .i64 s, .int .i64 p, .int .i64 pc, .int .i64 sq, .int .i64 cd, .int .i64 t, .int .i64 lo, .int .i64 hi, .int .i64 vl, .bool cr, .int .i64 nx, .bool jm]
def coreV (a x y s p pc sq cd t lo hi vl : Int) (cr : Bool) (nx : Int) (jm : Bool) : Value := .agg (coreC a x y s p pc sq cd t lo hi vl cr nx jm)
theorem coreV_mk (a x y s p pc sq cd t lo hi vl : Int) (cr : Bool) (nx : Int) (jm : Bool) : coreV a x y s p pc sq cd t lo hi vl cr nx jm = .agg #[.int .i64 a, .int .i64 x, .int .i64 y, .int .i64 s, .int .i64 p, .int .i64 pc, .int .i64 sq, .int .i64 cd, .int .i64 t, .int .i64 lo, .int .i64 hi, .int .i64 vl, .bool cr, .int .i64 nx, .bool jm] := rfl
theorem icore_size : (Tryz.prog.info? 27).map (·.size) = some 15 := by kernel_rfl
def stepB (t : Int) : Bool := isUp t 6 || (decide (19 ≤ t) && decide (t ≤ 22))
def okCo (a x y s p pc sq cd t lo hi vl nx : Int) : Bool := okR a x y s p pc && isUp sq 3 && isUp nx 3 && isB cd && isB lo && isB hi && isB vl && stepB t
theorem okCo_prog (a x y s p pc sq cd t lo hi vl nx : Int) : okCo a x y s p pc sq cd t lo hi vl nx = (okR a x y s p pc && (isUp sq 3 && isUp nx 3) && (isB cd && isB lo && isB hi && isB vl) && stepB t) := by
 unfold okCo
 simp only [Bool.and_assoc]
set_option maxRecDepth 100000 in
set_option maxHeartbeats 4000000 in
theorem spec_between (n : Int) (w : World) : Calls Tryz.prog 44 #[.int .i64 n, .int .i64 19, .int .i64 22] w fun e w' => e = .returned (.bool (decide (19 ≤ n) && decide (n ≤ 22))) ∧ w = w' := by
 by_cases h : 19 ≤ n ∧ n ≤ 22
 ·refine (hx_in_yes n 19 22 w h.1 h.2).mono ?_
  rintro e w' ⟨rfl, rfl⟩
  exact ⟨by simp [h.1, h.2], rfl⟩
 ·refine (hx_in_no n 19 22 w (by omega)).mono ?_
  rintro e w' ⟨rfl, rfl⟩
  refine ⟨?_, rfl⟩
  have : (decide (19 ≤ n) && decide (n ≤ 22)) = false := by
   rw [Bool.eq_false_iff]
   simp only [ne_eq, Bool.and_eq_true, decide_eq_true_eq]
   exact h
  rw [this]
set_option maxRecDepth 100000 in
set_option maxHeartbeats 4000000 in
theorem impl_isStep (t : Int) (w : World) : Calls Tryz.prog 42 #[.int .i64 t] w fun e w' => e = .returned (.bool (stepB t)) ∧ w = w' := by
 have HU := Lib.hid (fun w => is_up t 6 w)
 have HS : Hid (stepB t = (isUp t 6 || (decide (19 ≤ t) && decide (t ≤ 22)))) := Lib.hid rfl
 rw [HS.out]
 cases hu : isUp t 6
 ·rw [hu] at HU
  by_cases h1 : 19 ≤ t
  ·by_cases h2 : t ≤ 22
   ·go_enter Tryz.func42, Tryz.ntmps42
    go_wp2_with (go_at_call 39; refine (HU.out _).mono ?_; rintro e w' ⟨rfl, rfl⟩)
    go_ret
    exact ⟨by simp [*], rfl⟩
   ·go_enter Tryz.func42, Tryz.ntmps42
    go_wp2_with (go_at_call 39; refine (HU.out _).mono ?_; rintro e w' ⟨rfl, rfl⟩)
    go_ret
    exact ⟨by simp [*]; try omega, rfl⟩
  ·go_enter Tryz.func42, Tryz.ntmps42
   go_wp2_with (go_at_call 39; refine (HU.out _).mono ?_; rintro e w' ⟨rfl, rfl⟩)
   go_ret
   exact ⟨by simp [*]; try omega, rfl⟩
 ·rw [hu] at HU
  go_enter Tryz.func42, Tryz.ntmps42
  go_wp2_with (go_at_call 39; refine (HU.out _).mono ?_; rintro e w' ⟨rfl, rfl⟩)
  go_ret
  exact ⟨by simp [*], rfl⟩
set_option maxRecDepth 100000 in
set_option maxHeartbeats 4000000 in
theorem spec_coreOk (a x y s p pc sq cd t lo hi vl : Int) (cr : Bool) (nx : Int) (jm : Bool) (w : World) : Calls Tryz.prog 13 #[coreV a x y s p pc sq cd t lo hi vl cr nx jm] w fun e w' => e = .returned (.bool (okCo a x y s p pc sq cd t lo hi vl nx)) ∧ Below w.heap.size w w' := by
 have H := show okCo a x y s p pc sq cd t lo hi vl nx = (okR a x y s p pc && isUp sq 3 && isUp nx 3 && isB cd && isB lo && isB hi && isB vl && (isUp t 6 || (decide (19 ≤ t) && decide (t ≤ 22)))) from rfl
 have hR := fun w => spec_regsOk a x y s p pc w
 unfold regsV at hR
 rw [coreV_mk]
 have hsq := fun w => spec_up sq 3 w
 have hnx := fun w => spec_up nx 3 w
 have hcd := fun w => spec_byte cd w
 have hlo := fun w => spec_byte lo w
 have hhi := fun w => spec_byte hi w
 have hvl := fun w => spec_byte vl w
 have ht6 := fun w => spec_up t 6 w
 have ht19 := fun w => spec_between t w
 rw [H]
 clear H
 generalize okR a x y s p pc = bR at *
 generalize isUp sq 3 = bsq at *
 generalize isUp nx 3 = bnx at *
 generalize isB cd = bcd at *
 generalize isB lo = blo at *
 generalize isB hi = bhi at *
 generalize isB vl = bvl at *
 generalize isUp t 6 = bt6 at *
 generalize (decide (19 ≤ t) && decide (t ≤ 22)) = bt19 at *
 replace hR := Lib.hid hR
 replace hsq := Lib.hid hsq
 replace hnx := Lib.hid hnx
 replace hcd := Lib.hid hcd
 replace hlo := Lib.hid hlo
 replace hhi := Lib.hid hhi
 replace hvl := Lib.hid hvl
 replace ht6 := Lib.hid ht6
 replace ht19 := Lib.hid ht19
 go_enter Tryz.func13, Tryz.ntmps13
 go_wp2_with (go_at_call 43; refine (hR.out _).mono ?_; rintro e w1 ⟨rfl, hb⟩; refine Hid.out ?_)
 have Z := blk_below (blk_new w (.cells #[.int .i64 a, .int .i64 x, .int .i64 y, .int .i64 s, .int .i64 p, .int .i64 pc, .int .i64 sq, .int .i64 cd, .int .i64 t, .int .i64 lo, .int .i64 hi, .int .i64 vl, .bool cr, .int .i64 nx, .bool jm] 27)) hb
 have B := Lib.hid (below_then (below_alloc (Below.refl w.heap.size w) _) hb)
 clear hb
 have c6 := cell_of_blk (i := 6) (v := .int .i64 sq) Z rfl
 have c7 := cell_of_blk (i := 7) (v := .int .i64 cd) Z rfl
 have c8 := cell_of_blk (i := 8) (v := .int .i64 t) Z rfl
 have c9 := cell_of_blk (i := 9) (v := .int .i64 lo) Z rfl
 have c10 := cell_of_blk (i := 10) (v := .int .i64 hi) Z rfl
 have c11 := cell_of_blk (i := 11) (v := .int .i64 vl) Z rfl
 have c13 := cell_of_blk (i := 13) (v := .int .i64 nx) Z rfl
 clear Z
 cases bR
 ·refine Lib.hid ?_
  go_wp2
  go_ret
  exact ⟨by simp, B.out⟩
 ·refine Lib.hid ?_
  go_wp2_with (go_at_call 44; refine (hsq.out _).mono ?_; rintro e w' ⟨rfl, rfl⟩; refine Hid.out ?_)
  cases bsq
  ·refine Lib.hid ?_
   go_wp2
   go_ret
   exact ⟨by simp, B.out⟩
  ·refine Lib.hid ?_
   go_wp2_with (go_at_call 44; refine (hnx.out _).mono ?_; rintro e w' ⟨rfl, rfl⟩; refine Hid.out ?_)
   cases bnx
   ·refine Lib.hid ?_
    go_wp2
    go_ret
    exact ⟨by simp, B.out⟩
   ·refine Lib.hid ?_
    go_wp2_with (go_at_call 45; refine (hcd.out _).mono ?_; rintro e w' ⟨rfl, rfl⟩; refine Hid.out ?_)
    cases bcd
    ·refine Lib.hid ?_
     go_wp2
     go_ret
     exact ⟨by simp, B.out⟩
    ·refine Lib.hid ?_
     go_wp2_with (go_at_call 45; refine (hlo.out _).mono ?_; rintro e w' ⟨rfl, rfl⟩; refine Hid.out ?_)
     cases blo
     ·refine Lib.hid ?_
      go_wp2
      go_ret
      exact ⟨by simp, B.out⟩
     ·refine Lib.hid ?_
      go_wp2_with (go_at_call 45; refine (hhi.out _).mono ?_; rintro e w' ⟨rfl, rfl⟩; refine Hid.out ?_)
      cases bhi
      ·refine Lib.hid ?_
       go_wp2
       go_ret
       exact ⟨by simp, B.out⟩
      ·refine Lib.hid ?_
       go_wp2_with (go_at_call 45; refine (hvl.out _).mono ?_; rintro e w' ⟨rfl, rfl⟩; refine Hid.out ?_)
       cases bvl
       ·refine Lib.hid ?_
        go_wp2
        go_ret
        exact ⟨by simp, B.out⟩
       ·refine Lib.hid ?_
        go_wp2_with (go_at_call 44; refine (ht6.out _).mono ?_; rintro e w' ⟨rfl, rfl⟩; refine Hid.out ?_)
        cases bt6
        ·refine Lib.hid ?_
         go_wp2_with (go_at_call 44; refine (ht19.out _).mono ?_; rintro e w' ⟨rfl, rfl⟩; refine Hid.out ?_)
         cases bt19
         ·refine Lib.hid ?_
          go_wp2
          go_ret
          exact ⟨by simp, B.out⟩
         ·refine Lib.hid ?_
          go_wp2
          go_ret
          exact ⟨by simp, B.out⟩
        ·refine Lib.hid ?_
         go_wp2
         go_ret
         exact ⟨by simp, B.out⟩
set_option maxRecDepth 100000 in
set_option maxHeartbeats 4000000 in
theorem impl_coreOk (a x y s p pc sq cd t lo hi vl : Int) (cr : Bool) (nx : Int) (jm : Bool) (w : World) : Calls Tryz.prog 12 #[coreV a x y s p pc sq cd t lo hi vl cr nx jm] w fun e w' => e = .returned (.bool (okCo a x y s p pc sq cd t lo hi vl nx)) ∧ Below w.heap.size w w' := by
 have H := okCo_prog a x y s p pc sq cd t lo hi vl nx
 have hR := fun w => impl_regsOk a x y s p pc w
 unfold regsV at hR
 rw [coreV_mk]
 have hsq := fun w => is_up sq 3 w
 have hnx := fun w => is_up nx 3 w
 have hcd := fun w => is_byte cd w
 have hlo := fun w => is_byte lo w
 have hhi := fun w => is_byte hi w
 have hvl := fun w => is_byte vl w
 have hst := fun w => impl_isStep t w
 rw [H]
 clear H
 generalize okR a x y s p pc = bR at *
 generalize isUp sq 3 = bsq at *
 generalize isUp nx 3 = bnx at *
 generalize isB cd = bcd at *
 generalize isB lo = blo at *
 generalize isB hi = bhi at *
 generalize isB vl = bvl at *
 generalize stepB t = bst at *
 replace hR := Lib.hid hR
 replace hsq := Lib.hid hsq
 replace hnx := Lib.hid hnx
 replace hcd := Lib.hid hcd
 replace hlo := Lib.hid hlo
 replace hhi := Lib.hid hhi
 replace hvl := Lib.hid hvl
 replace hst := Lib.hid hst
 go_enter Tryz.func12, Tryz.ntmps12
 go_wp2_with (go_at_call 39; refine (hsq.out _).mono ?_; rintro e w' ⟨rfl, rfl⟩; refine Hid.out ?_)
 cases bsq
 ·refine Lib.hid ?_
  go_wp2_with (go_at_call 40; refine (hcd.out _).mono ?_; rintro e w' ⟨rfl, rfl⟩; refine Hid.out ?_)
  cases bcd
  ·refine Lib.hid ?_
   go_wp2_with (go_at_call 41; refine (hR.out _).mono ?_; rintro e w1 ⟨rfl, hb⟩; refine Hid.out ?_)
   have Z := blk_below (blk_new w (.cells #[.int .i64 a, .int .i64 x, .int .i64 y, .int .i64 s, .int .i64 p, .int .i64 pc, .int .i64 sq, .int .i64 cd, .int .i64 t, .int .i64 lo, .int .i64 hi, .int .i64 vl, .bool cr, .int .i64 nx, .bool jm] 27)) hb
   have B := Lib.hid (below_then (below_alloc (Below.refl w.heap.size w) _) hb)
   clear hb
   have c8 := cell_of_blk (i := 8) (v := .int .i64 t) Z rfl
   clear Z
   cases bR
   ·refine Lib.hid ?_
    go_wp2
    go_ret
    exact ⟨by simp, B.out⟩
   ·refine Lib.hid ?_
    go_wp2
    go_ret
    exact ⟨by simp, B.out⟩
  ·refine Lib.hid ?_
   go_wp2_with (go_at_call 40; refine (hlo.out _).mono ?_; rintro e w' ⟨rfl, rfl⟩; refine Hid.out ?_)
   cases blo
   ·refine Lib.hid ?_
    go_wp2_with (go_at_call 41; refine (hR.out _).mono ?_; rintro e w1 ⟨rfl, hb⟩; refine Hid.out ?_)
    have Z := blk_below (blk_new w (.cells #[.int .i64 a, .int .i64 x, .int .i64 y, .int .i64 s, .int .i64 p, .int .i64 pc, .int .i64 sq, .int .i64 cd, .int .i64 t, .int .i64 lo, .int .i64 hi, .int .i64 vl, .bool cr, .int .i64 nx, .bool jm] 27)) hb
    have B := Lib.hid (below_then (below_alloc (Below.refl w.heap.size w) _) hb)
    clear hb
    have c8 := cell_of_blk (i := 8) (v := .int .i64 t) Z rfl
    clear Z
    cases bR
    ·refine Lib.hid ?_
     go_wp2
     go_ret
     exact ⟨by simp, B.out⟩
    ·refine Lib.hid ?_
     go_wp2
     go_ret
     exact ⟨by simp, B.out⟩
   ·refine Lib.hid ?_
    go_wp2_with (go_at_call 40; refine (hhi.out _).mono ?_; rintro e w' ⟨rfl, rfl⟩; refine Hid.out ?_)
    cases bhi
    ·refine Lib.hid ?_
     go_wp2_with (go_at_call 41; refine (hR.out _).mono ?_; rintro e w1 ⟨rfl, hb⟩; refine Hid.out ?_)
     have Z := blk_below (blk_new w (.cells #[.int .i64 a, .int .i64 x, .int .i64 y, .int .i64 s, .int .i64 p, .int .i64 pc, .int .i64 sq, .int .i64 cd, .int .i64 t, .int .i64 lo, .int .i64 hi, .int .i64 vl, .bool cr, .int .i64 nx, .bool jm] 27)) hb
     have B := Lib.hid (below_then (below_alloc (Below.refl w.heap.size w) _) hb)
     clear hb
     have c8 := cell_of_blk (i := 8) (v := .int .i64 t) Z rfl
     clear Z
     cases bR
     ·refine Lib.hid ?_
      go_wp2
      go_ret
      exact ⟨by simp, B.out⟩
     ·refine Lib.hid ?_
      go_wp2
      go_ret
      exact ⟨by simp, B.out⟩
    ·refine Lib.hid ?_
     go_wp2_with (go_at_call 40; refine (hvl.out _).mono ?_; rintro e w' ⟨rfl, rfl⟩; refine Hid.out ?_)
     cases bvl
     ·refine Lib.hid ?_
      go_wp2_with (go_at_call 41; refine (hR.out _).mono ?_; rintro e w1 ⟨rfl, hb⟩; refine Hid.out ?_)
      have Z := blk_below (blk_new w (.cells #[.int .i64 a, .int .i64 x, .int .i64 y, .int .i64 s, .int .i64 p, .int .i64 pc, .int .i64 sq, .int .i64 cd, .int .i64 t, .int .i64 lo, .int .i64 hi, .int .i64 vl, .bool cr, .int .i64 nx, .bool jm] 27)) hb
      have B := Lib.hid (below_then (below_alloc (Below.refl w.heap.size w) _) hb)
      clear hb
      have c8 := cell_of_blk (i := 8) (v := .int .i64 t) Z rfl
      clear Z
      cases bR
      ·refine Lib.hid ?_
       go_wp2
       go_ret
       exact ⟨by simp, B.out⟩
      ·refine Lib.hid ?_
       go_wp2
       go_ret
       exact ⟨by simp, B.out⟩
     ·refine Lib.hid ?_
      go_wp2_with (go_at_call 41; refine (hR.out _).mono ?_; rintro e w1 ⟨rfl, hb⟩; refine Hid.out ?_)
      have Z := blk_below (blk_new w (.cells #[.int .i64 a, .int .i64 x, .int .i64 y, .int .i64 s, .int .i64 p, .int .i64 pc, .int .i64 sq, .int .i64 cd, .int .i64 t, .int .i64 lo, .int .i64 hi, .int .i64 vl, .bool cr, .int .i64 nx, .bool jm] 27)) hb
      have B := Lib.hid (below_then (below_alloc (Below.refl w.heap.size w) _) hb)
      clear hb
      have c8 := cell_of_blk (i := 8) (v := .int .i64 t) Z rfl
      clear Z
      cases bR
      ·refine Lib.hid ?_
       go_wp2
       go_ret
       exact ⟨by simp, B.out⟩
      ·refine Lib.hid ?_
       go_wp2
       go_ret
       exact ⟨by simp, B.out⟩
 ·refine Lib.hid ?_
  go_wp2_with (go_at_call 39; refine (hnx.out _).mono ?_; rintro e w' ⟨rfl, rfl⟩; refine Hid.out ?_)
  cases bnx
  ·refine Lib.hid ?_
   go_wp2_with (go_at_call 40; refine (hcd.out _).mono ?_; rintro e w' ⟨rfl, rfl⟩; refine Hid.out ?_)
   cases bcd
   ·refine Lib.hid ?_
    go_wp2_with (go_at_call 41; refine (hR.out _).mono ?_; rintro e w1 ⟨rfl, hb⟩; refine Hid.out ?_)
    have Z := blk_below (blk_new w (.cells #[.int .i64 a, .int .i64 x, .int .i64 y, .int .i64 s, .int .i64 p, .int .i64 pc, .int .i64 sq, .int .i64 cd, .int .i64 t, .int .i64 lo, .int .i64 hi, .int .i64 vl, .bool cr, .int .i64 nx, .bool jm] 27)) hb
    have B := Lib.hid (below_then (below_alloc (Below.refl w.heap.size w) _) hb)
    clear hb
    have c8 := cell_of_blk (i := 8) (v := .int .i64 t) Z rfl
    clear Z
    cases bR
    ·refine Lib.hid ?_
     go_wp2
     go_ret
     exact ⟨by simp, B.out⟩
    ·refine Lib.hid ?_
     go_wp2
     go_ret
     exact ⟨by simp, B.out⟩
   ·refine Lib.hid ?_
    go_wp2_with (go_at_call 40; refine (hlo.out _).mono ?_; rintro e w' ⟨rfl, rfl⟩; refine Hid.out ?_)
    cases blo
    ·refine Lib.hid ?_
     go_wp2_with (go_at_call 41; refine (hR.out _).mono ?_; rintro e w1 ⟨rfl, hb⟩; refine Hid.out ?_)
     have Z := blk_below (blk_new w (.cells #[.int .i64 a, .int .i64 x, .int .i64 y, .int .i64 s, .int .i64 p, .int .i64 pc, .int .i64 sq, .int .i64 cd, .int .i64 t, .int .i64 lo, .int .i64 hi, .int .i64 vl, .bool cr, .int .i64 nx, .bool jm] 27)) hb
     have B := Lib.hid (below_then (below_alloc (Below.refl w.heap.size w) _) hb)
     clear hb
     have c8 := cell_of_blk (i := 8) (v := .int .i64 t) Z rfl
     clear Z
     cases bR
     ·refine Lib.hid ?_
      go_wp2
      go_ret
      exact ⟨by simp, B.out⟩
     ·refine Lib.hid ?_
      go_wp2
      go_ret
      exact ⟨by simp, B.out⟩
    ·refine Lib.hid ?_
     go_wp2_with (go_at_call 40; refine (hhi.out _).mono ?_; rintro e w' ⟨rfl, rfl⟩; refine Hid.out ?_)
     cases bhi
     ·refine Lib.hid ?_
      go_wp2_with (go_at_call 41; refine (hR.out _).mono ?_; rintro e w1 ⟨rfl, hb⟩; refine Hid.out ?_)
      have Z := blk_below (blk_new w (.cells #[.int .i64 a, .int .i64 x, .int .i64 y, .int .i64 s, .int .i64 p, .int .i64 pc, .int .i64 sq, .int .i64 cd, .int .i64 t, .int .i64 lo, .int .i64 hi, .int .i64 vl, .bool cr, .int .i64 nx, .bool jm] 27)) hb
      have B := Lib.hid (below_then (below_alloc (Below.refl w.heap.size w) _) hb)
      clear hb
      have c8 := cell_of_blk (i := 8) (v := .int .i64 t) Z rfl
      clear Z
      cases bR
      ·refine Lib.hid ?_
       go_wp2
       go_ret
       exact ⟨by simp, B.out⟩
      ·refine Lib.hid ?_
       go_wp2
       go_ret
       exact ⟨by simp, B.out⟩
     ·refine Lib.hid ?_
      go_wp2_with (go_at_call 40; refine (hvl.out _).mono ?_; rintro e w' ⟨rfl, rfl⟩; refine Hid.out ?_)
      cases bvl
      ·refine Lib.hid ?_
       go_wp2_with (go_at_call 41; refine (hR.out _).mono ?_; rintro e w1 ⟨rfl, hb⟩; refine Hid.out ?_)
       have Z := blk_below (blk_new w (.cells #[.int .i64 a, .int .i64 x, .int .i64 y, .int .i64 s, .int .i64 p, .int .i64 pc, .int .i64 sq, .int .i64 cd, .int .i64 t, .int .i64 lo, .int .i64 hi, .int .i64 vl, .bool cr, .int .i64 nx, .bool jm] 27)) hb
       have B := Lib.hid (below_then (below_alloc (Below.refl w.heap.size w) _) hb)
       clear hb
       have c8 := cell_of_blk (i := 8) (v := .int .i64 t) Z rfl
       clear Z
       cases bR
       ·refine Lib.hid ?_
        go_wp2
        go_ret
        exact ⟨by simp, B.out⟩
       ·refine Lib.hid ?_
        go_wp2
        go_ret
        exact ⟨by simp, B.out⟩
      ·refine Lib.hid ?_
       go_wp2_with (go_at_call 41; refine (hR.out _).mono ?_; rintro e w1 ⟨rfl, hb⟩; refine Hid.out ?_)
       have Z := blk_below (blk_new w (.cells #[.int .i64 a, .int .i64 x, .int .i64 y, .int .i64 s, .int .i64 p, .int .i64 pc, .int .i64 sq, .int .i64 cd, .int .i64 t, .int .i64 lo, .int .i64 hi, .int .i64 vl, .bool cr, .int .i64 nx, .bool jm] 27)) hb
       have B := Lib.hid (below_then (below_alloc (Below.refl w.heap.size w) _) hb)
       clear hb
       have c8 := cell_of_blk (i := 8) (v := .int .i64 t) Z rfl
       clear Z
       cases bR
       ·refine Lib.hid ?_
        go_wp2
        go_ret
        exact ⟨by simp, B.out⟩
       ·refine Lib.hid ?_
        go_wp2
        go_ret
        exact ⟨by simp, B.out⟩
  ·refine Lib.hid ?_
   go_wp2_with (go_at_call 40; refine (hcd.out _).mono ?_; rintro e w' ⟨rfl, rfl⟩; refine Hid.out ?_)
   cases bcd
   ·refine Lib.hid ?_
    go_wp2_with (go_at_call 41; refine (hR.out _).mono ?_; rintro e w1 ⟨rfl, hb⟩; refine Hid.out ?_)
    have Z := blk_below (blk_new w (.cells #[.int .i64 a, .int .i64 x, .int .i64 y, .int .i64 s, .int .i64 p, .int .i64 pc, .int .i64 sq, .int .i64 cd, .int .i64 t, .int .i64 lo, .int .i64 hi, .int .i64 vl, .bool cr, .int .i64 nx, .bool jm] 27)) hb
    have B := Lib.hid (below_then (below_alloc (Below.refl w.heap.size w) _) hb)
    clear hb
    have c8 := cell_of_blk (i := 8) (v := .int .i64 t) Z rfl
    clear Z
    cases bR
    ·refine Lib.hid ?_
     go_wp2
     go_ret
     exact ⟨by simp, B.out⟩
    ·refine Lib.hid ?_
     go_wp2
     go_ret
     exact ⟨by simp, B.out⟩
   ·refine Lib.hid ?_
    go_wp2_with (go_at_call 40; refine (hlo.out _).mono ?_; rintro e w' ⟨rfl, rfl⟩; refine Hid.out ?_)
    cases blo
    ·refine Lib.hid ?_
     go_wp2_with (go_at_call 41; refine (hR.out _).mono ?_; rintro e w1 ⟨rfl, hb⟩; refine Hid.out ?_)
     have Z := blk_below (blk_new w (.cells #[.int .i64 a, .int .i64 x, .int .i64 y, .int .i64 s, .int .i64 p, .int .i64 pc, .int .i64 sq, .int .i64 cd, .int .i64 t, .int .i64 lo, .int .i64 hi, .int .i64 vl, .bool cr, .int .i64 nx, .bool jm] 27)) hb
     have B := Lib.hid (below_then (below_alloc (Below.refl w.heap.size w) _) hb)
     clear hb
     have c8 := cell_of_blk (i := 8) (v := .int .i64 t) Z rfl
     clear Z
     cases bR
     ·refine Lib.hid ?_
      go_wp2
      go_ret
      exact ⟨by simp, B.out⟩
     ·refine Lib.hid ?_
      go_wp2
      go_ret
      exact ⟨by simp, B.out⟩
    ·refine Lib.hid ?_
     go_wp2_with (go_at_call 40; refine (hhi.out _).mono ?_; rintro e w' ⟨rfl, rfl⟩; refine Hid.out ?_)
     cases bhi
     ·refine Lib.hid ?_
      go_wp2_with (go_at_call 41; refine (hR.out _).mono ?_; rintro e w1 ⟨rfl, hb⟩; refine Hid.out ?_)
      have Z := blk_below (blk_new w (.cells #[.int .i64 a, .int .i64 x, .int .i64 y, .int .i64 s, .int .i64 p, .int .i64 pc, .int .i64 sq, .int .i64 cd, .int .i64 t, .int .i64 lo, .int .i64 hi, .int .i64 vl, .bool cr, .int .i64 nx, .bool jm] 27)) hb
      have B := Lib.hid (below_then (below_alloc (Below.refl w.heap.size w) _) hb)
      clear hb
      have c8 := cell_of_blk (i := 8) (v := .int .i64 t) Z rfl
      clear Z
      cases bR
      ·refine Lib.hid ?_
       go_wp2
       go_ret
       exact ⟨by simp, B.out⟩
      ·refine Lib.hid ?_
       go_wp2
       go_ret
       exact ⟨by simp, B.out⟩
     ·refine Lib.hid ?_
      go_wp2_with (go_at_call 40; refine (hvl.out _).mono ?_; rintro e w' ⟨rfl, rfl⟩; refine Hid.out ?_)
      cases bvl
      ·refine Lib.hid ?_
       go_wp2_with (go_at_call 41; refine (hR.out _).mono ?_; rintro e w1 ⟨rfl, hb⟩; refine Hid.out ?_)
       have Z := blk_below (blk_new w (.cells #[.int .i64 a, .int .i64 x, .int .i64 y, .int .i64 s, .int .i64 p, .int .i64 pc, .int .i64 sq, .int .i64 cd, .int .i64 t, .int .i64 lo, .int .i64 hi, .int .i64 vl, .bool cr, .int .i64 nx, .bool jm] 27)) hb
       have B := Lib.hid (below_then (below_alloc (Below.refl w.heap.size w) _) hb)
       clear hb
       have c8 := cell_of_blk (i := 8) (v := .int .i64 t) Z rfl
       clear Z
       cases bR
       ·refine Lib.hid ?_
        go_wp2
        go_ret
        exact ⟨by simp, B.out⟩
       ·refine Lib.hid ?_
        go_wp2
        go_ret
        exact ⟨by simp, B.out⟩
      ·refine Lib.hid ?_
       go_wp2_with (go_at_call 41; refine (hR.out _).mono ?_; rintro e w1 ⟨rfl, hb⟩; refine Hid.out ?_)
       have Z := blk_below (blk_new w (.cells #[.int .i64 a, .int .i64 x, .int .i64 y, .int .i64 s, .int .i64 p, .int .i64 pc, .int .i64 sq, .int .i64 cd, .int .i64 t, .int .i64 lo, .int .i64 hi, .int .i64 vl, .bool cr, .int .i64 nx, .bool jm] 27)) hb
       have B := Lib.hid (below_then (below_alloc (Below.refl w.heap.size w) _) hb)
       clear hb
       have c8 := cell_of_blk (i := 8) (v := .int .i64 t) Z rfl
       clear Z
       cases bR
       ·refine Lib.hid ?_
        go_wp2
        go_ret
        exact ⟨by simp, B.out⟩
       ·refine Lib.hid ?_
        go_wp2_with (go_at_call 42; refine (hst.out _).mono ?_; rintro e w' ⟨rfl, rfl⟩; refine Hid.out ?_)
        cases bst
        ·refine Lib.hid ?_
         go_wp2
         go_ret
         exact ⟨by simp, B.out⟩
        ·refine Lib.hid ?_
         go_wp2
         go_ret
         exact ⟨by simp, B.out⟩
end Go.Proofs.YthklebkpoccblaaGreat
