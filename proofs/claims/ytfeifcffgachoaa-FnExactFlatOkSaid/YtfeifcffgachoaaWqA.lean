/-
  A right Flat, and how much one holds (chapter 9).
  Conditions: as each says; each walk leaves old memory as it was.
-/
import Derived.Test.YtfeifcffgachoaaRgC
import Derived.Test.YtfeifcffgachoaaMmX
namespace Go.Proofs.Ytfeifcffgachoaa
open Go.RowKit
def flatV (a x y s p pc : Int) (r o : ByteArray) (n : Int) (j : Bool) : Value := .agg #[.int .i64 a, .int .i64 x, .int .i64 y, .int .i64 s, .int .i64 p, .int .i64 pc, .string r, .string o, .int .i64 n, .bool j]
/-- What a right Flat is. -/
def okF (a x y s p pc : Int) (r o : ByteArray) (n : Int) : Bool := okR a x y s p pc && decide (OkM r o) && isB n
set_option maxRecDepth 100000 in
set_option maxHeartbeats 4000000 in
theorem spec_flatOk (a x y s p pc : Int) (r o : ByteArray) (n : Int) (j : Bool) (w : World) : Calls Try.prog 19 #[flatV a x y s p pc r o n j] w fun e w' => e = .returned (.bool (okF a x y s p pc r o n)) ∧ Below w.heap.size w w' := by
  have HR := fun w => spec_regsOk a x y s p pc w
  have HM := fun w => spec_memOk r o w
  have HB := fun w => spec_byte n w
  unfold flatV okF
  unfold regsV at HR
  unfold memV at HM
  generalize okR a x y s p pc = R at *
  generalize decide (OkM r o) = M at *
  generalize isB n = N at *
  replace HR := Lib.hid HR
  replace HM := Lib.hid HM
  replace HB := Lib.hid HB
  cases R
  · clear HM HB
    go_enter Try.func19, Try.ntmps19
    go_wp2_with (go_at_call 46; refine (HR.out _).mono ?_; rintro e w1 ⟨rfl, hb⟩; refine Hid.out ?_)
    have Z := blk_below (blk_new w (.cells #[.int .i64 a, .int .i64 x, .int .i64 y, .int .i64 s, .int .i64 p, .int .i64 pc, .string r, .string o, .int .i64 n, .bool j] 44)) hb
    have B := Lib.hid (below_then (below_alloc (Below.refl w.heap.size w) _) hb)
    clear hb
    clear Z
    refine Lib.hid ?_
    go_wp2
    go_ret
    exact ⟨by simp, B.out⟩
  cases M
  · clear HB
    go_enter Try.func19, Try.ntmps19
    go_wp2_with (go_at_call 46; refine (HR.out _).mono ?_; rintro e w1 ⟨rfl, hb⟩; refine Hid.out ?_)
    have Z := blk_below (blk_new w (.cells #[.int .i64 a, .int .i64 x, .int .i64 y, .int .i64 s, .int .i64 p, .int .i64 pc, .string r, .string o, .int .i64 n, .bool j] 44)) hb
    have B := Lib.hid (below_then (below_alloc (Below.refl w.heap.size w) _) hb)
    clear hb
    have c6 := cell_of_blk (i := 6) Z rfl
    have c7 := cell_of_blk (i := 7) Z rfl
    have Z := Lib.hid Z
    refine Lib.hid ?_
    go_wp2_with (go_at_call 47; refine (HM.out _).mono ?_; rintro e w2 ⟨rfl, hb⟩; refine Hid.out ?_)
    clear c6 c7
    have Z := blk_below Z.out hb
    have B := Lib.hid (below_then B.out hb)
    clear hb
    clear Z
    refine Lib.hid ?_
    go_wp2
    go_ret
    exact ⟨by simp, B.out⟩
  · go_enter Try.func19, Try.ntmps19
    go_wp2_with (go_at_call 46; refine (HR.out _).mono ?_; rintro e w1 ⟨rfl, hb⟩; refine Hid.out ?_)
    have Z := blk_below (blk_new w (.cells #[.int .i64 a, .int .i64 x, .int .i64 y, .int .i64 s, .int .i64 p, .int .i64 pc, .string r, .string o, .int .i64 n, .bool j] 44)) hb
    have B := Lib.hid (below_then (below_alloc (Below.refl w.heap.size w) _) hb)
    clear hb
    have c6 := cell_of_blk (i := 6) Z rfl
    have c7 := cell_of_blk (i := 7) Z rfl
    have Z := Lib.hid Z
    refine Lib.hid ?_
    go_wp2_with (go_at_call 47; refine (HM.out _).mono ?_; rintro e w2 ⟨rfl, hb⟩; refine Hid.out ?_)
    clear c6 c7
    have Z := blk_below Z.out hb
    have B := Lib.hid (below_then B.out hb)
    clear hb
    have c8 := cell_of_blk (i := 8) Z rfl
    clear Z
    refine Lib.hid ?_
    go_wp2_with (go_at_call 48; refine (HB.out _).mono ?_; rintro e w' ⟨rfl, rfl⟩)
    go_ret
    exact ⟨by simp, B.out⟩
set_option maxRecDepth 100000 in
set_option maxHeartbeats 4000000 in
theorem impl_flatOk (a x y s p pc : Int) (r o : ByteArray) (n : Int) (j : Bool) (w : World) : Calls Try.prog 21 #[flatV a x y s p pc r o n j] w fun e w' => e = .returned (.bool (okF a x y s p pc r o n)) ∧ Below w.heap.size w w' := by
  have HR := fun w => impl_regsOk a x y s p pc w
  have HM := fun w => impl_memOk r o w
  have HB := fun w => is_byte n w
  unfold flatV okF
  unfold regsV at HR
  unfold memV at HM
  generalize okR a x y s p pc = R at *
  generalize decide (OkM r o) = M at *
  generalize isB n = N at *
  replace HR := Lib.hid HR
  replace HM := Lib.hid HM
  replace HB := Lib.hid HB
  cases R
  · clear HM HB
    go_enter Try.func21, Try.ntmps21
    go_wp2_with (go_at_call 13; refine (HR.out _).mono ?_; rintro e w1 ⟨rfl, hb⟩; refine Hid.out ?_)
    have Z := blk_below (blk_new w (.cells #[.int .i64 a, .int .i64 x, .int .i64 y, .int .i64 s, .int .i64 p, .int .i64 pc, .string r, .string o, .int .i64 n, .bool j] 44)) hb
    have B := Lib.hid (below_then (below_alloc (Below.refl w.heap.size w) _) hb)
    clear hb
    clear Z
    refine Lib.hid ?_
    go_wp2
    go_ret
    exact ⟨by simp, B.out⟩
  cases M
  · clear HB
    go_enter Try.func21, Try.ntmps21
    go_wp2_with (go_at_call 13; refine (HR.out _).mono ?_; rintro e w1 ⟨rfl, hb⟩; refine Hid.out ?_)
    have Z := blk_below (blk_new w (.cells #[.int .i64 a, .int .i64 x, .int .i64 y, .int .i64 s, .int .i64 p, .int .i64 pc, .string r, .string o, .int .i64 n, .bool j] 44)) hb
    have B := Lib.hid (below_then (below_alloc (Below.refl w.heap.size w) _) hb)
    clear hb
    have c6 := cell_of_blk (i := 6) Z rfl
    have c7 := cell_of_blk (i := 7) Z rfl
    have Z := Lib.hid Z
    refine Lib.hid ?_
    go_wp2_with (go_at_call 50; refine (HM.out _).mono ?_; rintro e w2 ⟨rfl, hb⟩; refine Hid.out ?_)
    clear c6 c7
    have Z := blk_below Z.out hb
    have B := Lib.hid (below_then B.out hb)
    clear hb
    clear Z
    refine Lib.hid ?_
    go_wp2
    go_ret
    exact ⟨by simp, B.out⟩
  · go_enter Try.func21, Try.ntmps21
    go_wp2_with (go_at_call 13; refine (HR.out _).mono ?_; rintro e w1 ⟨rfl, hb⟩; refine Hid.out ?_)
    have Z := blk_below (blk_new w (.cells #[.int .i64 a, .int .i64 x, .int .i64 y, .int .i64 s, .int .i64 p, .int .i64 pc, .string r, .string o, .int .i64 n, .bool j] 44)) hb
    have B := Lib.hid (below_then (below_alloc (Below.refl w.heap.size w) _) hb)
    clear hb
    have c6 := cell_of_blk (i := 6) Z rfl
    have c7 := cell_of_blk (i := 7) Z rfl
    have Z := Lib.hid Z
    refine Lib.hid ?_
    go_wp2_with (go_at_call 50; refine (HM.out _).mono ?_; rintro e w2 ⟨rfl, hb⟩; refine Hid.out ?_)
    clear c6 c7
    have Z := blk_below Z.out hb
    have B := Lib.hid (below_then B.out hb)
    clear hb
    have c8 := cell_of_blk (i := 8) Z rfl
    clear Z
    refine Lib.hid ?_
    go_wp2_with (go_at_call 41; refine (HB.out _).mono ?_; rintro e w' ⟨rfl, rfl⟩)
    go_ret
    exact ⟨by simp, B.out⟩
set_option maxRecDepth 100000 in
set_option maxHeartbeats 4000000 in
theorem sz_flat (a x y s p pc : Int) (r o : ByteArray) (n : Int) (j : Bool) (hr : r.size ≤ maxLen) (ho : o.size ≤ maxLen) (w : World) : Calls Try.prog 18 #[flatV a x y s p pc r o n j, .int .i64 1048576] w fun e w' => e = .returned (.int .i64 (if 1048576 < r.size + o.size then -1 else 1048576 - (r.size : Int) - (o.size : Int))) ∧ Below w.heap.size w w' := by
  have HZ := Lib.hid (fun w => sz_mem r hr o ho w)
  unfold maxLen at hr ho
  obtain ⟨z, hz⟩ : ∃ z : Int, z = if 1048576 < r.size + o.size then -1 else 1048576 - (r.size : Int) - (o.size : Int) := ⟨_, rfl⟩
  rw [← hz] at HZ ⊢
  unfold flatV
  by_cases hneg : z < 0
  · have hz1 : z = -1 := by
      by_cases h : 1048576 < r.size + o.size
      · rw [if_pos h] at hz; exact hz
      · rw [if_neg h] at hz; omega
    subst hz1
    clear hz
    go_enter Try.func18, Try.ntmps18
    go_wp2_with (go_at_call 45; refine (HZ.out _).mono ?_; rintro e w1 ⟨rfl, hb⟩)
    go_ret
    exact ⟨rfl, below_then (below_alloc (Below.refl _ _) _) hb⟩
  · clear hz
    go_enter Try.func18, Try.ntmps18
    go_wp2_with (go_at_call 45; refine (HZ.out _).mono ?_; rintro e w1 ⟨rfl, hb⟩)
    go_ret
    exact ⟨rfl, below_then (below_alloc (Below.refl _ _) _) hb⟩
end Go.Proofs.Ytfeifcffgachoaa
