/-
  Texts put together by program: CrC, CkK, CkL.
  Conditions: as each theorem says.
-/
import Derived.Test.YthklebkpoccblaaGreatRqbu
namespace Go.Proofs.YthklebkpoccblaaGreat
open Go.RowKit
theorem set15 {w : World} {b : Nat} {t : TypeId} {z0 z1 z2 z3 z4 z5 z6 z7 z8 z9 z10 z11 z12 z13 z14 : Value} (h : w.heap[b]? = some (.cells #[z0, z1, z2, z3, z4, z5, z6, z7, z8, z9, z10, z11, z12, z13, z14] t (0, 0))) (x0 x1 x2 x3 x4 x5 x6 x7 x8 x9 x10 x11 x12 x13 x14 : Value) :
  (((((((((((((((w.setCell ⟨b, 0, none⟩ x0).setCell ⟨b, 1, none⟩ x1).setCell ⟨b, 2, none⟩ x2).setCell ⟨b, 3, none⟩ x3).setCell ⟨b, 4, none⟩ x4).setCell ⟨b, 5, none⟩ x5).setCell ⟨b, 6, none⟩ x6).setCell ⟨b, 7, none⟩ x7).setCell ⟨b, 8, none⟩ x8).setCell ⟨b, 9, none⟩ x9).setCell ⟨b, 10, none⟩ x10).setCell ⟨b, 11, none⟩ x11).setCell ⟨b, 12, none⟩ x12).setCell ⟨b, 13, none⟩ x13).setCell ⟨b, 14, none⟩ x14).heap[b]? = some (.cells #[x0, x1, x2, x3, x4, x5, x6, x7, x8, x9, x10, x11, x12, x13, x14] t (0, 0)) := by
 have e := row_set (i := 14) (v := x14) (row_set (i := 13) (v := x13) (row_set (i := 12) (v := x12) (row_set (i := 11) (v := x11) (row_set (i := 10) (v := x10) (row_set (i := 9) (v := x9) (row_set (i := 8) (v := x8) (row_set (i := 7) (v := x7) (row_set (i := 6) (v := x6) (row_set (i := 5) (v := x5) (row_set (i := 4) (v := x4) (row_set (i := 3) (v := x3) (row_set (i := 2) (v := x2) (row_set (i := 1) (v := x1) (row_set (i := 0) (v := x0) h))))))))))))))
 simp only [List.setIfInBounds_toArray, List.set_cons_zero, List.set_cons_succ] at e
 exact e
theorem far15 {w : World} {b c : Nat} {o : Obj} (h : w.heap[b]? = some o) (hne : b ≠ c) (x0 x1 x2 x3 x4 x5 x6 x7 x8 x9 x10 x11 x12 x13 x14 : Value) : (((((((((((((((w.setCell ⟨c, 0, none⟩ x0).setCell ⟨c, 1, none⟩ x1).setCell ⟨c, 2, none⟩ x2).setCell ⟨c, 3, none⟩ x3).setCell ⟨c, 4, none⟩ x4).setCell ⟨c, 5, none⟩ x5).setCell ⟨c, 6, none⟩ x6).setCell ⟨c, 7, none⟩ x7).setCell ⟨c, 8, none⟩ x8).setCell ⟨c, 9, none⟩ x9).setCell ⟨c, 10, none⟩ x10).setCell ⟨c, 11, none⟩ x11).setCell ⟨c, 12, none⟩ x12).setCell ⟨c, 13, none⟩ x13).setCell ⟨c, 14, none⟩ x14).heap[b]? = some o :=
 row_far (i := 14) (v := x14) (row_far (i := 13) (v := x13) (row_far (i := 12) (v := x12) (row_far (i := 11) (v := x11) (row_far (i := 10) (v := x10) (row_far (i := 9) (v := x9) (row_far (i := 8) (v := x8) (row_far (i := 7) (v := x7) (row_far (i := 6) (v := x6) (row_far (i := 5) (v := x5) (row_far (i := 4) (v := x4) (row_far (i := 3) (v := x3) (row_far (i := 2) (v := x2) (row_far (i := 1) (v := x1) (row_far (i := 0) (v := x0) h hne) hne) hne) hne) hne) hne) hne) hne) hne) hne) hne) hne) hne) hne) hne
theorem below15 {B c : Nat} {u w : World} (h : Below B u w) (hb : B ≤ c) (x0 x1 x2 x3 x4 x5 x6 x7 x8 x9 x10 x11 x12 x13 x14 : Value) : Below B u (((((((((((((((w.setCell ⟨c, 0, none⟩ x0).setCell ⟨c, 1, none⟩ x1).setCell ⟨c, 2, none⟩ x2).setCell ⟨c, 3, none⟩ x3).setCell ⟨c, 4, none⟩ x4).setCell ⟨c, 5, none⟩ x5).setCell ⟨c, 6, none⟩ x6).setCell ⟨c, 7, none⟩ x7).setCell ⟨c, 8, none⟩ x8).setCell ⟨c, 9, none⟩ x9).setCell ⟨c, 10, none⟩ x10).setCell ⟨c, 11, none⟩ x11).setCell ⟨c, 12, none⟩ x12).setCell ⟨c, 13, none⟩ x13).setCell ⟨c, 14, none⟩ x14) :=
 below_put (i := 14) (v := x14) (below_put (i := 13) (v := x13) (below_put (i := 12) (v := x12) (below_put (i := 11) (v := x11) (below_put (i := 10) (v := x10) (below_put (i := 9) (v := x9) (below_put (i := 8) (v := x8) (below_put (i := 7) (v := x7) (below_put (i := 6) (v := x6) (below_put (i := 5) (v := x5) (below_put (i := 4) (v := x4) (below_put (i := 3) (v := x3) (below_put (i := 2) (v := x2) (below_put (i := 1) (v := x1) (below_put (i := 0) (v := x0) h hb) hb) hb) hb) hb) hb) hb) hb) hb) hb) hb) hb) hb) hb) hb
end Go.Proofs.YthklebkpoccblaaGreat
namespace Go.Proofs.YthklebkpoccblaaGreat
open Go.RowKit
def clkOf (a x y s p pc sq cd t lo hi vl : Int) (cr : Bool) (nx : Int) (jm : Bool) (nm ed iq : Bool) (data : Int) : ClkI := { a := a, x := x, y := y, s := s, p := p, pc := pc, sq := sq, cd := cd, t := t, lo := lo, hi := hi, vl := vl, cr := cr, nx := nx, jm := jm, nm := nm, ed := ed, iq := iq, dt := data % 256, ah := p, on := ⟨#[]⟩, om := ⟨#[]⟩, kd := 0, ba := 0, bd := 0, bw := false }
def ClkPost (w : World) (k2 : ClkI) (e : Ending) (w' : World) : Prop := ∃ b, e = .returned (.pointer (some ⟨b, 0, none⟩)) ∧ ClkAt b k2 w' ∧ w.heap.size ≤ b ∧ Below w.heap.size w w'
set_option maxRecDepth 100000 in
set_option maxHeartbeats 2000000 in
theorem clocked_ok (a x y s p pc sq cd t lo hi vl : Int) (cr : Bool) (nx : Int) (jm : Bool) (data : Int) (nm ed iq : Bool) (k2 : ClkI) (hok : okCo a x y s p pc sq cd t lo hi vl nx = true) (hp : ∀ (b : Nat) (w' : World), ClkAt b (clkOf a x y s p pc sq cd t lo hi vl cr nx jm nm ed iq data) w' → Calls Tryz.prog 62 #[.pointer (some ⟨b, 0, none⟩)] w' (Did b b w' k2 (.tuple #[]))) (w : World) :
  Calls Tryz.prog 31 #[coreV a x y s p pc sq cd t lo hi vl cr nx jm, .int .i64 data, wiresV nm ed iq] w (ClkPost w k2) := by
 have HC := fun w => impl_coreOk a x y s p pc sq cd t lo hi vl cr nx jm w
 rw [hok] at HC
 rw [coreV_mk] at HC ⊢
 rw [wiresV_mk]
 replace HC := Lib.hid HC
 replace hp := Lib.hid hp
 have hsz := Lib.hid icore_size
 unfold ClkPost
 go_enter Tryz.func31, Tryz.ntmps31
 go_wp2_with (fail)
 have ZP := Lib.hid (blk_old (o := .cells #[.bool nm, .bool ed, .bool iq] 29) (blk_new w (.cells #[.int .i64 a, .int .i64 x, .int .i64 y, .int .i64 s, .int .i64 p, .int .i64 pc, .int .i64 sq, .int .i64 cd, .int .i64 t, .int .i64 lo, .int .i64 hi, .int .i64 vl, .bool cr, .int .i64 nx, .bool jm] 27)))
 have ZW := Lib.hid (blk_new2 w (.cells #[.int .i64 a, .int .i64 x, .int .i64 y, .int .i64 s, .int .i64 p, .int .i64 pc, .int .i64 sq, .int .i64 cd, .int .i64 t, .int .i64 lo, .int .i64 hi, .int .i64 vl, .bool cr, .int .i64 nx, .bool jm] 27) (.cells #[.bool nm, .bool ed, .bool iq] 29))
 go_region_held3 (fun w' => w'.cell? ⟨w.heap.size, 0, none⟩ = some (.int .i64 a) ∧ w'.cell? ⟨w.heap.size, 1, none⟩ = some (.int .i64 x) ∧ w'.cell? ⟨w.heap.size, 2, none⟩ = some (.int .i64 y) ∧ w'.cell? ⟨w.heap.size, 3, none⟩ = some (.int .i64 s) ∧ w'.cell? ⟨w.heap.size, 4, none⟩ = some (.int .i64 p) ∧ w'.cell? ⟨w.heap.size, 5, none⟩ = some (.int .i64 pc) ∧ w'.cell? ⟨w.heap.size, 6, none⟩ = some (.int .i64 sq) ∧ w'.cell? ⟨w.heap.size, 7, none⟩ = some (.int .i64 cd) ∧ w'.cell? ⟨w.heap.size, 8, none⟩ = some (.int .i64 t) ∧ w'.cell? ⟨w.heap.size, 9, none⟩ = some (.int .i64 lo) ∧ w'.cell? ⟨w.heap.size, 10, none⟩ = some (.int .i64 hi) ∧ w'.cell? ⟨w.heap.size, 11, none⟩ = some (.int .i64 vl) ∧ w'.cell? ⟨w.heap.size, 12, none⟩ = some (.bool cr) ∧ w'.cell? ⟨w.heap.size, 13, none⟩ = some (.int .i64 nx) ∧ w'.cell? ⟨w.heap.size, 14, none⟩ = some (.bool jm) ∧ w'.cell? ⟨w.heap.size + 1, 0, none⟩ = some (.bool nm) ∧ w'.cell? ⟨w.heap.size + 1, 1, none⟩ = some (.bool ed) ∧ w'.cell? ⟨w.heap.size + 1, 2, none⟩ = some (.bool iq)) (first | exact ⟨cell_of_blk (i := 0) (v := .int .i64 a) (row_drew ZP.out) rfl, cell_of_blk (i := 1) (v := .int .i64 x) (row_drew ZP.out) rfl, cell_of_blk (i := 2) (v := .int .i64 y) (row_drew ZP.out) rfl, cell_of_blk (i := 3) (v := .int .i64 s) (row_drew ZP.out) rfl, cell_of_blk (i := 4) (v := .int .i64 p) (row_drew ZP.out) rfl, cell_of_blk (i := 5) (v := .int .i64 pc) (row_drew ZP.out) rfl, cell_of_blk (i := 6) (v := .int .i64 sq) (row_drew ZP.out) rfl, cell_of_blk (i := 7) (v := .int .i64 cd) (row_drew ZP.out) rfl, cell_of_blk (i := 8) (v := .int .i64 t) (row_drew ZP.out) rfl, cell_of_blk (i := 9) (v := .int .i64 lo) (row_drew ZP.out) rfl, cell_of_blk (i := 10) (v := .int .i64 hi) (row_drew ZP.out) rfl, cell_of_blk (i := 11) (v := .int .i64 vl) (row_drew ZP.out) rfl, cell_of_blk (i := 12) (v := .bool cr) (row_drew ZP.out) rfl, cell_of_blk (i := 13) (v := .int .i64 nx) (row_drew ZP.out) rfl, cell_of_blk (i := 14) (v := .bool jm) (row_drew ZP.out) rfl, cell_of_blk (i := 0) (v := .bool nm) (row_drew ZW.out) rfl, cell_of_blk (i := 1) (v := .bool ed) (row_drew ZW.out) rfl, cell_of_blk (i := 2) (v := .bool iq) (row_drew ZW.out) rfl⟩ | exact ⟨cell_of_blk (i := 0) (v := .int .i64 a) (blk_old (row_drew ZP.out)) rfl, cell_of_blk (i := 1) (v := .int .i64 x) (blk_old (row_drew ZP.out)) rfl, cell_of_blk (i := 2) (v := .int .i64 y) (blk_old (row_drew ZP.out)) rfl, cell_of_blk (i := 3) (v := .int .i64 s) (blk_old (row_drew ZP.out)) rfl, cell_of_blk (i := 4) (v := .int .i64 p) (blk_old (row_drew ZP.out)) rfl, cell_of_blk (i := 5) (v := .int .i64 pc) (blk_old (row_drew ZP.out)) rfl, cell_of_blk (i := 6) (v := .int .i64 sq) (blk_old (row_drew ZP.out)) rfl, cell_of_blk (i := 7) (v := .int .i64 cd) (blk_old (row_drew ZP.out)) rfl, cell_of_blk (i := 8) (v := .int .i64 t) (blk_old (row_drew ZP.out)) rfl, cell_of_blk (i := 9) (v := .int .i64 lo) (blk_old (row_drew ZP.out)) rfl, cell_of_blk (i := 10) (v := .int .i64 hi) (blk_old (row_drew ZP.out)) rfl, cell_of_blk (i := 11) (v := .int .i64 vl) (blk_old (row_drew ZP.out)) rfl, cell_of_blk (i := 12) (v := .bool cr) (blk_old (row_drew ZP.out)) rfl, cell_of_blk (i := 13) (v := .int .i64 nx) (blk_old (row_drew ZP.out)) rfl, cell_of_blk (i := 14) (v := .bool jm) (blk_old (row_drew ZP.out)) rfl, cell_of_blk (i := 0) (v := .bool nm) (blk_old (row_drew ZW.out)) rfl, cell_of_blk (i := 1) (v := .bool ed) (blk_old (row_drew ZW.out)) rfl, cell_of_blk (i := 2) (v := .bool iq) (blk_old (row_drew ZW.out)) rfl⟩ | go_keep) (first | (go_at_call 61; refine (low_of _ _).mono ?_; rintro e w' ⟨rfl, rfl⟩) | fail)
 have ZK := blk_new2 (w.alloc (.cells #[.int .i64 a, .int .i64 x, .int .i64 y, .int .i64 s, .int .i64 p, .int .i64 pc, .int .i64 sq, .int .i64 cd, .int .i64 t, .int .i64 lo, .int .i64 hi, .int .i64 vl, .bool cr, .int .i64 nx, .bool jm] 27)) (.cells #[.bool nm, .bool ed, .bool iq] 29) (.cells (clkC (clkOf a x y s p pc sq cd t lo hi vl cr nx jm nm ed iq data)) 57)
 rw [alloc_size] at ZK
 have ZK := Lib.hid (row_drew ZK)
 have ZP := Lib.hid (row_drew (blk_old (o := .cells (clkC (clkOf a x y s p pc sq cd t lo hi vl cr nx jm nm ed iq data)) 57) ZP.out))
 have B := Lib.hid ((below_alloc (below_alloc (below_alloc (Below.refl w.heap.size w) (.cells #[.int .i64 a, .int .i64 x, .int .i64 y, .int .i64 s, .int .i64 p, .int .i64 pc, .int .i64 sq, .int .i64 cd, .int .i64 t, .int .i64 lo, .int .i64 hi, .int .i64 vl, .bool cr, .int .i64 nx, .bool jm] 27)) (.cells #[.bool nm, .bool ed, .bool iq] 29)) (.cells (clkC (clkOf a x y s p pc sq cd t lo hi vl cr nx jm nm ed iq data)) 57)).trans (below_drew1 w.heap.size _))
 have Hc : ClkAt (w.heap.size + 1 + 1) (clkOf a x y s p pc sq cd t lo hi vl cr nx jm nm ed iq data) _ := ZK.out
 replace Hc := Lib.hid Hc
 clear ZK ZW
 unfold clkOf clkC at Hc ZP B
 generalize World.drew _ = W at Hc ZP B ⊢
 go_wp2_with (first | (refine load_row rfl 27 (.tmp 3) rfl w.heap.size rfl 15 _ Tryz.underlying27 rfl hsz.out ZP.out rfl ?_) | (go_at_call 12; refine (HC.out _).mono ?_; rintro e w1 ⟨rfl, hb⟩; refine Hid.out ?_))
 have Hc := Lib.hid (Hc.out.below hb)
 have B := Lib.hid (below_mono B.out hb B.out.size)
 clear hb
 refine Lib.hid ?_
 unfold clkOf Did at hp
 go_wp2_with (go_at_call 62; refine (hp.out _ _ Hc.out).mono ?_; rintro e w2 ⟨rfl, Z1, Q1⟩; refine Hid.out ?_)
 have Z1 := Lib.hid Z1
 have B := Lib.hid (B.out.trans (Q1.mono (by omega)))
 clear Q1
 refine Lib.hid ?_
 go_wp2
 go_ret
 exact ⟨_, rfl, Z1.out, by omega, B.out⟩
theorem set3b {w : World} {b : Nat} {t : TypeId} {z0 z1 z2 : Value} (h : w.heap[b]? = some (.cells #[z0, z1, z2] t (0, 0))) (x0 x1 x2 : Value) : (((w.setCell ⟨b, 0, none⟩ x0).setCell ⟨b, 1, none⟩ x1).setCell ⟨b, 2, none⟩ x2).heap[b]? = some (.cells #[x0, x1, x2] t (0, 0)) := by
 have e := row_set (i := 2) (v := x2) (row_set (i := 1) (v := x1) (row_set (i := 0) (v := x0) h))
 simp only [List.setIfInBounds_toArray, List.set_cons_zero, List.set_cons_succ] at e
 exact e
theorem below3 {B c : Nat} {u w : World} (h : Below B u w) (hb : B ≤ c) (x0 x1 x2 : Value) : Below B u (((w.setCell ⟨c, 0, none⟩ x0).setCell ⟨c, 1, none⟩ x1).setCell ⟨c, 2, none⟩ x2) := below_put (below_put (below_put h hb) hb) hb
theorem far3 {w : World} {b c : Nat} {o : Obj} (h : w.heap[b]? = some o) (hne : b ≠ c) (x0 x1 x2 : Value) : (((w.setCell ⟨c, 0, none⟩ x0).setCell ⟨c, 1, none⟩ x1).setCell ⟨c, 2, none⟩ x2).heap[b]? = some o := row_far (row_far (row_far h hne) hne) hne
theorem ClkAt.far15 {b c : Nat} {k : ClkI} {w : World} (h : ClkAt b k w) (hne : b ≠ c) (x0 x1 x2 x3 x4 x5 x6 x7 x8 x9 x10 x11 x12 x13 x14 : Value) : ClkAt b k (((((((((((((((w.setCell ⟨c, 0, none⟩ x0).setCell ⟨c, 1, none⟩ x1).setCell ⟨c, 2, none⟩ x2).setCell ⟨c, 3, none⟩ x3).setCell ⟨c, 4, none⟩ x4).setCell ⟨c, 5, none⟩ x5).setCell ⟨c, 6, none⟩ x6).setCell ⟨c, 7, none⟩ x7).setCell ⟨c, 8, none⟩ x8).setCell ⟨c, 9, none⟩ x9).setCell ⟨c, 10, none⟩ x10).setCell ⟨c, 11, none⟩ x11).setCell ⟨c, 12, none⟩ x12).setCell ⟨c, 13, none⟩ x13).setCell ⟨c, 14, none⟩ x14) := Go.Proofs.YthklebkpoccblaaGreat.far15 (w := w) (b := b) h hne x0 x1 x2 x3 x4 x5 x6 x7 x8 x9 x10 x11 x12 x13 x14
theorem ClkAt.far3 {b c : Nat} {k : ClkI} {w : World} (h : ClkAt b k w) (hne : b ≠ c) (x0 x1 x2 : Value) : ClkAt b k (((w.setCell ⟨c, 0, none⟩ x0).setCell ⟨c, 1, none⟩ x1).setCell ⟨c, 2, none⟩ x2) := Go.Proofs.YthklebkpoccblaaGreat.far3 (w := w) (b := b) h hne x0 x1 x2
theorem bus_size : (Tryz.prog.info? 38).map (·.size) = some 3 := by kernel_rfl
set_option maxRecDepth 100000 in
set_option maxHeartbeats 2000000 in
theorem want_ok (a x y s p pc sq cd t lo hi vl : Int) (cr : Bool) (nx : Int) (jm : Bool) (nm ed iq : Bool) (k2 : ClkI) (hok : okCo a x y s p pc sq cd t lo hi vl nx = true) (hp : ∀ (b : Nat) (w' : World), ClkAt b (clkOf a x y s p pc sq cd t lo hi vl cr nx jm nm ed iq 0) w' → Calls Tryz.prog 62 #[.pointer (some ⟨b, 0, none⟩)] w' (Did b b w' k2 (.tuple #[]))) (w : World) :
  Calls Tryz.prog 16 #[coreV a x y s p pc sq cd t lo hi vl cr nx jm, wiresV nm ed iq] w fun e w' => e = .returned (.agg #[.int .i64 k2.ba, .int .i64 k2.bd, .bool k2.bw]) ∧ Below w.heap.size w w' := by
 have HC := fun w => clocked_ok a x y s p pc sq cd t lo hi vl cr nx jm 0 nm ed iq k2 hok hp w
 unfold ClkPost at HC
 rw [coreV_mk, wiresV_mk] at HC
 rw [coreV_mk, wiresV_mk]
 replace HC := Lib.hid HC
 clear hp hok
 have hsz := Lib.hid icore_size
 have ZP := Lib.hid (blk_old (o := .cells #[.int .i64 0, .int .i64 0, .bool false] 38) (blk_old (o := .cells #[.bool nm, .bool ed, .bool iq] 29) (blk_new w (.cells #[.int .i64 a, .int .i64 x, .int .i64 y, .int .i64 s, .int .i64 p, .int .i64 pc, .int .i64 sq, .int .i64 cd, .int .i64 t, .int .i64 lo, .int .i64 hi, .int .i64 vl, .bool cr, .int .i64 nx, .bool jm] 27))))
 go_enter Tryz.func16, Tryz.ntmps16
 go_wp2_with (first | (refine load_row rfl 27 (.tmp 2) rfl w.heap.size rfl 15 _ Tryz.underlying27 rfl hsz.out ZP.out rfl ?_) | (go_at_call 31; refine (HC.out _).mono ?_; rintro e w1 ⟨g, rfl, Z1, hge, hb⟩; refine Hid.out ?_))
 have R := Lib.hid (blk_below (blk_new2 (w.alloc (.cells #[.int .i64 a, .int .i64 x, .int .i64 y, .int .i64 s, .int .i64 p, .int .i64 pc, .int .i64 sq, .int .i64 cd, .int .i64 t, .int .i64 lo, .int .i64 hi, .int .i64 vl, .bool cr, .int .i64 nx, .bool jm] 27)) (.cells #[.bool nm, .bool ed, .bool iq] 29) (.cells #[.int .i64 0, .int .i64 0, .bool false] 38)) hb)
 have B := Lib.hid (below_mono (below_alloc (below_alloc (below_alloc (Below.refl w.heap.size w) (.cells #[.int .i64 a, .int .i64 x, .int .i64 y, .int .i64 s, .int .i64 p, .int .i64 pc, .int .i64 sq, .int .i64 cd, .int .i64 t, .int .i64 lo, .int .i64 hi, .int .i64 vl, .bool cr, .int .i64 nx, .bool jm] 27)) (.cells #[.bool nm, .bool ed, .bool iq] 29)) (.cells #[.int .i64 0, .int .i64 0, .bool false] 38)) hb (by simp; omega))
 clear hb
 have c_ba := Z1.c_ba
 have c_bd := Z1.c_bd
 have c_bw := Z1.c_bw
 have Z1 := Lib.hid Z1
 have R0 := R.out
 rw [alloc_size] at R0
 have r0 := cell_of_blk (i := 0) (v := .int .i64 0) R0 rfl
 have r1 := cell_of_blk (i := 1) (v := .int .i64 0) R0 rfl
 have r2 := cell_of_blk (i := 2) (v := .bool false) R0 rfl
 have fr := fun i => free_of_blk (i := i) R0
 have R0 := Lib.hid R0
 clear ZP
 refine Lib.hid ?_
 go_wp2
 have hrow := set3b R0.out (.int .i64 k2.ba) (.int .i64 k2.bd) (.bool k2.bw)
 exact bodyPost_ret (results_cell_row rfl _ _ (w.heap.size + 1 + 1) _ _ _ _ rfl hrow Tryz.underlying38 rfl bus_size) rfl ⟨rfl, below3 B.out (by omega) _ _ _⟩
end Go.Proofs.YthklebkpoccblaaGreat
namespace Go.Proofs.YthklebkpoccblaaGreat
open Go.RowKit
theorem row_two_post {Pr : Program} {fn : Func} {R : Ending → World → Prop} {a : Act} {w : World} {p q : Tmp} {T U : TypeId} {g g2 n m : Nat} {cs ds : Array Value} {t u : TypeId} {d e : TypeDesc} (hr : fn.results = #[.cell p T, .cell q U]) (hp : a.tmps.getD p undef = .pointer (some ⟨g, 0, none⟩)) (hq : a.tmps.getD q undef = .pointer (some ⟨g2, 0, none⟩))
  (hu : Pr.underlying T = some d) (hd : (match d with | .struct _ | .array _ _ => true | _ => false) = true) (hi : (Pr.info? T).map (·.size) = some n) (hu2 : Pr.underlying U = some e) (hd2 : (match e with | .struct _ | .array _ _ => true | _ => false) = true) (hi2 : (Pr.info? U).map (·.size) = some m) (hde : a.defers = [])
  (hg : w.heap[g]? = some (.cells cs t (0, 0))) (hn : cs.size = n) (hg2 : w.heap[g2]? = some (.cells ds u (0, 0))) (hn2 : ds.size = m) (hR : R (.returned (.tuple #[.agg cs, .agg ds])) w) : bodyPost Pr fn R .ret a w := by
 refine bodyPost_ret ?_ hde hR
 have hp' : a.tmps[p]?.getD undef = .pointer (some ⟨g, 0, none⟩) := by simpa using hp
 have hq' : a.tmps[q]?.getD undef = .pointer (some ⟨g2, 0, none⟩) := by simpa using hq
 simp [results, hr, hp', hq', asAddr, run_loadVar_row w g t T cs (0, 0) d hg hu hd (by rw [hi, hn]), run_loadVar_row w g2 u U ds (0, 0) e hg2 hu2 hd2 (by rw [hi2, hn2])]
set_option maxRecDepth 100000 in
set_option maxHeartbeats 2000000 in
theorem fed_ok (a x y s p pc sq cd t lo hi vl : Int) (cr : Bool) (nx : Int) (jm : Bool) (data : Int) (nm ed iq : Bool) (k2 : ClkI) (hok : okCo a x y s p pc sq cd t lo hi vl nx = true) (hp : ∀ (b : Nat) (w' : World), ClkAt b (clkOf a x y s p pc sq cd t lo hi vl cr nx jm nm ed iq data) w' → Calls Tryz.prog 62 #[.pointer (some ⟨b, 0, none⟩)] w' (Did b b w' k2 (.tuple #[]))) (w : World) :
  Calls Tryz.prog 10 #[coreV a x y s p pc sq cd t lo hi vl cr nx jm, .int .i64 data, wiresV nm ed iq] w fun e w' => e = .returned (.tuple #[.agg #[.int .i64 k2.a, .int .i64 k2.x, .int .i64 k2.y, .int .i64 k2.s, .int .i64 k2.p, .int .i64 k2.pc, .int .i64 k2.sq, .int .i64 k2.cd, .int .i64 k2.t, .int .i64 k2.lo, .int .i64 k2.hi, .int .i64 k2.vl, .bool k2.cr, .int .i64 k2.nx, .bool k2.jm], .agg #[.bool k2.nm, .bool k2.ed, .bool k2.iq]]) ∧ Below w.heap.size w w' := by
 have HC := fun w => clocked_ok a x y s p pc sq cd t lo hi vl cr nx jm data nm ed iq k2 hok hp w
 unfold ClkPost at HC
 rw [coreV_mk, wiresV_mk] at HC
 rw [coreV_mk, wiresV_mk]
 replace HC := Lib.hid HC
 clear hp hok
 have hsz := Lib.hid icore_size
 have hsw := Lib.hid wires_size
 have ZP := Lib.hid (blk_old (o := .cells #[.bool false, .bool false, .bool false] 29) (blk_old (o := .cells #[.int .i64 0, .int .i64 0, .int .i64 0, .int .i64 0, .int .i64 0, .int .i64 0, .int .i64 0, .int .i64 0, .int .i64 0, .int .i64 0, .int .i64 0, .int .i64 0, .bool false, .int .i64 0, .bool false] 27) (blk_old (o := .cells #[.bool nm, .bool ed, .bool iq] 29) (blk_new w (.cells #[.int .i64 a, .int .i64 x, .int .i64 y, .int .i64 s, .int .i64 p, .int .i64 pc, .int .i64 sq, .int .i64 cd, .int .i64 t, .int .i64 lo, .int .i64 hi, .int .i64 vl, .bool cr, .int .i64 nx, .bool jm] 27)))))
 go_enter Tryz.func10, Tryz.ntmps10
 go_wp2_with (first | (refine load_row rfl 27 (.tmp 3) rfl w.heap.size rfl 15 _ Tryz.underlying27 rfl hsz.out ZP.out rfl ?_) | (go_at_call 31; refine (HC.out _).mono ?_; rintro e w1 ⟨g, rfl, Z1, hge, hb⟩; refine Hid.out ?_))
 have R := blk_below (blk_old (o := .cells #[.bool false, .bool false, .bool false] 29) (blk_new2 (w.alloc (.cells #[.int .i64 a, .int .i64 x, .int .i64 y, .int .i64 s, .int .i64 p, .int .i64 pc, .int .i64 sq, .int .i64 cd, .int .i64 t, .int .i64 lo, .int .i64 hi, .int .i64 vl, .bool cr, .int .i64 nx, .bool jm] 27)) (.cells #[.bool nm, .bool ed, .bool iq] 29) (.cells #[.int .i64 0, .int .i64 0, .int .i64 0, .int .i64 0, .int .i64 0, .int .i64 0, .int .i64 0, .int .i64 0, .int .i64 0, .int .i64 0, .int .i64 0, .int .i64 0, .bool false, .int .i64 0, .bool false] 27))) hb
 have Y := blk_below (blk_new2 ((w.alloc (.cells #[.int .i64 a, .int .i64 x, .int .i64 y, .int .i64 s, .int .i64 p, .int .i64 pc, .int .i64 sq, .int .i64 cd, .int .i64 t, .int .i64 lo, .int .i64 hi, .int .i64 vl, .bool cr, .int .i64 nx, .bool jm] 27)).alloc (.cells #[.bool nm, .bool ed, .bool iq] 29)) (.cells #[.int .i64 0, .int .i64 0, .int .i64 0, .int .i64 0, .int .i64 0, .int .i64 0, .int .i64 0, .int .i64 0, .int .i64 0, .int .i64 0, .int .i64 0, .int .i64 0, .bool false, .int .i64 0, .bool false] 27) (.cells #[.bool false, .bool false, .bool false] 29)) hb
 rw [alloc_size, alloc_size] at Y
 rw [alloc_size] at R
 have B := Lib.hid (below_mono (below_alloc (below_alloc (below_alloc (below_alloc (Below.refl w.heap.size w) (.cells #[.int .i64 a, .int .i64 x, .int .i64 y, .int .i64 s, .int .i64 p, .int .i64 pc, .int .i64 sq, .int .i64 cd, .int .i64 t, .int .i64 lo, .int .i64 hi, .int .i64 vl, .bool cr, .int .i64 nx, .bool jm] 27)) (.cells #[.bool nm, .bool ed, .bool iq] 29)) (.cells #[.int .i64 0, .int .i64 0, .int .i64 0, .int .i64 0, .int .i64 0, .int .i64 0, .int .i64 0, .int .i64 0, .int .i64 0, .int .i64 0, .int .i64 0, .int .i64 0, .bool false, .int .i64 0, .bool false] 27)) (.cells #[.bool false, .bool false, .bool false] 29)) hb (by simp; omega))
 clear hb
 simp only [alloc_size] at hge
 have hgc : g ≠ w.heap.size + 1 + 1 := by omega
 have hgw : g ≠ w.heap.size + 1 + 1 + 1 := by omega
 have p0 := cell_of_blk (i := 0) (v := .int .i64 0) R rfl
 have p1 := cell_of_blk (i := 1) (v := .int .i64 0) R rfl
 have p2 := cell_of_blk (i := 2) (v := .int .i64 0) R rfl
 have p3 := cell_of_blk (i := 3) (v := .int .i64 0) R rfl
 have p4 := cell_of_blk (i := 4) (v := .int .i64 0) R rfl
 have p5 := cell_of_blk (i := 5) (v := .int .i64 0) R rfl
 have p6 := cell_of_blk (i := 6) (v := .int .i64 0) R rfl
 have p7 := cell_of_blk (i := 7) (v := .int .i64 0) R rfl
 have p8 := cell_of_blk (i := 8) (v := .int .i64 0) R rfl
 have p9 := cell_of_blk (i := 9) (v := .int .i64 0) R rfl
 have p10 := cell_of_blk (i := 10) (v := .int .i64 0) R rfl
 have p11 := cell_of_blk (i := 11) (v := .int .i64 0) R rfl
 have p12 := cell_of_blk (i := 12) (v := .bool false) R rfl
 have p13 := cell_of_blk (i := 13) (v := .int .i64 0) R rfl
 have p14 := cell_of_blk (i := 14) (v := .bool false) R rfl
 have q0 := cell_of_blk (i := 0) (v := .bool false) Y rfl
 have q1 := cell_of_blk (i := 1) (v := .bool false) Y rfl
 have q2 := cell_of_blk (i := 2) (v := .bool false) Y rfl
 have fr := fun i => free_of_blk (i := i) R
 have fy := fun i => free_of_blk (i := i) Y
 have R := Lib.hid R
 have Y := Lib.hid Y
 have Z1 := Lib.hid Z1
 clear ZP
 refine Lib.hid ?_
 go_wp2_with (fail)
 have c_a := Z1.out.c_a
 have c_x := Z1.out.c_x
 have c_y := Z1.out.c_y
 have c_s := Z1.out.c_s
 have c_p := Z1.out.c_p
 have c_pc := Z1.out.c_pc
 have c_sq := Z1.out.c_sq
 have c_cd := Z1.out.c_cd
 have c_t := Z1.out.c_t
 have c_lo := Z1.out.c_lo
 have c_hi := Z1.out.c_hi
 have c_vl := Z1.out.c_vl
 have c_cr := Z1.out.c_cr
 have c_nx := Z1.out.c_nx
 have c_jm := Z1.out.c_jm
 have c_nm := Z1.out.c_nm
 have c_ed := Z1.out.c_ed
 have c_iq := Z1.out.c_iq
 have hcw : w.heap.size + 1 + 1 ≠ w.heap.size + 1 + 1 + 1 := by omega
 have hwc : w.heap.size + 1 + 1 + 1 ≠ w.heap.size + 1 + 1 := by omega
 go_region_with (fail)
 all_goals
  have hrow := row_drew (far3 (set15 R.out (.int .i64 k2.a) (.int .i64 k2.x) (.int .i64 k2.y) (.int .i64 k2.s) (.int .i64 k2.p) (.int .i64 k2.pc) (.int .i64 k2.sq) (.int .i64 k2.cd) (.int .i64 k2.t) (.int .i64 k2.lo) (.int .i64 k2.hi) (.int .i64 k2.vl) (.bool k2.cr) (.int .i64 k2.nx) (.bool k2.jm)) hcw (.bool k2.nm) (.bool k2.ed) (.bool k2.iq))
  have hrow2 := row_drew (set3b (far15 Y.out hwc (.int .i64 k2.a) (.int .i64 k2.x) (.int .i64 k2.y) (.int .i64 k2.s) (.int .i64 k2.p) (.int .i64 k2.pc) (.int .i64 k2.sq) (.int .i64 k2.cd) (.int .i64 k2.t) (.int .i64 k2.lo) (.int .i64 k2.hi) (.int .i64 k2.vl) (.bool k2.cr) (.int .i64 k2.nx) (.bool k2.jm)) (.bool k2.nm) (.bool k2.ed) (.bool k2.iq))
  have Bf := (below3 (below15 B.out (show w.heap.size ≤ w.heap.size + 1 + 1 by omega) (.int .i64 k2.a) (.int .i64 k2.x) (.int .i64 k2.y) (.int .i64 k2.s) (.int .i64 k2.p) (.int .i64 k2.pc) (.int .i64 k2.sq) (.int .i64 k2.cd) (.int .i64 k2.t) (.int .i64 k2.lo) (.int .i64 k2.hi) (.int .i64 k2.vl) (.bool k2.cr) (.int .i64 k2.nx) (.bool k2.jm)) (show w.heap.size ≤ w.heap.size + 1 + 1 + 1 by omega) (.bool k2.nm) (.bool k2.ed) (.bool k2.iq)).trans (below_drew1 w.heap.size _)
  have hrow := Lib.hid hrow
  have hrow2 := Lib.hid hrow2
  have Bf := Lib.hid Bf
  clear c_a c_x c_y c_s c_p c_pc c_sq c_cd c_t c_lo c_hi c_vl c_cr c_nx c_jm c_nm c_ed c_iq p0 p1 p2 p3 p4 p5 p6 p7 p8 p9 p10 p11 p12 p13 p14 q0 q1 q2 fr fy
  generalize World.drew _ = W at hrow hrow2 Bf ⊢
  simp only [Exit.then]
  go_step
  go_step
  exact row_two_post rfl rfl rfl Tryz.underlying27 rfl icore_size Tryz.underlying29 rfl wires_size rfl hrow.out rfl hrow2.out rfl ⟨rfl, Bf.out⟩
end Go.Proofs.YthklebkpoccblaaGreat
