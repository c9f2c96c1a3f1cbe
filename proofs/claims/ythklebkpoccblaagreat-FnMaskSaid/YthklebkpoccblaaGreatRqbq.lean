/-
  Texts put together by program: CkA, CkB, CkC, WiC, CkD.
  Conditions: as each theorem says.
-/
import Derived.Test.YthklebkpoccblaaGreatRqav
namespace Go.Proofs.YthklebkpoccblaaGreat
open Go.RowKit
structure ClkI where
 a : Int
 x : Int
 y : Int
 s : Int
 p : Int
 pc : Int
 sq : Int
 cd : Int
 t : Int
 lo : Int
 hi : Int
 vl : Int
 cr : Bool
 nx : Int
 jm : Bool
 nm : Bool
 ed : Bool
 iq : Bool
 dt : Int
 ah : Int
 on : ByteArray
 om : ByteArray
 kd : Int
 ba : Int
 bd : Int
 bw : Bool
def clkC (k : ClkI) : Array Value := #[.int .i64 k.a, .int .i64 k.x, .int .i64 k.y, .int .i64 k.s, .int .i64 k.p, .int .i64 k.pc, .int .i64 k.sq, .int .i64 k.cd, .int .i64 k.t, .int .i64 k.lo, .int .i64 k.hi, .int .i64 k.vl, .bool k.cr, .int .i64 k.nx, .bool k.jm, .bool k.nm, .bool k.ed, .bool k.iq, .int .i64 k.dt, .int .i64 k.ah, .string k.on, .string k.om, .int .i64 k.kd, .int .i64 k.ba, .int .i64 k.bd, .bool k.bw]
def ClkAt (b : Nat) (k : ClkI) (w : World) : Prop := w.heap[b]? = some (.cells (clkC k) 57 (0, 0))
theorem ClkAt.below {b : Nat} {k : ClkI} {w w' : World} (h : ClkAt b k w) (hb : Below w.heap.size w w') : ClkAt b k w' := blk_below h hb
theorem ClkAt.lt {b : Nat} {k : ClkI} {w : World} (h : ClkAt b k w) : b < w.heap.size := (Array.getElem?_eq_some_iff.1 h).1
theorem ClkAt.free {b : Nat} {k : ClkI} {w : World} (h : ClkAt b k w) (i : Nat) : w.frozen? ⟨b, i, none⟩ = false := free_of_blk h
theorem ClkAt.far {b c i : Nat} {k : ClkI} {w : World} {v : Value} (h : ClkAt b k w) (hne : b ≠ c) : ClkAt b k (w.setCell ⟨c, i, none⟩ v) := row_far h hne
theorem ClkAt.new {b : Nat} {k : ClkI} {w : World} (h : ClkAt b k w) (o : Obj) : ClkAt b k (w.alloc o) := blk_old h
theorem ClkAt.c_a {b : Nat} {k : ClkI} {w : World} (h : ClkAt b k w) : w.cell? ⟨b, 0, none⟩ = some (.int .i64 k.a) := cell_of_blk h rfl
theorem ClkAt.s_a {b : Nat} {k : ClkI} {w : World} (h : ClkAt b k w) (v : Int) : ClkAt b { k with a := v } (w.setCell ⟨b, 0, none⟩ (.int .i64 v)) := row_set h
theorem ClkAt.c_x {b : Nat} {k : ClkI} {w : World} (h : ClkAt b k w) : w.cell? ⟨b, 1, none⟩ = some (.int .i64 k.x) := cell_of_blk h rfl
theorem ClkAt.s_x {b : Nat} {k : ClkI} {w : World} (h : ClkAt b k w) (v : Int) : ClkAt b { k with x := v } (w.setCell ⟨b, 1, none⟩ (.int .i64 v)) := row_set h
theorem ClkAt.c_y {b : Nat} {k : ClkI} {w : World} (h : ClkAt b k w) : w.cell? ⟨b, 2, none⟩ = some (.int .i64 k.y) := cell_of_blk h rfl
theorem ClkAt.s_y {b : Nat} {k : ClkI} {w : World} (h : ClkAt b k w) (v : Int) : ClkAt b { k with y := v } (w.setCell ⟨b, 2, none⟩ (.int .i64 v)) := row_set h
theorem ClkAt.c_s {b : Nat} {k : ClkI} {w : World} (h : ClkAt b k w) : w.cell? ⟨b, 3, none⟩ = some (.int .i64 k.s) := cell_of_blk h rfl
theorem ClkAt.s_s {b : Nat} {k : ClkI} {w : World} (h : ClkAt b k w) (v : Int) : ClkAt b { k with s := v } (w.setCell ⟨b, 3, none⟩ (.int .i64 v)) := row_set h
theorem ClkAt.c_p {b : Nat} {k : ClkI} {w : World} (h : ClkAt b k w) : w.cell? ⟨b, 4, none⟩ = some (.int .i64 k.p) := cell_of_blk h rfl
theorem ClkAt.s_p {b : Nat} {k : ClkI} {w : World} (h : ClkAt b k w) (v : Int) : ClkAt b { k with p := v } (w.setCell ⟨b, 4, none⟩ (.int .i64 v)) := row_set h
theorem ClkAt.c_pc {b : Nat} {k : ClkI} {w : World} (h : ClkAt b k w) : w.cell? ⟨b, 5, none⟩ = some (.int .i64 k.pc) := cell_of_blk h rfl
theorem ClkAt.s_pc {b : Nat} {k : ClkI} {w : World} (h : ClkAt b k w) (v : Int) : ClkAt b { k with pc := v } (w.setCell ⟨b, 5, none⟩ (.int .i64 v)) := row_set h
theorem ClkAt.c_sq {b : Nat} {k : ClkI} {w : World} (h : ClkAt b k w) : w.cell? ⟨b, 6, none⟩ = some (.int .i64 k.sq) := cell_of_blk h rfl
theorem ClkAt.s_sq {b : Nat} {k : ClkI} {w : World} (h : ClkAt b k w) (v : Int) : ClkAt b { k with sq := v } (w.setCell ⟨b, 6, none⟩ (.int .i64 v)) := row_set h
theorem ClkAt.c_cd {b : Nat} {k : ClkI} {w : World} (h : ClkAt b k w) : w.cell? ⟨b, 7, none⟩ = some (.int .i64 k.cd) := cell_of_blk h rfl
theorem ClkAt.s_cd {b : Nat} {k : ClkI} {w : World} (h : ClkAt b k w) (v : Int) : ClkAt b { k with cd := v } (w.setCell ⟨b, 7, none⟩ (.int .i64 v)) := row_set h
theorem ClkAt.c_t {b : Nat} {k : ClkI} {w : World} (h : ClkAt b k w) : w.cell? ⟨b, 8, none⟩ = some (.int .i64 k.t) := cell_of_blk h rfl
theorem ClkAt.s_t {b : Nat} {k : ClkI} {w : World} (h : ClkAt b k w) (v : Int) : ClkAt b { k with t := v } (w.setCell ⟨b, 8, none⟩ (.int .i64 v)) := row_set h
theorem ClkAt.c_lo {b : Nat} {k : ClkI} {w : World} (h : ClkAt b k w) : w.cell? ⟨b, 9, none⟩ = some (.int .i64 k.lo) := cell_of_blk h rfl
theorem ClkAt.s_lo {b : Nat} {k : ClkI} {w : World} (h : ClkAt b k w) (v : Int) : ClkAt b { k with lo := v } (w.setCell ⟨b, 9, none⟩ (.int .i64 v)) := row_set h
theorem ClkAt.c_hi {b : Nat} {k : ClkI} {w : World} (h : ClkAt b k w) : w.cell? ⟨b, 10, none⟩ = some (.int .i64 k.hi) := cell_of_blk h rfl
theorem ClkAt.s_hi {b : Nat} {k : ClkI} {w : World} (h : ClkAt b k w) (v : Int) : ClkAt b { k with hi := v } (w.setCell ⟨b, 10, none⟩ (.int .i64 v)) := row_set h
theorem ClkAt.c_vl {b : Nat} {k : ClkI} {w : World} (h : ClkAt b k w) : w.cell? ⟨b, 11, none⟩ = some (.int .i64 k.vl) := cell_of_blk h rfl
theorem ClkAt.s_vl {b : Nat} {k : ClkI} {w : World} (h : ClkAt b k w) (v : Int) : ClkAt b { k with vl := v } (w.setCell ⟨b, 11, none⟩ (.int .i64 v)) := row_set h
theorem ClkAt.c_cr {b : Nat} {k : ClkI} {w : World} (h : ClkAt b k w) : w.cell? ⟨b, 12, none⟩ = some (.bool k.cr) := cell_of_blk h rfl
theorem ClkAt.s_cr {b : Nat} {k : ClkI} {w : World} (h : ClkAt b k w) (v : Bool) : ClkAt b { k with cr := v } (w.setCell ⟨b, 12, none⟩ (.bool v)) := row_set h
theorem ClkAt.c_nx {b : Nat} {k : ClkI} {w : World} (h : ClkAt b k w) : w.cell? ⟨b, 13, none⟩ = some (.int .i64 k.nx) := cell_of_blk h rfl
theorem ClkAt.s_nx {b : Nat} {k : ClkI} {w : World} (h : ClkAt b k w) (v : Int) : ClkAt b { k with nx := v } (w.setCell ⟨b, 13, none⟩ (.int .i64 v)) := row_set h
theorem ClkAt.c_jm {b : Nat} {k : ClkI} {w : World} (h : ClkAt b k w) : w.cell? ⟨b, 14, none⟩ = some (.bool k.jm) := cell_of_blk h rfl
theorem ClkAt.s_jm {b : Nat} {k : ClkI} {w : World} (h : ClkAt b k w) (v : Bool) : ClkAt b { k with jm := v } (w.setCell ⟨b, 14, none⟩ (.bool v)) := row_set h
theorem ClkAt.c_nm {b : Nat} {k : ClkI} {w : World} (h : ClkAt b k w) : w.cell? ⟨b, 15, none⟩ = some (.bool k.nm) := cell_of_blk h rfl
theorem ClkAt.c_ed {b : Nat} {k : ClkI} {w : World} (h : ClkAt b k w) : w.cell? ⟨b, 16, none⟩ = some (.bool k.ed) := cell_of_blk h rfl
theorem ClkAt.c_iq {b : Nat} {k : ClkI} {w : World} (h : ClkAt b k w) : w.cell? ⟨b, 17, none⟩ = some (.bool k.iq) := cell_of_blk h rfl
theorem ClkAt.c_dt {b : Nat} {k : ClkI} {w : World} (h : ClkAt b k w) : w.cell? ⟨b, 18, none⟩ = some (.int .i64 k.dt) := cell_of_blk h rfl
theorem ClkAt.c_ah {b : Nat} {k : ClkI} {w : World} (h : ClkAt b k w) : w.cell? ⟨b, 19, none⟩ = some (.int .i64 k.ah) := cell_of_blk h rfl
theorem ClkAt.c_on {b : Nat} {k : ClkI} {w : World} (h : ClkAt b k w) : w.cell? ⟨b, 20, none⟩ = some (.string k.on) := cell_of_blk h rfl
theorem ClkAt.s_on {b : Nat} {k : ClkI} {w : World} (h : ClkAt b k w) (v : ByteArray) : ClkAt b { k with on := v } (w.setCell ⟨b, 20, none⟩ (.string v)) := row_set h
theorem ClkAt.c_om {b : Nat} {k : ClkI} {w : World} (h : ClkAt b k w) : w.cell? ⟨b, 21, none⟩ = some (.string k.om) := cell_of_blk h rfl
theorem ClkAt.s_om {b : Nat} {k : ClkI} {w : World} (h : ClkAt b k w) (v : ByteArray) : ClkAt b { k with om := v } (w.setCell ⟨b, 21, none⟩ (.string v)) := row_set h
theorem ClkAt.c_kd {b : Nat} {k : ClkI} {w : World} (h : ClkAt b k w) : w.cell? ⟨b, 22, none⟩ = some (.int .i64 k.kd) := cell_of_blk h rfl
theorem ClkAt.s_kd {b : Nat} {k : ClkI} {w : World} (h : ClkAt b k w) (v : Int) : ClkAt b { k with kd := v } (w.setCell ⟨b, 22, none⟩ (.int .i64 v)) := row_set h
theorem ClkAt.c_ba {b : Nat} {k : ClkI} {w : World} (h : ClkAt b k w) : w.cell? ⟨b, 23, none⟩ = some (.int .i64 k.ba) := cell_of_blk h rfl
theorem ClkAt.s_ba {b : Nat} {k : ClkI} {w : World} (h : ClkAt b k w) (v : Int) : ClkAt b { k with ba := v } (w.setCell ⟨b, 23, none⟩ (.int .i64 v)) := row_set h
theorem ClkAt.c_bd {b : Nat} {k : ClkI} {w : World} (h : ClkAt b k w) : w.cell? ⟨b, 24, none⟩ = some (.int .i64 k.bd) := cell_of_blk h rfl
theorem ClkAt.s_bd {b : Nat} {k : ClkI} {w : World} (h : ClkAt b k w) (v : Int) : ClkAt b { k with bd := v } (w.setCell ⟨b, 24, none⟩ (.int .i64 v)) := row_set h
theorem ClkAt.c_bw {b : Nat} {k : ClkI} {w : World} (h : ClkAt b k w) : w.cell? ⟨b, 25, none⟩ = some (.bool k.bw) := cell_of_blk h rfl
theorem ClkAt.s_bw {b : Nat} {k : ClkI} {w : World} (h : ClkAt b k w) (v : Bool) : ClkAt b { k with bw := v } (w.setCell ⟨b, 25, none⟩ (.bool v)) := row_set h
def ClkI.put (k : ClkI) (r : RegI) : ClkI := { k with a := r.a, x := r.x, y := r.y, s := r.s, p := r.p, pc := r.pc }
def Did (B b : Nat) (w : World) (k : ClkI) (v : Value) (e : Ending) (w' : World) : Prop := e = .returned v ∧ ClkAt b k w' ∧ Below B w w'
theorem ClkAt.drew {b : Nat} {k : ClkI} {w : World} (h : ClkAt b k w) : ClkAt b k w.drew := h
theorem below_drew1 (B : Nat) (w : World) : Below B w w.drew := ⟨rfl, rfl, rfl, Nat.le_refl _, fun _ _ => rfl⟩
theorem below_mono {B : Nat} {w w1 w2 : World} (h : Below B w w1) (hb : Below w1.heap.size w1 w2) (hB : B ≤ w1.heap.size) : Below B w w2 := h.trans (hb.mono hB)
end Go.Proofs.YthklebkpoccblaaGreat
namespace Go.Proofs.YthklebkpoccblaaGreat
open Go.RowKit
theorem u16_up (n : Int) : wrap64 (IntKind.u16.wrap (wrap64 (n + 1))) = (n + 1) % 65536 := by rw [IntKind.wrap_u16]; unfold wrap64; omega
theorem low_of_wrap (n : Int) (w : World) : Calls Tryz.prog 61 #[.int .i64 (IntKind.i64.wrap n)] w fun e w' => e = .returned (.int .i64 (n % 256)) ∧ w = w' := by
 have h := low_of (IntKind.i64.wrap n) w
 rw [show IntKind.i64.wrap n % 256 = n % 256 by rw [IntKind.wrap_i64]; omega] at h
 exact h
set_option maxRecDepth 100000 in
set_option maxHeartbeats 2000000 in
theorem m_read {B : Nat} {b : Nat} (k : ClkI) (ad : Int) (w : World) (h : ClkAt b k w) (hB : B ≤ b) : Calls Tryz.prog 89 #[.pointer (some ⟨b, 0, none⟩), .int .i64 ad] w (Did B b w { k with ba := ad, bd := 0, bw := false } (.int .i64 k.dt)) := by
 unfold Did
 have Z := Lib.hid h
 clear h
 have fz := Z.out.free
 have Q := Lib.hid (Below.refl B w)
 have _ := hB
 have c_dt : w.cell? ⟨b, 18, none⟩ = some (.int .i64 (k.dt)) := Z.out.c_dt
 have c_ba : w.cell? ⟨b, 23, none⟩ = some (.int .i64 (k.ba)) := Z.out.c_ba
 have c_bd : w.cell? ⟨b, 24, none⟩ = some (.int .i64 (k.bd)) := Z.out.c_bd
 have c_bw : w.cell? ⟨b, 25, none⟩ = some (.bool (k.bw)) := Z.out.c_bw
 go_enter Tryz.func89, Tryz.ntmps89
 go_wp2
 go_ret
 exact ⟨rfl, (((Z.out.s_ba ad).s_bd 0).s_bw false), (below_put (i := 25) (v := .bool (false)) (below_put (i := 24) (v := .int .i64 (0)) (below_put (i := 23) (v := .int .i64 (ad)) Q.out hB) hB) hB)⟩
set_option maxRecDepth 100000 in
set_option maxHeartbeats 2000000 in
theorem m_write {B : Nat} {b : Nat} (k : ClkI) (ad : Int) (v : Int) (w : World) (h : ClkAt b k w) (hB : B ≤ b) : Calls Tryz.prog 149 #[.pointer (some ⟨b, 0, none⟩), .int .i64 ad, .int .i64 v] w (Did B b w { k with ba := ad, bd := v, bw := true } (.tuple #[])) := by
 unfold Did
 have Z := Lib.hid h
 clear h
 have fz := Z.out.free
 have Q := Lib.hid (Below.refl B w)
 have _ := hB
 have c_ba : w.cell? ⟨b, 23, none⟩ = some (.int .i64 (k.ba)) := Z.out.c_ba
 have c_bd : w.cell? ⟨b, 24, none⟩ = some (.int .i64 (k.bd)) := Z.out.c_bd
 have c_bw : w.cell? ⟨b, 25, none⟩ = some (.bool (k.bw)) := Z.out.c_bw
 go_enter Tryz.func149, Tryz.ntmps149
 go_wp2
 go_end0
 exact ⟨rfl, (((Z.out.s_ba ad).s_bd v).s_bw true), (below_put (i := 25) (v := .bool (true)) (below_put (i := 24) (v := .int .i64 (v)) (below_put (i := 23) (v := .int .i64 (ad)) Q.out hB) hB) hB)⟩
set_option maxRecDepth 100000 in
set_option maxHeartbeats 2000000 in
theorem m_idle {B : Nat} {b : Nat} (k : ClkI) (w : World) (h : ClkAt b k w) (hB : B ≤ b) : Calls Tryz.prog 135 #[.pointer (some ⟨b, 0, none⟩)] w (Did B b w { k with ba := k.pc, bd := 0, bw := false } (.tuple #[])) := by
 unfold Did
 have Z := Lib.hid h
 clear h
 have fz := Z.out.free
 have Q := Lib.hid (Below.refl B w)
 have _ := hB
 have c_pc : w.cell? ⟨b, 5, none⟩ = some (.int .i64 (k.pc)) := Z.out.c_pc
 go_enter Tryz.func135, Tryz.ntmps135
 go_wp2_with (first | (go_at_call 89; refine (m_read _ _ _ Z.out hB).mono ?_; rintro e w9 ⟨rfl, Z1, Q1⟩))
 go_end0
 exact ⟨rfl, Z1, Q.out.trans Q1⟩
set_option maxRecDepth 100000 in
set_option maxHeartbeats 2000000 in
theorem m_fed {B : Nat} {b : Nat} (k : ClkI) (w : World) (h : ClkAt b k w) (hB : B ≤ b) : Calls Tryz.prog 148 #[.pointer (some ⟨b, 0, none⟩)] w (Did B b w { k with ba := k.pc, bd := 0, bw := false, pc := (k.pc + 1) % 65536 } (.int .i64 k.dt)) := by
 unfold Did
 have e16 := u16_up k.pc
 have Z := Lib.hid h
 clear h
 have fz := Z.out.free
 have Q := Lib.hid (Below.refl B w)
 have _ := hB
 have c_pc : w.cell? ⟨b, 5, none⟩ = some (.int .i64 (k.pc)) := Z.out.c_pc
 go_enter Tryz.func148, Tryz.ntmps148
 go_wp2_with (go_at_call 89; refine (m_read _ _ _ Z.out hB).mono ?_; rintro e w1 ⟨rfl, Z1, Q1⟩; refine Hid.out ?_)
 have Q := Lib.hid (Q.out.trans Q1)
 have Z : Hid (ClkAt b ({ k with ba := k.pc, bd := 0, bw := false }) w1) := Lib.hid (Z1)
 clear Z1 Q1
 clear fz c_pc
 have fz := Z.out.free
 have c_pc : w1.cell? ⟨b, 5, none⟩ = some (.int .i64 (k.pc)) := Z.out.c_pc
 refine Lib.hid ?_
 go_wp2
 go_ret
 exact ⟨rfl, (Z.out.s_pc ((k.pc + 1) % 65536)), (below_put (i := 5) (v := .int .i64 (((k.pc + 1) % 65536))) Q.out hB)⟩
set_option maxRecDepth 100000 in
set_option maxHeartbeats 2000000 in
theorem m_stack {b : Nat} (k : ClkI) (w : World) (h : ClkAt b k w) (s0 : 0 ≤ k.s) (s1 : k.s ≤ 255) : Calls Tryz.prog 163 #[.pointer (some ⟨b, 0, none⟩)] w fun e w' => e = .returned (.int .i64 (256 + k.s)) ∧ w = w' := by
 have HW := Lib.hid (fun w => word_of 1 k.s (by omega) (by omega) s0 s1 w)
 have Z := Lib.hid h
 clear h
 have fz := Z.out.free
 have c_s : w.cell? ⟨b, 3, none⟩ = some (.int .i64 (k.s)) := Z.out.c_s
 go_enter Tryz.func163, Tryz.ntmps163
 go_wp2_with (first | (go_at_call 161; refine (HW.out _).mono ?_; rintro e w' ⟨rfl, rfl⟩))
 go_ret
 exact ⟨by simp, rfl⟩
end Go.Proofs.YthklebkpoccblaaGreat
namespace Go.Proofs.YthklebkpoccblaaGreat
open Go.RowKit
def pushK (k : ClkI) (v : Int) : ClkI := { k with ba := 256 + k.s, bd := if k.sq = 3 then 0 else v, bw := decide (¬ k.sq = 3), s := (k.s - 1) % 256 }
set_option maxRecDepth 100000 in
set_option maxHeartbeats 2000000 in
theorem m_push_r {B : Nat} {b : Nat} (k : ClkI) (v : Int) (w : World) (h : ClkAt b k w) (hB : B ≤ b) (s0 : 0 ≤ k.s) (s1 : k.s ≤ 255) (hr : k.sq = 3) : Calls Tryz.prog 155 #[.pointer (some ⟨b, 0, none⟩), .int .i64 v] w (Did B b w (pushK k v) (.tuple #[])) := by
 unfold Did
 rw [show pushK k v = { k with ba := 256 + k.s, bd := 0, bw := false, s := (k.s - 1) % 256 } from by unfold pushK; simp [hr]]
 have Z := Lib.hid h
 clear h
 have fz := Z.out.free
 have Q := Lib.hid (Below.refl B w)
 have _ := hB
 have c_sq : w.cell? ⟨b, 6, none⟩ = some (.int .i64 (k.sq)) := Z.out.c_sq
 go_enter Tryz.func155, Tryz.ntmps155
 go_wp2_with (first | (go_at_call 89; refine (m_read _ _ _ Z.out hB).mono ?_; rintro e w1 ⟨rfl, Z1, Q1⟩; refine Hid.out ?_) | (go_at_call 163; refine (m_stack _ _ Z.out s0 s1).mono ?_; rintro e w' ⟨rfl, rfl⟩))
 have Q := Lib.hid (Q.out.trans Q1)
 have Z : Hid (ClkAt b ({ k with ba := (256 + k.s), bd := 0, bw := false }) w1) := Lib.hid (Z1)
 clear Z1 Q1
 clear fz c_sq
 have fz := Z.out.free
 have c_s : w1.cell? ⟨b, 3, none⟩ = some (.int .i64 (k.s)) := Z.out.c_s
 refine Lib.hid ?_
 go_wp2_with (first | (go_at_call 61; refine (low_of _ _).mono ?_; rintro e w' ⟨rfl, rfl⟩))
 go_end0
 exact ⟨rfl, (Z.out.s_s ((k.s - 1) % 256)), (below_put (i := 3) (v := .int .i64 (((k.s - 1) % 256))) Q.out hB)⟩
set_option maxRecDepth 100000 in
set_option maxHeartbeats 2000000 in
theorem m_push_w {B : Nat} {b : Nat} (k : ClkI) (v : Int) (w : World) (h : ClkAt b k w) (hB : B ≤ b) (s0 : 0 ≤ k.s) (s1 : k.s ≤ 255) (hr : ¬ k.sq = 3) : Calls Tryz.prog 155 #[.pointer (some ⟨b, 0, none⟩), .int .i64 v] w (Did B b w (pushK k v) (.tuple #[])) := by
 unfold Did
 rw [show pushK k v = { k with ba := 256 + k.s, bd := v, bw := true, s := (k.s - 1) % 256 } from by unfold pushK; simp [hr]]
 have Z := Lib.hid h
 clear h
 have fz := Z.out.free
 have Q := Lib.hid (Below.refl B w)
 have _ := hB
 have c_sq : w.cell? ⟨b, 6, none⟩ = some (.int .i64 (k.sq)) := Z.out.c_sq
 go_enter Tryz.func155, Tryz.ntmps155
 go_wp2_with (first | (go_at_call 149; refine (m_write _ _ _ _ Z.out hB).mono ?_; rintro e w1 ⟨rfl, Z1, Q1⟩; refine Hid.out ?_) | (go_at_call 163; refine (m_stack _ _ Z.out s0 s1).mono ?_; rintro e w' ⟨rfl, rfl⟩))
 have Q := Lib.hid (Q.out.trans Q1)
 have Z : Hid (ClkAt b ({ k with ba := (256 + k.s), bd := v, bw := true }) w1) := Lib.hid (Z1)
 clear Z1 Q1
 clear fz c_sq
 have fz := Z.out.free
 have c_s : w1.cell? ⟨b, 3, none⟩ = some (.int .i64 (k.s)) := Z.out.c_s
 refine Lib.hid ?_
 go_wp2_with (first | (go_at_call 61; refine (low_of _ _).mono ?_; rintro e w' ⟨rfl, rfl⟩))
 go_end0
 exact ⟨rfl, (Z.out.s_s ((k.s - 1) % 256)), (below_put (i := 3) (v := .int .i64 (((k.s - 1) % 256))) Q.out hB)⟩
theorem m_push {B b : Nat} (k : ClkI) (v : Int) (w : World) (h : ClkAt b k w) (hB : B ≤ b) (s0 : 0 ≤ k.s) (s1 : k.s ≤ 255) : Calls Tryz.prog 155 #[.pointer (some ⟨b, 0, none⟩), .int .i64 v] w (Did B b w (pushK k v) (.tuple #[])) := by
 by_cases hr : k.sq = 3
 ·exact m_push_r k v w h hB s0 s1 hr
 ·exact m_push_w k v w h hB s0 s1 hr
set_option maxRecDepth 100000 in
set_option maxHeartbeats 2000000 in
theorem m_pushHigh {B : Nat} {b : Nat} (k : ClkI) (w : World) (h : ClkAt b k w) (hB : B ≤ b) (s0 : 0 ≤ k.s) (s1 : k.s ≤ 255) (p0 : 0 ≤ k.pc) (p1 : k.pc ≤ 65535) : Calls Tryz.prog 130 #[.pointer (some ⟨b, 0, none⟩)] w (Did B b w (pushK k (k.pc / 256)) (.tuple #[])) := by
 unfold Did
 have HG := Lib.hid (fun w => high_of k.pc p0 p1 w)
 have Z := Lib.hid h
 clear h
 have fz := Z.out.free
 have Q := Lib.hid (Below.refl B w)
 have _ := hB
 have c_pc : w.cell? ⟨b, 5, none⟩ = some (.int .i64 (k.pc)) := Z.out.c_pc
 go_enter Tryz.func130, Tryz.ntmps130
 go_wp2_with (first | (go_at_call 155; refine (m_push _ _ _ Z.out hB s0 s1).mono ?_; rintro e w9 ⟨rfl, Z1, Q1⟩) | (go_at_call 156; refine (HG.out _).mono ?_; rintro e w' ⟨rfl, rfl⟩))
 go_end0
 exact ⟨rfl, Z1, Q.out.trans Q1⟩
set_option maxRecDepth 100000 in
set_option maxHeartbeats 2000000 in
theorem m_pushLow {B : Nat} {b : Nat} (k : ClkI) (w : World) (h : ClkAt b k w) (hB : B ≤ b) (s0 : 0 ≤ k.s) (s1 : k.s ≤ 255) : Calls Tryz.prog 131 #[.pointer (some ⟨b, 0, none⟩)] w (Did B b w (pushK k (k.pc % 256)) (.tuple #[])) := by
 unfold Did
 have Z := Lib.hid h
 clear h
 have fz := Z.out.free
 have Q := Lib.hid (Below.refl B w)
 have _ := hB
 have c_pc : w.cell? ⟨b, 5, none⟩ = some (.int .i64 (k.pc)) := Z.out.c_pc
 go_enter Tryz.func131, Tryz.ntmps131
 go_wp2_with (first | (go_at_call 155; refine (m_push _ _ _ Z.out hB s0 s1).mono ?_; rintro e w9 ⟨rfl, Z1, Q1⟩) | (go_at_call 61; refine (low_of _ _).mono ?_; rintro e w' ⟨rfl, rfl⟩))
 go_end0
 exact ⟨rfl, Z1, Q.out.trans Q1⟩
set_option maxRecDepth 100000 in
set_option maxHeartbeats 2000000 in
theorem m_pushNotes {B : Nat} {b : Nat} (k : ClkI) (w : World) (h : ClkAt b k w) (hB : B ≤ b) (s0 : 0 ≤ k.s) (s1 : k.s ≤ 255) : Calls Tryz.prog 132 #[.pointer (some ⟨b, 0, none⟩)] w (Did B b w (pushK k (pushI k.p (k.sq == 0))) (.tuple #[])) := by
 unfold Did
 have HP := Lib.hid (fun w => impl_pushed k.p (k.sq == 0) w)
 have Z := Lib.hid h
 clear h
 have fz := Z.out.free
 have Q := Lib.hid (Below.refl B w)
 have _ := hB
 have c_p : w.cell? ⟨b, 4, none⟩ = some (.int .i64 (k.p)) := Z.out.c_p
 have c_sq : w.cell? ⟨b, 6, none⟩ = some (.int .i64 (k.sq)) := Z.out.c_sq
 go_enter Tryz.func132, Tryz.ntmps132
 go_wp2_with (fail)
 go_region_held3 (fun w' => w'.cell? ⟨b, 4, none⟩ = some (.int .i64 (k.p)) ∧ w'.cell? ⟨b, 6, none⟩ = some (.int .i64 (k.sq))) (first | exact ⟨Z.out.c_p, Z.out.c_sq⟩ | exact ⟨Z9.c_p, Z9.c_sq⟩ | go_keep) (first | (go_at_call 155; refine (m_push _ _ _ (Z.out).drew hB s0 s1).mono ?_; rintro e w9 ⟨rfl, Z9, Q9⟩) | (go_at_call 157; refine (HP.out _).mono ?_; rintro e w' ⟨rfl, rfl⟩))
 have Q := Lib.hid ((Q.out.trans (below_drew1 B _)).trans Q9)
 have Z : Hid (ClkAt b ({ k with s := (k.s - 1) % 256, ba := 256 + k.s, bd := if k.sq = 3 then 0 else (pushI k.p (k.sq == 0)), bw := decide (¬ k.sq = 3) }) w9) := Lib.hid Z9
 clear Z9 Q9
 clear fz c_p c_sq
 have fz := Z.out.free
 go_wp2_with (first | fail)
 go_end0
 exact ⟨rfl, Z.out, Q.out⟩
def pauseK (k : ClkI) : ClkI := { k with ba := k.pc, bd := 0, bw := false, pc := if k.sq = 0 then (k.pc + 1) % 65536 else k.pc }
set_option maxRecDepth 100000 in
set_option maxHeartbeats 2000000 in
theorem m_pause_n {B : Nat} {b : Nat} (k : ClkI) (w : World) (h : ClkAt b k w) (hB : B ≤ b) (hr : k.sq = 0) : Calls Tryz.prog 129 #[.pointer (some ⟨b, 0, none⟩)] w (Did B b w (pauseK k) (.tuple #[])) := by
 unfold Did
 rw [show pauseK k = { k with ba := k.pc, bd := 0, bw := false, pc := (k.pc + 1) % 65536 } from by unfold pauseK; simp [hr]]
 have Z := Lib.hid h
 clear h
 have fz := Z.out.free
 have Q := Lib.hid (Below.refl B w)
 have _ := hB
 have c_sq : w.cell? ⟨b, 6, none⟩ = some (.int .i64 (k.sq)) := Z.out.c_sq
 go_enter Tryz.func129, Tryz.ntmps129
 go_wp2_with (first | (go_at_call 148; refine (m_fed _ _ Z.out hB).mono ?_; rintro e w9 ⟨rfl, Z1, Q1⟩))
 refine bodyPost_ret (results_none rfl _ _ _) rfl ?_
 exact ⟨rfl, Z1, Q.out.trans Q1⟩
set_option maxRecDepth 100000 in
set_option maxHeartbeats 2000000 in
theorem m_pause_s {B : Nat} {b : Nat} (k : ClkI) (w : World) (h : ClkAt b k w) (hB : B ≤ b) (hr : ¬ k.sq = 0) : Calls Tryz.prog 129 #[.pointer (some ⟨b, 0, none⟩)] w (Did B b w (pauseK k) (.tuple #[])) := by
 unfold Did
 rw [show pauseK k = { k with ba := k.pc, bd := 0, bw := false } from by unfold pauseK; simp [hr]]
 have Z := Lib.hid h
 clear h
 have fz := Z.out.free
 have Q := Lib.hid (Below.refl B w)
 have _ := hB
 have c_sq : w.cell? ⟨b, 6, none⟩ = some (.int .i64 (k.sq)) := Z.out.c_sq
 go_enter Tryz.func129, Tryz.ntmps129
 go_wp2_with (first | (go_at_call 135; refine (m_idle _ _ Z.out hB).mono ?_; rintro e w9 ⟨rfl, Z1, Q1⟩))
 go_end0
 exact ⟨rfl, Z1, Q.out.trans Q1⟩
theorem m_pause {B b : Nat} (k : ClkI) (w : World) (h : ClkAt b k w) (hB : B ≤ b) : Calls Tryz.prog 129 #[.pointer (some ⟨b, 0, none⟩)] w (Did B b w (pauseK k) (.tuple #[])) := by
 by_cases hr : k.sq = 0
 ·exact m_pause_n k w h hB hr
 ·exact m_pause_s k w h hB hr
end Go.Proofs.YthklebkpoccblaaGreat
namespace Go.Proofs.YthklebkpoccblaaGreat
open Go.RowKit Go.Conc
theorem mk_asks (w : World) : (Instr.makeChan 147 (.int .i64 2)).run Tryz.prog w = .ok (.chan (some w.heap.size)) (w.alloc (.chan 2 #[] false 0 0 false)) := by
 have h : (Tryz.prog.info? 3).map (·.bytes) = some 8 := by kernel_rfl
 obtain ⟨i, hi, hb⟩ := Option.map_eq_some_iff.1 h
 simpa using run_makeChan (P := Tryz.prog) (w := w) Tryz.underlying147 hi .i64 2 (by omega) (by rw [hb]; omega)
def askBuf (e b : Bool) : Array Value := (if e then #[.int .i64 2] else #[]) ++ (if b then #[.int .i64 1] else #[])
def AsksAt (W : World) (e b : Bool) (v : Value) (w : World) : Prop := ∃ c s, v = .chan (some c) ∧ W.heap.size ≤ c ∧ ChanAt w c 2 (askBuf e b) s 0 ∧ Below W.heap.size W w
theorem chan_far {w : World} {b c cap s r : Nat} {buf : Array Value} {x : Obj} (h : w.heap[b]? = some x) (hne : b ≠ c) : (w.setChan c cap buf false s r false).heap[b]? = some x := by
 rw [← h]
 simp [World.setChan, Array.getElem?_setIfInBounds_ne (Ne.symm hne)]
theorem asks_of (n e i : Bool) (p : Int) (w : World) : Calls Tryz.prog 196 #[wiresV n e i, .int .u8 p] w fun er w' => ∃ v, er = .returned v ∧ AsksAt w e (i && !tst p 4) v w' := by
 have hm := mk_asks
 have HI := Lib.hid (is_set p 4)
 rw [wiresV_mk]
 have HC := Lib.hid (chan_new2 w (.cells #[.bool n, .bool e, .bool i] 29) 2)
 have HB := Lib.hid (below_alloc (below_alloc (Below.refl w.heap.size w) (.cells #[.bool n, .bool e, .bool i] 29)) (.chan 2 #[] false 0 0 false))
 have K := Lib.hid (blk_old (o := .chan 2 #[] false 0 0 false) (blk_new w (.cells #[.bool n, .bool e, .bool i] 29)))
 generalize ht : tst p 4 = t at *
 clear ht
 cases e
 ·cases i
  ·go_enter Tryz.func196, Tryz.ntmps196
   go_wp2
   go_ret
   exact ⟨_, rfl, _, _, rfl, Nat.le_succ _, HC.out, HB.out⟩
  ·cases t
   ·go_enter Tryz.func196, Tryz.ntmps196
    refine seq_stop (fun K1 hK1 => ?_)
    go_wp2
    refine hK1.out _ _ ?_
    clear hK1
    refine seq_stop (fun K1 hK1 => ?_)
    go_wp2
    refine hK1.out _ _ ?_
    clear hK1
    refine seq_stop (fun K1 hK1 => ?_)
    go_wp2
    refine hK1.out _ _ ?_
    clear hK1
    refine wp_seq ?_
    refine seq_stop (fun K1 hK1 => ?_)
    go_wp2_with (go_at_call 198; refine (HI.out _).mono ?_; rintro e' w' ⟨rfl, rfl⟩)
    refine hK1.out _ _ ?_
    clear hK1
    refine wp_cond_true rfl ?_
    refine comm_second (cases := #[scase (w.heap.size + 1) (.int .i64 1) (.tuple #[])]) (blocking := true) (shape := .send) (w₁ := _) (by rfl) (by simp [go_sem, execOp, Act.eval]; rfl) (by rfl) (by simp [go_sem, execOp, scase, Act.eval, Act.put]) (fun fr cs es h => step_lone_send_room h HC.out (by simp)) ?_
    simp only [Act.put, List.setIfInBounds_toArray, List.set_cons_succ, List.set_cons_zero]
    go_wp2
    go_ret
    exact ⟨_, rfl, _, _, rfl, Nat.le_succ _, HC.out.set 2 #[.int .i64 1] 1 0, below_chan HB.out (Nat.le_succ _) _ _ _ _⟩
   ·go_enter Tryz.func196, Tryz.ntmps196
    go_wp2_with (go_at_call 198; refine (HI.out _).mono ?_; rintro e' w' ⟨rfl, rfl⟩)
    go_ret
    exact ⟨_, rfl, _, _, rfl, Nat.le_succ _, HC.out, HB.out⟩
 ·cases i
  ·go_enter Tryz.func196, Tryz.ntmps196
   refine seq_stop (fun K1 hK1 => ?_)
   go_wp2
   refine hK1.out _ _ ?_
   clear hK1
   refine seq_stop (fun K1 hK1 => ?_)
   go_wp2
   refine hK1.out _ _ ?_
   clear hK1
   refine wp_seq ?_
   refine seq_stop (fun K1 hK1 => ?_)
   go_wp2
   refine hK1.out _ _ ?_
   clear hK1
   refine wp_cond_true rfl ?_
   refine comm_second (cases := #[scase (w.heap.size + 1) (.int .i64 2) (.tuple #[])]) (blocking := true) (shape := .send) (w₁ := _) (by rfl) (by simp [go_sem, execOp, Act.eval]; rfl) (by rfl) (by simp [go_sem, execOp, scase, Act.eval, Act.put]) (fun fr cs es h => step_lone_send_room h HC.out (by simp)) ?_
   simp only [Act.put, List.push_toArray, List.nil_append, Nat.zero_add, List.setIfInBounds_toArray, List.set_cons_succ, List.set_cons_zero]
   have hC := HC.out.set 2 #[.int .i64 2] 1 0
   have hB := below_chan HB.out (Nat.le_succ _) 2 #[.int .i64 2] 1 0
   have hK := (chan_far (c := w.heap.size + 1) (cap := 2) (buf := #[.int .i64 2]) (s := 1) (r := 0) (K.out) (by omega))
   generalize ((w.alloc (.cells #[.bool n, .bool true, .bool false] 29)).alloc (.chan 2 #[] false 0 0 false)).setChan (w.heap.size + 1) 2 #[.int .i64 2] false 1 0 false = W1 at hC hB hK ⊢
   have c2 : W1.cell? ⟨w.heap.size, 2, none⟩ = some (.bool false) := cell_of_blk hK rfl
   replace hC := Lib.hid hC
   replace hB := Lib.hid hB
   clear hK K HC HB
   go_wp2
   go_ret
   exact ⟨_, rfl, _, _, rfl, Nat.le_succ _, hC.out, hB.out⟩
  ·cases t
   ·go_enter Tryz.func196, Tryz.ntmps196
    refine seq_stop (fun K1 hK1 => ?_)
    go_wp2
    refine hK1.out _ _ ?_
    clear hK1
    refine seq_stop (fun K1 hK1 => ?_)
    go_wp2
    refine hK1.out _ _ ?_
    clear hK1
    refine wp_seq ?_
    refine seq_stop (fun K1 hK1 => ?_)
    go_wp2
    refine hK1.out _ _ ?_
    clear hK1
    refine wp_cond_true rfl ?_
    refine comm_second (cases := #[scase (w.heap.size + 1) (.int .i64 2) (.tuple #[])]) (blocking := true) (shape := .send) (w₁ := _) (by rfl) (by simp [go_sem, execOp, Act.eval]; rfl) (by rfl) (by simp [go_sem, execOp, scase, Act.eval, Act.put]) (fun fr cs es h => step_lone_send_room h HC.out (by simp)) ?_
    simp only [Act.put, List.push_toArray, List.nil_append, Nat.zero_add, List.setIfInBounds_toArray, List.set_cons_succ, List.set_cons_zero]
    have hC := HC.out.set 2 #[.int .i64 2] 1 0
    have hB := below_chan HB.out (Nat.le_succ _) 2 #[.int .i64 2] 1 0
    have hK := (chan_far (c := w.heap.size + 1) (cap := 2) (buf := #[.int .i64 2]) (s := 1) (r := 0) (K.out) (by omega))
    generalize ((w.alloc (.cells #[.bool n, .bool true, .bool true] 29)).alloc (.chan 2 #[] false 0 0 false)).setChan (w.heap.size + 1) 2 #[.int .i64 2] false 1 0 false = W1 at hC hB hK ⊢
    have c2 : W1.cell? ⟨w.heap.size, 2, none⟩ = some (.bool true) := cell_of_blk hK rfl
    replace hC := Lib.hid hC
    replace hB := Lib.hid hB
    clear hK K HC HB
    go_step
    go_step
    refine wp_seq ?_
    refine seq_stop (fun K1 hK1 => ?_)
    go_wp2_with (go_at_call 198; refine (HI.out _).mono ?_; rintro e' w' ⟨rfl, rfl⟩)
    refine hK1.out _ _ ?_
    clear hK1
    refine wp_cond_true rfl ?_
    refine comm_second (cases := #[scase (w.heap.size + 1) (.int .i64 1) (.tuple #[])]) (blocking := true) (shape := .send) (w₁ := _) (by rfl) (by simp [go_sem, execOp, Act.eval]; rfl) (by rfl) (by simp [go_sem, execOp, scase, Act.eval, Act.put]) (fun fr cs es h => step_lone_send_room h hC.out (by simp)) ?_
    simp only [Act.put, List.setIfInBounds_toArray, List.set_cons_succ, List.set_cons_zero]
    go_wp2
    go_ret
    exact ⟨_, rfl, _, _, rfl, Nat.le_succ _, hC.out.set 2 #[.int .i64 2, .int .i64 1] 2 0, below_chan hB.out (Nat.le_succ _) _ _ _ _⟩
   ·go_enter Tryz.func196, Tryz.ntmps196
    refine seq_stop (fun K1 hK1 => ?_)
    go_wp2
    refine hK1.out _ _ ?_
    clear hK1
    refine seq_stop (fun K1 hK1 => ?_)
    go_wp2
    refine hK1.out _ _ ?_
    clear hK1
    refine wp_seq ?_
    refine seq_stop (fun K1 hK1 => ?_)
    go_wp2
    refine hK1.out _ _ ?_
    clear hK1
    refine wp_cond_true rfl ?_
    refine comm_second (cases := #[scase (w.heap.size + 1) (.int .i64 2) (.tuple #[])]) (blocking := true) (shape := .send) (w₁ := _) (by rfl) (by simp [go_sem, execOp, Act.eval]; rfl) (by rfl) (by simp [go_sem, execOp, scase, Act.eval, Act.put]) (fun fr cs es h => step_lone_send_room h HC.out (by simp)) ?_
    simp only [Act.put, List.push_toArray, List.nil_append, Nat.zero_add, List.setIfInBounds_toArray, List.set_cons_succ, List.set_cons_zero]
    have hC := HC.out.set 2 #[.int .i64 2] 1 0
    have hB := below_chan HB.out (Nat.le_succ _) 2 #[.int .i64 2] 1 0
    have hK := (chan_far (c := w.heap.size + 1) (cap := 2) (buf := #[.int .i64 2]) (s := 1) (r := 0) (K.out) (by omega))
    generalize ((w.alloc (.cells #[.bool n, .bool true, .bool true] 29)).alloc (.chan 2 #[] false 0 0 false)).setChan (w.heap.size + 1) 2 #[.int .i64 2] false 1 0 false = W1 at hC hB hK ⊢
    have c2 : W1.cell? ⟨w.heap.size, 2, none⟩ = some (.bool true) := cell_of_blk hK rfl
    replace hC := Lib.hid hC
    replace hB := Lib.hid hB
    clear hK K HC HB
    go_wp2_with (go_at_call 198; refine (HI.out _).mono ?_; rintro e' w' ⟨rfl, rfl⟩)
    go_ret
    exact ⟨_, rfl, _, _, rfl, Nat.le_succ _, hC.out, hB.out⟩
theorem impl_take (n e i : Bool) (p : Int) (w : World) : Calls Tryz.prog 184 #[wiresV n e i, .int .i64 p] w fun er w' => er = .returned (.int .i64 (takeN e i p)) ∧ Below w.heap.size w w' := by
 have HA := asks_of n e i (p % 256)
 have ht : tst (p % 256) 4 = tst p 4 := tst_mod p 4
 rw [ht] at HA
 replace HA := Lib.hid HA
 have HT : Hid (takeN e i p = if e then 2 else if (i && !tst p 4) then 1 else 0) := Lib.hid rfl
 generalize (i && !tst p 4) = t at *
 clear ht
 rw [wiresV_mk] at HA ⊢
 go_enter Tryz.func184, Tryz.ntmps184
 refine seq_stop (fun K1 hK1 => ?_)
 go_wp2
 refine hK1.out _ _ ?_
 clear hK1
 refine seq_stop (fun K1 hK1 => ?_)
 go_wp2_with (go_at_call 196; refine (HA.out _).mono ?_; rintro e1 w1 ⟨v, rfl, c, s, rfl, hc, hch, hb⟩; refine Hid.out ?_)
 have HC := Lib.hid hch
 have HB : Hid (Below w.heap.size w w1) := Lib.hid (((Below.refl w.heap.size w).alloc (Nat.le_refl _) (.cells #[.bool n, .bool e, .bool i] 29)).trans (hb.mono (by simp)))
 have hcB : w.heap.size ≤ c := by rw [alloc_size] at hc; omega
 clear hch hb hc HA
 refine Lib.hid ?_
 go_wp2
 refine hK1.out _ _ ?_
 clear hK1
 refine wp_seq ?_
 cases e
 ·cases t
  ·refine comm_first (cases := #[rcase c (.int .i64 0)]) (blocking := false) (shape := .select) (w₁ := w1) (by rfl) (by simp [go_sem, execOp, rcase, Act.eval]) (fun fr cs es h => step_lone_select_default h HC.out) ?_
   simp only [Act.put, List.setIfInBounds_toArray, List.set_cons_succ, List.set_cons_zero]
   go_wp2
   go_ret
   exact ⟨by rw [HT.out]; rfl, HB.out⟩
  ·refine comm_first (cases := #[rcase c (.int .i64 0)]) (blocking := false) (shape := .select) (w₁ := w1) (by rfl) (by simp [go_sem, execOp, rcase, Act.eval]) (fun fr cs es h => step_lone_select_recv_buf h HC.out (by simp [askBuf])) ?_
   simp only [Act.put, List.setIfInBounds_toArray, List.set_cons_succ, List.set_cons_zero, askBuf]
   go_wp2
   go_ret
   exact ⟨by rw [HT.out]; rfl, below_chan HB.out hcB _ _ _ _⟩
 ·refine comm_first (cases := #[rcase c (.int .i64 0)]) (blocking := false) (shape := .select) (w₁ := w1) (by rfl) (by simp [go_sem, execOp, rcase, Act.eval]) (fun fr cs es h => step_lone_select_recv_buf h HC.out (by simp [askBuf]; omega)) ?_
  have e0 : (askBuf true t).getD 0 undef = .int .i64 2 := by cases t <;> rfl
  rw [e0]
  clear e0
  generalize (askBuf true t).extract 1 (askBuf true t).size = bu
  simp only [Act.put, List.setIfInBounds_toArray, List.set_cons_succ, List.set_cons_zero]
  go_wp2
  go_ret
  exact ⟨by rw [HT.out]; rfl, below_chan HB.out hcB _ _ _ _⟩
end Go.Proofs.YthklebkpoccblaaGreat
namespace Go.Proofs.YthklebkpoccblaaGreat
open Go.RowKit
set_option maxRecDepth 100000 in
set_option maxHeartbeats 2000000 in
theorem m_leadsTo_r {B : Nat} {b : Nat} (k : ClkI) (w : World) (h : ClkAt b k w) (hB : B ≤ b) (hr : k.sq = 3) : Calls Tryz.prog 159 #[.pointer (some ⟨b, 0, none⟩)] w (Did B b w k (.int .i64 3)) := by
 unfold Did
 have Z := Lib.hid h
 clear h
 have fz := Z.out.free
 have Q := Lib.hid (Below.refl B w)
 have _ := hB
 have c_sq : w.cell? ⟨b, 6, none⟩ = some (.int .i64 (k.sq)) := Z.out.c_sq
 go_enter Tryz.func159, Tryz.ntmps159
 go_wp2
 go_ret
 exact ⟨rfl, Z.out, Q.out⟩
set_option maxRecDepth 100000 in
set_option maxHeartbeats 2000000 in
theorem m_done {B : Nat} {b : Nat} (k : ClkI) (w : World) (h : ClkAt b k w) (hB : B ≤ b) : Calls Tryz.prog 152 #[.pointer (some ⟨b, 0, none⟩)] w (Did B b w { k with t := 0, nx := takeN k.ed k.iq k.ah } (.tuple #[])) := by
 unfold Did
 have Z := Lib.hid h
 clear h
 have fz := Z.out.free
 have Q := Lib.hid (Below.refl B w)
 have _ := hB
 have c_t : w.cell? ⟨b, 8, none⟩ = some (.int .i64 (k.t)) := Z.out.c_t
 go_enter Tryz.func152, Tryz.ntmps152
 go_wp2_with (fail)
 go_region_held3 (fun w' => w'.cell? ⟨b, 15, none⟩ = some (.bool (k.nm)) ∧ w'.cell? ⟨b, 16, none⟩ = some (.bool (k.ed)) ∧ w'.cell? ⟨b, 17, none⟩ = some (.bool (k.iq)) ∧ w'.cell? ⟨b, 19, none⟩ = some (.int .i64 (k.ah))) (first | exact ⟨(Z.out.s_t 0).c_nm, (Z.out.s_t 0).c_ed, (Z.out.s_t 0).c_iq, (Z.out.s_t 0).c_ah⟩ | exact ⟨Z9.c_nm, Z9.c_ed, Z9.c_iq, Z9.c_ah⟩ | exact ⟨(Z9.s_nx _).c_nm, (Z9.s_nx _).c_ed, (Z9.s_nx _).c_iq, (Z9.s_nx _).c_ah⟩ | go_keep) (first | (go_at_call 184; refine (impl_take _ _ _ _ _).mono ?_; rintro e w9 ⟨rfl, hb⟩; have Z9 := ((Z.out.s_t 0)).drew.below hb; have fz9 := Z9.free; have d_nx := Z9.c_nx))
 have Q := Lib.hid (below_mono ((below_put (i := 8) (v := .int .i64 (0)) Q.out hB).trans (below_drew1 B _)) hb (Nat.le_trans hB (Nat.le_of_lt ((Z.out.s_t 0)).drew.lt)))
 have Z : Hid (ClkAt b ({ k with t := 0 }) w9) := Lib.hid Z9
 clear Z9 hb fz9 d_nx
 clear fz c_t
 have fz := Z.out.free
 have c_nx : w9.cell? ⟨b, 13, none⟩ = some (.int .i64 (k.nx)) := Z.out.c_nx
 go_wp2
 go_end0
 exact ⟨rfl, (Z.out.s_nx (takeN k.ed k.iq k.ah)), (below_put (i := 13) (v := .int .i64 ((takeN k.ed k.iq k.ah))) Q.out hB)⟩
set_option maxRecDepth 100000 in
set_option maxHeartbeats 2000000 in
theorem m_enter {B : Nat} {b : Nat} (k : ClkI) (w : World) (h : ClkAt b k w) (hB : B ≤ b) (d0 : 0 ≤ k.dt) (d1 : k.dt ≤ 255) (l0 : 0 ≤ k.lo) (l1 : k.lo ≤ 255) : Calls Tryz.prog 134 #[.pointer (some ⟨b, 0, none⟩)] w (Did B b w { k with ba := 65280 + (k.vl + 1) % 256, bd := 0, bw := false, pc := k.dt * 256 + k.lo, t := 0, nx := takeN k.ed k.iq k.ah } (.tuple #[])) := by
 unfold Did
 have Z := Lib.hid h
 clear h
 have fz := Z.out.free
 have Q := Lib.hid (Below.refl B w)
 have _ := hB
 go_enter Tryz.func134, Tryz.ntmps134
 go_wp2_with (fail)
 go_region_held3 (fun w' => w'.cell? ⟨b, 11, none⟩ = some (.int .i64 (k.vl)) ∧ w'.cell? ⟨b, 9, none⟩ = some (.int .i64 (k.lo))) (first | exact ⟨Z.out.c_vl, Z.out.c_lo⟩ | exact ⟨Z9.c_vl, Z9.c_lo⟩ | exact ⟨(Z9.s_pc _).c_vl, (Z9.s_pc _).c_lo⟩ | go_keep) (first | (go_at_call 89; refine (m_read _ _ _ (Z.out).drew hB).mono ?_; rintro e w9 ⟨rfl, Z9, Q9⟩; have fz9 := Z9.free; have d_pc := Z9.c_pc) | (go_at_call 61; refine (low_of_wrap (k.vl + 1) _).mono ?_; rintro e w' ⟨rfl, rfl⟩) | (go_at_call 161; refine (word_of _ _ (by omega) (by omega) (by omega) (by omega) _).mono ?_; rintro e w' ⟨rfl, rfl⟩))
 have Q := Lib.hid ((Q.out.trans (below_drew1 B _)).trans Q9)
 have Z : Hid (ClkAt b ({ k with ba := 65280 + (k.vl + 1) % 256, bd := 0, bw := false }) w9) := Lib.hid Z9
 clear Z9 Q9 fz9 d_pc
 clear fz 
 have fz := Z.out.free
 go_wp2_with (first | (go_at_call 152; refine (m_done _ _ (Z.out.s_pc (k.dt * 256 + k.lo)) hB).mono ?_; rintro e w9 ⟨rfl, Z1, Q1⟩))
 go_end0
 exact ⟨rfl, Z1, (below_put (i := 5) (v := .int .i64 ((k.dt * 256 + k.lo))) Q.out hB).trans Q1⟩
end Go.Proofs.YthklebkpoccblaaGreat
