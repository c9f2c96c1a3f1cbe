/-
  Texts put together by program: WoG, ChA, KpA, CkA, CkD, CkE, CkF, CkG, CkJ, CkM, LrC, LrE.
  Conditions: as each theorem says.
-/
import Derived.Conc.LoneCalls
import Derived.Conc.LoneSelect
import Derived.Deep.AppendLies
import Derived.Deep.Cut
import Derived.Deep.CutRange
import Derived.Deep.OwnRows
import Derived.Deep.RegionHeld3
import Derived.Deep.RegionWith
import Derived.FnLit
import Derived.Great.BuildSlice
import Derived.Handy
import Derived.IntWalk
import Derived.KernelRfl
import Derived.Laws.AppendOwn
import Derived.Laws.CopyOwn
import Derived.Laws.CopyRow
import Derived.Laws.StructEq
import Derived.Lib.BufferWrite
import Derived.Lib.SlBytesConst
import Derived.Lib.Strings
import Derived.Lib.UnsafeStr
import Derived.Maps.OwnRows
import Derived.Maps.Views
import Derived.OpenShut
import Derived.Outline
import Derived.WalkSpells
import Derived.Test.YthklebkpoccblaaGreatRsab
namespace Go.Proofs.YthklebkpoccblaaGreat
open Go.RowKit
set_option maxRecDepth 100000 in
set_option maxHeartbeats 4000000 in
theorem impl_apply (k : RegI) (n : ByteArray) (v : Int) (w : World) : Calls Tryz.prog 183 #[regI k, .string n, .int .i64 v] w fun e w' => e = .returned (.tuple #[regI (applyI k n v).1, .int .i64 (applyI k n v).2]) ∧ Below w.heap.size w w' := by
 have hi := Lib.hid reg_size
 have hV : 0 ≤ v % 256 ∧ v % 256 < 256 := by omega
 unfold applyI
 obtain ⟨V, eV⟩ : ∃ V, v % 256 = V := ⟨_, rfl⟩
 rw [eV] at hV ⊢
 have H1 := fun w => with_byte k V n w
 generalize byteI k n V = k1 at *
 have H2 := fun w => with_move k1 n w
 generalize moveI k1 n = k2 at *
 obtain ⟨a, x, y, s, p, pc⟩ := k
 obtain ⟨a1, x1, y1, s1, p1, pc1⟩ := k1
 obtain ⟨a2, x2, y2, s2, p2, pc2⟩ := k2
 simp only []
 have H3 := fun w => with_flag9 p2 n w
 generalize flagI p2 n = p3 at *
 have H4 := fun w => with_change p3 V hV n w
 generalize changeI p3 n V = c at *
 obtain ⟨p4, c4⟩ := c
 simp only [regI_mk] at H1 H2 H4 ⊢
 replace H1 := Lib.hid H1
 replace H2 := Lib.hid H2
 replace H3 := Lib.hid H3
 replace H4 := Lib.hid H4
 go_enter Tryz.func183, Tryz.ntmps183
 go_wp2_with (go_at_call 192; refine (H1.out _).mono ?_; rintro e w1 ⟨rfl, hb⟩; refine Hid.out ?_)
 have K0 := Lib.hid (blk_below (blk_old (blk_new w _)) hb)
 have K1 := Lib.hid (blk_below (blk_new2 w _ _) hb)
 have B := Lib.hid (below_then (below_alloc (below_alloc (Below.refl w.heap.size w) _) _) hb)
 clear hb
 refine Lib.hid ?_
 go_wp2_with (first
  | (refine store_row rfl 25 (.tmp 3) (.tmp 14) rfl w.heap.size _ rfl rfl 6 hi.out K0.out rfl rfl (by rfl) ?_)
  | (refine load_row rfl 25 (.tmp 3) rfl w.heap.size rfl 6 _ Tryz.underlying25 rfl hi.out (setRow_heap _ _ _ _ _ _ K0.out) rfl ?_)
  | (go_at_call 193; refine (H2.out _).mono ?_; rintro e w2 ⟨rfl, hb⟩; refine Hid.out ?_))
 have K0 := Lib.hid (blk_below (setRow_heap _ _ _ _ _ _ K0.out) hb)
 have K1 := Lib.hid (blk_below (row_row K1.out (by omega)) hb)
 have B := Lib.hid (B.out.trans ((below_row (Below.refl _ _) (Nat.le_refl _)).trans (hb.mono (by rw [setRow_size]; exact B.out.size))))
 clear hb
 refine Lib.hid ?_
 go_wp2_with (refine store_row rfl 25 (.tmp 3) (.tmp 17) rfl w.heap.size _ rfl rfl 6 hi.out K0.out rfl rfl (by rfl) ?_; refine Hid.out ?_)
 have K0 := setRow_heap _ _ _ #[.int .i64 a2, .int .i64 x2, .int .i64 y2, .int .i64 s2, .int .i64 p2, .int .i64 pc2] _ _ K0.out
 have K1 := row_row (cs := #[.int .i64 a2, .int .i64 x2, .int .i64 y2, .int .i64 s2, .int .i64 p2, .int .i64 pc2]) K1.out (show w.heap.size + 1 ≠ w.heap.size by omega)
 have B := Lib.hid (below_row (cs := #[.int .i64 a2, .int .i64 x2, .int .i64 y2, .int .i64 s2, .int .i64 p2, .int .i64 pc2]) B.out (Nat.le_refl _))
 generalize w2.setRow w.heap.size #[.int .i64 a2, .int .i64 x2, .int .i64 y2, .int .i64 s2, .int .i64 p2, .int .i64 pc2] = w3 at *
 have c4' := cell_of_blk (i := 4) K0 rfl
 have f4 := free_of_blk (i := 4) K0
 have K0 := Lib.hid K0
 have K1 := Lib.hid K1
 refine Lib.hid ?_
 go_wp2_with (first
  | (go_at_call 194; refine (H3.out _).mono ?_; rintro e w4 ⟨rfl, rfl⟩)
  | (go_at_call 195; refine (H4.out _).mono ?_; rintro e w4 ⟨rfl, hb⟩; refine Hid.out ?_))
 have K0 := blk_below (row_set K0.out) hb
 have K1 := Lib.hid (blk_below (row_far K1.out (by omega)) hb)
 have B := Lib.hid (B.out.trans ((below_put (Below.refl _ _) (Nat.le_refl _)).trans (hb.mono (by simp; exact B.out.size))))
 clear hb c4' f4
 simp only [List.setIfInBounds_toArray, List.set_cons_succ, List.set_cons_zero] at K0
 have c4' := cell_of_blk (i := 4) K0 rfl
 have f4 := free_of_blk (i := 4) K0
 have K0 := Lib.hid K0
 refine Lib.hid ?_
 go_wp2_with (first
  | (refine load_row rfl 25 (.tmp 3) rfl w.heap.size rfl 6 _ Tryz.underlying25 rfl hi.out (row_set K0.out) rfl ?_)
  | (refine store_row rfl 25 (.tmp 6) (.tmp 32) rfl (w.heap.size + 1) _ rfl rfl 6 hi.out (row_far K1.out (by omega)) rfl rfl (by rfl) ?_))
 exact row_tmp_post rfl rfl rfl Tryz.underlying25 rfl reg_size rfl (setRow_heap _ _ _ _ _ _ (row_far K1.out (by omega))) rfl ⟨rfl, below_row (below_put B.out (by omega)) (by omega)⟩
end Go.Proofs.YthklebkpoccblaaGreat
namespace Go.Proofs.YthklebkpoccblaaGreat
structure ChipI where
 c1 : Int
 l1 : Int
 v1 : Bool
 ag : Bool
 c2 : Int
 o2 : Int
 v2 : Bool
 pt : Int
 dr : Int
 fl : Int
 ms : Int
def isF (n : Int) : Bool := decide (n = 0 ∨ n = 32 ∨ n = 64 ∨ n = 96)
structure ChipI.right (c : ChipI) : Prop where
 c1 : 0 ≤ c.c1 ∧ c.c1 ≤ 65535
 l1 : 0 ≤ c.l1 ∧ c.l1 ≤ 65535
 c2 : 0 ≤ c.c2 ∧ c.c2 ≤ 65535
 o2 : 0 ≤ c.o2 ∧ c.o2 ≤ 255
 pt : 0 ≤ c.pt ∧ c.pt ≤ 255
 dr : 0 ≤ c.dr ∧ c.dr ≤ 255
 fl : isF c.fl = true
 ms : isF c.ms = true
end Go.Proofs.YthklebkpoccblaaGreat
namespace Go.Proofs.YthklebkpoccblaaGreat
structure KeepI where
 ws : Int
 bu : Int
 wl : Int
 bl : Int
 ad : Int
 lf : Int
 sm : Int
structure KeepI.right (k : KeepI) : Prop where
 ws : 0 ≤ k.ws ∧ k.ws ≤ 8
 bu : 0 ≤ k.bu ∧ k.bu ≤ 8
 wl : 0 ≤ k.wl ∧ k.wl ≤ k.ws
 bl : 0 ≤ k.bl ∧ k.bl ≤ k.bu
 ad : 0 ≤ k.ad ∧ k.ad ≤ 65535
 lf : 0 ≤ k.lf ∧ k.lf ≤ 255
 sm : 0 ≤ k.sm ∧ k.sm ≤ 255
end Go.Proofs.YthklebkpoccblaaGreat
namespace Go.Proofs.YthklebkpoccblaaGreat
open Go.RowKit
def ClkI.regs (k : ClkI) : RegI := ⟨k.a, k.x, k.y, k.s, k.p, k.pc⟩
theorem ClkAt.s_regs {b : Nat} {k : ClkI} {w : World} (h : ClkAt b k w) (a1 x1 y1 s1 p1 pc1 : Int) : ClkAt b (k.put ⟨a1, x1, y1, s1, p1, pc1⟩) ((((((w.setCell ⟨b, 0, none⟩ (.int .i64 a1)).setCell ⟨b, 1, none⟩ (.int .i64 x1)).setCell ⟨b, 2, none⟩ (.int .i64 y1)).setCell ⟨b, 3, none⟩ (.int .i64 s1)).setCell ⟨b, 4, none⟩ (.int .i64 p1)).setCell ⟨b, 5, none⟩ (.int .i64 pc1)) := by
 have e := row_set (i := 5) (v := .int .i64 pc1) (row_set (i := 4) (v := .int .i64 p1) (row_set (i := 3) (v := .int .i64 s1) (row_set (i := 2) (v := .int .i64 y1) (row_set (i := 1) (v := .int .i64 x1) (row_set (i := 0) (v := .int .i64 a1) h)))))
 unfold clkC at e
 simp only [List.setIfInBounds_toArray, List.set_cons_zero, List.set_cons_succ] at e
 exact e
theorem below_regs {B b : Nat} {u w : World} (h : Below B u w) (hb : B ≤ b) (a1 x1 y1 s1 p1 pc1 : Int) : Below B u ((((((w.setCell ⟨b, 0, none⟩ (.int .i64 a1)).setCell ⟨b, 1, none⟩ (.int .i64 x1)).setCell ⟨b, 2, none⟩ (.int .i64 y1)).setCell ⟨b, 3, none⟩ (.int .i64 s1)).setCell ⟨b, 4, none⟩ (.int .i64 p1)).setCell ⟨b, 5, none⟩ (.int .i64 pc1)) :=
 below_put (i := 5) (v := .int .i64 pc1) (below_put (i := 4) (v := .int .i64 p1) (below_put (i := 3) (v := .int .i64 s1) (below_put (i := 2) (v := .int .i64 y1) (below_put (i := 1) (v := .int .i64 x1) (below_put (i := 0) (v := .int .i64 a1) h hb) hb) hb) hb) hb) hb
theorem ClkAt.far_regs {b c : Nat} {k : ClkI} {w : World} (h : ClkAt c k w) (hne : c ≠ b) (a1 x1 y1 s1 p1 pc1 : Int) : ClkAt c k ((((((w.setCell ⟨b, 0, none⟩ (.int .i64 a1)).setCell ⟨b, 1, none⟩ (.int .i64 x1)).setCell ⟨b, 2, none⟩ (.int .i64 y1)).setCell ⟨b, 3, none⟩ (.int .i64 s1)).setCell ⟨b, 4, none⟩ (.int .i64 p1)).setCell ⟨b, 5, none⟩ (.int .i64 pc1)) :=
 ClkAt.far (i := 5) (v := .int .i64 pc1) (ClkAt.far (i := 4) (v := .int .i64 p1) (ClkAt.far (i := 3) (v := .int .i64 s1) (ClkAt.far (i := 2) (v := .int .i64 y1) (ClkAt.far (i := 1) (v := .int .i64 x1) (ClkAt.far (i := 0) (v := .int .i64 a1) h hne) hne) hne) hne) hne) hne
end Go.Proofs.YthklebkpoccblaaGreat
namespace Go.Proofs.YthklebkpoccblaaGreat
open Go.RowKit
set_option maxRecDepth 100000 in
set_option maxHeartbeats 2000000 in
theorem m_leadsTo_n {B : Nat} {b : Nat} (k : ClkI) (w : World) (h : ClkAt b k w) (hB : B ≤ b) (hr : ¬ k.sq = 3) (he : k.ed = false) : Calls Tryz.prog 159 #[.pointer (some ⟨b, 0, none⟩)] w (Did B b w k (.int .i64 1)) := by
 unfold Did
 have Z := Lib.hid h
 clear h
 have fz := Z.out.free
 have Q := Lib.hid (Below.refl B w)
 have _ := hB
 have c_sq : w.cell? ⟨b, 6, none⟩ = some (.int .i64 (k.sq)) := Z.out.c_sq
 have c_ed : w.cell? ⟨b, 16, none⟩ = some (.bool false) := by rw [Z.out.c_ed, he]
 go_enter Tryz.func159, Tryz.ntmps159
 go_wp2
 go_ret
 exact ⟨rfl, Z.out, Q.out⟩
end Go.Proofs.YthklebkpoccblaaGreat
namespace Go.Proofs.YthklebkpoccblaaGreat
open Go.RowKit
set_option maxRecDepth 100000 in
set_option maxHeartbeats 2000000 in
theorem m_lead_n {B : Nat} {b : Nat} (k : ClkI) (w : World) (h : ClkAt b k w) (hB : B ≤ b) (hr : ¬ k.sq = 3) (he : k.ed = false) : Calls Tryz.prog 133 #[.pointer (some ⟨b, 0, none⟩)] w (Did B b w { k with ed := k.ed, vl := 254, ba := 65534, bd := 0, bw := false, lo := k.dt, p := wI k.p 4 true } (.tuple #[])) := by
 unfold Did
 have HV := Lib.hid (fun w => show Calls Tryz.prog 158 #[.int .i64 1] w fun e w' => e = .returned (.int .i64 65534) ∧ w = w' from impl_vector 1 w)
 have HLo := Lib.hid (fun w => show Calls Tryz.prog 61 #[.int .i64 65534] w fun e w' => e = .returned (.int .i64 254) ∧ w = w' from low_of 65534 w)
 have Z := Lib.hid h
 clear h
 have fz := Z.out.free
 have Q := Lib.hid (Below.refl B w)
 have _ := hB
 go_enter Tryz.func133, Tryz.ntmps133
 go_wp2_with (go_at_call 159; refine (m_leadsTo_n _ _ Z.out hB hr he).mono ?_; rintro e w1 ⟨rfl, Z1, Q1⟩; refine Hid.out ?_)
 have Q := Lib.hid (Q.out.trans Q1)
 have Z : Hid (ClkAt b (k) w1) := Lib.hid (Z1)
 clear Z1 Q1
 clear fz 
 have fz := Z.out.free
 have c_vl : w1.cell? ⟨b, 11, none⟩ = some (.int .i64 (k.vl)) := Z.out.c_vl
 refine Lib.hid ?_
 go_wp2_with (first | (go_at_call 89; refine (m_read _ 65534 _ (Z.out.s_vl 254) hB).mono ?_; rintro e w2 ⟨rfl, Z1, Q1⟩; refine Hid.out ?_) | (go_at_call 158; refine (HV.out _).mono ?_; rintro e w' ⟨rfl, rfl⟩) | (go_at_call 61; refine (HLo.out _).mono ?_; rintro e w' ⟨rfl, rfl⟩))
 have Q := Lib.hid ((below_put (i := 11) (v := .int .i64 (254)) Q.out hB).trans Q1)
 have Z : Hid (ClkAt b ({ k with vl := 254, ba := 65534, bd := 0, bw := false }) w2) := Lib.hid (Z1)
 clear Z1 Q1
 clear fz c_vl
 have fz := Z.out.free
 have c_lo : w2.cell? ⟨b, 9, none⟩ = some (.int .i64 (k.lo)) := Z.out.c_lo
 have c_p : w2.cell? ⟨b, 4, none⟩ = some (.int .i64 (k.p)) := Z.out.c_p
 refine Lib.hid ?_
 go_wp2_with (first | (go_at_call 160; refine (impl_with _ _ _ _).mono ?_; rintro e w' ⟨rfl, rfl⟩))
 go_end0
 exact ⟨rfl, ((Z.out.s_lo k.dt).s_p (wI k.p 4 true)), (below_put (i := 4) (v := .int .i64 ((wI k.p 4 true))) (below_put (i := 9) (v := .int .i64 (k.dt)) Q.out hB) hB)⟩
set_option maxRecDepth 100000 in
set_option maxHeartbeats 2000000 in
theorem m_fetch_n {B : Nat} {b : Nat} (k : ClkI) (w : World) (h : ClkAt b k w) (hB : B ≤ b) (hn : k.nx = 0) : Calls Tryz.prog 118 #[.pointer (some ⟨b, 0, none⟩)] w (Did B b w { k with sq := 0, nx := 0, ba := k.pc, bd := 0, bw := false, pc := (k.pc + 1) % 65536, cd := k.dt, jm := ((opOf k.dt).1.toList == [74, 65, 77]) } (.tuple #[])) := by
 unfold Did
 have HO := fun w => impl_opOf k.dt w
 generalize (opOf k.dt).1 = oa at *
 generalize (opOf k.dt).2 = ob at *
 replace HO := Lib.hid HO
 have hfl : ∀ (W : World), (Instr.field 55 (.agg #[.string oa, .string ob]) 0).run Tryz.prog W = .ok (.string oa) W := fun W => by kernel_rfl
 have Z := Lib.hid h
 clear h
 have fz := Z.out.free
 have Q := Lib.hid (Below.refl B w)
 have _ := hB
 have c_nx : w.cell? ⟨b, 13, none⟩ = some (.int .i64 (k.nx)) := Z.out.c_nx
 have c_sq : w.cell? ⟨b, 6, none⟩ = some (.int .i64 (k.sq)) := Z.out.c_sq
 go_enter Tryz.func118, Tryz.ntmps118
 go_wp2_with (go_at_call 148; refine (m_fed _ _ ((Z.out.s_sq 0).s_nx 0) hB).mono ?_; rintro e w1 ⟨rfl, Z1, Q1⟩; refine Hid.out ?_)
 have Q := Lib.hid ((below_put (i := 13) (v := .int .i64 (0)) (below_put (i := 6) (v := .int .i64 (0)) Q.out hB) hB).trans Q1)
 have Z : Hid (ClkAt b ({ k with pc := (k.pc + 1) % 65536, sq := 0, nx := 0, ba := k.pc, bd := 0, bw := false }) w1) := Lib.hid (Z1)
 clear Z1 Q1
 clear fz c_nx c_sq
 have fz := Z.out.free
 have c_cd : w1.cell? ⟨b, 7, none⟩ = some (.int .i64 (k.cd)) := Z.out.c_cd
 refine Lib.hid ?_
 go_wp2_with (go_at_call 90; refine (HO.out _).mono ?_; rintro e w2 ⟨rfl, hb⟩; refine Hid.out ?_)
 have Q := Lib.hid (below_mono (below_put (i := 7) (v := .int .i64 (k.dt)) Q.out hB) hb (Nat.le_trans hB (Nat.le_of_lt (Z.out.s_cd k.dt).lt)))
 have Z : Hid (ClkAt b ({ k with pc := (k.pc + 1) % 65536, sq := 0, cd := k.dt, nx := 0, ba := k.pc, bd := 0, bw := false }) w2) := Lib.hid ((Z.out.s_cd k.dt).below hb)
 clear hb
 clear fz c_cd
 have fz := Z.out.free
 have c_jm : w2.cell? ⟨b, 14, none⟩ = some (.bool (k.jm)) := Z.out.c_jm
 refine Lib.hid ?_
 go_wp2
 go_end0
 exact ⟨rfl, (Z.out.s_jm (oa.toList == [74, 65, 77])), (below_put (i := 14) (v := .bool ((oa.toList == [74, 65, 77]))) Q.out hB)⟩
end Go.Proofs.YthklebkpoccblaaGreat
namespace Go.Proofs.YthklebkpoccblaaGreat
open Go.RowKit
set_option maxRecDepth 100000 in
set_option maxHeartbeats 2000000 in
theorem m_apply {B : Nat} {b : Nat} (k : ClkI) (v : Int) (w : World) (h : ClkAt b k w) (hB : B ≤ b) : Calls Tryz.prog 151 #[.pointer (some ⟨b, 0, none⟩), .int .i64 v] w (Did B b w (k.put (applyI k.regs k.on v).1) (.int .i64 (applyI k.regs k.on v).2)) := by
 unfold Did
 have HA := fun w => impl_apply k.regs k.on v w
 generalize applyI k.regs k.on v = r at *
 obtain ⟨⟨a1, x1, y1, s1, p1, pc1⟩, c1⟩ := r
 unfold ClkI.regs at HA
 simp only [regI_mk] at HA ⊢
 replace HA := Lib.hid HA
 have Z := Lib.hid h
 clear h
 have fz := Z.out.free
 have Q := Lib.hid (Below.refl B w)
 have _ := hB
 have hne : b ≠ w.heap.size := Nat.ne_of_lt Z.out.lt
 have hBw : B ≤ w.heap.size := Nat.le_trans hB (Nat.le_of_lt Z.out.lt)
 have c_a : w.cell? ⟨b, 0, none⟩ = some (.int .i64 (k.a)) := Z.out.c_a
 have c_x : w.cell? ⟨b, 1, none⟩ = some (.int .i64 (k.x)) := Z.out.c_x
 have c_y : w.cell? ⟨b, 2, none⟩ = some (.int .i64 (k.y)) := Z.out.c_y
 have c_s : w.cell? ⟨b, 3, none⟩ = some (.int .i64 (k.s)) := Z.out.c_s
 have c_p : w.cell? ⟨b, 4, none⟩ = some (.int .i64 (k.p)) := Z.out.c_p
 have c_pc : w.cell? ⟨b, 5, none⟩ = some (.int .i64 (k.pc)) := Z.out.c_pc
 have c_on : w.cell? ⟨b, 20, none⟩ = some (.string (k.on)) := Z.out.c_on
 go_enter Tryz.func151, Tryz.ntmps151
 go_wp2_with (fail)
 go_region_held3 (fun w' => w'.cell? ⟨b, 0, none⟩ = some (.int .i64 (k.a)) ∧ w'.cell? ⟨b, 1, none⟩ = some (.int .i64 (k.x)) ∧ w'.cell? ⟨b, 2, none⟩ = some (.int .i64 (k.y)) ∧ w'.cell? ⟨b, 3, none⟩ = some (.int .i64 (k.s)) ∧ w'.cell? ⟨b, 4, none⟩ = some (.int .i64 (k.p)) ∧ w'.cell? ⟨b, 5, none⟩ = some (.int .i64 (k.pc)) ∧ w'.cell? ⟨b, 20, none⟩ = some (.string (k.on))) (first | with_reducible exact ⟨Z.out.drew.c_a, Z.out.drew.c_x, Z.out.drew.c_y, Z.out.drew.c_s, Z.out.drew.c_p, Z.out.drew.c_pc, Z.out.drew.c_on⟩ | with_reducible exact ⟨Z9.c_a, Z9.c_x, Z9.c_y, Z9.c_s, Z9.c_p, Z9.c_pc, Z9.c_on⟩ | with_reducible exact ⟨(Z.out.new _).drew.c_a, (Z.out.new _).drew.c_x, (Z.out.new _).drew.c_y, (Z.out.new _).drew.c_s, (Z.out.new _).drew.c_p, (Z.out.new _).drew.c_pc, (Z.out.new _).drew.c_on⟩ | with_reducible exact ⟨(Z9.new _).c_a, (Z9.new _).c_x, (Z9.new _).c_y, (Z9.new _).c_s, (Z9.new _).c_p, (Z9.new _).c_pc, (Z9.new _).c_on⟩ | with_reducible exact ⟨((((((Z9.far (i := 0) hne).far (i := 1) hne).far (i := 2) hne).far (i := 3) hne).far (i := 4) hne).far (i := 5) hne).c_a, ((((((Z9.far (i := 0) hne).far (i := 1) hne).far (i := 2) hne).far (i := 3) hne).far (i := 4) hne).far (i := 5) hne).c_x, ((((((Z9.far (i := 0) hne).far (i := 1) hne).far (i := 2) hne).far (i := 3) hne).far (i := 4) hne).far (i := 5) hne).c_y, ((((((Z9.far (i := 0) hne).far (i := 1) hne).far (i := 2) hne).far (i := 3) hne).far (i := 4) hne).far (i := 5) hne).c_s, ((((((Z9.far (i := 0) hne).far (i := 1) hne).far (i := 2) hne).far (i := 3) hne).far (i := 4) hne).far (i := 5) hne).c_p, ((((((Z9.far (i := 0) hne).far (i := 1) hne).far (i := 2) hne).far (i := 3) hne).far (i := 4) hne).far (i := 5) hne).c_pc, ((((((Z9.far (i := 0) hne).far (i := 1) hne).far (i := 2) hne).far (i := 3) hne).far (i := 4) hne).far (i := 5) hne).c_on⟩ | go_keep) (first | (go_at_call 183; first | (refine (HA.out _).mono ?_; rintro e w9 ⟨rfl, hb⟩; have Z9 := Z.out.drew.below hb; have way1 := hb) | (refine (HA.out _).mono ?_; rintro e w9 ⟨rfl, hb⟩; have Z9 := ((Z.out.new (.cells #[.int .i64 0, .int .i64 0, .int .i64 0, .int .i64 0, .int .i64 0, .int .i64 0] 25)).drew).below hb; have R9 := blk_below (w := (w.alloc (.cells #[.int .i64 0, .int .i64 0, .int .i64 0, .int .i64 0, .int .i64 0, .int .i64 0] 25)).drew) (blk_new w (.cells #[.int .i64 0, .int .i64 0, .int .i64 0, .int .i64 0, .int .i64 0, .int .i64 0] 25)) hb; have r0 := cell_of_blk (i := 0) (v := .int .i64 0) R9 rfl; have r1 := cell_of_blk (i := 1) (v := .int .i64 0) R9 rfl; have r2 := cell_of_blk (i := 2) (v := .int .i64 0) R9 rfl; have r3 := cell_of_blk (i := 3) (v := .int .i64 0) R9 rfl; have r4 := cell_of_blk (i := 4) (v := .int .i64 0) R9 rfl; have r5 := cell_of_blk (i := 5) (v := .int .i64 0) R9 rfl; have fr := fun i => free_of_blk (i := i) R9)))
 ·clear way1
  have Q := Lib.hid (below_mono (Q.out.trans (below_drew1 B _)) hb (Nat.le_trans hB (Nat.le_of_lt Z.out.lt)))
  have Z : Hid (ClkAt b k w9) := Lib.hid Z9
  clear Z9 hb fz c_a c_x c_y c_s c_p c_pc c_on
  have fz := Z.out.free
  have hlt := Z.out.lt
  have c_a := Z.out.c_a
  have c_x := Z.out.c_x
  have c_y := Z.out.c_y
  have c_s := Z.out.c_s
  have c_p := Z.out.c_p
  have c_pc := Z.out.c_pc
  go_wp2
  go_ret
  exact ⟨rfl, ((Z.out.s_regs a1 x1 y1 s1 p1 pc1).new _), ((below_regs Q.out hB a1 x1 y1 s1 p1 pc1).alloc (Nat.le_trans hBw (below_regs Q.out hB a1 x1 y1 s1 p1 pc1).size) _)⟩
 ·have Q := Lib.hid (below_mono ((Q.out.alloc hBw (.cells #[.int .i64 0, .int .i64 0, .int .i64 0, .int .i64 0, .int .i64 0, .int .i64 0] 25)).trans (below_drew1 B _)) hb (by simp; omega))
  have Z : Hid (ClkAt b k w9) := Lib.hid Z9
  clear Z9 hb fz c_a c_x c_y c_s c_p c_pc c_on
  have fz := Z.out.free
  have hlt := Z.out.lt
  have c_a := Z.out.c_a
  have c_x := Z.out.c_x
  have c_y := Z.out.c_y
  have c_s := Z.out.c_s
  have c_p := Z.out.c_p
  have c_pc := Z.out.c_pc
  go_wp2
  go_ret
  exact ⟨rfl, ((Z.out.far_regs hne a1 x1 y1 s1 p1 pc1).s_regs a1 x1 y1 s1 p1 pc1), (below_regs (below_regs Q.out hBw a1 x1 y1 s1 p1 pc1) hB a1 x1 y1 s1 p1 pc1)⟩
end Go.Proofs.YthklebkpoccblaaGreat
namespace Go.Proofs.YthklebkpoccblaaGreat
open Go.RowKit
set_option maxRecDepth 100000 in
set_option maxHeartbeats 2000000 in
theorem m_atOnce_i {B : Nat} {b : Nat} (k : ClkI) (w : World) (h : ClkAt b k w) (hB : B ≤ b) (hm : ¬ k.om = ⟨#[97, 99, 99]⟩) : Calls Tryz.prog 166 #[.pointer (some ⟨b, 0, none⟩)] w (Did B b w { k with a := (applyI k.regs k.on k.a).1.a, x := (applyI k.regs k.on k.a).1.x, y := (applyI k.regs k.on k.a).1.y, s := (applyI k.regs k.on k.a).1.s, p := (applyI k.regs k.on k.a).1.p, pc := (applyI k.regs k.on k.a).1.pc, ba := k.pc, bd := 0, bw := false, t := 0, nx := takeN k.ed k.iq k.ah } (.tuple #[])) := by
 unfold Did
 have HD := fun (w : World) (h : ClkAt b { k with a := (applyI k.regs k.on k.a).1.a, x := (applyI k.regs k.on k.a).1.x, y := (applyI k.regs k.on k.a).1.y, s := (applyI k.regs k.on k.a).1.s, p := (applyI k.regs k.on k.a).1.p, pc := (applyI k.regs k.on k.a).1.pc, ba := k.pc, bd := 0, bw := false, t := k.t, nx := k.nx } w) => m_done _ w h hB
 have nm := ne_list [97, 99, 99] hm
 have Z := Lib.hid h
 clear h
 have fz := Z.out.free
 have Q := Lib.hid (Below.refl B w)
 have _ := hB
 have c_pc : w.cell? ⟨b, 5, none⟩ = some (.int .i64 (k.pc)) := Z.out.c_pc
 have c_a : w.cell? ⟨b, 0, none⟩ = some (.int .i64 (k.a)) := Z.out.c_a
 go_enter Tryz.func166, Tryz.ntmps166
 go_wp2_with (go_at_call 135; refine (m_idle _ _ Z.out hB).mono ?_; rintro e w1 ⟨rfl, Z1, Q1⟩; refine Hid.out ?_)
 have Q := Lib.hid (Q.out.trans Q1)
 have Z : Hid (ClkAt b ({ k with ba := k.pc, bd := 0, bw := false }) w1) := Lib.hid (Z1)
 clear Z1 Q1
 clear fz c_pc c_a
 have fz := Z.out.free
 have c_a : w1.cell? ⟨b, 0, none⟩ = some (.int .i64 (k.a)) := Z.out.c_a
 refine Lib.hid ?_
 go_wp2_with (go_at_call 151; refine (m_apply _ _ _ Z.out hB).mono ?_; rintro e w2 ⟨rfl, Z1, Q1⟩; refine Hid.out ?_)
 have Q := Lib.hid (Q.out.trans Q1)
 have Z : Hid (ClkAt b ({ k with a := (applyI k.regs k.on k.a).1.a, x := (applyI k.regs k.on k.a).1.x, y := (applyI k.regs k.on k.a).1.y, s := (applyI k.regs k.on k.a).1.s, p := (applyI k.regs k.on k.a).1.p, pc := (applyI k.regs k.on k.a).1.pc, ba := k.pc, bd := 0, bw := false }) w2) := Lib.hid (Z1)
 clear Z1 Q1
 clear fz c_a
 have fz := Z.out.free
 have c_om : w2.cell? ⟨b, 21, none⟩ = some (.string (k.om)) := Z.out.c_om
 have c_a : w2.cell? ⟨b, 0, none⟩ = some (.int .i64 ((applyI k.regs k.on k.a).1.a)) := Z.out.c_a
 refine Lib.hid ?_
 go_wp2_with (first | (go_at_call 152; refine (HD _ Z.out).mono ?_; rintro e w9 ⟨rfl, Z1, Q1⟩))
 go_end0
 exact ⟨rfl, Z1, Q.out.trans Q1⟩
end Go.Proofs.YthklebkpoccblaaGreat
namespace Go.Proofs.YthklebkpoccblaaGreat
open Go.RowKit
set_option maxRecDepth 100000 in
set_option maxHeartbeats 2000000 in
theorem m_pass_atOnce {B : Nat} {b : Nat} (k k2 : ClkI) (t : Nat) (oa ob : ByteArray) (w : World) (h : ClkAt b k w) (hB : B ≤ b) (hj : k.jm = false) (ht : k.t = t) (ho : opOf k.cd = (oa, ob))
  (hi : (allSteps (nameSteps oa ob b) (kindL oa ob) b)[t]? = some (stepV 166 b))
  (hs : ∀ w', ClkAt b { k with on := oa, om := ob, kd := kindL oa ob, t := (t : Int) + 1 } w' → Calls Tryz.prog 166 #[.pointer (some ⟨b, 0, none⟩)] w' (Did B b w' k2 (.tuple #[]))) : Calls Tryz.prog 62 #[.pointer (some ⟨b, 0, none⟩)] w (Did B b w k2 (.tuple #[])) := by
 unfold Did
 have HO := fun w => impl_opOf k.cd w
 rw [ho] at HO
 have HK := fun w => impl_kindListed oa ob w
 have hkd : kindL oa ob = 0 ∨ kindL oa ob = 1 ∨ kindL oa ob = 2 ∨ kindL oa ob = 3 := by unfold kindL; repeat' split <;> omega
 have hok := allSteps_ok (nameSteps_ok oa ob b) (kindL oa ob) b
 have HX := index_step t hok hi
 have ht23 : (t : Int) ≤ 22 := by have := (Array.getElem?_eq_some_iff.1 hi).1; have := hok.1; omega
 have ht0 : (0 : Int) ≤ (t : Int) := by omega
 have HST := fun (w : World) (h : ClkAt b { k with on := oa, om := ob, kd := kindL oa ob } w) => m_steps _ w h hkd
 simp only [] at HST
 unfold opV at HK
 generalize allSteps (nameSteps oa ob b) (kindL oa ob) b = AR at *
 generalize kindL oa ob = kd at *
 clear hi hok hkd ho
 have HNF : ∀ W : World, (binOp .eql 1 (.func (.func 166) #[.pointer (some ⟨b, 0, none⟩)] #[]) .nilFunc).run Tryz.prog W = .ok (.bool false) W := fun W => by first | kernel_rfl | simp [binOp, go_sem]
 replace HO := Lib.hid HO
 replace HK := Lib.hid HK
 replace HST := Lib.hid HST
 replace hs := Lib.hid hs
 unfold stepV at HX
 have Z := Lib.hid h
 clear h
 have fz := Z.out.free
 have Q := Lib.hid (Below.refl B w)
 have _ := hB
 have c_jm : w.cell? ⟨b, 14, none⟩ = some (.bool false) := by rw [Z.out.c_jm, hj]
 clear hj
 have c_cd : w.cell? ⟨b, 7, none⟩ = some (.int .i64 (k.cd)) := Z.out.c_cd
 have c_on : w.cell? ⟨b, 20, none⟩ = some (.string (k.on)) := Z.out.c_on
 have c_om : w.cell? ⟨b, 21, none⟩ = some (.string (k.om)) := Z.out.c_om
 go_enter Tryz.func62, Tryz.ntmps62
 go_wp2_with (go_at_call 90; refine (HO.out _).mono ?_; rintro e w1 ⟨rfl, hb⟩; refine Hid.out ?_)
 have Q := Lib.hid (below_mono Q.out hb (Nat.le_trans hB (Nat.le_of_lt Z.out.lt)))
 have Z : Hid (ClkAt b (k) w1) := Lib.hid (Z.out.below hb)
 clear hb
 clear fz c_jm c_cd c_on c_om
 have fz := Z.out.free
 have c_kd : w1.cell? ⟨b, 22, none⟩ = some (.int .i64 (k.kd)) := Z.out.c_kd
 have c_on : w1.cell? ⟨b, 20, none⟩ = some (.string (k.on)) := Z.out.c_on
 have c_om : w1.cell? ⟨b, 21, none⟩ = some (.string (k.om)) := Z.out.c_om
 refine Lib.hid ?_
 go_wp2_with (go_at_call 91; refine (HK.out _).mono ?_; rintro e w2 ⟨rfl, hb⟩; refine Hid.out ?_)
 have Q := Lib.hid (below_mono (below_put (i := 21) (v := .string (ob)) (below_put (i := 20) (v := .string (oa)) Q.out hB) hB) hb (Nat.le_trans hB (Nat.le_of_lt ((Z.out.s_on oa).s_om ob).lt)))
 have Z : Hid (ClkAt b ({ k with on := oa, om := ob }) w2) := Lib.hid (((Z.out.s_on oa).s_om ob).below hb)
 clear hb
 clear fz c_kd c_on c_om
 have fz := Z.out.free
 have c_kd : w2.cell? ⟨b, 22, none⟩ = some (.int .i64 (k.kd)) := Z.out.c_kd
 have c_t : w2.cell? ⟨b, 8, none⟩ = some (.int .i64 (k.t)) := Z.out.c_t
 refine Lib.hid ?_
 rw [ht] at c_t
 go_wp2_with (fail)
 go_region_held3 (fun w' => w'.cell? ⟨b, 8, none⟩ = some (.int .i64 (t : Int))) (first | with_reducible exact z9 | (with_reducible refine (cell_drew _ _).trans ?_; with_reducible refine far_step ?_ ?_; exact c_t) | exact (by have := ((Z.out.s_kd kd)).drew.c_t; rw [ht] at this; exact this) | go_keep) (first | (go_at_call 92; refine (HST.out _ ((Z.out.s_kd kd)).drew).mono ?_; rintro e w9 ⟨rfl, hb⟩; have Z9 := ((Z.out.s_kd kd)).drew.below hb; have z9 := Z9.c_t; rw [ht] at z9))
 have Q := Lib.hid (below_mono ((below_put (i := 22) (v := .int .i64 (kd)) Q.out hB).trans (below_drew1 B _)) hb (Nat.le_trans hB (Nat.le_of_lt ((Z.out.s_kd kd)).drew.lt)))
 have Z : Hid (ClkAt b ({ k with on := oa, om := ob, kd := kd }) w9) := Lib.hid Z9
 clear Z9 hb z9 fz c_t c_kd
 have fz := Z.out.free
 have c_t := Z.out.c_t
 rw [ht] at c_t
 go_wp2_with (first | (go_at_call 166; refine (hs.out _ (Z.out.s_t ((t : Int) + 1))).mono ?_; rintro e w9 ⟨rfl, Z1, Q1⟩))
 go_end0
 exact ⟨rfl, Z1, (below_put (i := 8) (v := .int .i64 (((t : Int) + 1))) Q.out hB).trans Q1⟩
end Go.Proofs.YthklebkpoccblaaGreat
namespace Go.Proofs.YthklebkpoccblaaGreat
open Go.RowKit
theorem nop_op : opOf 234 = (⟨#[78, 79, 80]⟩, ⟨#[105, 109, 112]⟩) := by decide +kernel
theorem nop_all (b : Nat) : allSteps (nameSteps ⟨#[78, 79, 80]⟩ ⟨#[105, 109, 112]⟩ b) (kindL ⟨#[78, 79, 80]⟩ ⟨#[105, 109, 112]⟩) b = (st_atOnce b).setIfInBounds 0 (stepV 118 b) := by
 rw [show kindL ⟨#[78, 79, 80]⟩ ⟨#[105, 109, 112]⟩ = 3 from by decide +kernel]
 rfl
set_option maxRecDepth 100000 in
set_option maxHeartbeats 2000000 in
theorem want_5n (a : Int) (x : Int) (y : Int) (s : Int) (p : Int) (pc : Int) (sq : Int) (lo : Int) (hi : Int) (vl : Int) (cr : Bool) (nx : Int) (nm ed iq : Bool) (hr : ¬ sq = 3) (he : ed = false) (H : Bds a x y s p pc sq 0 5 lo hi vl nx) (w : World) : Calls Tryz.prog 16 #[coreV a x y s p pc sq 0 5 lo hi vl cr nx false, wiresV nm ed iq] w fun e w' => e = .returned (.agg #[.int .i64 (65534), .int .i64 (0), .bool (false)]) ∧ Below w.heap.size w w' := by
 refine (want_ok a x y s p pc sq 0 5 lo hi vl cr nx false nm ed iq _ H.ok (fun b w' h => m_pass_lead _ _ 5 _ _ w' h (Nat.le_refl b) rfl rfl (brk_op) (by rw [brk_all]; rfl) (fun w'' h' => m_lead_n _ w'' h' (Nat.le_refl b) hr he)) w).mono ?_
 rintro e w' ⟨rfl, hb⟩
 exact ⟨rfl, hb⟩
set_option maxRecDepth 100000 in
set_option maxHeartbeats 2000000 in
theorem fed_5n (a : Int) (x : Int) (y : Int) (s : Int) (p : Int) (pc : Int) (sq : Int) (lo : Int) (hi : Int) (vl : Int) (cr : Bool) (nx : Int) (data : Int) (nm ed iq : Bool) (hr : ¬ sq = 3) (he : ed = false) (H : Bds a x y s p pc sq 0 5 lo hi vl nx) (w : World) : Calls Tryz.prog 10 #[coreV a x y s p pc sq 0 5 lo hi vl cr nx false, .int .i64 data, wiresV nm ed iq] w fun e w' => e = .returned (.tuple #[coreV a x y s (wI p 4 true) pc sq 0 (6) (data % 256) hi (254) cr nx false, wiresV nm (ed) iq]) ∧ Below w.heap.size w w' := by
 refine (fed_ok a x y s p pc sq 0 5 lo hi vl cr nx false data nm ed iq _ H.ok (fun b w' h => m_pass_lead _ _ 5 _ _ w' h (Nat.le_refl b) rfl rfl (brk_op) (by rw [brk_all]; rfl) (fun w'' h' => m_lead_n _ w'' h' (Nat.le_refl b) hr he)) w).mono ?_
 rintro e w' ⟨rfl, hb⟩
 exact ⟨rfl, hb⟩
set_option maxRecDepth 100000 in
set_option maxHeartbeats 2000000 in
theorem want_0n (a : Int) (x : Int) (y : Int) (s : Int) (p : Int) (pc : Int) (sq : Int) (cd : Int) (lo : Int) (hi : Int) (vl : Int) (cr : Bool) (nx : Int) (nm ed iq : Bool) (hn : nx = 0) (H : Bds a x y s p pc sq cd 0 lo hi vl nx) (w : World) : Calls Tryz.prog 16 #[coreV a x y s p pc sq cd 0 lo hi vl cr nx false, wiresV nm ed iq] w fun e w' => e = .returned (.agg #[.int .i64 (pc), .int .i64 (0), .bool (false)]) ∧ Below w.heap.size w w' := by
 refine (want_ok a x y s p pc sq cd 0 lo hi vl cr nx false nm ed iq _ H.ok (fun b w' h => m_pass_fetch _ _ 0 _ _ w' h (Nat.le_refl b) rfl rfl (rfl) (fetch_all _ _ _ b) (fun w'' h' => m_fetch_n _ w'' h' (Nat.le_refl b) hn)) w).mono ?_
 rintro e w' ⟨rfl, hb⟩
 exact ⟨rfl, hb⟩
set_option maxRecDepth 100000 in
set_option maxHeartbeats 2000000 in
theorem fed_0n (a : Int) (x : Int) (y : Int) (s : Int) (p : Int) (pc : Int) (sq : Int) (cd : Int) (lo : Int) (hi : Int) (vl : Int) (cr : Bool) (nx : Int) (data : Int) (nm ed iq : Bool) (hn : nx = 0) (H : Bds a x y s p pc sq cd 0 lo hi vl nx) (w : World) : Calls Tryz.prog 10 #[coreV a x y s p pc sq cd 0 lo hi vl cr nx false, .int .i64 data, wiresV nm ed iq] w fun e w' => e = .returned (.tuple #[coreV a x y s p ((pc + 1) % 65536) (0) (data % 256) (1) lo hi vl cr (0) ((opOf (data % 256)).1.toList == [74, 65, 77]), wiresV nm (ed) iq]) ∧ Below w.heap.size w w' := by
 refine (fed_ok a x y s p pc sq cd 0 lo hi vl cr nx false data nm ed iq _ H.ok (fun b w' h => m_pass_fetch _ _ 0 _ _ w' h (Nat.le_refl b) rfl rfl (rfl) (fetch_all _ _ _ b) (fun w'' h' => m_fetch_n _ w'' h' (Nat.le_refl b) hn)) w).mono ?_
 rintro e w' ⟨rfl, hb⟩
 exact ⟨rfl, hb⟩
theorem nop_regs (r : RegI) (v : Int) : (applyI r ⟨#[78, 79, 80]⟩ v).1 = r := by
 cases r
 rfl
set_option maxRecDepth 100000 in
set_option maxHeartbeats 2000000 in
theorem fed_nop (a : Int) (x : Int) (y : Int) (s : Int) (p : Int) (pc : Int) (sq : Int) (lo : Int) (hi : Int) (vl : Int) (cr : Bool) (nx : Int) (data : Int) (nm ed iq : Bool) (H : Bds a x y s p pc sq 234 1 lo hi vl nx) (w : World) : Calls Tryz.prog 10 #[coreV a x y s p pc sq 234 1 lo hi vl cr nx false, .int .i64 data, wiresV nm ed iq] w fun e w' => e = .returned (.tuple #[coreV a x y s p pc sq 234 (0) lo hi vl cr (takeN ed iq p) false, wiresV nm (ed) iq]) ∧ Below w.heap.size w w' := by
 refine (fed_ok a x y s p pc sq 234 1 lo hi vl cr nx false data nm ed iq _ H.ok (fun b w' h => m_pass_atOnce _ _ 1 _ _ w' h (Nat.le_refl b) rfl rfl (nop_op) (by rw [nop_all]; rfl) (fun w'' h' => m_atOnce_i _ w'' h' (Nat.le_refl b) (show ¬ (⟨#[105, 109, 112]⟩ : ByteArray) = ⟨#[97, 99, 99]⟩ from by decide))) w).mono ?_
 rintro e w' ⟨rfl, hb⟩
 refine ⟨?_, hb⟩
 simp only [clkOf, ClkI.regs, nop_regs]
 rfl
end Go.Proofs.YthklebkpoccblaaGreat
namespace Go.Proofs.YthklebkpoccblaaGreat
open Go.RowKit
section
variable {ops : Array Oper} {rest : List Oper} {o : Oper} {a : Act} {w : World} {Q : Exit → Act → World → Prop}
theorem stx_t (hgd : o.guard = none) (hds : o.dst = none) (x y : Operand) (ho : o.op = .store 3 x y) (b : Nat) (hx : a.eval x = .pointer (some ⟨b, 8, none⟩)) (v : Int) (hy : a.eval y = .int .i64 v) {k : CorI} (hg : CorAt b k w) (h : wpList Tryz.prog ops Q rest a (w.setRow b (corC { k with t := v }))) : wpList Tryz.prog ops Q (o :: rest) a w :=
 store_cell hgd 3 x y ho b 8 hx _ hy (by kernel_rfl) rfl hg rfl (corC { k with t := v }) rfl (by rw [hds]; exact h)
theorem stx_jm (hgd : o.guard = none) (hds : o.dst = none) (x y : Operand) (ho : o.op = .store 4 x y) (b : Nat) (hx : a.eval x = .pointer (some ⟨b, 14, none⟩)) (v : Bool) (hy : a.eval y = .bool v) {k : CorI} (hg : CorAt b k w) (h : wpList Tryz.prog ops Q rest a (w.setRow b (corC { k with jm := v }))) : wpList Tryz.prog ops Q (o :: rest) a w :=
 store_cell hgd 4 x y ho b 14 hx _ hy (by kernel_rfl) rfl hg rfl (corC { k with jm := v }) rfl (by rw [hds]; exact h)
theorem stx_nx (hgd : o.guard = none) (hds : o.dst = none) (x y : Operand) (ho : o.op = .store 3 x y) (b : Nat) (hx : a.eval x = .pointer (some ⟨b, 13, none⟩)) (v : Int) (hy : a.eval y = .int .i64 v) {k : CorI} (hg : CorAt b k w) (h : wpList Tryz.prog ops Q rest a (w.setRow b (corC { k with nx := v }))) : wpList Tryz.prog ops Q (o :: rest) a w :=
 store_cell hgd 3 x y ho b 13 hx _ hy (by kernel_rfl) rfl hg rfl (corC { k with nx := v }) rfl (by rw [hds]; exact h)
theorem stx_p (hgd : o.guard = none) (hds : o.dst = none) (x y : Operand) (ho : o.op = .store 3 x y) (b : Nat) (hx : a.eval x = .pointer (some ⟨b, 4, none⟩)) (v : Int) (hy : a.eval y = .int .i64 v) {k : CorI} (hg : CorAt b k w) (h : wpList Tryz.prog ops Q rest a (w.setRow b (corC { k with p := v }))) : wpList Tryz.prog ops Q (o :: rest) a w :=
 store_cell hgd 3 x y ho b 4 hx _ hy (by kernel_rfl) rfl hg rfl (corC { k with p := v }) rfl (by rw [hds]; exact h)
end
def hkW : Nat → Bool
 | 2 => true
 | 3 => true
 | 4 => true
 | _ => false
end Go.Proofs.YthklebkpoccblaaGreat
namespace Go.Proofs.YthklebkpoccblaaGreat
open Go.RowKit
def mk0 (k : CorI) : CorI := { k with t := 0, nx := 0, jm := false }
def mk1 (k : CorI) : CorI := { k with pc := (k.pc + 1) % 65536, sq := 0, cd := 234, t := 1, nx := 0, jm := false }
def mk2 (k : CorI) (x : Int) : CorI := { k with pc := (k.pc + 1) % 65536, sq := 0, cd := 234, t := 0, nx := x, jm := false }
def mkC (k : CorI) : Nat → CorI
 | 0 => mk2 k 1
 | 1 => { k with pc := (k.pc + 1) % 65536, sq := 1, cd := 0, t := 1, nx := 0, jm := false }
 | 2 => { k with pc := (k.pc + 1) % 65536, sq := 1, cd := 0, t := 2, nx := 0, jm := false }
 | 3 => { k with pc := (k.pc + 1) % 65536, s := (k.s - 1) % 256, sq := 1, cd := 0, t := 3, nx := 0, jm := false }
 | 4 => { k with pc := (k.pc + 1) % 65536, s := ((k.s - 1) % 256 - 1) % 256, sq := 1, cd := 0, t := 4, nx := 0, jm := false }
 | 5 => { k with pc := (k.pc + 1) % 65536, s := (((k.s - 1) % 256 - 1) % 256 - 1) % 256, sq := 1, cd := 0, t := 5, nx := 0, jm := false }
 | 6 => { k with pc := (k.pc + 1) % 65536, s := (((k.s - 1) % 256 - 1) % 256 - 1) % 256, p := wI k.p 4 true, sq := 1, cd := 0, t := 6, lo := 0 % 256, vl := 254, nx := 0, jm := false }
 | _ => { k with pc := 0 % 256 * 256 + 0 % 256, s := (((k.s - 1) % 256 - 1) % 256 - 1) % 256, p := wI k.p 4 true, sq := 1, cd := 0, t := 0, lo := 0 % 256, vl := 254, nx := takeN false true (wI k.p 4 true), jm := false }
def mkA (k : CorI) : Nat → Int
 | 0 => (k.pc + 1) % 65536
 | 1 => (k.pc + 1) % 65536
 | 2 => 256 + k.s
 | 3 => 256 + (k.s - 1) % 256
 | 4 => 256 + ((k.s - 1) % 256 - 1) % 256
 | 5 => 65534
 | _ => 65280 + (254 + 1) % 256
def mkD (k : CorI) : Nat → Int
 | 2 => (k.pc + 1) % 65536 / 256
 | 3 => (k.pc + 1) % 65536 % 256
 | 4 => pushI k.p false
 | _ => 0
def mkP (k : CorI) : Nat → List Value
 | 0 => []
 | 1 => []
 | 2 => []
 | 3 => [.int .i64 ((k.pc + 1) % 65536 / 256)]
 | 4 => [.int .i64 ((k.pc + 1) % 65536 / 256), .int .i64 ((k.pc + 1) % 65536 % 256)]
 | _ => [.int .i64 ((k.pc + 1) % 65536 / 256), .int .i64 ((k.pc + 1) % 65536 % 256), .int .i64 (pushI k.p false)]
def mkN : Nat → Nat
 | 0 => 0
 | 1 => 0
 | 2 => 0
 | 3 => 1
 | 4 => 2
 | _ => 3
theorem mkP_same (k : CorI) (i : Nat) (h : hkW i = false) : mkP k (i + 1) = mkP k i ∧ mkN (i + 1) = mkN i := by
 match i with
 | 0 => exact ⟨rfl, rfl⟩
 | 1 => exact ⟨rfl, rfl⟩
 | 2 => exact absurd h (by decide)
 | 3 => exact absurd h (by decide)
 | 4 => exact absurd h (by decide)
 | n + 5 => exact ⟨rfl, rfl⟩
theorem mkP_more (k : CorI) (i : Nat) (h : hkW i = true) : mkP k i ++ [.int .i64 (mkD k i)] = mkP k (i + 1) ∧ mkN (i + 1) = mkN i + 1 := by
 match i with
 | 0 => exact absurd h (by decide)
 | 1 => exact absurd h (by decide)
 | 2 => exact ⟨rfl, rfl⟩
 | 3 => exact ⟨rfl, rfl⟩
 | 4 => exact ⟨rfl, rfl⟩
 | n + 5 => exact absurd h (by simp [hkW])
theorem mkN_le (i : Nat) : mkN i ≤ 3 := by
 match i with
 | 0 => decide
 | 1 => decide
 | 2 => decide
 | 3 => decide
 | 4 => decide
 | n + 5 => exact Nat.le_refl 3
theorem mk1_ok {k : CorI} (h : (mk0 k).Ok) : (mk1 k).Ok := by
 have n0 : (0:Int) ≤ 0 ∧ (0:Int) ≤ 3 := by decide
 have c0 : (0:Int) ≤ 234 ∧ (234:Int) ≤ 255 := by decide
 have p1 : 0 ≤ (k.pc + 1) % 65536 ∧ (k.pc + 1) % 65536 ≤ 65535 := by omega
 exact { h with hpc := p1, hsq := n0, hcd := c0, ht := rfl, hnx := n0 }
theorem mk2_ok {k : CorI} (h : (mk0 k).Ok) (x : Int) (hx : 0 ≤ x ∧ x ≤ 3) : (mk2 k x).Ok := by
 have n0 : (0:Int) ≤ 0 ∧ (0:Int) ≤ 3 := by decide
 have c0 : (0:Int) ≤ 234 ∧ (234:Int) ≤ 255 := by decide
 have p1 : 0 ≤ (k.pc + 1) % 65536 ∧ (k.pc + 1) % 65536 ≤ 65535 := by omega
 exact { h with hpc := p1, hsq := n0, hcd := c0, ht := rfl, hnx := hx }
theorem mkC_ok {k : CorI} (h : (mk0 k).Ok) (i : Nat) (hi : i < 7) : (mkC k i).Ok := by
 have e1 := wI_bd k.p 4 true
 have e2 := keptB_i k.p h.kp
 have s0 := h.hs
 have n0 : (0:Int) ≤ 0 ∧ (0:Int) ≤ 3 := by decide
 have n1 : (0:Int) ≤ 1 ∧ (1:Int) ≤ 3 := by decide
 have c0 : (0:Int) ≤ 0 ∧ (0:Int) ≤ 255 := by decide
 have v6 : (0:Int) ≤ 254 ∧ (254:Int) ≤ 255 := by decide
 have p1 : 0 ≤ (k.pc + 1) % 65536 ∧ (k.pc + 1) % 65536 ≤ 65535 := by omega
 have s3 : 0 ≤ (k.s - 1) % 256 ∧ (k.s - 1) % 256 ≤ 255 := by omega
 have s4 : 0 ≤ ((k.s - 1) % 256 - 1) % 256 ∧ ((k.s - 1) % 256 - 1) % 256 ≤ 255 := by omega
 have s5 : 0 ≤ (((k.s - 1) % 256 - 1) % 256 - 1) % 256 ∧ (((k.s - 1) % 256 - 1) % 256 - 1) % 256 ≤ 255 := by omega
 have p6 : 0 ≤ wI k.p 4 true ∧ wI k.p 4 true ≤ 255 := by omega
 match i, hi with
 | 0, _ => exact mk2_ok h 1 n1
 | 1, _ => exact { h with hpc := p1, hsq := n1, hcd := c0, ht := rfl, hnx := n0 }
 | 2, _ => exact { h with hpc := p1, hsq := n1, hcd := c0, ht := rfl, hnx := n0 }
 | 3, _ => exact { h with hpc := p1, hs := s3, hsq := n1, hcd := c0, ht := rfl, hnx := n0 }
 | 4, _ => exact { h with hpc := p1, hs := s4, hsq := n1, hcd := c0, ht := rfl, hnx := n0 }
 | 5, _ => exact { h with hpc := p1, hs := s5, hsq := n1, hcd := c0, ht := rfl, hnx := n0 }
 | 6, _ => exact { h with hpc := p1, hs := s5, hp := p6, kp := e2, hsq := n1, hcd := c0, hlo := c0, hvl := v6, ht := rfl, hnx := n0 }
theorem no_jam_nop : ((opOf ((234 : Int) % 256)).1.toList == [74, 65, 77]) = false := by decide +kernel
set_option maxRecDepth 100000 in
theorem mk_fed0 {k : CorI} (h : (mk0 k).Ok) (w : World) : Calls Tryz.prog 10 #[.agg (corC (mk0 k)), .int .i64 234, .agg #[.bool false, .bool false, .bool true]] w fun e w' => e = .returned (.tuple #[.agg (corC (mk1 k)), .agg #[.bool false, .bool false, .bool true]]) ∧ Below w.heap.size w w' := by
 have q := fed_0n (mk0 k).a (mk0 k).x (mk0 k).y (mk0 k).s (mk0 k).p (mk0 k).pc (mk0 k).sq (mk0 k).cd (mk0 k).lo (mk0 k).hi (mk0 k).vl (mk0 k).cr (mk0 k).nx 234 false false true rfl h w
 rw [no_jam_nop] at q
 exact q
set_option maxRecDepth 100000 in
theorem mk_fed1 {k : CorI} (h : (mk0 k).Ok) (w : World) : Calls Tryz.prog 10 #[.agg (corC (mk1 k)), .int .i64 0, .agg #[.bool false, .bool false, .bool true]] w fun e w' => e = .returned (.tuple #[.agg (corC (mk2 k (takeN false true k.p))), .agg #[.bool false, .bool false, .bool true]]) ∧ Below w.heap.size w w' :=
 fed_nop _ _ _ _ _ _ _ _ _ _ _ _ _ _ _ _ (mk1_ok h) w
theorem mk_want2 {k : CorI} (h : (mk0 k).Ok) (w : World) : Calls Tryz.prog 16 #[.agg (corC (mk2 k 0)), .agg #[.bool false, .bool false, .bool true]] w fun e w' => e = .returned (.agg #[.int .i64 ((k.pc + 1) % 65536), .int .i64 0, .bool false]) ∧ Below w.heap.size w w' :=
 want_0n _ _ _ _ _ _ _ _ _ _ _ _ _ _ _ _ rfl (mk2_ok h 0 (by decide)) w
set_option maxRecDepth 100000 in
theorem mk_want {k : CorI} (h : (mk0 k).Ok) (i : Nat) (hi : i < 7) (w : World) : Calls Tryz.prog 16 #[.agg (corC (mkC k i)), .agg #[.bool false, .bool false, .bool true]] w fun e w' => e = .returned (.agg #[.int .i64 (mkA k i), .int .i64 (mkD k i), .bool (hkW i)]) ∧ Below w.heap.size w w' := by
 have H := mkC_ok h i hi
 match i, hi with
 | 0, _ => exact want_0s _ _ _ _ _ _ _ _ _ _ _ _ _ _ _ _ (show ¬ (1 : Int) = 0 by decide) H w
 | 1, _ => exact want_1 _ _ _ _ _ _ _ _ _ _ _ _ _ _ _ H w
 | 2, _ => exact want_2 _ _ _ _ _ _ _ _ _ _ _ _ _ _ _ H w
 | 3, _ => exact want_3 _ _ _ _ _ _ _ _ _ _ _ _ _ _ _ H w
 | 4, _ => exact want_4 _ _ _ _ _ _ _ _ _ _ _ _ _ _ _ H w
 | 5, _ => exact want_5n _ _ _ _ _ _ _ _ _ _ _ _ _ _ _ (show ¬ (1 : Int) = 3 by decide) rfl H w
 | 6, _ => exact want_6 _ _ _ _ _ _ _ _ _ _ _ _ _ _ _ H w
set_option maxRecDepth 100000 in
theorem mk_fed {k : CorI} (h : (mk0 k).Ok) (i : Nat) (hi : i < 7) (w : World) : Calls Tryz.prog 10 #[.agg (corC (mkC k i)), .int .i64 0, .agg #[.bool false, .bool false, .bool true]] w fun e w' => e = .returned (.tuple #[.agg (corC (mkC k (i + 1))), .agg #[.bool false, .bool false, .bool true]]) ∧ Below w.heap.size w w' := by
 have H := mkC_ok h i hi
 match i, hi with
 | 0, _ => exact fed_0s _ _ _ _ _ _ _ _ _ _ _ _ _ _ _ _ _ (show ¬ (1 : Int) = 0 by decide) H w
 | 1, _ => exact fed_1 _ _ _ _ _ _ _ _ _ _ _ _ _ _ _ _ H w
 | 2, _ => exact fed_2 _ _ _ _ _ _ _ _ _ _ _ _ _ _ _ _ H w
 | 3, _ => exact fed_3 _ _ _ _ _ _ _ _ _ _ _ _ _ _ _ _ H w
 | 4, _ => exact fed_4 _ _ _ _ _ _ _ _ _ _ _ _ _ _ _ _ H w
 | 5, _ => exact fed_5n _ _ _ _ _ _ _ _ _ _ _ _ _ _ _ _ (show ¬ (1 : Int) = 3 by decide) rfl H w
 | 6, _ => exact fed_6 _ _ _ _ _ _ _ _ _ _ _ _ _ _ _ _ H w
theorem own_blocks {w w' : World} {base : Nat} {e : TypeId} {size : Nat} {v : Value} {n : Nat} {xs : List Value} (h : w.ownsRow base e size v n xs) (hk : ∀ b, base ≤ b → b < w.heap.size → w'.heap[b]? = w.heap[b]?) : w'.ownsRow base e size v n xs :=
 ⟨h.1, h.2.elim .inl (fun ⟨g, cap, cur, e1, hb, hg, rest⟩ => .inr ⟨g, cap, cur, e1, hb, (hk g hb (Array.getElem?_eq_some_iff.1 hg).1).trans hg, rest⟩)⟩
theorem infoInt : (Tryz.prog.info? 3).map (fun i => (i.zero, i.size, i.bytes)) = some (some (.int .i64 0), 1, 8) := by kernel_rfl
theorem push_no (p : Int) : bits .and .i64 (pushI p false) 16 = 0 := by
 have hall : ∀ b : BitVec 8, ((w8 (w8 b 32 true) 16 false) &&& 16 != 0) = false := by decide +kernel
 have e := tst_i64 (pushI p false) 16 (by decide)
 have q : tst (pushI p false) 16 = false := by
  unfold tst pushI
  rw [wI_B8, wI_B8]
  exact hall (B8 p)
 rw [q] at e
 simpa using e
theorem keptB_kept (p : Int) : keptB (keptI p) = true := by
 have hall : ∀ b : BitVec 8, (w8 (w8 b 32 true) 16 false &&& 32 != 0 && !(w8 (w8 b 32 true) 16 false &&& 16 != 0)) = true := by decide +kernel
 unfold keptB tst keptI
 rw [wI_B8, wI_B8]
 exact hall (B8 p)
theorem keptI_bd (p : Int) : 0 ≤ keptI p ∧ keptI p ≤ 255 := by
 have := wI_bd (wI p 32 true) 16 false
 unfold keptI
 omega
end Go.Proofs.YthklebkpoccblaaGreat
