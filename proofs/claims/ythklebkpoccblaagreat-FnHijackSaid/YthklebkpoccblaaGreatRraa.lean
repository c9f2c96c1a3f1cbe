/-
  Texts put together by program: DrA, ChA, KpA, WiA, WiB, CkA, CkD, CkE, CkM, LrC.
  Conditions: as each theorem says.
-/
import Derived.Test.YthklebkpoccblaaGreatRqbx
namespace Go.Proofs.YthklebkpoccblaaGreat
open Go.RowKit
theorem rowB_mk {W : World} {a : Addr} {n : Nat} {zs : List Int} (hm : n ≤ maxLen) (hz : n ≤ zs.length) (hc : ∀ i, i < zs.length → W.cell? (a.add i) = some (.int .u8 (zs.getD i 0))) (hw : ∀ z ∈ zs, (Lit.int .u8 z).wf = true) : RowB W (some a) n := by
 refine ⟨hm, ?_⟩
 rcases Nat.eq_zero_or_pos n with h0 | h0
 ·exact .inl h0
 ·right
  obtain ⟨b, off, rfl, hcc⟩ := ints_at hc (by omega)
  refine ⟨b, off, rfl, World.block_lt_of_cell? _ _ (hcc 0 (by omega)), fun i hi => ⟨zs.getD i 0, ?_, ?_, hcc i (by omega)⟩⟩
  ·have := (range_u8 hw i).1
   simpa [List.getD] using this
  ·have := (range_u8 hw i).2
   simpa [List.getD] using this
end Go.Proofs.YthklebkpoccblaaGreat
namespace Go.Proofs.YthklebkpoccblaaGreat
structure ChipI where
 c1 : Int
 l1 : Int
 v1 : Bool
 ag : Bool
 c2 : Int
 o2 : Int
 v2 : Bool
 pt : Int
 dr : Int
 fl : Int
 ms : Int
def isF (n : Int) : Bool := decide (n = 0 ∨ n = 32 ∨ n = 64 ∨ n = 96)
structure ChipI.right (c : ChipI) : Prop where
 c1 : 0 ≤ c.c1 ∧ c.c1 ≤ 65535
 l1 : 0 ≤ c.l1 ∧ c.l1 ≤ 65535
 c2 : 0 ≤ c.c2 ∧ c.c2 ≤ 65535
 o2 : 0 ≤ c.o2 ∧ c.o2 ≤ 255
 pt : 0 ≤ c.pt ∧ c.pt ≤ 255
 dr : 0 ≤ c.dr ∧ c.dr ≤ 255
 fl : isF c.fl = true
 ms : isF c.ms = true
end Go.Proofs.YthklebkpoccblaaGreat
namespace Go.Proofs.YthklebkpoccblaaGreat
structure KeepI where
 ws : Int
 bu : Int
 wl : Int
 bl : Int
 ad : Int
 lf : Int
 sm : Int
structure KeepI.right (k : KeepI) : Prop where
 ws : 0 ≤ k.ws ∧ k.ws ≤ 8
 bu : 0 ≤ k.bu ∧ k.bu ≤ 8
 wl : 0 ≤ k.wl ∧ k.wl ≤ k.ws
 bl : 0 ≤ k.bl ∧ k.bl ≤ k.bu
 ad : 0 ≤ k.ad ∧ k.ad ≤ 65535
 lf : 0 ≤ k.lf ∧ k.lf ≤ 255
 sm : 0 ≤ k.sm ∧ k.sm ≤ 255
end Go.Proofs.YthklebkpoccblaaGreat
namespace Go.Proofs.YthklebkpoccblaaGreat
open Go.RowKit
def senseE (n e nmi : Bool) : Bool := e || (nmi && !n)
theorem impl_taken (n e i : Bool) (w : World) : Calls Tryz.prog 14 #[wiresV n e i] w fun er w' => er = .returned (wiresV n false i) ∧ Below w.heap.size w w' := by
 rw [wiresV_mk]
 go_enter Tryz.func14, Tryz.ntmps14
 go_wp2
 exact bodyPost_ret (v := wiresV n false i) (by simp [results, Tryz.results14, go_sem, wiresV_mk]) rfl ⟨rfl, below_alloc (below_alloc (Below.refl _ _) _) _⟩
end Go.Proofs.YthklebkpoccblaaGreat
namespace Go.Proofs.YthklebkpoccblaaGreat
open Go.RowKit Go.Conc
def fallBuf (q : Bool) : Array Value := if q then #[.agg #[]] else #[]
theorem mk_falls (w : World) : (Instr.makeChan 73 (.int .i64 1)).run Tryz.prog w = .ok (.chan (some w.heap.size)) (w.alloc (.chan 1 #[] false 0 0 false)) := by
 have h : (Tryz.prog.info? 101).map (·.bytes) = some 0 := by kernel_rfl
 obtain ⟨i, hi, hb⟩ := Option.map_eq_some_iff.1 h
 simpa using run_makeChan (P := Tryz.prog) (w := w) Tryz.underlying73 hi .i64 1 (by omega) (by rw [hb]; omega)
theorem note_room {c s r : Nat} {w : World} (h : ChanAt w c 1 #[] s r) : Calls Tryz.prog 51 #[.chan (some c)] w fun e w' => e = .returned (.tuple #[]) ∧ w' = w.setChan c 1 #[.agg #[]] false (s + 1) r false := by
 have H := Lib.hid h
 clear h
 go_enter Tryz.func51, Tryz.ntmps51
 refine seq_stop (fun K hK => ?_)
 go_wp2
 refine hK.out _ _ ?_
 refine wp_seq ?_
 refine comm_first (cases := #[scase c (.agg #[]) (.agg #[])]) (blocking := false) (shape := .select) (w₁ := w) (by rfl) (by simp [go_sem, execOp, scase, Act.eval]) (fun fr cs es h => step_lone_select_send_room h H.out (by simp)) ?_
 simp only [Act.put, List.setIfInBounds_toArray, List.set_cons_succ, List.set_cons_zero]
 go_wp2
 go_end0
 exact ⟨rfl, rfl⟩
theorem note_full {c s r : Nat} {w : World} (h : ChanAt w c 1 #[.agg #[]] s r) : Calls Tryz.prog 51 #[.chan (some c)] w fun e w' => e = .returned (.tuple #[]) ∧ w' = w := by
 have H := Lib.hid h
 clear h
 go_enter Tryz.func51, Tryz.ntmps51
 refine seq_stop (fun K hK => ?_)
 go_wp2
 refine hK.out _ _ ?_
 refine wp_seq ?_
 refine comm_first (cases := #[scase c (.agg #[]) (.agg #[])]) (blocking := false) (shape := .select) (w₁ := w) (by rfl) (by simp [go_sem, execOp, scase, Act.eval]) (fun fr cs es h => step_lone_select_send_full h H.out (by simp)) ?_
 simp only [Act.put, List.setIfInBounds_toArray, List.set_cons_succ, List.set_cons_zero]
 go_wp2
 go_end0
 exact ⟨rfl, rfl⟩
theorem take_one {c s r : Nat} {w : World} (h : ChanAt w c 1 #[.agg #[]] s r) : Calls Tryz.prog 52 #[.chan (some c)] w fun e w' => e = .returned (.bool true) ∧ w' = w.setChan c 1 #[] false s (r + 1) false := by
 have H := Lib.hid h
 clear h
 go_enter Tryz.func52, Tryz.ntmps52
 refine seq_stop (fun K hK => ?_)
 go_wp2
 refine hK.out _ _ ?_
 clear hK
 refine seq_stop (fun K hK => ?_)
 go_wp2
 refine hK.out _ _ ?_
 refine wp_seq ?_
 refine comm_first (cases := #[rcase c (.agg #[])]) (blocking := false) (shape := .select) (w₁ := w) (by rfl) (by simp [go_sem, execOp, rcase, Act.eval]) (fun fr cs es h => step_lone_select_recv_buf h H.out (by simp)) ?_
 simp only [Act.put, List.setIfInBounds_toArray, List.set_cons_succ, List.set_cons_zero]
 go_wp2
 go_ret
 exact ⟨rfl, rfl⟩
theorem take_none {c s r : Nat} {w : World} (h : ChanAt w c 1 #[] s r) : Calls Tryz.prog 52 #[.chan (some c)] w fun e w' => e = .returned (.bool false) ∧ w' = w := by
 have H := Lib.hid h
 clear h
 go_enter Tryz.func52, Tryz.ntmps52
 refine seq_stop (fun K hK => ?_)
 go_wp2
 refine hK.out _ _ ?_
 clear hK
 refine seq_stop (fun K hK => ?_)
 go_wp2
 refine hK.out _ _ ?_
 refine wp_seq ?_
 refine comm_first (cases := #[rcase c (.agg #[])]) (blocking := false) (shape := .select) (w₁ := w) (by rfl) (by simp [go_sem, execOp, rcase, Act.eval]) (fun fr cs es h => step_lone_select_default h H.out) ?_
 simp only [Act.put, List.setIfInBounds_toArray, List.set_cons_succ, List.set_cons_zero]
 go_wp2
 go_ret
 exact ⟨rfl, rfl⟩
def FallsAt (W : World) (e : Bool) (v : Value) (w : World) : Prop := ∃ c s r, v = .chan (some c) ∧ W.heap.size ≤ c ∧ ChanAt w c 1 (fallBuf e) s r ∧ Below W.heap.size W w
theorem falls_of (n e i : Bool) (w : World) : Calls Tryz.prog 50 #[wiresV n e i] w fun er w' => ∃ v, er = .returned v ∧ FallsAt w e v w' := by
 have hm := mk_falls
 rw [wiresV_mk]
 have HC := Lib.hid (chan_new2 w (.cells #[.bool n, .bool e, .bool i] 29) 1)
 cases e
 ·go_enter Tryz.func50, Tryz.ntmps50
  go_wp2
  go_ret
  exact ⟨_, rfl, _, _, _, rfl, Nat.le_succ _, HC.out, below_alloc (below_alloc (Below.refl _ _) _) _⟩
 ·have HN := Lib.hid (note_room HC.out)
  go_enter Tryz.func50, Tryz.ntmps50
  go_wp2_with (go_at_call 51; refine HN.out.mono ?_; rintro e w1 ⟨rfl, rfl⟩)
  go_ret
  exact ⟨_, rfl, _, _, _, rfl, Nat.le_succ _, HC.out.set 1 #[.agg #[]] 1 0, below_chan (below_alloc (below_alloc (Below.refl _ _) _) _) (Nat.le_succ _) _ _ _ _⟩
theorem note_any {e : Bool} {c s r : Nat} {w : World} (h : ChanAt w c 1 (fallBuf e) s r) : Calls Tryz.prog 51 #[.chan (some c)] w fun er w' => er = .returned (.tuple #[]) ∧ (∃ s', ChanAt w' c 1 (fallBuf true) s' r) ∧ Below c w w' := by
 cases e
 ·refine (note_room h).mono ?_
  rintro e w1 ⟨rfl, rfl⟩
  exact ⟨rfl, ⟨_, h.set 1 #[.agg #[]] (s + 1) r⟩, below_chan (Below.refl _ _) (Nat.le_refl _) _ _ _ _⟩
 ·refine (note_full h).mono ?_
  rintro e w1 ⟨rfl, rfl⟩
  exact ⟨rfl, ⟨_, h⟩, Below.refl _ _⟩
theorem take_any {e : Bool} {c s r : Nat} {w : World} (h : ChanAt w c 1 (fallBuf e) s r) : Calls Tryz.prog 52 #[.chan (some c)] w fun er w' => er = .returned (.bool e) ∧ Below c w w' := by
 cases e
 ·refine (take_none h).mono ?_
  rintro e w1 ⟨rfl, rfl⟩
  exact ⟨rfl, Below.refl _ _⟩
 ·refine (take_one h).mono ?_
  rintro e w1 ⟨rfl, rfl⟩
  exact ⟨rfl, below_chan (Below.refl _ _) (Nat.le_refl _) _ _ _ _⟩
theorem blk_keep {w w' : World} {b c : Nat} {x : Obj} (h : w.heap[b]? = some x) (hb : Below c w w') (hc : b < c) : w'.heap[b]? = some x := (hb.block b hc).trans h
theorem impl_sense (n e i nmi irq : Bool) (w : World) : Calls Tryz.prog 25 #[wiresV n e i, .bool nmi, .bool irq] w fun er w' => er = .returned (wiresV nmi (senseE n e nmi) irq) ∧ Below w.heap.size w w' := by
 have hi := Lib.hid wires_size
 have HF := Lib.hid (falls_of n e i)
 rw [wiresV_mk] at HF ⊢
 have k0 := blk_old (o := .cells #[.bool false, .bool false, .bool false] 29) (blk_new w (.cells #[.bool n, .bool e, .bool i] 29))
 have k1 := blk_new2 w (.cells #[.bool n, .bool e, .bool i] 29) (.cells #[.bool false, .bool false, .bool false] 29)
 have B := below_alloc (below_alloc (Below.refl w.heap.size w) (.cells #[.bool n, .bool e, .bool i] 29)) (.cells #[.bool false, .bool false, .bool false] 29)
 have K0 := Lib.hid k0
 have K1 := Lib.hid k1
 have KB := Lib.hid B
 clear k0 k1 B
 cases nmi <;> cases n
 all_goals
  go_enter Tryz.func25, Tryz.ntmps25
  go_wp2_with (go_at_call 50; refine (HF.out _).mono ?_; rintro e1 w1 ⟨v, rfl, c, s, r, rfl, hc, hch, hb⟩; refine Hid.out ?_)
  have J0 := Lib.hid (blk_below K0.out hb)
  have J1 := Lib.hid (blk_below K1.out hb)
  have hcB : w.heap.size + 2 ≤ c := by rw [alloc_size, alloc_size] at hc; omega
  have JB := Lib.hid (KB.out.trans (hb.mono (by rw [alloc_size, alloc_size]; omega)))
  have HN := Lib.hid (note_any hch)
  have HT := Lib.hid (take_any hch)
  have c0 := cell_of_blk (i := 0) J0.out rfl
  clear K0 K1 KB hb hch hc HF
  refine Lib.hid ?_
 rotate_left 2
 ·go_wp2_with (go_at_call 51; refine HN.out.mono ?_; rintro e2 w2 ⟨rfl, ⟨s', hch⟩, hb2⟩; refine Hid.out ?_)
  have L1 := Lib.hid (blk_keep J1.out hb2 (by omega))
  have LB := Lib.hid (JB.out.trans (hb2.mono (by omega)))
  have HT := Lib.hid (take_any hch)
  clear J0 J1 JB HN hb2 hch c0
  refine Lib.hid ?_
  go_wp2_with (go_at_call 52; refine HT.out.mono ?_; rintro e3 w3 ⟨rfl, hb3⟩; refine Hid.out ?_)
  have M1 := Lib.hid (blk_keep L1.out hb3 (by omega))
  have MB := Lib.hid (LB.out.trans (hb3.mono (by omega)))
  refine Lib.hid ?_
  go_wp2_with (refine store_row rfl 29 (.tmp 6) (.tmp 22) rfl (w.heap.size + 1) _ rfl rfl 3 hi.out M1.out rfl rfl rfl ?_)
  exact row_post rfl rfl Tryz.underlying29 rfl hi.out rfl rfl M1.out ⟨by simp [wiresV_mk, senseE], below_row MB.out (by omega)⟩
 all_goals
  go_wp2_with (go_at_call 52; refine HT.out.mono ?_; rintro e3 w3 ⟨rfl, hb3⟩; refine Hid.out ?_)
  have M1 := Lib.hid (blk_keep J1.out hb3 (by omega))
  have MB := Lib.hid (JB.out.trans (hb3.mono (by omega)))
  refine Lib.hid ?_
  go_wp2_with (refine store_row rfl 29 (.tmp 6) (.tmp 22) rfl (w.heap.size + 1) _ rfl rfl 3 hi.out M1.out rfl rfl rfl ?_)
  exact row_post rfl rfl Tryz.underlying29 rfl hi.out rfl rfl M1.out ⟨by simp [wiresV_mk, senseE], below_row MB.out (by omega)⟩
end Go.Proofs.YthklebkpoccblaaGreat
namespace Go.Proofs.YthklebkpoccblaaGreat
open Go.RowKit
theorem ClkAt.s_nm {b : Nat} {k : ClkI} {w : World} (h : ClkAt b k w) (v : Bool) : ClkAt b { k with nm := v } (w.setCell ⟨b, 15, none⟩ (.bool v)) := row_set h
theorem ClkAt.s_ed {b : Nat} {k : ClkI} {w : World} (h : ClkAt b k w) (v : Bool) : ClkAt b { k with ed := v } (w.setCell ⟨b, 16, none⟩ (.bool v)) := row_set h
theorem ClkAt.s_iq {b : Nat} {k : ClkI} {w : World} (h : ClkAt b k w) (v : Bool) : ClkAt b { k with iq := v } (w.setCell ⟨b, 17, none⟩ (.bool v)) := row_set h
end Go.Proofs.YthklebkpoccblaaGreat
namespace Go.Proofs.YthklebkpoccblaaGreat
open Go.RowKit
set_option maxRecDepth 100000 in
set_option maxHeartbeats 2000000 in
theorem m_leadsTo_e {B : Nat} {b : Nat} (k : ClkI) (w : World) (h : ClkAt b k w) (hB : B ≤ b) (hr : ¬ k.sq = 3) (he : k.ed = true) : Calls Tryz.prog 159 #[.pointer (some ⟨b, 0, none⟩)] w (Did B b w { k with ed := false } (.int .i64 2)) := by
 unfold Did
 have Z := Lib.hid h
 clear h
 have fz := Z.out.free
 have Q := Lib.hid (Below.refl B w)
 have _ := hB
 have c_sq : w.cell? ⟨b, 6, none⟩ = some (.int .i64 (k.sq)) := Z.out.c_sq
 have c_ed : w.cell? ⟨b, 16, none⟩ = some (.bool true) := by rw [Z.out.c_ed, he]
 have c_nm : w.cell? ⟨b, 15, none⟩ = some (.bool (k.nm)) := Z.out.c_nm
 have c_iq : w.cell? ⟨b, 17, none⟩ = some (.bool (k.iq)) := Z.out.c_iq
 have HT := fun w => impl_taken k.nm true k.iq w
 simp only [wiresV_mk] at HT
 replace HT := Lib.hid HT
 go_enter Tryz.func159, Tryz.ntmps159
 go_wp2_with (go_at_call 14; refine (HT.out _).mono ?_; rintro e w1 ⟨rfl, hb⟩; refine Hid.out ?_)
 have Q := Lib.hid (below_mono Q.out hb (Nat.le_trans hB (Nat.le_of_lt Z.out.lt)))
 have Z : Hid (ClkAt b (k) w1) := Lib.hid (Z.out.below hb)
 clear hb
 clear fz c_sq c_ed c_nm c_iq
 have fz := Z.out.free
 have c_nm : w1.cell? ⟨b, 15, none⟩ = some (.bool (k.nm)) := Z.out.c_nm
 have c_iq : w1.cell? ⟨b, 17, none⟩ = some (.bool (k.iq)) := Z.out.c_iq
 refine Lib.hid ?_
 have c_ed : w1.cell? ⟨b, 16, none⟩ = some (.bool true) := by rw [Z.out.c_ed, he]
 go_wp2
 go_ret
 exact ⟨rfl, (((Z.out.s_nm k.nm).s_ed false).s_iq k.iq), (below_put (i := 17) (v := .bool (k.iq)) (below_put (i := 16) (v := .bool (false)) (below_put (i := 15) (v := .bool (k.nm)) Q.out hB) hB) hB)⟩
set_option maxRecDepth 100000 in
set_option maxHeartbeats 2000000 in
theorem m_leadsTo_n {B : Nat} {b : Nat} (k : ClkI) (w : World) (h : ClkAt b k w) (hB : B ≤ b) (hr : ¬ k.sq = 3) (he : k.ed = false) : Calls Tryz.prog 159 #[.pointer (some ⟨b, 0, none⟩)] w (Did B b w k (.int .i64 1)) := by
 unfold Did
 have Z := Lib.hid h
 clear h
 have fz := Z.out.free
 have Q := Lib.hid (Below.refl B w)
 have _ := hB
 have c_sq : w.cell? ⟨b, 6, none⟩ = some (.int .i64 (k.sq)) := Z.out.c_sq
 have c_ed : w.cell? ⟨b, 16, none⟩ = some (.bool false) := by rw [Z.out.c_ed, he]
 go_enter Tryz.func159, Tryz.ntmps159
 go_wp2
 go_ret
 exact ⟨rfl, Z.out, Q.out⟩
end Go.Proofs.YthklebkpoccblaaGreat
namespace Go.Proofs.YthklebkpoccblaaGreat
open Go.RowKit
set_option maxRecDepth 100000 in
set_option maxHeartbeats 2000000 in
theorem m_lead_e {B : Nat} {b : Nat} (k : ClkI) (w : World) (h : ClkAt b k w) (hB : B ≤ b) (hr : ¬ k.sq = 3) (he : k.ed = true) : Calls Tryz.prog 133 #[.pointer (some ⟨b, 0, none⟩)] w (Did B b w { k with ed := false, vl := 250, ba := 65530, bd := 0, bw := false, lo := k.dt, p := wI k.p 4 true } (.tuple #[])) := by
 unfold Did
 have HV := Lib.hid (fun w => show Calls Tryz.prog 158 #[.int .i64 2] w fun e w' => e = .returned (.int .i64 65530) ∧ w = w' from impl_vector 2 w)
 have HLo := Lib.hid (fun w => show Calls Tryz.prog 61 #[.int .i64 65530] w fun e w' => e = .returned (.int .i64 250) ∧ w = w' from low_of 65530 w)
 have Z := Lib.hid h
 clear h
 have fz := Z.out.free
 have Q := Lib.hid (Below.refl B w)
 have _ := hB
 go_enter Tryz.func133, Tryz.ntmps133
 go_wp2_with (go_at_call 159; refine (m_leadsTo_e _ _ Z.out hB hr he).mono ?_; rintro e w1 ⟨rfl, Z1, Q1⟩; refine Hid.out ?_)
 have Q := Lib.hid (Q.out.trans Q1)
 have Z : Hid (ClkAt b ({ k with ed := false }) w1) := Lib.hid (Z1)
 clear Z1 Q1
 clear fz 
 have fz := Z.out.free
 have c_vl : w1.cell? ⟨b, 11, none⟩ = some (.int .i64 (k.vl)) := Z.out.c_vl
 refine Lib.hid ?_
 go_wp2_with (first | (go_at_call 89; refine (m_read _ 65530 _ (Z.out.s_vl 250) hB).mono ?_; rintro e w2 ⟨rfl, Z1, Q1⟩; refine Hid.out ?_) | (go_at_call 158; refine (HV.out _).mono ?_; rintro e w' ⟨rfl, rfl⟩) | (go_at_call 61; refine (HLo.out _).mono ?_; rintro e w' ⟨rfl, rfl⟩))
 have Q := Lib.hid ((below_put (i := 11) (v := .int .i64 (250)) Q.out hB).trans Q1)
 have Z : Hid (ClkAt b ({ k with vl := 250, ed := false, ba := 65530, bd := 0, bw := false }) w2) := Lib.hid (Z1)
 clear Z1 Q1
 clear fz c_vl
 have fz := Z.out.free
 have c_lo : w2.cell? ⟨b, 9, none⟩ = some (.int .i64 (k.lo)) := Z.out.c_lo
 have c_p : w2.cell? ⟨b, 4, none⟩ = some (.int .i64 (k.p)) := Z.out.c_p
 refine Lib.hid ?_
 go_wp2_with (first | (go_at_call 160; refine (impl_with _ _ _ _).mono ?_; rintro e w' ⟨rfl, rfl⟩))
 go_end0
 exact ⟨rfl, ((Z.out.s_lo k.dt).s_p (wI k.p 4 true)), (below_put (i := 4) (v := .int .i64 ((wI k.p 4 true))) (below_put (i := 9) (v := .int .i64 (k.dt)) Q.out hB) hB)⟩
set_option maxRecDepth 100000 in
set_option maxHeartbeats 2000000 in
theorem m_lead_n {B : Nat} {b : Nat} (k : ClkI) (w : World) (h : ClkAt b k w) (hB : B ≤ b) (hr : ¬ k.sq = 3) (he : k.ed = false) : Calls Tryz.prog 133 #[.pointer (some ⟨b, 0, none⟩)] w (Did B b w { k with ed := k.ed, vl := 254, ba := 65534, bd := 0, bw := false, lo := k.dt, p := wI k.p 4 true } (.tuple #[])) := by
 unfold Did
 have HV := Lib.hid (fun w => show Calls Tryz.prog 158 #[.int .i64 1] w fun e w' => e = .returned (.int .i64 65534) ∧ w = w' from impl_vector 1 w)
 have HLo := Lib.hid (fun w => show Calls Tryz.prog 61 #[.int .i64 65534] w fun e w' => e = .returned (.int .i64 254) ∧ w = w' from low_of 65534 w)
 have Z := Lib.hid h
 clear h
 have fz := Z.out.free
 have Q := Lib.hid (Below.refl B w)
 have _ := hB
 go_enter Tryz.func133, Tryz.ntmps133
 go_wp2_with (go_at_call 159; refine (m_leadsTo_n _ _ Z.out hB hr he).mono ?_; rintro e w1 ⟨rfl, Z1, Q1⟩; refine Hid.out ?_)
 have Q := Lib.hid (Q.out.trans Q1)
 have Z : Hid (ClkAt b (k) w1) := Lib.hid (Z1)
 clear Z1 Q1
 clear fz 
 have fz := Z.out.free
 have c_vl : w1.cell? ⟨b, 11, none⟩ = some (.int .i64 (k.vl)) := Z.out.c_vl
 refine Lib.hid ?_
 go_wp2_with (first | (go_at_call 89; refine (m_read _ 65534 _ (Z.out.s_vl 254) hB).mono ?_; rintro e w2 ⟨rfl, Z1, Q1⟩; refine Hid.out ?_) | (go_at_call 158; refine (HV.out _).mono ?_; rintro e w' ⟨rfl, rfl⟩) | (go_at_call 61; refine (HLo.out _).mono ?_; rintro e w' ⟨rfl, rfl⟩))
 have Q := Lib.hid ((below_put (i := 11) (v := .int .i64 (254)) Q.out hB).trans Q1)
 have Z : Hid (ClkAt b ({ k with vl := 254, ba := 65534, bd := 0, bw := false }) w2) := Lib.hid (Z1)
 clear Z1 Q1
 clear fz c_vl
 have fz := Z.out.free
 have c_lo : w2.cell? ⟨b, 9, none⟩ = some (.int .i64 (k.lo)) := Z.out.c_lo
 have c_p : w2.cell? ⟨b, 4, none⟩ = some (.int .i64 (k.p)) := Z.out.c_p
 refine Lib.hid ?_
 go_wp2_with (first | (go_at_call 160; refine (impl_with _ _ _ _).mono ?_; rintro e w' ⟨rfl, rfl⟩))
 go_end0
 exact ⟨rfl, ((Z.out.s_lo k.dt).s_p (wI k.p 4 true)), (below_put (i := 4) (v := .int .i64 ((wI k.p 4 true))) (below_put (i := 9) (v := .int .i64 (k.dt)) Q.out hB) hB)⟩
set_option maxRecDepth 100000 in
set_option maxHeartbeats 2000000 in
theorem m_fetch_n {B : Nat} {b : Nat} (k : ClkI) (w : World) (h : ClkAt b k w) (hB : B ≤ b) (hn : k.nx = 0) : Calls Tryz.prog 118 #[.pointer (some ⟨b, 0, none⟩)] w (Did B b w { k with sq := 0, nx := 0, ba := k.pc, bd := 0, bw := false, pc := (k.pc + 1) % 65536, cd := k.dt, jm := ((opOf k.dt).1.toList == [74, 65, 77]) } (.tuple #[])) := by
 unfold Did
 have HO := fun w => impl_opOf k.dt w
 generalize (opOf k.dt).1 = oa at *
 generalize (opOf k.dt).2 = ob at *
 replace HO := Lib.hid HO
 have hfl : ∀ (W : World), (Instr.field 55 (.agg #[.string oa, .string ob]) 0).run Tryz.prog W = .ok (.string oa) W := fun W => by kernel_rfl
 have Z := Lib.hid h
 clear h
 have fz := Z.out.free
 have Q := Lib.hid (Below.refl B w)
 have _ := hB
 have c_nx : w.cell? ⟨b, 13, none⟩ = some (.int .i64 (k.nx)) := Z.out.c_nx
 have c_sq : w.cell? ⟨b, 6, none⟩ = some (.int .i64 (k.sq)) := Z.out.c_sq
 go_enter Tryz.func118, Tryz.ntmps118
 go_wp2_with (go_at_call 148; refine (m_fed _ _ ((Z.out.s_sq 0).s_nx 0) hB).mono ?_; rintro e w1 ⟨rfl, Z1, Q1⟩; refine Hid.out ?_)
 have Q := Lib.hid ((below_put (i := 13) (v := .int .i64 (0)) (below_put (i := 6) (v := .int .i64 (0)) Q.out hB) hB).trans Q1)
 have Z : Hid (ClkAt b ({ k with pc := (k.pc + 1) % 65536, sq := 0, nx := 0, ba := k.pc, bd := 0, bw := false }) w1) := Lib.hid (Z1)
 clear Z1 Q1
 clear fz c_nx c_sq
 have fz := Z.out.free
 have c_cd : w1.cell? ⟨b, 7, none⟩ = some (.int .i64 (k.cd)) := Z.out.c_cd
 refine Lib.hid ?_
 go_wp2_with (go_at_call 90; refine (HO.out _).mono ?_; rintro e w2 ⟨rfl, hb⟩; refine Hid.out ?_)
 have Q := Lib.hid (below_mono (below_put (i := 7) (v := .int .i64 (k.dt)) Q.out hB) hb (Nat.le_trans hB (Nat.le_of_lt (Z.out.s_cd k.dt).lt)))
 have Z : Hid (ClkAt b ({ k with pc := (k.pc + 1) % 65536, sq := 0, cd := k.dt, nx := 0, ba := k.pc, bd := 0, bw := false }) w2) := Lib.hid ((Z.out.s_cd k.dt).below hb)
 clear hb
 clear fz c_cd
 have fz := Z.out.free
 have c_jm : w2.cell? ⟨b, 14, none⟩ = some (.bool (k.jm)) := Z.out.c_jm
 refine Lib.hid ?_
 go_wp2
 go_end0
 exact ⟨rfl, (Z.out.s_jm (oa.toList == [74, 65, 77])), (below_put (i := 14) (v := .bool ((oa.toList == [74, 65, 77]))) Q.out hB)⟩
end Go.Proofs.YthklebkpoccblaaGreat
namespace Go.Proofs.YthklebkpoccblaaGreat
open Go.RowKit
set_option maxRecDepth 100000 in
set_option maxHeartbeats 2000000 in
theorem want_5e (a : Int) (x : Int) (y : Int) (s : Int) (p : Int) (pc : Int) (sq : Int) (lo : Int) (hi : Int) (vl : Int) (cr : Bool) (nx : Int) (nm ed iq : Bool) (hr : ¬ sq = 3) (he : ed = true) (H : Bds a x y s p pc sq 0 5 lo hi vl nx) (w : World) : Calls Tryz.prog 16 #[coreV a x y s p pc sq 0 5 lo hi vl cr nx false, wiresV nm ed iq] w fun e w' => e = .returned (.agg #[.int .i64 (65530), .int .i64 (0), .bool (false)]) ∧ Below w.heap.size w w' := by
 refine (want_ok a x y s p pc sq 0 5 lo hi vl cr nx false nm ed iq _ H.ok (fun b w' h => m_pass_lead _ _ 5 _ _ w' h (Nat.le_refl b) rfl rfl (brk_op) (by rw [brk_all]; rfl) (fun w'' h' => m_lead_e _ w'' h' (Nat.le_refl b) hr he)) w).mono ?_
 rintro e w' ⟨rfl, hb⟩
 exact ⟨rfl, hb⟩
set_option maxRecDepth 100000 in
set_option maxHeartbeats 2000000 in
theorem fed_5e (a : Int) (x : Int) (y : Int) (s : Int) (p : Int) (pc : Int) (sq : Int) (lo : Int) (hi : Int) (vl : Int) (cr : Bool) (nx : Int) (data : Int) (nm ed iq : Bool) (hr : ¬ sq = 3) (he : ed = true) (H : Bds a x y s p pc sq 0 5 lo hi vl nx) (w : World) : Calls Tryz.prog 10 #[coreV a x y s p pc sq 0 5 lo hi vl cr nx false, .int .i64 data, wiresV nm ed iq] w fun e w' => e = .returned (.tuple #[coreV a x y s (wI p 4 true) pc sq 0 (6) (data % 256) hi (250) cr nx false, wiresV nm (false) iq]) ∧ Below w.heap.size w w' := by
 refine (fed_ok a x y s p pc sq 0 5 lo hi vl cr nx false data nm ed iq _ H.ok (fun b w' h => m_pass_lead _ _ 5 _ _ w' h (Nat.le_refl b) rfl rfl (brk_op) (by rw [brk_all]; rfl) (fun w'' h' => m_lead_e _ w'' h' (Nat.le_refl b) hr he)) w).mono ?_
 rintro e w' ⟨rfl, hb⟩
 exact ⟨rfl, hb⟩
set_option maxRecDepth 100000 in
set_option maxHeartbeats 2000000 in
theorem want_5n (a : Int) (x : Int) (y : Int) (s : Int) (p : Int) (pc : Int) (sq : Int) (lo : Int) (hi : Int) (vl : Int) (cr : Bool) (nx : Int) (nm ed iq : Bool) (hr : ¬ sq = 3) (he : ed = false) (H : Bds a x y s p pc sq 0 5 lo hi vl nx) (w : World) : Calls Tryz.prog 16 #[coreV a x y s p pc sq 0 5 lo hi vl cr nx false, wiresV nm ed iq] w fun e w' => e = .returned (.agg #[.int .i64 (65534), .int .i64 (0), .bool (false)]) ∧ Below w.heap.size w w' := by
 refine (want_ok a x y s p pc sq 0 5 lo hi vl cr nx false nm ed iq _ H.ok (fun b w' h => m_pass_lead _ _ 5 _ _ w' h (Nat.le_refl b) rfl rfl (brk_op) (by rw [brk_all]; rfl) (fun w'' h' => m_lead_n _ w'' h' (Nat.le_refl b) hr he)) w).mono ?_
 rintro e w' ⟨rfl, hb⟩
 exact ⟨rfl, hb⟩
set_option maxRecDepth 100000 in
set_option maxHeartbeats 2000000 in
theorem fed_5n (a : Int) (x : Int) (y : Int) (s : Int) (p : Int) (pc : Int) (sq : Int) (lo : Int) (hi : Int) (vl : Int) (cr : Bool) (nx : Int) (data : Int) (nm ed iq : Bool) (hr : ¬ sq = 3) (he : ed = false) (H : Bds a x y s p pc sq 0 5 lo hi vl nx) (w : World) : Calls Tryz.prog 10 #[coreV a x y s p pc sq 0 5 lo hi vl cr nx false, .int .i64 data, wiresV nm ed iq] w fun e w' => e = .returned (.tuple #[coreV a x y s (wI p 4 true) pc sq 0 (6) (data % 256) hi (254) cr nx false, wiresV nm (ed) iq]) ∧ Below w.heap.size w w' := by
 refine (fed_ok a x y s p pc sq 0 5 lo hi vl cr nx false data nm ed iq _ H.ok (fun b w' h => m_pass_lead _ _ 5 _ _ w' h (Nat.le_refl b) rfl rfl (brk_op) (by rw [brk_all]; rfl) (fun w'' h' => m_lead_n _ w'' h' (Nat.le_refl b) hr he)) w).mono ?_
 rintro e w' ⟨rfl, hb⟩
 exact ⟨rfl, hb⟩
set_option maxRecDepth 100000 in
set_option maxHeartbeats 2000000 in
theorem want_0n (a : Int) (x : Int) (y : Int) (s : Int) (p : Int) (pc : Int) (sq : Int) (cd : Int) (lo : Int) (hi : Int) (vl : Int) (cr : Bool) (nx : Int) (nm ed iq : Bool) (hn : nx = 0) (H : Bds a x y s p pc sq cd 0 lo hi vl nx) (w : World) : Calls Tryz.prog 16 #[coreV a x y s p pc sq cd 0 lo hi vl cr nx false, wiresV nm ed iq] w fun e w' => e = .returned (.agg #[.int .i64 (pc), .int .i64 (0), .bool (false)]) ∧ Below w.heap.size w w' := by
 refine (want_ok a x y s p pc sq cd 0 lo hi vl cr nx false nm ed iq _ H.ok (fun b w' h => m_pass_fetch _ _ 0 _ _ w' h (Nat.le_refl b) rfl rfl (rfl) (fetch_all _ _ _ b) (fun w'' h' => m_fetch_n _ w'' h' (Nat.le_refl b) hn)) w).mono ?_
 rintro e w' ⟨rfl, hb⟩
 exact ⟨rfl, hb⟩
set_option maxRecDepth 100000 in
set_option maxHeartbeats 2000000 in
theorem fed_0n (a : Int) (x : Int) (y : Int) (s : Int) (p : Int) (pc : Int) (sq : Int) (cd : Int) (lo : Int) (hi : Int) (vl : Int) (cr : Bool) (nx : Int) (data : Int) (nm ed iq : Bool) (hn : nx = 0) (H : Bds a x y s p pc sq cd 0 lo hi vl nx) (w : World) : Calls Tryz.prog 10 #[coreV a x y s p pc sq cd 0 lo hi vl cr nx false, .int .i64 data, wiresV nm ed iq] w fun e w' => e = .returned (.tuple #[coreV a x y s p ((pc + 1) % 65536) (0) (data % 256) (1) lo hi vl cr (0) ((opOf (data % 256)).1.toList == [74, 65, 77]), wiresV nm (ed) iq]) ∧ Below w.heap.size w w' := by
 refine (fed_ok a x y s p pc sq cd 0 lo hi vl cr nx false data nm ed iq _ H.ok (fun b w' h => m_pass_fetch _ _ 0 _ _ w' h (Nat.le_refl b) rfl rfl (rfl) (fetch_all _ _ _ b) (fun w'' h' => m_fetch_n _ w'' h' (Nat.le_refl b) hn)) w).mono ?_
 rintro e w' ⟨rfl, hb⟩
 exact ⟨rfl, hb⟩
end Go.Proofs.YthklebkpoccblaaGreat
namespace Go.Proofs.YthklebkpoccblaaGreat
open Go.RowKit
section
variable {ops : Array Oper} {rest : List Oper} {o : Oper} {a : Act} {w : World} {Q : Exit → Act → World → Prop}
theorem stx_t (hgd : o.guard = none) (hds : o.dst = none) (x y : Operand) (ho : o.op = .store 3 x y) (b : Nat) (hx : a.eval x = .pointer (some ⟨b, 8, none⟩)) (v : Int) (hy : a.eval y = .int .i64 v) {k : CorI} (hg : CorAt b k w) (h : wpList Tryz.prog ops Q rest a (w.setRow b (corC { k with t := v }))) : wpList Tryz.prog ops Q (o :: rest) a w :=
 store_cell hgd 3 x y ho b 8 hx _ hy (by kernel_rfl) rfl hg rfl (corC { k with t := v }) rfl (by rw [hds]; exact h)
theorem stx_jm (hgd : o.guard = none) (hds : o.dst = none) (x y : Operand) (ho : o.op = .store 4 x y) (b : Nat) (hx : a.eval x = .pointer (some ⟨b, 14, none⟩)) (v : Bool) (hy : a.eval y = .bool v) {k : CorI} (hg : CorAt b k w) (h : wpList Tryz.prog ops Q rest a (w.setRow b (corC { k with jm := v }))) : wpList Tryz.prog ops Q (o :: rest) a w :=
 store_cell hgd 4 x y ho b 14 hx _ hy (by kernel_rfl) rfl hg rfl (corC { k with jm := v }) rfl (by rw [hds]; exact h)
theorem stx_nx (hgd : o.guard = none) (hds : o.dst = none) (x y : Operand) (ho : o.op = .store 3 x y) (b : Nat) (hx : a.eval x = .pointer (some ⟨b, 13, none⟩)) (v : Int) (hy : a.eval y = .int .i64 v) {k : CorI} (hg : CorAt b k w) (h : wpList Tryz.prog ops Q rest a (w.setRow b (corC { k with nx := v }))) : wpList Tryz.prog ops Q (o :: rest) a w :=
 store_cell hgd 3 x y ho b 13 hx _ hy (by kernel_rfl) rfl hg rfl (corC { k with nx := v }) rfl (by rw [hds]; exact h)
end
def wnB (f : Int) (i : Nat) : Bool := decide (f < i)
def wnS (f : Int) (i : Nat) : Bool := decide (f ≤ i)
def weB (f : Int) : Nat → Bool
 | 6 => false
 | 7 => decide (f = 6)
 | i => decide (f < i)
def weS (f : Int) : Nat → Bool
 | 6 => decide (f = 6)
 | i => decide (f ≤ i)
theorem wn_next (f : Int) (i : Nat) : wnB f (i + 1) = wnS f i := by
 unfold wnB wnS
 rw [decide_eq_decide]
 omega
theorem we_next (f : Int) (i : Nat) (hi : i < 5) : weB f (i + 1) = weS f i := by
 match i, hi with
 | 0, _ => exact wn_next f 0
 | 1, _ => exact wn_next f 1
 | 2, _ => exact wn_next f 2
 | 3, _ => exact wn_next f 3
 | 4, _ => exact wn_next f 4
theorem wn_at (f : Int) (i : Nat) (h : (i : Int) = f) : wnS f i = true := decide_eq_true (by omega)
theorem we_at (f : Int) (i : Nat) (hi : i < 7) (h : (i : Int) = f) : weS f i = senseE (wnB f i) (weB f i) true := by
 match i, hi with
 | 0, _ => subst h; decide
 | 1, _ => subst h; decide
 | 2, _ => subst h; decide
 | 3, _ => subst h; decide
 | 4, _ => subst h; decide
 | 5, _ => subst h; decide
 | 6, _ => subst h; decide
theorem wn_no (f : Int) (i : Nat) (h : ¬ (i : Int) = f) : wnS f i = wnB f i := by
 unfold wnB wnS
 rw [decide_eq_decide]
 omega
theorem we_no (f : Int) (i : Nat) (hi : i < 7) (h : ¬ (i : Int) = f) : weS f i = weB f i := by
 match i, hi with
 | 0, _ => exact wn_no f 0 h
 | 1, _ => exact wn_no f 1 h
 | 2, _ => exact wn_no f 2 h
 | 3, _ => exact wn_no f 3 h
 | 4, _ => exact wn_no f 4 h
 | 5, _ => exact wn_no f 5 h
 | 6, _ => exact decide_eq_false (fun h2 => h (by rw [h2]; rfl))
def hkC (k : CorI) (f : Int) : Nat → CorI
 | 0 => { k with t := 0, nx := 0, jm := false }
 | 1 => { k with pc := (k.pc + 1) % 65536, sq := 0, cd := 0, t := 1, nx := 0, jm := false }
 | 2 => { k with pc := ((k.pc + 1) % 65536 + 1) % 65536, sq := 0, cd := 0, t := 2, nx := 0, jm := false }
 | 3 => { k with pc := ((k.pc + 1) % 65536 + 1) % 65536, s := (k.s - 1) % 256, sq := 0, cd := 0, t := 3, nx := 0, jm := false }
 | 4 => { k with pc := ((k.pc + 1) % 65536 + 1) % 65536, s := ((k.s - 1) % 256 - 1) % 256, sq := 0, cd := 0, t := 4, nx := 0, jm := false }
 | 5 => { k with pc := ((k.pc + 1) % 65536 + 1) % 65536, s := (((k.s - 1) % 256 - 1) % 256 - 1) % 256, sq := 0, cd := 0, t := 5, nx := 0, jm := false }
 | 6 => { k with pc := ((k.pc + 1) % 65536 + 1) % 65536, s := (((k.s - 1) % 256 - 1) % 256 - 1) % 256, p := wI k.p 4 true, sq := 0, cd := 0, t := 6, lo := 0 % 256, vl := if f ≤ 5 then 250 else 254, nx := 0, jm := false }
 | _ => { k with pc := 0 % 256 * 256 + 0 % 256, s := (((k.s - 1) % 256 - 1) % 256 - 1) % 256, p := wI k.p 4 true, sq := 0, cd := 0, t := 0, lo := 0 % 256, vl := if f ≤ 5 then 250 else 254, nx := takeN (decide (f = 6)) false (wI k.p 4 true), jm := false }
def hkA (k : CorI) (f : Int) : Nat → Int
 | 0 => k.pc
 | 1 => (k.pc + 1) % 65536
 | 2 => 256 + k.s
 | 3 => 256 + (k.s - 1) % 256
 | 4 => 256 + ((k.s - 1) % 256 - 1) % 256
 | 5 => if f ≤ 5 then 65530 else 65534
 | _ => 65280 + ((if f ≤ 5 then 250 else 254) + 1) % 256
def hkD (k : CorI) : Nat → Int
 | 2 => ((k.pc + 1) % 65536 + 1) % 65536 / 256
 | 3 => ((k.pc + 1) % 65536 + 1) % 65536 % 256
 | 4 => pushI k.p true
 | _ => 0
def hkW : Nat → Bool
 | 2 => true
 | 3 => true
 | 4 => true
 | _ => false
theorem hkC_ok {k : CorI} (f : Int) (h : (hkC k f 0).Ok) (i : Nat) (hi : i < 7) : (hkC k f i).Ok := by
 have e1 := wI_bd k.p 4 true
 have e2 := keptB_i k.p h.kp
 have s0 := h.hs
 have n0 : (0:Int) ≤ 0 ∧ (0:Int) ≤ 3 := by decide
 have c0 : (0:Int) ≤ 0 ∧ (0:Int) ≤ 255 := by decide
 have p1 : 0 ≤ (k.pc + 1) % 65536 ∧ (k.pc + 1) % 65536 ≤ 65535 := by omega
 have p2 : 0 ≤ ((k.pc + 1) % 65536 + 1) % 65536 ∧ ((k.pc + 1) % 65536 + 1) % 65536 ≤ 65535 := by omega
 have s3 : 0 ≤ (k.s - 1) % 256 ∧ (k.s - 1) % 256 ≤ 255 := by omega
 have s4 : 0 ≤ ((k.s - 1) % 256 - 1) % 256 ∧ ((k.s - 1) % 256 - 1) % 256 ≤ 255 := by omega
 have s5 : 0 ≤ (((k.s - 1) % 256 - 1) % 256 - 1) % 256 ∧ (((k.s - 1) % 256 - 1) % 256 - 1) % 256 ≤ 255 := by omega
 have p6 : 0 ≤ wI k.p 4 true ∧ wI k.p 4 true ≤ 255 := by omega
 have v6 : 0 ≤ (if f ≤ 5 then (250:Int) else 254) ∧ (if f ≤ 5 then (250:Int) else 254) ≤ 255 := by split <;> decide
 match i, hi with
 | 0, _ => exact h
 | 1, _ => exact { h with hpc := p1, hsq := n0, hcd := c0, ht := rfl, hnx := n0 }
 | 2, _ => exact { h with hpc := p2, hsq := n0, hcd := c0, ht := rfl, hnx := n0 }
 | 3, _ => exact { h with hpc := p2, hs := s3, hsq := n0, hcd := c0, ht := rfl, hnx := n0 }
 | 4, _ => exact { h with hpc := p2, hs := s4, hsq := n0, hcd := c0, ht := rfl, hnx := n0 }
 | 5, _ => exact { h with hpc := p2, hs := s5, hsq := n0, hcd := c0, ht := rfl, hnx := n0 }
 | 6, _ => exact { h with hpc := p2, hs := s5, hp := p6, kp := e2, hsq := n0, hcd := c0, hlo := c0, hvl := v6, ht := rfl, hnx := n0 }
theorem weS5_yes (f : Int) (h : f ≤ 5) : weS f 5 = true := decide_eq_true h
theorem weS5_no (f : Int) (h : ¬ f ≤ 5) : weS f 5 = false := decide_eq_false h
set_option maxRecDepth 100000 in
theorem hk_want {k : CorI} (f : Int) (h : (hkC k f 0).Ok) (i : Nat) (hi : i < 7) (w : World) : Calls Tryz.prog 16 #[.agg (corC (hkC k f i)), .agg #[.bool (wnS f i), .bool (weS f i), .bool false]] w fun e w' => e = .returned (.agg #[.int .i64 (hkA k f i), .int .i64 (hkD k i), .bool (hkW i)]) ∧ Below w.heap.size w w' := by
 have H := hkC_ok f h i hi
 match i, hi with
 | 0, _ => exact want_0n _ _ _ _ _ _ _ _ _ _ _ _ _ _ _ _ rfl H w
 | 1, _ => exact want_1 _ _ _ _ _ _ _ _ _ _ _ _ _ _ _ H w
 | 2, _ => exact want_2 _ _ _ _ _ _ _ _ _ _ _ _ _ _ _ H w
 | 3, _ => exact want_3 _ _ _ _ _ _ _ _ _ _ _ _ _ _ _ H w
 | 4, _ => exact want_4 _ _ _ _ _ _ _ _ _ _ _ _ _ _ _ H w
 | 5, _ =>
  by_cases h5 : f ≤ 5
  ·rw [show hkA k f 5 = 65530 from if_pos h5, weS5_yes f h5]
   exact want_5e _ _ _ _ _ _ _ _ _ _ _ _ _ _ _ (show ¬ (0 : Int) = 3 by decide) rfl H w
  ·rw [show hkA k f 5 = 65534 from if_neg h5, weS5_no f h5]
   exact want_5n _ _ _ _ _ _ _ _ _ _ _ _ _ _ _ (show ¬ (0 : Int) = 3 by decide) rfl H w
 | 6, _ => exact want_6 _ _ _ _ _ _ _ _ _ _ _ _ _ _ _ H w
theorem no_jam : ((opOf ((0 : Int) % 256)).1.toList == [74, 65, 77]) = false := by decide +kernel
set_option maxRecDepth 100000 in
theorem hk_fed {k : CorI} (f : Int) (h : (hkC k f 0).Ok) (i : Nat) (hi : i < 7) (w : World) : Calls Tryz.prog 10 #[.agg (corC (hkC k f i)), .int .i64 0, .agg #[.bool (wnS f i), .bool (weS f i), .bool false]] w fun e w' => e = .returned (.tuple #[.agg (corC (hkC k f (i + 1))), .agg #[.bool (wnB f (i + 1)), .bool (weB f (i + 1)), .bool false]]) ∧ Below w.heap.size w w' := by
 have H := hkC_ok f h i hi
 rw [wn_next]
 match i, hi with
 | 0, _ =>
  rw [we_next f 0 (by decide)]
  have q := fed_0n (hkC k f 0).a (hkC k f 0).x (hkC k f 0).y (hkC k f 0).s (hkC k f 0).p (hkC k f 0).pc (hkC k f 0).sq (hkC k f 0).cd (hkC k f 0).lo (hkC k f 0).hi (hkC k f 0).vl (hkC k f 0).cr (hkC k f 0).nx 0 (wnS f 0) (weS f 0) false rfl H w
  rw [no_jam] at q
  exact q
 | 1, _ => rw [we_next f 1 (by decide)]; exact fed_1 _ _ _ _ _ _ _ _ _ _ _ _ _ _ _ _ H w
 | 2, _ => rw [we_next f 2 (by decide)]; exact fed_2 _ _ _ _ _ _ _ _ _ _ _ _ _ _ _ _ H w
 | 3, _ => rw [we_next f 3 (by decide)]; exact fed_3 _ _ _ _ _ _ _ _ _ _ _ _ _ _ _ _ H w
 | 4, _ => rw [we_next f 4 (by decide)]; exact fed_4 _ _ _ _ _ _ _ _ _ _ _ _ _ _ _ _ H w
 | 5, _ =>
  by_cases h5 : f ≤ 5
  ·have q := fed_5e (hkC k f 5).a (hkC k f 5).x (hkC k f 5).y (hkC k f 5).s (hkC k f 5).p (hkC k f 5).pc (hkC k f 5).sq (hkC k f 5).lo (hkC k f 5).hi (hkC k f 5).vl (hkC k f 5).cr (hkC k f 5).nx 0 (wnS f 5) (weS f 5) false (show ¬ (0 : Int) = 3 by decide) (weS5_yes f h5) H w
   have e6 : hkC k f 6 = { hkC k f 6 with vl := 250 } := by show ({ k with pc := _, s := _, p := _, sq := _, cd := _, t := _, lo := _, vl := (if f ≤ 5 then (250:Int) else 254), nx := _, jm := _ } : CorI) = _; simp only [hkC, if_pos h5]
   rw [e6]
   exact q
  ·have q := fed_5n (hkC k f 5).a (hkC k f 5).x (hkC k f 5).y (hkC k f 5).s (hkC k f 5).p (hkC k f 5).pc (hkC k f 5).sq (hkC k f 5).lo (hkC k f 5).hi (hkC k f 5).vl (hkC k f 5).cr (hkC k f 5).nx 0 (wnS f 5) (weS f 5) false (show ¬ (0 : Int) = 3 by decide) (weS5_no f h5) H w
   have e6 : hkC k f 6 = { hkC k f 6 with vl := 254 } := by simp only [hkC, if_neg h5]
   rw [e6]
   rw [weS5_no f h5] at q ⊢
   exact q
 | 6, _ => exact fed_6 _ _ _ _ _ _ _ _ _ _ _ _ _ _ _ _ H w
def ledI (f : Int) (i : Nat) : Int := if i ≤ 5 then 0 else if f ≤ 5 then 65530 else 65534
theorem led_next (f : Int) (i : Nat) (hi : i < 7) (h5 : i ≠ 5) : ledI f i = ledI f (i + 1) := by
 unfold ledI
 by_cases h : i ≤ 5
 ·rw [if_pos h, if_pos (by omega)]
 ·rw [if_neg h, if_neg (show ¬ i + 1 ≤ 5 by omega)]
theorem led_5 (k : CorI) (f : Int) : #[Value.int .i64 (hkA k f 5), .int .i64 (hkD k 5), .bool (hkW 5)][0]? = some (.int .i64 (ledI f 6)) := rfl
theorem wnB_0 (f : Int) (h : 0 ≤ f) : wnB f 0 = false := decide_eq_false (by omega)
theorem weB_0 (f : Int) (h : 0 ≤ f) : weB f 0 = false := decide_eq_false (by omega)
theorem push_b (p : Int) : ¬ bits .and .i64 (pushI p true) 16 = 0 := by
 have hall : ∀ b : BitVec 8, ((w8 (w8 b 32 true) 16 true) &&& 16 != 0) = true := by decide +kernel
 have e := tst_i64 (pushI p true) 16 (by decide)
 have q : tst (pushI p true) 16 = true := by
  unfold tst pushI
  rw [wI_B8, wI_B8]
  exact hall (B8 p)
 rw [q] at e
 simpa using e
end Go.Proofs.YthklebkpoccblaaGreat
