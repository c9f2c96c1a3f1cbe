/-
  Contracts of the program's falls (chapter 7): a channel with room for one: note, take, fallsOf.
  Conditions: the channel's block is known.
-/
import Derived.Test.YtlcglekblhlhiaaWiA
import Derived.Test.YtlcglekblhlhiaaCom
import Derived.Test.YtlcglekblhlhiaaRow
namespace Go.Proofs.Ytlcglekblhlhiaa
open Go.RowKit Go.Conc
/-- What lies in the buffer. -/
def fallBuf (q : Bool) : Array Value := if q then #[.agg #[]] else #[]
theorem mk_falls (w : World) : (Instr.makeChan 48 (.int .i64 1)).run Try.prog w = .ok (.chan (some w.heap.size)) (w.alloc (.chan 1 #[] false 0 0 false)) := by
  have h : (Try.prog.info? 58).map (·.bytes) = some 0 := by kernel_rfl
  obtain ⟨i, hi, hb⟩ := Option.map_eq_some_iff.1 h
  simpa using run_makeChan (P := Try.prog) (w := w) Try.underlying48 hi .i64 1 (by omega) (by rw [hb]; omega)
theorem note_room {c s r : Nat} {w : World} (h : ChanAt w c 1 #[] s r) : Calls Try.prog 28 #[.chan (some c)] w fun e w' => e = .returned (.tuple #[]) ∧ w' = w.setChan c 1 #[.agg #[]] false (s + 1) r false := by
  have H := Lib.hid h
  clear h
  go_enter Try.func28, Try.ntmps28
  refine seq_stop (fun K hK => ?_)
  go_wp2
  refine hK.out _ _ ?_
  refine wp_seq ?_
  refine comm_first (cases := #[scase c (.agg #[]) (.agg #[])]) (blocking := false) (shape := .select) (w₁ := w) (by rfl) (by simp [go_sem, execOp, scase, Act.eval]) (fun fr cs es h => step_lone_select_send_room h H.out (by simp)) ?_
  simp only [Act.put, List.setIfInBounds_toArray, List.set_cons_succ, List.set_cons_zero]
  go_wp2
  go_end0
  exact ⟨rfl, rfl⟩
theorem note_full {c s r : Nat} {w : World} (h : ChanAt w c 1 #[.agg #[]] s r) : Calls Try.prog 28 #[.chan (some c)] w fun e w' => e = .returned (.tuple #[]) ∧ w' = w := by
  have H := Lib.hid h
  clear h
  go_enter Try.func28, Try.ntmps28
  refine seq_stop (fun K hK => ?_)
  go_wp2
  refine hK.out _ _ ?_
  refine wp_seq ?_
  refine comm_first (cases := #[scase c (.agg #[]) (.agg #[])]) (blocking := false) (shape := .select) (w₁ := w) (by rfl) (by simp [go_sem, execOp, scase, Act.eval]) (fun fr cs es h => step_lone_select_send_full h H.out (by simp)) ?_
  simp only [Act.put, List.setIfInBounds_toArray, List.set_cons_succ, List.set_cons_zero]
  go_wp2
  go_end0
  exact ⟨rfl, rfl⟩
theorem take_one {c s r : Nat} {w : World} (h : ChanAt w c 1 #[.agg #[]] s r) : Calls Try.prog 29 #[.chan (some c)] w fun e w' => e = .returned (.bool true) ∧ w' = w.setChan c 1 #[] false s (r + 1) false := by
  have H := Lib.hid h
  clear h
  go_enter Try.func29, Try.ntmps29
  refine seq_stop (fun K hK => ?_)
  go_wp2
  refine hK.out _ _ ?_
  clear hK
  refine seq_stop (fun K hK => ?_)
  go_wp2
  refine hK.out _ _ ?_
  refine wp_seq ?_
  refine comm_first (cases := #[rcase c (.agg #[])]) (blocking := false) (shape := .select) (w₁ := w) (by rfl) (by simp [go_sem, execOp, rcase, Act.eval]) (fun fr cs es h => step_lone_select_recv_buf h H.out (by simp)) ?_
  simp only [Act.put, List.setIfInBounds_toArray, List.set_cons_succ, List.set_cons_zero]
  go_wp2
  go_ret
  exact ⟨rfl, rfl⟩
theorem take_none {c s r : Nat} {w : World} (h : ChanAt w c 1 #[] s r) : Calls Try.prog 29 #[.chan (some c)] w fun e w' => e = .returned (.bool false) ∧ w' = w := by
  have H := Lib.hid h
  clear h
  go_enter Try.func29, Try.ntmps29
  refine seq_stop (fun K hK => ?_)
  go_wp2
  refine hK.out _ _ ?_
  clear hK
  refine seq_stop (fun K hK => ?_)
  go_wp2
  refine hK.out _ _ ?_
  refine wp_seq ?_
  refine comm_first (cases := #[rcase c (.agg #[])]) (blocking := false) (shape := .select) (w₁ := w) (by rfl) (by simp [go_sem, execOp, rcase, Act.eval]) (fun fr cs es h => step_lone_select_default h H.out) ?_
  simp only [Act.put, List.setIfInBounds_toArray, List.set_cons_succ, List.set_cons_zero]
  go_wp2
  go_ret
  exact ⟨rfl, rfl⟩
theorem below_chan {B c : Nat} {w w' : World} (h : Below B w w') (hc : B ≤ c) (cap : Nat) (buf : Array Value) (s r : Nat) : Below B w (w'.setChan c cap buf false s r false) := below_setChan h hc cap buf false s r false
theorem chan_new (w : World) (cap : Nat) : ChanAt (w.alloc (.chan cap #[] false 0 0 false)) w.heap.size cap #[] 0 0 := blk_new w _
theorem chan_new2 (w : World) (o : Obj) (cap : Nat) : ChanAt ((w.alloc o).alloc (.chan cap #[] false 0 0 false)) (w.heap.size + 1) cap #[] 0 0 := by
  have := blk_new (w.alloc o) (.chan cap #[] false 0 0 false)
  rwa [alloc_size] at this
/-- What comes of fallsOf: a channel of its own, in which a fall lies or not. -/
def FallsAt (W : World) (e : Bool) (v : Value) (w : World) : Prop := ∃ c s r, v = .chan (some c) ∧ W.heap.size ≤ c ∧ ChanAt w c 1 (fallBuf e) s r ∧ Below W.heap.size W w
theorem falls_of (n e i : Bool) (w : World) : Calls Try.prog 27 #[wiresV n e i] w fun er w' => ∃ v, er = .returned v ∧ FallsAt w e v w' := by
  have hm := mk_falls
  rw [wiresV_mk]
  have HC := Lib.hid (chan_new2 w (.cells #[.bool n, .bool e, .bool i] 25) 1)
  cases e
  · go_enter Try.func27, Try.ntmps27
    go_wp2
    go_ret
    exact ⟨_, rfl, _, _, _, rfl, Nat.le_succ _, HC.out, below_alloc (below_alloc (Below.refl _ _) _) _⟩
  · have HN := Lib.hid (note_room HC.out)
    go_enter Try.func27, Try.ntmps27
    go_wp2_with (go_at_call 28; refine HN.out.mono ?_; rintro e w1 ⟨rfl, rfl⟩)
    go_ret
    exact ⟨_, rfl, _, _, _, rfl, Nat.le_succ _, HC.out.set 1 #[.agg #[]] 1 0, below_chan (below_alloc (below_alloc (Below.refl _ _) _) _) (Nat.le_succ _) _ _ _ _⟩
theorem note_any {e : Bool} {c s r : Nat} {w : World} (h : ChanAt w c 1 (fallBuf e) s r) : Calls Try.prog 28 #[.chan (some c)] w fun er w' => er = .returned (.tuple #[]) ∧ (∃ s', ChanAt w' c 1 (fallBuf true) s' r) ∧ Below c w w' := by
  cases e
  · refine (note_room h).mono ?_
    rintro e w1 ⟨rfl, rfl⟩
    exact ⟨rfl, ⟨_, h.set 1 #[.agg #[]] (s + 1) r⟩, below_chan (Below.refl _ _) (Nat.le_refl _) _ _ _ _⟩
  · refine (note_full h).mono ?_
    rintro e w1 ⟨rfl, rfl⟩
    exact ⟨rfl, ⟨_, h⟩, Below.refl _ _⟩
theorem take_any {e : Bool} {c s r : Nat} {w : World} (h : ChanAt w c 1 (fallBuf e) s r) : Calls Try.prog 29 #[.chan (some c)] w fun er w' => er = .returned (.bool e) ∧ Below c w w' := by
  cases e
  · refine (take_none h).mono ?_
    rintro e w1 ⟨rfl, rfl⟩
    exact ⟨rfl, Below.refl _ _⟩
  · refine (take_one h).mono ?_
    rintro e w1 ⟨rfl, rfl⟩
    exact ⟨rfl, below_chan (Below.refl _ _) (Nat.le_refl _) _ _ _ _⟩
theorem blk_keep {w w' : World} {b c : Nat} {x : Obj} (h : w.heap[b]? = some x) (hb : Below c w w') (hc : b < c) : w'.heap[b]? = some x := (hb.block b hc).trans h
theorem impl_sense (n e i nmi irq : Bool) (w : World) : Calls Try.prog 11 #[wiresV n e i, .bool nmi, .bool irq] w fun er w' => er = .returned (wiresV nmi (senseE n e nmi) irq) ∧ Below w.heap.size w w' := by
  have hi := Lib.hid wires_size
  have HF := Lib.hid (falls_of n e i)
  rw [wiresV_mk] at HF ⊢
  have k0 := blk_old (o := .cells #[.bool false, .bool false, .bool false] 25) (blk_new w (.cells #[.bool n, .bool e, .bool i] 25))
  have k1 := blk_new2 w (.cells #[.bool n, .bool e, .bool i] 25) (.cells #[.bool false, .bool false, .bool false] 25)
  have B := below_alloc (below_alloc (Below.refl w.heap.size w) (.cells #[.bool n, .bool e, .bool i] 25)) (.cells #[.bool false, .bool false, .bool false] 25)
  have K0 := Lib.hid k0
  have K1 := Lib.hid k1
  have KB := Lib.hid B
  clear k0 k1 B
  cases nmi <;> cases n
  all_goals
    go_enter Try.func11, Try.ntmps11
    go_wp2_with (go_at_call 27; refine (HF.out _).mono ?_; rintro e1 w1 ⟨v, rfl, c, s, r, rfl, hc, hch, hb⟩; refine Hid.out ?_)
    have J0 := Lib.hid (blk_below K0.out hb)
    have J1 := Lib.hid (blk_below K1.out hb)
    have hcB : w.heap.size + 2 ≤ c := by rw [alloc_size, alloc_size] at hc; omega
    have JB := Lib.hid (KB.out.trans (hb.mono (by rw [alloc_size, alloc_size]; omega)))
    have HN := Lib.hid (note_any hch)
    have HT := Lib.hid (take_any hch)
    have c0 := cell_of_blk (i := 0) J0.out rfl
    clear K0 K1 KB hb hch hc HF
    refine Lib.hid ?_
  rotate_left 2
  · go_wp2_with (go_at_call 28; refine HN.out.mono ?_; rintro e2 w2 ⟨rfl, ⟨s', hch⟩, hb2⟩; refine Hid.out ?_)
    have L1 := Lib.hid (blk_keep J1.out hb2 (by omega))
    have LB := Lib.hid (JB.out.trans (hb2.mono (by omega)))
    have HT := Lib.hid (take_any hch)
    clear J0 J1 JB HN hb2 hch c0
    refine Lib.hid ?_
    go_wp2_with (go_at_call 29; refine HT.out.mono ?_; rintro e3 w3 ⟨rfl, hb3⟩; refine Hid.out ?_)
    have M1 := Lib.hid (blk_keep L1.out hb3 (by omega))
    have MB := Lib.hid (LB.out.trans (hb3.mono (by omega)))
    refine Lib.hid ?_
    go_wp2_with (refine store_row rfl 25 (.tmp 6) (.tmp 22) rfl (w.heap.size + 1) _ rfl rfl 3 hi.out M1.out rfl rfl rfl ?_)
    exact row_post rfl rfl Try.underlying25 rfl hi.out rfl rfl M1.out ⟨by simp [wiresV_mk, senseE], below_row MB.out (by omega)⟩
  all_goals
    go_wp2_with (go_at_call 29; refine HT.out.mono ?_; rintro e3 w3 ⟨rfl, hb3⟩; refine Hid.out ?_)
    have M1 := Lib.hid (blk_keep J1.out hb3 (by omega))
    have MB := Lib.hid (JB.out.trans (hb3.mono (by omega)))
    refine Lib.hid ?_
    go_wp2_with (refine store_row rfl 25 (.tmp 6) (.tmp 22) rfl (w.heap.size + 1) _ rfl rfl 3 hi.out M1.out rfl rfl rfl ?_)
    exact row_post rfl rfl Try.underlying25 rfl hi.out rfl rfl M1.out ⟨by simp [wiresV_mk, senseE], below_row MB.out (by omega)⟩
end Go.Proofs.Ytlcglekblhlhiaa
