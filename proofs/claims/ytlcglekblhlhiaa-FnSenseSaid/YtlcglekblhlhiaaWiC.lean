/-
  Contracts of the program's asksOf and Take (chapter 7): a channel with room for both lines.
  Conditions: none; old memory stays as it was.
-/
import Derived.Test.YtlcglekblhlhiaaWiB
namespace Go.Proofs.Ytlcglekblhlhiaa
open Go.RowKit Go.Conc
theorem mk_asks (w : World) : (Instr.makeChan 59 (.int .i64 2)).run Try.prog w = .ok (.chan (some w.heap.size)) (w.alloc (.chan 2 #[] false 0 0 false)) := by
  have h : (Try.prog.info? 3).map (·.bytes) = some 8 := by kernel_rfl
  obtain ⟨i, hi, hb⟩ := Option.map_eq_some_iff.1 h
  simpa using run_makeChan (P := Try.prog) (w := w) Try.underlying59 hi .i64 2 (by omega) (by rw [hb]; omega)
/-- What lies in the channel: the first line's ask ahead of the second one's. -/
def askBuf (e b : Bool) : Array Value := (if e then #[.int .i64 2] else #[]) ++ (if b then #[.int .i64 1] else #[])
def AsksAt (W : World) (e b : Bool) (v : Value) (w : World) : Prop := ∃ c s, v = .chan (some c) ∧ W.heap.size ≤ c ∧ ChanAt w c 2 (askBuf e b) s 0 ∧ Below W.heap.size W w
theorem chan_far {w : World} {b c cap s r : Nat} {buf : Array Value} {x : Obj} (h : w.heap[b]? = some x) (hne : b ≠ c) : (w.setChan c cap buf false s r false).heap[b]? = some x := by
  rw [← h]
  simp [World.setChan, Array.getElem?_setIfInBounds_ne (Ne.symm hne)]
theorem asks_of (n e i : Bool) (p : Int) (w : World) : Calls Try.prog 32 #[wiresV n e i, .int .u8 p] w fun er w' => ∃ v, er = .returned v ∧ AsksAt w e (i && !tst p 4) v w' := by
  have hm := mk_asks
  have HI := Lib.hid (is_set p 4)
  rw [wiresV_mk]
  have HC := Lib.hid (chan_new2 w (.cells #[.bool n, .bool e, .bool i] 25) 2)
  have HB := Lib.hid (below_alloc (below_alloc (Below.refl w.heap.size w) (.cells #[.bool n, .bool e, .bool i] 25)) (.chan 2 #[] false 0 0 false))
  have K := Lib.hid (blk_old (o := .chan 2 #[] false 0 0 false) (blk_new w (.cells #[.bool n, .bool e, .bool i] 25)))
  generalize ht : tst p 4 = t at *
  clear ht
  cases e
  · cases i
    · go_enter Try.func32, Try.ntmps32
      go_wp2
      go_ret
      exact ⟨_, rfl, _, _, rfl, Nat.le_succ _, HC.out, HB.out⟩
    · cases t
      · go_enter Try.func32, Try.ntmps32
        refine seq_stop (fun K1 hK1 => ?_)
        go_wp2
        refine hK1.out _ _ ?_
        clear hK1
        refine seq_stop (fun K1 hK1 => ?_)
        go_wp2
        refine hK1.out _ _ ?_
        clear hK1
        refine seq_stop (fun K1 hK1 => ?_)
        go_wp2
        refine hK1.out _ _ ?_
        clear hK1
        refine wp_seq ?_
        refine seq_stop (fun K1 hK1 => ?_)
        go_wp2_with (go_at_call 36; refine (HI.out _).mono ?_; rintro e' w' ⟨rfl, rfl⟩)
        refine hK1.out _ _ ?_
        clear hK1
        refine wp_cond_true rfl ?_
        refine comm_second (cases := #[scase (w.heap.size + 1) (.int .i64 1) (.tuple #[])]) (blocking := true) (shape := .send) (w₁ := _) (by rfl) (by simp [go_sem, execOp, Act.eval]; rfl) (by rfl) (by simp [go_sem, execOp, scase, Act.eval, Act.put]) (fun fr cs es h => step_lone_send_room h HC.out (by simp)) ?_
        simp only [Act.put, List.setIfInBounds_toArray, List.set_cons_succ, List.set_cons_zero]
        go_wp2
        go_ret
        exact ⟨_, rfl, _, _, rfl, Nat.le_succ _, HC.out.set 2 #[.int .i64 1] 1 0, below_chan HB.out (Nat.le_succ _) _ _ _ _⟩
      · go_enter Try.func32, Try.ntmps32
        go_wp2_with (go_at_call 36; refine (HI.out _).mono ?_; rintro e' w' ⟨rfl, rfl⟩)
        go_ret
        exact ⟨_, rfl, _, _, rfl, Nat.le_succ _, HC.out, HB.out⟩
  · cases i
    · go_enter Try.func32, Try.ntmps32
      refine seq_stop (fun K1 hK1 => ?_)
      go_wp2
      refine hK1.out _ _ ?_
      clear hK1
      refine seq_stop (fun K1 hK1 => ?_)
      go_wp2
      refine hK1.out _ _ ?_
      clear hK1
      refine wp_seq ?_
      refine seq_stop (fun K1 hK1 => ?_)
      go_wp2
      refine hK1.out _ _ ?_
      clear hK1
      refine wp_cond_true rfl ?_
      refine comm_second (cases := #[scase (w.heap.size + 1) (.int .i64 2) (.tuple #[])]) (blocking := true) (shape := .send) (w₁ := _) (by rfl) (by simp [go_sem, execOp, Act.eval]; rfl) (by rfl) (by simp [go_sem, execOp, scase, Act.eval, Act.put]) (fun fr cs es h => step_lone_send_room h HC.out (by simp)) ?_
      simp only [Act.put, List.push_toArray, List.nil_append, Nat.zero_add, List.setIfInBounds_toArray, List.set_cons_succ, List.set_cons_zero]
      have hC := HC.out.set 2 #[.int .i64 2] 1 0
      have hB := below_chan HB.out (Nat.le_succ _) 2 #[.int .i64 2] 1 0
      have hK := (chan_far (c := w.heap.size + 1) (cap := 2) (buf := #[.int .i64 2]) (s := 1) (r := 0) (K.out) (by omega))
      generalize ((w.alloc (.cells #[.bool n, .bool true, .bool false] 25)).alloc (.chan 2 #[] false 0 0 false)).setChan (w.heap.size + 1) 2 #[.int .i64 2] false 1 0 false = W1 at hC hB hK ⊢
      have c2 : W1.cell? ⟨w.heap.size, 2, none⟩ = some (.bool false) := cell_of_blk hK rfl
      replace hC := Lib.hid hC
      replace hB := Lib.hid hB
      clear hK K HC HB
      go_wp2
      go_ret
      exact ⟨_, rfl, _, _, rfl, Nat.le_succ _, hC.out, hB.out⟩
    · cases t
      · go_enter Try.func32, Try.ntmps32
        refine seq_stop (fun K1 hK1 => ?_)
        go_wp2
        refine hK1.out _ _ ?_
        clear hK1
        refine seq_stop (fun K1 hK1 => ?_)
        go_wp2
        refine hK1.out _ _ ?_
        clear hK1
        refine wp_seq ?_
        refine seq_stop (fun K1 hK1 => ?_)
        go_wp2
        refine hK1.out _ _ ?_
        clear hK1
        refine wp_cond_true rfl ?_
        refine comm_second (cases := #[scase (w.heap.size + 1) (.int .i64 2) (.tuple #[])]) (blocking := true) (shape := .send) (w₁ := _) (by rfl) (by simp [go_sem, execOp, Act.eval]; rfl) (by rfl) (by simp [go_sem, execOp, scase, Act.eval, Act.put]) (fun fr cs es h => step_lone_send_room h HC.out (by simp)) ?_
        simp only [Act.put, List.push_toArray, List.nil_append, Nat.zero_add, List.setIfInBounds_toArray, List.set_cons_succ, List.set_cons_zero]
        have hC := HC.out.set 2 #[.int .i64 2] 1 0
        have hB := below_chan HB.out (Nat.le_succ _) 2 #[.int .i64 2] 1 0
        have hK := (chan_far (c := w.heap.size + 1) (cap := 2) (buf := #[.int .i64 2]) (s := 1) (r := 0) (K.out) (by omega))
        generalize ((w.alloc (.cells #[.bool n, .bool true, .bool true] 25)).alloc (.chan 2 #[] false 0 0 false)).setChan (w.heap.size + 1) 2 #[.int .i64 2] false 1 0 false = W1 at hC hB hK ⊢
        have c2 : W1.cell? ⟨w.heap.size, 2, none⟩ = some (.bool true) := cell_of_blk hK rfl
        replace hC := Lib.hid hC
        replace hB := Lib.hid hB
        clear hK K HC HB
        go_step
        go_step
        refine wp_seq ?_
        refine seq_stop (fun K1 hK1 => ?_)
        go_wp2_with (go_at_call 36; refine (HI.out _).mono ?_; rintro e' w' ⟨rfl, rfl⟩)
        refine hK1.out _ _ ?_
        clear hK1
        refine wp_cond_true rfl ?_
        refine comm_second (cases := #[scase (w.heap.size + 1) (.int .i64 1) (.tuple #[])]) (blocking := true) (shape := .send) (w₁ := _) (by rfl) (by simp [go_sem, execOp, Act.eval]; rfl) (by rfl) (by simp [go_sem, execOp, scase, Act.eval, Act.put]) (fun fr cs es h => step_lone_send_room h hC.out (by simp)) ?_
        simp only [Act.put, List.setIfInBounds_toArray, List.set_cons_succ, List.set_cons_zero]
        go_wp2
        go_ret
        exact ⟨_, rfl, _, _, rfl, Nat.le_succ _, hC.out.set 2 #[.int .i64 2, .int .i64 1] 2 0, below_chan hB.out (Nat.le_succ _) _ _ _ _⟩
      · go_enter Try.func32, Try.ntmps32
        refine seq_stop (fun K1 hK1 => ?_)
        go_wp2
        refine hK1.out _ _ ?_
        clear hK1
        refine seq_stop (fun K1 hK1 => ?_)
        go_wp2
        refine hK1.out _ _ ?_
        clear hK1
        refine wp_seq ?_
        refine seq_stop (fun K1 hK1 => ?_)
        go_wp2
        refine hK1.out _ _ ?_
        clear hK1
        refine wp_cond_true rfl ?_
        refine comm_second (cases := #[scase (w.heap.size + 1) (.int .i64 2) (.tuple #[])]) (blocking := true) (shape := .send) (w₁ := _) (by rfl) (by simp [go_sem, execOp, Act.eval]; rfl) (by rfl) (by simp [go_sem, execOp, scase, Act.eval, Act.put]) (fun fr cs es h => step_lone_send_room h HC.out (by simp)) ?_
        simp only [Act.put, List.push_toArray, List.nil_append, Nat.zero_add, List.setIfInBounds_toArray, List.set_cons_succ, List.set_cons_zero]
        have hC := HC.out.set 2 #[.int .i64 2] 1 0
        have hB := below_chan HB.out (Nat.le_succ _) 2 #[.int .i64 2] 1 0
        have hK := (chan_far (c := w.heap.size + 1) (cap := 2) (buf := #[.int .i64 2]) (s := 1) (r := 0) (K.out) (by omega))
        generalize ((w.alloc (.cells #[.bool n, .bool true, .bool true] 25)).alloc (.chan 2 #[] false 0 0 false)).setChan (w.heap.size + 1) 2 #[.int .i64 2] false 1 0 false = W1 at hC hB hK ⊢
        have c2 : W1.cell? ⟨w.heap.size, 2, none⟩ = some (.bool true) := cell_of_blk hK rfl
        replace hC := Lib.hid hC
        replace hB := Lib.hid hB
        clear hK K HC HB
        go_wp2_with (go_at_call 36; refine (HI.out _).mono ?_; rintro e' w' ⟨rfl, rfl⟩)
        go_ret
        exact ⟨_, rfl, _, _, rfl, Nat.le_succ _, hC.out, hB.out⟩
theorem impl_take (n e i : Bool) (p : Int) (w : World) : Calls Try.prog 16 #[wiresV n e i, .int .i64 p] w fun er w' => er = .returned (.int .i64 (takeN e i p)) ∧ Below w.heap.size w w' := by
  have HA := asks_of n e i (p % 256)
  have ht : tst (p % 256) 4 = tst p 4 := tst_mod p 4
  rw [ht] at HA
  replace HA := Lib.hid HA
  have HT : Hid (takeN e i p = if e then 2 else if (i && !tst p 4) then 1 else 0) := Lib.hid rfl
  generalize (i && !tst p 4) = t at *
  clear ht
  rw [wiresV_mk] at HA ⊢
  go_enter Try.func16, Try.ntmps16
  refine seq_stop (fun K1 hK1 => ?_)
  go_wp2
  refine hK1.out _ _ ?_
  clear hK1
  refine seq_stop (fun K1 hK1 => ?_)
  go_wp2_with (go_at_call 32; refine (HA.out _).mono ?_; rintro e1 w1 ⟨v, rfl, c, s, rfl, hc, hch, hb⟩; refine Hid.out ?_)
  have HC := Lib.hid hch
  have HB : Hid (Below w.heap.size w w1) := Lib.hid (((Below.refl w.heap.size w).alloc (Nat.le_refl _) (.cells #[.bool n, .bool e, .bool i] 25)).trans (hb.mono (by simp)))
  have hcB : w.heap.size ≤ c := by rw [alloc_size] at hc; omega
  clear hch hb hc HA
  refine Lib.hid ?_
  go_wp2
  refine hK1.out _ _ ?_
  clear hK1
  refine wp_seq ?_
  cases e
  · cases t
    · refine comm_first (cases := #[rcase c (.int .i64 0)]) (blocking := false) (shape := .select) (w₁ := w1) (by rfl) (by simp [go_sem, execOp, rcase, Act.eval]) (fun fr cs es h => step_lone_select_default h HC.out) ?_
      simp only [Act.put, List.setIfInBounds_toArray, List.set_cons_succ, List.set_cons_zero]
      go_wp2
      go_ret
      exact ⟨by rw [HT.out]; rfl, HB.out⟩
    · refine comm_first (cases := #[rcase c (.int .i64 0)]) (blocking := false) (shape := .select) (w₁ := w1) (by rfl) (by simp [go_sem, execOp, rcase, Act.eval]) (fun fr cs es h => step_lone_select_recv_buf h HC.out (by simp [askBuf])) ?_
      simp only [Act.put, List.setIfInBounds_toArray, List.set_cons_succ, List.set_cons_zero, askBuf]
      go_wp2
      go_ret
      exact ⟨by rw [HT.out]; rfl, below_chan HB.out hcB _ _ _ _⟩
  · refine comm_first (cases := #[rcase c (.int .i64 0)]) (blocking := false) (shape := .select) (w₁ := w1) (by rfl) (by simp [go_sem, execOp, rcase, Act.eval]) (fun fr cs es h => step_lone_select_recv_buf h HC.out (by simp [askBuf]; omega)) ?_
    have e0 : (askBuf true t).getD 0 undef = .int .i64 2 := by cases t <;> rfl
    rw [e0]
    clear e0
    generalize (askBuf true t).extract 1 (askBuf true t).size = bu
    simp only [Act.put, List.setIfInBounds_toArray, List.set_cons_succ, List.set_cons_zero]
    go_wp2
    go_ret
    exact ⟨by rw [HT.out]; rfl, below_chan HB.out hcB _ _ _ _⟩
end Go.Proofs.Ytlcglekblhlhiaa
