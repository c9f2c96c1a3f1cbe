/-
  Communications in the walk of one goroutine: a region whose first or second operation is a send, or a select of one case with a default, which goes on at once.
  Conditions: as each lemma says; the channel's block is known.
-/
import Derived.Test.YtlcglekblhlhiaaBel
import Derived.Conc.LoneCalls
import Derived.Conc.LoneSelect
import Derived.Lib.Hide
namespace Go.Proofs.Ytlcglekblhlhiaa
open Go.RowKit Go.Conc
def OpsTo (P : Program) (ops : Array Oper) (Q : Exit → Act → World → Prop) (l : List Nat) (a : Act) (w : World) : Prop :=
  ∀ (b : Frame) (k : List Item) (cs : List Frame), ∃ e a' w', Q e a' w' ∧ Arrives P (lone (b.at a (.inRegion ops l :: k)) cs w) b k cs e a' w'
section
variable {P : Program} {ops : Array Oper} {Q : Exit → Act → World → Prop} {a : Act} {w : World}
theorem opsTo_wp {l : List Nat} (h : wpOps P ops Q l a w) : OpsTo P ops Q l a w := wp_ops l a w h
theorem region_to {id : Nat} (h : OpsTo P ops Q (List.range ops.size) a w) : (Code.region id ops false).wp P Q a w :=
  fun b k cs => let ⟨e, a', w', q, r⟩ := h b k cs; ⟨e, a', w', q, .of_steps (.one step_region) r⟩
theorem stepG_comm_any {b : Frame} {k : List Item} {cs : List Frame} {i : Nat} {rest : List Nat} {o : Oper} {cases : Array CommCase} {blocking : Bool} {shape : CommShape} {w' : World} (ho : ops[i]? = some o)
    (hw : Region.wanted o (yielded ops a.tmps) = true) (hr : (execOp a.eval o).run P w = .ok (.comm cases blocking shape) w') :
    ∃ es, stepG P true (G (b.at a (.inRegion ops (i :: rest) :: k)) cs) w = .comm (G (b.at a (.inRegion ops (i :: rest) :: k)) cs) cases blocking shape w' es := by
  by_cases hk : b.kind = .early
  · refine ⟨seen P b.fn #[], ?_⟩
    rw [Go.Conc.stepG_oper ho hw]
    simp [stepG.apply, hr, G, Frame.at, hk, GStep.after]
  · exact ⟨_, stepG_comm ho hw hk hr⟩
theorem opsTo_comm {i : Nat} {rest : List Nat} {o : Oper} {cases : Array CommCase} {blocking : Bool} {shape : CommShape} {w₁ w₂ : World} {v : Value} (ho : ops[i]? = some o) (hg : o.guard = none)
    (hr : (execOp a.eval o).run P w = .ok (.comm cases blocking shape) w₁)
    (hs : ∀ (fr : Frame) (cs : List Frame) (es : Array Event), stepG P true (G fr cs) w = .comm (G fr cs) cases blocking shape w₁ es → step P (solo (G fr cs) w) = .next (solo (G (fr.finish v) cs) w₂))
    (h : OpsTo P ops Q rest (a.put o.dst v) w₂) : OpsTo P ops Q (i :: rest) a w := by
  intro b k cs
  obtain ⟨e, a', w', hq, harr⟩ := h b k cs
  obtain ⟨es, hst⟩ := stepG_comm_any (b := b) (k := k) (cs := cs) (rest := rest) ho (by simp [Region.wanted, hg]) hr
  have h1 := hs _ _ _ hst
  rw [Frame.finish_at, ho] at h1
  exact ⟨e, a', w', hq, .of_steps (.one h1) harr⟩
theorem opsTo_value {i : Nat} {rest : List Nat} {o : Oper} {v : Value} {w' : World} (ho : ops[i]? = some o) (hg : o.guard = none) (hr : (execOp a.eval o).run P w = .ok (.value v) w')
    (h : OpsTo P ops Q rest (a.put o.dst v) w') : OpsTo P ops Q (i :: rest) a w := by
  intro b k cs
  obtain ⟨e, a', w'', hq, harr⟩ := h b k cs
  have hg' := Go.stepG_op (P := P) (a := a) (b := b) (k := k) (cs := cs) (w := w) (rest := rest) ho (by simp [Region.wanted, hg])
  have hfin : (b.at a (.inRegion ops (i :: rest) :: k)).finish v = b.at (a.put o.dst v) (.inRegion ops rest :: k) := by rw [Frame.finish_at, ho]; rfl
  refine ⟨e, a', w'', hq, .of_steps (.one (step_lone_go ?_)) harr⟩
  rw [hg', ← hfin]
  simp [stepG.apply, hr]
theorem opsTo_rest (l : List Oper) (k : Nat) (hl : ∀ j : Nat, l[j]? = ops[k + j]?) (h : wpList P ops Q l a w) : OpsTo P ops Q (List.range' k l.length) a w :=
  opsTo_wp (by rw [wpOps_eq_wpList l k hl]; exact h)
end
section
variable {P : Program} {Q : Exit → Act → World → Prop} {a : Act} {w : World} {id : Nat} {o o0 : Oper} {l : List Oper}
theorem comm_first {cases : Array CommCase} {blocking : Bool} {shape : CommShape} {w₁ w₂ : World} {v : Value} (hg : o.guard = none) (hr : (execOp a.eval o).run P w = .ok (.comm cases blocking shape) w₁)
    (hs : ∀ (fr : Frame) (cs : List Frame) (es : Array Event), stepG P true (G fr cs) w = .comm (G fr cs) cases blocking shape w₁ es → step P (solo (G fr cs) w) = .next (solo (G (fr.finish v) cs) w₂))
    (h : wpList P (o :: l).toArray Q l (a.put o.dst v) w₂) : (Code.region id (o :: l).toArray false).wp P Q a w := by
  refine region_to ?_
  have e : List.range (o :: l).toArray.size = 0 :: List.range' 1 l.length := by
    rw [List.range_eq_range']
    simp [List.range'_succ]
  rw [e]
  exact opsTo_comm (by simp) hg hr hs (opsTo_rest l 1 (fun j => by simp [Nat.add_comm 1 j]) h)
theorem comm_second {cases : Array CommCase} {blocking : Bool} {shape : CommShape} {w₁ w₂ : World} {v v0 : Value} (hg0 : o0.guard = none) (hr0 : (execOp a.eval o0).run P w = .ok (.value v0) w) (hg : o.guard = none)
    (hr : (execOp (a.put o0.dst v0).eval o).run P w = .ok (.comm cases blocking shape) w₁)
    (hs : ∀ (fr : Frame) (cs : List Frame) (es : Array Event), stepG P true (G fr cs) w = .comm (G fr cs) cases blocking shape w₁ es → step P (solo (G fr cs) w) = .next (solo (G (fr.finish v) cs) w₂))
    (h : wpList P (o0 :: o :: l).toArray Q l ((a.put o0.dst v0).put o.dst v) w₂) : (Code.region id (o0 :: o :: l).toArray false).wp P Q a w := by
  refine region_to ?_
  have e : List.range (o0 :: o :: l).toArray.size = 0 :: 1 :: List.range' 2 l.length := by
    rw [List.range_eq_range']
    simp [List.range'_succ]
  rw [e]
  exact opsTo_value (by simp) hg0 hr0 (opsTo_comm (by simp) hg hr hs (opsTo_rest l 2 (fun j => by simp [Nat.add_comm 2 j]) h))
end
/-- The walk stops behind x. -/
theorem seq_stop {P : Program} {Q : Exit → Act → World → Prop} {a : Act} {w : World} {x y : Code} (h : ∀ K : Act → World → Prop, Hid (∀ a w, y.wp P Q a w → K a w) → x.wp P (Exit.then K Q) a w) : (Code.seq x y).wp P Q a w :=
  wp_seq (h (y.wp P Q) (Lib.hid fun _ _ h => h))
/-- A channel's block. -/
def ChanAt (w : World) (c cap : Nat) (buf : Array Value) (s r : Nat) : Prop := w.heap[c]? = some (.chan cap buf false s r false)
theorem ChanAt.lt {w : World} {c cap s r : Nat} {buf : Array Value} (h : ChanAt w c cap buf s r) : c < w.heap.size := (Array.getElem?_eq_some_iff.1 h).1
theorem ChanAt.below {w w' : World} {c cap s r : Nat} {buf : Array Value} (h : ChanAt w c cap buf s r) (hb : Below w.heap.size w w') : ChanAt w' c cap buf s r := (hb.block c h.lt).trans h
theorem ChanAt.set {w : World} {c cap s r : Nat} {buf : Array Value} (h : ChanAt w c cap buf s r) (cap' : Nat) (buf' : Array Value) (s' r' : Nat) : ChanAt (w.setChan c cap' buf' false s' r' false) c cap' buf' s' r' :=
  heap_setChan w c cap' buf' false s' r' false h.lt
/-- Nothing but this channel's block has changed. -/
def OnlyChan (B c : Nat) (w w' : World) : Prop := B ≤ c → Below B w w'
end Go.Proofs.Ytlcglekblhlhiaa
