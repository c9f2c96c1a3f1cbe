/-
  The walks of the draws of chapter 4: an instruction, whose name or mode may be another text; old memory stays as it was.
  Conditions: the draw has at most 1048576 bytes.
-/
import Derived.Test.YtfkllcbjakhbdaaTbB
import Derived.Test.YtfkllcbjakhbdaaBlk
import Derived.Test.YtfkllcbjakhbdaaDrP
import Derived.Test.YtfkllcbjakhbdaaDrI
namespace Go.Proofs.Ytfkllcbjakhbdaa
open Go.RowKit
def OpPost (g : Nat) (A : Option Addr) (n c : Nat) (w : World) (e : Ending) (w' : World) : Prop :=
  ∃ a b : ByteArray, e = .returned (.agg #[.string a, .string b]) ∧ a.size ≤ 100 ∧ b.size ≤ 100 ∧ Cur w' g A n c ∧ w.grownBy w' (some g)
def zero2 : Obj := .cells #[.string ⟨#[]⟩, .string ⟨#[]⟩] 38
theorem op_size : (Try.prog.info? 38).map (·.size) = some 2 := by kernel_rfl
theorem opOf_size (n : Int) : (opOf n).1.size ≤ 100 ∧ (opOf n).2.size ≤ 100 := by
  unfold opOf
  split
  · rename_i r h
    obtain ⟨_, h1, h2⟩ := rows_ok r (List.mem_of_find?_eq_some h)
    unfold nmR mdR
    simp only [bsize]
    omega
  · decide
set_option maxRecDepth 100000 in
set_option maxHeartbeats 4000000 in
theorem l04Op_any {B g n c : Nat} {A : Option Addr} {w : World} (h : Drawn B g n c A w) :
    Calls Try.prog 39 #[.pointer (some ⟨g, 0, none⟩)] w (OpPost g A n c w) := by
  have hb0 : Below w.heap.size w (w.alloc zero2) := (Below.refl _ _).alloc (Nat.le_refl _) _
  have H0 := Lib.hid (h.below hb0)
  have K0 := Lib.hid (blk_new w zero2)
  have G0 := Lib.hid (grown_of_below (g := g) hb0)
  have hne : w.heap.size ≠ g := by have := h.cur.lt; omega
  have hgl : g < w.heap.size := h.cur.lt
  have hy := l01Below_any H0.out 256 (by omega) (by omega)
  unfold zero2 at hy
  clear h hb0
  go_enter Try.func39, Try.ntmps39
  go_wp2_with (go_at_call 52; refine hy.mono ?_; rintro e w1 ⟨x, rfl, _, _, hc, hg⟩; refine Hid.out ?_)
  have H1 := Lib.hid (H0.out.next hc hg)
  have K1 := Lib.hid (blk_grown K0.out hg hne)
  have G1 := Lib.hid (grown_trans G0.out hg)
  have ho := spec_opOf x w1
  obtain ⟨ha, hb⟩ := opOf_size x
  generalize (opOf x).1 = a at *
  generalize (opOf x).2 = b at *
  clear H0 K0 G0 hc hg hy
  refine Lib.hid ?_
  go_wp2_with (go_at_call 46; refine ho.mono ?_; rintro e w2 ⟨rfl, hbo⟩; refine Hid.out ?_)
  have H1 := Lib.hid (H1.out.below hbo)
  have K1 := Lib.hid (blk_below K1.out hbo)
  have G1 := Lib.hid (grown_below G1.out hbo)
  have hz : w.heap.size < w2.heap.size := by have h1 := (Array.getElem?_eq_some_iff.1 K1.out).1; exact h1
  have hbV : Below w2.heap.size w2 (w2.alloc (.cells #[.string a, .string b] 38)) := (Below.refl _ _).alloc (Nat.le_refl _) _
  have hy := l01Below_any (H1.out.below hbV) 8 (by omega) (by omega)
  have HV := Lib.hid (blk_new w2 (.cells #[.string a, .string b] 38))
  have HR := Lib.hid (blk_below K1.out hbV)
  have H2 := Lib.hid (H1.out.below hbV)
  have G2 := Lib.hid (grown_below G1.out hbV)
  clear ho hbo H1 K1 G1 hbV
  refine Lib.hid ?_
  go_wp2_with (go_at_call 52; refine hy.mono ?_; rintro e w3 ⟨k, rfl, k0, k1, hc, hg⟩; refine Hid.out ?_)
  have H3 := Lib.hid (H2.out.next hc hg)
  have HV := Lib.hid (blk_grown HV.out hg (by omega))
  have HR := Lib.hid (blk_grown HR.out hg hne)
  have G3 := Lib.hid (grown_trans G2.out hg)
  have hst : (Try.prog.info? 38).map (·.size) = some 2 := op_size
  clear H2 G2 hg hc
  by_cases e0 : k = 0
  · subst e0
    clear k0 k1
    have hP := pick_new H3.out [.string ⟨#[105, 109, 112]⟩, .string ⟨#[97, 98, 115]⟩, .string ⟨#[122, 112, 120]⟩, .string ⟨#[]⟩, .string ⟨#[120, 121, 122]⟩] (k := 5) rfl (by omega) (by omega)
      (by repeat (first | exact allS_nil | refine allS_cons (by decide) ?_))
    refine Lib.hid ?_
    go_wp2_with (go_at_call 53; refine hP.mono ?_; rintro e w4 ⟨v, rfl, hv, hc, hg⟩; refine Hid.out ?_)
    have kV := blk_grown HV.out hg (by omega)
    have kR := blk_grown HR.out hg hne
    have c3 := cell_of_blk (i := 1) kV rfl
    have f3 := free_of_blk (i := 1) kV
    have hm := odd_mid kV kR hc (grown_trans G3.out hg) (by omega) hz 1 (.string v)
    have MV := Lib.hid hm.1
    have MR := Lib.hid hm.2.1
    have MC := Lib.hid hm.2.2.1
    have MG := Lib.hid hm.2.2.2
    clear hm kV kR hP hc hg HV HR H3 G3 hy
    refine Lib.hid ?_
    go_wp2_with (first
      | (refine wpList_load_row rfl 38 (.tmp 3) rfl w2.heap.size ?a1 38 #[.string a, .string v] (0, 0) _ ?a2 Try.underlying38 rfl ?a3 ?_)
      | (refine wpList_store_row rfl 38 (.tmp 2) (.tmp 21) rfl w.heap.size #[.string a, .string v] ?a4 ?a5 38 #[.string ⟨#[]⟩, .string ⟨#[]⟩] ?a6 ?a7 ?a8 ?a9 ?_))
    try (case a1 => rfl)
    case a2 => exact MV.out
    case a3 => exact hst
    try (case a4 => rfl)
    try (case a5 => rfl)
    case a6 => exact MR.out
    case a7 => exact hst
    case a8 => rfl
    case a9 => simp [Value.oneCell']
    have hend := row_end MR.out MC.out MG.out hne #[.string a, .string v]
    exact bodyPost_ret (v := .agg #[.string a, .string v]) (results_cell_row rfl _ _ w.heap.size _ _ _ _ rfl hend.1 Try.underlying38 rfl op_size) rfl ⟨a, v, rfl, ha, hv, hend.2.1, hend.2.2⟩
  by_cases e1 : k = 1
  · subst e1
    clear k0 k1
    have hP := pick_new H3.out [.string ⟨#[83, 84, 65]⟩, .string ⟨#[73, 78, 67]⟩, .string ⟨#[74, 77, 80]⟩, .string ⟨#[74, 65, 77]⟩, .string ⟨#[]⟩, .string ⟨#[108, 100, 97]⟩] (k := 6) rfl (by omega) (by omega)
      (by repeat (first | exact allS_nil | refine allS_cons (by decide) ?_))
    refine Lib.hid ?_
    go_wp2_with (go_at_call 53; refine hP.mono ?_; rintro e w4 ⟨v, rfl, hv, hc, hg⟩; refine Hid.out ?_)
    have kV := blk_grown HV.out hg (by omega)
    have kR := blk_grown HR.out hg hne
    have c3 := cell_of_blk (i := 0) kV rfl
    have f3 := free_of_blk (i := 0) kV
    have hm := odd_mid kV kR hc (grown_trans G3.out hg) (by omega) hz 0 (.string v)
    have MV := Lib.hid hm.1
    have MR := Lib.hid hm.2.1
    have MC := Lib.hid hm.2.2.1
    have MG := Lib.hid hm.2.2.2
    clear hm kV kR hP hc hg HV HR H3 G3 hy
    refine Lib.hid ?_
    go_wp2_with (first
      | (refine wpList_load_row rfl 38 (.tmp 3) rfl w2.heap.size ?b1 38 #[.string v, .string b] (0, 0) _ ?b2 Try.underlying38 rfl ?b3 ?_)
      | (refine wpList_store_row rfl 38 (.tmp 2) (.tmp 21) rfl w.heap.size #[.string v, .string b] ?b4 ?b5 38 #[.string ⟨#[]⟩, .string ⟨#[]⟩] ?b6 ?b7 ?b8 ?b9 ?_))
    try (case b1 => rfl)
    case b2 => exact MV.out
    case b3 => exact hst
    try (case b4 => rfl)
    try (case b5 => rfl)
    case b6 => exact MR.out
    case b7 => exact hst
    case b8 => rfl
    case b9 => simp [Value.oneCell']
    have hend := row_end MR.out MC.out MG.out hne #[.string v, .string b]
    exact bodyPost_ret (v := .agg #[.string v, .string b]) (results_cell_row rfl _ _ w.heap.size _ _ _ _ rfl hend.1 Try.underlying38 rfl op_size) rfl ⟨v, b, rfl, hv, hb, hend.2.1, hend.2.2⟩
  have kV := HV.out
  refine Lib.hid ?_
  go_wp2_with (first
    | (refine wpList_load_row rfl 38 (.tmp 3) rfl w2.heap.size ?c1 38 #[.string a, .string b] (0, 0) _ ?c2 Try.underlying38 rfl ?c3 ?_)
    | (refine wpList_store_row rfl 38 (.tmp 2) (.tmp 21) rfl w.heap.size #[.string a, .string b] ?c4 ?c5 38 #[.string ⟨#[]⟩, .string ⟨#[]⟩] ?c6 ?c7 ?c8 ?c9 ?_))
  try (case c1 => rfl)
  case c2 => exact HV.out
  case c3 => exact hst
  try (case c4 => rfl)
  try (case c5 => rfl)
  case c6 => exact HR.out
  case c7 => exact hst
  case c8 => rfl
  case c9 => simp [Value.oneCell']
  have hend := row_end HR.out H3.out.cur G3.out hne #[.string a, .string b]
  exact bodyPost_ret (v := .agg #[.string a, .string b]) (results_cell_row rfl _ _ w.heap.size _ _ _ _ rfl hend.1 Try.underlying38 rfl op_size) rfl ⟨a, b, rfl, ha, hb, hend.2.1, hend.2.2⟩
end Go.Proofs.Ytfkllcbjakhbdaa
