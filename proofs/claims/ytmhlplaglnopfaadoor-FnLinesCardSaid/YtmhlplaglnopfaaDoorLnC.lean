/-
  The walks of impl.Lines and of the law FnExactLines: both lists of lines are alike, and the one that is marked shares no memory with the others.
  Conditions: a variable of Go's library holds some int (internal/bytealg.MaxLen).
-/
import Derived.Test.YtmhlplaglnopfaaDoorLnB
import Derived.Test.YtmhlplaglnopfaaDoorStS
import Derived.Test.YtmhlplaglnopfaaDoorShD
import Derived.Shelf.Vars
namespace Go.Proofs.YtmhlplaglnopfaaDoor
open Go.RowKit Go.Lib
/-- The library's variable holds some int. -/
def MaxLenIs (w : World) : Prop := ∃ m : Int, w.cell? ⟨3, 0, none⟩ = some (.int .i64 m)
theorem MaxLenIs.below {w w' : World} (h : MaxLenIs w) (hb : Below w.heap.size w w') : MaxLenIs w' := by
  obtain ⟨m, hm⟩ := h
  exact ⟨m, (hb.cell (p := ⟨3, 0, none⟩) (World.block_lt_of_cell? _ _ hm)).trans hm⟩
def ImplPost (s : ByteArray) (w : World) (e : Ending) (w' : World) : Prop := ∃ v, e = .returned v ∧ NewStrs w.heap.size w' v (linesB s) ∧ Below w.heap.size w w'
theorem linesB_length (s : ByteArray) : (linesB s).length = countB s nl + 1 := splitB_all nl (by decide) 0 _ s rfl
theorem impl_lines (s : ByteArray) (h0 : s.size ≠ 0) (hs : s.size ≤ 1048576) (w : World) (hm : MaxLenIs w) : Calls Tryd.prog 25 #[.string s] w (ImplPost s w) := by
  obtain ⟨m, hm⟩ := hm
  have hemp : s.toList.isEmpty = false := by
    rw [← decide_eq_emptyBytes]
    exact decide_eq_false (fun h => h0 (by rw [h]; rfl))
  have hS := Tryd.strings_Split s nl m w (by omega) hm (by decide)
  have hN : NewStrs w.heap.size (w.alloc (.cells ((linesB s).map Value.string).toArray 9)) (.slice (some ⟨w.heap.size, 0, none⟩) (countB s nl + 1) (countB s nl + 1)) (linesB s) :=
    ⟨w.heap.size, countB s nl + 1, ((linesB s).map Value.string).toArray, by rw [linesB_length], Nat.le_refl _, heap_alloc_new w _, by simp, fun i h => by simp [h]⟩
  have HN := Lib.hid hN
  clear hN hm h0 hs
  go_enter Tryd.func25, Tryd.ntmps25
  go_wp2_with (go_at_call 47; refine hS.mono ?_; rintro e w' ⟨rfl, rfl⟩)
  go_ret
  exact ⟨_, rfl, HN.out, (Below.refl _ _).alloc (Nat.le_refl _) _⟩
theorem impl_lines_empty (w : World) : Calls Tryd.prog 25 #[.string ⟨#[]⟩] w fun e w' => e = .returned (.slice none 0 0) ∧ w = w' := by
  go_enter Tryd.func25, Tryd.ntmps25
  go_wp2
  go_ret
  exact ⟨rfl, rfl⟩
theorem lines_walk_empty (W : World) : Calls Tryd.prog 9 #[.string ⟨#[]⟩] W fun e w' => e = .returned (.bool true) ∧ Below W.heap.size W w' := by
  go_enter Tryd.func9, Tryd.ntmps9
  go_wp2_with (first
    | (go_at_call 29; refine (spec_lines_empty _).mono ?_; rintro e w1 ⟨v0, rfl, ⟨g, cap, cs, rfl, hg⟩, hb1⟩)
    | (go_at_call 25; refine (impl_lines_empty _).mono ?_; rintro e w' ⟨rfl, rfl⟩)
    | (go_at_call 31; refine (eq_zero _ _ _ _ _).mono ?_; rintro e w' ⟨rfl, rfl⟩)
    | (go_at_call 32; refine (mark_zero _ _ _ _).mono ?_; rintro e w' ⟨rfl, rfl⟩)
    | (go_at_call 33; refine (held_zero _ _ _ _).mono ?_; rintro e w' ⟨rfl, rfl⟩))
  go_ret
  exact ⟨rfl, hb1⟩
/-- A row of strings in its block. -/
def StrBlk (w : World) (g : Nat) (L : List ByteArray) : Prop := ∃ cs : Array Value, w.heap[g]? = some (.cells cs 9 (0, 0)) ∧ L.length ≤ cs.size ∧ ∀ i (h : i < L.length), cs[i]? = some (.string L[i])
theorem StrBlk.lt {w : World} {g : Nat} {L : List ByteArray} (h : StrBlk w g L) : g < w.heap.size := by
  obtain ⟨cs, hb, _, _⟩ := h
  exact (Array.getElem?_eq_some_iff.1 hb).1
theorem StrBlk.keep {w w' : World} {g : Nat} {L : List ByteArray} (h : StrBlk w g L) (e : w'.heap[g]? = w.heap[g]?) : StrBlk w' g L := by
  obtain ⟨cs, hb, h1, h2⟩ := h
  exact ⟨cs, e.trans hb, h1, h2⟩
theorem StrBlk.below {w w' : World} {g : Nat} {L : List ByteArray} (h : StrBlk w g L) (hb : Below w.heap.size w w') : StrBlk w' g L := h.keep (hb.block g h.lt)
theorem StrBlk.both {w : World} {g d : Nat} {L : List ByteArray} (h : StrBlk w g L) (k : StrBlk w d L) : ∀ i, i < L.length → ∃ x, w.cell? ⟨g, i, none⟩ = some (.string x) ∧ w.cell? ⟨d, i, none⟩ = some (.string x) := by
  intro i hi
  obtain ⟨cs, hb, h1, h2⟩ := h
  obtain ⟨ds, kb, k1, k2⟩ := k
  exact ⟨L[i], by simp [World.cell?, hb, h2 i hi], by simp [World.cell?, kb, k2 i hi]⟩
theorem NewStrs.blk {B : Nat} {w : World} {v : Value} {L : List ByteArray} (h : NewStrs B w v L) : ∃ g cap, v = .slice (some ⟨g, 0, none⟩) L.length cap ∧ B ≤ g ∧ StrBlk w g L := by
  obtain ⟨g, cap, cs, rfl, hB, hb, h1, h2⟩ := h
  exact ⟨g, cap, rfl, hB, cs, hb, h1, h2⟩
theorem below_drewN (w : World) (q : Nat) : Below w.heap.size w (w.drewN q) := ⟨rfl, rfl, rfl, Nat.le_refl _, fun _ _ => rfl⟩
set_option maxHeartbeats 800000 in
theorem lines_walk_some (s : ByteArray) (h0 : s.size ≠ 0) (hs : s.size ≤ 1048576) (W : World) (hm : MaxLenIs W) : Calls Tryd.prog 9 #[.string s] W fun e w' => e = .returned (.bool true) ∧ Below W.heap.size W w' := by
  have hn : (linesB s).length ≤ 1048578 := by
    rw [linesB_length]
    have := countB_le nl (by decide) s.size s (Nat.le_refl _)
    omega
  have h3W : 3 < W.heap.size := by
    obtain ⟨m, hm⟩ := hm
    exact World.block_lt_of_cell? _ _ hm
  have hspec := fun w => spec_lines s h0 hs w
  have himpl := fun w hm => impl_lines s h0 hs w hm
  obtain ⟨L, hL⟩ : ∃ L, L = linesB s := ⟨_, rfl⟩
  unfold LinesPost at hspec
  unfold ImplPost at himpl
  simp only [if_neg h0] at hspec
  rw [← hL] at hn
  simp only [← hL] at hspec himpl
  clear hL h0
  have HS := Lib.hid hspec
  have HI := Lib.hid himpl
  clear hspec himpl
  go_enter Tryd.func9, Tryd.ntmps9
  -- the list of the model
  go_wp2_with (go_at_call 29; refine (HS.out _).mono ?_; rintro e w1 ⟨v0, rfl, hv0, hb1⟩; refine Hid.out ?_)
  obtain ⟨g0, c0, rfl, hg0, hk0⟩ := hv0.blk
  have hm1 := hm.below hb1
  clear hv0 hm
  refine Lib.hid ?_
  -- the list of the program
  go_wp2_with (go_at_call 25; refine (HI.out _ hm1).mono ?_; rintro e w2 ⟨v1, rfl, hv1, hb2⟩; refine Hid.out ?_)
  obtain ⟨g1, c1, rfl, hg1, hk1⟩ := hv1.blk
  have hne : g0 ≠ g1 := by have := hk0.lt; omega
  have hk0 := hk0.below hb2
  have hm2 := hm1.below hb2
  have hz1 : W.heap.size ≤ w1.heap.size := hb1.size
  have hb2 := hb1.trans (hb2.mono hb1.size)
  clear hv1 hm1 hb1
  refine Lib.hid ?_
  -- they are alike
  have hE : Calls Tryd.prog 31 #[.slice (some ⟨g1, 0, none⟩) L.length c1, .slice (some ⟨g0, 0, none⟩) L.length c0] w2 fun e w' => e = .returned (.bool true) ∧ Below w2.heap.size w2 w' :=
    (eq_row g1 g0 L.length c1 c0 (by unfold maxLen; omega) w2 (hk1.both hk0)).mono fun e w' ⟨he, q, hq⟩ => ⟨he, hq ▸ below_drewN w2 q⟩
  go_wp2_with (go_at_call 31; refine hE.mono ?_; rintro e w3 ⟨rfl, hb3⟩; refine Hid.out ?_)
  have hk0 := hk0.below hb3
  have hk1 := hk1.below hb3
  have hm3 := hm2.below hb3
  have hb3 := hb2.trans (hb3.mono hb2.size)
  clear hE hb2 hm2
  refine Lib.hid ?_
  -- the program's list is marked
  obtain ⟨cs, hcs, hcn, _⟩ := hk1
  have hM : Calls Tryd.prog 32 #[.slice (some ⟨g1, 0, none⟩) L.length c1, .int .i64 1] w3 (MarkPost w3 g1 cs.size 1 L.length) := mark_row g1 L.length c1 1 cs hcn (by omega) (by omega) w3 hcs
  unfold MarkPost at hM
  go_wp2_with (go_at_call 32; refine hM.mono ?_; rintro e w4 ⟨rfl, hgr, hMk⟩; refine Hid.out ?_)
  have hk0 := hk0.keep (hgr.block g0 hk0.lt (by simp [hne]))
  have hW1 : W.heap.size ≤ g1 := by omega
  have hm4 : MaxLenIs w4 := by
    obtain ⟨m, hm⟩ := hm3
    have h3 := World.block_lt_of_cell? _ _ hm
    exact ⟨m, (World.cell?_of_block (hgr.block 3 h3 (by simp; omega))).trans hm⟩
  have hb4 := hb3.grown hgr hb3.size (fun k hk => by cases hk; exact hW1)
  clear hM hb3 hm3 hgr hcs hcn
  refine Lib.hid ?_
  -- and held
  have hH : Calls Tryd.prog 33 #[.slice (some ⟨g1, 0, none⟩) L.length c1, .int .i64 1] w4 (HeldPost w4 1 L.length) := held_row g1 L.length c1 1 (by omega) (by omega) w4 hMk.lt (fun i hi => hMk.cell i hi)
  unfold HeldPost at hH
  go_wp2_with (go_at_call 33; refine hH.mono ?_; rintro e w5 ⟨rfl, hb5⟩; refine Hid.out ?_)
  have hk0 := hk0.below hb5
  have hMk := hMk.keep (hb5.block g1 hMk.lt)
  have hm5 := hm4.below hb5
  have hb5 := hb4.trans (hb5.mono hb4.size)
  clear hH hb4 hm4
  refine Lib.hid ?_
  -- the program's second list
  go_wp2_with (go_at_call 25; refine (HI.out _ hm5).mono ?_; rintro e w6 ⟨v2, rfl, hv2, hb6⟩; refine Hid.out ?_)
  obtain ⟨g2, c2, rfl, hg2, hk2⟩ := hv2.blk
  have hk0 := hk0.below hb6
  have hMk := hMk.keep (hb6.block g1 hMk.lt)
  have hb6 := hb5.trans (hb6.mono hb5.size)
  clear hv2 hb5 hm5 HI HS
  refine Lib.hid ?_
  have hE : Calls Tryd.prog 31 #[.slice (some ⟨g2, 0, none⟩) L.length c2, .slice (some ⟨g0, 0, none⟩) L.length c0] w6 fun e w' => e = .returned (.bool true) ∧ Below w6.heap.size w6 w' :=
    (eq_row g2 g0 L.length c2 c0 (by unfold maxLen; omega) w6 (hk2.both hk0)).mono fun e w' ⟨he, q, hq⟩ => ⟨he, hq ▸ below_drewN w6 q⟩
  go_wp2_with (go_at_call 31; refine hE.mono ?_; rintro e w7 ⟨rfl, hb7⟩; refine Hid.out ?_)
  have hMk := hMk.keep (hb7.block g1 hMk.lt)
  have hb7 := hb6.trans (hb7.mono hb6.size)
  clear hE hb6 hk0 hk2
  refine Lib.hid ?_
  have hH : Calls Tryd.prog 33 #[.slice (some ⟨g1, 0, none⟩) L.length c1, .int .i64 1] w7 (HeldPost w7 1 L.length) := held_row g1 L.length c1 1 (by omega) (by omega) w7 hMk.lt (fun i hi => hMk.cell i hi)
  unfold HeldPost at hH
  go_wp2_with (go_at_call 33; refine hH.mono ?_; rintro e w8 ⟨rfl, hb8⟩)
  go_ret
  exact ⟨rfl, hb7.trans (hb8.mono hb7.size)⟩
theorem maxlen_of {W : World} (h : W.ShapedOpen Tryd.prog) : MaxLenIs W :=
  cell_of_shapedOpen_int (zero := #[.int .i64 0]) (t := 3) h (of_decide_eq_true (by kernel_rfl)) (by kernel_rfl) rfl (by kernel_rfl) (by kernel_rfl) Tryd.underlying3
theorem lines_walk (s : ByteArray) (_hs : s.size ≤ maxLen) (W : World) (hm : MaxLenIs W) : Calls Tryd.prog 9 #[.string s] W fun e w' => e = .returned (.bool true) ∧ Below W.heap.size W w' := by
  by_cases h20 : 1048576 < s.size
  · clear hm
    go_enter Tryd.func9, Tryd.ntmps9
    go_wp2
    go_ret
    exact ⟨rfl, Below.refl _ _⟩
  · by_cases h0 : s.size = 0
    · obtain rfl : s = ⟨#[]⟩ := by
        obtain ⟨⟨l⟩⟩ := s
        cases l with
        | nil => rfl
        | cons _ _ => simp [ByteArray.size] at h0
      exact lines_walk_empty W
    · exact lines_walk_some s h0 (by omega) W hm
end Go.Proofs.YtmhlplaglnopfaaDoor
