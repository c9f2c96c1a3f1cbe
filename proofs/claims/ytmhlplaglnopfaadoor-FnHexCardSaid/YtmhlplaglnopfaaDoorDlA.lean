/-
  The walk of the law FnDec: what is drawn is written and read as the model does, and numbers come back from their texts.
  Conditions: the listed variables of Go's library are as their own initialisers lay them.
-/
import Derived.Test.YtmhlplaglnopfaaDoorDrB
import Derived.Test.YtmhlplaglnopfaaDoorRdC
namespace Go.Proofs.YtmhlplaglnopfaaDoor
open Go.RowKit Go.Lib
structure LibOk (w : World) : Prop where
  tab : TabIs Tryd.prog w "internal/strconv.uint64pow10" .u64 pow10Tab
  rng : ∃ x, w.var? Tryd.prog "strconv.ErrRange" = some #[.iface 105 x]
  syn : ∃ x, w.var? Tryd.prog "strconv.ErrSyntax" = some #[.iface 105 x]
theorem var_below {w w' : World} {name : String} {g : Nat} {v : Array Value} (hg : Tryd.prog.globalNamed name = some g) (hlt : g < w.heap.size) (h : w.var? Tryd.prog name = some v) (hb : Below w.heap.size w w') : w'.var? Tryd.prog name = some v := by
  have e := hb.block g hlt
  unfold World.var? at h ⊢
  rw [hg] at h ⊢
  simpa [e] using h
theorem LibOk.below {w w' : World} (h : LibOk w) (hb : Below w.heap.size w w') : LibOk w' := by
  have hl := tab_lt h.tab
  obtain ⟨x, hx⟩ := h.rng
  obtain ⟨y, hy⟩ := h.syn
  exact ⟨tab_below h.tab hl hb, ⟨x, var_below gER (by omega) hx hb⟩, ⟨y, var_below gES (by omega) hy hb⟩⟩
theorem libOk_of {W : World} (h : laidMet Tryd.prog Rows.fnExactReadDecRow.laid W) : LibOk W := by
  obtain ⟨hR, hS⟩ := errs_of h
  exact ⟨tab10 h, hR, hS⟩
theorem rd_itoa_yes (x : Int) (h0 : 0 ≤ x) (h9 : x ≤ 999999999) : rd (itoa x) = x := rd_ok_yes _ x h0 h9 rfl
theorem rd_itoa_no (x : Int) (h : x < 0 ∨ 999999999 < x) : rd (itoa x) = -1 := by
  by_cases hn : x < 0
  · refine rd_bad _ 45 ?_ (by decide)
    unfold itoa
    rw [if_pos hn]; simp
  · obtain ⟨u, rfl⟩ : ∃ u : Nat, x = u := ⟨x.toNat, by omega⟩
    unfold rd itoa
    rw [if_neg hn, if_neg]
    rintro ⟨_, h2⟩
    have h3 := decVal_lt _ (decDigits_dig u)
    rw [decVal_digits] at h3
    have h4 := pow10_le9 _ h2
    have e : ((u : Int)).toNat = u := by omega
    rw [e] at h4
    omega
set_option maxHeartbeats 1000000 in
theorem dec_law (A : Option Addr) (n c : Nat) (W : World) (hrow : RowB W A n) (hL : LibOk W) :
    Calls Tryd.prog 3 #[.slice A n c] W fun e w' => e = .returned (.bool true) ∧ Below W.heap.size W w' := by
  have hm := hrow.1
  unfold maxLen at hm
  by_cases hbig : 1048576 < n
  · clear hrow hL
    go_enter Tryd.func3, Tryd.ntmps3
    go_wp2_with (go_in)
    go_ret
    exact ⟨rfl, Below.refl _ _⟩
  · have hcode := hrow.code (by omega)
    have hD := drawDecText_any W.heap.size n c A W (Nat.le_refl _) hcode
    unfold IntPost at hD
    clear hrow
    go_enter Tryd.func3, Tryd.ntmps3
    go_wp2_with (first
      | (go_at_call 11; go_in)
      | (go_at_call 12; refine hD.mono ?_; rintro e w1 ⟨x, rfl, hx, hb1⟩; refine Hid.out ?_))
    obtain ⟨x0, x1⟩ := hx
    have hL1 := hL.below hb1
    have hI := impl_dec x x0 x1 w1 hL1.tab
    clear hD hL
    refine Lib.hid ?_
    go_wp2_with (go_at_call 13; refine hI.mono ?_; rintro e w2 ⟨rfl, hb2⟩; refine Hid.out ?_)
    have hL2 := hL1.below hb2
    have hb2 := hb1.trans (hb2.mono hb1.size)
    have hD := drawReadDec_any W.heap.size n c A w2 hb2.size (hcode.below (Nat.le_refl _) hb2)
    unfold StrPost at hD
    clear hI hL1 hb1 hcode
    refine Lib.hid ?_
    go_wp2_with (go_at_call 14; refine hD.mono ?_; rintro e w3 ⟨r, rfl, hr, hb3⟩; refine Hid.out ?_)
    have hL3 := hL2.below hb3
    have hb3 := hb2.trans (hb3.mono hb2.size)
    have hS := spec_dec x x0 x1
    have hR := impl_rd r (by omega) w3 hL3.tab hL3.rng hL3.syn
    have hQ := spec_rd r (by unfold maxLen; omega)
    have hsz : (⟨(itoa x).toArray⟩ : ByteArray).size ≤ 281474976710656 := by
      show (itoa x).toArray.size ≤ _
      unfold itoa
      split
      · have := decDigits_le20 x.natAbs (by omega); simp; omega
      · have := decDigits_le20 x.toNat (by omega); simp; omega
    have hR2 := fun (w4 : World) (hb4 : Below w3.heap.size w3 w4) => impl_rd ⟨(itoa x).toArray⟩ hsz w4 (hL3.below hb4).tab (hL3.below hb4).rng (hL3.below hb4).syn
    clear hD hL2 hb2 hL3 hsz
    refine Lib.hid ?_
    by_cases hin : 0 ≤ x ∧ x ≤ 999999999
    · have hv := rd_itoa_yes x hin.1 hin.2
      obtain ⟨i0, i1⟩ := hin
      simp only [hv] at hR2
      clear hv
      go_wp2_with (first
        | (go_at_call 15; refine (hS _).mono ?_; rintro e w' ⟨rfl, rfl⟩)
        | (go_at_call 17; refine (hQ _).mono ?_; rintro e w' ⟨rfl, rfl⟩)
        | (go_at_call 16; (with_reducible refine hR.mono ?_); rintro e w4 ⟨rfl, hb4⟩)
        | (go_at_call 16; refine (hR2 _ hb4).mono ?_; rintro e w5 ⟨rfl, hb5⟩))
      go_ret
      exact ⟨rfl, (hb3.trans (hb4.mono hb3.size)).trans (hb5.mono (Nat.le_trans hb3.size hb4.size))⟩
    · have hv := rd_itoa_no x (by omega)
      simp only [hv] at hR2
      clear hv
      by_cases h0 : 0 ≤ x
      · have h9 : ¬ x ≤ 999999999 := by omega
        clear hin
        go_wp2_with (first
          | (go_at_call 15; refine (hS _).mono ?_; rintro e w' ⟨rfl, rfl⟩)
          | (go_at_call 17; refine (hQ _).mono ?_; rintro e w' ⟨rfl, rfl⟩)
          | (go_at_call 16; (with_reducible refine hR.mono ?_); rintro e w4 ⟨rfl, hb4⟩)
          | (go_at_call 16; refine (hR2 _ hb4).mono ?_; rintro e w5 ⟨rfl, hb5⟩))
        go_ret
        exact ⟨rfl, (hb3.trans (hb4.mono hb3.size)).trans (hb5.mono (Nat.le_trans hb3.size hb4.size))⟩
      · clear hin
        go_wp2_with (first
          | (go_at_call 15; refine (hS _).mono ?_; rintro e w' ⟨rfl, rfl⟩)
          | (go_at_call 17; refine (hQ _).mono ?_; rintro e w' ⟨rfl, rfl⟩)
          | (go_at_call 16; (with_reducible refine hR.mono ?_); rintro e w4 ⟨rfl, hb4⟩)
          | (go_at_call 16; refine (hR2 _ hb4).mono ?_; rintro e w5 ⟨rfl, hb5⟩))
        go_ret
        exact ⟨rfl, (hb3.trans (hb4.mono hb3.size)).trans (hb5.mono (Nat.le_trans hb3.size hb4.size))⟩
theorem dec_law_walk (A : Option Addr) (n c : Nat) (W : World) (hrow : RowB W A n) (hL : laidMet Tryd.prog Rows.fnDecRow.laid W) :
    Calls Tryd.prog 3 #[.slice A n c] W fun e w' => e = .returned (.bool true) ∧ Below W.heap.size W w' := dec_law A n c W hrow (libOk_of hL)
end Go.Proofs.YtmhlplaglnopfaaDoor
