/-
  The walk of the law FnHex: what is drawn is written and read as the model does, and the lowest bits of a number come back from their digits.
  Conditions: the listed variables of Go's library are as their own initialisers lay them.
-/
import Derived.Test.YtmhlplaglnopfaaDoorDrD
import Derived.Test.YtmhlplaglnopfaaDoorHxN
import Derived.Test.YtmhlplaglnopfaaDoorDlA
import Derived.Test.YtmhlplaglnopfaaDoorRhC
namespace Go.Proofs.YtmhlplaglnopfaaDoor
open Go.RowKit Go.Lib
/-- The text that HexText gives, whatever it is asked. -/
def hexAll (n d : Int) : List UInt8 := if 1 ≤ d ∧ d ≤ 8 then hexl n d.toNat else []
theorem spec_hex_all (n d : Int) (w : World) : Calls Tryd.prog 21 #[.int .i64 n, .int .i64 d] w fun e w' => e = .returned (.string ⟨(hexAll n d).toArray⟩) ∧ Below w.heap.size w w' := by
  unfold hexAll
  by_cases h : 1 ≤ d ∧ d ≤ 8
  · rw [if_pos h]
    obtain ⟨D, rfl⟩ : ∃ D : Nat, d = D := ⟨d.toNat, by omega⟩
    exact spec_hex n D (by omega) (by omega) w
  · rw [if_neg h]
    exact (spec_hex_no n d (by omega) w).mono fun e w' ⟨he, hw⟩ => ⟨he, hw ▸ Below.refl _ _⟩
theorem impl_hex_all (n d : Int) (w : World) : Calls Tryd.prog 19 #[.int .i64 n, .int .i64 d] w fun e w' => e = .returned (.string ⟨(hexAll n d).toArray⟩) ∧ Below w.heap.size w w' := by
  unfold hexAll
  by_cases h : 1 ≤ d ∧ d ≤ 8
  · rw [if_pos h]
    obtain ⟨D, rfl⟩ : ∃ D : Nat, d = D := ⟨d.toNat, by omega⟩
    exact impl_hex n D (by omega) (by omega) w
  · rw [if_neg h]
    exact (impl_hex_no n d (by omega) w).mono fun e w' ⟨he, hw⟩ => ⟨he, hw ▸ Below.refl _ _⟩
set_option maxHeartbeats 1000000 in
/-- The law behind its draws: n, d, the text t that was drawn. -/
theorem hex_law (A : Option Addr) (n c : Nat) (W : World) (hrow : RowB W A n) (hL : LibOk W) :
    Calls Tryd.prog 4 #[.slice A n c] W fun e w' => e = .returned (.bool true) ∧ Below W.heap.size W w' := by
  have hm := hrow.1
  unfold maxLen at hm
  by_cases hbig : 1048576 < n
  · clear hrow hL
    go_enter Tryd.func4, Tryd.ntmps4
    go_wp2_with (go_in)
    go_ret
    exact ⟨rfl, Below.refl _ _⟩
  · have hcode := hrow.code (by omega)
    have hD := drawHexText_any W.heap.size n c A W (Nat.le_refl _) hcode
    unfold TwoPost at hD
    clear hrow
    go_enter Tryd.func4, Tryd.ntmps4
    go_wp2_with (first
      | (go_at_call 11; go_in)
      | (go_at_call 18; refine hD.mono ?_; rintro e w1 ⟨x, d, rfl, hx, hd, hb1⟩; refine Hid.out ?_))
    have hL1 := hL.below hb1
    have hI := impl_hex_all x d w1
    clear hD hL
    refine Lib.hid ?_
    go_wp2_with (go_at_call 19; refine hI.mono ?_; rintro e w2 ⟨rfl, hb2⟩; refine Hid.out ?_)
    have hL2 := hL1.below hb2
    have hb2 := hb1.trans (hb2.mono hb1.size)
    have hD := drawReadHex_any W.heap.size n c A w2 hb2.size (hcode.below (Nat.le_refl _) hb2)
    unfold Str2Post at hD
    clear hI hL1 hb1 hcode
    refine Lib.hid ?_
    go_wp2_with (go_at_call 20; refine hD.mono ?_; rintro e w3 ⟨r, rfl, hr, hb3⟩; refine Hid.out ?_)
    have hL3 := hL2.below hb3
    have hb3 := hb2.trans (hb3.mono hb2.size)
    have hS := spec_hex_all x d w3
    have hR := fun (w4 : World) (hb4 : Below w3.heap.size w3 w4) => impl_rh r w4 (hL3.below hb4).syn
    have hQ := spec_rh r (by unfold maxLen; omega)
    have hR2 := fun (w4 : World) (hb4 : Below w3.heap.size w3 w4) => impl_rh ⟨(hexAll x d).toArray⟩ w4 (hL3.below hb4).syn
    clear hD hL2 hb2 hL3
    refine Lib.hid ?_
    go_wp2_with (first
        | (go_at_call 21; refine hS.mono ?_; rintro e w4 ⟨rfl, hb4⟩)
        | (go_at_call 22; refine (hR _ hb4).mono ?_; rintro e w5 ⟨rfl, hb5⟩)
        | (go_at_call 23; refine (hQ _).mono ?_; rintro e w' ⟨rfl, rfl⟩; refine Hid.out ?_))
    have hb5 := hb4.trans (hb5.mono hb4.size)
    have hR3 := hR2 w5 hb5
    have hb6 := hb3.trans (hb5.mono hb3.size)
    clear hR hR2 hS hQ hb4 hb3
    by_cases hin : 1 ≤ d ∧ d ≤ 8
    · obtain rfl | rfl | rfl | rfl | rfl | rfl | rfl | rfl : d = 1 ∨ d = 2 ∨ d = 3 ∨ d = 4 ∨ d = 5 ∨ d = 6 ∨ d = 7 ∨ d = 8 := by omega
      · have he : hexAll x 1 = hexl x 1 := by unfold hexAll; rw [if_pos (by omega)]; rfl
        have hlen : (hexl x 1).length = 1 := hexl_length x 1
        have hv : rh (hexl x 1) = x % 16 := rh_hexl x 1 (by omega) (by omega)
        have hmask : bits .and .i64 x 15 = x % 16 := i64_mask 4 (by omega) x 15 (by decide)
        simp only [he, hv] at hR3 ⊢
        clear he hv
        refine Lib.hid ?_
        go_wp2_with (go_at_call 22; refine hR3.mono ?_; rintro e w6 ⟨rfl, hb7⟩)
        go_ret
        exact ⟨rfl, hb6.trans (hb7.mono hb6.size)⟩
      · have he : hexAll x 2 = hexl x 2 := by unfold hexAll; rw [if_pos (by omega)]; rfl
        have hlen : (hexl x 2).length = 2 := hexl_length x 2
        have hv : rh (hexl x 2) = x % 256 := rh_hexl x 2 (by omega) (by omega)
        have hmask : bits .and .i64 x 255 = x % 256 := i64_mask 8 (by omega) x 255 (by decide)
        simp only [he, hv] at hR3 ⊢
        clear he hv
        refine Lib.hid ?_
        go_wp2_with (go_at_call 22; refine hR3.mono ?_; rintro e w6 ⟨rfl, hb7⟩)
        go_ret
        exact ⟨rfl, hb6.trans (hb7.mono hb6.size)⟩
      · have he : hexAll x 3 = hexl x 3 := by unfold hexAll; rw [if_pos (by omega)]; rfl
        have hlen : (hexl x 3).length = 3 := hexl_length x 3
        have hv : rh (hexl x 3) = x % 4096 := rh_hexl x 3 (by omega) (by omega)
        have hmask : bits .and .i64 x 4095 = x % 4096 := i64_mask 12 (by omega) x 4095 (by decide)
        simp only [he, hv] at hR3 ⊢
        clear he hv
        refine Lib.hid ?_
        go_wp2_with (go_at_call 22; refine hR3.mono ?_; rintro e w6 ⟨rfl, hb7⟩)
        go_ret
        exact ⟨rfl, hb6.trans (hb7.mono hb6.size)⟩
      · have he : hexAll x 4 = hexl x 4 := by unfold hexAll; rw [if_pos (by omega)]; rfl
        have hlen : (hexl x 4).length = 4 := hexl_length x 4
        have hv : rh (hexl x 4) = x % 65536 := rh_hexl x 4 (by omega) (by omega)
        have hmask : bits .and .i64 x 65535 = x % 65536 := i64_mask 16 (by omega) x 65535 (by decide)
        simp only [he, hv] at hR3 ⊢
        clear he hv
        refine Lib.hid ?_
        go_wp2_with (go_at_call 22; refine hR3.mono ?_; rintro e w6 ⟨rfl, hb7⟩)
        go_ret
        exact ⟨rfl, hb6.trans (hb7.mono hb6.size)⟩
      · have he : hexAll x 5 = hexl x 5 := by unfold hexAll; rw [if_pos (by omega)]; rfl
        have hlen : (hexl x 5).length = 5 := hexl_length x 5
        have hv : rh (hexl x 5) = x % 1048576 := rh_hexl x 5 (by omega) (by omega)
        have hmask : bits .and .i64 x 1048575 = x % 1048576 := i64_mask 20 (by omega) x 1048575 (by decide)
        simp only [he, hv] at hR3 ⊢
        clear he hv
        refine Lib.hid ?_
        go_wp2_with (go_at_call 22; refine hR3.mono ?_; rintro e w6 ⟨rfl, hb7⟩)
        go_ret
        exact ⟨rfl, hb6.trans (hb7.mono hb6.size)⟩
      · have he : hexAll x 6 = hexl x 6 := by unfold hexAll; rw [if_pos (by omega)]; rfl
        have hlen : (hexl x 6).length = 6 := hexl_length x 6
        have hv : rh (hexl x 6) = x % 16777216 := rh_hexl x 6 (by omega) (by omega)
        have hmask : bits .and .i64 x 16777215 = x % 16777216 := i64_mask 24 (by omega) x 16777215 (by decide)
        simp only [he, hv] at hR3 ⊢
        clear he hv
        refine Lib.hid ?_
        go_wp2_with (go_at_call 22; refine hR3.mono ?_; rintro e w6 ⟨rfl, hb7⟩)
        go_ret
        exact ⟨rfl, hb6.trans (hb7.mono hb6.size)⟩
      · have he : hexAll x 7 = hexl x 7 := by unfold hexAll; rw [if_pos (by omega)]; rfl
        have hlen : (hexl x 7).length = 7 := hexl_length x 7
        have hv : rh (hexl x 7) = x % 268435456 := rh_hexl x 7 (by omega) (by omega)
        have hmask : bits .and .i64 x 268435455 = x % 268435456 := i64_mask 28 (by omega) x 268435455 (by decide)
        simp only [he, hv] at hR3 ⊢
        clear he hv
        refine Lib.hid ?_
        go_wp2_with (go_at_call 22; refine hR3.mono ?_; rintro e w6 ⟨rfl, hb7⟩)
        go_ret
        exact ⟨rfl, hb6.trans (hb7.mono hb6.size)⟩
      · have he : hexAll x 8 = hexl x 8 := by unfold hexAll; rw [if_pos (by omega)]; rfl
        have hlen : (hexl x 8).length = 8 := hexl_length x 8
        have hv : rh (hexl x 8) = -1 := rh_hexl8 x
        simp only [he, hv] at hR3 ⊢
        clear he hv
        refine Lib.hid ?_
        go_wp2_with (go_at_call 22; refine hR3.mono ?_; rintro e w6 ⟨rfl, hb7⟩)
        go_ret
        exact ⟨rfl, hb6.trans (hb7.mono hb6.size)⟩
    · have he : hexAll x d = [] := by unfold hexAll; rw [if_neg hin]
      simp only [he] at hR3 ⊢
      clear hR3 he
      by_cases h1 : d < 1
      · clear hin
        refine Lib.hid ?_
        go_wp2
        go_ret
        exact ⟨rfl, hb6⟩
      · have h8 : 8 < d := by omega
        clear hin
        refine Lib.hid ?_
        go_wp2
        go_ret
        exact ⟨rfl, hb6⟩
theorem hex_law_walk (A : Option Addr) (n c : Nat) (W : World) (hrow : RowB W A n) (hL : laidMet Tryd.prog Rows.fnHexRow.laid W) :
    Calls Tryd.prog 4 #[.slice A n c] W fun e w' => e = .returned (.bool true) ∧ Below W.heap.size W w' := hex_law A n c W hrow (libOk_of hL)
end Go.Proofs.YtmhlplaglnopfaaDoor
