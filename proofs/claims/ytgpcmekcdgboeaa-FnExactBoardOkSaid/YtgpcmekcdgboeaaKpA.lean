/-
  Plain facts on the keeper of the bus (chapter 8): what a right keeper is; who has the bus; what is spent, copied, read and written.
  Conditions: as each lemma says.
-/
import Derived.Test.YtgpcmekcdgboeaaChA
namespace Go.Proofs.Ytgpcmekcdgboeaa
structure KeepI where
  ws : Int
  bu : Int
  wl : Int
  bl : Int
  ad : Int
  lf : Int
  sm : Int
def keepC (k : KeepI) : Array Value := #[.int .i64 k.ws, .int .i64 k.bu, .int .i64 k.wl, .int .i64 k.bl, .int .i64 k.ad, .int .i64 k.lf, .int .i64 k.sm]
def keepV (k : KeepI) : Value := .agg (keepC k)
theorem keepV_mk (ws bu wl bl ad lf sm : Int) : keepV ⟨ws, bu, wl, bl, ad, lf, sm⟩ = .agg #[.int .i64 ws, .int .i64 bu, .int .i64 wl, .int .i64 bl, .int .i64 ad, .int .i64 lf, .int .i64 sm] := rfl
/-- The numbers are those of their kind. -/
structure KeepI.fits (k : KeepI) : Prop where
  ws : i64I k.ws
  bu : i64I k.bu
  wl : i64I k.wl
  bl : i64I k.bl
  ad : i64I k.ad
  lf : i64I k.lf
  sm : i64I k.sm
def isUp (n m : Int) : Bool := decide (0 ≤ n ∧ n ≤ m)
theorem isUp_yes {n m : Int} (h : isUp n m = true) : 0 ≤ n ∧ n ≤ m := of_decide_eq_true h
theorem isUp_no {n m : Int} (h : isUp n m = false) : n < 0 ∨ m < n := by have := of_decide_eq_false h; omega
/-- What a right keeper is. -/
def okK (k : KeepI) : Bool := isUp k.ws 8 && isUp k.bu 8 && isUp k.wl k.ws && isUp k.bl k.bu && isAd k.ad && isB k.lf && isB k.sm
structure KeepI.right (k : KeepI) : Prop where
  ws : 0 ≤ k.ws ∧ k.ws ≤ 8
  bu : 0 ≤ k.bu ∧ k.bu ≤ 8
  wl : 0 ≤ k.wl ∧ k.wl ≤ k.ws
  bl : 0 ≤ k.bl ∧ k.bl ≤ k.bu
  ad : 0 ≤ k.ad ∧ k.ad ≤ 65535
  lf : 0 ≤ k.lf ∧ k.lf ≤ 255
  sm : 0 ≤ k.sm ∧ k.sm ≤ 255
theorem okK_iff (k : KeepI) : okK k = true ↔ k.right := by
  unfold okK isAd isB isUp
  simp only [Bool.and_eq_true, decide_eq_true_eq]
  constructor
  · rintro ⟨⟨⟨⟨⟨⟨h1, h2⟩, h3⟩, h4⟩, h5⟩, h6⟩, h7⟩
    exact ⟨h1, h2, h3, h4, h5, h6, h7⟩
  · rintro ⟨h1, h2, h3, h4, h5, h6, h7⟩
    exact ⟨⟨⟨⟨⟨⟨h1, h2⟩, h3⟩, h4⟩, h5⟩, h6⟩, h7⟩
/-- In the order in which the program asks. -/
theorem okK_prog (ws bu wl bl ad lf sm : Int) : okK ⟨ws, bu, wl, bl, ad, lf, sm⟩ = (isUp ws 8 && isUp wl ws && (isUp bu 8 && isUp bl bu) && isAd ad && isB lf && isB sm) := by
  unfold okK
  simp only []
  cases isUp ws 8 <;> cases isUp bu 8 <;> cases isUp wl ws <;> cases isUp bl bu <;> rfl
theorem KeepI.right.fits {k : KeepI} (h : k.right) : k.fits := by
  obtain ⟨a1, a2, a3, a4, a5, a6, a7⟩ := h
  constructor <;> unfold i64I <;> omega
/-- Who has the bus. -/
def ownI (k : KeepI) (wait reading : Bool) : Int := if reading then (if 0 < k.lf ∧ 0 < k.bl then 2 else if wait = true ∧ 0 < k.wl then 1 else 0) else 0
/-- One less, but not below nought. -/
def lessI (n : Int) : Int := if n = 0 then 0 else n - 1
def spendR (k : KeepI) (o : Int) : KeepI := if o = 0 then { k with wl := k.ws, bl := k.bu } else if o = 1 then { k with wl := lessI k.wl } else if o = 2 then { k with bl := lessI k.bl } else k
def spendI (k : KeepI) (o : Int) : KeepI := if okK k then spendR k o else k
def copyR (k : KeepI) (v : Int) : KeepI := { k with sm := (k.sm + v) % 256, ad := (k.ad + 1) % 65536, lf := k.lf - 1 }
def copyI (k : KeepI) (v : Int) : KeepI := if okK k = true ∧ ¬ k.lf = 0 then copyR k v else k
def readKR (k : KeepI) (r : Int) : Int := if r = 0 then k.ad % 256 else if r = 1 then k.ad / 256 else if r = 2 then k.lf else k.sm
def readKI (k : KeepI) (r : Int) : Int := if okK k then readKR k (r % 4) else 0
def writeKR (k : KeepI) (r v : Int) : KeepI := if r = 0 then { k with ad := k.ad / 256 * 256 + v } else if r = 1 then { k with ad := v * 256 + k.ad % 256 } else if r = 2 then { k with lf := v } else { k with sm := v }
def writeKI (k : KeepI) (r v : Int) : KeepI := if okK k then writeKR k (r % 4) (v % 256) else k
theorem spendR_right {k : KeepI} (h : k.right) (o : Int) : (spendR k o).right := by
  have h' := h
  obtain ⟨h1, h2, h3, h4, h5, h6, h7⟩ := h
  unfold spendR
  repeat' (refine ite_has (P := KeepI.right) ?_ ?_)
  · exact ⟨h1, h2, by show 0 ≤ k.ws ∧ k.ws ≤ k.ws; omega, by show 0 ≤ k.bu ∧ k.bu ≤ k.bu; omega, h5, h6, h7⟩
  · exact ⟨h1, h2, by show 0 ≤ lessI k.wl ∧ lessI k.wl ≤ k.ws; unfold lessI; split <;> omega, h4, h5, h6, h7⟩
  · exact ⟨h1, h2, h3, by show 0 ≤ lessI k.bl ∧ lessI k.bl ≤ k.bu; unfold lessI; split <;> omega, h5, h6, h7⟩
  · exact h'
theorem copyR_right {k : KeepI} (h : k.right) (hl : ¬ k.lf = 0) (v : Int) : (copyR k v).right := by
  obtain ⟨h1, h2, h3, h4, h5, h6, h7⟩ := h
  refine ⟨h1, h2, h3, h4, ?_, ?_, ?_⟩
  · show 0 ≤ (k.ad + 1) % 65536 ∧ (k.ad + 1) % 65536 ≤ 65535
    omega
  · show 0 ≤ k.lf - 1 ∧ k.lf - 1 ≤ 255
    omega
  · show 0 ≤ (k.sm + v) % 256 ∧ (k.sm + v) % 256 ≤ 255
    omega
theorem writeKR_right {k : KeepI} (h : k.right) (r v : Int) (hv : 0 ≤ v ∧ v ≤ 255) : (writeKR k r v).right := by
  obtain ⟨h1, h2, h3, h4, h5, h6, h7⟩ := h
  unfold writeKR
  repeat' (refine ite_has (P := KeepI.right) ?_ ?_)
  · exact ⟨h1, h2, h3, h4, by show 0 ≤ k.ad / 256 * 256 + v ∧ k.ad / 256 * 256 + v ≤ 65535; omega, h6, h7⟩
  · exact ⟨h1, h2, h3, h4, by show 0 ≤ v * 256 + k.ad % 256 ∧ v * 256 + k.ad % 256 ≤ 65535; omega, h6, h7⟩
  · exact ⟨h1, h2, h3, h4, h5, hv, h7⟩
  · exact ⟨h1, h2, h3, h4, h5, h6, hv⟩
theorem spendI_fits {k : KeepI} (h : k.fits) (o : Int) : (spendI k o).fits := by
  unfold spendI
  split
  · exact (spendR_right ((okK_iff k).1 ‹_›) o).fits
  · exact h
theorem copyI_fits {k : KeepI} (h : k.fits) (v : Int) : (copyI k v).fits := by
  unfold copyI
  split
  · rename_i hk
    exact (copyR_right ((okK_iff k).1 hk.1) hk.2 v).fits
  · exact h
theorem writeKI_fits {k : KeepI} (h : k.fits) (r v : Int) : (writeKI k r v).fits := by
  unfold writeKI
  split
  · exact (writeKR_right ((okK_iff k).1 ‹_›) _ _ (by omega)).fits
  · exact h
end Go.Proofs.Ytgpcmekcdgboeaa
