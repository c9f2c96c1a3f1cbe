/-
  What an instruction does keeps registers right (chapter 9).
  Conditions: as each says; each walk leaves old memory as it was.
-/
import Derived.Test.YtfeifcffgachoaaWoG
import Derived.Test.YtfeifcffgachoaaRgA
import Derived.Test.YtfeifcffgachoaaBvE
namespace Go.Proofs.Ytfeifcffgachoaa
open Go.RowKit
theorem keptB_wI (p f : Int) (on : Bool) (h1 : B8 f &&& B8 32 = 0) (h2 : B8 f &&& B8 16 = 0) : keptB (wI p f on) = keptB p := by
  unfold keptB
  rw [tst_far _ _ _ _ h1, tst_far _ _ _ _ h2]
theorem keptB_nzI (p v : Int) : keptB (nzI p v) = keptB p := by
  unfold nzI
  rw [keptB_wI _ _ _ (by decide) (by decide), keptB_wI _ _ _ (by decide) (by decide)]
theorem keptB_addN (p a b : Int) : keptB (addN p a b) = keptB p := by
  unfold addN tenN binN
  split
  · rw [keptB_wI _ _ _ (by decide) (by decide), keptB_wI _ _ _ (by decide) (by decide), keptB_wI _ _ _ (by decide) (by decide), keptB_nzI]
  · rw [keptB_wI _ _ _ (by decide) (by decide), keptB_wI _ _ _ (by decide) (by decide), keptB_nzI]
theorem keptB_subN (p a b : Int) : keptB (subN p a b) = keptB p := by
  unfold subN
  rw [keptB_wI _ _ _ (by decide) (by decide), keptB_wI _ _ _ (by decide) (by decide), keptB_nzI]
theorem keptB_cmpN (p a b : Int) : keptB (cmpN p a b) = keptB p := by
  unfold cmpN
  rw [keptB_wI _ _ _ (by decide) (by decide), keptB_nzI]
theorem keptB_bitN (p a b : Int) : keptB (bitN p a b) = keptB p := by
  unfold bitN
  rw [keptB_wI _ _ _ (by decide) (by decide), keptB_wI _ _ _ (by decide) (by decide), keptB_wI _ _ _ (by decide) (by decide)]
theorem keptB_mod' (p : Int) : keptB (p % 256) = keptB p := by unfold keptB; rw [tst_mod, tst_mod]
theorem keptB_shN (k p v : Int) : keptB (shN k p v) = keptB p := by
  unfold shN
  split
  · rw [keptB_wI _ _ _ (by decide) (by decide), keptB_nzI]
  · exact keptB_mod' p
theorem keptB_keptI (p : Int) : keptB (keptI p) = true := by
  unfold keptB keptI
  rw [tst_same _ 16 _ (by decide), tst_far _ 16 32 _ (by decide), tst_same _ 32 _ (by decide)]
  rfl
theorem bitN_bd' (p a v : Int) : 0 ≤ bitN p a v ∧ bitN p a v < 256 := bitN_bd p a v
/-- Right registers. -/
structure RegI.ok (k : RegI) : Prop where
  a : 0 ≤ k.a ∧ k.a ≤ 255
  x : 0 ≤ k.x ∧ k.x ≤ 255
  y : 0 ≤ k.y ∧ k.y ≤ 255
  s : 0 ≤ k.s ∧ k.s ≤ 255
  p : 0 ≤ k.p ∧ k.p < 256
  kp : keptB k.p = true
  pc : 0 ≤ k.pc ∧ k.pc ≤ 65535
theorem okR_of {k : RegI} (h : k.ok) : okR k.a k.x k.y k.s k.p k.pc = true := by
  obtain ⟨h1, h2, h3, h4, h5, h6, h7⟩ := h
  unfold okR isB isAd
  rw [h6]
  simp only [Bool.and_eq_true, decide_eq_true_eq]
  exact ⟨⟨⟨⟨⟨⟨h1, h2⟩, h3⟩, h4⟩, ⟨h5.1, by omega⟩⟩, trivial⟩, h7⟩
theorem ok_flag {k : RegI} (h : k.ok) (p : Int) (h0 : 0 ≤ p ∧ p < 256) (h1 : keptB p = keptB k.p) : RegI.ok { k with p := p } :=
  ⟨h.a, h.x, h.y, h.s, h0, h1.trans h.kp, h.pc⟩
theorem ok_a {k : RegI} (h : k.ok) (v : Int) (hv : 0 ≤ v ∧ v ≤ 255) : RegI.ok { k with a := v } := ⟨hv, h.x, h.y, h.s, h.p, h.kp, h.pc⟩
theorem ok_x {k : RegI} (h : k.ok) (v : Int) (hv : 0 ≤ v ∧ v ≤ 255) : RegI.ok { k with x := v } := ⟨h.a, hv, h.y, h.s, h.p, h.kp, h.pc⟩
theorem ok_y {k : RegI} (h : k.ok) (v : Int) (hv : 0 ≤ v ∧ v ≤ 255) : RegI.ok { k with y := v } := ⟨h.a, h.x, hv, h.s, h.p, h.kp, h.pc⟩
theorem ok_s {k : RegI} (h : k.ok) (v : Int) (hv : 0 ≤ v ∧ v ≤ 255) : RegI.ok { k with s := v } := ⟨h.a, h.x, h.y, hv, h.p, h.kp, h.pc⟩
theorem byte_ok {k : RegI} (h : k.ok) (n : ByteArray) (v : Int) : (byteI k n v).ok ∧ (byteI k n v).pc = k.pc := by
  unfold byteI
  by_cases hLDA : n = ⟨#[76, 68, 65]⟩
  · rw [if_pos hLDA]; exact ⟨ok_flag (ok_a h (v % 256) (by omega)) _ (nzI_bd _ _) (keptB_nzI _ _), rfl⟩
  rw [if_neg hLDA]
  by_cases hLDX : n = ⟨#[76, 68, 88]⟩
  · rw [if_pos hLDX]; exact ⟨ok_flag (ok_x h (v % 256) (by omega)) _ (nzI_bd _ _) (keptB_nzI _ _), rfl⟩
  rw [if_neg hLDX]
  by_cases hLDY : n = ⟨#[76, 68, 89]⟩
  · rw [if_pos hLDY]; exact ⟨ok_flag (ok_y h (v % 256) (by omega)) _ (nzI_bd _ _) (keptB_nzI _ _), rfl⟩
  rw [if_neg hLDY]
  by_cases hAND : n = ⟨#[65, 78, 68]⟩
  · rw [if_pos hAND]; exact ⟨ok_flag (ok_a h (bits .and .i64 k.a v % 256) (by omega)) _ (nzI_bd _ _) (keptB_nzI _ _), rfl⟩
  rw [if_neg hAND]
  by_cases hORA : n = ⟨#[79, 82, 65]⟩
  · rw [if_pos hORA]; exact ⟨ok_flag (ok_a h (bits .or .i64 k.a v % 256) (by omega)) _ (nzI_bd _ _) (keptB_nzI _ _), rfl⟩
  rw [if_neg hORA]
  by_cases hEOR : n = ⟨#[69, 79, 82]⟩
  · rw [if_pos hEOR]; exact ⟨ok_flag (ok_a h (bits .xor .i64 k.a v % 256) (by omega)) _ (nzI_bd _ _) (keptB_nzI _ _), rfl⟩
  rw [if_neg hEOR]
  by_cases hADC : n = ⟨#[65, 68, 67]⟩
  · rw [if_pos hADC]; exact ⟨ok_flag (ok_a h (addR k.p k.a v) (by have := addR_bd k.p k.a v; omega)) _ (addN_bd _ _ _) (keptB_addN _ _ _), rfl⟩
  rw [if_neg hADC]
  by_cases hSBC : n = ⟨#[83, 66, 67]⟩
  · rw [if_pos hSBC]; exact ⟨ok_flag (ok_a h (subR k.p k.a v) (by have := subR_bd k.p k.a v; omega)) _ (subN_bd _ _ _) (keptB_subN _ _ _), rfl⟩
  rw [if_neg hSBC]
  by_cases hCMP : n = ⟨#[67, 77, 80]⟩
  · rw [if_pos hCMP]; exact ⟨ok_flag h _ (cmpN_bd _ _ _) (keptB_cmpN _ _ _), rfl⟩
  rw [if_neg hCMP]
  by_cases hCPX : n = ⟨#[67, 80, 88]⟩
  · rw [if_pos hCPX]; exact ⟨ok_flag h _ (cmpN_bd _ _ _) (keptB_cmpN _ _ _), rfl⟩
  rw [if_neg hCPX]
  by_cases hCPY : n = ⟨#[67, 80, 89]⟩
  · rw [if_pos hCPY]; exact ⟨ok_flag h _ (cmpN_bd _ _ _) (keptB_cmpN _ _ _), rfl⟩
  rw [if_neg hCPY]
  by_cases hBIT : n = ⟨#[66, 73, 84]⟩
  · rw [if_pos hBIT]; exact ⟨ok_flag h _ (bitN_bd _ _ _) (keptB_bitN _ _ _), rfl⟩
  rw [if_neg hBIT]
  exact ⟨h, rfl⟩
theorem move_ok {k : RegI} (h : k.ok) (n : ByteArray) : (moveI k n).ok ∧ (moveI k n).pc = k.pc := by
  unfold moveI
  by_cases hTAX : n = ⟨#[84, 65, 88]⟩
  · rw [if_pos hTAX]; exact ⟨ok_flag (ok_x h (k.a % 256) (by omega)) _ (nzI_bd _ _) (keptB_nzI _ _), rfl⟩
  rw [if_neg hTAX]
  by_cases hTAY : n = ⟨#[84, 65, 89]⟩
  · rw [if_pos hTAY]; exact ⟨ok_flag (ok_y h (k.a % 256) (by omega)) _ (nzI_bd _ _) (keptB_nzI _ _), rfl⟩
  rw [if_neg hTAY]
  by_cases hTXA : n = ⟨#[84, 88, 65]⟩
  · rw [if_pos hTXA]; exact ⟨ok_flag (ok_a h (k.x % 256) (by omega)) _ (nzI_bd _ _) (keptB_nzI _ _), rfl⟩
  rw [if_neg hTXA]
  by_cases hTYA : n = ⟨#[84, 89, 65]⟩
  · rw [if_pos hTYA]; exact ⟨ok_flag (ok_a h (k.y % 256) (by omega)) _ (nzI_bd _ _) (keptB_nzI _ _), rfl⟩
  rw [if_neg hTYA]
  by_cases hTSX : n = ⟨#[84, 83, 88]⟩
  · rw [if_pos hTSX]; exact ⟨ok_flag (ok_x h (k.s % 256) (by omega)) _ (nzI_bd _ _) (keptB_nzI _ _), rfl⟩
  rw [if_neg hTSX]
  by_cases hTXS : n = ⟨#[84, 88, 83]⟩
  · rw [if_pos hTXS]; exact ⟨ok_s h _ h.x, rfl⟩
  rw [if_neg hTXS]
  by_cases hINX : n = ⟨#[73, 78, 88]⟩
  · rw [if_pos hINX]; exact ⟨ok_flag (ok_x h ((k.x + 1) % 256) (by omega)) _ (nzI_bd _ _) (keptB_nzI _ _), rfl⟩
  rw [if_neg hINX]
  by_cases hINY : n = ⟨#[73, 78, 89]⟩
  · rw [if_pos hINY]; exact ⟨ok_flag (ok_y h ((k.y + 1) % 256) (by omega)) _ (nzI_bd _ _) (keptB_nzI _ _), rfl⟩
  rw [if_neg hINY]
  by_cases hDEX : n = ⟨#[68, 69, 88]⟩
  · rw [if_pos hDEX]; exact ⟨ok_flag (ok_x h ((k.x - 1) % 256) (by omega)) _ (nzI_bd _ _) (keptB_nzI _ _), rfl⟩
  rw [if_neg hDEX]
  by_cases hDEY : n = ⟨#[68, 69, 89]⟩
  · rw [if_pos hDEY]; exact ⟨ok_flag (ok_y h ((k.y - 1) % 256) (by omega)) _ (nzI_bd _ _) (keptB_nzI _ _), rfl⟩
  rw [if_neg hDEY]
  exact ⟨h, rfl⟩
theorem flag_ok (p : Int) (h : 0 ≤ p ∧ p < 256) (n : ByteArray) : (0 ≤ flagI p n ∧ flagI p n < 256) ∧ keptB (flagI p n) = keptB p := by
  unfold flagI
  by_cases hCLC : n = ⟨#[67, 76, 67]⟩
  · rw [if_pos hCLC]; exact ⟨wI_bd _ _ _, keptB_wI _ _ _ (by decide) (by decide)⟩
  rw [if_neg hCLC]
  by_cases hSEC : n = ⟨#[83, 69, 67]⟩
  · rw [if_pos hSEC]; exact ⟨wI_bd _ _ _, keptB_wI _ _ _ (by decide) (by decide)⟩
  rw [if_neg hSEC]
  by_cases hCLI : n = ⟨#[67, 76, 73]⟩
  · rw [if_pos hCLI]; exact ⟨wI_bd _ _ _, keptB_wI _ _ _ (by decide) (by decide)⟩
  rw [if_neg hCLI]
  by_cases hSEI : n = ⟨#[83, 69, 73]⟩
  · rw [if_pos hSEI]; exact ⟨wI_bd _ _ _, keptB_wI _ _ _ (by decide) (by decide)⟩
  rw [if_neg hSEI]
  by_cases hCLV : n = ⟨#[67, 76, 86]⟩
  · rw [if_pos hCLV]; exact ⟨wI_bd _ _ _, keptB_wI _ _ _ (by decide) (by decide)⟩
  rw [if_neg hCLV]
  by_cases hCLD : n = ⟨#[67, 76, 68]⟩
  · rw [if_pos hCLD]; exact ⟨wI_bd _ _ _, keptB_wI _ _ _ (by decide) (by decide)⟩
  rw [if_neg hCLD]
  by_cases hSED : n = ⟨#[83, 69, 68]⟩
  · rw [if_pos hSED]; exact ⟨wI_bd _ _ _, keptB_wI _ _ _ (by decide) (by decide)⟩
  rw [if_neg hSED]
  exact ⟨h, rfl⟩
theorem change_ok (p : Int) (h : 0 ≤ p ∧ p < 256) (n : ByteArray) (v : Int) : (0 ≤ (changeI p n v).1 ∧ (changeI p n v).1 < 256) ∧ keptB (changeI p n v).1 = keptB p := by
  unfold changeI
  by_cases hASL : n = ⟨#[65, 83, 76]⟩
  · rw [if_pos hASL]; exact ⟨shN_bd 0 p v, keptB_shN 0 p v⟩
  rw [if_neg hASL]
  by_cases hLSR : n = ⟨#[76, 83, 82]⟩
  · rw [if_pos hLSR]; exact ⟨shN_bd 1 p v, keptB_shN 1 p v⟩
  rw [if_neg hLSR]
  by_cases hROL : n = ⟨#[82, 79, 76]⟩
  · rw [if_pos hROL]; exact ⟨shN_bd 2 p v, keptB_shN 2 p v⟩
  rw [if_neg hROL]
  by_cases hROR : n = ⟨#[82, 79, 82]⟩
  · rw [if_pos hROR]; exact ⟨shN_bd 3 p v, keptB_shN 3 p v⟩
  rw [if_neg hROR]
  by_cases hINC : n = ⟨#[73, 78, 67]⟩
  · rw [if_pos hINC]; exact ⟨nzI_bd p ((v + 1) % 256), keptB_nzI p ((v + 1) % 256)⟩
  rw [if_neg hINC]
  by_cases hDEC : n = ⟨#[68, 69, 67]⟩
  · rw [if_pos hDEC]; exact ⟨nzI_bd p ((v - 1) % 256), keptB_nzI p ((v - 1) % 256)⟩
  rw [if_neg hDEC]
  exact ⟨h, rfl⟩
theorem apply_ok {k : RegI} (h : k.ok) (n : ByteArray) (v : Int) : (applyI k n v).1.ok ∧ (applyI k n v).1.pc = k.pc := by
  obtain ⟨h1, e1⟩ := byte_ok h n (v % 256)
  obtain ⟨h2, e2⟩ := move_ok h1 n
  obtain ⟨f0, f1⟩ := flag_ok _ h2.p n
  obtain ⟨c0, c1⟩ := change_ok _ f0 n (v % 256)
  exact ⟨ok_flag h2 _ c0 (c1.trans f1), e2.trans e1⟩
end Go.Proofs.Ytfeifcffgachoaa
