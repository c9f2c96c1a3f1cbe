/-
  The walks of both Owner (chapter 8), and of the program's owners behind their interface.
  Conditions: none; each walk leaves old memory as it was.
-/
import Derived.Test.YtcnajmmpijhniaaKpB
import Derived.Handy
namespace Go.Proofs.Ytcnajmmpijhniaa
open Go.RowKit
/-- An owner behind the interface, by its number. -/
def ownV (o : Int) : Value := if o = 2 then .iface 59 (.agg #[]) else if o = 1 then .iface 61 (.agg #[]) else .iface 62 (.agg #[])
theorem ownI_ways (k : KeepI) (wait reading : Bool) : ownI k wait reading = 0 ∨ ownI k wait reading = 1 ∨ ownI k wait reading = 2 := by
  unfold ownI
  repeat' split
  all_goals omega
theorem ownI_no (k : KeepI) (wait : Bool) : ownI k wait false = 0 := rfl
theorem ownI_copy (k : KeepI) (wait : Bool) (h1 : 0 < k.lf) (h2 : 0 < k.bl) : ownI k wait true = 2 := by unfold ownI; simp [h1, h2]
theorem ownI_wait {k : KeepI} (h : ¬ (0 < k.lf ∧ 0 < k.bl)) (h2 : 0 < k.wl) : ownI k true true = 1 := by unfold ownI; simp [h, h2]
theorem ownI_core {k : KeepI} {wait : Bool} (h : ¬ (0 < k.lf ∧ 0 < k.bl)) (h2 : ¬ (wait = true ∧ 0 < k.wl)) : ownI k wait true = 0 := by unfold ownI; simp only [h, h2, if_true, if_false]
theorem core_number (w : World) : Calls Try.prog 75 #[.agg #[]] w fun e w' => e = .returned (.int .i64 0) ∧ Below w.heap.size w w' := by
  go_enter Try.func75, Try.ntmps75
  go_wp2
  go_ret
  exact ⟨rfl, (Below.refl _ _).alloc (Nat.le_refl _) _⟩
theorem wait_number (w : World) : Calls Try.prog 74 #[.agg #[]] w fun e w' => e = .returned (.int .i64 1) ∧ Below w.heap.size w w' := by
  go_enter Try.func74, Try.ntmps74
  go_wp2
  go_ret
  exact ⟨rfl, (Below.refl _ _).alloc (Nat.le_refl _) _⟩
theorem copy_number (w : World) : Calls Try.prog 73 #[.agg #[]] w fun e w' => e = .returned (.int .i64 2) ∧ Below w.heap.size w w' := by
  go_enter Try.func73, Try.ntmps73
  go_wp2
  go_ret
  exact ⟨rfl, (Below.refl _ _).alloc (Nat.le_refl _) _⟩
theorem own_ways (k : KeepI) (wait reading : Bool) : (reading = false ∧ ownI k wait reading = 0) ∨ (reading = true ∧ 0 < k.lf ∧ 0 < k.bl ∧ ownI k wait reading = 2) ∨
    (reading = true ∧ 0 < k.lf ∧ ¬ 0 < k.bl ∧ wait = true ∧ 0 < k.wl ∧ ownI k wait reading = 1) ∨ (reading = true ∧ ¬ 0 < k.lf ∧ wait = true ∧ 0 < k.wl ∧ ownI k wait reading = 1) ∨
    (reading = true ∧ 0 < k.lf ∧ ¬ 0 < k.bl ∧ wait = true ∧ ¬ 0 < k.wl ∧ ownI k wait reading = 0) ∨ (reading = true ∧ ¬ 0 < k.lf ∧ wait = true ∧ ¬ 0 < k.wl ∧ ownI k wait reading = 0) ∨
    (reading = true ∧ 0 < k.lf ∧ ¬ 0 < k.bl ∧ wait = false ∧ ownI k wait reading = 0) ∨ (reading = true ∧ ¬ 0 < k.lf ∧ wait = false ∧ ownI k wait reading = 0) := by
  cases reading
  · exact .inl ⟨rfl, rfl⟩
  by_cases h1 : 0 < k.lf <;> by_cases h2 : 0 < k.bl <;> cases wait <;> by_cases h3 : 0 < k.wl <;> simp [ownI, h1, h2, h3]
set_option maxHeartbeats 1000000 in
theorem spec_owner (k : KeepI) (wait reading : Bool) (w : World) : Calls Try.prog 16 #[keepV k, .bool wait, .bool reading] w fun e w' => e = .returned (.int .i64 (ownI k wait reading)) ∧ Below w.heap.size w w' := by
  have h := own_ways k wait reading
  generalize ownI k wait reading = o at h
  obtain ⟨ws, bu, wl, bl, ad, lf, sm⟩ := k
  simp only [] at h
  rw [keepV_mk]
  rcases h with ⟨rfl, rfl⟩ | ⟨rfl, h1, h2, rfl⟩ | ⟨rfl, h1, h2, rfl, h3, rfl⟩ | ⟨rfl, h1, rfl, h3, rfl⟩ | ⟨rfl, h1, h2, rfl, h3, rfl⟩ | ⟨rfl, h1, rfl, h3, rfl⟩ | ⟨rfl, h1, h2, rfl, rfl⟩ | ⟨rfl, h1, rfl, rfl⟩
  all_goals
    go_enter Try.func16, Try.ntmps16
    go_wp2
    go_ret
    exact ⟨rfl, (Below.refl _ _).alloc (Nat.le_refl _) _⟩
set_option maxHeartbeats 1000000 in
theorem owner_at (k : KeepI) (wait reading : Bool) (w : World) : Calls Try.prog 38 #[keepV k, .bool wait, .bool reading] w fun e w' => e = .returned (ownV (ownI k wait reading)) ∧ Below w.heap.size w w' := by
  have h := own_ways k wait reading
  generalize ownI k wait reading = o at h
  obtain ⟨ws, bu, wl, bl, ad, lf, sm⟩ := k
  simp only [] at h
  rw [keepV_mk]
  rcases h with ⟨rfl, rfl⟩ | ⟨rfl, h1, h2, rfl⟩ | ⟨rfl, h1, h2, rfl, h3, rfl⟩ | ⟨rfl, h1, rfl, h3, rfl⟩ | ⟨rfl, h1, h2, rfl, h3, rfl⟩ | ⟨rfl, h1, rfl, h3, rfl⟩ | ⟨rfl, h1, h2, rfl, rfl⟩ | ⟨rfl, h1, rfl, rfl⟩
  all_goals
    go_enter Try.func38, Try.ntmps38
    go_wp2
    go_ret
    exact ⟨rfl, (Below.refl _ _).alloc (Nat.le_refl _) _⟩
set_option maxHeartbeats 1000000 in
theorem impl_owner (k : KeepI) (wait reading : Bool) (w : World) : Calls Try.prog 15 #[keepV k, .bool wait, .bool reading] w fun e w' => e = .returned (.int .i64 (ownI k wait reading)) ∧ Below w.heap.size w w' := by
  have hi := Lib.hid keep_size
  have HO := Lib.hid (owner_at k wait reading)
  have h := ownI_ways k wait reading
  generalize ownI k wait reading = o at *
  obtain ⟨ws, bu, wl, bl, ad, lf, sm⟩ := k
  rw [keepV_mk] at HO ⊢
  have H0 := Lib.hid core_number
  have H1 := Lib.hid wait_number
  have H2 := Lib.hid copy_number
  have K := Lib.hid (blk_new w (.cells #[.int .i64 ws, .int .i64 bu, .int .i64 wl, .int .i64 bl, .int .i64 ad, .int .i64 lf, .int .i64 sm] 25))
  have B := Lib.hid (below_alloc (Below.refl w.heap.size w) (.cells #[.int .i64 ws, .int .i64 bu, .int .i64 wl, .int .i64 bl, .int .i64 ad, .int .i64 lf, .int .i64 sm] 25))
  rcases h with rfl | rfl | rfl
  all_goals
    unfold ownV at HO
    simp only [reduceIte, show ¬ (0 : Int) = 2 by decide, show ¬ (0 : Int) = 1 by decide, show ¬ (1 : Int) = 2 by decide] at HO
    go_enter Try.func15, Try.ntmps15
    go_wp2_with (first
      | (refine load_row rfl 25 (.tmp 3) rfl w.heap.size rfl 7 _ Try.underlying25 rfl hi.out K.out rfl ?_)
      | (go_at_call 38; refine (HO.out _).mono ?_; rintro e w1 ⟨rfl, hb⟩; refine Hid.out ?_))
    have B := Lib.hid (below_then B.out hb)
    clear hb
    refine Lib.hid ?_
    go_wp2_with (first
      | (go_at_call 75; refine (H0.out _).mono ?_; rintro e w2 ⟨rfl, hb⟩)
      | (go_at_call 74; refine (H1.out _).mono ?_; rintro e w2 ⟨rfl, hb⟩)
      | (go_at_call 73; refine (H2.out _).mono ?_; rintro e w2 ⟨rfl, hb⟩))
    go_ret
    exact ⟨rfl, below_then B.out hb⟩
end Go.Proofs.Ytcnajmmpijhniaa
