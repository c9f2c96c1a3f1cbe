/-
  The walks of spec.l04Is and spec.ModeSize: whether a text is one of a list of words, and how many bytes a mode has.
  Conditions: none; each walk leaves old memory as it was.
-/
import Derived.Test.YtboeaeoefoabdaaGreatDoorWsC
import Derived.Test.YtboeaeoefoabdaaGreatDoorTwo
import Derived.Test.YtboeaeoefoabdaaGreatDoorTbC
namespace Go.Proofs.YtboeaeoefoabdaaGreatDoor
open Go.RowKit
set_option maxRecDepth 100000 in
set_option maxHeartbeats 400000 in
theorem spec_is (x : ByteArray) (ws : List (List UInt8)) (hne : 0 < ws.length) (hok : ∀ w ∈ ws, w ≠ [] ∧ ∀ c ∈ w, bl c = false) (hs : (joinB ws).length ≤ 1048576) (hn : ws.length ≤ 1000) (w : World) :
    Calls Tryz.prog 67 #[.string x, .string ⟨(joinB ws).toArray⟩] w fun e w' => e = .returned (.bool (inB x ws)) ∧ Below w.heap.size w w' := by
  have hw := Lib.hid (spec_words_of ws hne hok hs)
  clear hne hok hs
  generalize (⟨(joinB ws).toArray⟩ : ByteArray) = J at *
  have hin := Lib.hid (inB_at x ws)
  obtain ⟨n, hlen⟩ : ∃ n, n = ws.length := ⟨_, rfl⟩
  have HL := Lib.hid hlen
  go_enter Tryz.func67, Tryz.ntmps67
  go_wp2_with (go_at_call 41; refine (hw.out _).mono ?_; rintro e w' ⟨g, cap, rfl, hc, hb⟩; refine Hid.out ?_)
  rw [← hlen]
  have HC := Lib.hid hc
  have HB := Lib.hid hb
  clear hc hb hw
  rw [← hlen] at hn
  clear hlen
  refine Lib.hid ?_
  go_wp2
  go_loopw [6] (fun v4 wr => ∃ k : Nat, k ≤ n ∧ v4 = .int .i64 (k : Int) ∧ Hid (∀ j (hj : j < ws.length), j < k → (⟨ws[j].toArray⟩ : ByteArray) ≠ x) ∧ wr = w') (fun v4 _ => n - (intOf v4).toNat)
  case atStart => exact ⟨0, by omega, rfl, Lib.hid (fun j _ hj => absurd hj (Nat.not_lt_zero _)), rfl⟩
  case round =>
    obtain ⟨k, hk, rfl, hp, rfl⟩ := hrel
    by_cases hlt : k < n
    · have hkl : k < ws.length := by rw [← HL.out]; exact hlt
      have h0 := HC.out k hkl
      have hh := hin.out
      by_cases he : (⟨ws[k].toArray⟩ : ByteArray) = x
      · have hH := Lib.hid (hh.1 k hkl he)
        subst he
        clear hh hp
        go_wp2
        go_ret
        exact ⟨by rw [hH.out]; rfl, HB.out⟩
      · have hne := eq_no he
        have hp3 := Lib.hid (fun j (hj : j < ws.length) (hjk : j < k + 1) => (by
          by_cases hj2 : j = k
          · subst hj2; exact he
          · exact hp.out j hj (by omega) : (⟨ws[j].toArray⟩ : ByteArray) ≠ x))
        clear hh hp he
        generalize (⟨ws[k].toArray⟩ : ByteArray) = R at *
        go_wp2
        go_roundw
        case rel => exact ⟨k + 1, by omega, by go_num, hp3, trivial⟩
        case measure => simp [intOf]; omega
    · obtain rfl : k = n := by omega
      have hH := Lib.hid (hin.out.2 (fun j hj => hp.out j hj (by rw [HL.out]; exact hj)))
      go_wp2
      go_ret
      exact ⟨by rw [hH.out]; rfl, HB.out⟩
theorem is_1 (x : ByteArray) (w : World) : Calls Tryz.prog 67 #[.string x, .string ⟨#[105, 109, 112, 32, 97, 99, 99]⟩] w fun e w' => e = .returned (.bool (inB x ws1)) ∧ Below w.heap.size w w' :=
  spec_is x ws1 (by decide) (ok_words _ (by decide)) (by decide) (by decide) w
theorem is_3 (x : ByteArray) (w : World) : Calls Tryz.prog 67 #[.string x, .string ⟨#[97, 98, 115, 32, 97, 98, 120, 32, 97, 98, 121, 32, 105, 110, 100]⟩] w fun e w' => e = .returned (.bool (inB x ws3)) ∧ Below w.heap.size w w' :=
  spec_is x ws3 (by decide) (ok_words _ (by decide)) (by decide) (by decide) w
theorem is_2 (x : ByteArray) (w : World) : Calls Tryz.prog 67 #[.string x, .string ⟨#[105, 109, 109, 32, 122, 112, 103, 32, 122, 112, 120, 32, 122, 112, 121, 32, 105, 110, 120, 32, 105, 110, 121, 32, 114, 101, 108]⟩] w fun e w' => e = .returned (.bool (inB x ws2)) ∧ Below w.heap.size w w' :=
  spec_is x ws2 (by decide) (ok_words _ (by decide)) (by decide) (by decide) w
theorem is_own (x : ByteArray) (w : World) : Calls Tryz.prog 67 #[.string x, .string ⟨#[105, 109, 112, 32, 97, 99, 99, 32, 114, 101, 108]⟩] w fun e w' => e = .returned (.bool (inB x wsOwn)) ∧ Below w.heap.size w w' :=
  spec_is x wsOwn (by decide) (ok_words _ (by decide)) (by decide) (by decide) w
theorem is_j (x : ByteArray) (w : World) : Calls Tryz.prog 67 #[.string x, .string ⟨#[74, 77, 80, 32, 74, 83, 82]⟩] w fun e w' => e = .returned (.bool (inB x wsJ)) ∧ Below w.heap.size w w' :=
  spec_is x wsJ (by decide) (ok_words _ (by decide)) (by decide) (by decide) w
theorem is_st (x : ByteArray) (w : World) : Calls Tryz.prog 67 #[.string x, .string ⟨#[83, 84, 65, 32, 83, 84, 88, 32, 83, 84, 89]⟩] w fun e w' => e = .returned (.bool (inB x wsSt)) ∧ Below w.heap.size w w' :=
  spec_is x wsSt (by decide) (ok_words _ (by decide)) (by decide) (by decide) w
theorem is_mo (x : ByteArray) (w : World) : Calls Tryz.prog 67 #[.string x, .string ⟨#[65, 83, 76, 32, 76, 83, 82, 32, 82, 79, 76, 32, 82, 79, 82, 32, 73, 78, 67, 32, 68, 69, 67]⟩] w fun e w' => e = .returned (.bool (inB x wsMo)) ∧ Below w.heap.size w w' :=
  spec_is x wsMo (by decide) (ok_words _ (by decide)) (by decide) (by decide) w
set_option maxRecDepth 100000 in
theorem spec_modeSize (m : ByteArray) (w : World) :
    Calls Tryz.prog 25 #[.string m] w fun e w' => e = .returned (.int .i64 (modeSz m)) ∧ Below w.heap.size w w' := by
  have i1 := is_1 m
  have i3 := is_3 m
  have i2 := is_2 m
  have hd : modeSz m = if inB m ws1 then 1 else if inB m ws3 then 3 else if inB m ws2 then 2 else 0 := rfl
  cases h1 : inB m ws1
  all_goals cases h3 : inB m ws3
  all_goals cases h2 : inB m ws2
  all_goals
    rw [h1] at i1
    rw [h3] at i3
    rw [h2] at i2
    rw [h1, h3, h2] at hd
    have HD := Lib.hid hd
    clear hd
    have I1 := Lib.hid i1
    have I2 := Lib.hid i2
    have I3 := Lib.hid i3
    clear i1 i2 i3
    go_enter Tryz.func25, Tryz.ntmps25
    go_wp2_with (first
      | (go_at_call 67; (with_reducible refine (I1.out _).mono ?_); rintro e w1 ⟨rfl, hb1⟩)
      | (go_at_call 67; (with_reducible refine (I3.out _).mono ?_); rintro e w3 ⟨rfl, hb3⟩)
      | (go_at_call 67; (with_reducible refine (I2.out _).mono ?_); rintro e w2 ⟨rfl, hb2⟩))
    all_goals go_ret
    all_goals exact ⟨by rw [HD.out]; rfl, by first | exact hb1 | exact below_then hb1 hb3 | exact below_then (below_then hb1 hb3) hb2⟩
/-- The argument of an instruction. -/
def opV (a b : ByteArray) : Value := .agg #[.string a, .string b]
end Go.Proofs.YtboeaeoefoabdaaGreatDoor
