/-
  The walks of spec.ReadHex, impl.ReadHex and the law FnExactReadHex: both readings answer what 'rh' says of the text's bytes.
  Conditions: the listed variables of Go's library are as their own initialisers lay them.
-/
import Derived.Test.YtmhlplaglnopfaaDoorRhB
import Derived.Test.YtmhlplaglnopfaaDoorRdC
namespace Go.Proofs.YtmhlplaglnopfaaDoor
open Go.RowKit Go.Lib
theorem in_yes (x a b : Int) (w : World) (h1 : a ≤ x) (h2 : x ≤ b) :
    Calls Tryd.prog 44 #[.int .i64 x, .int .i64 a, .int .i64 b] w fun e w' => e = .returned (.bool true) ∧ w = w' := by
  go_enter Tryd.func44, Tryd.ntmps44
  go_wp2
  go_ret
  exact ⟨rfl, rfl⟩
theorem in_no (x a b : Int) (w : World) (h : x < a ∨ b < x) :
    Calls Tryd.prog 44 #[.int .i64 x, .int .i64 a, .int .i64 b] w fun e w' => e = .returned (.bool false) ∧ w = w' := by
  by_cases h1 : a ≤ x
  · have h2 : ¬ x ≤ b := by omega
    clear h
    go_enter Tryd.func44, Tryd.ntmps44
    go_wp2
    go_ret
    exact ⟨rfl, rfl⟩
  · clear h
    go_enter Tryd.func44, Tryd.ntmps44
    go_wp2
    go_ret
    exact ⟨rfl, rfl⟩
theorem spec_hxv (c : Int) (h0 : 0 ≤ c ∧ c ≤ 255) (w : World) : Calls Tryd.prog 46 #[.int .u8 c] w fun e w' => e = .returned (.int .i64 (hxv c)) ∧ w = w' := by
  by_cases h1 : 48 ≤ c ∧ c ≤ 57
  · have hx : hxv c = c - 48 := by unfold hxv; rw [if_pos h1]
    have hc := dig_yes c h1
    rw [hx]
    clear hx
    go_enter Tryd.func46, Tryd.ntmps46
    go_wp2_with (go_at_call 41; refine (hc _).mono ?_; rintro e w' ⟨rfl, rfl⟩)
    go_ret
    exact ⟨rfl, rfl⟩
  · have hc := dig_no c h0 h1
    by_cases h2 : 65 ≤ c ∧ c ≤ 70
    · have hx : hxv c = c - 55 := by unfold hxv; rw [if_neg h1, if_pos h2]
      rw [hx]
      have hy := fun w => in_yes c 65 70 w h2.1 h2.2
      clear hx
      go_enter Tryd.func46, Tryd.ntmps46
      go_wp2_with (first
        | (go_at_call 41; refine (hc _).mono ?_; rintro e w' ⟨rfl, rfl⟩)
        | (go_at_call 44; refine (hy _).mono ?_; rintro e w' ⟨rfl, rfl⟩))
      go_ret
      exact ⟨rfl, rfl⟩
    · have hn := fun w => in_no c 65 70 w (by omega)
      by_cases h3 : 97 ≤ c ∧ c ≤ 102
      · have hx : hxv c = c - 87 := by unfold hxv; rw [if_neg h1, if_neg h2, if_pos h3]
        rw [hx]
        have hy := fun w => in_yes c 97 102 w h3.1 h3.2
        clear hx
        go_enter Tryd.func46, Tryd.ntmps46
        go_wp2_with (first
          | (go_at_call 41; refine (hc _).mono ?_; rintro e w' ⟨rfl, rfl⟩)
          | (go_at_call 44; (first | (with_reducible refine (hn _).mono ?_) | (with_reducible refine (hy _).mono ?_)); rintro e w' ⟨rfl, rfl⟩))
        go_ret
        exact ⟨rfl, rfl⟩
      · have hx : hxv c = -1 := by unfold hxv; rw [if_neg h1, if_neg h2, if_neg h3]
        rw [hx]
        have hy := fun w => in_no c 97 102 w (by omega)
        clear hx
        go_enter Tryd.func46, Tryd.ntmps46
        go_wp2_with (first
          | (go_at_call 41; refine (hc _).mono ?_; rintro e w' ⟨rfl, rfl⟩)
          | (go_at_call 44; (first | (with_reducible refine (hn _).mono ?_) | (with_reducible refine (hy _).mono ?_)); rintro e w' ⟨rfl, rfl⟩))
        go_ret
        exact ⟨rfl, rfl⟩
set_option maxRecDepth 100000 in
set_option maxHeartbeats 400000 in
theorem spec_rh (s : ByteArray) (hs : s.size ≤ maxLen) (w : World) :
    Calls Tryd.prog 23 #[.string s] w fun e w' => e = .returned (.int .i64 (rh s.data.toList)) ∧ w = w' := by
  unfold maxLen at hs
  have hlen : s.data.toList.length = s.size := by simp
  have H := Lib.hid hlen
  clear hlen
  go_enter Tryd.func23, Tryd.ntmps23
  go_wp2
  go_loop [3, 4] (fun v3 v4 => ∃ k : Nat, k ≤ s.size ∧ k ≤ 8 ∧ v4 = .int .i64 k ∧ HexOk (s.data.toList.take k) ∧ v3 = .int .i64 (hexNum (s.data.toList.take k))) (fun _ v4 => 8 - (RowKit.intOf v4).toNat)
  case atStart => exact ⟨0, by omega, by omega, rfl, fun c hc => by simp at hc, rfl⟩
  case round =>
    obtain ⟨k, hk, h8, rfl, hd, rfl⟩ := hrel
    have hbd := hexNum_bd _ hd (by simp; omega)
    by_cases hlt : k < s.size ∧ k < 8
    · obtain ⟨hlt, hlt8⟩ := hlt
      have hb : 0 ≤ (s[k].toNat : Int) ∧ (s[k].toNat : Int) ≤ 255 := by have := s[k].toNat_lt; omega
      have hc := spec_hxv (s[k].toNat : Int) hb
      have hvb := hxv_bd s[k].toNat
      by_cases hv : 0 ≤ hxv s[k].toNat
      · have hd' : HexOk (s.data.toList.take (k + 1)) := by
          rw [take_snoc s k hlt]
          intro c hc
          simp only [List.mem_append, List.mem_singleton] at hc
          rcases hc with hc | rfl
          · exact hd c hc
          · exact hv
        have HV : Hid (hexNum (s.data.toList.take (k + 1)) = 16 * hexNum (s.data.toList.take k) + hxv s[k].toNat) := by rw [take_snoc s k hlt, hexNum_snoc]; trivial
        clear hd
        go_wp2_with (go_at_call 46; refine (hc _).mono ?_; rintro e w' ⟨rfl, rfl⟩)
        go_round
        case rel =>
          refine ⟨k + 1, by omega, by omega, by go_num, hd', ?_⟩
          rw [HV.out]
        case measure => simp [RowKit.intOf]; omega
      · have hr := rh_bad s.data.toList s[k] (mem_byte s k hlt) (by omega)
        go_wp2_with (go_at_call 46; refine (hc _).mono ?_; rintro e w' ⟨rfl, rfl⟩)
        go_ret
        exact ⟨by rw [hr]; rfl, rfl⟩
    · by_cases hl : 1 ≤ s.size ∧ s.size ≤ 7
      · obtain rfl : k = s.size := by omega
        have ht : s.data.toList.take s.size = s.data.toList := List.take_of_length_le (by rw [H.out]; omega)
        rw [ht] at hd hbd
        rw [ht]
        have hr := rh_yes _ hd (by rw [H.out]; omega) (by rw [H.out]; omega)
        have hy := fun w => in_yes (s.size : Int) 1 7 w (by omega) (by omega)
        clear ht hlt
        go_wp2_with (go_at_call 44; refine (hy _).mono ?_; rintro e w' ⟨rfl, rfl⟩)
        go_ret
        exact ⟨by rw [hr]; rfl, rfl⟩
      · have hr := rh_len s.data.toList (by rw [H.out]; omega)
        have hy := fun w => in_no (s.size : Int) 1 7 w (by omega)
        by_cases hk2 : k < s.size
        · obtain rfl : k = 8 := by omega
          clear hlt
          go_wp2_with (go_at_call 44; refine (hy _).mono ?_; rintro e w' ⟨rfl, rfl⟩)
          go_ret
          exact ⟨by rw [hr]; rfl, rfl⟩
        · clear hlt
          go_wp2_with (go_at_call 44; refine (hy _).mono ?_; rintro e w' ⟨rfl, rfl⟩)
          go_ret
          exact ⟨by rw [hr]; rfl, rfl⟩
set_option maxRecDepth 100000 in
theorem parse16_empty (w : World) : Calls Tryd.prog 55 #[.string ⟨#[]⟩, .int .i64 16, .int .i64 64] w fun e w' => e = .returned (.tuple #[.int .u64 0, .iface 68 (.int .i64 2)]) ∧ w = w' := by
  go_enter Tryd.func55, Tryd.ntmps55
  go_wp2
  go_ret2
  exact ⟨rfl, rfl⟩
theorem err_cell {w : World} {x : Value} (h : w.var? Tryd.prog "strconv.ErrSyntax" = some #[.iface 105 x]) : w.cell? ⟨0, 0, none⟩ = some (.iface 105 x) := by
  have := World.var?_cell gES h 0
  simpa using this
def PuErr (w : World) (e : Ending) (w' : World) : Prop := ∃ (N : Nat), e = .returned (.tuple #[.int .u64 0, .iface 71 (.pointer (some ⟨N, 0, none⟩))]) ∧ Below w.heap.size w w'
theorem toerr (t : ByteArray) (ht : t.size ≤ 7) (w w1 : World) (hb : Below w.heap.size w w1) (x : Value) (h : w.cell? ⟨0, 0, none⟩ = some (.iface 105 x)) :
    Calls Tryd.prog 54 #[.string ⟨#[80, 97, 114, 115, 101, 85, 105, 110, 116]⟩, .string t, .int .i64 16, .int .i64 64, .iface 68 (.int .i64 2)] w1 fun e w' => ∃ N, e = .returned (.iface 71 (.pointer (some ⟨N, 0, none⟩))) ∧ Below w1.heap.size w1 w' := by
  have h1 : w1.cell? ⟨0, 0, none⟩ = some (.iface 105 x) := (hb.cell (p := ⟨0, 0, none⟩) (World.block_lt_of_cell? _ _ h)).trans h
  refine (Tryd.strconv_toError_syntax _ t 16 64 _ w1 (by omega) h1 (.inr ⟨_, _, rfl⟩)).mono ?_
  rintro e w' ⟨N, rfl, _, _, hb⟩
  exact ⟨N, rfl, hb⟩
theorem pu_empty (w : World) (x : Value) (h : w.cell? ⟨0, 0, none⟩ = some (.iface 105 x)) : Calls Tryd.prog 45 #[.string ⟨#[]⟩, .int .i64 16, .int .i64 64] w (PuErr w) := by
  have hT := toerr ⟨#[]⟩ (by decide) w w (Below.refl _ _) x h
  have hP := parse16_empty w
  clear h
  go_enter Tryd.func45, Tryd.ntmps45
  go_wp2_with (first
    | (go_at_call 55; refine hP.mono ?_; rintro e w' ⟨rfl, rfl⟩)
    | (go_at_call 54; refine hT.mono ?_; rintro e w2 ⟨N, rfl, hb2⟩))
  go_ret2
  exact ⟨N, rfl, hb2⟩
def PuOk (l : List UInt8) (w : World) (e : Ending) (w' : World) : Prop := e = .returned (.tuple #[.int .u64 (hexNum l), .nilIface]) ∧ Below w.heap.size w w'
theorem parse_ok (t : ByteArray) (hne : t.size ≠ 0) (h7 : t.size ≤ 7) (hok : HexOk t.data.toList) (w : World) :
    Calls Tryd.prog 55 #[.string t, .int .i64 16, .int .i64 64] w fun e w' => e = .returned (.tuple #[.int .u64 (hexNum t.data.toList), .nilIface]) ∧ Below w.heap.size w w' := by
  refine (parse16 t hne h7 w).mono ?_
  rintro e w' ⟨⟨_, rfl⟩ | ⟨⟨c, hc, hv⟩, _⟩, rfl⟩
  · exact ⟨rfl, bytesWorld_below _ _ _⟩
  · have := hok c hc; omega
theorem parse_bad (t : ByteArray) (hne : t.size ≠ 0) (h7 : t.size ≤ 7) (hbad : ¬ HexOk t.data.toList) (w : World) :
    Calls Tryd.prog 55 #[.string t, .int .i64 16, .int .i64 64] w fun e w' => e = .returned (.tuple #[.int .u64 0, .iface 68 (.int .i64 2)]) ∧ Below w.heap.size w w' := by
  refine (parse16 t hne h7 w).mono ?_
  rintro e w' ⟨⟨h, _⟩ | ⟨_, rfl⟩, rfl⟩
  · exact absurd h hbad
  · exact ⟨rfl, bytesWorld_below _ _ _⟩
theorem pu_ok (t : ByteArray) (hne : t.size ≠ 0) (h7 : t.size ≤ 7) (hok : HexOk t.data.toList) (w : World) :
    Calls Tryd.prog 45 #[.string t, .int .i64 16, .int .i64 64] w (PuOk t.data.toList w) := by
  have hP := parse_ok t hne h7 hok w
  clear hok
  go_enter Tryd.func45, Tryd.ntmps45
  go_wp2_with (go_at_call 55; refine hP.mono ?_; rintro e w1 ⟨rfl, hb1⟩)
  go_ret2
  exact ⟨rfl, hb1⟩
theorem pu_bad (t : ByteArray) (hne : t.size ≠ 0) (h7 : t.size ≤ 7) (hbad : ¬ HexOk t.data.toList) (w : World) (x : Value) (h : w.cell? ⟨0, 0, none⟩ = some (.iface 105 x)) :
    Calls Tryd.prog 45 #[.string t, .int .i64 16, .int .i64 64] w (PuErr w) := by
  have hP := parse_bad t hne h7 hbad w
  have hT := fun (w1 : World) (hb : Below w.heap.size w w1) => toerr t h7 w w1 hb x h
  clear hbad h hne
  go_enter Tryd.func45, Tryd.ntmps45
  go_wp2_with (first
    | (go_at_call 55; refine hP.mono ?_; rintro e w1 ⟨rfl, hb1⟩)
    | (go_at_call 54; refine (hT _ hb1).mono ?_; rintro e w2 ⟨N, rfl, hb2⟩))
  go_ret2
  exact ⟨N, rfl, hb1.trans (hb2.mono hb1.size)⟩
theorem impl_rh (s : ByteArray) (w : World) (hS : ∃ x, w.var? Tryd.prog "strconv.ErrSyntax" = some #[.iface 105 x]) :
    Calls Tryd.prog 22 #[.string s] w fun e w' => e = .returned (.int .i64 (rh s.data.toList)) ∧ Below w.heap.size w w' := by
  obtain ⟨x, hS⟩ := hS
  have hx := err_cell hS
  clear hS
  have hlen : s.data.toList.length = s.size := by simp
  by_cases h7 : 7 < s.size
  · have hr := rh_len s.data.toList (by omega)
    clear hlen hx
    go_enter Tryd.func22, Tryd.ntmps22
    go_wp2
    go_ret
    exact ⟨by rw [hr]; rfl, Below.refl _ _⟩
  · by_cases h0 : s.size = 0
    · have hr := rh_len s.data.toList (by omega)
      obtain rfl : s = ⟨#[]⟩ := by
        obtain ⟨⟨l⟩⟩ := s
        cases l with
        | nil => rfl
        | cons _ _ => simp [ByteArray.size] at h0
      have hE := pu_empty w x hx
      clear hlen hx h0 h7
      go_enter Tryd.func22, Tryd.ntmps22
      go_wp2_with (go_at_call 45; refine hE.mono ?_; rintro e w' ⟨N, rfl, hb⟩)
      go_ret
      exact ⟨by rw [hr]; rfl, hb⟩
    · by_cases hok : HexOk s.data.toList
      · have hr := rh_yes _ hok (by omega) (by omega)
        have hbd := hexNum_bd _ hok (by omega)
        have hE := pu_ok s h0 (by omega) hok w
        clear hlen hx hok h0
        go_enter Tryd.func22, Tryd.ntmps22
        go_wp2_with (go_at_call 45; refine hE.mono ?_; rintro e w' ⟨rfl, hb⟩)
        go_ret
        exact ⟨by rw [hr]; rfl, hb⟩
      · have hr : rh s.data.toList = -1 := by unfold rh; rw [if_neg (fun h => hok h.1)]
        have hE := pu_bad s h0 (by omega) hok w x hx
        clear hlen hx hok h0
        go_enter Tryd.func22, Tryd.ntmps22
        go_wp2_with (go_at_call 45; refine hE.mono ?_; rintro e w' ⟨N, rfl, hb⟩)
        go_ret
        exact ⟨by rw [hr]; rfl, hb⟩
theorem rh_walk (s : ByteArray) (hs : s.size ≤ maxLen) (W : World) (hL : laidMet Tryd.prog Rows.fnExactReadHexRow.laid W) :
    Calls Tryd.prog 8 #[.string s] W fun e w' => e = .returned (.bool true) ∧ Below W.heap.size W w' := by
  by_cases h20 : 1048576 < s.size
  · clear hL
    go_enter Tryd.func8, Tryd.ntmps8
    go_wp2
    go_ret
    exact ⟨rfl, Below.refl _ _⟩
  · obtain ⟨_, hS⟩ := errs_of hL
    have h1 := impl_rh s W hS
    have h2 := spec_rh s hs
    clear hL hS
    go_enter Tryd.func8, Tryd.ntmps8
    go_wp2_with (first
      | (go_at_call 23; refine (h2 _).mono ?_; rintro e w' ⟨rfl, rfl⟩)
      | (go_at_call 22; refine h1.mono ?_; rintro e w' ⟨rfl, hb⟩))
    go_ret
    exact ⟨rfl, hb⟩
end Go.Proofs.YtmhlplaglnopfaaDoor
