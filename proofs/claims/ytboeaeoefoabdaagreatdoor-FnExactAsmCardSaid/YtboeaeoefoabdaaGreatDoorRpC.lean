/-
  The walk of impl.ReadHex: it answers what 'rh' says of the text's bytes.
  Conditions: the listed variables of Go's library are as their own initialisers lay them.
-/
import Derived.Test.YtboeaeoefoabdaaGreatDoorRpB
import Derived.Test.YtboeaeoefoabdaaGreatDoorBel
namespace Go.Proofs.YtboeaeoefoabdaaGreatDoor
open Go.RowKit Go.Lib
theorem gES : Tryz.prog.globalNamed "strconv.ErrSyntax" = some 2 := by kernel_rfl
set_option maxRecDepth 100000 in
theorem parse16_empty (w : World) : Calls Tryz.prog 117 #[.string ⟨#[]⟩, .int .i64 16, .int .i64 64] w fun e w' => e = .returned (.tuple #[.int .u64 0, .iface 167 (.int .i64 2)]) ∧ w = w' := by
  go_enter Tryz.func117, Tryz.ntmps117
  go_wp2
  go_ret2
  exact ⟨rfl, rfl⟩
theorem err_cell {w : World} {x : Value} (h : w.var? Tryz.prog "strconv.ErrSyntax" = some #[.iface 188 x]) : w.cell? ⟨2, 0, none⟩ = some (.iface 188 x) := by
  have := World.var?_cell gES h 0
  simpa using this
def PuErr (w : World) (e : Ending) (w' : World) : Prop := ∃ (N : Nat), e = .returned (.tuple #[.int .u64 0, .iface 169 (.pointer (some ⟨N, 0, none⟩))]) ∧ Below w.heap.size w w'
theorem toerr (t : ByteArray) (ht : t.size ≤ 7) (w w1 : World) (hb : Below w.heap.size w w1) (x : Value) (h : w.cell? ⟨2, 0, none⟩ = some (.iface 188 x)) :
    Calls Tryz.prog 118 #[.string ⟨#[80, 97, 114, 115, 101, 85, 105, 110, 116]⟩, .string t, .int .i64 16, .int .i64 64, .iface 167 (.int .i64 2)] w1 fun e w' => ∃ N, e = .returned (.iface 169 (.pointer (some ⟨N, 0, none⟩))) ∧ Below w1.heap.size w1 w' := by
  have h1 : w1.cell? ⟨2, 0, none⟩ = some (.iface 188 x) := (hb.cell (p := ⟨2, 0, none⟩) (World.block_lt_of_cell? _ _ h)).trans h
  refine (Tryz.strconv_toError_syntax _ t 16 64 _ w1 (by omega) h1 (.inr ⟨_, _, rfl⟩)).mono ?_
  rintro e w' ⟨N, rfl, _, _, hb⟩
  exact ⟨N, rfl, hb⟩
theorem pu_empty (w : World) (x : Value) (h : w.cell? ⟨2, 0, none⟩ = some (.iface 188 x)) : Calls Tryz.prog 92 #[.string ⟨#[]⟩, .int .i64 16, .int .i64 64] w (PuErr w) := by
  have hT := toerr ⟨#[]⟩ (by decide) w w (Below.refl _ _) x h
  have hP := parse16_empty w
  clear h
  go_enter Tryz.func92, Tryz.ntmps92
  go_wp2_with (first
    | (go_at_call 117; refine hP.mono ?_; rintro e w' ⟨rfl, rfl⟩)
    | (go_at_call 118; refine hT.mono ?_; rintro e w2 ⟨N, rfl, hb2⟩))
  go_ret2
  exact ⟨N, rfl, hb2⟩
def PuOk (l : List UInt8) (w : World) (e : Ending) (w' : World) : Prop := e = .returned (.tuple #[.int .u64 (hexNum l), .nilIface]) ∧ Below w.heap.size w w'
theorem parse_ok (t : ByteArray) (hne : t.size ≠ 0) (h7 : t.size ≤ 7) (hok : HexOk t.data.toList) (w : World) :
    Calls Tryz.prog 117 #[.string t, .int .i64 16, .int .i64 64] w fun e w' => e = .returned (.tuple #[.int .u64 (hexNum t.data.toList), .nilIface]) ∧ Below w.heap.size w w' := by
  refine (parse16 t hne h7 w).mono ?_
  rintro e w' ⟨⟨_, rfl⟩ | ⟨⟨c, hc, hv⟩, _⟩, rfl⟩
  · exact ⟨rfl, bytesWorld_below _ _ _⟩
  · have := hok c hc; omega
theorem parse_bad (t : ByteArray) (hne : t.size ≠ 0) (h7 : t.size ≤ 7) (hbad : ¬ HexOk t.data.toList) (w : World) :
    Calls Tryz.prog 117 #[.string t, .int .i64 16, .int .i64 64] w fun e w' => e = .returned (.tuple #[.int .u64 0, .iface 167 (.int .i64 2)]) ∧ Below w.heap.size w w' := by
  refine (parse16 t hne h7 w).mono ?_
  rintro e w' ⟨⟨h, _⟩ | ⟨_, rfl⟩, rfl⟩
  · exact absurd h hbad
  · exact ⟨rfl, bytesWorld_below _ _ _⟩
theorem pu_ok (t : ByteArray) (hne : t.size ≠ 0) (h7 : t.size ≤ 7) (hok : HexOk t.data.toList) (w : World) :
    Calls Tryz.prog 92 #[.string t, .int .i64 16, .int .i64 64] w (PuOk t.data.toList w) := by
  have hP := parse_ok t hne h7 hok w
  clear hok
  go_enter Tryz.func92, Tryz.ntmps92
  go_wp2_with (go_at_call 117; refine hP.mono ?_; rintro e w1 ⟨rfl, hb1⟩)
  go_ret2
  exact ⟨rfl, hb1⟩
theorem pu_bad (t : ByteArray) (hne : t.size ≠ 0) (h7 : t.size ≤ 7) (hbad : ¬ HexOk t.data.toList) (w : World) (x : Value) (h : w.cell? ⟨2, 0, none⟩ = some (.iface 188 x)) :
    Calls Tryz.prog 92 #[.string t, .int .i64 16, .int .i64 64] w (PuErr w) := by
  have hP := parse_bad t hne h7 hbad w
  have hT := fun (w1 : World) (hb : Below w.heap.size w w1) => toerr t h7 w w1 hb x h
  clear hbad h hne
  go_enter Tryz.func92, Tryz.ntmps92
  go_wp2_with (first
    | (go_at_call 117; refine hP.mono ?_; rintro e w1 ⟨rfl, hb1⟩)
    | (go_at_call 118; refine (hT _ hb1).mono ?_; rintro e w2 ⟨N, rfl, hb2⟩))
  go_ret2
  exact ⟨N, rfl, hb1.trans (hb2.mono hb1.size)⟩
theorem impl_rh (s : ByteArray) (w : World) (x : Value) (hx : w.cell? ⟨2, 0, none⟩ = some (.iface 188 x)) :
    Calls Tryz.prog 55 #[.string s] w fun e w' => e = .returned (.int .i64 (rh s.data.toList)) ∧ Below w.heap.size w w' := by
  have hlen : s.data.toList.length = s.size := by simp
  by_cases h7 : 7 < s.size
  · have hr := rh_len s.data.toList (by omega)
    clear hlen hx
    go_enter Tryz.func55, Tryz.ntmps55
    go_wp2
    go_ret
    exact ⟨by rw [hr]; rfl, Below.refl _ _⟩
  · by_cases h0 : s.size = 0
    · have hr := rh_len s.data.toList (by omega)
      obtain rfl : s = ⟨#[]⟩ := by
        obtain ⟨⟨l⟩⟩ := s
        cases l with
        | nil => rfl
        | cons _ _ => simp [ByteArray.size] at h0
      have hE := pu_empty w x hx
      clear hlen hx h0 h7
      go_enter Tryz.func55, Tryz.ntmps55
      go_wp2_with (go_at_call 92; refine hE.mono ?_; rintro e w' ⟨N, rfl, hb⟩)
      go_ret
      exact ⟨by rw [hr]; rfl, hb⟩
    · by_cases hok : HexOk s.data.toList
      · have hr := rh_yes _ hok (by omega) (by omega)
        have hbd := hexNum_bd _ hok (by omega)
        have hE := pu_ok s h0 (by omega) hok w
        clear hlen hx hok h0
        go_enter Tryz.func55, Tryz.ntmps55
        go_wp2_with (go_at_call 92; refine hE.mono ?_; rintro e w' ⟨rfl, hb⟩)
        go_ret
        exact ⟨by rw [hr]; rfl, hb⟩
      · have hr : rh s.data.toList = -1 := by unfold rh; rw [if_neg (fun h => hok h.1)]
        have hE := pu_bad s h0 (by omega) hok w x hx
        clear hlen hx hok h0
        go_enter Tryz.func55, Tryz.ntmps55
        go_wp2_with (go_at_call 92; refine hE.mono ?_; rintro e w' ⟨N, rfl, hb⟩)
        go_ret
        exact ⟨by rw [hr]; rfl, hb⟩
end Go.Proofs.YtboeaeoefoabdaaGreatDoor
