/-
  The walk of l01Bent of the model: a text with a byte changed, cut or put in; at most 100 bytes longer.
  Conditions: the draw has at most 1048576 bytes, the text at most 1000.
-/
import Derived.Test.YtboeaeoefoabdaaDoorDrP
import Derived.Test.YtboeaeoefoabdaaDoorBlk
import Derived.Test.YtboeaeoefoabdaaDoorDrI
import Derived.Deep.RegionWith
import Derived.IntWalk
namespace Go.Proofs.YtboeaeoefoabdaaDoor
open Go.RowKit
def BentPost (m g : Nat) (A : Option Addr) (n c : Nat) (w : World) (e : Ending) (w' : World) : Prop :=
  ∃ s : ByteArray, e = .returned (.string s) ∧ s.size ≤ m ∧ Cur w' g A n c ∧ w.grownBy w' (some g)
set_option maxRecDepth 100000 in
set_option maxHeartbeats 4000000 in
theorem l01Bent_any {B g n c : Nat} {A : Option Addr} {w : World} (h : Drawn B g n c A w) (s : ByteArray) (hs : s.size ≤ 1000) :
    Calls Tryd.prog 21 #[.pointer (some ⟨g, 0, none⟩), .string s] w (BentPost 1100 g A n c w) := by
  have hy := l01Below_any h ((s.size : Int) + 1) (by omega) (by omega)
  have H := Lib.hid h
  clear h
  go_enter Tryd.func21, Tryd.ntmps21
  go_wp2_with (go_at_call 30; refine hy.mono ?_; rintro e w1 ⟨i, rfl, i0, i1, hc, hg⟩; refine Hid.out ?_)
  obtain ⟨I, rfl⟩ : ∃ I : Nat, i = I := ⟨i.toNat, by omega⟩
  have hI : I ≤ s.size := by omega
  have H1 := Lib.hid (H.out.next hc hg)
  have hz := l01Below_any H1.out 10 (by omega) (by omega)
  clear hy hc i1 i0
  refine Lib.hid ?_
  go_wp2_with (go_at_call 30; refine hz.mono ?_; rintro e w2 ⟨k, rfl, k0, k1, hc2, hg2⟩; refine Hid.out ?_)
  have H2 := Lib.hid (H1.out.next hc2 hg2)
  have hgg := grown_trans hg hg2
  clear hz hg hg2
  by_cases hk0 : k = 0
  · subst hk0
    refine Lib.hid ?_
    go_wp2
    go_ret
    refine ⟨_, rfl, ?_, hc2, hgg⟩
    simp; omega
  · by_cases hk1 : k = 1
    · subst hk1
      have hP : Calls Tryd.prog 20 #[.pointer (some ⟨g, 0, none⟩), .slice (some ⟨w2.heap.size, 0, none⟩) 7 7] ((w2.alloc (.cells #[.string ⟨#[48]⟩, .string ⟨#[32]⟩, .string ⟨#[255]⟩, .string ⟨#[10]⟩, .string ⟨#[97]⟩, .string ⟨#[36]⟩, .string ⟨#[35]⟩] 9)).drew) (PickPost g A n c w2.drew) :=
        pick_new H2.out.drew [.string ⟨#[48]⟩, .string ⟨#[32]⟩, .string ⟨#[255]⟩, .string ⟨#[10]⟩, .string ⟨#[97]⟩, .string ⟨#[36]⟩, .string ⟨#[35]⟩] (k := 7) rfl (by omega) (by omega)
          (by repeat (first | exact allS_nil | refine allS_cons (by decide) ?_))
      refine Lib.hid ?_
      go_wp2
      go_region_with (go_at_call 20; refine hP.mono ?_; rintro e w3 ⟨p, rfl, hp, hc3, hg3⟩)
      all_goals
        go_wp2
        go_ret
        refine ⟨_, rfl, ?_, hc3, grown_trans hgg (grown_drew hg3)⟩
        simp; omega
    · by_cases hk2 : k = 2
      · subst hk2
        by_cases hlt : I < s.size
        · have hP : Calls Tryd.prog 20 #[.pointer (some ⟨g, 0, none⟩), .slice (some ⟨w2.heap.size, 0, none⟩) 6 6] ((w2.alloc (.cells #[.string ⟨#[48]⟩, .string ⟨#[65]⟩, .string ⟨#[0]⟩, .string ⟨#[57]⟩, .string ⟨#[122]⟩, .string ⟨#[44]⟩] 9)).drew) (PickPost g A n c w2.drew) :=
            pick_new H2.out.drew [.string ⟨#[48]⟩, .string ⟨#[65]⟩, .string ⟨#[0]⟩, .string ⟨#[57]⟩, .string ⟨#[122]⟩, .string ⟨#[44]⟩] (k := 6) rfl (by omega) (by omega)
              (by repeat (first | exact allS_nil | refine allS_cons (by decide) ?_))
          have hi0 : (0 : Int) ≤ (I : Int) + 1 := by omega
          have hi1 : (I : Int) + 1 ≤ (s.size : Int) := by omega
          have hsl : ∀ W : World, (Instr.slice 9 (.string s) (some (.int .i64 ((I : Int) + 1))) none none).run Tryd.prog W = .ok (.string (s.extract (I + 1) s.size)) W := fun W => by
            have e : ((I : Int) + 1).toNat = I + 1 := by omega
            have := run_slice_string_l (P := Tryd.prog) (w := W) (t := 9) (s := s) Tryd.underlying9 .i64 ((I : Int) + 1) hi0 hi1
            rw [e] at this
            exact this
          have hwr : IntKind.i64.wrap ((I : Int) + 1) = (I : Int) + 1 := IntWalk.i64_in _ (by omega)
          refine Lib.hid ?_
          go_wp2
          go_region_with (go_at_call 20; refine hP.mono ?_; rintro e w3 ⟨p, rfl, hp, hc3, hg3⟩)
          all_goals
            go_wp2
            go_ret
            refine ⟨_, rfl, ?_, hc3, grown_trans hgg (grown_drew hg3)⟩
            simp; omega
        · refine Lib.hid ?_
          go_wp2
          go_ret
          exact ⟨s, rfl, by omega, hc2, hgg⟩
      · have t0 : (k == 0) = false := by simpa using hk0
        have t1 : (k == 1) = false := by simpa using hk1
        have t2 : (k == 2) = false := by simpa using hk2
        clear hk0 hk1 hk2
        refine Lib.hid ?_
        go_wp2
        go_ret
        exact ⟨s, rfl, by omega, hc2, hgg⟩
end Go.Proofs.YtboeaeoefoabdaaDoor
