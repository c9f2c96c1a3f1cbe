/-
  The draws of the model, exactly: what a cursor answers is told by the draw's bytes alone, so that the same draw answers the same again.
  Conditions: the draw has at most 1048576 bytes.
-/
import Derived.Test.YthelaeejgppjhaaDrA
namespace Go.Proofs.Ythelaeejgppjhaa
open Go.RowKit
/-- The bytes of a draw, below block B, told by bs. -/
def CodeIs (w : World) (B : Nat) (A : Option Addr) (n : Nat) (bs : Nat → Int) : Prop :=
  n ≤ 1048576 ∧ (∀ i, i < n → 0 ≤ bs i ∧ bs i ≤ 255) ∧ (n = 0 ∨ ∃ b off, A = some ⟨b, off, none⟩ ∧ b < B ∧ ∀ i, i < n → w.cell? ⟨b, off + i, none⟩ = some (.int .u8 (bs i)))
theorem Code.is {w : World} {B n : Nat} {A : Option Addr} (h : Code w B A n) : ∃ bs, CodeIs w B A n bs := by
  rcases h.2 with h0 | ⟨b, off, rfl, hb, hc⟩
  · exact ⟨fun _ => 0, h.1, fun i hi => by omega, .inl h0⟩
  · refine ⟨fun i => if hi : i < n then Classical.choose (hc i hi) else 0, h.1, fun i hi => ?_, .inr ⟨b, off, rfl, hb, fun i hi => ?_⟩⟩
    · have := Classical.choose_spec (hc i hi)
      simp only [dif_pos hi]
      exact ⟨this.1, this.2.1⟩
    · have := Classical.choose_spec (hc i hi)
      simp only [dif_pos hi]
      exact this.2.2
theorem CodeIs.keep {w w' : World} {B n : Nat} {A : Option Addr} {bs : Nat → Int} (h : CodeIs w B A n bs) (hk : ∀ p : Addr, p.block < B → w'.cell? p = w.cell? p) : CodeIs w' B A n bs := by
  obtain ⟨h1, h2, h3⟩ := h
  refine ⟨h1, h2, h3.imp_right ?_⟩
  rintro ⟨b, off, rfl, hb, hc⟩
  exact ⟨b, off, rfl, hb, fun i hi => (hk _ hb).trans (hc i hi)⟩
theorem CodeIs.grown {w w' : World} {B n g : Nat} {A : Option Addr} {bs : Nat → Int} (h : CodeIs w B A n bs) (hB : B ≤ w.heap.size) (hg : w.grownBy w' (some g)) (hgB : B ≤ g) : CodeIs w' B A n bs :=
  h.keep fun p hp => World.cell?_of_block (hg.block p.block (by omega) (by simp; omega))
theorem CodeIs.below {w w' : World} {B n : Nat} {A : Option Addr} {bs : Nat → Int} (h : CodeIs w B A n bs) (hB : B ≤ w.heap.size) (hb : Below w.heap.size w w') : CodeIs w' B A n bs :=
  h.keep fun p hp => hb.cell (by omega)
theorem CodeIs.at_ {w : World} {B n : Nat} {A : Option Addr} {bs : Nat → Int} (h : CodeIs w B A n bs) {i : Nat} (hi : i < n) : ∃ b off, A = some ⟨b, off, none⟩ ∧ b < B ∧ w.cell? ⟨b, off + i, none⟩ = some (.int .u8 (bs i)) := by
  rcases h.2.2 with h0 | ⟨b, off, rfl, hb, hc⟩
  · omega
  · exact ⟨b, off, rfl, hb, hc i hi⟩
def CurIs (w : World) (g : Nat) (A : Option Addr) (n c i : Nat) (h : Int) : Prop := w.heap[g]? = some (.cells #[.slice A n c, .int .i64 i, .int .i64 h] 54 (0, 0))
theorem CurIs.lt {w : World} {g n c i : Nat} {A : Option Addr} {h : Int} (hc : CurIs w g A n c i h) : g < w.heap.size := (Array.getElem?_eq_some_iff.1 hc).1
theorem CurIs.keep {w w' : World} {g n c i : Nat} {A : Option Addr} {h : Int} (hc : CurIs w g A n c i h) (e : w'.heap[g]? = w.heap[g]?) : CurIs w' g A n c i h := Eq.trans e hc
theorem CurIs.set2 {w : World} {g n c i : Nat} {A : Option Addr} {h : Int} (hb : CurIs w g A n c i h) (x : Int) : CurIs (w.setCell ⟨g, 2, none⟩ (.int .i64 x)) g A n c i x := by
  unfold CurIs at hb ⊢
  simp [World.setCell, Array.getElem?_modify, hb]
theorem CurIs.set1 {w : World} {g n c i : Nat} {A : Option Addr} {h : Int} (hb : CurIs w g A n c i h) (j : Nat) (x : Int) (hx : x = j) : CurIs (w.setCell ⟨g, 1, none⟩ (.int .i64 x)) g A n c j h := by
  subst hx
  unfold CurIs at hb ⊢
  simp [World.setCell, Array.getElem?_modify, hb]
def nextH (h : Int) : Int := wrap64 (wrap64 (h * 6364136223846793005) + 1442695040888963407)
def byteAt (bs : Nat → Int) (n i : Nat) (h : Int) : Int :=
  (bits BinOp.xor IntKind.i64 (nextH h / 8589934592) (nextH h / 35184372088832) + (if i < n then bs i else 0)) % 256
def nextI (n i : Nat) : Nat := if i < n then i + 1 else i
/-- What a draw answers, exactly, and how the cursor stands behind it. -/
def IsPost (v : Value) (g : Nat) (A : Option Addr) (n c i : Nat) (h : Int) (w : World) (e : Ending) (w' : World) : Prop :=
  e = .returned v ∧ CurIs w' g A n c i h ∧ w.grownBy w' (some g)
structure DrawnIs (B g n c : Nat) (A : Option Addr) (bs : Nat → Int) (i : Nat) (h : Int) (w : World) : Prop where
  hB : B ≤ w.heap.size
  hBg : B ≤ g
  code : CodeIs w B A n bs
  hi : i ≤ n
  cur : CurIs w g A n c i h
theorem nextI_le {n i : Nat} (h : i ≤ n) : nextI n i ≤ n := by unfold nextI; split <;> omega
theorem DrawnIs.next {B g n c i : Nat} {A : Option Addr} {bs : Nat → Int} {h : Int} {w w' : World} (hd : DrawnIs B g n c A bs i h w) {j : Nat} {x : Int} (hj : j ≤ n) (hc : CurIs w' g A n c j x) (hg : w.grownBy w' (some g)) : DrawnIs B g n c A bs j x w' :=
  ⟨Nat.le_trans hd.hB hg.size, hd.hBg, hd.code.grown hd.hB hg hd.hBg, hj, hc⟩
theorem DrawnIs.below {B g n c i : Nat} {A : Option Addr} {bs : Nat → Int} {h : Int} {w w' : World} (hd : DrawnIs B g n c A bs i h w) (hb : Below w.heap.size w w') : DrawnIs B g n c A bs i h w' :=
  ⟨Nat.le_trans hd.hB hb.size, hd.hBg, hd.code.below hd.hB hb, hd.hi, hd.cur.keep (hb.block g hd.cur.lt)⟩
set_option maxRecDepth 100000 in
set_option maxHeartbeats 1000000 in
theorem l01Byte_is {B g n c i : Nat} {A : Option Addr} {bs : Nat → Int} {h : Int} {w : World} (hd : DrawnIs B g n c A bs i h w) :
    Calls Try.prog 43 #[.pointer (some ⟨g, 0, none⟩)] w (IsPost (.int .i64 (byteAt bs n i h)) g A n c (nextI n i) (nextH h) w) := by
  obtain ⟨hB, hBg, hcode, hi, hb⟩ := hd
  obtain ⟨c0, c1, c2, f1, f2⟩ := Cur.cells hb
  have hS := fun x => CurIs.set2 hb x
  have hG := fun x => grown_set (World.grownBy.refl w (some g)) 2 (.int .i64 x)
  have hn := hcode.1
  have h255 := i64_and255
  by_cases hlt : i < n
  · obtain ⟨hv0, hv1⟩ := hcode.2.1 i hlt
    obtain ⟨b, off, rfl, hbB, hcv⟩ := hcode.at_ hlt
    have hne : b ≠ g := by omega
    have hN : nextI n i = i + 1 := if_pos hlt
    have hX : byteAt bs n i h = (bits BinOp.xor IntKind.i64 (nextH h / 8589934592) (nextH h / 35184372088832) + bs i) % 256 := by unfold byteAt; rw [if_pos hlt]
    rw [hN, hX]
    unfold nextH
    clear hcode hb hN hX
    have h0 : (0 : Int) ≤ (i : Int) := by omega
    have h1 : (i : Int) < (n : Int) := by omega
    go_enter Try.func43, Try.ntmps43
    go_wp2
    go_quiet (fail)
    go_wp2
    go_quiet (fail)
    go_wp2
    go_quiet (fail)
    go_wp2
    go_ret
    refine ⟨rfl, ?_, ?_⟩
    · exact CurIs.set1 (hS _) (i + 1) _ (by omega)
    · first | exact grown_drewN (grown_set (hG _) 1 _) _ | exact grown_set (hG _) 1 _
  · obtain rfl : i = n := by omega
    have hN : nextI i i = i := if_neg hlt
    have hX : byteAt bs i i h = bits BinOp.xor IntKind.i64 (nextH h / 8589934592) (nextH h / 35184372088832) % 256 := by unfold byteAt; rw [if_neg hlt, Int.add_zero]
    rw [hN, hX]
    unfold nextH
    clear hcode hb hN hX
    go_enter Try.func43, Try.ntmps43
    go_wp2
    go_quiet (fail)
    go_wp2
    go_quiet (fail)
    go_wp2
    go_ret
    refine ⟨rfl, ?_, ?_⟩
    · exact hS _
    · exact grown_drewN (grown_drewN (hG _) _) _
theorem byteAt_range (bs : Nat → Int) (n i : Nat) (h : Int) : 0 ≤ byteAt bs n i h ∧ byteAt bs n i h ≤ 255 := by
  unfold byteAt; omega
set_option maxHeartbeats 1000000 in
theorem l01Below_is {B g n c i : Nat} {A : Option Addr} {bs : Nat → Int} {h : Int} {w : World} (hd : DrawnIs B g n c A bs i h w) (k : Int) (hk : 1 ≤ k) (hk2 : k ≤ 256) :
    Calls Try.prog 37 #[.pointer (some ⟨g, 0, none⟩), .int .i64 k] w (IsPost (.int .i64 (byteAt bs n i h % k)) g A n c (nextI n i) (nextH h) w) := by
  have hy := l01Byte_is hd
  obtain ⟨b0, b1⟩ := byteAt_range bs n i h
  unfold IsPost at hy
  clear hd
  go_enter Try.func37, Try.ntmps37
  go_wp2_with (go_at_call 43; refine hy.mono ?_; rintro e w' ⟨rfl, hc, hg⟩)
  go_ret
  exact ⟨rfl, hc, hg⟩
def pickAt (cs : List ByteArray) (bs : Nat → Int) (n i : Nat) (h : Int) : ByteArray := cs.getD (byteAt bs n i h % cs.length).toNat ⟨#[]⟩
/-- The cursor's number behind k bytes of the draw. -/
def seedH (bs : Nat → Int) (n : Nat) : Nat → Int
  | 0 => 760760 + n
  | k + 1 => (seedH bs n k * 131 + bs k + 7) % 1073741824
theorem seedH_range (bs : Nat → Int) (n : Nat) (hn : n ≤ 1048576) (k : Nat) : 0 ≤ seedH bs n k ∧ seedH bs n k ≤ 1073741824 := by
  cases k with
  | zero => unfold seedH; omega
  | succ k => unfold seedH; omega
def seed0 (bs : Nat → Int) (n : Nat) : Int := seedH bs n (min n 4000)
def NewIs (bs : Nat → Int) (A : Option Addr) (n c : Nat) (w : World) (e : Ending) (w' : World) : Prop :=
  e = .returned (.pointer (some ⟨w.heap.size, 0, none⟩)) ∧ CurIs w' w.heap.size A n c 0 (seed0 bs n) ∧ Below w.heap.size w w'
set_option maxRecDepth 100000 in
set_option maxHeartbeats 1000000 in
theorem l01New_is (B n c : Nat) (A : Option Addr) (bs : Nat → Int) (w : World) (hcode : CodeIs w B A n bs) :
    Calls Try.prog 21 #[.slice A n c] w (NewIs bs A n c w) := by
  have hn := hcode.1
  have h30 := i64_and30
  go_enter Try.func21, Try.ntmps21
  go_wp2
  go_loop [3, 4] (fun v3 v4 => ∃ (k : Nat), k ≤ n ∧ k ≤ 4000 ∧ v4 = .int .i64 k ∧ v3 = .int .i64 (seedH bs n k)) (fun _ v4 => n - (intOf v4).toNat)
  case atStart => exact ⟨0, by omega, by omega, rfl, rfl⟩
  case round =>
    obtain ⟨k, hk, hk4, rfl, rfl⟩ := hrel
    obtain ⟨h0, h1⟩ := seedH_range bs n hn k
    by_cases hlt : k < n ∧ k < 4000
    · obtain ⟨hlt, h4⟩ := hlt
      obtain ⟨hv0, hv1⟩ := hcode.2.1 k hlt
      obtain ⟨b, off, rfl, hbB, hcv⟩ := hcode.at_ hlt
      have hnx : seedH bs n (k + 1) = (seedH bs n k * 131 + bs k + 7) % 1073741824 := rfl
      have HX := Lib.hid hnx
      have i0 : (0 : Int) ≤ (k : Int) := by omega
      have i1 : (k : Int) < (n : Int) := by omega
      clear hcode hnx
      go_wp2
      go_round
      case rel => exact ⟨k + 1, by omega, by omega, by go_num, by rw [HX.out]⟩
      case measure => simp [intOf]; omega
    · have hs : seed0 bs n = seedH bs n k := by
        unfold seed0
        congr 1
        omega
      have hs := Lib.hid hs
      rcases Nat.lt_or_ge k n with hkn | hkn
      · have hk5 : k = 4000 := by omega
        subst hk5
        clear hcode hlt
        go_wp2
        go_ret
        exact ⟨rfl, by rw [hs.out]; exact heap_alloc_new w _, (Below.refl _ _).alloc (Nat.le_refl _) _⟩
      · obtain rfl : k = n := by omega
        clear hcode hlt
        go_wp2
        go_ret
        exact ⟨rfl, by rw [hs.out]; exact heap_alloc_new w _, (Below.refl _ _).alloc (Nat.le_refl _) _⟩
end Go.Proofs.Ythelaeejgppjhaa
