/-
  The walks of DrawTickChip, DrawAsks, DrawReadChip and DrawWriteChip of the model (chapter 6); old memory stays as it was.
  Conditions: the draw has at most 1048576 bytes.
-/
import Derived.Test.YthelaeejgppjhaaChF
import Derived.Test.YthelaeejgppjhaaChD
import Derived.Test.YthelaeejgppjhaaDsB
import Derived.Test.YthelaeejgppjhaaMmE
namespace Go.Proofs.Ythelaeejgppjhaa
open Go.RowKit
def DrawChip (w : World) (e : Ending) (w' : World) : Prop := ∃ x : ChipI, x.fits ∧ e = .returned (chipV x) ∧ Below w.heap.size w w'
def DrawChip2 (w : World) (e : Ending) (w' : World) : Prop := ∃ (x : ChipI) (r p : Int), x.fits ∧ i64I r ∧ i64I p ∧ e = .returned (.tuple #[chipV x, .int .i64 r, .int .i64 p]) ∧ Below w.heap.size w w'
theorem cells11 {w : World} {b : Nat} {t : TypeId} {x0 x1 x2 x3 x4 x5 x6 x7 x8 x9 x10 : Value} (h : w.heap[b]? = some (.cells #[x0, x1, x2, x3, x4, x5, x6, x7, x8, x9, x10] t (0, 0))) :
    w.cell? ⟨b, 0, none⟩ = some x0 ∧ w.cell? ⟨b, 1, none⟩ = some x1 ∧ w.cell? ⟨b, 2, none⟩ = some x2 ∧ w.cell? ⟨b, 3, none⟩ = some x3 ∧ w.cell? ⟨b, 4, none⟩ = some x4 ∧ w.cell? ⟨b, 5, none⟩ = some x5 ∧
    w.cell? ⟨b, 6, none⟩ = some x6 ∧ w.cell? ⟨b, 7, none⟩ = some x7 ∧ w.cell? ⟨b, 8, none⟩ = some x8 ∧ w.cell? ⟨b, 9, none⟩ = some x9 ∧ w.cell? ⟨b, 10, none⟩ = some x10 ∧ ∀ i, w.frozen? ⟨b, i, none⟩ = false :=
  ⟨cell_of_blk h rfl, cell_of_blk h rfl, cell_of_blk h rfl, cell_of_blk h rfl, cell_of_blk h rfl, cell_of_blk h rfl, cell_of_blk h rfl, cell_of_blk h rfl, cell_of_blk h rfl, cell_of_blk h rfl, cell_of_blk h rfl, fun _ => free_of_blk h⟩
theorem kept_cell {w w' : World} {g b : Nat} {x : Obj} (h : w.heap[b]? = some x) (hg : w.drew.grownBy w' (some g)) (hne : b ≠ g) (i : Nat) : w'.cell? ⟨b, i, none⟩ = w.cell? ⟨b, i, none⟩ :=
  World.cell?_of_block ((hg.block b (blk_lt (w := w) h) (by simpa using hne)).trans rfl)
/-- A struct in its result's cell and two slots are handed back. -/
theorem row_tmps_post {P : Program} {fn : Func} {R : Ending → World → Prop} {a : Act} {w : World} {p q s : Tmp} {T : TypeId} {g n : Nat} {cs : Array Value} {t : TypeId} {d : TypeDesc} {v u : Value} (hr : fn.results = #[.cell p T, .tmp q, .tmp s]) (hp : a.tmps.getD p undef = .pointer (some ⟨g, 0, none⟩)) (hv : a.tmps.getD q undef = v) (hv2 : a.tmps.getD s undef = u)
    (hu : P.underlying T = some d) (hd : (match d with | .struct _ | .array _ _ => true | _ => false) = true) (hi : (P.info? T).map (·.size) = some n) (hde : a.defers = [])
    (hg : w.heap[g]? = some (.cells cs t (0, 0))) (hn : cs.size = n) (hR : R (.returned (.tuple #[.agg cs, v, u])) w) : bodyPost P fn R .ret a w := by
  refine bodyPost_ret ?_ hde hR
  have hp' : a.tmps[p]?.getD undef = .pointer (some ⟨g, 0, none⟩) := by simpa using hp
  have hv' : a.tmps[q]?.getD undef = v := by simpa using hv
  have hv2' : a.tmps[s]?.getD undef = u := by simpa using hv2
  simp [results, hr, hp', hv', hv2', asAddr, run_loadVar_row w g t T cs (0, 0) d hg hu hd (by rw [hi, hn])]
set_option maxRecDepth 100000 in
set_option maxHeartbeats 4000000 in
theorem drawTickChip_any (B n c : Nat) (A : Option Addr) (w : World) (hB : B ≤ w.heap.size) (hcode : Code w B A n) :
    Calls Try.prog 9 #[.slice A n c] w (DrawChip w) := by
  have hi := Lib.hid chip_size
  have hb0 : Below w.heap.size w (w.alloc zero11) := (Below.refl _ _).alloc (Nat.le_refl _) _
  have hcode0 := hcode.below hB hb0
  have hN := l01New_any B n c A (w.alloc zero11) hcode0
  have HD := fun (w1 : World) hc hb => new_drawn (c := c) (w1 := w1) (Nat.le_trans hB hb0.size) hcode0 hc hb
  have K0 := Lib.hid (blk_new w zero11)
  have hg0 := grown_of_below (g := w.heap.size + 1) hb0
  have hs1 : (w.alloc zero11).heap.size = w.heap.size + 1 := by simp
  rw [hs1] at HD
  unfold NewPost at hN
  rw [hs1] at hN
  have hs0 := Lib.hid hs1
  unfold zero11 at hN HD
  have G0 := Lib.hid hg0
  clear hcode hcode0 hb0 hg0 hs1
  unfold DrawChip
  go_enter Try.func9, Try.ntmps9
  go_wp2_with (go_at_call 21; refine hN.mono ?_; rintro e w1 ⟨rfl, hc, hb⟩; refine Hid.out ?_)
  have hb1 : Below (w.alloc zero11).heap.size (w.alloc zero11) w1 := by rw [hs0.out]; exact hb
  have hD := HD w1 hc hb
  have hy := l06Odd_any hD
  have K1 := Lib.hid (blk_below K0.out hb1)
  have G1 := Lib.hid (grown_below G0.out hb1)
  have hz : w.heap.size < w1.heap.size := (Array.getElem?_eq_some_iff.1 K1.out).1
  unfold ChipPost at hy
  clear hN HD hc hb K0 G0 hb1 hs0
  refine Lib.hid ?_
  go_wp2_with (go_at_call 22; refine hy.mono ?_; rintro e w2 ⟨⟨c1, l1, v1, ag, c2, o2, v2, pt, dr, fl, ms⟩, hf, rfl, hc, hg⟩; refine Hid.out ?_)
  have HF := Lib.hid hf
  clear hf
  rw [chipV_mk]
  have K2 := Lib.hid (blk_grown K1.out hg (by omega))
  have G2 := Lib.hid (grown_trans G1.out hg)
  clear K1 G1 hg hy hD
  refine Lib.hid ?_
  go_wp2_with (refine store_row rfl 25 (.tmp 2) _ rfl w.heap.size _ rfl rfl 11 hi.out K2.out rfl rfl (by rfl) ?_)
  (try simp only [Exit.inBlock, Exit.then])
  have hend := row_end K2.out hc G2.out (by omega) #[.int .i64 c1, .int .i64 l1, .bool v1, .bool ag, .int .i64 c2, .int .i64 o2, .bool v2, .int .i64 pt, .int .i64 dr, .int .i64 fl, .int .i64 ms]
  exact row_post rfl rfl Try.underlying25 rfl chip_size rfl rfl K2.out ⟨⟨c1, l1, v1, ag, c2, o2, v2, pt, dr, fl, ms⟩, HF.out, rfl, below_grown' hend.2.2 (Nat.le_refl _) (by omega)⟩
set_option maxRecDepth 100000 in
set_option maxHeartbeats 4000000 in
theorem drawAsks_any (B n c : Nat) (A : Option Addr) (w : World) (hB : B ≤ w.heap.size) (hcode : Code w B A n) :
    Calls Try.prog 11 #[.slice A n c] w (DrawChip w) := by
  have hi := Lib.hid chip_size
  have hb0 : Below w.heap.size w (w.alloc zero11) := (Below.refl _ _).alloc (Nat.le_refl _) _
  have hcode0 := hcode.below hB hb0
  have hN := l01New_any B n c A (w.alloc zero11) hcode0
  have HD := fun (w1 : World) hc hb => new_drawn (c := c) (w1 := w1) (Nat.le_trans hB hb0.size) hcode0 hc hb
  have K0 := Lib.hid (blk_new w zero11)
  have hg0 := grown_of_below (g := w.heap.size + 1) hb0
  have hs1 : (w.alloc zero11).heap.size = w.heap.size + 1 := by simp
  rw [hs1] at HD
  unfold NewPost at hN
  rw [hs1] at hN
  have hs0 := Lib.hid hs1
  unfold zero11 at hN HD
  have G0 := Lib.hid hg0
  clear hcode hcode0 hb0 hg0 hs1
  unfold DrawChip
  go_enter Try.func11, Try.ntmps11
  go_wp2_with (go_at_call 21; refine hN.mono ?_; rintro e w1 ⟨rfl, hc, hb⟩; refine Hid.out ?_)
  have hb1 : Below (w.alloc zero11).heap.size (w.alloc zero11) w1 := by rw [hs0.out]; exact hb
  have hD := HD w1 hc hb
  have hy := l06Odd_any hD
  have K1 := Lib.hid (blk_below K0.out hb1)
  have G1 := Lib.hid (grown_below G0.out hb1)
  have hz : w.heap.size < w1.heap.size := (Array.getElem?_eq_some_iff.1 K1.out).1
  unfold ChipPost at hy
  clear hN HD hc hb K0 G0 hb1 hs0
  refine Lib.hid ?_
  go_wp2_with (go_at_call 22; refine hy.mono ?_; rintro e w2 ⟨⟨c1, l1, v1, ag, c2, o2, v2, pt, dr, fl, ms⟩, hf, rfl, hc, hg⟩; refine Hid.out ?_)
  have HF := Lib.hid hf
  clear hf
  rw [chipV_mk]
  have K2 := Lib.hid (blk_grown K1.out hg (by omega))
  have G2 := Lib.hid (grown_trans G1.out hg)
  clear K1 G1 hg hy hD
  refine Lib.hid ?_
  go_wp2_with (refine store_row rfl 25 (.tmp 2) _ rfl w.heap.size _ rfl rfl 11 hi.out K2.out rfl rfl (by rfl) ?_)
  (try simp only [Exit.inBlock, Exit.then])
  have hend := row_end K2.out hc G2.out (by omega) #[.int .i64 c1, .int .i64 l1, .bool v1, .bool ag, .int .i64 c2, .int .i64 o2, .bool v2, .int .i64 pt, .int .i64 dr, .int .i64 fl, .int .i64 ms]
  exact row_post rfl rfl Try.underlying25 rfl chip_size rfl rfl K2.out ⟨⟨c1, l1, v1, ag, c2, o2, v2, pt, dr, fl, ms⟩, HF.out, rfl, below_grown' hend.2.2 (Nat.le_refl _) (by omega)⟩
end Go.Proofs.Ythelaeejgppjhaa
