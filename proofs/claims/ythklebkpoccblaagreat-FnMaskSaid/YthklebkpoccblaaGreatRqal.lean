/-
  Texts put together by program: LcD.
  Conditions: as each theorem says.
-/
import Derived.Test.YthklebkpoccblaaGreatRqai
import Derived.Test.YthklebkpoccblaaGreatRqak
namespace Go.Proofs.YthklebkpoccblaaGreat
open Go.RowKit
def FlatPost (g : Nat) (A : Option Addr) (n c : Nat) (w : World) (e : Ending) (w' : World) : Prop :=
 ∃ (k : RegI) (r o : ByteArray) (q : Int), e = .returned (.agg #[.int .i64 k.a, .int .i64 k.x, .int .i64 k.y, .int .i64 k.s, .int .i64 k.p, .int .i64 k.pc, .string r, .string o, .int .i64 q, .bool false]) ∧ k.ok ∧ r.size ≤ 2000 ∧ o.size ≤ 2000 ∧ Cur w' g A n c ∧ w.grownBy w' (some g)
theorem drawn_put {B g n c V i : Nat} {A : Option Addr} {w : World} {v : Value} (h : Drawn B g n c A w) (hV : V ≠ g) (hBV : B ≤ V) : Drawn B g n c A (w.setCell ⟨V, i, none⟩ v) :=
 ⟨by rw [show (w.setCell ⟨V, i, none⟩ v).heap.size = w.heap.size by simp]; exact h.hB, h.hBg, h.code.keep (fun p hp => World.cell?_of_block (Below.heap_setCell w ⟨V, i, none⟩ v p.block (by simp; omega))), h.cur.keep (Below.heap_setCell w ⟨V, i, none⟩ v g (by simp; omega))⟩
theorem grown_put {g V i : Nat} {w w' : World} {v : Value} (h : w.grownBy w' (some g)) (hV : w.heap.size ≤ V) : w.grownBy (w'.setCell ⟨V, i, none⟩ v) (some g) :=
 ⟨h.os, h.tape, h.output, by simpa [World.setCell] using h.size, fun k hk hn => (Below.heap_setCell w' ⟨V, i, none⟩ v k (by simp; omega)).trans (h.block k hk hn)⟩
theorem flat_size : (Tryz.prog.info? 103).map (·.size) = some 10 := by kernel_rfl
set_option maxRecDepth 100000 in
set_option maxHeartbeats 4000000 in
theorem l09Make_any {B g n c : Nat} {A : Option Addr} {w : World} (h : Drawn B g n c A w) :
  Calls Tryz.prog 84 #[.pointer (some ⟨g, 0, none⟩)] w (FlatPost g A n c w) := by
 have hBw := h.hB
 have hb0 : Below w.heap.size w (w.alloc (.cells #[.int .i64 0, .int .i64 0, .int .i64 0, .int .i64 0, .int .i64 0, .int .i64 0, .string ⟨#[]⟩, .string ⟨#[]⟩, .int .i64 0, .bool false] 103)) := (Below.refl _ _).alloc (Nat.le_refl _) _
 have H0 := Lib.hid (h.below hb0)
 have K0 := Lib.hid (blk_new w (.cells #[.int .i64 0, .int .i64 0, .int .i64 0, .int .i64 0, .int .i64 0, .int .i64 0, .string ⟨#[]⟩, .string ⟨#[]⟩, .int .i64 0, .bool false] 103))
 have G0 := Lib.hid (grown_of_below (g := g) hb0)
 have hne : w.heap.size ≠ g := by have := h.cur.lt; omega
 have hgl : g < w.heap.size := h.cur.lt
 have hy := l03Make_ok H0.out
 clear h hb0
 have hsz := Lib.hid flat_size
 go_enter Tryz.func84, Tryz.ntmps84
 go_wp2_with (go_at_call 88; refine hy.mono ?_; rintro e w1 ⟨k, rfl, hk, hc, hg⟩; refine Hid.out ?_)
 obtain ⟨a, x, y, s, p, pc⟩ := k
 simp only [regI_mk]
 have H1 := Lib.hid (H0.out.next hc hg)
 have K1 := Lib.hid (blk_grown K0.out hg hne)
 have G1 := Lib.hid (grown_trans G0.out hg)
 clear hc hg
 have hy := l05Make_any H1.out
 refine Lib.hid ?_
 go_wp2_with (go_at_call 109; refine hy.mono ?_; rintro e w2 ⟨r, o, rfl, hr, ho, hc, hg⟩; refine Hid.out ?_)
 have H2 := Lib.hid (H1.out.next hc hg)
 have K2 := Lib.hid (blk_grown K1.out hg hne)
 have G2 := Lib.hid (grown_trans G1.out hg)
 clear hc hg
 have hy := l02Byte_in H2.out
 refine Lib.hid ?_
 go_wp2_with (go_at_call 60; refine hy.mono ?_; rintro e w3 ⟨n0, rfl, n00, n01, hc, hg⟩; refine Hid.out ?_)
 have H3 := Lib.hid (H2.out.next hc hg)
 have K3 := Lib.hid (blk_grown K2.out hg hne)
 have G3 := Lib.hid (grown_trans G2.out hg)
 clear hc hg
 have hz : w.heap.size < w3.heap.size := (Array.getElem?_eq_some_iff.1 K3.out).1
 refine Lib.hid ?_
 go_wp2_with (refine store_row (by rfl) 103 (.tmp 3) (.tmp 10) rfl w3.heap.size #[.int .i64 a, .int .i64 x, .int .i64 y, .int .i64 s, .int .i64 p, .int .i64 pc, .string r, .string o, .int .i64 n0, .bool false] rfl rfl 10 hsz.out (blk_new w3 (.cells #[.int .i64 0, .int .i64 0, .int .i64 0, .int .i64 0, .int .i64 0, .int .i64 0, .string ⟨#[]⟩, .string ⟨#[]⟩, .int .i64 0, .bool false] 103)) rfl rfl (by rfl) ?_; refine Hid.out ?_)
 have hbV : Below w3.heap.size w3 ((w3.alloc (.cells #[.int .i64 0, .int .i64 0, .int .i64 0, .int .i64 0, .int .i64 0, .int .i64 0, .string ⟨#[]⟩, .string ⟨#[]⟩, .int .i64 0, .bool false] 103)).setRow w3.heap.size #[.int .i64 a, .int .i64 x, .int .i64 y, .int .i64 s, .int .i64 p, .int .i64 pc, .string r, .string o, .int .i64 n0, .bool false]) := below_row (below_alloc (Below.refl _ _) _) (Nat.le_refl _)
 have HV := Lib.hid (setRow_heap _ _ _ #[.int .i64 a, .int .i64 x, .int .i64 y, .int .i64 s, .int .i64 p, .int .i64 pc, .string r, .string o, .int .i64 n0, .bool false] _ _ (blk_new w3 (.cells #[.int .i64 0, .int .i64 0, .int .i64 0, .int .i64 0, .int .i64 0, .int .i64 0, .string ⟨#[]⟩, .string ⟨#[]⟩, .int .i64 0, .bool false] 103)))
 have HR := Lib.hid (blk_below K3.out hbV)
 have H5 := Lib.hid (H3.out.below hbV)
 have G5 := Lib.hid (grown_below G3.out hbV)
 clear hbV
 generalize (w3.alloc (.cells #[.int .i64 0, .int .i64 0, .int .i64 0, .int .i64 0, .int .i64 0, .int .i64 0, .string ⟨#[]⟩, .string ⟨#[]⟩, .int .i64 0, .bool false] 103)).setRow w3.heap.size #[.int .i64 a, .int .i64 x, .int .i64 y, .int .i64 s, .int .i64 p, .int .i64 pc, .string r, .string o, .int .i64 n0, .bool false] = w5 at HV HR H5 G5 ⊢
 have hP := pickInt_in (lo := 0) (hi := 65535) H5.out [.int .i64 512, .int .i64 512, .int .i64 752, .int .i64 1000] (k := 4) rfl (by omega) (by omega)
  (by repeat (first | exact allIn_nil | refine allIn_cons ⟨by omega, by omega⟩ ?_))
 refine Lib.hid ?_
 go_wp2_with (go_at_call 57; refine hP.mono ?_; rintro e w4 ⟨q, rfl, q0, q1, hc, hg⟩; refine Hid.out ?_)
 have hVg : w3.heap.size ≠ g := by omega
 have H6 := Lib.hid (H5.out.next hc hg)
 have HV := Lib.hid (blk_grown HV.out hg hVg)
 have HR := Lib.hid (blk_grown HR.out hg hne)
 have G6 := Lib.hid (grown_trans G5.out hg)
 clear hc hg hy hP
 have v5 := cell_of_blk (i := 5) (v := .int .i64 pc) HV.out rfl
 have fV := fun i => free_of_blk (i := i) HV.out
 refine Lib.hid ?_
 go_wp2_with (fail)
 have hBV : B ≤ w3.heap.size := by omega
 have H7 := Lib.hid (drawn_put (i := 5) (v := .int .i64 q) H6.out hVg hBV)
 have G7 := Lib.hid (grown_put (i := 5) (v := .int .i64 q) G6.out (show w.heap.size ≤ w3.heap.size by omega))
 have hDV : w.heap.size ≠ w3.heap.size := by omega
 have HR := Lib.hid (row_far (i := 5) (v := .int .i64 q) HR.out hDV)
 have HV2 := row_set (i := 5) (v := .int .i64 q) HV.out
 simp only [List.setIfInBounds_toArray, List.set_cons_zero, List.set_cons_succ] at HV2
 have HV := Lib.hid HV2
 clear HV2 v5 fV H6 G6
 generalize World.setCell _ ⟨w3.heap.size, 5, none⟩ (.int .i64 q) = w6 at H7 G7 HR HV ⊢
 have HS := Lib.hid HV.out
 refine wp_region_held_drew (S := fun w' => Hid (∃ m : ByteArray, w'.heap[w3.heap.size]? = some (.cells #[.int .i64 a, .int .i64 x, .int .i64 y, .int .i64 s, .int .i64 p, .int .i64 q, .string m, .string o, .int .i64 n0, .bool false] 103 (0, 0)))) (by kernel_rfl) (Lib.hid ⟨r, row_drew HV.out⟩) (fun hHeld => ?_)
 have H7 := Lib.hid H7.out.drew
 have R7 := Lib.hid (row_drew HR.out)
 have G7 := Lib.hid (grown_drewR G7.out)
 have V7 := Lib.hid (row_drew HV.out)
 generalize World.drew _ = w6 at H7 R7 G7 V7 hHeld ⊢
 refine wpAnyH_take (i := 0) (oi := _) (v := ?_) rfl (by kernel_rfl) (by kernel_rfl) (by kernel_rfl) (fun _ _ _ h => h) (Or.inl ⟨by rfl, ?_⟩) hHeld ?_
 rotate_left 1
 ·intro wz hz
  (try dsimp only at hz)
  go_simp
  (try with_reducible rfl)
 (try simp only [Act.put, List.getElem_toArray, List.getElem_cons_zero, List.setIfInBounds_toArray, List.set_cons_zero, List.set_cons_succ])
 refine wpAnyH_take (i := 2) (oi := _) (v := ?_) rfl (by kernel_rfl) (by kernel_rfl) (by kernel_rfl) (fun _ _ _ h => h) (Or.inl ⟨by rfl, ?_⟩) hHeld ?_
 rotate_left 1
 ·intro wz hz
  (try dsimp only at hz)
  go_simp
  (try with_reducible rfl)
 (try simp only [Act.put, List.getElem_toArray, List.getElem_cons_zero, List.getElem_cons_succ, List.setIfInBounds_toArray, List.set_cons_zero, List.set_cons_succ])
 refine wpAnyH_take (i := 3) (oi := _) (v := ?_) rfl (by kernel_rfl) (by kernel_rfl) (by kernel_rfl) (fun _ _ _ h => h) (Or.inl ⟨by rfl, ?_⟩) hHeld ?_
 rotate_left 1
 ·intro wz hz
  (try dsimp only at hz)
  go_simp
  (try with_reducible rfl)
 (try simp only [Act.put, List.getElem_toArray, List.getElem_cons_zero, List.getElem_cons_succ, List.setIfInBounds_toArray, List.set_cons_zero, List.set_cons_succ])
 refine wpAnyH_take (i := 4) (oi := _) (v := ?_) rfl (by kernel_rfl) (by kernel_rfl) (by kernel_rfl) (fun _ _ _ h => h) (Or.inl ⟨by rfl, ?_⟩) hHeld ?_
 rotate_left 1
 ·intro wz hz
  (try dsimp only at hz)
  obtain ⟨mm, hm⟩ := Hid.out hz; have cc := cell_of_blk (i := 5) (v := .int .i64 q) hm rfl
  go_simp
  (try with_reducible rfl)
 (try simp only [Act.put, List.getElem_toArray, List.getElem_cons_zero, List.getElem_cons_succ, List.setIfInBounds_toArray, List.set_cons_zero, List.set_cons_succ])
 refine wpAnyH_take (i := 5) (oi := _) (v := ?_) rfl (by kernel_rfl) (by kernel_rfl) (by kernel_rfl) (fun _ _ _ h => h) (Or.inl ⟨by rfl, ?_⟩) hHeld ?_
 rotate_left 1
 ·intro wz hz
  (try dsimp only at hz)
  go_simp
  (try with_reducible rfl)
 (try simp only [Act.put, List.getElem_toArray, List.getElem_cons_zero, List.getElem_cons_succ, List.setIfInBounds_toArray, List.set_cons_zero, List.set_cons_succ])
 refine wpAnyH_take (i := 6) (oi := _) (v := ?_) rfl (by kernel_rfl) (by kernel_rfl) (by kernel_rfl) (fun _ _ _ h => h) (Or.inl ⟨by rfl, ?_⟩) hHeld ?_
 rotate_left 1
 ·intro wz hz
  (try dsimp only at hz)
  go_simp
  (try with_reducible rfl)
 (try simp only [Act.put, List.getElem_toArray, List.getElem_cons_zero, List.getElem_cons_succ, List.setIfInBounds_toArray, List.set_cons_zero, List.set_cons_succ])
 refine wpAnyH_ready (rs := [1, 7]) (by kernel_rfl) (by simp) ?_
 refine AllReadyH.cons (o := _) rfl (fun K' hK' => ?_) ?_
 ·rw [if_pos (by rfl)]
  refine wp_load_part 80 (.tmp 16) rfl w3.heap.size 6 rfl #[.string r, .string o] _ Tryz.underlying80 rfl (by kernel_rfl) V7.out rfl ?_
  refine hK'.out _ _ (Lib.hid ⟨r, V7.out⟩) (fun hHeld => ?_)
  clear hK' K'
  (try simp only [Act.put, List.getElem_toArray, List.getElem_cons_zero, List.getElem_cons_succ, List.setIfInBounds_toArray, List.set_cons_zero, List.set_cons_succ])
  refine wpAnyH_ready (rs := [7]) (by kernel_rfl) (by simp) ?_
  refine AllReadyH.cons (o := _) rfl (fun K' hK' => ?_) AllReadyH.nil
  have hy := l01Below_any H7.out 5 (by omega) (by omega)
  go_simp
  (go_at_call 55; refine hy.mono ?_; rintro e w7 ⟨z, rfl, z0, z1, hc, hg⟩)
  obtain ⟨Z, rfl⟩ : ∃ Z : Nat, z = Z := ⟨z.toNat, by omega⟩
  obtain ⟨H8, V8, R8, G8⟩ := make_two H7.out V7.out R7.out G7.out hVg hne hc hg
  have H8 := Lib.hid H8
  have V8 := Lib.hid V8
  have R8 := Lib.hid R8
  have G8 := Lib.hid G8
  clear hc hg hy
  refine hK'.out _ _ (Lib.hid ⟨r, V8.out⟩) (fun hHeld => ?_)
  clear hK' K'
  (try simp only [Act.put, List.getElem_toArray, List.getElem_cons_zero, List.getElem_cons_succ, List.setIfInBounds_toArray, List.set_cons_zero, List.set_cons_succ])
  have hzz : IntKind.i64.wrap (1 + (Z : Int)) = 1 + (Z : Int) := by have := z1; exact IntWalk.i64_in _ ⟨by omega, by omega⟩
  refine wpAnyH_take (i := 8) (oi := _) (v := ?_) rfl (by kernel_rfl) (by kernel_rfl) (by kernel_rfl) (fun _ _ _ h => h) (Or.inl ⟨by rfl, ?_⟩) hHeld ?_
  rotate_left 1
  ·intro wz hz
   (try dsimp only at hz)
   go_simp
   (try with_reducible rfl)
  (try simp only [Act.put, List.getElem_toArray, List.getElem_cons_zero, List.getElem_cons_succ, List.setIfInBounds_toArray, List.set_cons_zero, List.set_cons_succ])
  refine wpAnyH_ready (rs := [9]) (by kernel_rfl) (by simp) ?_
  refine AllReadyH.cons (o := _) rfl (fun K' hK' => ?_) AllReadyH.nil
  have hy8 := l09Code_any H8.out (1 + Z) (by omega)
  rw [show ((1 + Z : Nat) : Int) = 1 + (Z : Int) by omega] at hy8
  go_simp
  (go_at_call 111; refine hy8.mono ?_; rintro e w8 ⟨s9, rfl, hs9, hc, hg⟩)
  obtain ⟨H9, V9, R9, G9⟩ := make_two H8.out V8.out R8.out G8.out hVg hne hc hg
  have H9 := Lib.hid H9
  have V9 := Lib.hid V9
  have R9 := Lib.hid R9
  have G9 := Lib.hid G9
  clear hc hg hy8
  refine hK'.out _ _ (Lib.hid ⟨r, V9.out⟩) (fun hHeld => ?_)
  clear hK' K'
  (try simp only [Act.put, List.getElem_toArray, List.getElem_cons_zero, List.getElem_cons_succ, List.setIfInBounds_toArray, List.set_cons_zero, List.set_cons_succ])
  refine wpAnyH_ready (rs := [10]) (by kernel_rfl) (by simp) ?_
  refine AllReadyH.cons (o := _) rfl (fun K' hK' => ?_) AllReadyH.nil
  have hyL := spec_load r o q s9 (by unfold maxLen; omega) w8
  unfold memV at hyL
  go_simp
  (go_at_call 110; refine hyL.mono ?_; rintro e w9 ⟨rfl, hb9⟩)
  have V10 := Lib.hid (blk_below V9.out hb9)
  have H10 := Lib.hid (H9.out.below hb9)
  have R10 := Lib.hid (blk_below R9.out hb9)
  have G10 := Lib.hid (grown_below G9.out hb9)
  clear hyL hb9
  refine hK'.out _ _ (Lib.hid ⟨r, V10.out⟩) (fun hHeld => ?_)
  clear hK' K'
  (try simp only [Act.put, List.getElem_toArray, List.getElem_cons_zero, List.getElem_cons_succ, List.setIfInBounds_toArray, List.set_cons_zero, List.set_cons_succ])
  refine wpAnyH_take (i := 11) (oi := _) (v := ?_) rfl (by kernel_rfl) (by kernel_rfl) (by kernel_rfl) (fun _ _ _ h => h) (Or.inl ⟨by rfl, ?_⟩) hHeld ?_
  rotate_left 1
  ·intro wz hz
   (try dsimp only at hz)
   go_simp
   (try with_reducible rfl)
  (try simp only [Act.put, List.getElem_toArray, List.getElem_cons_zero, List.getElem_cons_succ, List.setIfInBounds_toArray, List.set_cons_zero, List.set_cons_succ])
  refine wpAnyH_ready (rs := [12]) (by kernel_rfl) (by simp) ?_
  refine AllReadyH.cons (o := _) rfl (fun K' hK' => ?_) AllReadyH.nil
  rw [if_pos (by rfl)]
  refine wp_store_part 80 (.tmp 27) (.tmp 26) rfl w3.heap.size 6 #[.string (loadR r o q s9), .string o] #[.int .i64 a, .int .i64 x, .int .i64 y, .int .i64 s, .int .i64 p, .int .i64 q, .string (loadR r o q s9), .string o, .int .i64 n0, .bool false] rfl rfl (by kernel_rfl) V10.out (Nat.le_of_ble_eq_true rfl) rfl rfl ?_
  have VX := Lib.hid (setRow_heap _ _ _ #[.int .i64 a, .int .i64 x, .int .i64 y, .int .i64 s, .int .i64 p, .int .i64 q, .string (loadR r o q s9), .string o, .int .i64 n0, .bool false] _ _ V10.out)
  have HX := Lib.hid (drawn_row (cs := #[.int .i64 a, .int .i64 x, .int .i64 y, .int .i64 s, .int .i64 p, .int .i64 q, .string (loadR r o q s9), .string o, .int .i64 n0, .bool false]) H10.out hVg hBV)
  have RX := Lib.hid (row_row (cs := #[.int .i64 a, .int .i64 x, .int .i64 y, .int .i64 s, .int .i64 p, .int .i64 q, .string (loadR r o q s9), .string o, .int .i64 n0, .bool false]) R10.out hDV)
  have GX := Lib.hid (grown_row (cs := #[.int .i64 a, .int .i64 x, .int .i64 y, .int .i64 s, .int .i64 p, .int .i64 q, .string (loadR r o q s9), .string o, .int .i64 n0, .bool false]) G10.out (show w.heap.size ≤ w3.heap.size by omega))
  refine hK'.out _ _ (Lib.hid ⟨_, VX.out⟩) (fun hHeld => ?_)
  clear hK' K' hHeld
  refine wpAnyH_done (by kernel_rfl) ?_ _
  clear H7 V7 R7 G7 H8 V8 R8 G8 H9 V9 R9 G9 H10 V10 R10 G10
  generalize World.setRow _ w3.heap.size #[.int .i64 a, .int .i64 x, .int .i64 y, .int .i64 s, .int .i64 p, .int .i64 q, .string (loadR r o q s9), .string o, .int .i64 n0, .bool false] = w10 at VX HX RX GX ⊢
  go_wp2_with (first
   | (refine load_row rfl 103 (.tmp 3) rfl w3.heap.size rfl 10 _ Tryz.underlying103 rfl hsz.out VX.out rfl ?_)
   | (refine store_row rfl 103 (.tmp 2) (.tmp 28) rfl w.heap.size _ rfl rfl 10 hsz.out RX.out rfl rfl (by rfl) ?_))
  have hend := row_end RX.out HX.out.cur GX.out hne #[.int .i64 a, .int .i64 x, .int .i64 y, .int .i64 s, .int .i64 p, .int .i64 q, .string (loadR r o q s9), .string o, .int .i64 n0, .bool false]
  exact bodyPost_ret (results_cell_row rfl _ _ w.heap.size _ _ _ _ rfl hend.1 Tryz.underlying103 rfl flat_size) rfl ⟨⟨a, x, y, s, p, q⟩, loadR r o q s9, o, n0, rfl, ⟨hk.a, hk.x, hk.y, hk.s, hk.p, hk.kp, ⟨by omega, by omega⟩⟩, loadR_size r o q s9 hr, ho, hend.2.1, hend.2.2⟩
 refine AllReadyH.cons (o := _) rfl (fun K' hK' => ?_) AllReadyH.nil
 have hy := l01Below_any H7.out 5 (by omega) (by omega)
 go_simp
 (go_at_call 55; refine hy.mono ?_; rintro e w7 ⟨z, rfl, z0, z1, hc, hg⟩)
 obtain ⟨Z, rfl⟩ : ∃ Z : Nat, z = Z := ⟨z.toNat, by omega⟩
 obtain ⟨H8, V8, R8, G8⟩ := make_two H7.out V7.out R7.out G7.out hVg hne hc hg
 have H8 := Lib.hid H8
 have V8 := Lib.hid V8
 have R8 := Lib.hid R8
 have G8 := Lib.hid G8
 clear hc hg hy
 refine hK'.out _ _ (Lib.hid ⟨r, V8.out⟩) (fun hHeld => ?_)
 clear hK' K'
 (try simp only [Act.put, List.getElem_toArray, List.getElem_cons_zero, List.getElem_cons_succ, List.setIfInBounds_toArray, List.set_cons_zero, List.set_cons_succ])
 have hzz : IntKind.i64.wrap (1 + (Z : Int)) = 1 + (Z : Int) := by have := z1; exact IntWalk.i64_in _ ⟨by omega, by omega⟩
 refine wpAnyH_take (i := 8) (oi := _) (v := ?_) rfl (by kernel_rfl) (by kernel_rfl) (by kernel_rfl) (fun _ _ _ h => h) (Or.inl ⟨by rfl, ?_⟩) hHeld ?_
 rotate_left 1
 ·intro wz hz
  (try dsimp only at hz)
  go_simp
  (try with_reducible rfl)
 (try simp only [Act.put, List.getElem_toArray, List.getElem_cons_zero, List.getElem_cons_succ, List.setIfInBounds_toArray, List.set_cons_zero, List.set_cons_succ])
 refine wpAnyH_ready (rs := [1, 9]) (by kernel_rfl) (by simp) ?_
 refine AllReadyH.cons (o := _) rfl (fun K' hK' => ?_) ?_
 ·rw [if_pos (by rfl)]
  refine wp_load_part 80 (.tmp 16) rfl w3.heap.size 6 rfl #[.string r, .string o] _ Tryz.underlying80 rfl (by kernel_rfl) V8.out rfl ?_
  refine hK'.out _ _ (Lib.hid ⟨r, V8.out⟩) (fun hHeld => ?_)
  clear hK' K'
  (try simp only [Act.put, List.getElem_toArray, List.getElem_cons_zero, List.getElem_cons_succ, List.setIfInBounds_toArray, List.set_cons_zero, List.set_cons_succ])
  refine wpAnyH_ready (rs := [9]) (by kernel_rfl) (by simp) ?_
  refine AllReadyH.cons (o := _) rfl (fun K' hK' => ?_) AllReadyH.nil
  have hy8 := l09Code_any H8.out (1 + Z) (by omega)
  rw [show ((1 + Z : Nat) : Int) = 1 + (Z : Int) by omega] at hy8
  go_simp
  (go_at_call 111; refine hy8.mono ?_; rintro e w8 ⟨s9, rfl, hs9, hc, hg⟩)
  obtain ⟨H9, V9, R9, G9⟩ := make_two H8.out V8.out R8.out G8.out hVg hne hc hg
  have H9 := Lib.hid H9
  have V9 := Lib.hid V9
  have R9 := Lib.hid R9
  have G9 := Lib.hid G9
  clear hc hg hy8
  refine hK'.out _ _ (Lib.hid ⟨r, V9.out⟩) (fun hHeld => ?_)
  clear hK' K'
  (try simp only [Act.put, List.getElem_toArray, List.getElem_cons_zero, List.getElem_cons_succ, List.setIfInBounds_toArray, List.set_cons_zero, List.set_cons_succ])
  refine wpAnyH_ready (rs := [10]) (by kernel_rfl) (by simp) ?_
  refine AllReadyH.cons (o := _) rfl (fun K' hK' => ?_) AllReadyH.nil
  have hyL := spec_load r o q s9 (by unfold maxLen; omega) w8
  unfold memV at hyL
  go_simp
  (go_at_call 110; refine hyL.mono ?_; rintro e w9 ⟨rfl, hb9⟩)
  have V10 := Lib.hid (blk_below V9.out hb9)
  have H10 := Lib.hid (H9.out.below hb9)
  have R10 := Lib.hid (blk_below R9.out hb9)
  have G10 := Lib.hid (grown_below G9.out hb9)
  clear hyL hb9
  refine hK'.out _ _ (Lib.hid ⟨r, V10.out⟩) (fun hHeld => ?_)
  clear hK' K'
  (try simp only [Act.put, List.getElem_toArray, List.getElem_cons_zero, List.getElem_cons_succ, List.setIfInBounds_toArray, List.set_cons_zero, List.set_cons_succ])
  refine wpAnyH_take (i := 11) (oi := _) (v := ?_) rfl (by kernel_rfl) (by kernel_rfl) (by kernel_rfl) (fun _ _ _ h => h) (Or.inl ⟨by rfl, ?_⟩) hHeld ?_
  rotate_left 1
  ·intro wz hz
   (try dsimp only at hz)
   go_simp
   (try with_reducible rfl)
  (try simp only [Act.put, List.getElem_toArray, List.getElem_cons_zero, List.getElem_cons_succ, List.setIfInBounds_toArray, List.set_cons_zero, List.set_cons_succ])
  refine wpAnyH_ready (rs := [12]) (by kernel_rfl) (by simp) ?_
  refine AllReadyH.cons (o := _) rfl (fun K' hK' => ?_) AllReadyH.nil
  rw [if_pos (by rfl)]
  refine wp_store_part 80 (.tmp 27) (.tmp 26) rfl w3.heap.size 6 #[.string (loadR r o q s9), .string o] #[.int .i64 a, .int .i64 x, .int .i64 y, .int .i64 s, .int .i64 p, .int .i64 q, .string (loadR r o q s9), .string o, .int .i64 n0, .bool false] rfl rfl (by kernel_rfl) V10.out (Nat.le_of_ble_eq_true rfl) rfl rfl ?_
  have VX := Lib.hid (setRow_heap _ _ _ #[.int .i64 a, .int .i64 x, .int .i64 y, .int .i64 s, .int .i64 p, .int .i64 q, .string (loadR r o q s9), .string o, .int .i64 n0, .bool false] _ _ V10.out)
  have HX := Lib.hid (drawn_row (cs := #[.int .i64 a, .int .i64 x, .int .i64 y, .int .i64 s, .int .i64 p, .int .i64 q, .string (loadR r o q s9), .string o, .int .i64 n0, .bool false]) H10.out hVg hBV)
  have RX := Lib.hid (row_row (cs := #[.int .i64 a, .int .i64 x, .int .i64 y, .int .i64 s, .int .i64 p, .int .i64 q, .string (loadR r o q s9), .string o, .int .i64 n0, .bool false]) R10.out hDV)
  have GX := Lib.hid (grown_row (cs := #[.int .i64 a, .int .i64 x, .int .i64 y, .int .i64 s, .int .i64 p, .int .i64 q, .string (loadR r o q s9), .string o, .int .i64 n0, .bool false]) G10.out (show w.heap.size ≤ w3.heap.size by omega))
  refine hK'.out _ _ (Lib.hid ⟨_, VX.out⟩) (fun hHeld => ?_)
  clear hK' K' hHeld
  refine wpAnyH_done (by kernel_rfl) ?_ _
  clear H7 V7 R7 G7 H8 V8 R8 G8 H9 V9 R9 G9 H10 V10 R10 G10
  generalize World.setRow _ w3.heap.size #[.int .i64 a, .int .i64 x, .int .i64 y, .int .i64 s, .int .i64 p, .int .i64 q, .string (loadR r o q s9), .string o, .int .i64 n0, .bool false] = w10 at VX HX RX GX ⊢
  go_wp2_with (first
   | (refine load_row rfl 103 (.tmp 3) rfl w3.heap.size rfl 10 _ Tryz.underlying103 rfl hsz.out VX.out rfl ?_)
   | (refine store_row rfl 103 (.tmp 2) (.tmp 28) rfl w.heap.size _ rfl rfl 10 hsz.out RX.out rfl rfl (by rfl) ?_))
  have hend := row_end RX.out HX.out.cur GX.out hne #[.int .i64 a, .int .i64 x, .int .i64 y, .int .i64 s, .int .i64 p, .int .i64 q, .string (loadR r o q s9), .string o, .int .i64 n0, .bool false]
  exact bodyPost_ret (results_cell_row rfl _ _ w.heap.size _ _ _ _ rfl hend.1 Tryz.underlying103 rfl flat_size) rfl ⟨⟨a, x, y, s, p, q⟩, loadR r o q s9, o, n0, rfl, ⟨hk.a, hk.x, hk.y, hk.s, hk.p, hk.kp, ⟨by omega, by omega⟩⟩, loadR_size r o q s9 hr, ho, hend.2.1, hend.2.2⟩
 refine AllReadyH.cons (o := _) rfl (fun K' hK' => ?_) AllReadyH.nil
 have hy8 := l09Code_any H8.out (1 + Z) (by omega)
 rw [show ((1 + Z : Nat) : Int) = 1 + (Z : Int) by omega] at hy8
 go_simp
 (go_at_call 111; refine hy8.mono ?_; rintro e w8 ⟨s9, rfl, hs9, hc, hg⟩)
 obtain ⟨H9, V9, R9, G9⟩ := make_two H8.out V8.out R8.out G8.out hVg hne hc hg
 have H9 := Lib.hid H9
 have V9 := Lib.hid V9
 have R9 := Lib.hid R9
 have G9 := Lib.hid G9
 clear hc hg hy8
 refine hK'.out _ _ (Lib.hid ⟨r, V9.out⟩) (fun hHeld => ?_)
 clear hK' K'
 (try simp only [Act.put, List.getElem_toArray, List.getElem_cons_zero, List.getElem_cons_succ, List.setIfInBounds_toArray, List.set_cons_zero, List.set_cons_succ])
 refine wpAnyH_ready (rs := [1]) (by kernel_rfl) (by simp) ?_
 refine AllReadyH.cons (o := _) rfl (fun K' hK' => ?_) AllReadyH.nil
 rw [if_pos (by rfl)]
 refine wp_load_part 80 (.tmp 16) rfl w3.heap.size 6 rfl #[.string r, .string o] _ Tryz.underlying80 rfl (by kernel_rfl) V9.out rfl ?_
 refine hK'.out _ _ (Lib.hid ⟨r, V9.out⟩) (fun hHeld => ?_)
 clear hK' K'
 (try simp only [Act.put, List.getElem_toArray, List.getElem_cons_zero, List.getElem_cons_succ, List.setIfInBounds_toArray, List.set_cons_zero, List.set_cons_succ])
 refine wpAnyH_ready (rs := [10]) (by kernel_rfl) (by simp) ?_
 refine AllReadyH.cons (o := _) rfl (fun K' hK' => ?_) AllReadyH.nil
 have hyL := spec_load r o q s9 (by unfold maxLen; omega) w8
 unfold memV at hyL
 go_simp
 (go_at_call 110; refine hyL.mono ?_; rintro e w9 ⟨rfl, hb9⟩)
 have V10 := Lib.hid (blk_below V9.out hb9)
 have H10 := Lib.hid (H9.out.below hb9)
 have R10 := Lib.hid (blk_below R9.out hb9)
 have G10 := Lib.hid (grown_below G9.out hb9)
 clear hyL hb9
 refine hK'.out _ _ (Lib.hid ⟨r, V10.out⟩) (fun hHeld => ?_)
 clear hK' K'
 (try simp only [Act.put, List.getElem_toArray, List.getElem_cons_zero, List.getElem_cons_succ, List.setIfInBounds_toArray, List.set_cons_zero, List.set_cons_succ])
 refine wpAnyH_take (i := 11) (oi := _) (v := ?_) rfl (by kernel_rfl) (by kernel_rfl) (by kernel_rfl) (fun _ _ _ h => h) (Or.inl ⟨by rfl, ?_⟩) hHeld ?_
 rotate_left 1
 ·intro wz hz
  (try dsimp only at hz)
  go_simp
  (try with_reducible rfl)
 (try simp only [Act.put, List.getElem_toArray, List.getElem_cons_zero, List.getElem_cons_succ, List.setIfInBounds_toArray, List.set_cons_zero, List.set_cons_succ])
 refine wpAnyH_ready (rs := [12]) (by kernel_rfl) (by simp) ?_
 refine AllReadyH.cons (o := _) rfl (fun K' hK' => ?_) AllReadyH.nil
 rw [if_pos (by rfl)]
 refine wp_store_part 80 (.tmp 27) (.tmp 26) rfl w3.heap.size 6 #[.string (loadR r o q s9), .string o] #[.int .i64 a, .int .i64 x, .int .i64 y, .int .i64 s, .int .i64 p, .int .i64 q, .string (loadR r o q s9), .string o, .int .i64 n0, .bool false] rfl rfl (by kernel_rfl) V10.out (Nat.le_of_ble_eq_true rfl) rfl rfl ?_
 have VX := Lib.hid (setRow_heap _ _ _ #[.int .i64 a, .int .i64 x, .int .i64 y, .int .i64 s, .int .i64 p, .int .i64 q, .string (loadR r o q s9), .string o, .int .i64 n0, .bool false] _ _ V10.out)
 have HX := Lib.hid (drawn_row (cs := #[.int .i64 a, .int .i64 x, .int .i64 y, .int .i64 s, .int .i64 p, .int .i64 q, .string (loadR r o q s9), .string o, .int .i64 n0, .bool false]) H10.out hVg hBV)
 have RX := Lib.hid (row_row (cs := #[.int .i64 a, .int .i64 x, .int .i64 y, .int .i64 s, .int .i64 p, .int .i64 q, .string (loadR r o q s9), .string o, .int .i64 n0, .bool false]) R10.out hDV)
 have GX := Lib.hid (grown_row (cs := #[.int .i64 a, .int .i64 x, .int .i64 y, .int .i64 s, .int .i64 p, .int .i64 q, .string (loadR r o q s9), .string o, .int .i64 n0, .bool false]) G10.out (show w.heap.size ≤ w3.heap.size by omega))
 refine hK'.out _ _ (Lib.hid ⟨_, VX.out⟩) (fun hHeld => ?_)
 clear hK' K' hHeld
 refine wpAnyH_done (by kernel_rfl) ?_ _
 clear H7 V7 R7 G7 H8 V8 R8 G8 H9 V9 R9 G9 H10 V10 R10 G10
 generalize World.setRow _ w3.heap.size #[.int .i64 a, .int .i64 x, .int .i64 y, .int .i64 s, .int .i64 p, .int .i64 q, .string (loadR r o q s9), .string o, .int .i64 n0, .bool false] = w10 at VX HX RX GX ⊢
 go_wp2_with (first
  | (refine load_row rfl 103 (.tmp 3) rfl w3.heap.size rfl 10 _ Tryz.underlying103 rfl hsz.out VX.out rfl ?_)
  | (refine store_row rfl 103 (.tmp 2) (.tmp 28) rfl w.heap.size _ rfl rfl 10 hsz.out RX.out rfl rfl (by rfl) ?_))
 have hend := row_end RX.out HX.out.cur GX.out hne #[.int .i64 a, .int .i64 x, .int .i64 y, .int .i64 s, .int .i64 p, .int .i64 q, .string (loadR r o q s9), .string o, .int .i64 n0, .bool false]
 exact bodyPost_ret (results_cell_row rfl _ _ w.heap.size _ _ _ _ rfl hend.1 Tryz.underlying103 rfl flat_size) rfl ⟨⟨a, x, y, s, p, q⟩, loadR r o q s9, o, n0, rfl, ⟨hk.a, hk.x, hk.y, hk.s, hk.p, hk.kp, ⟨by omega, by omega⟩⟩, loadR_size r o q s9 hr, ho, hend.2.1, hend.2.2⟩
end Go.Proofs.YthklebkpoccblaaGreat
