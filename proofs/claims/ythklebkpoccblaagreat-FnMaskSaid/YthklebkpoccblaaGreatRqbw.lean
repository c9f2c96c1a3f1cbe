/-
  Texts put together by program: CkM, LrA, AtB.
  Conditions: as each theorem says.
-/
import Derived.Laws.StructEq
import Derived.Test.YthklebkpoccblaaGreatRqbp
import Derived.Test.YthklebkpoccblaaGreatRqbv
namespace Go.Proofs.YthklebkpoccblaaGreat
open Go.RowKit
structure Bds (a x y s p pc sq cd t lo hi vl nx : Int) : Prop where
 ha : 0 ≤ a ∧ a ≤ 255
 hx : 0 ≤ x ∧ x ≤ 255
 hy : 0 ≤ y ∧ y ≤ 255
 hs : 0 ≤ s ∧ s ≤ 255
 hp : 0 ≤ p ∧ p ≤ 255
 kp : keptB p = true
 hpc : 0 ≤ pc ∧ pc ≤ 65535
 hsq : 0 ≤ sq ∧ sq ≤ 3
 hnx : 0 ≤ nx ∧ nx ≤ 3
 hcd : 0 ≤ cd ∧ cd ≤ 255
 hlo : 0 ≤ lo ∧ lo ≤ 255
 hhi : 0 ≤ hi ∧ hi ≤ 255
 hvl : 0 ≤ vl ∧ vl ≤ 255
 ht : stepB t = true
theorem bds_of {a x y s p pc sq cd t lo hi vl nx : Int} (h : okCo a x y s p pc sq cd t lo hi vl nx = true) : Bds a x y s p pc sq cd t lo hi vl nx := by
 unfold okCo okR at h
 simp only [Bool.and_eq_true] at h
 obtain ⟨⟨⟨⟨⟨⟨⟨⟨⟨⟨⟨⟨⟨ha, hx⟩, hy⟩, hs⟩, hp⟩, hk⟩, hpc⟩, hsq⟩, hnx⟩, hcd⟩, hlo⟩, hhi⟩, hvl⟩, ht⟩ := h
 exact ⟨isB_yes ha, isB_yes hx, isB_yes hy, isB_yes hs, isB_yes hp, hk, isAd_yes hpc, isUp_yes hsq, isUp_yes hnx, isB_yes hcd, isB_yes hlo, isB_yes hhi, isB_yes hvl, ht⟩
theorem isB_mk {n : Int} (h : 0 ≤ n ∧ n ≤ 255) : isB n = true := decide_eq_true h
theorem isAd_mk {n : Int} (h : 0 ≤ n ∧ n ≤ 65535) : isAd n = true := decide_eq_true h
theorem isUp_mk {n m : Int} (h : 0 ≤ n ∧ n ≤ m) : isUp n m = true := decide_eq_true h
theorem Bds.ok {a x y s p pc sq cd t lo hi vl nx : Int} (h : Bds a x y s p pc sq cd t lo hi vl nx) : okCo a x y s p pc sq cd t lo hi vl nx = true := by
 unfold okCo okR
 rw [isB_mk h.ha, isB_mk h.hx, isB_mk h.hy, isB_mk h.hs, isB_mk h.hp, h.kp, isAd_mk h.hpc, isUp_mk h.hsq, isUp_mk h.hnx, isB_mk h.hcd, isB_mk h.hlo, isB_mk h.hhi, isB_mk h.hvl, h.ht]
 rfl
theorem brk_op : opOf 0 = (⟨#[66, 82, 75]⟩, ⟨#[105, 109, 112]⟩) := by decide +kernel
theorem brk_all (b : Nat) : allSteps (nameSteps ⟨#[66, 82, 75]⟩ ⟨#[105, 109, 112]⟩ b) (kindL ⟨#[66, 82, 75]⟩ ⟨#[105, 109, 112]⟩) b = brkAll b := by
 rw [show kindL ⟨#[66, 82, 75]⟩ ⟨#[105, 109, 112]⟩ = 3 from by decide +kernel]
 rfl
theorem fetch_all (o m : ByteArray) (kd : Int) (b : Nat) : (allSteps (nameSteps o m b) kd b)[0]? = some (stepV 118 b) := by
 have h := (nameSteps_ok o m b).1
 generalize nameSteps o m b = fs at *
 unfold allSteps
 split
 ·simp [h, stepV]
 ·split
  ·simp [h, stepV]
  ·simp [h, stepV]
set_option maxRecDepth 100000 in
set_option maxHeartbeats 2000000 in
theorem want_0s (a : Int) (x : Int) (y : Int) (s : Int) (p : Int) (pc : Int) (sq : Int) (cd : Int) (lo : Int) (hi : Int) (vl : Int) (cr : Bool) (nx : Int) (nm ed iq : Bool) (hn : ¬ nx = 0) (H : Bds a x y s p pc sq cd 0 lo hi vl nx) (w : World) : Calls Tryz.prog 16 #[coreV a x y s p pc sq cd 0 lo hi vl cr nx false, wiresV nm ed iq] w fun e w' => e = .returned (.agg #[.int .i64 (pc), .int .i64 (0), .bool (false)]) ∧ Below w.heap.size w w' := by
 refine (want_ok a x y s p pc sq cd 0 lo hi vl cr nx false nm ed iq _ H.ok (fun b w' h => m_pass_fetch _ _ 0 _ _ w' h (Nat.le_refl b) rfl rfl (rfl) (fetch_all _ _ _ b) (fun w'' h' => m_fetch_s _ w'' h' (Nat.le_refl b) hn)) w).mono ?_
 rintro e w' ⟨rfl, hb⟩
 exact ⟨rfl, hb⟩
set_option maxRecDepth 100000 in
set_option maxHeartbeats 2000000 in
theorem fed_0s (a : Int) (x : Int) (y : Int) (s : Int) (p : Int) (pc : Int) (sq : Int) (cd : Int) (lo : Int) (hi : Int) (vl : Int) (cr : Bool) (nx : Int) (data : Int) (nm ed iq : Bool) (hn : ¬ nx = 0) (H : Bds a x y s p pc sq cd 0 lo hi vl nx) (w : World) : Calls Tryz.prog 10 #[coreV a x y s p pc sq cd 0 lo hi vl cr nx false, .int .i64 data, wiresV nm ed iq] w fun e w' => e = .returned (.tuple #[coreV a x y s p pc (nx) (0) (1) lo hi vl cr (0) false, wiresV nm (ed) iq]) ∧ Below w.heap.size w w' := by
 refine (fed_ok a x y s p pc sq cd 0 lo hi vl cr nx false data nm ed iq _ H.ok (fun b w' h => m_pass_fetch _ _ 0 _ _ w' h (Nat.le_refl b) rfl rfl (rfl) (fetch_all _ _ _ b) (fun w'' h' => m_fetch_s _ w'' h' (Nat.le_refl b) hn)) w).mono ?_
 rintro e w' ⟨rfl, hb⟩
 exact ⟨rfl, hb⟩
set_option maxRecDepth 100000 in
set_option maxHeartbeats 2000000 in
theorem want_1 (a : Int) (x : Int) (y : Int) (s : Int) (p : Int) (pc : Int) (sq : Int) (lo : Int) (hi : Int) (vl : Int) (cr : Bool) (nx : Int) (nm ed iq : Bool) (H : Bds a x y s p pc sq 0 1 lo hi vl nx) (w : World) : Calls Tryz.prog 16 #[coreV a x y s p pc sq 0 1 lo hi vl cr nx false, wiresV nm ed iq] w fun e w' => e = .returned (.agg #[.int .i64 (pc), .int .i64 (0), .bool (false)]) ∧ Below w.heap.size w w' := by
 refine (want_ok a x y s p pc sq 0 1 lo hi vl cr nx false nm ed iq _ H.ok (fun b w' h => m_pass_pause _ _ 1 _ _ w' h (Nat.le_refl b) rfl rfl (brk_op) (by rw [brk_all]; rfl) (fun w'' h' => m_pause _ w'' h' (Nat.le_refl b))) w).mono ?_
 rintro e w' ⟨rfl, hb⟩
 exact ⟨rfl, hb⟩
set_option maxRecDepth 100000 in
set_option maxHeartbeats 2000000 in
theorem fed_1 (a : Int) (x : Int) (y : Int) (s : Int) (p : Int) (pc : Int) (sq : Int) (lo : Int) (hi : Int) (vl : Int) (cr : Bool) (nx : Int) (data : Int) (nm ed iq : Bool) (H : Bds a x y s p pc sq 0 1 lo hi vl nx) (w : World) : Calls Tryz.prog 10 #[coreV a x y s p pc sq 0 1 lo hi vl cr nx false, .int .i64 data, wiresV nm ed iq] w fun e w' => e = .returned (.tuple #[coreV a x y s p (if sq = 0 then (pc + 1) % 65536 else pc) sq 0 (2) lo hi vl cr nx false, wiresV nm (ed) iq]) ∧ Below w.heap.size w w' := by
 refine (fed_ok a x y s p pc sq 0 1 lo hi vl cr nx false data nm ed iq _ H.ok (fun b w' h => m_pass_pause _ _ 1 _ _ w' h (Nat.le_refl b) rfl rfl (brk_op) (by rw [brk_all]; rfl) (fun w'' h' => m_pause _ w'' h' (Nat.le_refl b))) w).mono ?_
 rintro e w' ⟨rfl, hb⟩
 exact ⟨rfl, hb⟩
set_option maxRecDepth 100000 in
set_option maxHeartbeats 2000000 in
theorem want_2 (a : Int) (x : Int) (y : Int) (s : Int) (p : Int) (pc : Int) (sq : Int) (lo : Int) (hi : Int) (vl : Int) (cr : Bool) (nx : Int) (nm ed iq : Bool) (H : Bds a x y s p pc sq 0 2 lo hi vl nx) (w : World) : Calls Tryz.prog 16 #[coreV a x y s p pc sq 0 2 lo hi vl cr nx false, wiresV nm ed iq] w fun e w' => e = .returned (.agg #[.int .i64 (256 + s), .int .i64 (if sq = 3 then 0 else pc / 256), .bool (decide (¬ sq = 3))]) ∧ Below w.heap.size w w' := by
 refine (want_ok a x y s p pc sq 0 2 lo hi vl cr nx false nm ed iq _ H.ok (fun b w' h => m_pass_pushHigh _ _ 2 _ _ w' h (Nat.le_refl b) rfl rfl (brk_op) (by rw [brk_all]; rfl) (fun w'' h' => m_pushHigh _ w'' h' (Nat.le_refl b) H.hs.1 H.hs.2 H.hpc.1 H.hpc.2)) w).mono ?_
 rintro e w' ⟨rfl, hb⟩
 exact ⟨rfl, hb⟩
set_option maxRecDepth 100000 in
set_option maxHeartbeats 2000000 in
theorem fed_2 (a : Int) (x : Int) (y : Int) (s : Int) (p : Int) (pc : Int) (sq : Int) (lo : Int) (hi : Int) (vl : Int) (cr : Bool) (nx : Int) (data : Int) (nm ed iq : Bool) (H : Bds a x y s p pc sq 0 2 lo hi vl nx) (w : World) : Calls Tryz.prog 10 #[coreV a x y s p pc sq 0 2 lo hi vl cr nx false, .int .i64 data, wiresV nm ed iq] w fun e w' => e = .returned (.tuple #[coreV a x y ((s - 1) % 256) p pc sq 0 (3) lo hi vl cr nx false, wiresV nm (ed) iq]) ∧ Below w.heap.size w w' := by
 refine (fed_ok a x y s p pc sq 0 2 lo hi vl cr nx false data nm ed iq _ H.ok (fun b w' h => m_pass_pushHigh _ _ 2 _ _ w' h (Nat.le_refl b) rfl rfl (brk_op) (by rw [brk_all]; rfl) (fun w'' h' => m_pushHigh _ w'' h' (Nat.le_refl b) H.hs.1 H.hs.2 H.hpc.1 H.hpc.2)) w).mono ?_
 rintro e w' ⟨rfl, hb⟩
 exact ⟨rfl, hb⟩
set_option maxRecDepth 100000 in
set_option maxHeartbeats 2000000 in
theorem want_3 (a : Int) (x : Int) (y : Int) (s : Int) (p : Int) (pc : Int) (sq : Int) (lo : Int) (hi : Int) (vl : Int) (cr : Bool) (nx : Int) (nm ed iq : Bool) (H : Bds a x y s p pc sq 0 3 lo hi vl nx) (w : World) : Calls Tryz.prog 16 #[coreV a x y s p pc sq 0 3 lo hi vl cr nx false, wiresV nm ed iq] w fun e w' => e = .returned (.agg #[.int .i64 (256 + s), .int .i64 (if sq = 3 then 0 else pc % 256), .bool (decide (¬ sq = 3))]) ∧ Below w.heap.size w w' := by
 refine (want_ok a x y s p pc sq 0 3 lo hi vl cr nx false nm ed iq _ H.ok (fun b w' h => m_pass_pushLow _ _ 3 _ _ w' h (Nat.le_refl b) rfl rfl (brk_op) (by rw [brk_all]; rfl) (fun w'' h' => m_pushLow _ w'' h' (Nat.le_refl b) H.hs.1 H.hs.2)) w).mono ?_
 rintro e w' ⟨rfl, hb⟩
 exact ⟨rfl, hb⟩
set_option maxRecDepth 100000 in
set_option maxHeartbeats 2000000 in
theorem fed_3 (a : Int) (x : Int) (y : Int) (s : Int) (p : Int) (pc : Int) (sq : Int) (lo : Int) (hi : Int) (vl : Int) (cr : Bool) (nx : Int) (data : Int) (nm ed iq : Bool) (H : Bds a x y s p pc sq 0 3 lo hi vl nx) (w : World) : Calls Tryz.prog 10 #[coreV a x y s p pc sq 0 3 lo hi vl cr nx false, .int .i64 data, wiresV nm ed iq] w fun e w' => e = .returned (.tuple #[coreV a x y ((s - 1) % 256) p pc sq 0 (4) lo hi vl cr nx false, wiresV nm (ed) iq]) ∧ Below w.heap.size w w' := by
 refine (fed_ok a x y s p pc sq 0 3 lo hi vl cr nx false data nm ed iq _ H.ok (fun b w' h => m_pass_pushLow _ _ 3 _ _ w' h (Nat.le_refl b) rfl rfl (brk_op) (by rw [brk_all]; rfl) (fun w'' h' => m_pushLow _ w'' h' (Nat.le_refl b) H.hs.1 H.hs.2)) w).mono ?_
 rintro e w' ⟨rfl, hb⟩
 exact ⟨rfl, hb⟩
set_option maxRecDepth 100000 in
set_option maxHeartbeats 2000000 in
theorem want_4 (a : Int) (x : Int) (y : Int) (s : Int) (p : Int) (pc : Int) (sq : Int) (lo : Int) (hi : Int) (vl : Int) (cr : Bool) (nx : Int) (nm ed iq : Bool) (H : Bds a x y s p pc sq 0 4 lo hi vl nx) (w : World) : Calls Tryz.prog 16 #[coreV a x y s p pc sq 0 4 lo hi vl cr nx false, wiresV nm ed iq] w fun e w' => e = .returned (.agg #[.int .i64 (256 + s), .int .i64 (if sq = 3 then 0 else pushI p (sq == 0)), .bool (decide (¬ sq = 3))]) ∧ Below w.heap.size w w' := by
 refine (want_ok a x y s p pc sq 0 4 lo hi vl cr nx false nm ed iq _ H.ok (fun b w' h => m_pass_pushNotes _ _ 4 _ _ w' h (Nat.le_refl b) rfl rfl (brk_op) (by rw [brk_all]; rfl) (fun w'' h' => m_pushNotes _ w'' h' (Nat.le_refl b) H.hs.1 H.hs.2)) w).mono ?_
 rintro e w' ⟨rfl, hb⟩
 exact ⟨rfl, hb⟩
set_option maxRecDepth 100000 in
set_option maxHeartbeats 2000000 in
theorem fed_4 (a : Int) (x : Int) (y : Int) (s : Int) (p : Int) (pc : Int) (sq : Int) (lo : Int) (hi : Int) (vl : Int) (cr : Bool) (nx : Int) (data : Int) (nm ed iq : Bool) (H : Bds a x y s p pc sq 0 4 lo hi vl nx) (w : World) : Calls Tryz.prog 10 #[coreV a x y s p pc sq 0 4 lo hi vl cr nx false, .int .i64 data, wiresV nm ed iq] w fun e w' => e = .returned (.tuple #[coreV a x y ((s - 1) % 256) p pc sq 0 (5) lo hi vl cr nx false, wiresV nm (ed) iq]) ∧ Below w.heap.size w w' := by
 refine (fed_ok a x y s p pc sq 0 4 lo hi vl cr nx false data nm ed iq _ H.ok (fun b w' h => m_pass_pushNotes _ _ 4 _ _ w' h (Nat.le_refl b) rfl rfl (brk_op) (by rw [brk_all]; rfl) (fun w'' h' => m_pushNotes _ w'' h' (Nat.le_refl b) H.hs.1 H.hs.2)) w).mono ?_
 rintro e w' ⟨rfl, hb⟩
 exact ⟨rfl, hb⟩
set_option maxRecDepth 100000 in
set_option maxHeartbeats 2000000 in
theorem want_5r (a : Int) (x : Int) (y : Int) (s : Int) (p : Int) (pc : Int) (sq : Int) (lo : Int) (hi : Int) (vl : Int) (cr : Bool) (nx : Int) (nm ed iq : Bool) (hr : sq = 3) (H : Bds a x y s p pc sq 0 5 lo hi vl nx) (w : World) : Calls Tryz.prog 16 #[coreV a x y s p pc sq 0 5 lo hi vl cr nx false, wiresV nm ed iq] w fun e w' => e = .returned (.agg #[.int .i64 (65532), .int .i64 (0), .bool (false)]) ∧ Below w.heap.size w w' := by
 refine (want_ok a x y s p pc sq 0 5 lo hi vl cr nx false nm ed iq _ H.ok (fun b w' h => m_pass_lead _ _ 5 _ _ w' h (Nat.le_refl b) rfl rfl (brk_op) (by rw [brk_all]; rfl) (fun w'' h' => m_lead_r _ w'' h' (Nat.le_refl b) hr)) w).mono ?_
 rintro e w' ⟨rfl, hb⟩
 exact ⟨rfl, hb⟩
set_option maxRecDepth 100000 in
set_option maxHeartbeats 2000000 in
theorem fed_5r (a : Int) (x : Int) (y : Int) (s : Int) (p : Int) (pc : Int) (sq : Int) (lo : Int) (hi : Int) (vl : Int) (cr : Bool) (nx : Int) (data : Int) (nm ed iq : Bool) (hr : sq = 3) (H : Bds a x y s p pc sq 0 5 lo hi vl nx) (w : World) : Calls Tryz.prog 10 #[coreV a x y s p pc sq 0 5 lo hi vl cr nx false, .int .i64 data, wiresV nm ed iq] w fun e w' => e = .returned (.tuple #[coreV a x y s (wI p 4 true) pc sq 0 (6) (data % 256) hi (252) cr nx false, wiresV nm (ed) iq]) ∧ Below w.heap.size w w' := by
 refine (fed_ok a x y s p pc sq 0 5 lo hi vl cr nx false data nm ed iq _ H.ok (fun b w' h => m_pass_lead _ _ 5 _ _ w' h (Nat.le_refl b) rfl rfl (brk_op) (by rw [brk_all]; rfl) (fun w'' h' => m_lead_r _ w'' h' (Nat.le_refl b) hr)) w).mono ?_
 rintro e w' ⟨rfl, hb⟩
 exact ⟨rfl, hb⟩
set_option maxRecDepth 100000 in
set_option maxHeartbeats 2000000 in
theorem want_6 (a : Int) (x : Int) (y : Int) (s : Int) (p : Int) (pc : Int) (sq : Int) (lo : Int) (hi : Int) (vl : Int) (cr : Bool) (nx : Int) (nm ed iq : Bool) (H : Bds a x y s p pc sq 0 6 lo hi vl nx) (w : World) : Calls Tryz.prog 16 #[coreV a x y s p pc sq 0 6 lo hi vl cr nx false, wiresV nm ed iq] w fun e w' => e = .returned (.agg #[.int .i64 (65280 + (vl + 1) % 256), .int .i64 (0), .bool (false)]) ∧ Below w.heap.size w w' := by
 refine (want_ok a x y s p pc sq 0 6 lo hi vl cr nx false nm ed iq _ H.ok (fun b w' h => m_pass_enter _ _ 6 _ _ w' h (Nat.le_refl b) rfl rfl (brk_op) (by rw [brk_all]; rfl) (fun w'' h' => m_enter _ w'' h' (Nat.le_refl b) (Int.emod_nonneg _ (by decide)) (by show _ % 256 ≤ 255; omega) H.hlo.1 H.hlo.2)) w).mono ?_
 rintro e w' ⟨rfl, hb⟩
 exact ⟨rfl, hb⟩
set_option maxRecDepth 100000 in
set_option maxHeartbeats 2000000 in
theorem fed_6 (a : Int) (x : Int) (y : Int) (s : Int) (p : Int) (pc : Int) (sq : Int) (lo : Int) (hi : Int) (vl : Int) (cr : Bool) (nx : Int) (data : Int) (nm ed iq : Bool) (H : Bds a x y s p pc sq 0 6 lo hi vl nx) (w : World) : Calls Tryz.prog 10 #[coreV a x y s p pc sq 0 6 lo hi vl cr nx false, .int .i64 data, wiresV nm ed iq] w fun e w' => e = .returned (.tuple #[coreV a x y s p (data % 256 * 256 + lo) sq 0 (0) lo hi vl cr (takeN ed iq p) false, wiresV nm (ed) iq]) ∧ Below w.heap.size w w' := by
 refine (fed_ok a x y s p pc sq 0 6 lo hi vl cr nx false data nm ed iq _ H.ok (fun b w' h => m_pass_enter _ _ 6 _ _ w' h (Nat.le_refl b) rfl rfl (brk_op) (by rw [brk_all]; rfl) (fun w'' h' => m_enter _ w'' h' (Nat.le_refl b) (Int.emod_nonneg _ (by decide)) (by show _ % 256 ≤ 255; omega) H.hlo.1 H.hlo.2)) w).mono ?_
 rintro e w' ⟨rfl, hb⟩
 exact ⟨rfl, hb⟩
end Go.Proofs.YthklebkpoccblaaGreat
namespace Go.Proofs.YthklebkpoccblaaGreat
open Go.RowKit
def DrawCore (w : World) (e : Ending) (w' : World) : Prop := ∃ k : CorI, e = .returned (.agg (corC k)) ∧ Below w.heap.size w w'
set_option maxRecDepth 100000 in
set_option maxHeartbeats 20000000 in
theorem drawReset_any (B n c : Nat) (A : Option Addr) (w : World) (hB : B ≤ w.heap.size) (hcode : Code w B A n) :
  Calls Tryz.prog 21 #[.slice A n c] w (DrawCore w) := by
 have hb0 : Below w.heap.size w (w.alloc (.cells #[.int .i64 0, .int .i64 0, .int .i64 0, .int .i64 0, .int .i64 0, .int .i64 0, .int .i64 0, .int .i64 0, .int .i64 0, .int .i64 0, .int .i64 0, .int .i64 0, .bool false, .int .i64 0, .bool false] 27)) := below_alloc (Below.refl _ _) _
 have hcode0 := hcode.below hB hb0
 have hN := l01New_any B n c A (w.alloc (.cells #[.int .i64 0, .int .i64 0, .int .i64 0, .int .i64 0, .int .i64 0, .int .i64 0, .int .i64 0, .int .i64 0, .int .i64 0, .int .i64 0, .int .i64 0, .int .i64 0, .bool false, .int .i64 0, .bool false] 27)) hcode0
 have HD := fun (w1 : World) hc hb => new_drawn (c := c) (w1 := w1) (Nat.le_trans hB hb0.size) hcode0 hc hb
 have K0 := Lib.hid (blk_new w (.cells #[.int .i64 0, .int .i64 0, .int .i64 0, .int .i64 0, .int .i64 0, .int .i64 0, .int .i64 0, .int .i64 0, .int .i64 0, .int .i64 0, .int .i64 0, .int .i64 0, .bool false, .int .i64 0, .bool false] 27))
 have hg0 := grown_of_below (g := w.heap.size + 1) hb0
 have hs1 : (w.alloc (.cells #[.int .i64 0, .int .i64 0, .int .i64 0, .int .i64 0, .int .i64 0, .int .i64 0, .int .i64 0, .int .i64 0, .int .i64 0, .int .i64 0, .int .i64 0, .int .i64 0, .bool false, .int .i64 0, .bool false] 27)).heap.size = w.heap.size + 1 := by simp
 rw [hs1] at HD
 unfold NewPost at hN
 rw [hs1] at hN
 have hs0 := Lib.hid hs1
 have G0 := Lib.hid hg0
 clear hcode hcode0 hb0 hg0 hs1
 go_enter Tryz.func21, Tryz.ntmps21
 go_wp2_with (first | (go_at_call 27; refine (hN).mono ?_; rintro e w1 ⟨rfl, hc, hb⟩; refine Hid.out ?_))
 have hb1 : Below (w.alloc (.cells #[.int .i64 0, .int .i64 0, .int .i64 0, .int .i64 0, .int .i64 0, .int .i64 0, .int .i64 0, .int .i64 0, .int .i64 0, .int .i64 0, .int .i64 0, .int .i64 0, .bool false, .int .i64 0, .bool false] 27)).heap.size (w.alloc (.cells #[.int .i64 0, .int .i64 0, .int .i64 0, .int .i64 0, .int .i64 0, .int .i64 0, .int .i64 0, .int .i64 0, .int .i64 0, .int .i64 0, .int .i64 0, .int .i64 0, .bool false, .int .i64 0, .bool false] 27)) w1 := by rw [hs0.out]; exact hb
 have hD := HD w1 hc hb
 have hy := Lib.hid (l10Odd_any hD)
 have K1 := Lib.hid (blk_below K0.out hb1)
 have G1 := Lib.hid (grown_below G0.out hb1)
 have hz : w.heap.size < w1.heap.size := (Array.getElem?_eq_some_iff.1 K1.out).1
 clear hN HD hc hb K0 G0 hb1 hs0
 refine Lib.hid ?_
 go_wp2_with (first | (go_at_call 28; refine (hy.out).mono ?_; rintro e w2 ⟨k, rfl, hc, hg⟩; refine Hid.out ?_))
 have K2 := Lib.hid (blk_grown K1.out hg (by omega))
 have G2 := Lib.hid (grown_trans G1.out hg)
 clear K1 G1 hg hy hD
 refine Lib.hid ?_
 go_wp2_with (first | (refine store_row (by rfl) 27 _ _ (by rfl) w.heap.size (corC k) (by rfl) (by rfl) 15 cor_size K2.out rfl rfl (by rfl) ?_))
 (try simp only [Exit.inBlock, Exit.then])
 have hend := row_end K2.out hc G2.out (by omega) (corC k)
 exact bodyPost_ret (results_cell_row rfl _ _ w.heap.size _ _ _ _ rfl hend.1 Tryz.underlying27 rfl cor_size) rfl ⟨k, rfl, below_grown' hend.2.2 (Nat.le_refl _) (by omega)⟩
theorem keptB_i (p : Int) (h : keptB p = true) : keptB (wI p 4 true) = true := by
 have hall : ∀ b : BitVec 8, (b &&& 32 != 0 && !(b &&& 16 != 0)) = true → ((w8 b 4 true) &&& 32 != 0 && !((w8 b 4 true) &&& 16 != 0)) = true := by decide +kernel
 unfold keptB tst at *
 rw [wI_B8]
 exact hall (B8 p) h
theorem tst_i (p : Int) : tst (wI p 4 true) 4 = true := by
 have hall : ∀ b : BitVec 8, ((w8 b 4 true) &&& 4 != 0) = true := by decide +kernel
 unfold tst
 rw [wI_B8]
 exact hall (B8 p)
theorem yields_neq_same {P : Program} {ops : Array Oper} {S : World → Prop} {o : Oper} {a : Act} (hw : Region.wanted o (yielded ops a.tmps) = true) (t u : TypeId) (x y : Operand) (ho : o.op = .binOp .neq t x y u) (xs : Array Value) (hx : a.eval x = .agg xs) (hy : a.eval y = .agg xs) (hm : P.eqGuardType P.depth t = false)
  (he : ∀ w, (Op.equalIn 10000 t (.agg xs) (.agg xs)).run P w = .ok true w) : YieldsIf P ops S o (.bool false) a :=
 Or.inl ⟨hw, fun w _ => by
  unfold execOp
  simp only [ho, hx, hy, Sem.run_bind, run_eqGuard_agg w .neq t x y xs xs hm, run_neq_struct, he, Result.andThen_ok, Bool.not_true, Sem.run_pure]⟩
theorem same_core (k : CorI) (w : World) : (Op.equalIn 10000 27 (.agg (corC k)) (.agg (corC k))).run Tryz.prog w = .ok true w := by
 unfold corC
 go_simp
theorem same_regs (a b c d e f : Int) (w : World) : (Op.equalIn 10000 25 (.agg #[.int .i64 a, .int .i64 b, .int .i64 c, .int .i64 d, .int .i64 e, .int .i64 f]) (.agg #[.int .i64 a, .int .i64 b, .int .i64 c, .int .i64 d, .int .i64 e, .int .i64 f])).run Tryz.prog w = .ok true w := by
 go_simp
def rsC (k : CorI) (v5 v6 : Int) : Nat → CorI
 | 0 => { k with t := 0, nx := 3, jm := false }
 | 1 => { k with sq := 3, cd := 0, t := 1, nx := 0, jm := false }
 | 2 => { k with sq := 3, cd := 0, t := 2, nx := 0, jm := false }
 | 3 => { k with s := (k.s - 1) % 256, sq := 3, cd := 0, t := 3, nx := 0, jm := false }
 | 4 => { k with s := ((k.s - 1) % 256 - 1) % 256, sq := 3, cd := 0, t := 4, nx := 0, jm := false }
 | 5 => { k with s := (((k.s - 1) % 256 - 1) % 256 - 1) % 256, sq := 3, cd := 0, t := 5, nx := 0, jm := false }
 | 6 => { k with s := (((k.s - 1) % 256 - 1) % 256 - 1) % 256, p := wI k.p 4 true, sq := 3, cd := 0, t := 6, lo := v5 % 256, vl := 252, nx := 0, jm := false }
 | _ => { k with s := (((k.s - 1) % 256 - 1) % 256 - 1) % 256, p := wI k.p 4 true, pc := v6 % 256 * 256 + v5 % 256, sq := 3, cd := 0, t := 0, lo := v5 % 256, vl := 252, nx := 0, jm := false }
def rsA (k : CorI) : Nat → Int
 | 0 => k.pc
 | 1 => k.pc
 | 2 => 256 + k.s
 | 3 => 256 + (k.s - 1) % 256
 | 4 => 256 + ((k.s - 1) % 256 - 1) % 256
 | 5 => 65532
 | _ => 65533
def CorI.Ok (k : CorI) : Prop := Bds k.a k.x k.y k.s k.p k.pc k.sq k.cd k.t k.lo k.hi k.vl k.nx
theorem rsC_ok {k : CorI} (v5 v6 : Int) (h : (rsC k v5 v6 0).Ok) (i : Nat) (hi : i < 7) : (rsC k v5 v6 i).Ok := by
 have e1 := wI_bd k.p 4 true
 have e2 := keptB_i k.p h.kp
 have s0 := h.hs
 match i, hi with
 | 0, _ => exact h
 | 1, _ => exact { h with hsq := (by decide : (0:Int) ≤ 3 ∧ (3:Int) ≤ 3), hcd := (by decide : (0:Int) ≤ 0 ∧ (0:Int) ≤ 255), ht := rfl, hnx := (by decide : (0:Int) ≤ 0 ∧ (0:Int) ≤ 3) }
 | 2, _ => exact { h with hsq := (by decide : (0:Int) ≤ 3 ∧ (3:Int) ≤ 3), hcd := (by decide : (0:Int) ≤ 0 ∧ (0:Int) ≤ 255), ht := rfl, hnx := (by decide : (0:Int) ≤ 0 ∧ (0:Int) ≤ 3) }
 | 3, _ => exact { h with hs := ⟨by show 0 ≤ (k.s - 1) % 256; omega, by show (k.s - 1) % 256 ≤ 255; omega⟩, hsq := (by decide : (0:Int) ≤ 3 ∧ (3:Int) ≤ 3), hcd := (by decide : (0:Int) ≤ 0 ∧ (0:Int) ≤ 255), ht := rfl, hnx := (by decide : (0:Int) ≤ 0 ∧ (0:Int) ≤ 3) }
 | 4, _ => exact { h with hs := ⟨by show 0 ≤ ((k.s - 1) % 256 - 1) % 256; omega, by show ((k.s - 1) % 256 - 1) % 256 ≤ 255; omega⟩, hsq := (by decide : (0:Int) ≤ 3 ∧ (3:Int) ≤ 3), hcd := (by decide : (0:Int) ≤ 0 ∧ (0:Int) ≤ 255), ht := rfl, hnx := (by decide : (0:Int) ≤ 0 ∧ (0:Int) ≤ 3) }
 | 5, _ => exact { h with hs := ⟨by show 0 ≤ (((k.s - 1) % 256 - 1) % 256 - 1) % 256; omega, by show (((k.s - 1) % 256 - 1) % 256 - 1) % 256 ≤ 255; omega⟩, hsq := (by decide : (0:Int) ≤ 3 ∧ (3:Int) ≤ 3), hcd := (by decide : (0:Int) ≤ 0 ∧ (0:Int) ≤ 255), ht := rfl, hnx := (by decide : (0:Int) ≤ 0 ∧ (0:Int) ≤ 3) }
 | 6, _ => exact { h with hs := ⟨by show 0 ≤ (((k.s - 1) % 256 - 1) % 256 - 1) % 256; omega, by show (((k.s - 1) % 256 - 1) % 256 - 1) % 256 ≤ 255; omega⟩, hp := ⟨e1.1, by show wI k.p 4 true ≤ 255; omega⟩, kp := e2, hsq := (by decide : (0:Int) ≤ 3 ∧ (3:Int) ≤ 3), hcd := (by decide : (0:Int) ≤ 0 ∧ (0:Int) ≤ 255), hlo := ⟨by show 0 ≤ v5 % 256; omega, by show v5 % 256 ≤ 255; omega⟩, hvl := (by decide : (0:Int) ≤ 252 ∧ (252:Int) ≤ 255), ht := rfl, hnx := (by decide : (0:Int) ≤ 0 ∧ (0:Int) ≤ 3) }
theorem rs_want {k : CorI} (v5 v6 : Int) (h : (rsC k v5 v6 0).Ok) (i : Nat) (hi : i < 7) (w : World) : Calls Tryz.prog 16 #[.agg (corC (rsC k v5 v6 i)), .agg #[.bool false, .bool false, .bool false]] w fun e w' => e = .returned (.agg #[.int .i64 (rsA k i), .int .i64 0, .bool false]) ∧ Below w.heap.size w w' := by
 have H := rsC_ok v5 v6 h i hi
 match i, hi with
 | 0, _ => exact want_0s _ _ _ _ _ _ _ _ _ _ _ _ _ _ _ _ (show ¬ (3 : Int) = 0 by decide) H w
 | 1, _ => exact want_1 _ _ _ _ _ _ _ _ _ _ _ _ _ _ _ H w
 | 2, _ => exact want_2 _ _ _ _ _ _ _ _ _ _ _ _ _ _ _ H w
 | 3, _ => exact want_3 _ _ _ _ _ _ _ _ _ _ _ _ _ _ _ H w
 | 4, _ => exact want_4 _ _ _ _ _ _ _ _ _ _ _ _ _ _ _ H w
 | 5, _ => exact want_5r _ _ _ _ _ _ _ _ _ _ _ _ _ _ _ rfl H w
 | 6, _ => exact want_6 _ _ _ _ _ _ _ _ _ _ _ _ _ _ _ H w
theorem rs_fed {k : CorI} (v5 v6 : Int) (h : (rsC k v5 v6 0).Ok) (i : Nat) (hi : i < 7) (v : Int) (h5 : i = 5 → v = v5) (h6 : i = 6 → v = v6) (w : World) : Calls Tryz.prog 10 #[.agg (corC (rsC k v5 v6 i)), .int .i64 v, .agg #[.bool false, .bool false, .bool false]] w fun e w' => e = .returned (.tuple #[.agg (corC (rsC k v5 v6 (i + 1))), .agg #[.bool false, .bool false, .bool false]]) ∧ Below w.heap.size w w' := by
 have H := rsC_ok v5 v6 h i hi
 match i, hi with
 | 0, _ => exact fed_0s _ _ _ _ _ _ _ _ _ _ _ _ _ _ _ _ _ (show ¬ (3 : Int) = 0 by decide) H w
 | 1, _ => exact fed_1 _ _ _ _ _ _ _ _ _ _ _ _ _ _ _ _ H w
 | 2, _ => exact fed_2 _ _ _ _ _ _ _ _ _ _ _ _ _ _ _ _ H w
 | 3, _ => exact fed_3 _ _ _ _ _ _ _ _ _ _ _ _ _ _ _ _ H w
 | 4, _ => exact fed_4 _ _ _ _ _ _ _ _ _ _ _ _ _ _ _ _ H w
 | 5, _ => rw [h5 rfl]; exact fed_5r _ _ _ _ _ _ _ _ _ _ _ _ _ _ _ _ rfl H w
 | 6, _ => rw [h6 rfl]; exact fed_6 _ _ _ _ _ _ _ _ _ _ _ _ _ _ _ _ H w
end Go.Proofs.YthklebkpoccblaaGreat
namespace Go.Proofs.YthklebkpoccblaaGreat
open Go.RowKit
theorem at_fix {n c : Nat} {A : Option Addr} {W : World} (hcode : Code W W.heap.size A n) (i : Nat) (k : Int) (hk : k = i) (hi : i ≤ 1000) :
  ∃ v : Int, 0 ≤ v ∧ v ≤ 255 ∧ ∀ w : World, Below W.heap.size W w → Calls Tryz.prog 24 #[.slice A n c, .int .i64 k] w fun e w' => e = .returned (.int .i64 v) ∧ w = w' := by
 subst hk
 have hn := hcode.1
 by_cases h : i < n
 ·obtain ⟨b, off, v, rfl, hb, v0, v1, hv⟩ := hcode.at_ h
  refine ⟨v, v0, v1, fun w hw => ?_⟩
  have hv := (hw.cell (p := ⟨b, off + i, none⟩) hb).trans hv
  have i0 : (0 : Int) ≤ (i : Int) := by omega
  have i1 : (i : Int) < (n : Int) := by omega
  clear hcode hw
  go_enter Tryz.func24, Tryz.ntmps24
  go_wp2
  go_ret
  exact ⟨rfl, rfl⟩
 ·refine ⟨((i : Int) * 7 + n) % 256, by omega, by omega, fun w _ => ?_⟩
  have i1 : ¬ (i : Int) < (n : Int) := by omega
  clear hcode
  go_enter Tryz.func24, Tryz.ntmps24
  go_wp2
  go_ret
  exact ⟨rfl, rfl⟩
end Go.Proofs.YthklebkpoccblaaGreat
