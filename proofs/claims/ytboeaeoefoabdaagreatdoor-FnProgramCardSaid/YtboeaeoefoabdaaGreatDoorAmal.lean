/-
  Texts put together by program: AsT, UpA, AsU, AsV, AsQ.
  Conditions: as each theorem says.
-/
import Derived.Test.YtboeaeoefoabdaaGreatDoorAmak
namespace Go.Proofs.YtboeaeoefoabdaaGreatDoor
open Go.RowKit
theorem hexl_digs (n : Int) : ∃ x y : UInt8, hexl n 2 = [x, y] ∧ Dig x ∧ Dig y := ⟨hexAt n 1, hexAt n 0, rfl, dig_at n 1, dig_at n 0⟩
def branch (n : ByteArray) : Bool := [⟨#[66, 67, 67]⟩, ⟨#[66, 67, 83]⟩, ⟨#[66, 69, 81]⟩, ⟨#[66, 77, 73]⟩, ⟨#[66, 78, 69]⟩, ⟨#[66, 80, 76]⟩, ⟨#[66, 86, 67]⟩, ⟨#[66, 86, 83]⟩].any fun x => decide (x = n)
theorem op_kinds : ∀ m : Fin 256, capB (opOf (m.val : Int)).1 = true ∧ modesB.any (fun x => decide (x = (opOf (m.val : Int)).2)) = true ∧ ((opOf (m.val : Int)).2 = ⟨#[114, 101, 108]⟩ → branch (opOf (m.val : Int)).1 = true) ∧ ((opOf (m.val : Int)).2 = ⟨#[122, 112, 103]⟩ → branch (opOf (m.val : Int)).1 = false) := by decide +kernel
theorem op_kind (n : Int) (h0 : 0 ≤ n) (h1 : n < 256) : capB (opOf n).1 = true ∧ (opOf n).2 ∈ modesB ∧ ((opOf n).2 = ⟨#[114, 101, 108]⟩ → branch (opOf n).1 = true) ∧ ((opOf n).2 = ⟨#[122, 112, 103]⟩ → branch (opOf n).1 = false) := by
 obtain ⟨m, rfl⟩ : ∃ m : Nat, n = m := ⟨n.toNat, by omega⟩
 obtain ⟨h1, h2, h3, h4⟩ := op_kinds ⟨m, by omega⟩
 refine ⟨h1, ?_, h3, h4⟩
 obtain ⟨x, hx, he⟩ := List.any_eq_true.1 h2
 have e := of_decide_eq_true he
 rw [← e]; exact hx
end Go.Proofs.YtboeaeoefoabdaaGreatDoor
namespace Go.Proofs.YtboeaeoefoabdaaGreatDoor
open Go.RowKit
def up1 (c : UInt8) : UInt8 := if 97 ≤ c.toNat ∧ c.toNat ≤ 122 then c - 32 else c
def upL (l : List UInt8) : List UInt8 := l.map up1
theorem up_all : ∀ m : Fin 256, bl (up1 (UInt8.ofNat m.val)) = bl (UInt8.ofNat m.val) := by decide +kernel
theorem bl_up (c : UInt8) : bl (up1 c) = bl c := by
 have h := up_all ⟨c.toNat, c.toNat_lt⟩
 rwa [UInt8.ofNat_toNat] at h
theorem upL_length (l : List UInt8) : (upL l).length = l.length := by simp [upL]
theorem trim_up (l : List UInt8) : trimL (upL l) = upL (trimL l) := by
 unfold trimL upL
 induction l with
 | nil => rfl
 | cons c l ih =>
  rw [List.map_cons, List.dropWhile_cons, List.dropWhile_cons, bl_up]
  split
  ·exact ih
  ·rfl
theorem take_up (l : List UInt8) : ((upL l).takeWhile fun b => !bl b) = upL (l.takeWhile fun b => !bl b) ∧ ((upL l).dropWhile fun b => !bl b) = upL (l.dropWhile fun b => !bl b) := by
 unfold upL
 induction l with
 | nil => exact ⟨rfl, rfl⟩
 | cons c l ih =>
  rw [List.map_cons, List.takeWhile_cons, List.takeWhile_cons, List.dropWhile_cons, List.dropWhile_cons, bl_up]
  split
  ·exact ⟨by rw [ih.1]; rfl, ih.2⟩
  ·exact ⟨rfl, rfl⟩
theorem word_up (l : List UInt8) : wordL (upL l) = upL (wordL l) ∧ restL (upL l) = upL (restL l) := by
 unfold wordL restL
 rw [trim_up]
 exact take_up _
theorem behind_up (l : List UInt8) (k : Nat) : behind (upL l) k = upL (behind l k) := by
 induction k with
 | zero => rfl
 | succ k ih => rw [behind_succ, behind_succ, ih, (word_up _).2]
theorem word_size (l : List UInt8) (k : Nat) : (wordB l k).size = (wordL (behind l k)).length := bsize _
theorem up_size (l : List UInt8) (k : Nat) : (wordB (upL l) k).size = (wordB l k).size := by
 rw [word_size, word_size, behind_up, (word_up _).1, upL_length]
theorem good_iff (l : List UInt8) (k : Nat) : Good (told l k) ↔ ∀ i, i < k → (wordB l i).size ≠ 0 := by
 unfold Good told
 simp
theorem good_up {l : List UInt8} {k : Nat} (h : Good (told (upL l) k)) : Good (told l k) := by
 rw [good_iff] at h ⊢
 intro i hi
 rw [← up_size]; exact h i hi
def wordsL (l : List UInt8) (k : Nat) : List (List UInt8) := (List.range k).map fun i => wordL (behind l i)
theorem wordsL_succ (l : List UInt8) (k : Nat) : wordsL l (k + 1) = wordsL l k ++ [wordL (behind l k)] := by simp [wordsL, List.range_succ]
theorem wordsL_length (l : List UInt8) (k : Nat) : (wordsL l k).length = k := by simp [wordsL]
theorem wordsL_up (l : List UInt8) (k : Nat) : wordsL (upL l) k = (wordsL l k).map upL := by
 simp [wordsL, behind_up, word_up]
theorem joinB_snoc : ∀ (ws : List (List UInt8)) (w : List UInt8), ws ≠ [] → joinB (ws ++ [w]) = joinB ws ++ 32 :: w
 | [], _, h => absurd rfl h
 | [v], w, _ => rfl
 | v :: u :: ws, w, _ => by
  have ih := joinB_snoc (u :: ws) w (by simp)
  show v ++ 32 :: joinB (u :: ws ++ [w]) = (v ++ 32 :: joinB (u :: ws)) ++ 32 :: w
  rw [ih]; simp
theorem joinB_up : ∀ (ws : List (List UInt8)), joinB (ws.map upL) = upL (joinB ws)
 | [] => rfl
 | [v] => rfl
 | v :: u :: ws => by
  have ih := joinB_up (u :: ws)
  show upL v ++ 32 :: joinB ((u :: ws).map upL) = upL (v ++ 32 :: joinB (u :: ws))
  rw [ih]
  simp [upL, up1]
def lineS (l : List UInt8) (k : Nat) : List UInt8 := joinB (wordsL l k)
theorem lineS_zero (l : List UInt8) : lineS l 0 = [] := rfl
theorem lineS_one (l : List UInt8) : lineS l 1 = wordL l := rfl
theorem lineS_succ (l : List UInt8) (k : Nat) (h : 0 < k) : lineS l (k + 1) = lineS l k ++ 32 :: wordL (behind l k) := by
 unfold lineS
 rw [wordsL_succ, joinB_snoc _ _ (fun e => by have := wordsL_length l k; rw [e] at this; simp at this; omega)]
theorem lineS_up (l : List UInt8) (k : Nat) : lineS (upL l) k = upL (lineS l k) := by unfold lineS; rw [wordsL_up, joinB_up]
theorem rest_head (l : List UInt8) : restL l = [] ∨ ∃ c r, restL l = c :: r ∧ bl c = true := by
 unfold restL
 generalize trimL l = t
 induction t with
 | nil => exact .inl rfl
 | cons c t ih =>
  rw [List.dropWhile_cons]
  by_cases h : bl c = true
  ·rw [if_neg (by simp [h])]; exact .inr ⟨c, t, rfl, h⟩
  ·rw [if_pos (by simp [h])]; exact ih
theorem lineS_bound {l : List UInt8} {k : Nat} (h : Good (told l k)) : (lineS l k).length + (if k = 0 then 0 else (behind l k).length) ≤ l.length := by
 induction k with
 | zero => simp [lineS_zero]
 | succ k ih =>
  rw [good_iff] at h
  have ih := ih ((good_iff l k).2 fun i hi => h i (by omega))
  have hk := h k (by omega)
  rw [word_size] at hk
  have wr := word_rest (behind l k)
  have tl := trimL_le (behind l k)
  rw [if_neg (by omega), behind_succ]
  rcases Nat.eq_zero_or_pos k with rfl | hp
  ·rw [lineS_one]
   have e : behind l 0 = l := rfl
   rw [e] at wr tl ⊢
   omega
  ·rw [lineS_succ l k hp, List.length_append, List.length_cons]
   rw [if_neg (by omega)] at ih
   have hb : (trimL (behind l k)).length + 1 ≤ (behind l k).length := by
    obtain ⟨j, rfl⟩ : ∃ j, k = j + 1 := ⟨k - 1, by omega⟩
    rw [behind_succ] at wr tl hk ⊢
    rcases rest_head (behind l j) with e | ⟨c, r, e, hc⟩
    ·rw [e] at hk; exact absurd rfl hk
    ·rw [e]
     have := trimL_le r
     unfold trimL at this ⊢
     rw [List.dropWhile_cons, if_pos hc]
     simp only [List.length_cons]; omega
   omega
end Go.Proofs.YtboeaeoefoabdaaGreatDoor
namespace Go.Proofs.YtboeaeoefoabdaaGreatDoor
open Go.RowKit
theorem word_at (p w r : List UInt8) (hp : ∀ c ∈ p, bl c = true) (hne : w ≠ []) (hw : ∀ c ∈ w, bl c = false) (hr : r = [] ∨ ∃ c r', r = c :: r' ∧ bl c = true) : wordL (p ++ (w ++ r)) = w ∧ restL (p ++ (w ++ r)) = r := by
 have ht : trimL (p ++ (w ++ r)) = w ++ r := by
  unfold trimL
  induction p with
  | nil =>
   cases w with
   | nil => exact absurd rfl hne
   | cons c w => rw [List.nil_append, List.cons_append, List.dropWhile_cons, if_neg (by rw [hw c (by simp)]; decide)]
  | cons c p ih => rw [List.cons_append, List.dropWhile_cons, if_pos (hp c (by simp))]; exact ih fun x hx => hp x (by simp [hx])
 unfold wordL restL
 rw [ht]
 have ha : ∀ c ∈ w, (!bl c) = true := fun c hc => by rw [hw c hc]; rfl
 have hq : r.takeWhile (fun c => !bl c) = [] ∧ r.dropWhile (fun c => !bl c) = r := by
  rcases hr with rfl | ⟨c, r', rfl, hc⟩
  ·exact ⟨rfl, rfl⟩
  ·rw [List.takeWhile_cons, List.dropWhile_cons, hc]; exact ⟨rfl, rfl⟩
 rw [List.takeWhile_append_of_pos ha, List.dropWhile_append_of_pos ha, hq.1, hq.2, List.append_nil]
 exact ⟨rfl, rfl⟩
theorem pad_one (w : List UInt8) (hne : w ≠ []) (hw : ∀ c ∈ w, bl c = false) : Good (told (32 :: 32 :: (w ++ [9])) 1) ∧ (wordB (32 :: 32 :: (w ++ [9])) 1).size = 0 ∧ lineS (32 :: 32 :: (w ++ [9])) 1 = w := by
 obtain ⟨h1, h2⟩ := word_at [32, 32] w [9] (by decide) hne hw (.inr ⟨9, [], rfl, by decide⟩)
 have h1 : wordL (32 :: 32 :: (w ++ [9])) = w := h1
 have h2 : restL (32 :: 32 :: (w ++ [9])) = [9] := h2
 refine ⟨(good_iff _ _).2 fun i hi => ?_, ?_, h1⟩
 ·obtain rfl : i = 0 := by omega
  rw [word_size]
  show (wordL (32 :: 32 :: (w ++ [9]))).length ≠ 0
  rw [h1]
  cases w with
  | nil => exact absurd rfl hne
  | cons c w => simp
 ·rw [word_size, behind_succ]
  show (wordL (restL (32 :: 32 :: (w ++ [9])))).length = 0
  rw [h2]
  decide
theorem pad_two (w v : List UInt8) (hne : w ≠ []) (hw : ∀ c ∈ w, bl c = false) (hve : v ≠ []) (hv : ∀ c ∈ v, bl c = false) : Good (told (32 :: 32 :: ((w ++ 32 :: v) ++ [9])) 2) ∧ (wordB (32 :: 32 :: ((w ++ 32 :: v) ++ [9])) 2).size = 0 ∧ lineS (32 :: 32 :: ((w ++ 32 :: v) ++ [9])) 2 = w ++ 32 :: v := by
 have e : (w ++ 32 :: v) ++ [9] = w ++ (32 :: (v ++ [9])) := by simp
 rw [e]
 obtain ⟨h1, h2⟩ := word_at [32, 32] w (32 :: (v ++ [9])) (by decide) hne hw (.inr ⟨32, _, rfl, by decide⟩)
 obtain ⟨h3, h4⟩ := word_at [32] v [9] (by decide) hve hv (.inr ⟨9, [], rfl, by decide⟩)
 have h1 : wordL (32 :: 32 :: (w ++ 32 :: (v ++ [9]))) = w := h1
 have h2 : restL (32 :: 32 :: (w ++ 32 :: (v ++ [9]))) = 32 :: (v ++ [9]) := h2
 have h3 : wordL (32 :: (v ++ [9])) = v := h3
 have h4 : restL (32 :: (v ++ [9])) = [9] := h4
 have b1 : behind (32 :: 32 :: (w ++ 32 :: (v ++ [9]))) 1 = 32 :: (v ++ [9]) := h2
 have b2 : behind (32 :: 32 :: (w ++ 32 :: (v ++ [9]))) 2 = [9] := by rw [behind_succ, b1, h4]
 refine ⟨(good_iff _ _).2 fun i hi => ?_, ?_, ?_⟩
 ·rw [word_size]
  rcases (show i = 0 ∨ i = 1 by omega) with rfl | rfl
  ·show (wordL (32 :: 32 :: (w ++ 32 :: (v ++ [9])))).length ≠ 0
   rw [h1]
   cases w with
   | nil => exact absurd rfl hne
   | cons c w => simp
  ·rw [b1, h3]
   cases v with
   | nil => exact absurd rfl hve
   | cons c v => simp
 ·rw [word_size, b2]; decide
 ·rw [lineS_succ _ 1 (by omega), lineS_one, h1, b1, h3]
def Plain (l : List UInt8) : Prop := ∀ c ∈ l, bl c = false ∧ up1 c = c
theorem plain_app {a c : List UInt8} (h : Plain a) (g : Plain c) : Plain (a ++ c) := fun x hx => by
 rcases List.mem_append.1 hx with hx | hx
 ·exact h x hx
 ·exact g x hx
theorem plain_hex : ∀ m : Fin 16, bl (hexTab.getD m.val 0) = false ∧ up1 (hexTab.getD m.val 0) = hexTab.getD m.val 0 := by decide
theorem plain_hexl (n : Int) (k : Nat) : Plain (hexl n k) := by
 intro c hc
 unfold hexl at hc
 simp only [List.mem_map] at hc
 obtain ⟨j, _, rfl⟩ := hc
 exact plain_hex ⟨((n / 16 ^ (k - 1 - j)) % 16).toNat, by omega⟩
theorem plain_lit (l : List UInt8) (h : (l.all fun c => !bl c && (up1 c == c)) = true) : Plain l := by
 intro c hc
 have := List.all_eq_true.1 h c hc
 simpa using this
theorem plain_oper {m : ByteArray} (hm : m ∈ modesB) (lo hi : Int) : Plain (operG m (hexl lo 2) (hexl hi 2)) := by
 have h1 := plain_hexl lo 2
 have h2 := plain_hexl hi 2
 simp only [modesB, List.mem_cons, List.not_mem_nil, or_false] at hm
 rcases hm with rfl | rfl | rfl | rfl | rfl | rfl | rfl | rfl | rfl | rfl | rfl | rfl | rfl
 ·exact plain_lit [65] (by decide)
 ·exact plain_app (plain_lit [35, 36] (by decide)) h1
 ·exact plain_app (plain_lit [36] (by decide)) h1
 ·exact plain_app (plain_lit [36] (by decide)) h1
 ·exact plain_app (plain_lit [36] (by decide)) (plain_app h1 (plain_lit [44, 88] (by decide)))
 ·exact plain_app (plain_lit [36] (by decide)) (plain_app h1 (plain_lit [44, 89] (by decide)))
 ·exact plain_app (plain_lit [36] (by decide)) (plain_app h2 h1)
 ·exact plain_app (plain_lit [36] (by decide)) (plain_app (plain_app h2 h1) (plain_lit [44, 88] (by decide)))
 ·exact plain_app (plain_lit [36] (by decide)) (plain_app (plain_app h2 h1) (plain_lit [44, 89] (by decide)))
 ·exact plain_app (plain_lit [40, 36] (by decide)) (plain_app h1 (plain_lit [44, 88, 41] (by decide)))
 ·exact plain_app (plain_lit [40, 36] (by decide)) (plain_app h1 (plain_lit [41, 44, 89] (by decide)))
 ·exact plain_app (plain_lit [40, 36] (by decide)) (plain_app (plain_app h2 h1) (plain_lit [41] (by decide)))
 ·exact plain_lit [] (by decide)
theorem op_plain : ∀ m : Fin 256, ((opOf (m.val : Int)).1.data.toList.all fun c => !bl c && (up1 c == c)) = true ∧ (opOf (m.val : Int)).1.data.toList ≠ [] := by decide +kernel
theorem up_plain {l : List UInt8} (h : ∀ c ∈ l, up1 c = c) : upL l = l := by
 unfold upL
 induction l with
 | nil => rfl
 | cons c l ih => rw [List.map_cons, h c (by simp), ih fun x hx => h x (by simp [hx])]
theorem pad_text (n lo hi : Int) (n0 : 0 ≤ n) (n1 : n < 256) : ∃ k, Good (told (32 :: 32 :: (opT (opOf n).1 (opOf n).2 lo hi ++ [9])) k) ∧ (wordB (32 :: 32 :: (opT (opOf n).1 (opOf n).2 lo hi ++ [9])) k).size = 0 ∧ upL (lineS (32 :: 32 :: (opT (opOf n).1 (opOf n).2 lo hi ++ [9])) k) = opT (opOf n).1 (opOf n).2 lo hi := by
 obtain ⟨_, hm, _, _⟩ := op_kind n n0 n1
 obtain ⟨q, rfl⟩ : ∃ q : Nat, n = q := ⟨n.toNat, by omega⟩
 obtain ⟨p1, p2⟩ := op_plain ⟨q, by omega⟩
 have hN := plain_lit _ p1
 have hO := plain_oper hm lo hi
 unfold opT opG
 simp only at p2 hN
 generalize (opOf (q : Int)).1.data.toList = N at *
 generalize operG (opOf (q : Int)).2 (hexl lo 2) (hexl hi 2) = O at *
 by_cases hz : O = []
 ·rw [if_pos hz, List.append_nil]
  obtain ⟨h1, h2, h3⟩ := pad_one N p2 fun c hc => (hN c hc).1
  exact ⟨1, h1, h2, by rw [h3]; exact up_plain fun c hc => (hN c hc).2⟩
 ·rw [if_neg hz]
  obtain ⟨h1, h2, h3⟩ := pad_two N O p2 (fun c hc => (hN c hc).1) hz fun c hc => (hO c hc).1
  refine ⟨2, h1, h2, ?_⟩
  rw [h3]
  refine up_plain fun c hc => ?_
  rcases List.mem_append.1 hc with hc | hc
  ·exact (hN c hc).2
  ·rcases List.mem_cons.1 hc with rfl | hc
   ·decide
   ·exact (hO c hc).2
end Go.Proofs.YtboeaeoefoabdaaGreatDoor
namespace Go.Proofs.YtboeaeoefoabdaaGreatDoor
open Go.RowKit
set_option maxRecDepth 100000 in
set_option maxHeartbeats 4000000 in
theorem operG_inj2 {m k : ByteArray} (hm : m ∈ modesB) (hk : k ∈ modesB) (lo hi lo2 hi2 : Int) (h : operG m (hexl lo 2) (hexl hi 2) = operG k (hexl lo2 2) (hexl hi2 2)) : m = k ∨ (m = ⟨#[122, 112, 103]⟩ ∧ k = ⟨#[114, 101, 108]⟩) ∨ (m = ⟨#[114, 101, 108]⟩ ∧ k = ⟨#[122, 112, 103]⟩) := by
 obtain ⟨x, y, e1, hx, hy⟩ := hexl_digs lo
 obtain ⟨u, v, e2, hu, hv⟩ := hexl_digs hi
 obtain ⟨x', y', e3, hx', hy'⟩ := hexl_digs lo2
 obtain ⟨u', v', e4, hu', hv'⟩ := hexl_digs hi2
 rw [e1, e2, e3, e4] at h
 clear e1 e2 e3 e4
 unfold Dig at hx hy hu hv hx' hy' hu' hv'
 obtain ⟨_, x1, x2, x3, x4, x5, x6, x7, x8⟩ := hx
 obtain ⟨_, y1, y2, y3, y4, y5, y6, y7, y8⟩ := hy
 obtain ⟨_, u1, u2, u3, u4, u5, u6, u7, u8⟩ := hu
 obtain ⟨_, v1, v2, v3, v4, v5, v6, v7, v8⟩ := hv
 obtain ⟨_, a1, a2, a3, a4, a5, a6, a7, a8⟩ := hx'
 obtain ⟨_, b1, b2, b3, b4, b5, b6, b7, b8⟩ := hy'
 obtain ⟨_, c1, c2, c3, c4, c5, c6, c7, c8⟩ := hu'
 obtain ⟨_, d1, d2, d3, d4, d5, d6, d7, d8⟩ := hv'
 simp only [modesB, List.mem_cons, List.not_mem_nil, or_false] at hm hk
 rcases hm with rfl | rfl | rfl | rfl | rfl | rfl | rfl | rfl | rfl | rfl | rfl | rfl | rfl <;> rcases hk with rfl | rfl | rfl | rfl | rfl | rfl | rfl | rfl | rfl | rfl | rfl | rfl | rfl <;> first
  | exact .inl rfl
  | exact .inr (.inl ⟨rfl, rfl⟩)
  | exact .inr (.inr ⟨rfl, rfl⟩)
  | (exfalso; simp [operG] at h; done)
  | (exfalso; simp [operG] at h; simp_all; done)
theorem row_jamA : ∀ m : Fin 256, (rowAt m.val).1 ≠ jamN := by decide +kernel
theorem op_rowA {c : Nat} (hc : c < 256) (h : (rowAt c).1 ≠ noB) : opOf (c : Int) = rowAt c := by
 rw [rowAt_mod (c : Int) c (by omega), if_neg h]
theorem op_whose {n lo hi : Int} (n0 : 0 ≤ n) (n1 : n < 256) {c : Nat} (hc : c < 256) (h : IsOp (opT (opOf n).1 (opOf n).2 lo hi) c) : (c : Int) = n ∧ (opOf n).1 ≠ jamN := by
 obtain ⟨k1, m1, r1, z1⟩ := op_kind n n0 n1
 have e := is_name hc h
 obtain ⟨h0, lo2, hi2, ht⟩ := h
 obtain ⟨k2, m2, r2, z2⟩ := op_kind (c : Int) (by omega) (by omega)
 have er := op_rowA hc h0
 rw [(nums_all _ _ k1 m1 lo hi).1] at e
 have en : (opOf n).1 = (rowAt c).1 := ByteArray.ext (Array.toList_inj.mp e)
 have hj : (opOf n).1 ≠ jamN := by rw [en]; exact row_jamA ⟨c, hc⟩
 refine ⟨?_, hj⟩
 rw [er] at m2 r2 z2
 rw [← en] at ht r2 z2
 unfold opT opG at ht
 have ht := List.append_cancel_left ht
 have hO : operG (rowAt c).2 (hexl lo2 2) (hexl hi2 2) = operG (opOf n).2 (hexl lo 2) (hexl hi 2) := by
  revert ht
  generalize operG (rowAt c).2 (hexl lo2 2) (hexl hi2 2) = p
  generalize operG (opOf n).2 (hexl lo 2) (hexl hi 2) = q
  intro h
  by_cases hp : p = []
  ·by_cases hq : q = []
   ·rw [hp, hq]
   ·rw [if_pos hp, if_neg hq] at h; cases h
  ·by_cases hq : q = []
   ·rw [if_neg hp, if_pos hq] at h; cases h
   ·rw [if_neg hp, if_neg hq] at h; exact (List.cons.inj h).2
 have hm : (rowAt c).2 = (opOf n).2 := by
  rcases operG_inj2 m2 m1 lo2 hi2 lo hi hO with h | ⟨p, q⟩ | ⟨p, q⟩
  ·exact h
  ·have a := z2 p; have b := r1 q; simp_all
  ·have a := r2 p; have b := z1 q; simp_all
 rcases op_back n with ⟨j, _⟩ | ⟨_, kn⟩
 ·exact absurd j hj
 ·rcases op_back (c : Int) with ⟨j2, _⟩ | ⟨_, kc⟩
  ·rw [er, ← en] at j2; exact absurd j2 hj
  ·rw [er, ← en, hm, kn] at kc
   omega
theorem asm_own {n lo hi : Int} (n0 : 0 ≤ n) (n1 : n < 256) {out : List UInt8} {ok : Bool} (h : AsmOk (opT (opOf n).1 (opOf n).2 lo hi) out ok) : ((opOf n).1 = jamN ∧ ok = false ∧ out = []) ∨ ((opOf n).1 ≠ jamN ∧ ok = true ∧ out = [UInt8.ofNat n.toNat, UInt8.ofNat (lo % 256).toNat, UInt8.ofNat (hi % 256).toNat].take (modeSz (opOf n).2).toNat) := by
 by_cases hj : (opOf n).1 = jamN
 ·refine .inl ⟨hj, ?_⟩
  rcases h with ⟨_, c, l2, h2, hc, h0, ht, _⟩ | ⟨h1, h2, _⟩
  ·exact absurd hj (op_whose n0 n1 hc ⟨h0, l2, h2, ht⟩).2
  ·exact ⟨h1, h2⟩
 ·refine .inr ⟨hj, ?_⟩
  obtain ⟨q, rfl⟩ : ∃ q : Nat, n = q := ⟨n.toNat, by omega⟩
  have hq : q < 256 := by omega
  have h0 : (rowAt q).1 ≠ noB := fun h => hj (by rw [rowAt_mod (q : Int) q (by omega), if_pos h])
  have er := op_rowA hq h0
  have k : AsmOk (opT (opOf (q : Int)).1 (opOf (q : Int)).2 lo hi) ([UInt8.ofNat q, UInt8.ofNat (lo % 256).toNat, UInt8.ofNat (hi % 256).toNat].take (modeSz (rowAt q).2).toNat) true :=
   .inl ⟨rfl, q, lo, hi, hq, h0, by rw [er], fun j hjq hop => by have := (op_whose n0 n1 (by omega) hop).1; omega, rfl⟩
  obtain ⟨e1, e2⟩ := asm_one h k
  refine ⟨e2, ?_⟩
  rw [e1, er, Int.toNat_natCast]
end Go.Proofs.YtboeaeoefoabdaaGreatDoor
namespace Go.Proofs.YtboeaeoefoabdaaGreatDoor
open Go.RowKit
theorem codesAt_lt (s : ByteArray) (k : Nat) : (codesAt s k).Pairwise (· < ·) := by
 unfold codesAt
 refine List.Pairwise.map _ (fun a b h => ?_) ((List.pairwise_lt_range).filter _)
 omega
theorem codesAt_in {s : ByteArray} {k i : Nat} (hi : i < k) (h0 : (rowAt i).1 ≠ noB) (h1 : (rowAt i).1 = s) : (i : Int) ∈ codesAt s k := by
 unfold codesAt
 refine List.mem_map.2 ⟨i, List.mem_filter.2 ⟨List.mem_range.2 hi, decide_eq_true ⟨h0, h1⟩⟩, rfl⟩
def IsL (S : List UInt8) (lo hi : Int) (z : Int) : Prop := opT (rowAt z.toNat).1 (rowAt z.toNat).2 lo hi = S
theorem codes_name {S : List UInt8} {name : ByteArray} (hn : name.data.toList = nameL S) {j : Nat} (hj : j < 256) (h : IsOp S j) : (j : Int) ∈ codesAt name 256 := by
 have e := is_name hj h
 refine codesAt_in hj h.1 (ByteArray.ext (Array.toList_inj.mp ?_))
 rw [← e, hn]
theorem codes_hit {S : List UInt8} {name : ByteArray} (hn : name.data.toList = nameL S) {lo hi : Int} (hlo : lo = rh (trimT (restB S)) % 256) (hhi : hi = rh (trimT (restB S)) / 256 % 256) {i : Nat} (h : i < (codesAt name 256).length) (hy : IsL S lo hi (codesAt name 256)[i]) (hp : ∀ j (hj : j < i), ¬ IsL S lo hi ((codesAt name 256)[j]'(by omega))) :
  AsmOk S ([UInt8.ofNat ((codesAt name 256)[i]).toNat, UInt8.ofNat (lo % 256).toNat, UInt8.ofNat (hi % 256).toNat].take (modeSz (rowAt ((codesAt name 256)[i]).toNat).2).toNat) true := by
 obtain ⟨c, hc, e, h0, h1⟩ := codesAt_mem name 256 _ (List.getElem_mem h)
 have ec : ((codesAt name 256)[i]).toNat = c := by omega
 unfold IsL at hy
 rw [ec] at hy ⊢
 refine .inl ⟨rfl, c, lo, hi, hc, h0, hy, fun j hj hop => ?_, rfl⟩
 have hm := codes_name hn (by omega) hop
 obtain ⟨n, hn1, hn2⟩ := List.mem_iff_getElem.1 hm
 have hlt : n < i := by
  rcases Nat.lt_or_ge n i with h | h
  ·exact h
  ·exfalso
   rcases Nat.eq_or_lt_of_le h with h | h
   ·subst h; omega
   ·have := List.pairwise_iff_getElem.1 (codesAt_lt name 256) i n (by omega) hn1 h
    omega
 refine hp n hlt ?_
 unfold IsL
 have ej : ((codesAt name 256)[n]).toNat = j := by omega
 rw [ej, hlo, hhi]
 exact (is_impl (by omega) hop.1).1 hop
theorem codes_miss {S : List UInt8} {name : ByteArray} (hn : name.data.toList = nameL S) {lo hi : Int} (hlo : lo = rh (trimT (restB S)) % 256) (hhi : hi = rh (trimT (restB S)) / 256 % 256) (hp : ∀ j (hj : j < (codesAt name 256).length), ¬ IsL S lo hi ((codesAt name 256)[j])) : AsmOk S [] false := by
 refine .inr ⟨rfl, rfl, fun j hj hop => ?_⟩
 obtain ⟨n, hn1, hn2⟩ := List.mem_iff_getElem.1 (codes_name hn hj hop)
 refine hp n hn1 ?_
 unfold IsL
 have ej : ((codesAt name 256)[n]).toNat = j := by omega
 rw [ej, hlo, hhi]
 exact (is_impl hj hop.1).1 hop
theorem codes_byte (name : ByteArray) (i : Nat) (h : i < (codesAt name 256).length) : ∃ c : Nat, c < 256 ∧ (codesAt name 256)[i] = (c : Int) ∧ (rowAt c).1 ≠ noB := by
 obtain ⟨c, hc, e, h0, _⟩ := codesAt_mem name 256 _ (List.getElem_mem h)
 exact ⟨c, hc, e, h0⟩
theorem codes_hit2 {S : List UInt8} {name : ByteArray} {zs : List Int} (ez : codesAt name 256 = zs) (hn : name.data.toList = nameL S) {lo hi : Int} (hlo : lo = rh (trimT (restB S)) % 256) (hhi : hi = rh (trimT (restB S)) / 256 % 256) (i : Nat) (h : i < zs.length) (hy : IsL S lo hi zs[i]) (hp : ∀ j (hj : j < i), ¬ IsL S lo hi (zs[j]'(by omega))) :
  AsmOk S ([UInt8.ofNat (zs[i]).toNat, UInt8.ofNat (lo % 256).toNat, UInt8.ofNat (hi % 256).toNat].take (modeSz (rowAt (zs[i]).toNat).2).toNat) true := by
 subst ez
 exact codes_hit hn hlo hhi h hy hp
theorem codes_miss2 {S : List UInt8} {name : ByteArray} {zs : List Int} (ez : codesAt name 256 = zs) (hn : name.data.toList = nameL S) {lo hi : Int} (hlo : lo = rh (trimT (restB S)) % 256) (hhi : hi = rh (trimT (restB S)) / 256 % 256) (hp : ∀ j (hj : j < zs.length), ¬ IsL S lo hi (zs[j])) : AsmOk S [] false := by
 subst ez
 exact codes_miss hn hlo hhi hp
theorem codes_byte2 {name : ByteArray} {zs : List Int} (ez : codesAt name 256 = zs) (i : Nat) (h : i < zs.length) : ∃ c : Nat, c < 256 ∧ zs[i] = (c : Int) ∧ (rowAt c).1 ≠ noB := by
 subst ez
 exact codes_byte name i h
end Go.Proofs.YtboeaeoefoabdaaGreatDoor
