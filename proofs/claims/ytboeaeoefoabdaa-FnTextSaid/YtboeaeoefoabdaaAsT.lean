/-
  One instruction's text is no other's, plainly (chapter 13).
  Conditions: none.
-/
import Derived.Test.YtboeaeoefoabdaaAsP
namespace Go.Proofs.Ytboeaeoefoabdaa
open Go.RowKit
theorem hexl_digs (n : Int) : ∃ x y : UInt8, hexl n 2 = [x, y] ∧ Dig x ∧ Dig y := ⟨hexAt n 1, hexAt n 0, rfl, dig_at n 1, dig_at n 0⟩
theorem operG_imp (a b : List UInt8) : operG ⟨#[105, 109, 112]⟩ a b = [] := rfl
set_option maxRecDepth 100000 in
set_option maxHeartbeats 4000000 in
theorem operG_inj {m k : ByteArray} (hm : m ∈ modesB) (hk : k ∈ modesB) (lo hi : Int) (h : operG m (hexl lo 2) (hexl hi 2) = operG k (hexl lo 2) (hexl hi 2)) : m = k ∨ (m = ⟨#[122, 112, 103]⟩ ∧ k = ⟨#[114, 101, 108]⟩) ∨ (m = ⟨#[114, 101, 108]⟩ ∧ k = ⟨#[122, 112, 103]⟩) := by
  obtain ⟨x, y, e1, hx, hy⟩ := hexl_digs lo
  obtain ⟨u, v, e2, hu, hv⟩ := hexl_digs hi
  rw [e1, e2] at h
  clear e1 e2
  unfold Dig at hx hy hu hv
  obtain ⟨_, x1, x2, x3, x4, x5, x6, x7, x8⟩ := hx
  obtain ⟨_, y1, y2, y3, y4, y5, y6, y7, y8⟩ := hy
  obtain ⟨_, u1, u2, u3, u4, u5, u6, u7, u8⟩ := hu
  obtain ⟨_, v1, v2, v3, v4, v5, v6, v7, v8⟩ := hv
  simp only [modesB, List.mem_cons, List.not_mem_nil, or_false] at hm hk
  rcases hm with rfl | rfl | rfl | rfl | rfl | rfl | rfl | rfl | rfl | rfl | rfl | rfl | rfl <;> rcases hk with rfl | rfl | rfl | rfl | rfl | rfl | rfl | rfl | rfl | rfl | rfl | rfl | rfl <;> first
    | exact .inl rfl
    | exact .inr (.inl ⟨rfl, rfl⟩)
    | exact .inr (.inr ⟨rfl, rfl⟩)
    | (exfalso; simp [operG] at h; done)
    | (exfalso; simp [operG] at h; simp_all; done)
def branch (n : ByteArray) : Bool := [⟨#[66, 67, 67]⟩, ⟨#[66, 67, 83]⟩, ⟨#[66, 69, 81]⟩, ⟨#[66, 77, 73]⟩, ⟨#[66, 78, 69]⟩, ⟨#[66, 80, 76]⟩, ⟨#[66, 86, 67]⟩, ⟨#[66, 86, 83]⟩].any fun x => decide (x = n)
theorem op_kinds : ∀ m : Fin 256, capB (opOf (m.val : Int)).1 = true ∧ modesB.any (fun x => decide (x = (opOf (m.val : Int)).2)) = true ∧ ((opOf (m.val : Int)).2 = ⟨#[114, 101, 108]⟩ → branch (opOf (m.val : Int)).1 = true) ∧ ((opOf (m.val : Int)).2 = ⟨#[122, 112, 103]⟩ → branch (opOf (m.val : Int)).1 = false) := by decide +kernel
theorem op_kind (n : Int) (h0 : 0 ≤ n) (h1 : n < 256) : capB (opOf n).1 = true ∧ (opOf n).2 ∈ modesB ∧ ((opOf n).2 = ⟨#[114, 101, 108]⟩ → branch (opOf n).1 = true) ∧ ((opOf n).2 = ⟨#[122, 112, 103]⟩ → branch (opOf n).1 = false) := by
  obtain ⟨m, rfl⟩ : ∃ m : Nat, n = m := ⟨n.toNat, by omega⟩
  obtain ⟨h1, h2, h3, h4⟩ := op_kinds ⟨m, by omega⟩
  refine ⟨h1, ?_, h3, h4⟩
  obtain ⟨x, hx, he⟩ := List.any_eq_true.1 h2
  have e := of_decide_eq_true he
  rw [← e]; exact hx
/-- One instruction's text is no other's. -/
theorem text_same (a b lo hi : Int) (a0 : 0 ≤ a) (a1 : a < 256) (b0 : 0 ≤ b) (b1 : b < 256) : opT (opOf a).1 (opOf a).2 lo hi = opT (opOf b).1 (opOf b).2 lo hi ↔ (a = b ∨ ((opOf a).1 = jamN ∧ (opOf b).1 = jamN)) := by
  obtain ⟨c1, m1, r1, z1⟩ := op_kind a a0 a1
  obtain ⟨c2, m2, r2, z2⟩ := op_kind b b0 b1
  constructor
  · intro h
    have n1 := (nums_all _ _ c1 m1 lo hi).1
    have n2 := (nums_all _ _ c2 m2 lo hi).1
    rw [h, n2] at n1
    have e : (opOf b).1 = (opOf a).1 := ByteArray.ext (Array.toList_inj.mp n1)
    rw [e] at h r2 z2
    unfold opT opG at h
    have h := List.append_cancel_left h
    have h2 : operG (opOf a).2 (hexl lo 2) (hexl hi 2) = operG (opOf b).2 (hexl lo 2) (hexl hi 2) := by
      revert h
      generalize operG (opOf a).2 (hexl lo 2) (hexl hi 2) = p
      generalize operG (opOf b).2 (hexl lo 2) (hexl hi 2) = q
      intro h
      by_cases hp : p = []
      · by_cases hq : q = []
        · rw [hp, hq]
        · rw [if_pos hp, if_neg hq] at h; cases h
      · by_cases hq : q = []
        · rw [if_neg hp, if_pos hq] at h; cases h
        · rw [if_neg hp, if_neg hq] at h; exact (List.cons.inj h).2
    have h3 : (opOf a).2 = (opOf b).2 := by
      rcases operG_inj m1 m2 lo hi h2 with h | ⟨p, q⟩ | ⟨p, q⟩
      · exact h
      · have := z1 p; have := r2 q; simp_all
      · have := r1 p; have := z2 q; simp_all
    rcases op_back a with ⟨j, _⟩ | ⟨j, ka⟩
    · exact .inr ⟨j, e.trans j⟩
    · rcases op_back b with ⟨j2, _⟩ | ⟨_, kb⟩
      · exact absurd (e.symm.trans j2) j
      · rw [e, ← h3, ka] at kb
        exact .inl (by omega)
  · rintro (rfl | ⟨p, q⟩)
    · rfl
    · have i1 : (opOf a).2 = impM := by
        rcases op_back a with ⟨_, i, _⟩ | ⟨j, _⟩
        · exact i
        · exact absurd p j
      have i2 : (opOf b).2 = impM := by
        rcases op_back b with ⟨_, i, _⟩ | ⟨j, _⟩
        · exact i
        · exact absurd q j
      rw [p, q, i1, i2]
end Go.Proofs.Ytboeaeoefoabdaa
