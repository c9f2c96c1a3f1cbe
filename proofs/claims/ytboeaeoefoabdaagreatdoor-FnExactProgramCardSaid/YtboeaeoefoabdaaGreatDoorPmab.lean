/-
  Texts put together by program: TbE, TbH, AsA, CuA.
  Conditions: as each theorem says.
-/
import Derived.Test.YtboeaeoefoabdaaGreatDoorPmaa
namespace Go.Proofs.YtboeaeoefoabdaaGreatDoor
def inB (x : ByteArray) (ws : List (List UInt8)) : Bool := ws.any fun w => decide ((⟨w.toArray⟩ : ByteArray) = x)
theorem inB_at (x : ByteArray) (ws : List (List UInt8)) : (∀ k (h : k < ws.length), (⟨ws[k].toArray⟩ : ByteArray) = x → inB x ws = true) ∧ ((∀ k (h : k < ws.length), (⟨ws[k].toArray⟩ : ByteArray) ≠ x) → inB x ws = false) := by
 constructor
 ·intro k h e
  exact List.any_eq_true.2 ⟨ws[k], List.getElem_mem h, by simpa using e⟩
 ·intro h
  unfold inB
  rw [List.any_eq_false]
  intro w hw
  obtain ⟨k, hk, rfl⟩ := List.mem_iff_getElem.1 hw
  simpa using h k hk
def ws1 : List (List UInt8) := [[105, 109, 112], [97, 99, 99]]
def ws3 : List (List UInt8) := [[97, 98, 115], [97, 98, 120], [97, 98, 121], [105, 110, 100]]
def ws2 : List (List UInt8) := [[105, 109, 109], [122, 112, 103], [122, 112, 120], [122, 112, 121], [105, 110, 120], [105, 110, 121], [114, 101, 108]]
def modeSz (m : ByteArray) : Int := if inB m ws1 then 1 else if inB m ws3 then 3 else if inB m ws2 then 2 else 0
end Go.Proofs.YtboeaeoefoabdaaGreatDoor
namespace Go.Proofs.YtboeaeoefoabdaaGreatDoor
def noB : ByteArray := ⟨#[]⟩
def rowAt (i : Nat) : ByteArray × ByteArray := match opRows.find? fun r => r.1 == i with
 | some r => (nmR r, mdR r)
 | none => (noB, noB)
def rowCells (i : Nat) : List Value := [.string (rowAt i).1, .string (rowAt i).2]
def tabCells : Array Value := ((List.range 256).flatMap rowCells).toArray
theorem flat_two {α β} (f : α → List β) : ∀ (l : List α), (∀ x ∈ l, (f x).length = 2) → ∀ (i : Nat) (h : i < l.length), (l.flatMap f)[2 * i]? = (f l[i])[0]? ∧ (l.flatMap f)[2 * i + 1]? = (f l[i])[1]?
 | [], _, i, h => absurd h (Nat.not_lt_zero _)
 | x :: l, hl, 0, _ => by
  have h2 := hl x (by simp)
  constructor
  ·show (f x ++ l.flatMap f)[0]? = (f x)[0]?
   rw [List.getElem?_append_left (by omega)]
  ·show (f x ++ l.flatMap f)[1]? = (f x)[1]?
   rw [List.getElem?_append_left (by omega)]
 | x :: l, hl, i + 1, h => by
  have h2 := hl x (by simp)
  have hi : i < l.length := by simpa using h
  have ih := flat_two f l (fun y hy => hl y (by simp [hy])) i hi
  constructor
  ·show (f x ++ l.flatMap f)[2 * (i + 1)]? = (f l[i])[0]?
   rw [List.getElem?_append_right (by omega), h2, ← ih.1]; rfl
  ·show (f x ++ l.flatMap f)[2 * (i + 1) + 1]? = (f l[i])[1]?
   rw [List.getElem?_append_right (by omega), h2, ← ih.2, show 2 * (i + 1) + 1 - 2 = 2 * i + 1 by omega]
theorem tabCells_size : tabCells.size = 512 := by
 unfold tabCells
 rw [List.size_toArray, flat_length rowCells 2 _ (fun _ _ => rfl), List.length_range]
theorem tabCells_at (i : Nat) (h : i < 256) : tabCells[2 * i]? = some (.string (rowAt i).1) ∧ tabCells[2 * i + 1]? = some (.string (rowAt i).2) := by
 have := flat_two rowCells (List.range 256) (fun _ _ => rfl) i (by simpa using h)
 simpa [tabCells, rowCells] using this
theorem tabCells_one : ∀ v ∈ tabCells, v.oneCell' = true := by
 intro v hv
 unfold tabCells at hv
 simp only [List.mem_toArray, List.mem_flatMap, rowCells] at hv
 obtain ⟨i, _, h⟩ := hv
 simp only [List.mem_cons, List.not_mem_nil, or_false] at h
 rcases h with rfl | rfl <;> rfl
theorem rowAt_mod (n : Int) (m : Nat) (hm : (m : Int) = n % 256) : opOf n = if (rowAt m).1 = noB then (jamN, impM) else rowAt m := by
 have e : (fun r : Nat × List UInt8 × List UInt8 => (r.1 : Int) == n % 256) = fun r => r.1 == m := by
  funext r
  rw [← hm]
  exact Bool.eq_iff_iff.2 (by simp; omega)
 unfold opOf rowAt
 rw [e]
 cases hf : opRows.find? fun r => r.1 == m with
 | none => simp
 | some r =>
  have h3 := (rows_ok r (List.mem_of_find?_eq_some hf)).2.1
  have hne : nmR r ≠ noB := by
   intro h
   have := congrArg (fun b : ByteArray => b.data.toList) h
   simp [nmR, noB] at this
   rw [this] at h3
   simp at h3
  simp [hne]
def codesAt (s : ByteArray) (k : Nat) : List Int := ((List.range k).filter fun i => decide ((rowAt i).1 ≠ noB ∧ (rowAt i).1 = s)).map fun i : Nat => (i : Int)
theorem codesAt_step (s : ByteArray) (k : Nat) : codesAt s (k + 1) = codesAt s k ++ (if (rowAt k).1 ≠ noB ∧ (rowAt k).1 = s then [(k : Int)] else []) := by
 unfold codesAt
 rw [List.range_succ, List.filter_append, List.map_append]
 congr 1
 by_cases h : (rowAt k).1 ≠ noB ∧ (rowAt k).1 = s
 ·rw [if_pos h, List.filter_cons_of_pos (by simpa using h)]; rfl
 ·rw [if_neg h, List.filter_cons_of_neg (by simpa using h)]; rfl
theorem codesAt_mem (s : ByteArray) (k : Nat) (z : Int) (h : z ∈ codesAt s k) : ∃ i : Nat, i < k ∧ z = (i : Int) ∧ (rowAt i).1 ≠ noB ∧ (rowAt i).1 = s := by
 unfold codesAt at h
 obtain ⟨i, hi, rfl⟩ := List.mem_map.1 h
 obtain ⟨h1, h2⟩ := List.mem_filter.1 hi
 have h3 := of_decide_eq_true h2
 exact ⟨i, by simpa using h1, rfl, h3.1, h3.2⟩
theorem codesAt_length (s : ByteArray) (k : Nat) : (codesAt s k).length ≤ k := by
 unfold codesAt
 rw [List.length_map]
 exact Nat.le_trans (List.length_filter_le _ _) (by simp)
theorem row_small : ∀ m : Fin 256, (rowAt m.val).1.size ≤ 3 ∧ (rowAt m.val).2.size ≤ 3 := by decide +kernel
theorem op_size3 (n : Int) : (opOf n).1.size ≤ 3 ∧ (opOf n).2.size ≤ 3 := by
 have h := row_small ⟨(n % 256).toNat, by omega⟩
 rw [rowAt_mod n (n % 256).toNat (by omega)]
 split
 ·exact ⟨by decide, by decide⟩
 ·exact h
end Go.Proofs.YtboeaeoefoabdaaGreatDoor
namespace Go.Proofs.YtboeaeoefoabdaaGreatDoor
open Go.RowKit
def operG (m : ByteArray) (a b : List UInt8) : List UInt8 := if m = ⟨#[97, 99, 99]⟩ then [65] else if m = ⟨#[105, 109, 109]⟩ then [35, 36] ++ (a) else if m = ⟨#[122, 112, 103]⟩ then [36] ++ (a) else if m = ⟨#[114, 101, 108]⟩ then [36] ++ (a) else if m = ⟨#[122, 112, 120]⟩ then [36] ++ (a ++ [44, 88]) else if m = ⟨#[122, 112, 121]⟩ then [36] ++ (a ++ [44, 89]) else if m = ⟨#[97, 98, 115]⟩ then [36] ++ ((b ++ a)) else if m = ⟨#[97, 98, 120]⟩ then [36] ++ ((b ++ a) ++ [44, 88]) else if m = ⟨#[97, 98, 121]⟩ then [36] ++ ((b ++ a) ++ [44, 89]) else if m = ⟨#[105, 110, 120]⟩ then [40, 36] ++ (a ++ [44, 88, 41]) else if m = ⟨#[105, 110, 121]⟩ then [40, 36] ++ (a ++ [41, 44, 89]) else if m = ⟨#[105, 110, 100]⟩ then [40, 36] ++ ((b ++ a) ++ [41]) else []
def opG (n : List UInt8) (m : ByteArray) (a b : List UInt8) : List UInt8 := n ++ (if operG m a b = [] then [] else 32 :: operG m a b)
theorem operG_acc (a b : List UInt8) : operG ⟨#[97, 99, 99]⟩ a b = [65] := rfl
theorem opG_acc (n a b : List UInt8) : opG n ⟨#[97, 99, 99]⟩ a b = n ++ (32 :: ([65])) := by
 unfold opG; rw [operG_acc]; exact congrArg _ (if_neg (by simp))
theorem operG_imm (a b : List UInt8) : operG ⟨#[105, 109, 109]⟩ a b = [35, 36] ++ (a) := rfl
theorem opG_imm (n a b : List UInt8) : opG n ⟨#[105, 109, 109]⟩ a b = n ++ (32 :: ([35, 36] ++ (a))) := by
 unfold opG; rw [operG_imm]; exact congrArg _ (if_neg (by simp))
theorem operG_zpg (a b : List UInt8) : operG ⟨#[122, 112, 103]⟩ a b = [36] ++ (a) := rfl
theorem opG_zpg (n a b : List UInt8) : opG n ⟨#[122, 112, 103]⟩ a b = n ++ (32 :: ([36] ++ (a))) := by
 unfold opG; rw [operG_zpg]; exact congrArg _ (if_neg (by simp))
theorem operG_rel (a b : List UInt8) : operG ⟨#[114, 101, 108]⟩ a b = [36] ++ (a) := rfl
theorem opG_rel (n a b : List UInt8) : opG n ⟨#[114, 101, 108]⟩ a b = n ++ (32 :: ([36] ++ (a))) := by
 unfold opG; rw [operG_rel]; exact congrArg _ (if_neg (by simp))
theorem operG_zpx (a b : List UInt8) : operG ⟨#[122, 112, 120]⟩ a b = [36] ++ (a ++ [44, 88]) := rfl
theorem opG_zpx (n a b : List UInt8) : opG n ⟨#[122, 112, 120]⟩ a b = n ++ (32 :: ([36] ++ (a ++ [44, 88]))) := by
 unfold opG; rw [operG_zpx]; exact congrArg _ (if_neg (by simp))
theorem operG_zpy (a b : List UInt8) : operG ⟨#[122, 112, 121]⟩ a b = [36] ++ (a ++ [44, 89]) := rfl
theorem opG_zpy (n a b : List UInt8) : opG n ⟨#[122, 112, 121]⟩ a b = n ++ (32 :: ([36] ++ (a ++ [44, 89]))) := by
 unfold opG; rw [operG_zpy]; exact congrArg _ (if_neg (by simp))
theorem operG_abs (a b : List UInt8) : operG ⟨#[97, 98, 115]⟩ a b = [36] ++ ((b ++ a)) := rfl
theorem opG_abs (n a b : List UInt8) : opG n ⟨#[97, 98, 115]⟩ a b = n ++ (32 :: ([36] ++ ((b ++ a)))) := by
 unfold opG; rw [operG_abs]; exact congrArg _ (if_neg (by simp))
theorem operG_abx (a b : List UInt8) : operG ⟨#[97, 98, 120]⟩ a b = [36] ++ ((b ++ a) ++ [44, 88]) := rfl
theorem opG_abx (n a b : List UInt8) : opG n ⟨#[97, 98, 120]⟩ a b = n ++ (32 :: ([36] ++ ((b ++ a) ++ [44, 88]))) := by
 unfold opG; rw [operG_abx]; exact congrArg _ (if_neg (by simp))
theorem operG_aby (a b : List UInt8) : operG ⟨#[97, 98, 121]⟩ a b = [36] ++ ((b ++ a) ++ [44, 89]) := rfl
theorem opG_aby (n a b : List UInt8) : opG n ⟨#[97, 98, 121]⟩ a b = n ++ (32 :: ([36] ++ ((b ++ a) ++ [44, 89]))) := by
 unfold opG; rw [operG_aby]; exact congrArg _ (if_neg (by simp))
theorem operG_inx (a b : List UInt8) : operG ⟨#[105, 110, 120]⟩ a b = [40, 36] ++ (a ++ [44, 88, 41]) := rfl
theorem opG_inx (n a b : List UInt8) : opG n ⟨#[105, 110, 120]⟩ a b = n ++ (32 :: ([40, 36] ++ (a ++ [44, 88, 41]))) := by
 unfold opG; rw [operG_inx]; exact congrArg _ (if_neg (by simp))
theorem operG_iny (a b : List UInt8) : operG ⟨#[105, 110, 121]⟩ a b = [40, 36] ++ (a ++ [41, 44, 89]) := rfl
theorem opG_iny (n a b : List UInt8) : opG n ⟨#[105, 110, 121]⟩ a b = n ++ (32 :: ([40, 36] ++ (a ++ [41, 44, 89]))) := by
 unfold opG; rw [operG_iny]; exact congrArg _ (if_neg (by simp))
theorem operG_ind (a b : List UInt8) : operG ⟨#[105, 110, 100]⟩ a b = [40, 36] ++ ((b ++ a) ++ [41]) := rfl
theorem opG_ind (n a b : List UInt8) : opG n ⟨#[105, 110, 100]⟩ a b = n ++ (32 :: ([40, 36] ++ ((b ++ a) ++ [41]))) := by
 unfold opG; rw [operG_ind]; exact congrArg _ (if_neg (by simp))
theorem operG_none (m : ByteArray) (a b : List UInt8) (hacc : ¬ m = ⟨#[97, 99, 99]⟩) (himm : ¬ m = ⟨#[105, 109, 109]⟩) (hzpg : ¬ m = ⟨#[122, 112, 103]⟩) (hrel : ¬ m = ⟨#[114, 101, 108]⟩) (hzpx : ¬ m = ⟨#[122, 112, 120]⟩) (hzpy : ¬ m = ⟨#[122, 112, 121]⟩) (habs : ¬ m = ⟨#[97, 98, 115]⟩) (habx : ¬ m = ⟨#[97, 98, 120]⟩) (haby : ¬ m = ⟨#[97, 98, 121]⟩) (hinx : ¬ m = ⟨#[105, 110, 120]⟩) (hiny : ¬ m = ⟨#[105, 110, 121]⟩) (hind : ¬ m = ⟨#[105, 110, 100]⟩) : operG m a b = [] := by
 unfold operG; rw [if_neg hacc, if_neg himm, if_neg hzpg, if_neg hrel, if_neg hzpx, if_neg hzpy, if_neg habs, if_neg habx, if_neg haby, if_neg hinx, if_neg hiny, if_neg hind]
theorem opG_none (n : List UInt8) (m : ByteArray) (a b : List UInt8) (h : operG m a b = []) : opG n m a b = n := by unfold opG; rw [if_pos h, List.append_nil]
theorem ite_len {p : Prop} [Decidable p] {x y : List UInt8} {k : Nat} (hx : x.length ≤ k) (hy : y.length ≤ k) : (if p then x else y).length ≤ k := by split <;> assumption
theorem operG_length (m : ByteArray) (a b : List UInt8) (ha : a.length = 2) (hb : b.length = 2) : (operG m a b).length ≤ 8 := by
 unfold operG
 repeat' refine ite_len ?_ ?_
 all_goals simp only [List.length_append, List.length_cons, List.length_nil]
 all_goals omega
def opT (N : ByteArray) (m : ByteArray) (lo hi : Int) : List UInt8 := opG N.data.toList m (hexl lo 2) (hexl hi 2)
end Go.Proofs.YtboeaeoefoabdaaGreatDoor
namespace Go.Proofs.YtboeaeoefoabdaaGreatDoor
open Go.RowKit
def nameL (S : List UInt8) : List UInt8 := S.takeWhile (fun c => c != 32)
def restB (S : List UInt8) : List UInt8 := (S.dropWhile (fun c => c != 32)).drop 1
def NoS (N : List UInt8) : Prop := ∀ c ∈ N, c ≠ 32
theorem cut_at (N r : List UInt8) (h : NoS N) : nameL (N ++ 32 :: r) = N ∧ restB (N ++ 32 :: r) = r := by
 unfold nameL restB
 induction N with
 | nil => simp
 | cons c N ih =>
  have hc := h c (by simp)
  have ih := ih fun x hx => h x (by simp [hx])
  rw [List.cons_append, List.dropWhile_cons, List.takeWhile_cons, if_pos (by simp [hc]), if_pos (by simp [hc])]
  exact ⟨by rw [ih.1], ih.2⟩
theorem cut_nil (N : List UInt8) (h : NoS N) : nameL N = N ∧ restB N = [] := by
 unfold nameL restB
 induction N with
 | nil => simp
 | cons c N ih =>
  have hc := h c (by simp)
  have ih := ih fun x hx => h x (by simp [hx])
  rw [List.dropWhile_cons, List.takeWhile_cons, if_pos (by simp [hc]), if_pos (by simp [hc])]
  exact ⟨by rw [ih.1], ih.2⟩
end Go.Proofs.YtboeaeoefoabdaaGreatDoor
