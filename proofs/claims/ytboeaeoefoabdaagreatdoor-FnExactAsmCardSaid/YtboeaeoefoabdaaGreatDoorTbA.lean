/-
  Plain facts on the instructions: the rows of the table (a byte, a name, a mode), the text that they make, what a byte's instruction is, and what an instruction's byte is.
  Conditions: as each lemma says.
-/
import Derived.Test.YtboeaeoefoabdaaGreatDoorHxN
import Derived.Lib.Strings
namespace Go.Proofs.YtboeaeoefoabdaaGreatDoor
def opRows : List (Nat × List UInt8 × List UInt8) := [
  (0, [66, 82, 75], [105, 109, 112]),
  (1, [79, 82, 65], [105, 110, 120]),
  (5, [79, 82, 65], [122, 112, 103]),
  (6, [65, 83, 76], [122, 112, 103]),
  (8, [80, 72, 80], [105, 109, 112]),
  (9, [79, 82, 65], [105, 109, 109]),
  (10, [65, 83, 76], [97, 99, 99]),
  (13, [79, 82, 65], [97, 98, 115]),
  (14, [65, 83, 76], [97, 98, 115]),
  (16, [66, 80, 76], [114, 101, 108]),
  (17, [79, 82, 65], [105, 110, 121]),
  (21, [79, 82, 65], [122, 112, 120]),
  (22, [65, 83, 76], [122, 112, 120]),
  (24, [67, 76, 67], [105, 109, 112]),
  (25, [79, 82, 65], [97, 98, 121]),
  (29, [79, 82, 65], [97, 98, 120]),
  (30, [65, 83, 76], [97, 98, 120]),
  (32, [74, 83, 82], [97, 98, 115]),
  (33, [65, 78, 68], [105, 110, 120]),
  (36, [66, 73, 84], [122, 112, 103]),
  (37, [65, 78, 68], [122, 112, 103]),
  (38, [82, 79, 76], [122, 112, 103]),
  (40, [80, 76, 80], [105, 109, 112]),
  (41, [65, 78, 68], [105, 109, 109]),
  (42, [82, 79, 76], [97, 99, 99]),
  (44, [66, 73, 84], [97, 98, 115]),
  (45, [65, 78, 68], [97, 98, 115]),
  (46, [82, 79, 76], [97, 98, 115]),
  (48, [66, 77, 73], [114, 101, 108]),
  (49, [65, 78, 68], [105, 110, 121]),
  (53, [65, 78, 68], [122, 112, 120]),
  (54, [82, 79, 76], [122, 112, 120]),
  (56, [83, 69, 67], [105, 109, 112]),
  (57, [65, 78, 68], [97, 98, 121]),
  (61, [65, 78, 68], [97, 98, 120]),
  (62, [82, 79, 76], [97, 98, 120]),
  (64, [82, 84, 73], [105, 109, 112]),
  (65, [69, 79, 82], [105, 110, 120]),
  (69, [69, 79, 82], [122, 112, 103]),
  (70, [76, 83, 82], [122, 112, 103]),
  (72, [80, 72, 65], [105, 109, 112]),
  (73, [69, 79, 82], [105, 109, 109]),
  (74, [76, 83, 82], [97, 99, 99]),
  (76, [74, 77, 80], [97, 98, 115]),
  (77, [69, 79, 82], [97, 98, 115]),
  (78, [76, 83, 82], [97, 98, 115]),
  (80, [66, 86, 67], [114, 101, 108]),
  (81, [69, 79, 82], [105, 110, 121]),
  (85, [69, 79, 82], [122, 112, 120]),
  (86, [76, 83, 82], [122, 112, 120]),
  (88, [67, 76, 73], [105, 109, 112]),
  (89, [69, 79, 82], [97, 98, 121]),
  (93, [69, 79, 82], [97, 98, 120]),
  (94, [76, 83, 82], [97, 98, 120]),
  (96, [82, 84, 83], [105, 109, 112]),
  (97, [65, 68, 67], [105, 110, 120]),
  (101, [65, 68, 67], [122, 112, 103]),
  (102, [82, 79, 82], [122, 112, 103]),
  (104, [80, 76, 65], [105, 109, 112]),
  (105, [65, 68, 67], [105, 109, 109]),
  (106, [82, 79, 82], [97, 99, 99]),
  (108, [74, 77, 80], [105, 110, 100]),
  (109, [65, 68, 67], [97, 98, 115]),
  (110, [82, 79, 82], [97, 98, 115]),
  (112, [66, 86, 83], [114, 101, 108]),
  (113, [65, 68, 67], [105, 110, 121]),
  (117, [65, 68, 67], [122, 112, 120]),
  (118, [82, 79, 82], [122, 112, 120]),
  (120, [83, 69, 73], [105, 109, 112]),
  (121, [65, 68, 67], [97, 98, 121]),
  (125, [65, 68, 67], [97, 98, 120]),
  (126, [82, 79, 82], [97, 98, 120]),
  (129, [83, 84, 65], [105, 110, 120]),
  (132, [83, 84, 89], [122, 112, 103]),
  (133, [83, 84, 65], [122, 112, 103]),
  (134, [83, 84, 88], [122, 112, 103]),
  (136, [68, 69, 89], [105, 109, 112]),
  (138, [84, 88, 65], [105, 109, 112]),
  (140, [83, 84, 89], [97, 98, 115]),
  (141, [83, 84, 65], [97, 98, 115]),
  (142, [83, 84, 88], [97, 98, 115]),
  (144, [66, 67, 67], [114, 101, 108]),
  (145, [83, 84, 65], [105, 110, 121]),
  (148, [83, 84, 89], [122, 112, 120]),
  (149, [83, 84, 65], [122, 112, 120]),
  (150, [83, 84, 88], [122, 112, 121]),
  (152, [84, 89, 65], [105, 109, 112]),
  (153, [83, 84, 65], [97, 98, 121]),
  (154, [84, 88, 83], [105, 109, 112]),
  (157, [83, 84, 65], [97, 98, 120]),
  (160, [76, 68, 89], [105, 109, 109]),
  (161, [76, 68, 65], [105, 110, 120]),
  (162, [76, 68, 88], [105, 109, 109]),
  (164, [76, 68, 89], [122, 112, 103]),
  (165, [76, 68, 65], [122, 112, 103]),
  (166, [76, 68, 88], [122, 112, 103]),
  (168, [84, 65, 89], [105, 109, 112]),
  (169, [76, 68, 65], [105, 109, 109]),
  (170, [84, 65, 88], [105, 109, 112]),
  (172, [76, 68, 89], [97, 98, 115]),
  (173, [76, 68, 65], [97, 98, 115]),
  (174, [76, 68, 88], [97, 98, 115]),
  (176, [66, 67, 83], [114, 101, 108]),
  (177, [76, 68, 65], [105, 110, 121]),
  (180, [76, 68, 89], [122, 112, 120]),
  (181, [76, 68, 65], [122, 112, 120]),
  (182, [76, 68, 88], [122, 112, 121]),
  (184, [67, 76, 86], [105, 109, 112]),
  (185, [76, 68, 65], [97, 98, 121]),
  (186, [84, 83, 88], [105, 109, 112]),
  (188, [76, 68, 89], [97, 98, 120]),
  (189, [76, 68, 65], [97, 98, 120]),
  (190, [76, 68, 88], [97, 98, 121]),
  (192, [67, 80, 89], [105, 109, 109]),
  (193, [67, 77, 80], [105, 110, 120]),
  (196, [67, 80, 89], [122, 112, 103]),
  (197, [67, 77, 80], [122, 112, 103]),
  (198, [68, 69, 67], [122, 112, 103]),
  (200, [73, 78, 89], [105, 109, 112]),
  (201, [67, 77, 80], [105, 109, 109]),
  (202, [68, 69, 88], [105, 109, 112]),
  (204, [67, 80, 89], [97, 98, 115]),
  (205, [67, 77, 80], [97, 98, 115]),
  (206, [68, 69, 67], [97, 98, 115]),
  (208, [66, 78, 69], [114, 101, 108]),
  (209, [67, 77, 80], [105, 110, 121]),
  (213, [67, 77, 80], [122, 112, 120]),
  (214, [68, 69, 67], [122, 112, 120]),
  (216, [67, 76, 68], [105, 109, 112]),
  (217, [67, 77, 80], [97, 98, 121]),
  (221, [67, 77, 80], [97, 98, 120]),
  (222, [68, 69, 67], [97, 98, 120]),
  (224, [67, 80, 88], [105, 109, 109]),
  (225, [83, 66, 67], [105, 110, 120]),
  (228, [67, 80, 88], [122, 112, 103]),
  (229, [83, 66, 67], [122, 112, 103]),
  (230, [73, 78, 67], [122, 112, 103]),
  (232, [73, 78, 88], [105, 109, 112]),
  (233, [83, 66, 67], [105, 109, 109]),
  (234, [78, 79, 80], [105, 109, 112]),
  (236, [67, 80, 88], [97, 98, 115]),
  (237, [83, 66, 67], [97, 98, 115]),
  (238, [73, 78, 67], [97, 98, 115]),
  (240, [66, 69, 81], [114, 101, 108]),
  (241, [83, 66, 67], [105, 110, 121]),
  (245, [83, 66, 67], [122, 112, 120]),
  (246, [73, 78, 67], [122, 112, 120]),
  (248, [83, 69, 68], [105, 109, 112]),
  (249, [83, 66, 67], [97, 98, 121]),
  (253, [83, 66, 67], [97, 98, 120]),
  (254, [73, 78, 67], [97, 98, 120])]
def rowTxt (r : Nat × List UInt8 × List UInt8) : List UInt8 := hexl (r.1 : Int) 2 ++ 32 :: (r.2.1 ++ 32 :: (r.2.2 ++ [32]))
def tabL : List UInt8 := opRows.flatMap rowTxt
def tabS : ByteArray := ⟨tabL.toArray⟩
set_option maxRecDepth 100000 in
theorem rows_length : opRows.length = 151 := rfl
theorem rows_ok : ∀ r ∈ opRows, r.1 < 256 ∧ r.2.1.length = 3 ∧ r.2.2.length = 3 := by
  have h : opRows.all (fun r => decide (r.1 < 256 ∧ r.2.1.length = 3 ∧ r.2.2.length = 3)) = true := by decide
  intro r hr
  simpa using List.all_eq_true.1 h r hr
theorem rowTxt_length (r) (hr : r ∈ opRows) : (rowTxt r).length = 11 := by
  obtain ⟨_, h1, h2⟩ := rows_ok r hr
  simp [rowTxt, hexl_length, h1, h2]
theorem flat_drop {α β} (f : α → List β) (n : Nat) : ∀ (l : List α) (k : Nat), (∀ r ∈ l, (f r).length = n) → (l.flatMap f).drop (n * k) = (l.drop k).flatMap f
  | [], k, _ => by simp
  | r :: l, 0, _ => by simp
  | r :: l, k + 1, h => by
    have h1 := h r (by simp)
    have ih := flat_drop f n l k fun x hx => h x (by simp [hx])
    rw [List.flatMap_cons, List.drop_append, h1, List.drop_succ_cons, show n * (k + 1) - n = n * k by rw [Nat.mul_succ]; omega, ih, List.drop_eq_nil_of_le (by rw [h1, Nat.mul_succ]; omega)]
    rfl
theorem flat_length {α β} (f : α → List β) (n : Nat) : ∀ (l : List α), (∀ r ∈ l, (f r).length = n) → (l.flatMap f).length = n * l.length
  | [], _ => by simp
  | r :: l, h => by
    have ih := flat_length f n l fun x hx => h x (by simp [hx])
    rw [List.flatMap_cons, List.length_append, h r (by simp), ih, List.length_cons, Nat.mul_succ]; omega
theorem tabL_length : tabL.length = 1661 := by
  unfold tabL
  rw [flat_length rowTxt 11 opRows rowTxt_length, rows_length]
theorem tabS_size : tabS.size = 1661 := by
  show tabL.toArray.size = 1661
  simp [tabL_length]
theorem tabL_at (k : Nat) (h : k < opRows.length) : ∃ rest, tabL.drop (11 * k) = rowTxt opRows[k] ++ rest := by
  unfold tabL
  rw [flat_drop rowTxt 11 opRows k rowTxt_length, List.drop_eq_getElem_cons h, List.flatMap_cons]
  exact ⟨_, rfl⟩
theorem ext_of (i n : Nat) (l : List UInt8) (h : (tabL.drop i).take n = l) : tabS.extract i (i + n) = ⟨l.toArray⟩ := by
  have e : (tabS.extract i (i + n)).data.toList = l := by
    rw [Lib.extract_data]
    show (tabL.toArray.toList.drop i).take (i + n - i) = l
    rw [List.toList_toArray, Nat.add_sub_cancel_left, h]
  apply ByteArray.ext
  rw [← Array.toList_inj, e]
theorem cut3 (b c : List UInt8) (h1 : b.length = 3) (h2 : c.length = 3) (d : List UInt8) (hd : d.length = 2) (rest : List UInt8) :
    let t := (d ++ 32 :: (b ++ 32 :: (c ++ [32]))) ++ rest
    t.take 2 = d ∧ (t.drop 3).take 3 = b ∧ (t.drop 7).take 3 = c := by
  match d, hd with
  | [d0, d1], _ =>
    match b, h1 with
    | [b0, b1, b2], _ =>
      match c, h2 with
      | [c0, c1, c2], _ => exact ⟨rfl, rfl, rfl⟩
theorem tab_row (k : Nat) (h : k < opRows.length) :
    tabS.extract (11 * k) (11 * k + 2) = ⟨(hexl (opRows[k].1 : Int) 2).toArray⟩ ∧ tabS.extract (11 * k + 3) (11 * k + 6) = ⟨opRows[k].2.1.toArray⟩ ∧ tabS.extract (11 * k + 7) (11 * k + 10) = ⟨opRows[k].2.2.toArray⟩ := by
  obtain ⟨rest, hr⟩ := tabL_at k h
  obtain ⟨_, h1, h2⟩ := rows_ok opRows[k] (List.getElem_mem h)
  obtain ⟨c1, c2, c3⟩ := cut3 _ _ h1 h2 (hexl (opRows[k].1 : Int) 2) (hexl_length _ _) rest
  have hr' : tabL.drop (11 * k) = (hexl (opRows[k].1 : Int) 2 ++ 32 :: (opRows[k].2.1 ++ 32 :: (opRows[k].2.2 ++ [32]))) ++ rest := hr
  refine ⟨ext_of _ 2 _ ?_, ext_of (11 * k + 3) 3 _ ?_, ext_of (11 * k + 7) 3 _ ?_⟩
  · rw [hr', c1]
  · rw [← List.drop_drop, hr', c2]
  · rw [← List.drop_drop, hr', c3]
def nmR (r : Nat × List UInt8 × List UInt8) : ByteArray := ⟨r.2.1.toArray⟩
def mdR (r : Nat × List UInt8 × List UInt8) : ByteArray := ⟨r.2.2.toArray⟩
def jamN : ByteArray := ⟨#[74, 65, 77]⟩
def impM : ByteArray := ⟨#[105, 109, 112]⟩
/-- The name and the mode of a number's lowest eight bits. -/
def opOf (n : Int) : ByteArray × ByteArray := match opRows.find? fun r => (r.1 : Int) == n % 256 with
  | some r => (nmR r, mdR r)
  | none => (jamN, impM)
/-- The byte of a name and a mode; -1 where there is none. -/
def codeOf (a b : ByteArray) : Int := match opRows.find? fun r => decide (nmR r = a ∧ mdR r = b) with
  | some r => r.1
  | none => -1
theorem hexl2_eq (n : Int) (c : Nat) (hc : c < 256) : ((⟨(hexl (c : Int) 2).toArray⟩ : ByteArray) = ⟨(hexl n 2).toArray⟩) ↔ (c : Int) = n % 256 := by
  have h1 := hexNum_hexl 2 n
  have h2 := hexNum_hexl 2 (c : Int)
  constructor
  · intro h
    have h3 : hexl (c : Int) 2 = hexl n 2 := by
      have := congrArg (fun b : ByteArray => b.data.toList) h
      simpa using this
    rw [h3, h1] at h2
    have e : (16 : Int) ^ 2 = 256 := by decide
    rw [e] at h2
    omega
  · intro h
    have hm : ∀ a b : Int, a % 256 = b % 256 → hexl a 2 = hexl b 2 := by
      intro a b hab
      have e0 : hexAt a 0 = hexAt b 0 := by unfold hexAt; congr 2; simp; omega
      have e1 : hexAt a 1 = hexAt b 1 := by unfold hexAt; congr 2; simp; omega
      show [hexAt a 1, hexAt a 0] = [hexAt b 1, hexAt b 0]
      rw [e0, e1]
    rw [hm c n (by omega)]
theorem opOf_hit (n : Int) (k : Nat) (h : k < opRows.length) (hk : (opRows[k].1 : Int) = n % 256) (hp : ∀ j (hj : j < k), (opRows[j].1 : Int) ≠ n % 256) : opOf n = (nmR opRows[k], mdR opRows[k]) := by
  have e : (opRows.find? fun r => (r.1 : Int) == n % 256) = some opRows[k] := by
    rw [List.find?_eq_some_iff_getElem]
    exact ⟨by simpa using hk, k, h, rfl, fun j hj => by simpa using hp j hj⟩
  unfold opOf
  rw [e]
theorem opOf_miss (n : Int) (hp : ∀ j (hj : j < opRows.length), (opRows[j].1 : Int) ≠ n % 256) : opOf n = (jamN, impM) := by
  have e : (opRows.find? fun r => (r.1 : Int) == n % 256) = none := by
    rw [List.find?_eq_none]
    intro r hr
    obtain ⟨j, hj, rfl⟩ := List.mem_iff_getElem.1 hr
    simpa using hp j hj
  unfold opOf
  rw [e]
theorem codeOf_hit (a b : ByteArray) (k : Nat) (h : k < opRows.length) (h1 : nmR opRows[k] = a) (h2 : mdR opRows[k] = b) (hp : ∀ j (hj : j < k), ¬ (nmR opRows[j] = a ∧ mdR opRows[j] = b)) : codeOf a b = opRows[k].1 := by
  have e : (opRows.find? fun r => decide (nmR r = a ∧ mdR r = b)) = some opRows[k] := by
    rw [List.find?_eq_some_iff_getElem]
    exact ⟨by simp [h1, h2], k, h, rfl, fun j hj => by rw [decide_eq_false (hp j hj)]; rfl⟩
  unfold codeOf
  rw [e]
theorem codeOf_miss (a b : ByteArray) (hp : ∀ j (hj : j < opRows.length), ¬ (nmR opRows[j] = a ∧ mdR opRows[j] = b)) : codeOf a b = -1 := by
  have e : (opRows.find? fun r => decide (nmR r = a ∧ mdR r = b)) = none := by
    rw [List.find?_eq_none]
    intro r hr
    obtain ⟨j, hj, rfl⟩ := List.mem_iff_getElem.1 hr
    simpa using hp j hj
  unfold codeOf
  rw [e]
theorem opOf_mod (n : Int) : opOf n = opOf (n % 256) := by
  unfold opOf
  rw [show n % 256 % 256 = n % 256 by omega]
theorem op_all : ∀ m : Fin 256, ((opOf (m.val : Int)).1 = jamN ∧ (opOf (m.val : Int)).2 = impM ∧ codeOf (opOf (m.val : Int)).1 (opOf (m.val : Int)).2 = -1) ∨ ((opOf (m.val : Int)).1 ≠ jamN ∧ codeOf (opOf (m.val : Int)).1 (opOf (m.val : Int)).2 = (m.val : Int)) := by decide +kernel
theorem op_back (n : Int) : ((opOf n).1 = jamN ∧ (opOf n).2 = impM ∧ codeOf (opOf n).1 (opOf n).2 = -1) ∨ ((opOf n).1 ≠ jamN ∧ codeOf (opOf n).1 (opOf n).2 = n % 256) := by
  have h := op_all ⟨(n % 256).toNat, by omega⟩
  have e : (((n % 256).toNat : Nat) : Int) = n % 256 := by omega
  simp only [e] at h
  rw [opOf_mod n]
  exact h
theorem rows_back : ∀ r ∈ opRows, opOf (r.1 : Int) = (nmR r, mdR r) := by
  have h : opRows.all (fun r => decide (opOf (r.1 : Int) = (nmR r, mdR r))) = true := by decide +kernel
  intro r hr
  simpa using List.all_eq_true.1 h r hr
theorem code_bd (a b : ByteArray) : -1 ≤ codeOf a b ∧ codeOf a b < 256 := by
  unfold codeOf
  split
  · rename_i r h
    have := rows_ok r (List.mem_of_find?_eq_some h)
    omega
  · omega
theorem code_there (a b : ByteArray) (h : 0 ≤ codeOf a b) : opOf (codeOf a b) = (a, b) := by
  unfold codeOf at h ⊢
  split at h
  · rename_i r hr
    have h1 := List.find?_some hr
    have h2 := rows_back r (List.mem_of_find?_eq_some hr)
    have h3 := of_decide_eq_true h1
    rw [h2, h3.1, h3.2]
  · omega
end Go.Proofs.YtboeaeoefoabdaaGreatDoor
