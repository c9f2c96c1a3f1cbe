/-
  Texts put together by program: TbA, Two, HxS, RhS, WsA, TbB.
  Conditions: as each theorem says.
-/
import Derived.KernelRfl
import Derived.Lib.Strings
import Derived.Test.YthklebkpoccblaaGreatRqab
namespace Go.Proofs.YthklebkpoccblaaGreat
def opRows : List (Nat × List UInt8 × List UInt8) := [
 (0, [66, 82, 75], [105, 109, 112]),
 (1, [79, 82, 65], [105, 110, 120]),
 (5, [79, 82, 65], [122, 112, 103]),
 (6, [65, 83, 76], [122, 112, 103]),
 (8, [80, 72, 80], [105, 109, 112]),
 (9, [79, 82, 65], [105, 109, 109]),
 (10, [65, 83, 76], [97, 99, 99]),
 (13, [79, 82, 65], [97, 98, 115]),
 (14, [65, 83, 76], [97, 98, 115]),
 (16, [66, 80, 76], [114, 101, 108]),
 (17, [79, 82, 65], [105, 110, 121]),
 (21, [79, 82, 65], [122, 112, 120]),
 (22, [65, 83, 76], [122, 112, 120]),
 (24, [67, 76, 67], [105, 109, 112]),
 (25, [79, 82, 65], [97, 98, 121]),
 (29, [79, 82, 65], [97, 98, 120]),
 (30, [65, 83, 76], [97, 98, 120]),
 (32, [74, 83, 82], [97, 98, 115]),
 (33, [65, 78, 68], [105, 110, 120]),
 (36, [66, 73, 84], [122, 112, 103]),
 (37, [65, 78, 68], [122, 112, 103]),
 (38, [82, 79, 76], [122, 112, 103]),
 (40, [80, 76, 80], [105, 109, 112]),
 (41, [65, 78, 68], [105, 109, 109]),
 (42, [82, 79, 76], [97, 99, 99]),
 (44, [66, 73, 84], [97, 98, 115]),
 (45, [65, 78, 68], [97, 98, 115]),
 (46, [82, 79, 76], [97, 98, 115]),
 (48, [66, 77, 73], [114, 101, 108]),
 (49, [65, 78, 68], [105, 110, 121]),
 (53, [65, 78, 68], [122, 112, 120]),
 (54, [82, 79, 76], [122, 112, 120]),
 (56, [83, 69, 67], [105, 109, 112]),
 (57, [65, 78, 68], [97, 98, 121]),
 (61, [65, 78, 68], [97, 98, 120]),
 (62, [82, 79, 76], [97, 98, 120]),
 (64, [82, 84, 73], [105, 109, 112]),
 (65, [69, 79, 82], [105, 110, 120]),
 (69, [69, 79, 82], [122, 112, 103]),
 (70, [76, 83, 82], [122, 112, 103]),
 (72, [80, 72, 65], [105, 109, 112]),
 (73, [69, 79, 82], [105, 109, 109]),
 (74, [76, 83, 82], [97, 99, 99]),
 (76, [74, 77, 80], [97, 98, 115]),
 (77, [69, 79, 82], [97, 98, 115]),
 (78, [76, 83, 82], [97, 98, 115]),
 (80, [66, 86, 67], [114, 101, 108]),
 (81, [69, 79, 82], [105, 110, 121]),
 (85, [69, 79, 82], [122, 112, 120]),
 (86, [76, 83, 82], [122, 112, 120]),
 (88, [67, 76, 73], [105, 109, 112]),
 (89, [69, 79, 82], [97, 98, 121]),
 (93, [69, 79, 82], [97, 98, 120]),
 (94, [76, 83, 82], [97, 98, 120]),
 (96, [82, 84, 83], [105, 109, 112]),
 (97, [65, 68, 67], [105, 110, 120]),
 (101, [65, 68, 67], [122, 112, 103]),
 (102, [82, 79, 82], [122, 112, 103]),
 (104, [80, 76, 65], [105, 109, 112]),
 (105, [65, 68, 67], [105, 109, 109]),
 (106, [82, 79, 82], [97, 99, 99]),
 (108, [74, 77, 80], [105, 110, 100]),
 (109, [65, 68, 67], [97, 98, 115]),
 (110, [82, 79, 82], [97, 98, 115]),
 (112, [66, 86, 83], [114, 101, 108]),
 (113, [65, 68, 67], [105, 110, 121]),
 (117, [65, 68, 67], [122, 112, 120]),
 (118, [82, 79, 82], [122, 112, 120]),
 (120, [83, 69, 73], [105, 109, 112]),
 (121, [65, 68, 67], [97, 98, 121]),
 (125, [65, 68, 67], [97, 98, 120]),
 (126, [82, 79, 82], [97, 98, 120]),
 (129, [83, 84, 65], [105, 110, 120]),
 (132, [83, 84, 89], [122, 112, 103]),
 (133, [83, 84, 65], [122, 112, 103]),
 (134, [83, 84, 88], [122, 112, 103]),
 (136, [68, 69, 89], [105, 109, 112]),
 (138, [84, 88, 65], [105, 109, 112]),
 (140, [83, 84, 89], [97, 98, 115]),
 (141, [83, 84, 65], [97, 98, 115]),
 (142, [83, 84, 88], [97, 98, 115]),
 (144, [66, 67, 67], [114, 101, 108]),
 (145, [83, 84, 65], [105, 110, 121]),
 (148, [83, 84, 89], [122, 112, 120]),
 (149, [83, 84, 65], [122, 112, 120]),
 (150, [83, 84, 88], [122, 112, 121]),
 (152, [84, 89, 65], [105, 109, 112]),
 (153, [83, 84, 65], [97, 98, 121]),
 (154, [84, 88, 83], [105, 109, 112]),
 (157, [83, 84, 65], [97, 98, 120]),
 (160, [76, 68, 89], [105, 109, 109]),
 (161, [76, 68, 65], [105, 110, 120]),
 (162, [76, 68, 88], [105, 109, 109]),
 (164, [76, 68, 89], [122, 112, 103]),
 (165, [76, 68, 65], [122, 112, 103]),
 (166, [76, 68, 88], [122, 112, 103]),
 (168, [84, 65, 89], [105, 109, 112]),
 (169, [76, 68, 65], [105, 109, 109]),
 (170, [84, 65, 88], [105, 109, 112]),
 (172, [76, 68, 89], [97, 98, 115]),
 (173, [76, 68, 65], [97, 98, 115]),
 (174, [76, 68, 88], [97, 98, 115]),
 (176, [66, 67, 83], [114, 101, 108]),
 (177, [76, 68, 65], [105, 110, 121]),
 (180, [76, 68, 89], [122, 112, 120]),
 (181, [76, 68, 65], [122, 112, 120]),
 (182, [76, 68, 88], [122, 112, 121]),
 (184, [67, 76, 86], [105, 109, 112]),
 (185, [76, 68, 65], [97, 98, 121]),
 (186, [84, 83, 88], [105, 109, 112]),
 (188, [76, 68, 89], [97, 98, 120]),
 (189, [76, 68, 65], [97, 98, 120]),
 (190, [76, 68, 88], [97, 98, 121]),
 (192, [67, 80, 89], [105, 109, 109]),
 (193, [67, 77, 80], [105, 110, 120]),
 (196, [67, 80, 89], [122, 112, 103]),
 (197, [67, 77, 80], [122, 112, 103]),
 (198, [68, 69, 67], [122, 112, 103]),
 (200, [73, 78, 89], [105, 109, 112]),
 (201, [67, 77, 80], [105, 109, 109]),
 (202, [68, 69, 88], [105, 109, 112]),
 (204, [67, 80, 89], [97, 98, 115]),
 (205, [67, 77, 80], [97, 98, 115]),
 (206, [68, 69, 67], [97, 98, 115]),
 (208, [66, 78, 69], [114, 101, 108]),
 (209, [67, 77, 80], [105, 110, 121]),
 (213, [67, 77, 80], [122, 112, 120]),
 (214, [68, 69, 67], [122, 112, 120]),
 (216, [67, 76, 68], [105, 109, 112]),
 (217, [67, 77, 80], [97, 98, 121]),
 (221, [67, 77, 80], [97, 98, 120]),
 (222, [68, 69, 67], [97, 98, 120]),
 (224, [67, 80, 88], [105, 109, 109]),
 (225, [83, 66, 67], [105, 110, 120]),
 (228, [67, 80, 88], [122, 112, 103]),
 (229, [83, 66, 67], [122, 112, 103]),
 (230, [73, 78, 67], [122, 112, 103]),
 (232, [73, 78, 88], [105, 109, 112]),
 (233, [83, 66, 67], [105, 109, 109]),
 (234, [78, 79, 80], [105, 109, 112]),
 (236, [67, 80, 88], [97, 98, 115]),
 (237, [83, 66, 67], [97, 98, 115]),
 (238, [73, 78, 67], [97, 98, 115]),
 (240, [66, 69, 81], [114, 101, 108]),
 (241, [83, 66, 67], [105, 110, 121]),
 (245, [83, 66, 67], [122, 112, 120]),
 (246, [73, 78, 67], [122, 112, 120]),
 (248, [83, 69, 68], [105, 109, 112]),
 (249, [83, 66, 67], [97, 98, 121]),
 (253, [83, 66, 67], [97, 98, 120]),
 (254, [73, 78, 67], [97, 98, 120])]
def rowTxt (r : Nat × List UInt8 × List UInt8) : List UInt8 := hexl (r.1 : Int) 2 ++ 32 :: (r.2.1 ++ 32 :: (r.2.2 ++ [32]))
def tabL : List UInt8 := opRows.flatMap rowTxt
def tabS : ByteArray := ⟨tabL.toArray⟩
set_option maxRecDepth 100000 in
theorem rows_length : opRows.length = 151 := rfl
theorem rows_ok : ∀ r ∈ opRows, r.1 < 256 ∧ r.2.1.length = 3 ∧ r.2.2.length = 3 := by
 have h : opRows.all (fun r => decide (r.1 < 256 ∧ r.2.1.length = 3 ∧ r.2.2.length = 3)) = true := by decide
 intro r hr
 simpa using List.all_eq_true.1 h r hr
theorem rowTxt_length (r) (hr : r ∈ opRows) : (rowTxt r).length = 11 := by
 obtain ⟨_, h1, h2⟩ := rows_ok r hr
 simp [rowTxt, hexl_length, h1, h2]
theorem flat_drop {α β} (f : α → List β) (n : Nat) : ∀ (l : List α) (k : Nat), (∀ r ∈ l, (f r).length = n) → (l.flatMap f).drop (n * k) = (l.drop k).flatMap f
 | [], k, _ => by simp
 | r :: l, 0, _ => by simp
 | r :: l, k + 1, h => by
  have h1 := h r (by simp)
  have ih := flat_drop f n l k fun x hx => h x (by simp [hx])
  rw [List.flatMap_cons, List.drop_append, h1, List.drop_succ_cons, show n * (k + 1) - n = n * k by rw [Nat.mul_succ]; omega, ih, List.drop_eq_nil_of_le (by rw [h1, Nat.mul_succ]; omega)]
  rfl
theorem flat_length {α β} (f : α → List β) (n : Nat) : ∀ (l : List α), (∀ r ∈ l, (f r).length = n) → (l.flatMap f).length = n * l.length
 | [], _ => by simp
 | r :: l, h => by
  have ih := flat_length f n l fun x hx => h x (by simp [hx])
  rw [List.flatMap_cons, List.length_append, h r (by simp), ih, List.length_cons, Nat.mul_succ]; omega
theorem tabL_length : tabL.length = 1661 := by
 unfold tabL
 rw [flat_length rowTxt 11 opRows rowTxt_length, rows_length]
theorem tabS_size : tabS.size = 1661 := by
 show tabL.toArray.size = 1661
 simp [tabL_length]
theorem tabL_at (k : Nat) (h : k < opRows.length) : ∃ rest, tabL.drop (11 * k) = rowTxt opRows[k] ++ rest := by
 unfold tabL
 rw [flat_drop rowTxt 11 opRows k rowTxt_length, List.drop_eq_getElem_cons h, List.flatMap_cons]
 exact ⟨_, rfl⟩
theorem ext_of (i n : Nat) (l : List UInt8) (h : (tabL.drop i).take n = l) : tabS.extract i (i + n) = ⟨l.toArray⟩ := by
 have e : (tabS.extract i (i + n)).data.toList = l := by
  rw [Lib.extract_data]
  show (tabL.toArray.toList.drop i).take (i + n - i) = l
  rw [List.toList_toArray, Nat.add_sub_cancel_left, h]
 apply ByteArray.ext
 rw [← Array.toList_inj, e]
theorem cut3 (b c : List UInt8) (h1 : b.length = 3) (h2 : c.length = 3) (d : List UInt8) (hd : d.length = 2) (rest : List UInt8) :
  let t := (d ++ 32 :: (b ++ 32 :: (c ++ [32]))) ++ rest
  t.take 2 = d ∧ (t.drop 3).take 3 = b ∧ (t.drop 7).take 3 = c := by
 match d, hd with
 | [d0, d1], _ =>
  match b, h1 with
  | [b0, b1, b2], _ =>
   match c, h2 with
   | [c0, c1, c2], _ => exact ⟨rfl, rfl, rfl⟩
theorem tab_row (k : Nat) (h : k < opRows.length) :
  tabS.extract (11 * k) (11 * k + 2) = ⟨(hexl (opRows[k].1 : Int) 2).toArray⟩ ∧ tabS.extract (11 * k + 3) (11 * k + 6) = ⟨opRows[k].2.1.toArray⟩ ∧ tabS.extract (11 * k + 7) (11 * k + 10) = ⟨opRows[k].2.2.toArray⟩ := by
 obtain ⟨rest, hr⟩ := tabL_at k h
 obtain ⟨_, h1, h2⟩ := rows_ok opRows[k] (List.getElem_mem h)
 obtain ⟨c1, c2, c3⟩ := cut3 _ _ h1 h2 (hexl (opRows[k].1 : Int) 2) (hexl_length _ _) rest
 have hr' : tabL.drop (11 * k) = (hexl (opRows[k].1 : Int) 2 ++ 32 :: (opRows[k].2.1 ++ 32 :: (opRows[k].2.2 ++ [32]))) ++ rest := hr
 refine ⟨ext_of _ 2 _ ?_, ext_of (11 * k + 3) 3 _ ?_, ext_of (11 * k + 7) 3 _ ?_⟩
 ·rw [hr', c1]
 ·rw [← List.drop_drop, hr', c2]
 ·rw [← List.drop_drop, hr', c3]
def nmR (r : Nat × List UInt8 × List UInt8) : ByteArray := ⟨r.2.1.toArray⟩
def mdR (r : Nat × List UInt8 × List UInt8) : ByteArray := ⟨r.2.2.toArray⟩
def jamN : ByteArray := ⟨#[74, 65, 77]⟩
def impM : ByteArray := ⟨#[105, 109, 112]⟩
def opOf (n : Int) : ByteArray × ByteArray := match opRows.find? fun r => (r.1 : Int) == n % 256 with
 | some r => (nmR r, mdR r)
 | none => (jamN, impM)
def codeOf (a b : ByteArray) : Int := match opRows.find? fun r => decide (nmR r = a ∧ mdR r = b) with
 | some r => r.1
 | none => -1
theorem hexl2_eq (n : Int) (c : Nat) (hc : c < 256) : ((⟨(hexl (c : Int) 2).toArray⟩ : ByteArray) = ⟨(hexl n 2).toArray⟩) ↔ (c : Int) = n % 256 := by
 have h1 := hexNum_hexl 2 n
 have h2 := hexNum_hexl 2 (c : Int)
 constructor
 ·intro h
  have h3 : hexl (c : Int) 2 = hexl n 2 := by
   have := congrArg (fun b : ByteArray => b.data.toList) h
   simpa using this
  rw [h3, h1] at h2
  have e : (16 : Int) ^ 2 = 256 := by decide
  rw [e] at h2
  omega
 ·intro h
  have hm : ∀ a b : Int, a % 256 = b % 256 → hexl a 2 = hexl b 2 := by
   intro a b hab
   have e0 : hexAt a 0 = hexAt b 0 := by unfold hexAt; congr 2; simp; omega
   have e1 : hexAt a 1 = hexAt b 1 := by unfold hexAt; congr 2; simp; omega
   show [hexAt a 1, hexAt a 0] = [hexAt b 1, hexAt b 0]
   rw [e0, e1]
  rw [hm c n (by omega)]
theorem opOf_hit (n : Int) (k : Nat) (h : k < opRows.length) (hk : (opRows[k].1 : Int) = n % 256) (hp : ∀ j (hj : j < k), (opRows[j].1 : Int) ≠ n % 256) : opOf n = (nmR opRows[k], mdR opRows[k]) := by
 have e : (opRows.find? fun r => (r.1 : Int) == n % 256) = some opRows[k] := by
  rw [List.find?_eq_some_iff_getElem]
  exact ⟨by simpa using hk, k, h, rfl, fun j hj => by simpa using hp j hj⟩
 unfold opOf
 rw [e]
theorem opOf_miss (n : Int) (hp : ∀ j (hj : j < opRows.length), (opRows[j].1 : Int) ≠ n % 256) : opOf n = (jamN, impM) := by
 have e : (opRows.find? fun r => (r.1 : Int) == n % 256) = none := by
  rw [List.find?_eq_none]
  intro r hr
  obtain ⟨j, hj, rfl⟩ := List.mem_iff_getElem.1 hr
  simpa using hp j hj
 unfold opOf
 rw [e]
theorem codeOf_hit (a b : ByteArray) (k : Nat) (h : k < opRows.length) (h1 : nmR opRows[k] = a) (h2 : mdR opRows[k] = b) (hp : ∀ j (hj : j < k), ¬ (nmR opRows[j] = a ∧ mdR opRows[j] = b)) : codeOf a b = opRows[k].1 := by
 have e : (opRows.find? fun r => decide (nmR r = a ∧ mdR r = b)) = some opRows[k] := by
  rw [List.find?_eq_some_iff_getElem]
  exact ⟨by simp [h1, h2], k, h, rfl, fun j hj => by rw [decide_eq_false (hp j hj)]; rfl⟩
 unfold codeOf
 rw [e]
theorem codeOf_miss (a b : ByteArray) (hp : ∀ j (hj : j < opRows.length), ¬ (nmR opRows[j] = a ∧ mdR opRows[j] = b)) : codeOf a b = -1 := by
 have e : (opRows.find? fun r => decide (nmR r = a ∧ mdR r = b)) = none := by
  rw [List.find?_eq_none]
  intro r hr
  obtain ⟨j, hj, rfl⟩ := List.mem_iff_getElem.1 hr
  simpa using hp j hj
 unfold codeOf
 rw [e]
end Go.Proofs.YthklebkpoccblaaGreat
namespace Go.Proofs.YthklebkpoccblaaGreat
open Go.RowKit
theorem two_new {w w' : World} {t : TypeId} (hb : Below (w.alloc (.cells #[.string ⟨#[]⟩, .string ⟨#[]⟩] t)).heap.size (w.alloc (.cells #[.string ⟨#[]⟩, .string ⟨#[]⟩] t)) w') :
  w'.cell? ⟨w.heap.size, 0, none⟩ = some (.string ⟨#[]⟩) ∧ w'.cell? ⟨w.heap.size, 1, none⟩ = some (.string ⟨#[]⟩) ∧ w'.frozen? ⟨w.heap.size, 0, none⟩ = false ∧ w'.frozen? ⟨w.heap.size, 1, none⟩ = false ∧ Below w.heap.size w w' := by
 have hk : (w.alloc (.cells #[.string ⟨#[]⟩, .string ⟨#[]⟩] t)).heap[w.heap.size]? = some (.cells #[.string ⟨#[]⟩, .string ⟨#[]⟩] t) := by
  show (w.heap.push _)[w.heap.size]? = _
  simp
 have hl : w.heap.size < (w.alloc (.cells #[.string ⟨#[]⟩, .string ⟨#[]⟩] t)).heap.size := by simp
 have hk' := (hb.block w.heap.size hl).trans hk
 refine ⟨?_, ?_, ?_, ?_, ((Below.refl _ _).alloc (Nat.le_refl _) _).trans (hb.mono (by omega))⟩
 ·unfold World.cell?; rw [hk']; rfl
 ·unfold World.cell?; rw [hk']; rfl
 ·unfold World.frozen?; rw [hk']; rfl
 ·unfold World.frozen?; rw [hk']; rfl
def TwoAt (W : World) (B : Nat) (a b : ByteArray) : Prop := W.cell? ⟨B, 0, none⟩ = some (.string a) ∧ W.cell? ⟨B, 1, none⟩ = some (.string b)
theorem TwoAt.below {w w' : World} {B : Nat} {a b : ByteArray} (h : TwoAt w B a b) (hB : B < w.heap.size) (hb : Below w.heap.size w w') : TwoAt w' B a b :=
 ⟨(hb.cell (p := ⟨B, 0, none⟩) hB).trans h.1, (hb.cell (p := ⟨B, 1, none⟩) hB).trans h.2⟩
theorem twoAt_new (w : World) (a b : ByteArray) (t : TypeId) : TwoAt (w.alloc (.cells #[.string a, .string b] t)) w.heap.size a b := by
 have hb : ∀ o, (w.alloc o).heap[w.heap.size]? = some o := fun o => by show (w.heap.push o)[w.heap.size]? = _; simp
 constructor <;> (unfold World.cell?; rw [hb]; rfl)
theorem two_keep {w w' : World} {B : Nat} {a b : ByteArray} {t : TypeId} (h : w.heap[B]? = some (.cells #[.string a, .string b] t (0, 0))) (hb : Below w.heap.size w w') :
  w'.cell? ⟨B, 0, none⟩ = some (.string a) ∧ w'.cell? ⟨B, 1, none⟩ = some (.string b) ∧ w'.frozen? ⟨B, 0, none⟩ = false ∧ w'.frozen? ⟨B, 1, none⟩ = false := by
 have h' := blk_below h hb
 exact ⟨cell_of_blk h' rfl, cell_of_blk h' rfl, free_of_blk h', free_of_blk h'⟩
theorem two_put {w : World} {B : Nat} {a b : ByteArray} {t : TypeId} (h : w.heap[B]? = some (.cells #[.string a, .string b] t (0, 0))) (c d : ByteArray) :
  ((w.setCell ⟨B, 0, none⟩ (.string c)).setCell ⟨B, 1, none⟩ (.string d)).heap[B]? = some (.cells #[.string c, .string d] t (0, 0)) := by
 simp [World.setCell, Array.getElem?_modify, h]
theorem put_other {w : World} {B k : Nat} (h : k ≠ B) (c d : Value) : ((w.setCell ⟨B, 0, none⟩ c).setCell ⟨B, 1, none⟩ d).heap[k]? = w.heap[k]? := by
 rw [Below.heap_setCell _ _ _ _ h, Below.heap_setCell _ _ _ _ h]
end Go.Proofs.YthklebkpoccblaaGreat
namespace Go.Proofs.YthklebkpoccblaaGreat
open Go.RowKit Go.Deep Go.WideShapes Go.ChangeShapes
theorem infoU8 : (Tryz.prog.info? 5).map (fun i => (i.zero, i.size, i.bytes)) = some (some (.int .u8 0), 1, 1) := by kernel_rfl
theorem hx_in_yes (x a b : Int) (w : World) (h1 : a ≤ x) (h2 : x ≤ b) :
  Calls Tryz.prog 44 #[.int .i64 x, .int .i64 a, .int .i64 b] w fun e w' => e = .returned (.bool true) ∧ w = w' := by
 go_enter Tryz.func44, Tryz.ntmps44
 go_wp2
 go_ret
 exact ⟨rfl, rfl⟩
theorem hx_in_no (x a b : Int) (w : World) (h : x < a ∨ b < x) :
  Calls Tryz.prog 44 #[.int .i64 x, .int .i64 a, .int .i64 b] w fun e w' => e = .returned (.bool false) ∧ w = w' := by
 by_cases h1 : a ≤ x
 ·have h2 : ¬ x ≤ b := by omega
  clear h
  go_enter Tryz.func44, Tryz.ntmps44
  go_wp2
  go_ret
  exact ⟨rfl, rfl⟩
 ·clear h
  go_enter Tryz.func44, Tryz.ntmps44
  go_wp2
  go_ret
  exact ⟨rfl, rfl⟩
set_option maxRecDepth 100000 in
set_option maxHeartbeats 400000 in
theorem spec_hex (n : Int) (d : Nat) (h1 : 1 ≤ d) (h8 : d ≤ 8) (w : World) :
  Calls Tryz.prog 65 #[.int .i64 n, .int .i64 (d : Int)] w fun e w' => e = .returned (.string ⟨(hexl n d).toArray⟩) ∧ Below w.heap.size w w' := by
 obtain ⟨i0, hi, hz0, hz1, hz2⟩ := info_parts infoU8
 have hbt := i64_and15
 go_enter Tryz.func65, Tryz.ntmps65
 go_wp2_with (go_at_call 44; refine (hx_in_yes _ _ _ _ (by omega) (by omega)).mono ?_; rintro e w' ⟨rfl, rfl⟩)
 go_loopw [5, 6] (fun v5 v6 wr => ∃ k : Nat, k ≤ d ∧ v6 = .int .i64 ((d : Int) - 1 - k) ∧ wr.ownsRow w.heap.size 5 1 v5 k (hexCells n d k) ∧ Below w.heap.size w wr) (fun _ v6 _ => (1 + intOf v6).toNat)
 case atStart =>
  exact ⟨0, by omega, by simp, World.ownsRow_lit _ #[] 0 (Nat.le_refl _) (by decide) rfl, (Below.refl _ _).alloc (Nat.le_refl _) _⟩
 case round =>
  obtain ⟨k, hk, rfl, hown, hb⟩ := hrel
  by_cases hlt : k < d
  ·have hsh := shift4 n d k hlt
   have hx : (ByteArray.mk #[48, 49, 50, 51, 52, 53, 54, 55, 56, 57, 65, 66, 67, 68, 69, 70])[((n / 16 ^ (d - 1 - k)) % 16).toNat]'(by show _ < 16; omega) = hexAt n (d - 1 - k) := hexTab_at _ (by omega) (by show _ < 16; omega)
   go_wp2_with (at_builtin; refine wpList_append_own _ rfl _ _ 22 rfl w.heap.size 5 i0 (.int .u8 0) 1 1 Tryz.underlying22 hi hz0 hz1 hz2 rfl (by decide) _ _ _ rfl (hown.alloc _) ⟨wr.heap.size, 0, none⟩ 1 1 [.int .u8 ((hexAt n (d - 1 - k)).toNat : Int)] rfl rfl ?c1 ?c2 ?c3 ?c4 ?c5 ?_)
   case c1 =>
    intro j u hj
    match j, hj with
    | 0, hj => simp at hj; subst hj; simp [Addr.add]
   case c2 => intro u hu; simp at hu; subst hu; rfl
   case c3 => unfold maxLen; omega
   case c4 => omega
   case c5 => have := hb.size; simp; omega
   intro v' w1 hown' hgrow _
   rw [hexCells_succ n d k hlt] at hown'
   have hb' : Below w.heap.size w w1 := (hb.alloc hb.size _).grown hgrow (by have := hb.size; simp; omega) (fun g hg => (hown.lt g hg).1)
   clear hgrow hb hown hx
   go_wp2
   go_roundw
   case rel => exact ⟨k + 1, by omega, by go_num, hown', hb'⟩
   case measure => simp [intOf]; omega
  ·obtain rfl : k = d := by omega
   obtain ⟨g, cap, rfl⟩ : ∃ g cap, u5 = Value.slice (some ⟨g, 0, none⟩) k cap := by
    rcases hown.2 with ⟨_, h0⟩ | ⟨g, cap, cur, h0, _⟩
    ·omega
    ·exact ⟨g, cap, h0⟩
   rw [hexCells_all] at hown
   have hcv := run_convert_bytes_back (P := Tryz.prog) wr 22 9 5 ⟨g, 0, none⟩ cap (hexl n k) Tryz.underlying22 Tryz.underlying5 Tryz.underlying9 (fun j hj => hown.cells (g := g) rfl j _ (by simp [hj]))
   rw [hexl_length] at hcv
   go_wp2
   go_ret
   exact ⟨rfl, hb⟩
end Go.Proofs.YthklebkpoccblaaGreat
namespace Go.Proofs.YthklebkpoccblaaGreat
open Go.RowKit
theorem dig_yes (c : Int) (h : 48 ≤ c ∧ c ≤ 57) (w : World) : Calls Tryz.prog 154 #[.int .u8 c] w fun e w' => e = .returned (.bool true) ∧ w = w' := by
 obtain ⟨h1, h2⟩ := h
 go_enter Tryz.func154, Tryz.ntmps154
 go_wp2_with (go_in)
 go_ret
 exact ⟨rfl, rfl⟩
theorem dig_no (c : Int) (h0 : 0 ≤ c ∧ c ≤ 255) (h : ¬ (48 ≤ c ∧ c ≤ 57)) (w : World) : Calls Tryz.prog 154 #[.int .u8 c] w fun e w' => e = .returned (.bool false) ∧ w = w' := by
 obtain ⟨h1, h2⟩ := h0
 by_cases h3 : 48 ≤ c
 ·have h4 : ¬ c ≤ 57 := by omega
  go_enter Tryz.func154, Tryz.ntmps154
  go_wp2_with (go_in)
  go_ret
  exact ⟨rfl, rfl⟩
 ·go_enter Tryz.func154, Tryz.ntmps154
  go_wp2_with (go_in)
  go_ret
  exact ⟨rfl, rfl⟩
theorem take_snoc (s : ByteArray) (k : Nat) (h : k < s.size) : s.data.toList.take (k + 1) = s.data.toList.take k ++ [s[k]] := by
 rw [List.take_succ_eq_append_getElem (by simpa using h)]; rfl
theorem mem_byte (s : ByteArray) (k : Nat) (h : k < s.size) : s[k] ∈ s.data.toList := by
 have : s.data.toList[k]? = some s[k] := by simp [h]; rfl
 exact List.mem_of_getElem? this
theorem spec_hxv (c : Int) (h0 : 0 ≤ c ∧ c ≤ 255) (w : World) : Calls Tryz.prog 123 #[.int .u8 c] w fun e w' => e = .returned (.int .i64 (hxv c)) ∧ w = w' := by
 by_cases h1 : 48 ≤ c ∧ c ≤ 57
 ·have hx : hxv c = c - 48 := by unfold hxv; rw [if_pos h1]
  have hc := dig_yes c h1
  rw [hx]
  clear hx
  go_enter Tryz.func123, Tryz.ntmps123
  go_wp2_with (go_at_call 154; refine (hc _).mono ?_; rintro e w' ⟨rfl, rfl⟩)
  go_ret
  exact ⟨rfl, rfl⟩
 ·have hc := dig_no c h0 h1
  by_cases h2 : 65 ≤ c ∧ c ≤ 70
  ·have hx : hxv c = c - 55 := by unfold hxv; rw [if_neg h1, if_pos h2]
   rw [hx]
   have hy := fun w => hx_in_yes c 65 70 w h2.1 h2.2
   clear hx
   go_enter Tryz.func123, Tryz.ntmps123
   go_wp2_with (first
    | (go_at_call 154; refine (hc _).mono ?_; rintro e w' ⟨rfl, rfl⟩)
    | (go_at_call 44; refine (hy _).mono ?_; rintro e w' ⟨rfl, rfl⟩))
   go_ret
   exact ⟨rfl, rfl⟩
  ·have hn := fun w => hx_in_no c 65 70 w (by omega)
   by_cases h3 : 97 ≤ c ∧ c ≤ 102
   ·have hx : hxv c = c - 87 := by unfold hxv; rw [if_neg h1, if_neg h2, if_pos h3]
    rw [hx]
    have hy := fun w => hx_in_yes c 97 102 w h3.1 h3.2
    clear hx
    go_enter Tryz.func123, Tryz.ntmps123
    go_wp2_with (first
     | (go_at_call 154; refine (hc _).mono ?_; rintro e w' ⟨rfl, rfl⟩)
     | (go_at_call 44; (first | (with_reducible refine (hn _).mono ?_) | (with_reducible refine (hy _).mono ?_)); rintro e w' ⟨rfl, rfl⟩))
    go_ret
    exact ⟨rfl, rfl⟩
   ·have hx : hxv c = -1 := by unfold hxv; rw [if_neg h1, if_neg h2, if_neg h3]
    rw [hx]
    have hy := fun w => hx_in_no c 97 102 w (by omega)
    clear hx
    go_enter Tryz.func123, Tryz.ntmps123
    go_wp2_with (first
     | (go_at_call 154; refine (hc _).mono ?_; rintro e w' ⟨rfl, rfl⟩)
     | (go_at_call 44; (first | (with_reducible refine (hn _).mono ?_) | (with_reducible refine (hy _).mono ?_)); rintro e w' ⟨rfl, rfl⟩))
    go_ret
    exact ⟨rfl, rfl⟩
set_option maxRecDepth 100000 in
set_option maxHeartbeats 400000 in
theorem spec_rh (s : ByteArray) (hs : s.size ≤ maxLen) (w : World) :
  Calls Tryz.prog 94 #[.string s] w fun e w' => e = .returned (.int .i64 (rh s.data.toList)) ∧ w = w' := by
 unfold maxLen at hs
 have hlen : s.data.toList.length = s.size := by simp
 have H := Lib.hid hlen
 clear hlen
 go_enter Tryz.func94, Tryz.ntmps94
 go_wp2
 go_loop [3, 4] (fun v3 v4 => ∃ k : Nat, k ≤ s.size ∧ k ≤ 8 ∧ v4 = .int .i64 k ∧ HexOk (s.data.toList.take k) ∧ v3 = .int .i64 (hexNum (s.data.toList.take k))) (fun _ v4 => 8 - (RowKit.intOf v4).toNat)
 case atStart => exact ⟨0, by omega, by omega, rfl, fun c hc => by simp at hc, rfl⟩
 case round =>
  obtain ⟨k, hk, h8, rfl, hd, rfl⟩ := hrel
  have hbd := hexNum_bd _ hd (by simp; omega)
  by_cases hlt : k < s.size ∧ k < 8
  ·obtain ⟨hlt, hlt8⟩ := hlt
   have hb : 0 ≤ (s[k].toNat : Int) ∧ (s[k].toNat : Int) ≤ 255 := by have := s[k].toNat_lt; omega
   have hc := spec_hxv (s[k].toNat : Int) hb
   have hvb := hxv_bd s[k].toNat
   by_cases hv : 0 ≤ hxv s[k].toNat
   ·have hd' : HexOk (s.data.toList.take (k + 1)) := by
     rw [take_snoc s k hlt]
     intro c hc
     simp only [List.mem_append, List.mem_singleton] at hc
     rcases hc with hc | rfl
     ·exact hd c hc
     ·exact hv
    have HV : Hid (hexNum (s.data.toList.take (k + 1)) = 16 * hexNum (s.data.toList.take k) + hxv s[k].toNat) := by rw [take_snoc s k hlt, hexNum_snoc]; trivial
    clear hd
    go_wp2_with (go_at_call 123; refine (hc _).mono ?_; rintro e w' ⟨rfl, rfl⟩)
    go_round
    case rel =>
     refine ⟨k + 1, by omega, by omega, by go_num, hd', ?_⟩
     rw [HV.out]
    case measure => simp [RowKit.intOf]; omega
   ·have hr := rh_bad s.data.toList s[k] (mem_byte s k hlt) (by omega)
    go_wp2_with (go_at_call 123; refine (hc _).mono ?_; rintro e w' ⟨rfl, rfl⟩)
    go_ret
    exact ⟨by rw [hr]; rfl, rfl⟩
  ·by_cases hl : 1 ≤ s.size ∧ s.size ≤ 7
   ·obtain rfl : k = s.size := by omega
    have ht : s.data.toList.take s.size = s.data.toList := List.take_of_length_le (by rw [H.out]; omega)
    rw [ht] at hd hbd
    rw [ht]
    have hr := rh_yes _ hd (by rw [H.out]; omega) (by rw [H.out]; omega)
    have hy := fun w => hx_in_yes (s.size : Int) 1 7 w (by omega) (by omega)
    clear ht hlt
    go_wp2_with (go_at_call 44; refine (hy _).mono ?_; rintro e w' ⟨rfl, rfl⟩)
    go_ret
    exact ⟨by rw [hr]; rfl, rfl⟩
   ·have hr := rh_len s.data.toList (by rw [H.out]; omega)
    have hy := fun w => hx_in_no (s.size : Int) 1 7 w (by omega)
    by_cases hk2 : k < s.size
    ·obtain rfl : k = 8 := by omega
     clear hlt
     go_wp2_with (go_at_call 44; refine (hy _).mono ?_; rintro e w' ⟨rfl, rfl⟩)
     go_ret
     exact ⟨by rw [hr]; rfl, rfl⟩
    ·clear hlt
     go_wp2_with (go_at_call 44; refine (hy _).mono ?_; rintro e w' ⟨rfl, rfl⟩)
     go_ret
     exact ⟨by rw [hr]; rfl, rfl⟩
end Go.Proofs.YthklebkpoccblaaGreat
namespace Go.Proofs.YthklebkpoccblaaGreat
def bl (b : UInt8) : Bool := ([32, 9] : List UInt8).contains b
def trimL (l : List UInt8) : List UInt8 := l.dropWhile bl
def wordL (l : List UInt8) : List UInt8 := (trimL l).takeWhile fun b => !bl b
def restL (l : List UInt8) : List UInt8 := (trimL l).dropWhile fun b => !bl b
def behind (l : List UInt8) : Nat → List UInt8
 | 0 => l
 | k + 1 => restL (behind l k)
def wordB (l : List UInt8) (k : Nat) : ByteArray := ⟨(wordL (behind l k)).toArray⟩
def told (l : List UInt8) (k : Nat) : List ByteArray := (List.range k).map (wordB l)
theorem told_succ (l : List UInt8) (k : Nat) : told l (k + 1) = told l k ++ [wordB l k] := by simp [told, List.range_succ]
def Good (pre : List ByteArray) : Prop := ∀ x ∈ pre, x.size ≠ 0
theorem bsize (l : List UInt8) : (⟨l.toArray⟩ : ByteArray).size = l.length := by show l.toArray.size = _; simp
theorem behind_succ (L : List UInt8) (k : Nat) : behind L (k + 1) = restL (behind L k) := rfl
theorem told_one {L : List UInt8} {k m : Nat} (h1 : Good (told L k)) (h2 : (wordB L k).size = 0) (k1 : Good (told L m)) (k2 : (wordB L m).size = 0) : k = m := by
 have mem : ∀ {a b : Nat}, a < b → wordB L a ∈ told L b := fun {a b} h => List.mem_map.2 ⟨a, List.mem_range.2 h, rfl⟩
 rcases Nat.lt_trichotomy k m with h | h | h
 ·exact absurd h2 (k1 _ (mem h))
 ·exact h
 ·exact absurd k2 (h1 _ (mem h))
theorem word_blank (l : List UInt8) : wordL (32 :: l) = wordL l ∧ restL (32 :: l) = restL l := by
 unfold wordL restL trimL
 rw [List.dropWhile_cons_of_pos (by decide)]
 exact ⟨rfl, rfl⟩
theorem take_nb (w r : List UInt8) (h : ∀ c ∈ w, bl c = false) (hr : r = [] ∨ ∃ r', r = 32 :: r') : (w ++ r).takeWhile (fun b => !bl b) = w ∧ (w ++ r).dropWhile (fun b => !bl b) = r := by
 induction w with
 | nil =>
  rcases hr with rfl | ⟨r', rfl⟩
  ·exact ⟨rfl, rfl⟩
  ·exact ⟨rfl, rfl⟩
 | cons c w ih =>
  have hc := h c (by simp)
  obtain ⟨h1, h2⟩ := ih fun d hd => h d (by simp [hd])
  rw [List.cons_append, List.takeWhile_cons_of_pos (by rw [hc]; rfl), List.dropWhile_cons_of_pos (by rw [hc]; rfl), h1, h2]
  exact ⟨rfl, rfl⟩
theorem wordL_of (w r : List UInt8) (hne : w ≠ []) (h : ∀ c ∈ w, bl c = false) (hr : r = [] ∨ ∃ r', r = 32 :: r') : wordL (w ++ r) = w ∧ restL (w ++ r) = r := by
 have ht : trimL (w ++ r) = w ++ r := by
  cases w with
  | nil => exact absurd rfl hne
  | cons c w =>
   unfold trimL
   rw [List.cons_append, List.dropWhile_cons_of_neg (by rw [h c (by simp)]; decide)]
 unfold wordL restL
 rw [ht]
 exact take_nb w r h hr
def joinB : List (List UInt8) → List UInt8
 | [] => []
 | [w] => w
 | w :: v :: ws => w ++ 32 :: joinB (v :: ws)
theorem told_join : ∀ (ws : List (List UInt8)), (∀ w ∈ ws, w ≠ [] ∧ ∀ c ∈ w, bl c = false) → ∀ (L : List UInt8) (k : Nat), (behind L k = joinB ws ∨ behind L k = 32 :: joinB ws) →
  told L (k + ws.length) = told L k ++ ws.map (fun w => ⟨w.toArray⟩) ∧ (wordB L (k + ws.length)).size = 0
 | [], _, L, k, hb => by
  refine ⟨by simp, ?_⟩
  have h : wordL (behind L k) = [] := by
   rcases hb with h | h
   ·rw [h]; rfl
   ·rw [h, (word_blank _).1]; rfl
  unfold wordB
  rw [show k + ([] : List (List UInt8)).length = k from rfl, bsize, h]; rfl
 | w :: ws, hw, L, k, hb => by
  obtain ⟨hne, hnb⟩ := hw w (by simp)
  obtain ⟨r, hr, hj, hk⟩ : ∃ r, (r = [] ∨ ∃ r', r = 32 :: r') ∧ joinB (w :: ws) = w ++ r ∧ (r = joinB ws ∨ r = 32 :: joinB ws) := by
   cases ws with
   | nil => exact ⟨[], .inl rfl, by simp [joinB], .inl rfl⟩
   | cons v ws => exact ⟨32 :: joinB (v :: ws), .inr ⟨_, rfl⟩, rfl, .inr rfl⟩
  have hword : wordL (behind L k) = w ∧ restL (behind L k) = r := by
   have h0 := wordL_of w r hne hnb hr
   rcases hb with h | h
   ·rw [h, hj]; exact h0
   ·rw [h, (word_blank _).1, (word_blank _).2, hj]; exact h0
  have ih := told_join ws (fun x hx => hw x (by simp [hx])) L (k + 1) (by rw [behind_succ, hword.2]; exact hk)
  have e : k + (w :: ws).length = k + 1 + ws.length := by simp; omega
  rw [e]
  refine ⟨?_, ih.2⟩
  rw [ih.1, told_succ]
  unfold wordB
  rw [hword.1]
  simp
theorem told_words (ws : List (List UInt8)) (hw : ∀ w ∈ ws, w ≠ [] ∧ ∀ c ∈ w, bl c = false) : told (joinB ws) ws.length = ws.map (fun w => ⟨w.toArray⟩) ∧ (wordB (joinB ws) ws.length).size = 0 := by
 have h := told_join ws hw (joinB ws) 0 (.inl rfl)
 rw [Nat.zero_add] at h
 exact ⟨by rw [h.1]; simp [told], h.2⟩
theorem good_words (ws : List (List UInt8)) (hw : ∀ w ∈ ws, w ≠ [] ∧ ∀ c ∈ w, bl c = false) : Good (told (joinB ws) ws.length) := by
 rw [(told_words ws hw).1]
 intro x hx
 obtain ⟨w, hm, rfl⟩ := List.mem_map.1 hx
 rw [bsize]
 intro h0
 exact (hw w hm).1 (List.length_eq_zero_iff.1 h0)
end Go.Proofs.YthklebkpoccblaaGreat
namespace Go.Proofs.YthklebkpoccblaaGreat
open Go.RowKit
set_option maxRecDepth 100000 in
theorem table_says (w : World) :
  Calls Tryz.prog 64 #[] w fun e w' => e = .returned (.string tabS) ∧ w = w' := by
 go_enter Tryz.func64, Tryz.ntmps64
 go_wp2
 go_ret
 exact ⟨by kernel_rfl, rfl⟩
theorem bytes_eq (a b : ByteArray) : a.toList = b.toList ↔ a = b := by
 constructor
 ·intro h
  rw [ByteArray.toList_eq, ByteArray.toList_eq] at h
  exact ByteArray.ext (Array.toList_inj.mp h)
 ·rintro rfl; rfl
theorem tab_cuts (T : ByteArray) (hs : T.size = 1661) (i : Nat) (hi : i + 11 ≤ 1661) (a b c : ByteArray) (ha : T.extract i (i + 2) = a) (hb : T.extract (i + 3) (i + 6) = b) (hc : T.extract (i + 7) (i + 10) = c) :
  (∀ W, (Instr.slice 9 (.string T) (some (.int .i64 (i : Int))) (some (.int .i64 ((i : Int) + 2))) none).run Tryz.prog W = .ok (.string a) W) ∧
  (∀ W, (Instr.slice 9 (.string T) (some (.int .i64 ((i : Int) + 3))) (some (.int .i64 ((i : Int) + 6))) none).run Tryz.prog W = .ok (.string b) W) ∧
  (∀ W, (Instr.slice 9 (.string T) (some (.int .i64 ((i : Int) + 7))) (some (.int .i64 ((i : Int) + 10))) none).run Tryz.prog W = .ok (.string c) W) := by
 have key : ∀ (x y : Nat) (d : ByteArray) (_ : x ≤ y) (_ : y ≤ 1661) (xi yi : Int) (_ : xi = x) (_ : yi = y) (_ : T.extract x y = d) (W : World),
   (Instr.slice 9 (.string T) (some (.int .i64 xi)) (some (.int .i64 yi)) none).run Tryz.prog W = .ok (.string d) W := by
  rintro x y d h1 h2 _ _ rfl rfl rfl W
  have := run_slice_string (P := Tryz.prog) W 9 T .i64 .i64 (x : Int) (y : Int) Tryz.underlying9 (by omega) (by omega) (by omega)
  rw [Int.toNat_natCast, Int.toNat_natCast] at this
  exact this
 exact ⟨key i (i + 2) a (by omega) (by omega) _ _ rfl (by omega) ha, key (i + 3) (i + 6) b (by omega) (by omega) _ _ (by omega) (by omega) hb, key (i + 7) (i + 10) c (by omega) (by omega) _ _ (by omega) (by omega) hc⟩
set_option maxRecDepth 100000 in
set_option maxHeartbeats 400000 in
theorem spec_opOf (n : Int) (w : World) :
  Calls Tryz.prog 34 #[.int .i64 n] w fun e w' => e = .returned (.agg #[.string (opOf n).1, .string (opOf n).2]) ∧ Below w.heap.size w w' := by
 have hs := tabS_size
 have ht := Lib.hid table_says
 have hh := Lib.hid (spec_hex n 2 (by omega) (by omega))
 have hx := Lib.hid tab_row
 have hl := Lib.hid rows_length
 have hc := Lib.hid (tab_cuts tabS hs)
 generalize tabS = T at *
 obtain ⟨want, hw⟩ : ∃ want : ByteArray, want = ⟨(hexl n 2).toArray⟩ := ⟨_, rfl⟩
 rw [← hw] at hh
 have HW := Lib.hid hw
 clear hw
 go_enter Tryz.func34, Tryz.ntmps34
 go_wp2_with (first
  | (go_at_call 64; refine (ht.out _).mono ?_; rintro e w' ⟨rfl, rfl⟩)
  | (go_at_call 65; refine (hh.out _).mono ?_; rintro e w' ⟨rfl, hb⟩))
 have HB := Lib.hid hb
 clear hb
 go_loopw [5] (fun v5 wr => ∃ i k : Nat, k ≤ 151 ∧ i = 11 * k ∧ v5 = .int .i64 (i : Int) ∧ Hid (∀ j (hj : j < opRows.length), j < k → (opRows[j].1 : Int) ≠ n % 256) ∧ wr = w') (fun v5 _ => 1661 - (intOf v5).toNat)
 case atStart => exact ⟨0, 0, by omega, rfl, rfl, Lib.hid (fun j _ hj => absurd hj (Nat.not_lt_zero _)), rfl⟩
 case round =>
  obtain ⟨i, k, hk, hik, rfl, hp, rfl⟩ := hrel
  by_cases hlt : k < 151
  ·have hkl : k < opRows.length := by rw [hl.out]; exact hlt
   obtain ⟨x1, x2, x3⟩ := hx.out k hkl
   rw [← hik] at x1 x2 x3
   obtain ⟨c1, c2, c3⟩ := hc.out i (by omega) _ _ _ x1 x2 x3
   have HI := Lib.hid hik
   have h0 : (0 : Int) ≤ (i : Int) := by omega
   have h1 : (i : Int) < (1661 : Int) := by omega
   have hr := hexl2_eq n opRows[k].1 (rows_ok _ (List.getElem_mem hkl)).1
   rw [← HW.out] at hr
   have hhit := opOf_hit n k hkl
   have hp2 : ∀ j (hj : j < k), (opRows[j].1 : Int) ≠ n % 256 := fun j hj => hp.out j (by omega) hj
   have hd : nmR opRows[k] = ⟨opRows[k].2.1.toArray⟩ ∧ mdR opRows[k] = ⟨opRows[k].2.2.toArray⟩ := ⟨rfl, rfl⟩
   rw [← hd.1] at c2
   rw [← hd.2] at c3
   generalize (⟨(hexl (opRows[k].1 : Int) 2).toArray⟩ : ByteArray) = R at *
   by_cases he : (opRows[k].1 : Int) = n % 256
   ·have hH := Lib.hid (hhit he hp2)
    obtain rfl := hr.2 he
    clear hr hhit hp2 hd he x1 x2 x3 hik hp
    obtain ⟨k0, k1, f0, f1, hb⟩ := two_new HB.out
    go_wp2
    go_region
    all_goals go_wp2
    all_goals exact bodyPost_ret (v := .agg #[.string (nmR opRows[k]), .string (mdR opRows[k])]) (by simp [results, Tryz.results34, go_sem, k0, k1]) rfl ⟨by rw [hH.out], ((hb.setCell (Nat.le_refl _) _).setCell (Nat.le_refl _) _).drew⟩
   ·have hne : (R.toList == want.toList) = false := by
     rw [beq_eq_false_iff_ne]
     exact fun h => he (hr.1 ((bytes_eq R want).1 h))
    have hp3 := Lib.hid (fun j (hj : j < opRows.length) (hjk : j < k + 1) => (by
     by_cases hj2 : j = k
     ·subst hj2; exact he
     ·exact hp.out j hj (by omega) : (opRows[j].1 : Int) ≠ n % 256))
    clear hr hhit hp2 hd he x1 x2 x3 hik hp
    go_wp2
    go_roundw
    case rel => exact ⟨i + 11, k + 1, by omega, by have := HI.out; omega, by go_num, hp3, trivial⟩
    case measure => simp [intOf]; omega
  ·obtain rfl : k = 151 := by omega
   have hm := Lib.hid (opOf_miss n (fun j hj => hp.out j hj (by have := hl.out; omega)))
   have h1 : ¬ (i : Int) < (1661 : Int) := by omega
   obtain ⟨k0, k1, f0, f1, hb⟩ := two_new HB.out
   clear HB
   go_wp2
   exact bodyPost_ret (v := .agg #[.string jamN, .string impM]) (by simp [results, Tryz.results34, go_sem, k0, k1]; exact ⟨rfl, rfl⟩) rfl ⟨by rw [hm.out], (hb.setCell (Nat.le_refl _) _).setCell (Nat.le_refl _) _⟩
end Go.Proofs.YthklebkpoccblaaGreat
