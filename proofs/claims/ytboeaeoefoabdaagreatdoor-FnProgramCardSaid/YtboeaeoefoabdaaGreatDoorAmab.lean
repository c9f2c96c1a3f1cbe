/-
  Texts put together by program: TbE, TbH, AsA, Bel, AsJ, Two.
  Conditions: as each theorem says.
-/
import Derived.Below
import Derived.BigQuiet
import Derived.Deep.QuietTactic
import Derived.Laws.CopyOwn
import Derived.Lib.BufferWrite
import Derived.Lib.Hide
import Derived.Test.YtboeaeoefoabdaaGreatDoorAmaa
namespace Go.Proofs.YtboeaeoefoabdaaGreatDoor
def inB (x : ByteArray) (ws : List (List UInt8)) : Bool := ws.any fun w => decide ((⟨w.toArray⟩ : ByteArray) = x)
theorem inB_at (x : ByteArray) (ws : List (List UInt8)) : (∀ k (h : k < ws.length), (⟨ws[k].toArray⟩ : ByteArray) = x → inB x ws = true) ∧ ((∀ k (h : k < ws.length), (⟨ws[k].toArray⟩ : ByteArray) ≠ x) → inB x ws = false) := by
 constructor
 ·intro k h e
  exact List.any_eq_true.2 ⟨ws[k], List.getElem_mem h, by simpa using e⟩
 ·intro h
  unfold inB
  rw [List.any_eq_false]
  intro w hw
  obtain ⟨k, hk, rfl⟩ := List.mem_iff_getElem.1 hw
  simpa using h k hk
def ws1 : List (List UInt8) := [[105, 109, 112], [97, 99, 99]]
def ws3 : List (List UInt8) := [[97, 98, 115], [97, 98, 120], [97, 98, 121], [105, 110, 100]]
def ws2 : List (List UInt8) := [[105, 109, 109], [122, 112, 103], [122, 112, 120], [122, 112, 121], [105, 110, 120], [105, 110, 121], [114, 101, 108]]
def modeSz (m : ByteArray) : Int := if inB m ws1 then 1 else if inB m ws3 then 3 else if inB m ws2 then 2 else 0
end Go.Proofs.YtboeaeoefoabdaaGreatDoor
namespace Go.Proofs.YtboeaeoefoabdaaGreatDoor
def noB : ByteArray := ⟨#[]⟩
def rowAt (i : Nat) : ByteArray × ByteArray := match opRows.find? fun r => r.1 == i with
 | some r => (nmR r, mdR r)
 | none => (noB, noB)
def rowCells (i : Nat) : List Value := [.string (rowAt i).1, .string (rowAt i).2]
def tabCells : Array Value := ((List.range 256).flatMap rowCells).toArray
theorem flat_two {α β} (f : α → List β) : ∀ (l : List α), (∀ x ∈ l, (f x).length = 2) → ∀ (i : Nat) (h : i < l.length), (l.flatMap f)[2 * i]? = (f l[i])[0]? ∧ (l.flatMap f)[2 * i + 1]? = (f l[i])[1]?
 | [], _, i, h => absurd h (Nat.not_lt_zero _)
 | x :: l, hl, 0, _ => by
  have h2 := hl x (by simp)
  constructor
  ·show (f x ++ l.flatMap f)[0]? = (f x)[0]?
   rw [List.getElem?_append_left (by omega)]
  ·show (f x ++ l.flatMap f)[1]? = (f x)[1]?
   rw [List.getElem?_append_left (by omega)]
 | x :: l, hl, i + 1, h => by
  have h2 := hl x (by simp)
  have hi : i < l.length := by simpa using h
  have ih := flat_two f l (fun y hy => hl y (by simp [hy])) i hi
  constructor
  ·show (f x ++ l.flatMap f)[2 * (i + 1)]? = (f l[i])[0]?
   rw [List.getElem?_append_right (by omega), h2, ← ih.1]; rfl
  ·show (f x ++ l.flatMap f)[2 * (i + 1) + 1]? = (f l[i])[1]?
   rw [List.getElem?_append_right (by omega), h2, ← ih.2, show 2 * (i + 1) + 1 - 2 = 2 * i + 1 by omega]
theorem tabCells_size : tabCells.size = 512 := by
 unfold tabCells
 rw [List.size_toArray, flat_length rowCells 2 _ (fun _ _ => rfl), List.length_range]
theorem tabCells_at (i : Nat) (h : i < 256) : tabCells[2 * i]? = some (.string (rowAt i).1) ∧ tabCells[2 * i + 1]? = some (.string (rowAt i).2) := by
 have := flat_two rowCells (List.range 256) (fun _ _ => rfl) i (by simpa using h)
 simpa [tabCells, rowCells] using this
theorem tabCells_one : ∀ v ∈ tabCells, v.oneCell' = true := by
 intro v hv
 unfold tabCells at hv
 simp only [List.mem_toArray, List.mem_flatMap, rowCells] at hv
 obtain ⟨i, _, h⟩ := hv
 simp only [List.mem_cons, List.not_mem_nil, or_false] at h
 rcases h with rfl | rfl <;> rfl
theorem rowAt_mod (n : Int) (m : Nat) (hm : (m : Int) = n % 256) : opOf n = if (rowAt m).1 = noB then (jamN, impM) else rowAt m := by
 have e : (fun r : Nat × List UInt8 × List UInt8 => (r.1 : Int) == n % 256) = fun r => r.1 == m := by
  funext r
  rw [← hm]
  exact Bool.eq_iff_iff.2 (by simp; omega)
 unfold opOf rowAt
 rw [e]
 cases hf : opRows.find? fun r => r.1 == m with
 | none => simp
 | some r =>
  have h3 := (rows_ok r (List.mem_of_find?_eq_some hf)).2.1
  have hne : nmR r ≠ noB := by
   intro h
   have := congrArg (fun b : ByteArray => b.data.toList) h
   simp [nmR, noB] at this
   rw [this] at h3
   simp at h3
  simp [hne]
def codesAt (s : ByteArray) (k : Nat) : List Int := ((List.range k).filter fun i => decide ((rowAt i).1 ≠ noB ∧ (rowAt i).1 = s)).map fun i : Nat => (i : Int)
theorem codesAt_step (s : ByteArray) (k : Nat) : codesAt s (k + 1) = codesAt s k ++ (if (rowAt k).1 ≠ noB ∧ (rowAt k).1 = s then [(k : Int)] else []) := by
 unfold codesAt
 rw [List.range_succ, List.filter_append, List.map_append]
 congr 1
 by_cases h : (rowAt k).1 ≠ noB ∧ (rowAt k).1 = s
 ·rw [if_pos h, List.filter_cons_of_pos (by simpa using h)]; rfl
 ·rw [if_neg h, List.filter_cons_of_neg (by simpa using h)]; rfl
theorem codesAt_mem (s : ByteArray) (k : Nat) (z : Int) (h : z ∈ codesAt s k) : ∃ i : Nat, i < k ∧ z = (i : Int) ∧ (rowAt i).1 ≠ noB ∧ (rowAt i).1 = s := by
 unfold codesAt at h
 obtain ⟨i, hi, rfl⟩ := List.mem_map.1 h
 obtain ⟨h1, h2⟩ := List.mem_filter.1 hi
 have h3 := of_decide_eq_true h2
 exact ⟨i, by simpa using h1, rfl, h3.1, h3.2⟩
theorem codesAt_length (s : ByteArray) (k : Nat) : (codesAt s k).length ≤ k := by
 unfold codesAt
 rw [List.length_map]
 exact Nat.le_trans (List.length_filter_le _ _) (by simp)
theorem row_small : ∀ m : Fin 256, (rowAt m.val).1.size ≤ 3 ∧ (rowAt m.val).2.size ≤ 3 := by decide +kernel
theorem op_size3 (n : Int) : (opOf n).1.size ≤ 3 ∧ (opOf n).2.size ≤ 3 := by
 have h := row_small ⟨(n % 256).toNat, by omega⟩
 rw [rowAt_mod n (n % 256).toNat (by omega)]
 split
 ·exact ⟨by decide, by decide⟩
 ·exact h
end Go.Proofs.YtboeaeoefoabdaaGreatDoor
namespace Go.Proofs.YtboeaeoefoabdaaGreatDoor
open Go.RowKit
def operG (m : ByteArray) (a b : List UInt8) : List UInt8 := if m = ⟨#[97, 99, 99]⟩ then [65] else if m = ⟨#[105, 109, 109]⟩ then [35, 36] ++ (a) else if m = ⟨#[122, 112, 103]⟩ then [36] ++ (a) else if m = ⟨#[114, 101, 108]⟩ then [36] ++ (a) else if m = ⟨#[122, 112, 120]⟩ then [36] ++ (a ++ [44, 88]) else if m = ⟨#[122, 112, 121]⟩ then [36] ++ (a ++ [44, 89]) else if m = ⟨#[97, 98, 115]⟩ then [36] ++ ((b ++ a)) else if m = ⟨#[97, 98, 120]⟩ then [36] ++ ((b ++ a) ++ [44, 88]) else if m = ⟨#[97, 98, 121]⟩ then [36] ++ ((b ++ a) ++ [44, 89]) else if m = ⟨#[105, 110, 120]⟩ then [40, 36] ++ (a ++ [44, 88, 41]) else if m = ⟨#[105, 110, 121]⟩ then [40, 36] ++ (a ++ [41, 44, 89]) else if m = ⟨#[105, 110, 100]⟩ then [40, 36] ++ ((b ++ a) ++ [41]) else []
def opG (n : List UInt8) (m : ByteArray) (a b : List UInt8) : List UInt8 := n ++ (if operG m a b = [] then [] else 32 :: operG m a b)
theorem operG_acc (a b : List UInt8) : operG ⟨#[97, 99, 99]⟩ a b = [65] := rfl
theorem opG_acc (n a b : List UInt8) : opG n ⟨#[97, 99, 99]⟩ a b = n ++ (32 :: ([65])) := by
 unfold opG; rw [operG_acc]; exact congrArg _ (if_neg (by simp))
theorem operG_imm (a b : List UInt8) : operG ⟨#[105, 109, 109]⟩ a b = [35, 36] ++ (a) := rfl
theorem opG_imm (n a b : List UInt8) : opG n ⟨#[105, 109, 109]⟩ a b = n ++ (32 :: ([35, 36] ++ (a))) := by
 unfold opG; rw [operG_imm]; exact congrArg _ (if_neg (by simp))
theorem operG_zpg (a b : List UInt8) : operG ⟨#[122, 112, 103]⟩ a b = [36] ++ (a) := rfl
theorem opG_zpg (n a b : List UInt8) : opG n ⟨#[122, 112, 103]⟩ a b = n ++ (32 :: ([36] ++ (a))) := by
 unfold opG; rw [operG_zpg]; exact congrArg _ (if_neg (by simp))
theorem operG_rel (a b : List UInt8) : operG ⟨#[114, 101, 108]⟩ a b = [36] ++ (a) := rfl
theorem opG_rel (n a b : List UInt8) : opG n ⟨#[114, 101, 108]⟩ a b = n ++ (32 :: ([36] ++ (a))) := by
 unfold opG; rw [operG_rel]; exact congrArg _ (if_neg (by simp))
theorem operG_zpx (a b : List UInt8) : operG ⟨#[122, 112, 120]⟩ a b = [36] ++ (a ++ [44, 88]) := rfl
theorem opG_zpx (n a b : List UInt8) : opG n ⟨#[122, 112, 120]⟩ a b = n ++ (32 :: ([36] ++ (a ++ [44, 88]))) := by
 unfold opG; rw [operG_zpx]; exact congrArg _ (if_neg (by simp))
theorem operG_zpy (a b : List UInt8) : operG ⟨#[122, 112, 121]⟩ a b = [36] ++ (a ++ [44, 89]) := rfl
theorem opG_zpy (n a b : List UInt8) : opG n ⟨#[122, 112, 121]⟩ a b = n ++ (32 :: ([36] ++ (a ++ [44, 89]))) := by
 unfold opG; rw [operG_zpy]; exact congrArg _ (if_neg (by simp))
theorem operG_abs (a b : List UInt8) : operG ⟨#[97, 98, 115]⟩ a b = [36] ++ ((b ++ a)) := rfl
theorem opG_abs (n a b : List UInt8) : opG n ⟨#[97, 98, 115]⟩ a b = n ++ (32 :: ([36] ++ ((b ++ a)))) := by
 unfold opG; rw [operG_abs]; exact congrArg _ (if_neg (by simp))
theorem operG_abx (a b : List UInt8) : operG ⟨#[97, 98, 120]⟩ a b = [36] ++ ((b ++ a) ++ [44, 88]) := rfl
theorem opG_abx (n a b : List UInt8) : opG n ⟨#[97, 98, 120]⟩ a b = n ++ (32 :: ([36] ++ ((b ++ a) ++ [44, 88]))) := by
 unfold opG; rw [operG_abx]; exact congrArg _ (if_neg (by simp))
theorem operG_aby (a b : List UInt8) : operG ⟨#[97, 98, 121]⟩ a b = [36] ++ ((b ++ a) ++ [44, 89]) := rfl
theorem opG_aby (n a b : List UInt8) : opG n ⟨#[97, 98, 121]⟩ a b = n ++ (32 :: ([36] ++ ((b ++ a) ++ [44, 89]))) := by
 unfold opG; rw [operG_aby]; exact congrArg _ (if_neg (by simp))
theorem operG_inx (a b : List UInt8) : operG ⟨#[105, 110, 120]⟩ a b = [40, 36] ++ (a ++ [44, 88, 41]) := rfl
theorem opG_inx (n a b : List UInt8) : opG n ⟨#[105, 110, 120]⟩ a b = n ++ (32 :: ([40, 36] ++ (a ++ [44, 88, 41]))) := by
 unfold opG; rw [operG_inx]; exact congrArg _ (if_neg (by simp))
theorem operG_iny (a b : List UInt8) : operG ⟨#[105, 110, 121]⟩ a b = [40, 36] ++ (a ++ [41, 44, 89]) := rfl
theorem opG_iny (n a b : List UInt8) : opG n ⟨#[105, 110, 121]⟩ a b = n ++ (32 :: ([40, 36] ++ (a ++ [41, 44, 89]))) := by
 unfold opG; rw [operG_iny]; exact congrArg _ (if_neg (by simp))
theorem operG_ind (a b : List UInt8) : operG ⟨#[105, 110, 100]⟩ a b = [40, 36] ++ ((b ++ a) ++ [41]) := rfl
theorem opG_ind (n a b : List UInt8) : opG n ⟨#[105, 110, 100]⟩ a b = n ++ (32 :: ([40, 36] ++ ((b ++ a) ++ [41]))) := by
 unfold opG; rw [operG_ind]; exact congrArg _ (if_neg (by simp))
theorem operG_none (m : ByteArray) (a b : List UInt8) (hacc : ¬ m = ⟨#[97, 99, 99]⟩) (himm : ¬ m = ⟨#[105, 109, 109]⟩) (hzpg : ¬ m = ⟨#[122, 112, 103]⟩) (hrel : ¬ m = ⟨#[114, 101, 108]⟩) (hzpx : ¬ m = ⟨#[122, 112, 120]⟩) (hzpy : ¬ m = ⟨#[122, 112, 121]⟩) (habs : ¬ m = ⟨#[97, 98, 115]⟩) (habx : ¬ m = ⟨#[97, 98, 120]⟩) (haby : ¬ m = ⟨#[97, 98, 121]⟩) (hinx : ¬ m = ⟨#[105, 110, 120]⟩) (hiny : ¬ m = ⟨#[105, 110, 121]⟩) (hind : ¬ m = ⟨#[105, 110, 100]⟩) : operG m a b = [] := by
 unfold operG; rw [if_neg hacc, if_neg himm, if_neg hzpg, if_neg hrel, if_neg hzpx, if_neg hzpy, if_neg habs, if_neg habx, if_neg haby, if_neg hinx, if_neg hiny, if_neg hind]
theorem opG_none (n : List UInt8) (m : ByteArray) (a b : List UInt8) (h : operG m a b = []) : opG n m a b = n := by unfold opG; rw [if_pos h, List.append_nil]
theorem ite_len {p : Prop} [Decidable p] {x y : List UInt8} {k : Nat} (hx : x.length ≤ k) (hy : y.length ≤ k) : (if p then x else y).length ≤ k := by split <;> assumption
theorem operG_length (m : ByteArray) (a b : List UInt8) (ha : a.length = 2) (hb : b.length = 2) : (operG m a b).length ≤ 8 := by
 unfold operG
 repeat' refine ite_len ?_ ?_
 all_goals simp only [List.length_append, List.length_cons, List.length_nil]
 all_goals omega
def opT (N : ByteArray) (m : ByteArray) (lo hi : Int) : List UInt8 := opG N.data.toList m (hexl lo 2) (hexl hi 2)
theorem opT_length (N m : ByteArray) (lo hi : Int) (hN : N.size ≤ 3) : (opT N m lo hi).length ≤ 12 := by
 have h := operG_length m (hexl lo 2) (hexl hi 2) (hexl_length _ _) (hexl_length _ _)
 have hN' : N.data.toList.length ≤ 3 := by simpa using hN
 unfold opT opG
 split <;> simp <;> (try simp at hN') <;> omega
end Go.Proofs.YtboeaeoefoabdaaGreatDoor
namespace Go.Proofs.YtboeaeoefoabdaaGreatDoor
open Go.RowKit
theorem below_drewN {B : Nat} {w w' : World} (h : Below B w w') (n : Nat) : Below B w (w'.drewN n) := ⟨h.os, h.tape, h.output, h.size, h.block⟩
theorem below_then {a b c : World} (h : Below a.heap.size a b) (k : Below b.heap.size b c) : Below a.heap.size a c := h.trans (k.mono h.size)
theorem below_alloc {a b : World} (h : Below a.heap.size a b) (o : Obj) : Below a.heap.size a (b.alloc o) := h.alloc h.size o
theorem blk_new (w : World) (o : Obj) : (w.alloc o).heap[w.heap.size]? = some o := by show (w.heap.push o)[w.heap.size]? = _; simp
theorem blk_old {w : World} {o : Obj} {b : Nat} {x : Obj} (h : w.heap[b]? = some x) : (w.alloc o).heap[b]? = some x := by
 have hb : b < w.heap.size := (Array.getElem?_eq_some_iff.1 h).1
 show (w.heap.push o)[b]? = _
 rw [Array.getElem?_push_lt hb, ← h, Array.getElem?_eq_getElem hb]
theorem blk_below {w w' : World} {b : Nat} {x : Obj} (h : w.heap[b]? = some x) (hb : Below w.heap.size w w') : w'.heap[b]? = some x :=
 (hb.block b (Array.getElem?_eq_some_iff.1 h).1).trans h
theorem cell_of_blk {w : World} {b i : Nat} {cs : Array Value} {t : TypeId} {v : Value} (h : w.heap[b]? = some (.cells cs t (0, 0))) (hv : cs[i]? = some v) : w.cell? ⟨b, i, none⟩ = some v := by
 unfold World.cell?; rw [h]; exact hv
theorem free_of_blk {w : World} {b i : Nat} {cs : Array Value} {t : TypeId} (h : w.heap[b]? = some (.cells cs t (0, 0))) : w.frozen? ⟨b, i, none⟩ = false := by
 unfold World.frozen?; rw [h]; simp
theorem addr_add (r k : Nat) : (⟨r, 0, none⟩ : Addr).add k = ⟨r, k, none⟩ := by cases k <;> simp [Addr.add]
theorem alloc_size (w : World) (o : Obj) : (w.alloc o).heap.size = w.heap.size + 1 := by simp
theorem blk_new2 (w : World) (o o2 : Obj) : ((w.alloc o).alloc o2).heap[w.heap.size + 1]? = some o2 := by
 have := blk_new (w.alloc o) o2
 rwa [alloc_size] at this
end Go.Proofs.YtboeaeoefoabdaaGreatDoor
namespace Go.Proofs.YtboeaeoefoabdaaGreatDoor
open Go.RowKit Go.Deep Go.WideShapes Go.ChangeShapes
def flatB (xs : List ByteArray) : List UInt8 := xs.flatMap fun x => x.data.toList
theorem flatB_take (xs : List ByteArray) (k : Nat) (h : k < xs.length) : flatB (xs.take (k + 1)) = flatB (xs.take k) ++ xs[k].data.toList := by
 have e : xs.take (k + 1) = xs.take k ++ [xs[k]] := List.take_succ_eq_append_getElem h
 rw [e]; unfold flatB; rw [List.flatMap_append]; simp
theorem flatB_le (xs : List ByteArray) (k : Nat) : (flatB (xs.take k)).length ≤ (flatB xs).length := by
 conv => rhs; rw [← List.take_append_drop k xs]
 unfold flatB
 rw [List.flatMap_append, List.length_append]; omega
def TextsAt (w : World) (A : Option Addr) (xs : List ByteArray) : Prop := xs = [] ∨ ∃ g, A = some ⟨g, 0, none⟩ ∧ g < w.heap.size ∧ ∀ i (h : i < xs.length), w.cell? ⟨g, i, none⟩ = some (.string xs[i])
def rowJ (l : List UInt8) (n : Nat) : List Value := Lib.byteCells l ++ List.replicate (n - l.length) (.int .u8 0)
theorem rowJ_nil (n : Nat) : rowJ [] n = List.replicate n (.int .u8 0) := by simp [rowJ, Lib.byteCells]
theorem rowJ_splice (l s : List UInt8) (n : Nat) : splice (rowJ l n) l.length (Lib.byteCells s) = rowJ (l ++ s) n := by
 have e1 : (rowJ l n).take l.length = Lib.byteCells l := by
  unfold rowJ
  rw [List.take_append_of_le_length (by simp [Lib.byteCells])]
  exact List.take_of_length_le (by simp [Lib.byteCells])
 have e2 : (rowJ l n).drop (l.length + (Lib.byteCells s).length) = List.replicate (n - (l ++ s).length) (.int .u8 0) := by
  unfold rowJ
  rw [← List.drop_drop, show l.length = (Lib.byteCells l).length by simp [Lib.byteCells], List.drop_left]
  simp [Lib.byteCells]; omega
 unfold splice
 rw [e1, e2]
 unfold rowJ
 simp [Lib.byteCells]
theorem rowJ_all (l : List UInt8) : rowJ l l.length = l.map fun c => Value.int .u8 (c.toNat : Int) := by simp [rowJ, Lib.byteCells]
set_option maxRecDepth 100000 in
set_option maxHeartbeats 4000000 in
theorem impl_joined (xs : List ByteArray) (A : Option Addr) (cap : Nat) (hb : (flatB xs).length ≤ 1048576000) (hn : xs.length ≤ 1048576000) (w : World) (hx : TextsAt w A xs) :
  Calls Tryz.prog 70 #[.slice A xs.length cap] w fun e w' => e = .returned (.string ⟨(flatB xs).toArray⟩) ∧ Below w.heap.size w w' := by
 have HX := Lib.hid hx
 obtain ⟨n, hN⟩ : ∃ n, n = (flatB xs).length := ⟨_, rfl⟩
 have hle := flatB_le xs
 have hlen : ∀ k (h : k < xs.length), (flatB (xs.take (k + 1))).length = (flatB (xs.take k)).length + xs[k].size := fun k h => by rw [flatB_take xs k h]; simp
 rw [← hN] at hb hle
 have HLE := Lib.hid hle
 have HLEN := Lib.hid hlen
 have HB := Lib.hid hb
 have HNN := Lib.hid hN
 clear hx hle hlen hN
 go_enter Tryz.func70, Tryz.ntmps70
 go_wp2
 go_loopw [3, 12] (fun v3 v12 wr => ∃ k : Nat, k ≤ xs.length ∧ v12 = .int .i64 k ∧ v3 = .int .i64 ((flatB (xs.take k)).length : Int) ∧ w = wr) (fun _ v12 _ => xs.length - (intOf v12).toNat)
 case atStart => exact ⟨0, by omega, rfl, rfl, rfl⟩
 case round =>
  obtain ⟨k, hk, rfl, rfl, rfl⟩ := hrel
  by_cases hlt : k < xs.length
  ·rcases HX.out with rfl | ⟨g, rfl, hg, hc⟩
   ·exact absurd hlt (Nat.not_lt_zero _)
   have hc := hc k hlt
   have e := HLEN.out k hlt
   have l1 := HLE.out (k + 1)
   have b1 := HB.out
   have hsz : (xs[k].size : Int) ≤ 1048576000 := by omega
   have hs0 : ((flatB (xs.take k)).length : Int) ≤ 1048576000 := by omega
   have HE := Lib.hid e
   clear e l1 b1
   go_wp2
   go_roundw
   case rel => exact ⟨k + 1, by omega, by go_num, by rw [HE.out]; go_num, trivial⟩
   case measure => simp [intOf]; omega
  ·obtain rfl : k = xs.length := by omega
   have e : (flatB (xs.take xs.length)).length = n := by rw [List.take_length, HNN.out]
   rw [e]
   clear e
   have hmk := run_make_row' (P := Tryz.prog) 22 5 (.int .u8 0) 1 Tryz.underlying22 infoU8 rfl .i64 .i64 n (by omega) (by omega)
   go_wp2
   go_loopw [7, 25] (fun v7 v25 wr => ∃ k : Nat, k ≤ xs.length ∧ v25 = .int .i64 k ∧ v7 = .int .i64 ((flatB (xs.take k)).length : Int) ∧ wr.heap[w.heap.size]? = some (.cells (rowJ (flatB (xs.take k)) n).toArray 5 (0, 0)) ∧ Below w.heap.size w wr) (fun _ v25 _ => xs.length - (intOf v25).toNat)
   case atStart =>
    refine ⟨0, by omega, rfl, rfl, ?_, below_alloc (Below.refl _ _) _⟩
    rw [show flatB (xs.take 0) = [] from rfl, rowJ_nil]
    have e := heap_alloc_new w (Obj.cells (madeCells #[Value.int IntKind.u8 0] n) 5)
    have em : madeCells #[Value.int IntKind.u8 0] n = (List.replicate n (Value.int .u8 0)).toArray := by rw [← toList_madeCells_one]
    exact e.trans (by rw [em])
   case round =>
    obtain ⟨k, hk, rfl, rfl, hrow, hbl⟩ := hrel
    by_cases hlt : k < xs.length
    ·rcases HX.out with rfl | ⟨g, rfl, hg, hc⟩
     ·exact absurd hlt (Nat.not_lt_zero _)
     have hc : wr.cell? ⟨g, k, none⟩ = some (.string xs[k]) := (hbl.cell (p := ⟨g, k, none⟩) hg).trans (hc k hlt)
     have e := HLEN.out k hlt
     have l1 := HLE.out (k + 1)
     have b1 := HB.out
     have l2 := HLE.out k
     obtain ⟨o, ho⟩ : ∃ o, o = (flatB (xs.take k)).length := ⟨_, rfl⟩
     have hcl : (rowJ (flatB (xs.take k)) n).length = n := by simp [rowJ, Lib.byteCells]; omega
     have hsp := rowJ_splice (flatB (xs.take k)) xs[k].data.toList n
     rw [← flatB_take xs k hlt, ← ho] at hsp
     rw [← ho] at e l2
     rw [← ho]
     have hsz : (xs[k].size : Int) ≤ 1048576000 := by omega
     have hs0 : (o : Int) ≤ 1048576000 := by omega
     have hon : (o : Int) ≤ (n : Int) := by omega
     generalize rowJ (flatB (xs.take k)) n = cur at hrow hcl hsp
     replace hsp := Lib.hid hsp
     replace hrow := Lib.hid hrow
     replace hbl := Lib.hid hbl
     have HE := Lib.hid e
     have HL1 := Lib.hid l1
     clear e l1 b1 ho
     generalize hX : xs[k] = x at *
     by_cases hz : x.size = 0
     ·have hrun : ∀ (d : Option Addr) (p q : Nat), (Builtin.copy_ #[22, 9] 3 #[.slice d p q, .string x]).run Tryz.prog wr = .ok (.int .i64 0) wr := fun d p q => Lib.run_copy_empty_string wr 22 9 3 5 d p q x Tryz.underlying22 (by kernel_rfl) hz
      have h0 : x.data.toList = [] := List.eq_nil_of_length_eq_zero (by simpa using hz)
      have hrow2 : Hid (wr.heap[w.heap.size]? = some (.cells (rowJ (flatB (xs.take (k + 1))) n).toArray 5 (0, 0))) := Lib.hid (by
       have e2 := hsp.out
       rw [h0] at e2
       rw [← e2]
       simpa [splice, Lib.byteCells] using hrow.out)
      rw [hz] at HE
      clear hsp h0 hz hrow
      go_wp2
      all_goals go_roundw
      all_goals first
       | exact ⟨k + 1, by omega, by go_num, by rw [HE.out]; go_num, hrow2.out, hbl.out⟩
       | (simp [intOf]; omega)
     ·have hfit : o + x.size ≤ n := by have e1 := HE.out; have e2 := HL1.out; omega
      have hlto : (o : Int) < (n : Int) := by omega
      have hcur := hrow.out
      have hrun : (Builtin.copy_ #[22, 9] 3 #[.slice (some ⟨w.heap.size, o, none⟩) (n - o) (n - o), .string x]).run Tryz.prog wr = .ok (.int .i64 (x.size : Int)) (wr.setRow w.heap.size (cur.toArray.toList.take o ++ Lib.byteCells x.data.toList ++ cur.toArray.toList.drop (o + x.size)).toArray) := Lib.run_copy_row_string wr 22 9 3 5 w.heap.size o (n - o) (n - o) x cur.toArray 5 Tryz.underlying22 (by kernel_rfl) hcur (by omega) (by simp; omega)
      replace hfit := Lib.hid hfit
      obtain ⟨w2, hw2⟩ : ∃ w2, w2 = wr.setRow w.heap.size (cur.toArray.toList.take o ++ Lib.byteCells x.data.toList ++ cur.toArray.toList.drop (o + x.size)).toArray := ⟨_, rfl⟩
      rw [← hw2] at hrun
      have hrow2 : Hid (w2.heap[w.heap.size]? = some (.cells (rowJ (flatB (xs.take (k + 1))) n).toArray 5 (0, 0))) := Lib.hid (by
       have e := setRow_heap wr w.heap.size cur.toArray (splice cur o (Lib.byteCells x.data.toList)).toArray 5 (0, 0) hcur
       rw [← hsp.out, hw2, ← e]
       simp [splice, Lib.byteCells])
      have hb2 : Hid (Below w.heap.size w w2) := Lib.hid (by rw [hw2]; exact below_setRow hbl.out (Nat.le_refl _) _)
      clear hsp hw2 hcur hrow
      go_wp2
      all_goals go_roundw
      all_goals first
       | exact ⟨k + 1, by omega, by go_num, by rw [HE.out]; go_num, hrow2.out, hb2.out⟩
       | (simp [intOf]; omega)
    ·obtain rfl : k = xs.length := by omega
     rw [List.take_length, HNN.out, rowJ_all] at hrow
     have hcv := run_convert_bytes_back (P := Tryz.prog) wr 22 9 5 ⟨w.heap.size, 0, none⟩ (flatB xs).length (flatB xs) Tryz.underlying22 Tryz.underlying5 Tryz.underlying9 (fun j hj => by
      rw [addr_add]
      refine cell_of_blk hrow ?_
      simp [List.getElem?_eq_getElem hj])
     have HN2 := HNN.out
     subst HN2
     replace hbl := Lib.hid hbl
     clear hrow
     go_wp2
     go_ret
     exact ⟨rfl, hbl.out⟩
end Go.Proofs.YtboeaeoefoabdaaGreatDoor
namespace Go.Proofs.YtboeaeoefoabdaaGreatDoor
open Go.RowKit
theorem two_new {w w' : World} {t : TypeId} (hb : Below (w.alloc (.cells #[.string ⟨#[]⟩, .string ⟨#[]⟩] t)).heap.size (w.alloc (.cells #[.string ⟨#[]⟩, .string ⟨#[]⟩] t)) w') :
  w'.cell? ⟨w.heap.size, 0, none⟩ = some (.string ⟨#[]⟩) ∧ w'.cell? ⟨w.heap.size, 1, none⟩ = some (.string ⟨#[]⟩) ∧ w'.frozen? ⟨w.heap.size, 0, none⟩ = false ∧ w'.frozen? ⟨w.heap.size, 1, none⟩ = false ∧ Below w.heap.size w w' := by
 have hk : (w.alloc (.cells #[.string ⟨#[]⟩, .string ⟨#[]⟩] t)).heap[w.heap.size]? = some (.cells #[.string ⟨#[]⟩, .string ⟨#[]⟩] t) := by
  show (w.heap.push _)[w.heap.size]? = _
  simp
 have hl : w.heap.size < (w.alloc (.cells #[.string ⟨#[]⟩, .string ⟨#[]⟩] t)).heap.size := by simp
 have hk' := (hb.block w.heap.size hl).trans hk
 refine ⟨?_, ?_, ?_, ?_, ((Below.refl _ _).alloc (Nat.le_refl _) _).trans (hb.mono (by omega))⟩
 ·unfold World.cell?; rw [hk']; rfl
 ·unfold World.cell?; rw [hk']; rfl
 ·unfold World.frozen?; rw [hk']; rfl
 ·unfold World.frozen?; rw [hk']; rfl
def TwoAt (W : World) (B : Nat) (a b : ByteArray) : Prop := W.cell? ⟨B, 0, none⟩ = some (.string a) ∧ W.cell? ⟨B, 1, none⟩ = some (.string b)
theorem TwoAt.below {w w' : World} {B : Nat} {a b : ByteArray} (h : TwoAt w B a b) (hB : B < w.heap.size) (hb : Below w.heap.size w w') : TwoAt w' B a b :=
 ⟨(hb.cell (p := ⟨B, 0, none⟩) hB).trans h.1, (hb.cell (p := ⟨B, 1, none⟩) hB).trans h.2⟩
end Go.Proofs.YtboeaeoefoabdaaGreatDoor
