/-
  The walk of the program's map from a name to its bytes: a map that the call makes, filled from the 256 rows of a table that it is handed by a pointer.
  Conditions: the table's block is there.
-/
import Derived.Test.YtboeaeoefoabdaaTbJ
import Derived.Maps.OwnRows
import Derived.Maps.Views
import Derived.Deep.RegionHeld3
import Derived.Deep.AppendLies
import Derived.Lib.Hide
namespace Go.Proofs.Ytboeaeoefoabdaa
open Go.RowKit Go.Maps
open Go.ChangeShapes (lits)
theorem str_law : Keyed Try.prog 9 := string_keyed (by kernel_rfl)
theorem slc_under : Try.prog.underlying 22 = some (.slice 5) := by kernel_rfl
theorem u8_under : Try.prog.underlying 5 = some (.int .u8) := by kernel_rfl
theorem slc_zero (w : World) : (zeroValue 22).run Try.prog w = .ok (.slice none 0 0) w := by kernel_rfl
theorem u8_info : (Try.prog.info? 5).map (fun i => (i.zero, i.size, i.bytes)) = some (some (.int .u8 0), 1, 1) := by kernel_rfl
def itemsOf : DataW Unit → List (DataW Unit)
  | .slice es _ => es
  | _ => []
theorem lits_inj {q : IntKind} : ∀ {a b : List Int}, lits (H := Unit) q a = lits q b → a = b
  | [], [], _ => rfl
  | [], _ :: _, h => by simp [lits] at h
  | _ :: _, [], h => by simp [lits] at h
  | x :: a, y :: b, h => by
    simp only [lits, List.map_cons, List.cons.injEq] at h
    obtain ⟨h1, h2⟩ := h
    rw [lits_inj (q := q) (a := a) (b := b) h2]
    simp at h1
    rw [h1]
theorem items_row {w : World} {base : Nat} {e : TypeId} {v : Value} {zs : List Int} (h : w.ownsInts base e .u8 v zs) : itemsOf (rowDatum .u8 v zs) = lits .u8 zs := by
  rcases h.datum (H := Unit) with ⟨h1, rfl⟩ | h1 <;> rw [h1] <;> rfl
def keyS (s : ByteArray) : Lit := .string s.data.toList
theorem keyS_ne {s t : ByteArray} (h : s ≠ t) : keyS s ≠ keyS t := by
  intro e
  simp only [keyS, Lit.string.injEq] at e
  exact h (ByteArray.ext (Array.toList_inj.mp e))
theorem key_str (s : ByteArray) (h : s.size ≤ maxLen) : keyOf Try.prog 9 (.string s) = some (keyS s) := WideMaps.keyOf_string_mk (by kernel_rfl) h
/-- Block B is a map that has, at each name, the bytes below k that have it. -/
def Coded (B k : Nat) (w : World) : Prop := ∃ D : DataW Unit, IsMap D ∧ w.ownsGroups Try.prog 9 (B + 1) 5 .u8 B k D ∧ ∀ s : ByteArray, s.size ≤ maxLen → itemsOf (D.atKey (keyS s) .nil) = lits .u8 (codesAt s k)
theorem coded_made (w : World) : Coded w.heap.size 0 (w.alloc (.map #[] 0)) := ⟨.map [], isMap_empty, World.ownsGroups_made _ _ _ _ _, fun _ _ => rfl⟩
theorem groups_mono {w : World} {P : Program} {k e : TypeId} {base b n : Nat} {q : IntKind} {D : DataW Unit} (h : w.ownsGroups P k base e q b n D) : w.ownsGroups P k base e q b (n + 1) D := by
  obtain ⟨es, clock, hb, F, hs, rfl, hbb, hlen, hap⟩ := h
  exact ⟨es, clock, hb, F, by omega, rfl, hbb, fun x hx zs ho => by have := hlen x hx zs ho; omega, hap⟩
/-- Over what only adds blocks: the map reads as before, and its rows are old ones. -/
theorem groups_on {w w' : World} {P : Program} {k e : TypeId} {base b n : Nat} {q : IntKind} {D : DataW Unit} (h : w.ownsGroups P k base e q b n D) (hg : w.grownBy w' none) :
    w'.ownsGroups P k base e q b n D ∧ ∀ es clock, w'.heap[b]? = some (.map es clock) → ∀ x ∈ es.toList, ∀ g, x.val.ownBlock = some g → g < w.heap.size := by
  obtain ⟨es, clock, hb, F, hs, rfl, hbb, hlen, hap⟩ := h
  have owned : ∀ x ∈ es.toList, ∃ zs, w.ownsInts base e q x.val zs := fun x hx => by
    obtain ⟨y, hy⟩ := F.reads x hx
    obtain ⟨z, hz, _⟩ := WideElems.rd_val hy
    obtain ⟨zs, ho, _⟩ := rowElem_inv hz
    exact ⟨zs, ho⟩
  have stay : ∀ {v : Value} {zs : List Int}, w.ownsInts base e q v zs → w'.ownsInts base e q v zs := fun {v zs} ho => ho.kept hg (by cases v.ownBlock <;> simp)
  obtain ⟨F1, hmap, _⟩ := F.stay (R' := rowElem w' base e q) (fun x hx z hz => by
    obtain ⟨zs, ho, rfl⟩ := rowElem_inv hz
    exact rowElem_mk (stay ho))
  have hb' : w'.heap[b]? = some (.map es clock) := (hg.block b (Array.getElem?_eq_some_iff.1 hb).1 (by simp)).trans hb
  refine ⟨⟨es, clock, hb', F1, hs, by rw [hmap], hbb, fun x hx zs ho => ?_, hap⟩, fun es2 clock2 hb2 x hx g hx' => ?_⟩
  · obtain ⟨zs0, ho0⟩ := owned x hx
    rw [ho.unique (stay ho0)]
    exact hlen x hx zs0 ho0
  · rw [hb'] at hb2
    simp only [Option.some.injEq, Obj.map.injEq] at hb2
    obtain ⟨rfl, rfl⟩ := hb2
    obtain ⟨zs0, ho0⟩ := owned x hx
    exact (ho0.1.lt g hx').2
theorem Coded.grown {B k : Nat} {w w' : World} (h : Coded B k w) (hg : w.grownBy w' none) : Coded B k w' := by
  obtain ⟨D, h1, h2, h3⟩ := h
  exact ⟨D, h1, (groups_on h2 hg).1, h3⟩
theorem Coded.none {B k : Nat} {w : World} (h : Coded B k w) (hk : (rowAt k).1 = noB) : Coded B (k + 1) w := by
  obtain ⟨D, h1, h2, h3⟩ := h
  exact ⟨D, h1, groups_mono h2, fun s hs => by rw [h3 s hs, codesAt_step, if_neg (fun h => h.1 hk), List.append_nil]⟩
/-- What stands behind the store of a row's byte. -/
structure Stored (B k : Nat) (W : World) (c : Nat) (u : Value) (w1 w2 : World) : Prop where
  coded : Coded B (k + 1) w2
  below : Below B W w2
  fst : w1.cell? ⟨c, 0, none⟩ = some u
  snd : w2.cell? ⟨c, 0, none⟩ = some u
theorem grow_of_below {w w' : World} (h : Below w.heap.size w w') : w.grownBy w' none := ⟨h.os, h.tape, h.output, h.size, fun k hk _ => h.block k hk⟩
/-- What the map is, handed back. -/
def CodesPost (w : World) (e : Ending) (w' : World) : Prop := e = .returned (.map (some w.heap.size)) ∧ Coded w.heap.size 256 w' ∧ Below w.heap.size w w'
end Go.Proofs.Ytboeaeoefoabdaa
