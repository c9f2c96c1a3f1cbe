/-
  Which instruction is found among those of a name, plainly (chapter 13).
  Conditions: none.
-/
import Derived.Test.YtboeaeoefoabdaaGreatDoorAsP
namespace Go.Proofs.YtboeaeoefoabdaaGreatDoor
open Go.RowKit
theorem codesAt_lt (s : ByteArray) (k : Nat) : (codesAt s k).Pairwise (· < ·) := by
  unfold codesAt
  refine List.Pairwise.map _ (fun a b h => ?_) ((List.pairwise_lt_range).filter _)
  omega
theorem codesAt_in {s : ByteArray} {k i : Nat} (hi : i < k) (h0 : (rowAt i).1 ≠ noB) (h1 : (rowAt i).1 = s) : (i : Int) ∈ codesAt s k := by
  unfold codesAt
  refine List.mem_map.2 ⟨i, List.mem_filter.2 ⟨List.mem_range.2 hi, decide_eq_true ⟨h0, h1⟩⟩, rfl⟩
/-- The text of a byte's instruction is the line. -/
def IsL (S : List UInt8) (lo hi : Int) (z : Int) : Prop := opT (rowAt z.toNat).1 (rowAt z.toNat).2 lo hi = S
theorem codes_name {S : List UInt8} {name : ByteArray} (hn : name.data.toList = nameL S) {j : Nat} (hj : j < 256) (h : IsOp S j) : (j : Int) ∈ codesAt name 256 := by
  have e := is_name hj h
  refine codesAt_in hj h.1 (ByteArray.ext (Array.toList_inj.mp ?_))
  rw [← e, hn]
theorem codes_hit {S : List UInt8} {name : ByteArray} (hn : name.data.toList = nameL S) {lo hi : Int} (hlo : lo = rh (trimT (restB S)) % 256) (hhi : hi = rh (trimT (restB S)) / 256 % 256) {i : Nat} (h : i < (codesAt name 256).length) (hy : IsL S lo hi (codesAt name 256)[i]) (hp : ∀ j (hj : j < i), ¬ IsL S lo hi ((codesAt name 256)[j]'(by omega))) :
    AsmOk S ([UInt8.ofNat ((codesAt name 256)[i]).toNat, UInt8.ofNat (lo % 256).toNat, UInt8.ofNat (hi % 256).toNat].take (modeSz (rowAt ((codesAt name 256)[i]).toNat).2).toNat) true := by
  obtain ⟨c, hc, e, h0, h1⟩ := codesAt_mem name 256 _ (List.getElem_mem h)
  have ec : ((codesAt name 256)[i]).toNat = c := by omega
  unfold IsL at hy
  rw [ec] at hy ⊢
  refine .inl ⟨rfl, c, lo, hi, hc, h0, hy, fun j hj hop => ?_, rfl⟩
  have hm := codes_name hn (by omega) hop
  obtain ⟨n, hn1, hn2⟩ := List.mem_iff_getElem.1 hm
  have hlt : n < i := by
    rcases Nat.lt_or_ge n i with h | h
    · exact h
    · exfalso
      rcases Nat.eq_or_lt_of_le h with h | h
      · subst h; omega
      · have := List.pairwise_iff_getElem.1 (codesAt_lt name 256) i n (by omega) hn1 h
        omega
  refine hp n hlt ?_
  unfold IsL
  have ej : ((codesAt name 256)[n]).toNat = j := by omega
  rw [ej, hlo, hhi]
  exact (is_impl (by omega) hop.1).1 hop
theorem codes_miss {S : List UInt8} {name : ByteArray} (hn : name.data.toList = nameL S) {lo hi : Int} (hlo : lo = rh (trimT (restB S)) % 256) (hhi : hi = rh (trimT (restB S)) / 256 % 256) (hp : ∀ j (hj : j < (codesAt name 256).length), ¬ IsL S lo hi ((codesAt name 256)[j])) : AsmOk S [] false := by
  refine .inr ⟨rfl, rfl, fun j hj hop => ?_⟩
  obtain ⟨n, hn1, hn2⟩ := List.mem_iff_getElem.1 (codes_name hn hj hop)
  refine hp n hn1 ?_
  unfold IsL
  have ej : ((codesAt name 256)[n]).toNat = j := by omega
  rw [ej, hlo, hhi]
  exact (is_impl hj hop.1).1 hop
theorem codes_byte (name : ByteArray) (i : Nat) (h : i < (codesAt name 256).length) : ∃ c : Nat, c < 256 ∧ (codesAt name 256)[i] = (c : Int) ∧ (rowAt c).1 ≠ noB := by
  obtain ⟨c, hc, e, h0, _⟩ := codesAt_mem name 256 _ (List.getElem_mem h)
  exact ⟨c, hc, e, h0⟩
theorem codes_hit2 {S : List UInt8} {name : ByteArray} {zs : List Int} (ez : codesAt name 256 = zs) (hn : name.data.toList = nameL S) {lo hi : Int} (hlo : lo = rh (trimT (restB S)) % 256) (hhi : hi = rh (trimT (restB S)) / 256 % 256) (i : Nat) (h : i < zs.length) (hy : IsL S lo hi zs[i]) (hp : ∀ j (hj : j < i), ¬ IsL S lo hi (zs[j]'(by omega))) :
    AsmOk S ([UInt8.ofNat (zs[i]).toNat, UInt8.ofNat (lo % 256).toNat, UInt8.ofNat (hi % 256).toNat].take (modeSz (rowAt (zs[i]).toNat).2).toNat) true := by
  subst ez
  exact codes_hit hn hlo hhi h hy hp
theorem codes_miss2 {S : List UInt8} {name : ByteArray} {zs : List Int} (ez : codesAt name 256 = zs) (hn : name.data.toList = nameL S) {lo hi : Int} (hlo : lo = rh (trimT (restB S)) % 256) (hhi : hi = rh (trimT (restB S)) / 256 % 256) (hp : ∀ j (hj : j < zs.length), ¬ IsL S lo hi (zs[j])) : AsmOk S [] false := by
  subst ez
  exact codes_miss hn hlo hhi hp
theorem codes_byte2 {name : ByteArray} {zs : List Int} (ez : codesAt name 256 = zs) (i : Nat) (h : i < zs.length) : ∃ c : Nat, c < 256 ∧ zs[i] = (c : Int) ∧ (rowAt c).1 ≠ noB := by
  subst ez
  exact codes_byte name i h
end Go.Proofs.YtboeaeoefoabdaaGreatDoor
