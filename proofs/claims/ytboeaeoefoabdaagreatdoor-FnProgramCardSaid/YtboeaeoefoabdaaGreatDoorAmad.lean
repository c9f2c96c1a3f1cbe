/-
  Texts put together by program: TbK.
  Conditions: as each theorem says.
-/
import Derived.Deep.AppendLies
import Derived.Deep.RegionHeld3
import Derived.Maps.OwnRows
import Derived.Maps.Views
import Derived.Test.YtboeaeoefoabdaaGreatDoorAmac
namespace Go.Proofs.YtboeaeoefoabdaaGreatDoor
open Go.RowKit Go.Maps
open Go.ChangeShapes (lits)
theorem str_law : Keyed Tryz.prog 9 := string_keyed (by kernel_rfl)
theorem map_under : Tryz.prog.underlying 85 = some (.map 9 22) := by kernel_rfl
theorem slc_under : Tryz.prog.underlying 22 = some (.slice 5) := by kernel_rfl
theorem slc_zero (w : World) : (zeroValue 22).run Tryz.prog w = .ok (.slice none 0 0) w := by kernel_rfl
theorem u8_info : (Tryz.prog.info? 5).map (fun i => (i.zero, i.size, i.bytes)) = some (some (.int .u8 0), 1, 1) := by kernel_rfl
theorem make_hint (w : World) : (Instr.makeMap 85 (some (.int .i64 56))).run Tryz.prog w = .ok (.map (some w.heap.size)) (w.alloc (.map #[] 0)) := by kernel_rfl
def itemsOf : DataW Unit → List (DataW Unit)
 | .slice es _ => es
 | _ => []
theorem lits_inj {q : IntKind} : ∀ {a b : List Int}, lits (H := Unit) q a = lits q b → a = b
 | [], [], _ => rfl
 | [], _ :: _, h => by simp [lits] at h
 | _ :: _, [], h => by simp [lits] at h
 | x :: a, y :: b, h => by
  simp only [lits, List.map_cons, List.cons.injEq] at h
  obtain ⟨h1, h2⟩ := h
  rw [lits_inj (q := q) (a := a) (b := b) h2]
  simp at h1
  rw [h1]
theorem items_row {w : World} {base : Nat} {e : TypeId} {v : Value} {zs : List Int} (h : w.ownsInts base e .u8 v zs) : itemsOf (rowDatum .u8 v zs) = lits .u8 zs := by
 rcases h.datum (H := Unit) with ⟨h1, rfl⟩ | h1 <;> rw [h1] <;> rfl
def keyS (s : ByteArray) : Lit := .string s.data.toList
theorem keyS_ne {s t : ByteArray} (h : s ≠ t) : keyS s ≠ keyS t := by
 intro e
 simp only [keyS, Lit.string.injEq] at e
 exact h (ByteArray.ext (Array.toList_inj.mp e))
theorem key_str (s : ByteArray) (h : s.size ≤ maxLen) : keyOf Tryz.prog 9 (.string s) = some (keyS s) := WideMaps.keyOf_string_mk (by kernel_rfl) h
def Coded (B k : Nat) (w : World) : Prop := ∃ D : DataW Unit, IsMap D ∧ w.ownsGroups Tryz.prog 9 (B + 1) 5 .u8 B k D ∧ ∀ s : ByteArray, s.size ≤ maxLen → itemsOf (D.atKey (keyS s) .nil) = lits .u8 (codesAt s k)
theorem coded_made (w : World) : Coded w.heap.size 0 (w.alloc (.map #[] 0)) := ⟨.map [], isMap_empty, World.ownsGroups_made _ _ _ _ _, fun _ _ => rfl⟩
theorem groups_mono {w : World} {P : Program} {k e : TypeId} {base b n : Nat} {q : IntKind} {D : DataW Unit} (h : w.ownsGroups P k base e q b n D) : w.ownsGroups P k base e q b (n + 1) D := by
 obtain ⟨es, clock, hb, F, hs, rfl, hbb, hlen, hap⟩ := h
 exact ⟨es, clock, hb, F, by omega, rfl, hbb, fun x hx zs ho => by have := hlen x hx zs ho; omega, hap⟩
theorem groups_on {w w' : World} {P : Program} {k e : TypeId} {base b n : Nat} {q : IntKind} {D : DataW Unit} (h : w.ownsGroups P k base e q b n D) (hg : w.grownBy w' none) :
  w'.ownsGroups P k base e q b n D ∧ ∀ es clock, w'.heap[b]? = some (.map es clock) → ∀ x ∈ es.toList, ∀ g, x.val.ownBlock = some g → g < w.heap.size := by
 obtain ⟨es, clock, hb, F, hs, rfl, hbb, hlen, hap⟩ := h
 have owned : ∀ x ∈ es.toList, ∃ zs, w.ownsInts base e q x.val zs := fun x hx => by
  obtain ⟨y, hy⟩ := F.reads x hx
  obtain ⟨z, hz, _⟩ := WideElems.rd_val hy
  obtain ⟨zs, ho, _⟩ := rowElem_inv hz
  exact ⟨zs, ho⟩
 have stay : ∀ {v : Value} {zs : List Int}, w.ownsInts base e q v zs → w'.ownsInts base e q v zs := fun {v zs} ho => ho.kept hg (by cases v.ownBlock <;> simp)
 obtain ⟨F1, hmap, _⟩ := F.stay (R' := rowElem w' base e q) (fun x hx z hz => by
  obtain ⟨zs, ho, rfl⟩ := rowElem_inv hz
  exact rowElem_mk (stay ho))
 have hb' : w'.heap[b]? = some (.map es clock) := (hg.block b (Array.getElem?_eq_some_iff.1 hb).1 (by simp)).trans hb
 refine ⟨⟨es, clock, hb', F1, hs, by rw [hmap], hbb, fun x hx zs ho => ?_, hap⟩, fun es2 clock2 hb2 x hx g hx' => ?_⟩
 ·obtain ⟨zs0, ho0⟩ := owned x hx
  rw [ho.unique (stay ho0)]
  exact hlen x hx zs0 ho0
 ·rw [hb'] at hb2
  simp only [Option.some.injEq, Obj.map.injEq] at hb2
  obtain ⟨rfl, rfl⟩ := hb2
  obtain ⟨zs0, ho0⟩ := owned x hx
  exact (ho0.1.lt g hx').2
theorem Coded.grown {B k : Nat} {w w' : World} (h : Coded B k w) (hg : w.grownBy w' none) : Coded B k w' := by
 obtain ⟨D, h1, h2, h3⟩ := h
 exact ⟨D, h1, (groups_on h2 hg).1, h3⟩
theorem Coded.none {B k : Nat} {w : World} (h : Coded B k w) (hk : (rowAt k).1 = noB) : Coded B (k + 1) w := by
 obtain ⟨D, h1, h2, h3⟩ := h
 exact ⟨D, h1, groups_mono h2, fun s hs => by rw [h3 s hs, codesAt_step, if_neg (fun h => h.1 hk), List.append_nil]⟩
structure Found (B k : Nat) (w0 w : World) (v : Value) (zs : List Int) : Prop where
 run : (Instr.lookup 85 (.map (some B)) (.string (rowAt k).1) false).run Tryz.prog w = .ok v w
 owns : w.ownsInts (B + 1) 5 .u8 v zs
 len : zs.length ≤ k
 old : ∀ g, v.ownBlock = some g → g < w0.heap.size
 back : ∀ (w1 : World) (v' : Value) (zs' : List Int), w.grownBy w1 v.ownBlock → w1.ownsInts (B + 1) 5 .u8 v' zs' → zs' = zs ++ [(k : Int)] → (v'.ownBlock = v.ownBlock ∨ ∃ g, v'.ownBlock = some g ∧ w.heap.size ≤ g) →
  ∃ w2, (Instr.mapUpdate 85 (.map (some B)) (.string (rowAt k).1) v').run Tryz.prog w1 = .ok () w2 ∧ Coded B (k + 1) w2 ∧ w1.grownBy w2 (some B)
theorem found {B k : Nat} (hk : k < 256) {w0 w : World} (h : Coded B k w0) (hg : w0.grownBy w none) (hn : (rowAt k).1 ≠ noB) : ∃ v zs, Found B k w0 w v zs := by
 obtain ⟨D, h1, h2, h3⟩ := h
 obtain ⟨h2, hsh⟩ := groups_on h2 hg
 have hkey := key_str (rowAt k).1 (by have := (row_small ⟨k, hk⟩).1; simp only at this; unfold maxLen; omega)
 obtain ⟨v, zs, hrun, hat, hoi, hzl, hback⟩ := h2.at str_law map_under (slc_zero w) (by unfold maxLen; omega) hkey
 refine ⟨v, zs, hrun, hoi, hzl, ?_, ?_⟩
 ·intro g hg'
  obtain ⟨es, clock, hb, F, _⟩ := h2
  rcases Maps.fit_look false str_law map_under (slc_zero w) hb F hkey with ⟨hrun', _, _⟩ | ⟨e0, y, hm0, _, hrun', _, _, _⟩
  ·rw [hrun] at hrun'
   obtain rfl : v = .slice none 0 0 := by simpa using hrun'
   cases hg'
  ·rw [hrun] at hrun'
   obtain rfl : v = e0.val := by simpa using hrun'
   exact hsh es clock hb e0 hm0 g hg'
 ·intro w1 v' zs' hgr ho hz hloc
  subst hz
  obtain ⟨w2, hr, ho2, hg2⟩ := hback w1 v' _ hgr ho (by simp; omega) hloc
  refine ⟨w2, hr, ⟨_, h1.put _ _, ho2, ?_⟩, hg2⟩
  intro s hs
  rw [codesAt_step]
  by_cases he : (rowAt k).1 = s
  ·subst he
   have h4 := h3 _ hs
   rw [hat, items_row hoi] at h4
   rw [atKey_put_same h1 (str_law.key hkey), items_row ho, if_pos ⟨hn, rfl⟩, lits_inj h4]
  ·rw [atKey_put_other (keyS_ne (Ne.symm he)), if_neg (fun h => he h.2), List.append_nil]
   exact h3 s hs
structure Stored (B k : Nat) (W : World) (c : Nat) (u : Value) (w1 w2 : World) : Prop where
 coded : Coded B (k + 1) w2
 below : Below B W w2
 fst : w1.cell? ⟨c, 0, none⟩ = some u
 snd : w2.cell? ⟨c, 0, none⟩ = some u
theorem step_code {B k : Nat} {w0 W0 W : World} {v : Value} {zs : List Int} {ops : Array Oper} {o : Oper} {a : Act} {K : Act → World → Prop} {Q : Exit → Act → World → Prop} {E : Prop} (hgd : o.guard = none) (s x : Operand)
  (ho : o.op = .call { callee := .builtin .append, args := #[s, x], argTypes := #[22, 22] }) (hF : Found B k w0 W0 v zs) (hk : k < 256) (hgr : W0.grownBy W none) (hs : a.eval s = v)
  (g0 : Nat) (hx : a.eval x = .slice (some ⟨g0, 0, none⟩) 1 1) (hc : W.cell? ⟨g0, 0, none⟩ = some (.int .u8 (k : Int))) (hB : B + 1 ≤ W.heap.size)
  (c : Nat) (u : Value) (hc0 : w0.heap.size ≤ c) (hcB : c ≠ B) (hcu : W.cell? ⟨c, 0, none⟩ = some u)
  (h : ∀ g cap w1 w2, (Instr.mapUpdate 85 (.map (some B)) (.string (rowAt k).1) (.slice (some ⟨g, 0, none⟩) (zs.length + 1) cap)).run Tryz.prog w1 = .ok () w2 → Hid (Stored B k W c u w1 w2) → K (a.put o.dst (.slice (some ⟨g, 0, none⟩) (zs.length + 1) cap)) w1) :
  if Region.wanted o (yielded ops a.tmps) = true then Oper.wp Tryz.prog o a W K Q else E := by
 obtain ⟨i0, hi, hz0, hz1, hz2⟩ := info_parts u8_info
 have hown := (hF.owns.kept hgr (by cases v.ownBlock <;> simp)).1
 have hl := hF.len
 refine step_append_lies W hgd s x 22 ho (B + 1) 5 i0 (.int .u8 0) 1 1 slc_under hi hz0 hz1 hz2 rfl (by decide) v _ _ hs hown ⟨g0, 0, none⟩ 1 1 [.int .u8 (k : Int)] hx rfl ?_ ?_ (by decide) (by unfold maxLen; omega) (by omega) hB W.heap.size rfl ?_
 ·intro j u hu
  match j, hu with
  | 0, hu =>
   simp at hu
   subst hu
   simpa [Addr.add] using hc
 ·intro u hu
  simp at hu
  subst hu
  rfl
 ·intro g cap w1 hown1 hgrow hat hlt
  have ho1 : w1.ownsInts (B + 1) 5 .u8 (.slice (some ⟨g, 0, none⟩) (zs.length + 1) cap) (zs ++ [(k : Int)]) := hF.owns.appended (x := (k : Int)) hown1 (WalkArith.wf_u8 (by omega))
  have hvs : v.ownBlock = none ∨ v.ownBlock ≠ none := by cases v.ownBlock <;> simp
  have hgW : W0.grownBy w1 v.ownBlock := ⟨hgrow.os.trans hgr.os, hgrow.tape.trans hgr.tape, hgrow.output.trans hgr.output, Nat.le_trans hgr.size hgrow.size,
   fun j hj hne => (hgrow.block j (Nat.lt_of_lt_of_le hj hgr.size) hne).trans (hgr.block j hj (by simp))⟩
  obtain ⟨w2, hr, hcod, hg2⟩ := hF.back w1 _ _ hgW ho1 rfl (by
   rcases hat with h1 | h1
   ·exact .inl (by rw [h1]; rfl)
   ·exact .inr ⟨g, rfl, by rw [h1]; exact hgr.size⟩)
  have hcl : c < W.heap.size := World.block_lt_of_cell? W ⟨c, 0, none⟩ hcu
  have hcv : some c ≠ v.ownBlock := fun e => by
   have := hF.old c e.symm
   omega
  have h1 : w1.cell? ⟨c, 0, none⟩ = some u := hgrow.cell hcu hcv
  have h2 : w2.cell? ⟨c, 0, none⟩ = some u := hg2.cell h1 (by simpa using hcB)
  refine h g cap w1 w2 hr (Lib.hid ⟨hcod, ?_, h1, h2⟩)
  refine ((Below.refl B W).grown hgrow (by omega) (fun j hj => ?_)).grown hg2 (Nat.le_trans (by omega) hgrow.size) (fun j hj => by cases hj; exact Nat.le_refl _)
  have := (hF.owns.1.lt j hj).1
  omega
theorem grow_of_below {w w' : World} (h : Below w.heap.size w w') : w.grownBy w' none := ⟨h.os, h.tape, h.output, h.size, fun k hk _ => h.block k hk⟩
def CodesPost (w : World) (e : Ending) (w' : World) : Prop := e = .returned (.map (some w.heap.size)) ∧ Coded w.heap.size 256 w' ∧ Below w.heap.size w w'
set_option maxRecDepth 100000 in
set_option maxHeartbeats 1000000 in
theorem impl_codes (b : Nat) (w : World) (hb : b < w.heap.size) (hc : ∀ i, i < 256 → w.cell? ⟨b, i * 2, none⟩ = some (.string (rowAt i).1) ∧ w.cell? ⟨b, i * 2 + 1, none⟩ = some (.string (rowAt i).2)) :
  Calls Tryz.prog 61 #[.pointer (some ⟨b, 0, none⟩)] w (CodesPost w) := by
 have hmm := make_hint
 have HC := Lib.hid hc
 clear hc
 go_enter Tryz.func61, Tryz.ntmps61
 go_wp2
 clear hmm
 go_loopw [9] (fun v9 wr => ∃ k : Nat, k ≤ 256 ∧ v9 = .int .i64 (k : Int) ∧ Coded w.heap.size k wr ∧ Below w.heap.size w wr ∧ w.heap.size < wr.heap.size) (fun v9 _ => 256 - (intOf v9).toNat)
 case atStart => exact ⟨0, by omega, rfl, coded_made w, (Below.refl _ _).alloc (Nat.le_refl _) _, by simp⟩
 case round =>
  obtain ⟨k, hk, rfl, hcod, hbel, hws⟩ := hrel
  have HCo := Lib.hid hcod
  have HB := Lib.hid hbel
  by_cases hlt : k < 256
  ·obtain ⟨c0, c1⟩ := HC.out k hlt
   have c0 := (hbel.cell (by exact hb)).trans c0
   have c1 := (hbel.cell (by exact hb)).trans c1
   have d0 := (World.cell?_alloc_some wr ⟨b, k * 2, none⟩ (.cells #[.string ⟨#[]⟩, .string ⟨#[]⟩] 41) (by rw [c0]; rfl)).trans c0
   have d1 := (World.cell?_alloc_some wr ⟨b, k * 2 + 1, none⟩ (.cells #[.string ⟨#[]⟩, .string ⟨#[]⟩] 41) (by rw [c1]; rfl)).trans c1
   have hkd := key_str (rowAt k).1 (by have := (row_small ⟨k, hlt⟩).1; simp only at this; unfold maxLen; omega)
   have hfd := Lib.hid (fun w (h : wr.grownBy w none) (hn : (rowAt k).1 ≠ noB) => found hlt hcod h hn)
   have hno := Lib.hid (fun w (h : wr.grownBy w none) (hn : (rowAt k).1 = noB) => (hcod.grown h).none hn)
   clear hcod hbel hkd
   go_wp2
   go_region
   by_cases hn : (rowAt k).1 = noB
   ·have hin := impl_isNone (rowAt k).1 (rowAt k).2
    rw [decide_eq_true hn] at hin
    have HN := Lib.hid hn
    have HIN := Lib.hid hin
    clear hin hn
    go_wp2_with (go_at_call 86; refine (HIN.out _).mono ?_; rintro e w2 ⟨rfl, hb2⟩; refine Hid.out ?_)
    have hb := Lib.hid (below_then (((Below.refl _ wr).alloc (Nat.le_refl _) _).drew) hb2)
    clear hb2
    refine Lib.hid ?_
    go_wp2
    go_roundw
    case rel => exact ⟨k + 1, by omega, by go_num, hno.out _ (grow_of_below hb.out) HN.out, HB.out.grown (grow_of_below hb.out) (by omega) (fun _ h => by cases h), Nat.lt_of_lt_of_le hws hb.out.size⟩
    case measure => simp [intOf]; omega
   ·have hin := impl_isNone (rowAt k).1 (rowAt k).2
    rw [decide_eq_false hn] at hin
    have HN := Lib.hid hn
    have HIN := Lib.hid hin
    clear hin hn
    go_wp2_with (go_at_call 86; refine (HIN.out _).mono ?_; rintro e w2 ⟨rfl, hb2⟩; refine Hid.out ?_)
    have hb := below_then (((Below.refl _ wr).alloc (Nat.le_refl _) (.cells #[.string (rowAt k).1, .string (rowAt k).2] 41)).drew) hb2
    have t0 : w2.cell? ⟨wr.heap.size, 0, none⟩ = some (.string (rowAt k).1) := (hb2.cell (by simp)).trans (by simp)
    have hlt2 : wr.heap.size < w2.heap.size := by have := hb2.size; simp at this; omega
    have hgd : wr.grownBy w2.drew none := grow_of_below hb.drew
    have hB2 : Below w.heap.size w w2 := HB.out.grown (grow_of_below hb) (by omega) (fun _ h => by cases h)
    have HB2 := Lib.hid hB2
    obtain ⟨v0, zs0, F0⟩ := hfd.out _ hgd HN.out
    obtain ⟨v1, zs1, F1⟩ := hfd.out (w2.alloc (.cells #[.int .u8 (k : Int)] 5)).drew (hgd.trans (World.grownBy_alloc w2.drew (.cells #[.int .u8 (k : Int)] 5) _)) HN.out
    have r0 := F0.run
    have r1 := F1.run
    have G0 := Lib.hid F0
    have G1 := Lib.hid F1
    have hwr : IntKind.u8.wrap (k : Int) = (k : Int) := IntWalk.u8_in _ ⟨by omega, by omega⟩
    clear hb hb2 c0 c1 d0 d1 F0 F1 hgd hB2
    refine Lib.hid ?_
    go_wp2_with (fail)
    go_region_held3 (fun w' => w'.cell? ⟨wr.heap.size, 0, none⟩ = some (.string (rowAt k).1)) (first | exact hst.out.fst | exact hst.out.snd | go_keep)
     (first
      | (refine step_code rfl _ _ rfl G0.out hlt (World.grownBy_alloc _ _ _) rfl _ rfl (by simp) (by simp; omega) wr.heap.size (.string (rowAt k).1) (Nat.le_refl _) (by omega) (by assumption) ?_; intro g cap w3 w4 hrun hst)
      | (refine step_code rfl _ _ rfl G1.out hlt (World.grownBy.refl _ _) rfl _ rfl (by simp) (by simp; omega) wr.heap.size (.string (rowAt k).1) (Nat.le_refl _) (by omega) (by assumption) ?_; intro g cap w3 w4 hrun hst))
    all_goals go_wp2
    all_goals go_roundw
    case rel => exact ⟨k + 1, by omega, by go_num, hst.out.coded, ((HB2.out.alloc (by omega) _).drew).trans hst.out.below, by have := hst.out.below.size; simp at this; omega⟩
    case measure => simp [intOf]; omega
    case rel => exact ⟨k + 1, by omega, by go_num, hst.out.coded, ((HB2.out.alloc (by omega) _).drew).trans hst.out.below, by have := hst.out.below.size; simp at this; omega⟩
    case measure => simp [intOf]; omega
  ·obtain rfl : k = 256 := by omega
   go_wp2
   go_ret
   exact ⟨rfl, HCo.out, HB.out⟩
end Go.Proofs.YtboeaeoefoabdaaGreatDoor
