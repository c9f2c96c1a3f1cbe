/-
  Texts put together by program: PrB, AsQ, BvA.
  Conditions: as each theorem says.
-/
import Derived.Test.YtboeaeoefoabdaaGreatDoorPmap
namespace Go.Proofs.YtboeaeoefoabdaaGreatDoor
open Go.RowKit
def ProgPost (s : ByteArray) (w : World) (e : Ending) (w' : World) : Prop := ∃ (out : List UInt8) (bad : Int), e = .returned (.tuple #[.string ⟨out.toArray⟩, .int .i64 bad]) ∧ ProgOk ((lineBs s).map fun x => x.data.toList) out bad ∧ Below w.heap.size w w'
theorem prog_post {s : ByteArray} {w : World} (out : List UInt8) (bad : Int) (w' : World) (h : ProgOk ((lineBs s).map fun x => x.data.toList) out bad) (hb : Below w.heap.size w w') : ProgPost s w (.returned (.tuple #[.string ⟨out.toArray⟩, .int .i64 bad])) w' := ⟨out, bad, rfl, h, hb⟩
theorem no_word {l : List UInt8} (hz : (wordB l 0).size = 0) : ¬ hasI l := by
 rintro ⟨c, r, e, _⟩
 rw [word_size] at hz
 have e0 : behind l 0 = l := rfl
 rw [e0, e] at hz
 simp at hz
theorem some_word {l : List UInt8} {k : Nat} (hg : Good (told l k)) (hk : 0 < k) : ∃ c r, wordL l = c :: r := by
 have h := (good_iff l k).1 hg 0 hk
 rw [word_size] at h
 have e0 : behind l 0 = l := rfl
 rw [e0] at h
 cases hw : wordL l with
 | nil => rw [hw] at h; simp at h
 | cons c r => exact ⟨c, r, rfl⟩
set_option maxRecDepth 100000 in
set_option maxHeartbeats 4000000 in
theorem spec_program (s : ByteArray) (hs : s.size ≤ 1048576) (w : World) : Calls Tryz.prog 28 #[.string s] w (ProgPost s w) := by
 have HL := Lib.hid (fun w => spec_linesA s hs w)
 obtain ⟨hn, hsm⟩ := lineBs_small s
 have hsm : ∀ x ∈ lineBs s, x.size ≤ 1048576 := fun x hx => Nat.le_trans (hsm x hx) hs
 have hn : (lineBs s).length ≤ 1048577 := by omega
 have fin := Lib.hid (fun out bad w' => @prog_post s w out bad w')
 generalize lineBs s = Ls at *
 obtain ⟨Lm, hLm⟩ : ∃ Lm, Ls.map (fun x : ByteArray => x.data.toList) = Lm := ⟨_, rfl⟩
 rw [hLm] at fin
 have hll : Lm.length = Ls.length := by rw [← hLm]; simp
 have hat : ∀ i (h : i < Ls.length) (h2 : i < Lm.length), Lm[i] = Ls[i].data.toList := fun i h h2 => by subst hLm; simp
 have HAT := Lib.hid hat
 have HSM := Lib.hid hsm
 have HLL := Lib.hid hll
 clear hs hsm hLm hat hll
 go_enter Tryz.func28, Tryz.ntmps28
 go_wp2_with (go_at_call 40; (with_reducible refine (HL.out _).mono ?_); rintro e w1 ⟨A, cap, rfl, hA, hb1⟩; refine Hid.out ?_)
 have HA := Lib.hid hA
 have B1 := Lib.hid hb1
 clear HL hA hb1
 refine Lib.hid ?_
 go_wp2
 go_loopw [4, 6] (fun v4 v6 wr => ∃ (i : Nat) (o : List UInt8), i ≤ Ls.length ∧ v6 = .int .i64 i ∧ v4 = .string ⟨o.toArray⟩ ∧ Hid (ProgPre Lm i o) ∧ Hid (Below w1.heap.size w1 wr)) (fun _ v6 _ => Ls.length - (intOf v6).toNat)
 case atStart => exact ⟨0, [], by omega, rfl, rfl, Lib.hid (pre_zero _), Lib.hid (Below.refl _ _)⟩
 case round =>
  obtain ⟨i, o, hi, rfl, rfl, hp, hb⟩ := hrel
  by_cases hlt : i < Ls.length
  ·rcases HA.out with rfl | ⟨g, rfl, hcell⟩
   ·exact absurd hlt (Nat.not_lt_zero _)
   have ci := (hb.out.cell (p := ⟨g, i, none⟩) (World.block_lt_of_cell? _ _ (hcell i hlt))).trans (hcell i hlt)
   have hsz := HSM.out Ls[i] (List.getElem_mem hlt)
   have hli : i < Lm.length := by rw [HLL.out]; exact hlt
   have ha := HAT.out i hlt hli
   have nxt := Lib.hid (fun p (h : LineR (Lm[i]'hli) (some p)) => pre_succ hp.out hli h)
   have bad := Lib.hid (fun (h : LineR (Lm[i]'hli) none) => prog_bad hli hp.out h)
   have hol := pre_len (by omega) hp.out
   rw [ha] at nxt bad
   generalize hT : Ls[i] = t at *
   have HWd := Lib.hid (fun w => spec_wordsG t hsz w)
   have HAs := Lib.hid (fun w => spec_asm t hsz w)
   clear hcell hT ha hli
   go_wp2_with (go_at_call 41; (with_reducible refine (HWd.out _).mono ?_); rintro e w2 ⟨A2, k, cap2, rfl, hg, hz, hc, hb2⟩; refine Hid.out ?_)
   have hB2 := Lib.hid (below_then hb.out hb2)
   have ci2 := (hb2.cell (p := ⟨g, i, none⟩) (World.block_lt_of_cell? _ _ ci)).trans ci
   clear ci HWd hb2
   generalize t.data.toList = l at *
   by_cases hk : k = 0
   ·subst hk
    have hx := Lib.hid (nxt.out [] (.inl ⟨no_word hz, rfl⟩))
    rw [List.append_nil] at hx
    clear nxt bad hg hz hc hol
    refine Lib.hid ?_
    go_wp2
    go_roundw
    case rel => exact ⟨i + 1, o, by omega, by go_num, rfl, hx, hB2⟩
    case measure => simp [intOf]; omega
   ·obtain ⟨c, r, hw⟩ := some_word hg (by omega)
    obtain ⟨g2, rfl, hcc⟩ := hc (by omega)
    have c0 := hcc 0 (by omega)
    rw [show behind l 0 = l from rfl, hw] at c0
    have hkn : 0 < k := by omega
    have hk0 : (0 : Int) < (k : Int) := by omega
    have hk2 : ¬ (k : Int) = 0 := by omega
    have hI : hasI l ↔ c ≠ 59 := ⟨fun ⟨_, _, e, h⟩ => by rw [hw] at e; cases e; exact h, fun h => ⟨c, r, hw, h⟩⟩
    obtain ⟨X, hX⟩ : ∃ X : ByteArray, (⟨(c :: r).toArray⟩ : ByteArray) = X := ⟨_, rfl⟩
    have hXs : 0 < X.size := by rw [← hX, bsize]; simp
    have hX0 : X[0]'hXs = c := by subst hX; rfl
    have hXi : (0 : Int) < (X.size : Int) := by omega
    rw [hX] at c0
    have hX0i : ((X[0]'hXs).toNat : Int) = (c.toNat : Int) := by rw [hX0]
    clear hX hcc hg hz hc hw hX0
    by_cases h59 : c = 59
    ·have hx := Lib.hid (nxt.out [] (.inl ⟨fun h => hI.1 h h59, rfl⟩))
     rw [List.append_nil] at hx
     have hci : (c.toNat : Int) = 59 := by rw [h59]; rfl
     rw [hci] at hX0i
     clear nxt bad hol hI h59
     refine Lib.hid ?_
     go_wp2
     go_roundw
     case rel => exact ⟨i + 1, o, by omega, by go_num, rfl, hx, hB2⟩
     case measure => simp [intOf]; omega
    ·have hci : ¬ (c.toNat : Int) = 59 := fun h => h59 (UInt8.toNat_inj.mp (by show c.toNat = 59; omega))
     have hcb : ((c.toNat : Int) == 59) = false := by simpa using hci
     have hcn : ¬ c.toNat = 59 := fun h => hci (by omega)
     have hIy := Lib.hid (hI.2 h59)
     clear hI h59
     refine Lib.hid ?_
     go_wp2_with (go_at_call 22; (with_reducible refine (HAs.out _).mono ?_); rintro e w3 ⟨k2, out, ok, hg2, hz2, rfl, hok, hb3⟩; refine Hid.out ?_)
     have hB3 := Lib.hid (below_then hB2.out hb3)
     have hR := Lib.hid (.inr ⟨hIy.out, k2, out, ok, hg2, hz2, hok, rfl⟩ : LineR l (if ok = true then some out else none))
     have hol2 := asm_len hok
     clear hb3 hg2 hz2 hok HAs hB2 hIy c0 hX0i hci hcb hcn ci2
     cases ok
     ·have hx := Lib.hid (fin.out [] (i : Int) w3 (bad.out hR.out) (below_then B1.out hB3.out))
      clear nxt bad hR fin
      refine Lib.hid ?_
      go_wp2
      go_ret2
      exact hx.out
     ·have hx := Lib.hid (nxt.out out hR.out)
      have a1 : ∀ w, (Op.stringOp .add ⟨o.toArray⟩ ⟨out.toArray⟩).run Tryz.prog w = .ok (.string ⟨(o ++ out).toArray⟩) w := fun w => cat_big o out (by omega) w
      obtain ⟨o2, ho2⟩ : ∃ o2, o ++ out = o2 := ⟨_, rfl⟩
      rw [ho2] at a1
      rw [ho2] at hx
      clear nxt bad hR ho2 hol hol2
      refine Lib.hid ?_
      go_wp2
      go_roundw
      case rel => exact ⟨i + 1, o2, by omega, by go_num, rfl, hx, hB3⟩
      case measure => simp [intOf]; omega
  ·obtain rfl : i = Ls.length := by omega
   have hx := Lib.hid (fin.out o (-1) wr (prog_all (by rw [HLL.out]; exact hp.out)) (below_then B1.out hb.out))
   clear hp
   go_wp2
   go_ret2
   exact hx.out
end Go.Proofs.YtboeaeoefoabdaaGreatDoor
namespace Go.Proofs.YtboeaeoefoabdaaGreatDoor
open Go.RowKit
theorem codesAt_lt (s : ByteArray) (k : Nat) : (codesAt s k).Pairwise (· < ·) := by
 unfold codesAt
 refine List.Pairwise.map _ (fun a b h => ?_) ((List.pairwise_lt_range).filter _)
 omega
theorem codesAt_in {s : ByteArray} {k i : Nat} (hi : i < k) (h0 : (rowAt i).1 ≠ noB) (h1 : (rowAt i).1 = s) : (i : Int) ∈ codesAt s k := by
 unfold codesAt
 refine List.mem_map.2 ⟨i, List.mem_filter.2 ⟨List.mem_range.2 hi, decide_eq_true ⟨h0, h1⟩⟩, rfl⟩
def IsL (S : List UInt8) (lo hi : Int) (z : Int) : Prop := opT (rowAt z.toNat).1 (rowAt z.toNat).2 lo hi = S
theorem codes_name {S : List UInt8} {name : ByteArray} (hn : name.data.toList = nameL S) {j : Nat} (hj : j < 256) (h : IsOp S j) : (j : Int) ∈ codesAt name 256 := by
 have e := is_name hj h
 refine codesAt_in hj h.1 (ByteArray.ext (Array.toList_inj.mp ?_))
 rw [← e, hn]
theorem codes_hit {S : List UInt8} {name : ByteArray} (hn : name.data.toList = nameL S) {lo hi : Int} (hlo : lo = rh (trimT (restB S)) % 256) (hhi : hi = rh (trimT (restB S)) / 256 % 256) {i : Nat} (h : i < (codesAt name 256).length) (hy : IsL S lo hi (codesAt name 256)[i]) (hp : ∀ j (hj : j < i), ¬ IsL S lo hi ((codesAt name 256)[j]'(by omega))) :
  AsmOk S ([UInt8.ofNat ((codesAt name 256)[i]).toNat, UInt8.ofNat (lo % 256).toNat, UInt8.ofNat (hi % 256).toNat].take (modeSz (rowAt ((codesAt name 256)[i]).toNat).2).toNat) true := by
 obtain ⟨c, hc, e, h0, h1⟩ := codesAt_mem name 256 _ (List.getElem_mem h)
 have ec : ((codesAt name 256)[i]).toNat = c := by omega
 unfold IsL at hy
 rw [ec] at hy ⊢
 refine .inl ⟨rfl, c, lo, hi, hc, h0, hy, fun j hj hop => ?_, rfl⟩
 have hm := codes_name hn (by omega) hop
 obtain ⟨n, hn1, hn2⟩ := List.mem_iff_getElem.1 hm
 have hlt : n < i := by
  rcases Nat.lt_or_ge n i with h | h
  ·exact h
  ·exfalso
   rcases Nat.eq_or_lt_of_le h with h | h
   ·subst h; omega
   ·have := List.pairwise_iff_getElem.1 (codesAt_lt name 256) i n (by omega) hn1 h
    omega
 refine hp n hlt ?_
 unfold IsL
 have ej : ((codesAt name 256)[n]).toNat = j := by omega
 rw [ej, hlo, hhi]
 exact (is_impl (by omega) hop.1).1 hop
theorem codes_miss {S : List UInt8} {name : ByteArray} (hn : name.data.toList = nameL S) {lo hi : Int} (hlo : lo = rh (trimT (restB S)) % 256) (hhi : hi = rh (trimT (restB S)) / 256 % 256) (hp : ∀ j (hj : j < (codesAt name 256).length), ¬ IsL S lo hi ((codesAt name 256)[j])) : AsmOk S [] false := by
 refine .inr ⟨rfl, rfl, fun j hj hop => ?_⟩
 obtain ⟨n, hn1, hn2⟩ := List.mem_iff_getElem.1 (codes_name hn hj hop)
 refine hp n hn1 ?_
 unfold IsL
 have ej : ((codesAt name 256)[n]).toNat = j := by omega
 rw [ej, hlo, hhi]
 exact (is_impl hj hop.1).1 hop
theorem codes_byte (name : ByteArray) (i : Nat) (h : i < (codesAt name 256).length) : ∃ c : Nat, c < 256 ∧ (codesAt name 256)[i] = (c : Int) ∧ (rowAt c).1 ≠ noB := by
 obtain ⟨c, hc, e, h0, _⟩ := codesAt_mem name 256 _ (List.getElem_mem h)
 exact ⟨c, hc, e, h0⟩
theorem codes_hit2 {S : List UInt8} {name : ByteArray} {zs : List Int} (ez : codesAt name 256 = zs) (hn : name.data.toList = nameL S) {lo hi : Int} (hlo : lo = rh (trimT (restB S)) % 256) (hhi : hi = rh (trimT (restB S)) / 256 % 256) (i : Nat) (h : i < zs.length) (hy : IsL S lo hi zs[i]) (hp : ∀ j (hj : j < i), ¬ IsL S lo hi (zs[j]'(by omega))) :
  AsmOk S ([UInt8.ofNat (zs[i]).toNat, UInt8.ofNat (lo % 256).toNat, UInt8.ofNat (hi % 256).toNat].take (modeSz (rowAt (zs[i]).toNat).2).toNat) true := by
 subst ez
 exact codes_hit hn hlo hhi h hy hp
theorem codes_miss2 {S : List UInt8} {name : ByteArray} {zs : List Int} (ez : codesAt name 256 = zs) (hn : name.data.toList = nameL S) {lo hi : Int} (hlo : lo = rh (trimT (restB S)) % 256) (hhi : hi = rh (trimT (restB S)) / 256 % 256) (hp : ∀ j (hj : j < zs.length), ¬ IsL S lo hi (zs[j])) : AsmOk S [] false := by
 subst ez
 exact codes_miss hn hlo hhi hp
theorem codes_byte2 {name : ByteArray} {zs : List Int} (ez : codesAt name 256 = zs) (i : Nat) (h : i < zs.length) : ∃ c : Nat, c < 256 ∧ zs[i] = (c : Int) ∧ (rowAt c).1 ≠ noB := by
 subst ez
 exact codes_byte name i h
end Go.Proofs.YtboeaeoefoabdaaGreatDoor
namespace Go.Proofs.YtboeaeoefoabdaaGreatDoor
def B8 (x : Int) : BitVec 8 := BitVec.ofInt 8 x
def bop (op : BinOp) (a b : BitVec 8) : BitVec 8 :=
 match op with
 | .and => a &&& b
 | .or => a ||| b
 | .xor => a ^^^ b
 | _ => a &&& ~~~b
theorem B8_nat (x : Int) : ((B8 x).toNat : Int) = x % 256 := by
 unfold B8
 rw [BitVec.toNat_ofInt]
 have : ((2 ^ 8 : Nat) : Int) = 256 := by decide
 rw [this]
 omega
theorem B8_eq {x y : Int} (h : x % 256 = y % 256) : B8 x = B8 y := by
 apply BitVec.eq_of_toNat_eq
 have h1 := B8_nat x
 have h2 := B8_nat y
 omega
theorem B8_wrap (k : IntKind) (n : Int) : B8 (k.wrap n) = B8 n := by
 apply B8_eq
 cases k <;> simp [IntKind.wrap, IntKind.bits, IntKind.signed] <;> (try split) <;> omega
theorem bits_ge (k : IntKind) : 8 ≤ k.bits := by cases k <;> decide
theorem B8_wide {w : Nat} (hw : 8 ≤ w) (x : Int) : (BitVec.ofInt w x).setWidth 8 = B8 x := by
 apply BitVec.eq_of_toNat_eq
 have h1 := B8_nat x
 rw [BitVec.toNat_setWidth, BitVec.toNat_ofInt]
 obtain ⟨d, rfl⟩ : ∃ d, w = 8 + d := ⟨w - 8, by omega⟩
 have hd : (2 ^ 8 : Nat) ∣ 2 ^ (8 + d) := Nat.pow_dvd_pow 2 (by omega)
 have hz : ((2 ^ 8 : Nat) : Int) ∣ ((2 ^ (8 + d) : Nat) : Int) := Int.natCast_dvd_natCast.2 hd
 have h2 : (x % ((2 ^ (8 + d) : Nat) : Int)) % ((2 ^ 8 : Nat) : Int) = x % ((2 ^ 8 : Nat) : Int) := Int.emod_emod_of_dvd x hz
 have h3 : 0 ≤ x % ((2 ^ (8 + d) : Nat) : Int) := Int.emod_nonneg _ (by have := Nat.two_pow_pos (8 + d); omega)
 have e : ((2 ^ 8 : Nat) : Int) = 256 := by decide
 rw [e] at h2
 have e2 : (2 ^ 8 : Nat) = 256 := by decide
 rw [e2]
 generalize x % ((2 ^ (8 + d) : Nat) : Int) = y at h2 h3 ⊢
 omega
theorem B8_bits (op : BinOp) (k : IntKind) (x y : Int) : B8 (bits op k x y) = bop op (B8 x) (B8 y) := by
 unfold bits
 simp only []
 rw [B8_wrap]
 have hk := bits_ge k
 unfold B8
 rw [BitVec.ofInt_natCast, BitVec.ofNat_toNat]
 have hx := B8_wide hk x
 have hy := B8_wide hk y
 unfold B8 at hx hy
 unfold bop
 cases op <;> simp only [BitVec.setWidth_and, BitVec.setWidth_or, BitVec.setWidth_xor, BitVec.setWidth_not hk, hx, hy]
theorem B8_val (x : Int) (h0 : 0 ≤ x) (h1 : x < 256) : x = ((B8 x).toNat : Int) := by rw [B8_nat]; omega
theorem and_small (x m : Int) (hm : 0 ≤ m ∧ m < 256) : 0 ≤ bits .and .i64 x m ∧ bits .and .i64 x m < 256 := by
 obtain ⟨n, rfl⟩ : ∃ n : Nat, m = n := ⟨m.toNat, by omega⟩
 have hn : n < 256 := by omega
 unfold bits
 simp only [IntKind.wrap_i64]
 have h : (BitVec.ofInt IntKind.i64.bits x &&& BitVec.ofInt IntKind.i64.bits (n : Int)).toNat ≤ n := by
  rw [BitVec.ofInt_natCast, BitVec.toNat_and, BitVec.toNat_ofNat]
  exact Nat.le_trans Nat.and_le_right (Nat.mod_le _ _)
 generalize (BitVec.ofInt IntKind.i64.bits x &&& BitVec.ofInt IntKind.i64.bits (n : Int)).toNat = z at h
 omega
theorem and_val (x m : Int) (hm : 0 ≤ m ∧ m < 256) : bits .and .i64 x m = ((B8 x &&& B8 m).toNat : Int) := by
 have h := and_small x m hm
 rw [B8_val _ h.1 h.2, B8_bits]
 rfl
def w8 (p f : BitVec 8) (on : Bool) : BitVec 8 := if on then p ||| f else p &&& ~~~f
theorem and_255 (a : Int) : bits .and .i64 a 255 = a % 256 := by
 rw [and_val a 255 (by omega), show B8 255 = BitVec.allOnes 8 by decide, BitVec.and_allOnes, B8_nat]
end Go.Proofs.YtboeaeoefoabdaaGreatDoor
