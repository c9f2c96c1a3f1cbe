/-
  Plain facts on sums of two bytes and what is noted of them, by twos and by tens.
  Conditions: as each lemma says.
-/
import Derived.Test.YtboeaeoefoabdaaDoorBvA
namespace Go.Proofs.YtboeaeoefoabdaaDoor
theorem cI_mod (p : Int) : cI (p % 256) = cI p := by unfold cI; rw [B8_mod]
theorem tst_mod (p f : Int) : tst (p % 256) f = tst p f := by unfold tst; rw [B8_mod]
/-- Notes with N and Z of a byte noted. -/
def nzI (p v : Int) : Int := wI (wI p 128 (tst v 128)) 2 (!tst v 255)
theorem nzI_bd (p v : Int) : 0 ≤ nzI p v ∧ nzI p v < 256 := wI_bd _ _ _
theorem nzI_mod (p v : Int) : nzI (p % 256) v = nzI p v := by unfold nzI; rw [wI_mod]
theorem nzI_mod' (p v : Int) : nzI p (v % 256) = nzI p v := by unfold nzI; rw [tst_mod, tst_mod]
theorem nzI_congr (p : Int) {v v' : Int} (h : v % 256 = v' % 256) : nzI p v = nzI p v' := by rw [← nzI_mod', h, nzI_mod']
/-- Whether both bytes agree on their highest bit, and a third one has another. -/
def sg (a b r : Int) : Bool := (B8 a ^^^ B8 r) &&& (B8 b ^^^ B8 r) &&& 128 != 0
theorem sg_mod (a b r : Int) : sg (a % 256) (b % 256) r = sg a b r := by unfold sg; rw [B8_mod, B8_mod]
theorem sg_mod' (a b r : Int) : sg a b (r % 256) = sg a b r := by unfold sg; rw [B8_mod]
theorem sg_i64 (a b r : Int) : (bits .and .i64 (bits .and .i64 (bits .xor .i64 a r) (bits .xor .i64 b r)) 128 != 0) = sg a b r := by
  rw [tst_i64 _ 128 (by omega)]; unfold tst; rw [B8_bits, B8_bits, B8_bits]; rfl
theorem sg_u8 (a b r : Int) : tst (bits .and .u8 (bits .xor .u8 a r) (bits .xor .u8 b r)) 128 = sg a b r := by
  unfold tst; rw [B8_bits, B8_bits, B8_bits]; rfl
def rI (p a b : Int) : Int := a % 256 + b % 256 + cI p
def binN (p a b : Int) : Int := wI (wI (nzI p (rI p a b)) 64 (sg a b (rI p a b))) 1 (decide (255 < rI p a b))
def lowI (l : Int) : Int := if 9 < l then (l + 6) % 16 + 16 else l
def sI (p a b : Int) : Int := a % 256 / 16 * 16 + b % 256 / 16 * 16 + lowI (a % 16 + b % 16 + cI p)
def upI (s : Int) : Int := if 160 ≤ s then s + 96 else s
def tenN (p a b : Int) : Int := wI (wI (wI (nzI p (rI p a b)) 128 (tst (sI p a b) 128)) 64 (sg a b (sI p a b))) 1 (decide (256 ≤ upI (sI p a b)))
/-- The notes of a sum, and its byte. -/
def addN (p a b : Int) : Int := if tst p 8 then tenN p a b else binN p a b
def addR (p a b : Int) : Int := if tst p 8 then upI (sI p a b) % 256 else rI p a b % 256
theorem rI_mod (p a b : Int) : rI (p % 256) (a % 256) (b % 256) = rI p a b := by unfold rI; rw [cI_mod]; omega
theorem sI_mod (p a b : Int) : sI (p % 256) (a % 256) (b % 256) = sI p a b := by
  unfold sI; rw [cI_mod, show a % 256 % 16 = a % 16 by omega, show b % 256 % 16 = b % 16 by omega, Int.emod_emod, Int.emod_emod]
theorem binN_mod (p a b : Int) : binN (p % 256) (a % 256) (b % 256) = binN p a b := by unfold binN; rw [rI_mod, nzI_mod, sg_mod]
theorem tenN_mod (p a b : Int) : tenN (p % 256) (a % 256) (b % 256) = tenN p a b := by unfold tenN; rw [rI_mod, sI_mod, nzI_mod, sg_mod]
theorem addN_mod (p a b : Int) : addN (p % 256) (a % 256) (b % 256) = addN p a b := by unfold addN; rw [tst_mod, binN_mod, tenN_mod]
theorem addR_mod (p a b : Int) : addR (p % 256) (a % 256) (b % 256) = addR p a b := by unfold addR; rw [tst_mod, rI_mod, sI_mod]
theorem addN_bd (p a b : Int) : 0 ≤ addN p a b ∧ addN p a b < 256 := by unfold addN tenN binN; split <;> exact wI_bd _ _ _
theorem addR_bd (p a b : Int) : 0 ≤ addR p a b ∧ addR p a b < 256 := by unfold addR; split <;> omega
theorem w8_bit (p f : BitVec 8) (on : Bool) (i : Nat) (hi : i < 8) : (w8 p f on).getLsbD i = if f.getLsbD i then on else p.getLsbD i := by
  unfold w8
  cases on
  · rw [if_neg (by decide), BitVec.getLsbD_and, BitVec.getLsbD_not]
    cases f.getLsbD i <;> simp only [hi, decide_true, Bool.not_false, Bool.and_true, Bool.not_true, Bool.and_false, if_true, if_false, Bool.false_eq_true]
  · rw [if_pos rfl, BitVec.getLsbD_or]
    cases f.getLsbD i <;> simp only [Bool.or_false, Bool.or_true, if_true, if_false, Bool.false_eq_true]
/-- Which bits are set first makes no difference where they are others; the last of one bit counts. -/
theorem w8_same (p f : BitVec 8) (a b : Bool) : w8 (w8 p f a) f b = w8 p f b := by
  apply BitVec.eq_of_getLsbD_eq
  intro i hi
  rw [w8_bit _ _ _ _ hi, w8_bit _ _ _ _ hi, w8_bit _ _ _ _ hi]
  split <;> rfl
theorem w8_swap (p f g : BitVec 8) (a b : Bool) (h : f &&& g = 0) : w8 (w8 p f a) g b = w8 (w8 p g b) f a := by
  apply BitVec.eq_of_getLsbD_eq
  intro i hi
  have h2 : (f.getLsbD i && g.getLsbD i) = false := by rw [← BitVec.getLsbD_and, h]; simp
  rw [w8_bit _ _ _ _ hi, w8_bit _ _ _ _ hi, w8_bit _ _ _ _ hi, w8_bit _ _ _ _ hi]
  cases hf : f.getLsbD i <;> cases hg : g.getLsbD i <;> simp_all
theorem wI_eq {p f p' f' : Int} {a a' : Bool} (h : w8 (B8 p) (B8 f) a = w8 (B8 p') (B8 f') a') : wI p f a = wI p' f' a' := by unfold wI; rw [h]
/-- The notes of a sum by tens, laid over those of the plain sum. -/
theorem ten_over (p : Int) (b1 b2 b3 b4 b5 : Bool) :
    wI (wI (wI (wI (wI p 64 b1) 1 b2) 128 b3) 64 b4) 1 b5 = wI (wI (wI p 128 b3) 64 b4) 1 b5 := by
  apply wI_eq
  simp only [wI_B8, show B8 64 = 64 by decide, show B8 1 = 1 by decide, show B8 128 = 128 by decide]
  generalize B8 p = P
  rw [w8_swap (w8 P 64 b1) 1 128 b2 b3 (by decide), w8_swap P 64 128 b1 b3 (by decide), w8_swap (w8 (w8 P 128 b3) 64 b1) 1 64 b2 b4 (by decide), w8_same _ 64, w8_same _ 1]
theorem ten_close (p a b s u : Int) (ht : tst p 8 = true) (hs : sI p a b = s) (hu : upI s = u) :
    wI (wI (wI (nzI p (a % 256 + b % 256 + cI p)) 128 (bits .and .i64 s 128 != 0)) 64 (bits .and .i64 (bits .and .i64 (bits .xor .i64 (a % 256) s) (bits .xor .i64 (b % 256) s)) 128 != 0)) 1 (decide (256 ≤ u)) = addN p a b ∧
    bits .and .i64 u 255 = addR p a b := by
  subst hs hu
  rw [sg_i64, sg_mod, tst_i64 _ 128 (by omega), and_255]
  unfold addN addR tenN
  rw [if_pos ht, if_pos ht]
  exact ⟨rfl, rfl⟩
theorem bin_close (p a b : Int) (ha : 0 ≤ a ∧ a < 256) (hb : 0 ≤ b ∧ b < 256) :
    wI (wI (nzI p ((a + b + cI p) % 256)) 64 (sg a b ((a + b + cI p) % 256))) 1 (decide (255 < a + b + cI p)) = binN p a b ∧ (a + b + cI p) % 256 = rI p a b % 256 := by
  unfold binN rI
  rw [Int.emod_eq_of_lt ha.1 ha.2, Int.emod_eq_of_lt hb.1 hb.2, nzI_mod', sg_mod']
  exact ⟨rfl, rfl⟩
theorem ten_close2 (p a b s u : Int) (hs : sI p a b = s) (hu : upI s = u) :
    wI (wI (wI (binN p a b) 128 (tst (s % 256) 128)) 64 (sg a b (s % 256))) 1 (decide (255 < u)) = tenN p a b ∧ u % 256 = upI (sI p a b) % 256 := by
  subst hs hu
  refine ⟨?_, rfl⟩
  rw [tst_mod, sg_mod']
  unfold binN
  rw [ten_over]
  unfold tenN
  rw [show (decide (255 < upI (sI p a b))) = decide (256 ≤ upI (sI p a b)) from decide_eq_decide.2 (by omega)]
end Go.Proofs.YtboeaeoefoabdaaDoor
