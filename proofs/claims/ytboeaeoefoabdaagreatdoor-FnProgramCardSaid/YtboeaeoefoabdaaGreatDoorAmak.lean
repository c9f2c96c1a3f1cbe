/-
  Texts put together by program: AsP.
  Conditions: as each theorem says.
-/
import Derived.Test.YtboeaeoefoabdaaGreatDoorAmaj
namespace Go.Proofs.YtboeaeoefoabdaaGreatDoor
open Go.RowKit
def Dig (c : UInt8) : Prop := 0 ≤ hxv c.toNat ∧ c ≠ 36 ∧ c ≠ 32 ∧ c ≠ 35 ∧ c ≠ 40 ∧ c ≠ 41 ∧ c ≠ 44 ∧ c ≠ 88 ∧ c ≠ 89
theorem dig_tab : ∀ m : Fin 16, Dig (hexTab.getD m.val 0) := by unfold Dig; decide
theorem dig_at (n : Int) (k : Nat) : Dig (hexAt n k) := by
 unfold hexAt
 have h := dig_tab ⟨((n / 16 ^ k) % 16).toNat, by omega⟩
 exact h
def isHx (c : UInt8) : Bool := decide (0 ≤ hxv c.toNat)
def behindS (S : List UInt8) : List UInt8 := (S.dropWhile (fun c => c != 36)).drop 1
def digsL (S : List UInt8) : List UInt8 := (behindS S).takeWhile isHx
noncomputable def numN (S : List UInt8) : Int := if 36 ∈ S then rh (digsL S) else 0
def numD (S : List UInt8) : Int := if 36 ∈ S then ((digsL S).length : Int) else 0
def setT : List UInt8 := [35, 36, 40, 41, 44, 88, 89]
def inT (c : UInt8) : Bool := setT.contains c
def trimT (l : List UInt8) : List UInt8 := ((l.reverse.dropWhile inT).reverse).dropWhile inT
def Cap (N : List UInt8) : Prop := ∀ c ∈ N, c ≠ 36 ∧ c ≠ 32
theorem cap_noS {N : List UInt8} (h : Cap N) : NoS N := fun c hc => (h c hc).2
theorem cap_name (N r : List UInt8) (h : Cap N) : nameL (N ++ 32 :: r) = N ∧ restB (N ++ 32 :: r) = r := cut_at N r (cap_noS h)
theorem cap_name_nil (N : List UInt8) (h : Cap N) : nameL N = N ∧ restB N = [] := cut_nil N (cap_noS h)
theorem cap_no (N : List UInt8) (h : Cap N) : ¬ 36 ∈ N := fun hx => (h 36 hx).1 rfl
theorem cap_more (N p : List UInt8) (hN : Cap N) (hp : ∀ c ∈ p, c ≠ 36) : ∀ r, (N ++ (32 :: p) ++ 36 :: r).dropWhile (fun c => c != 36) = 36 :: r := by
 intro r
 have h : ∀ c ∈ N ++ 32 :: p, c ≠ 36 := by
  intro c hc
  simp only [List.mem_append, List.mem_cons] at hc
  rcases hc with hc | rfl | hc
  ·exact (hN c hc).1
  ·decide
  ·exact hp c hc
 generalize N ++ 32 :: p = Q at *
 induction Q with
 | nil => simp
 | cons c Q ih =>
  have hc := h c (by simp)
  rw [List.cons_append, List.dropWhile_cons, if_pos (by simp [hc])]
  exact ih fun x hx => h x (by simp [hx])
theorem num_op (N p ds r : List UInt8) (hN : Cap N) (hp : ∀ c ∈ p, c ≠ 36) (hd : ∀ c ∈ ds, Dig c) (hr : r = [] ∨ ∃ c r', r = c :: r' ∧ isHx c = false) : 36 ∈ (N ++ (32 :: p) ++ 36 :: (ds ++ r)) ∧ digsL (N ++ (32 :: p) ++ 36 :: (ds ++ r)) = ds := by
 refine ⟨by simp, ?_⟩
 unfold digsL behindS
 rw [cap_more N p hN hp]
 show (ds ++ r).takeWhile isHx = ds
 have hq : r.takeWhile isHx = [] := by
  rcases hr with rfl | ⟨c, r', rfl, hc⟩
  ·rfl
  ·rw [List.takeWhile_cons, hc]; rfl
 have ha : ∀ c ∈ ds, isHx c = true := fun c hc => decide_eq_true (hd c hc).1
 rw [List.takeWhile_append_of_pos ha, hq, List.append_nil]
theorem drop_in (p r : List UInt8) (hp : ∀ c ∈ p, inT c = true) : (p ++ r).dropWhile inT = r.dropWhile inT := by
 induction p with
 | nil => rfl
 | cons c p ih => rw [List.cons_append, List.dropWhile_cons, if_pos (hp c (by simp))]; exact ih fun x hx => hp x (by simp [hx])
theorem dig_out {c : UInt8} (h : Dig c) : inT c = false := by
 unfold inT setT
 obtain ⟨_, h1, _, h2, h3, h4, h5, h6, h7⟩ := h
 simp [*]
theorem trim_op (p ds s : List UInt8) (hp : ∀ c ∈ p, inT c = true) (hs : ∀ c ∈ s, inT c = true) (hd : ∀ c ∈ ds, Dig c) : trimT (p ++ (ds ++ s)) = ds := by
 unfold trimT
 rw [List.reverse_append, List.reverse_append, List.append_assoc, drop_in s.reverse _ (fun x hx => hs x (by simpa using hx))]
 cases ds with
 | nil =>
  have : p.reverse.dropWhile inT = [] := by
   have := drop_in p.reverse [] (fun x hx => hp x (by simpa using hx))
   simpa using this
  simp [this]
 | cons c ds =>
  obtain ⟨q, x, e⟩ : ∃ q x, c :: ds = q ++ [x] := ⟨(c :: ds).dropLast, (c :: ds).getLast (by simp), (List.dropLast_concat_getLast (by simp)).symm⟩
  have hx := dig_out (hd x (by rw [e]; simp))
  have hc := dig_out (hd c (by simp))
  have h1 : ((c :: ds).reverse ++ p.reverse).dropWhile inT = (c :: ds).reverse ++ p.reverse := by
   rw [e]; simp [hx]
  rw [h1, List.reverse_append, List.reverse_reverse, List.reverse_reverse, drop_in p _ hp, List.dropWhile_cons, if_neg (by simp [hc])]
theorem dig_two (n : Int) : ∀ c ∈ hexl n 2, Dig c := by
 intro c hc
 unfold hexl at hc
 simp only [List.mem_map] at hc
 obtain ⟨j, _, rfl⟩ := hc
 exact dig_at n _
theorem dig_four (h n : Int) : ∀ c ∈ hexl h 2 ++ hexl n 2, Dig c := by
 intro c hc
 rcases List.mem_append.1 hc with hc | hc
 ·exact dig_two h c hc
 ·exact dig_two n c hc
theorem rhq_two (n : Int) : rh (hexl n 2) = n % 256 := by rw [rh_hexl n 2 (by omega) (by omega)]; rfl
theorem hexl_four (h n : Int) : hexl h 2 ++ hexl n 2 = hexl (256 * (h % 256) + n % 256) 4 := by
 show [hexAt h 1, hexAt h 0, hexAt n 1, hexAt n 0] = [hexAt _ 3, hexAt _ 2, hexAt _ 1, hexAt _ 0]
 have e3 : hexAt h 1 = hexAt (256 * (h % 256) + n % 256) 3 := by unfold hexAt; congr 2; simp; omega
 have e2 : hexAt h 0 = hexAt (256 * (h % 256) + n % 256) 2 := by unfold hexAt; congr 2; simp; omega
 have e1 : hexAt n 1 = hexAt (256 * (h % 256) + n % 256) 1 := by unfold hexAt; congr 2; simp; omega
 have e0 : hexAt n 0 = hexAt (256 * (h % 256) + n % 256) 0 := by unfold hexAt; congr 2; simp; omega
 rw [e3, e2, e1, e0]
theorem rhq_four (h n : Int) : rh (hexl h 2 ++ hexl n 2) = 256 * (h % 256) + n % 256 := by
 rw [hexl_four, rh_hexl _ 4 (by omega) (by omega)]
 have e : (16 : Int) ^ 4 = 65536 := by decide
 rw [e]; omega
def Nums (z : Int) (S : List UInt8) (lo hi : Int) : Prop := (z = 1 ∧ numD S = 0) ∨ (z = 2 ∧ numD S = 2 ∧ numN S = lo % 256 ∧ rh (trimT (restB S)) = lo % 256) ∨ (z = 3 ∧ numD S = 4 ∧ numN S = 256 * (hi % 256) + lo % 256 ∧ rh (trimT (restB S)) = 256 * (hi % 256) + lo % 256)
theorem nums_acc (N : List UInt8) (hN : Cap N) (lo hi : Int) : nameL (opG N ⟨#[97, 99, 99]⟩ (hexl lo 2) (hexl hi 2)) = N ∧ Nums 1 (opG N ⟨#[97, 99, 99]⟩ (hexl lo 2) (hexl hi 2)) lo hi := by
 rw [opG_acc]
 refine ⟨(cap_name N _ hN).1, .inl ⟨rfl, ?_⟩⟩
 unfold numD
 rw [if_neg]
 simp only [List.mem_append, List.mem_cons, not_or]
 exact ⟨cap_no N hN, by decide, by decide, by simp⟩
theorem nums_imm (N : List UInt8) (hN : Cap N) (lo hi : Int) : nameL (opG N ⟨#[105, 109, 109]⟩ (hexl lo 2) (hexl hi 2)) = N ∧ Nums 2 (opG N ⟨#[105, 109, 109]⟩ (hexl lo 2) (hexl hi 2)) lo hi := by
 rw [opG_imm]
 have e : N ++ 32 :: ([35, 36] ++ (hexl lo 2)) = N ++ (32 :: [35]) ++ 36 :: (hexl lo 2 ++ []) := by simp
 have e2 : [35, 36] ++ (hexl lo 2) = [35, 36] ++ (hexl lo 2 ++ []) := by simp
 obtain ⟨c1, c2⟩ := cap_name N ([35, 36] ++ (hexl lo 2)) hN
 obtain ⟨n1, n2⟩ := num_op N [35] (hexl lo 2) [] hN (by decide) (dig_two lo) (.inl rfl)
 have t := trim_op [35, 36] (hexl lo 2) [] (by decide) (by decide) (dig_two lo)
 refine ⟨c1, .inr (.inl ⟨rfl, ?_, ?_, ?_⟩)⟩
 ·unfold numD
  rw [e, if_pos n1, n2]
  simp [hexl_length]
 ·unfold numN
  rw [e, if_pos n1, n2]
  exact rhq_two lo
 ·rw [c2, e2, t]
  exact rhq_two lo
theorem nums_zpg (N : List UInt8) (hN : Cap N) (lo hi : Int) : nameL (opG N ⟨#[122, 112, 103]⟩ (hexl lo 2) (hexl hi 2)) = N ∧ Nums 2 (opG N ⟨#[122, 112, 103]⟩ (hexl lo 2) (hexl hi 2)) lo hi := by
 rw [opG_zpg]
 have e : N ++ 32 :: ([36] ++ (hexl lo 2)) = N ++ (32 :: []) ++ 36 :: (hexl lo 2 ++ []) := by simp
 have e2 : [36] ++ (hexl lo 2) = [36] ++ (hexl lo 2 ++ []) := by simp
 obtain ⟨c1, c2⟩ := cap_name N ([36] ++ (hexl lo 2)) hN
 obtain ⟨n1, n2⟩ := num_op N [] (hexl lo 2) [] hN (by decide) (dig_two lo) (.inl rfl)
 have t := trim_op [36] (hexl lo 2) [] (by decide) (by decide) (dig_two lo)
 refine ⟨c1, .inr (.inl ⟨rfl, ?_, ?_, ?_⟩)⟩
 ·unfold numD
  rw [e, if_pos n1, n2]
  simp [hexl_length]
 ·unfold numN
  rw [e, if_pos n1, n2]
  exact rhq_two lo
 ·rw [c2, e2, t]
  exact rhq_two lo
theorem nums_rel (N : List UInt8) (hN : Cap N) (lo hi : Int) : nameL (opG N ⟨#[114, 101, 108]⟩ (hexl lo 2) (hexl hi 2)) = N ∧ Nums 2 (opG N ⟨#[114, 101, 108]⟩ (hexl lo 2) (hexl hi 2)) lo hi := by
 rw [opG_rel]
 have e : N ++ 32 :: ([36] ++ (hexl lo 2)) = N ++ (32 :: []) ++ 36 :: (hexl lo 2 ++ []) := by simp
 have e2 : [36] ++ (hexl lo 2) = [36] ++ (hexl lo 2 ++ []) := by simp
 obtain ⟨c1, c2⟩ := cap_name N ([36] ++ (hexl lo 2)) hN
 obtain ⟨n1, n2⟩ := num_op N [] (hexl lo 2) [] hN (by decide) (dig_two lo) (.inl rfl)
 have t := trim_op [36] (hexl lo 2) [] (by decide) (by decide) (dig_two lo)
 refine ⟨c1, .inr (.inl ⟨rfl, ?_, ?_, ?_⟩)⟩
 ·unfold numD
  rw [e, if_pos n1, n2]
  simp [hexl_length]
 ·unfold numN
  rw [e, if_pos n1, n2]
  exact rhq_two lo
 ·rw [c2, e2, t]
  exact rhq_two lo
theorem nums_zpx (N : List UInt8) (hN : Cap N) (lo hi : Int) : nameL (opG N ⟨#[122, 112, 120]⟩ (hexl lo 2) (hexl hi 2)) = N ∧ Nums 2 (opG N ⟨#[122, 112, 120]⟩ (hexl lo 2) (hexl hi 2)) lo hi := by
 rw [opG_zpx]
 have e : N ++ 32 :: ([36] ++ (hexl lo 2 ++ [44, 88])) = N ++ (32 :: []) ++ 36 :: (hexl lo 2 ++ [44, 88]) := by simp
 have e2 : [36] ++ (hexl lo 2 ++ [44, 88]) = [36] ++ (hexl lo 2 ++ [44, 88]) := by simp
 obtain ⟨c1, c2⟩ := cap_name N ([36] ++ (hexl lo 2 ++ [44, 88])) hN
 obtain ⟨n1, n2⟩ := num_op N [] (hexl lo 2) [44, 88] hN (by decide) (dig_two lo) (.inr ⟨_, _, rfl, by decide⟩)
 have t := trim_op [36] (hexl lo 2) [44, 88] (by decide) (by decide) (dig_two lo)
 refine ⟨c1, .inr (.inl ⟨rfl, ?_, ?_, ?_⟩)⟩
 ·unfold numD
  rw [e, if_pos n1, n2]
  simp [hexl_length]
 ·unfold numN
  rw [e, if_pos n1, n2]
  exact rhq_two lo
 ·rw [c2, e2, t]
  exact rhq_two lo
theorem nums_zpy (N : List UInt8) (hN : Cap N) (lo hi : Int) : nameL (opG N ⟨#[122, 112, 121]⟩ (hexl lo 2) (hexl hi 2)) = N ∧ Nums 2 (opG N ⟨#[122, 112, 121]⟩ (hexl lo 2) (hexl hi 2)) lo hi := by
 rw [opG_zpy]
 have e : N ++ 32 :: ([36] ++ (hexl lo 2 ++ [44, 89])) = N ++ (32 :: []) ++ 36 :: (hexl lo 2 ++ [44, 89]) := by simp
 have e2 : [36] ++ (hexl lo 2 ++ [44, 89]) = [36] ++ (hexl lo 2 ++ [44, 89]) := by simp
 obtain ⟨c1, c2⟩ := cap_name N ([36] ++ (hexl lo 2 ++ [44, 89])) hN
 obtain ⟨n1, n2⟩ := num_op N [] (hexl lo 2) [44, 89] hN (by decide) (dig_two lo) (.inr ⟨_, _, rfl, by decide⟩)
 have t := trim_op [36] (hexl lo 2) [44, 89] (by decide) (by decide) (dig_two lo)
 refine ⟨c1, .inr (.inl ⟨rfl, ?_, ?_, ?_⟩)⟩
 ·unfold numD
  rw [e, if_pos n1, n2]
  simp [hexl_length]
 ·unfold numN
  rw [e, if_pos n1, n2]
  exact rhq_two lo
 ·rw [c2, e2, t]
  exact rhq_two lo
theorem nums_abs (N : List UInt8) (hN : Cap N) (lo hi : Int) : nameL (opG N ⟨#[97, 98, 115]⟩ (hexl lo 2) (hexl hi 2)) = N ∧ Nums 3 (opG N ⟨#[97, 98, 115]⟩ (hexl lo 2) (hexl hi 2)) lo hi := by
 rw [opG_abs]
 have e : N ++ 32 :: ([36] ++ ((hexl hi 2 ++ hexl lo 2))) = N ++ (32 :: []) ++ 36 :: ((hexl hi 2 ++ hexl lo 2) ++ []) := by simp
 have e2 : [36] ++ ((hexl hi 2 ++ hexl lo 2)) = [36] ++ ((hexl hi 2 ++ hexl lo 2) ++ []) := by simp
 obtain ⟨c1, c2⟩ := cap_name N ([36] ++ ((hexl hi 2 ++ hexl lo 2))) hN
 obtain ⟨n1, n2⟩ := num_op N [] ((hexl hi 2 ++ hexl lo 2)) [] hN (by decide) (dig_four hi lo) (.inl rfl)
 have t := trim_op [36] ((hexl hi 2 ++ hexl lo 2)) [] (by decide) (by decide) (dig_four hi lo)
 refine ⟨c1, .inr (.inr ⟨rfl, ?_, ?_, ?_⟩)⟩
 ·unfold numD
  rw [e, if_pos n1, n2]
  simp [hexl_length]
 ·unfold numN
  rw [e, if_pos n1, n2]
  exact rhq_four hi lo
 ·rw [c2, e2, t]
  exact rhq_four hi lo
theorem nums_abx (N : List UInt8) (hN : Cap N) (lo hi : Int) : nameL (opG N ⟨#[97, 98, 120]⟩ (hexl lo 2) (hexl hi 2)) = N ∧ Nums 3 (opG N ⟨#[97, 98, 120]⟩ (hexl lo 2) (hexl hi 2)) lo hi := by
 rw [opG_abx]
 have e : N ++ 32 :: ([36] ++ ((hexl hi 2 ++ hexl lo 2) ++ [44, 88])) = N ++ (32 :: []) ++ 36 :: ((hexl hi 2 ++ hexl lo 2) ++ [44, 88]) := by simp
 have e2 : [36] ++ ((hexl hi 2 ++ hexl lo 2) ++ [44, 88]) = [36] ++ ((hexl hi 2 ++ hexl lo 2) ++ [44, 88]) := by simp
 obtain ⟨c1, c2⟩ := cap_name N ([36] ++ ((hexl hi 2 ++ hexl lo 2) ++ [44, 88])) hN
 obtain ⟨n1, n2⟩ := num_op N [] ((hexl hi 2 ++ hexl lo 2)) [44, 88] hN (by decide) (dig_four hi lo) (.inr ⟨_, _, rfl, by decide⟩)
 have t := trim_op [36] ((hexl hi 2 ++ hexl lo 2)) [44, 88] (by decide) (by decide) (dig_four hi lo)
 refine ⟨c1, .inr (.inr ⟨rfl, ?_, ?_, ?_⟩)⟩
 ·unfold numD
  rw [e, if_pos n1, n2]
  simp [hexl_length]
 ·unfold numN
  rw [e, if_pos n1, n2]
  exact rhq_four hi lo
 ·rw [c2, e2, t]
  exact rhq_four hi lo
theorem nums_aby (N : List UInt8) (hN : Cap N) (lo hi : Int) : nameL (opG N ⟨#[97, 98, 121]⟩ (hexl lo 2) (hexl hi 2)) = N ∧ Nums 3 (opG N ⟨#[97, 98, 121]⟩ (hexl lo 2) (hexl hi 2)) lo hi := by
 rw [opG_aby]
 have e : N ++ 32 :: ([36] ++ ((hexl hi 2 ++ hexl lo 2) ++ [44, 89])) = N ++ (32 :: []) ++ 36 :: ((hexl hi 2 ++ hexl lo 2) ++ [44, 89]) := by simp
 have e2 : [36] ++ ((hexl hi 2 ++ hexl lo 2) ++ [44, 89]) = [36] ++ ((hexl hi 2 ++ hexl lo 2) ++ [44, 89]) := by simp
 obtain ⟨c1, c2⟩ := cap_name N ([36] ++ ((hexl hi 2 ++ hexl lo 2) ++ [44, 89])) hN
 obtain ⟨n1, n2⟩ := num_op N [] ((hexl hi 2 ++ hexl lo 2)) [44, 89] hN (by decide) (dig_four hi lo) (.inr ⟨_, _, rfl, by decide⟩)
 have t := trim_op [36] ((hexl hi 2 ++ hexl lo 2)) [44, 89] (by decide) (by decide) (dig_four hi lo)
 refine ⟨c1, .inr (.inr ⟨rfl, ?_, ?_, ?_⟩)⟩
 ·unfold numD
  rw [e, if_pos n1, n2]
  simp [hexl_length]
 ·unfold numN
  rw [e, if_pos n1, n2]
  exact rhq_four hi lo
 ·rw [c2, e2, t]
  exact rhq_four hi lo
theorem nums_inx (N : List UInt8) (hN : Cap N) (lo hi : Int) : nameL (opG N ⟨#[105, 110, 120]⟩ (hexl lo 2) (hexl hi 2)) = N ∧ Nums 2 (opG N ⟨#[105, 110, 120]⟩ (hexl lo 2) (hexl hi 2)) lo hi := by
 rw [opG_inx]
 have e : N ++ 32 :: ([40, 36] ++ (hexl lo 2 ++ [44, 88, 41])) = N ++ (32 :: [40]) ++ 36 :: (hexl lo 2 ++ [44, 88, 41]) := by simp
 have e2 : [40, 36] ++ (hexl lo 2 ++ [44, 88, 41]) = [40, 36] ++ (hexl lo 2 ++ [44, 88, 41]) := by simp
 obtain ⟨c1, c2⟩ := cap_name N ([40, 36] ++ (hexl lo 2 ++ [44, 88, 41])) hN
 obtain ⟨n1, n2⟩ := num_op N [40] (hexl lo 2) [44, 88, 41] hN (by decide) (dig_two lo) (.inr ⟨_, _, rfl, by decide⟩)
 have t := trim_op [40, 36] (hexl lo 2) [44, 88, 41] (by decide) (by decide) (dig_two lo)
 refine ⟨c1, .inr (.inl ⟨rfl, ?_, ?_, ?_⟩)⟩
 ·unfold numD
  rw [e, if_pos n1, n2]
  simp [hexl_length]
 ·unfold numN
  rw [e, if_pos n1, n2]
  exact rhq_two lo
 ·rw [c2, e2, t]
  exact rhq_two lo
theorem nums_iny (N : List UInt8) (hN : Cap N) (lo hi : Int) : nameL (opG N ⟨#[105, 110, 121]⟩ (hexl lo 2) (hexl hi 2)) = N ∧ Nums 2 (opG N ⟨#[105, 110, 121]⟩ (hexl lo 2) (hexl hi 2)) lo hi := by
 rw [opG_iny]
 have e : N ++ 32 :: ([40, 36] ++ (hexl lo 2 ++ [41, 44, 89])) = N ++ (32 :: [40]) ++ 36 :: (hexl lo 2 ++ [41, 44, 89]) := by simp
 have e2 : [40, 36] ++ (hexl lo 2 ++ [41, 44, 89]) = [40, 36] ++ (hexl lo 2 ++ [41, 44, 89]) := by simp
 obtain ⟨c1, c2⟩ := cap_name N ([40, 36] ++ (hexl lo 2 ++ [41, 44, 89])) hN
 obtain ⟨n1, n2⟩ := num_op N [40] (hexl lo 2) [41, 44, 89] hN (by decide) (dig_two lo) (.inr ⟨_, _, rfl, by decide⟩)
 have t := trim_op [40, 36] (hexl lo 2) [41, 44, 89] (by decide) (by decide) (dig_two lo)
 refine ⟨c1, .inr (.inl ⟨rfl, ?_, ?_, ?_⟩)⟩
 ·unfold numD
  rw [e, if_pos n1, n2]
  simp [hexl_length]
 ·unfold numN
  rw [e, if_pos n1, n2]
  exact rhq_two lo
 ·rw [c2, e2, t]
  exact rhq_two lo
theorem nums_ind (N : List UInt8) (hN : Cap N) (lo hi : Int) : nameL (opG N ⟨#[105, 110, 100]⟩ (hexl lo 2) (hexl hi 2)) = N ∧ Nums 3 (opG N ⟨#[105, 110, 100]⟩ (hexl lo 2) (hexl hi 2)) lo hi := by
 rw [opG_ind]
 have e : N ++ 32 :: ([40, 36] ++ ((hexl hi 2 ++ hexl lo 2) ++ [41])) = N ++ (32 :: [40]) ++ 36 :: ((hexl hi 2 ++ hexl lo 2) ++ [41]) := by simp
 have e2 : [40, 36] ++ ((hexl hi 2 ++ hexl lo 2) ++ [41]) = [40, 36] ++ ((hexl hi 2 ++ hexl lo 2) ++ [41]) := by simp
 obtain ⟨c1, c2⟩ := cap_name N ([40, 36] ++ ((hexl hi 2 ++ hexl lo 2) ++ [41])) hN
 obtain ⟨n1, n2⟩ := num_op N [40] ((hexl hi 2 ++ hexl lo 2)) [41] hN (by decide) (dig_four hi lo) (.inr ⟨_, _, rfl, by decide⟩)
 have t := trim_op [40, 36] ((hexl hi 2 ++ hexl lo 2)) [41] (by decide) (by decide) (dig_four hi lo)
 refine ⟨c1, .inr (.inr ⟨rfl, ?_, ?_, ?_⟩)⟩
 ·unfold numD
  rw [e, if_pos n1, n2]
  simp [hexl_length]
 ·unfold numN
  rw [e, if_pos n1, n2]
  exact rhq_four hi lo
 ·rw [c2, e2, t]
  exact rhq_four hi lo
theorem nums_imp (N : List UInt8) (hN : Cap N) (lo hi : Int) : nameL (opG N ⟨#[105, 109, 112]⟩ (hexl lo 2) (hexl hi 2)) = N ∧ Nums 1 (opG N ⟨#[105, 109, 112]⟩ (hexl lo 2) (hexl hi 2)) lo hi := by
 rw [opG_none _ _ _ _ rfl]
 refine ⟨(cap_name_nil N hN).1, .inl ⟨rfl, ?_⟩⟩
 unfold numD
 rw [if_neg (cap_no N hN)]
def capB (N : ByteArray) : Bool := N.data.toList.all fun c => c != 36 && c != 32
def modesB : List ByteArray := [⟨#[97, 99, 99]⟩, ⟨#[105, 109, 109]⟩, ⟨#[122, 112, 103]⟩, ⟨#[114, 101, 108]⟩, ⟨#[122, 112, 120]⟩, ⟨#[122, 112, 121]⟩, ⟨#[97, 98, 115]⟩, ⟨#[97, 98, 120]⟩, ⟨#[97, 98, 121]⟩, ⟨#[105, 110, 120]⟩, ⟨#[105, 110, 121]⟩, ⟨#[105, 110, 100]⟩, ⟨#[105, 109, 112]⟩]
theorem row_cap : ∀ m : Fin 256, (rowAt m.val).1 = noB ∨ (capB (rowAt m.val).1 = true ∧ modesB.any (fun x => decide (x = (rowAt m.val).2)) = true) := by decide +kernel
theorem cap_of {N : ByteArray} (h : capB N = true) : Cap N.data.toList := by
 intro c hc
 have := List.all_eq_true.1 h c hc
 simpa using this
theorem nums_all (N m : ByteArray) (hN : capB N = true) (hm : m ∈ modesB) (lo hi : Int) : nameL (opT N m lo hi) = N.data.toList ∧ Nums (modeSz m) (opT N m lo hi) lo hi := by
 have h := cap_of hN
 unfold opT
 simp only [modesB, List.mem_cons, List.not_mem_nil, or_false] at hm
 rcases hm with rfl | rfl | rfl | rfl | rfl | rfl | rfl | rfl | rfl | rfl | rfl | rfl | rfl
 ·rw [show modeSz ⟨#[97, 99, 99]⟩ = 1 by decide]; exact nums_acc _ h lo hi
 ·rw [show modeSz ⟨#[105, 109, 109]⟩ = 2 by decide]; exact nums_imm _ h lo hi
 ·rw [show modeSz ⟨#[122, 112, 103]⟩ = 2 by decide]; exact nums_zpg _ h lo hi
 ·rw [show modeSz ⟨#[114, 101, 108]⟩ = 2 by decide]; exact nums_rel _ h lo hi
 ·rw [show modeSz ⟨#[122, 112, 120]⟩ = 2 by decide]; exact nums_zpx _ h lo hi
 ·rw [show modeSz ⟨#[122, 112, 121]⟩ = 2 by decide]; exact nums_zpy _ h lo hi
 ·rw [show modeSz ⟨#[97, 98, 115]⟩ = 3 by decide]; exact nums_abs _ h lo hi
 ·rw [show modeSz ⟨#[97, 98, 120]⟩ = 3 by decide]; exact nums_abx _ h lo hi
 ·rw [show modeSz ⟨#[97, 98, 121]⟩ = 3 by decide]; exact nums_aby _ h lo hi
 ·rw [show modeSz ⟨#[105, 110, 120]⟩ = 2 by decide]; exact nums_inx _ h lo hi
 ·rw [show modeSz ⟨#[105, 110, 121]⟩ = 2 by decide]; exact nums_iny _ h lo hi
 ·rw [show modeSz ⟨#[105, 110, 100]⟩ = 3 by decide]; exact nums_ind _ h lo hi
 ·rw [show modeSz ⟨#[105, 109, 112]⟩ = 1 by decide]; exact nums_imp _ h lo hi
theorem one_same (N m : ByteArray) (hm : m ∈ modesB) (h1 : modeSz m = 1) (a b c d : Int) : opT N m a b = opT N m c d := by
 unfold opT
 simp only [modesB, List.mem_cons, List.not_mem_nil, or_false] at hm
 rcases hm with rfl | rfl | rfl | rfl | rfl | rfl | rfl | rfl | rfl | rfl | rfl | rfl | rfl
 ·rw [opG_acc, opG_acc]
 ·exact absurd h1 (by decide)
 ·exact absurd h1 (by decide)
 ·exact absurd h1 (by decide)
 ·exact absurd h1 (by decide)
 ·exact absurd h1 (by decide)
 ·exact absurd h1 (by decide)
 ·exact absurd h1 (by decide)
 ·exact absurd h1 (by decide)
 ·exact absurd h1 (by decide)
 ·exact absurd h1 (by decide)
 ·exact absurd h1 (by decide)
 ·rw [opG_none _ _ _ _ rfl, opG_none _ _ _ _ rfl]
theorem hexl_mod2 (p : Int) : hexl (p % 256) 2 = hexl p 2 := by
 have e0 : hexAt (p % 256) 0 = hexAt p 0 := by unfold hexAt; congr 2; simp
 have e1 : hexAt (p % 256) 1 = hexAt p 1 := by unfold hexAt; congr 2; simp; omega
 show [hexAt _ 1, hexAt _ 0] = [hexAt _ 1, hexAt _ 0]
 rw [e0, e1]
theorem hexl_same2 {p q : Int} (h : p % 256 = q % 256) : hexl p 2 = hexl q 2 := by rw [← hexl_mod2 p, ← hexl_mod2 q, h]
theorem opT_same (N m : ByteArray) {a b c d : Int} (h1 : a % 256 = c % 256) (h2 : b % 256 = d % 256) : opT N m a b = opT N m c d := by
 unfold opT; rw [hexl_same2 h1, hexl_same2 h2]
theorem two_same (N m : ByteArray) (hm : m ∈ modesB) (h2 : modeSz m = 2) {a b c d : Int} (h1 : a % 256 = c % 256) : opT N m a b = opT N m c d := by
 unfold opT
 rw [hexl_same2 h1]
 simp only [modesB, List.mem_cons, List.not_mem_nil, or_false] at hm
 rcases hm with rfl | rfl | rfl | rfl | rfl | rfl | rfl | rfl | rfl | rfl | rfl | rfl | rfl
 ·exact absurd h2 (by decide)
 ·rw [opG_imm, opG_imm]
 ·rw [opG_zpg, opG_zpg]
 ·rw [opG_rel, opG_rel]
 ·rw [opG_zpx, opG_zpx]
 ·rw [opG_zpy, opG_zpy]
 ·exact absurd h2 (by decide)
 ·exact absurd h2 (by decide)
 ·exact absurd h2 (by decide)
 ·rw [opG_inx, opG_inx]
 ·rw [opG_iny, opG_iny]
 ·exact absurd h2 (by decide)
 ·exact absurd h2 (by decide)
def IsOp (S : List UInt8) (c : Nat) : Prop := (rowAt c).1 ≠ noB ∧ ∃ lo hi : Int, opT (rowAt c).1 (rowAt c).2 lo hi = S
theorem row_good {c : Nat} (hc : c < 256) (h : (rowAt c).1 ≠ noB) : capB (rowAt c).1 = true ∧ (rowAt c).2 ∈ modesB := by
 rcases row_cap ⟨c, hc⟩ with h' | h'
 ·exact absurd h' h
 ·refine ⟨h'.1, ?_⟩
  obtain ⟨x, hx, he⟩ := List.any_eq_true.1 h'.2
  rw [← of_decide_eq_true he]; exact hx
theorem is_name {S : List UInt8} {c : Nat} (hc : c < 256) (h : IsOp S c) : nameL S = (rowAt c).1.data.toList := by
 obtain ⟨h0, lo, hi, rfl⟩ := h
 obtain ⟨g1, g2⟩ := row_good hc h0
 exact (nums_all _ _ g1 g2 lo hi).1
theorem is_spec {S : List UInt8} {c : Nat} (hc : c < 256) (h0 : (rowAt c).1 ≠ noB) : IsOp S c ↔ (numD S = 2 * modeSz (rowAt c).2 - 2 ∧ opT (rowAt c).1 (rowAt c).2 (numN S) (numN S / 256) = S) := by
 obtain ⟨g1, g2⟩ := row_good hc h0
 constructor
 ·rintro ⟨_, lo, hi, rfl⟩
  rcases (nums_all _ _ g1 g2 lo hi).2 with ⟨z, d⟩ | ⟨z, d, n, _⟩ | ⟨z, d, n, _⟩
  ·exact ⟨by rw [d, z]; rfl, one_same _ _ g2 z _ _ _ _⟩
  ·exact ⟨by rw [d, z]; rfl, two_same _ _ g2 z (by rw [n]; omega)⟩
  ·exact ⟨by rw [d, z]; rfl, opT_same _ _ (by rw [n]; omega) (by rw [n]; omega)⟩
 ·rintro ⟨_, h⟩
  exact ⟨h0, _, _, h⟩
theorem is_impl {S : List UInt8} {c : Nat} (hc : c < 256) (h0 : (rowAt c).1 ≠ noB) : IsOp S c ↔ opT (rowAt c).1 (rowAt c).2 (rh (trimT (restB S)) % 256) (rh (trimT (restB S)) / 256 % 256) = S := by
 obtain ⟨g1, g2⟩ := row_good hc h0
 constructor
 ·rintro ⟨_, lo, hi, rfl⟩
  rcases (nums_all _ _ g1 g2 lo hi).2 with ⟨z, d⟩ | ⟨z, d, _, n⟩ | ⟨z, d, _, n⟩
  ·exact one_same _ _ g2 z _ _ _ _
  ·exact two_same _ _ g2 z (by rw [n]; omega)
  ·exact opT_same _ _ (by rw [n]; omega) (by rw [n]; omega)
 ·exact fun h => ⟨h0, _, _, h⟩
def AsmOk (S out : List UInt8) (ok : Bool) : Prop :=
 (ok = true ∧ ∃ (c : Nat) (lo hi : Int), c < 256 ∧ (rowAt c).1 ≠ noB ∧ opT (rowAt c).1 (rowAt c).2 lo hi = S ∧ (∀ j, j < c → ¬ IsOp S j) ∧ out = [UInt8.ofNat c, UInt8.ofNat (lo % 256).toNat, UInt8.ofNat (hi % 256).toNat].take (modeSz (rowAt c).2).toNat) ∨ (ok = false ∧ out = [] ∧ ∀ j, j < 256 → ¬ IsOp S j)
theorem asm_one {S out out2 : List UInt8} {ok ok2 : Bool} (h : AsmOk S out ok) (k : AsmOk S out2 ok2) : out = out2 ∧ ok = ok2 := by
 rcases h with ⟨rfl, c, lo, hi, h1, h2, h3, h4, rfl⟩ | ⟨rfl, rfl, hn⟩
 ·rcases k with ⟨rfl, d, lo2, hi2, k1, k2, k3, k4, rfl⟩ | ⟨rfl, rfl, kn⟩
  ·obtain rfl : c = d := by
    rcases Nat.lt_trichotomy c d with h | h | h
    ·exact absurd ⟨h2, lo, hi, h3⟩ (k4 c h)
    ·exact h
    ·exact absurd ⟨k2, lo2, hi2, k3⟩ (h4 d h)
   refine ⟨?_, rfl⟩
   obtain ⟨g1, g2⟩ := row_good h1 h2
   have e1 := (nums_all _ _ g1 g2 lo hi).2
   have e2 := (nums_all _ _ g1 g2 lo2 hi2).2
   rw [h3] at e1
   rw [k3] at e2
   rcases e1 with ⟨z, _⟩ | ⟨z, _, n, _⟩ | ⟨z, _, n, _⟩
   ·rw [z]; rfl
   ·rcases e2 with ⟨z2, _⟩ | ⟨_, _, n2, _⟩ | ⟨z2, _⟩
    ·omega
    ·rw [z, show lo % 256 = lo2 % 256 by omega]; rfl
    ·omega
   ·rcases e2 with ⟨z2, _⟩ | ⟨z2, _⟩ | ⟨_, _, n2, _⟩
    ·omega
    ·omega
    ·rw [show lo % 256 = lo2 % 256 by omega, show hi % 256 = hi2 % 256 by omega]
  ·exact absurd ⟨h2, lo, hi, h3⟩ (kn c h1)
 ·rcases k with ⟨rfl, d, lo2, hi2, k1, k2, k3, k4, rfl⟩ | ⟨rfl, rfl, kn⟩
  ·exact absurd ⟨k2, lo2, hi2, k3⟩ (hn d k1)
  ·exact ⟨rfl, rfl⟩
end Go.Proofs.YtboeaeoefoabdaaGreatDoor
