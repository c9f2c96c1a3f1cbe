/-
  Texts put together by program: Wkd, FdJ, Com, WiB.
  Conditions: as each theorem says.
-/
import Derived.Conc.LoneCalls
import Derived.Conc.LoneSelect
import Derived.Test.YthklebkpoccblaaGreatRqau
namespace Go.Proofs.YthklebkpoccblaaGreat
open Go.RowKit
section
variable {ops : Array Oper} {rest : List Oper} {o : Oper} {a : Act} {w : World} {Q : Exit → Act → World → Prop}
theorem sti_p (hgd : o.guard = none) (hds : o.dst = none) (x y : Operand) (ho : o.op = .store 3 x y) (b : Nat) (hx : a.eval x = .pointer (some ⟨b, 4, none⟩)) (v : Int) (hy : a.eval y = .int .i64 v) (hg : CorSome b w) (h : ∀ k2 : CorI, wpList Tryz.prog ops Q rest a (w.setRow b (corC k2))) : wpList Tryz.prog ops Q (o :: rest) a w :=
 hg.elim fun k hk => store_cell hgd 3 x y ho b 4 hx _ hy (by kernel_rfl) rfl hk rfl (corC { k with p := v }) rfl (by rw [hds]; exact h _)
theorem sti_pc (hgd : o.guard = none) (hds : o.dst = none) (x y : Operand) (ho : o.op = .store 3 x y) (b : Nat) (hx : a.eval x = .pointer (some ⟨b, 5, none⟩)) (v : Int) (hy : a.eval y = .int .i64 v) (hg : CorSome b w) (h : ∀ k2 : CorI, wpList Tryz.prog ops Q rest a (w.setRow b (corC k2))) : wpList Tryz.prog ops Q (o :: rest) a w :=
 hg.elim fun k hk => store_cell hgd 3 x y ho b 5 hx _ hy (by kernel_rfl) rfl hk rfl (corC { k with pc := v }) rfl (by rw [hds]; exact h _)
theorem sti_cd (hgd : o.guard = none) (hds : o.dst = none) (x y : Operand) (ho : o.op = .store 3 x y) (b : Nat) (hx : a.eval x = .pointer (some ⟨b, 7, none⟩)) (v : Int) (hy : a.eval y = .int .i64 v) (hg : CorSome b w) (h : ∀ k2 : CorI, wpList Tryz.prog ops Q rest a (w.setRow b (corC k2))) : wpList Tryz.prog ops Q (o :: rest) a w :=
 hg.elim fun k hk => store_cell hgd 3 x y ho b 7 hx _ hy (by kernel_rfl) rfl hk rfl (corC { k with cd := v }) rfl (by rw [hds]; exact h _)
theorem sti_t (hgd : o.guard = none) (hds : o.dst = none) (x y : Operand) (ho : o.op = .store 3 x y) (b : Nat) (hx : a.eval x = .pointer (some ⟨b, 8, none⟩)) (v : Int) (hy : a.eval y = .int .i64 v) (hg : CorSome b w) (h : ∀ k2 : CorI, wpList Tryz.prog ops Q rest a (w.setRow b (corC k2))) : wpList Tryz.prog ops Q (o :: rest) a w :=
 hg.elim fun k hk => store_cell hgd 3 x y ho b 8 hx _ hy (by kernel_rfl) rfl hk rfl (corC { k with t := v }) rfl (by rw [hds]; exact h _)
theorem sti_lo (hgd : o.guard = none) (hds : o.dst = none) (x y : Operand) (ho : o.op = .store 3 x y) (b : Nat) (hx : a.eval x = .pointer (some ⟨b, 9, none⟩)) (v : Int) (hy : a.eval y = .int .i64 v) (hg : CorSome b w) (h : ∀ k2 : CorI, wpList Tryz.prog ops Q rest a (w.setRow b (corC k2))) : wpList Tryz.prog ops Q (o :: rest) a w :=
 hg.elim fun k hk => store_cell hgd 3 x y ho b 9 hx _ hy (by kernel_rfl) rfl hk rfl (corC { k with lo := v }) rfl (by rw [hds]; exact h _)
theorem sti_hi (hgd : o.guard = none) (hds : o.dst = none) (x y : Operand) (ho : o.op = .store 3 x y) (b : Nat) (hx : a.eval x = .pointer (some ⟨b, 10, none⟩)) (v : Int) (hy : a.eval y = .int .i64 v) (hg : CorSome b w) (h : ∀ k2 : CorI, wpList Tryz.prog ops Q rest a (w.setRow b (corC k2))) : wpList Tryz.prog ops Q (o :: rest) a w :=
 hg.elim fun k hk => store_cell hgd 3 x y ho b 10 hx _ hy (by kernel_rfl) rfl hk rfl (corC { k with hi := v }) rfl (by rw [hds]; exact h _)
theorem sti_vl (hgd : o.guard = none) (hds : o.dst = none) (x y : Operand) (ho : o.op = .store 3 x y) (b : Nat) (hx : a.eval x = .pointer (some ⟨b, 11, none⟩)) (v : Int) (hy : a.eval y = .int .i64 v) (hg : CorSome b w) (h : ∀ k2 : CorI, wpList Tryz.prog ops Q rest a (w.setRow b (corC k2))) : wpList Tryz.prog ops Q (o :: rest) a w :=
 hg.elim fun k hk => store_cell hgd 3 x y ho b 11 hx _ hy (by kernel_rfl) rfl hk rfl (corC { k with vl := v }) rfl (by rw [hds]; exact h _)
theorem sti_nx (hgd : o.guard = none) (hds : o.dst = none) (x y : Operand) (ho : o.op = .store 3 x y) (b : Nat) (hx : a.eval x = .pointer (some ⟨b, 13, none⟩)) (v : Int) (hy : a.eval y = .int .i64 v) (hg : CorSome b w) (h : ∀ k2 : CorI, wpList Tryz.prog ops Q rest a (w.setRow b (corC k2))) : wpList Tryz.prog ops Q (o :: rest) a w :=
 hg.elim fun k hk => store_cell hgd 3 x y ho b 13 hx _ hy (by kernel_rfl) rfl hk rfl (corC { k with nx := v }) rfl (by rw [hds]; exact h _)
theorem sti_jm (hgd : o.guard = none) (hds : o.dst = none) (x y : Operand) (ho : o.op = .store 4 x y) (b : Nat) (hx : a.eval x = .pointer (some ⟨b, 14, none⟩)) (v : Bool) (hy : a.eval y = .bool v) (hg : CorSome b w) (h : ∀ k2 : CorI, wpList Tryz.prog ops Q rest a (w.setRow b (corC k2))) : wpList Tryz.prog ops Q (o :: rest) a w :=
 hg.elim fun k hk => store_cell hgd 4 x y ho b 14 hx _ hy (by kernel_rfl) rfl hk rfl (corC { k with jm := v }) rfl (by rw [hds]; exact h _)
theorem store_some (hgd : o.guard = none) (hds : o.dst = none) (x y : Operand) (ho : o.op = .store 27 x y) (b : Nat) (hx : a.eval x = .pointer (some ⟨b, 0, none⟩)) (k2 : CorI) (hy : a.eval y = .agg (corC k2)) (hg : CorSome b w) (h : wpList Tryz.prog ops Q rest a (w.setRow b (corC k2))) : wpList Tryz.prog ops Q (o :: rest) a w :=
 hg.elim fun k hk => store_row hgd 27 x y ho b (corC k2) hx hy 15 cor_size hk rfl rfl rfl (by rw [hds]; exact h)
theorem store_rsome (hgd : o.guard = none) (hds : o.dst = none) (x y : Operand) (ho : o.op = .store 25 x y) (b : Nat) (hx : a.eval x = .pointer (some ⟨b, 0, none⟩)) (r : RegI) (hy : a.eval y = .agg (regC r)) (hg : CorSome b w) (h : ∀ k2 : CorI, wpList Tryz.prog ops Q rest a (w.setRow b (corC k2))) : wpList Tryz.prog ops Q (o :: rest) a w :=
 hg.elim fun k hk => store_part hgd 25 x y ho b 0 (regC r) (corC { k with a := r.a, x := r.x, y := r.y, s := r.s, p := r.p, pc := r.pc }) hx hy (by kernel_rfl) hk (Nat.le_of_ble_eq_true rfl) rfl rfl (by rw [hds]; exact h _)
end
end Go.Proofs.YthklebkpoccblaaGreat
namespace Go.Proofs.YthklebkpoccblaaGreat
open Go.RowKit
theorem cor_post {w w' : World} {k : CorI} (hb : Below w.heap.size w w') : CorPost w (.returned (.agg (corC k))) w' := ⟨k, rfl, hb⟩
set_option maxRecDepth 100000 in
set_option maxHeartbeats 20000000 in
theorem s_indexed (k : CorI) (i kd : Int) (w : World) : Calls Tryz.prog 107 #[.agg (corC k), .int .i64 i, .int .i64 kd] w (CorPost w) := by
 by_cases hi : wrap64 (k.lo + i) > 255
 ·by_cases hk : kd = 0
  ·go_enter Tryz.func107, Tryz.ntmps107
   go_upto_region 1 with fail
   have K0 : ((w.alloc (.cells (corC k) 27)).alloc (.cells #[.int .i64 0, .int .i64 0, .int .i64 0, .int .i64 0, .int .i64 0, .int .i64 0, .int .i64 0, .int .i64 0, .int .i64 0, .int .i64 0, .int .i64 0, .int .i64 0, .bool false, .int .i64 0, .bool false] 27)).heap[w.heap.size]? = some (.cells (corC k) 27 (0, 0)) := by
    have h := blk_old (o := .cells #[.int .i64 0, .int .i64 0, .int .i64 0, .int .i64 0, .int .i64 0, .int .i64 0, .int .i64 0, .int .i64 0, .int .i64 0, .int .i64 0, .int .i64 0, .int .i64 0, .bool false, .int .i64 0, .bool false] 27) (blk_new w (.cells (corC k) 27))
    try simp only [alloc_size] at h
    exact h
   have K1 : ((w.alloc (.cells (corC k) 27)).alloc (.cells #[.int .i64 0, .int .i64 0, .int .i64 0, .int .i64 0, .int .i64 0, .int .i64 0, .int .i64 0, .int .i64 0, .int .i64 0, .int .i64 0, .int .i64 0, .int .i64 0, .bool false, .int .i64 0, .bool false] 27)).heap[w.heap.size + 1]? = some (.cells #[.int .i64 0, .int .i64 0, .int .i64 0, .int .i64 0, .int .i64 0, .int .i64 0, .int .i64 0, .int .i64 0, .int .i64 0, .int .i64 0, .int .i64 0, .int .i64 0, .bool false, .int .i64 0, .bool false] 27 (0, 0)) := by
    have h := blk_new (w.alloc (.cells (corC k) 27)) (.cells #[.int .i64 0, .int .i64 0, .int .i64 0, .int .i64 0, .int .i64 0, .int .i64 0, .int .i64 0, .int .i64 0, .int .i64 0, .int .i64 0, .int .i64 0, .int .i64 0, .bool false, .int .i64 0, .bool false] 27)
    try simp only [alloc_size] at h
    exact h
   have B0 := below_alloc (below_alloc (Below.refl w.heap.size w) (.cells (corC k) 27)) (.cells #[.int .i64 0, .int .i64 0, .int .i64 0, .int .i64 0, .int .i64 0, .int .i64 0, .int .i64 0, .int .i64 0, .int .i64 0, .int .i64 0, .int .i64 0, .int .i64 0, .bool false, .int .i64 0, .bool false] 27)
   generalize ((w.alloc (.cells (corC k) 27)).alloc (.cells #[.int .i64 0, .int .i64 0, .int .i64 0, .int .i64 0, .int .i64 0, .int .i64 0, .int .i64 0, .int .i64 0, .int .i64 0, .int .i64 0, .int .i64 0, .int .i64 0, .bool false, .int .i64 0, .bool false] 27)) = w0 at K0 K1 B0 ⊢
   replace K0 : Hid (CorAt w.heap.size k w0) := Lib.hid K0
   replace K1 := Lib.hid K1
   replace B0 := Lib.hid B0
   have fz := CorAt.free K0.out
   have c_lo := CorAt.c_lo K0.out
   have c_cr := CorAt.c_cr K0.out
   have c_t := CorAt.c_t K0.out
   go_wp2_with (first
    | (refine load_some (by rfl) _ (by rfl) _ (by rfl) (by exact someS) ?_; intro k2 hk2)
    | (refine store_row (by rfl) 27 _ _ (by rfl) _ _ (by rfl) (by rfl) 15 (by kernel_rfl) (by exact rowS; done) rfl rfl (by rfl) ?_))
   exact bodyPost_ret (results_cell_row rfl _ _ (w.heap.size + 1) _ _ _ _ rfl (setRow_heap _ _ _ _ _ _ (by exact rowS)) Tryz.underlying27 rfl (by kernel_rfl)) rfl (cor_post (below_row (by exact belS) (by omega)))
  ·go_enter Tryz.func107, Tryz.ntmps107
   go_upto_region 1 with fail
   have K0 : ((w.alloc (.cells (corC k) 27)).alloc (.cells #[.int .i64 0, .int .i64 0, .int .i64 0, .int .i64 0, .int .i64 0, .int .i64 0, .int .i64 0, .int .i64 0, .int .i64 0, .int .i64 0, .int .i64 0, .int .i64 0, .bool false, .int .i64 0, .bool false] 27)).heap[w.heap.size]? = some (.cells (corC k) 27 (0, 0)) := by
    have h := blk_old (o := .cells #[.int .i64 0, .int .i64 0, .int .i64 0, .int .i64 0, .int .i64 0, .int .i64 0, .int .i64 0, .int .i64 0, .int .i64 0, .int .i64 0, .int .i64 0, .int .i64 0, .bool false, .int .i64 0, .bool false] 27) (blk_new w (.cells (corC k) 27))
    try simp only [alloc_size] at h
    exact h
   have K1 : ((w.alloc (.cells (corC k) 27)).alloc (.cells #[.int .i64 0, .int .i64 0, .int .i64 0, .int .i64 0, .int .i64 0, .int .i64 0, .int .i64 0, .int .i64 0, .int .i64 0, .int .i64 0, .int .i64 0, .int .i64 0, .bool false, .int .i64 0, .bool false] 27)).heap[w.heap.size + 1]? = some (.cells #[.int .i64 0, .int .i64 0, .int .i64 0, .int .i64 0, .int .i64 0, .int .i64 0, .int .i64 0, .int .i64 0, .int .i64 0, .int .i64 0, .int .i64 0, .int .i64 0, .bool false, .int .i64 0, .bool false] 27 (0, 0)) := by
    have h := blk_new (w.alloc (.cells (corC k) 27)) (.cells #[.int .i64 0, .int .i64 0, .int .i64 0, .int .i64 0, .int .i64 0, .int .i64 0, .int .i64 0, .int .i64 0, .int .i64 0, .int .i64 0, .int .i64 0, .int .i64 0, .bool false, .int .i64 0, .bool false] 27)
    try simp only [alloc_size] at h
    exact h
   have B0 := below_alloc (below_alloc (Below.refl w.heap.size w) (.cells (corC k) 27)) (.cells #[.int .i64 0, .int .i64 0, .int .i64 0, .int .i64 0, .int .i64 0, .int .i64 0, .int .i64 0, .int .i64 0, .int .i64 0, .int .i64 0, .int .i64 0, .int .i64 0, .bool false, .int .i64 0, .bool false] 27)
   generalize ((w.alloc (.cells (corC k) 27)).alloc (.cells #[.int .i64 0, .int .i64 0, .int .i64 0, .int .i64 0, .int .i64 0, .int .i64 0, .int .i64 0, .int .i64 0, .int .i64 0, .int .i64 0, .int .i64 0, .int .i64 0, .bool false, .int .i64 0, .bool false] 27)) = w0 at K0 K1 B0 ⊢
   replace K0 : Hid (CorAt w.heap.size k w0) := Lib.hid K0
   replace K1 := Lib.hid K1
   replace B0 := Lib.hid B0
   have fz := CorAt.free K0.out
   have c_lo := CorAt.c_lo K0.out
   have c_cr := CorAt.c_cr K0.out
   have c_t := CorAt.c_t K0.out
   go_wp2_with (first
    | (refine load_some (by rfl) _ (by rfl) _ (by rfl) (by exact someS) ?_; intro k2 hk2)
    | (refine store_row (by rfl) 27 _ _ (by rfl) _ _ (by rfl) (by rfl) 15 (by kernel_rfl) (by exact rowS; done) rfl rfl (by rfl) ?_))
   exact bodyPost_ret (results_cell_row rfl _ _ (w.heap.size + 1) _ _ _ _ rfl (setRow_heap _ _ _ _ _ _ (by exact rowS)) Tryz.underlying27 rfl (by kernel_rfl)) rfl (cor_post (below_row (by exact belS) (by omega)))
 ·by_cases hk : kd = 0
  ·go_enter Tryz.func107, Tryz.ntmps107
   go_upto_region 1 with fail
   have K0 : ((w.alloc (.cells (corC k) 27)).alloc (.cells #[.int .i64 0, .int .i64 0, .int .i64 0, .int .i64 0, .int .i64 0, .int .i64 0, .int .i64 0, .int .i64 0, .int .i64 0, .int .i64 0, .int .i64 0, .int .i64 0, .bool false, .int .i64 0, .bool false] 27)).heap[w.heap.size]? = some (.cells (corC k) 27 (0, 0)) := by
    have h := blk_old (o := .cells #[.int .i64 0, .int .i64 0, .int .i64 0, .int .i64 0, .int .i64 0, .int .i64 0, .int .i64 0, .int .i64 0, .int .i64 0, .int .i64 0, .int .i64 0, .int .i64 0, .bool false, .int .i64 0, .bool false] 27) (blk_new w (.cells (corC k) 27))
    try simp only [alloc_size] at h
    exact h
   have K1 : ((w.alloc (.cells (corC k) 27)).alloc (.cells #[.int .i64 0, .int .i64 0, .int .i64 0, .int .i64 0, .int .i64 0, .int .i64 0, .int .i64 0, .int .i64 0, .int .i64 0, .int .i64 0, .int .i64 0, .int .i64 0, .bool false, .int .i64 0, .bool false] 27)).heap[w.heap.size + 1]? = some (.cells #[.int .i64 0, .int .i64 0, .int .i64 0, .int .i64 0, .int .i64 0, .int .i64 0, .int .i64 0, .int .i64 0, .int .i64 0, .int .i64 0, .int .i64 0, .int .i64 0, .bool false, .int .i64 0, .bool false] 27 (0, 0)) := by
    have h := blk_new (w.alloc (.cells (corC k) 27)) (.cells #[.int .i64 0, .int .i64 0, .int .i64 0, .int .i64 0, .int .i64 0, .int .i64 0, .int .i64 0, .int .i64 0, .int .i64 0, .int .i64 0, .int .i64 0, .int .i64 0, .bool false, .int .i64 0, .bool false] 27)
    try simp only [alloc_size] at h
    exact h
   have B0 := below_alloc (below_alloc (Below.refl w.heap.size w) (.cells (corC k) 27)) (.cells #[.int .i64 0, .int .i64 0, .int .i64 0, .int .i64 0, .int .i64 0, .int .i64 0, .int .i64 0, .int .i64 0, .int .i64 0, .int .i64 0, .int .i64 0, .int .i64 0, .bool false, .int .i64 0, .bool false] 27)
   generalize ((w.alloc (.cells (corC k) 27)).alloc (.cells #[.int .i64 0, .int .i64 0, .int .i64 0, .int .i64 0, .int .i64 0, .int .i64 0, .int .i64 0, .int .i64 0, .int .i64 0, .int .i64 0, .int .i64 0, .int .i64 0, .bool false, .int .i64 0, .bool false] 27)) = w0 at K0 K1 B0 ⊢
   replace K0 : Hid (CorAt w.heap.size k w0) := Lib.hid K0
   replace K1 := Lib.hid K1
   replace B0 := Lib.hid B0
   have fz := CorAt.free K0.out
   have c_lo := CorAt.c_lo K0.out
   have c_cr := CorAt.c_cr K0.out
   have c_t := CorAt.c_t K0.out
   go_wp2_with (first
    | (refine load_some (by rfl) _ (by rfl) _ (by rfl) (by exact someS) ?_; intro k2 hk2)
    | (refine store_row (by rfl) 27 _ _ (by rfl) _ _ (by rfl) (by rfl) 15 (by kernel_rfl) (by exact rowS; done) rfl rfl (by rfl) ?_))
   exact bodyPost_ret (results_cell_row rfl _ _ (w.heap.size + 1) _ _ _ _ rfl (setRow_heap _ _ _ _ _ _ (by exact rowS)) Tryz.underlying27 rfl (by kernel_rfl)) rfl (cor_post (below_row (by exact belS) (by omega)))
  ·go_enter Tryz.func107, Tryz.ntmps107
   go_upto_region 1 with fail
   have K0 : ((w.alloc (.cells (corC k) 27)).alloc (.cells #[.int .i64 0, .int .i64 0, .int .i64 0, .int .i64 0, .int .i64 0, .int .i64 0, .int .i64 0, .int .i64 0, .int .i64 0, .int .i64 0, .int .i64 0, .int .i64 0, .bool false, .int .i64 0, .bool false] 27)).heap[w.heap.size]? = some (.cells (corC k) 27 (0, 0)) := by
    have h := blk_old (o := .cells #[.int .i64 0, .int .i64 0, .int .i64 0, .int .i64 0, .int .i64 0, .int .i64 0, .int .i64 0, .int .i64 0, .int .i64 0, .int .i64 0, .int .i64 0, .int .i64 0, .bool false, .int .i64 0, .bool false] 27) (blk_new w (.cells (corC k) 27))
    try simp only [alloc_size] at h
    exact h
   have K1 : ((w.alloc (.cells (corC k) 27)).alloc (.cells #[.int .i64 0, .int .i64 0, .int .i64 0, .int .i64 0, .int .i64 0, .int .i64 0, .int .i64 0, .int .i64 0, .int .i64 0, .int .i64 0, .int .i64 0, .int .i64 0, .bool false, .int .i64 0, .bool false] 27)).heap[w.heap.size + 1]? = some (.cells #[.int .i64 0, .int .i64 0, .int .i64 0, .int .i64 0, .int .i64 0, .int .i64 0, .int .i64 0, .int .i64 0, .int .i64 0, .int .i64 0, .int .i64 0, .int .i64 0, .bool false, .int .i64 0, .bool false] 27 (0, 0)) := by
    have h := blk_new (w.alloc (.cells (corC k) 27)) (.cells #[.int .i64 0, .int .i64 0, .int .i64 0, .int .i64 0, .int .i64 0, .int .i64 0, .int .i64 0, .int .i64 0, .int .i64 0, .int .i64 0, .int .i64 0, .int .i64 0, .bool false, .int .i64 0, .bool false] 27)
    try simp only [alloc_size] at h
    exact h
   have B0 := below_alloc (below_alloc (Below.refl w.heap.size w) (.cells (corC k) 27)) (.cells #[.int .i64 0, .int .i64 0, .int .i64 0, .int .i64 0, .int .i64 0, .int .i64 0, .int .i64 0, .int .i64 0, .int .i64 0, .int .i64 0, .int .i64 0, .int .i64 0, .bool false, .int .i64 0, .bool false] 27)
   generalize ((w.alloc (.cells (corC k) 27)).alloc (.cells #[.int .i64 0, .int .i64 0, .int .i64 0, .int .i64 0, .int .i64 0, .int .i64 0, .int .i64 0, .int .i64 0, .int .i64 0, .int .i64 0, .int .i64 0, .int .i64 0, .bool false, .int .i64 0, .bool false] 27)) = w0 at K0 K1 B0 ⊢
   replace K0 : Hid (CorAt w.heap.size k w0) := Lib.hid K0
   replace K1 := Lib.hid K1
   replace B0 := Lib.hid B0
   have fz := CorAt.free K0.out
   have c_lo := CorAt.c_lo K0.out
   have c_cr := CorAt.c_cr K0.out
   have c_t := CorAt.c_t K0.out
   go_wp2_with (first
    | (refine load_some (by rfl) _ (by rfl) _ (by rfl) (by exact someS) ?_; intro k2 hk2)
    | (refine store_row (by rfl) 27 _ _ (by rfl) _ _ (by rfl) (by rfl) 15 (by kernel_rfl) (by exact rowS; done) rfl rfl (by rfl) ?_))
   exact bodyPost_ret (results_cell_row rfl _ _ (w.heap.size + 1) _ _ _ _ rfl (setRow_heap _ _ _ _ _ _ (by exact rowS)) Tryz.underlying27 rfl (by kernel_rfl)) rfl (cor_post (below_row (by exact belS) (by omega)))
theorem some_world {c : Go.Code} {a : Act} {w : World} {Q : Exit → Act → World → Prop} {b : Nat} (hs : CorSome b w) (h : ∀ k, CorAt b k w → c.wp Tryz.prog Q a w) : c.wp Tryz.prog Q a w := hs.elim h
theorem settle2 {c : Go.Code} {a : Act} {W wb : World} {Q : Exit → Act → World → Prop} {B b0 b1 : Nat} {o1 : Obj} (hs : CorSome b0 W) (h1 : W.heap[b1]? = some o1) (hb : Below B wb W) (h : ∀ k w9, CorAt b0 k w9 → w9.heap[b1]? = some o1 → Below B wb w9 → c.wp Tryz.prog Q a w9) : c.wp Tryz.prog Q a W := hs.elim fun k hk => h k W hk h1 hb
theorem settle4 {c : Go.Code} {a : Act} {W wb : World} {Q : Exit → Act → World → Prop} {B b0 b1 b2 b3 : Nat} {o1 o2 o3 : Obj} (hs : CorSome b0 W) (h1 : W.heap[b1]? = some o1) (h2 : W.heap[b2]? = some o2) (h3 : W.heap[b3]? = some o3) (hb : Below B wb W) (h : ∀ k w9, CorAt b0 k w9 → w9.heap[b1]? = some o1 → w9.heap[b2]? = some o2 → w9.heap[b3]? = some o3 → Below B wb w9 → c.wp Tryz.prog Q a w9) : c.wp Tryz.prog Q a W := hs.elim fun k hk => h k W hk h1 h2 h3 hb
theorem cor_done {w w' : World} {k : CorI} {d : Bool} (hb : Below w.heap.size w w') : CorDone w (.returned (.tuple #[.agg (corC k), .bool d])) w' := ⟨k, d, rfl, hb⟩
end Go.Proofs.YthklebkpoccblaaGreat
namespace Go.Proofs.YthklebkpoccblaaGreat
open Go.RowKit Go.Conc
def OpsTo (P : Program) (ops : Array Oper) (Q : Exit → Act → World → Prop) (l : List Nat) (a : Act) (w : World) : Prop :=
 ∀ (b : Frame) (k : List Item) (cs : List Frame), ∃ e a' w', Q e a' w' ∧ Arrives P (lone (b.at a (.inRegion ops l :: k)) cs w) b k cs e a' w'
section
variable {P : Program} {ops : Array Oper} {Q : Exit → Act → World → Prop} {a : Act} {w : World}
theorem opsTo_wp {l : List Nat} (h : wpOps P ops Q l a w) : OpsTo P ops Q l a w := wp_ops l a w h
theorem region_to {id : Nat} (h : OpsTo P ops Q (List.range ops.size) a w) : (Code.region id ops false).wp P Q a w :=
 fun b k cs => let ⟨e, a', w', q, r⟩ := h b k cs; ⟨e, a', w', q, .of_steps (.one step_region) r⟩
theorem stepG_comm_any {b : Frame} {k : List Item} {cs : List Frame} {i : Nat} {rest : List Nat} {o : Oper} {cases : Array CommCase} {blocking : Bool} {shape : CommShape} {w' : World} (ho : ops[i]? = some o)
  (hw : Region.wanted o (yielded ops a.tmps) = true) (hr : (execOp a.eval o).run P w = .ok (.comm cases blocking shape) w') :
  ∃ es, stepG P true (G (b.at a (.inRegion ops (i :: rest) :: k)) cs) w = .comm (G (b.at a (.inRegion ops (i :: rest) :: k)) cs) cases blocking shape w' es := by
 by_cases hk : b.kind = .early
 ·refine ⟨seen P b.fn #[], ?_⟩
  rw [Go.Conc.stepG_oper ho hw]
  simp [stepG.apply, hr, G, Frame.at, hk, GStep.after]
 ·exact ⟨_, stepG_comm ho hw hk hr⟩
theorem opsTo_comm {i : Nat} {rest : List Nat} {o : Oper} {cases : Array CommCase} {blocking : Bool} {shape : CommShape} {w₁ w₂ : World} {v : Value} (ho : ops[i]? = some o) (hg : o.guard = none)
  (hr : (execOp a.eval o).run P w = .ok (.comm cases blocking shape) w₁)
  (hs : ∀ (fr : Frame) (cs : List Frame) (es : Array Event), stepG P true (G fr cs) w = .comm (G fr cs) cases blocking shape w₁ es → step P (solo (G fr cs) w) = .next (solo (G (fr.finish v) cs) w₂))
  (h : OpsTo P ops Q rest (a.put o.dst v) w₂) : OpsTo P ops Q (i :: rest) a w := by
 intro b k cs
 obtain ⟨e, a', w', hq, harr⟩ := h b k cs
 obtain ⟨es, hst⟩ := stepG_comm_any (b := b) (k := k) (cs := cs) (rest := rest) ho (by simp [Region.wanted, hg]) hr
 have h1 := hs _ _ _ hst
 rw [Frame.finish_at, ho] at h1
 exact ⟨e, a', w', hq, .of_steps (.one h1) harr⟩
theorem opsTo_value {i : Nat} {rest : List Nat} {o : Oper} {v : Value} {w' : World} (ho : ops[i]? = some o) (hg : o.guard = none) (hr : (execOp a.eval o).run P w = .ok (.value v) w')
  (h : OpsTo P ops Q rest (a.put o.dst v) w') : OpsTo P ops Q (i :: rest) a w := by
 intro b k cs
 obtain ⟨e, a', w'', hq, harr⟩ := h b k cs
 have hg' := Go.stepG_op (P := P) (a := a) (b := b) (k := k) (cs := cs) (w := w) (rest := rest) ho (by simp [Region.wanted, hg])
 have hfin : (b.at a (.inRegion ops (i :: rest) :: k)).finish v = b.at (a.put o.dst v) (.inRegion ops rest :: k) := by rw [Frame.finish_at, ho]; rfl
 refine ⟨e, a', w'', hq, .of_steps (.one (step_lone_go ?_)) harr⟩
 rw [hg', ← hfin]
 simp [stepG.apply, hr]
theorem opsTo_rest (l : List Oper) (k : Nat) (hl : ∀ j : Nat, l[j]? = ops[k + j]?) (h : wpList P ops Q l a w) : OpsTo P ops Q (List.range' k l.length) a w :=
 opsTo_wp (by rw [wpOps_eq_wpList l k hl]; exact h)
end
section
variable {P : Program} {Q : Exit → Act → World → Prop} {a : Act} {w : World} {id : Nat} {o o0 : Oper} {l : List Oper}
theorem comm_first {cases : Array CommCase} {blocking : Bool} {shape : CommShape} {w₁ w₂ : World} {v : Value} (hg : o.guard = none) (hr : (execOp a.eval o).run P w = .ok (.comm cases blocking shape) w₁)
  (hs : ∀ (fr : Frame) (cs : List Frame) (es : Array Event), stepG P true (G fr cs) w = .comm (G fr cs) cases blocking shape w₁ es → step P (solo (G fr cs) w) = .next (solo (G (fr.finish v) cs) w₂))
  (h : wpList P (o :: l).toArray Q l (a.put o.dst v) w₂) : (Code.region id (o :: l).toArray false).wp P Q a w := by
 refine region_to ?_
 have e : List.range (o :: l).toArray.size = 0 :: List.range' 1 l.length := by
  rw [List.range_eq_range']
  simp [List.range'_succ]
 rw [e]
 exact opsTo_comm (by simp) hg hr hs (opsTo_rest l 1 (fun j => by simp [Nat.add_comm 1 j]) h)
theorem comm_second {cases : Array CommCase} {blocking : Bool} {shape : CommShape} {w₁ w₂ : World} {v v0 : Value} (hg0 : o0.guard = none) (hr0 : (execOp a.eval o0).run P w = .ok (.value v0) w) (hg : o.guard = none)
  (hr : (execOp (a.put o0.dst v0).eval o).run P w = .ok (.comm cases blocking shape) w₁)
  (hs : ∀ (fr : Frame) (cs : List Frame) (es : Array Event), stepG P true (G fr cs) w = .comm (G fr cs) cases blocking shape w₁ es → step P (solo (G fr cs) w) = .next (solo (G (fr.finish v) cs) w₂))
  (h : wpList P (o0 :: o :: l).toArray Q l ((a.put o0.dst v0).put o.dst v) w₂) : (Code.region id (o0 :: o :: l).toArray false).wp P Q a w := by
 refine region_to ?_
 have e : List.range (o0 :: o :: l).toArray.size = 0 :: 1 :: List.range' 2 l.length := by
  rw [List.range_eq_range']
  simp [List.range'_succ]
 rw [e]
 exact opsTo_value (by simp) hg0 hr0 (opsTo_comm (by simp) hg hr hs (opsTo_rest l 2 (fun j => by simp [Nat.add_comm 2 j]) h))
end
theorem seq_stop {P : Program} {Q : Exit → Act → World → Prop} {a : Act} {w : World} {x y : Go.Code} (h : ∀ K : Act → World → Prop, Hid (∀ a w, y.wp P Q a w → K a w) → x.wp P (Exit.then K Q) a w) : (Code.seq x y).wp P Q a w :=
 wp_seq (h (y.wp P Q) (Lib.hid fun _ _ h => h))
def ChanAt (w : World) (c cap : Nat) (buf : Array Value) (s r : Nat) : Prop := w.heap[c]? = some (.chan cap buf false s r false)
theorem ChanAt.lt {w : World} {c cap s r : Nat} {buf : Array Value} (h : ChanAt w c cap buf s r) : c < w.heap.size := (Array.getElem?_eq_some_iff.1 h).1
theorem ChanAt.below {w w' : World} {c cap s r : Nat} {buf : Array Value} (h : ChanAt w c cap buf s r) (hb : Below w.heap.size w w') : ChanAt w' c cap buf s r := (hb.block c h.lt).trans h
theorem ChanAt.set {w : World} {c cap s r : Nat} {buf : Array Value} (h : ChanAt w c cap buf s r) (cap' : Nat) (buf' : Array Value) (s' r' : Nat) : ChanAt (w.setChan c cap' buf' false s' r' false) c cap' buf' s' r' :=
 heap_setChan w c cap' buf' false s' r' false h.lt
end Go.Proofs.YthklebkpoccblaaGreat
namespace Go.Proofs.YthklebkpoccblaaGreat
open Go.RowKit Go.Conc
theorem below_chan {B c : Nat} {w w' : World} (h : Below B w w') (hc : B ≤ c) (cap : Nat) (buf : Array Value) (s r : Nat) : Below B w (w'.setChan c cap buf false s r false) := below_setChan h hc cap buf false s r false
theorem chan_new2 (w : World) (o : Obj) (cap : Nat) : ChanAt ((w.alloc o).alloc (.chan cap #[] false 0 0 false)) (w.heap.size + 1) cap #[] 0 0 := by
 have := blk_new (w.alloc o) (.chan cap #[] false 0 0 false)
 rwa [alloc_size] at this
end Go.Proofs.YthklebkpoccblaaGreat
