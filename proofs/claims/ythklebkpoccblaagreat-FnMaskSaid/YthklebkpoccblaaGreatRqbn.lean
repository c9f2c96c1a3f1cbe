/-
  Texts put together by program: WiE, CrB, LcE.
  Conditions: as each theorem says.
-/
import Derived.Test.YthklebkpoccblaaGreatRqal
import Derived.Test.YthklebkpoccblaaGreatRqbm
namespace Go.Proofs.YthklebkpoccblaaGreat
open Go.RowKit
def WiresPost (g : Nat) (A : Option Addr) (n c : Nat) (w : World) (e : Ending) (w' : World) : Prop :=
 ∃ a b d : Bool, e = .returned (wiresV a b d) ∧ Cur w' g A n c ∧ w.grownBy w' (some g)
def zero3 : Obj := .cells #[.bool false, .bool false, .bool false] 29
theorem l07Make_any {B g n c : Nat} {A : Option Addr} {w : World} (h : Drawn B g n c A w) :
  Calls Tryz.prog 30 #[.pointer (some ⟨g, 0, none⟩)] w (WiresPost g A n c w) := by
 have hi := Lib.hid wires_size
 have hb0 : Below w.heap.size w (w.alloc zero3) := (Below.refl _ _).alloc (Nat.le_refl _) _
 have H := Lib.hid (h.below hb0)
 have K := Lib.hid (blk_new w zero3)
 have G := Lib.hid (grown_of_below (g := g) hb0)
 have hne : w.heap.size ≠ g := by have := h.cur.lt; omega
 clear h hb0
 have hy := l01Once_any H.out 2 (by omega) (by omega)
 unfold zero3 at hy
 go_enter Tryz.func30, Tryz.ntmps30
 go_wp2_with (go_at_call 58; refine hy.mono ?_; rintro e w1 ⟨a, rfl, hc, hg⟩; refine Hid.out ?_)
 have H := Lib.hid (H.out.next hc hg)
 have K := Lib.hid (blk_grown K.out hg hne)
 have G := Lib.hid (grown_trans G.out hg)
 clear hc hg hy
 have hy := l01Once_any H.out 3 (by omega) (by omega)
 refine Lib.hid ?_
 go_wp2_with (go_at_call 58; refine hy.mono ?_; rintro e w2 ⟨b, rfl, hc, hg⟩; refine Hid.out ?_)
 have H := Lib.hid (H.out.next hc hg)
 have K := Lib.hid (blk_grown K.out hg hne)
 have G := Lib.hid (grown_trans G.out hg)
 clear hc hg hy
 have hy := l01Once_any H.out 2 (by omega) (by omega)
 refine Lib.hid ?_
 go_wp2_with (go_at_call 58; refine hy.mono ?_; rintro e w3 ⟨d, rfl, hc, hg⟩; refine Hid.out ?_)
 have H := Lib.hid (H.out.next hc hg)
 have K := Lib.hid (blk_grown K.out hg hne)
 have G := Lib.hid (grown_trans G.out hg)
 clear hc hg hy
 have kk := K.out
 unfold zero3 at kk
 have K1 := Lib.hid kk
 clear kk K
 refine Lib.hid ?_
 go_wp2_with (refine store_row rfl 29 (.tmp 2) _ rfl w.heap.size _ rfl rfl 3 hi.out K1.out rfl rfl (by rfl) ?_)
 (try simp only [Exit.inBlock, Exit.then])
 have hend := row_end K1.out H.out.cur G.out hne #[.bool a, .bool b, .bool d]
 exact row_post rfl rfl Tryz.underlying29 rfl wires_size rfl rfl K1.out ⟨a, b, d, rfl, hend.2.1, hend.2.2⟩
end Go.Proofs.YthklebkpoccblaaGreat
namespace Go.Proofs.YthklebkpoccblaaGreat
open Go.RowKit
set_option maxRecDepth 100000 in
set_option maxHeartbeats 4000000 in
theorem spec_resetC (a x y s p pc sq cd t lo hi vl : Int) (cr : Bool) (nx : Int) (jm : Bool) (w : World) : Calls Tryz.prog 23 #[coreV a x y s p pc sq cd t lo hi vl cr nx jm] w fun e w' => e = .returned (coreV a x y s p pc sq cd 0 lo hi vl cr 3 false) ∧ Below w.heap.size w w' := by
 rw [coreV_mk, coreV_mk]
 go_enter Tryz.func23, Tryz.ntmps23
 go_wp2
 exact bodyPost_ret (results_cell_row rfl _ _ (w.heap.size + 1) _ _ _ _ rfl (blk_new2 w _ _) Tryz.underlying27 rfl icore_size) rfl ⟨rfl, below_alloc (below_alloc (Below.refl _ _) _) _⟩
set_option maxRecDepth 100000 in
set_option maxHeartbeats 4000000 in
theorem impl_resetC (a x y s p pc sq cd t lo hi vl : Int) (cr : Bool) (nx : Int) (jm : Bool) (w : World) : Calls Tryz.prog 22 #[coreV a x y s p pc sq cd t lo hi vl cr nx jm] w fun e w' => e = .returned (coreV a x y s p pc sq cd 0 lo hi vl cr 3 false) ∧ Below w.heap.size w w' := by
 rw [coreV_mk, coreV_mk]
 go_enter Tryz.func22, Tryz.ntmps22
 go_wp2
 exact bodyPost_ret (results_cell_row rfl _ _ (w.heap.size + 1) _ _ _ _ rfl (blk_new2 w _ _) Tryz.underlying27 rfl icore_size) rfl ⟨rfl, below_alloc (below_alloc (Below.refl _ _) _) _⟩
end Go.Proofs.YthklebkpoccblaaGreat
namespace Go.Proofs.YthklebkpoccblaaGreat
open Go.RowKit
structure MK (B g n c : Nat) (A : Option Addr) (w : World) (F C X : Nat) (W : World) : Prop where
 h : Drawn B g n c A W
 gr : w.grownBy W (some g)
 r2 : W.heap[w.heap.size]? = some (.cells #[.int .i64 0, .int .i64 0, .int .i64 0, .int .i64 0, .int .i64 0, .int .i64 0, .int .i64 0, .int .i64 0, .int .i64 0, .int .i64 0, .int .i64 0, .int .i64 0, .bool false, .int .i64 0, .bool false] 27 (0, 0))
 r3 : W.heap[w.heap.size + 1]? = some (.cells #[.string ⟨#[]⟩, .string ⟨#[]⟩] 80 (0, 0))
 fl : ∃ (kr : RegI) (r o : ByteArray) (q : Int), W.heap[F]? = some (.cells #[.int .i64 kr.a, .int .i64 kr.x, .int .i64 kr.y, .int .i64 kr.s, .int .i64 kr.p, .int .i64 kr.pc, .string r, .string o, .int .i64 q, .bool false] 103 (0, 0)) ∧ r.size ≤ 2000 ∧ o.size ≤ 2000
 cs : CorSome C W
 ws : ∃ a b d : Bool, W.heap[X]? = some (.cells #[.bool a, .bool b, .bool d] 29 (0, 0))
 g0 : g < w.heap.size
 bw : B ≤ w.heap.size
 f0 : w.heap.size + 1 < F
 c0 : F < C
 x0 : C < X
 z0 : X < W.heap.size
theorem MK.below {B g n c F C X : Nat} {A : Option Addr} {w W W' : World} (m : MK B g n c A w F C X W) (hb : Below W.heap.size W W') : MK B g n c A w F C X W' :=
 ⟨m.h.below hb, grown_below m.gr hb, blk_below m.r2 hb, blk_below m.r3 hb, m.fl.elim fun kr ⟨r, o, q, h, hr, ho⟩ => ⟨kr, r, o, q, blk_below h hb, hr, ho⟩, m.cs.below hb, m.ws.elim fun a ⟨b, d, h⟩ => ⟨a, b, d, blk_below h hb⟩, m.g0, m.bw, m.f0, m.c0, m.x0, Nat.lt_of_lt_of_le m.z0 hb.size⟩
theorem MK.core {B g n c F C X : Nat} {A : Option Addr} {w W : World} (m : MK B g n c A w F C X W) (k : CorI) : MK B g n c A w F C X (W.setRow C (corC k)) := by
 have e1 := m.g0; have e2 := m.bw; have e3 := m.f0; have e4 := m.c0; have e5 := m.x0
 exact ⟨drawn_row m.h (by omega) (by omega), grown_row m.gr (by omega), row_row m.r2 (by omega), row_row m.r3 (by omega), m.fl.elim fun kr ⟨r, o, q, h, hr, ho⟩ => ⟨kr, r, o, q, row_row h (by omega), hr, ho⟩, m.cs.row, m.ws.elim fun a ⟨b, d, h⟩ => ⟨a, b, d, row_row h (by omega)⟩, e1, e2, e3, e4, e5, by rw [setRow_size]; exact m.z0⟩
theorem MK.wires {B g n c F C X : Nat} {A : Option Addr} {w W : World} (m : MK B g n c A w F C X W) (a b d : Bool) : MK B g n c A w F C X (W.setRow X #[.bool a, .bool b, .bool d]) := by
 have e1 := m.g0; have e2 := m.bw; have e3 := m.f0; have e4 := m.c0; have e5 := m.x0
 obtain ⟨a0, b0, d0, hw⟩ := m.ws
 exact ⟨drawn_row m.h (by omega) (by omega), grown_row m.gr (by omega), row_row m.r2 (by omega), row_row m.r3 (by omega), m.fl.elim fun kr ⟨r, o, q, h, hr, ho⟩ => ⟨kr, r, o, q, row_row h (by omega), hr, ho⟩, m.cs.rowFar (by omega), ⟨a, b, d, setRow_heap _ _ _ _ _ _ hw⟩, e1, e2, e3, e4, e5, by rw [setRow_size]; exact m.z0⟩
theorem MK.mem {B g n c F C X : Nat} {A : Option Addr} {w W : World} (m : MK B g n c A w F C X W) (kr : RegI) (r o : ByteArray) (q : Int) (hr : r.size ≤ 2000) (ho : o.size ≤ 2000) : MK B g n c A w F C X (W.setRow F #[.int .i64 kr.a, .int .i64 kr.x, .int .i64 kr.y, .int .i64 kr.s, .int .i64 kr.p, .int .i64 kr.pc, .string r, .string o, .int .i64 q, .bool false]) := by
 have e1 := m.g0; have e2 := m.bw; have e3 := m.f0; have e4 := m.c0; have e5 := m.x0
 obtain ⟨kr0, r0, o0, q0, hf, _, _⟩ := m.fl
 exact ⟨drawn_row m.h (by omega) (by omega), grown_row m.gr (by omega), row_row m.r2 (by omega), row_row m.r3 (by omega), ⟨kr, r, o, q, setRow_heap _ _ _ _ _ _ hf, hr, ho⟩, m.cs.rowFar (by omega), m.ws.elim fun a ⟨b, d, h⟩ => ⟨a, b, d, row_row h (by omega)⟩, e1, e2, e3, e4, e5, by rw [setRow_size]; exact m.z0⟩
theorem MK.grown {B g n c F C X : Nat} {A : Option Addr} {w W W' : World} (m : MK B g n c A w F C X W) (hc : Cur W' g A n c) (hg : W.grownBy W' (some g)) : MK B g n c A w F C X W' := by
 have e1 := m.g0; have e2 := m.bw; have e3 := m.f0; have e4 := m.c0; have e5 := m.x0
 exact ⟨m.h.next hc hg, grown_trans m.gr hg, blk_grown m.r2 hg (by omega), blk_grown m.r3 hg (by omega), m.fl.elim fun kr ⟨r, o, q, h, hr, ho⟩ => ⟨kr, r, o, q, blk_grown h hg (by omega), hr, ho⟩, m.cs.elim fun kk hk => CorSome.of (blk_grown hk hg (by omega)), m.ws.elim fun a ⟨b, d, h⟩ => ⟨a, b, d, blk_grown h hg (by omega)⟩, e1, e2, e3, e4, e5, Nat.lt_of_lt_of_le m.z0 hg.size⟩
theorem pokeR_size (r o : ByteArray) (a v : Int) (hr : r.size ≤ 2000) : (pokeR r o a v).size ≤ 2000 := by
 unfold pokeR
 split
 ·rename_i h; rw [pokeB_size _ _ _ h.1.1]; omega
 ·exact hr
theorem s_resetP (k : CorI) (w : World) : Calls Tryz.prog 23 #[.agg (corC k)] w (CorPost w) := by
 rw [corC_mk]
 exact (spec_resetC _ _ _ _ _ _ _ _ _ _ _ _ _ _ _ w).mono fun e w' h => ⟨⟨k.a, k.x, k.y, k.s, k.p, k.pc, k.sq, k.cd, 0, k.lo, k.hi, k.vl, k.cr, 3, false⟩, h.1, h.2⟩
def CoreMemPost (g : Nat) (A : Option Addr) (n c : Nat) (w : World) (e : Ending) (w' : World) : Prop :=
 ∃ (k : CorI) (r o : ByteArray), e = .returned (.tuple #[.agg (corC k), .agg #[.string r, .string o]]) ∧ r.size ≤ 2000 ∧ o.size ≤ 2000 ∧ Cur w' g A n c ∧ w.grownBy w' (some g)
end Go.Proofs.YthklebkpoccblaaGreat
