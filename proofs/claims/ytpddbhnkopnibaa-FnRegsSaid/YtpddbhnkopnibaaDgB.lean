/-
  The walk of l03Odd of the model (chapter 3): registers, one part of which may be out of its bounds; and DrawRegsText, DrawPushed, DrawFlagText, DrawReadFlags.
  Conditions: the draw has at most 1048576 bytes.
-/
import Derived.Test.YtpddbhnkopnibaaDgA
namespace Go.Proofs.Ytpddbhnkopnibaa
open Go.RowKit
theorem odd_mid {w w3 : World} {g n c V : Nat} {A : Option Addr} {cs : Array Value} {t t2 : TypeId} {old : Array Value} (hV : w3.heap[V]? = some (.cells cs t (0, 0))) (hR : w3.heap[w.heap.size]? = some (.cells old t2 (0, 0)))
    (hc : Cur w3 g A n c) (hg : w.grownBy w3 (some g)) (hVg : V ≠ g) (hRV : w.heap.size < V) (j : Nat) (v : Value) :
    (w3.setCell ⟨V, j, none⟩ v).heap[V]? = some (.cells (cs.setIfInBounds j v) t (0, 0)) ∧ (w3.setCell ⟨V, j, none⟩ v).heap[w.heap.size]? = some (.cells old t2 (0, 0)) ∧
    Cur (w3.setCell ⟨V, j, none⟩ v) g A n c ∧ w.grownBy (w3.setCell ⟨V, j, none⟩ v) (some g) := by
  rw [setCell_eq_setRow _ _ _ _ _ _ _ hV]
  exact ⟨setRow_heap _ _ _ _ _ _ hV, (setRow_other _ _ _ _ (by omega)).trans hR, hc.keep (setRow_other _ _ _ _ (Ne.symm hVg)),
    ⟨hg.os, hg.tape, hg.output, by rw [setRow_size]; exact hg.size, fun k hk hn => (setRow_other _ _ _ _ (by omega)).trans (hg.block k hk hn)⟩⟩
theorem cell_of_blk {w : World} {b i : Nat} {cs : Array Value} {t : TypeId} {v : Value} (h : w.heap[b]? = some (.cells cs t (0, 0))) (hv : cs[i]? = some v) : w.cell? ⟨b, i, none⟩ = some v := by
  unfold World.cell?; rw [h]; exact hv
theorem free_of_blk {w : World} {b i : Nat} {cs : Array Value} {t : TypeId} (h : w.heap[b]? = some (.cells cs t (0, 0))) : w.frozen? ⟨b, i, none⟩ = false := by
  unfold World.frozen?; rw [h]; simp
set_option maxRecDepth 100000 in
set_option maxHeartbeats 8000000 in
theorem l03Odd_any {B g n c : Nat} {A : Option Addr} {w : World} (h : Drawn B g n c A w) :
    Calls Try.prog 41 #[.pointer (some ⟨g, 0, none⟩)] w (RegsPost g A n c w) := by
  have hb0 : Below w.heap.size w (w.alloc zero6) := (Below.refl _ _).alloc (Nat.le_refl _) _
  have H0 := Lib.hid (h.below hb0)
  have K0 := Lib.hid (blk_new w zero6)
  have G0 := Lib.hid (grown_of_below (g := g) hb0)
  have hne : w.heap.size ≠ g := by have := h.cur.lt; omega
  have hgl : g < w.heap.size := h.cur.lt
  have hy := l03Make_any H0.out
  unfold RegsPost regsV zero6 at hy
  clear h hb0
  unfold RegsPost
  go_enter Try.func41, Try.ntmps41
  go_wp2_with (go_at_call 54; refine hy.mono ?_; rintro e w1 ⟨a, x, y, s, p, pc, rfl, hc, hg⟩; refine Hid.out ?_)
  have H1 := Lib.hid (H0.out.next hc hg)
  have K1 := Lib.hid (blk_grown K0.out hg hne)
  have G1 := Lib.hid (grown_trans G0.out hg)
  have hz : w.heap.size < w1.heap.size := by have := hg.size; simp at this; omega
  have hbV : Below w1.heap.size w1 (w1.alloc (.cells #[.int .i64 a, .int .i64 x, .int .i64 y, .int .i64 s, .int .i64 p, .int .i64 pc] 33)) := (Below.refl _ _).alloc (Nat.le_refl _) _
  have hy := l01Below_any (H1.out.below hbV) 10 (by omega) (by omega)
  have HV := Lib.hid (blk_new w1 (.cells #[.int .i64 a, .int .i64 x, .int .i64 y, .int .i64 s, .int .i64 p, .int .i64 pc] 33))
  have HR := Lib.hid (blk_below K1.out hbV)
  have H2 := Lib.hid (H1.out.below hbV)
  have G2 := Lib.hid (grown_below G1.out hbV)
  clear H0 K0 G0 hc hg H1 K1 G1 hbV
  refine Lib.hid ?_
  go_wp2_with (go_at_call 51; refine hy.mono ?_; rintro e w2 ⟨k, rfl, k0, k1, hc, hg⟩; refine Hid.out ?_)
  have H3 := Lib.hid (H2.out.next hc hg)
  have HV := Lib.hid (blk_grown HV.out hg (by omega))
  have HR := Lib.hid (blk_grown HR.out hg hne)
  have G3 := Lib.hid (grown_trans G2.out hg)
  have hst : (Try.prog.info? 33).map (·.size) = some 6 := regs_size
  clear H2 G2 hg hc
  by_cases e0 : k = 0
  · subst e0
    clear k0 k1
    have hP := pickInt_new H3.out [.int .i64 (-1), .int .i64 256] (k := 2) rfl (by omega) (by omega)
      (by repeat (first | exact allI_nil | refine allI_cons ⟨by omega, by omega⟩ ?_))
    refine Lib.hid ?_
    go_wp2_with (go_at_call 53; refine hP.mono ?_; rintro e w3 ⟨v, rfl, _, _, hc, hg⟩; refine Hid.out ?_)
    have kV := blk_grown HV.out hg (by omega)
    have kR := blk_grown HR.out hg hne
    have c3 := cell_of_blk (i := 0) kV rfl
    have f3 := free_of_blk (i := 0) kV
    have hm := odd_mid kV kR hc (grown_trans G3.out hg) (by omega) hz 0 (.int .i64 v)
    have MV := Lib.hid hm.1
    have MR := Lib.hid hm.2.1
    have MC := Lib.hid hm.2.2.1
    have MG := Lib.hid hm.2.2.2
    clear hm kV kR hP hc hg HV HR H3 G3 hy
    refine Lib.hid ?_
    go_wp2_with (first
      | (refine wpList_load_row rfl 33 (.tmp 3) rfl w1.heap.size ?a1 33 #[.int .i64 v, .int .i64 x, .int .i64 y, .int .i64 s, .int .i64 p, .int .i64 pc] (0, 0) _ ?a2 Try.underlying33 rfl ?a3 ?_)
      | (refine wpList_store_row rfl 33 (.tmp 2) (.tmp 37) rfl w.heap.size #[.int .i64 v, .int .i64 x, .int .i64 y, .int .i64 s, .int .i64 p, .int .i64 pc] ?a4 ?a5 33 #[.int .i64 0, .int .i64 0, .int .i64 0, .int .i64 0, .int .i64 0, .int .i64 0] ?a6 ?a7 ?a8 ?a9 ?_))
    try (case a1 => rfl)
    case a2 => exact MV.out
    case a3 => exact hst
    try (case a4 => rfl)
    try (case a5 => rfl)
    case a6 => exact MR.out
    case a7 => exact hst
    case a8 => rfl
    case a9 => simp [Value.oneCell']
    have hend := regs_end MR.out MC.out MG.out hne v x y s p pc
    exact bodyPost_ret (v := regsV v x y s p pc) (results_cell_row rfl _ _ w.heap.size _ _ _ _ rfl hend.1 Try.underlying33 rfl regs_size) rfl ⟨v, x, y, s, p, pc, rfl, hend.2.1, hend.2.2⟩
  ·
    by_cases e1 : k = 1
    · subst e1
      clear k0 k1
      have hP := pickInt_new H3.out [.int .i64 (-1), .int .i64 256] (k := 2) rfl (by omega) (by omega)
        (by repeat (first | exact allI_nil | refine allI_cons ⟨by omega, by omega⟩ ?_))
      refine Lib.hid ?_
      go_wp2_with (go_at_call 53; refine hP.mono ?_; rintro e w3 ⟨v, rfl, _, _, hc, hg⟩; refine Hid.out ?_)
      have kV := blk_grown HV.out hg (by omega)
      have kR := blk_grown HR.out hg hne
      have c3 := cell_of_blk (i := 1) kV rfl
      have f3 := free_of_blk (i := 1) kV
      have hm := odd_mid kV kR hc (grown_trans G3.out hg) (by omega) hz 1 (.int .i64 v)
      have MV := Lib.hid hm.1
      have MR := Lib.hid hm.2.1
      have MC := Lib.hid hm.2.2.1
      have MG := Lib.hid hm.2.2.2
      clear hm kV kR hP hc hg HV HR H3 G3 hy
      refine Lib.hid ?_
      go_wp2_with (first
        | (refine wpList_load_row rfl 33 (.tmp 3) rfl w1.heap.size ?b1 33 #[.int .i64 a, .int .i64 v, .int .i64 y, .int .i64 s, .int .i64 p, .int .i64 pc] (0, 0) _ ?b2 Try.underlying33 rfl ?b3 ?_)
        | (refine wpList_store_row rfl 33 (.tmp 2) (.tmp 37) rfl w.heap.size #[.int .i64 a, .int .i64 v, .int .i64 y, .int .i64 s, .int .i64 p, .int .i64 pc] ?b4 ?b5 33 #[.int .i64 0, .int .i64 0, .int .i64 0, .int .i64 0, .int .i64 0, .int .i64 0] ?b6 ?b7 ?b8 ?b9 ?_))
      try (case b1 => rfl)
      case b2 => exact MV.out
      case b3 => exact hst
      try (case b4 => rfl)
      try (case b5 => rfl)
      case b6 => exact MR.out
      case b7 => exact hst
      case b8 => rfl
      case b9 => simp [Value.oneCell']
      have hend := regs_end MR.out MC.out MG.out hne a v y s p pc
      exact bodyPost_ret (v := regsV a v y s p pc) (results_cell_row rfl _ _ w.heap.size _ _ _ _ rfl hend.1 Try.underlying33 rfl regs_size) rfl ⟨a, v, y, s, p, pc, rfl, hend.2.1, hend.2.2⟩
    ·
      by_cases e2 : k = 2
      · subst e2
        clear k0 k1
        have hP := l02Byte_any H3.out
        refine Lib.hid ?_
        go_wp2_with (go_at_call 35; refine hP.mono ?_; rintro e w3 ⟨v, rfl, _, _, hc, hg⟩; refine Hid.out ?_)
        have kV := blk_grown HV.out hg (by omega)
        have kR := blk_grown HR.out hg hne
        have c3 := cell_of_blk (i := 4) kV rfl
        have f3 := free_of_blk (i := 4) kV
        have hm := odd_mid kV kR hc (grown_trans G3.out hg) (by omega) hz 4 (.int .i64 v)
        have MV := Lib.hid hm.1
        have MR := Lib.hid hm.2.1
        have MC := Lib.hid hm.2.2.1
        have MG := Lib.hid hm.2.2.2
        clear hm kV kR hP hc hg HV HR H3 G3 hy
        refine Lib.hid ?_
        go_wp2_with (first
          | (refine wpList_load_row rfl 33 (.tmp 3) rfl w1.heap.size ?c1 33 #[.int .i64 a, .int .i64 x, .int .i64 y, .int .i64 s, .int .i64 v, .int .i64 pc] (0, 0) _ ?c2 Try.underlying33 rfl ?c3 ?_)
          | (refine wpList_store_row rfl 33 (.tmp 2) (.tmp 37) rfl w.heap.size #[.int .i64 a, .int .i64 x, .int .i64 y, .int .i64 s, .int .i64 v, .int .i64 pc] ?c4 ?c5 33 #[.int .i64 0, .int .i64 0, .int .i64 0, .int .i64 0, .int .i64 0, .int .i64 0] ?c6 ?c7 ?c8 ?c9 ?_))
        try (case c1 => rfl)
        case c2 => exact MV.out
        case c3 => exact hst
        try (case c4 => rfl)
        try (case c5 => rfl)
        case c6 => exact MR.out
        case c7 => exact hst
        case c8 => rfl
        case c9 => simp [Value.oneCell']
        have hend := regs_end MR.out MC.out MG.out hne a x y s v pc
        exact bodyPost_ret (v := regsV a x y s v pc) (results_cell_row rfl _ _ w.heap.size _ _ _ _ rfl hend.1 Try.underlying33 rfl regs_size) rfl ⟨a, x, y, s, v, pc, rfl, hend.2.1, hend.2.2⟩
      ·
        by_cases e3 : k = 3
        · subst e3
          clear k0 k1
          have hP := pickInt_new H3.out [.int .i64 (-1), .int .i64 65536] (k := 2) rfl (by omega) (by omega)
            (by repeat (first | exact allI_nil | refine allI_cons ⟨by omega, by omega⟩ ?_))
          refine Lib.hid ?_
          go_wp2_with (go_at_call 53; refine hP.mono ?_; rintro e w3 ⟨v, rfl, _, _, hc, hg⟩; refine Hid.out ?_)
          have kV := blk_grown HV.out hg (by omega)
          have kR := blk_grown HR.out hg hne
          have c3 := cell_of_blk (i := 5) kV rfl
          have f3 := free_of_blk (i := 5) kV
          have hm := odd_mid kV kR hc (grown_trans G3.out hg) (by omega) hz 5 (.int .i64 v)
          have MV := Lib.hid hm.1
          have MR := Lib.hid hm.2.1
          have MC := Lib.hid hm.2.2.1
          have MG := Lib.hid hm.2.2.2
          clear hm kV kR hP hc hg HV HR H3 G3 hy
          refine Lib.hid ?_
          go_wp2_with (first
            | (refine wpList_load_row rfl 33 (.tmp 3) rfl w1.heap.size ?d1 33 #[.int .i64 a, .int .i64 x, .int .i64 y, .int .i64 s, .int .i64 p, .int .i64 v] (0, 0) _ ?d2 Try.underlying33 rfl ?d3 ?_)
            | (refine wpList_store_row rfl 33 (.tmp 2) (.tmp 37) rfl w.heap.size #[.int .i64 a, .int .i64 x, .int .i64 y, .int .i64 s, .int .i64 p, .int .i64 v] ?d4 ?d5 33 #[.int .i64 0, .int .i64 0, .int .i64 0, .int .i64 0, .int .i64 0, .int .i64 0] ?d6 ?d7 ?d8 ?d9 ?_))
          try (case d1 => rfl)
          case d2 => exact MV.out
          case d3 => exact hst
          try (case d4 => rfl)
          try (case d5 => rfl)
          case d6 => exact MR.out
          case d7 => exact hst
          case d8 => rfl
          case d9 => simp [Value.oneCell']
          have hend := regs_end MR.out MC.out MG.out hne a x y s p v
          exact bodyPost_ret (v := regsV a x y s p v) (results_cell_row rfl _ _ w.heap.size _ _ _ _ rfl hend.1 Try.underlying33 rfl regs_size) rfl ⟨a, x, y, s, p, v, rfl, hend.2.1, hend.2.2⟩
        ·
          by_cases e4 : k = 4
          · subst e4
            clear k0 k1
            have hP := pickInt_new H3.out [.int .i64 (-1), .int .i64 256] (k := 2) rfl (by omega) (by omega)
              (by repeat (first | exact allI_nil | refine allI_cons ⟨by omega, by omega⟩ ?_))
            refine Lib.hid ?_
            go_wp2_with (go_at_call 53; refine hP.mono ?_; rintro e w3 ⟨v, rfl, _, _, hc, hg⟩; refine Hid.out ?_)
            have kV := blk_grown HV.out hg (by omega)
            have kR := blk_grown HR.out hg hne
            have c3 := cell_of_blk (i := 3) kV rfl
            have f3 := free_of_blk (i := 3) kV
            have hm := odd_mid kV kR hc (grown_trans G3.out hg) (by omega) hz 3 (.int .i64 v)
            have MV := Lib.hid hm.1
            have MR := Lib.hid hm.2.1
            have MC := Lib.hid hm.2.2.1
            have MG := Lib.hid hm.2.2.2
            clear hm kV kR hP hc hg HV HR H3 G3 hy
            refine Lib.hid ?_
            go_wp2_with (first
              | (refine wpList_load_row rfl 33 (.tmp 3) rfl w1.heap.size ?e1 33 #[.int .i64 a, .int .i64 x, .int .i64 y, .int .i64 v, .int .i64 p, .int .i64 pc] (0, 0) _ ?e2 Try.underlying33 rfl ?e3 ?_)
              | (refine wpList_store_row rfl 33 (.tmp 2) (.tmp 37) rfl w.heap.size #[.int .i64 a, .int .i64 x, .int .i64 y, .int .i64 v, .int .i64 p, .int .i64 pc] ?e4 ?e5 33 #[.int .i64 0, .int .i64 0, .int .i64 0, .int .i64 0, .int .i64 0, .int .i64 0] ?e6 ?e7 ?e8 ?e9 ?_))
            try (case e1 => rfl)
            case e2 => exact MV.out
            case e3 => exact hst
            try (case e4 => rfl)
            try (case e5 => rfl)
            case e6 => exact MR.out
            case e7 => exact hst
            case e8 => rfl
            case e9 => simp [Value.oneCell']
            have hend := regs_end MR.out MC.out MG.out hne a x y v p pc
            exact bodyPost_ret (v := regsV a x y v p pc) (results_cell_row rfl _ _ w.heap.size _ _ _ _ rfl hend.1 Try.underlying33 rfl regs_size) rfl ⟨a, x, y, v, p, pc, rfl, hend.2.1, hend.2.2⟩
          ·
            have hc := H3.out.cur
            have MV := HV
            have MR := HR
            have MC := Lib.hid hc
            have MG := G3
            have t0 : (k == 0) = false := by simpa using e0
            have t1 : (k == 1) = false := by simpa using e1
            have t2 : (k == 2) = false := by simpa using e2
            have t3 : (k == 3) = false := by simpa using e3
            have t4 : (k == 4) = false := by simpa using e4
            clear e0 e1 e2 e3 e4 hc HV HR H3 G3 hy
            refine Lib.hid ?_
            go_wp2_with (first
              | (refine wpList_load_row rfl 33 (.tmp 3) rfl w1.heap.size ?z1 33 #[.int .i64 a, .int .i64 x, .int .i64 y, .int .i64 s, .int .i64 p, .int .i64 pc] (0, 0) _ ?z2 Try.underlying33 rfl ?z3 ?_)
              | (refine wpList_store_row rfl 33 (.tmp 2) (.tmp 37) rfl w.heap.size #[.int .i64 a, .int .i64 x, .int .i64 y, .int .i64 s, .int .i64 p, .int .i64 pc] ?z4 ?z5 33 #[.int .i64 0, .int .i64 0, .int .i64 0, .int .i64 0, .int .i64 0, .int .i64 0] ?z6 ?z7 ?z8 ?z9 ?_))
            try (case z1 => rfl)
            case z2 => exact MV.out
            case z3 => exact hst
            try (case z4 => rfl)
            try (case z5 => rfl)
            case z6 => exact MR.out
            case z7 => exact hst
            case z8 => rfl
            case z9 => simp [Value.oneCell']
            have hend := regs_end MR.out MC.out MG.out hne a x y s p pc
            exact bodyPost_ret (v := regsV a x y s p pc) (results_cell_row rfl _ _ w.heap.size _ _ _ _ rfl hend.1 Try.underlying33 rfl regs_size) rfl ⟨a, x, y, s, p, pc, rfl, hend.2.1, hend.2.2⟩
end Go.Proofs.Ytpddbhnkopnibaa
