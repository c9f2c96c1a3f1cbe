/-
  The walk of impl.ReadDec and of the law FnExactReadDec: both readings answer what 'rd' says of the text's bytes.
  Conditions: the listed variables of Go's library are as their own initialisers lay them.
-/
import Derived.Test.YtmhlplaglnopfaaDoorRdB
import Derived.Test.YtmhlplaglnopfaaDoorShB
import Derived.Test.YtmhlplaglnopfaaDoorDcC
namespace Go.Proofs.YtmhlplaglnopfaaDoor
open Go.RowKit Go.Lib
theorem gES : Tryd.prog.globalNamed "strconv.ErrSyntax" = some 0 := by kernel_rfl
theorem gER : Tryd.prog.globalNamed "strconv.ErrRange" = some 1 := by kernel_rfl
theorem gESt : (Tryd.prog.globals[0]?).map (·.type) = some 45 := by kernel_rfl
theorem gERt : (Tryd.prog.globals[1]?).map (·.type) = some 45 := by kernel_rfl
theorem cells107 : Tryd.prog.cellsOf 107 = 1 := by kernel_rfl
theorem cells9 : Tryd.prog.cellsOf 9 = 1 := by kernel_rfl
theorem star : "*" ++ "errors.errorString" = "*errors.errorString" := by decide
theorem row105 (u : TypeId) (h : Tryd.prog.typeName? 3 u = some "*errors.errorString") : u = 105 :=
  typeName_ptr_named (nm := "errors.errorString") (by rw [star]; kernel_rfl) (by kernel_rfl) (by decide) u (by rw [star]; exact h)
/-- The two errors that strconv names, as the card lists them. -/
theorem errs_of {a b c : String × DataW Unit} {W : World} (h : laidMet Tryd.prog [a, b, c, ("strconv.ErrRange", Rows.laid_strconv_ErrRange), ("strconv.ErrSyntax", Rows.laid_strconv_ErrSyntax)] W) :
    (∃ x, W.var? Tryd.prog "strconv.ErrRange" = some #[.iface 105 x]) ∧ (∃ x, W.var? Tryd.prog "strconv.ErrSyntax" = some #[.iface 105 x]) := by
  have h3 := h.tail.tail.tail
  have h4 := h3.tail
  obtain ⟨_, _, hv0, -, -, -⟩ := laid_sentinel h3 gER gERt Tryd.underlying45 row105 Tryd.underlying105 Tryd.underlying107 rfl rfl Tryd.underlying9 cells107 cells9
  obtain ⟨_, _, hv1, -, -, -⟩ := laid_sentinel h4 gES gESt Tryd.underlying45 row105 Tryd.underlying105 Tryd.underlying107 rfl rfl Tryd.underlying9 cells107 cells9
  exact ⟨⟨_, hv0⟩, ⟨_, hv1⟩⟩
theorem tab_lt {W : World} (h : TabIs Tryd.prog W "internal/strconv.uint64pow10" .u64 pow10Tab) : 2 < W.heap.size := by
  have hc := h.cell g10 0 (by rw [pow10Tab_length]; omega)
  exact World.block_lt_of_cell? _ _ hc
theorem atoi_ok (s : ByteArray) (hs : s.size ≤ 281474976710656) (v : Int) (h : atoiAll s.data.toList = .ok v) (w : World) :
    Calls Tryd.prog 40 #[.string s] w fun e w' => e = .returned (.tuple #[.int .i64 v, .nilIface]) ∧ Below w.heap.size w w' := by
  refine (Tryd.strconv_Atoi_ok s (by omega) v h w).mono ?_
  rintro e w' ⟨rfl, rfl | ⟨t, rfl⟩⟩
  · exact ⟨rfl, Below.refl _ _⟩
  · exact ⟨rfl, bytesWorld_below _ _ _⟩
def AtoiErr (w : World) (e : Ending) (w' : World) : Prop := ∃ (n : Int) (N : Nat), e = .returned (.tuple #[.int .i64 n, .iface 71 (.pointer (some ⟨N, 0, none⟩))]) ∧ Below w.heap.size w w'
theorem atoi_err (s : ByteArray) (hs : s.size ≤ 281474976710656) (h : atoiAll s.data.toList = .«syntax» ∨ atoiAll s.data.toList = .range) (w : World)
    (hR : ∃ x, w.var? Tryd.prog "strconv.ErrRange" = some #[.iface 105 x]) (hS : ∃ x, w.var? Tryd.prog "strconv.ErrSyntax" = some #[.iface 105 x]) :
    Calls Tryd.prog 40 #[.string s] w (AtoiErr w) := by
  obtain ⟨x, hR⟩ := hR
  obtain ⟨y, hS⟩ := hS
  rcases h with h | h
  · refine (Tryd.strconv_Atoi_syntax_var s hs h _ _ w hS).mono ?_
    rintro e w' ⟨N, rfl, _, _, hb⟩
    exact ⟨_, N, rfl, hb⟩
  · refine (Tryd.strconv_Atoi_range_var s hs h _ _ w hR).mono ?_
    rintro e w' ⟨N, rfl, _, _, hb⟩
    exact ⟨_, N, rfl, hb⟩
theorem impl_rd (s : ByteArray) (hs : s.size ≤ 281474976710656) (w : World) (htab : TabIs Tryd.prog w "internal/strconv.uint64pow10" .u64 pow10Tab)
    (hR : ∃ x, w.var? Tryd.prog "strconv.ErrRange" = some #[.iface 105 x]) (hS : ∃ x, w.var? Tryd.prog "strconv.ErrSyntax" = some #[.iface 105 x]) :
    Calls Tryd.prog 16 #[.string s] w fun e w' => e = .returned (.int .i64 (rd s.data.toList)) ∧ Below w.heap.size w w' := by
  have hlt := tab_lt htab
  rcases hv : atoiAll s.data.toList with v | _ | _
  · have hb := atoiAll_bounds hv
    have hA := atoi_ok s hs v hv
    by_cases h0 : v < 0
    · have hr := rd_ok_no _ v hv (.inl h0)
      clear hv htab hR hS
      go_enter Tryd.func16, Tryd.ntmps16
      go_wp2_with (go_at_call 40; refine (hA _).mono ?_; rintro e w' ⟨rfl, hb1⟩)
      go_ret
      exact ⟨by rw [hr]; rfl, hb1⟩
    · by_cases h9 : 999999999 < v
      · have hr := rd_ok_no _ v hv (.inr (.inl h9))
        clear hv htab hR hS
        go_enter Tryd.func16, Tryd.ntmps16
        go_wp2_with (go_at_call 40; refine (hA _).mono ?_; rintro e w' ⟨rfl, hb1⟩)
        go_ret
        exact ⟨by rw [hr]; rfl, hb1⟩
      · have hI := fun (w1 : World) (hb1 : Below w.heap.size w w1) => impl_dec v hb.1 hb.2 w1 (tab_below htab hlt hb1)
        have HV := Lib.hid hv
        have hw := hlt
        clear hv htab hR hS hlt
        go_enter Tryd.func16, Tryd.ntmps16
        go_wp2_with (first
          | (go_at_call 40; refine (hA _).mono ?_; rintro e w' ⟨rfl, hb1⟩)
          | (go_at_call 13; refine (hI _ hb1).mono ?_; rintro e w2 ⟨rfl, hb2⟩))
        · rename_i h1
          rw [ByteArray.toList_eq] at h1
          have hr := rd_ok_no _ v HV.out (.inr (.inr (by simpa using h1)))
          go_ret
          exact ⟨by rw [hr]; rfl, hb1.trans (hb2.mono hb1.size)⟩
        · rename_i h1
          rw [ByteArray.toList_eq] at h1
          have hr := rd_ok_yes s.data.toList v (by omega) (by omega) (by simpa using h1)
          go_ret
          exact ⟨by rw [hr]; rfl, hb1.trans (hb2.mono hb1.size)⟩
  · have hr := rd_err _ (.inl hv)
    have hE := atoi_err s hs (.inl hv) w hR hS
    clear hv htab hR hS
    go_enter Tryd.func16, Tryd.ntmps16
    go_wp2_with (go_at_call 40; refine hE.mono ?_; rintro e w' ⟨n, N, rfl, hb1⟩)
    go_ret
    exact ⟨by rw [hr]; rfl, hb1⟩
  · have hr := rd_err _ (.inr hv)
    have hE := atoi_err s hs (.inr hv) w hR hS
    clear hv htab hR hS
    go_enter Tryd.func16, Tryd.ntmps16
    go_wp2_with (go_at_call 40; refine hE.mono ?_; rintro e w' ⟨n, N, rfl, hb1⟩)
    go_ret
    exact ⟨by rw [hr]; rfl, hb1⟩
theorem rd_walk (s : ByteArray) (hs : s.size ≤ maxLen) (W : World) (hL : laidMet Tryd.prog Rows.fnExactReadDecRow.laid W) :
    Calls Tryd.prog 7 #[.string s] W fun e w' => e = .returned (.bool true) ∧ Below W.heap.size W w' := by
  by_cases h20 : 1048576 < s.size
  · clear hL
    go_enter Tryd.func7, Tryd.ntmps7
    go_wp2
    go_ret
    exact ⟨rfl, Below.refl _ _⟩
  · have htab := tab10 hL
    obtain ⟨hR, hS⟩ := errs_of hL
    have h1 := impl_rd s (by omega) W htab hR hS
    have h2 := spec_rd s hs
    clear hL htab hR hS
    go_enter Tryd.func7, Tryd.ntmps7
    go_wp2_with (first
      | (go_at_call 17; refine (h2 _).mono ?_; rintro e w' ⟨rfl, rfl⟩)
      | (go_at_call 16; refine h1.mono ?_; rintro e w' ⟨rfl, hb⟩))
    go_ret
    exact ⟨rfl, hb⟩
end Go.Proofs.YtmhlplaglnopfaaDoor
