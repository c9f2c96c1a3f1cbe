/-
  Registers as values; which branches are taken (chapter 9).
  Conditions: as each says; each walk leaves old memory as it was.
-/
import Derived.Test.YtgpcmekcdgboeaaNeL
import Derived.Test.YtgpcmekcdgboeaaAlA
import Derived.Deep.QuietTactic
namespace Go.Proofs.Ytgpcmekcdgboeaa
open Go.RowKit
/-- The registers. -/
structure RegI where
  a : Int
  x : Int
  y : Int
  s : Int
  p : Int
  pc : Int
def regC (k : RegI) : Array Value := #[.int .i64 k.a, .int .i64 k.x, .int .i64 k.y, .int .i64 k.s, .int .i64 k.p, .int .i64 k.pc]
def regI (k : RegI) : Value := .agg (regC k)
theorem regI_mk (a x y s p pc : Int) : regI ⟨a, x, y, s, p, pc⟩ = .agg #[.int .i64 a, .int .i64 x, .int .i64 y, .int .i64 s, .int .i64 p, .int .i64 pc] := rfl
theorem reg_size : (Try.prog.info? 38).map (·.size) = some 6 := by kernel_rfl
theorem w64_8 (n : Int) : wrap64 n % 256 = n % 256 := by unfold wrap64; omega
theorem tst_0 (p f : Int) (hf : 0 ≤ f ∧ f < 256) : (bits .and .i64 p f == 0) = !tst p f := by
  rw [← tst_i64 p f hf]
  unfold bne
  rw [Bool.not_not]
/-- Which branches are taken. -/
def takesI (n : ByteArray) (p : Int) : Bool := if n = ⟨#[66, 80, 76]⟩ then !tst p 128 else if n = ⟨#[66, 77, 73]⟩ then tst p 128 else if n = ⟨#[66, 86, 67]⟩ then !tst p 64 else if n = ⟨#[66, 86, 83]⟩ then tst p 64 else if n = ⟨#[66, 67, 67]⟩ then !tst p 1 else if n = ⟨#[66, 67, 83]⟩ then tst p 1 else if n = ⟨#[66, 78, 69]⟩ then !tst p 2 else if n = ⟨#[66, 69, 81]⟩ then tst p 2 else false
end Go.Proofs.Ytgpcmekcdgboeaa
