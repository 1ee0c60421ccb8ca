/- Plain words of layer 4: what the document's calls answer, whatever is handed in. Nothing of the program. -/
import Derived.Test.YtbflhphjnmhjhaaGreatFiX
import Derived.Test.YtbflhphjnmhjhaaGreatHdA
namespace Go.Proofs.YtbflhphjnmhjhaaGreat
open Go.RowKit Oct Fi
/-- A frame, as plain data. -/
structure Fr where
  kd : UInt8
  fl : UInt8
  st : Int
  da : List UInt8
  pd : Int
  la : Int
  ic : Int
  co : UInt32
  ps : List Pr
  rk : Bool
  al : Bool
  dp : Int
  wt : UInt8
/-- A frame's cells. -/
abbrev fra (f : Fr) (A : Option Addr) (n c : Nat) (D : Option Addr) (m e : Nat) : Array Value := #[.int .u8 (f.kd.toNat : Int), .int .u8 (f.fl.toNat : Int), .int .i64 f.st, .slice A n c, .int .i64 f.pd, .int .i64 f.la, .int .i64 f.ic, .int .u32 (f.co.toNat : Int), .slice D m e, .bool f.rk, .bool f.al, .int .i64 f.dp, .int .u8 (f.wt.toNat : Int)]
/-- A fault: whole, the stream, the code. -/
abbrev Ft := Bool × Int × Nat
namespace Fm
def fv (x : Ft) : Value := .agg #[.bool x.1, .int .i64 x.2.1, .int .u32 (x.2.2 : Int)]
def fine : Ft := (false, 0, 0)
def whole (c : Nat) : Ft := (true, 0, c)
def frv (f : Fr) (v u : Value) : Value := .agg #[.int .u8 f.kd.toNat, .int .u8 f.fl.toNat, .int .i64 f.st, v, .int .i64 f.pd, .int .i64 f.la, .int .i64 f.ic, .int .u32 f.co.toNat, u, .bool f.rk, .bool f.al, .int .i64 f.dp, .int .u8 f.wt.toNat]
def frZ (K F : UInt8) (S : Int) : Fr := ⟨K, F, S, [], 0, 0, 0, 0, [], false, false, 0, 0⟩
def farB (k : Nat) (S : Int) : Bool := if k = 0 ∨ k = 1 ∨ k = 2 ∨ k = 3 ∨ k = 9 then S == 0 else if k = 4 ∨ k = 6 ∨ k = 7 ∨ k = 16 then S != 0 else false
def padN (F : UInt8) : Nat := if hasB (F.toNat : Int) 8 then 1 else 0
def rankN (F : UInt8) : Nat := if hasB (F.toNat : Int) 32 then 5 else 0
def longB (k : Nat) (F : UInt8) (n : Nat) : Bool :=
  if k = 0 then decide (n < padN F) else if k = 1 then decide (n < padN F + rankN F) else if k = 2 then n != 5 else if k = 3 ∨ k = 8 then n != 4 else if k = 6 then n != 8
  else if k = 4 then (n % 6 != 0 || hasB (F.toNat : Int) 1 && n != 0) else if k = 7 then decide (n < 8) else if k = 16 then decide (n < 4) else false
def aheadX (k : Nat) (F : UInt8) (S : Int) (n : Nat) : Ft :=
  if 16384 < n then whole 6 else if k = 5 ∨ farB k S = true then whole 1 else if longB k F n = true then if k = 2 then (false, S, 6) else whole 6 else fine
end Fm
/-- The ways of a kind. -/
theorem kinds_of (k : Nat) : k = 0 ∨ k = 1 ∨ k = 2 ∨ k = 3 ∨ k = 4 ∨ k = 5 ∨ k = 6 ∨ k = 7 ∨ k = 8 ∨ k = 9 ∨ k = 16 ∨ (k ≠ 0 ∧ k ≠ 1 ∧ k ≠ 2 ∧ k ≠ 3 ∧ k ≠ 4 ∧ k ≠ 5 ∧ k ≠ 6 ∧ k ≠ 7 ∧ k ≠ 8 ∧ k ≠ 9 ∧ k ≠ 16) := by omega
theorem nat_beq_ne {k c : Nat} (h : k ≠ c) : ((k : Int) == (c : Int)) = false := by
  rw [beq_eq_false_iff_ne]
  omega
end Go.Proofs.YtbflhphjnmhjhaaGreat
