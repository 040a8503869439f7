/-
  Plain mathematics of layer 1, fifth part: bytes the other way round. Nothing of the program is named here.
-/
import Derived.Test.YtcimihckhobniaaGreatBWordMath4
namespace Go.Proofs.YtcimihckhobniaaGreat.Wd
open Go.RowKit

/-- The lowest k of m bytes of v, laid from the highest of m places down. -/
def revO (m v : Nat) : Nat → Nat
  | 0 => 0
  | k + 1 => revO m v k ||| v / 2 ^ (8 * k) % 2 ^ 8 * 2 ^ (8 * (m - 1 - k))
def revN (m v : Nat) : Nat := revO m v m
/-! ### As the library turns them: neighbours, then pairs, then fours -/
/-! ### P1.2 -/
def swapV (n : Int) (high : Bool) (v : Int) : Int :=
  if n = 16 then (if high then ((revN 2 v.toNat : Nat) : Int) else v % 65536)
  else if n = 32 then (if high then ((revN 4 v.toNat : Nat) : Int) else v % 4294967296)
  else if n = 64 then (if high then ((revN 8 v.toNat : Nat) : Int) else v)
  else 0
/-! ### As the walk writes it -/
end Go.Proofs.YtcimihckhobniaaGreat.Wd
