/- mark: replace, Put. -/
import Derived.Test.YtghajmcohdedlaaMk4
namespace Go.Proofs.Ytghajmcohdedlaa
open Go.RowKit

/-- The byte that a sector begins and ends with, behind another one that ends with this. -/
def nextB (s : List Nat) : Nat := (s.getD 63 0 + 1) % 256
/-- A sector is laid anew: the error, the disk. -/
def replE (D : Dk) (p n v : Int) : Int :=
  if readE D p = 0 then (if writeE D p (layB (nextB (nowB D p.toNat)) n v) = 0 then syncE (writeD D p (layB (nextB (nowB D p.toNat)) n v)) else writeE D p (layB (nextB (nowB D p.toNat)) n v)) else readE D p
def replD (D : Dk) (p n v : Int) : Dk :=
  if readE D p = 0 then (if writeE D p (layB (nextB (nowB D p.toNat)) n v) = 0 then syncD (writeD D p (layB (nextB (nowB D p.toNat)) n v)) else writeD D p (layB (nextB (nowB D p.toNat)) n v)) else D

end Go.Proofs.Ytghajmcohdedlaa
