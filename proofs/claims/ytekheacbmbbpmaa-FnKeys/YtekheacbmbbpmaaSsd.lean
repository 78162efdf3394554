/-
  What follows, in the model: contracts of ClosureOf, Implies.
-/
import Derived.Test.YtekheacbmbbpmaaSsc
namespace Go.Proofs.Ytekheacbmbbpmaa.Ssd
open Go.RowKit
open Go.Proofs.Ytekheacbmbbpmaa.Frame Go.Proofs.Ytekheacbmbbpmaa.Mem Go.Proofs.Ytekheacbmbbpmaa.Ints Go.Proofs.Ytekheacbmbbpmaa.Kep Go.Proofs.Ytekheacbmbbpmaa.Lls Go.Proofs.Ytekheacbmbbpmaa.Mis Go.Proofs.Ytekheacbmbbpmaa.Dls Go.Proofs.Ytekheacbmbbpmaa.Dlk Go.Proofs.Ytekheacbmbbpmaa.Csd Go.Proofs.Ytekheacbmbbpmaa.Ssc
open Go.Proofs.Ytekheacbmbbpmaa.Rel hiding Ll
open Go.Proofs.Ytekheacbmbbpmaa.Cpu hiding Dp


end Go.Proofs.Ytekheacbmbbpmaa.Ssd
