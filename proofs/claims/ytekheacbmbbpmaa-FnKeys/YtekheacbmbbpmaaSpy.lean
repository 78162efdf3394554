/-
  Lists of columns in the model: contracts of l6Both, l6Less, l6Either, l6Part.
-/
import Derived.Test.YtekheacbmbbpmaaSpx
import Derived.Test.YtekheacbmbbpmaaSsd
namespace Go.Proofs.Ytekheacbmbbpmaa.Spy
open Go.RowKit
open Go.Proofs.Ytekheacbmbbpmaa.Frame Go.Proofs.Ytekheacbmbbpmaa.Mem Go.Proofs.Ytekheacbmbbpmaa.Ints Go.Proofs.Ytekheacbmbbpmaa.Kep Go.Proofs.Ytekheacbmbbpmaa.Lls Go.Proofs.Ytekheacbmbbpmaa.Mis Go.Proofs.Ytekheacbmbbpmaa.Dls Go.Proofs.Ytekheacbmbbpmaa.Dlk Go.Proofs.Ytekheacbmbbpmaa.Csa Go.Proofs.Ytekheacbmbbpmaa.Csd Go.Proofs.Ytekheacbmbbpmaa.Ssc Go.Proofs.Ytekheacbmbbpmaa.Spx
open Go.Proofs.Ytekheacbmbbpmaa.Rel hiding Ll
open Go.Proofs.Ytekheacbmbbpmaa.Cpu hiding Dp

theorem eith_end {w wr : World} {xs zs ys : List Int} {a : Option Addr} {m c : Nat} (h : Ou w wr [([], zs)] xs ys a m c) (hx : InC xs) (hz : InC zs) (ha : ∀ z ∈ zs, z ∈ ys) : ys = eithL xs zs :=
  upN_told h.up (eith_up _ _) (fun s => by
    rw [mem_eith hx hz]
    constructor
    · intro hs
      exact Cl.least (p := fun z => z ∈ xs ∨ z ∈ zs) (fun z h => Or.inl h) (fun d hd _ z hz => by rw [List.mem_singleton.1 hd] at hz; exact Or.inr hz) (h.cl s hs)
    · rintro (hs | hs)
      · exact h.sub s hs
      · exact ha s hs)


end Go.Proofs.Ytekheacbmbbpmaa.Spy
