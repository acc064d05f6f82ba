/-
  A row that grew, as blocks that may have turned; no program is spoken of here.
  Conditions: none.
-/
import Derived.Test.YtoheoojpmndhoaaMem
namespace Go.Proofs.Ytoheoojpmndhoaa
theorem only_of_grown {S : Nat → Prop} {w w' : World} {row : Option Nat} (h : w.grownBy w' row) (hS : ∀ g, row = some g → S g) : Only S w w' :=
  ⟨h.os, h.tape, h.output, h.size, fun k hk hs => h.block k hk (fun e => hs (hS k e.symm))⟩
end Go.Proofs.Ytoheoojpmndhoaa
