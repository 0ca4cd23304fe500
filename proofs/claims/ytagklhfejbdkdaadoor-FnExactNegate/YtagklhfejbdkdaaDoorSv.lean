/-
  The table of words is left as it was.
-/
import Derived.Test.YtagklhfejbdkdaaDoorWord
namespace Go.Proofs.YtagklhfejbdkdaaDoor
open Go.RowKit
set_option linter.unusedVariables false
set_option linter.unusedSimpArgs false
theorem Kw.below {w w' : World} {B : Nat} (h : Kw w) (hb : Below B w w') (hg : 1 < B) : Kw w' :=
  ⟨(hb.cell (p := ⟨1, _, none⟩) hg).trans h.c0, (hb.cell (p := ⟨1, _, none⟩) hg).trans h.c1, (hb.cell (p := ⟨1, _, none⟩) hg).trans h.c2, (hb.cell (p := ⟨1, _, none⟩) hg).trans h.c3, (hb.cell (p := ⟨1, _, none⟩) hg).trans h.c4,
   (hb.cell (p := ⟨1, _, none⟩) hg).trans h.c5, (hb.cell (p := ⟨1, _, none⟩) hg).trans h.c6, (hb.cell (p := ⟨1, _, none⟩) hg).trans h.c7, (hb.cell (p := ⟨1, _, none⟩) hg).trans h.c8, (hb.cell (p := ⟨1, _, none⟩) hg).trans h.c9⟩
end Go.Proofs.YtagklhfejbdkdaaDoor
