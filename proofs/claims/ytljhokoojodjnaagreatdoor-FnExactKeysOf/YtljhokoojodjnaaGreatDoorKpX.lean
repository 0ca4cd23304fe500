/-
  Small facts for the walks of laws over Keeps.
-/
import Derived.Test.YtljhokoojodjnaaGreatDoorKpC
namespace Go.Proofs.YtljhokoojodjnaaGreatDoor
open Go.RowKit
set_option linter.unusedVariables false
theorem KBox.on {W W' : World} {q : Nat} {lo hi : Int} {a : Option Addr} {n c : Nat} (h : KBox W q lo hi a n c) (hb : Below W.heap.size W W') : KBox W' q lo hi a n c := h.below hb h.lt
theorem KBox.save {W W' : World} {q : Nat} {lo hi : Int} {a : Option Addr} {n c : Nat} {S : Nat → Prop} (h : KBox W q lo hi a n c) (hs : Save W W' S) (h1 : ¬ S q) : KBox W' q lo hi a n c :=
  ⟨Nat.lt_of_lt_of_le h.lt hs.size, (hs.cell (p := ⟨q, _, none⟩) h.lt h1).trans h.k0, (hs.cell (p := ⟨q, _, none⟩) h.lt h1).trans h.k1, (hs.cell (p := ⟨q, _, none⟩) h.lt h1).trans h.k2⟩
theorem below_new {w W : World} (h : Below w.heap.size w W) (o : Obj) : Below w.heap.size w (W.alloc o) := h.alloc h.size o
theorem below_one' (w : World) (o : Obj) : Below w.heap.size w (w.alloc o) := (Below.refl _ _).alloc (Nat.le_refl _) o
theorem below_drew {B : Nat} {a w : World} (h : Below B a w) : Below B a w.drew := ⟨h.os, h.tape, h.output, h.size, h.block⟩
theorem below_undrew {w w' : World} (h : Below w.drew.heap.size w.drew w') : Below w.heap.size w w' := ⟨h.os, h.tape, h.output, h.size, h.block⟩
end Go.Proofs.YtljhokoojodjnaaGreatDoor
