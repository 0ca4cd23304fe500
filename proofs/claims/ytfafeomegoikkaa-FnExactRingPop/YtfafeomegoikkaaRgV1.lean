/-
  The deferred function of impl.turned: of a fault its code is told; of no fault nothing is turned.
-/
import Derived.Test.YtfafeomegoikkaaRgU
import Derived.Test.YtfafeomegoikkaaRgS
import Derived.Test.YtfafeomegoikkaaRgX
import Derived.Tactics
import Derived.Tactics2
import Derived.Defers
import Derived.Recover
namespace Go.Proofs.Ytfafeomegoikkaa
open Go.RowKit
set_option linter.unusedVariables false
set_option linter.unusedSimpArgs false
def setIll (w : World) (q : Nat) (k : Int) : World :=
  ((((((w.setCell ⟨q, 0, none⟩ (.int .i64 0)).setCell ⟨q, 1, none⟩ (.int .i64 0)).setCell ⟨q, 2, none⟩ (.int .i64 0)).setCell ⟨q, 3, none⟩ (.slice none 0 0)).setCell ⟨q, 4, none⟩ (.int .i64 0)).setCell ⟨q, 5, none⟩ (.int .i64 0)).setCell ⟨q, 6, none⟩ (.int .i64 k)
set_option maxRecDepth 20000 in
set_option maxHeartbeats 1000000 in
theorem catch_fault (q : Nat) (k : Int) (older : List PanicEntry) (w : World) (h : OBox w q 0 0 0 none 0 0 0 0 0) (hf : OFree w q) :
    CallsD Try.prog 69 #[.pointer (some ⟨q, 0, none⟩)] (.panicking ({ v := .iface 81 (.agg #[.int .i64 k]), recovered := false } :: older)) w fun e u' w' =>
      e = .returned (.tuple #[]) ∧ u' = .panicking ({ v := .iface 81 (.agg #[.int .i64 k]), recovered := true } :: older) ∧ w' = (setIll w q k).alloc (.cells #[.int .i64 k] 81) := by
  have hW := below_one' w (.cells #[.int .i64 k] 81)
  obtain ⟨_, o0, o1, o2, o3, o4, o5, o6⟩ := h.on hW
  have hlt := h.lt
  have hf := hf.below hW hlt
  have m0 : (w.alloc (.cells #[.int .i64 k] 81)).cell? ⟨w.heap.size, 0, none⟩ = some (.int .i64 k) := by simp [go_sem]
  have hS : setIll (w.alloc (.cells #[.int .i64 k] 81)) q k = (setIll w q k).alloc (.cells #[.int .i64 k] 81) := by
    unfold setIll
    simp [go_sem, hlt]
  have f0 := hf 0
  have f1 := hf 1
  have f2 := hf 2
  have f3 := hf 3
  have f4 := hf 4
  have f5 := hf 5
  have f6 := hf 6
  have ta : ∀ w : World, Sem.run Try.prog (Instr.typeAssert (.iface 81 (.agg #[.int .i64 k])) 20 81 true) w = .ok (.tuple #[.agg #[.int .i64 k], .bool true]) w := fun _ => by kernel_rfl
  refine callsD_of_wpS Try.func69 rfl fun c₀ cs hu => ?_
  apply wpS_seq
  apply wpS_region
  simp [wpOpsS, go_sem, recoverD, hu, Try.ntmps69, Exit.thenS, ta]
  apply wpS_seq
  apply wpS_region
  simp [wpOpsS, go_sem, Exit.thenS]
  refine wpS_cond (t := true) (by simp [Act.eval, Array.replicate]) ?_
  simp only [if_true]
  apply wpS_region
  rw [← hS]
  clear hS hW
  generalize w.alloc (.cells #[.int .i64 k] 81) = W at *
  simp [wpOpsS, go_sem, o0, o1, o2, o3, o4, o5, o6, f0, f1, f2, f3, f4, f5, f6, m0, bodyPostS, results, Try.results69, setIll]
set_option maxRecDepth 20000 in
set_option maxHeartbeats 1000000 in
theorem catch_idle (q : Nat) (w : World) :
    CallsD Try.prog 69 #[.pointer (some ⟨q, 0, none⟩)] .returning w fun e u' w' => e = .returned (.tuple #[]) ∧ u' = .returning ∧ w' = w.alloc (.cells #[.int .i64 0] 81) := by
  have ta : ∀ w : World, Sem.run Try.prog (Instr.typeAssert .nilIface 20 81 true) w = .ok (.tuple #[.agg #[.int .i64 0], .bool false]) w := fun _ => by kernel_rfl
  refine callsD_of_wpS Try.func69 rfl fun c₀ cs hu => ?_
  apply wpS_seq
  apply wpS_region
  simp [wpOpsS, go_sem, recoverD, hu, Try.ntmps69, Exit.thenS, ta]
  apply wpS_seq
  apply wpS_region
  simp [wpOpsS, go_sem, Exit.thenS]
  refine wpS_cond (t := false) (by simp [Act.eval, Array.replicate]) ?_
  simp only [Bool.false_eq_true, if_false]
  refine wpS_of_wp (wp_skip ?_)
  cases c₀
  simp_all [bodyPostS, results, Try.results69]
theorem setIll_at (w : World) (q : Nat) (k : Int) (h : OBox w q 0 0 0 none 0 0 0 0 0) : OBox ((setIll w q k).alloc (.cells #[.int .i64 k] 81)) q 0 0 0 none 0 0 0 0 k := by
  obtain ⟨hlt, o0, o1, o2, o3, o4, o5, o6⟩ := h
  unfold setIll
  refine ⟨by simp; omega, ?_, ?_, ?_, ?_, ?_, ?_, ?_⟩ <;> simp [go_sem, hlt, o0, o1, o2, o3, o4, o5, o6]
theorem setIll_below {B : Nat} {w W : World} (h : Below B w W) (hB : B ≤ W.heap.size) (q : Nat) (hq : B ≤ q) (k : Int) (o : Obj) : Below B w ((setIll W q k).alloc o) := by
  have h1 : Below B w (setIll W q k) := ((((((h.setCell hq _).setCell hq _).setCell hq _).setCell hq _).setCell hq _).setCell hq _).setCell hq _
  exact h1.alloc (by simpa [setIll] using hB) o
theorem WAt.save {w w' : World} {wb sb : Nat} {H T : Int} {n : Nat} {Z : List Int} {S : Nat → Prop} (h : WAt w wb sb H T n Z) (hs : Save w w' S) (h1 : ¬ S wb) (h2 : ¬ S sb) : WAt w' wb sb H T n Z :=
  ⟨Nat.lt_of_lt_of_le h.lt hs.size, h.ne, (hs.cell (p := ⟨wb, _, none⟩) h.lt h1).trans h.c0, (hs.cell (p := ⟨wb, _, none⟩) h.lt h1).trans h.c1, (hs.cell (p := ⟨wb, _, none⟩) h.lt h1).trans h.c2, (hs.frozen (p := ⟨wb, _, none⟩) h.lt h1).trans h.f0, (hs.frozen (p := ⟨wb, _, none⟩) h.lt h1).trans h.f1, h.row.of_block (hs.block sb h.slt h2), h.len⟩
theorem sv7 (w : World) (q : Nat) (v0 v1 v2 v3 v4 v5 v6 : Value) :
    Save w (((((((w.setCell ⟨q, 0, none⟩ v0).setCell ⟨q, 1, none⟩ v1).setCell ⟨q, 2, none⟩ v2).setCell ⟨q, 3, none⟩ v3).setCell ⟨q, 4, none⟩ v4).setCell ⟨q, 5, none⟩ v5).setCell ⟨q, 6, none⟩ v6) (fun j => j = q) := by
  refine Save.setCell (S := fun j => j = q) (Save.setCell (S := fun j => j = q) (Save.setCell (S := fun j => j = q) (Save.setCell (S := fun j => j = q) (Save.setCell (S := fun j => j = q) (Save.setCell (S := fun j => j = q) (Save.setCell (S := fun j => j = q) (Save.refl w _) ?_ _) ?_ _) ?_ _) ?_ _) ?_ _) ?_ _) ?_ _ <;> exact fun _ => rfl
theorem set7_box (w : World) (q : Nat) (c0 c1 c2 : Int) (x : Option Addr) (l m : Nat) (c4 c5 c6 : Int) (h : OBox w q c0 c1 c2 x l m c4 c5 c6) (cap hd tl : Int) (a : Option Addr) (n c : Nat) (p i k : Int) :
    OBox (((((((w.setCell ⟨q, 0, none⟩ (.int .i64 cap)).setCell ⟨q, 1, none⟩ (.int .i64 hd)).setCell ⟨q, 2, none⟩ (.int .i64 tl)).setCell ⟨q, 3, none⟩ (.slice a n c)).setCell ⟨q, 4, none⟩ (.int .i64 p)).setCell ⟨q, 5, none⟩ (.int .i64 i)).setCell ⟨q, 6, none⟩ (.int .i64 k)) q cap hd tl a n c p i k := by
  obtain ⟨hlt, o0, o1, o2, o3, o4, o5, o6⟩ := h
  refine ⟨by simpa using hlt, ?_, ?_, ?_, ?_, ?_, ?_, ?_⟩ <;> simp [go_sem, o0, o1, o2, o3, o4, o5, o6]
theorem OFree.save {W W' : World} {q : Nat} {S : Nat → Prop} (h : OFree W q) (hs : ∀ p : Addr, W'.frozen? p = W.frozen? p) : OFree W' q := fun i => (hs _).trans (h i)
theorem rgout_set7 {w W w1 : World} {a : Option Addr} {n : Nat} {Z : List Int} (h : RgOut W w1 a n Z) (hb : Below w.heap.size w W) (q : Nat) (hq1 : w.heap.size ≤ q) (hq : q < W.heap.size) (v0 v1 v2 v3 v4 v5 v6 : Value) :
    RgOut w (((((((w1.setCell ⟨q, 0, none⟩ v0).setCell ⟨q, 1, none⟩ v1).setCell ⟨q, 2, none⟩ v2).setCell ⟨q, 3, none⟩ v3).setCell ⟨q, 4, none⟩ v4).setCell ⟨q, 5, none⟩ v5).setCell ⟨q, 6, none⟩ v6) a n Z := by
  have hs := sv7 w1 q v0 v1 v2 v3 v4 v5 v6
  have hbs := hb.size
  refine ⟨h.arg.save hs (fun x e hx => ?_), h.mu.save hs (fun x e hx => ?_), fun x e => ?_, ?_⟩
  · have := h.fresh x e; have hx' : x.block = q := hx; omega
  · have := h.fresh x e; have hx' : x.block = q := hx; omega
  · have := h.fresh x e; have := hs.size; omega
  · exact (hb.trans (h.bel.mono hbs)).trans (hs.below (B := w.heap.size) (by have := h.bel.size; omega) (fun j hj => by omega))
end Go.Proofs.Ytfafeomegoikkaa
