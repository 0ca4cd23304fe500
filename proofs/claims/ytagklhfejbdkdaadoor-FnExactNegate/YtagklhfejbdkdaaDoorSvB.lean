/-
  What a call leaves as it was: all blocks but some. And small facts on blocks and answers that every text here shares.
-/
import Derived.Test.YtagklhfejbdkdaaDoorRows
import Derived.WalkKit
import Derived.WalkSpells
import Derived.WalkLawsBesides
import Derived.Maps.AppendAt
import Derived.Deep.AppendLies
import Derived.Deep.RegionLaw
import Derived.Deep.OwnRows
namespace Go.Proofs.YtagklhfejbdkdaaDoor
open Go.RowKit
set_option linter.unusedVariables false
set_option linter.unusedSimpArgs false
theorem ret_bool {a b : Bool} (h : a = b) : Ending.returned (.bool a) = .returned (.bool b) := by rw [h]
theorem ret_int {k : IntKind} {a b : Int} (h : a = b) : Ending.returned (.int k a) = .returned (.int k b) := by rw [h]
theorem hid {p : Prop} (h : p) : Hid p := h
/-- All blocks that were there are as they were, but those of a set. -/
structure Save (w w' : World) (S : Nat → Prop) : Prop where
  os : w'.os = w.os
  tape : w'.tape = w.tape
  output : w'.output = w.output
  size : w.heap.size ≤ w'.heap.size
  block : ∀ b, b < w.heap.size → ¬ S b → w'.heap[b]? = w.heap[b]?
theorem Save.refl (w : World) (S : Nat → Prop) : Save w w S := ⟨rfl, rfl, rfl, Nat.le_refl _, fun _ _ _ => rfl⟩
theorem Save.trans {a b c : World} {S : Nat → Prop} (h : Save a b S) (k : Save b c S) : Save a c S :=
  ⟨k.os.trans h.os, k.tape.trans h.tape, k.output.trans h.output, Nat.le_trans h.size k.size, fun j hj hs => (k.block j (Nat.lt_of_lt_of_le hj h.size) hs).trans (h.block j hj hs)⟩
theorem Save.mono {a b : World} {S T : Nat → Prop} (h : Save a b S) (hST : ∀ j, j < a.heap.size → S j → T j) : Save a b T :=
  ⟨h.os, h.tape, h.output, h.size, fun j hj hs => h.block j hj (fun x => hs (hST j hj x))⟩
theorem Save.of_below {B : Nat} {a b : World} (h : Below B a b) (S : Nat → Prop) (hS : ∀ j, B ≤ j → j < a.heap.size → S j) : Save a b S :=
  ⟨h.os, h.tape, h.output, h.size, fun j hj hs => h.block j (Nat.lt_of_not_le fun hB => hs (hS j hB hj))⟩
theorem Save.below {B : Nat} {a b : World} {S : Nat → Prop} (h : Save a b S) (hB : B ≤ a.heap.size) (hS : ∀ j, S j → B ≤ j) : Below B a b :=
  ⟨h.os, h.tape, h.output, h.size, fun j hj => h.block j (Nat.lt_of_lt_of_le hj hB) (fun s => absurd (hS j s) (by omega))⟩
theorem Save.grown {a w w' : World} {S : Nat → Prop} {row : Option Nat} (h : Save a w S) (hg : w.grownBy w' row) (hr : ∀ k, row = some k → k < a.heap.size → S k) : Save a w' S :=
  ⟨hg.os.trans h.os, hg.tape.trans h.tape, hg.output.trans h.output, Nat.le_trans h.size hg.size, fun j hj hs => by
    rw [hg.block j (Nat.lt_of_lt_of_le hj h.size) (fun e => hs (hr j e.symm hj))]
    exact h.block j hj hs⟩
theorem Save.alloc {a w : World} {S : Nat → Prop} (h : Save a w S) (o : Obj) : Save a (w.alloc o) S :=
  h.grown (World.grownBy_alloc w o none) (fun k e => by cases e)
theorem Save.drew {a w : World} {S : Nat → Prop} (h : Save a w S) : Save a w.drew S := ⟨h.os, h.tape, h.output, h.size, h.block⟩
theorem Save.drewN {a w : World} {S : Nat → Prop} (h : Save a w S) (n : Nat) : Save a (w.drewN n) S := ⟨h.os, h.tape, h.output, h.size, h.block⟩
theorem Save.setCell {a w : World} {S : Nat → Prop} (h : Save a w S) {p : Addr} (hp : p.block < a.heap.size → S p.block) (u : Value) : Save a (w.setCell p u) S := by
  have hb := (Below.refl w.heap.size w)
  refine ⟨h.os, h.tape, h.output, ?_, fun j hj hs => ?_⟩
  · have := (Below.refl 0 w).setCell (p := p) (Nat.zero_le _) u
    exact Nat.le_trans h.size this.size
  · by_cases e : j = p.block
    · subst e; exact absurd (hp hj) hs
    · rw [Below.heap_setCell w p u j e]; exact h.block j hj hs
theorem Save.cell {a b : World} {S : Nat → Prop} (h : Save a b S) {p : Addr} (hp : p.block < a.heap.size) (hs : ¬ S p.block) : b.cell? p = a.cell? p := World.cell?_of_block (w := a) (h.block p.block hp hs)
theorem Save.frozen {a b : World} {S : Nat → Prop} (h : Save a b S) {p : Addr} (hp : p.block < a.heap.size) (hs : ¬ S p.block) : b.frozen? p = a.frozen? p := World.frozen?_of_block (w := a) (h.block p.block hp hs)
theorem cell_one (w : World) (x : Value) (t : TypeId) : ∀ j u, [x][j]? = some u → (w.alloc (.cells #[x] t)).cell? ((⟨w.heap.size, 0, none⟩ : Addr).add j) = some u := by
  intro j u hu
  match j, hu with
  | 0, hu => simp at hu; subst hu; simp [Addr.add]
def OfT (a : Option Addr) (j : Nat) : Prop := ∃ q, a = some q ∧ q.block = j
theorem below_drewN {B : Nat} {a w : World} (h : Below B a w) (n : Nat) : Below B a (w.drewN n) := ⟨h.os, h.tape, h.output, h.size, h.block⟩
/-- append, of a slice that is owned, as one step of a region that draws its order. -/
theorem step_append_own {P : Program} {ops : Array Oper} {o : Oper} {a : Act} {w : World} {K : Act → World → Prop} {Q : Exit → Act → World → Prop} {E : Prop}
    (hg : o.guard = none) (s x : Operand) (t : TypeId) (hop : o.op = Op.call { callee := Callee.builtin Builtin.append, args := #[s, x], argTypes := #[t, t] })
    (base : Nat) (e : TypeId) (i : TypeInfo) (z : Value) (size bytes : Nat) (h1 : P.underlying t = some (.slice e)) (h2 : P.info? e = some i) (hz : i.zero = some z) (h4 : i.size = size) (hby : i.bytes = bytes) (hzs : z.cells.size = size) (hsz : 0 < size)
    (v : Value) (n : Nat) (xs : List Value) (hs : a.eval s = v) (hown : w.ownsRow base e size v n xs)
    (ad : Addr) (m c : Nat) (news : List Value) (hx : a.eval x = .slice (some ad) m c) (hn : news.length = m * size) (hc : ∀ j u, news[j]? = some u → w.cell? (ad.add j) = some u) (h1c : ∀ u ∈ news, u.oneCell' = true)
    (h63 : n + m ≤ maxLen) (hbytes : (n + m) * bytes ≤ 140737488355328) (hbase : base ≤ w.heap.size)
    (hK : ∀ v' w', w'.ownsRow base e size v' (n + m) (xs ++ news) → w.grownBy w' v.ownBlock → (v'.ownBlock = v.ownBlock ∨ v'.ownBlock = some w.heap.size) → K (a.put o.dst v') w') :
    if Region.wanted o (yielded ops a.tmps) = true then Oper.wp P o a w K Q else E := by
  have hw : Region.wanted o (yielded ops a.tmps) = true := by simp [Region.wanted, hg]
  rw [if_pos hw]
  obtain ⟨v', w', hrun, r1, r2, _, r3⟩ := run_append_own_at (P := P) w base t o.type e i z size bytes h1 h2 hz h4 hby hzs hsz v n xs hown ad m c news hn hc h1c h63 hbytes hbase
  unfold Oper.wp
  simp [execOp, hop, resolve, invoke, builtin, hs, hx, hrun, Result.andThen]
  exact hK v' w' r1 r2 r3
end Go.Proofs.YtagklhfejbdkdaaDoor
