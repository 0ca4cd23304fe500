/-
  What a call leaves as it was: all blocks but some. And small facts on blocks and answers that every text here shares.
  The words of the table: WordRight, the model's and the program's, by one contract; it answers 'wordB' of the text, and turns nothing.
  Bounds of a node: plain facts.
  Plain facts on formulas: nodes, the order in which they are come to, when a row of nodes is right.
  The table of words is left as it was.
  The laws' marks: markText by its contract.
  The laws' marks over rows of texts: eqStringS, markStringS, heldStringS, by their contracts.
  WordRight at every text: the program's contract.
  Events: plain facts; the model's and the program's EventRight by one contract ('evB').
  The laws' own helpers over events: szStringS, toStringS, szEvent, toEvent, eqEvent, by their contracts.
  Times: the model's and the program's, by one contract.
  EventRight, the model's and the program's, by one contract.
  What the walks of the laws over one event share; the walk of FnExactEventRight.
  Rows of events: plain facts; the laws' own helpers over them: szEventS, toEventS, eqEventS, by their contracts.
  EventHas, the model's and the program's, by one contract; the walk of FnExactEventHas.
  What formulas mean: plain facts.
-/
import Derived.Test.YtbfkbgmkibkbnaaGreatDoorRows
import Derived.WalkKit
import Derived.WalkSpells
import Derived.WalkLawsBesides
import Derived.Maps.AppendAt
import Derived.Deep.AppendLies
import Derived.Deep.RegionLaw
import Derived.Deep.OwnRows
import Derived.Laws.IdiomStrings
import Derived.Deep.QuietTactic
import Derived.BigQuiet
namespace Go.Proofs.YtbfkbgmkibkbnaaGreatDoor
open Go.RowKit
set_option linter.unusedVariables false
set_option linter.unusedSimpArgs false
theorem ret_bool {a b : Bool} (h : a = b) : Ending.returned (.bool a) = .returned (.bool b) := by rw [h]
theorem ret_int {k : IntKind} {a b : Int} (h : a = b) : Ending.returned (.int k a) = .returned (.int k b) := by rw [h]
theorem hid {p : Prop} (h : p) : Hid p := h
/-- All blocks that were there are as they were, but those of a set. -/
structure Save (w w' : World) (S : Nat → Prop) : Prop where
  os : w'.os = w.os
  tape : w'.tape = w.tape
  output : w'.output = w.output
  size : w.heap.size ≤ w'.heap.size
  block : ∀ b, b < w.heap.size → ¬ S b → w'.heap[b]? = w.heap[b]?
theorem Save.refl (w : World) (S : Nat → Prop) : Save w w S := ⟨rfl, rfl, rfl, Nat.le_refl _, fun _ _ _ => rfl⟩
theorem Save.trans {a b c : World} {S : Nat → Prop} (h : Save a b S) (k : Save b c S) : Save a c S :=
  ⟨k.os.trans h.os, k.tape.trans h.tape, k.output.trans h.output, Nat.le_trans h.size k.size, fun j hj hs => (k.block j (Nat.lt_of_lt_of_le hj h.size) hs).trans (h.block j hj hs)⟩
theorem Save.mono {a b : World} {S T : Nat → Prop} (h : Save a b S) (hST : ∀ j, j < a.heap.size → S j → T j) : Save a b T :=
  ⟨h.os, h.tape, h.output, h.size, fun j hj hs => h.block j hj (fun x => hs (hST j hj x))⟩
theorem Save.of_below {B : Nat} {a b : World} (h : Below B a b) (S : Nat → Prop) (hS : ∀ j, B ≤ j → j < a.heap.size → S j) : Save a b S :=
  ⟨h.os, h.tape, h.output, h.size, fun j hj hs => h.block j (Nat.lt_of_not_le fun hB => hs (hS j hB hj))⟩
theorem Save.below {B : Nat} {a b : World} {S : Nat → Prop} (h : Save a b S) (hB : B ≤ a.heap.size) (hS : ∀ j, S j → B ≤ j) : Below B a b :=
  ⟨h.os, h.tape, h.output, h.size, fun j hj => h.block j (Nat.lt_of_lt_of_le hj hB) (fun s => absurd (hS j s) (by omega))⟩
theorem Save.grown {a w w' : World} {S : Nat → Prop} {row : Option Nat} (h : Save a w S) (hg : w.grownBy w' row) (hr : ∀ k, row = some k → k < a.heap.size → S k) : Save a w' S :=
  ⟨hg.os.trans h.os, hg.tape.trans h.tape, hg.output.trans h.output, Nat.le_trans h.size hg.size, fun j hj hs => by
    rw [hg.block j (Nat.lt_of_lt_of_le hj h.size) (fun e => hs (hr j e.symm hj))]
    exact h.block j hj hs⟩
theorem Save.alloc {a w : World} {S : Nat → Prop} (h : Save a w S) (o : Obj) : Save a (w.alloc o) S :=
  h.grown (World.grownBy_alloc w o none) (fun k e => by cases e)
theorem Save.drew {a w : World} {S : Nat → Prop} (h : Save a w S) : Save a w.drew S := ⟨h.os, h.tape, h.output, h.size, h.block⟩
theorem Save.drewN {a w : World} {S : Nat → Prop} (h : Save a w S) (n : Nat) : Save a (w.drewN n) S := ⟨h.os, h.tape, h.output, h.size, h.block⟩
theorem Save.setCell {a w : World} {S : Nat → Prop} (h : Save a w S) {p : Addr} (hp : p.block < a.heap.size → S p.block) (u : Value) : Save a (w.setCell p u) S := by
  have hb := (Below.refl w.heap.size w)
  refine ⟨h.os, h.tape, h.output, ?_, fun j hj hs => ?_⟩
  · have := (Below.refl 0 w).setCell (p := p) (Nat.zero_le _) u
    exact Nat.le_trans h.size this.size
  · by_cases e : j = p.block
    · subst e; exact absurd (hp hj) hs
    · rw [Below.heap_setCell w p u j e]; exact h.block j hj hs
theorem Save.cell {a b : World} {S : Nat → Prop} (h : Save a b S) {p : Addr} (hp : p.block < a.heap.size) (hs : ¬ S p.block) : b.cell? p = a.cell? p := World.cell?_of_block (w := a) (h.block p.block hp hs)
theorem Save.frozen {a b : World} {S : Nat → Prop} (h : Save a b S) {p : Addr} (hp : p.block < a.heap.size) (hs : ¬ S p.block) : b.frozen? p = a.frozen? p := World.frozen?_of_block (w := a) (h.block p.block hp hs)
theorem cell_one (w : World) (x : Value) (t : TypeId) : ∀ j u, [x][j]? = some u → (w.alloc (.cells #[x] t)).cell? ((⟨w.heap.size, 0, none⟩ : Addr).add j) = some u := by
  intro j u hu
  match j, hu with
  | 0, hu => simp at hu; subst hu; simp [Addr.add]
def OfT (a : Option Addr) (j : Nat) : Prop := ∃ q, a = some q ∧ q.block = j
theorem below_drewN {B : Nat} {a w : World} (h : Below B a w) (n : Nat) : Below B a (w.drewN n) := ⟨h.os, h.tape, h.output, h.size, h.block⟩
/-- append, of a slice that is owned, as one step of a region that draws its order. -/
theorem step_append_own {P : Program} {ops : Array Oper} {o : Oper} {a : Act} {w : World} {K : Act → World → Prop} {Q : Exit → Act → World → Prop} {E : Prop}
    (hg : o.guard = none) (s x : Operand) (t : TypeId) (hop : o.op = Op.call { callee := Callee.builtin Builtin.append, args := #[s, x], argTypes := #[t, t] })
    (base : Nat) (e : TypeId) (i : TypeInfo) (z : Value) (size bytes : Nat) (h1 : P.underlying t = some (.slice e)) (h2 : P.info? e = some i) (hz : i.zero = some z) (h4 : i.size = size) (hby : i.bytes = bytes) (hzs : z.cells.size = size) (hsz : 0 < size)
    (v : Value) (n : Nat) (xs : List Value) (hs : a.eval s = v) (hown : w.ownsRow base e size v n xs)
    (ad : Addr) (m c : Nat) (news : List Value) (hx : a.eval x = .slice (some ad) m c) (hn : news.length = m * size) (hc : ∀ j u, news[j]? = some u → w.cell? (ad.add j) = some u) (h1c : ∀ u ∈ news, u.oneCell' = true)
    (h63 : n + m ≤ maxLen) (hbytes : (n + m) * bytes ≤ 140737488355328) (hbase : base ≤ w.heap.size)
    (hK : ∀ v' w', w'.ownsRow base e size v' (n + m) (xs ++ news) → w.grownBy w' v.ownBlock → (v'.ownBlock = v.ownBlock ∨ v'.ownBlock = some w.heap.size) → K (a.put o.dst v') w') :
    if Region.wanted o (yielded ops a.tmps) = true then Oper.wp P o a w K Q else E := by
  have hw : Region.wanted o (yielded ops a.tmps) = true := by simp [Region.wanted, hg]
  rw [if_pos hw]
  obtain ⟨v', w', hrun, r1, r2, _, r3⟩ := run_append_own_at (P := P) w base t o.type e i z size bytes h1 h2 hz h4 hby hzs hsz v n xs hown ad m c news hn hc h1c h63 hbytes hbase
  unfold Oper.wp
  simp [execOp, hop, resolve, invoke, builtin, hs, hx, hrun, Result.andThen]
  exact hK v' w' r1 r2 r3
end Go.Proofs.YtbfkbgmkibkbnaaGreatDoor
namespace Go.Proofs.YtbfkbgmkibkbnaaGreatDoor
open Go.RowKit

/-! ### Plain facts -/
def smallN (c : Nat) : Bool := decide (97 ≤ c ∧ c ≤ 122)
def byteAt (s : ByteArray) (k : Nat) : Nat := (s.data.toList.getD k 0).toNat
def smallTo (s : ByteArray) (k : Nat) : Bool := (List.range k).all fun i => smallN (byteAt s i)
def kw (k : Nat) : List UInt8 :=
  if k = 1 then [116, 114, 117, 101] else if k = 3 then [110, 111, 116] else if k = 4 then [97, 110, 100] else if k = 5 then [111, 114] else if k = 6 then [112, 114, 101, 118]
  else if k = 7 then [111, 110, 99, 101] else if k = 8 then [104, 105, 115, 116] else if k = 9 then [115, 105, 110, 99, 101] else []
/-- The kind of a word that stands behind a bracket. -/
def kindS (l : List UInt8) : Int :=
  if l == [110, 111, 116] then 3 else if l == [97, 110, 100] then 4 else if l == [111, 114] then 5 else if l == [112, 114, 101, 118] then 6
  else if l == [111, 110, 99, 101] then 7 else if l == [104, 105, 115, 116] then 8 else if l == [115, 105, 110, 99, 101] then 9 else 0
/-- The kind of a word of the table. -/
def kindW (l : List UInt8) : Int := if l == [116, 114, 117, 101] then 1 else kindS l
def wordB (s : ByteArray) : Bool := decide (1 ≤ s.size ∧ s.size ≤ 8) && (smallTo s s.size && kindW s.toList == 0)

theorem byteAt_eq (s : ByteArray) (k : Nat) (h : k < s.size) : byteAt s k = s[k].toNat := by
  unfold byteAt
  have h' : k < s.data.toList.length := by simpa using h
  simp [List.getD, h]
  rfl
theorem smallTo_succ (s : ByteArray) (k : Nat) : smallTo s (k + 1) = (smallTo s k && smallN (byteAt s k)) := by
  simp [smallTo, List.range_succ]
theorem smallTo_false (s : ByteArray) (k m : Nat) (hm : k < m) (h : smallN (byteAt s k) = false) : smallTo s m = false := by
  simp only [smallTo, List.all_eq_false, List.mem_range]
  exact ⟨k, hm, by simp [h]⟩
theorem wordB_size (s : ByteArray) (h : ¬ (1 ≤ s.size ∧ s.size ≤ 8)) : wordB s = false := by
  simp [wordB, h]
theorem wordB_small (s : ByteArray) (k : Nat) (hm : k < s.size) (h : smallN (byteAt s k) = false) : wordB s = false := by
  simp [wordB, smallTo_false s k s.size hm h]
theorem wordB_eq (s : ByteArray) (h1 : 1 ≤ s.size) (h2 : s.size ≤ 8) (h : smallTo s s.size = true) : wordB s = (kindW s.toList == 0) := by
  simp [wordB, h1, h2, h]
theorem kindS_range (l : List UInt8) : 0 ≤ kindS l ∧ kindS l ≤ 9 := by
  unfold kindS
  repeat' split
  all_goals omega
theorem kindW_range (l : List UInt8) : 0 ≤ kindW l ∧ kindW l ≤ 9 := by
  unfold kindW
  have := kindS_range l
  split <;> omega
theorem wordB_true (s : ByteArray) (h : (s.toList == [116, 114, 117, 101]) = true) : (kindW s.toList == 0) = false := by
  simp [kindW, h]
theorem wordB_else (s : ByteArray) (h : (s.toList == [116, 114, 117, 101]) = false) : kindW s.toList = kindS s.toList := by
  simp [kindW, h]

/-! ### The model's -/
set_option maxHeartbeats 400000 in
theorem kindS_any (s : ByteArray) (w : World) :
    Calls Tryz.prog 122 #[.string s] w fun e w' => e = .returned (.int .i64 (kindS s.toList)) ∧ w' = w := by
  go_enter Tryz.func122, Tryz.ntmps122
  go_wp2
  all_goals
    go_ret
    exact ⟨ret_int (by simp [kindS, *]), rfl⟩
set_option maxHeartbeats 1000000 in
theorem specWord_any (s : ByteArray) (w : World) (hs : s.size ≤ maxLen) :
    Calls Tryz.prog 88 #[.string s] w fun e w' => e = .returned (.bool (wordB s)) ∧ w' = w := by
  unfold maxLen at hs
  by_cases h1 : s.size < 1
  · have HN : Hid (wordB s = false) := wordB_size s (by omega)
    go_enter Tryz.func88, Tryz.ntmps88
    go_wp2
    go_ret
    exact ⟨ret_bool HN.out.symm, rfl⟩
  by_cases h2 : 8 < s.size
  · have HN : Hid (wordB s = false) := wordB_size s (by omega)
    go_enter Tryz.func88, Tryz.ntmps88
    go_wp2
    go_ret
    exact ⟨ret_bool HN.out.symm, rfl⟩
  have HG : Hid (smallTo s s.size = true → wordB s = (kindW s.toList == 0)) := wordB_eq s (by omega) (by omega)
  go_enter Tryz.func88, Tryz.ntmps88
  go_wp2
  go_loop [3] (fun i => ∃ k : Nat, k ≤ s.size ∧ i = .int .i64 k ∧ smallTo s k = true) (fun i => s.size - (intOf i).toNat)
  case atStart => exact ⟨0, Nat.zero_le _, rfl, rfl⟩
  case round =>
    obtain ⟨k, hk, rfl, hg⟩ := hrel
    have HG2 : Hid (smallTo s k = true) := hg
    clear hg
    by_cases hlt : k < s.size
    · have HB : Hid (byteAt s k = s[k].toNat) := byteAt_eq s k hlt
      have HS : Hid (smallTo s (k + 1) = (smallTo s k && smallN (byteAt s k))) := smallTo_succ s k
      have HF : Hid (smallN (byteAt s k) = false → wordB s = false) := wordB_small s k hlt
      by_cases ha : (s[k].toNat : Int) < 97 <;> by_cases hb : 122 < (s[k].toNat : Int)
      any_goals omega
      all_goals go_wp2
      all_goals first
        | (go_ret
           exact ⟨ret_bool (HF.out (by rw [HB.out]; simp [smallN]; omega)).symm, rfl⟩)
        | (go_round
           case rel => exact ⟨k + 1, by omega, by go_num, by rw [HS.out, HG2.out, HB.out]; simp [smallN]; omega⟩
           case measure => simp [intOf]; omega)
    · have hk' : k = s.size := by omega
      have HW : Hid (wordB s = (kindW s.toList == 0)) := HG.out (hk' ▸ HG2.out)
      clear HG HG2
      by_cases ht : (s.toList == [116, 114, 117, 101]) = true
      · have HT : Hid ((kindW s.toList == 0) = false) := wordB_true s ht
        go_wp2
        go_ret
        exact ⟨ret_bool (by rw [HW.out, HT.out]), rfl⟩
      · have ht : (s.toList == [116, 114, 117, 101]) = false := by simpa using ht
        have HT : Hid (kindW s.toList = kindS s.toList) := wordB_else s ht
        go_wp2_with (go_at_call 122; refine (kindS_any _ _).mono ?_; rintro e w' ⟨rfl, rfl⟩)
        go_ret
        exact ⟨ret_bool (by rw [HW.out, HT.out]), rfl⟩

/-! ### The program's -/
theorem small_any (c : Nat) (hc : c < 256) (w : World) :
    Calls Tryz.prog 124 #[.int .u8 c] w fun e w' => e = .returned (.bool (smallN c)) ∧ w' = w := by
  by_cases h1 : (97 : Int) ≤ c <;> by_cases h2 : (c : Int) ≤ 122
  all_goals
    go_enter Tryz.func124, Tryz.ntmps124
    go_wp2
    go_ret
    exact ⟨ret_bool (by simp [smallN]; omega), rfl⟩
/-- The table of words lies as the program's text lays it. -/
structure Kw (w : World) : Prop where
  c0 : w.cell? ⟨1, 0, none⟩ = some (.string ⟨#[]⟩)
  c1 : w.cell? ⟨1, 1, none⟩ = some (.string ⟨#[116, 114, 117, 101]⟩)
  c2 : w.cell? ⟨1, 2, none⟩ = some (.string ⟨#[]⟩)
  c3 : w.cell? ⟨1, 3, none⟩ = some (.string ⟨#[110, 111, 116]⟩)
  c4 : w.cell? ⟨1, 4, none⟩ = some (.string ⟨#[97, 110, 100]⟩)
  c5 : w.cell? ⟨1, 5, none⟩ = some (.string ⟨#[111, 114]⟩)
  c6 : w.cell? ⟨1, 6, none⟩ = some (.string ⟨#[112, 114, 101, 118]⟩)
  c7 : w.cell? ⟨1, 7, none⟩ = some (.string ⟨#[111, 110, 99, 101]⟩)
  c8 : w.cell? ⟨1, 8, none⟩ = some (.string ⟨#[104, 105, 115, 116]⟩)
  c9 : w.cell? ⟨1, 9, none⟩ = some (.string ⟨#[115, 105, 110, 99, 101]⟩)
theorem kindW_at (l : List UInt8) (k : Nat) (h : k = 1 ∨ (3 ≤ k ∧ k ≤ 9)) (e : (kw k == l) = true) : kindW l = k := by
  have e' : kw k = l := by simpa using e
  subst e'
  rcases h with rfl | ⟨h1, h2⟩
  · rfl
  · have : k = 3 ∨ k = 4 ∨ k = 5 ∨ k = 6 ∨ k = 7 ∨ k = 8 ∨ k = 9 := by omega
    rcases this with rfl | rfl | rfl | rfl | rfl | rfl | rfl <;> rfl
theorem kindW_none (l : List UInt8) (h : ∀ j, j < 10 → (j = 1 ∨ 3 ≤ j) → (kw j == l) = false) : kindW l = 0 := by
  have g : ∀ j, j < 10 → (j = 1 ∨ 3 ≤ j) → (l == kw j) = false := fun j a b => by rw [BEq.comm]; exact h j a b
  have g1 := g 1 (by omega) (by omega)
  have g3 := g 3 (by omega) (by omega)
  have g4 := g 4 (by omega) (by omega)
  have g5 := g 5 (by omega) (by omega)
  have g6 := g 6 (by omega) (by omega)
  have g7 := g 7 (by omega) (by omega)
  have g8 := g 8 (by omega) (by omega)
  have g9 := g 9 (by omega) (by omega)
  simp only [kw] at g1 g3 g4 g5 g6 g7 g8 g9
  simp at g1 g3 g4 g5 g6 g7 g8 g9
  simp [kindW, kindS, g1, g3, g4, g5, g6, g7, g8, g9]
set_option maxRecDepth 100000 in
set_option maxHeartbeats 2000000 in
theorem kindW_any (s : ByteArray) (w : World) (hk : Kw w) :
    Calls Tryz.prog 125 #[.string s] w fun e w' => e = .returned (.int .i64 (kindW s.toList)) ∧ w' = w := by
  obtain ⟨h0, h1, h2, h3, h4, h5, h6, h7, h8, h9⟩ := hk
  go_enter Tryz.func125, Tryz.ntmps125
  go_wp2
  go_loop [6] (fun i => ∃ k : Nat, k ≤ 10 ∧ i = .int .i64 k ∧ ∀ j, j < k → (j = 1 ∨ 3 ≤ j) → (kw j == s.toList) = false) (fun i => 10 - (intOf i).toNat)
  case atStart => exact ⟨0, by omega, rfl, fun j h => by omega⟩
  case round =>
    clear h0 h1 h2 h3 h4 h5 h6 h7 h8 h9
    obtain ⟨k, hk, rfl, hg⟩ := hrel
    have HG : Hid (∀ j, j < k → (j = 1 ∨ 3 ≤ j) → (kw j == s.toList) = false) := hg
    clear hg
    have hc : k = 0 ∨ k = 1 ∨ k = 2 ∨ k = 3 ∨ k = 4 ∨ k = 5 ∨ k = 6 ∨ k = 7 ∨ k = 8 ∨ k = 9 ∨ k = 10 := by omega
    rcases hc with rfl | rfl | rfl | rfl | rfl | rfl | rfl | rfl | rfl | rfl | rfl
    · have hix : Sem.run Tryz.prog (Instr.index 213 (Value.agg #[.string ⟨#[]⟩, .string ⟨#[116, 114, 117, 101]⟩, .string ⟨#[]⟩, .string ⟨#[110, 111, 116]⟩, .string ⟨#[97, 110, 100]⟩, .string ⟨#[111, 114]⟩, .string ⟨#[112, 114, 101, 118]⟩, .string ⟨#[111, 110, 99, 101]⟩, .string ⟨#[104, 105, 115, 116]⟩, .string ⟨#[115, 105, 110, 99, 101]⟩]) (Value.int .i64 0)) w = .ok (.string ⟨#[]⟩) w := by kernel_rfl
      go_wp2
      go_round
      case rel => exact ⟨1, by omega, rfl, fun j h h' => HG.out j (by omega) h'⟩
      case measure => simp [intOf]
    · have hix : Sem.run Tryz.prog (Instr.index 213 (Value.agg #[.string ⟨#[]⟩, .string ⟨#[116, 114, 117, 101]⟩, .string ⟨#[]⟩, .string ⟨#[110, 111, 116]⟩, .string ⟨#[97, 110, 100]⟩, .string ⟨#[111, 114]⟩, .string ⟨#[112, 114, 101, 118]⟩, .string ⟨#[111, 110, 99, 101]⟩, .string ⟨#[104, 105, 115, 116]⟩, .string ⟨#[115, 105, 110, 99, 101]⟩]) (Value.int .i64 1)) w = .ok (.string ⟨#[116, 114, 117, 101]⟩) w := by kernel_rfl
      go_wp2
      · go_ret
        exact ⟨ret_int (kindW_at _ 1 (by omega) ‹_›).symm, rfl⟩
      · go_round
        case rel => exact ⟨2, by omega, rfl, fun j h h' => by
          by_cases e : j = 1
          · subst e; assumption
          · exact HG.out j (by omega) h'⟩
        case measure => simp [intOf]
    · have hix : Sem.run Tryz.prog (Instr.index 213 (Value.agg #[.string ⟨#[]⟩, .string ⟨#[116, 114, 117, 101]⟩, .string ⟨#[]⟩, .string ⟨#[110, 111, 116]⟩, .string ⟨#[97, 110, 100]⟩, .string ⟨#[111, 114]⟩, .string ⟨#[112, 114, 101, 118]⟩, .string ⟨#[111, 110, 99, 101]⟩, .string ⟨#[104, 105, 115, 116]⟩, .string ⟨#[115, 105, 110, 99, 101]⟩]) (Value.int .i64 2)) w = .ok (.string ⟨#[]⟩) w := by kernel_rfl
      go_wp2
      go_round
      case rel => exact ⟨3, by omega, rfl, fun j h h' => HG.out j (by omega) h'⟩
      case measure => simp [intOf]
    · have hix : Sem.run Tryz.prog (Instr.index 213 (Value.agg #[.string ⟨#[]⟩, .string ⟨#[116, 114, 117, 101]⟩, .string ⟨#[]⟩, .string ⟨#[110, 111, 116]⟩, .string ⟨#[97, 110, 100]⟩, .string ⟨#[111, 114]⟩, .string ⟨#[112, 114, 101, 118]⟩, .string ⟨#[111, 110, 99, 101]⟩, .string ⟨#[104, 105, 115, 116]⟩, .string ⟨#[115, 105, 110, 99, 101]⟩]) (Value.int .i64 3)) w = .ok (.string ⟨#[110, 111, 116]⟩) w := by kernel_rfl
      go_wp2
      · go_ret
        exact ⟨ret_int (kindW_at _ 3 (by omega) ‹_›).symm, rfl⟩
      · go_round
        case rel => exact ⟨4, by omega, rfl, fun j h h' => by
          by_cases e : j = 3
          · subst e; assumption
          · exact HG.out j (by omega) h'⟩
        case measure => simp [intOf]
    · have hix : Sem.run Tryz.prog (Instr.index 213 (Value.agg #[.string ⟨#[]⟩, .string ⟨#[116, 114, 117, 101]⟩, .string ⟨#[]⟩, .string ⟨#[110, 111, 116]⟩, .string ⟨#[97, 110, 100]⟩, .string ⟨#[111, 114]⟩, .string ⟨#[112, 114, 101, 118]⟩, .string ⟨#[111, 110, 99, 101]⟩, .string ⟨#[104, 105, 115, 116]⟩, .string ⟨#[115, 105, 110, 99, 101]⟩]) (Value.int .i64 4)) w = .ok (.string ⟨#[97, 110, 100]⟩) w := by kernel_rfl
      go_wp2
      · go_ret
        exact ⟨ret_int (kindW_at _ 4 (by omega) ‹_›).symm, rfl⟩
      · go_round
        case rel => exact ⟨5, by omega, rfl, fun j h h' => by
          by_cases e : j = 4
          · subst e; assumption
          · exact HG.out j (by omega) h'⟩
        case measure => simp [intOf]
    · have hix : Sem.run Tryz.prog (Instr.index 213 (Value.agg #[.string ⟨#[]⟩, .string ⟨#[116, 114, 117, 101]⟩, .string ⟨#[]⟩, .string ⟨#[110, 111, 116]⟩, .string ⟨#[97, 110, 100]⟩, .string ⟨#[111, 114]⟩, .string ⟨#[112, 114, 101, 118]⟩, .string ⟨#[111, 110, 99, 101]⟩, .string ⟨#[104, 105, 115, 116]⟩, .string ⟨#[115, 105, 110, 99, 101]⟩]) (Value.int .i64 5)) w = .ok (.string ⟨#[111, 114]⟩) w := by kernel_rfl
      go_wp2
      · go_ret
        exact ⟨ret_int (kindW_at _ 5 (by omega) ‹_›).symm, rfl⟩
      · go_round
        case rel => exact ⟨6, by omega, rfl, fun j h h' => by
          by_cases e : j = 5
          · subst e; assumption
          · exact HG.out j (by omega) h'⟩
        case measure => simp [intOf]
    · have hix : Sem.run Tryz.prog (Instr.index 213 (Value.agg #[.string ⟨#[]⟩, .string ⟨#[116, 114, 117, 101]⟩, .string ⟨#[]⟩, .string ⟨#[110, 111, 116]⟩, .string ⟨#[97, 110, 100]⟩, .string ⟨#[111, 114]⟩, .string ⟨#[112, 114, 101, 118]⟩, .string ⟨#[111, 110, 99, 101]⟩, .string ⟨#[104, 105, 115, 116]⟩, .string ⟨#[115, 105, 110, 99, 101]⟩]) (Value.int .i64 6)) w = .ok (.string ⟨#[112, 114, 101, 118]⟩) w := by kernel_rfl
      go_wp2
      · go_ret
        exact ⟨ret_int (kindW_at _ 6 (by omega) ‹_›).symm, rfl⟩
      · go_round
        case rel => exact ⟨7, by omega, rfl, fun j h h' => by
          by_cases e : j = 6
          · subst e; assumption
          · exact HG.out j (by omega) h'⟩
        case measure => simp [intOf]
    · have hix : Sem.run Tryz.prog (Instr.index 213 (Value.agg #[.string ⟨#[]⟩, .string ⟨#[116, 114, 117, 101]⟩, .string ⟨#[]⟩, .string ⟨#[110, 111, 116]⟩, .string ⟨#[97, 110, 100]⟩, .string ⟨#[111, 114]⟩, .string ⟨#[112, 114, 101, 118]⟩, .string ⟨#[111, 110, 99, 101]⟩, .string ⟨#[104, 105, 115, 116]⟩, .string ⟨#[115, 105, 110, 99, 101]⟩]) (Value.int .i64 7)) w = .ok (.string ⟨#[111, 110, 99, 101]⟩) w := by kernel_rfl
      go_wp2
      · go_ret
        exact ⟨ret_int (kindW_at _ 7 (by omega) ‹_›).symm, rfl⟩
      · go_round
        case rel => exact ⟨8, by omega, rfl, fun j h h' => by
          by_cases e : j = 7
          · subst e; assumption
          · exact HG.out j (by omega) h'⟩
        case measure => simp [intOf]
    · have hix : Sem.run Tryz.prog (Instr.index 213 (Value.agg #[.string ⟨#[]⟩, .string ⟨#[116, 114, 117, 101]⟩, .string ⟨#[]⟩, .string ⟨#[110, 111, 116]⟩, .string ⟨#[97, 110, 100]⟩, .string ⟨#[111, 114]⟩, .string ⟨#[112, 114, 101, 118]⟩, .string ⟨#[111, 110, 99, 101]⟩, .string ⟨#[104, 105, 115, 116]⟩, .string ⟨#[115, 105, 110, 99, 101]⟩]) (Value.int .i64 8)) w = .ok (.string ⟨#[104, 105, 115, 116]⟩) w := by kernel_rfl
      go_wp2
      · go_ret
        exact ⟨ret_int (kindW_at _ 8 (by omega) ‹_›).symm, rfl⟩
      · go_round
        case rel => exact ⟨9, by omega, rfl, fun j h h' => by
          by_cases e : j = 8
          · subst e; assumption
          · exact HG.out j (by omega) h'⟩
        case measure => simp [intOf]
    · have hix : Sem.run Tryz.prog (Instr.index 213 (Value.agg #[.string ⟨#[]⟩, .string ⟨#[116, 114, 117, 101]⟩, .string ⟨#[]⟩, .string ⟨#[110, 111, 116]⟩, .string ⟨#[97, 110, 100]⟩, .string ⟨#[111, 114]⟩, .string ⟨#[112, 114, 101, 118]⟩, .string ⟨#[111, 110, 99, 101]⟩, .string ⟨#[104, 105, 115, 116]⟩, .string ⟨#[115, 105, 110, 99, 101]⟩]) (Value.int .i64 9)) w = .ok (.string ⟨#[115, 105, 110, 99, 101]⟩) w := by kernel_rfl
      go_wp2
      · go_ret
        exact ⟨ret_int (kindW_at _ 9 (by omega) ‹_›).symm, rfl⟩
      · go_round
        case rel => exact ⟨10, by omega, rfl, fun j h h' => by
          by_cases e : j = 9
          · subst e; assumption
          · exact HG.out j (by omega) h'⟩
        case measure => simp [intOf]
    · go_wp2
      go_ret
      exact ⟨ret_int (kindW_none _ HG.out).symm, rfl⟩
end Go.Proofs.YtbfkbgmkibkbnaaGreatDoor
namespace Go.Proofs.YtbfkbgmkibkbnaaGreatDoor
open Go.RowKit
set_option linter.unusedVariables false
set_option linter.unusedSimpArgs false
def isB (n lo hi : Int) : Bool := decide (lo ≤ n ∧ n ≤ hi)
def spanB (lo hi : Int) : Bool := isB lo 0 1000 && (hi == -1 || isB hi lo 1000)
def inB (lo hi n : Int) : Bool := decide (lo ≤ n) && (decide (hi = -1) || decide (n ≤ hi))
end Go.Proofs.YtbfkbgmkibkbnaaGreatDoor
namespace Go.Proofs.YtbfkbgmkibkbnaaGreatDoor
open Go.RowKit
/-! ### Nodes -/
abbrev Nd := Int × Int × Int × Int × Int × ByteArray
def Nd.k (x : Nd) : Int := x.1
def Nd.a (x : Nd) : Int := x.2.1
def Nd.b (x : Nd) : Int := x.2.2.1
def Nd.lo (x : Nd) : Int := x.2.2.2.1
def Nd.hi (x : Nd) : Int := x.2.2.2.2.1
def Nd.nm (x : Nd) : ByteArray := x.2.2.2.2.2
def nd0 : Nd := (0, 0, 0, 0, 0, ByteArray.empty)
def ndAt (f : List Nd) (i : Nat) : Nd := f.getD i nd0
def armsN (k : Int) : Nat := if k = 3 ∨ k = 6 ∨ k = 7 ∨ k = 8 then 1 else if k = 4 ∨ k = 5 ∨ k = 9 then 2 else 0
def timedB (k : Int) : Bool := decide (6 ≤ k ∧ k ≤ 9)
def walkF (f : List Nd) : Nat → Nat → List Nat → List Nat
  | 0, _, l => l
  | n + 1, i, l =>
    if i ∈ l then l else
    let x := ndAt f i
    let l1 := if 0 < armsN x.k then walkF f n x.a.toNat l else l
    let l2 := if 1 < armsN x.k then walkF f n x.b.toNat l1 else l1
    l2 ++ [i]
/-- What is asked of the places that a node speaks of. -/
def armsOk (x : Nd) (i : Nat) : Prop := (0 < armsN x.k → 0 ≤ x.a ∧ x.a < i) ∧ (1 < armsN x.k → 0 ≤ x.b ∧ x.b < i)
def downTo (f : List Nd) (n : Nat) : Prop := ∀ i, i < n → armsOk (ndAt f i) i

theorem walkF_fuel (f : List Nd) (n : Nat) : ∀ (m i : Nat) (l : List Nat), downTo f (i + 1) → i < n → i < m → walkF f n i l = walkF f m i l := by
  induction n with
  | zero => intro m i l _ h; omega
  | succ n ih =>
    intro m i l hd h1 h2
    obtain ⟨m, rfl⟩ : ∃ q, m = q + 1 := ⟨m - 1, by omega⟩
    simp only [walkF]
    by_cases hi : i ∈ l
    · simp [hi]
    · simp only [hi, if_false]
      have hx := hd i (by omega)
      have ha : 0 < armsN (ndAt f i).k → ∀ l, walkF f n (ndAt f i).a.toNat l = walkF f m (ndAt f i).a.toNat l := fun h l => by
        have := hx.1 h
        exact ih m _ l (fun j hj => hd j (by omega)) (by omega) (by omega)
      have hb : 1 < armsN (ndAt f i).k → ∀ l, walkF f n (ndAt f i).b.toNat l = walkF f m (ndAt f i).b.toNat l := fun h l => by
        have := hx.2 h
        exact ih m _ l (fun j hj => hd j (by omega)) (by omega) (by omega)
      by_cases h0 : 0 < armsN (ndAt f i).k <;> by_cases h1' : 1 < armsN (ndAt f i).k
      · simp only [h0, h1', if_true]; rw [ha h0, hb h1']
      · simp only [h0, h1', if_true, if_false]; rw [ha h0]
      · omega
      · simp only [h0, h1', if_false]

/-- The walk only puts behind: what it puts is at most i, new, and i is there in the end. -/
theorem walkF_grows (f : List Nd) (n : Nat) : ∀ (i : Nat) (l : List Nat), downTo f (i + 1) → i < n →
    (∃ t, walkF f n i l = l ++ t ∧ (∀ j ∈ t, j ≤ i)) ∧ i ∈ walkF f n i l := by
  induction n with
  | zero => intro i l _ h; omega
  | succ n ih =>
    intro i l hd h1
    simp only [walkF]
    by_cases hi : i ∈ l
    · simp only [hi, if_true]; exact ⟨⟨[], by simp, by simp⟩, trivial⟩
    · simp only [hi, if_false]
      have hx := hd i (by omega)
      have step : ∀ l1 : List Nat, (∃ t, l1 = l ++ t ∧ ∀ j ∈ t, j ≤ i) → ∃ t, (if 1 < armsN (ndAt f i).k then walkF f n (ndAt f i).b.toNat l1 else l1) = l ++ t ∧ ∀ j ∈ t, j ≤ i := by
        rintro l1 ⟨t, rfl, ht⟩
        by_cases h : 1 < armsN (ndAt f i).k
        · have := hx.2 h
          obtain ⟨⟨t', e, ht'⟩, _⟩ := ih (ndAt f i).b.toNat (l ++ t) (fun j hj => hd j (by omega)) (by omega)
          refine ⟨t ++ t', by simp only [h, if_true]; rw [e, List.append_assoc], fun j hj => ?_⟩
          rcases List.mem_append.1 hj with h' | h'
          · exact ht j h'
          · have := ht' j h'; omega
        · exact ⟨t, by simp [h], ht⟩
      have first : ∃ t, (if 0 < armsN (ndAt f i).k then walkF f n (ndAt f i).a.toNat l else l) = l ++ t ∧ ∀ j ∈ t, j ≤ i := by
        by_cases h : 0 < armsN (ndAt f i).k
        · have := hx.1 h
          obtain ⟨⟨t', e, ht'⟩, _⟩ := ih (ndAt f i).a.toNat l (fun j hj => hd j (by omega)) (by omega)
          exact ⟨t', by simp only [h, if_true]; exact e, fun j hj => by have := ht' j hj; omega⟩
        · exact ⟨[], by simp [h], by simp⟩
      obtain ⟨t, e, ht⟩ := step _ first
      refine ⟨⟨t ++ [i], ?_, ?_⟩, by simp⟩
      · rw [e, List.append_assoc]
      · intro j hj
        rcases List.mem_append.1 hj with h' | h'
        · exact ht j h'
        · simp at h'; omega
theorem walkF_nodup (f : List Nd) (n : Nat) : ∀ (i : Nat) (l : List Nat), downTo f (i + 1) → i < n → l.Nodup → (walkF f n i l).Nodup := by
  induction n with
  | zero => intro i l _ h; omega
  | succ n ih =>
    intro i l hd h1 hl
    simp only [walkF]
    by_cases hi : i ∈ l
    · simp only [hi, if_true]; exact hl
    · simp only [hi, if_false]
      have hx := hd i (by omega)
      have hA : (if 0 < armsN (ndAt f i).k then walkF f n (ndAt f i).a.toNat l else l).Nodup ∧ i ∉ (if 0 < armsN (ndAt f i).k then walkF f n (ndAt f i).a.toNat l else l) := by
        by_cases h : 0 < armsN (ndAt f i).k
        · have := hx.1 h
          simp only [h, if_true]
          refine ⟨ih _ l (fun j hj => hd j (by omega)) (by omega) hl, ?_⟩
          obtain ⟨⟨t', e, ht'⟩, _⟩ := walkF_grows f n (ndAt f i).a.toNat l (fun j hj => hd j (by omega)) (by omega)
          rw [e]; intro hm
          rcases List.mem_append.1 hm with h' | h'
          · exact hi h'
          · have := ht' i h'; omega
        · simp only [h, if_false]; exact ⟨hl, hi⟩
      generalize (if 0 < armsN (ndAt f i).k then walkF f n (ndAt f i).a.toNat l else l) = l1 at hA ⊢
      have hB : (if 1 < armsN (ndAt f i).k then walkF f n (ndAt f i).b.toNat l1 else l1).Nodup ∧ i ∉ (if 1 < armsN (ndAt f i).k then walkF f n (ndAt f i).b.toNat l1 else l1) := by
        by_cases h : 1 < armsN (ndAt f i).k
        · have := hx.2 h
          simp only [h, if_true]
          refine ⟨ih _ l1 (fun j hj => hd j (by omega)) (by omega) hA.1, ?_⟩
          obtain ⟨⟨t', e, ht'⟩, _⟩ := walkF_grows f n (ndAt f i).b.toNat l1 (fun j hj => hd j (by omega)) (by omega)
          rw [e]; intro hm
          rcases List.mem_append.1 hm with h' | h'
          · exact hA.2 h'
          · have := ht' i h'; omega
        · simp only [h, if_false]; exact hA
      rw [List.nodup_append]
      refine ⟨hB.1, by simp, ?_⟩
      intro a ha b hb
      simp at hb; subst hb
      intro e; subst e; exact hB.2 ha
theorem walkF_lt (f : List Nd) (n i m : Nat) (l : List Nat) (hd : downTo f (i + 1)) (h : i < n) (him : i < m) (hl : ∀ j ∈ l, j < m) : ∀ j ∈ walkF f n i l, j < m := by
  obtain ⟨⟨t, e, ht⟩, _⟩ := walkF_grows f n i l hd h
  rw [e]; intro j hj
  rcases List.mem_append.1 hj with h' | h'
  · exact hl j h'
  · have := ht j h'; omega

/-- A list of different numbers below n has at most n. -/
theorem nodup_len (n : Nat) : ∀ l : List Nat, l.Nodup → (∀ j ∈ l, j < n) → l.length ≤ n := by
  induction n with
  | zero => intro l _ h; cases l with | nil => simp | cons a _ => exact absurd (h a (by simp)) (by omega)
  | succ n ih =>
    intro l hd h
    have h1 := ih (l.filter (· ≠ n)) (hd.sublist List.filter_sublist) (fun j hj => by
      have := List.mem_filter.1 hj
      have h2 := h j this.1
      have h3 : j ≠ n := by simpa using this.2
      omega)
    have h2 : l.length ≤ (l.filter (· ≠ n)).length + 1 := by
      clear ih h h1
      induction l with
      | nil => simp
      | cons a l ih =>
        have hd' := List.nodup_cons.1 hd
        by_cases e : a = n
        · subst e
          have : l.filter (· ≠ a) = l := List.filter_eq_self.2 (fun x hx => by
            have : x ≠ a := fun e => hd'.1 (e ▸ hx)
            simpa using this)
          rw [List.filter_cons_of_neg (by simp), this]; simp
        · have := ih hd'.2
          simp [e] at this ⊢
          omega
    omega
/-- Sorted, all different, all below n, n of them: 0 to n - 1. -/
theorem sorted_range (n : Nat) : ∀ l : List Nat, l.Nodup → (∀ j ∈ l, j < n) → l.length = n → l.Pairwise (· ≤ ·) → l = List.range n := by
  induction n with
  | zero => intro l _ _ h _; simpa using h
  | succ n ih =>
    intro l hd h hl hs
    obtain ⟨l', x, rfl⟩ : ∃ l' x, l = l' ++ [x] := ⟨l.dropLast, l.getLast (by intro e; subst e; simp at hl), (List.dropLast_concat_getLast _).symm⟩
    have hd2 := List.nodup_append.1 hd
    have hs2 := List.pairwise_append.1 hs
    have hx := h x (by simp)
    have hl' : l'.length = n := by simpa using hl
    have hlt : ∀ j ∈ l', j < x := fun j hj => by
      have h1 := hs2.2.2 j hj x (by simp)
      have h2 : j ≠ x := hd2.2.2 j hj x (by simp)
      omega
    have hlen := nodup_len x l' hd2.1 hlt
    have hxn : x = n := by omega
    subst hxn
    rw [ih l' hd2.1 hlt hl' hs2.1, List.range_succ]
/-! ### Right -/
def emptyB (s : ByteArray) : Bool := s.toList == []
def nodeB (x : Nd) (i : Nat) : Bool :=
  isB x.k 1 9 &&
  ((if x.k = 2 then wordB x.nm else emptyB x.nm) &&
  ((if 0 < armsN x.k then isB x.a 0 (i - 1) else x.a == 0) &&
  ((if 1 < armsN x.k then isB x.b 0 (i - 1) else x.b == 0) &&
   (if timedB x.k then spanB x.lo x.hi else (x.lo == 0 && x.hi == 0)))))
/-- The first k nodes are right, each by itself, and no two of them are alike. -/
def goodTo (f : List Nd) (k : Nat) : Bool := (List.range k).all fun i => nodeB (ndAt f i) i && (List.range i).all fun j => decide (ndAt f j ≠ ndAt f i)
def rightB (f : List Nd) : Bool := decide (1 ≤ f.length ∧ f.length ≤ 24) && (goodTo f f.length && walkF f f.length (f.length - 1) [] == List.range f.length)
def ndV (x : Nd) : Value := .agg #[.int .i64 x.k, .int .i64 x.a, .int .i64 x.b, .int .i64 x.lo, .int .i64 x.hi, .string x.nm]
/-- One node lies at a place. -/
structure NodeAt (w : World) (b o : Nat) (x : Nd) : Prop where
  c0 : w.cell? ⟨b, o, none⟩ = some (.int .i64 x.k)
  c1 : w.cell? ⟨b, o + 1, none⟩ = some (.int .i64 x.a)
  c2 : w.cell? ⟨b, o + 2, none⟩ = some (.int .i64 x.b)
  c3 : w.cell? ⟨b, o + 3, none⟩ = some (.int .i64 x.lo)
  c4 : w.cell? ⟨b, o + 4, none⟩ = some (.int .i64 x.hi)
  c5 : w.cell? ⟨b, o + 5, none⟩ = some (.string x.nm)
/-- A row of nodes lies in a block. -/
def NodesAt (w : World) (b : Nat) (f : List Nd) : Prop := b < w.heap.size ∧ ∀ i, i < f.length → NodeAt w b (i * 6) (ndAt f i)
theorem NodeAt.below {w w' : World} {B b o : Nat} {x : Nd} (h : NodeAt w b o x) (hb : Below B w w') (hlt : b < B) : NodeAt w' b o x :=
  ⟨(hb.cell (p := ⟨b, _, none⟩) hlt).trans h.c0, (hb.cell (p := ⟨b, _, none⟩) hlt).trans h.c1, (hb.cell (p := ⟨b, _, none⟩) hlt).trans h.c2,
   (hb.cell (p := ⟨b, _, none⟩) hlt).trans h.c3, (hb.cell (p := ⟨b, _, none⟩) hlt).trans h.c4, (hb.cell (p := ⟨b, _, none⟩) hlt).trans h.c5⟩
theorem NodesAt.below {w w' : World} {B b : Nat} {f : List Nd} (h : NodesAt w b f) (hb : Below B w w') (hlt : b < B) : NodesAt w' b f :=
  ⟨Nat.lt_of_lt_of_le h.1 hb.size, fun i hi => (h.2 i hi).below hb hlt⟩
/-- The bounds of the numbers of a node, and of its name. -/
def ndOk (x : Nd) : Prop := (-9223372036854775808 ≤ x.k ∧ x.k ≤ 9223372036854775807) ∧ (-9223372036854775808 ≤ x.a ∧ x.a ≤ 9223372036854775807) ∧ (-9223372036854775808 ≤ x.b ∧ x.b ≤ 9223372036854775807) ∧
  (-9223372036854775808 ≤ x.lo ∧ x.lo ≤ 9223372036854775807) ∧ (-9223372036854775808 ≤ x.hi ∧ x.hi ≤ 9223372036854775807) ∧ x.nm.size ≤ maxLen

theorem goodTo_succ (f : List Nd) (k : Nat) : goodTo f (k + 1) = (goodTo f k && (nodeB (ndAt f k) k && (List.range k).all fun j => decide (ndAt f j ≠ ndAt f k))) := by
  simp [goodTo, List.range_succ]
theorem goodTo_false (f : List Nd) (k m : Nat) (hm : k < m) (h : goodTo f (k + 1) = false) : goodTo f m = false := by
  simp only [goodTo, List.all_eq_false, List.mem_range] at h ⊢
  obtain ⟨x, hx, h⟩ := h
  exact ⟨x, by omega, h⟩
theorem goodTo_at (f : List Nd) (k m : Nat) (hm : k < m) (h : goodTo f m = true) : nodeB (ndAt f k) k = true ∧ ∀ j, j < k → ndAt f j ≠ ndAt f k := by
  simp only [goodTo, List.all_eq_true, List.mem_range] at h
  have := h k hm
  simp only [Bool.and_eq_true, List.all_eq_true, List.mem_range] at this
  exact ⟨this.1, fun j hj => by have := this.2 j hj; simpa using this⟩
theorem nodeB_arms (x : Nd) (i : Nat) (h : nodeB x i = true) : armsOk x i := by
  simp only [nodeB, Bool.and_eq_true] at h
  obtain ⟨_, _, h1, h2, _⟩ := h
  constructor
  · intro h0; rw [if_pos h0] at h1; simp [isB] at h1; omega
  · intro h0; rw [if_pos h0] at h2; simp [isB] at h2; omega
theorem goodTo_down (f : List Nd) (m : Nat) (h : goodTo f m = true) : downTo f m := fun i hi => nodeB_arms _ _ (goodTo_at f i m hi h).1
end Go.Proofs.YtbfkbgmkibkbnaaGreatDoor
namespace Go.Proofs.YtbfkbgmkibkbnaaGreatDoor
open Go.RowKit
set_option linter.unusedVariables false
set_option linter.unusedSimpArgs false
theorem Kw.below {w w' : World} {B : Nat} (h : Kw w) (hb : Below B w w') (hg : 1 < B) : Kw w' :=
  ⟨(hb.cell (p := ⟨1, _, none⟩) hg).trans h.c0, (hb.cell (p := ⟨1, _, none⟩) hg).trans h.c1, (hb.cell (p := ⟨1, _, none⟩) hg).trans h.c2, (hb.cell (p := ⟨1, _, none⟩) hg).trans h.c3, (hb.cell (p := ⟨1, _, none⟩) hg).trans h.c4,
   (hb.cell (p := ⟨1, _, none⟩) hg).trans h.c5, (hb.cell (p := ⟨1, _, none⟩) hg).trans h.c6, (hb.cell (p := ⟨1, _, none⟩) hg).trans h.c7, (hb.cell (p := ⟨1, _, none⟩) hg).trans h.c8, (hb.cell (p := ⟨1, _, none⟩) hg).trans h.c9⟩
end Go.Proofs.YtbfkbgmkibkbnaaGreatDoor
namespace Go.Proofs.YtbfkbgmkibkbnaaGreatDoor
open Go.RowKit
set_option linter.unusedVariables false
set_option linter.unusedSimpArgs false
def mtL : Nat → Nat → List UInt8 → List UInt8
  | 0, _, o => o
  | n + 1, j, o => if j = 0 then o else mtL n (j / 10) (UInt8.ofNat (48 + j % 10) :: o)
theorem mtL_fuel : ∀ (n m j : Nat) (o : List UInt8), j ≤ n → j ≤ m → mtL n j o = mtL m j o := by
  intro n
  induction n with
  | zero =>
    intro m j o h1 _
    obtain rfl : j = 0 := by omega
    cases m with
    | zero => rfl
    | succ m => simp [mtL]
  | succ n ih =>
    intro m j o h1 h2
    cases m with
    | zero =>
      obtain rfl : j = 0 := by omega
      simp [mtL]
    | succ m =>
      unfold mtL
      split
      · rfl
      · exact ih m (j / 10) _ (by omega) (by omega)
theorem mtL_step (j : Nat) (o : List UInt8) (h : 0 < j) : mtL j j o = mtL (j / 10) (j / 10) (UInt8.ofNat (48 + j % 10) :: o) := by
  obtain ⟨n, rfl⟩ : ∃ n, j = n + 1 := ⟨j - 1, by omega⟩
  conv => lhs; unfold mtL
  rw [if_neg (by omega)]
  exact mtL_fuel _ _ _ _ (by omega) (Nat.le_refl _)
/-- The text of a mark. -/
def mtS (k : Nat) : ByteArray := ⟨((109 : UInt8) :: mtL k k []).toArray⟩
set_option maxRecDepth 20000 in
set_option maxHeartbeats 1000000 in
theorem markText_any (k : Nat) (hk : 0 < k) (hk2 : k ≤ 1000000000) (w : World) :
    Calls Tryz.prog 76 #[.int .i64 k] w fun e w' => e = .returned (.string (mtS k)) ∧ Below w.heap.size w w' := by
  go_enter Tryz.func76, Tryz.ntmps76
  go_wp2_with fail
  go_loopw [0, 3] (fun t s wr => ∃ (j : Nat) (o : List UInt8), t = .int .i64 j ∧ s = .string ⟨o.toArray⟩ ∧ j ≤ 1000000000 ∧ o.length + j ≤ 1000000000 + 20 ∧ mtL j j o = mtL k k [] ∧ Below w.heap.size w wr) (fun t _ _ => (intOf t).toNat)
  case atStart => exact ⟨k, [], rfl, rfl, hk2, by simp; omega, rfl, Below.refl _ _⟩
  case round =>
    obtain ⟨j, o, rfl, rfl, hj, ho, hm, hbel⟩ := hrel
    have HM := hid hm
    have HB := hid hbel
    have hsz := hbel.size
    clear hm hbel
    by_cases hj0 : 0 < j
    · have hcv := run_convert_bytes_back (P := Tryz.prog) (wr.alloc (.cells #[.int .u8 (48 + (j : Int) % 10)] 5)) 22 9 5 ⟨wr.heap.size, 0, none⟩ 1 [UInt8.ofNat (48 + j % 10)] (by kernel_rfl) (by kernel_rfl) (by kernel_rfl) (by
        intro i hi
        have hi0 : i = 0 := by simpa using hi
        subst hi0
        have hb : (UInt8.ofNat (48 + j % 10)).toNat = 48 + j % 10 := by
          rw [UInt8.toNat_ofNat']
          omega
        have hc0 : (wr.alloc (.cells #[.int .u8 (48 + (j : Int) % 10)] 5)).cell? ((⟨wr.heap.size, 0, none⟩ : Addr).add 0) = some (.int .u8 (48 + (j : Int) % 10)) := by
          exact cell_one _ _ _ 0 _ (by simp)
        rw [hc0]
        simp only [List.getElem_cons_zero, hb]
        push_cast
        rfl)
      simp only [List.length_cons, List.length_nil] at hcv
      go_wp2_with fail
      refine ⟨⟨j / 10, UInt8.ofNat (48 + j % 10) :: o, by simp, ?_, by omega, by simp; omega, by rw [← mtL_step j o hj0]; exact HM, HB.alloc hsz _⟩, by simp [intOf]; omega⟩
      simp only [Value.string.injEq]
      apply ByteArray.ext
      simp
    · obtain rfl : j = 0 := by omega
      go_wp2_with fail
      refine bodyPost_ret (v := .string (⟨#[109]⟩ ++ ⟨o.toArray⟩)) (by simp [results, Tryz.results76, go_sem]) rfl ⟨?_, HB⟩
      have HM' : o = mtL k k [] := HM
      simp only [Ending.returned.injEq, Value.string.injEq, mtS, ← HM']
      apply ByteArray.ext
      simp
theorem markText_int (v : Int) (k : Nat) (hv : v = k) (hk : 0 < k) (hk2 : k ≤ 1000000000) (w : World) :
    Calls Tryz.prog 76 #[.int .i64 v] w fun e w' => e = .returned (.string (mtS k)) ∧ Below w.heap.size w w' := by
  subst hv
  exact markText_any k hk hk2 w
end Go.Proofs.YtbfkbgmkibkbnaaGreatDoor
namespace Go.Proofs.YtbfkbgmkibkbnaaGreatDoor
open Go.RowKit
set_option linter.unusedVariables false
set_option linter.unusedSimpArgs false
def txAt (S : List ByteArray) (i : Nat) : ByteArray := S.getD i ByteArray.empty
/-- A row of texts lies in a block. -/
def StrsAt (w : World) (b : Nat) (S : List ByteArray) : Prop := b < w.heap.size ∧ ∀ i, i < S.length → w.cell? ⟨b, i, none⟩ = some (.string (txAt S i))
/-- A slice of texts, of which nothing is asked where it is empty. -/
def TsAt (w : World) (a : Option Addr) (S : List ByteArray) : Prop := S.length = 0 ∨ ∃ b, a = some ⟨b, 0, none⟩ ∧ StrsAt w b S
def RowT (w : World) (a : Option Addr) (n : Nat) : Prop := n = 0 ∨ ∃ b z, a = some ⟨b, 0, none⟩ ∧ w.rowIs b 9 n z
theorem TsAt.save {w w' : World} {a : Option Addr} {S : List ByteArray} {T : Nat → Prop} (h : TsAt w a S) (hs : Save w w' T) (hT : ∀ b, a = some ⟨b, 0, none⟩ → ¬ T b) : TsAt w' a S :=
  h.imp id (fun ⟨b, e, h1, h2⟩ => ⟨b, e, Nat.lt_of_lt_of_le h1 hs.size, fun i hi => (hs.cell (p := ⟨b, i, none⟩) h1 (hT b e)).trans (h2 i hi)⟩)
theorem TsAt.below {w w' : World} {a : Option Addr} {S : List ByteArray} (h : TsAt w a S) (hb : Below w.heap.size w w') : TsAt w' a S :=
  h.imp id (fun ⟨b, e, h1, h2⟩ => ⟨b, e, Nat.lt_of_lt_of_le h1 hb.size, fun i hi => (hb.cell (p := ⟨b, i, none⟩) h1).trans (h2 i hi)⟩)
theorem RowT.below {w w' : World} {a : Option Addr} {n : Nat} (h : RowT w a n) (hb : Below w.heap.size w w') : RowT w' a n :=
  h.imp id (fun ⟨b, z, e, hr⟩ => ⟨b, z, e, hr.of_block (hb.block b hr.lt)⟩)
theorem RowT.save {w w' : World} {a : Option Addr} {n : Nat} {T : Nat → Prop} (h : RowT w a n) (hs : Save w w' T) (hT : ∀ b, a = some ⟨b, 0, none⟩ → ¬ T b) : RowT w' a n :=
  h.imp id (fun ⟨b, z, e, hr⟩ => ⟨b, z, e, hr.of_block (hs.block b hr.lt (hT b e))⟩)
set_option maxRecDepth 20000 in
set_option maxHeartbeats 1000000 in
theorem eqStringS_any (S : List ByteArray) (n : Nat) (hn : S.length = n) (a1 a2 : Option Addr) (c1 c2 : Nat) (hl : n ≤ 1048576) (w : World) (h1 : TsAt w a1 S) (h2 : TsAt w a2 S) :
    Calls Tryz.prog 68 #[.slice a1 n c1, .slice a2 n c2] w fun e w' => e = .returned (.bool true) ∧ Below w.heap.size w w' := by
  subst hn
  have H1 := hid h1
  have H2 := hid h2
  clear h1 h2
  go_enter Tryz.func68, Tryz.ntmps68
  go_wp2_with fail
  go_loopw [5] (fun t wr => ∃ k : Nat, k ≤ S.length ∧ t = .int .i64 k ∧ Below w.heap.size w wr) (fun t _ => S.length - (intOf t).toNat)
  case atStart => exact ⟨0, Nat.zero_le _, rfl, Below.refl _ _⟩
  case round =>
    obtain ⟨k, hk, rfl, hbel⟩ := hrel
    have HB := hid hbel
    have hsz := hbel.size
    clear hbel
    by_cases hlt : k < S.length
    · rcases H1.out with h0 | ⟨b1, rfl, hb1, hc1⟩
      · omega
      rcases H2.out with h0 | ⟨b2, rfl, hb2, hc2⟩
      · omega
      have d1 := (HB.out.cell (p := ⟨b1, k, none⟩) hb1).trans (hc1 k hlt)
      have d2 := (HB.out.cell (p := ⟨b2, k, none⟩) hb2).trans (hc2 k hlt)
      clear hc1 hc2
      generalize txAt S k = t at *
      have ht : (t.toList == t.toList) = true := by simp
      go_wp2_with fail
      all_goals
        go_region
      all_goals
        go_wp2_with fail
        go_roundw
        case rel => exact ⟨k + 1, by omega, by go_num, below_drewN HB.out _⟩
        case measure => simp [intOf]; omega
    · go_wp2_with fail
      go_ret
      exact ⟨rfl, HB.out⟩
def markT (k n : Nat) : List ByteArray := (List.range n).map fun i => mtS (k + i)
theorem markT_len (k n : Nat) : (markT k n).length = n := by simp [markT]
theorem markT_at (k n i : Nat) (h : i < n) : txAt (markT k n) i = mtS (k + i) := by simp [txAt, markT, h]
def rowT (S : List ByteArray) (z : Nat → Value) (k j : Nat) : Value := if j < k then .string (txAt S j) else z j
theorem rowT_step (S : List ByteArray) (z : Nat → Value) (k j : Nat) : rowT S z (k + 1) j = if j = k then .string (txAt S k) else rowT S z k j := by
  unfold rowT
  by_cases e : j = k
  · subst e; simp
  · by_cases h : j < k
    · rw [if_pos (by omega), if_neg e, if_pos h]
    · rw [if_neg (by omega), if_neg e, if_neg h]
theorem rowT_strs {w : World} {b : Nat} {S : List ByteArray} {z : Nat → Value} (h : w.rowIs b 9 S.length (rowT S z S.length)) : StrsAt w b S :=
  ⟨h.lt, fun i hi => by rw [h.cell hi]; unfold rowT; rw [if_pos hi]⟩
set_option maxRecDepth 20000 in
set_option maxHeartbeats 1000000 in
theorem markStringS_any (n : Nat) (a : Option Addr) (c : Nat) (hn : n ≤ 1048576) (w : World) (h : RowT w a n) :
    Calls Tryz.prog 70 #[.slice a n c, .int .i64 1] w fun e w' => e = .returned (.int .i64 (1 + n : Nat)) ∧ TsAt w' a (markT 1 n) ∧ Save w w' (OfT a) := by
  rcases h with rfl | ⟨b, z, rfl, h⟩
  · go_enter Tryz.func70, Tryz.ntmps70
    go_wp2_with fail
    go_loopw [1, 5] (fun t s wr => t = .int .i64 1 ∧ s = .int .i64 0 ∧ w = wr) (fun _ _ _ => 0)
    case atStart => exact ⟨rfl, rfl, rfl⟩
    case round =>
      obtain ⟨rfl, rfl, rfl⟩ := hrel
      go_wp2_with fail
      go_ret
      exact ⟨rfl, Or.inl rfl, Save.refl _ _⟩
  · have HR0 := hid (h.congr (fun j hj => (show z j = rowT (markT 1 n) z 0 j by simp [rowT])))
    have hbl := h.lt
    clear h
    go_enter Tryz.func70, Tryz.ntmps70
    go_wp2_with fail
    go_loopw [1, 5] (fun t s wr => ∃ k : Nat, k ≤ n ∧ t = .int .i64 (1 + k : Nat) ∧ s = .int .i64 k ∧ wr.rowIs b 9 n (rowT (markT 1 n) z k) ∧ Save w wr (OfT (some ⟨b, 0, none⟩))) (fun _ s _ => n - (intOf s).toNat)
    case atStart => exact ⟨0, Nat.zero_le _, rfl, rfl, HR0.out, Save.refl _ _⟩
    case round =>
      clear HR0
      obtain ⟨k, hk, rfl, rfl, hrow, hsv⟩ := hrel
      have HS := hid hsv
      have HRow := hid hrow
      have hsz := hrow.lt
      clear hrow hsv
      by_cases hlt : k < n
      · go_wp2_with fail
        refine (markText_int _ (1 + k) (by push_cast; omega) (by omega) (by omega) _).mono ?_
        rintro e w1 ⟨rfl, hb1⟩
        have HR1 := hid (HRow.out.of_block (hb1.block b hsz))
        have HS1 := hid (HS.out.trans (Save.of_below hb1 _ (fun j h1 h2 => absurd h1 (by omega))))
        have d5 := HR1.out.cell (i := k) hlt
        have f5 := HR1.out.frozen k
        clear hb1
        go_wp2_with fail
        go_roundw
        case rel =>
          refine ⟨k + 1, by omega, by simp; omega, by go_num, (HR1.out.set k _).congr (fun j hj => ?_), HS1.out.setCell (p := ⟨b, k, none⟩) (fun _ => ⟨_, rfl, rfl⟩) _⟩
          rw [rowT_step, markT_at _ _ _ hlt]
        case measure => simp [intOf]; omega
      · have hk' : k = n := by omega
        subst hk'
        go_wp2_with fail
        go_ret
        exact ⟨rfl, Or.inr ⟨b, rfl, @rowT_strs _ b (markT 1 k) z (by rw [markT_len]; exact HRow.out)⟩, HS.out⟩
end Go.Proofs.YtbfkbgmkibkbnaaGreatDoor
namespace Go.Proofs.YtbfkbgmkibkbnaaGreatDoor
open Go.RowKit
set_option maxHeartbeats 1000000 in
theorem implWord_any (s : ByteArray) (w : World) (hs : s.size ≤ maxLen) (hkw : Kw w) :
    Calls Tryz.prog 98 #[.string s] w fun e w' => e = .returned (.bool (wordB s)) ∧ w' = w := by
  unfold maxLen at hs
  have HK : Hid (Kw w) := hkw
  clear hkw
  by_cases h1 : s.size < 1
  · have HN : Hid (wordB s = false) := wordB_size s (by omega)
    go_enter Tryz.func98, Tryz.ntmps98
    go_wp2
    go_ret
    exact ⟨ret_bool HN.out.symm, rfl⟩
  by_cases h2 : 8 < s.size
  · have HN : Hid (wordB s = false) := wordB_size s (by omega)
    go_enter Tryz.func98, Tryz.ntmps98
    go_wp2
    go_ret
    exact ⟨ret_bool HN.out.symm, rfl⟩
  have HG : Hid (smallTo s s.size = true → wordB s = (kindW s.toList == 0)) := wordB_eq s (by omega) (by omega)
  go_enter Tryz.func98, Tryz.ntmps98
  go_wp2
  go_loop [14] (fun i => ∃ k : Nat, k ≤ s.size ∧ i = .int .i64 k ∧ smallTo s k = true) (fun i => s.size - (intOf i).toNat)
  case atStart => exact ⟨0, Nat.zero_le _, rfl, rfl⟩
  case round =>
    obtain ⟨k, hk, rfl, hg⟩ := hrel
    have HG2 : Hid (smallTo s k = true) := hg
    clear hg
    by_cases hlt : k < s.size
    · have HB : Hid (byteAt s k = s[k].toNat) := byteAt_eq s k hlt
      have HS : Hid (smallTo s (k + 1) = (smallTo s k && smallN (byteAt s k))) := smallTo_succ s k
      have HF : Hid (smallN (byteAt s k) = false → wordB s = false) := wordB_small s k hlt
      rcases Bool.eq_false_or_eq_true (smallN s[k].toNat) with b1 | b1
      all_goals go_wp2_with (go_at_call 124; refine (small_any _ (UInt8.toNat_lt _) _).mono ?_; rintro e w' ⟨rfl, rfl⟩)
      all_goals first
        | (go_ret
           exact ⟨ret_bool (HF.out (by rw [HB.out]; exact b1)).symm, rfl⟩)
        | (go_round
           case rel => exact ⟨k + 1, by omega, by go_num, by rw [HS.out, HG2.out, HB.out, b1]; rfl⟩
           case measure => simp [intOf]; omega)
    · have hk' : k = s.size := by omega
      have HW : Hid (wordB s = (kindW s.toList == 0)) := HG.out (hk' ▸ HG2.out)
      clear HG HG2
      go_wp2_with (go_at_call 125; refine (kindW_any _ _ HK.out).mono ?_; rintro e w' ⟨rfl, rfl⟩)
      go_ret
      exact ⟨ret_bool HW.out.symm, rfl⟩
end Go.Proofs.YtbfkbgmkibkbnaaGreatDoor
namespace Go.Proofs.YtbfkbgmkibkbnaaGreatDoor
open Go.RowKit
set_option linter.unusedVariables false
set_option linter.unusedSimpArgs false
def lessB (a b : ByteArray) : Bool := Op.bytesLess a.toList b.toList
/-- The first names may stand in an event. -/
def namesTo (S : List ByteArray) (k : Nat) : Bool := (List.range k).all fun i => wordB (txAt S i) && (i == 0 || Op.bytesLess (txAt S (i - 1)).toList (txAt S i).toList)
def namesB (S : List ByteArray) : Bool := decide (S.length ≤ 8) && namesTo S S.length
def evB (t : Int) (S : List ByteArray) : Bool := decide (0 ≤ t ∧ t ≤ 1000000) && namesB S
def TxOk (S : List ByteArray) : Prop := ∀ i, i < S.length → (txAt S i).size ≤ maxLen
theorem namesTo_succ (S : List ByteArray) (k : Nat) : namesTo S (k + 1) = (namesTo S k && (wordB (txAt S k) && (k == 0 || Op.bytesLess (txAt S (k - 1)).toList (txAt S k).toList))) := by
  simp [namesTo, List.range_succ]
theorem namesTo_false (S : List ByteArray) (k m : Nat) (hm : k < m) (h : namesTo S (k + 1) = false) : namesTo S m = false := by
  simp only [namesTo, List.all_eq_false, List.mem_range] at h ⊢
  obtain ⟨i, hi, h⟩ := h
  exact ⟨i, by omega, h⟩
theorem namesB_long (S : List ByteArray) (h : 8 < S.length) : namesB S = false := by simp [namesB]; omega
theorem namesB_no (S : List ByteArray) (k : Nat) (hm : k < S.length) (h : namesTo S (k + 1) = false) : namesB S = false := by simp [namesB, namesTo_false S k _ hm h]
theorem namesB_yes (S : List ByteArray) (h8 : S.length ≤ 8) (h : namesTo S S.length = true) : namesB S = true := by simp [namesB, h8, h]
theorem evB_time (t : Int) (S : List ByteArray) (h : ¬ (0 ≤ t ∧ t ≤ 1000000)) : evB t S = false := by simp [evB, h]
theorem evB_names (t : Int) (S : List ByteArray) (h0 : 0 ≤ t) (h1 : t ≤ 1000000) : evB t S = namesB S := by simp [evB, h0, h1]
theorem evB_no (t : Int) (S : List ByteArray) (h : namesB S = false) : evB t S = false := by simp [evB, h]
theorem namesTo_word (S : List ByteArray) (k m : Nat) (hk : k < m) (h : namesTo S m = true) : wordB (txAt S k) = true ∧ (0 < k → Op.bytesLess (txAt S (k - 1)).toList (txAt S k).toList = true) := by
  simp only [namesTo, List.all_eq_true, List.mem_range, Bool.and_eq_true, Bool.or_eq_true, beq_iff_eq] at h
  have := h k hk
  exact ⟨this.1, fun h0 => this.2.resolve_left (by omega)⟩
theorem wordB_len (s : ByteArray) (h : wordB s = true) : 1 ≤ s.size ∧ s.size ≤ 8 := by
  simp only [wordB, Bool.and_eq_true, decide_eq_true_eq] at h
  exact h.1
end Go.Proofs.YtbfkbgmkibkbnaaGreatDoor
namespace Go.Proofs.YtbfkbgmkibkbnaaGreatDoor
open Go.RowKit
set_option linter.unusedVariables false
set_option linter.unusedSimpArgs false
/-- A row of texts that came in: it may begin within a block. -/
def ArgT (w : World) (a : Option Addr) (S : List ByteArray) : Prop := S.length = 0 ∨ ∃ b off, a = some ⟨b, off, none⟩ ∧ b < w.heap.size ∧ ∀ i, i < S.length → w.cell? ⟨b, off + i, none⟩ = some (.string (txAt S i))
theorem ArgT.below {w w' : World} {a : Option Addr} {S : List ByteArray} {B : Nat} (h : ArgT w a S) (hb : Below B w w') (hB : w.heap.size ≤ B) : ArgT w' a S := by
  rcases h with h | ⟨b, off, e, hlt, hc⟩
  · exact Or.inl h
  · exact Or.inr ⟨b, off, e, Nat.lt_of_lt_of_le hlt hb.size, fun i hi => (hb.cell (p := ⟨b, off + i, none⟩) (by show b < B; omega)).trans (hc i hi)⟩
theorem bcell {W w1 : World} (hb : Below W.heap.size W w1) : (∀ b o, b < W.heap.size → w1.cell? ⟨b, o, none⟩ = W.cell? ⟨b, o, none⟩) ∧ (∀ b o, b < W.heap.size → w1.frozen? ⟨b, o, none⟩ = W.frozen? ⟨b, o, none⟩) :=
  ⟨fun b o h => hb.cell (p := ⟨b, o, none⟩) h, fun b o h => hb.frozen (p := ⟨b, o, none⟩) h⟩
set_option maxRecDepth 20000 in
set_option maxHeartbeats 1000000 in
theorem szStringS_any (S : List ByteArray) (a : Option Addr) (cap : Nat) (hs : TxOk S) (hl : S.length ≤ maxLen) (left : Int) (h1 : 0 ≤ left) (h2 : left ≤ 1048576) (w : World) (hA : ArgT w a S) :
    Calls Tryz.prog 62 #[.slice a S.length cap, .int .i64 left] w fun e w' => ∃ r : Int, e = .returned (.int .i64 r) ∧ -1 ≤ r ∧ r ≤ 1048576 ∧ (0 ≤ r → S.length ≤ 1048576 ∧ (∀ i, i < S.length → (txAt S i).size ≤ 1048576) ∧ r + S.length ≤ left) ∧ Below w.heap.size w w' := by
  unfold maxLen at hl
  have HS : Hid (∀ i, i < S.length → (txAt S i).size ≤ 9223372036854775807) := fun i hi => by have := hs i hi; unfold maxLen at this; omega
  have HA := hid hA
  clear hs hA
  by_cases h : left - (S.length : Int) < 0
  · go_enter Tryz.func62, Tryz.ntmps62
    go_wp2
    go_ret
    exact ⟨-1, rfl, by omega, by omega, by omega, Below.refl _ _⟩
  go_enter Tryz.func62, Tryz.ntmps62
  go_wp2_with fail
  go_loopw [1, 5] (fun l t wr => ∃ (k : Nat) (r : Int), k ≤ S.length ∧ t = .int .i64 k ∧ l = .int .i64 r ∧ 0 ≤ r ∧ r ≤ 1048576 ∧ r + S.length ≤ left ∧ (∀ i, i < k → (txAt S i).size ≤ 1048576) ∧ Below w.heap.size w wr) (fun _ t _ => S.length - (intOf t).toNat)
  case atStart => exact ⟨0, _, Nat.zero_le _, rfl, rfl, by omega, by omega, by omega, fun i h => by omega, Below.refl _ _⟩
  case round =>
    obtain ⟨k, r, hk, rfl, rfl, hr1, hr2, hr3, hsz, hbel⟩ := hrel
    have HZ := hid hsz
    have HB := hid hbel
    clear hsz hbel
    by_cases hlt : k < S.length
    · rcases HA.out with h0 | ⟨b, off, rfl, hb, hc⟩
      · omega
      · have c0 := (HB.out.cell (p := ⟨b, off + k, none⟩) hb).trans (hc k hlt)
        have hx := HS.out k hlt
        clear hc
        generalize hT : txAt S k = T at *
        have HT := hid hT
        clear hT
        by_cases h' : r - (T.size : Int) < 0
        · go_wp2_with fail
          go_ret
          exact ⟨-1, rfl, by omega, by omega, by omega, HB.out⟩
        · go_wp2_with fail
          go_roundw
          case rel => exact ⟨k + 1, _, by omega, by go_num, rfl, by omega, by omega, by omega, fun i hi => by
            by_cases e : i = k
            · subst e; rw [HT.out]; omega
            · exact HZ.out i (by omega), HB.out⟩
          case measure => simp [intOf]; omega
    · go_wp2_with fail
      go_ret
      exact ⟨r, rfl, by omega, by omega, fun _ => ⟨by omega, fun i hi => HZ.out i (by omega), hr3⟩, HB.out⟩
theorem Tryz.infoSt : (Tryz.prog.info? 9).map (fun i => (i.zero, i.size, i.bytes)) = some (some (.string ⟨#[]⟩), 1, 16) := by kernel_rfl
theorem Tryz.uSts : Tryz.prog.underlying 39 = some (.slice 9) := by kernel_rfl
/-- Block b holds a row of texts, and nothing else. -/
def RowS (w : World) (b : Nat) (S : List ByteArray) : Prop := w.rowIs b 9 S.length (fun j => .string (txAt S j))
theorem RowS.strs {w : World} {b : Nat} {S : List ByteArray} (h : RowS w b S) : StrsAt w b S := ⟨World.rowIs.lt h, fun i hi => World.rowIs.cell h hi⟩
theorem RowS.below {w w' : World} {b : Nat} {S : List ByteArray} {B : Nat} (h : RowS w b S) (hb : Below B w w') (hB : b < B) : RowS w' b S := World.rowIs.of_block h (hb.block b hB)
theorem RowS.ts {w : World} {b : Nat} {S : List ByteArray} (h : RowS w b S) : TsAt w (some ⟨b, 0, none⟩) S := Or.inr ⟨b, rfl, h.strs⟩
set_option maxRecDepth 20000 in
set_option maxHeartbeats 1000000 in
theorem toStringS_any (S : List ByteArray) (a : Option Addr) (cap : Nat) (hl : S.length ≤ 1048576) (w : World) (hA : ArgT w a S) :
    Calls Tryz.prog 66 #[.slice a S.length cap] w fun e w' => e = .returned (.slice (some ⟨w.heap.size, 0, none⟩) S.length S.length) ∧ RowS w' w.heap.size S ∧ Below w.heap.size w w' := by
  have hmk : ∀ w : World, Sem.run Tryz.prog (Instr.makeSlice 39 (.int .i64 S.length) (.int .i64 S.length)) w = .ok (.slice (some ⟨w.heap.size, 0, none⟩) S.length S.length) (w.alloc (.cells (madeCells #[.string ⟨#[]⟩] S.length) 9)) :=
    fun w => run_make_row' 39 9 _ 16 Tryz.uSts Tryz.infoSt rfl .i64 .i64 S.length (by omega) (by omega) w
  have HA := hid hA
  have HR0 : Hid ((w.alloc (.cells (madeCells #[.string ⟨#[]⟩] S.length) 9)).rowIs w.heap.size 9 S.length (rowT S (fun _ => .string ⟨#[]⟩) 0)) := (World.rowIs_made w _ _ _).congr (fun j hj => by simp [rowT])
  clear hA
  go_enter Tryz.func66, Tryz.ntmps66
  go_wp2_with fail
  go_loopw [4] (fun t wr => ∃ k : Nat, k ≤ S.length ∧ t = .int .i64 k ∧ wr.rowIs w.heap.size 9 S.length (rowT S (fun _ => .string ⟨#[]⟩) k) ∧ Below w.heap.size w wr) (fun t _ => S.length - (intOf t).toNat)
  case atStart => exact ⟨0, Nat.zero_le _, rfl, HR0.out, (Below.refl _ _).alloc (Nat.le_refl _) _⟩
  case round =>
    clear HR0 hmk
    obtain ⟨k, hk, rfl, hrow, hbel⟩ := hrel
    have HB := hid hbel
    have HRow := hid hrow
    have hsz := hrow.lt
    clear hrow hbel
    by_cases hlt : k < S.length
    · rcases HA.out with h0 | ⟨b, off, rfl, hb, hc⟩
      · omega
      · have c0 := (HB.out.cell (p := ⟨b, off + k, none⟩) hb).trans (hc k hlt)
        have d0 := HRow.out.cell hlt
        have f0 := HRow.out.frozen k
        clear hc
        go_wp2_with fail
        go_roundw
        case rel => exact ⟨k + 1, by omega, by go_num, (HRow.out.set k _).congr (fun j hj => (rowT_step _ _ _ _).symm), HB.out.setCell (Nat.le_refl _) _⟩
        case measure => simp [intOf]; omega
    · have hk' : k = S.length := by omega
      subst hk'
      go_wp2_with fail
      go_ret
      exact ⟨rfl, HRow.out.congr (fun j hj => by simp [rowT, hj]), HB.out⟩
set_option maxRecDepth 20000 in
set_option maxHeartbeats 1000000 in
theorem szEvent_any (t : Int) (S : List ByteArray) (a : Option Addr) (cap : Nat) (hs : TxOk S) (hl : S.length ≤ maxLen) (left : Int) (h1 : 0 ≤ left) (h2 : left ≤ 1048576) (w : World) (hA : ArgT w a S) :
    Calls Tryz.prog 18 #[.agg #[.int .i64 t, .slice a S.length cap], .int .i64 left] w fun e w' => ∃ r : Int, e = .returned (.int .i64 r) ∧ -1 ≤ r ∧ r ≤ 1048576 ∧ (0 ≤ r → S.length ≤ 1048576 ∧ (∀ i, i < S.length → (txAt S i).size ≤ 1048576) ∧ r + S.length ≤ left) ∧ Below w.heap.size w w' := by
  have HA := hid (hA.below ((Below.refl w.heap.size w).alloc (Nat.le_refl _) (.cells #[.int .i64 t, .slice a S.length cap] 50)) (Nat.le_refl _))
  have HS := hid hs
  have HL := hid hl
  clear hA hs hl
  go_enter Tryz.func18, Tryz.ntmps18
  go_wp2_with (go_at_call 62; refine (szStringS_any S a cap HS.out HL.out left h1 h2 _ HA.out).mono ?_; rintro e w1 ⟨r, rfl, q1, q2, q3, hb⟩; have HQ := hid q3; have HB1 : Hid (Below w.heap.size w w1) := ((Below.refl w.heap.size w).alloc (Nat.le_refl _) _).trans (hb.mono (by simp)); clear q3 hb)
  · go_ret
    exact ⟨-1, rfl, by omega, by omega, by omega, HB1.out⟩
  · go_ret
    exact ⟨r, rfl, by omega, by omega, HQ.out, HB1.out⟩
set_option maxRecDepth 20000 in
set_option maxHeartbeats 1000000 in
theorem toEvent_any (t : Int) (S : List ByteArray) (a : Option Addr) (cap : Nat) (hl : S.length ≤ 1048576) (w : World) (hA : ArgT w a S) :
    Calls Tryz.prog 21 #[.agg #[.int .i64 t, .slice a S.length cap]] w fun e w' => ∃ b, e = .returned (.agg #[.int .i64 t, .slice (some ⟨b, 0, none⟩) S.length S.length]) ∧ w.heap.size ≤ b ∧ RowS w' b S ∧ Below w.heap.size w w' := by
  have HA := hid hA
  clear hA
  go_enter Tryz.func21, Tryz.ntmps21
  go_wp2_with (go_at_call 66; refine (toStringS_any S a cap hl _ (HA.out.below (((((Below.refl w.heap.size w).alloc (Nat.le_refl _) _).alloc (by simp) _).alloc (by simp; omega) _)) (Nat.le_refl _))).mono ?_; rintro e w1 ⟨rfl, hR, hb⟩; have HR := hid hR; have HB := hid hb; obtain ⟨hc, hf⟩ := bcell hb; have hz : w.heap.size + 3 ≤ w1.heap.size := (by have := hb.size; simp at this; omega); clear hb hR)
  refine bodyPost_ret (v := .agg #[.int .i64 t, .slice (some ⟨w.heap.size + 3, 0, none⟩) S.length S.length]) (by simp [results, Tryz.results21, go_sem, hc, hf, hz]) rfl ⟨w.heap.size + 3, rfl, by omega, ?_, ?_⟩
  · have HR' : RowS w1 (w.heap.size + 3) S := by simpa using HR.out
    exact World.rowIs.setOther (World.rowIs.setOther (World.rowIs.setOther HR' (by show _ ≠ _; simp) _) (by show _ ≠ _; simp) _) (by show _ ≠ _; simp) _
  · exact ((((((Below.refl w.heap.size w).alloc (Nat.le_refl _) _).alloc (by simp) _).alloc (by simp; omega) _).trans (HB.out.mono (by simp; omega))).setCell (by show _ ≤ _; simp; omega) _).setCell (by show _ ≤ _; simp) _ |>.setCell (by show _ ≤ _; simp) _
set_option maxRecDepth 20000 in
set_option maxHeartbeats 1000000 in
theorem eqEvent_any (t : Int) (S : List ByteArray) (n : Nat) (hn : S.length = n) (a1 a2 : Option Addr) (c1 c2 : Nat) (hl : n ≤ 1048576) (w : World) (h1 : TsAt w a1 S) (h2 : TsAt w a2 S) :
    Calls Tryz.prog 24 #[.agg #[.int .i64 t, .slice a1 n c1], .agg #[.int .i64 t, .slice a2 n c2]] w fun e w' => e = .returned (.bool true) ∧ Below w.heap.size w w' := by
  have HB0 := hid (((Below.refl w.heap.size w).alloc (Nat.le_refl _) (.cells #[.int .i64 t, .slice a1 n c1] 41)).alloc (by simp) (.cells #[.int .i64 t, .slice a2 n c2] 41))
  have H1 := hid (h1.below HB0.out)
  have H2 := hid (h2.below HB0.out)
  have HN := hid hn
  clear h1 h2 hn
  go_enter Tryz.func24, Tryz.ntmps24
  go_wp2_with (go_at_call 68; refine (eqStringS_any S n HN.out a1 a2 c1 c2 hl _ H1.out H2.out).mono ?_; rintro e w1 ⟨rfl, hb⟩; have HB1 := hid (HB0.out.trans (hb.mono (by simp; omega))); clear hb)
  go_ret
  exact ⟨rfl, HB1.out⟩
end Go.Proofs.YtbfkbgmkibkbnaaGreatDoor
namespace Go.Proofs.YtbfkbgmkibkbnaaGreatDoor
open Go.RowKit
set_option linter.unusedVariables false
set_option linter.unusedSimpArgs false
def timeB (t : Int) : Bool := decide (0 ≤ t ∧ t ≤ 1000000)
theorem specTime_any (t : Int) (w : World) : Calls Tryz.prog 91 #[.int .i64 t] w fun e w' => e = .returned (.bool (timeB t)) ∧ w' = w := by
  by_cases h1 : 0 ≤ t <;> by_cases h2 : t ≤ 1000000
  all_goals
    go_enter Tryz.func91, Tryz.ntmps91
    go_wp2
    go_ret
    exact ⟨ret_bool (by simp [timeB]; omega), rfl⟩
theorem implTime_any (t : Int) (w : World) : Calls Tryz.prog 95 #[.int .i64 t] w fun e w' => e = .returned (.bool (timeB t)) ∧ w' = w := by
  by_cases h1 : 0 ≤ t <;> by_cases h2 : t ≤ 1000000
  all_goals
    go_enter Tryz.func95, Tryz.ntmps95
    go_wp2
    go_ret
    exact ⟨ret_bool (by simp [timeB]; omega), rfl⟩
end Go.Proofs.YtbfkbgmkibkbnaaGreatDoor
namespace Go.Proofs.YtbfkbgmkibkbnaaGreatDoor
open Go.RowKit
set_option linter.unusedVariables false
set_option linter.unusedSimpArgs false
set_option maxRecDepth 20000 in
set_option maxHeartbeats 2000000 in
theorem specNames_any (S : List ByteArray) (n : Nat) (hn : S.length = n) (a : Option Addr) (c : Nat) (hs : TxOk S) (hl : n ≤ maxLen) (w : World) (hA : TsAt w a S) :
    Calls Tryz.prog 92 #[.slice a n c] w fun e w' => e = .returned (.bool (namesB S)) ∧ Below w.heap.size w w' := by
  unfold maxLen at hl
  subst hn
  have HS := hid hs
  have HA := hid hA
  clear hs hA
  by_cases h8 : 8 < S.length
  · have HN := hid (namesB_long S h8)
    go_enter Tryz.func92, Tryz.ntmps92
    go_wp2_with fail
    go_ret
    exact ⟨ret_bool HN.out.symm, Below.refl _ _⟩
  go_enter Tryz.func92, Tryz.ntmps92
  go_wp2_with fail
  go_loopw [3] (fun t wr => ∃ k : Nat, k ≤ S.length ∧ t = .int .i64 k ∧ namesTo S k = true ∧ Below w.heap.size w wr) (fun t _ => S.length - (intOf t).toNat)
  case atStart => exact ⟨0, Nat.zero_le _, rfl, rfl, Below.refl _ _⟩
  case round =>
    obtain ⟨k, hk, rfl, hg, hbel⟩ := hrel
    have HG := hid hg
    have HB := hid hbel
    clear hg hbel
    by_cases hlt : k < S.length
    · have HS1 := hid (namesTo_succ S k)
      have HNo := hid (namesB_no S k hlt)
      rcases HA.out with h0 | ⟨b, rfl, hb, hc⟩
      · omega
      have d0 := (HB.out.cell (p := ⟨b, k, none⟩) hb).trans (hc k hlt)
      have HX := hid (HS.out k hlt)
      cases k with
      | zero =>
        generalize hT : txAt S 0 = T at *
        clear hT hc
        rcases Bool.eq_false_or_eq_true (wordB T) with hw | hw
        · go_wp2_with fail
          go_quiet ((go_at_call 88; exact Calls.quiet_of_same (specWord_any _ _ HX.out)))
          go_wp2_with fail
          go_roundw
          case rel => exact ⟨1, by omega, by go_num, by rw [HS1.out, HG.out, hw]; rfl, below_drewN HB.out _⟩
          case measure => simp [intOf]; omega
        · go_wp2_with fail
          go_quiet ((go_at_call 88; exact Calls.quiet_of_same (specWord_any _ _ HX.out)))
          go_wp2_with fail
          go_ret
          exact ⟨ret_bool (HNo.out (by rw [HS1.out, hw]; simp)).symm, below_drewN HB.out _⟩
      | succ j =>
        have d1 := (HB.out.cell (p := ⟨b, j, none⟩) hb).trans (hc j (by omega))
        simp only [Nat.add_sub_cancel] at HS1
        generalize hT : txAt S (j + 1) = T at *
        generalize hU : txAt S j = U at *
        clear hT hU hc
        rcases Bool.eq_false_or_eq_true (wordB T) with hw | hw <;> rcases Bool.eq_false_or_eq_true (Op.bytesLess U.toList T.toList) with hx | hx
        · go_wp2_with fail
          go_quiet ((go_at_call 88; exact Calls.quiet_of_same (specWord_any _ _ HX.out)))
          go_wp2_with fail
          go_roundw
          case rel => exact ⟨j + 2, by omega, by go_num, by rw [HS1.out, HG.out, hw, hx]; simp, below_drewN HB.out _⟩
          case measure => simp [intOf]; omega
        all_goals
          go_wp2_with fail
          go_quiet ((go_at_call 88; exact Calls.quiet_of_same (specWord_any _ _ HX.out)))
          go_wp2_with fail
          go_ret
          exact ⟨ret_bool (HNo.out (by rw [HS1.out]; simp [hw, hx])).symm, below_drewN HB.out _⟩
    · have hk' : k = S.length := by omega
      subst hk'
      have HN := hid (namesB_yes S (by omega) HG.out)
      go_wp2_with fail
      go_ret
      exact ⟨ret_bool HN.out.symm, HB.out⟩
set_option maxRecDepth 20000 in
set_option maxHeartbeats 2000000 in
theorem specEvent_any (t : Int) (S : List ByteArray) (n : Nat) (hn : S.length = n) (a : Option Addr) (c : Nat) (hs : TxOk S) (hl : n ≤ maxLen) (w : World) (hA : TsAt w a S) :
    Calls Tryz.prog 49 #[.agg #[.int .i64 t, .slice a n c]] w fun e w' => e = .returned (.bool (evB t S)) ∧ Below w.heap.size w w' := by
  have HB0 := hid ((Below.refl w.heap.size w).alloc (Nat.le_refl _) (.cells #[.int .i64 t, .slice a n c] 41))
  have HC := hid (specNames_any S n hn a c hs hl _ (hA.below HB0.out))
  clear hn hs hl hA
  rcases Bool.eq_false_or_eq_true (timeB t) with ht | ht
  · have HE : Hid (evB t S = namesB S) := by show evB t S = _; unfold timeB at ht; simp [evB, ht]
    go_enter Tryz.func49, Tryz.ntmps49
    go_wp2_with (first | (go_at_call 91; refine (specTime_any _ _).mono ?_; rintro e w' ⟨rfl, rfl⟩) | (go_at_call 92; refine HC.out.mono ?_; rintro e w1 ⟨rfl, hb⟩; have HB1 := hid (HB0.out.trans (hb.mono (by simp))); clear hb))
    go_ret
    exact ⟨ret_bool HE.out.symm, HB1.out⟩
  · have HE : Hid (evB t S = false) := by show evB t S = _; unfold timeB at ht; simp [evB, ht]
    go_enter Tryz.func49, Tryz.ntmps49
    go_wp2_with (go_at_call 91; refine (specTime_any _ _).mono ?_; rintro e w' ⟨rfl, rfl⟩)
    go_ret
    exact ⟨ret_bool HE.out.symm, HB0.out⟩
/-- No name is empty. -/
theorem word_full (T : ByteArray) (h : wordB T = true) : T.toList.isEmpty = false := by
  have h1 := (wordB_len T h).1
  have h2 : T.toList = T.data.toList := ByteArray.toList_eq T
  have h3 : T.data.toList.length = T.size := rfl
  rw [h2]
  cases hl : T.data.toList with
  | nil => rw [hl] at h3; simp at h3; omega
  | cons x l => rfl
theorem less_nil (l : List UInt8) : Op.bytesLess l [] = false := by cases l <;> rfl
theorem less_irr : ∀ a : List UInt8, Op.bytesLess a a = false
  | [] => rfl
  | x :: a => by simp [Op.bytesLess, less_irr a]
theorem less_asym : ∀ a b : List UInt8, Op.bytesLess a b = true → Op.bytesLess b a = false
  | _, [], h => by simp [less_nil] at h
  | [], _ :: _, _ => rfl
  | x :: a, y :: b, h => by
    simp only [Op.bytesLess, Bool.or_eq_true, Bool.and_eq_true, decide_eq_true_eq, beq_iff_eq] at h
    simp only [Op.bytesLess, Bool.or_eq_false_iff, Bool.and_eq_false_iff, decide_eq_false_iff_not, beq_eq_false_iff_ne]
    rcases h with h | ⟨rfl, h⟩
    · exact ⟨UInt8.lt_asymm h, Or.inl (fun e => by subst e; exact UInt8.lt_irrefl _ h)⟩
    · exact ⟨UInt8.lt_irrefl _, Or.inr (less_asym a b h)⟩
theorem less_ne (a b : List UInt8) (h : Op.bytesLess a b = true) : (b == a) = false := by
  rw [beq_eq_false_iff_ne]
  rintro rfl
  rw [less_irr] at h
  cases h
theorem less_tri : ∀ a b : List UInt8, Op.bytesLess a b = false → (b == a) = false → Op.bytesLess b a = true
  | [], [], _, h => by simp at h
  | _ :: _, [], _, _ => rfl
  | [], _ :: _, h, _ => by simp [Op.bytesLess] at h
  | x :: a, y :: b, h, h' => by
    simp only [Op.bytesLess, Bool.or_eq_false_iff, Bool.and_eq_false_iff, decide_eq_false_iff_not, beq_eq_false_iff_ne] at h
    simp only [Op.bytesLess, Bool.or_eq_true, Bool.and_eq_true, decide_eq_true_eq, beq_iff_eq]
    by_cases e : y = x
    · subst e
      right
      refine ⟨rfl, less_tri a b (h.2.resolve_left (fun h => h rfl)) ?_⟩
      rw [beq_eq_false_iff_ne] at h' ⊢
      exact fun q => h' (by rw [q])
    · left
      have h1 := UInt8.not_lt.1 h.1
      exact UInt8.lt_of_le_of_ne h1 e
set_option maxRecDepth 20000 in
set_option maxHeartbeats 2000000 in
theorem implEvent_any (t : Int) (S : List ByteArray) (n : Nat) (hn : S.length = n) (a : Option Addr) (c : Nat) (hs : TxOk S) (hl : n ≤ maxLen) (w : World) (hA : TsAt w a S) (hkw : Kw w) (hgl : 1 < w.heap.size) :
    Calls Tryz.prog 54 #[.agg #[.int .i64 t, .slice a n c]] w fun e w' => e = .returned (.bool (evB t S)) ∧ Below w.heap.size w w' := by
  unfold maxLen at hl
  subst hn
  have HB0 := hid ((Below.refl w.heap.size w).alloc (Nat.le_refl _) (.cells #[.int .i64 t, .slice a S.length c] 41))
  have HS := hid hs
  have HA := hid (hA.below HB0.out)
  have HK := hid (hkw.below HB0.out hgl)
  clear hs hA hkw
  rcases (Bool.eq_false_or_eq_true (timeB t)).symm with ht | ht
  · have HE : Hid (evB t S = false) := by show evB t S = _; unfold timeB at ht; simp [evB, ht]
    go_enter Tryz.func54, Tryz.ntmps54
    go_wp2_with (go_at_call 95; refine (implTime_any _ _).mono ?_; rintro e w' ⟨rfl, rfl⟩)
    go_ret
    exact ⟨ret_bool HE.out.symm, HB0.out⟩
  have HE : Hid (evB t S = namesB S) := by show evB t S = _; unfold timeB at ht; simp [evB, ht]
  by_cases h8 : 8 < S.length
  · have HN := hid (HE.out.trans (namesB_long S h8))
    go_enter Tryz.func54, Tryz.ntmps54
    go_wp2_with (go_at_call 95; refine (implTime_any _ _).mono ?_; rintro e w' ⟨rfl, rfl⟩)
    go_ret
    exact ⟨ret_bool HN.out.symm, HB0.out⟩
  go_enter Tryz.func54, Tryz.ntmps54
  go_wp2_with (go_at_call 95; refine (implTime_any _ _).mono ?_; rintro e w' ⟨rfl, rfl⟩)
  go_loop [3, 19] (fun s i => ∃ k : Nat, k ≤ S.length ∧ i = .int .i64 k ∧ s = .string (if k = 0 then ⟨#[]⟩ else txAt S (k - 1)) ∧ namesTo S k = true) (fun _ i => S.length - (intOf i).toNat)
  case atStart => exact ⟨0, Nat.zero_le _, rfl, rfl, rfl⟩
  case round =>
    obtain ⟨k, hk, rfl, rfl, hg⟩ := hrel
    have HG := hid hg
    clear hg
    by_cases hlt : k < S.length
    · have HS1 := hid (namesTo_succ S k)
      have HNo := hid (fun h => HE.out.trans (namesB_no S k hlt h))
      rcases HA.out with h0 | ⟨b, rfl, hb, hc⟩
      · omega
      have d0 := hc k hlt
      have HX := hid (HS.out k hlt)
      cases k with
      | zero =>
        simp only [if_true]
        generalize hT : txAt S 0 = T at *
        have HT := hid hT
        clear hT hc
        rcases Bool.eq_false_or_eq_true (wordB T) with hw | hw
        · have hx1 := less_nil T.toList
          have hx2 := word_full T hw
          go_wp2_with (go_at_call 98; refine (implWord_any _ _ HX.out HK.out).mono ?_; rintro e w' ⟨rfl, rfl⟩)
          go_round
          case rel => exact ⟨1, by omega, by go_num, by rw [if_neg (by omega), ← HT.out], by rw [HS1.out, HG.out, hw]; rfl⟩
          case measure => simp [intOf]; omega
        · go_wp2_with (go_at_call 98; refine (implWord_any _ _ HX.out HK.out).mono ?_; rintro e w' ⟨rfl, rfl⟩)
          go_ret
          exact ⟨ret_bool (HNo.out (by rw [HS1.out, hw]; simp)).symm, HB0.out⟩
      | succ j =>
        rw [if_neg (by omega)]
        simp only [Nat.add_sub_cancel] at HS1 ⊢
        generalize hT : txAt S (j + 1) = T at *
        have HT := hid hT
        generalize hU : txAt S j = U at *
        clear hT hU hc
        rcases Bool.eq_false_or_eq_true (wordB T) with hw | hw
        · rcases Bool.eq_false_or_eq_true (Op.bytesLess U.toList T.toList) with hx | hx
          · have HX3 := hid hx
            have hx1 := less_asym _ _ hx
            have hx2 := less_ne _ _ hx
            clear hx
            go_wp2_with (go_at_call 98; refine (implWord_any _ _ HX.out HK.out).mono ?_; rintro e w' ⟨rfl, rfl⟩)
            go_round
            case rel => exact ⟨j + 2, by omega, by go_num, by rw [if_neg (by omega), ← HT.out]; rfl, by rw [HS1.out, HG.out, hw, HX3.out]; simp⟩
            case measure => simp [intOf]; omega
          · have HX3 := hid hx
            clear hx
            rcases Bool.eq_false_or_eq_true (T.toList == U.toList) with hx2 | hx2
            · have hx3 : Op.bytesLess T.toList U.toList = false := by rw [beq_iff_eq] at hx2; rw [hx2]; exact less_irr _
              go_wp2_with (go_at_call 98; refine (implWord_any _ _ HX.out HK.out).mono ?_; rintro e w' ⟨rfl, rfl⟩)
              go_ret
              exact ⟨ret_bool (HNo.out (by rw [HS1.out, HX3.out]; simp)).symm, HB0.out⟩
            · have hx3 := less_tri _ _ HX3.out hx2
              go_wp2_with (go_at_call 98; refine (implWord_any _ _ HX.out HK.out).mono ?_; rintro e w' ⟨rfl, rfl⟩)
              go_ret
              exact ⟨ret_bool (HNo.out (by rw [HS1.out, HX3.out]; simp)).symm, HB0.out⟩
        · go_wp2_with (go_at_call 98; refine (implWord_any _ _ HX.out HK.out).mono ?_; rintro e w' ⟨rfl, rfl⟩)
          go_ret
          exact ⟨ret_bool (HNo.out (by rw [HS1.out, hw]; simp)).symm, HB0.out⟩
    · have hk' : k = S.length := by omega
      subst hk'
      have HN := hid (HE.out.trans (namesB_yes S (by omega) HG.out))
      generalize (if S.length = 0 then (⟨#[]⟩ : ByteArray) else txAt S (S.length - 1)) = q
      go_wp2_with fail
      go_ret
      exact ⟨ret_bool HN.out.symm, HB0.out⟩
end Go.Proofs.YtbfkbgmkibkbnaaGreatDoor
namespace Go.Proofs.YtbfkbgmkibkbnaaGreatDoor
open Go.RowKit
set_option linter.unusedVariables false
set_option linter.unusedSimpArgs false
/-- What is asked of a row of names that came in. -/
structure InE (w : World) (a : Option Addr) (S : List ByteArray) : Prop where
  arg : ArgT w a S
  ok : TxOk S
  len : S.length ≤ maxLen
/-- An event lies in a box. -/
def BoxE (w : World) (q : Nat) (t : Int) (v : Value) : Prop := q < w.heap.size ∧ w.cell? ⟨q, 0, none⟩ = some (.int .i64 t) ∧ w.cell? ⟨q, 1, none⟩ = some v
theorem BoxE.below {w w' : World} {q : Nat} {t : Int} {v : Value} (h : BoxE w q t v) (hb : Below w.heap.size w w') : BoxE w' q t v :=
  ⟨Nat.lt_of_lt_of_le h.1 hb.size, (hb.cell (p := ⟨q, 0, none⟩) h.1).trans h.2.1, (hb.cell (p := ⟨q, 1, none⟩) h.1).trans h.2.2⟩
theorem BoxE.alloc {w : World} {q : Nat} {t : Int} {v : Value} (h : BoxE w q t v) (o : Obj) : BoxE (w.alloc o) q t v := h.below ((Below.refl _ _).alloc (Nat.le_refl _) o)
theorem BoxE.new (w : World) (t : Int) (v : Value) (T : TypeId) : BoxE (w.alloc (.cells #[.int .i64 t, v] T)) w.heap.size t v := ⟨by simp, by simp [go_sem], by simp [go_sem]⟩
theorem below_new {w W : World} (h : Below w.heap.size w W) (o : Obj) : Below w.heap.size w (W.alloc o) := h.alloc h.size o
theorem TsAt.alloc {w : World} {a : Option Addr} {S : List ByteArray} (h : TsAt w a S) (o : Obj) : TsAt (w.alloc o) a S := h.below ((Below.refl _ _).alloc (Nat.le_refl _) o)
theorem below_drew {B : Nat} {a w : World} (h : Below B a w) : Below B a w.drew := ⟨h.os, h.tape, h.output, h.size, h.block⟩
theorem below_undrew {w w' : World} (h : Below w.drew.heap.size w.drew w') : Below w.heap.size w w' := ⟨h.os, h.tape, h.output, h.size, h.block⟩
end Go.Proofs.YtbfkbgmkibkbnaaGreatDoor
namespace Go.Proofs.YtbfkbgmkibkbnaaGreatDoor
open Go.RowKit
set_option linter.unusedVariables false
set_option linter.unusedSimpArgs false
abbrev Evt := Int × List ByteArray
def evAt (E : List Evt) (i : Nat) : Evt := E.getD i (0, [])
/-- An event lies at a place of a block. -/
def EvAt (w : World) (b o : Nat) (e : Evt) : Prop := w.cell? ⟨b, o, none⟩ = some (.int .i64 e.1) ∧ ∃ a c, w.cell? ⟨b, o + 1, none⟩ = some (.slice a e.2.length c) ∧ TsAt w a e.2
def EvsAt (w : World) (b : Nat) (E : List Evt) : Prop := b < w.heap.size ∧ ∀ i, i < E.length → EvAt w b (i * 2) (evAt E i)
theorem EvAt.below {w w' : World} {b o : Nat} {e : Evt} (h : EvAt w b o e) (hb : Below w.heap.size w w') (hlt : b < w.heap.size) : EvAt w' b o e := by
  obtain ⟨h1, a, c, h2, h3⟩ := h
  exact ⟨(hb.cell (p := ⟨b, o, none⟩) hlt).trans h1, a, c, (hb.cell (p := ⟨b, o + 1, none⟩) hlt).trans h2, h3.below hb⟩
theorem EvsAt.below {w w' : World} {b : Nat} {E : List Evt} (h : EvsAt w b E) (hb : Below w.heap.size w w') : EvsAt w' b E :=
  ⟨Nat.lt_of_lt_of_le h.1 hb.size, fun i hi => (h.2 i hi).below hb h.1⟩
/-- An event that came in. -/
def ArgE (w : World) (b o : Nat) (e : Evt) : Prop := w.cell? ⟨b, o, none⟩ = some (.int .i64 e.1) ∧ ∃ a c, w.cell? ⟨b, o + 1, none⟩ = some (.slice a e.2.length c) ∧ ArgT w a e.2
def ArgEs (w : World) (a : Option Addr) (E : List Evt) : Prop := E.length = 0 ∨ ∃ b off, a = some ⟨b, off, none⟩ ∧ b < w.heap.size ∧ ∀ i, i < E.length → ArgE w b (off + i * 2) (evAt E i)
theorem ArgE.below {w w' : World} {b o : Nat} {e : Evt} {B : Nat} (h : ArgE w b o e) (hb : Below B w w') (hB : w.heap.size ≤ B) (hlt : b < w.heap.size) : ArgE w' b o e := by
  obtain ⟨h1, a, c, h2, h3⟩ := h
  exact ⟨(hb.cell (p := ⟨b, o, none⟩) (by show b < B; omega)).trans h1, a, c, (hb.cell (p := ⟨b, o + 1, none⟩) (by show b < B; omega)).trans h2, h3.below hb hB⟩
theorem ArgEs.below {w w' : World} {a : Option Addr} {E : List Evt} {B : Nat} (h : ArgEs w a E) (hb : Below B w w') (hB : w.heap.size ≤ B) : ArgEs w' a E := by
  rcases h with h | ⟨b, off, e, hlt, hc⟩
  · exact Or.inl h
  · exact Or.inr ⟨b, off, e, Nat.lt_of_lt_of_le hlt hb.size, fun i hi => (hc i hi).below hb hB hlt⟩
def EvOk (e : Evt) : Prop := (-9223372036854775808 ≤ e.1 ∧ e.1 ≤ 9223372036854775807) ∧ TxOk e.2 ∧ e.2.length ≤ maxLen
/-- What is asked of a row of events that came in. -/
structure InEs (w : World) (a : Option Addr) (E : List Evt) : Prop where
  arg : ArgEs w a E
  ok : ∀ i, i < E.length → EvOk (evAt E i)
  len : E.length ≤ maxLen
/-- How many names the first k events have together. -/
def sumN (E : List Evt) : Nat → Nat
  | 0 => 0
  | k + 1 => sumN E k + (evAt E k).2.length
theorem sumN_mono (E : List Evt) : ∀ {i k}, i ≤ k → sumN E i ≤ sumN E k := by
  intro i k h
  induction h with
  | refl => exact Nat.le_refl _
  | step _ ih => exact Nat.le_trans ih (Nat.le_add_right _ _)
set_option maxRecDepth 20000 in
set_option maxHeartbeats 1000000 in
theorem szEventS_any (E : List Evt) (a : Option Addr) (cap : Nat) (hs : ∀ i, i < E.length → EvOk (evAt E i)) (hl : E.length ≤ maxLen) (left : Int) (h1 : 0 ≤ left) (h2 : left ≤ 1048576) (w : World) (hA : ArgEs w a E) :
    Calls Tryz.prog 30 #[.slice a E.length cap, .int .i64 left] w fun e w' => ∃ r : Int, e = .returned (.int .i64 r) ∧ -1 ≤ r ∧ r ≤ 1048576 ∧ (0 ≤ r → E.length ≤ 1048576 ∧ (∀ i, i < E.length → (evAt E i).2.length ≤ 1048576) ∧ sumN E E.length ≤ 1048576) ∧ Below w.heap.size w w' := by
  unfold maxLen at hl
  have HS := hid hs
  have HA := hid hA
  clear hs hA
  by_cases h : left - (E.length : Int) < 0
  · go_enter Tryz.func30, Tryz.ntmps30
    go_wp2
    go_ret
    exact ⟨-1, rfl, by omega, by omega, by omega, Below.refl _ _⟩
  go_enter Tryz.func30, Tryz.ntmps30
  go_wp2_with fail
  go_loopw [1, 5] (fun l t wr => ∃ (k : Nat) (r : Int), k ≤ E.length ∧ t = .int .i64 k ∧ l = .int .i64 r ∧ 0 ≤ r ∧ r ≤ 1048576 ∧ r + sumN E k ≤ 1048576 ∧ (∀ i, i < k → (evAt E i).2.length ≤ 1048576) ∧ Below w.heap.size w wr) (fun _ t _ => E.length - (intOf t).toNat)
  case atStart => exact ⟨0, _, Nat.zero_le _, rfl, rfl, by omega, by omega, by simp [sumN]; omega, fun i h => by omega, Below.refl _ _⟩
  case round =>
    obtain ⟨k, r, hk, rfl, rfl, hr1, hr2, hr3, hsz, hbel⟩ := hrel
    have HS1 := hid (show sumN E (k + 1) = sumN E k + (evAt E k).2.length from rfl)
    have HZ := hid hsz
    have HB := hid hbel
    clear hsz hbel
    by_cases hlt : k < E.length
    · rcases HA.out with h0 | ⟨b, off, rfl, hb, hc⟩
      · omega
      · obtain ⟨c0, a', c', c1, hT⟩ := (hc k hlt).below HB.out (Nat.le_refl _) hb
        obtain ⟨_, ho1, ho2⟩ := HS.out k hlt
        have HC := hid (fun w hw => szEvent_any (evAt E k).1 (evAt E k).2 a' c' ho1 ho2 r hr1 hr2 w hw)
        have HT := hid hT
        clear hc h hT ho1 ho2
        go_wp2_with (go_at_call 18; refine (HC.out _ HT.out).mono ?_; rintro e w1 ⟨r', rfl, q1, q2, q3, hb1⟩; have HB1 : Hid (Below w.heap.size w w1) := HB.out.trans (hb1.mono HB.out.size); have HQ := hid q3; clear q3 hb1)
        · go_ret
          exact ⟨-1, rfl, by omega, by omega, by omega, HB1.out⟩
        · go_roundw
          case rel => exact ⟨k + 1, r', by omega, by go_num, rfl, by omega, q2, by have := (HQ.out (by omega)).2.2; rw [HS1.out]; push_cast; omega, fun i hi => by
            by_cases e : i = k
            · subst e; exact (HQ.out (by omega)).1
            · exact HZ.out i (by omega), HB1.out⟩
          case measure => simp [intOf]; omega
    · go_wp2_with fail
      go_ret
      have hk' : k = E.length := by omega
      exact ⟨r, rfl, by omega, by omega, fun _ => ⟨by omega, fun i hi => HZ.out i (by omega), by subst hk'; omega⟩, HB.out⟩
/-- Cell j of a row of events of which the first k are laid. -/
def rowE (E : List Evt) (V : Nat → Value) (z : Nat → Value) (k j : Nat) : Value := if j < k * 2 then (if j % 2 = 0 then .int .i64 (evAt E (j / 2)).1 else V (j / 2)) else z j
theorem rowE_step (E : List Evt) (V : Nat → Value) (z : Nat → Value) (k j : Nat) (v : Value) : rowE E (fun i => if i = k then v else V i) z (k + 1) j = if j = k * 2 + 1 then v else if j = k * 2 then .int .i64 (evAt E k).1 else rowE E V z k j := by
  unfold rowE
  by_cases h : j < k * 2
  · have e1 : ¬ j = k * 2 + 1 := by omega
    have e0 : ¬ j = k * 2 := by omega
    have h' : j < (k + 1) * 2 := by omega
    have hd : ¬ j / 2 = k := by omega
    simp only [e1, e0, h, h', hd, if_true, if_false]
  · by_cases h' : j < (k + 1) * 2
    · have hd : j / 2 = k := by omega
      have hj : j = k * 2 ∨ j = k * 2 + 1 := by omega
      rcases hj with e | e
      · have hm : j % 2 = 0 := by omega
        have e1 : ¬ j = k * 2 + 1 := by omega
        rw [if_pos h', if_pos hm, if_neg e1, if_pos e, hd]
      · have hm : ¬ j % 2 = 0 := by omega
        rw [if_pos h', if_neg hm, if_pos e]
        simp [hd]
    · have e1 : ¬ j = k * 2 + 1 := by omega
      have e0 : ¬ j = k * 2 := by omega
      simp only [e1, e0, h, h', if_false]
def nmV (A : Nat → Nat) (E : List Evt) (i : Nat) : Value := .slice (some ⟨A i, 0, none⟩) (evAt E i).2.length (evAt E i).2.length
/-- A row of events that is wholly owned: k of them are laid, their names each in a block of its own behind. -/
structure EvRow (w : World) (b : Nat) (E : List Evt) (A : Nat → Nat) (z : Nat → Value) (k : Nat) : Prop where
  row : w.rowIs b 41 (E.length * 2) (rowE E (nmV A E) z k)
  names : ∀ i, i < k → RowS w (A i) (evAt E i).2
  above : ∀ i, i < k → b < A i
  rising : ∀ i j, i < j → j < k → A i < A j
theorem EvRow.at {w : World} {b : Nat} {E : List Evt} {A : Nat → Nat} {z : Nat → Value} (h : EvRow w b E A z E.length) : EvsAt w b E := by
  refine ⟨h.row.lt, fun i hi => ⟨?_, some ⟨A i, 0, none⟩, (evAt E i).2.length, ?_, (h.names i hi).ts⟩⟩
  · rw [h.row.cell (by omega)]
    unfold rowE
    rw [if_pos (by omega), if_pos (by omega), show i * 2 / 2 = i by omega]
  · rw [h.row.cell (by omega)]
    unfold rowE
    rw [if_pos (by omega), if_neg (by omega), show (i * 2 + 1) / 2 = i by omega]
    rfl
theorem EvRow.below {w w' : World} {b : Nat} {E : List Evt} {A : Nat → Nat} {z : Nat → Value} {k : Nat} (h : EvRow w b E A z k) (hb : Below w.heap.size w w') : EvRow w' b E A z k :=
  ⟨h.row.of_block (hb.block b h.row.lt), fun i hi => (h.names i hi).below hb (World.rowIs.lt (h.names i hi)), h.above, h.rising⟩
theorem Tryz.uEvs : Tryz.prog.underlying 24 = some (.slice 41) := by kernel_rfl
theorem Tryz.infoEv : (Tryz.prog.info? 41).map (fun i => (i.zero, i.size, i.bytes)) = some (some (.agg #[.int .i64 0, .slice none 0 0]), 2, 32) := by kernel_rfl
theorem run_makeE (n : Nat) (hn : n ≤ 1048576) : ∃ zc, ∀ w : World, Sem.run Tryz.prog (Instr.makeSlice 24 (.int .i64 n) (.int .i64 n)) w = .ok (.slice (some ⟨w.heap.size, 0, none⟩) n n) (w.alloc (.cells (madeCells zc (n * 2)) 41)) := by
  obtain ⟨i0, hi, hz0, hz1, hz2⟩ := info_parts Tryz.infoEv
  refine ⟨(Value.agg #[.int .i64 0, .slice none 0 0]).cells, fun w => ?_⟩
  have h := run_make (P := Tryz.prog) w 24 41 i0 _ Tryz.uEvs hi hz0 .i64 .i64 n n (by omega) (Int.le_refl _) (by rw [hz2]; omega) (by omega)
  rw [hz1] at h
  simpa using h
set_option maxRecDepth 20000 in
set_option maxHeartbeats 1000000 in
theorem toEventS_any (E : List Evt) (a : Option Addr) (cap : Nat) (hl : E.length ≤ 1048576) (hl2 : ∀ i, i < E.length → (evAt E i).2.length ≤ 1048576) (w : World) (hA : ArgEs w a E) :
    Calls Tryz.prog 33 #[.slice a E.length cap] w fun e w' => ∃ b A z, e = .returned (.slice (some ⟨b, 0, none⟩) E.length E.length) ∧ w.heap.size ≤ b ∧ EvRow w' b E A z E.length ∧ Below w.heap.size w w' := by
  obtain ⟨zc, hmk⟩ := run_makeE E.length hl
  have HA := hid hA
  have HL2 := hid hl2
  clear hA hl2
  have hr0 : Hid (∃ z, (w.alloc (.cells (madeCells zc (E.length * 2)) 41)).rowIs w.heap.size 41 (E.length * 2) (rowE E (nmV (fun _ => 0) E) z 0)) := by
    refine ⟨fun j => (madeCells zc (E.length * 2)).getD j undef, ?_⟩
    have := World.rowIs_alloc w (madeCells zc (E.length * 2)) 41 (rowE E (nmV (fun _ => 0) E) (fun j => (madeCells zc (E.length * 2)).getD j undef) 0) (fun i hi => by simp [rowE, hi])
    rwa [size_madeCells] at this
  obtain ⟨z, hr0⟩ := hr0.out
  have HR0 := hid hr0
  clear hr0
  go_enter Tryz.func33, Tryz.ntmps33
  go_wp2_with fail
  go_loopw [4] (fun t wr => ∃ (k : Nat) (A : Nat → Nat), k ≤ E.length ∧ t = .int .i64 k ∧ EvRow wr w.heap.size E A z k ∧ Below w.heap.size w wr) (fun t _ => E.length - (intOf t).toNat)
  case atStart => exact ⟨0, fun _ => 0, Nat.zero_le _, rfl, ⟨HR0.out, fun i h => by omega, fun i h => by omega, fun i j _ h => by omega⟩, (Below.refl _ _).alloc (Nat.le_refl _) _⟩
  case round =>
    clear HR0 hmk
    obtain ⟨k, A, hk, rfl, hrow, hbel⟩ := hrel
    have HB := hid hbel
    have HRow := hid hrow
    have hsz := hrow.row.lt
    clear hrow hbel
    by_cases hlt : k < E.length
    · rcases HA.out with h0 | ⟨b, off, rfl, hb, hc⟩
      · omega
      · obtain ⟨c0, a', c', c1, hT⟩ := (hc k hlt).below HB.out (Nat.le_refl _) hb
        have HT := hid hT
        have hl3 := HL2.out k hlt
        clear hc hT
        go_wp2_with (go_at_call 21; refine (toEvent_any (evAt E k).1 (evAt E k).2 a' c' hl3 _ HT.out).mono ?_; rintro e w1 ⟨b1, rfl, hb1, hR1, hbl1⟩; have HB1 := hid hbl1; have HE1 := hid (HRow.out.below hbl1); have HS1 := hid hR1; have hlt1 := World.rowIs.lt hR1; have d0 := HE1.out.row.cell (i := k * 2) (by omega); have d1 := HE1.out.row.cell (i := k * 2 + 1) (by omega); have f0 := HE1.out.row.frozen (k * 2); have f1 := HE1.out.row.frozen (k * 2 + 1); clear hR1 hbl1)
        go_roundw
        case rel =>
          refine ⟨k + 1, fun i => if i = k then b1 else A i, by omega, by go_num, ⟨?_, fun i hi => ?_, fun i hi => ?_, fun i j hij hj => ?_⟩, ((HB.out.trans (HB1.out.mono HB.out.size)).setCell (Nat.le_refl _) _).setCell (Nat.le_refl _) _⟩
          · refine ((HE1.out.row.set (k * 2) _).set (k * 2 + 1) _).congr (fun j hj => ?_)
            have := rowE_step E (nmV A E) z k j (.slice (some ⟨b1, 0, none⟩) (evAt E k).2.length (evAt E k).2.length)
            rw [← this]
            congr 1
            funext i
            unfold nmV
            by_cases e : i = k
            · subst e; simp
            · simp [e]
          · show RowS _ (if i = k then b1 else A i) _
            split
            · next e =>
              subst e
              exact World.rowIs.setOther (World.rowIs.setOther HS1.out (by show _ ≠ _; simp only; omega) _) (by show _ ≠ _; simp only; omega) _
            · have h1 := HRow.out.above i (by omega)
              exact World.rowIs.setOther (World.rowIs.setOther (HE1.out.names i (by omega)) (by show _ ≠ _; simp only; omega) _) (by show _ ≠ _; simp only; omega) _
          · show _ < (if i = k then b1 else A i)
            split
            · omega
            · exact HRow.out.above i (by omega)
          · show (if i = k then b1 else A i) < (if j = k then b1 else A j)
            have := World.rowIs.lt (HRow.out.names i (by omega))
            split
            · omega
            · split
              · omega
              · exact HRow.out.rising i j hij (by omega)
        case measure => simp [intOf]; omega
    · have hk' : k = E.length := by omega
      subst hk'
      go_wp2_with fail
      go_ret
      exact ⟨w.heap.size, A, z, rfl, Nat.le_refl _, HRow.out, HB.out⟩
theorem TsAt.drew {w : World} {a : Option Addr} {S : List ByteArray} (h : TsAt w a S) : TsAt w.drew a S := h
/-- A slice of events, of which nothing is asked where it is empty. -/
def EsAt (w : World) (a : Option Addr) (E : List Evt) : Prop := E.length = 0 ∨ ∃ b, a = some ⟨b, 0, none⟩ ∧ EvsAt w b E
theorem EsAt.below {w w' : World} {a : Option Addr} {E : List Evt} (h : EsAt w a E) (hb : Below w.heap.size w w') : EsAt w' a E :=
  h.imp id (fun ⟨b, e, h1⟩ => ⟨b, e, h1.below hb⟩)
theorem EvsAt.es {w : World} {b : Nat} {E : List Evt} (h : EvsAt w b E) : EsAt w (some ⟨b, 0, none⟩) E := Or.inr ⟨b, rfl, h⟩
set_option maxRecDepth 20000 in
set_option maxHeartbeats 2000000 in
theorem eqEventS_any (E : List Evt) (n : Nat) (hn : E.length = n) (a1 a2 : Option Addr) (c1 c2 : Nat) (hl : n ≤ 1048576) (hl2 : ∀ i, i < E.length → (evAt E i).2.length ≤ 1048576) (w : World) (h1 : EsAt w a1 E) (h2 : EsAt w a2 E) :
    Calls Tryz.prog 36 #[.slice a1 n c1, .slice a2 n c2] w fun e w' => e = .returned (.bool true) ∧ Below w.heap.size w w' := by
  subst hn
  have H1 := hid h1
  have H2 := hid h2
  have HL2 := hid hl2
  clear h1 h2 hl2
  go_enter Tryz.func36, Tryz.ntmps36
  go_wp2_with fail
  go_loopw [5] (fun t wr => ∃ k : Nat, k ≤ E.length ∧ t = .int .i64 k ∧ Below w.heap.size w wr) (fun t _ => E.length - (intOf t).toNat)
  case atStart => exact ⟨0, Nat.zero_le _, rfl, Below.refl _ _⟩
  case round =>
    obtain ⟨k, hk, rfl, hbel⟩ := hrel
    have HB := hid hbel
    have hsz := hbel.size
    clear hbel
    by_cases hlt : k < E.length
    · rcases H1.out with h0 | ⟨b1, rfl, hb1, hc1⟩
      · omega
      rcases H2.out with h0 | ⟨b2, rfl, hb2, hc2⟩
      · omega
      obtain ⟨d0, x1, y1, d1, hT1⟩ := (hc1 k hlt).below HB.out hb1
      obtain ⟨e0, x2, y2, e1, hT2⟩ := (hc2 k hlt).below HB.out hb2
      have HT1 := hid hT1
      have HT2 := hid hT2
      have hl3 := HL2.out k hlt
      clear hc1 hc2 hT1 hT2
      go_wp2_with fail
      go_region_with (go_at_call 24; refine (eqEvent_any (evAt E k).1 (evAt E k).2 _ rfl x1 x2 y1 y2 hl3 _ HT1.out.drew HT2.out.drew).mono ?_; rintro e w1 ⟨rfl, hb1'⟩; have HB1 : Hid (Below w.heap.size w w1) := HB.out.trans (Below.mono ⟨hb1'.os, hb1'.tape, hb1'.output, hb1'.size, hb1'.block⟩ hsz); clear hb1')
      all_goals
        go_wp2_with fail
        go_roundw
        case rel => exact ⟨k + 1, by omega, by go_num, HB1.out⟩
        case measure => simp [intOf]; omega
    · go_wp2_with fail
      go_ret
      exact ⟨rfl, HB.out⟩
end Go.Proofs.YtbfkbgmkibkbnaaGreatDoor
namespace Go.Proofs.YtbfkbgmkibkbnaaGreatDoor
open Go.RowKit
set_option linter.unusedVariables false
set_option linter.unusedSimpArgs false
def nhTo (S : List ByteArray) (x : ByteArray) (k : Nat) : Bool := (List.range k).any fun i => (txAt S i).toList == x.toList
theorem nhTo_succ (S : List ByteArray) (x : ByteArray) (k : Nat) : nhTo S x (k + 1) = (nhTo S x k || (txAt S k).toList == x.toList) := by
  simp [nhTo, List.range_succ]
theorem nhTo_yes (S : List ByteArray) (x : ByteArray) (k : Nat) (hk : k < S.length) (h : ((txAt S k).toList == x.toList) = true) : nhTo S x S.length = true := by
  simp only [nhTo, List.any_eq_true, List.mem_range]
  exact ⟨k, hk, h⟩
def hasB (t : Int) (S : List ByteArray) (x : ByteArray) : Bool := evB t S && nhTo S x S.length
set_option maxRecDepth 20000 in
set_option maxHeartbeats 1000000 in
theorem specL03Has_any (t : Int) (S : List ByteArray) (x : ByteArray) (n : Nat) (hn : S.length = n) (a : Option Addr) (c : Nat) (hl : n ≤ maxLen) (w : World) (hA : TsAt w a S) :
    Calls Tryz.prog 120 #[.agg #[.int .i64 t, .slice a n c], .string x] w fun e w' => e = .returned (.bool (nhTo S x S.length)) ∧ Below w.heap.size w w' := by
  unfold maxLen at hl
  subst hn
  have HB0 := hid ((Below.refl w.heap.size w).alloc (Nat.le_refl _) (.cells #[.int .i64 t, .slice a S.length c] 41))
  have HA := hid (hA.below HB0.out)
  clear hA
  go_enter Tryz.func120, Tryz.ntmps120
  go_wp2_with fail
  go_loop [5] (fun i => ∃ k : Nat, k ≤ S.length ∧ i = .int .i64 k ∧ nhTo S x k = false) (fun i => S.length - (intOf i).toNat)
  case atStart => exact ⟨0, Nat.zero_le _, rfl, rfl⟩
  case round =>
    obtain ⟨k, hk, rfl, hg⟩ := hrel
    have HG := hid hg
    clear hg
    by_cases hlt : k < S.length
    · have HS1 := hid (nhTo_succ S x k)
      have HY := hid (nhTo_yes S x k hlt)
      rcases HA.out with h0 | ⟨b, rfl, hb, hc⟩
      · omega
      have d0 := hc k hlt
      clear hc
      generalize txAt S k = T at *
      rcases Bool.eq_false_or_eq_true (T.toList == x.toList) with hx | hx
      · go_wp2_with fail
        go_ret
        exact ⟨ret_bool (HY.out hx).symm, HB0.out⟩
      · go_wp2_with fail
        go_round
        case rel => exact ⟨k + 1, by omega, by go_num, by rw [HS1.out, HG.out, hx]; rfl⟩
        case measure => simp [intOf]; omega
    · have hk' : k = S.length := by omega
      subst hk'
      go_wp2_with fail
      go_ret
      exact ⟨ret_bool HG.out.symm, HB0.out⟩
set_option maxRecDepth 20000 in
set_option maxHeartbeats 1000000 in
theorem index_any (S : List ByteArray) (x : ByteArray) (n : Nat) (hn : S.length = n) (a : Option Addr) (c : Nat) (hl : n ≤ maxLen) (w : World) (hA : TsAt w a S) :
    Calls Tryz.prog 160 #[.slice a n c, .string x] w fun e w' => (∃ r : Int, e = .returned (.int .i64 r) ∧ decide (0 ≤ r) = nhTo S x S.length) ∧ w = w' := by
  unfold maxLen at hl
  subst hn
  have HA := hid hA
  clear hA
  go_enter Tryz.func160, Tryz.ntmps160
  go_wp2_with fail
  go_loop [8] (fun i => ∃ k : Nat, k ≤ S.length ∧ i = .int .i64 k ∧ nhTo S x k = false) (fun i => S.length - (intOf i).toNat)
  case atStart => exact ⟨0, Nat.zero_le _, rfl, rfl⟩
  case round =>
    obtain ⟨k, hk, rfl, hg⟩ := hrel
    have HG := hid hg
    clear hg
    by_cases hlt : k < S.length
    · have HS1 := hid (nhTo_succ S x k)
      have HY := hid (nhTo_yes S x k hlt)
      rcases HA.out with h0 | ⟨b, rfl, hb, hc⟩
      · omega
      have d0 := hc k hlt
      clear hc
      generalize txAt S k = T at *
      rcases Bool.eq_false_or_eq_true (T.toList == x.toList) with hx | hx
      · have hx2 : (x.toList == T.toList) = true := by rw [beq_iff_eq] at hx ⊢; exact hx.symm
        have HX := hid hx
        clear hx
        go_wp2_with fail
        go_ret
        exact ⟨⟨k, rfl, by rw [HY.out HX.out]; simp⟩, rfl⟩
      · have hx2 : (x.toList == T.toList) = false := by rw [beq_eq_false_iff_ne] at hx ⊢; exact fun e => hx e.symm
        have HX := hid hx
        clear hx
        go_wp2_with fail
        go_round
        case rel => exact ⟨k + 1, by omega, by go_num, by rw [HS1.out, HG.out, HX.out]; rfl⟩
        case measure => simp [intOf]; omega
    · have hk' : k = S.length := by omega
      subst hk'
      go_wp2_with fail
      go_ret
      exact ⟨⟨-1, rfl, by rw [HG.out]; rfl⟩, rfl⟩
set_option maxRecDepth 20000 in
set_option maxHeartbeats 1000000 in
theorem contains_any (S : List ByteArray) (x : ByteArray) (n : Nat) (hn : S.length = n) (a : Option Addr) (c : Nat) (hl : n ≤ maxLen) (w : World) (hA : TsAt w a S) :
    Calls Tryz.prog 147 #[.slice a n c, .string x] w fun e w' => e = .returned (.bool (nhTo S x S.length)) ∧ w = w' := by
  have HC := hid (index_any S x n hn a c hl w hA)
  clear hn hl hA
  go_enter Tryz.func147, Tryz.ntmps147
  go_wp2_with (go_at_call 160; refine HC.out.mono ?_; rintro e w' ⟨⟨r, rfl, hr⟩, rfl⟩; have HR := hid hr; clear hr)
  go_ret
  exact ⟨ret_bool HR.out, rfl⟩
end Go.Proofs.YtbfkbgmkibkbnaaGreatDoor
namespace Go.Proofs.YtbfkbgmkibkbnaaGreatDoor
open Go.RowKit
set_option linter.unusedVariables false
set_option linter.unusedSimpArgs false
/-- A length of time is in bounds. -/
def gapB (x : Nd) (L : List Evt) (j i : Nat) : Bool := inB x.lo x.hi ((evAt L i).1 - (evAt L j).1)
/-- At some place ahead of k, within the bounds, g is so. -/
def onceTo (x : Nd) (L : List Evt) (i : Nat) (g : Nat → Bool) (k : Nat) : Bool := (List.range k).any fun j => gapB x L j i && g j
def sinceTo (x : Nd) (L : List Evt) (i : Nat) (ga gb : Nat → Bool) : Nat → Bool
  | 0 => false
  | j + 1 => (gapB x L j i && gb j) || (ga j && sinceTo x L i ga gb j)
/-- A node at a place, by those ahead of it. -/
def holdB (f : List Nd) (L : List Evt) (t : Nat → Nat → Bool) (n i : Nat) : Bool :=
  let x := ndAt f n
  if x.k = 1 then true
  else if x.k = 2 then nhTo (evAt L i).2 x.nm (evAt L i).2.length
  else if x.k = 3 then !t x.a.toNat i
  else if x.k = 4 then t x.a.toNat i && t x.b.toNat i
  else if x.k = 5 then t x.a.toNat i || t x.b.toNat i
  else if x.k = 6 then decide (0 < i) && (gapB x L (i - 1) i && t x.a.toNat (i - 1))
  else if x.k = 7 then onceTo x L i (t x.a.toNat) (i + 1)
  else if x.k = 8 then !onceTo x L i (fun j => !t x.a.toNat j) (i + 1)
  else if x.k = 9 then sinceTo x L i (t x.a.toNat) (t x.b.toNat) (i + 1)
  else false
def rowsTo (f : List Nd) (L : List Evt) : Nat → Nat → Nat → Bool
  | 0 => fun _ _ => false
  | k + 1 => fun n i => if n = k then holdB f L (rowsTo f L k) k i else rowsTo f L k n i
/-- Whether a node holds at a place. -/
def hv (f : List Nd) (L : List Evt) (n i : Nat) : Bool := rowsTo f L (n + 1) n i
theorem rowsTo_eq (f : List Nd) (L : List Evt) (n i : Nat) : ∀ k, n < k → rowsTo f L k n i = hv f L n i := by
  intro k
  induction k with
  | zero => intro h; omega
  | succ k ih =>
    intro h
    by_cases e : n = k
    · subst e; rfl
    · show (if n = k then _ else rowsTo f L k n i) = _
      rw [if_neg e]
      exact ih (by omega)
theorem onceTo_congr (x : Nd) (L : List Evt) (i : Nat) (g g' : Nat → Bool) (h : ∀ j, g j = g' j) (k : Nat) : onceTo x L i g k = onceTo x L i g' k := by
  have : g = g' := funext h
  rw [this]
theorem holdB_congr (f : List Nd) (L : List Evt) (t t' : Nat → Nat → Bool) (n i : Nat) (ha : 0 < armsN (ndAt f n).k → ∀ j, t (ndAt f n).a.toNat j = t' (ndAt f n).a.toNat j) (hb : 1 < armsN (ndAt f n).k → ∀ j, t (ndAt f n).b.toNat j = t' (ndAt f n).b.toNat j) : holdB f L t n i = holdB f L t' n i := by
  unfold holdB
  generalize ndAt f n = x at *
  simp only
  by_cases h1 : x.k = 1
  · rw [if_pos h1, if_pos h1]
  rw [if_neg h1, if_neg h1]
  by_cases h2 : x.k = 2
  · rw [if_pos h2, if_pos h2]
  rw [if_neg h2, if_neg h2]
  by_cases h3 : x.k = 3
  · rw [if_pos h3, if_pos h3, ha (by simp [armsN, h3])]
  rw [if_neg h3, if_neg h3]
  by_cases h4 : x.k = 4
  · rw [if_pos h4, if_pos h4, ha (by simp [armsN, h4]), hb (by simp [armsN, h4])]
  rw [if_neg h4, if_neg h4]
  by_cases h5 : x.k = 5
  · rw [if_pos h5, if_pos h5, ha (by simp [armsN, h5]), hb (by simp [armsN, h5])]
  rw [if_neg h5, if_neg h5]
  by_cases h6 : x.k = 6
  · rw [if_pos h6, if_pos h6, ha (by simp [armsN, h6])]
  rw [if_neg h6, if_neg h6]
  by_cases h7 : x.k = 7
  · rw [if_pos h7, if_pos h7, (funext (ha (by simp [armsN, h7])) : t x.a.toNat = t' x.a.toNat)]
  rw [if_neg h7, if_neg h7]
  by_cases h8 : x.k = 8
  · rw [if_pos h8, if_pos h8, (funext (ha (by simp [armsN, h8])) : t x.a.toNat = t' x.a.toNat)]
  rw [if_neg h8, if_neg h8]
  by_cases h9 : x.k = 9
  · rw [if_pos h9, if_pos h9, (funext (ha (by simp [armsN, h9])) : t x.a.toNat = t' x.a.toNat), (funext (hb (by simp [armsN, h9])) : t x.b.toNat = t' x.b.toNat)]
  rw [if_neg h9, if_neg h9]
theorem hv_eq (f : List Nd) (L : List Evt) (n i : Nat) (hd : armsOk (ndAt f n) n) : hv f L n i = holdB f L (hv f L) n i := by
  show (if n = n then holdB f L (rowsTo f L n) n i else _) = _
  rw [if_pos rfl]
  refine holdB_congr f L _ _ n i (fun h j => rowsTo_eq f L _ j n ?_) (fun h j => rowsTo_eq f L _ j n ?_)
  · have := hd.1 h; omega
  · have := hd.2 h; omega
theorem onceTo_yes (x : Nd) (L : List Evt) (i : Nat) (g : Nat → Bool) (k j : Nat) (hj : j < k) (h1 : gapB x L j i = true) (h2 : g j = true) : onceTo x L i g k = true := by
  simp only [onceTo, List.any_eq_true, List.mem_range]
  exact ⟨j, hj, by simp [h1, h2]⟩
theorem onceTo_no (x : Nd) (L : List Evt) (i : Nat) (g : Nat → Bool) (k : Nat) (h : ∀ j, j < k → (gapB x L j i && g j) = false) : onceTo x L i g k = false := by
  simp only [onceTo, List.any_eq_false, List.mem_range]
  intro j hj
  simp [h j hj]
/-- How many of the first n are so. -/
def cntTo (G : Nat → Bool) : Nat → Nat
  | 0 => 0
  | n + 1 => cntTo G n + (if G n then 1 else 0)
theorem cntTo_le (G : Nat → Bool) : ∀ n, cntTo G n ≤ n
  | 0 => Nat.le_refl _
  | n + 1 => by
    have := cntTo_le G n
    unfold cntTo
    split <;> omega
theorem cntTo_put (G : Nat → Bool) (p : Nat) (hp : G p = false) : ∀ n, cntTo (fun q => if q = p then true else G q) n = cntTo G n + (if p < n then 1 else 0)
  | 0 => by simp [cntTo]
  | n + 1 => by
    unfold cntTo
    rw [cntTo_put G p hp n]
    by_cases e : n = p
    · subst e
      simp [hp]
    · simp only [e, if_false]
      by_cases h : p < n
      · have h' : p < n + 1 := by omega
        simp only [h, h', if_true]
        omega
      · have h' : ¬ p < n + 1 := by omega
        simp only [h, h', if_false]
        omega
end Go.Proofs.YtbfkbgmkibkbnaaGreatDoor
