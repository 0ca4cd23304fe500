/-
  One node: the program's nodeRight, what its walks share.
  The laws' own helpers over rows of nodes, by their contracts: szNode, szNodeS, toNode, toNodeS, eqNode, eqNodeS.
  toNodeS and eqNodeS by their contracts.
  The model's l04Table, HoldsAt, Holds, Verdicts by their contracts.
  The model's HoldsAt, Holds, Verdicts by their contracts.
  The laws' marks over rows of events: markStringS, heldStringS from any mark on; markEventS, heldEventS; by their contracts.
  The laws' marks over rows of bools: eqBoolS, markBoolS, heldBoolS; the program's Verdicts; by their contracts.
  The laws' own helpers over rows of numbers: szInt64S, toInt64S, eqInt64S, markInt64S, heldInt64S, by their contracts.
  Keeps: the laws' helpers (szKeep, toKeep, eqKeep, markKeep, heldKeep), KeepRight and KeepMost, the model's and the program's, by their contracts.
  KeepRight and KeepMost, the model's and the program's, by one contract.
-/
import Derived.Test.YtbfkbgmkibkbnaaGreatDoorPa07
import Derived.Test.YtbfkbgmkibkbnaaGreatDoorPa00
import Derived.Test.YtbfkbgmkibkbnaaGreatDoorPa04
import Derived.Deep.OwnRows
import Derived.Test.YtbfkbgmkibkbnaaGreatDoorPa02
import Derived.Test.YtbfkbgmkibkbnaaGreatDoorPa03
import Derived.BigQuiet
import Derived.Test.YtbfkbgmkibkbnaaGreatDoorPa06
import Derived.Deep.QuietTactic
namespace Go.Proofs.YtbfkbgmkibkbnaaGreatDoor
open Go.RowKit
set_option linter.unusedVariables false
set_option linter.unusedSimpArgs false
theorem box_node (w : World) (x : Nd) (t : TypeId) : NodeAt (w.alloc (.cells #[.int .i64 x.k, .int .i64 x.a, .int .i64 x.b, .int .i64 x.lo, .int .i64 x.hi, .string x.nm] t)) w.heap.size 0 x :=
  ⟨by simp [go_sem], by simp [go_sem], by simp [go_sem], by simp [go_sem], by simp [go_sem], by simp [go_sem]⟩
theorem NodeAt.zero {w : World} {b : Nat} {k a b' lo hi : Int} {nm : ByteArray} (h : NodeAt w b 0 (k, a, b', lo, hi, nm)) : w.cell? ⟨b, 0, none⟩ = some (.int .i64 k) ∧ w.cell? ⟨b, 1, none⟩ = some (.int .i64 a) ∧ w.cell? ⟨b, 2, none⟩ = some (.int .i64 b') ∧ w.cell? ⟨b, 3, none⟩ = some (.int .i64 lo) ∧ w.cell? ⟨b, 4, none⟩ = some (.int .i64 hi) ∧ w.cell? ⟨b, 5, none⟩ = some (.string nm) :=
  ⟨h.c0, by have := h.c1; simp only [Nat.zero_add] at this; exact this, by have := h.c2; simp only [Nat.zero_add] at this; exact this, by have := h.c3; simp only [Nat.zero_add] at this; exact this, by have := h.c4; simp only [Nat.zero_add] at this; exact this, by have := h.c5; simp only [Nat.zero_add] at this; exact this⟩
end Go.Proofs.YtbfkbgmkibkbnaaGreatDoor
namespace Go.Proofs.YtbfkbgmkibkbnaaGreatDoor
open Go.RowKit
set_option linter.unusedVariables false
set_option linter.unusedSimpArgs false
/-- A row of nodes that came in: it may begin within a block. -/
def ArgN (w : World) (a : Option Addr) (f : List Nd) : Prop := f.length = 0 ∨ ∃ b off, a = some ⟨b, off, none⟩ ∧ b < w.heap.size ∧ ∀ i, i < f.length → NodeAt w b (off + i * 6) (ndAt f i)
theorem ArgN.below {w w' : World} {a : Option Addr} {f : List Nd} {B : Nat} (h : ArgN w a f) (hb : Below B w w') (hB : w.heap.size ≤ B) : ArgN w' a f := by
  rcases h with h | ⟨b, off, e, hlt, hc⟩
  · exact Or.inl h
  · exact Or.inr ⟨b, off, e, Nat.lt_of_lt_of_le hlt hb.size, fun i hi => (hc i hi).below hb (by omega)⟩
set_option maxHeartbeats 400000 in
theorem szNode_any (x : Nd) (hs : x.nm.size ≤ maxLen) (left : Int) (h1 : 0 ≤ left) (h2 : left ≤ 1048576) (w : World) :
    Calls Tryz.prog 72 #[ndV x, .int .i64 left] w fun e w' => ∃ r : Int, e = .returned (.int .i64 r) ∧ -1 ≤ r ∧ r ≤ 1048576 ∧ (0 ≤ r → x.nm.size ≤ 1048576) ∧ Below w.heap.size w w' := by
  unfold maxLen at hs
  unfold ndV
  by_cases h : left - (x.nm.size : Int) < 0
  · go_enter Tryz.func72, Tryz.ntmps72
    go_wp2
    go_ret
    exact ⟨-1, rfl, by omega, by omega, by omega, (Below.refl _ _).alloc (Nat.le_refl _) _⟩
  · go_enter Tryz.func72, Tryz.ntmps72
    go_wp2
    go_ret
    exact ⟨left - x.nm.size, rfl, by omega, by omega, by omega, (Below.refl _ _).alloc (Nat.le_refl _) _⟩
set_option maxRecDepth 20000 in
set_option maxHeartbeats 1000000 in
theorem szNodeS_any (f : List Nd) (a : Option Addr) (cap : Nat) (hs : ∀ i, i < f.length → (ndAt f i).nm.size ≤ maxLen) (hl : f.length ≤ maxLen) (w : World) (hA : ArgN w a f) :
    Calls Tryz.prog 29 #[.slice a f.length cap, .int .i64 1048576] w fun e w' => ∃ r : Int, e = .returned (.int .i64 r) ∧ (0 ≤ r → f.length ≤ 1048576 ∧ ∀ i, i < f.length → (ndAt f i).nm.size ≤ 1048576) ∧ Below w.heap.size w w' := by
  unfold maxLen at hl
  have HS := hid hs
  have HA := hid hA
  clear hs hA
  by_cases h : 1048576 < f.length
  · have h' : (1048576 : Int) - (f.length : Int) < 0 := by omega
    go_enter Tryz.func29, Tryz.ntmps29
    go_wp2
    go_ret
    exact ⟨-1, rfl, by omega, Below.refl _ _⟩
  have h' : ¬ (1048576 : Int) - (f.length : Int) < 0 := by omega
  go_enter Tryz.func29, Tryz.ntmps29
  go_wp2_with fail
  go_loopw [1, 5] (fun l t wr => ∃ (k : Nat) (r : Int), k ≤ f.length ∧ t = .int .i64 k ∧ l = .int .i64 r ∧ 0 ≤ r ∧ r ≤ 1048576 ∧ (∀ i, i < k → (ndAt f i).nm.size ≤ 1048576) ∧ Below w.heap.size w wr) (fun _ t _ => f.length - (intOf t).toNat)
  case atStart => exact ⟨0, _, Nat.zero_le _, rfl, rfl, by omega, by omega, fun i h => by omega, Below.refl _ _⟩
  case round =>
    obtain ⟨k, r, hk, rfl, rfl, hr1, hr2, hsz, hbel⟩ := hrel
    have HZ := hid hsz
    have HB := hid hbel
    clear hsz hbel
    by_cases hlt : k < f.length
    · rcases HA.out with h0 | ⟨b, off, rfl, hb, hc⟩
      · omega
      · obtain ⟨c0, c1, c2, c3, c4, c5⟩ := (hc k hlt).below HB.out hb
        clear hc
        have HX := hid (HS.out k hlt)
        have HC := hid (fun w => szNode_any (ndAt f k) HX.out r hr1 hr2 w)
        clear h'
        go_wp2_with (go_at_call 72; refine (HC.out _).mono ?_; rintro e w1 ⟨r', rfl, q1, q2, q3, hb1⟩; have HB1 : Hid (Below w.heap.size w w1) := HB.out.trans (hb1.mono HB.out.size); have HQ := hid q3; clear q3 hb1)
        · go_ret
          exact ⟨-1, rfl, by omega, HB1.out⟩
        · go_roundw
          case rel => exact ⟨k + 1, r', by omega, by go_num, rfl, by omega, q2, fun i hi => by
            by_cases e : i = k
            · subst e; exact HQ.out (by omega)
            · exact HZ.out i (by omega), HB1.out⟩
          case measure => simp [intOf]; omega
    · go_wp2_with fail
      go_ret
      exact ⟨r, rfl, fun _ => ⟨by omega, fun i hi => HZ.out i (by omega)⟩, HB.out⟩
set_option maxRecDepth 20000 in
set_option maxHeartbeats 1000000 in
theorem toNode_any (x : Nd) (w : World) :
    Calls Tryz.prog 74 #[ndV x] w fun e w' => e = .returned (ndV x) ∧ Below w.heap.size w w' := by
  unfold ndV
  go_enter Tryz.func74, Tryz.ntmps74
  go_wp2
  exact bodyPost_ret (v := ndV x) (by simp [results, Tryz.results74, go_sem, ndV]) rfl ⟨rfl, ((((Below.refl _ _).alloc (Nat.le_refl _) _).alloc (by simp) _).alloc (by simp; omega) _)⟩
set_option maxHeartbeats 1000000 in
theorem eqNode_same (x : Nd) (w : World) :
    Calls Tryz.prog 75 #[ndV x, ndV x] w fun e w' => e = .returned (.bool true) ∧ Below w.heap.size w w' := by
  unfold ndV
  have hn : (x.nm.toList == x.nm.toList) = true := by simp
  go_enter Tryz.func75, Tryz.ntmps75
  go_wp2
  go_ret
  exact ⟨rfl, ((Below.refl _ _).alloc (Nat.le_refl _) _).alloc (by simp) _⟩
end Go.Proofs.YtbfkbgmkibkbnaaGreatDoor
namespace Go.Proofs.YtbfkbgmkibkbnaaGreatDoor
open Go.RowKit
set_option linter.unusedVariables false
set_option linter.unusedSimpArgs false
/-- Cell j of a row of nodes of which the first k are laid. -/
def rowF (f : List Nd) (z : Nat → Value) (k j : Nat) : Value := if j < k * 6 then (ndCells (ndAt f (j / 6))).getD (j % 6) undef else z j
theorem rowF_step (f : List Nd) (z : Nat → Value) (k j : Nat) : rowF f z (k + 1) j =
    (if j = k * 6 + 5 then .string (ndAt f k).nm else if j = k * 6 + 4 then .int .i64 (ndAt f k).hi else if j = k * 6 + 3 then .int .i64 (ndAt f k).lo else if j = k * 6 + 2 then .int .i64 (ndAt f k).b else if j = k * 6 + 1 then .int .i64 (ndAt f k).a else if j = k * 6 then .int .i64 (ndAt f k).k else rowF f z k j) := by
  unfold rowF
  by_cases h : j < k * 6
  · have e5 : ¬ j = k * 6 + 5 := by omega
    have e4 : ¬ j = k * 6 + 4 := by omega
    have e3 : ¬ j = k * 6 + 3 := by omega
    have e2 : ¬ j = k * 6 + 2 := by omega
    have e1 : ¬ j = k * 6 + 1 := by omega
    have e0 : ¬ j = k * 6 := by omega
    have h' : j < (k + 1) * 6 := by omega
    simp only [e5, e4, e3, e2, e1, e0, h, h', if_true, if_false]
  · by_cases h' : j < (k + 1) * 6
    · have hj : j = k * 6 ∨ j = k * 6 + 1 ∨ j = k * 6 + 2 ∨ j = k * 6 + 3 ∨ j = k * 6 + 4 ∨ j = k * 6 + 5 := by omega
      have hd : j / 6 = k := by omega
      rcases hj with e | e | e | e | e | e
      all_goals
        have hm : j % 6 = j - k * 6 := by omega
        rw [if_pos h', hd, hm, e]
        simp [ndCells]
    · have e5 : ¬ j = k * 6 + 5 := by omega
      have e4 : ¬ j = k * 6 + 4 := by omega
      have e3 : ¬ j = k * 6 + 3 := by omega
      have e2 : ¬ j = k * 6 + 2 := by omega
      have e1 : ¬ j = k * 6 + 1 := by omega
      have e0 : ¬ j = k * 6 := by omega
      simp only [e5, e4, e3, e2, e1, e0, h, h', if_false]
theorem row_nodes {w : World} {b : Nat} {f : List Nd} {z : Nat → Value} (h : w.rowIs b 81 (f.length * 6) (rowF f z f.length)) : NodesAt w b f := by
  refine ⟨h.lt, fun i hi => ?_⟩
  have key : ∀ r, r < 6 → w.cell? ⟨b, i * 6 + r, none⟩ = some ((ndCells (ndAt f i)).getD r undef) := by
    intro r hr
    rw [h.cell (by omega)]
    unfold rowF
    rw [if_pos (by omega), show (i * 6 + r) / 6 = i by omega, show (i * 6 + r) % 6 = r by omega]
  exact ⟨key 0 (by decide), key 1 (by decide), key 2 (by decide), key 3 (by decide), key 4 (by decide), key 5 (by decide)⟩
theorem store_six {w : World} {b n k : Nat} {f : List Nd} {z : Nat → Value} (h : w.rowIs b 81 n (rowF f z k)) :
    ((((((w.setCell ⟨b, k * 6, none⟩ (.int .i64 (ndAt f k).k)).setCell ⟨b, k * 6 + 1, none⟩ (.int .i64 (ndAt f k).a)).setCell ⟨b, k * 6 + 2, none⟩ (.int .i64 (ndAt f k).b)).setCell ⟨b, k * 6 + 3, none⟩ (.int .i64 (ndAt f k).lo)).setCell ⟨b, k * 6 + 4, none⟩ (.int .i64 (ndAt f k).hi)).setCell ⟨b, k * 6 + 5, none⟩ (.string (ndAt f k).nm)).rowIs b 81 n (rowF f z (k + 1)) :=
  ((((((h.set (k * 6) _).set (k * 6 + 1) _).set (k * 6 + 2) _).set (k * 6 + 3) _).set (k * 6 + 4) _).set (k * 6 + 5) _).congr (fun j hj => (rowF_step f z k j).symm)
theorem run_makeN (n : Nat) (hn : n ≤ 1048576) : ∃ zc, ∀ w : World, Sem.run Tryz.prog (Instr.makeSlice 23 (.int .i64 n) (.int .i64 n)) w = .ok (.slice (some ⟨w.heap.size, 0, none⟩) n n) (w.alloc (.cells (madeCells zc (n * 6)) 81)) := by
  obtain ⟨i0, hi, hz0, hz1, hz2⟩ := info_parts Tryz.infoN
  refine ⟨(Value.agg #[.int .i64 0, .int .i64 0, .int .i64 0, .int .i64 0, .int .i64 0, .string ⟨#[]⟩]).cells, fun w => ?_⟩
  have h := run_make (P := Tryz.prog) w 23 81 i0 _ Tryz.uNs hi hz0 .i64 .i64 n n (by omega) (Int.le_refl _) (by rw [hz2]; omega) (by omega)
  rw [hz1] at h
  simpa using h
set_option maxRecDepth 20000 in
set_option maxHeartbeats 1000000 in
theorem toNodeS_any (f : List Nd) (a : Option Addr) (cap : Nat) (hl : f.length ≤ 1048576) (w : World) (hA : ArgN w a f) :
    Calls Tryz.prog 32 #[.slice a f.length cap] w fun e w' => ∃ b, e = .returned (.slice (some ⟨b, 0, none⟩) f.length f.length) ∧ w.heap.size ≤ b ∧ NodesAt w' b f ∧ (∀ j, w'.frozen? ⟨b, j, none⟩ = false) ∧ Below w.heap.size w w' := by
  obtain ⟨zc, hmk⟩ := run_makeN f.length hl
  have HA := hid hA
  clear hA
  have hr0 : Hid (∃ z, (w.alloc (.cells (madeCells zc (f.length * 6)) 81)).rowIs w.heap.size 81 (f.length * 6) (rowF f z 0)) := by
    refine ⟨fun j => (madeCells zc (f.length * 6)).getD j undef, ?_⟩
    have := World.rowIs_alloc w (madeCells zc (f.length * 6)) 81 (rowF f (fun j => (madeCells zc (f.length * 6)).getD j undef) 0) (fun i hi => by simp [rowF, hi])
    rwa [size_madeCells] at this
  obtain ⟨z, hr0⟩ := hr0.out
  have HR0 := hid hr0
  clear hr0
  go_enter Tryz.func32, Tryz.ntmps32
  go_wp2_with fail
  go_loopw [4] (fun t wr => ∃ k : Nat, k ≤ f.length ∧ t = .int .i64 k ∧ wr.rowIs w.heap.size 81 (f.length * 6) (rowF f z k) ∧ Below w.heap.size w wr) (fun t _ => f.length - (intOf t).toNat)
  case atStart => exact ⟨0, Nat.zero_le _, rfl, HR0.out, (Below.refl _ _).alloc (Nat.le_refl _) _⟩
  case round =>
    clear HR0 hmk
    obtain ⟨k, hk, rfl, hrow, hbel⟩ := hrel
    have HB := hid hbel
    have HRow := hid hrow
    have hsz := hrow.lt
    clear hrow hbel
    by_cases hlt : k < f.length
    · rcases HA.out with h0 | ⟨b, off, rfl, hb, hc⟩
      · omega
      · obtain ⟨c0, c1, c2, c3, c4, c5⟩ := (hc k hlt).below HB.out hb
        clear hc
        go_wp2_with (go_at_call 74; refine (toNode_any (ndAt f k) _).mono ?_; rintro e w1 ⟨rfl, hb1⟩; have HB1 := hid hb1; have HR1 := hid (HRow.out.of_block (hb1.block _ hsz)); have d0 := HR1.out.cell (i := k * 6) (by omega); have d1 := HR1.out.cell (i := k * 6 + 1) (by omega); have d2 := HR1.out.cell (i := k * 6 + 2) (by omega); have d3 := HR1.out.cell (i := k * 6 + 3) (by omega); have d4 := HR1.out.cell (i := k * 6 + 4) (by omega); have d5 := HR1.out.cell (i := k * 6 + 5) (by omega); have f0 := HR1.out.frozen (k * 6); have f1 := HR1.out.frozen (k * 6 + 1); have f2 := HR1.out.frozen (k * 6 + 2); have f3 := HR1.out.frozen (k * 6 + 3); have f4 := HR1.out.frozen (k * 6 + 4); have f5 := HR1.out.frozen (k * 6 + 5); unfold ndV; clear hb1)
        go_roundw
        case rel => exact ⟨k + 1, by omega, by go_num, store_six HR1.out, ((((((HB.out.trans (HB1.out.mono HB.out.size)).setCell (Nat.le_refl _) _).setCell (Nat.le_refl _) _).setCell (Nat.le_refl _) _).setCell (Nat.le_refl _) _).setCell (Nat.le_refl _) _).setCell (Nat.le_refl _) _⟩
        case measure => simp [intOf]; omega
    · have hk' : k = f.length := by omega
      subst hk'
      go_wp2_with fail
      go_ret
      exact ⟨w.heap.size, rfl, Nat.le_refl _, row_nodes HRow.out, fun j => HRow.out.frozen j, HB.out⟩
set_option maxRecDepth 20000 in
set_option maxHeartbeats 2000000 in
theorem eqNodeS_same (f : List Nd) (b1 b2 c1 c2 : Nat) (hl : f.length ≤ 1048576) (w : World) (h1 : NodesAt w b1 f) (h2 : NodesAt w b2 f) :
    Calls Tryz.prog 35 #[.slice (some ⟨b1, 0, none⟩) f.length c1, .slice (some ⟨b2, 0, none⟩) f.length c2] w fun e w' => e = .returned (.bool true) ∧ Below w.heap.size w w' := by
  have H1 := hid h1
  have H2 := hid h2
  clear h1 h2
  go_enter Tryz.func35, Tryz.ntmps35
  go_wp2_with fail
  go_loopw [5] (fun t wr => ∃ k : Nat, k ≤ f.length ∧ t = .int .i64 k ∧ Below w.heap.size w wr) (fun t _ => f.length - (intOf t).toNat)
  case atStart => exact ⟨0, Nat.zero_le _, rfl, Below.refl _ _⟩
  case round =>
    obtain ⟨k, hk, rfl, hbel⟩ := hrel
    have HB := hid hbel
    have hsz := hbel.size
    clear hbel
    by_cases hlt : k < f.length
    · obtain ⟨d0, d1, d2, d3, d4, d5⟩ := (H1.out.2 k hlt).below HB.out H1.out.1
      obtain ⟨e0, e1, e2, e3, e4, e5⟩ := (H2.out.2 k hlt).below HB.out H2.out.1
      go_wp2_with fail
      go_region_with (go_at_call 75; refine (eqNode_same (ndAt f k) _).mono ?_; rintro e w1 ⟨rfl, hb1⟩; have HB1 : Hid (Below w.heap.size w w1) := HB.out.trans (Below.mono ⟨hb1.os, hb1.tape, hb1.output, hb1.size, hb1.block⟩ hsz); clear hb1)
      all_goals
        go_wp2_with fail
        go_roundw
        case rel => exact ⟨k + 1, by omega, by go_num, HB1.out⟩
        case measure => simp [intOf]; omega
    · go_wp2_with fail
      go_ret
      exact ⟨rfl, HB.out⟩
end Go.Proofs.YtbfkbgmkibkbnaaGreatDoor
namespace Go.Proofs.YtbfkbgmkibkbnaaGreatDoor
open Go.RowKit
set_option linter.unusedVariables false
set_option linter.unusedSimpArgs false
theorem rightB_parts (f : List Nd) (h : rightB f = true) : 1 ≤ f.length ∧ f.length ≤ 24 ∧ ∀ i, i < f.length → armsOk (ndAt f i) i ∧ 1 ≤ (ndAt f i).k ∧ (ndAt f i).k ≤ 9 := by
  simp only [rightB, Bool.and_eq_true, decide_eq_true_eq] at h
  refine ⟨h.1.1, h.1.2, fun i hi => ?_⟩
  have hg := (goodTo_at f i f.length hi h.2.1).1
  refine ⟨nodeB_arms _ _ hg, ?_⟩
  simp only [nodeB, Bool.and_eq_true, isB, decide_eq_true_eq] at hg
  exact hg.1
theorem trB_parts (L : List Evt) (h : trB L = true) : L.length ≤ 60 ∧ ∀ j, j < L.length → (0 ≤ (evAt L j).1 ∧ (evAt L j).1 ≤ 1000000) ∧ (evAt L j).2.length ≤ maxLen := by
  simp only [trB, Bool.and_eq_true, decide_eq_true_eq] at h
  refine ⟨h.1, fun j hj => ?_⟩
  have he := (trTo_ev L j _ hj h.2).1
  refine ⟨evR_time _ he, ?_⟩
  simp only [evR, evB, namesB, Bool.and_eq_true, decide_eq_true_eq] at he
  have := he.2.1
  unfold maxLen
  omega
/-- A table that is being made: k rows, each in a block of its own. -/
structure TabOwn (w : World) (base : Nat) (v : Value) (k len : Nat) (T : Nat → Nat → Bool) (R : Nat → Nat) : Prop where
  own : w.ownsRow base 27 1 v k ((List.range k).map fun m => .slice (some ⟨R m, 0, none⟩) len len)
  rows : ∀ m, m < k → w.rowIs (R m) 4 len (fun j => .bool (T m j))
  low : ∀ m, m < k → base ≤ R m
  apart : ∀ m, m < k → v.ownBlock ≠ some (R m)
theorem ownsRow_below {w w' : World} {base : Nat} {e : TypeId} {size : Nat} {v : Value} {n : Nat} {xs : List Value} (h : w.ownsRow base e size v n xs) (hb : Below w.heap.size w w') : w'.ownsRow base e size v n xs :=
  ⟨h.1, h.2.imp id (fun ⟨g, cap, cur, a, b, c, d⟩ => ⟨g, cap, cur, a, b, (hb.block g (Array.getElem?_eq_some_iff.1 c).1).trans c, d⟩)⟩
theorem TabOwn.below {w w' : World} {base : Nat} {v : Value} {k len : Nat} {T : Nat → Nat → Bool} {R : Nat → Nat} (h : TabOwn w base v k len T R) (hb : Below w.heap.size w w') : TabOwn w' base v k len T R :=
  ⟨ownsRow_below h.own hb, fun m hm => (h.rows m hm).of_block (hb.block _ (h.rows m hm).lt), h.low, h.apart⟩
theorem TabOwn.form {w : World} {base : Nat} {v : Value} {k len : Nat} {T : Nat → Nat → Bool} {R : Nat → Nat} (h : TabOwn w base v k len T R) : ∃ a c, v = .slice a k c ∧ TabAt w a k len T ∧ ∀ b, a = some ⟨b, 0, none⟩ → base ≤ b := by
  rcases h.own.2 with ⟨hv, h0⟩ | ⟨g, cap, cur, hv, hb, hg, _⟩
  · exact ⟨none, 0, by rw [hv, h0], Or.inl h0, fun b e => by cases e⟩
  · refine ⟨some ⟨g, 0, none⟩, cap, hv, Or.inr ⟨g, rfl, (Array.getElem?_eq_some_iff.1 hg).1, fun m hm => ⟨R m, len, ?_, (h.rows m hm).lt, fun j hj => (h.rows m hm).cell hj⟩⟩, fun b e => by injection e with e; injection e with e; omega⟩
    have h1 := World.ownsRow.cells h.own (g := g) (by rw [hv]; rfl) m (.slice (some ⟨R m, 0, none⟩) len len) (by simp [hm])
    rw [Addr.add_lit] at h1
    simpa using h1
theorem heap_new (w : World) (o : Obj) : (w.alloc o).heap[w.heap.size]? = some o := by
  show (w.heap.push o)[w.heap.size]? = some o
  simp
theorem tab_made (w : World) (base : Nat) (h : base ≤ w.heap.size) (len : Nat) (T : Nat → Nat → Bool) : TabOwn (w.alloc (.cells #[] 27)) base (.slice (some ⟨w.heap.size, 0, none⟩) 0 0) 0 len T (fun _ => 0) :=
  ⟨⟨rfl, Or.inr ⟨w.heap.size, 0, #[], rfl, h, heap_new w _, Nat.le_refl _, by unfold maxLen; omega, rfl, rfl⟩⟩, fun m h => by omega, fun m h => by omega, fun m h => by omega⟩
theorem Tryz.infoBs : (Tryz.prog.info? 27).map (fun i => (i.zero, i.size, i.bytes)) = some (some (.slice none 0 0), 1, 24) := by kernel_rfl
theorem Tryz.uBss : Tryz.prog.underlying 77 = some (.slice 27) := by kernel_rfl
theorem Tryz.uBs : Tryz.prog.underlying 27 = some (.slice 4) := by kernel_rfl
theorem Tryz.infoB : (Tryz.prog.info? 4).map (fun i => (i.zero, i.size, i.bytes)) = some (some (.bool false), 1, 1) := by kernel_rfl
def rowB (g : Nat → Bool) (k j : Nat) : Value := if j < k then .bool (g j) else .bool false
theorem rowB_step (g : Nat → Bool) (k j : Nat) : rowB g (k + 1) j = if j = k then .bool (g k) else rowB g k j := by
  unfold rowB
  by_cases e : j = k
  · subst e; simp
  · by_cases h : j < k
    · rw [if_pos (by omega), if_neg e, if_pos h]
    · rw [if_neg (by omega), if_neg e, if_neg h]
/-- What a table is asked for. -/
structure TabIn (w : World) (f : List Nd) (L : List Evt) (fb eb : Nat) : Prop where
  nodes : NodesAt w fb f
  evs : EvsAt w eb L
  hf : rightB f = true
  hl : trB L = true
theorem TabIn.below {w w' : World} {f : List Nd} {L : List Evt} {fb eb : Nat} (h : TabIn w f L fb eb) (hb : Below w.heap.size w w') : TabIn w' f L fb eb := ⟨h.nodes.below hb h.nodes.1, h.evs.below hb, h.hf, h.hl⟩
theorem TabIn.hold {w : World} {f : List Nd} {L : List Evt} {fb eb n i : Nat} {ta : Option Addr} (h : TabIn w f L fb eb) (hn : n < f.length) (hi : i < L.length) (ht : TabAt w ta n L.length (hv f L)) : HoldIn w f L n i fb eb ta := by
  obtain ⟨h1, h2, h3⟩ := rightB_parts f h.hf
  obtain ⟨h4, h5⟩ := trB_parts L h.hl
  exact ⟨h.nodes, h.evs, ht, hn, hi, h2, h4, (h3 n hn).1, fun j hj => (h5 j hj).1, fun j hj => (h5 j hj).2⟩
/-- The table that was made, and one row more. -/
theorem TabOwn.snoc {w1 w2 : World} {base : Nat} {v v' : Value} {k len rb : Nat} {T : Nat → Nat → Bool} {R : Nat → Nat} (h : TabOwn w1 base v k len T R) (hrow : w1.rowIs rb 4 len (fun j => .bool (T k j))) (hb : base ≤ rb) (hrv : v.ownBlock ≠ some rb) (o : Obj)
    (hown : w2.ownsRow base 27 1 v' (k + 1) (((List.range k).map fun m => Value.slice (some ⟨R m, 0, none⟩) len len) ++ [.slice (some ⟨rb, 0, none⟩) len len])) (hg : (w1.alloc o).grownBy w2 v.ownBlock) (hat : v'.ownBlock = v.ownBlock ∨ v'.ownBlock = some (w1.alloc o).heap.size) : TabOwn w2 base v' (k + 1) len T (fun m => if m = k then rb else R m) := by
  have keep : ∀ g z, w1.rowIs g 4 len z → v.ownBlock ≠ some g → w2.rowIs g 4 len z := fun g z hr hne => by
    have h1 : (w1.alloc o).rowIs g 4 len z := hr.of_block (((Below.refl w1.heap.size w1).alloc (Nat.le_refl _) o).block g hr.lt)
    exact h1.of_block (hg.block g h1.lt (fun e => hne e.symm))
  refine ⟨?_, fun m hm => ?_, fun m hm => ?_, fun m hm => ?_⟩
  · have e : ((List.range (k + 1)).map fun m => Value.slice (some ⟨(fun m => if m = k then rb else R m) m, 0, none⟩) len len) = ((List.range k).map fun m => Value.slice (some ⟨R m, 0, none⟩) len len) ++ [.slice (some ⟨rb, 0, none⟩) len len] := by
      rw [List.range_succ, List.map_append]
      congr 1
      · apply List.map_congr_left
        intro m hm
        have : m ≠ k := by have := List.mem_range.1 hm; omega
        simp [this]
      · simp
    rw [e]
    exact hown
  · by_cases e : m = k
    · subst e; simp only [if_true]; exact keep rb _ hrow hrv
    · simp only [e, if_false]; exact keep _ _ (h.rows m (by omega)) (h.apart m (by omega))
  · by_cases e : m = k
    · simp only [e, if_true]; exact hb
    · simp only [e, if_false]; exact h.low m (by omega)
  · intro e'
    have hlt : (if m = k then rb else R m) < w1.heap.size := by
      by_cases e : m = k
      · simp only [e, if_true]; exact hrow.lt
      · simp only [e, if_false]; exact (h.rows m (by omega)).lt
    rcases hat with h1 | h1
    · rw [h1] at e'
      by_cases e : m = k
      · simp only [e, if_true] at e'; exact hrv e'
      · simp only [e, if_false] at e'; exact h.apart m (by omega) e'
    · rw [h1] at e'
      injection e' with e'
      simp at e'
      omega
set_option maxRecDepth 20000 in
set_option maxHeartbeats 2000000 in
theorem specTable_any (f : List Nd) (L : List Evt) (fb eb fc ec : Nat) (w : World) (h : TabIn w f L fb eb) :
    Calls Tryz.prog 46 #[.slice (some ⟨fb, 0, none⟩) f.length fc, .slice (some ⟨eb, 0, none⟩) L.length ec] w fun e w' => ∃ v R, e = .returned v ∧ TabOwn w' w.heap.size v f.length L.length (hv f L) R ∧ Below w.heap.size w w' := by
  obtain ⟨hf1, hf2, hf3⟩ := rightB_parts f h.hf
  obtain ⟨hl1, hl2⟩ := trB_parts L h.hl
  have HF := hid hf3
  have H := hid h
  clear h hf3 hl2
  obtain ⟨i0, hi, hz0, hz1, hz2⟩ := info_parts Tryz.infoBs
  have HT0 := hid (tab_made w w.heap.size (Nat.le_refl _) L.length (hv f L))
  have hmk : ∀ w : World, Sem.run Tryz.prog (Instr.makeSlice 27 (.int .i64 L.length) (.int .i64 L.length)) w = .ok (.slice (some ⟨w.heap.size, 0, none⟩) L.length L.length) (w.alloc (.cells (madeCells #[.bool false] L.length) 4)) :=
    fun w => run_make_row' 27 4 _ 1 Tryz.uBs Tryz.infoB rfl .i64 .i64 L.length (by omega) (by omega) w
  go_enter Tryz.func46, Tryz.ntmps46
  go_wp2_with fail
  go_loopw [5, 6] (fun v t wr => ∃ (k : Nat) (R : Nat → Nat), k ≤ f.length ∧ t = .int .i64 k ∧ TabOwn wr w.heap.size v k L.length (hv f L) R ∧ Below w.heap.size w wr) (fun _ t _ => f.length - (intOf t).toNat)
  case atStart => exact ⟨0, _, Nat.zero_le _, rfl, HT0.out, (Below.refl _ _).alloc (Nat.le_refl _) _⟩
  case round =>
    obtain ⟨k, R, hk, rfl, hT, hbel⟩ := hrel
    obtain ⟨wo, hwo⟩ : ∃ wo, wo = wr := ⟨wr, rfl⟩
    subst hwo
    have HB := hid hbel
    have HT := hid hT
    have hzr := hbel.size
    obtain ⟨ta, tc, rfl, hta, htb⟩ := hT.form
    clear hbel hT hta htb
    by_cases hlt : k < f.length
    · have HW1 := hid ((Below.refl wo.heap.size wo).alloc (Nat.le_refl _) (.cells (madeCells #[.bool false] L.length) 4))
      have HR1 := hid ((World.rowIs_made wo (.bool false) L.length 4).congr (fun j hj => (show Value.bool false = rowB (hv f L k) 0 j by simp [rowB])))
      go_wp2_with fail
      go_loopw [8] (fun s wr => ∃ i : Nat, i ≤ L.length ∧ s = .int .i64 i ∧ wr.rowIs wo.heap.size 4 L.length (rowB (hv f L k) i) ∧ Below wo.heap.size wo wr) (fun s _ => L.length - (intOf s).toNat)
      case atStart => exact ⟨0, Nat.zero_le _, rfl, HR1.out, HW1.out⟩
      case round =>
        clear HR1 HW1 hmk
        obtain ⟨i, hi', rfl, hrow, hbi⟩ := hrel
        have HRow := hid hrow
        have HBi := hid hbi
        have hzi := hbi.size
        have hrlt := hrow.lt
        clear hrow hbi
        have HTi := hid (HT.out.below HBi.out)
        by_cases hlt2 : i < L.length
        · have HIn := hid ((H.out.below (HB.out.trans (HBi.out.mono hzr))).hold hlt hlt2 (by
            obtain ⟨a2, c2, e2, hA2, _⟩ := HTi.out.form
            injection e2 with e2 e3 e4
            subst e2
            exact hA2))
          have HCall := hid (specHold_any f L k i fb eb ta fc tc ec wr HIn.out (HF.out k hlt).2.1 (HF.out k hlt).2.2)
          go_wp2_with (go_at_call 87; refine HCall.out.mono ?_; rintro e w3 ⟨rfl, hb3⟩; have HR3 := hid (HRow.out.of_block (hb3.block _ hrlt)); have HB3 := hid (HBi.out.trans (hb3.mono hzi)); have d5 := HR3.out.cell (i := i) hlt2; have f5 := HR3.out.frozen i; clear hb3)
          go_roundw
          case rel => exact ⟨i + 1, by omega, by go_num, (HR3.out.set i _).congr (fun j hj => (rowB_step _ _ _).symm), HB3.out.setCell (Nat.le_refl _) _⟩
          case measure => simp [intOf]; omega
        · have hi2 : i = L.length := by omega
          subst hi2
          have HRowF := hid (HRow.out.congr (fun j hj => (show rowB (hv f L k) L.length j = .bool (hv f L k j) by simp [rowB, hj])))
          go_wp2_with (at_builtin; refine wpList_append_own_at _ rfl _ _ 77 rfl w.heap.size 27 i0 _ 1 24 Tryz.uBss hi hz0 hz1 hz2 rfl (by decide) _ _ _ rfl (HTi.out.own.alloc _) ⟨wr.heap.size, 0, none⟩ 1 1 [.slice (some ⟨wo.heap.size, 0, none⟩) L.length L.length] rfl rfl (cell_one _ _ _) (by simp [Value.oneCell']) (by unfold maxLen; omega) (by omega) (by simp; omega) ?_; intro v2 w2 hown2 hgrow2 _ hat2; have HT2 := hid (HTi.out.snoc HRowF.out (by omega) (fun e => by have := (World.ownsRow.lt HT.out.own _ e).2; omega) _ hown2 hgrow2 hat2); have HB2 := hid (((HB.out.trans (HBi.out.mono hzr)).alloc (by omega) _).grown hgrow2 (by simp; omega) (fun q hq => (World.ownsRow.lt HT.out.own q hq).1)); clear hown2 hgrow2 hat2)
          go_roundw
          case rel => exact ⟨k + 1, _, by omega, by go_num, HT2.out, HB2.out⟩
          case measure => simp [intOf]; omega
    · have hk' : k = f.length := by omega
      subst hk'
      go_wp2_with fail
      go_ret
      exact ⟨_, R, rfl, HT.out, HB.out⟩
end Go.Proofs.YtbfkbgmkibkbnaaGreatDoor
namespace Go.Proofs.YtbfkbgmkibkbnaaGreatDoor
open Go.RowKit
set_option linter.unusedVariables false
set_option linter.unusedSimpArgs false
def inLen (n : Int) (k : Nat) : Bool := isB n 0 ((k : Int) - 1)
def haB (f : List Nd) (L : List Evt) (node i : Int) : Bool := rightB f && (trB L && (inLen node f.length && (inLen i L.length && hv f L node.toNat i.toNat)))
theorem inLen_nat {n : Int} {k : Nat} (h : inLen n k = true) : ∃ p : Nat, n = p ∧ p < k := by
  simp only [inLen, isB, Bool.and_eq_true, decide_eq_true_eq] at h
  exact ⟨n.toNat, by omega, by omega⟩
theorem specRight_is (f : List Nd) (v : Bool) (hv : rightB f = v) (b cap : Nat) (w : World) (hN : NodesAt w b f) (hs : ∀ i, i < f.length → (ndAt f i).nm.size ≤ maxLen) (hlen : f.length ≤ maxLen) :
    Calls Tryz.prog 10 #[.slice (some ⟨b, 0, none⟩) f.length cap] w fun e w' => e = .returned (.bool v) ∧ Below w.heap.size w w' := by
  subst hv
  exact specRight_any f b cap w hN hs hlen
theorem specTrace_is (E : List Evt) (v : Bool) (hv : trB E = v) (b c : Nat) (hs : ∀ i, i < E.length → EvOk (evAt E i)) (hl : E.length ≤ maxLen) (w : World) (hA : EvsAt w b E) :
    Calls Tryz.prog 11 #[.slice (some ⟨b, 0, none⟩) E.length c] w fun e w' => e = .returned (.bool v) ∧ Below w.heap.size w w' := by
  subst hv
  exact specTrace_any E _ rfl _ c hs hl w hA.es
theorem is_is (n lo hi : Int) (v : Bool) (hv : isB n lo hi = v) (w : World) :
    Calls Tryz.prog 60 #[.int .i64 n, .int .i64 lo, .int .i64 hi] w fun e w' => e = .returned (.bool v) ∧ w = w' := by
  subst hv
  exact (is_any n lo hi w).mono fun e w' h => ⟨h.1, h.2.symm⟩
/-- What is asked of the two rows. -/
structure MeanIn (w : World) (f : List Nd) (L : List Evt) (fb eb : Nat) : Prop where
  nodes : NodesAt w fb f
  evs : EvsAt w eb L
  fok : ∀ i, i < f.length → ndOk (ndAt f i)
  lok : ∀ i, i < L.length → EvOk (evAt L i)
  fl : f.length ≤ 1048576
  ll : L.length ≤ 1048576
theorem MeanIn.below {w w' : World} {f : List Nd} {L : List Evt} {fb eb : Nat} (h : MeanIn w f L fb eb) (hb : Below w.heap.size w w') : MeanIn w' f L fb eb := ⟨h.nodes.below hb h.nodes.1, h.evs.below hb, h.fok, h.lok, h.fl, h.ll⟩
theorem ndOk_nm {x : Nd} (h : ndOk x) : x.nm.size ≤ maxLen := h.2.2.2.2.2
set_option maxRecDepth 20000 in
set_option maxHeartbeats 2000000 in
theorem specHoldsAt_any (f : List Nd) (L : List Evt) (node i : Int) (fb eb fc ec : Nat) (w : World) (h : MeanIn w f L fb eb) :
    Calls Tryz.prog 16 #[.slice (some ⟨fb, 0, none⟩) f.length fc, .int .i64 node, .slice (some ⟨eb, 0, none⟩) L.length ec, .int .i64 i] w fun e w' => e = .returned (.bool (haB f L node i)) ∧ Below w.heap.size w w' := by
  have H := hid h
  have hfl := h.fl
  have hll := h.ll
  have hm1 : f.length ≤ maxLen := by unfold maxLen; omega
  have hm2 : L.length ≤ maxLen := by unfold maxLen; omega
  have HM1 := hid hm1
  have HM2 := hid hm2
  clear h hm1 hm2
  rcases (Bool.eq_false_or_eq_true (rightB f)).symm with hr | hr
  · have HV : Hid (haB f L node i = false) := by show haB f L node i = _; simp [haB, hr]
    have HR := hid hr
    clear hr
    go_enter Tryz.func16, Tryz.ntmps16
    go_wp2_with (go_at_call 10; refine (specRight_is f false HR.out fb fc _ H.out.nodes (fun i hi => ndOk_nm (H.out.fok i hi)) HM1.out).mono ?_; rintro e w1 ⟨rfl, hb1⟩; have HB1 := hid hb1; clear hb1)
    go_ret
    exact ⟨ret_bool HV.out.symm, HB1.out⟩
  have HR := hid hr
  clear hr
  rcases (Bool.eq_false_or_eq_true (trB L)).symm with ht | ht
  · have HV : Hid (haB f L node i = false) := by show haB f L node i = _; simp [haB, ht]
    have HT := hid ht
    clear ht
    go_enter Tryz.func16, Tryz.ntmps16
    go_wp2_with (first | (go_at_call 10; refine (specRight_is f true HR.out fb fc _ H.out.nodes (fun i hi => ndOk_nm (H.out.fok i hi)) HM1.out).mono ?_; rintro e w1 ⟨rfl, hb1⟩; have HB1 := hid hb1; have HM := hid (H.out.below hb1); clear hb1) | (go_at_call 11; refine (specTrace_is L false HT.out eb ec H.out.lok HM2.out _ HM.out.evs).mono ?_; rintro e w2 ⟨rfl, hb2⟩; have HB2 := hid (HB1.out.trans (hb2.mono HB1.out.size)); clear hb2))
    go_ret
    exact ⟨ret_bool HV.out.symm, HB2.out⟩
  have HT := hid ht
  clear ht
  rcases (Bool.eq_false_or_eq_true (inLen node f.length)).symm with hn | hn
  · have HV : Hid (haB f L node i = false) := by show haB f L node i = _; simp [haB, hn]
    have HN := hid hn
    clear hn
    go_enter Tryz.func16, Tryz.ntmps16
    go_wp2_with (first | (go_at_call 10; refine (specRight_is f true HR.out fb fc _ H.out.nodes (fun i hi => ndOk_nm (H.out.fok i hi)) HM1.out).mono ?_; rintro e w1 ⟨rfl, hb1⟩; have HB1 := hid hb1; have HM := hid (H.out.below hb1); clear hb1) | (go_at_call 11; refine (specTrace_is L true HT.out eb ec H.out.lok HM2.out _ HM.out.evs).mono ?_; rintro e w2 ⟨rfl, hb2⟩; have HB2 := hid (HB1.out.trans (hb2.mono HB1.out.size)); clear hb2) | (go_at_call 60; refine (is_is _ _ _ false HN.out _).mono ?_; rintro e w3 ⟨rfl, rfl⟩))
    go_ret
    exact ⟨ret_bool HV.out.symm, HB2.out⟩
  obtain ⟨p, rfl, hp⟩ := inLen_nat hn
  have HN := hid hn
  clear hn
  rcases (Bool.eq_false_or_eq_true (inLen i L.length)).symm with hi | hi
  · have HV : Hid (haB f L p i = false) := by show haB f L p i = _; simp [haB, hi]
    have HI := hid hi
    clear hi
    go_enter Tryz.func16, Tryz.ntmps16
    go_wp2_with (first | (go_at_call 10; refine (specRight_is f true HR.out fb fc _ H.out.nodes (fun i hi => ndOk_nm (H.out.fok i hi)) HM1.out).mono ?_; rintro e w1 ⟨rfl, hb1⟩; have HB1 := hid hb1; have HM := hid (H.out.below hb1); clear hb1) | (go_at_call 11; refine (specTrace_is L true HT.out eb ec H.out.lok HM2.out _ HM.out.evs).mono ?_; rintro e w2 ⟨rfl, hb2⟩; have HB2 := hid (HB1.out.trans (hb2.mono HB1.out.size)); clear hb2) | (go_at_call_of 60 (p : Int); refine (is_is _ _ _ true HN.out _).mono ?_; rintro e w3 ⟨rfl, rfl⟩) | (go_at_call 60; refine (is_is _ _ _ false HI.out _).mono ?_; rintro e w3 ⟨rfl, rfl⟩))
    go_ret
    exact ⟨ret_bool HV.out.symm, HB2.out⟩
  obtain ⟨q, rfl, hq⟩ := inLen_nat hi
  have HV : Hid (haB f L p q = hv f L p q) := by show haB f L p q = _; simp [haB, HR.out, HT.out, HN.out, hi]
  have HI := hid hi
  clear hi
  go_enter Tryz.func16, Tryz.ntmps16
  go_wp2_with (first | (go_at_call 10; refine (specRight_is f true HR.out fb fc _ H.out.nodes (fun i hi => ndOk_nm (H.out.fok i hi)) HM1.out).mono ?_; rintro e w1 ⟨rfl, hb1⟩; have HB1 := hid hb1; have HM := hid (H.out.below hb1); clear hb1) | (go_at_call 11; refine (specTrace_is L true HT.out eb ec H.out.lok HM2.out _ HM.out.evs).mono ?_; rintro e w2 ⟨rfl, hb2⟩; have HB2 := hid (HB1.out.trans (hb2.mono HB1.out.size)); have HM2' := hid (HM.out.below hb2); clear hb2) | (go_at_call 60; refine (is_is _ _ _ true (by first | exact HN.out | exact HI.out) _).mono ?_; rintro e w3 ⟨rfl, rfl⟩) | (go_at_call 46; refine (specTable_any f L fb eb fc ec _ ⟨HM2'.out.nodes, HM2'.out.evs, HR.out, HT.out⟩).mono ?_; rintro e w4 ⟨v4, R4, rfl, hT4, hb4⟩; have HB4 := hid (HB2.out.trans (hb4.mono HB2.out.size)); obtain ⟨ta, tc, rfl, hta, _⟩ := hT4.form; obtain ⟨tb, rb, rc, rfl, htb, hrb, t0, t1⟩ := hta.get hp; have t2 := t1 q hq; clear t1 hta hT4 hb4))
  go_ret
  exact ⟨ret_bool HV.out.symm, HB4.out⟩
/-- A slice of bools, of which nothing is asked where it is empty. -/
def BsAt (w : World) (a : Option Addr) (V : List Bool) : Prop := V.length = 0 ∨ ∃ b, a = some ⟨b, 0, none⟩ ∧ b < w.heap.size ∧ ∀ i, i < V.length → w.cell? ⟨b, i, none⟩ = some (.bool (V.getD i false))
theorem BsAt.below {w w' : World} {a : Option Addr} {V : List Bool} (h : BsAt w a V) (hb : Below w.heap.size w w') : BsAt w' a V :=
  h.imp id (fun ⟨b, e, h1, h2⟩ => ⟨b, e, Nat.lt_of_lt_of_le h1 hb.size, fun i hi => (hb.cell (p := ⟨b, i, none⟩) h1).trans (h2 i hi)⟩)
theorem BsAt.save {w w' : World} {a : Option Addr} {V : List Bool} {S : Nat → Prop} (h : BsAt w a V) (hs : Save w w' S) (hS : ∀ b, a = some ⟨b, 0, none⟩ → ¬ S b) : BsAt w' a V :=
  h.imp id (fun ⟨b, e, h1, h2⟩ => ⟨b, e, Nat.lt_of_lt_of_le h1 hs.size, fun i hi => (hs.cell (p := ⟨b, i, none⟩) h1 (hS b e)).trans (h2 i hi)⟩)
def vdB (f : List Nd) (L : List Evt) : List Bool := if rightB f = true ∧ trB L = true then (List.range L.length).map (hv f L (f.length - 1)) else []
theorem vdB_no1 (f : List Nd) (L : List Evt) (h : rightB f = false) : vdB f L = [] := by simp [vdB, h]
theorem vdB_no2 (f : List Nd) (L : List Evt) (h : trB L = false) : vdB f L = [] := by simp [vdB, h]
theorem vdB_yes (f : List Nd) (L : List Evt) (h : rightB f = true) (h' : trB L = true) : vdB f L = (List.range L.length).map (hv f L (f.length - 1)) := by simp [vdB, h, h']
theorem vdB_len (f : List Nd) (L : List Evt) : (vdB f L).length ≤ 60 := by
  unfold vdB
  split
  · next h => have := (trB_parts L h.2).1; simpa using this
  · simp
set_option maxRecDepth 20000 in
set_option maxHeartbeats 2000000 in
theorem specVerdicts_any (f : List Nd) (L : List Evt) (fb eb fc ec : Nat) (w : World) (h : MeanIn w f L fb eb) :
    Calls Tryz.prog 9 #[.slice (some ⟨fb, 0, none⟩) f.length fc, .slice (some ⟨eb, 0, none⟩) L.length ec] w fun e w' => ∃ a c, e = .returned (.slice a (vdB f L).length c) ∧ BsAt w' a (vdB f L) ∧ (∀ b, a = some ⟨b, 0, none⟩ → w.heap.size ≤ b ∧ b < w'.heap.size) ∧ Below w.heap.size w w' := by
  have H := hid h
  have hfl := h.fl
  have hll := h.ll
  have hm1 : f.length ≤ maxLen := by unfold maxLen; omega
  have hm2 : L.length ≤ maxLen := by unfold maxLen; omega
  have HM1 := hid hm1
  have HM2 := hid hm2
  clear h hm1 hm2
  rcases (Bool.eq_false_or_eq_true (rightB f)).symm with hr | hr
  · have HV := hid (vdB_no1 f L hr)
    have HR := hid hr
    clear hr
    go_enter Tryz.func9, Tryz.ntmps9
    go_wp2_with (go_at_call 10; refine (specRight_is f false HR.out fb fc _ H.out.nodes (fun i hi => ndOk_nm (H.out.fok i hi)) HM1.out).mono ?_; rintro e w1 ⟨rfl, hb1⟩; have HB1 := hid hb1; have hz1 := hb1.size; clear hb1)
    go_ret
    exact ⟨_, 0, by rw [HV.out]; rfl, Or.inl (by rw [HV.out]; rfl), fun b e => by injection e with e; injection e with e; subst e; exact ⟨hz1, by simp⟩, HB1.out.alloc hz1 _⟩
  have HR := hid hr
  clear hr
  rcases (Bool.eq_false_or_eq_true (trB L)).symm with ht | ht
  · have HV := hid (vdB_no2 f L ht)
    have HT := hid ht
    clear ht
    go_enter Tryz.func9, Tryz.ntmps9
    go_wp2_with (first | (go_at_call 10; refine (specRight_is f true HR.out fb fc _ H.out.nodes (fun i hi => ndOk_nm (H.out.fok i hi)) HM1.out).mono ?_; rintro e w1 ⟨rfl, hb1⟩; have HB1 := hid hb1; have HM := hid (H.out.below hb1); clear hb1) | (go_at_call 11; refine (specTrace_is L false HT.out eb ec H.out.lok HM2.out _ HM.out.evs).mono ?_; rintro e w2 ⟨rfl, hb2⟩; have HB2 := hid (HB1.out.trans (hb2.mono HB1.out.size)); have hz2 := HB2.out.size; clear hb2))
    go_ret
    exact ⟨_, 0, by rw [HV.out]; rfl, Or.inl (by rw [HV.out]; rfl), fun b e => by injection e with e; injection e with e; subst e; exact ⟨hz2, by simp⟩, HB2.out.alloc hz2 _⟩
  have HV := hid (vdB_yes f L HR.out ht)
  have hf1 := (rightB_parts f HR.out).1
  have HT := hid ht
  clear ht
  go_enter Tryz.func9, Tryz.ntmps9
  go_wp2_with (first | (go_at_call 10; refine (specRight_is f true HR.out fb fc _ H.out.nodes (fun i hi => ndOk_nm (H.out.fok i hi)) HM1.out).mono ?_; rintro e w1 ⟨rfl, hb1⟩; have HB1 := hid hb1; have HM := hid (H.out.below hb1); clear hb1) | (go_at_call 11; refine (specTrace_is L true HT.out eb ec H.out.lok HM2.out _ HM.out.evs).mono ?_; rintro e w2 ⟨rfl, hb2⟩; have HB2 := hid (HB1.out.trans (hb2.mono HB1.out.size)); have hz2 := HB2.out.size; have HM2' := hid (HM.out.below hb2); clear hb2) | (go_at_call 46; refine (specTable_any f L fb eb fc ec _ ⟨HM2'.out.nodes, HM2'.out.evs, HR.out, HT.out⟩).mono ?_; rintro e w4 ⟨v4, R4, rfl, hT4, hb4⟩; have HB4 := hid (HB2.out.trans (hb4.mono HB2.out.size)); have HT4 := hid hT4; obtain ⟨ta, tc, rfl, hta, _⟩ := hT4.form; obtain ⟨tb, htb⟩ : ∃ tb, ta = some ⟨tb, 0, none⟩ := (by obtain ⟨tb, _, _, e, _⟩ := hta.get (show f.length - 1 < f.length by omega); exact ⟨tb, e⟩); subst htb; have t0 := (by have h1 := World.ownsRow.cells hT4.own (g := tb) rfl (f.length - 1) (.slice (some ⟨R4 (f.length - 1), 0, none⟩) L.length L.length) (by have : f.length - 1 < f.length := (by omega); simp [this]); rw [Addr.add_lit] at h1; simpa using h1 : w4.cell? ⟨tb, f.length - 1, none⟩ = some (.slice (some ⟨R4 (f.length - 1), 0, none⟩) L.length L.length)); clear hta hT4 hb4))
  go_ret
  have hlast : f.length - 1 < f.length := by omega
  refine ⟨some ⟨R4 (f.length - 1), 0, none⟩, L.length, by rw [HV.out]; simp, Or.inr ⟨R4 (f.length - 1), rfl, (HT4.out.rows _ hlast).lt, fun i hi => ?_⟩, fun b e => ?_, HB4.out⟩
  · rw [HV.out] at hi ⊢
    simp at hi
    rw [(HT4.out.rows _ hlast).cell hi]
    simp [hi]
  · injection e with e
    injection e with e
    subst e
    exact ⟨Nat.le_trans hz2 (HT4.out.low _ hlast), (HT4.out.rows _ hlast).lt⟩
end Go.Proofs.YtbfkbgmkibkbnaaGreatDoor
namespace Go.Proofs.YtbfkbgmkibkbnaaGreatDoor
open Go.RowKit
set_option linter.unusedVariables false
set_option linter.unusedSimpArgs false
set_option maxRecDepth 20000 in
set_option maxHeartbeats 1000000 in
theorem markStringS_from (n k0 : Nat) (v : Int) (hv : v = k0) (hk0 : 0 < k0) (hk1 : k0 + n ≤ 1000000000) (a : Option Addr) (c : Nat) (w : World) (h : RowT w a n) :
    Calls Tryz.prog 70 #[.slice a n c, .int .i64 v] w fun e w' => e = .returned (.int .i64 (k0 + n : Nat)) ∧ TsAt w' a (markT k0 n) ∧ RowT w' a n ∧ Save w w' (OfT a) := by
  subst hv
  rcases h with rfl | ⟨b, z, rfl, h⟩
  · go_enter Tryz.func70, Tryz.ntmps70
    go_wp2_with fail
    go_loopw [1, 5] (fun t s wr => t = .int .i64 k0 ∧ s = .int .i64 0 ∧ w = wr) (fun _ _ _ => 0)
    case atStart => exact ⟨rfl, rfl, rfl⟩
    case round =>
      obtain ⟨rfl, rfl, rfl⟩ := hrel
      go_wp2_with fail
      go_ret
      exact ⟨rfl, Or.inl rfl, Or.inl rfl, Save.refl _ _⟩
  · have HR0 := hid (h.congr (fun j hj => (show z j = rowT (markT k0 n) z 0 j by simp [rowT])))
    have hbl := h.lt
    clear h
    go_enter Tryz.func70, Tryz.ntmps70
    go_wp2_with fail
    go_loopw [1, 5] (fun t s wr => ∃ k : Nat, k ≤ n ∧ t = .int .i64 (k0 + k : Nat) ∧ s = .int .i64 k ∧ wr.rowIs b 9 n (rowT (markT k0 n) z k) ∧ Save w wr (OfT (some ⟨b, 0, none⟩))) (fun _ s _ => n - (intOf s).toNat)
    case atStart => exact ⟨0, Nat.zero_le _, rfl, rfl, HR0.out, Save.refl _ _⟩
    case round =>
      clear HR0
      obtain ⟨k, hk, rfl, rfl, hrow, hsv⟩ := hrel
      have HS := hid hsv
      have HRow := hid hrow
      have hsz := hrow.lt
      clear hrow hsv
      by_cases hlt : k < n
      · go_wp2_with fail
        refine (markText_int _ (k0 + k) (by push_cast; omega) (by omega) (by omega) _).mono ?_
        rintro e w1 ⟨rfl, hb1⟩
        have HR1 := hid (HRow.out.of_block (hb1.block b hsz))
        have HS1 := hid (HS.out.trans (Save.of_below hb1 _ (fun j h1 h2 => absurd h1 (by omega))))
        have d5 := HR1.out.cell (i := k) hlt
        have f5 := HR1.out.frozen k
        clear hb1
        go_wp2_with fail
        go_roundw
        case rel =>
          refine ⟨k + 1, by omega, by simp; omega, by go_num, (HR1.out.set k _).congr (fun j hj => ?_), HS1.out.setCell (p := ⟨b, k, none⟩) (fun _ => ⟨_, rfl, rfl⟩) _⟩
          rw [rowT_step, markT_at _ _ _ hlt]
        case measure => simp [intOf]; omega
      · have hk' : k = n := by omega
        subst hk'
        go_wp2_with fail
        go_ret
        exact ⟨rfl, Or.inr ⟨b, rfl, @rowT_strs _ b (markT k0 k) z (by rw [markT_len]; exact HRow.out)⟩, Or.inr ⟨b, _, rfl, HRow.out⟩, HS.out⟩
/-- The mark at which event i begins. -/
def kAt (k0 : Nat) (N : Nat → Nat) : Nat → Nat
  | 0 => k0
  | i + 1 => kAt k0 N i + 1 + N i
theorem kAt_pos (k0 : Nat) (N : Nat → Nat) (h : 0 < k0) : ∀ i, 0 < kAt k0 N i
  | 0 => h
  | i + 1 => by have := kAt_pos k0 N h i; unfold kAt; omega
theorem kAt_mono (k0 : Nat) (N : Nat → Nat) {i k : Nat} (h : i ≤ k) : kAt k0 N i ≤ kAt k0 N k := by
  induction h with
  | refl => exact Nat.le_refl _
  | step _ ih => exact Nat.le_trans ih (by show _ ≤ _ + 1 + _; omega)
/-- A row of events to be written to: each one's names lie in a block of its own. -/
structure EvMk (w : World) (b n : Nat) (a : Nat → Option Addr) (N c : Nat → Nat) : Prop where
  row : ∃ z, w.rowIs b 41 (n * 2) z ∧ ∀ i, i < n → z (i * 2 + 1) = .slice (a i) (N i) (c i)
  names : ∀ i, i < n → RowT w (a i) (N i)
  apart : ∀ i, i < n → ∀ q, a i = some q → q.block ≠ b
  apart2 : ∀ i j, i < n → j < n → i ≠ j → ∀ q r, a i = some q → a j = some r → q.block ≠ r.block
def EvMkS (b n : Nat) (a : Nat → Option Addr) (j : Nat) : Prop := j = b ∨ ∃ i, i < n ∧ OfT (a i) j
structure EvHd (w : World) (b n k0 : Nat) (a : Nat → Option Addr) (N c : Nat → Nat) : Prop where
  lt : b < w.heap.size
  times : ∀ i, i < n → w.cell? ⟨b, i * 2, none⟩ = some (.int .i64 (kAt k0 N i))
  slices : ∀ i, i < n → w.cell? ⟨b, i * 2 + 1, none⟩ = some (.slice (a i) (N i) (c i))
  names : ∀ i, i < n → TsAt w (a i) (markT (kAt k0 N i + 1) (N i))
theorem EvHd.below {w w' : World} {b n k0 : Nat} {a : Nat → Option Addr} {N c : Nat → Nat} (h : EvHd w b n k0 a N c) (hb : Below w.heap.size w w') : EvHd w' b n k0 a N c :=
  ⟨Nat.lt_of_lt_of_le h.lt hb.size, fun i hi => (hb.cell (p := ⟨b, _, none⟩) h.lt).trans (h.times i hi), fun i hi => (hb.cell (p := ⟨b, _, none⟩) h.lt).trans (h.slices i hi), fun i hi => (h.names i hi).below hb⟩
theorem EvMk.below {w w' : World} {b n : Nat} {a : Nat → Option Addr} {N c : Nat → Nat} (h : EvMk w b n a N c) (hb : Below w.heap.size w w') : EvMk w' b n a N c := by
  obtain ⟨z, h1, h2⟩ := h.row
  exact ⟨⟨z, h1.of_block (hb.block b h1.lt), h2⟩, fun i hi => (h.names i hi).below hb, h.apart, h.apart2⟩
theorem EvMk.save {w w' : World} {b n : Nat} {a : Nat → Option Addr} {N c : Nat → Nat} {S : Nat → Prop} (h : EvMk w b n a N c) (hs : Save w w' S) (hS : ∀ j, EvMkS b n a j → ¬ S j) : EvMk w' b n a N c := by
  obtain ⟨z, h1, h2⟩ := h.row
  exact ⟨⟨z, h1.of_block (hs.block b h1.lt (hS b (Or.inl rfl))), h2⟩, fun i hi => (h.names i hi).save hs (fun q e => hS q (Or.inr ⟨i, hi, _, e, rfl⟩)), h.apart, h.apart2⟩
theorem OfT.some {q : Addr} {j : Nat} (h : OfT (some q) j) : q.block = j := by obtain ⟨r, e, h⟩ := h; cases e; exact h
set_option maxRecDepth 20000 in
set_option maxHeartbeats 2000000 in
theorem markEventS_row (n k0 b cap : Nat) (v : Int) (hv : v = k0) (a : Nat → Option Addr) (N c : Nat → Nat) (hn : n ≤ 1048576) (hk0 : 0 < k0) (hk1 : kAt k0 N n ≤ 1000000000) (w : World) (h : EvMk w b n a N c) :
    Calls Tryz.prog 38 #[.slice (some ⟨b, 0, none⟩) n cap, .int .i64 v] w fun e w' => e = .returned (.int .i64 (kAt k0 N n : Nat)) ∧ EvHd w' b n k0 a N c ∧ Save w w' (EvMkS b n a) := by
  subst hv
  obtain ⟨z0, hr0, hz0⟩ := h.row
  have HR0 := hid hr0
  have HZ0 := hid hz0
  have HN0 := hid h.names
  have HA := hid h.apart
  have HA2 := hid h.apart2
  have HK1 := hid hk1
  clear h hr0 hz0 hk1
  go_enter Tryz.func38, Tryz.ntmps38
  go_wp2_with fail
  go_loopw [1, 5] (fun t s wr => ∃ (k : Nat) (z : Nat → Value), k ≤ n ∧ t = .int .i64 (kAt k0 N k : Nat) ∧ s = .int .i64 k ∧ wr.rowIs b 41 (n * 2) z ∧ (∀ i, i < n → z (i * 2 + 1) = .slice (a i) (N i) (c i)) ∧ (∀ i, i < k → z (i * 2) = .int .i64 (kAt k0 N i : Nat)) ∧ (∀ i, i < n → RowT wr (a i) (N i)) ∧ (∀ i, i < k → TsAt wr (a i) (markT (kAt k0 N i + 1) (N i))) ∧ Save w wr (EvMkS b n a)) (fun _ s _ => n - (intOf s).toNat)
  case atStart => exact ⟨0, z0, Nat.zero_le _, rfl, rfl, HR0.out, HZ0.out, fun i h => by omega, HN0.out, fun i h => by omega, Save.refl _ _⟩
  case round =>
    clear HR0 HZ0 HN0
    obtain ⟨k, z, hk, rfl, rfl, hrow, hz1, hz2, hnm, hts, hsv⟩ := hrel
    have HS := hid hsv
    have HRow := hid hrow
    have HZ1 := hid hz1
    have HZ2 := hid hz2
    have HNm := hid hnm
    have HTs := hid hts
    have hsz := hrow.lt
    clear hrow hsv hz1 hz2 hnm hts
    by_cases hlt : k < n
    · have hkp := kAt_pos k0 N hk0 k
      have hkm := kAt_mono k0 N (show k + 1 ≤ n from hlt)
      have hks : kAt k0 N (k + 1) = kAt k0 N k + 1 + N k := rfl
      have HKS := hid hks
      have hkb : kAt k0 N k + 1 + N k ≤ 1000000000 := by have := HK1.out; omega
      clear hks hkm
      have d0 := HRow.out.cell (i := k * 2) (by omega)
      have d1 := HRow.out.cell (i := k * 2 + 1) (by omega)
      rw [HZ1.out k hlt] at d1
      have f0 := HRow.out.frozen (k * 2)
      generalize hK : kAt k0 N k = K at *
      have HKe := hid hK
      clear hK
      have HSv1 := hid (Save.setCell (S := EvMkS b n a) HS.out (p := ⟨b, k * 2, none⟩) (fun _ => Or.inl rfl) (.int .i64 (K : Nat)))
      have HR1 := hid (HRow.out.set (k * 2) (.int .i64 (K : Nat)))
      have HOther : Hid (Save wr (wr.setCell ⟨b, k * 2, none⟩ (.int .i64 (K : Nat))) (fun j => j = b)) := Save.setCell (S := fun j => j = b) (Save.refl wr _) (p := ⟨b, k * 2, none⟩) (fun _ => rfl) _
      have HNm1 := hid (fun i (hi : i < n) => (HNm.out i hi).save HOther.out (fun q e h => HA.out i hi _ e h))
      have HTs1 := hid (fun i (hi : i < k) => (HTs.out i hi).save HOther.out (fun q e h => HA.out i (by omega) _ e h))
      go_wp2_with fail
      refine (markStringS_from (N k) (K + 1) _ (by push_cast; omega) (by omega) (by omega) (a k) (c k) _ (HNm1.out k hlt)).mono ?_
      rintro e w1 ⟨rfl, ht1, hr1, hs1⟩
      have hb1 : ¬ OfT (a k) b := fun ⟨q, e, h⟩ => HA.out k hlt q e h
      have hi1 : ∀ i, i < n → i ≠ k → ∀ q, a i = some ⟨q, 0, none⟩ → ¬ OfT (a k) q := fun i hi hne q e ⟨r, e', h⟩ => HA2.out i k hi hlt hne _ r e e' h.symm
      have HR2 := hid (HR1.out.of_block (hs1.block b (by simpa using hsz) hb1))
      have HS2 := hid (HSv1.out.trans (hs1.mono (fun j _ h => Or.inr ⟨k, hlt, h⟩)))
      have HNm2 : Hid (∀ i, i < n → RowT w1 (a i) (N i)) := fun i hi => by
        by_cases e : i = k
        · subst e; exact hr1
        · exact (HNm1.out i hi).save hs1 (hi1 i hi e)
      have HTs2 : Hid (∀ i, i < k + 1 → TsAt w1 (a i) (markT (kAt k0 N i + 1) (N i))) := fun i hi => by
        by_cases e : i = k
        · subst e; rw [HKe.out]; exact ht1
        · exact (HTs1.out i (by omega)).save hs1 (hi1 i (by omega) e)
      clear ht1 hr1 hs1 hb1 hi1
      go_wp2_with fail
      go_roundw
      case rel =>
        refine ⟨k + 1, _, by omega, by rw [HKS.out]; simp, by go_num, HR2.out, fun i hi => ?_, fun i hi => ?_, HNm2.out, HTs2.out, HS2.out⟩
        · exact (if_neg (by omega)).trans (HZ1.out i hi)
        · by_cases e : i = k
          · subst e; exact (if_pos rfl).trans (by rw [HKe.out])
          · exact (if_neg (by omega)).trans (HZ2.out i (by omega))
      case measure => simp [intOf]; omega
    · have hk' : k = n := by omega
      subst hk'
      go_wp2_with fail
      go_ret
      exact ⟨rfl, ⟨HRow.out.lt, fun i hi => by rw [HRow.out.cell (by omega), HZ2.out i hi], fun i hi => by rw [HRow.out.cell (by omega), HZ1.out i hi], HTs.out⟩, HS.out⟩
end Go.Proofs.YtbfkbgmkibkbnaaGreatDoor
namespace Go.Proofs.YtbfkbgmkibkbnaaGreatDoor
open Go.RowKit
set_option linter.unusedVariables false
set_option linter.unusedSimpArgs false
set_option maxRecDepth 20000 in
set_option maxHeartbeats 1000000 in
theorem eqBoolS_any (V : List Bool) (n : Nat) (hn : V.length = n) (a1 a2 : Option Addr) (c1 c2 : Nat) (hl : n ≤ 1048576) (w : World) (h1 : BsAt w a1 V) (h2 : BsAt w a2 V) :
    Calls Tryz.prog 34 #[.slice a1 n c1, .slice a2 n c2] w fun e w' => e = .returned (.bool true) ∧ Below w.heap.size w w' := by
  subst hn
  have H1 := hid h1
  have H2 := hid h2
  clear h1 h2
  go_enter Tryz.func34, Tryz.ntmps34
  go_wp2_with fail
  go_loopw [5] (fun t wr => ∃ k : Nat, k ≤ V.length ∧ t = .int .i64 k ∧ Below w.heap.size w wr) (fun t _ => V.length - (intOf t).toNat)
  case atStart => exact ⟨0, Nat.zero_le _, rfl, Below.refl _ _⟩
  case round =>
    obtain ⟨k, hk, rfl, hbel⟩ := hrel
    have HB := hid hbel
    clear hbel
    by_cases hlt : k < V.length
    · rcases H1.out with h0 | ⟨b1, rfl, hb1, hc1⟩
      · omega
      rcases H2.out with h0 | ⟨b2, rfl, hb2, hc2⟩
      · omega
      have d1 := (HB.out.cell (p := ⟨b1, k, none⟩) hb1).trans (hc1 k hlt)
      have d2 := (HB.out.cell (p := ⟨b2, k, none⟩) hb2).trans (hc2 k hlt)
      clear hc1 hc2
      generalize V.getD k false = t at *
      have ht : (t != t) = false := by simp
      go_wp2_with fail
      go_quiet (fail)
      go_wp2_with fail
      go_roundw
      case rel => exact ⟨k + 1, by omega, by go_num, below_drewN HB.out _⟩
      case measure => simp [intOf]; omega
    · go_wp2_with fail
      go_ret
      exact ⟨rfl, HB.out⟩
def mkB (k : Nat) : Bool := decide ((k : Int) % 3 = 0)
def markB (k n : Nat) : List Bool := (List.range n).map fun i => mkB (k + i)
theorem markB_len (k n : Nat) : (markB k n).length = n := by simp [markB]
theorem markB_at (k n i : Nat) (h : i < n) : (markB k n).getD i false = mkB (k + i) := by simp [markB, h]
/-- A row of bools to be written to; it may be longer than what is asked for. -/
def RowBs (w : World) (a : Option Addr) (n : Nat) : Prop := n = 0 ∨ ∃ b z m, a = some ⟨b, 0, none⟩ ∧ n ≤ m ∧ w.rowIs b 4 m z
theorem RowBs.below {w w' : World} {a : Option Addr} {n : Nat} (h : RowBs w a n) (hb : Below w.heap.size w w') : RowBs w' a n :=
  h.imp id (fun ⟨b, z, m, e, hm, hr⟩ => ⟨b, z, m, e, hm, hr.of_block (hb.block b hr.lt)⟩)
theorem RowBs.save {w w' : World} {a : Option Addr} {n : Nat} {S : Nat → Prop} (h : RowBs w a n) (hs : Save w w' S) (hS : ∀ b, a = some ⟨b, 0, none⟩ → ¬ S b) : RowBs w' a n :=
  h.imp id (fun ⟨b, z, m, e, hm, hr⟩ => ⟨b, z, m, e, hm, hr.of_block (hs.block b hr.lt (hS b e))⟩)
def rowV (V : List Bool) (z : Nat → Value) (k j : Nat) : Value := if j < k then .bool (V.getD j false) else z j
theorem rowV_step (V : List Bool) (z : Nat → Value) (k j : Nat) : rowV V z (k + 1) j = if j = k then .bool (V.getD k false) else rowV V z k j := by
  unfold rowV
  by_cases e : j = k
  · subst e; simp
  · by_cases h : j < k
    · rw [if_pos (by omega), if_neg e, if_pos h]
    · rw [if_neg (by omega), if_neg e, if_neg h]
set_option maxRecDepth 20000 in
set_option maxHeartbeats 1000000 in
theorem markBoolS_any (n : Nat) (a : Option Addr) (c : Nat) (hn : n ≤ 1048576) (w : World) (h : RowBs w a n) :
    Calls Tryz.prog 39 #[.slice a n c, .int .i64 1] w fun e w' => e = .returned (.int .i64 (1 + n : Nat)) ∧ BsAt w' a (markB 1 n) ∧ Save w w' (OfT a) := by
  rcases h with rfl | ⟨b, z, m, rfl, hnm, h⟩
  · go_enter Tryz.func39, Tryz.ntmps39
    go_wp2_with fail
    go_loopw [1, 5] (fun t s wr => t = .int .i64 1 ∧ s = .int .i64 0 ∧ w = wr) (fun _ _ _ => 0)
    case atStart => exact ⟨rfl, rfl, rfl⟩
    case round =>
      obtain ⟨rfl, rfl, rfl⟩ := hrel
      go_wp2_with fail
      go_ret
      exact ⟨rfl, Or.inl rfl, Save.refl _ _⟩
  · have HR0 := hid (h.congr (fun j hj => (show z j = rowV (markB 1 n) z 0 j by simp [rowV])))
    have hbl := h.lt
    clear h
    go_enter Tryz.func39, Tryz.ntmps39
    go_wp2_with fail
    go_loopw [1, 5] (fun t s wr => ∃ k : Nat, k ≤ n ∧ t = .int .i64 (1 + k : Nat) ∧ s = .int .i64 k ∧ wr.rowIs b 4 m (rowV (markB 1 n) z k) ∧ Save w wr (OfT (some ⟨b, 0, none⟩))) (fun _ s _ => n - (intOf s).toNat)
    case atStart => exact ⟨0, Nat.zero_le _, rfl, rfl, HR0.out, Save.refl _ _⟩
    case round =>
      clear HR0
      obtain ⟨k, hk, rfl, rfl, hrow, hsv⟩ := hrel
      have HS := hid hsv
      have HRow := hid hrow
      have hsz := hrow.lt
      clear hrow hsv
      by_cases hlt : k < n
      · have d5 := HRow.out.cell (i := k) (by omega)
        have f5 := HRow.out.frozen k
        have HE : Hid ((markB 1 n).getD k false = decide ((((1 + k : Nat) : Int)) % 3 = 0)) := markB_at 1 n k hlt
        go_wp2_with fail
        go_roundw
        case rel =>
          refine ⟨k + 1, by omega, by simp; omega, by go_num, (HRow.out.set k _).congr (fun j hj => ?_), HS.out.setCell (p := ⟨b, k, none⟩) (fun _ => ⟨_, rfl, rfl⟩) _⟩
          rw [rowV_step, HE.out]
          split
          · congr 1
          · rfl
        case measure => simp [intOf]; omega
      · have hk' : k = n := by omega
        subst hk'
        go_wp2_with fail
        go_ret
        refine ⟨rfl, Or.inr ⟨b, rfl, HRow.out.lt, fun i hi => ?_⟩, HS.out⟩
        rw [markB_len] at hi
        rw [HRow.out.cell (by omega)]
        unfold rowV
        rw [if_pos hi]
set_option maxRecDepth 20000 in
set_option maxHeartbeats 1000000 in
theorem heldBoolS_any (n : Nat) (a : Option Addr) (c : Nat) (hn : n ≤ 1048576) (w : World) (h : BsAt w a (markB 1 n)) :
    Calls Tryz.prog 40 #[.slice a n c, .int .i64 1] w fun e w' => e = .returned (.int .i64 (1 + n : Nat)) ∧ Below w.heap.size w w' := by
  have H := hid h
  clear h
  go_enter Tryz.func40, Tryz.ntmps40
  go_wp2_with fail
  go_loopw [1, 5] (fun t s wr => ∃ k : Nat, k ≤ n ∧ t = .int .i64 (1 + k : Nat) ∧ s = .int .i64 k ∧ Below w.heap.size w wr) (fun _ s _ => n - (intOf s).toNat)
  case atStart => exact ⟨0, Nat.zero_le _, rfl, rfl, Below.refl _ _⟩
  case round =>
    obtain ⟨k, hk, rfl, rfl, hbel⟩ := hrel
    have HB := hid hbel
    clear hbel
    by_cases hlt : k < n
    · rcases H.out with h0 | ⟨b, rfl, hb, hc⟩
      · rw [markB_len] at h0; omega
      have d5 := (HB.out.cell (p := ⟨b, k, none⟩) hb).trans (hc k (by rw [markB_len]; exact hlt))
      rw [markB_at _ _ _ hlt] at d5
      clear hc
      by_cases h3 : (1 + (k : Int)) % 3 = 0
      · have e3 : mkB (1 + k) = true := by simp [mkB, h3]
        rw [e3] at d5
        clear e3
        go_wp2_with fail
        go_roundw
        case rel => exact ⟨k + 1, by omega, by simp; omega, by go_num, HB.out⟩
        case measure => simp [intOf]; omega
      · have e3 : mkB (1 + k) = false := by simp [mkB, h3]
        rw [e3] at d5
        clear e3
        go_wp2_with fail
        go_roundw
        case rel => exact ⟨k + 1, by omega, by simp; omega, by go_num, HB.out⟩
        case measure => simp [intOf]; omega
    · have hk' : k = n := by omega
      subst hk'
      go_wp2_with fail
      go_ret
      exact ⟨rfl, HB.out⟩
end Go.Proofs.YtbfkbgmkibkbnaaGreatDoor
namespace Go.Proofs.YtbfkbgmkibkbnaaGreatDoor
open Go.RowKit
set_option linter.unusedVariables false
set_option linter.unusedSimpArgs false
def zAt (Z : List Int) (i : Nat) : Int := Z.getD i 0
/-- A row of numbers; it may begin within a block. -/
def ArgI (w : World) (a : Option Addr) (Z : List Int) : Prop := Z.length = 0 ∨ ∃ b off, a = some ⟨b, off, none⟩ ∧ b < w.heap.size ∧ ∀ i, i < Z.length → w.cell? ⟨b, off + i, none⟩ = some (.int .i64 (zAt Z i))
theorem ArgI.below {w w' : World} {a : Option Addr} {Z : List Int} {B : Nat} (h : ArgI w a Z) (hb : Below B w w') (hB : w.heap.size ≤ B) : ArgI w' a Z := by
  rcases h with h | ⟨b, off, e, hlt, hc⟩
  · exact Or.inl h
  · exact Or.inr ⟨b, off, e, Nat.lt_of_lt_of_le hlt hb.size, fun i hi => (hb.cell (p := ⟨b, off + i, none⟩) (by show b < B; omega)).trans (hc i hi)⟩
theorem ArgI.on {w w' : World} {a : Option Addr} {Z : List Int} (h : ArgI w a Z) (hb : Below w.heap.size w w') : ArgI w' a Z := h.below hb (Nat.le_refl _)
theorem ArgI.save {w w' : World} {a : Option Addr} {Z : List Int} {S : Nat → Prop} (h : ArgI w a Z) (hs : Save w w' S) (hS : ∀ q, a = some q → ¬ S q.block) : ArgI w' a Z := by
  rcases h with h | ⟨b, off, e, hlt, hc⟩
  · exact Or.inl h
  · exact Or.inr ⟨b, off, e, Nat.lt_of_lt_of_le hlt hs.size, fun i hi => (hs.cell (p := ⟨b, off + i, none⟩) hlt (hS ⟨b, off, none⟩ e)).trans (hc i hi)⟩
/-- Block b holds a row of numbers, and nothing else. -/
def RowI (w : World) (b : Nat) (Z : List Int) : Prop := w.rowIs b 2 Z.length (fun j => .int .i64 (zAt Z j))
theorem RowI.arg {w : World} {b : Nat} {Z : List Int} (h : RowI w b Z) : ArgI w (some ⟨b, 0, none⟩) Z := Or.inr ⟨b, 0, rfl, World.rowIs.lt h, fun i hi => by rw [Nat.zero_add]; exact World.rowIs.cell h hi⟩
theorem RowI.below {w w' : World} {b : Nat} {Z : List Int} {B : Nat} (h : RowI w b Z) (hb : Below B w w') (hB : b < B) : RowI w' b Z := World.rowIs.of_block h (hb.block b hB)
/-- A row of numbers to be written to; it may be longer than what is asked for. -/
def RowIs (w : World) (a : Option Addr) (n : Nat) : Prop := n = 0 ∨ ∃ b z m, a = some ⟨b, 0, none⟩ ∧ n ≤ m ∧ w.rowIs b 2 m z
theorem RowI.mu {w : World} {b : Nat} {Z : List Int} (h : RowI w b Z) : RowIs w (some ⟨b, 0, none⟩) Z.length := Or.inr ⟨b, _, _, rfl, Nat.le_refl _, h⟩
theorem RowIs.below {w w' : World} {a : Option Addr} {n : Nat} (h : RowIs w a n) (hb : Below w.heap.size w w') : RowIs w' a n :=
  h.imp id (fun ⟨b, z, m, e, hm, hr⟩ => ⟨b, z, m, e, hm, hr.of_block (hb.block b hr.lt)⟩)
theorem RowIs.save {w w' : World} {a : Option Addr} {n : Nat} {S : Nat → Prop} (h : RowIs w a n) (hs : Save w w' S) (hS : ∀ q, a = some q → ¬ S q.block) : RowIs w' a n :=
  h.imp id (fun ⟨b, z, m, e, hm, hr⟩ => ⟨b, z, m, e, hm, hr.of_block (hs.block b hr.lt (hS _ e))⟩)
def rowN (Z : List Int) (z : Nat → Value) (k j : Nat) : Value := if j < k then .int .i64 (zAt Z j) else z j
theorem rowN_step (Z : List Int) (z : Nat → Value) (k j : Nat) : rowN Z z (k + 1) j = if j = k then .int .i64 (zAt Z k) else rowN Z z k j := by
  unfold rowN
  by_cases e : j = k
  · subst e; simp
  · by_cases h : j < k
    · rw [if_pos (by omega), if_neg e, if_pos h]
    · rw [if_neg (by omega), if_neg e, if_neg h]
set_option maxRecDepth 20000 in
set_option maxHeartbeats 1000000 in
theorem szInt64S_any (n : Nat) (a : Option Addr) (cap : Nat) (hl : n ≤ maxLen) (left : Int) (h1 : 0 ≤ left) (h2 : left ≤ 1048576) (w : World) :
    Calls Tryz.prog 150 #[.slice a n cap, .int .i64 left] w fun e w' => ∃ r : Int, e = .returned (.int .i64 r) ∧ -1 ≤ r ∧ r ≤ 1048576 ∧ (0 ≤ r → r + n ≤ left) ∧ w = w' := by
  unfold maxLen at hl
  by_cases h : left - (n : Int) < 0
  · go_enter Tryz.func150, Tryz.ntmps150
    go_wp2
    go_ret
    exact ⟨-1, rfl, by omega, by omega, by omega, rfl⟩
  · go_enter Tryz.func150, Tryz.ntmps150
    go_wp2
    go_ret
    exact ⟨left - n, rfl, by omega, by omega, fun _ => by omega, rfl⟩
set_option maxRecDepth 20000 in
set_option maxHeartbeats 1000000 in
theorem toInt64S_any (Z : List Int) (a : Option Addr) (cap : Nat) (hl : Z.length ≤ 1048576) (w : World) (hA : ArgI w a Z) :
    Calls Tryz.prog 153 #[.slice a Z.length cap] w fun e w' => e = .returned (.slice (some ⟨w.heap.size, 0, none⟩) Z.length Z.length) ∧ RowI w' w.heap.size Z ∧ Below w.heap.size w w' := by
  have hmk : ∀ w : World, Sem.run Tryz.prog (Instr.makeSlice 82 (.int .i64 Z.length) (.int .i64 Z.length)) w = .ok (.slice (some ⟨w.heap.size, 0, none⟩) Z.length Z.length) (w.alloc (.cells (madeCells #[.int .i64 0] Z.length) 2)) :=
    fun w => run_make_row' 82 2 _ 8 Tryz.uIs Tryz.infoI rfl .i64 .i64 Z.length (by omega) (by omega) w
  have HA := hid hA
  have HR0 : Hid ((w.alloc (.cells (madeCells #[.int .i64 0] Z.length) 2)).rowIs w.heap.size 2 Z.length (rowN Z (fun _ => .int .i64 0) 0)) := (World.rowIs_made w _ _ _).congr (fun j hj => by simp [rowN])
  clear hA
  go_enter Tryz.func153, Tryz.ntmps153
  go_wp2_with fail
  go_loopw [4] (fun t wr => ∃ k : Nat, k ≤ Z.length ∧ t = .int .i64 k ∧ wr.rowIs w.heap.size 2 Z.length (rowN Z (fun _ => .int .i64 0) k) ∧ Below w.heap.size w wr) (fun t _ => Z.length - (intOf t).toNat)
  case atStart => exact ⟨0, Nat.zero_le _, rfl, HR0.out, (Below.refl _ _).alloc (Nat.le_refl _) _⟩
  case round =>
    clear HR0 hmk
    obtain ⟨k, hk, rfl, hrow, hbel⟩ := hrel
    have HB := hid hbel
    have HRow := hid hrow
    have hsz := hrow.lt
    clear hrow hbel
    by_cases hlt : k < Z.length
    · rcases HA.out with h0 | ⟨b, off, rfl, hb, hc⟩
      · omega
      · have c0 := (HB.out.cell (p := ⟨b, off + k, none⟩) hb).trans (hc k hlt)
        have d0 := HRow.out.cell hlt
        have f0 := HRow.out.frozen k
        clear hc
        go_wp2_with fail
        go_roundw
        case rel => exact ⟨k + 1, by omega, by go_num, (HRow.out.set k _).congr (fun j hj => (rowN_step _ _ _ _).symm), HB.out.setCell (Nat.le_refl _) _⟩
        case measure => simp [intOf]; omega
    · have hk' : k = Z.length := by omega
      subst hk'
      go_wp2_with fail
      go_ret
      exact ⟨rfl, HRow.out.congr (fun j hj => by simp [rowN, hj]), HB.out⟩
set_option maxRecDepth 20000 in
set_option maxHeartbeats 1000000 in
theorem eqInt64S_any (Z : List Int) (n : Nat) (hn : Z.length = n) (a1 a2 : Option Addr) (c1 c2 : Nat) (hl : n ≤ 2000000) (w : World) (h1 : ArgI w a1 Z) (h2 : ArgI w a2 Z) :
    Calls Tryz.prog 154 #[.slice a1 n c1, .slice a2 n c2] w fun e w' => e = .returned (.bool true) ∧ Below w.heap.size w w' := by
  subst hn
  have H1 := hid h1
  have H2 := hid h2
  clear h1 h2
  go_enter Tryz.func154, Tryz.ntmps154
  go_wp2_with fail
  go_loopw [5] (fun t wr => ∃ k : Nat, k ≤ Z.length ∧ t = .int .i64 k ∧ Below w.heap.size w wr) (fun t _ => Z.length - (intOf t).toNat)
  case atStart => exact ⟨0, Nat.zero_le _, rfl, Below.refl _ _⟩
  case round =>
    obtain ⟨k, hk, rfl, hbel⟩ := hrel
    have HB := hid hbel
    clear hbel
    by_cases hlt : k < Z.length
    · rcases H1.out with h0 | ⟨b1, o1, rfl, hb1, hc1⟩
      · omega
      rcases H2.out with h0 | ⟨b2, o2, rfl, hb2, hc2⟩
      · omega
      have d1 := (HB.out.cell (p := ⟨b1, o1 + k, none⟩) hb1).trans (hc1 k hlt)
      have d2 := (HB.out.cell (p := ⟨b2, o2 + k, none⟩) hb2).trans (hc2 k hlt)
      clear hc1 hc2
      generalize zAt Z k = t at *
      have ht : (t != t) = false := by simp
      go_wp2_with fail
      go_quiet (fail)
      go_wp2_with fail
      go_roundw
      case rel => exact ⟨k + 1, by omega, by go_num, below_drewN HB.out _⟩
      case measure => simp [intOf]; omega
    · go_wp2_with fail
      go_ret
      exact ⟨rfl, HB.out⟩
def markI (k n : Nat) : List Int := (List.range n).map fun i => ((k + i : Nat) : Int)
theorem markI_len (k n : Nat) : (markI k n).length = n := by simp [markI]
theorem markI_at (k n i : Nat) (h : i < n) : zAt (markI k n) i = ((k + i : Nat) : Int) := by simp [zAt, markI, h]
set_option maxRecDepth 20000 in
set_option maxHeartbeats 1000000 in
theorem markInt64S_any (k0 n : Nat) (a : Option Addr) (c : Nat) (hn : n ≤ 2000000) (hk0 : k0 ≤ 1000000000) (w : World) (h : RowIs w a n) :
    Calls Tryz.prog 108 #[.slice a n c, .int .i64 k0] w fun e w' => e = .returned (.int .i64 (k0 + n : Nat)) ∧ ArgI w' a (markI k0 n) ∧ Save w w' (OfT a) := by
  rcases h with rfl | ⟨b, z, m, rfl, hnm, h⟩
  · go_enter Tryz.func108, Tryz.ntmps108
    go_wp2_with fail
    go_loopw [1, 5] (fun t s wr => t = .int .i64 k0 ∧ s = .int .i64 0 ∧ w = wr) (fun _ _ _ => 0)
    case atStart => exact ⟨rfl, rfl, rfl⟩
    case round =>
      obtain ⟨rfl, rfl, rfl⟩ := hrel
      go_wp2_with fail
      go_ret
      exact ⟨rfl, Or.inl rfl, Save.refl _ _⟩
  · have HR0 := hid (h.congr (fun j hj => (show z j = rowN (markI k0 n) z 0 j by simp [rowN])))
    have hbl := h.lt
    clear h
    go_enter Tryz.func108, Tryz.ntmps108
    go_wp2_with fail
    go_loopw [1, 5] (fun t s wr => ∃ k : Nat, k ≤ n ∧ t = .int .i64 (k0 + k : Nat) ∧ s = .int .i64 k ∧ wr.rowIs b 2 m (rowN (markI k0 n) z k) ∧ Save w wr (OfT (some ⟨b, 0, none⟩))) (fun _ s _ => n - (intOf s).toNat)
    case atStart => exact ⟨0, Nat.zero_le _, rfl, rfl, HR0.out, Save.refl _ _⟩
    case round =>
      clear HR0
      obtain ⟨k, hk, rfl, rfl, hrow, hsv⟩ := hrel
      have HS := hid hsv
      have HRow := hid hrow
      have hsz := hrow.lt
      clear hrow hsv
      by_cases hlt : k < n
      · have d5 := HRow.out.cell (i := k) (by omega)
        have f5 := HRow.out.frozen k
        have HE : Hid (zAt (markI k0 n) k = ((k0 + k : Nat) : Int)) := markI_at k0 n k hlt
        go_wp2_with fail
        go_roundw
        case rel =>
          refine ⟨k + 1, by omega, by simp; omega, by go_num, (HRow.out.set k _).congr (fun j hj => ?_), HS.out.setCell (p := ⟨b, k, none⟩) (fun _ => ⟨_, rfl, rfl⟩) _⟩
          rw [rowN_step, HE.out]
          push_cast
          rfl
        case measure => simp [intOf]; omega
      · have hk' : k = n := by omega
        subst hk'
        go_wp2_with fail
        go_ret
        refine ⟨rfl, Or.inr ⟨b, 0, rfl, HRow.out.lt, fun i hi => ?_⟩, HS.out⟩
        rw [markI_len] at hi
        rw [Nat.zero_add, HRow.out.cell (by omega)]
        unfold rowN
        rw [if_pos hi]
set_option maxRecDepth 20000 in
set_option maxHeartbeats 1000000 in
theorem heldInt64S_any (k0 n : Nat) (a : Option Addr) (c : Nat) (hn : n ≤ 2000000) (hk0 : k0 ≤ 1000000000) (w : World) (h : ArgI w a (markI k0 n)) :
    Calls Tryz.prog 142 #[.slice a n c, .int .i64 k0] w fun e w' => e = .returned (.int .i64 (k0 + n : Nat)) ∧ Below w.heap.size w w' := by
  have H := hid h
  clear h
  go_enter Tryz.func142, Tryz.ntmps142
  go_wp2_with fail
  go_loopw [1, 5] (fun t s wr => ∃ k : Nat, k ≤ n ∧ t = .int .i64 (k0 + k : Nat) ∧ s = .int .i64 k ∧ Below w.heap.size w wr) (fun _ s _ => n - (intOf s).toNat)
  case atStart => exact ⟨0, Nat.zero_le _, rfl, rfl, Below.refl _ _⟩
  case round =>
    obtain ⟨k, hk, rfl, rfl, hbel⟩ := hrel
    have HB := hid hbel
    clear hbel
    by_cases hlt : k < n
    · rcases H.out with h0 | ⟨b, off, rfl, hb, hc⟩
      · rw [markI_len] at h0; omega
      have d5 := (HB.out.cell (p := ⟨b, off + k, none⟩) hb).trans (hc k (by rw [markI_len]; exact hlt))
      rw [markI_at _ _ _ hlt] at d5
      clear hc
      have hne : (((k0 + k : Nat) : Int) != ((k0 + k : Nat) : Int)) = false := by simp
      go_wp2_with fail
      go_roundw
      case rel => exact ⟨k + 1, by omega, by simp; omega, by go_num, HB.out⟩
      case measure => simp [intOf]; omega
    · have hk' : k = n := by omega
      subst hk'
      go_wp2_with fail
      go_ret
      exact ⟨rfl, HB.out⟩
end Go.Proofs.YtbfkbgmkibkbnaaGreatDoor
namespace Go.Proofs.YtbfkbgmkibkbnaaGreatDoor
open Go.RowKit
set_option linter.unusedVariables false
set_option linter.unusedSimpArgs false
def mostI (hi : Int) : Int := if hi < 0 then 1 else hi + 1
/-- The first times are times, and rise. -/
def riseTo (Z : List Int) (k : Nat) : Bool := (List.range k).all fun i => timeB (zAt Z i) && (i == 0 || decide (zAt Z (i - 1) < zAt Z i))
def krB (lo hi : Int) (Z : List Int) : Bool := spanB lo hi && (decide ((Z.length : Int) ≤ mostI hi) && riseTo Z Z.length)
theorem riseTo_succ (Z : List Int) (k : Nat) : riseTo Z (k + 1) = (riseTo Z k && (timeB (zAt Z k) && (k == 0 || decide (zAt Z (k - 1) < zAt Z k)))) := by
  simp [riseTo, List.range_succ]
theorem riseTo_false (Z : List Int) (k m : Nat) (hm : k < m) (h : riseTo Z (k + 1) = false) : riseTo Z m = false := by
  simp only [riseTo, List.all_eq_false, List.mem_range] at h ⊢
  obtain ⟨i, hi, h⟩ := h
  exact ⟨i, by omega, h⟩
theorem krB_span (lo hi : Int) (Z : List Int) (h : spanB lo hi = false) : krB lo hi Z = false := by simp [krB, h]
theorem krB_most (lo hi : Int) (Z : List Int) (h : mostI hi < (Z.length : Int)) : krB lo hi Z = false := by simp [krB]; omega
theorem krB_no (lo hi : Int) (Z : List Int) (k : Nat) (hk : k < Z.length) (h : riseTo Z (k + 1) = false) : krB lo hi Z = false := by simp [krB, riseTo_false Z k _ hk h]
theorem krB_yes (lo hi : Int) (Z : List Int) (h1 : spanB lo hi = true) (h2 : (Z.length : Int) ≤ mostI hi) (h3 : riseTo Z Z.length = true) : krB lo hi Z = true := by simp [krB, h1, h2, h3]
theorem krB_parts {lo hi : Int} {Z : List Int} (h : krB lo hi Z = true) : spanB lo hi = true ∧ (Z.length : Int) ≤ mostI hi ∧ riseTo Z Z.length = true := by
  simp only [krB, Bool.and_eq_true, decide_eq_true_eq] at h
  exact ⟨h.1, h.2.1, h.2.2⟩
theorem spanB_parts {lo hi : Int} (h : spanB lo hi = true) : 0 ≤ lo ∧ lo ≤ 1000 ∧ (hi = -1 ∨ lo ≤ hi ∧ hi ≤ 1000) := by
  simp only [spanB, isB, Bool.and_eq_true, Bool.or_eq_true, decide_eq_true_eq, beq_iff_eq] at h
  omega
theorem riseTo_at {Z : List Int} {m : Nat} (h : riseTo Z m = true) (i : Nat) (hi : i < m) : 0 ≤ zAt Z i ∧ zAt Z i ≤ 1000000 ∧ (0 < i → zAt Z (i - 1) < zAt Z i) := by
  simp only [riseTo, List.all_eq_true, List.mem_range, Bool.and_eq_true, Bool.or_eq_true, beq_iff_eq, timeB, decide_eq_true_eq] at h
  have := h i hi
  omega
/-- What a Keep is handed round as. -/
def kpV (lo hi : Int) (a : Option Addr) (n c : Nat) : Value := .agg #[.int .i64 lo, .int .i64 hi, .slice a n c]
set_option maxRecDepth 20000 in
set_option maxHeartbeats 1000000 in
theorem szKeep_any (lo hi : Int) (n : Nat) (a : Option Addr) (cap : Nat) (hl : n ≤ maxLen) (left : Int) (h1 : 0 ≤ left) (h2 : left ≤ 1048576) (w : World) :
    Calls Tryz.prog 135 #[kpV lo hi a n cap, .int .i64 left] w fun e w' => ∃ r : Int, e = .returned (.int .i64 r) ∧ -1 ≤ r ∧ r ≤ 1048576 ∧ (0 ≤ r → r + n ≤ left) ∧ Below w.heap.size w w' := by
  unfold kpV
  have HL := hid hl
  have HB := hid ((Below.refl w.heap.size w).alloc (Nat.le_refl _) (.cells #[.int .i64 lo, .int .i64 hi, .slice a n cap] 143))
  clear hl
  go_enter Tryz.func135, Tryz.ntmps135
  go_wp2_with (go_at_call 150; refine (szInt64S_any n a cap HL.out left h1 h2 _).mono ?_; rintro e w1 ⟨r, rfl, q1, q2, q3, rfl⟩; have HQ := hid q3; clear q3)
  · go_ret
    exact ⟨-1, rfl, by omega, by omega, by omega, HB.out⟩
  · go_ret
    exact ⟨r, rfl, by omega, by omega, HQ.out, HB.out⟩
set_option maxRecDepth 20000 in
set_option maxHeartbeats 1000000 in
theorem toKeep_any (lo hi : Int) (Z : List Int) (a : Option Addr) (cap : Nat) (hl : Z.length ≤ 1048576) (w : World) (hA : ArgI w a Z) :
    Calls Tryz.prog 140 #[kpV lo hi a Z.length cap] w fun e w' => ∃ b, e = .returned (kpV lo hi (some ⟨b, 0, none⟩) Z.length Z.length) ∧ w.heap.size ≤ b ∧ RowI w' b Z ∧ Below w.heap.size w w' := by
  unfold kpV
  have HA := hid hA
  clear hA
  go_enter Tryz.func140, Tryz.ntmps140
  go_wp2_with (go_at_call 153; refine (toInt64S_any Z a cap hl _ (HA.out.below ((((Below.refl w.heap.size w).alloc (Nat.le_refl _) _).alloc (by simp) _).alloc (by simp; omega) _) (Nat.le_refl _))).mono ?_; rintro e w1 ⟨rfl, hR, hb⟩; have HR := hid hR; have HB := hid hb; obtain ⟨hc, hf⟩ := bcell hb; have hz : w.heap.size + 3 ≤ w1.heap.size := (by have := hb.size; simp at this; omega); clear hb hR)
  refine bodyPost_ret (v := .agg #[.int .i64 lo, .int .i64 hi, .slice (some ⟨w.heap.size + 3, 0, none⟩) Z.length Z.length]) (by simp [results, Tryz.results140, go_sem, hc, hf, hz]) rfl ⟨w.heap.size + 3, rfl, by omega, ?_, ?_⟩
  · have HR' : RowI w1 (w.heap.size + 3) Z := by simpa using HR.out
    exact World.rowIs.setOther (World.rowIs.setOther (World.rowIs.setOther (World.rowIs.setOther HR' (by show _ ≠ _; simp) _) (by show _ ≠ _; simp) _) (by show _ ≠ _; simp) _) (by show _ ≠ _; simp) _
  · exact ((((((Below.refl w.heap.size w).alloc (Nat.le_refl _) _).alloc (by simp) _).alloc (by simp; omega) _).trans (HB.out.mono (by simp; omega))).setCell (by show _ ≤ _; simp; omega) _).setCell (by show _ ≤ _; simp) _ |>.setCell (by show _ ≤ _; simp) _ |>.setCell (by show _ ≤ _; simp) _
set_option maxRecDepth 20000 in
set_option maxHeartbeats 1000000 in
theorem eqKeep_any (lo hi : Int) (Z : List Int) (n : Nat) (hn : Z.length = n) (a1 a2 : Option Addr) (c1 c2 : Nat) (hl : n ≤ 2000000) (w : World) (h1 : ArgI w a1 Z) (h2 : ArgI w a2 Z) :
    Calls Tryz.prog 141 #[kpV lo hi a1 n c1, kpV lo hi a2 n c2] w fun e w' => e = .returned (.bool true) ∧ Below w.heap.size w w' := by
  unfold kpV
  have HB0 := hid (((Below.refl w.heap.size w).alloc (Nat.le_refl _) (.cells #[.int .i64 lo, .int .i64 hi, .slice a1 n c1] 94)).alloc (by simp) (.cells #[.int .i64 lo, .int .i64 hi, .slice a2 n c2] 94))
  have H1 := hid (h1.on HB0.out)
  have H2 := hid (h2.on HB0.out)
  have HN := hid hn
  clear h1 h2 hn
  have e1 : (lo != lo) = false := by simp
  have e2 : (hi != hi) = false := by simp
  go_enter Tryz.func141, Tryz.ntmps141
  go_wp2_with (go_at_call 154; refine (eqInt64S_any Z n HN.out a1 a2 c1 c2 hl _ H1.out H2.out).mono ?_; rintro e w1 ⟨rfl, hb⟩; have HB1 := hid (HB0.out.trans (hb.mono (by simp; omega))); clear hb)
  go_ret
  exact ⟨rfl, HB1.out⟩
theorem specMostI_any (hi : Int) (h1 : -1 ≤ hi) (h2 : hi ≤ 1000) (w : World) : Calls Tryz.prog 152 #[.int .i64 hi] w fun e w' => e = .returned (.int .i64 (mostI hi)) ∧ w' = w := by
  by_cases h : hi < 0
  · have HM : Hid (mostI hi = 1) := by show mostI hi = _; simp [mostI, h]
    go_enter Tryz.func152, Tryz.ntmps152
    go_wp2
    go_ret
    exact ⟨ret_int HM.out.symm, rfl⟩
  · have HM : Hid (mostI hi = hi + 1) := by show mostI hi = _; simp [mostI, h]
    go_enter Tryz.func152, Tryz.ntmps152
    go_wp2
    go_ret
    exact ⟨ret_int HM.out.symm, rfl⟩
theorem implMostI_any (hi : Int) (h1 : -1 ≤ hi) (h2 : hi ≤ 1000) (w : World) : Calls Tryz.prog 101 #[.int .i64 hi] w fun e w' => e = .returned (.int .i64 (mostI hi)) ∧ w' = w := by
  by_cases h : hi = -1
  · subst h
    go_enter Tryz.func101, Tryz.ntmps101
    go_wp2
    go_ret
    exact ⟨rfl, rfl⟩
  · have HM : Hid (mostI hi = hi + 1) := by show mostI hi = _; simp [mostI]; omega
    have h' : (hi == -1) = false := by simpa using h
    go_enter Tryz.func101, Tryz.ntmps101
    go_wp2
    go_ret
    exact ⟨ret_int HM.out.symm, rfl⟩
set_option maxHeartbeats 400000 in
theorem specBounds_any (lo hi : Int) (w : World) : Calls Tryz.prog 151 #[.int .i64 lo, .int .i64 hi] w fun e w' => e = .returned (.bool (spanB lo hi)) ∧ w' = w := by
  by_cases h1 : 0 ≤ lo <;> by_cases h2 : lo ≤ 1000
  · by_cases h3 : hi = -1
    · subst h3
      have HS : Hid (spanB lo (-1) = true) := spanB_end lo h1 h2
      go_enter Tryz.func151, Tryz.ntmps151
      go_wp2
      go_ret
      exact ⟨ret_bool HS.out.symm, rfl⟩
    · have HS : Hid (spanB lo hi = decide (lo ≤ hi ∧ hi ≤ 1000)) := spanB_hi lo hi h1 h2 h3
      have h3' : (hi == -1) = false := by simpa using h3
      by_cases h4 : lo ≤ hi <;> by_cases h5 : hi ≤ 1000
      all_goals
        have HD : Hid (decide (lo ≤ hi ∧ hi ≤ 1000) = (decide (lo ≤ hi) && decide (hi ≤ 1000))) := Bool.decide_and _ _
        go_enter Tryz.func151, Tryz.ntmps151
        go_wp2
        go_ret
        exact ⟨ret_bool (by rw [HS.out, HD.out]; simp [h4, h5]), rfl⟩
  all_goals
    have HS : Hid (spanB lo hi = false) := spanB_lo lo hi (by omega)
    go_enter Tryz.func151, Tryz.ntmps151
    go_wp2
    go_ret
    exact ⟨ret_bool HS.out.symm, rfl⟩
end Go.Proofs.YtbfkbgmkibkbnaaGreatDoor
namespace Go.Proofs.YtbfkbgmkibkbnaaGreatDoor
open Go.RowKit
set_option linter.unusedVariables false
set_option linter.unusedSimpArgs false
/-- A Keep's box. -/
structure KBox (W : World) (q : Nat) (lo hi : Int) (a : Option Addr) (n c : Nat) : Prop where
  lt : q < W.heap.size
  k0 : W.cell? ⟨q, 0, none⟩ = some (.int .i64 lo)
  k1 : W.cell? ⟨q, 1, none⟩ = some (.int .i64 hi)
  k2 : W.cell? ⟨q, 2, none⟩ = some (.slice a n c)
theorem KBox.new (w : World) (lo hi : Int) (a : Option Addr) (n c : Nat) (t : TypeId) : KBox (w.alloc (.cells #[.int .i64 lo, .int .i64 hi, .slice a n c] t)) w.heap.size lo hi a n c :=
  ⟨by simp, by simp [go_sem], by simp [go_sem], by simp [go_sem]⟩
theorem KBox.below {W W' : World} {q : Nat} {lo hi : Int} {a : Option Addr} {n c : Nat} {B : Nat} (h : KBox W q lo hi a n c) (hb : Below B W W') (hq : q < B) : KBox W' q lo hi a n c :=
  ⟨Nat.lt_of_lt_of_le h.lt hb.size, (hb.cell (p := ⟨q, _, none⟩) hq).trans h.k0, (hb.cell (p := ⟨q, _, none⟩) hq).trans h.k1, (hb.cell (p := ⟨q, _, none⟩) hq).trans h.k2⟩
theorem spanB_hi1 {lo hi : Int} (h : spanB lo hi = true) : -1 ≤ hi ∧ hi ≤ 1000 := by have := spanB_parts h; omega
set_option maxRecDepth 20000 in
set_option maxHeartbeats 4000000 in
theorem specKr_any (lo hi : Int) (Z : List Int) (n : Nat) (hn : Z.length = n) (a : Option Addr) (c : Nat) (hl : n ≤ 2000000) (w : World) (hA : ArgI w a Z) :
    Calls Tryz.prog 136 #[kpV lo hi a n c] w fun e w' => e = .returned (.bool (krB lo hi Z)) ∧ Below w.heap.size w w' := by
  unfold kpV
  subst hn
  have HB0 := hid ((Below.refl w.heap.size w).alloc (Nat.le_refl _) (.cells #[.int .i64 lo, .int .i64 hi, .slice a Z.length c] 94))
  have HA := hid (hA.on HB0.out)
  clear hA
  rcases Bool.eq_false_or_eq_true (spanB lo hi) with hs | hs
  rotate_left
  · have HN := hid (krB_span lo hi Z hs)
    go_enter Tryz.func136, Tryz.ntmps136
    go_wp2_with fail
    go_quiet (first | (go_at_call 151; exact Calls.quiet_of_same (specBounds_any _ _ _)))
    go_wp2_with fail
    go_ret
    exact ⟨ret_bool HN.out.symm, below_drewN HB0.out _⟩
  obtain ⟨hh1, hh2⟩ := spanB_hi1 hs
  have HQ := hid (fun w => specMostI_any hi hh1 hh2 w)
  by_cases hm : mostI hi < (Z.length : Int)
  · have HN := hid (krB_most lo hi Z hm)
    go_enter Tryz.func136, Tryz.ntmps136
    go_wp2_with fail
    go_quiet (first | (go_at_call 151; exact Calls.quiet_of_same (specBounds_any _ _ _)) | (go_at_call 152; exact Calls.quiet_of_same (HQ.out _)))
    go_wp2_with fail
    go_ret
    exact ⟨ret_bool HN.out.symm, below_drewN HB0.out _⟩
  have HBX := hid (KBox.new w lo hi a Z.length c 94)
  go_enter Tryz.func136, Tryz.ntmps136
  go_wp2_with fail
  go_quiet (first | (go_at_call 151; exact Calls.quiet_of_same (specBounds_any _ _ _)) | (go_at_call 152; exact Calls.quiet_of_same (HQ.out _)))
  go_wp2_with fail
  have hlz := HBX.out.lt
  generalize w.alloc (.cells #[.int .i64 lo, .int .i64 hi, .slice a Z.length c] 94) = W at *
  go_loopw [3] (fun t wr => ∃ k : Nat, k ≤ Z.length ∧ t = .int .i64 k ∧ riseTo Z k = true ∧ Below W.heap.size W wr) (fun t _ => Z.length - (intOf t).toNat)
  case atStart => exact ⟨0, Nat.zero_le _, rfl, rfl, below_drewN (Below.refl _ _) _⟩
  case round =>
    obtain ⟨k, hk, rfl, hg, hbel⟩ := hrel
    have HG := hid hg
    have HB := hid hbel
    obtain ⟨_, k0, k1, k2⟩ := HBX.out.below hbel hlz
    have hqz := Nat.lt_of_lt_of_le hlz hbel.size
    have hw0 := HB0.out.size
    clear hg hbel
    by_cases hlt : k < Z.length
    · have HS1 := hid (riseTo_succ Z k)
      have HNo := hid (krB_no lo hi Z k hlt)
      rcases HA.out with h0 | ⟨b, off, rfl, hb, hc⟩
      · omega
      have d0 := (HB.out.cell (p := ⟨b, off + k, none⟩) hb).trans (hc k hlt)
      cases k with
      | zero =>
        rw [Nat.add_zero] at d0
        generalize hT : zAt Z 0 = T at *
        clear hT hc
        rcases Bool.eq_false_or_eq_true (timeB T) with ht | ht
        · go_wp2_with fail
          go_quiet ((go_at_call 91; exact Calls.quiet_of_same (specTime_any _ _)))
          go_wp2_with fail
          go_roundw
          case rel => exact ⟨1, by omega, by go_num, by rw [HS1.out, HG.out, ht]; rfl, below_drewN HB.out _⟩
          case measure => simp [intOf]; omega
        · go_wp2_with fail
          go_quiet ((go_at_call 91; exact Calls.quiet_of_same (specTime_any _ _)))
          go_wp2_with fail
          go_ret
          exact ⟨ret_bool (HNo.out (by rw [HS1.out, ht]; simp)).symm, HB0.out.trans (below_drewN (HB.out.mono hw0) _)⟩
      | succ j =>
        have d1 := (HB.out.cell (p := ⟨b, off + j, none⟩) hb).trans (hc j (by omega))
        simp only [Nat.add_sub_cancel] at HS1
        generalize hT : zAt Z (j + 1) = T at *
        generalize hU : zAt Z j = U at *
        clear hT hU hc
        rcases Bool.eq_false_or_eq_true (timeB T) with ht | ht <;> rcases Bool.eq_false_or_eq_true (decide (U < T)) with hx | hx
        · have hx' : decide (T ≤ U) = false := by simp at hx ⊢; omega
          go_wp2_with fail
          go_quiet ((go_at_call 91; exact Calls.quiet_of_same (specTime_any _ _)))
          go_wp2_with fail
          go_roundw
          case rel => exact ⟨j + 2, by omega, by go_num, by rw [HS1.out, HG.out, ht, hx]; simp, below_drewN HB.out _⟩
          case measure => simp [intOf]; omega
        all_goals
          have hx' : decide (T ≤ U) = !(decide (U < T)) := by by_cases h : U < T <;> simp [h] <;> omega
          rw [hx] at hx'
          simp only [Bool.not_true, Bool.not_false] at hx'
          go_wp2_with fail
          go_quiet ((go_at_call 91; exact Calls.quiet_of_same (specTime_any _ _)))
          go_wp2_with fail
          go_ret
          exact ⟨ret_bool (HNo.out (by rw [HS1.out]; simp [ht, hx])).symm, HB0.out.trans (below_drewN (HB.out.mono hw0) _)⟩
    · have hk' : k = Z.length := by omega
      subst hk'
      have HN := hid (krB_yes lo hi Z hs (by omega) HG.out)
      go_wp2_with fail
      go_ret
      exact ⟨ret_bool HN.out.symm, HB0.out.trans (HB.out.mono hw0)⟩
end Go.Proofs.YtbfkbgmkibkbnaaGreatDoor
