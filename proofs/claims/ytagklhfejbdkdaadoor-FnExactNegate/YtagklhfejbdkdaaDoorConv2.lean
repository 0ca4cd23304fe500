/-
  toNodeS and eqNodeS by their contracts.
-/
import Derived.Test.YtagklhfejbdkdaaDoorConv
import Derived.Test.YtagklhfejbdkdaaDoorRight
namespace Go.Proofs.YtagklhfejbdkdaaDoor
open Go.RowKit
set_option linter.unusedVariables false
set_option linter.unusedSimpArgs false
/-- Cell j of a row of nodes of which the first k are laid. -/
def rowF (f : List Nd) (z : Nat → Value) (k j : Nat) : Value := if j < k * 6 then (ndCells (ndAt f (j / 6))).getD (j % 6) undef else z j
theorem rowF_step (f : List Nd) (z : Nat → Value) (k j : Nat) : rowF f z (k + 1) j =
    (if j = k * 6 + 5 then .string (ndAt f k).nm else if j = k * 6 + 4 then .int .i64 (ndAt f k).hi else if j = k * 6 + 3 then .int .i64 (ndAt f k).lo else if j = k * 6 + 2 then .int .i64 (ndAt f k).b else if j = k * 6 + 1 then .int .i64 (ndAt f k).a else if j = k * 6 then .int .i64 (ndAt f k).k else rowF f z k j) := by
  unfold rowF
  by_cases h : j < k * 6
  · have e5 : ¬ j = k * 6 + 5 := by omega
    have e4 : ¬ j = k * 6 + 4 := by omega
    have e3 : ¬ j = k * 6 + 3 := by omega
    have e2 : ¬ j = k * 6 + 2 := by omega
    have e1 : ¬ j = k * 6 + 1 := by omega
    have e0 : ¬ j = k * 6 := by omega
    have h' : j < (k + 1) * 6 := by omega
    simp only [e5, e4, e3, e2, e1, e0, h, h', if_true, if_false]
  · by_cases h' : j < (k + 1) * 6
    · have hj : j = k * 6 ∨ j = k * 6 + 1 ∨ j = k * 6 + 2 ∨ j = k * 6 + 3 ∨ j = k * 6 + 4 ∨ j = k * 6 + 5 := by omega
      have hd : j / 6 = k := by omega
      rcases hj with e | e | e | e | e | e
      all_goals
        have hm : j % 6 = j - k * 6 := by omega
        rw [if_pos h', hd, hm, e]
        simp [ndCells]
    · have e5 : ¬ j = k * 6 + 5 := by omega
      have e4 : ¬ j = k * 6 + 4 := by omega
      have e3 : ¬ j = k * 6 + 3 := by omega
      have e2 : ¬ j = k * 6 + 2 := by omega
      have e1 : ¬ j = k * 6 + 1 := by omega
      have e0 : ¬ j = k * 6 := by omega
      simp only [e5, e4, e3, e2, e1, e0, h, h', if_false]
theorem row_nodes {w : World} {b : Nat} {f : List Nd} {z : Nat → Value} (h : w.rowIs b 46 (f.length * 6) (rowF f z f.length)) : NodesAt w b f := by
  refine ⟨h.lt, fun i hi => ?_⟩
  have key : ∀ r, r < 6 → w.cell? ⟨b, i * 6 + r, none⟩ = some ((ndCells (ndAt f i)).getD r undef) := by
    intro r hr
    rw [h.cell (by omega)]
    unfold rowF
    rw [if_pos (by omega), show (i * 6 + r) / 6 = i by omega, show (i * 6 + r) % 6 = r by omega]
  exact ⟨key 0 (by decide), key 1 (by decide), key 2 (by decide), key 3 (by decide), key 4 (by decide), key 5 (by decide)⟩
theorem store_six {w : World} {b n k : Nat} {f : List Nd} {z : Nat → Value} (h : w.rowIs b 46 n (rowF f z k)) :
    ((((((w.setCell ⟨b, k * 6, none⟩ (.int .i64 (ndAt f k).k)).setCell ⟨b, k * 6 + 1, none⟩ (.int .i64 (ndAt f k).a)).setCell ⟨b, k * 6 + 2, none⟩ (.int .i64 (ndAt f k).b)).setCell ⟨b, k * 6 + 3, none⟩ (.int .i64 (ndAt f k).lo)).setCell ⟨b, k * 6 + 4, none⟩ (.int .i64 (ndAt f k).hi)).setCell ⟨b, k * 6 + 5, none⟩ (.string (ndAt f k).nm)).rowIs b 46 n (rowF f z (k + 1)) :=
  ((((((h.set (k * 6) _).set (k * 6 + 1) _).set (k * 6 + 2) _).set (k * 6 + 3) _).set (k * 6 + 4) _).set (k * 6 + 5) _).congr (fun j hj => (rowF_step f z k j).symm)
theorem run_makeN (n : Nat) (hn : n ≤ 1048576) : ∃ zc, ∀ w : World, Sem.run Tryd.prog (Instr.makeSlice 24 (.int .i64 n) (.int .i64 n)) w = .ok (.slice (some ⟨w.heap.size, 0, none⟩) n n) (w.alloc (.cells (madeCells zc (n * 6)) 46)) := by
  obtain ⟨i0, hi, hz0, hz1, hz2⟩ := info_parts Tryd.infoN
  refine ⟨(Value.agg #[.int .i64 0, .int .i64 0, .int .i64 0, .int .i64 0, .int .i64 0, .string ⟨#[]⟩]).cells, fun w => ?_⟩
  have h := run_make (P := Tryd.prog) w 24 46 i0 _ Tryd.uNs hi hz0 .i64 .i64 n n (by omega) (Int.le_refl _) (by rw [hz2]; omega) (by omega)
  rw [hz1] at h
  simpa using h
set_option maxRecDepth 20000 in
set_option maxHeartbeats 1000000 in
theorem toNodeS_any (f : List Nd) (a : Option Addr) (cap : Nat) (hl : f.length ≤ 1048576) (w : World) (hA : ArgN w a f) :
    Calls Tryd.prog 9 #[.slice a f.length cap] w fun e w' => ∃ b, e = .returned (.slice (some ⟨b, 0, none⟩) f.length f.length) ∧ w.heap.size ≤ b ∧ NodesAt w' b f ∧ (∀ j, w'.frozen? ⟨b, j, none⟩ = false) ∧ Below w.heap.size w w' := by
  obtain ⟨zc, hmk⟩ := run_makeN f.length hl
  have HA := hid hA
  clear hA
  have hr0 : Hid (∃ z, (w.alloc (.cells (madeCells zc (f.length * 6)) 46)).rowIs w.heap.size 46 (f.length * 6) (rowF f z 0)) := by
    refine ⟨fun j => (madeCells zc (f.length * 6)).getD j undef, ?_⟩
    have := World.rowIs_alloc w (madeCells zc (f.length * 6)) 46 (rowF f (fun j => (madeCells zc (f.length * 6)).getD j undef) 0) (fun i hi => by simp [rowF, hi])
    rwa [size_madeCells] at this
  obtain ⟨z, hr0⟩ := hr0.out
  have HR0 := hid hr0
  clear hr0
  go_enter Tryd.func9, Tryd.ntmps9
  go_wp2_with fail
  go_loopw [4] (fun t wr => ∃ k : Nat, k ≤ f.length ∧ t = .int .i64 k ∧ wr.rowIs w.heap.size 46 (f.length * 6) (rowF f z k) ∧ Below w.heap.size w wr) (fun t _ => f.length - (intOf t).toNat)
  case atStart => exact ⟨0, Nat.zero_le _, rfl, HR0.out, (Below.refl _ _).alloc (Nat.le_refl _) _⟩
  case round =>
    clear HR0 hmk
    obtain ⟨k, hk, rfl, hrow, hbel⟩ := hrel
    have HB := hid hbel
    have HRow := hid hrow
    have hsz := hrow.lt
    clear hrow hbel
    by_cases hlt : k < f.length
    · rcases HA.out with h0 | ⟨b, off, rfl, hb, hc⟩
      · omega
      · obtain ⟨c0, c1, c2, c3, c4, c5⟩ := (hc k hlt).below HB.out hb
        clear hc
        go_wp2_with (go_at_call 29; refine (toNode_any (ndAt f k) _).mono ?_; rintro e w1 ⟨rfl, hb1⟩; have HB1 := hid hb1; have HR1 := hid (HRow.out.of_block (hb1.block _ hsz)); have d0 := HR1.out.cell (i := k * 6) (by omega); have d1 := HR1.out.cell (i := k * 6 + 1) (by omega); have d2 := HR1.out.cell (i := k * 6 + 2) (by omega); have d3 := HR1.out.cell (i := k * 6 + 3) (by omega); have d4 := HR1.out.cell (i := k * 6 + 4) (by omega); have d5 := HR1.out.cell (i := k * 6 + 5) (by omega); have f0 := HR1.out.frozen (k * 6); have f1 := HR1.out.frozen (k * 6 + 1); have f2 := HR1.out.frozen (k * 6 + 2); have f3 := HR1.out.frozen (k * 6 + 3); have f4 := HR1.out.frozen (k * 6 + 4); have f5 := HR1.out.frozen (k * 6 + 5); unfold ndV; clear hb1)
        go_roundw
        case rel => exact ⟨k + 1, by omega, by go_num, store_six HR1.out, ((((((HB.out.trans (HB1.out.mono HB.out.size)).setCell (Nat.le_refl _) _).setCell (Nat.le_refl _) _).setCell (Nat.le_refl _) _).setCell (Nat.le_refl _) _).setCell (Nat.le_refl _) _).setCell (Nat.le_refl _) _⟩
        case measure => simp [intOf]; omega
    · have hk' : k = f.length := by omega
      subst hk'
      go_wp2_with fail
      go_ret
      exact ⟨w.heap.size, rfl, Nat.le_refl _, row_nodes HRow.out, fun j => HRow.out.frozen j, HB.out⟩
set_option maxRecDepth 20000 in
set_option maxHeartbeats 2000000 in
theorem eqNodeS_same (f : List Nd) (b1 b2 c1 c2 : Nat) (hl : f.length ≤ 1048576) (w : World) (h1 : NodesAt w b1 f) (h2 : NodesAt w b2 f) :
    Calls Tryd.prog 12 #[.slice (some ⟨b1, 0, none⟩) f.length c1, .slice (some ⟨b2, 0, none⟩) f.length c2] w fun e w' => e = .returned (.bool true) ∧ Below w.heap.size w w' := by
  have H1 := hid h1
  have H2 := hid h2
  clear h1 h2
  go_enter Tryd.func12, Tryd.ntmps12
  go_wp2_with fail
  go_loopw [5] (fun t wr => ∃ k : Nat, k ≤ f.length ∧ t = .int .i64 k ∧ Below w.heap.size w wr) (fun t _ => f.length - (intOf t).toNat)
  case atStart => exact ⟨0, Nat.zero_le _, rfl, Below.refl _ _⟩
  case round =>
    obtain ⟨k, hk, rfl, hbel⟩ := hrel
    have HB := hid hbel
    have hsz := hbel.size
    clear hbel
    by_cases hlt : k < f.length
    · obtain ⟨d0, d1, d2, d3, d4, d5⟩ := (H1.out.2 k hlt).below HB.out H1.out.1
      obtain ⟨e0, e1, e2, e3, e4, e5⟩ := (H2.out.2 k hlt).below HB.out H2.out.1
      go_wp2_with fail
      go_region_with (go_at_call 39; refine (eqNode_same (ndAt f k) _).mono ?_; rintro e w1 ⟨rfl, hb1⟩; have HB1 : Hid (Below w.heap.size w w1) := HB.out.trans (Below.mono ⟨hb1.os, hb1.tape, hb1.output, hb1.size, hb1.block⟩ hsz); clear hb1)
      all_goals
        go_wp2_with fail
        go_roundw
        case rel => exact ⟨k + 1, by omega, by go_num, HB1.out⟩
        case measure => simp [intOf]; omega
    · go_wp2_with fail
      go_ret
      exact ⟨rfl, HB.out⟩
end Go.Proofs.YtagklhfejbdkdaaDoor
