/-
  Rows of events: plain facts; the laws' own helpers over them: szEventS, toEventS, eqEventS, by their contracts.
-/
import Derived.Test.YtnbegpplbjppoaaDoorEvLaw
namespace Go.Proofs.YtnbegpplbjppoaaDoor
open Go.RowKit
set_option linter.unusedVariables false
set_option linter.unusedSimpArgs false
abbrev Evt := Int × List ByteArray
def evAt (E : List Evt) (i : Nat) : Evt := E.getD i (0, [])
/-- An event lies at a place of a block. -/
def EvAt (w : World) (b o : Nat) (e : Evt) : Prop := w.cell? ⟨b, o, none⟩ = some (.int .i64 e.1) ∧ ∃ a c, w.cell? ⟨b, o + 1, none⟩ = some (.slice a e.2.length c) ∧ TsAt w a e.2
def EvsAt (w : World) (b : Nat) (E : List Evt) : Prop := b < w.heap.size ∧ ∀ i, i < E.length → EvAt w b (i * 2) (evAt E i)
theorem EvAt.below {w w' : World} {b o : Nat} {e : Evt} (h : EvAt w b o e) (hb : Below w.heap.size w w') (hlt : b < w.heap.size) : EvAt w' b o e := by
  obtain ⟨h1, a, c, h2, h3⟩ := h
  exact ⟨(hb.cell (p := ⟨b, o, none⟩) hlt).trans h1, a, c, (hb.cell (p := ⟨b, o + 1, none⟩) hlt).trans h2, h3.below hb⟩
theorem EvsAt.below {w w' : World} {b : Nat} {E : List Evt} (h : EvsAt w b E) (hb : Below w.heap.size w w') : EvsAt w' b E :=
  ⟨Nat.lt_of_lt_of_le h.1 hb.size, fun i hi => (h.2 i hi).below hb h.1⟩
/-- An event that came in. -/
def ArgE (w : World) (b o : Nat) (e : Evt) : Prop := w.cell? ⟨b, o, none⟩ = some (.int .i64 e.1) ∧ ∃ a c, w.cell? ⟨b, o + 1, none⟩ = some (.slice a e.2.length c) ∧ ArgT w a e.2
def ArgEs (w : World) (a : Option Addr) (E : List Evt) : Prop := E.length = 0 ∨ ∃ b off, a = some ⟨b, off, none⟩ ∧ b < w.heap.size ∧ ∀ i, i < E.length → ArgE w b (off + i * 2) (evAt E i)
theorem ArgE.below {w w' : World} {b o : Nat} {e : Evt} {B : Nat} (h : ArgE w b o e) (hb : Below B w w') (hB : w.heap.size ≤ B) (hlt : b < w.heap.size) : ArgE w' b o e := by
  obtain ⟨h1, a, c, h2, h3⟩ := h
  exact ⟨(hb.cell (p := ⟨b, o, none⟩) (by show b < B; omega)).trans h1, a, c, (hb.cell (p := ⟨b, o + 1, none⟩) (by show b < B; omega)).trans h2, h3.below hb hB⟩
theorem ArgEs.below {w w' : World} {a : Option Addr} {E : List Evt} {B : Nat} (h : ArgEs w a E) (hb : Below B w w') (hB : w.heap.size ≤ B) : ArgEs w' a E := by
  rcases h with h | ⟨b, off, e, hlt, hc⟩
  · exact Or.inl h
  · exact Or.inr ⟨b, off, e, Nat.lt_of_lt_of_le hlt hb.size, fun i hi => (hc i hi).below hb hB hlt⟩
def EvOk (e : Evt) : Prop := (-9223372036854775808 ≤ e.1 ∧ e.1 ≤ 9223372036854775807) ∧ TxOk e.2 ∧ e.2.length ≤ maxLen
/-- What is asked of a row of events that came in. -/
structure InEs (w : World) (a : Option Addr) (E : List Evt) : Prop where
  arg : ArgEs w a E
  ok : ∀ i, i < E.length → EvOk (evAt E i)
  len : E.length ≤ maxLen
/-- How many names the first k events have together. -/
def sumN (E : List Evt) : Nat → Nat
  | 0 => 0
  | k + 1 => sumN E k + (evAt E k).2.length
theorem sumN_mono (E : List Evt) : ∀ {i k}, i ≤ k → sumN E i ≤ sumN E k := by
  intro i k h
  induction h with
  | refl => exact Nat.le_refl _
  | step _ ih => exact Nat.le_trans ih (Nat.le_add_right _ _)
set_option maxRecDepth 20000 in
set_option maxHeartbeats 1000000 in
theorem szEventS_any (E : List Evt) (a : Option Addr) (cap : Nat) (hs : ∀ i, i < E.length → EvOk (evAt E i)) (hl : E.length ≤ maxLen) (left : Int) (h1 : 0 ≤ left) (h2 : left ≤ 1048576) (w : World) (hA : ArgEs w a E) :
    Calls Tryd.prog 6 #[.slice a E.length cap, .int .i64 left] w fun e w' => ∃ r : Int, e = .returned (.int .i64 r) ∧ -1 ≤ r ∧ r ≤ 1048576 ∧ (0 ≤ r → E.length ≤ 1048576 ∧ (∀ i, i < E.length → (evAt E i).2.length ≤ 1048576) ∧ sumN E E.length ≤ 1048576) ∧ Below w.heap.size w w' := by
  unfold maxLen at hl
  have HS := hid hs
  have HA := hid hA
  clear hs hA
  by_cases h : left - (E.length : Int) < 0
  · go_enter Tryd.func6, Tryd.ntmps6
    go_wp2
    go_ret
    exact ⟨-1, rfl, by omega, by omega, by omega, Below.refl _ _⟩
  go_enter Tryd.func6, Tryd.ntmps6
  go_wp2_with fail
  go_loopw [1, 5] (fun l t wr => ∃ (k : Nat) (r : Int), k ≤ E.length ∧ t = .int .i64 k ∧ l = .int .i64 r ∧ 0 ≤ r ∧ r ≤ 1048576 ∧ r + sumN E k ≤ 1048576 ∧ (∀ i, i < k → (evAt E i).2.length ≤ 1048576) ∧ Below w.heap.size w wr) (fun _ t _ => E.length - (intOf t).toNat)
  case atStart => exact ⟨0, _, Nat.zero_le _, rfl, rfl, by omega, by omega, by simp [sumN]; omega, fun i h => by omega, Below.refl _ _⟩
  case round =>
    obtain ⟨k, r, hk, rfl, rfl, hr1, hr2, hr3, hsz, hbel⟩ := hrel
    have HS1 := hid (show sumN E (k + 1) = sumN E k + (evAt E k).2.length from rfl)
    have HZ := hid hsz
    have HB := hid hbel
    clear hsz hbel
    by_cases hlt : k < E.length
    · rcases HA.out with h0 | ⟨b, off, rfl, hb, hc⟩
      · omega
      · obtain ⟨c0, a', c', c1, hT⟩ := (hc k hlt).below HB.out (Nat.le_refl _) hb
        obtain ⟨_, ho1, ho2⟩ := HS.out k hlt
        have HC := hid (fun w hw => szEvent_any (evAt E k).1 (evAt E k).2 a' c' ho1 ho2 r hr1 hr2 w hw)
        have HT := hid hT
        clear hc h hT ho1 ho2
        go_wp2_with (go_at_call 16; refine (HC.out _ HT.out).mono ?_; rintro e w1 ⟨r', rfl, q1, q2, q3, hb1⟩; have HB1 : Hid (Below w.heap.size w w1) := HB.out.trans (hb1.mono HB.out.size); have HQ := hid q3; clear q3 hb1)
        · go_ret
          exact ⟨-1, rfl, by omega, by omega, by omega, HB1.out⟩
        · go_roundw
          case rel => exact ⟨k + 1, r', by omega, by go_num, rfl, by omega, q2, by have := (HQ.out (by omega)).2.2; rw [HS1.out]; push_cast; omega, fun i hi => by
            by_cases e : i = k
            · subst e; exact (HQ.out (by omega)).1
            · exact HZ.out i (by omega), HB1.out⟩
          case measure => simp [intOf]; omega
    · go_wp2_with fail
      go_ret
      have hk' : k = E.length := by omega
      exact ⟨r, rfl, by omega, by omega, fun _ => ⟨by omega, fun i hi => HZ.out i (by omega), by subst hk'; omega⟩, HB.out⟩
/-- Cell j of a row of events of which the first k are laid. -/
def rowE (E : List Evt) (V : Nat → Value) (z : Nat → Value) (k j : Nat) : Value := if j < k * 2 then (if j % 2 = 0 then .int .i64 (evAt E (j / 2)).1 else V (j / 2)) else z j
theorem rowE_step (E : List Evt) (V : Nat → Value) (z : Nat → Value) (k j : Nat) (v : Value) : rowE E (fun i => if i = k then v else V i) z (k + 1) j = if j = k * 2 + 1 then v else if j = k * 2 then .int .i64 (evAt E k).1 else rowE E V z k j := by
  unfold rowE
  by_cases h : j < k * 2
  · have e1 : ¬ j = k * 2 + 1 := by omega
    have e0 : ¬ j = k * 2 := by omega
    have h' : j < (k + 1) * 2 := by omega
    have hd : ¬ j / 2 = k := by omega
    simp only [e1, e0, h, h', hd, if_true, if_false]
  · by_cases h' : j < (k + 1) * 2
    · have hd : j / 2 = k := by omega
      have hj : j = k * 2 ∨ j = k * 2 + 1 := by omega
      rcases hj with e | e
      · have hm : j % 2 = 0 := by omega
        have e1 : ¬ j = k * 2 + 1 := by omega
        rw [if_pos h', if_pos hm, if_neg e1, if_pos e, hd]
      · have hm : ¬ j % 2 = 0 := by omega
        rw [if_pos h', if_neg hm, if_pos e]
        simp [hd]
    · have e1 : ¬ j = k * 2 + 1 := by omega
      have e0 : ¬ j = k * 2 := by omega
      simp only [e1, e0, h, h', if_false]
def nmV (A : Nat → Nat) (E : List Evt) (i : Nat) : Value := .slice (some ⟨A i, 0, none⟩) (evAt E i).2.length (evAt E i).2.length
/-- A row of events that is wholly owned: k of them are laid, their names each in a block of its own behind. -/
structure EvRow (w : World) (b : Nat) (E : List Evt) (A : Nat → Nat) (z : Nat → Value) (k : Nat) : Prop where
  row : w.rowIs b 45 (E.length * 2) (rowE E (nmV A E) z k)
  names : ∀ i, i < k → RowS w (A i) (evAt E i).2
  above : ∀ i, i < k → b < A i
  rising : ∀ i j, i < j → j < k → A i < A j
theorem EvRow.at {w : World} {b : Nat} {E : List Evt} {A : Nat → Nat} {z : Nat → Value} (h : EvRow w b E A z E.length) : EvsAt w b E := by
  refine ⟨h.row.lt, fun i hi => ⟨?_, some ⟨A i, 0, none⟩, (evAt E i).2.length, ?_, (h.names i hi).ts⟩⟩
  · rw [h.row.cell (by omega)]
    unfold rowE
    rw [if_pos (by omega), if_pos (by omega), show i * 2 / 2 = i by omega]
  · rw [h.row.cell (by omega)]
    unfold rowE
    rw [if_pos (by omega), if_neg (by omega), show (i * 2 + 1) / 2 = i by omega]
    rfl
theorem EvRow.below {w w' : World} {b : Nat} {E : List Evt} {A : Nat → Nat} {z : Nat → Value} {k : Nat} (h : EvRow w b E A z k) (hb : Below w.heap.size w w') : EvRow w' b E A z k :=
  ⟨h.row.of_block (hb.block b h.row.lt), fun i hi => (h.names i hi).below hb (World.rowIs.lt (h.names i hi)), h.above, h.rising⟩
theorem Tryd.uEvs : Tryd.prog.underlying 29 = some (.slice 45) := by kernel_rfl
theorem Tryd.infoEv : (Tryd.prog.info? 45).map (fun i => (i.zero, i.size, i.bytes)) = some (some (.agg #[.int .i64 0, .slice none 0 0]), 2, 32) := by kernel_rfl
theorem run_makeE (n : Nat) (hn : n ≤ 1048576) : ∃ zc, ∀ w : World, Sem.run Tryd.prog (Instr.makeSlice 29 (.int .i64 n) (.int .i64 n)) w = .ok (.slice (some ⟨w.heap.size, 0, none⟩) n n) (w.alloc (.cells (madeCells zc (n * 2)) 45)) := by
  obtain ⟨i0, hi, hz0, hz1, hz2⟩ := info_parts Tryd.infoEv
  refine ⟨(Value.agg #[.int .i64 0, .slice none 0 0]).cells, fun w => ?_⟩
  have h := run_make (P := Tryd.prog) w 29 45 i0 _ Tryd.uEvs hi hz0 .i64 .i64 n n (by omega) (Int.le_refl _) (by rw [hz2]; omega) (by omega)
  rw [hz1] at h
  simpa using h
set_option maxRecDepth 20000 in
set_option maxHeartbeats 1000000 in
theorem toEventS_any (E : List Evt) (a : Option Addr) (cap : Nat) (hl : E.length ≤ 1048576) (hl2 : ∀ i, i < E.length → (evAt E i).2.length ≤ 1048576) (w : World) (hA : ArgEs w a E) :
    Calls Tryd.prog 9 #[.slice a E.length cap] w fun e w' => ∃ b A z, e = .returned (.slice (some ⟨b, 0, none⟩) E.length E.length) ∧ w.heap.size ≤ b ∧ EvRow w' b E A z E.length ∧ Below w.heap.size w w' := by
  obtain ⟨zc, hmk⟩ := run_makeE E.length hl
  have HA := hid hA
  have HL2 := hid hl2
  clear hA hl2
  have hr0 : Hid (∃ z, (w.alloc (.cells (madeCells zc (E.length * 2)) 45)).rowIs w.heap.size 45 (E.length * 2) (rowE E (nmV (fun _ => 0) E) z 0)) := by
    refine ⟨fun j => (madeCells zc (E.length * 2)).getD j undef, ?_⟩
    have := World.rowIs_alloc w (madeCells zc (E.length * 2)) 45 (rowE E (nmV (fun _ => 0) E) (fun j => (madeCells zc (E.length * 2)).getD j undef) 0) (fun i hi => by simp [rowE, hi])
    rwa [size_madeCells] at this
  obtain ⟨z, hr0⟩ := hr0.out
  have HR0 := hid hr0
  clear hr0
  go_enter Tryd.func9, Tryd.ntmps9
  go_wp2_with fail
  go_loopw [4] (fun t wr => ∃ (k : Nat) (A : Nat → Nat), k ≤ E.length ∧ t = .int .i64 k ∧ EvRow wr w.heap.size E A z k ∧ Below w.heap.size w wr) (fun t _ => E.length - (intOf t).toNat)
  case atStart => exact ⟨0, fun _ => 0, Nat.zero_le _, rfl, ⟨HR0.out, fun i h => by omega, fun i h => by omega, fun i j _ h => by omega⟩, (Below.refl _ _).alloc (Nat.le_refl _) _⟩
  case round =>
    clear HR0 hmk
    obtain ⟨k, A, hk, rfl, hrow, hbel⟩ := hrel
    have HB := hid hbel
    have HRow := hid hrow
    have hsz := hrow.row.lt
    clear hrow hbel
    by_cases hlt : k < E.length
    · rcases HA.out with h0 | ⟨b, off, rfl, hb, hc⟩
      · omega
      · obtain ⟨c0, a', c', c1, hT⟩ := (hc k hlt).below HB.out (Nat.le_refl _) hb
        have HT := hid hT
        have hl3 := HL2.out k hlt
        clear hc hT
        go_wp2_with (go_at_call 18; refine (toEvent_any (evAt E k).1 (evAt E k).2 a' c' hl3 _ HT.out).mono ?_; rintro e w1 ⟨b1, rfl, hb1, hR1, hbl1⟩; have HB1 := hid hbl1; have HE1 := hid (HRow.out.below hbl1); have HS1 := hid hR1; have hlt1 := World.rowIs.lt hR1; have d0 := HE1.out.row.cell (i := k * 2) (by omega); have d1 := HE1.out.row.cell (i := k * 2 + 1) (by omega); have f0 := HE1.out.row.frozen (k * 2); have f1 := HE1.out.row.frozen (k * 2 + 1); clear hR1 hbl1)
        go_roundw
        case rel =>
          refine ⟨k + 1, fun i => if i = k then b1 else A i, by omega, by go_num, ⟨?_, fun i hi => ?_, fun i hi => ?_, fun i j hij hj => ?_⟩, ((HB.out.trans (HB1.out.mono HB.out.size)).setCell (Nat.le_refl _) _).setCell (Nat.le_refl _) _⟩
          · refine ((HE1.out.row.set (k * 2) _).set (k * 2 + 1) _).congr (fun j hj => ?_)
            have := rowE_step E (nmV A E) z k j (.slice (some ⟨b1, 0, none⟩) (evAt E k).2.length (evAt E k).2.length)
            rw [← this]
            congr 1
            funext i
            unfold nmV
            by_cases e : i = k
            · subst e; simp
            · simp [e]
          · show RowS _ (if i = k then b1 else A i) _
            split
            · next e =>
              subst e
              exact World.rowIs.setOther (World.rowIs.setOther HS1.out (by show _ ≠ _; simp only; omega) _) (by show _ ≠ _; simp only; omega) _
            · have h1 := HRow.out.above i (by omega)
              exact World.rowIs.setOther (World.rowIs.setOther (HE1.out.names i (by omega)) (by show _ ≠ _; simp only; omega) _) (by show _ ≠ _; simp only; omega) _
          · show _ < (if i = k then b1 else A i)
            split
            · omega
            · exact HRow.out.above i (by omega)
          · show (if i = k then b1 else A i) < (if j = k then b1 else A j)
            have := World.rowIs.lt (HRow.out.names i (by omega))
            split
            · omega
            · split
              · omega
              · exact HRow.out.rising i j hij (by omega)
        case measure => simp [intOf]; omega
    · have hk' : k = E.length := by omega
      subst hk'
      go_wp2_with fail
      go_ret
      exact ⟨w.heap.size, A, z, rfl, Nat.le_refl _, HRow.out, HB.out⟩
theorem TsAt.drew {w : World} {a : Option Addr} {S : List ByteArray} (h : TsAt w a S) : TsAt w.drew a S := h
/-- A slice of events, of which nothing is asked where it is empty. -/
def EsAt (w : World) (a : Option Addr) (E : List Evt) : Prop := E.length = 0 ∨ ∃ b, a = some ⟨b, 0, none⟩ ∧ EvsAt w b E
theorem EsAt.below {w w' : World} {a : Option Addr} {E : List Evt} (h : EsAt w a E) (hb : Below w.heap.size w w') : EsAt w' a E :=
  h.imp id (fun ⟨b, e, h1⟩ => ⟨b, e, h1.below hb⟩)
theorem EvsAt.es {w : World} {b : Nat} {E : List Evt} (h : EvsAt w b E) : EsAt w (some ⟨b, 0, none⟩) E := Or.inr ⟨b, rfl, h⟩
set_option maxRecDepth 20000 in
set_option maxHeartbeats 2000000 in
theorem eqEventS_any (E : List Evt) (n : Nat) (hn : E.length = n) (a1 a2 : Option Addr) (c1 c2 : Nat) (hl : n ≤ 1048576) (hl2 : ∀ i, i < E.length → (evAt E i).2.length ≤ 1048576) (w : World) (h1 : EsAt w a1 E) (h2 : EsAt w a2 E) :
    Calls Tryd.prog 12 #[.slice a1 n c1, .slice a2 n c2] w fun e w' => e = .returned (.bool true) ∧ Below w.heap.size w w' := by
  subst hn
  have H1 := hid h1
  have H2 := hid h2
  have HL2 := hid hl2
  clear h1 h2 hl2
  go_enter Tryd.func12, Tryd.ntmps12
  go_wp2_with fail
  go_loopw [5] (fun t wr => ∃ k : Nat, k ≤ E.length ∧ t = .int .i64 k ∧ Below w.heap.size w wr) (fun t _ => E.length - (intOf t).toNat)
  case atStart => exact ⟨0, Nat.zero_le _, rfl, Below.refl _ _⟩
  case round =>
    obtain ⟨k, hk, rfl, hbel⟩ := hrel
    have HB := hid hbel
    have hsz := hbel.size
    clear hbel
    by_cases hlt : k < E.length
    · rcases H1.out with h0 | ⟨b1, rfl, hb1, hc1⟩
      · omega
      rcases H2.out with h0 | ⟨b2, rfl, hb2, hc2⟩
      · omega
      obtain ⟨d0, x1, y1, d1, hT1⟩ := (hc1 k hlt).below HB.out hb1
      obtain ⟨e0, x2, y2, e1, hT2⟩ := (hc2 k hlt).below HB.out hb2
      have HT1 := hid hT1
      have HT2 := hid hT2
      have hl3 := HL2.out k hlt
      clear hc1 hc2 hT1 hT2
      go_wp2_with fail
      go_region_with (go_at_call 20; refine (eqEvent_any (evAt E k).1 (evAt E k).2 _ rfl x1 x2 y1 y2 hl3 _ HT1.out.drew HT2.out.drew).mono ?_; rintro e w1 ⟨rfl, hb1'⟩; have HB1 : Hid (Below w.heap.size w w1) := HB.out.trans (Below.mono ⟨hb1'.os, hb1'.tape, hb1'.output, hb1'.size, hb1'.block⟩ hsz); clear hb1')
      all_goals
        go_wp2_with fail
        go_roundw
        case rel => exact ⟨k + 1, by omega, by go_num, HB1.out⟩
        case measure => simp [intOf]; omega
    · go_wp2_with fail
      go_ret
      exact ⟨rfl, HB.out⟩
end Go.Proofs.YtnbegpplbjppoaaDoor
