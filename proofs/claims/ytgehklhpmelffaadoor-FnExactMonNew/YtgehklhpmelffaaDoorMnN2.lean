/-
  Cells of no event: the program's bareCells, by its contract; plain facts on rows of such cells.
-/
import Derived.Test.YtgehklhpmelffaaDoorMnA
import Derived.Test.YtgehklhpmelffaaDoorCkM
import Derived.Test.YtgehklhpmelffaaDoorInN
namespace Go.Proofs.YtgehklhpmelffaaDoor
open Go.RowKit
set_option linter.unusedVariables false
set_option linter.unusedSimpArgs false
/-- The cells of a formula of which no event is known. -/
def bareC (f : List Nd) : List Cl := f.map fun x => ⟨bareLo x, bareHi x, [], false⟩
theorem bareC_len (f : List Nd) : (bareC f).length = f.length := by simp [bareC]
theorem bareC_at (f : List Nd) (i : Nat) (h : i < f.length) : clAt (bareC f) i = ⟨bareLo (ndAt f i), bareHi (ndAt f i), [], false⟩ := by
  simp [bareC, clAt, ndAt, List.getD, h]
def noTs (i : Nat) : Value := .slice none 0 0
/-- A row of cells none of which has times. -/
def BareRow (w : World) (g : Nat) (f : List Nd) (m : Nat) (z : Nat → Value) (k : Nat) : Prop := w.rowIs g 61 m (rowC (bareC f) noTs z k)
theorem BareRow.cks {w : World} {g : Nat} {f : List Nd} {m : Nat} {z : Nat → Value} (h : BareRow w g f m z f.length) (hm : f.length * 4 ≤ m) : CksAt w (some ⟨g, 0, none⟩) (bareC f) := by
  refine Or.inr ⟨g, 0, rfl, World.rowIs.lt h, fun i hi => ?_⟩
  rw [bareC_len] at hi
  have hr : w.rowIs g 61 m (rowC (bareC f) noTs z f.length) := h
  refine ⟨?_, ?_, ?_, none, 0, ?_, ?_, ?_⟩
  · rw [show 0 + i * 4 = i * 4 by omega, hr.cell (by omega)]
    unfold rowC
    rw [if_pos (by omega), if_pos (by omega), show i * 4 / 4 = i by omega]
  · rw [show 0 + i * 4 + 1 = i * 4 + 1 by omega, hr.cell (by omega)]
    unfold rowC
    rw [if_pos (by omega), if_neg (by omega), if_pos (by omega), show (i * 4 + 1) / 4 = i by omega]
  · rw [show 0 + i * 4 + 3 = i * 4 + 3 by omega, hr.cell (by omega)]
    unfold rowC
    rw [if_pos (by omega), if_neg (by omega), if_neg (by omega), if_neg (by omega), show (i * 4 + 3) / 4 = i by omega]
  · rw [show 0 + i * 4 + 2 = i * 4 + 2 by omega, hr.cell (by omega)]
    unfold rowC
    rw [if_pos (by omega), if_neg (by omega), if_neg (by omega), if_pos (by omega), bareC_at f i hi]
    rfl
  · rw [bareC_at f i hi]
    exact slV_nil
  · rw [bareC_at f i hi]
    exact Or.inl rfl
def zCk : Array Value := #[.int .i64 0, .int .i64 0, .slice none 0 0, .bool false]
def zC (j : Nat) : Value := zCk[j % 4]!
theorem run_makeCk (n : Nat) (hn : n ≤ 1048576) (w : World) : Sem.run Tryd.prog (Instr.makeSlice 25 (.int .i64 n) (.int .i64 n)) w = .ok (.slice (some ⟨w.heap.size, 0, none⟩) n n) (w.alloc (.cells (madeCells zCk (n * 4)) 61)) := by
  obtain ⟨i0, hi, hz0, hz1, hz2⟩ := info_parts Tryd.infoCk
  have h := run_make (P := Tryd.prog) w 25 61 i0 _ Tryd.uCks hi hz0 .i64 .i64 n n (by omega) (Int.le_refl _) (by rw [hz2]; omega) (by omega)
  rw [hz1] at h
  have e : (Value.agg #[.int .i64 0, .int .i64 0, .slice none 0 0, .bool false]).cells = zCk := rfl
  rw [e] at h
  simpa using h
theorem bare_start (w : World) (f : List Nd) : BareRow (w.alloc (.cells (madeCells zCk (f.length * 4)) 61)) w.heap.size f (f.length * 4) zC 0 := by
  have := World.rowIs_alloc w (madeCells zCk (f.length * 4)) 61 (rowC (bareC f) noTs zC 0) (fun i hi => by
    rw [size_madeCells] at hi
    simp only [rowC, Nat.zero_mul, Nat.not_lt_zero, if_false]
    simp [madeCells, hi, zC, zCk])
  rwa [size_madeCells] at this
theorem zC_was (k : Nat) : zC (k * 4 + 3) = .bool false := by
  have h : (k * 4 + 3) % 4 = 3 := by omega
  unfold zC
  rw [h]
  rfl
theorem bare_step (f : List Nd) (k j : Nat) (hk : k < f.length) : rowC (bareC f) noTs zC (k + 1) j = if j = k * 4 + 2 then .slice none 0 0 else if j = k * 4 + 1 then .int .i64 (bareHi (ndAt f k)) else if j = k * 4 then .int .i64 (bareLo (ndAt f k)) else rowC (bareC f) noTs zC k j := by
  have h := rowC_step (bareC f) noTs zC k j (.slice none 0 0)
  have e : (fun i => if i = k then Value.slice none 0 0 else noTs i) = noTs := by
    funext i
    unfold noTs
    split <;> rfl
  rw [e, bareC_at f k hk] at h
  rw [h]
  by_cases h3 : j = k * 4 + 3
  · subst h3
    rw [if_pos rfl, if_neg (by omega), if_neg (by omega), if_neg (by omega)]
    unfold rowC
    rw [if_neg (by omega), zC_was]
  · rw [if_neg h3]
set_option maxRecDepth 20000 in
set_option maxHeartbeats 4000000 in
theorem bareCells_any (f : List Nd) (b cap : Nat) (hl : f.length ≤ 1048576) (w : World) (hN : NodesAt w b f) :
    Calls Tryd.prog 19 #[.slice (some ⟨b, 0, none⟩) f.length cap] w fun e w' => ∃ g, e = .returned (.slice (some ⟨g, 0, none⟩) f.length f.length) ∧ w.heap.size ≤ g ∧ BareRow w' g f (f.length * 4) zC f.length ∧ Below w.heap.size w w' := by
  have HN := hid hN
  have hbw := hN.1
  have hmk := run_makeCk f.length hl
  have HR0 := hid (bare_start w f)
  have HU : Hid (∀ x : Nd, ndV x = .agg #[.int .i64 x.k, .int .i64 x.a, .int .i64 x.b, .int .i64 x.lo, .int .i64 x.hi, .string x.nm]) := fun _ => rfl
  clear hN
  go_enter Tryd.func19, Tryd.ntmps19
  go_wp2_with fail
  clear hmk
  go_loopw [11] (fun t wr => ∃ k : Nat, k ≤ f.length ∧ t = .int .i64 k ∧ BareRow wr w.heap.size f (f.length * 4) zC k ∧ Below w.heap.size w wr) (fun t _ => f.length - (intOf t).toNat)
  case atStart => exact ⟨0, Nat.zero_le _, rfl, HR0.out, (Below.refl _ _).alloc (Nat.le_refl _) _⟩
  case round =>
    obtain ⟨k, hk, rfl, hrow, hbel⟩ := hrel
    have HRow := hid hrow
    have HB := hid hbel
    have hgr := World.rowIs.lt hrow
    clear hrow hbel
    by_cases hlt : k < f.length
    · obtain ⟨n0, n1, n2, n3, n4, n5⟩ := (HN.out.2 k hlt).below HB.out hbw
      have hbr : b < wr.heap.size := by have := HB.out.size; omega
      have HSt := hid (fun j => bare_step f k j hlt)
      have HBa := hid (below_one' wr (.cells #[.int .i64 (ndAt f k).k, .int .i64 (ndAt f k).a, .int .i64 (ndAt f k).b, .int .i64 (ndAt f k).lo, .int .i64 (ndAt f k).hi, .string (ndAt f k).nm] 43))
      have HCl := hid (fun w => bare_is (ndAt f k) _ _ rfl rfl w)
      rw [HU.out] at HCl
      generalize bareLo (ndAt f k) = lo at *
      generalize bareHi (ndAt f k) = hi at *
      generalize ndAt f k = x at *
      go_wp2_with (go_at_call 34; refine (HCl.out _).mono ?_; rintro e w2 ⟨rfl, hb2⟩; have HB2 := hid (HB.out.trans ((HBa.out.trans (hb2.mono HBa.out.size)).mono HB.out.size)); have HR2 := hid ((World.rowIs.alloc HRow.out _).of_block (hb2.block w.heap.size (by simp; omega))); have d0 := HR2.out.cell (i := k * 4) (by omega); have d1 := HR2.out.cell (i := k * 4 + 1) (by omega); have d2 := HR2.out.cell (i := k * 4 + 2) (by omega); have f0 := HR2.out.frozen (k * 4); have f1 := HR2.out.frozen (k * 4 + 1); have f2 := HR2.out.frozen (k * 4 + 2); clear hb2)
      go_roundw
      case rel =>
        refine ⟨k + 1, by omega, by go_num, (((HR2.out.set (k * 4) _).set (k * 4 + 1) _).set (k * 4 + 2) _).congr (fun j hj => ?_), ((HB2.out.setCell (Nat.le_refl _) _).setCell (Nat.le_refl _) _).setCell (Nat.le_refl _) _⟩
        rw [HSt.out]
      case measure => simp [intOf]; omega
    · have hk' : k = f.length := by omega
      subst hk'
      go_wp2_with fail
      go_ret
      exact ⟨w.heap.size, rfl, Nat.le_refl _, HRow.out, HB.out⟩
end Go.Proofs.YtgehklhpmelffaaDoor
