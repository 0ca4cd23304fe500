/-
  The program's cmp.Compare, compareGap, InBounds, within, newMeaning by their contracts; its map of what is known.
-/
import Derived.Test.YtnbegpplbjppoaaDoorMeanU
import Derived.Test.YtnbegpplbjppoaaDoorKey
import Derived.Test.YtnbegpplbjppoaaDoorInN
import Derived.Test.YtnbegpplbjppoaaDoorInBd
namespace Go.Proofs.YtnbegpplbjppoaaDoor
open Go.RowKit
set_option linter.unusedVariables false
set_option linter.unusedSimpArgs false
theorem bounds_any (x : Nd) (a b : Int) (ha : 0 ≤ a ∧ a ≤ 1000000) (hb : 0 ≤ b ∧ b ≤ 1000000) (w : World) : Calls Tryd.prog 67 #[ndV x, .int .i64 a, .int .i64 b] w fun e w' => e = .returned (.bool (inB x.lo x.hi (b - a))) ∧ Below w.heap.size w w' :=
  boundsR_any x.k x.a x.b x.lo x.hi x.nm a b ha hb w
/-- What a meaning is handed round as. -/
def mV (f : List Nd) (L : List Evt) (fb fc eb ec mb : Nat) : Value := .agg #[.slice (some ⟨fb, 0, none⟩) f.length fc, .slice (some ⟨eb, 0, none⟩) L.length ec, .map (some mb)]
theorem bounds_is (x : Nd) (a b : Int) (v : Bool) (hv : inB x.lo x.hi (b - a) = v) (ha : 0 ≤ a ∧ a ≤ 1000000) (hb : 0 ≤ b ∧ b ≤ 1000000) (w : World) : Calls Tryd.prog 67 #[ndV x, .int .i64 a, .int .i64 b] w fun e w' => e = .returned (.bool v) ∧ Below w.heap.size w w' := by
  subst hv
  exact bounds_any x a b ha hb w
/-- The two boxes of a method of a meaning that takes a node. -/
structure Boxes (W : World) (q : Nat) (f : List Nd) (L : List Evt) (fb fc eb ec mb : Nat) (x : Nd) : Prop where
  lt : q + 1 < W.heap.size
  lt0 : q < W.heap.size
  m0 : W.cell? ⟨q, 0, none⟩ = some (.slice (some ⟨fb, 0, none⟩) f.length fc)
  m1 : W.cell? ⟨q, 1, none⟩ = some (.slice (some ⟨eb, 0, none⟩) L.length ec)
  m2 : W.cell? ⟨q, 2, none⟩ = some (.map (some mb))
  x0 : W.cell? ⟨q + 1, 0, none⟩ = some (.int .i64 x.k)
  x1 : W.cell? ⟨q + 1, 1, none⟩ = some (.int .i64 x.a)
  x2 : W.cell? ⟨q + 1, 2, none⟩ = some (.int .i64 x.b)
  x3 : W.cell? ⟨q + 1, 3, none⟩ = some (.int .i64 x.lo)
  x4 : W.cell? ⟨q + 1, 4, none⟩ = some (.int .i64 x.hi)
  x5 : W.cell? ⟨q + 1, 5, none⟩ = some (.string x.nm)
def mO (f : List Nd) (L : List Evt) (fb fc eb ec mb : Nat) : Obj := .cells #[.slice (some ⟨fb, 0, none⟩) f.length fc, .slice (some ⟨eb, 0, none⟩) L.length ec, .map (some mb)] 57
def xO (x : Nd) : Obj := .cells #[.int .i64 x.k, .int .i64 x.a, .int .i64 x.b, .int .i64 x.lo, .int .i64 x.hi, .string x.nm] 43
theorem Boxes.new (w : World) (f : List Nd) (L : List Evt) (fb fc eb ec mb : Nat) (x : Nd) : Boxes ((w.alloc (mO f L fb fc eb ec mb)).alloc (xO x)) w.heap.size f L fb fc eb ec mb x := by
  unfold mO xO
  have e : w.heap.size + 1 = (w.alloc (.cells #[.slice (some ⟨fb, 0, none⟩) f.length fc, .slice (some ⟨eb, 0, none⟩) L.length ec, .map (some mb)] 57)).heap.size := by simp
  refine ⟨by simp, by simp; omega, by simp [go_sem], by simp [go_sem], by simp [go_sem], ?_, ?_, ?_, ?_, ?_, ?_⟩
  all_goals
    rw [e]
    simp [go_sem]
theorem Boxes.save {W W' : World} {q : Nat} {f : List Nd} {L : List Evt} {fb fc eb ec mb : Nat} {x : Nd} {S : Nat → Prop} (h : Boxes W q f L fb fc eb ec mb x) (hs : Save W W' S) (h1 : ¬ S q) (h2 : ¬ S (q + 1)) : Boxes W' q f L fb fc eb ec mb x :=
  ⟨Nat.lt_of_lt_of_le h.lt hs.size, Nat.lt_of_lt_of_le h.lt0 hs.size, (hs.cell (p := ⟨q, _, none⟩) h.lt0 h1).trans h.m0, (hs.cell (p := ⟨q, _, none⟩) h.lt0 h1).trans h.m1, (hs.cell (p := ⟨q, _, none⟩) h.lt0 h1).trans h.m2,
   (hs.cell (p := ⟨q + 1, _, none⟩) h.lt h2).trans h.x0, (hs.cell (p := ⟨q + 1, _, none⟩) h.lt h2).trans h.x1, (hs.cell (p := ⟨q + 1, _, none⟩) h.lt h2).trans h.x2, (hs.cell (p := ⟨q + 1, _, none⟩) h.lt h2).trans h.x3, (hs.cell (p := ⟨q + 1, _, none⟩) h.lt h2).trans h.x4, (hs.cell (p := ⟨q + 1, _, none⟩) h.lt h2).trans h.x5⟩
theorem Boxes.below {W W' : World} {q : Nat} {f : List Nd} {L : List Evt} {fb fc eb ec mb : Nat} {x : Nd} (h : Boxes W q f L fb fc eb ec mb x) (hb : Below W.heap.size W W') : Boxes W' q f L fb fc eb ec mb x :=
  h.save (S := fun _ => False) (Save.of_below hb _ (fun j h1 h2 => by omega)) (fun h => h) (fun h => h)
theorem below_boxes (w : World) (o1 o2 : Obj) : Below w.heap.size w ((w.alloc o1).alloc o2) := ((Below.refl w.heap.size w).alloc (Nat.le_refl _) o1).alloc (by simp) o2
set_option maxRecDepth 20000 in
set_option maxHeartbeats 1000000 in
theorem within_any (f : List Nd) (L : List Evt) (fb fc eb ec mb : Nat) (x : Nd) (j i : Nat) (hj : j < L.length) (hi : i < L.length) (hll : L.length ≤ 60) (ht : ∀ j, j < L.length → 0 ≤ (evAt L j).1 ∧ (evAt L j).1 ≤ 1000000) (w : World) (hE : EvsAt w eb L) (v : Bool) (hv : gapB x L j i = v) :
    Calls Tryd.prog 59 #[mV f L fb fc eb ec mb, ndV x, .int .i64 j, .int .i64 i] w fun e w' => e = .returned (.bool v) ∧ Below w.heap.size w w' := by
  have HBW := hid (below_boxes w (mO f L fb fc eb ec mb) (xO x))
  have HBX := hid (Boxes.new w f L fb fc eb ec mb x)
  have HE := hid (hE.below HBW.out)
  have HC := hid (fun w => bounds_is x (evAt L j).1 (evAt L i).1 v hv (ht j hj) (ht i hi) w)
  clear hE ht hv
  unfold mV ndV
  unfold ndV at HC
  go_enter Tryd.func59, Tryd.ntmps59
  go_wp2_with fail
  unfold mO xO at HBW HBX HE
  generalize (w.alloc (.cells #[.slice (some ⟨fb, 0, none⟩) f.length fc, .slice (some ⟨eb, 0, none⟩) L.length ec, .map (some mb)] 57)).alloc (.cells #[.int .i64 x.k, .int .i64 x.a, .int .i64 x.b, .int .i64 x.lo, .int .i64 x.hi, .string x.nm] 43) = W at *
  have hz := HBW.out.size
  obtain ⟨d0, _⟩ := HE.out.2 j hj
  obtain ⟨d1, _⟩ := HE.out.2 i hi
  have e0 := cell_regrown d0
  have e1 := cell_regrown d1
  have f1 := cell_regrown HBX.out.m1
  have g0 := cell_regrown HBX.out.x0
  have g1 := cell_regrown HBX.out.x1
  have g2 := cell_regrown HBX.out.x2
  have g3 := cell_regrown HBX.out.x3
  have g4 := cell_regrown HBX.out.x4
  have g5 := cell_regrown HBX.out.x5
  have HC' := hid (fun d os => Calls.regrown_of (HC.out (Sort.grow (redrawn W d) os)))
  refine wp_region_quiet_below (by kernel_rfl) (by kernel_rfl) ?_
  repeat (go_big_quiet_step (exact HC'.out _ _))
  refine wpQuiet_nil ?_
  intro _ hw'
  obtain ⟨⟨dq, osq⟩, hw''⟩ := hw'
  subst hw''
  go_wp2_with fail
  go_ret
  exact ⟨rfl, HBW.out.trans ((below_regrown W dq osq).mono hz)⟩
end Go.Proofs.YtnbegpplbjppoaaDoor
