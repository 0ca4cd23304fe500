/-
  FormulaOuts: the laws' own helpers over them: eqFormulaOut, markFormulaOut, heldFormulaOut, by their contracts.
-/
import Derived.Test.YtagklhfejbdkdaaDoorNsT
namespace Go.Proofs.YtagklhfejbdkdaaDoor
open Go.RowKit
set_option linter.unusedVariables false
set_option linter.unusedSimpArgs false
/-- What a FormulaOut is handed round as. -/
def foV (fa : Option Addr) (fn fc : Nat) (code : Int) : Value := .agg #[.slice fa fn fc, .int .i64 code]
/-- The box of a FormulaOut. -/
structure FoBox (W : World) (q : Nat) (fa : Option Addr) (fn fc : Nat) (code : Int) : Prop where
  lt : q < W.heap.size
  o0 : W.cell? ⟨q, 0, none⟩ = some (.slice fa fn fc)
  o1 : W.cell? ⟨q, 1, none⟩ = some (.int .i64 code)
theorem fo_one (w : World) (o : Obj) : Below w.heap.size w (w.alloc o) := (Below.refl _ _).alloc (Nat.le_refl _) o
theorem fo_two (w : World) (o1 o2 : Obj) : Below w.heap.size w ((w.alloc o1).alloc o2) := ((Below.refl w.heap.size w).alloc (Nat.le_refl _) o1).alloc (by simp) o2
theorem fo_cell {W w1 : World} (hb : Below W.heap.size W w1) : (∀ b o, b < W.heap.size → w1.cell? ⟨b, o, none⟩ = W.cell? ⟨b, o, none⟩) ∧ (∀ b o, b < W.heap.size → w1.frozen? ⟨b, o, none⟩ = W.frozen? ⟨b, o, none⟩) :=
  ⟨fun b o h => hb.cell (p := ⟨b, o, none⟩) h, fun b o h => hb.frozen (p := ⟨b, o, none⟩) h⟩
theorem FoBox.save {W W' : World} {q : Nat} {fa : Option Addr} {fn fc : Nat} {code : Int} {S : Nat → Prop} (h : FoBox W q fa fn fc code) (hs : Save W W' S) (h1 : ¬ S q) : FoBox W' q fa fn fc code :=
  ⟨Nat.lt_of_lt_of_le h.lt hs.size, (hs.cell (p := ⟨q, _, none⟩) h.lt h1).trans h.o0, (hs.cell (p := ⟨q, _, none⟩) h.lt h1).trans h.o1⟩
theorem FoBox.on {W W' : World} {q : Nat} {fa : Option Addr} {fn fc : Nat} {code : Int} (h : FoBox W q fa fn fc code) (hb : Below W.heap.size W W') : FoBox W' q fa fn fc code :=
  h.save (S := fun _ => False) (Save.of_below hb _ (fun j h1 h2 => absurd h1 (by omega))) (fun h => h)
theorem FoBox.new (w : World) (fa : Option Addr) (fn fc : Nat) (code : Int) (t : TypeId) : FoBox (w.alloc (.cells #[.slice fa fn fc, .int .i64 code] t)) w.heap.size fa fn fc code :=
  ⟨by simp, by simp [go_sem], by simp [go_sem]⟩
structure FoFree (W : World) (q : Nat) : Prop where
  g0 : W.frozen? ⟨q, 0, none⟩ = false
  g1 : W.frozen? ⟨q, 1, none⟩ = false
theorem FoFree.save {W W' : World} {q : Nat} {S : Nat → Prop} (h : FoFree W q) (hs : Save W W' S) (hq : q < W.heap.size) (h1 : ¬ S q) : FoFree W' q :=
  ⟨(hs.frozen (p := ⟨q, _, none⟩) hq h1).trans h.g0, (hs.frozen (p := ⟨q, _, none⟩) hq h1).trans h.g1⟩
theorem FoFree.on {W W' : World} {q : Nat} (h : FoFree W q) (hb : Below W.heap.size W W') (hq : q < W.heap.size) : FoFree W' q :=
  h.save (S := fun _ => False) (Save.of_below hb _ (fun j h1 h2 => absurd h1 (by omega))) hq (fun h => h)
theorem FoFree.new (w : World) (x y : Value) (t : TypeId) : FoFree (w.alloc (.cells #[x, y] t)) w.heap.size := ⟨by simp [go_sem], by simp [go_sem]⟩
theorem foset2 (w : World) (q : Nat) (x y : Value) : Save w ((w.setCell ⟨q, 0, none⟩ x).setCell ⟨q, 1, none⟩ y) (fun j => j = q) :=
  Save.setCell (S := fun j => j = q) (Save.setCell (S := fun j => j = q) (Save.refl w _) (p := ⟨q, 0, none⟩) (fun _ => rfl) _) (p := ⟨q, 1, none⟩) (fun _ => rfl) _
set_option maxRecDepth 20000 in
set_option maxHeartbeats 2000000 in
theorem eqFoA (F : List Nd) (n : Nat) (hn : F.length = n) (a1 a2 : Option Addr) (d1 d2 : Nat) (code : Int) (hl : n ≤ 1048576) (w : World) (n1 : NsA w a1 F) (n2 : NsA w a2 F) :
    Calls Tryd.prog 11 #[foV a1 n d1 code, foV a2 n d2 code] w fun e w' => e = .returned (.bool true) ∧ Below w.heap.size w w' := by
  unfold foV
  have HB0 := hid (fo_two w (.cells #[.slice a1 n d1, .int .i64 code] 26) (.cells #[.slice a2 n d2, .int .i64 code] 26))
  have N1 := hid (n1.on HB0.out)
  have N2 := hid (n2.on HB0.out)
  have HNS := hid (fun w h1 h2 => eqNs F n hn a1 a2 d1 d2 hl w h1 h2)
  clear n1 n2 hn
  have e1 : (code != code) = false := by simp
  go_enter Tryd.func11, Tryd.ntmps11
  go_wp2_with (go_at_call 12; refine (HNS.out _ N1.out N2.out).mono ?_; rintro e w1 ⟨rfl, hb⟩; have HB1 := hid (HB0.out.trans (hb.mono (by simp; omega))); obtain ⟨hc, hf⟩ := fo_cell hb; have hz : w.heap.size + 2 ≤ w1.heap.size := (by have := hb.size; simp at this; omega); clear hb)
  go_ret
  exact ⟨rfl, HB1.out⟩
set_option maxRecDepth 20000 in
set_option maxHeartbeats 2000000 in
theorem markFoA (F : List Nd) (fa : Option Addr) (fc : Nat) (code : Int) (hl : F.length ≤ 1000000) (w : World) (hap : ∀ q, fa = some q → q.block < w.heap.size) (hf : RowA w fa F.length) :
    Calls Tryd.prog 14 #[foV fa F.length fc code, .int .i64 1] w fun e w' => e = .returned (.int .i64 (1 + F.length * 6 : Nat)) ∧ NsA w' fa (markN 1 F.length) ∧ Save w w' (OfB fa) := by
  unfold foV
  have HB0 := hid (fo_one w (.cells #[.slice fa F.length fc, .int .i64 code] 26))
  have HF := hid (hf.on HB0.out)
  have HMN := hid (fun w h => markNs F.length fa fc (by omega) w h)
  have hS0 : Hid (Save w (w.alloc (.cells #[.slice fa F.length fc, .int .i64 code] 26)) (OfB fa)) := Save.alloc (Save.refl w _) _
  clear hf hap
  go_enter Tryd.func14, Tryd.ntmps14
  go_wp2_with (go_at_call 13; refine (HMN.out _ HF.out).mono ?_; rintro e w1 ⟨rfl, hn1, hs1⟩; have HN1 := hid hn1; have HS1 := hid (hS0.out.trans hs1); clear hn1 hs1)
  go_ret
  exact ⟨rfl, HN1.out, HS1.out⟩
set_option maxRecDepth 20000 in
set_option maxHeartbeats 2000000 in
theorem heldFoA (n : Nat) (fa : Option Addr) (fc : Nat) (code : Int) (hl : n ≤ 1000000) (w : World) (hf : NsA w fa (markN 1 n)) :
    Calls Tryd.prog 15 #[foV fa n fc code, .int .i64 1] w fun e w' => e = .returned (.int .i64 (1 + n * 6 : Nat)) ∧ Below w.heap.size w w' := by
  unfold foV
  have HB0 := hid (fo_one w (.cells #[.slice fa n fc, .int .i64 code] 26))
  have HF := hid (hf.on HB0.out)
  have HMN := hid (fun w h => heldNs n fa fc (by omega) w h)
  have hk1 : ¬ (((1 + n * 6 : Nat) : Int) < 0) := by omega
  clear hf
  go_enter Tryd.func15, Tryd.ntmps15
  go_wp2_with (go_at_call 41; refine (HMN.out _ HF.out).mono ?_; rintro e w1 ⟨rfl, hb1⟩; have HB1 := hid (HB0.out.trans (hb1.mono HB0.out.size)); clear hb1)
  go_ret
  exact ⟨rfl, HB1.out⟩
theorem ofB_flat {b j : Nat} (h : OfB (some ⟨b, 0, none⟩) j) : j = b := by
  obtain ⟨q, e, h⟩ := h
  injection e with e
  subst e
  exact h.symm
/-- A row of nodes that the law holds. -/
structure XRf (w : World) (b : Nat) (f : List Nd) : Prop where
  at' : NodesAt w b f
  row : RowA w (some ⟨b, 0, none⟩) f.length
theorem XRf.on {w w' : World} {b : Nat} {f : List Nd} (h : XRf w b f) (hb : Below w.heap.size w w') : XRf w' b f := ⟨h.at'.below hb h.at'.1, h.row.on hb⟩
end Go.Proofs.YtagklhfejbdkdaaDoor
