/-
  Monitors: the laws' own helpers over them: szMonitor, toMonitor, eqMonitor, by their contracts.
-/
import Derived.Test.YtgehklhpmelffaaDoorCkA
import Derived.Test.YtgehklhpmelffaaDoorMarkN
import Derived.Test.YtgehklhpmelffaaDoorInN
namespace Go.Proofs.YtgehklhpmelffaaDoor
open Go.RowKit
set_option linter.unusedVariables false
set_option linter.unusedSimpArgs false
/-- What a Monitor is handed round as. -/
def moV (fa : Option Addr) (fn fc : Nat) (cnt now : Int) (ca : Option Addr) (cn cc : Nat) : Value := .agg #[.slice fa fn fc, .int .i64 cnt, .int .i64 now, .slice ca cn cc]
/-- A Monitor lies in a box. -/
structure MBox (W : World) (q : Nat) (fa : Option Addr) (fn fc : Nat) (cnt now : Int) (ca : Option Addr) (cn cc : Nat) : Prop where
  lt : q < W.heap.size
  m0 : W.cell? ⟨q, 0, none⟩ = some (.slice fa fn fc)
  m1 : W.cell? ⟨q, 1, none⟩ = some (.int .i64 cnt)
  m2 : W.cell? ⟨q, 2, none⟩ = some (.int .i64 now)
  m3 : W.cell? ⟨q, 3, none⟩ = some (.slice ca cn cc)
theorem MBox.new (w : World) (fa : Option Addr) (fn fc : Nat) (cnt now : Int) (ca : Option Addr) (cn cc : Nat) (t : TypeId) : MBox (w.alloc (.cells #[.slice fa fn fc, .int .i64 cnt, .int .i64 now, .slice ca cn cc] t)) w.heap.size fa fn fc cnt now ca cn cc :=
  ⟨by simp, by simp [go_sem], by simp [go_sem], by simp [go_sem], by simp [go_sem]⟩
theorem MBox.save {W W' : World} {q : Nat} {fa : Option Addr} {fn fc : Nat} {cnt now : Int} {ca : Option Addr} {cn cc : Nat} {S : Nat → Prop} (h : MBox W q fa fn fc cnt now ca cn cc) (hs : Save W W' S) (h1 : ¬ S q) : MBox W' q fa fn fc cnt now ca cn cc :=
  ⟨Nat.lt_of_lt_of_le h.lt hs.size, (hs.cell (p := ⟨q, _, none⟩) h.lt h1).trans h.m0, (hs.cell (p := ⟨q, _, none⟩) h.lt h1).trans h.m1, (hs.cell (p := ⟨q, _, none⟩) h.lt h1).trans h.m2, (hs.cell (p := ⟨q, _, none⟩) h.lt h1).trans h.m3⟩
theorem MBox.on {W W' : World} {q : Nat} {fa : Option Addr} {fn fc : Nat} {cnt now : Int} {ca : Option Addr} {cn cc : Nat} (h : MBox W q fa fn fc cnt now ca cn cc) (hb : Below W.heap.size W W') : MBox W' q fa fn fc cnt now ca cn cc :=
  h.save (S := fun _ => False) (Save.of_below hb _ (fun j h1 h2 => absurd h1 (by omega))) (fun h => h)
structure MFree (W : World) (q : Nat) : Prop where
  g0 : W.frozen? ⟨q, 0, none⟩ = false
  g1 : W.frozen? ⟨q, 1, none⟩ = false
  g2 : W.frozen? ⟨q, 2, none⟩ = false
  g3 : W.frozen? ⟨q, 3, none⟩ = false
theorem MFree.save {W W' : World} {q : Nat} {S : Nat → Prop} (h : MFree W q) (hs : Save W W' S) (hq : q < W.heap.size) (h1 : ¬ S q) : MFree W' q :=
  ⟨(hs.frozen (p := ⟨q, _, none⟩) hq h1).trans h.g0, (hs.frozen (p := ⟨q, _, none⟩) hq h1).trans h.g1, (hs.frozen (p := ⟨q, _, none⟩) hq h1).trans h.g2, (hs.frozen (p := ⟨q, _, none⟩) hq h1).trans h.g3⟩
theorem MFree.on {W W' : World} {q : Nat} (h : MFree W q) (hb : Below W.heap.size W W') (hq : q < W.heap.size) : MFree W' q :=
  h.save (S := fun _ => False) (Save.of_below hb _ (fun j h1 h2 => absurd h1 (by omega))) hq (fun h => h)
theorem MFree.set {W : World} {q : Nat} (h : MFree W q) (a : Addr) (v : Value) : MFree (W.setCell a v) q :=
  ⟨by simpa using h.g0, by simpa using h.g1, by simpa using h.g2, by simpa using h.g3⟩
theorem MFree.new (w : World) (x y z u : Value) (t : TypeId) : MFree (w.alloc (.cells #[x, y, z, u] t)) w.heap.size :=
  ⟨by simp [go_sem], by simp [go_sem], by simp [go_sem], by simp [go_sem]⟩
theorem MBox.set3 {W : World} {q : Nat} {fa : Option Addr} {fn fc : Nat} {cnt now : Int} {ca : Option Addr} {cn cc : Nat} (h : MBox W q fa fn fc cnt now ca cn cc) (fa' : Option Addr) (fn' fc' : Nat) (cnt' now' : Int) : MBox (((W.setCell ⟨q, 0, none⟩ (.slice fa' fn' fc')).setCell ⟨q, 1, none⟩ (.int .i64 cnt')).setCell ⟨q, 2, none⟩ (.int .i64 now')) q fa' fn' fc' cnt' now' ca cn cc :=
  ⟨by simpa using h.lt, by simp [go_sem, h.m0], by simp [go_sem, h.m1], by simp [go_sem, h.m2], by simp [go_sem, h.m3]⟩
/-- Three boxes of a call that makes a Monitor. -/
theorem mon3 (w : World) (o1 : Obj) : MBox (((w.alloc o1).alloc (.cells #[.slice none 0 0, .int .i64 0, .int .i64 0, .slice none 0 0] 27)).alloc (.cells #[.slice none 0 0, .int .i64 0, .int .i64 0, .slice none 0 0] 27)) (w.heap.size + 1) none 0 0 0 0 none 0 0 ∧ MFree (((w.alloc o1).alloc (.cells #[.slice none 0 0, .int .i64 0, .int .i64 0, .slice none 0 0] 27)).alloc (.cells #[.slice none 0 0, .int .i64 0, .int .i64 0, .slice none 0 0] 27)) (w.heap.size + 1) ∧ MBox (((w.alloc o1).alloc (.cells #[.slice none 0 0, .int .i64 0, .int .i64 0, .slice none 0 0] 27)).alloc (.cells #[.slice none 0 0, .int .i64 0, .int .i64 0, .slice none 0 0] 27)) (w.heap.size + 2) none 0 0 0 0 none 0 0 ∧ MFree (((w.alloc o1).alloc (.cells #[.slice none 0 0, .int .i64 0, .int .i64 0, .slice none 0 0] 27)).alloc (.cells #[.slice none 0 0, .int .i64 0, .int .i64 0, .slice none 0 0] 27)) (w.heap.size + 2) := by
  have e1 : w.heap.size + 1 = (w.alloc o1).heap.size := by simp
  have e2 : w.heap.size + 2 = ((w.alloc o1).alloc (.cells #[.slice none 0 0, .int .i64 0, .int .i64 0, .slice none 0 0] 27)).heap.size := by simp
  refine ⟨?_, ?_, ?_, ?_⟩
  · rw [e1]; exact (MBox.new _ _ _ _ _ _ _ _ _ _).on (below_one' _ _)
  · rw [e1]; exact (MFree.new _ _ _ _ _ _).on (below_one' _ _) (by simp)
  · rw [e2]; exact MBox.new _ _ _ _ _ _ _ _ _ _
  · rw [e2]; exact MFree.new _ _ _ _ _ _
theorem gset3 (w : World) (q : Nat) (x y z : Value) : Save w (((w.setCell ⟨q, 0, none⟩ x).setCell ⟨q, 1, none⟩ y).setCell ⟨q, 2, none⟩ z) (fun j => j = q) :=
  Save.setCell (S := fun j => j = q) (Save.setCell (S := fun j => j = q) (Save.setCell (S := fun j => j = q) (Save.refl w _) (p := ⟨q, 0, none⟩) (fun _ => rfl) _) (p := ⟨q, 1, none⟩) (fun _ => rfl) _) (p := ⟨q, 2, none⟩) (fun _ => rfl) _
theorem gset1 (w : World) (q i : Nat) (x : Value) : Save w (w.setCell ⟨q, i, none⟩ x) (fun j => j = q) := Save.setCell (S := fun j => j = q) (Save.refl w _) (p := ⟨q, i, none⟩) (fun _ => rfl) _
theorem gset4 (w : World) (q : Nat) (x y z u : Value) : Save w ((((w.setCell ⟨q, 0, none⟩ x).setCell ⟨q, 1, none⟩ y).setCell ⟨q, 2, none⟩ z).setCell ⟨q, 3, none⟩ u) (fun j => j = q) :=
  Save.setCell (S := fun j => j = q) (gset3 w q x y z) (p := ⟨q, 3, none⟩) (fun _ => rfl) _
theorem CkRow.save {w w' : World} {b : Nat} {C : List Cl} {A : Nat → Nat} {z : Nat → Value} {k : Nat} {S : Nat → Prop} (h : CkRow w b C A z k) (hs : Save w w' S) (h1 : ¬ S b) (h2 : ∀ i, i < k → ¬ S (A i)) : CkRow w' b C A z k :=
  ⟨h.row.of_block (hs.block b h.row.lt h1), fun i hi => World.rowIs.of_block (h.times i hi) (hs.block _ (World.rowIs.lt (h.times i hi)) (h2 i hi)), h.above, h.rising⟩
set_option maxRecDepth 20000 in
set_option maxHeartbeats 1000000 in
theorem szNodeS_le (f : List Nd) (a : Option Addr) (cap : Nat) (hs : ∀ i, i < f.length → (ndAt f i).nm.size ≤ maxLen) (hl : f.length ≤ maxLen) (w : World) (hA : ArgN w a f) :
    Calls Tryd.prog 4 #[.slice a f.length cap, .int .i64 1048576] w fun e w' => ∃ r : Int, e = .returned (.int .i64 r) ∧ -1 ≤ r ∧ r ≤ 1048576 ∧ (0 ≤ r → f.length ≤ 1048576 ∧ ∀ i, i < f.length → (ndAt f i).nm.size ≤ 1048576) ∧ Below w.heap.size w w' := by
  unfold maxLen at hl
  have HS := hid hs
  have HA := hid hA
  clear hs hA
  by_cases h : 1048576 < f.length
  · have h' : (1048576 : Int) - (f.length : Int) < 0 := by omega
    go_enter Tryd.func4, Tryd.ntmps4
    go_wp2
    go_ret
    exact ⟨-1, rfl, by omega, by omega, by omega, Below.refl _ _⟩
  have h' : ¬ (1048576 : Int) - (f.length : Int) < 0 := by omega
  go_enter Tryd.func4, Tryd.ntmps4
  go_wp2_with fail
  go_loopw [1, 5] (fun l t wr => ∃ (k : Nat) (r : Int), k ≤ f.length ∧ t = .int .i64 k ∧ l = .int .i64 r ∧ 0 ≤ r ∧ r ≤ 1048576 ∧ (∀ i, i < k → (ndAt f i).nm.size ≤ 1048576) ∧ Below w.heap.size w wr) (fun _ t _ => f.length - (intOf t).toNat)
  case atStart => exact ⟨0, _, Nat.zero_le _, rfl, rfl, by omega, by omega, fun i h => by omega, Below.refl _ _⟩
  case round =>
    obtain ⟨k, r, hk, rfl, rfl, hr1, hr2, hsz, hbel⟩ := hrel
    have HZ := hid hsz
    have HB := hid hbel
    clear hsz hbel
    by_cases hlt : k < f.length
    · rcases HA.out with h0 | ⟨b, off, rfl, hb, hc⟩
      · omega
      · obtain ⟨c0, c1, c2, c3, c4, c5⟩ := (hc k hlt).below HB.out hb
        clear hc
        have HX := hid (HS.out k hlt)
        have HC := hid (fun w => szNode_any (ndAt f k) HX.out r hr1 hr2 w)
        clear h'
        go_wp2_with (go_at_call 13; refine (HC.out _).mono ?_; rintro e w1 ⟨r', rfl, q1, q2, q3, hb1⟩; have HB1 : Hid (Below w.heap.size w w1) := HB.out.trans (hb1.mono HB.out.size); have HQ := hid q3; clear q3 hb1)
        · go_ret
          exact ⟨-1, rfl, by omega, by omega, by omega, HB1.out⟩
        · go_roundw
          case rel => exact ⟨k + 1, r', by omega, by go_num, rfl, by omega, q2, fun i hi => by
            by_cases e : i = k
            · subst e; exact HQ.out (by omega)
            · exact HZ.out i (by omega), HB1.out⟩
          case measure => simp [intOf]; omega
    · go_wp2_with fail
      go_ret
      exact ⟨r, rfl, by omega, by omega, fun _ => ⟨by omega, fun i hi => HZ.out i (by omega)⟩, HB.out⟩
set_option maxRecDepth 20000 in
set_option maxHeartbeats 2000000 in
theorem eqMon_any (f : List Nd) (b1 b2 d1 d2 : Nat) (cnt now : Int) (C : List Cl) (a1 a2 : Option Addr) (c1 c2 : Nat) (hl : f.length ≤ 1048576) (hl1 : C.length ≤ 1048576) (hl2 : ∀ i, i < C.length → (clAt C i).ts.length ≤ 2000000) (w : World) (n1 : NodesAt w b1 f) (n2 : NodesAt w b2 f) (h1 : CksAt w a1 C) (h2 : CksAt w a2 C) :
    Calls Tryd.prog 20 #[moV (some ⟨b1, 0, none⟩) f.length d1 cnt now a1 C.length c1, moV (some ⟨b2, 0, none⟩) f.length d2 cnt now a2 C.length c2] w fun e w' => e = .returned (.bool true) ∧ Below w.heap.size w w' := by
  unfold moV
  have HB0 := hid (bbelow2' w (.cells #[.slice (some ⟨b1, 0, none⟩) f.length d1, .int .i64 cnt, .int .i64 now, .slice a1 C.length c1] 27) (.cells #[.slice (some ⟨b2, 0, none⟩) f.length d2, .int .i64 cnt, .int .i64 now, .slice a2 C.length c2] 27))
  have N1 := hid (n1.below HB0.out n1.1)
  have N2 := hid (n2.below HB0.out n2.1)
  have H1 := hid (h1.on HB0.out)
  have H2 := hid (h2.on HB0.out)
  have HCS := hid (fun w h1 h2 => eqCellS_any C _ rfl a1 a2 c1 c2 hl1 hl2 w h1 h2)
  clear n1 n2 h1 h2 hl2
  have e1 : (cnt != cnt) = false := by simp
  have e2 : (now != now) = false := by simp
  go_enter Tryd.func20, Tryd.ntmps20
  go_wp2_with (first | (go_at_call 9; refine (eqNodeS_same f b1 b2 d1 d2 hl _ N1.out N2.out).mono ?_; rintro e w1 ⟨rfl, hb⟩; have HB1 := hid (HB0.out.trans (hb.mono (by simp; omega))); have H11 := hid (H1.out.on hb); have H12 := hid (H2.out.on hb); obtain ⟨hc, hf⟩ := bcell hb; have hz : w.heap.size + 2 ≤ w1.heap.size := (by have := hb.size; simp at this; omega); clear hb) | (go_at_call 35; refine (HCS.out _ H11.out H12.out).mono ?_; rintro e w2 ⟨rfl, hb2⟩; have HB2 := hid (HB1.out.trans (hb2.mono HB1.out.size)); clear hb2))
  go_ret
  exact ⟨rfl, HB2.out⟩
end Go.Proofs.YtgehklhpmelffaaDoor
