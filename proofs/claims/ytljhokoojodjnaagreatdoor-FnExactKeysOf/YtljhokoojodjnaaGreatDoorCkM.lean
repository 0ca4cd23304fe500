/-
  Monitors: the laws' own helpers over them: szMonitor, toMonitor, eqMonitor, by their contracts.
-/
import Derived.Test.YtljhokoojodjnaaGreatDoorCkA
import Derived.Test.YtljhokoojodjnaaGreatDoorMarkN
import Derived.Test.YtljhokoojodjnaaGreatDoorInN
namespace Go.Proofs.YtljhokoojodjnaaGreatDoor
open Go.RowKit
set_option linter.unusedVariables false
set_option linter.unusedSimpArgs false
/-- What a Monitor is handed round as. -/
def moV (fa : Option Addr) (fn fc : Nat) (cnt now : Int) (ca : Option Addr) (cn cc : Nat) : Value := .agg #[.slice fa fn fc, .int .i64 cnt, .int .i64 now, .slice ca cn cc]
/-- A Monitor lies in a box. -/
structure MBox (W : World) (q : Nat) (fa : Option Addr) (fn fc : Nat) (cnt now : Int) (ca : Option Addr) (cn cc : Nat) : Prop where
  lt : q < W.heap.size
  m0 : W.cell? ⟨q, 0, none⟩ = some (.slice fa fn fc)
  m1 : W.cell? ⟨q, 1, none⟩ = some (.int .i64 cnt)
  m2 : W.cell? ⟨q, 2, none⟩ = some (.int .i64 now)
  m3 : W.cell? ⟨q, 3, none⟩ = some (.slice ca cn cc)
theorem MBox.new (w : World) (fa : Option Addr) (fn fc : Nat) (cnt now : Int) (ca : Option Addr) (cn cc : Nat) (t : TypeId) : MBox (w.alloc (.cells #[.slice fa fn fc, .int .i64 cnt, .int .i64 now, .slice ca cn cc] t)) w.heap.size fa fn fc cnt now ca cn cc :=
  ⟨by simp, by simp [go_sem], by simp [go_sem], by simp [go_sem], by simp [go_sem]⟩
theorem MBox.save {W W' : World} {q : Nat} {fa : Option Addr} {fn fc : Nat} {cnt now : Int} {ca : Option Addr} {cn cc : Nat} {S : Nat → Prop} (h : MBox W q fa fn fc cnt now ca cn cc) (hs : Save W W' S) (h1 : ¬ S q) : MBox W' q fa fn fc cnt now ca cn cc :=
  ⟨Nat.lt_of_lt_of_le h.lt hs.size, (hs.cell (p := ⟨q, _, none⟩) h.lt h1).trans h.m0, (hs.cell (p := ⟨q, _, none⟩) h.lt h1).trans h.m1, (hs.cell (p := ⟨q, _, none⟩) h.lt h1).trans h.m2, (hs.cell (p := ⟨q, _, none⟩) h.lt h1).trans h.m3⟩
theorem MBox.on {W W' : World} {q : Nat} {fa : Option Addr} {fn fc : Nat} {cnt now : Int} {ca : Option Addr} {cn cc : Nat} (h : MBox W q fa fn fc cnt now ca cn cc) (hb : Below W.heap.size W W') : MBox W' q fa fn fc cnt now ca cn cc :=
  h.save (S := fun _ => False) (Save.of_below hb _ (fun j h1 h2 => absurd h1 (by omega))) (fun h => h)
structure MFree (W : World) (q : Nat) : Prop where
  g0 : W.frozen? ⟨q, 0, none⟩ = false
  g1 : W.frozen? ⟨q, 1, none⟩ = false
  g2 : W.frozen? ⟨q, 2, none⟩ = false
  g3 : W.frozen? ⟨q, 3, none⟩ = false
theorem MFree.save {W W' : World} {q : Nat} {S : Nat → Prop} (h : MFree W q) (hs : Save W W' S) (hq : q < W.heap.size) (h1 : ¬ S q) : MFree W' q :=
  ⟨(hs.frozen (p := ⟨q, _, none⟩) hq h1).trans h.g0, (hs.frozen (p := ⟨q, _, none⟩) hq h1).trans h.g1, (hs.frozen (p := ⟨q, _, none⟩) hq h1).trans h.g2, (hs.frozen (p := ⟨q, _, none⟩) hq h1).trans h.g3⟩
theorem MFree.on {W W' : World} {q : Nat} (h : MFree W q) (hb : Below W.heap.size W W') (hq : q < W.heap.size) : MFree W' q :=
  h.save (S := fun _ => False) (Save.of_below hb _ (fun j h1 h2 => absurd h1 (by omega))) hq (fun h => h)
theorem MFree.set {W : World} {q : Nat} (h : MFree W q) (a : Addr) (v : Value) : MFree (W.setCell a v) q :=
  ⟨by simpa using h.g0, by simpa using h.g1, by simpa using h.g2, by simpa using h.g3⟩
theorem MFree.new (w : World) (x y z u : Value) (t : TypeId) : MFree (w.alloc (.cells #[x, y, z, u] t)) w.heap.size :=
  ⟨by simp [go_sem], by simp [go_sem], by simp [go_sem], by simp [go_sem]⟩
theorem MBox.set3 {W : World} {q : Nat} {fa : Option Addr} {fn fc : Nat} {cnt now : Int} {ca : Option Addr} {cn cc : Nat} (h : MBox W q fa fn fc cnt now ca cn cc) (fa' : Option Addr) (fn' fc' : Nat) (cnt' now' : Int) : MBox (((W.setCell ⟨q, 0, none⟩ (.slice fa' fn' fc')).setCell ⟨q, 1, none⟩ (.int .i64 cnt')).setCell ⟨q, 2, none⟩ (.int .i64 now')) q fa' fn' fc' cnt' now' ca cn cc :=
  ⟨by simpa using h.lt, by simp [go_sem, h.m0], by simp [go_sem, h.m1], by simp [go_sem, h.m2], by simp [go_sem, h.m3]⟩
/-- Three boxes of a call that makes a Monitor. -/
theorem mon3 (w : World) (o1 : Obj) : MBox (((w.alloc o1).alloc (.cells #[.slice none 0 0, .int .i64 0, .int .i64 0, .slice none 0 0] 46)).alloc (.cells #[.slice none 0 0, .int .i64 0, .int .i64 0, .slice none 0 0] 46)) (w.heap.size + 1) none 0 0 0 0 none 0 0 ∧ MFree (((w.alloc o1).alloc (.cells #[.slice none 0 0, .int .i64 0, .int .i64 0, .slice none 0 0] 46)).alloc (.cells #[.slice none 0 0, .int .i64 0, .int .i64 0, .slice none 0 0] 46)) (w.heap.size + 1) ∧ MBox (((w.alloc o1).alloc (.cells #[.slice none 0 0, .int .i64 0, .int .i64 0, .slice none 0 0] 46)).alloc (.cells #[.slice none 0 0, .int .i64 0, .int .i64 0, .slice none 0 0] 46)) (w.heap.size + 2) none 0 0 0 0 none 0 0 ∧ MFree (((w.alloc o1).alloc (.cells #[.slice none 0 0, .int .i64 0, .int .i64 0, .slice none 0 0] 46)).alloc (.cells #[.slice none 0 0, .int .i64 0, .int .i64 0, .slice none 0 0] 46)) (w.heap.size + 2) := by
  have e1 : w.heap.size + 1 = (w.alloc o1).heap.size := by simp
  have e2 : w.heap.size + 2 = ((w.alloc o1).alloc (.cells #[.slice none 0 0, .int .i64 0, .int .i64 0, .slice none 0 0] 46)).heap.size := by simp
  refine ⟨?_, ?_, ?_, ?_⟩
  · rw [e1]; exact (MBox.new _ _ _ _ _ _ _ _ _ _).on (below_one' _ _)
  · rw [e1]; exact (MFree.new _ _ _ _ _ _).on (below_one' _ _) (by simp)
  · rw [e2]; exact MBox.new _ _ _ _ _ _ _ _ _ _
  · rw [e2]; exact MFree.new _ _ _ _ _ _
theorem gset3 (w : World) (q : Nat) (x y z : Value) : Save w (((w.setCell ⟨q, 0, none⟩ x).setCell ⟨q, 1, none⟩ y).setCell ⟨q, 2, none⟩ z) (fun j => j = q) :=
  Save.setCell (S := fun j => j = q) (Save.setCell (S := fun j => j = q) (Save.setCell (S := fun j => j = q) (Save.refl w _) (p := ⟨q, 0, none⟩) (fun _ => rfl) _) (p := ⟨q, 1, none⟩) (fun _ => rfl) _) (p := ⟨q, 2, none⟩) (fun _ => rfl) _
theorem gset1 (w : World) (q i : Nat) (x : Value) : Save w (w.setCell ⟨q, i, none⟩ x) (fun j => j = q) := Save.setCell (S := fun j => j = q) (Save.refl w _) (p := ⟨q, i, none⟩) (fun _ => rfl) _
theorem gset4 (w : World) (q : Nat) (x y z u : Value) : Save w ((((w.setCell ⟨q, 0, none⟩ x).setCell ⟨q, 1, none⟩ y).setCell ⟨q, 2, none⟩ z).setCell ⟨q, 3, none⟩ u) (fun j => j = q) :=
  Save.setCell (S := fun j => j = q) (gset3 w q x y z) (p := ⟨q, 3, none⟩) (fun _ => rfl) _
theorem CkRow.save {w w' : World} {b : Nat} {C : List Cl} {A : Nat → Nat} {z : Nat → Value} {k : Nat} {S : Nat → Prop} (h : CkRow w b C A z k) (hs : Save w w' S) (h1 : ¬ S b) (h2 : ∀ i, i < k → ¬ S (A i)) : CkRow w' b C A z k :=
  ⟨h.row.of_block (hs.block b h.row.lt h1), fun i hi => World.rowIs.of_block (h.times i hi) (hs.block _ (World.rowIs.lt (h.times i hi)) (h2 i hi)), h.above, h.rising⟩
set_option maxRecDepth 20000 in
set_option maxHeartbeats 1000000 in
theorem szNodeS_le (f : List Nd) (a : Option Addr) (cap : Nat) (hs : ∀ i, i < f.length → (ndAt f i).nm.size ≤ maxLen) (hl : f.length ≤ maxLen) (w : World) (hA : ArgN w a f) :
    Calls Tryz.prog 75 #[.slice a f.length cap, .int .i64 1048576] w fun e w' => ∃ r : Int, e = .returned (.int .i64 r) ∧ -1 ≤ r ∧ r ≤ 1048576 ∧ (0 ≤ r → f.length ≤ 1048576 ∧ ∀ i, i < f.length → (ndAt f i).nm.size ≤ 1048576) ∧ Below w.heap.size w w' := by
  unfold maxLen at hl
  have HS := hid hs
  have HA := hid hA
  clear hs hA
  by_cases h : 1048576 < f.length
  · have h' : (1048576 : Int) - (f.length : Int) < 0 := by omega
    go_enter Tryz.func75, Tryz.ntmps75
    go_wp2
    go_ret
    exact ⟨-1, rfl, by omega, by omega, by omega, Below.refl _ _⟩
  have h' : ¬ (1048576 : Int) - (f.length : Int) < 0 := by omega
  go_enter Tryz.func75, Tryz.ntmps75
  go_wp2_with fail
  go_loopw [1, 5] (fun l t wr => ∃ (k : Nat) (r : Int), k ≤ f.length ∧ t = .int .i64 k ∧ l = .int .i64 r ∧ 0 ≤ r ∧ r ≤ 1048576 ∧ (∀ i, i < k → (ndAt f i).nm.size ≤ 1048576) ∧ Below w.heap.size w wr) (fun _ t _ => f.length - (intOf t).toNat)
  case atStart => exact ⟨0, _, Nat.zero_le _, rfl, rfl, by omega, by omega, fun i h => by omega, Below.refl _ _⟩
  case round =>
    obtain ⟨k, r, hk, rfl, rfl, hr1, hr2, hsz, hbel⟩ := hrel
    have HZ := hid hsz
    have HB := hid hbel
    clear hsz hbel
    by_cases hlt : k < f.length
    · rcases HA.out with h0 | ⟨b, off, rfl, hb, hc⟩
      · omega
      · obtain ⟨c0, c1, c2, c3, c4, c5⟩ := (hc k hlt).below HB.out hb
        clear hc
        have HX := hid (HS.out k hlt)
        have HC := hid (fun w => szNode_any (ndAt f k) HX.out r hr1 hr2 w)
        clear h'
        go_wp2_with (go_at_call 120; refine (HC.out _).mono ?_; rintro e w1 ⟨r', rfl, q1, q2, q3, hb1⟩; have HB1 : Hid (Below w.heap.size w w1) := HB.out.trans (hb1.mono HB.out.size); have HQ := hid q3; clear q3 hb1)
        · go_ret
          exact ⟨-1, rfl, by omega, by omega, by omega, HB1.out⟩
        · go_roundw
          case rel => exact ⟨k + 1, r', by omega, by go_num, rfl, by omega, q2, fun i hi => by
            by_cases e : i = k
            · subst e; exact HQ.out (by omega)
            · exact HZ.out i (by omega), HB1.out⟩
          case measure => simp [intOf]; omega
    · go_wp2_with fail
      go_ret
      exact ⟨r, rfl, by omega, by omega, fun _ => ⟨by omega, fun i hi => HZ.out i (by omega)⟩, HB.out⟩
set_option maxRecDepth 20000 in
set_option maxHeartbeats 2000000 in
theorem szMon_any (f : List Nd) (fa : Option Addr) (fc : Nat) (cnt now : Int) (C : List Cl) (ca : Option Addr) (cc : Nat) (w : World) (hF : InN w fa fc f) (hC : InCs w ca C) :
    Calls Tryz.prog 154 #[moV fa f.length fc cnt now ca C.length cc, .int .i64 1048576] w fun e w' => ∃ r : Int, e = .returned (.int .i64 r) ∧ -1 ≤ r ∧ r ≤ 1048576 ∧ (0 ≤ r → (f.length ≤ 1048576 ∧ ∀ i, i < f.length → (ndAt f i).nm.size ≤ 1048576) ∧ C.length ≤ 1048576 ∧ sumT C C.length ≤ 1048576) ∧ Below w.heap.size w w' := by
  unfold moV
  have HB0 := hid (below_one' w (.cells #[.slice fa f.length fc, .int .i64 cnt, .int .i64 now, .slice ca C.length cc] 161))
  have HX := hid (MBox.new w fa f.length fc cnt now ca C.length cc 161)
  have HN := hid (fun w h => szNodeS_le f fa fc (fun i hi => (hF.ok i hi).nm) hF.len w h)
  have HCS := hid (fun r h1 h2 w h => szCellS_any C ca cc hC.ok hC.len r h1 h2 w h)
  have HF := hid hF.arg
  have HCa := hid hC.arg
  clear hF hC
  go_enter Tryz.func154, Tryz.ntmps154
  go_wp2_with (first | (go_at_call 75; refine (HN.out _ (HF.out.below HB0.out (Nat.le_refl _))).mono ?_; rintro e w1 ⟨r, rfl, q1, q2, q3, hb⟩; have HQ := hid q3; have HB1 := hid (HB0.out.trans (hb.mono (by simp))); obtain ⟨_, m0, m1, m2, m3⟩ := HX.out.on hb; clear q3 hb) | (go_at_call 179; refine (HCS.out r (by omega) (by omega) _ (HCa.out.below HB1.out (Nat.le_refl _))).mono ?_; rintro e w2 ⟨r2, rfl, p1, p2, p3, hb2⟩; have HP := hid p3; have HB2 := hid (HB1.out.trans (hb2.mono HB1.out.size)); clear p3 hb2))
  · go_ret
    exact ⟨-1, rfl, by omega, by omega, by omega, HB1.out⟩
  · go_ret
    exact ⟨-1, rfl, by omega, by omega, by omega, HB2.out⟩
  · go_ret
    exact ⟨r2, rfl, by omega, by omega, fun h => ⟨HQ.out (by omega), HP.out h⟩, HB2.out⟩
set_option maxRecDepth 20000 in
set_option maxHeartbeats 2000000 in
theorem toMon_any (f : List Nd) (fa : Option Addr) (fc : Nat) (cnt now : Int) (C : List Cl) (ca : Option Addr) (cc : Nat) (hl : f.length ≤ 1048576) (hl1 : C.length ≤ 1048576) (hl2 : ∀ i, i < C.length → (clAt C i).ts.length ≤ 1048576) (w : World) (hF : ArgN w fa f) (hC : ArgCs w ca C) :
    Calls Tryz.prog 155 #[moV fa f.length fc cnt now ca C.length cc] w fun e w' => ∃ b c A z, e = .returned (moV (some ⟨b, 0, none⟩) f.length f.length cnt now (some ⟨c, 0, none⟩) C.length C.length) ∧ w.heap.size ≤ b ∧ b < c ∧ NodesAt w' b f ∧ (∃ zn, w'.rowIs b 132 (f.length * 6) zn) ∧ CkRow w' c C A z C.length ∧ Below w.heap.size w w' := by
  unfold moV
  have HB0 := hid ((((Below.refl w.heap.size w).alloc (Nat.le_refl _) (.cells #[.slice fa f.length fc, .int .i64 cnt, .int .i64 now, .slice ca C.length cc] 161)).alloc (by simp) (.cells #[.slice none 0 0, .int .i64 0, .int .i64 0, .slice none 0 0] 46)).alloc (by simp; omega) (.cells #[.slice none 0 0, .int .i64 0, .int .i64 0, .slice none 0 0] 46))
  obtain ⟨x1', g1', x2', g2'⟩ := mon3 w (.cells #[.slice fa f.length fc, .int .i64 cnt, .int .i64 now, .slice ca C.length cc] 161)
  have HX1 := hid x1'
  have HG1 := hid g1'
  have HX2 := hid x2'
  have HG2 := hid g2'
  have HL := hid ((MBox.new w fa f.length fc cnt now ca C.length cc 161).on (bbelow2' _ (.cells #[.slice none 0 0, .int .i64 0, .int .i64 0, .slice none 0 0] 46) (.cells #[.slice none 0 0, .int .i64 0, .int .i64 0, .slice none 0 0] 46)))
  clear x1' g1' x2' g2'
  have HN := hid (fun w h => toNodeS_row f fa fc hl w h)
  have HCS := hid (fun w h => toCellS_any C ca cc hl1 hl2 w h)
  have HF := hid hF
  have HCa := hid hC
  clear hF hC hl2
  go_enter Tryz.func155, Tryz.ntmps155
  go_wp2_with (first | (go_at_call 78; refine (HN.out _ (HF.out.below HB0.out (Nat.le_refl _))).mono ?_; rintro e w1 ⟨b1, rfl, hb1, hn1, hr1, _, hb⟩; have HN1 := hid hn1; have HR1 := hid hr1; have HB1 := hid (HB0.out.trans (hb.mono (by simp; omega))); have X1 := hid (HX1.out.on hb); have G1 := hid (HG1.out.on hb HX1.out.lt); have X2 := hid (HX2.out.on hb); have G2 := hid (HG2.out.on hb HX2.out.lt); have L1 := hid (HL.out.on hb); obtain ⟨hq1, x0, x1, x2, x3⟩ := X2.out; obtain ⟨g0, g1, g2, g3⟩ := G2.out; obtain ⟨hq2, l0, l1, l2, l3⟩ := L1.out; have hz : w.heap.size + 3 ≤ w1.heap.size := (by have := hb.size; simp at this; omega); have hb1' : w.heap.size + 3 ≤ b1 := (by simp at hb1; omega); have hb1z := hn1.1; clear hb hn1 hr1 hb1) | (go_at_call 180; have HS1 := hid (gset3 w1 (w.heap.size + 2) (.slice (some ⟨b1, 0, none⟩) f.length f.length) (.int .i64 cnt) (.int .i64 now)); refine (HCS.out _ (HCa.out.below (HB1.out.trans (HS1.out.below (B := w.heap.size) (by omega) (fun j h => by omega))) (Nat.le_refl _))).mono ?_; rintro e w2 ⟨b2, A2, z2, rfl, hb2, hr2, hbl2⟩; have HR2 := hid hr2; have HB2 := hid hbl2; clear x0 x1 x2 x3 g0 g1 g2 g3 l0 l1 l2 l3 hq1 hq2; obtain ⟨hq1, x0, x1, x2, x3⟩ := (X2.out.set3 (some ⟨b1, 0, none⟩) f.length f.length cnt now).on hbl2; obtain ⟨g0, g1, g2, g3⟩ := (((G2.out.set _ _).set _ _).set _ _).on hbl2 (X2.out.set3 (some ⟨b1, 0, none⟩) f.length f.length cnt now).lt; obtain ⟨hq2, y0, y1, y2, y3⟩ := (X1.out.save HS1.out (by omega)).on hbl2; obtain ⟨f0, f1, f2, f3⟩ := (G1.out.save HS1.out (by omega) (by omega)).on hbl2 (X1.out.save HS1.out (by omega)).lt; have hz2 : w1.heap.size ≤ w2.heap.size := (by have := hbl2.size; simp at this; omega); have hb2' : w1.heap.size ≤ b2 := (by simp at hb2; omega); clear hbl2 hr2 hb2))
  refine bodyPost_ret (v := .agg #[.slice (some ⟨b1, 0, none⟩) f.length f.length, .int .i64 cnt, .int .i64 now, .slice (some ⟨b2, 0, none⟩) C.length C.length]) (by simp [results, Tryz.results155, go_sem, x0, x1, x2, x3, g0, g1, g2, g3, y0, y1, y2, y3, f0, f1, f2, f3]) rfl ?_
  have s2 : Save _ w2 (fun _ => False) := Save.of_below HB2.out (fun _ => False) (fun j h1 h2 => absurd h1 (by omega))
  have s3 := gset1 w2 (w.heap.size + 2) 3 (.slice (some ⟨b2, 0, none⟩) C.length C.length)
  have s4 := gset4 (w2.setCell ⟨w.heap.size + 2, 3, none⟩ (.slice (some ⟨b2, 0, none⟩) C.length C.length)) (w.heap.size + 1) (.slice (some ⟨b1, 0, none⟩) f.length f.length) (.int .i64 cnt) (.int .i64 now) (.slice (some ⟨b2, 0, none⟩) C.length C.length)
  refine ⟨b1, b2, A2, z2, rfl, by omega, by omega, ?_, ?_, ?_, ?_⟩
  · exact s4.nodes (s3.nodes (s2.nodes (HS1.out.nodes HN1.out (by omega)) (fun h => h)) (by omega)) (by omega)
  · obtain ⟨zn, hr⟩ := HR1.out
    have r1 := hr.of_block (HS1.out.block b1 hr.lt (by omega))
    have r2 := r1.of_block (s2.block b1 r1.lt (fun h => h))
    have r3 := r2.of_block (s3.block b1 r2.lt (by omega))
    exact ⟨zn, r3.of_block (s4.block b1 r3.lt (by omega))⟩
  · exact (HR2.out.save s3 (by omega) (fun i hi => by have := HR2.out.above i hi; omega)).save s4 (by omega) (fun i hi => by have := HR2.out.above i hi; omega)
  · have b1 := HB1.out.trans (HS1.out.below (B := w.heap.size) (by omega) (fun j h => by omega))
    have b2 := b1.trans (HB2.out.mono b1.size)
    have b3 := b2.trans (s3.below (B := w.heap.size) b2.size (fun j h => by omega))
    exact b3.trans (s4.below (B := w.heap.size) b3.size (fun j h => by omega))
set_option maxRecDepth 20000 in
set_option maxHeartbeats 2000000 in
theorem eqMon_any (f : List Nd) (b1 b2 d1 d2 : Nat) (cnt now : Int) (C : List Cl) (a1 a2 : Option Addr) (c1 c2 : Nat) (hl : f.length ≤ 1048576) (hl1 : C.length ≤ 1048576) (hl2 : ∀ i, i < C.length → (clAt C i).ts.length ≤ 2000000) (w : World) (n1 : NodesAt w b1 f) (n2 : NodesAt w b2 f) (h1 : CksAt w a1 C) (h2 : CksAt w a2 C) :
    Calls Tryz.prog 156 #[moV (some ⟨b1, 0, none⟩) f.length d1 cnt now a1 C.length c1, moV (some ⟨b2, 0, none⟩) f.length d2 cnt now a2 C.length c2] w fun e w' => e = .returned (.bool true) ∧ Below w.heap.size w w' := by
  unfold moV
  have HB0 := hid (bbelow2' w (.cells #[.slice (some ⟨b1, 0, none⟩) f.length d1, .int .i64 cnt, .int .i64 now, .slice a1 C.length c1] 46) (.cells #[.slice (some ⟨b2, 0, none⟩) f.length d2, .int .i64 cnt, .int .i64 now, .slice a2 C.length c2] 46))
  have N1 := hid (n1.below HB0.out n1.1)
  have N2 := hid (n2.below HB0.out n2.1)
  have H1 := hid (h1.on HB0.out)
  have H2 := hid (h2.on HB0.out)
  have HCS := hid (fun w h1 h2 => eqCellS_any C _ rfl a1 a2 c1 c2 hl1 hl2 w h1 h2)
  clear n1 n2 h1 h2 hl2
  have e1 : (cnt != cnt) = false := by simp
  have e2 : (now != now) = false := by simp
  go_enter Tryz.func156, Tryz.ntmps156
  go_wp2_with (first | (go_at_call 81; refine (eqNodeS_same f b1 b2 d1 d2 hl _ N1.out N2.out).mono ?_; rintro e w1 ⟨rfl, hb⟩; have HB1 := hid (HB0.out.trans (hb.mono (by simp; omega))); have H11 := hid (H1.out.on hb); have H12 := hid (H2.out.on hb); obtain ⟨hc, hf⟩ := bcell hb; have hz : w.heap.size + 2 ≤ w1.heap.size := (by have := hb.size; simp at this; omega); clear hb) | (go_at_call 181; refine (HCS.out _ H11.out H12.out).mono ?_; rintro e w2 ⟨rfl, hb2⟩; have HB2 := hid (HB1.out.trans (hb2.mono HB1.out.size)); clear hb2))
  go_ret
  exact ⟨rfl, HB2.out⟩
end Go.Proofs.YtljhokoojodjnaaGreatDoor
