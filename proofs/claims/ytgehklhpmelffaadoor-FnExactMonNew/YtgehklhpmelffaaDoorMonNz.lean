/-
  MonNew, the model's and the program's, by their contracts.
  The program's formulasCode, by its contract.
  The program's MonNew, by its contract.
  The laws' marks: heldNodeS by its contract.
  Marks over the answers of MonNew: rows of nodes that may be longer, rows of cells without times.
  Marks over the answers of MonNew: heldCellS, the bools that are none, Monitors and MonOuts.
  Marks over the answers of MonNew: Monitors and MonOuts.
  The walk of the law FnExactMonNew.
-/
import Derived.Test.YtgehklhpmelffaaDoorMnN3
import Derived.Test.YtgehklhpmelffaaDoorInN
import Derived.Test.YtgehklhpmelffaaDoorMarkN
namespace Go.Proofs.YtgehklhpmelffaaDoor
open Go.RowKit
set_option linter.unusedVariables false
set_option linter.unusedSimpArgs false
theorem rightB_all' (f : List Nd) (h : rightB f = true) : 1 ≤ f.length ∧ f.length ≤ 24 ∧ goodTo f f.length = true := by
  simp only [rightB, Bool.and_eq_true, decide_eq_true_eq] at h
  exact ⟨h.1.1, h.1.2, h.2.1⟩
/-- What a MonOut is handed round as. -/
def outV (fa : Option Addr) (fn fc : Nat) (cnt now : Int) (ca : Option Addr) (cn cc : Nat) (yes : Bool) (aa : Option Addr) (an ac : Nat) (code : Int) : Value := .agg #[.slice fa fn fc, .int .i64 cnt, .int .i64 now, .slice ca cn cc, .bool yes, .slice aa an ac, .int .i64 code]
def newCode (f : List Nd) : Int := if 400 < f.length then 2 else if rightB f then 0 else 1
/-- The formula of what MonNew tells. -/
def newF (f : List Nd) : List Nd := if newCode f = 0 then f else []
theorem newF_no {f : List Nd} {c : Int} (h : newCode f = c) (hc : c ≠ 0) : newF f = [] := by unfold newF; rw [h, if_neg hc]
theorem newF_yes {f : List Nd} (h : newCode f = 0) : newF f = f := by unfold newF; rw [if_pos h]
theorem newCode_size {f : List Nd} (h : 400 < f.length) : newCode f = 2 := by unfold newCode; rw [if_pos h]
theorem newCode_form {f : List Nd} (h : ¬ 400 < f.length) (hr : rightB f = false) : newCode f = 1 := by unfold newCode; rw [if_neg h, hr]; rfl
theorem newCode_ok {f : List Nd} (h : ¬ 400 < f.length) (hr : rightB f = true) : newCode f = 0 := by unfold newCode; rw [if_neg h, hr]; rfl
/-- A row of nodes, of which nothing is asked where it is empty. -/
def NsA (w : World) (a : Option Addr) (F : List Nd) : Prop := F.length = 0 ∨ ∃ b, a = some ⟨b, 0, none⟩ ∧ NodesAt w b F
/-- A row of nodes to be written to; it may be longer. -/
def RowA (w : World) (a : Option Addr) (n : Nat) : Prop := n = 0 ∨ ∃ b m z, a = some ⟨b, 0, none⟩ ∧ n * 6 ≤ m ∧ w.rowIs b 43 m z
def RowB (w : World) (a : Option Addr) (F : List Nd) : Prop := F.length = 0 ∨ ∃ b, a = some ⟨b, 0, none⟩ ∧ BareRow w b F (F.length * 4) zC F.length
theorem RowB.cks {w : World} {a : Option Addr} {F : List Nd} (h : RowB w a F) : CksAt w a (bareC F) := by
  rcases h with h | ⟨b, rfl, h⟩
  · exact Or.inl (by rw [bareC_len, h])
  · exact h.cks (Nat.le_refl _)
/-- The box of a MonOut. -/
structure OBox (W : World) (q : Nat) (fa : Option Addr) (fn fc : Nat) (cnt now : Int) (ca : Option Addr) (cn cc : Nat) (yes : Bool) (aa : Option Addr) (an ac : Nat) (code : Int) : Prop where
  lt : q < W.heap.size
  o0 : W.cell? ⟨q, 0, none⟩ = some (.slice fa fn fc)
  o1 : W.cell? ⟨q, 1, none⟩ = some (.int .i64 cnt)
  o2 : W.cell? ⟨q, 2, none⟩ = some (.int .i64 now)
  o3 : W.cell? ⟨q, 3, none⟩ = some (.slice ca cn cc)
  o4 : W.cell? ⟨q, 4, none⟩ = some (.bool yes)
  o5 : W.cell? ⟨q, 5, none⟩ = some (.slice aa an ac)
  o6 : W.cell? ⟨q, 6, none⟩ = some (.int .i64 code)
theorem OBox.save {W W' : World} {q : Nat} {fa : Option Addr} {fn fc : Nat} {cnt now : Int} {ca : Option Addr} {cn cc : Nat} {yes : Bool} {aa : Option Addr} {an ac : Nat} {code : Int} {S : Nat → Prop} (h : OBox W q fa fn fc cnt now ca cn cc yes aa an ac code) (hs : Save W W' S) (h1 : ¬ S q) : OBox W' q fa fn fc cnt now ca cn cc yes aa an ac code :=
  ⟨Nat.lt_of_lt_of_le h.lt hs.size, (hs.cell (p := ⟨q, _, none⟩) h.lt h1).trans h.o0, (hs.cell (p := ⟨q, _, none⟩) h.lt h1).trans h.o1, (hs.cell (p := ⟨q, _, none⟩) h.lt h1).trans h.o2, (hs.cell (p := ⟨q, _, none⟩) h.lt h1).trans h.o3, (hs.cell (p := ⟨q, _, none⟩) h.lt h1).trans h.o4, (hs.cell (p := ⟨q, _, none⟩) h.lt h1).trans h.o5, (hs.cell (p := ⟨q, _, none⟩) h.lt h1).trans h.o6⟩
theorem OBox.on {W W' : World} {q : Nat} {fa : Option Addr} {fn fc : Nat} {cnt now : Int} {ca : Option Addr} {cn cc : Nat} {yes : Bool} {aa : Option Addr} {an ac : Nat} {code : Int} (h : OBox W q fa fn fc cnt now ca cn cc yes aa an ac code) (hb : Below W.heap.size W W') : OBox W' q fa fn fc cnt now ca cn cc yes aa an ac code :=
  h.save (S := fun _ => False) (Save.of_below hb _ (fun j h1 h2 => absurd h1 (by omega))) (fun h => h)
structure OFree (W : World) (q : Nat) : Prop where
  g0 : W.frozen? ⟨q, 0, none⟩ = false
  g1 : W.frozen? ⟨q, 1, none⟩ = false
  g2 : W.frozen? ⟨q, 2, none⟩ = false
  g3 : W.frozen? ⟨q, 3, none⟩ = false
  g4 : W.frozen? ⟨q, 4, none⟩ = false
  g5 : W.frozen? ⟨q, 5, none⟩ = false
  g6 : W.frozen? ⟨q, 6, none⟩ = false
theorem OFree.on {W W' : World} {q : Nat} (h : OFree W q) (hb : Below W.heap.size W W') (hq : q < W.heap.size) : OFree W' q :=
  ⟨(hb.frozen (p := ⟨q, _, none⟩) hq).trans h.g0, (hb.frozen (p := ⟨q, _, none⟩) hq).trans h.g1, (hb.frozen (p := ⟨q, _, none⟩) hq).trans h.g2, (hb.frozen (p := ⟨q, _, none⟩) hq).trans h.g3, (hb.frozen (p := ⟨q, _, none⟩) hq).trans h.g4, (hb.frozen (p := ⟨q, _, none⟩) hq).trans h.g5, (hb.frozen (p := ⟨q, _, none⟩) hq).trans h.g6⟩
def oZ : Obj := .cells #[.slice none 0 0, .int .i64 0, .int .i64 0, .slice none 0 0, .bool false, .slice none 0 0, .int .i64 0] 30
theorem OBox.zero (w : World) : OBox (w.alloc oZ) w.heap.size none 0 0 0 0 none 0 0 false none 0 0 0 ∧ OFree (w.alloc oZ) w.heap.size := by
  unfold oZ
  exact ⟨⟨by simp, by simp [go_sem], by simp [go_sem], by simp [go_sem], by simp [go_sem], by simp [go_sem], by simp [go_sem], by simp [go_sem]⟩, ⟨by simp [go_sem], by simp [go_sem], by simp [go_sem], by simp [go_sem], by simp [go_sem], by simp [go_sem], by simp [go_sem]⟩⟩
theorem set7 (w : World) (q : Nat) (x0 x1 x2 x3 x4 x5 x6 : Value) : Save w (((((((w.setCell ⟨q, 0, none⟩ x0).setCell ⟨q, 1, none⟩ x1).setCell ⟨q, 2, none⟩ x2).setCell ⟨q, 3, none⟩ x3).setCell ⟨q, 4, none⟩ x4).setCell ⟨q, 5, none⟩ x5).setCell ⟨q, 6, none⟩ x6) (fun j => j = q) :=
  Save.setCell (S := fun j => j = q) (Save.setCell (S := fun j => j = q) (Save.setCell (S := fun j => j = q) (gset4 w q x0 x1 x2 x3) (p := ⟨q, 4, none⟩) (fun _ => rfl) _) (p := ⟨q, 5, none⟩) (fun _ => rfl) _) (p := ⟨q, 6, none⟩) (fun _ => rfl) _
theorem CksAt.bare_save {w w' : World} {a : Option Addr} {F : List Nd} {S : Nat → Prop} (h : CksAt w a (bareC F)) (hs : Save w w' S) (h1 : ∀ q, a = some q → ¬ S q.block) : CksAt w' a (bareC F) := by
  rcases h with h | ⟨b, off, rfl, hlt, hc⟩
  · exact Or.inl h
  · refine Or.inr ⟨b, off, rfl, Nat.lt_of_lt_of_le hlt hs.size, fun i hi => ?_⟩
    obtain ⟨d0, d1, d3, a', c', d2, d4, d5⟩ := hc i hi
    have hn : ¬ S b := h1 ⟨b, off, none⟩ rfl
    refine ⟨(hs.cell (p := ⟨b, _, none⟩) hlt hn).trans d0, (hs.cell (p := ⟨b, _, none⟩) hlt hn).trans d1, (hs.cell (p := ⟨b, _, none⟩) hlt hn).trans d3, a', c', (hs.cell (p := ⟨b, _, none⟩) hlt hn).trans d2, d4, Or.inl ?_⟩
    rw [bareC_len] at hi
    rw [bareC_at F i hi]
    rfl
set_option maxRecDepth 20000 in
set_option maxHeartbeats 4000000 in
theorem specMNew_any (f : List Nd) (b cap : Nat) (w : World) (hN : NodesAt w b f) (hok : ∀ i, i < f.length → ndOk (ndAt f i)) (hlen : f.length ≤ 1048576) (F : List Nd) (code : Int) (hF : newF f = F) (hc : newCode f = code) :
    Calls Tryd.prog 5 #[.slice (some ⟨b, 0, none⟩) f.length cap] w fun e w' => ∃ fa fc ca cc, e = .returned (outV fa F.length fc 0 0 ca F.length cc false none 0 0 code) ∧ NsA w' fa F ∧ CksAt w' ca (bareC F) ∧ (∀ q, fa = some q → w.heap.size ≤ q.block ∧ q.block < w'.heap.size) ∧ (∀ q, ca = some q → w.heap.size ≤ q.block ∧ q.block < w'.heap.size) ∧ Below w.heap.size w w' := by
  have HU : Hid (∀ fa fn fc cnt now ca cn cc yes aa an ac code, outV fa fn fc cnt now ca cn cc yes aa an ac code = .agg #[.slice fa fn fc, .int .i64 cnt, .int .i64 now, .slice ca cn cc, .bool yes, .slice aa an ac, .int .i64 code]) := fun _ _ _ _ _ _ _ _ _ _ _ _ _ => rfl
  have HUm : Hid (∀ fa fn fc cnt now ca cn cc, moV fa fn fc cnt now ca cn cc = .agg #[.slice fa fn fc, .int .i64 cnt, .int .i64 now, .slice ca cn cc]) := fun _ _ _ _ _ _ _ _ => rfl
  have HB0 := hid (below_one' w oZ)
  have HX0 := hid (OBox.zero w).1
  have HG0 := hid (OBox.zero w).2
  unfold oZ at HB0 HX0 HG0
  simp only [HU.out]
  by_cases h4 : 400 < f.length
  · obtain rfl : 2 = code := by rw [← hc, newCode_size h4]
    obtain rfl : [] = F := by rw [← hF, newF_no hc (by omega)]
    clear hF hc
    obtain ⟨hq, o0, o1, o2, o3, o4, o5, o6⟩ := HX0.out
    obtain ⟨g0, g1, g2, g3, g4, g5, g6⟩ := HG0.out
    go_enter Tryd.func5, Tryd.ntmps5
    go_wp2_with fail
    refine bodyPost_ret (v := .agg #[.slice none 0 0, .int .i64 0, .int .i64 0, .slice none 0 0, .bool false, .slice none 0 0, .int .i64 2]) (by simp [results, Tryd.results5, go_sem]) rfl ?_
    exact ⟨none, 0, none, 0, rfl, Or.inl rfl, Or.inl rfl, (fun q e => by cases e), (fun q e => by cases e), below_one' _ _⟩
  · have h4' : ¬ ((f.length : Int) > 400) := by omega
    have HR : Hid (∀ v, rightB f = v → Calls Tryd.prog 14 #[.slice (some ⟨b, 0, none⟩) f.length cap] (w.alloc (.cells #[.slice none 0 0, .int .i64 0, .int .i64 0, .slice none 0 0, .bool false, .slice none 0 0, .int .i64 0] 30)) fun e w' => e = .returned (.bool v) ∧ Below (w.alloc (.cells #[.slice none 0 0, .int .i64 0, .int .i64 0, .slice none 0 0, .bool false, .slice none 0 0, .int .i64 0] 30)).heap.size (w.alloc (.cells #[.slice none 0 0, .int .i64 0, .int .i64 0, .slice none 0 0, .bool false, .slice none 0 0, .int .i64 0] 30)) w') := fun v hv => by subst hv; exact specRight_any f b cap _ (hN.below HB0.out hN.1) (fun i hi => (hok i hi).nm) (by unfold maxLen; omega)
    rcases Bool.eq_false_or_eq_true (rightB f) with hr | hr
    · obtain rfl : 0 = code := by rw [← hc, newCode_ok h4 hr]
      obtain rfl : f = F := by rw [← hF, newF_yes hc]
      obtain ⟨hl1, hl2, _⟩ := rightB_all' f hr
      have HF := hid (HR.out true hr)
      have HNw := hid (fun w' (h : Below w.heap.size w w') => specNew_any f b cap (by omega) (by omega) w' (hN.below h hN.1))
      clear hF hc HR hr hN
      simp only [HUm.out] at HNw
      go_enter Tryd.func5, Tryd.ntmps5
      go_wp2_with (first | (go_at_call 14; refine HF.out.mono ?_; rintro e w1 ⟨rfl, hb1⟩; have HB1 := hid (HB0.out.trans (hb1.mono HB0.out.size)); have HX1 := hid (HX0.out.on hb1); have HG1 := hid (HG0.out.on hb1 HX0.out.lt); have hz1 := hb1.size; clear hb1) | (go_at_call 15; refine (HNw.out _ HB1.out).mono ?_; rintro e w2 ⟨g, gc, va, vc, rfl, hg, hn2, hck, hq2, hb2⟩; have HB2 := hid (HB1.out.trans (hb2.mono HB1.out.size)); have HN2 := hid hn2; have HC2 := hid hck; have HQ2 := hid hq2; obtain ⟨hq, o0, o1, o2, o3, o4, o5, o6⟩ := HX1.out.on hb2; obtain ⟨g0, g1, g2, g3, g4, g5, g6⟩ := HG1.out.on hb2 HX1.out.lt; have hz2 := hb2.size; clear hb2 hn2 hck hq2))
      refine bodyPost_ret (v := .agg #[.slice (some ⟨g, 0, none⟩) f.length gc, .int .i64 0, .int .i64 0, .slice va f.length vc, .bool false, .slice none 0 0, .int .i64 0]) (by simp [results, Tryd.results5, go_sem, o0, o1, o2, o3, o4, o5, o6, g0, g1, g2, g3, g4, g5, g6]) rfl ?_
      have hx := HX1.out.lt
      have s7 := set7 w2 w.heap.size (.slice (some ⟨g, 0, none⟩) f.length gc) (.int .i64 0) (.int .i64 0) (.slice va f.length vc) (.bool false) (.slice none 0 0) (.int .i64 0)
      have hz7 := s7.size
      have hn2 := HN2.out.1
      exact ⟨some ⟨g, 0, none⟩, gc, va, vc, rfl, Or.inr ⟨g, rfl, s7.nodes HN2.out (by omega)⟩, HC2.out.bare_save s7 (fun q e => by have := HQ2.out q e; omega), (fun q e => by injection e with e; subst e; exact ⟨by show _ ≤ g; omega, by show g < _; omega⟩), (fun q e => by have := HQ2.out q e; omega), HB2.out.trans (s7.below (B := w.heap.size) HB2.out.size (fun j h => by omega))⟩
    · obtain rfl : 1 = code := by rw [← hc, newCode_form h4 hr]
      obtain rfl : [] = F := by rw [← hF, newF_no hc (by omega)]
      have HF := hid (HR.out false hr)
      clear hF hc HR hr hN
      go_enter Tryd.func5, Tryd.ntmps5
      go_wp2_with (go_at_call 14; refine HF.out.mono ?_; rintro e w1 ⟨rfl, hb1⟩; have HB1 := hid (HB0.out.trans (hb1.mono HB0.out.size)); obtain ⟨hq, o0, o1, o2, o3, o4, o5, o6⟩ := HX0.out.on hb1; obtain ⟨g0, g1, g2, g3, g4, g5, g6⟩ := HG0.out.on hb1 HX0.out.lt; clear hb1)
      refine bodyPost_ret (v := .agg #[.slice none 0 0, .int .i64 0, .int .i64 0, .slice none 0 0, .bool false, .slice none 0 0, .int .i64 1]) (by simp [results, Tryd.results5, go_sem, o0, o1, o2, o3, o4, o5, o6, g0, g1, g2, g3, g4, g5, g6]) rfl ?_
      have s7 := set7 w1 w.heap.size (.slice none 0 0) (.int .i64 0) (.int .i64 0) (.slice none 0 0) (.bool false) (.slice none 0 0) (.int .i64 1)
      exact ⟨none, 0, none, 0, rfl, Or.inl rfl, Or.inl rfl, (fun q e => by cases e), (fun q e => by cases e), HB1.out.trans (s7.below (B := w.heap.size) HB1.out.size (fun j h => by omega))⟩
end Go.Proofs.YtgehklhpmelffaaDoor
namespace Go.Proofs.YtgehklhpmelffaaDoor
open Go.RowKit
set_option linter.unusedVariables false
set_option linter.unusedSimpArgs false
def longTo (L : Nat → List Nd) (k : Nat) : Bool := (List.range k).any fun i => decide (400 < (L i).length)
def rightTo (L : Nat → List Nd) (k : Nat) : Bool := (List.range k).all fun i => rightB (L i)
def codeTo (L : Nat → List Nd) (m : Nat) : Int := if longTo L m then 2 else if rightTo L m then 0 else 1
theorem longTo_succ (L : Nat → List Nd) (k : Nat) : longTo L (k + 1) = (longTo L k || decide (400 < (L k).length)) := by simp [longTo, List.range_succ]
theorem longTo_yes (L : Nat → List Nd) (k m : Nat) (hk : k < m) (h : 400 < (L k).length) : longTo L m = true := by
  simp only [longTo, List.any_eq_true, List.mem_range]
  exact ⟨k, hk, by simpa using h⟩
theorem rightTo_succ (L : Nat → List Nd) (k : Nat) : rightTo L (k + 1) = (rightTo L k && rightB (L k)) := by simp [rightTo, List.range_succ]
theorem rightTo_no (L : Nat → List Nd) (k m : Nat) (hk : k < m) (h : rightB (L k) = false) : rightTo L m = false := by
  simp only [rightTo, List.all_eq_false, List.mem_range]
  exact ⟨k, hk, by simp [h]⟩
/-- A list of rows of nodes. -/
structure FsAt (w : World) (b : Nat) (m : Nat) (L : Nat → List Nd) (A C : Nat → Nat) : Prop where
  lt : b < w.heap.size
  cell : ∀ j, j < m → w.cell? ⟨b, j, none⟩ = some (.slice (some ⟨A j, 0, none⟩) (L j).length (C j))
  nodes : ∀ j, j < m → NodesAt w (A j) (L j)
theorem FsAt.on {w w' : World} {b m : Nat} {L : Nat → List Nd} {A C : Nat → Nat} (h : FsAt w b m L A C) (hb : Below w.heap.size w w') : FsAt w' b m L A C :=
  ⟨Nat.lt_of_lt_of_le h.lt hb.size, fun j hj => (hb.cell (p := ⟨b, j, none⟩) h.lt).trans (h.cell j hj), fun j hj => (h.nodes j hj).below hb (h.nodes j hj).1⟩
set_option maxRecDepth 20000 in
set_option maxHeartbeats 2000000 in
theorem codes_any (m : Nat) (hm : m ≤ 1000) (L : Nat → List Nd) (A C : Nat → Nat) (b c : Nat) (hok : ∀ j, j < m → (∀ i, i < (L j).length → ndOk (ndAt (L j) i)) ∧ (L j).length ≤ 1048576) (code : Int) (hcode : codeTo L m = code) (w : World) (hF : FsAt w b m L A C) (hkw : Kw w) (hg : 1 < w.heap.size) :
    Calls Tryd.prog 17 #[.slice (some ⟨b, 0, none⟩) m c] w fun e w' => e = .returned (.int .i64 code) ∧ Below w.heap.size w w' := by
  have HF := hid hF
  have HK := hid hkw
  have HOk := hid hok
  have HC : Hid (code = if longTo L m then 2 else if rightTo L m then 0 else 1) := hcode.symm
  clear hF hkw hok hcode
  go_enter Tryd.func17, Tryd.ntmps17
  go_wp2_with fail
  go_loop [9] (fun i => ∃ k : Nat, k ≤ m ∧ i = .int .i64 k ∧ longTo L k = false) (fun i => m - (intOf i).toNat)
  case atStart => exact ⟨0, Nat.zero_le _, rfl, rfl⟩
  case round =>
    obtain ⟨k, hk, rfl, hg'⟩ := hrel
    have HG := hid hg'
    clear hg'
    by_cases hlt : k < m
    · have d0 := HF.out.cell k hlt
      have hb0 := HF.out.lt
      have hl1 := (HOk.out k hlt).2
      by_cases h4 : 400 < (L k).length
      · have HE : Hid (code = 2) := by show code = 2; rw [HC.out, if_pos (longTo_yes L k m hlt h4)]
        go_wp2_with fail
        go_ret
        exact ⟨ret_int HE.out.symm, Below.refl _ _⟩
      · have HS : Hid (longTo L (k + 1) = false) := by show longTo L (k + 1) = false; rw [longTo_succ, HG.out]; simp; omega
        go_wp2_with fail
        go_round
        case rel => exact ⟨k + 1, by omega, by go_num, HS.out⟩
        case measure => simp [intOf]; omega
    · have hk' : k = m := by omega
      subst hk'
      have HC2 : Hid (code = if rightTo L k then 0 else 1) := by show code = _; rw [HC.out, HG.out]; rfl
      clear HC HG hk hlt
      go_wp2_with fail
      go_loopw [19] (fun i wr => ∃ k' : Nat, k' ≤ k ∧ i = .int .i64 k' ∧ rightTo L k' = true ∧ Below w.heap.size w wr) (fun i _ => k - (intOf i).toNat)
      case atStart => exact ⟨0, Nat.zero_le _, rfl, rfl, Below.refl _ _⟩
      case round =>
        obtain ⟨j, hj, rfl, hr, hbel⟩ := hrel
        have HR := hid hr
        have HB := hid hbel
        have hz := hbel.size
        clear hr hbel
        by_cases hlt : j < k
        · have HFr := hid (HF.out.on HB.out)
          have d0 := HFr.out.cell j hlt
          have hb0 := HFr.out.lt
          have HRi : Hid (∀ v, rightB (L j) = v → Calls Tryd.prog 31 #[.slice (some ⟨A j, 0, none⟩) (L j).length (C j)] wr fun e w' => e = .returned (.bool v) ∧ Below wr.heap.size wr w') := fun v hv => by subst hv; exact implRight_any (L j) (A j) (C j) wr (HFr.out.nodes j hlt) (HOk.out j hlt).1 (by have := (HOk.out j hlt).2; unfold maxLen; omega) (HK.out.below HB.out hg) (by omega)
          rcases Bool.eq_false_or_eq_true (rightB (L j)) with hv | hv
          · have HS : Hid (rightTo L (j + 1) = true) := by show rightTo L (j + 1) = true; rw [rightTo_succ, HR.out, hv]; rfl
            have HRv := hid (HRi.out true hv)
            clear HRi hv
            go_wp2_with (go_at_call 31; refine HRv.out.mono ?_; rintro e w1 ⟨rfl, hb1⟩; have HB1 := hid (HB.out.trans (hb1.mono HB.out.size)); clear hb1)
            go_roundw
            case rel => exact ⟨j + 1, by omega, by go_num, HS.out, HB1.out⟩
            case measure => simp [intOf]; omega
          · have HE : Hid (code = 1) := by show code = 1; rw [HC2.out, rightTo_no L j k hlt hv]; rfl
            have HRv := hid (HRi.out false hv)
            clear HRi hv
            go_wp2_with (go_at_call 31; refine HRv.out.mono ?_; rintro e w1 ⟨rfl, hb1⟩; have HB1 := hid (HB.out.trans (hb1.mono HB.out.size)); clear hb1)
            go_ret
            exact ⟨ret_int HE.out.symm, HB1.out⟩
        · have hj' : j = k := by omega
          subst hj'
          have HE : Hid (code = 0) := by show code = 0; rw [HC2.out, HR.out]; rfl
          go_wp2_with fail
          go_ret
          exact ⟨ret_int HE.out.symm, HB.out⟩
end Go.Proofs.YtgehklhpmelffaaDoor
namespace Go.Proofs.YtgehklhpmelffaaDoor
open Go.RowKit
set_option linter.unusedVariables false
set_option linter.unusedSimpArgs false
theorem goodTo_nm' (f : List Nd) (n : Nat) (h : goodTo f n = true) (i : Nat) (hi : i < n) : (ndAt f i).nm.size ≤ 8 := by
  have h1 := (goodTo_at f i n hi h).1
  simp only [nodeB, Bool.and_eq_true] at h1
  have h2 := h1.2.1
  split at h2
  · simp [wordB] at h2
    omega
  · have h3 : (ndAt f i).nm.size = 0 := by
      rw [← emptyB_eq _ h2]
      rfl
    omega
theorem newCode_to (f : List Nd) : newCode f = codeTo (fun _ => f) 1 := by
  unfold newCode codeTo
  by_cases h : 400 < f.length
  · rw [if_pos h, if_pos (longTo_yes (fun _ => f) 0 1 (by omega) h)]
  · have h2 : longTo (fun _ => f) 1 = false := by simp [longTo, List.range_succ]; omega
    rw [if_neg h, h2, rightTo_succ]
    simp [rightTo]
theorem fs_one (w : World) (o : Obj) (f : List Nd) (b cap : Nat) (hN : NodesAt w b f) (t : TypeId) : FsAt ((w.alloc o).alloc (.cells #[.slice (some ⟨b, 0, none⟩) f.length cap] t)) (w.heap.size + 1) 1 (fun _ => f) (fun _ => b) (fun _ => cap) :=
  ⟨by simp, fun j hj => by obtain rfl : j = 0 := by omega
                           simp [go_sem], fun j hj => (hN.below (((Below.refl w.heap.size w).alloc (Nat.le_refl _) o).alloc (by simp) _) hN.1)⟩
set_option maxRecDepth 20000 in
set_option maxHeartbeats 4000000 in
theorem implMNew_any (f : List Nd) (b cap : Nat) (w : World) (hN : NodesAt w b f) (hok : ∀ i, i < f.length → ndOk (ndAt f i)) (hlen : f.length ≤ 1048576) (hkw : Kw w) (hg : 1 < w.heap.size) (F : List Nd) (code : Int) (hF : newF f = F) (hc : newCode f = code) :
    Calls Tryd.prog 7 #[.slice (some ⟨b, 0, none⟩) f.length cap] w fun e w' => ∃ fa fc ca cc, e = .returned (outV fa F.length fc 0 0 ca F.length cc false none 0 0 code) ∧ NsA w' fa F ∧ RowA w' fa F.length ∧ RowB w' ca F ∧ (∀ q, fa = some q → q = ⟨q.block, 0, none⟩ ∧ w.heap.size ≤ q.block ∧ q.block < w'.heap.size) ∧ (∀ q, ca = some q → q = ⟨q.block, 0, none⟩ ∧ w.heap.size ≤ q.block ∧ q.block < w'.heap.size) ∧ (∀ p q, fa = some p → ca = some q → p.block < q.block) ∧ Below w.heap.size w w' := by
  have HU : Hid (∀ fa fn fc cnt now ca cn cc yes aa an ac code, outV fa fn fc cnt now ca cn cc yes aa an ac code = .agg #[.slice fa fn fc, .int .i64 cnt, .int .i64 now, .slice ca cn cc, .bool yes, .slice aa an ac, .int .i64 code]) := fun _ _ _ _ _ _ _ _ _ _ _ _ _ => rfl
  have HB0 := hid (below_one' w oZ)
  have HX0 := hid (OBox.zero w).1
  have HG0 := hid (OBox.zero w).2
  unfold oZ at HB0 HX0 HG0
  simp only [HU.out]
  have HFs := hid (fs_one w (.cells #[.slice none 0 0, .int .i64 0, .int .i64 0, .slice none 0 0, .bool false, .slice none 0 0, .int .i64 0] 30) f b cap hN 24)
  have HBf := hid (below_one' (w.alloc (.cells #[.slice none 0 0, .int .i64 0, .int .i64 0, .slice none 0 0, .bool false, .slice none 0 0, .int .i64 0] 30)) (.cells #[.slice (some ⟨b, 0, none⟩) f.length cap] 24))
  have HBa := hid (HB0.out.trans (HBf.out.mono HB0.out.size))
  have HXa := hid (HX0.out.on HBf.out)
  have HGa := hid (HG0.out.on HBf.out HX0.out.lt)
  have HCd := hid (codes_any 1 (by omega) (fun _ => f) (fun _ => b) (fun _ => cap) (w.heap.size + 1) 1 (fun _ _ => ⟨hok, hlen⟩) code (by rw [← newCode_to, hc]) _ HFs.out (hkw.below HBa.out hg) (by have := HBa.out.size; omega))
  have hcase : code = 2 ∨ code = 1 ∨ (code = 0 ∧ rightB f = true) := by
    rw [← hc]
    unfold newCode
    split
    · exact Or.inl rfl
    · split
      · next h => exact Or.inr (Or.inr ⟨rfl, h⟩)
      · exact Or.inr (Or.inl rfl)
  rcases hcase with rfl | rfl | ⟨rfl, hr⟩
  iterate 2
    · obtain rfl : [] = F := by rw [← hF, newF_no hc (by omega)]
      clear hF hc hN hkw HFs HBf HX0 HG0 HB0
      go_enter Tryd.func7, Tryd.ntmps7
      go_wp2_with (go_at_call 17; refine HCd.out.mono ?_; rintro e w1 ⟨rfl, hb1⟩; have HB1 := hid (HBa.out.trans (hb1.mono HBa.out.size)); obtain ⟨hq, o0, o1, o2, o3, o4, o5, o6⟩ := HXa.out.on hb1; obtain ⟨g0, g1, g2, g3, g4, g5, g6⟩ := HGa.out.on hb1 HXa.out.lt; clear hb1)
      refine bodyPost_ret (by simp [results, Tryd.results7, go_sem, o0, o1, o2, o3, o4, o5, o6, g0, g1, g2, g3, g4, g5, g6]; rfl) rfl ?_
      have s7 := fun c => set7 w1 w.heap.size (.slice none 0 0) (.int .i64 0) (.int .i64 0) (.slice none 0 0) (.bool false) (.slice none 0 0) (.int .i64 c)
      exact ⟨none, 0, none, 0, rfl, Or.inl rfl, Or.inl rfl, Or.inl rfl, (fun q e => by cases e), (fun q e => by cases e), (fun p q e => by cases e), HB1.out.trans ((s7 _).below (B := w.heap.size) HB1.out.size (fun j h => by omega))⟩
  · obtain rfl : f = F := by rw [← hF, newF_yes hc]
    obtain ⟨hl1, hl2, hgd⟩ := rightB_all' f hr
    have HNw := hid (fun w' (h : Below w.heap.size w w') => own_nodes f b cap (by omega) (by omega) (fun i hi => by have := goodTo_nm' f _ hgd i hi; omega) w' (hN.below h hN.1))
    have HBc := hid (fun w' (h : Below w.heap.size w w') => bareCells_any f b cap (by omega) w' (hN.below h hN.1))
    clear hF hc hr hN hgd hkw HFs HBf HX0 HG0 HB0
    go_enter Tryd.func7, Tryd.ntmps7
    go_wp2_with (first | (go_at_call 17; refine HCd.out.mono ?_; rintro e w1 ⟨rfl, hb1⟩; have HB1 := hid (HBa.out.trans (hb1.mono HBa.out.size)); have HX1 := hid (HXa.out.on hb1); have HG1 := hid (HGa.out.on hb1 HXa.out.lt); have hz1 := hb1.size; clear hb1) | (go_at_call 18; refine (HNw.out _ HB1.out).mono ?_; rintro e w2 ⟨g, gc, m, z, rfl, _, hgg, hm, hr2, hn2, hb2⟩; have HB2 := hid (HB1.out.trans (hb2.mono HB1.out.size)); have HN2 := hid hn2; have HR2 := hid hr2; have HX2 := hid (HX1.out.on hb2); have HG2 := hid (HG1.out.on hb2 HX1.out.lt); have hz2 := hb2.size; clear hb2 hn2 hr2) | (go_at_call 19; refine (HBc.out _ HB2.out).mono ?_; rintro e w3 ⟨h, rfl, hh, hr3, hb3⟩; have HB3 := hid (HB2.out.trans (hb3.mono HB2.out.size)); have HN3 := hid (HN2.out.below hb3 HN2.out.1); have HR3 := hid (HR2.out.of_block (hb3.block g HN2.out.1)); have HC3 := hid hr3; obtain ⟨hq, o0, o1, o2, o3, o4, o5, o6⟩ := HX2.out.on hb3; obtain ⟨g0, g1, g2, g3, g4, g5, g6⟩ := HG2.out.on hb3 HX2.out.lt; have hz3 := hb3.size; clear hb3 hr3))
    refine bodyPost_ret (v := .agg #[.slice (some ⟨g, 0, none⟩) f.length gc, .int .i64 0, .int .i64 0, .slice (some ⟨h, 0, none⟩) f.length f.length, .bool false, .slice none 0 0, .int .i64 0]) (by simp [results, Tryd.results7, go_sem, o0, o1, o2, o3, o4, o5, o6, g0, g1, g2, g3, g4, g5, g6]) rfl ?_
    have hx := HX1.out.lt
    have hb1s := HB1.out.size
    have s7 := set7 w3 w.heap.size (.slice (some ⟨g, 0, none⟩) f.length gc) (.int .i64 0) (.int .i64 0) (.slice (some ⟨h, 0, none⟩) f.length f.length) (.bool false) (.slice none 0 0) (.int .i64 0)
    have hz7 := s7.size
    have hn2 := HN2.out.1
    have hc3 := World.rowIs.lt HC3.out
    exact ⟨some ⟨g, 0, none⟩, gc, some ⟨h, 0, none⟩, f.length, rfl, Or.inr ⟨g, rfl, s7.nodes HN3.out (by omega)⟩, Or.inr ⟨g, m, z, rfl, hm, HR3.out.of_block (s7.block g HR3.out.lt (by omega))⟩, Or.inr ⟨h, rfl, World.rowIs.of_block HC3.out (s7.block h hc3 (by omega))⟩, (fun q e => by injection e with e; subst e; exact ⟨rfl, by show _ ≤ g; omega, by show g < _; omega⟩), (fun q e => by injection e with e; subst e; exact ⟨rfl, by show _ ≤ h; omega, by show h < _; omega⟩), (fun p q e1 e2 => by injection e1 with e1; injection e2 with e2; subst e1 e2; show g < h; omega), HB3.out.trans (s7.below (B := w.heap.size) HB3.out.size (fun j h => by omega))⟩
end Go.Proofs.YtgehklhpmelffaaDoor
namespace Go.Proofs.YtgehklhpmelffaaDoor
open Go.RowKit
set_option linter.unusedVariables false
set_option linter.unusedSimpArgs false
theorem heldNodeS_nil (a : Option Addr) (k0 c : Nat) (w : World) :
    Calls Tryd.prog 37 #[.slice a 0 c, .int .i64 k0] w fun e w' => e = .returned (.int .i64 k0) ∧ w = w' := by
  go_enter Tryd.func37, Tryd.ntmps37
  go_wp2_with fail
  go_loopw [1, 5] (fun t s wr => t = .int .i64 k0 ∧ s = .int .i64 0 ∧ w = wr) (fun _ _ _ => 0)
  case atStart => exact ⟨rfl, rfl, rfl⟩
  case round =>
    obtain ⟨rfl, rfl, rfl⟩ := hrel
    go_wp2_with fail
    go_ret
    exact ⟨rfl, rfl⟩
set_option maxRecDepth 20000 in
set_option maxHeartbeats 2000000 in
theorem heldNodeS_row (n k0 b c : Nat) (hn : n ≤ 1048576) (hk0 : 0 < k0) (hk1 : k0 ≤ 1000) (w : World) (h : NodesAt w b (markN k0 n)) :
    Calls Tryd.prog 37 #[.slice (some ⟨b, 0, none⟩) n c, .int .i64 k0] w fun e w' => e = .returned (.int .i64 (k0 + n * 6 : Nat)) ∧ Below w.heap.size w w' := by
  have H := hid h
  clear h
  go_enter Tryd.func37, Tryd.ntmps37
  go_wp2_with fail
  go_loopw [1, 5] (fun t s wr => ∃ k : Nat, k ≤ n ∧ t = .int .i64 (k0 + k * 6 : Nat) ∧ s = .int .i64 k ∧ Below w.heap.size w wr) (fun _ s _ => n - (intOf s).toNat)
  case atStart => exact ⟨0, Nat.zero_le _, rfl, rfl, Below.refl _ _⟩
  case round =>
    obtain ⟨k, hk, rfl, rfl, hbel⟩ := hrel
    have HB := hid hbel
    have hsz := hbel.size
    clear hbel
    by_cases hlt : k < n
    · have hnd := H.out.2 k (by rw [markN_len]; exact hlt)
      rw [markN_at _ _ _ hlt] at hnd
      obtain ⟨d0, d1, d2, d3, d4, d5⟩ := hnd.below HB.out H.out.1
      clear hnd
      simp only [mkNd, Nd.k, Nd.a, Nd.b, Nd.lo, Nd.hi, Nd.nm] at d0 d1 d2 d3 d4 d5
      have hbl : b < wr.heap.size := Nat.lt_of_lt_of_le H.out.1 hsz
      go_wp2_with fail
      go_region_with (go_at_call 23; refine (markText_int _ (k0 + k * 6 + 5) (by push_cast; omega) (by omega) (by omega) _).mono ?_; rintro e w1 ⟨rfl, hb1⟩; have HB1 : Hid (Below w.heap.size w w1) := HB.out.trans (Below.mono ⟨hb1.os, hb1.tape, hb1.output, hb1.size, hb1.block⟩ hsz); have d6 := (hb1.cell (p := ⟨b, k * 6 + 5, none⟩) hbl).trans d5; clear hb1)
      all_goals
        go_wp2_with fail
        go_roundw
        case rel => exact ⟨k + 1, by omega, by simp; omega, by go_num, HB1.out⟩
        case measure => simp [intOf]; omega
    · have hk' : k = n := by omega
      subst hk'
      go_wp2_with fail
      go_ret
      exact ⟨rfl, HB.out⟩
end Go.Proofs.YtgehklhpmelffaaDoor
namespace Go.Proofs.YtgehklhpmelffaaDoor
open Go.RowKit
set_option linter.unusedVariables false
set_option linter.unusedSimpArgs false
set_option maxRecDepth 20000 in
set_option maxHeartbeats 2000000 in
theorem markNodeS_long (n k0 b c : Nat) (z : Nat → Value) (hn : n ≤ 1048576) (hk0 : 0 < k0) (hk1 : k0 ≤ 1000) (m : Nat) (hm : n * 6 ≤ m) (w : World) (h : w.rowIs b 43 m z) :
    Calls Tryd.prog 10 #[.slice (some ⟨b, 0, none⟩) n c, .int .i64 k0] w fun e w' => e = .returned (.int .i64 (k0 + n * 6 : Nat)) ∧ w'.rowIs b 43 m (rowF (markN k0 n) z n) ∧ Save w w' (fun j => j = b) := by
  have HR0 := hid (h.congr (fun j hj => (show z j = rowF (markN k0 n) z 0 j by simp [rowF])))
  have hbl := h.lt
  clear h
  go_enter Tryd.func10, Tryd.ntmps10
  go_wp2_with fail
  go_loopw [1, 5] (fun t s wr => ∃ k : Nat, k ≤ n ∧ t = .int .i64 (k0 + k * 6 : Nat) ∧ s = .int .i64 k ∧ wr.rowIs b 43 m (rowF (markN k0 n) z k) ∧ Save w wr (fun j => j = b)) (fun _ s _ => n - (intOf s).toNat)
  case atStart => exact ⟨0, Nat.zero_le _, rfl, rfl, HR0.out, Save.refl _ _⟩
  case round =>
    clear HR0
    obtain ⟨k, hk, rfl, rfl, hrow, hsv⟩ := hrel
    have HS := hid hsv
    have HRow := hid hrow
    have hsz := hrow.lt
    clear hrow hsv
    by_cases hlt : k < n
    · have d0 := HRow.out.cell (i := k * 6) (by omega)
      have d1 := HRow.out.cell (i := k * 6 + 1) (by omega)
      have d2 := HRow.out.cell (i := k * 6 + 2) (by omega)
      have d3 := HRow.out.cell (i := k * 6 + 3) (by omega)
      have d4 := HRow.out.cell (i := k * 6 + 4) (by omega)
      have f0 := HRow.out.frozen
      go_wp2_with fail
      refine (markText_int _ (k0 + k * 6 + 5) (by push_cast; omega) (by omega) (by omega) _).mono ?_
      rintro e w1 ⟨rfl, hb1⟩
      have HR1 := hid ((((((HRow.out.set (k * 6) _).set (k * 6 + 1) _).set (k * 6 + 2) _).set (k * 6 + 3) _).set (k * 6 + 4) _).of_block (hb1.block b (by simpa using hsz)))
      have HS1 := hid ((((((HS.out.setCell (p := ⟨b, k * 6, none⟩) (fun _ => rfl) _).setCell (p := ⟨b, k * 6 + 1, none⟩) (fun _ => rfl) _).setCell (p := ⟨b, k * 6 + 2, none⟩) (fun _ => rfl) _).setCell (p := ⟨b, k * 6 + 3, none⟩) (fun _ => rfl) _).setCell (p := ⟨b, k * 6 + 4, none⟩) (fun _ => rfl) _).trans (Save.of_below hb1 _ (fun j h1 h2 => absurd h1 (by omega))))
      have d5 := HR1.out.cell (i := k * 6 + 5) (by omega)
      have f5 := HR1.out.frozen (k * 6 + 5)
      clear hb1 d0 d1 d2 d3 d4 f0
      go_wp2_with fail
      go_roundw
      case rel =>
        refine ⟨k + 1, by omega, by simp; omega, by go_num, (HR1.out.set (k * 6 + 5) _).congr (fun j hj => ?_), HS1.out.setCell (p := ⟨b, k * 6 + 5, none⟩) (fun _ => rfl) _⟩
        rw [rowF_step, markN_at _ _ _ hlt]
        simp [mkNd, Int.add_assoc, Nd.k, Nd.a, Nd.b, Nd.lo, Nd.hi, Nd.nm]
      case measure => simp [intOf]; omega
    · have hk' : k = n := by omega
      subst hk'
      go_wp2_with fail
      go_ret
      exact ⟨rfl, HRow.out, HS.out⟩
theorem row_nodes_long {w : World} {b m : Nat} {f : List Nd} {z : Nat → Value} (h : w.rowIs b 43 m (rowF f z f.length)) (hm : f.length * 6 ≤ m) : NodesAt w b f := by
  refine ⟨h.lt, fun i hi => ?_⟩
  have key : ∀ r, r < 6 → w.cell? ⟨b, i * 6 + r, none⟩ = some ((ndCells (ndAt f i)).getD r undef) := by
    intro r hr
    rw [h.cell (by omega)]
    unfold rowF
    rw [if_pos (by omega), show (i * 6 + r) / 6 = i by omega, show (i * 6 + r) % 6 = r by omega]
  exact ⟨key 0 (by decide), key 1 (by decide), key 2 (by decide), key 3 (by decide), key 4 (by decide), key 5 (by decide)⟩
/-- The block of a slice's address. -/
def OfB (a : Option Addr) (j : Nat) : Prop := ∃ q, a = some q ∧ q.block = j
theorem markNs (n : Nat) (a : Option Addr) (c : Nat) (hn : n ≤ 1048576) (w : World) (h : RowA w a n) :
    Calls Tryd.prog 10 #[.slice a n c, .int .i64 1] w fun e w' => e = .returned (.int .i64 (1 + n * 6 : Nat)) ∧ NsA w' a (markN 1 n) ∧ Save w w' (OfB a) := by
  rcases h with rfl | ⟨b, m, z, rfl, hm, h⟩
  · refine (markNodeS_nil a 1 c w).mono ?_
    rintro e w' ⟨rfl, rfl⟩
    exact ⟨rfl, Or.inl rfl, Save.refl _ _⟩
  · refine (markNodeS_long n 1 b c z hn (by omega) (by omega) m hm w h).mono ?_
    rintro e w' ⟨rfl, hr, hs⟩
    refine ⟨rfl, Or.inr ⟨b, rfl, ?_⟩, hs.mono (fun j _ e => ⟨_, rfl, e.symm⟩)⟩
    exact @row_nodes_long w' b m (markN 1 n) z (by rw [markN_len]; exact hr) (by rw [markN_len]; exact hm)
theorem heldNs (n : Nat) (a : Option Addr) (c : Nat) (hn : n ≤ 1048576) (w : World) (h : NsA w a (markN 1 n)) :
    Calls Tryd.prog 37 #[.slice a n c, .int .i64 1] w fun e w' => e = .returned (.int .i64 (1 + n * 6 : Nat)) ∧ Below w.heap.size w w' := by
  rcases h with h | ⟨b, rfl, h⟩
  · rw [markN_len] at h
    subst h
    refine (heldNodeS_nil a 1 c w).mono ?_
    rintro e w' ⟨rfl, rfl⟩
    exact ⟨rfl, Below.refl _ _⟩
  · exact heldNodeS_row n 1 b c hn (by omega) (by omega) w h
theorem NsA.save {w w' : World} {a : Option Addr} {P : List Nd} {S : Nat → Prop} (h : NsA w a P) (hs : Save w w' S) (hS : ∀ q, a = some q → ¬ S q.block) : NsA w' a P :=
  h.imp id (fun ⟨b, e, hn⟩ => ⟨b, e, hs.nodes hn (hS _ e)⟩)
theorem NsA.on {w w' : World} {a : Option Addr} {P : List Nd} (h : NsA w a P) (hb : Below w.heap.size w w') : NsA w' a P :=
  h.imp id (fun ⟨b, e, hn⟩ => ⟨b, e, hn.below hb hn.1⟩)
theorem RowA.save {w w' : World} {a : Option Addr} {n : Nat} {S : Nat → Prop} (h : RowA w a n) (hs : Save w w' S) (hS : ∀ q, a = some q → ¬ S q.block) : RowA w' a n :=
  h.imp id (fun ⟨b, m, z, e, hm, hr⟩ => ⟨b, m, z, e, hm, hr.of_block (hs.block b hr.lt (hS _ e))⟩)
theorem RowA.on {w w' : World} {a : Option Addr} {n : Nat} (h : RowA w a n) (hb : Below w.heap.size w w') : RowA w' a n :=
  h.imp id (fun ⟨b, m, z, e, hm, hr⟩ => ⟨b, m, z, e, hm, hr.of_block (hb.block b hr.lt)⟩)
theorem RowB.save {w w' : World} {a : Option Addr} {F : List Nd} {S : Nat → Prop} (h : RowB w a F) (hs : Save w w' S) (hS : ∀ q, a = some q → ¬ S q.block) : RowB w' a F :=
  h.imp id (fun ⟨b, e, hr⟩ => ⟨b, e, World.rowIs.of_block hr (hs.block b (World.rowIs.lt hr) (hS _ e))⟩)
theorem RowB.on {w w' : World} {a : Option Addr} {F : List Nd} (h : RowB w a F) (hb : Below w.heap.size w w') : RowB w' a F :=
  h.imp id (fun ⟨b, e, hr⟩ => ⟨b, e, World.rowIs.of_block hr (hb.block b (World.rowIs.lt hr))⟩)
set_option maxRecDepth 20000 in
theorem eqNs_nil (a1 a2 : Option Addr) (c1 c2 : Nat) (w : World) :
    Calls Tryd.prog 9 #[.slice a1 0 c1, .slice a2 0 c2] w fun e w' => e = .returned (.bool true) ∧ Below w.heap.size w w' := by
  go_enter Tryd.func9, Tryd.ntmps9
  go_wp2_with fail
  go_loopw [5] (fun t wr => t = .int .i64 0 ∧ wr = w) (fun _ _ => 0)
  case atStart => exact ⟨rfl, rfl⟩
  case round =>
    obtain ⟨rfl, rfl⟩ := hrel
    go_wp2_with fail
    go_ret
    exact ⟨rfl, Below.refl _ _⟩
theorem eqNs (P : List Nd) (n : Nat) (hn : P.length = n) (a1 a2 : Option Addr) (c1 c2 : Nat) (hl : n ≤ 1048576) (w : World) (h1 : NsA w a1 P) (h2 : NsA w a2 P) :
    Calls Tryd.prog 9 #[.slice a1 n c1, .slice a2 n c2] w fun e w' => e = .returned (.bool true) ∧ Below w.heap.size w w' := by
  subst hn
  rcases h1 with h0 | ⟨b1, rfl, h1⟩
  · rw [h0]
    exact eqNs_nil a1 a2 c1 c2 w
  · rcases h2 with h0 | ⟨b2, rfl, h2⟩
    · rw [h0]
      exact eqNs_nil _ a2 c1 c2 w
    · exact eqNodeS_same P b1 b2 c1 c2 hl w h1 h2
/-- Cell j of a row of bare cells of which the first k are marked. -/
def rowM (k0 : Nat) (z : Nat → Value) (k j : Nat) : Value := if j < k * 4 then (if j % 4 = 0 then .int .i64 ((k0 + j / 4 * 3 : Nat) : Int) else if j % 4 = 1 then .int .i64 ((k0 + j / 4 * 3 + 1 : Nat) : Int) else if j % 4 = 2 then .slice none 0 0 else .bool (decide (((k0 + j / 4 * 3 + 2 : Nat) : Int) % 3 = 0))) else z j
theorem rowM_step (k0 : Nat) (z : Nat → Value) (k j : Nat) (hz : z (k * 4 + 2) = .slice none 0 0) : rowM k0 z (k + 1) j = if j = k * 4 + 3 then .bool (decide (((k0 + k * 3 + 2 : Nat) : Int) % 3 = 0)) else if j = k * 4 + 1 then .int .i64 ((k0 + k * 3 + 1 : Nat) : Int) else if j = k * 4 then .int .i64 ((k0 + k * 3 : Nat) : Int) else rowM k0 z k j := by
  unfold rowM
  by_cases h : j < k * 4
  · have e3 : ¬ j = k * 4 + 3 := by omega
    have e1 : ¬ j = k * 4 + 1 := by omega
    have e0 : ¬ j = k * 4 := by omega
    have h' : j < (k + 1) * 4 := by omega
    simp only [e3, e1, e0, h, h', if_true, if_false]
  · by_cases h' : j < (k + 1) * 4
    · have hd : j / 4 = k := by omega
      have hj : j = k * 4 ∨ j = k * 4 + 1 ∨ j = k * 4 + 2 ∨ j = k * 4 + 3 := by omega
      rcases hj with e | e | e | e
      · rw [if_pos h', if_pos (by omega), if_neg (by omega), if_neg (by omega), if_pos e, hd]
      · rw [if_pos h', if_neg (by omega), if_pos (by omega), if_neg (by omega), if_pos e, hd]
      · rw [if_pos h', if_neg (by omega), if_neg (by omega), if_pos (by omega), if_neg (by omega), if_neg (by omega), if_neg (by omega), if_neg h, e, hz]
      · rw [if_pos h', if_neg (by omega), if_neg (by omega), if_neg (by omega), if_pos e, hd]
    · rw [if_neg h', if_neg (by omega), if_neg (by omega), if_neg (by omega), if_neg h]
set_option maxRecDepth 20000 in
set_option maxHeartbeats 2000000 in
theorem markCs_row (n k0 b c : Nat) (z : Nat → Value) (hn : n ≤ 1048576) (hk1 : k0 ≤ 10000000) (m : Nat) (hm : n * 4 ≤ m) (hz : ∀ i, i < n → z (i * 4 + 2) = .slice none 0 0) (w : World) (h : w.rowIs b 61 m z) :
    Calls Tryd.prog 36 #[.slice (some ⟨b, 0, none⟩) n c, .int .i64 k0] w fun e w' => e = .returned (.int .i64 (k0 + n * 3 : Nat)) ∧ w'.rowIs b 61 m (rowM k0 z n) ∧ Save w w' (fun j => j = b) := by
  have HR0 := hid (h.congr (fun j hj => (show z j = rowM k0 z 0 j by simp [rowM])))
  have hbl := h.lt
  have HZ := hid hz
  clear h hz
  go_enter Tryd.func36, Tryd.ntmps36
  go_wp2_with fail
  go_loopw [1, 5] (fun t s wr => ∃ k : Nat, k ≤ n ∧ t = .int .i64 (k0 + k * 3 : Nat) ∧ s = .int .i64 k ∧ wr.rowIs b 61 m (rowM k0 z k) ∧ Save w wr (fun j => j = b)) (fun _ s _ => n - (intOf s).toNat)
  case atStart => exact ⟨0, Nat.zero_le _, rfl, rfl, HR0.out, Save.refl _ _⟩
  case round =>
    clear HR0
    obtain ⟨k, hk, rfl, rfl, hrow, hsv⟩ := hrel
    have HS := hid hsv
    have HRow := hid hrow
    have hsz := hrow.lt
    clear hrow hsv
    by_cases hlt : k < n
    · have HZk := hid (HZ.out k hlt)
      have d0 := HRow.out.cell (i := k * 4) (by omega)
      have d1 := HRow.out.cell (i := k * 4 + 1) (by omega)
      have d2' := HRow.out.cell (i := k * 4 + 2) (by omega)
      have d2 : wr.cell? ⟨b, k * 4 + 2, none⟩ = some (.slice none 0 0) := by rw [d2']; unfold rowM; rw [if_neg (by omega), HZk.out]
      have d3 := HRow.out.cell (i := k * 4 + 3) (by omega)
      have f0 := HRow.out.frozen
      have HMI := hid (fun (q : Nat) (hq : q ≤ 1000000000) w => markInt64S_any q 0 none 0 (by omega) hq w (Or.inl rfl))
      clear d2'
      go_wp2_with fail
      rw [show ((k0 : Int) + (k : Int) * 3 + 1 + 1) = ((k0 + k * 3 + 2 : Nat) : Int) by push_cast; omega]
      refine (HMI.out (k0 + k * 3 + 2) (by omega) _).mono ?_
      rintro e w1 ⟨rfl, _, hs1⟩
      have hno : ¬ OfT none b := fun h => by obtain ⟨q, e, _⟩ := h; cases e
      have HR1 := hid (((HRow.out.set (k * 4) _).set (k * 4 + 1) _).of_block (hs1.block b (by simpa using hsz) hno))
      have HS1 := hid (((HS.out.setCell (p := ⟨b, k * 4, none⟩) (fun _ => rfl) (.int .i64 ((k0 : Int) + (k : Int) * 3))).setCell (p := ⟨b, k * 4 + 1, none⟩) (fun _ => rfl) (.int .i64 ((k0 : Int) + (k : Int) * 3 + 1))).trans (hs1.mono (fun j _ h => by obtain ⟨q, e, _⟩ := h; cases e)))
      have e3 := HR1.out.cell (i := k * 4 + 3) (by omega)
      have f3 := HR1.out.frozen (k * 4 + 3)
      have HSt := hid (fun j => rowM_step k0 z k j HZk.out)
      clear hs1 d0 d1 d2 d3 f0 HMI
      go_wp2_with fail
      go_roundw
      case rel =>
        refine ⟨k + 1, by omega, by simp; omega, by go_num, (HR1.out.set (k * 4 + 3) _).congr (fun j hj => ?_), HS1.out.setCell (p := ⟨b, k * 4 + 3, none⟩) (fun _ => rfl) _⟩
        rw [HSt.out]
        split
        · congr 1
        · split
          · congr 1
          · split
            · congr 1
            · rfl
      case measure => simp [intOf]; omega
    · have hk' : k = n := by omega
      subst hk'
      go_wp2_with fail
      go_ret
      exact ⟨rfl, HRow.out, HS.out⟩
end Go.Proofs.YtgehklhpmelffaaDoor
namespace Go.Proofs.YtgehklhpmelffaaDoor
open Go.RowKit
set_option linter.unusedVariables false
set_option linter.unusedSimpArgs false
set_option maxRecDepth 20000 in
set_option maxHeartbeats 2000000 in
theorem heldCs_row (n k0 b c : Nat) (z : Nat → Value) (hn : n ≤ 1048576) (hk1 : k0 ≤ 10000000) (m : Nat) (hm : n * 4 ≤ m) (w : World) (h : w.rowIs b 61 m (rowM k0 z n)) :
    Calls Tryd.prog 38 #[.slice (some ⟨b, 0, none⟩) n c, .int .i64 k0] w fun e w' => e = .returned (.int .i64 (k0 + n * 3 : Nat)) ∧ Below w.heap.size w w' := by
  have H := hid h
  have hbl := h.lt
  clear h
  go_enter Tryd.func38, Tryd.ntmps38
  go_wp2_with fail
  go_loopw [1, 5] (fun t s wr => ∃ k : Nat, k ≤ n ∧ t = .int .i64 (k0 + k * 3 : Nat) ∧ s = .int .i64 k ∧ Below w.heap.size w wr) (fun _ s _ => n - (intOf s).toNat)
  case atStart => exact ⟨0, Nat.zero_le _, rfl, rfl, Below.refl _ _⟩
  case round =>
    obtain ⟨k, hk, rfl, rfl, hbel⟩ := hrel
    have HB := hid hbel
    clear hbel
    by_cases hlt : k < n
    · have HRow := hid (H.out.of_block (HB.out.block b hbl))
      have d0 : wr.cell? ⟨b, k * 4, none⟩ = some (.int .i64 ((k0 : Int) + (k : Int) * 3)) := by rw [HRow.out.cell (i := k * 4) (by omega)]; unfold rowM; rw [if_pos (by omega), if_pos (by omega), show k * 4 / 4 = k by omega]; push_cast; rfl
      have d1 : wr.cell? ⟨b, k * 4 + 1, none⟩ = some (.int .i64 ((k0 : Int) + (k : Int) * 3 + 1)) := by rw [HRow.out.cell (i := k * 4 + 1) (by omega)]; unfold rowM; rw [if_pos (by omega), if_neg (by omega), if_pos (by omega), show (k * 4 + 1) / 4 = k by omega]; push_cast; rfl
      have d2 : wr.cell? ⟨b, k * 4 + 2, none⟩ = some (.slice none 0 0) := by rw [HRow.out.cell (i := k * 4 + 2) (by omega)]; unfold rowM; rw [if_pos (by omega), if_neg (by omega), if_neg (by omega), if_pos (by omega)]
      have d3 : wr.cell? ⟨b, k * 4 + 3, none⟩ = some (.bool (decide (((k0 : Int) + (k : Int) * 3 + 2) % 3 = 0))) := by rw [HRow.out.cell (i := k * 4 + 3) (by omega)]; unfold rowM; rw [if_pos (by omega), if_neg (by omega), if_neg (by omega), if_neg (by omega), show (k * 4 + 3) / 4 = k by omega]; push_cast; rfl
      have x0 : ((k0 : Int) + (k : Int) * 3 != (k0 : Int) + (k : Int) * 3) = false := by simp
      have x1 : ((k0 : Int) + (k : Int) * 3 + 1 != (k0 : Int) + (k : Int) * 3 + 1) = false := by simp
      have HMI := hid (fun (q : Nat) (hq : q ≤ 1000000000) w => heldInt64S_any q 0 none 0 (by omega) hq w (Or.inl (by simp [markI])))
      have HD3 := hid d3
      clear d3
      go_wp2_with fail
      rw [show ((k0 : Int) + (k : Int) * 3 + 1 + 1) = ((k0 + k * 3 + 2 : Nat) : Int) by push_cast; omega]
      refine (HMI.out (k0 + k * 3 + 2) (by omega) _).mono ?_
      rintro e w1 ⟨rfl, hb1⟩
      have HB1 := hid (HB.out.trans (hb1.mono HB.out.size))
      have e3 := (hb1.cell (p := ⟨b, k * 4 + 3, none⟩) HRow.out.lt).trans HD3.out
      have hge : ¬ (((k0 + k * 3 + 2 + 0 : Nat) : Int) < 0) := by omega
      clear hb1 d0 d1 d2 x0 x1 HMI
      by_cases h3 : ((k0 : Int) + (k : Int) * 3 + 2) % 3 = 0
      · have b3 : decide (((k0 : Int) + (k : Int) * 3 + 2) % 3 = 0) = true := by simp [h3]
        rw [b3] at e3
        clear b3
        go_wp2_with fail
        go_roundw
        case rel => exact ⟨k + 1, by omega, by simp; omega, by go_num, HB1.out⟩
        case measure => simp [intOf]; omega
      · have b3 : decide (((k0 : Int) + (k : Int) * 3 + 2) % 3 = 0) = false := by simp [h3]
        rw [b3] at e3
        clear b3
        go_wp2_with fail
        go_roundw
        case rel => exact ⟨k + 1, by omega, by simp; omega, by go_num, HB1.out⟩
        case measure => simp [intOf]; omega
    · have hk' : k = n := by omega
      subst hk'
      go_wp2_with fail
      go_ret
      exact ⟨rfl, HB.out⟩
set_option maxRecDepth 20000 in
theorem markCs_nil (a : Option Addr) (k0 c : Nat) (w : World) :
    Calls Tryd.prog 36 #[.slice a 0 c, .int .i64 k0] w fun e w' => e = .returned (.int .i64 k0) ∧ w = w' := by
  go_enter Tryd.func36, Tryd.ntmps36
  go_wp2_with fail
  go_loopw [1, 5] (fun t s wr => t = .int .i64 k0 ∧ s = .int .i64 0 ∧ w = wr) (fun _ _ _ => 0)
  case atStart => exact ⟨rfl, rfl, rfl⟩
  case round =>
    obtain ⟨rfl, rfl, rfl⟩ := hrel
    go_wp2_with fail
    go_ret
    exact ⟨rfl, rfl⟩
set_option maxRecDepth 20000 in
theorem heldCs_nil (a : Option Addr) (k0 c : Nat) (w : World) :
    Calls Tryd.prog 38 #[.slice a 0 c, .int .i64 k0] w fun e w' => e = .returned (.int .i64 k0) ∧ w = w' := by
  go_enter Tryd.func38, Tryd.ntmps38
  go_wp2_with fail
  go_loopw [1, 5] (fun t s wr => t = .int .i64 k0 ∧ s = .int .i64 0 ∧ w = wr) (fun _ _ _ => 0)
  case atStart => exact ⟨rfl, rfl, rfl⟩
  case round =>
    obtain ⟨rfl, rfl, rfl⟩ := hrel
    go_wp2_with fail
    go_ret
    exact ⟨rfl, rfl⟩
set_option maxRecDepth 20000 in
theorem markBs_nil (a : Option Addr) (k0 c : Nat) (w : World) :
    Calls Tryd.prog 25 #[.slice a 0 c, .int .i64 k0] w fun e w' => e = .returned (.int .i64 k0) ∧ w = w' := by
  go_enter Tryd.func25, Tryd.ntmps25
  go_wp2_with fail
  go_loopw [1, 5] (fun t s wr => t = .int .i64 k0 ∧ s = .int .i64 0 ∧ w = wr) (fun _ _ _ => 0)
  case atStart => exact ⟨rfl, rfl, rfl⟩
  case round =>
    obtain ⟨rfl, rfl, rfl⟩ := hrel
    go_wp2_with fail
    go_ret
    exact ⟨rfl, rfl⟩
set_option maxRecDepth 20000 in
theorem heldBs_nil (a : Option Addr) (k0 c : Nat) (w : World) :
    Calls Tryd.prog 27 #[.slice a 0 c, .int .i64 k0] w fun e w' => e = .returned (.int .i64 k0) ∧ w = w' := by
  go_enter Tryd.func27, Tryd.ntmps27
  go_wp2_with fail
  go_loopw [1, 5] (fun t s wr => t = .int .i64 k0 ∧ s = .int .i64 0 ∧ w = wr) (fun _ _ _ => 0)
  case atStart => exact ⟨rfl, rfl, rfl⟩
  case round =>
    obtain ⟨rfl, rfl, rfl⟩ := hrel
    go_wp2_with fail
    go_ret
    exact ⟨rfl, rfl⟩
set_option maxRecDepth 20000 in
theorem eqBs_nil (a1 a2 : Option Addr) (c1 c2 : Nat) (w : World) :
    Calls Tryd.prog 21 #[.slice a1 0 c1, .slice a2 0 c2] w fun e w' => e = .returned (.bool true) ∧ w = w' := by
  go_enter Tryd.func21, Tryd.ntmps21
  go_wp2_with fail
  go_loopw [5] (fun t wr => t = .int .i64 0 ∧ w = wr) (fun _ _ => 0)
  case atStart => exact ⟨rfl, rfl⟩
  case round =>
    obtain ⟨rfl, rfl⟩ := hrel
    go_wp2_with fail
    go_ret
    exact ⟨rfl, rfl⟩
/-- Cells of a MonNew's answer, marked. -/
def MkC (w : World) (a : Option Addr) (n k0 : Nat) : Prop := n = 0 ∨ ∃ b m z, a = some ⟨b, 0, none⟩ ∧ n * 4 ≤ m ∧ w.rowIs b 61 m (rowM k0 z n)
theorem MkC.on {w w' : World} {a : Option Addr} {n k0 : Nat} (h : MkC w a n k0) (hb : Below w.heap.size w w') : MkC w' a n k0 :=
  h.imp id (fun ⟨b, m, z, e, hm, hr⟩ => ⟨b, m, z, e, hm, hr.of_block (hb.block b hr.lt)⟩)
theorem markCs (F : List Nd) (k0 : Nat) (a : Option Addr) (c : Nat) (hn : F.length ≤ 1048576) (hk : k0 ≤ 10000000) (w : World) (h : RowB w a F) :
    Calls Tryd.prog 36 #[.slice a F.length c, .int .i64 k0] w fun e w' => e = .returned (.int .i64 (k0 + F.length * 3 : Nat)) ∧ MkC w' a F.length k0 ∧ Save w w' (OfB a) := by
  rcases h with h | ⟨b, rfl, h⟩
  · rw [h]
    refine (markCs_nil a k0 c w).mono ?_
    rintro e w' ⟨rfl, rfl⟩
    exact ⟨rfl, Or.inl rfl, Save.refl _ _⟩
  · refine (markCs_row F.length k0 b c _ hn hk (F.length * 4) (Nat.le_refl _) (fun i hi => ?_) w h).mono ?_
    · unfold rowC
      rw [if_pos (by omega), if_neg (by omega), if_neg (by omega), if_pos (by omega)]
      rfl
    · rintro e w' ⟨rfl, hr, hs⟩
      exact ⟨rfl, Or.inr ⟨b, _, _, rfl, Nat.le_refl _, hr⟩, hs.mono (fun j _ e => ⟨_, rfl, e.symm⟩)⟩
theorem heldCs (n k0 : Nat) (a : Option Addr) (c : Nat) (hn : n ≤ 1048576) (hk : k0 ≤ 10000000) (w : World) (h : MkC w a n k0) :
    Calls Tryd.prog 38 #[.slice a n c, .int .i64 k0] w fun e w' => e = .returned (.int .i64 (k0 + n * 3 : Nat)) ∧ Below w.heap.size w w' := by
  rcases h with rfl | ⟨b, m, z, rfl, hm, h⟩
  · refine (heldCs_nil a k0 c w).mono ?_
    rintro e w' ⟨rfl, rfl⟩
    exact ⟨rfl, Below.refl _ _⟩
  · exact heldCs_row n k0 b c z hn hk m hm w h
end Go.Proofs.YtgehklhpmelffaaDoor
namespace Go.Proofs.YtgehklhpmelffaaDoor
open Go.RowKit
set_option linter.unusedVariables false
set_option linter.unusedSimpArgs false
theorem OBox.new (w : World) (fa : Option Addr) (fn fc : Nat) (ca : Option Addr) (cn cc : Nat) (code : Int) : OBox (w.alloc (.cells #[.slice fa fn fc, .int .i64 0, .int .i64 0, .slice ca cn cc, .bool false, .slice none 0 0, .int .i64 code] 30)) w.heap.size fa fn fc 0 0 ca cn cc false none 0 0 code :=
  ⟨by simp, by simp [go_sem], by simp [go_sem], by simp [go_sem], by simp [go_sem], by simp [go_sem], by simp [go_sem], by simp [go_sem]⟩
set_option maxRecDepth 20000 in
set_option maxHeartbeats 2000000 in
theorem eqMonA (F : List Nd) (n : Nat) (hn : F.length = n) (a1 a2 : Option Addr) (d1 d2 : Nat) (b1 b2 : Option Addr) (c1 c2 : Nat) (hl : n ≤ 1048576) (w : World) (n1 : NsA w a1 F) (n2 : NsA w a2 F) (h1 : CksAt w b1 (bareC F)) (h2 : CksAt w b2 (bareC F)) :
    Calls Tryd.prog 20 #[.agg #[.slice a1 n d1, .int .i64 0, .int .i64 0, .slice b1 n c1], .agg #[.slice a2 n d2, .int .i64 0, .int .i64 0, .slice b2 n c2]] w fun e w' => e = .returned (.bool true) ∧ Below w.heap.size w w' := by
  have HB0 := hid (bbelow2' w (.cells #[.slice a1 n d1, .int .i64 0, .int .i64 0, .slice b1 n c1] 27) (.cells #[.slice a2 n d2, .int .i64 0, .int .i64 0, .slice b2 n c2] 27))
  have N1 := hid (n1.on HB0.out)
  have N2 := hid (n2.on HB0.out)
  have H1 := hid (h1.on HB0.out)
  have H2 := hid (h2.on HB0.out)
  have HCS := hid (fun w h1 h2 => eqCellS_any (bareC F) n (by rw [bareC_len, hn]) b1 b2 c1 c2 hl (fun i hi => by rw [bareC_len] at hi; rw [bareC_at F i hi]; simp) w h1 h2)
  have HNS := hid (fun w h1 h2 => eqNs F n hn a1 a2 d1 d2 hl w h1 h2)
  clear n1 n2 h1 h2 hn
  go_enter Tryd.func20, Tryd.ntmps20
  go_wp2_with (first | (go_at_call 9; refine (HNS.out _ N1.out N2.out).mono ?_; rintro e w1 ⟨rfl, hb⟩; have HB1 := hid (HB0.out.trans (hb.mono (by simp; omega))); have H11 := hid (H1.out.on hb); have H12 := hid (H2.out.on hb); obtain ⟨hc, hf⟩ := bcell hb; have hz : w.heap.size + 2 ≤ w1.heap.size := (by have := hb.size; simp at this; omega); clear hb) | (go_at_call 35; refine (HCS.out _ H11.out H12.out).mono ?_; rintro e w2 ⟨rfl, hb2⟩; have HB2 := hid (HB1.out.trans (hb2.mono HB1.out.size)); clear hb2))
  go_ret
  exact ⟨rfl, HB2.out⟩
set_option maxRecDepth 20000 in
set_option maxHeartbeats 2000000 in
theorem eqOutA (F : List Nd) (n : Nat) (hn : F.length = n) (a1 a2 : Option Addr) (d1 d2 : Nat) (b1 b2 : Option Addr) (c1 c2 : Nat) (code : Int) (hl : n ≤ 1048576) (w : World) (n1 : NsA w a1 F) (n2 : NsA w a2 F) (h1 : CksAt w b1 (bareC F)) (h2 : CksAt w b2 (bareC F)) :
    Calls Tryd.prog 8 #[outV a1 n d1 0 0 b1 n c1 false none 0 0 code, outV a2 n d2 0 0 b2 n c2 false none 0 0 code] w fun e w' => e = .returned (.bool true) ∧ Below w.heap.size w w' := by
  unfold outV
  have HB0 := hid (bbelow2' w (.cells #[.slice a1 n d1, .int .i64 0, .int .i64 0, .slice b1 n c1, .bool false, .slice none 0 0, .int .i64 code] 30) (.cells #[.slice a2 n d2, .int .i64 0, .int .i64 0, .slice b2 n c2, .bool false, .slice none 0 0, .int .i64 code] 30))
  have HM := hid (fun w n1 n2 h1 h2 => eqMonA F n hn a1 a2 d1 d2 b1 b2 c1 c2 hl w n1 n2 h1 h2)
  have N1 := hid (n1.on HB0.out)
  have N2 := hid (n2.on HB0.out)
  have H1 := hid (h1.on HB0.out)
  have H2 := hid (h2.on HB0.out)
  have HBs := hid (fun w => eqBs_nil none none 0 0 w)
  clear n1 n2 h1 h2 hn
  have e1 : (code != code) = false := by simp
  go_enter Tryd.func8, Tryd.ntmps8
  go_wp2_with (first | (go_at_call 20; refine (HM.out _ N1.out N2.out H1.out H2.out).mono ?_; rintro e w1 ⟨rfl, hb⟩; have HB1 := hid (HB0.out.trans (hb.mono (by simp; omega))); obtain ⟨hc, hf⟩ := bcell hb; have hz : w.heap.size + 2 ≤ w1.heap.size := (by have := hb.size; simp at this; omega); clear hb) | (go_at_call 21; refine (HBs.out _).mono ?_; rintro e w' ⟨rfl, rfl⟩))
  go_ret
  exact ⟨rfl, HB1.out⟩
/-- Where the blocks of an answer lie. -/
structure OutAp (B : Nat) (fa ca : Option Addr) : Prop where
  f : ∀ q, fa = some q → q = ⟨q.block, 0, none⟩ ∧ q.block < B
  c : ∀ q, ca = some q → q = ⟨q.block, 0, none⟩ ∧ q.block < B
  ap : ∀ p q, fa = some p → ca = some q → p.block < q.block
def OfO (fa ca : Option Addr) (j : Nat) : Prop := OfB fa j ∨ OfB ca j
set_option maxRecDepth 20000 in
set_option maxHeartbeats 2000000 in
theorem markMonA (F : List Nd) (fa : Option Addr) (fc : Nat) (ca : Option Addr) (cc : Nat) (hl : F.length ≤ 1000000) (w : World) (hap : OutAp w.heap.size fa ca) (hf : RowA w fa F.length) (hc : RowB w ca F) :
    Calls Tryd.prog 24 #[.agg #[.slice fa F.length fc, .int .i64 0, .int .i64 0, .slice ca F.length cc], .int .i64 1] w fun e w' => e = .returned (.int .i64 (1 + F.length * 6 + F.length * 3 : Nat)) ∧ NsA w' fa (markN 1 F.length) ∧ MkC w' ca F.length (1 + F.length * 6) ∧ Save w w' (OfO fa ca) := by
  have HB0 := hid (below_one' w (.cells #[.slice fa F.length fc, .int .i64 0, .int .i64 0, .slice ca F.length cc] 27))
  have HX0 := hid (MBox.new w fa F.length fc 0 0 ca F.length cc 27)
  have HF := hid (hf.on HB0.out)
  have HC := hid (hc.on HB0.out)
  have HAp := hid hap
  have HMN := hid (fun w h => markNs F.length fa fc (by omega) w h)
  have HMC := hid (fun w h => markCs F (1 + F.length * 6) ca cc (by omega) (by omega) w h)
  have hS0 : Hid (Save w (w.alloc (.cells #[.slice fa F.length fc, .int .i64 0, .int .i64 0, .slice ca F.length cc] 27)) (OfO fa ca)) := Save.alloc (Save.refl w _) _
  clear hf hc hap
  go_enter Tryd.func24, Tryd.ntmps24
  go_wp2_with (first | (go_at_call 10; refine (HMN.out _ HF.out).mono ?_; rintro e w1 ⟨rfl, hn1, hs1⟩; have HN1 := hid hn1; have HS1 := hid hs1; have HC1 := hid (HC.out.save hs1 (fun q e h => by obtain ⟨p, e2, h⟩ := h; have := HAp.out.ap p q e2 e; omega)); obtain ⟨_, m0, m1, m2, m3⟩ := HX0.out.save hs1 (fun h => by obtain ⟨p, e2, h⟩ := h; have := (HAp.out.f p e2).2; omega); clear hn1 hs1) | (go_at_call 36; refine (HMC.out _ HC1.out).mono ?_; rintro e w2 ⟨rfl, hm2, hs2⟩; have HM2 := hid hm2; have HN2 := hid (HN1.out.save hs2 (fun q e h => by obtain ⟨p, e2, h⟩ := h; have := HAp.out.ap q p e e2; omega)); have HS2 := hid ((hS0.out.trans (HS1.out.mono (fun j _ h => Or.inl h))).trans (hs2.mono (fun j _ h => Or.inr h))); clear hm2 hs2))
  go_ret
  exact ⟨rfl, HN2.out, HM2.out, HS2.out⟩
set_option maxRecDepth 20000 in
set_option maxHeartbeats 2000000 in
theorem markOutA (F : List Nd) (fa : Option Addr) (fc : Nat) (ca : Option Addr) (cc : Nat) (code : Int) (hl : F.length ≤ 1000000) (w : World) (hap : OutAp w.heap.size fa ca) (hf : RowA w fa F.length) (hc : RowB w ca F) :
    Calls Tryd.prog 11 #[outV fa F.length fc 0 0 ca F.length cc false none 0 0 code, .int .i64 1] w fun e w' => e = .returned (.int .i64 (1 + F.length * 6 + F.length * 3 : Nat)) ∧ NsA w' fa (markN 1 F.length) ∧ MkC w' ca F.length (1 + F.length * 6) ∧ Save w w' (OfO fa ca) := by
  unfold outV
  have HB0 := hid (below_one' w (.cells #[.slice fa F.length fc, .int .i64 0, .int .i64 0, .slice ca F.length cc, .bool false, .slice none 0 0, .int .i64 code] 30))
  have HX0 := hid (OBox.new w fa F.length fc ca F.length cc code)
  have HAp := hid hap
  have HMM := hid (markMonA F fa fc ca cc hl _ ⟨fun q e => ⟨(hap.f q e).1, Nat.lt_of_lt_of_le (hap.f q e).2 HB0.out.size⟩, fun q e => ⟨(hap.c q e).1, Nat.lt_of_lt_of_le (hap.c q e).2 HB0.out.size⟩, hap.ap⟩ (hf.on HB0.out) (hc.on HB0.out))
  have hS0 : Hid (Save w (w.alloc (.cells #[.slice fa F.length fc, .int .i64 0, .int .i64 0, .slice ca F.length cc, .bool false, .slice none 0 0, .int .i64 code] 30)) (OfO fa ca)) := Save.alloc (Save.refl w _) _
  have HBs := hid (fun (k : Nat) w => markBs_nil none k 0 w)
  clear hf hc hap
  go_enter Tryd.func11, Tryd.ntmps11
  go_wp2_with (first | (go_at_call 24; refine HMM.out.mono ?_; rintro e w1 ⟨rfl, hn1, hm1, hs1⟩; have HN1 := hid hn1; have HM1 := hid hm1; have HS1 := hid (hS0.out.trans hs1); obtain ⟨_, o0, o1, o2, o3, o4, o5, o6⟩ := HX0.out.save hs1 (fun h => by rcases h with ⟨p, e2, h⟩ | ⟨p, e2, h⟩; exact absurd (HAp.out.f p e2).2 (by omega); exact absurd (HAp.out.c p e2).2 (by omega)); clear hn1 hm1 hs1) | (go_at_call 25; refine (HBs.out (1 + F.length * 6 + F.length * 3) _).mono ?_; rintro e w' ⟨rfl, rfl⟩))
  go_ret
  exact ⟨rfl, HN1.out, HM1.out, HS1.out⟩
set_option maxRecDepth 20000 in
set_option maxHeartbeats 2000000 in
theorem heldMonA (n : Nat) (fa : Option Addr) (fc : Nat) (ca : Option Addr) (cc : Nat) (hl : n ≤ 1000000) (w : World) (hf : NsA w fa (markN 1 n)) (hc : MkC w ca n (1 + n * 6)) :
    Calls Tryd.prog 26 #[.agg #[.slice fa n fc, .int .i64 0, .int .i64 0, .slice ca n cc], .int .i64 1] w fun e w' => e = .returned (.int .i64 (1 + n * 6 + n * 3 : Nat)) ∧ Below w.heap.size w w' := by
  have HB0 := hid (below_one' w (.cells #[.slice fa n fc, .int .i64 0, .int .i64 0, .slice ca n cc] 27))
  have HX0 := hid (MBox.new w fa n fc 0 0 ca n cc 27)
  have HF := hid (hf.on HB0.out)
  have HC := hid (hc.on HB0.out)
  have HMN := hid (fun w h => heldNs n fa fc (by omega) w h)
  have HMC := hid (fun w h => heldCs n (1 + n * 6) ca cc (by omega) (by omega) w h)
  have hk1 : ¬ (((1 + n * 6 : Nat) : Int) < 0) := by omega
  have hk2 : ¬ (((1 + n * 6 + n * 3 : Nat) : Int) < 0) := by omega
  clear hf hc
  go_enter Tryd.func26, Tryd.ntmps26
  go_wp2_with (first | (go_at_call 37; refine (HMN.out _ HF.out).mono ?_; rintro e w1 ⟨rfl, hb1⟩; have HB1 := hid (HB0.out.trans (hb1.mono HB0.out.size)); have HC1 := hid (HC.out.on hb1); obtain ⟨_, m0, m1, m2, m3⟩ := HX0.out.on hb1; clear hb1) | (go_at_call 38; refine (HMC.out _ HC1.out).mono ?_; rintro e w2 ⟨rfl, hb2⟩; have HB2 := hid (HB1.out.trans (hb2.mono HB1.out.size)); clear hb2))
  go_ret
  exact ⟨rfl, HB2.out⟩
set_option maxRecDepth 20000 in
set_option maxHeartbeats 2000000 in
theorem heldOutA (n : Nat) (fa : Option Addr) (fc : Nat) (ca : Option Addr) (cc : Nat) (code : Int) (hl : n ≤ 1000000) (w : World) (hf : NsA w fa (markN 1 n)) (hc : MkC w ca n (1 + n * 6)) :
    Calls Tryd.prog 12 #[outV fa n fc 0 0 ca n cc false none 0 0 code, .int .i64 1] w fun e w' => e = .returned (.int .i64 (1 + n * 6 + n * 3 : Nat)) ∧ Below w.heap.size w w' := by
  unfold outV
  have HB0 := hid (below_one' w (.cells #[.slice fa n fc, .int .i64 0, .int .i64 0, .slice ca n cc, .bool false, .slice none 0 0, .int .i64 code] 30))
  have HX0 := hid (OBox.new w fa n fc ca n cc code)
  have HMM := hid (heldMonA n fa fc ca cc hl _ (hf.on HB0.out) (hc.on HB0.out))
  have HBs := hid (fun (k : Nat) w => heldBs_nil none k 0 w)
  have hk2 : ¬ (((1 + n * 6 + n * 3 : Nat) : Int) < 0) := by omega
  clear hf hc
  go_enter Tryd.func12, Tryd.ntmps12
  go_wp2_with (first | (go_at_call 26; refine HMM.out.mono ?_; rintro e w1 ⟨rfl, hb1⟩; have HB1 := hid (HB0.out.trans (hb1.mono HB0.out.size)); obtain ⟨_, o0, o1, o2, o3, o4, o5, o6⟩ := HX0.out.on hb1; clear hb1) | (go_at_call 27; refine (HBs.out (1 + n * 6 + n * 3) _).mono ?_; rintro e w' ⟨rfl, rfl⟩))
  go_ret
  exact ⟨rfl, HB1.out⟩
end Go.Proofs.YtgehklhpmelffaaDoor
namespace Go.Proofs.YtgehklhpmelffaaDoor
open Go.RowKit
set_option linter.unusedVariables false
set_option linter.unusedSimpArgs false
/-- A row of nodes that the law holds. -/
structure XRow (w : World) (b : Nat) (f : List Nd) : Prop where
  at' : NodesAt w b f
  row : RowA w (some ⟨b, 0, none⟩) f.length
theorem XRow.on {w w' : World} {b : Nat} {f : List Nd} (h : XRow w b f) (hb : Below w.heap.size w w') : XRow w' b f := ⟨h.at'.below hb h.at'.1, h.row.on hb⟩
theorem newF_len (f : List Nd) (h : f.length ≤ 1048576) : (newF f).length ≤ 1000000 := by
  by_cases h4 : 400 < f.length
  · rw [newF_no (newCode_size h4) (by omega)]; simp
  · unfold newF
    split
    · omega
    · simp
theorem ofB_some {b j : Nat} (h : OfB (some ⟨b, 0, none⟩) j) : j = b := by
  obtain ⟨q, e, h⟩ := h
  injection e with e
  subst e
  exact h.symm
set_option maxRecDepth 20000 in
set_option maxHeartbeats 8000000 in
theorem walkMonN (a : Option Addr) (cap : Nat) (f : List Nd) (w : World) (hI : InN w a cap f) (hkw : Kw w) (hg : 1 < w.heap.size) :
    Calls Tryd.prog 3 #[.slice a f.length cap] w fun e w' => e = .returned (.bool true) ∧ Below w.heap.size w w' := by
  have HI := hid hI
  have HK := hid hkw
  have HU : Hid (∀ fa fn fc cnt now ca cn cc yes aa an ac code, outV fa fn fc cnt now ca cn cc yes aa an ac code = .agg #[.slice fa fn fc, .int .i64 cnt, .int .i64 now, .slice ca cn cc, .bool yes, .slice aa an ac, .int .i64 code]) := fun _ _ _ _ _ _ _ _ _ _ _ _ _ => rfl
  clear hI hkw
  go_enter Tryd.func3, Tryd.ntmps3
  go_wp2_with fail
  refine (szNodeS_any f a cap (fun i hi => (HI.out.ok i hi).nm) HI.out.len _ HI.out.arg).mono ?_
  rintro e w1 ⟨r, rfl, hr, hb1⟩
  have HB1 := hid hb1
  have hz1 := hb1.size
  by_cases hr0 : r < 0
  · clear hb1 hr
    go_wp2_with fail
    go_ret
    exact ⟨rfl, HB1.out⟩
  obtain ⟨hl, _⟩ := hr (by omega)
  clear hb1 hr
  obtain ⟨F, hF⟩ : ∃ F, newF f = F := ⟨_, rfl⟩
  obtain ⟨code, hcode⟩ : ∃ code, newCode f = code := ⟨_, rfl⟩
  have hFl : F.length ≤ 1000000 := by rw [← hF]; exact newF_len f hl
  have HTN := hid (fun w h => toNodeS_row f a cap hl w h)
  have HSN := hid (fun b w h => specMNew_any f b f.length w h HI.out.ok hl F code hF hcode)
  have HIN := hid (fun b w h hk hg => implMNew_any f b f.length w h HI.out.ok hl hk hg F code hF hcode)
  have HEQ := hid (fun a1 a2 d1 d2 b1 b2 c1 c2 w n1 n2 h1 h2 => eqOutA F F.length rfl a1 a2 d1 d2 b1 b2 c1 c2 code (by omega) w n1 n2 h1 h2)
  have HHO := hid (fun fa fc ca cc w h1 h2 => heldOutA F.length fa fc ca cc code hFl w h1 h2)
  simp only [HU.out] at HSN HIN HEQ HHO
  clear hF hcode
  go_wp2_with fail
  refine (HTN.out _ (HI.out.arg.below HB1.out (Nat.le_refl _))).mono ?_
  rintro e w2 ⟨b2, rfl, hb2, hn2, _, _, hbl2⟩
  have HB2 := hid (HB1.out.trans (hbl2.mono (by omega)))
  have hz2 := hbl2.size
  have XA2 := hid hn2
  clear hn2
  clear hbl2
  go_wp2_with fail
  refine (HSN.out b2 _ XA2.out).mono ?_
  rintro e w3 ⟨fa0, fc0, ca0, cc0, rfl, hn3, hc3, hf3, hg3, hbl3⟩
  have HB3 := hid (HB2.out.trans (hbl3.mono (by omega)))
  have hz3 := hbl3.size
  have NW3 := hid hn3
  have CW3 := hid hc3
  have HF0 := hid hf3
  have HG0 := hid hg3
  clear hn3 hc3 hf3 hg3
  clear hbl3
  go_wp2_with fail
  have hbl4 := below_one' w3 (.cells #[.slice fa0 F.length fc0, .int .i64 0, .int .i64 0, .slice ca0 F.length cc0, .bool false, .slice none 0 0, .int .i64 code] 30)
  have HB4 := hid (HB3.out.trans (hbl4.mono (by omega)))
  have NW4 := hid (NW3.out.on hbl4)
  have CW4 := hid (CW3.out.on hbl4)
  have HW4 := hid (OBox.new w3 fa0 F.length fc0 ca0 F.length cc0 code)
  have hz4 : w3.heap.size < (w3.alloc (.cells #[.slice fa0 F.length fc0, .int .i64 0, .int .i64 0, .slice ca0 F.length cc0, .bool false, .slice none 0 0, .int .i64 code] 30)).heap.size := by simp
  clear hbl4
  generalize w3.alloc (.cells #[.slice fa0 F.length fc0, .int .i64 0, .int .i64 0, .slice ca0 F.length cc0, .bool false, .slice none 0 0, .int .i64 code] 30) = w4 at *
  refine (HTN.out _ (HI.out.arg.below HB4.out (Nat.le_refl _))).mono ?_
  rintro e w5 ⟨b5, rfl, hb5, hn5, ⟨z5, hr5⟩, _, hbl5⟩
  have HB5 := hid (HB4.out.trans (hbl5.mono (by omega)))
  have hz5 := hbl5.size
  have NW5 := hid (NW4.out.on hbl5)
  have CW5 := hid (CW4.out.on hbl5)
  have HW5 := hid (HW4.out.on hbl5)
  have XX5 := hid (show XRow _ b5 f from ⟨hn5, Or.inr ⟨b5, _, z5, rfl, Nat.le_refl _, hr5⟩⟩)
  have hb5l := hn5.1
  clear hn5 hr5
  clear hbl5
  go_wp2_with fail
  refine (HIN.out b5 _ XX5.out.at' (HK.out.below HB5.out hg) (by omega)).mono ?_
  rintro e w6 ⟨ga, gc, gca, gcc, rfl, hn6, hr6, hc6, hf6, hg6, hap6, hbl6⟩
  have HB6 := hid (HB5.out.trans (hbl6.mono (by omega)))
  have hz6 := hbl6.size
  have NW6 := hid (NW5.out.on hbl6)
  have CW6 := hid (CW5.out.on hbl6)
  have HW6 := hid (HW5.out.on hbl6)
  have XX6 := hid (XX5.out.on hbl6)
  have NG6 := hid hn6
  have RG6 := hid hr6
  have RC6 := hid hc6
  have HGf := hid hf6
  have HGc := hid hg6
  have HAp := hid hap6
  clear hn6 hr6 hc6 hf6 hg6 hap6
  clear hbl6
  obtain ⟨u0, c00, c01, c02, c03, c04, c05, c06⟩ := HW6.out
  go_wp2_with fail
  have hbl7 := below_one' w6 (.cells #[.slice ga F.length gc, .int .i64 0, .int .i64 0, .slice gca F.length gcc, .bool false, .slice none 0 0, .int .i64 code] 30)
  have HB7 := hid (HB6.out.trans (hbl7.mono (by omega)))
  have NW7 := hid (NW6.out.on hbl7)
  have CW7 := hid (CW6.out.on hbl7)
  have HW7 := hid (HW6.out.on hbl7)
  have XX7 := hid (XX6.out.on hbl7)
  have NG7 := hid (NG6.out.on hbl7)
  have RG7 := hid (RG6.out.on hbl7)
  have RC7 := hid (RC6.out.on hbl7)
  have HG7 := hid (OBox.new w6 ga F.length gc gca F.length gcc code)
  have hz7 : w6.heap.size < (w6.alloc (.cells #[.slice ga F.length gc, .int .i64 0, .int .i64 0, .slice gca F.length gcc, .bool false, .slice none 0 0, .int .i64 code] 30)).heap.size := by simp
  clear hbl7
  generalize w6.alloc (.cells #[.slice ga F.length gc, .int .i64 0, .int .i64 0, .slice gca F.length gcc, .bool false, .slice none 0 0, .int .i64 code] 30) = w7 at *
  refine (HEQ.out ga fa0 gc fc0 gca ca0 gcc cc0 _ NG7.out NW7.out RC7.out.cks CW7.out).mono ?_
  rintro e w8 ⟨rfl, hbl8⟩
  have HB8 := hid (HB7.out.trans (hbl8.mono (by omega)))
  have hz8 := hbl8.size
  have NW8 := hid (NW7.out.on hbl8)
  have CW8 := hid (CW7.out.on hbl8)
  have HW8 := hid (HW7.out.on hbl8)
  have XX8 := hid (XX7.out.on hbl8)
  have NG8 := hid (NG7.out.on hbl8)
  have RG8 := hid (RG7.out.on hbl8)
  have RC8 := hid (RC7.out.on hbl8)
  have HG8 := hid (HG7.out.on hbl8)
  clear hbl8
  clear u0 c00 c01 c02 c03 c04 c05 c06
  go_wp2_with fail
  refine (HTN.out _ (HI.out.arg.below HB8.out (Nat.le_refl _))).mono ?_
  rintro e w9 ⟨b9, rfl, hb9, hn9, _, _, hbl9⟩
  have HB9 := hid (HB8.out.trans (hbl9.mono (by omega)))
  have hz9 := hbl9.size
  have NW9 := hid (NW8.out.on hbl9)
  have CW9 := hid (CW8.out.on hbl9)
  have HW9 := hid (HW8.out.on hbl9)
  have XX9 := hid (XX8.out.on hbl9)
  have NG9 := hid (NG8.out.on hbl9)
  have RG9 := hid (RG8.out.on hbl9)
  have RC9 := hid (RC8.out.on hbl9)
  have HG9 := hid (HG8.out.on hbl9)
  have XB9 := hid hn9
  clear hn9
  clear hbl9
  go_wp2_with fail
  refine (eqNodeS_same f b5 b9 f.length f.length hl _ XX9.out.at' XB9.out).mono ?_
  rintro e w10 ⟨rfl, hbl10⟩
  have HB10 := hid (HB9.out.trans (hbl10.mono (by omega)))
  have hz10 := hbl10.size
  have NW10 := hid (NW9.out.on hbl10)
  have CW10 := hid (CW9.out.on hbl10)
  have HW10 := hid (HW9.out.on hbl10)
  have XX10 := hid (XX9.out.on hbl10)
  have NG10 := hid (NG9.out.on hbl10)
  have RG10 := hid (RG9.out.on hbl10)
  have RC10 := hid (RC9.out.on hbl10)
  have HG10 := hid (HG9.out.on hbl10)
  clear hbl10
  go_wp2_with fail
  refine (markNs f.length (some ⟨b5, 0, none⟩) f.length hl _ XX10.out.row).mono ?_
  rintro e w11 ⟨rfl, _, hs11⟩
  have HB11 := hid (HB10.out.trans (hs11.below (B := w.heap.size) (by omega) (fun j hj => by have := ofB_some hj; omega)))
  have hz11 := hs11.size
  have NW11 := hid (NW10.out.save hs11 (fun q e h => by have := ofB_some h; have := HF0.out q e; omega))
  have CW11 := hid (CW10.out.bare_save hs11 (fun q e h => by have := ofB_some h; have := HG0.out q e; omega))
  have HW11 := hid (HW10.out.save hs11 (fun h => by have := ofB_some h; omega))
  have NG11 := hid (NG10.out.save hs11 (fun q e h => by have := ofB_some h; have := HGf.out q e; omega))
  have RG11 := hid (RG10.out.save hs11 (fun q e h => by have := ofB_some h; have := HGf.out q e; omega))
  have RC11 := hid (RC10.out.save hs11 (fun q e h => by have := ofB_some h; have := HGc.out q e; omega))
  have HG11 := hid (HG10.out.save hs11 (fun h => by have := ofB_some h; omega))
  clear hs11
  have hk0 : ¬ ((1 + f.length * 6 : Nat) : Int) < 0 := by omega
  obtain ⟨u0, c00, c01, c02, c03, c04, c05, c06⟩ := HG11.out
  obtain ⟨u1, c10, c11, c12, c13, c14, c15, c16⟩ := HW11.out
  go_wp2_with fail
  refine (HEQ.out ga fa0 gc fc0 gca ca0 gcc cc0 _ NG11.out NW11.out RC11.out.cks CW11.out).mono ?_
  rintro e w12 ⟨rfl, hbl12⟩
  have HB12 := hid (HB11.out.trans (hbl12.mono (by omega)))
  have hz12 := hbl12.size
  have NW12 := hid (NW11.out.on hbl12)
  have CW12 := hid (CW11.out.on hbl12)
  have HW12 := hid (HW11.out.on hbl12)
  have NG12 := hid (NG11.out.on hbl12)
  have RG12 := hid (RG11.out.on hbl12)
  have RC12 := hid (RC11.out.on hbl12)
  have HG12 := hid (HG11.out.on hbl12)
  clear hbl12 u0 c00 c01 c02 c03 c04 c05 c06 u1 c10 c11 c12 c13 c14 c15 c16
  have HMO := hid (markOutA F ga gc gca gcc code hFl w12 ⟨fun q e => ⟨(HGf.out q e).1, by have := HGf.out q e; omega⟩, fun q e => ⟨(HGc.out q e).1, by have := HGc.out q e; omega⟩, HAp.out⟩ RG12.out RC12.out)
  rw [HU.out] at HMO
  obtain ⟨u0, c00, c01, c02, c03, c04, c05, c06⟩ := HG12.out
  go_wp2_with fail
  refine (HMO.out).mono ?_
  rintro e w13 ⟨rfl, hn13, hm13, hs13⟩
  have HB13 := hid (HB12.out.trans (hs13.below (B := w.heap.size) (by omega) (fun j hj => by rcases hj with ⟨p, e2, h⟩ | ⟨p, e2, h⟩; (have := HGf.out p e2; omega); (have := HGc.out p e2; omega))))
  have hz13 := hs13.size
  have NW13 := hid (NW12.out.save hs13 (fun q e h => by rcases h with ⟨p, e2, h⟩ | ⟨p, e2, h⟩; exact absurd h (by have := HGf.out p e2; have := HF0.out q e; omega); exact absurd h (by have := HGc.out p e2; have := HF0.out q e; omega)))
  have CW13 := hid (CW12.out.bare_save hs13 (fun q e h => by rcases h with ⟨p, e2, h⟩ | ⟨p, e2, h⟩; exact absurd h (by have := HGf.out p e2; have := HG0.out q e; omega); exact absurd h (by have := HGc.out p e2; have := HG0.out q e; omega)))
  have HW13 := hid (HW12.out.save hs13 (fun h => by rcases h with ⟨p, e2, h⟩ | ⟨p, e2, h⟩; exact absurd h (by have := HGf.out p e2; omega); exact absurd h (by have := HGc.out p e2; omega)))
  have HG13 := hid (HG12.out.save hs13 (fun h => by rcases h with ⟨p, e2, h⟩ | ⟨p, e2, h⟩; exact absurd h (by have := HGf.out p e2; omega); exact absurd h (by have := HGc.out p e2; omega)))
  have NM13 := hid hn13
  have CM13 := hid hm13
  clear hn13 hm13
  clear hs13 u0 c00 c01 c02 c03 c04 c05 c06
  obtain ⟨u0, c00, c01, c02, c03, c04, c05, c06⟩ := HG13.out
  go_wp2_with fail
  refine (HHO.out ga gc gca gcc _ NM13.out CM13.out).mono ?_
  rintro e w14 ⟨rfl, hbl14⟩
  have HB14 := hid (HB13.out.trans (hbl14.mono (by omega)))
  have hz14 := hbl14.size
  have NW14 := hid (NW13.out.on hbl14)
  have CW14 := hid (CW13.out.on hbl14)
  have HW14 := hid (HW13.out.on hbl14)
  have HG14 := hid (HG13.out.on hbl14)
  have NM14 := hid (NM13.out.on hbl14)
  have CM14 := hid (CM13.out.on hbl14)
  clear hbl14 u0 c00 c01 c02 c03 c04 c05 c06
  have hq0 : ¬ ((1 + F.length * 6 + F.length * 3 : Nat) : Int) < 0 := by omega
  go_wp2_with fail
  refine (HTN.out _ (HI.out.arg.below HB14.out (Nat.le_refl _))).mono ?_
  rintro e w15 ⟨b15, rfl, hb15, hn15, _, _, hbl15⟩
  have HB15 := hid (HB14.out.trans (hbl15.mono (by omega)))
  have hz15 := hbl15.size
  have NW15 := hid (NW14.out.on hbl15)
  have CW15 := hid (CW14.out.on hbl15)
  have HW15 := hid (HW14.out.on hbl15)
  have HG15 := hid (HG14.out.on hbl15)
  have NM15 := hid (NM14.out.on hbl15)
  have CM15 := hid (CM14.out.on hbl15)
  have XC15 := hid hn15
  clear hn15
  clear hbl15
  go_wp2_with fail
  refine (HIN.out b15 _ XC15.out (HK.out.below HB15.out hg) (by omega)).mono ?_
  rintro e w16 ⟨ha, hc, hca, hcc, rfl, hn16, _, hc16, _, _, _, hbl16⟩
  have HB16 := hid (HB15.out.trans (hbl16.mono (by omega)))
  have hz16 := hbl16.size
  have NW16 := hid (NW15.out.on hbl16)
  have CW16 := hid (CW15.out.on hbl16)
  have HW16 := hid (HW15.out.on hbl16)
  have HG16 := hid (HG15.out.on hbl16)
  have NM16 := hid (NM15.out.on hbl16)
  have CM16 := hid (CM15.out.on hbl16)
  have NH16 := hid hn16
  have CH16 := hid hc16.cks
  clear hn16 hc16
  clear hbl16
  obtain ⟨u0, c00, c01, c02, c03, c04, c05, c06⟩ := HW16.out
  go_wp2_with fail
  have hbl17 := below_one' w16 (.cells #[.slice ha F.length hc, .int .i64 0, .int .i64 0, .slice hca F.length hcc, .bool false, .slice none 0 0, .int .i64 code] 30)
  have HB17 := hid (HB16.out.trans (hbl17.mono (by omega)))
  have NW17 := hid (NW16.out.on hbl17)
  have CW17 := hid (CW16.out.on hbl17)
  have HW17 := hid (HW16.out.on hbl17)
  have HG17 := hid (HG16.out.on hbl17)
  have NM17 := hid (NM16.out.on hbl17)
  have CM17 := hid (CM16.out.on hbl17)
  have NH17 := hid (NH16.out.on hbl17)
  have CH17 := hid (CH16.out.on hbl17)
  have HH17 := hid (OBox.new w16 ha F.length hc hca F.length hcc code)
  have hz17 : w16.heap.size < (w16.alloc (.cells #[.slice ha F.length hc, .int .i64 0, .int .i64 0, .slice hca F.length hcc, .bool false, .slice none 0 0, .int .i64 code] 30)).heap.size := by simp
  clear hbl17
  generalize w16.alloc (.cells #[.slice ha F.length hc, .int .i64 0, .int .i64 0, .slice hca F.length hcc, .bool false, .slice none 0 0, .int .i64 code] 30) = w17 at *
  refine (HEQ.out ha fa0 hc fc0 hca ca0 hcc cc0 _ NH17.out NW17.out CH17.out CW17.out).mono ?_
  rintro e w18 ⟨rfl, hbl18⟩
  have HB18 := hid (HB17.out.trans (hbl18.mono (by omega)))
  have hz18 := hbl18.size
  have NW18 := hid (NW17.out.on hbl18)
  have CW18 := hid (CW17.out.on hbl18)
  have HW18 := hid (HW17.out.on hbl18)
  have HG18 := hid (HG17.out.on hbl18)
  have NM18 := hid (NM17.out.on hbl18)
  have CM18 := hid (CM17.out.on hbl18)
  have NH18 := hid (NH17.out.on hbl18)
  have CH18 := hid (CH17.out.on hbl18)
  have HH18 := hid (HH17.out.on hbl18)
  clear hbl18
  clear u0 c00 c01 c02 c03 c04 c05 c06
  obtain ⟨u0, c00, c01, c02, c03, c04, c05, c06⟩ := HG18.out
  go_wp2_with fail
  refine (HHO.out ga gc gca gcc _ NM18.out CM18.out).mono ?_
  rintro e w19 ⟨rfl, hbl19⟩
  have HB19 := hid (HB18.out.trans (hbl19.mono (by omega)))
  have hz19 := hbl19.size
  have NW19 := hid (NW18.out.on hbl19)
  have CW19 := hid (CW18.out.on hbl19)
  have HW19 := hid (HW18.out.on hbl19)
  have HG19 := hid (HG18.out.on hbl19)
  have NM19 := hid (NM18.out.on hbl19)
  have CM19 := hid (CM18.out.on hbl19)
  have NH19 := hid (NH18.out.on hbl19)
  have CH19 := hid (CH18.out.on hbl19)
  have HH19 := hid (HH18.out.on hbl19)
  clear hbl19 u0 c00 c01 c02 c03 c04 c05 c06
  go_wp2_with fail
  go_ret
  exact ⟨rfl, HB19.out⟩
end Go.Proofs.YtgehklhpmelffaaDoor
