/-
  MonRight, the model's and the program's, by one contract: the loops.
  MonNew, the model's and the program's, by their contracts.
-/
import Derived.Test.YtbfkbgmkibkbnaaGreatDoorPa40
import Derived.Test.YtbfkbgmkibkbnaaGreatDoorPa41
import Derived.Test.YtbfkbgmkibkbnaaGreatDoorPa31
namespace Go.Proofs.YtbfkbgmkibkbnaaGreatDoor
open Go.RowKit
set_option linter.unusedVariables false
set_option linter.unusedSimpArgs false
set_option maxRecDepth 20000 in
set_option maxHeartbeats 4000000 in
theorem specMon_any (f : List Nd) (fb fc : Nat) (cnt now : Int) (C : List Cl) (ca : Option Addr) (cc : Nat) (v : Bool) (hv : monB f cnt now C = v) (w : World) (hM : MonIn w fb f ca C) :
    Calls Tryz.prog 63 #[moV (some ⟨fb, 0, none⟩) f.length fc cnt now ca C.length cc] w fun e w' => e = .returned (.bool v) ∧ Below w.heap.size w w' := by
  have HV := hid hv
  have HM := hid hM
  have HB0 := hid (below_one' w (.cells #[.slice (some ⟨fb, 0, none⟩) f.length fc, .int .i64 cnt, .int .i64 now, .slice ca C.length cc] 34))
  have HX0 := hid (MBox.new w (some ⟨fb, 0, none⟩) f.length fc cnt now ca C.length cc 34)
  have HFr : Hid (∀ b, rightB f = b → ∀ w, NodesAt w fb f → Calls Tryz.prog 10 #[.slice (some ⟨fb, 0, none⟩) f.length fc] w fun e w' => e = .returned (.bool b) ∧ Below w.heap.size w w') := fun b hb w h => by subst hb; exact specRight_any f fb fc w h (fun i hi => (HM.out.ok i hi).nm) (lf_max HM.out.lf)
  have hlf := hM.lf
  have hlc := hM.lc
  unfold moV
  clear hv hM
  rcases Bool.eq_false_or_eq_true (rightB f) with hr | hr
  · have HF := hid (HFr.out true hr)
    clear HFr
    rcases Bool.eq_false_or_eq_true (timeB cnt) with ht | ht
    · have HT1 := hid (fun w => timeS_is cnt true ht w)
      rcases Bool.eq_false_or_eq_true (timeB now) with ht2 | ht2
      · have HT2 := hid (fun w => timeS_is now true ht2 w)
        have hcase : (cnt == 0) = true ∧ (now != 0) = true ∨ ((cnt == 0) && (now != 0)) = false ∧ ((cnt == 0) = false ∨ ((cnt == 0) = true ∧ (now != 0) = false)) := by cases (cnt == 0) <;> cases (now != 0) <;> simp
        rcases hcase with ⟨hz1, hz2⟩ | ⟨hzz, hz⟩
        · have HVF := hid (HV.out.symm.trans (monB_zero (by rw [hz1, hz2]; rfl)))
          clear HV hr ht ht2
          go_enter Tryz.func63, Tryz.ntmps63
          go_wp2_with (first | (go_at_call 10; refine (HF.out _ (HM.out.on HB0.out).nodes).mono ?_; rintro e w1 ⟨rfl, hb1⟩; have HB1 := hid (HB0.out.trans (hb1.mono HB0.out.size)); obtain ⟨_, m0, m1, m2, m3⟩ := HX0.out.on hb1; clear hb1) | (go_at_call 91; first | (refine (HT1.out _).mono ?_; rintro e w' ⟨rfl, rfl⟩) | (refine (HT2.out _).mono ?_; rintro e w' ⟨rfl, rfl⟩)))
          go_ret
          exact ⟨ret_bool HVF.out.symm, HB1.out⟩
        · by_cases hle : C.length = f.length
          · have HVC := hid (HV.out.symm.trans (monB_cells hr hle ht ht2 hzz))
            have h0 := (timeB_not ht).1
            have hne : ((C.length : Int) != (f.length : Int)) = false := by simp [hle]
            have HLe := hid hle
            clear HV hr ht ht2 hzz hle
            rcases hz with hz | ⟨hz, hz2⟩
            all_goals
              go_enter Tryz.func63, Tryz.ntmps63
              go_wp2_with (first | (go_at_call 10; refine (HF.out _ (HM.out.on HB0.out).nodes).mono ?_; rintro e w1 ⟨rfl, hb1⟩; have HB1 := hid (HB0.out.trans (hb1.mono HB0.out.size)); have HX1 := hid (HX0.out.on hb1); obtain ⟨_, m0, m1, m2, m3⟩ := HX1.out; clear hb1) | (go_at_call 91; first | (refine (HT1.out _).mono ?_; rintro e w' ⟨rfl, rfl⟩) | (refine (HT2.out _).mono ?_; rintro e w' ⟨rfl, rfl⟩)))
              clear m0 m1 m2 m3
              go_loopw [3] (fun t wr => ∃ k : Nat, k ≤ C.length ∧ t = .int .i64 k ∧ cellsTo f cnt now C k = true ∧ Below w1.heap.size w1 wr) (fun t _ => C.length - (intOf t).toNat)
              case atStart => exact ⟨0, Nat.zero_le _, rfl, rfl, Below.refl _ _⟩
              case round =>
                obtain ⟨k, hk, rfl, hg, hbel⟩ := hrel
                have HG := hid hg
                have HBr := hid hbel
                have HBE := hid (HB1.out.trans (hbel.mono HB1.out.size))
                obtain ⟨hq, m0, m1, m2, m3⟩ := HX1.out.on hbel
                clear hg hbel
                by_cases hlt : k < C.length
                · have HMr := hid (HM.out.on HBE.out)
                  rcases HMr.out.cells with hz0 | ⟨cb, co, rfl, hcb, hcells⟩
                  · omega
                  have HNk := hid (HMr.out.nodes.2 k (by have := HLe.out; omega))
                  have HCk := hid (hcells k hlt)
                  have hfb := HMr.out.nodes.1
                  have HC : Hid (∀ b, cellB cnt now (ndAt f k) (clAt C k) = b → Calls Tryz.prog 103 #[.agg #[.slice (some ⟨fb, 0, none⟩) f.length fc, .int .i64 cnt, .int .i64 now, .slice (some ⟨cb, co, none⟩) C.length cc], .int .i64 k] wr fun e w' => e = .returned (.bool b) ∧ Below wr.heap.size wr w') := fun b hb => cellS_is f fb fc cnt now h0 C cb co cc k (by have := HLe.out; omega) hlt hlc hlf (HMr.out.lt k hlt) b hb wr HNk.out hfb HCk.out hcb
                  have HSu := hid (cellsTo_succ f cnt now C k)
                  clear hcells hfb hcb
                  rcases Bool.eq_false_or_eq_true (cellB cnt now (ndAt f k) (clAt C k)) with hcb | hcb
                  · have HC1 := hid (HC.out true hcb)
                    have HS2 : Hid (cellsTo f cnt now C (k + 1) = true) := by show cellsTo f cnt now C (k + 1) = true; rw [HSu.out, HG.out, hcb]; rfl
                    clear HC hcb
                    go_wp2_with (go_at_call 103; refine HC1.out.mono ?_; rintro e w2 ⟨rfl, hb2⟩; have HB2 := hid (HBr.out.trans (hb2.mono HBr.out.size)); clear hb2)
                    go_roundw
                    case rel => exact ⟨k + 1, by omega, by go_num, HS2.out, HB2.out⟩
                    case measure => simp [intOf]; omega
                  · have HC1 := hid (HC.out false hcb)
                    have HVF := hid (HVC.out.trans (cellsTo_false f cnt now C k _ (by have := HLe.out; omega) hcb))
                    clear HC hcb
                    go_wp2_with (go_at_call 103; refine HC1.out.mono ?_; rintro e w2 ⟨rfl, hb2⟩; have HB2 := hid (HBE.out.trans (hb2.mono HBE.out.size)); clear hb2)
                    go_ret
                    exact ⟨ret_bool HVF.out.symm, HB2.out⟩
                · have hk' : k = C.length := by omega
                  subst hk'
                  go_wp2_with fail
                  go_ret
                  exact ⟨ret_bool (by rw [HVC.out, ← HLe.out, HG.out]), HBE.out⟩
          · have HVF := hid (HV.out.symm.trans (monB_len hle))
            have hne : ((C.length : Int) != (f.length : Int)) = true := by simp; omega
            clear HV hr ht ht2 hle
            rcases hz with hz | ⟨hz, hz2⟩
            all_goals
              go_enter Tryz.func63, Tryz.ntmps63
              go_wp2_with (first | (go_at_call 10; refine (HF.out _ (HM.out.on HB0.out).nodes).mono ?_; rintro e w1 ⟨rfl, hb1⟩; have HB1 := hid (HB0.out.trans (hb1.mono HB0.out.size)); obtain ⟨_, m0, m1, m2, m3⟩ := HX0.out.on hb1; clear hb1) | (go_at_call 91; first | (refine (HT1.out _).mono ?_; rintro e w' ⟨rfl, rfl⟩) | (refine (HT2.out _).mono ?_; rintro e w' ⟨rfl, rfl⟩)))
              go_ret
              exact ⟨ret_bool HVF.out.symm, HB1.out⟩
      · have HT2 := hid (fun w => timeS_is now false ht2 w)
        have HVF := hid (HV.out.symm.trans (monB_now ht2))
        clear HV hr ht ht2
        go_enter Tryz.func63, Tryz.ntmps63
        go_wp2_with (first | (go_at_call 10; refine (HF.out _ (HM.out.on HB0.out).nodes).mono ?_; rintro e w1 ⟨rfl, hb1⟩; have HB1 := hid (HB0.out.trans (hb1.mono HB0.out.size)); obtain ⟨_, m0, m1, m2, m3⟩ := HX0.out.on hb1; clear hb1) | (go_at_call 91; first | (refine (HT1.out _).mono ?_; rintro e w' ⟨rfl, rfl⟩) | (refine (HT2.out _).mono ?_; rintro e w' ⟨rfl, rfl⟩)))
        go_ret
        exact ⟨ret_bool HVF.out.symm, HB1.out⟩
    · have HT1 := hid (fun w => timeS_is cnt false ht w)
      have HVF := hid (HV.out.symm.trans (monB_cnt ht))
      clear HV hr ht
      go_enter Tryz.func63, Tryz.ntmps63
      go_wp2_with (first | (go_at_call 10; refine (HF.out _ (HM.out.on HB0.out).nodes).mono ?_; rintro e w1 ⟨rfl, hb1⟩; have HB1 := hid (HB0.out.trans (hb1.mono HB0.out.size)); obtain ⟨_, m0, m1, m2, m3⟩ := HX0.out.on hb1; clear hb1) | (go_at_call 91; refine (HT1.out _).mono ?_; rintro e w' ⟨rfl, rfl⟩))
      go_ret
      exact ⟨ret_bool HVF.out.symm, HB1.out⟩
  · have HF := hid (HFr.out false hr)
    have HVF := hid (HV.out.symm.trans (monB_right hr))
    clear HFr HV hr
    go_enter Tryz.func63, Tryz.ntmps63
    go_wp2_with (go_at_call 10; refine (HF.out _ (HM.out.on HB0.out).nodes).mono ?_; rintro e w1 ⟨rfl, hb1⟩; have HB1 := hid (HB0.out.trans (hb1.mono HB0.out.size)); obtain ⟨_, m0, m1, m2, m3⟩ := HX0.out.on hb1; clear hb1)
    go_ret
    exact ⟨ret_bool HVF.out.symm, HB1.out⟩
end Go.Proofs.YtbfkbgmkibkbnaaGreatDoor
namespace Go.Proofs.YtbfkbgmkibkbnaaGreatDoor
open Go.RowKit
set_option linter.unusedVariables false
set_option linter.unusedSimpArgs false
theorem rightB_all' (f : List Nd) (h : rightB f = true) : 1 ≤ f.length ∧ f.length ≤ 24 ∧ goodTo f f.length = true := by
  simp only [rightB, Bool.and_eq_true, decide_eq_true_eq] at h
  exact ⟨h.1.1, h.1.2, h.2.1⟩
/-- What a MonOut is handed round as. -/
def outV (fa : Option Addr) (fn fc : Nat) (cnt now : Int) (ca : Option Addr) (cn cc : Nat) (yes : Bool) (aa : Option Addr) (an ac : Nat) (code : Int) : Value := .agg #[.slice fa fn fc, .int .i64 cnt, .int .i64 now, .slice ca cn cc, .bool yes, .slice aa an ac, .int .i64 code]
def newCode (f : List Nd) : Int := if 400 < f.length then 2 else if rightB f then 0 else 1
/-- The formula of what MonNew tells. -/
def newF (f : List Nd) : List Nd := if newCode f = 0 then f else []
theorem newF_no {f : List Nd} {c : Int} (h : newCode f = c) (hc : c ≠ 0) : newF f = [] := by unfold newF; rw [h, if_neg hc]
theorem newF_yes {f : List Nd} (h : newCode f = 0) : newF f = f := by unfold newF; rw [if_pos h]
theorem newCode_size {f : List Nd} (h : 400 < f.length) : newCode f = 2 := by unfold newCode; rw [if_pos h]
theorem newCode_form {f : List Nd} (h : ¬ 400 < f.length) (hr : rightB f = false) : newCode f = 1 := by unfold newCode; rw [if_neg h, hr]; rfl
theorem newCode_ok {f : List Nd} (h : ¬ 400 < f.length) (hr : rightB f = true) : newCode f = 0 := by unfold newCode; rw [if_neg h, hr]; rfl
/-- A row of nodes, of which nothing is asked where it is empty. -/
def NsA (w : World) (a : Option Addr) (F : List Nd) : Prop := F.length = 0 ∨ ∃ b, a = some ⟨b, 0, none⟩ ∧ NodesAt w b F
/-- A row of nodes to be written to; it may be longer. -/
def RowA (w : World) (a : Option Addr) (n : Nat) : Prop := n = 0 ∨ ∃ b m z, a = some ⟨b, 0, none⟩ ∧ n * 6 ≤ m ∧ w.rowIs b 81 m z
def RowB (w : World) (a : Option Addr) (F : List Nd) : Prop := F.length = 0 ∨ ∃ b, a = some ⟨b, 0, none⟩ ∧ BareRow w b F (F.length * 4) zC F.length
theorem RowB.cks {w : World} {a : Option Addr} {F : List Nd} (h : RowB w a F) : CksAt w a (bareC F) := by
  rcases h with h | ⟨b, rfl, h⟩
  · exact Or.inl (by rw [bareC_len, h])
  · exact h.cks (Nat.le_refl _)
/-- The box of a MonOut. -/
structure OBox (W : World) (q : Nat) (fa : Option Addr) (fn fc : Nat) (cnt now : Int) (ca : Option Addr) (cn cc : Nat) (yes : Bool) (aa : Option Addr) (an ac : Nat) (code : Int) : Prop where
  lt : q < W.heap.size
  o0 : W.cell? ⟨q, 0, none⟩ = some (.slice fa fn fc)
  o1 : W.cell? ⟨q, 1, none⟩ = some (.int .i64 cnt)
  o2 : W.cell? ⟨q, 2, none⟩ = some (.int .i64 now)
  o3 : W.cell? ⟨q, 3, none⟩ = some (.slice ca cn cc)
  o4 : W.cell? ⟨q, 4, none⟩ = some (.bool yes)
  o5 : W.cell? ⟨q, 5, none⟩ = some (.slice aa an ac)
  o6 : W.cell? ⟨q, 6, none⟩ = some (.int .i64 code)
theorem OBox.save {W W' : World} {q : Nat} {fa : Option Addr} {fn fc : Nat} {cnt now : Int} {ca : Option Addr} {cn cc : Nat} {yes : Bool} {aa : Option Addr} {an ac : Nat} {code : Int} {S : Nat → Prop} (h : OBox W q fa fn fc cnt now ca cn cc yes aa an ac code) (hs : Save W W' S) (h1 : ¬ S q) : OBox W' q fa fn fc cnt now ca cn cc yes aa an ac code :=
  ⟨Nat.lt_of_lt_of_le h.lt hs.size, (hs.cell (p := ⟨q, _, none⟩) h.lt h1).trans h.o0, (hs.cell (p := ⟨q, _, none⟩) h.lt h1).trans h.o1, (hs.cell (p := ⟨q, _, none⟩) h.lt h1).trans h.o2, (hs.cell (p := ⟨q, _, none⟩) h.lt h1).trans h.o3, (hs.cell (p := ⟨q, _, none⟩) h.lt h1).trans h.o4, (hs.cell (p := ⟨q, _, none⟩) h.lt h1).trans h.o5, (hs.cell (p := ⟨q, _, none⟩) h.lt h1).trans h.o6⟩
theorem OBox.on {W W' : World} {q : Nat} {fa : Option Addr} {fn fc : Nat} {cnt now : Int} {ca : Option Addr} {cn cc : Nat} {yes : Bool} {aa : Option Addr} {an ac : Nat} {code : Int} (h : OBox W q fa fn fc cnt now ca cn cc yes aa an ac code) (hb : Below W.heap.size W W') : OBox W' q fa fn fc cnt now ca cn cc yes aa an ac code :=
  h.save (S := fun _ => False) (Save.of_below hb _ (fun j h1 h2 => absurd h1 (by omega))) (fun h => h)
structure OFree (W : World) (q : Nat) : Prop where
  g0 : W.frozen? ⟨q, 0, none⟩ = false
  g1 : W.frozen? ⟨q, 1, none⟩ = false
  g2 : W.frozen? ⟨q, 2, none⟩ = false
  g3 : W.frozen? ⟨q, 3, none⟩ = false
  g4 : W.frozen? ⟨q, 4, none⟩ = false
  g5 : W.frozen? ⟨q, 5, none⟩ = false
  g6 : W.frozen? ⟨q, 6, none⟩ = false
theorem OFree.on {W W' : World} {q : Nat} (h : OFree W q) (hb : Below W.heap.size W W') (hq : q < W.heap.size) : OFree W' q :=
  ⟨(hb.frozen (p := ⟨q, _, none⟩) hq).trans h.g0, (hb.frozen (p := ⟨q, _, none⟩) hq).trans h.g1, (hb.frozen (p := ⟨q, _, none⟩) hq).trans h.g2, (hb.frozen (p := ⟨q, _, none⟩) hq).trans h.g3, (hb.frozen (p := ⟨q, _, none⟩) hq).trans h.g4, (hb.frozen (p := ⟨q, _, none⟩) hq).trans h.g5, (hb.frozen (p := ⟨q, _, none⟩) hq).trans h.g6⟩
def oZ : Obj := .cells #[.slice none 0 0, .int .i64 0, .int .i64 0, .slice none 0 0, .bool false, .slice none 0 0, .int .i64 0] 36
theorem OBox.zero (w : World) : OBox (w.alloc oZ) w.heap.size none 0 0 0 0 none 0 0 false none 0 0 0 ∧ OFree (w.alloc oZ) w.heap.size := by
  unfold oZ
  exact ⟨⟨by simp, by simp [go_sem], by simp [go_sem], by simp [go_sem], by simp [go_sem], by simp [go_sem], by simp [go_sem], by simp [go_sem]⟩, ⟨by simp [go_sem], by simp [go_sem], by simp [go_sem], by simp [go_sem], by simp [go_sem], by simp [go_sem], by simp [go_sem]⟩⟩
theorem set7 (w : World) (q : Nat) (x0 x1 x2 x3 x4 x5 x6 : Value) : Save w (((((((w.setCell ⟨q, 0, none⟩ x0).setCell ⟨q, 1, none⟩ x1).setCell ⟨q, 2, none⟩ x2).setCell ⟨q, 3, none⟩ x3).setCell ⟨q, 4, none⟩ x4).setCell ⟨q, 5, none⟩ x5).setCell ⟨q, 6, none⟩ x6) (fun j => j = q) :=
  Save.setCell (S := fun j => j = q) (Save.setCell (S := fun j => j = q) (Save.setCell (S := fun j => j = q) (gset4 w q x0 x1 x2 x3) (p := ⟨q, 4, none⟩) (fun _ => rfl) _) (p := ⟨q, 5, none⟩) (fun _ => rfl) _) (p := ⟨q, 6, none⟩) (fun _ => rfl) _
theorem CksAt.bare_save {w w' : World} {a : Option Addr} {F : List Nd} {S : Nat → Prop} (h : CksAt w a (bareC F)) (hs : Save w w' S) (h1 : ∀ q, a = some q → ¬ S q.block) : CksAt w' a (bareC F) := by
  rcases h with h | ⟨b, off, rfl, hlt, hc⟩
  · exact Or.inl h
  · refine Or.inr ⟨b, off, rfl, Nat.lt_of_lt_of_le hlt hs.size, fun i hi => ?_⟩
    obtain ⟨d0, d1, d3, a', c', d2, d4, d5⟩ := hc i hi
    have hn : ¬ S b := h1 ⟨b, off, none⟩ rfl
    refine ⟨(hs.cell (p := ⟨b, _, none⟩) hlt hn).trans d0, (hs.cell (p := ⟨b, _, none⟩) hlt hn).trans d1, (hs.cell (p := ⟨b, _, none⟩) hlt hn).trans d3, a', c', (hs.cell (p := ⟨b, _, none⟩) hlt hn).trans d2, d4, Or.inl ?_⟩
    rw [bareC_len] at hi
    rw [bareC_at F i hi]
    rfl
end Go.Proofs.YtbfkbgmkibkbnaaGreatDoor
