/-
  The model's l06Cell, by its contract.
  MonRight, the model's and the program's, by one contract: the loops.
  MonSize, the model's and the program's, by one contract.
  TableRight, the model's, by its contract.
  TableSize, the model's and the program's, by one contract.
  The walk of the law FnExactTableSize.
-/
import Derived.Test.YtljhokoojodjnaaDoorMnS1
import Derived.Test.YtljhokoojodjnaaDoorMnS2
import Derived.Test.YtljhokoojodjnaaDoorMnS3
import Derived.Test.YtljhokoojodjnaaDoorMnS4
import Derived.Test.YtljhokoojodjnaaDoorTabY
namespace Go.Proofs.YtljhokoojodjnaaDoor
open Go.RowKit
set_option linter.unusedVariables false
set_option linter.unusedSimpArgs false
theorem cellS_is (f : List Nd) (fb fc : Nat) (cnt now : Int) (h0 : 0 ≤ cnt) (C : List Cl) (cb co cc : Nat) (i : Nat) (hi : i < f.length) (hi2 : i < C.length) (hl : C.length ≤ 1048576) (hlf : f.length ≤ 1048576) (hlt : (clAt C i).ts.length ≤ 2000000) (v : Bool) (hv : cellB cnt now (ndAt f i) (clAt C i) = v) (w : World) (hN : NodeAt w fb (i * 6) (ndAt f i)) (hfb : fb < w.heap.size) (hC : CkAt w cb (co + i * 4) (clAt C i)) (hcb : cb < w.heap.size) :
    Calls Tryd.prog 49 #[.agg #[.slice (some ⟨fb, 0, none⟩) f.length fc, .int .i64 cnt, .int .i64 now, .slice (some ⟨cb, co, none⟩) C.length cc], .int .i64 i] w fun e w' => e = .returned (.bool v) ∧ Below w.heap.size w w' := by
  rcases Bool.eq_false_or_eq_true (wasB cnt (ndAt f i) (clAt C i).was) with hw | hw
  · rcases Bool.eq_false_or_eq_true (keepsK (ndAt f i).k) with hk | hk
    · rw [cellB_keeps cnt now _ _ hk, hw] at hv
      rcases Bool.eq_false_or_eq_true (krB (clAt C i).lo (clAt C i).hi (clAt C i).ts) with hkr | hkr
      · rcases Bool.eq_false_or_eq_true ((clAt C i).lo == (ndAt f i).lo) with e1 | e1
        · rcases Bool.eq_false_or_eq_true ((clAt C i).hi == (ndAt f i).hi) with e2 | e2
          · rw [hkr, e1, e2] at hv
            by_cases hn0 : (clAt C i).ts.length = 0
            · obtain rfl : true = v := by rw [← hv]; simp [hn0]
              exact cellS_6 f fb fc cnt now h0 C cb co cc i hi hi2 hl hlf hlt hw hk hkr e1 e2 hn0 w hN hfb hC hcb
            · by_cases hc : cnt = 0
              · obtain rfl : false = v := by rw [← hv]; simp [hn0, hc]
                exact cellS_7 f fb fc cnt now h0 C cb co cc i hi hi2 hl hlf hlt hw hk hkr e1 e2 (by omega) hc w hN hfb hC hcb
              · have hv2 : decide (lastT (clAt C i).ts ≤ now) = v := by rw [← hv]; simp [hn0, show 0 < cnt by omega]
                exact cellS_8 f fb fc cnt now h0 C cb co cc i hi hi2 hl hlf hlt hw hk hkr e1 e2 (by omega) (by omega) v hv2 w hN hfb hC hcb
          · obtain rfl : false = v := by rw [← hv, e2]; simp
            exact cellS_5 f fb fc cnt now h0 C cb co cc i hi hi2 hl hlf hlt hw hk hkr e1 e2 w hN hfb hC hcb
        · obtain rfl : false = v := by rw [← hv, e1]; simp
          exact cellS_4 f fb fc cnt now h0 C cb co cc i hi hi2 hl hlf hlt hw hk hkr e1 w hN hfb hC hcb
      · obtain rfl : false = v := by rw [← hv, hkr]; rfl
        exact cellS_3 f fb fc cnt now h0 C cb co cc i hi hi2 hl hlf hlt hw hk hkr w hN hfb hC hcb
    · rw [cellB_not cnt now _ _ hk, hw, Bool.true_and] at hv
      exact cellS_2 f fb fc cnt now h0 C cb co cc i hi hi2 hl hlf hlt hw hk v hv w hN hfb hC hcb
  · obtain rfl : false = v := by rw [← hv]; unfold cellB; rw [hw]; rfl
    exact cellS_1 f fb fc cnt now h0 C cb co cc i hi hi2 hl hlf hlt hw w hN hfb hC hcb
end Go.Proofs.YtljhokoojodjnaaDoor
namespace Go.Proofs.YtljhokoojodjnaaDoor
open Go.RowKit
set_option linter.unusedVariables false
set_option linter.unusedSimpArgs false
set_option maxRecDepth 20000 in
set_option maxHeartbeats 4000000 in
theorem specMon_any (f : List Nd) (fb fc : Nat) (cnt now : Int) (C : List Cl) (ca : Option Addr) (cc : Nat) (v : Bool) (hv : monB f cnt now C = v) (w : World) (hM : MonIn w fb f ca C) :
    Calls Tryd.prog 26 #[moV (some ⟨fb, 0, none⟩) f.length fc cnt now ca C.length cc] w fun e w' => e = .returned (.bool v) ∧ Below w.heap.size w w' := by
  have HV := hid hv
  have HM := hid hM
  have HB0 := hid (below_one' w (.cells #[.slice (some ⟨fb, 0, none⟩) f.length fc, .int .i64 cnt, .int .i64 now, .slice ca C.length cc] 51))
  have HX0 := hid (MBox.new w (some ⟨fb, 0, none⟩) f.length fc cnt now ca C.length cc 51)
  have HFr : Hid (∀ b, rightB f = b → ∀ w, NodesAt w fb f → Calls Tryd.prog 23 #[.slice (some ⟨fb, 0, none⟩) f.length fc] w fun e w' => e = .returned (.bool b) ∧ Below w.heap.size w w') := fun b hb w h => by subst hb; exact specRight_any f fb fc w h (fun i hi => (HM.out.ok i hi).nm) (lf_max HM.out.lf)
  have hlf := hM.lf
  have hlc := hM.lc
  unfold moV
  clear hv hM
  rcases Bool.eq_false_or_eq_true (rightB f) with hr | hr
  · have HF := hid (HFr.out true hr)
    clear HFr
    rcases Bool.eq_false_or_eq_true (timeB cnt) with ht | ht
    · have HT1 := hid (fun w => timeS_is cnt true ht w)
      rcases Bool.eq_false_or_eq_true (timeB now) with ht2 | ht2
      · have HT2 := hid (fun w => timeS_is now true ht2 w)
        have hcase : (cnt == 0) = true ∧ (now != 0) = true ∨ ((cnt == 0) && (now != 0)) = false ∧ ((cnt == 0) = false ∨ ((cnt == 0) = true ∧ (now != 0) = false)) := by cases (cnt == 0) <;> cases (now != 0) <;> simp
        rcases hcase with ⟨hz1, hz2⟩ | ⟨hzz, hz⟩
        · have HVF := hid (HV.out.symm.trans (monB_zero (by rw [hz1, hz2]; rfl)))
          clear HV hr ht ht2
          go_enter Tryd.func26, Tryd.ntmps26
          go_wp2_with (first | (go_at_call 23; refine (HF.out _ (HM.out.on HB0.out).nodes).mono ?_; rintro e w1 ⟨rfl, hb1⟩; have HB1 := hid (HB0.out.trans (hb1.mono HB0.out.size)); obtain ⟨_, m0, m1, m2, m3⟩ := HX0.out.on hb1; clear hb1) | (go_at_call 48; first | (refine (HT1.out _).mono ?_; rintro e w' ⟨rfl, rfl⟩) | (refine (HT2.out _).mono ?_; rintro e w' ⟨rfl, rfl⟩)))
          go_ret
          exact ⟨ret_bool HVF.out.symm, HB1.out⟩
        · by_cases hle : C.length = f.length
          · have HVC := hid (HV.out.symm.trans (monB_cells hr hle ht ht2 hzz))
            have h0 := (timeB_not ht).1
            have hne : ((C.length : Int) != (f.length : Int)) = false := by simp [hle]
            have HLe := hid hle
            clear HV hr ht ht2 hzz hle
            rcases hz with hz | ⟨hz, hz2⟩
            all_goals
              go_enter Tryd.func26, Tryd.ntmps26
              go_wp2_with (first | (go_at_call 23; refine (HF.out _ (HM.out.on HB0.out).nodes).mono ?_; rintro e w1 ⟨rfl, hb1⟩; have HB1 := hid (HB0.out.trans (hb1.mono HB0.out.size)); have HX1 := hid (HX0.out.on hb1); obtain ⟨_, m0, m1, m2, m3⟩ := HX1.out; clear hb1) | (go_at_call 48; first | (refine (HT1.out _).mono ?_; rintro e w' ⟨rfl, rfl⟩) | (refine (HT2.out _).mono ?_; rintro e w' ⟨rfl, rfl⟩)))
              clear m0 m1 m2 m3
              go_loopw [3] (fun t wr => ∃ k : Nat, k ≤ C.length ∧ t = .int .i64 k ∧ cellsTo f cnt now C k = true ∧ Below w1.heap.size w1 wr) (fun t _ => C.length - (intOf t).toNat)
              case atStart => exact ⟨0, Nat.zero_le _, rfl, rfl, Below.refl _ _⟩
              case round =>
                obtain ⟨k, hk, rfl, hg, hbel⟩ := hrel
                have HG := hid hg
                have HBr := hid hbel
                have HBE := hid (HB1.out.trans (hbel.mono HB1.out.size))
                obtain ⟨hq, m0, m1, m2, m3⟩ := HX1.out.on hbel
                clear hg hbel
                by_cases hlt : k < C.length
                · have HMr := hid (HM.out.on HBE.out)
                  rcases HMr.out.cells with hz0 | ⟨cb, co, rfl, hcb, hcells⟩
                  · omega
                  have HNk := hid (HMr.out.nodes.2 k (by have := HLe.out; omega))
                  have HCk := hid (hcells k hlt)
                  have hfb := HMr.out.nodes.1
                  have HC : Hid (∀ b, cellB cnt now (ndAt f k) (clAt C k) = b → Calls Tryd.prog 49 #[.agg #[.slice (some ⟨fb, 0, none⟩) f.length fc, .int .i64 cnt, .int .i64 now, .slice (some ⟨cb, co, none⟩) C.length cc], .int .i64 k] wr fun e w' => e = .returned (.bool b) ∧ Below wr.heap.size wr w') := fun b hb => cellS_is f fb fc cnt now h0 C cb co cc k (by have := HLe.out; omega) hlt hlc hlf (HMr.out.lt k hlt) b hb wr HNk.out hfb HCk.out hcb
                  have HSu := hid (cellsTo_succ f cnt now C k)
                  clear hcells hfb hcb
                  rcases Bool.eq_false_or_eq_true (cellB cnt now (ndAt f k) (clAt C k)) with hcb | hcb
                  · have HC1 := hid (HC.out true hcb)
                    have HS2 : Hid (cellsTo f cnt now C (k + 1) = true) := by show cellsTo f cnt now C (k + 1) = true; rw [HSu.out, HG.out, hcb]; rfl
                    clear HC hcb
                    go_wp2_with (go_at_call 49; refine HC1.out.mono ?_; rintro e w2 ⟨rfl, hb2⟩; have HB2 := hid (HBr.out.trans (hb2.mono HBr.out.size)); clear hb2)
                    go_roundw
                    case rel => exact ⟨k + 1, by omega, by go_num, HS2.out, HB2.out⟩
                    case measure => simp [intOf]; omega
                  · have HC1 := hid (HC.out false hcb)
                    have HVF := hid (HVC.out.trans (cellsTo_false f cnt now C k _ (by have := HLe.out; omega) hcb))
                    clear HC hcb
                    go_wp2_with (go_at_call 49; refine HC1.out.mono ?_; rintro e w2 ⟨rfl, hb2⟩; have HB2 := hid (HBE.out.trans (hb2.mono HBE.out.size)); clear hb2)
                    go_ret
                    exact ⟨ret_bool HVF.out.symm, HB2.out⟩
                · have hk' : k = C.length := by omega
                  subst hk'
                  go_wp2_with fail
                  go_ret
                  exact ⟨ret_bool (by rw [HVC.out, ← HLe.out, HG.out]), HBE.out⟩
          · have HVF := hid (HV.out.symm.trans (monB_len hle))
            have hne : ((C.length : Int) != (f.length : Int)) = true := by simp; omega
            clear HV hr ht ht2 hle
            rcases hz with hz | ⟨hz, hz2⟩
            all_goals
              go_enter Tryd.func26, Tryd.ntmps26
              go_wp2_with (first | (go_at_call 23; refine (HF.out _ (HM.out.on HB0.out).nodes).mono ?_; rintro e w1 ⟨rfl, hb1⟩; have HB1 := hid (HB0.out.trans (hb1.mono HB0.out.size)); obtain ⟨_, m0, m1, m2, m3⟩ := HX0.out.on hb1; clear hb1) | (go_at_call 48; first | (refine (HT1.out _).mono ?_; rintro e w' ⟨rfl, rfl⟩) | (refine (HT2.out _).mono ?_; rintro e w' ⟨rfl, rfl⟩)))
              go_ret
              exact ⟨ret_bool HVF.out.symm, HB1.out⟩
      · have HT2 := hid (fun w => timeS_is now false ht2 w)
        have HVF := hid (HV.out.symm.trans (monB_now ht2))
        clear HV hr ht ht2
        go_enter Tryd.func26, Tryd.ntmps26
        go_wp2_with (first | (go_at_call 23; refine (HF.out _ (HM.out.on HB0.out).nodes).mono ?_; rintro e w1 ⟨rfl, hb1⟩; have HB1 := hid (HB0.out.trans (hb1.mono HB0.out.size)); obtain ⟨_, m0, m1, m2, m3⟩ := HX0.out.on hb1; clear hb1) | (go_at_call 48; first | (refine (HT1.out _).mono ?_; rintro e w' ⟨rfl, rfl⟩) | (refine (HT2.out _).mono ?_; rintro e w' ⟨rfl, rfl⟩)))
        go_ret
        exact ⟨ret_bool HVF.out.symm, HB1.out⟩
    · have HT1 := hid (fun w => timeS_is cnt false ht w)
      have HVF := hid (HV.out.symm.trans (monB_cnt ht))
      clear HV hr ht
      go_enter Tryd.func26, Tryd.ntmps26
      go_wp2_with (first | (go_at_call 23; refine (HF.out _ (HM.out.on HB0.out).nodes).mono ?_; rintro e w1 ⟨rfl, hb1⟩; have HB1 := hid (HB0.out.trans (hb1.mono HB0.out.size)); obtain ⟨_, m0, m1, m2, m3⟩ := HX0.out.on hb1; clear hb1) | (go_at_call 48; refine (HT1.out _).mono ?_; rintro e w' ⟨rfl, rfl⟩))
      go_ret
      exact ⟨ret_bool HVF.out.symm, HB1.out⟩
  · have HF := hid (HFr.out false hr)
    have HVF := hid (HV.out.symm.trans (monB_right hr))
    clear HFr HV hr
    go_enter Tryd.func26, Tryd.ntmps26
    go_wp2_with (go_at_call 23; refine (HF.out _ (HM.out.on HB0.out).nodes).mono ?_; rintro e w1 ⟨rfl, hb1⟩; have HB1 := hid (HB0.out.trans (hb1.mono HB0.out.size)); obtain ⟨_, m0, m1, m2, m3⟩ := HX0.out.on hb1; clear hb1)
    go_ret
    exact ⟨ret_bool HVF.out.symm, HB1.out⟩
end Go.Proofs.YtljhokoojodjnaaDoor
namespace Go.Proofs.YtljhokoojodjnaaDoor
open Go.RowKit
set_option linter.unusedVariables false
set_option linter.unusedSimpArgs false
def sizeM (f : List Nd) (cnt now : Int) (C : List Cl) : Int := if monB f cnt now C = true then (sumT C C.length : Nat) else -1
theorem sumT_le (C : List Cl) (n : Nat) (h : ∀ i, i < n → (clAt C i).ts.length ≤ 2000000) : ∀ k, k ≤ n → sumT C k ≤ 2000000 * k := by
  intro k
  induction k with
  | zero => intro _; exact Nat.zero_le _
  | succ k ih =>
    intro hk
    have h1 := ih (by omega)
    have h2 := h k (by omega)
    unfold sumT
    omega
set_option maxRecDepth 20000 in
set_option maxHeartbeats 4000000 in
theorem specMsz_any (f : List Nd) (fb fc : Nat) (cnt now : Int) (C : List Cl) (ca : Option Addr) (cc : Nat) (w : World) (hM : MonIn w fb f ca C) :
    Calls Tryd.prog 42 #[moV (some ⟨fb, 0, none⟩) f.length fc cnt now ca C.length cc] w fun e w' => e = .returned (.int .i64 (sizeM f cnt now C)) ∧ Below w.heap.size w w' := by
  have HM := hid hM
  have HB0 := hid (below_one' w (.cells #[.slice (some ⟨fb, 0, none⟩) f.length fc, .int .i64 cnt, .int .i64 now, .slice ca C.length cc] 51))
  have HX0 := hid (MBox.new w (some ⟨fb, 0, none⟩) f.length fc cnt now ca C.length cc 51)
  have HR : Hid (∀ b, monB f cnt now C = b → ∀ w, MonIn w fb f ca C → Calls Tryd.prog 26 #[.agg #[.slice (some ⟨fb, 0, none⟩) f.length fc, .int .i64 cnt, .int .i64 now, .slice ca C.length cc]] w fun e w' => e = .returned (.bool b) ∧ Below w.heap.size w w') := fun b hb w h => specMon_any f fb fc cnt now C ca cc b hb w h
  have hlc := hM.lc
  unfold moV
  clear hM
  rcases Bool.eq_false_or_eq_true (monB f cnt now C) with hm | hm
  · have HF := hid (HR.out true hm)
    have HS : Hid (sizeM f cnt now C = (sumT C C.length : Nat)) := by show sizeM f cnt now C = _; simp [sizeM, hm]
    clear HR hm
    go_enter Tryd.func42, Tryd.ntmps42
    go_wp2_with (go_at_call 26; refine (HF.out _ (HM.out.on HB0.out)).mono ?_; rintro e w1 ⟨rfl, hb1⟩; have HB1 := hid (HB0.out.trans (hb1.mono HB0.out.size)); have HX1 := hid (HX0.out.on hb1); clear hb1)
    have HM1 := hid (HM.out.on HB1.out)
    obtain ⟨_, m0, m1, m2, m3⟩ := HX1.out
    go_loop [3, 4] (fun m t => ∃ k : Nat, k ≤ C.length ∧ t = .int .i64 k ∧ m = .int .i64 (sumT C k : Nat)) (fun _ t => C.length - (intOf t).toNat)
    case atStart => exact ⟨0, Nat.zero_le _, rfl, rfl⟩
    case round =>
      obtain ⟨k, hk, rfl, rfl⟩ := hrel
      by_cases hlt : k < C.length
      · rcases HM1.out.cells with h0 | ⟨b, off, rfl, hb, hc⟩
        · omega
        obtain ⟨d0, d1, d3, a', c', d2, _, _⟩ := hc k hlt
        have h1 := sumT_le C C.length HM1.out.lt k (by omega)
        have h2 := HM1.out.lt k hlt
        have HSu : Hid (sumT C (k + 1) = sumT C k + (clAt C k).ts.length) := rfl
        clear hc
        generalize sumT C k = S at *
        generalize (clAt C k).ts.length = N at *
        go_wp2_with fail
        go_round
        case rel => exact ⟨k + 1, by omega, by go_num, by rw [HSu.out]; go_num⟩
        case measure => simp [intOf]; omega
      · have hk' : k = C.length := by omega
        subst hk'
        go_wp2_with fail
        go_ret
        exact ⟨ret_int HS.out.symm, HB1.out⟩
  · have HF := hid (HR.out false hm)
    have HS : Hid (sizeM f cnt now C = -1) := by show sizeM f cnt now C = _; simp [sizeM, hm]
    clear HR hm
    go_enter Tryd.func42, Tryd.ntmps42
    go_wp2_with (go_at_call 26; refine (HF.out _ (HM.out.on HB0.out)).mono ?_; rintro e w1 ⟨rfl, hb1⟩; have HB1 := hid (HB0.out.trans (hb1.mono HB0.out.size)); clear hb1)
    go_ret
    exact ⟨ret_int HS.out.symm, HB1.out⟩
set_option maxRecDepth 20000 in
set_option maxHeartbeats 4000000 in
theorem implMsz_any (f : List Nd) (fb fc : Nat) (cnt now : Int) (C : List Cl) (ca : Option Addr) (cc : Nat) (w : World) (hM : MonIn w fb f ca C) (hkw : Kw w) (hg : 1 < w.heap.size) :
    Calls Tryd.prog 43 #[moV (some ⟨fb, 0, none⟩) f.length fc cnt now ca C.length cc] w fun e w' => e = .returned (.int .i64 (sizeM f cnt now C)) ∧ Below w.heap.size w w' := by
  have HM := hid hM
  have HB0 := hid (below_one' w (.cells #[.slice (some ⟨fb, 0, none⟩) f.length fc, .int .i64 cnt, .int .i64 now, .slice ca C.length cc] 51))
  have HX0 := hid (MBox.new w (some ⟨fb, 0, none⟩) f.length fc cnt now ca C.length cc 51)
  have HR : Hid (∀ b, monB f cnt now C = b → Calls Tryd.prog 59 #[.agg #[.slice (some ⟨fb, 0, none⟩) f.length fc, .int .i64 cnt, .int .i64 now, .slice ca C.length cc]] (w.alloc (.cells #[.slice (some ⟨fb, 0, none⟩) f.length fc, .int .i64 cnt, .int .i64 now, .slice ca C.length cc] 51)) fun e w' => e = .returned (.bool b) ∧ Below (w.alloc (.cells #[.slice (some ⟨fb, 0, none⟩) f.length fc, .int .i64 cnt, .int .i64 now, .slice ca C.length cc] 51)).heap.size (w.alloc (.cells #[.slice (some ⟨fb, 0, none⟩) f.length fc, .int .i64 cnt, .int .i64 now, .slice ca C.length cc] 51)) w') := fun b hb => implMon_any f fb fc cnt now C ca cc b hb _ (hM.on HB0.out) (hkw.below HB0.out hg) (by simp; omega)
  have hlc := hM.lc
  unfold moV
  clear hM hkw hg
  rcases Bool.eq_false_or_eq_true (monB f cnt now C) with hm | hm
  · have HF := hid (HR.out true hm)
    have HS : Hid (sizeM f cnt now C = (sumT C C.length : Nat)) := by show sizeM f cnt now C = _; simp [sizeM, hm]
    clear HR hm
    go_enter Tryd.func43, Tryd.ntmps43
    go_wp2_with (go_at_call 59; refine HF.out.mono ?_; rintro e w1 ⟨rfl, hb1⟩; have HB1 := hid (HB0.out.trans (hb1.mono HB0.out.size)); have HX1 := hid (HX0.out.on hb1); obtain ⟨_, m0, m1, m2, m3⟩ := HX1.out; clear hb1)
    have HM1 := hid (HM.out.on HB1.out)
    clear m0 m1 m2 m3
    go_loopw [3, 12] (fun m t wr => ∃ k : Nat, k ≤ C.length ∧ t = .int .i64 k ∧ m = .int .i64 (sumT C k : Nat) ∧ Below w1.heap.size w1 wr) (fun _ t _ => C.length - (intOf t).toNat)
    case atStart => exact ⟨0, Nat.zero_le _, rfl, rfl, Below.refl _ _⟩
    case round =>
      obtain ⟨k, hk, rfl, rfl, hbel⟩ := hrel
      have HBr := hid hbel
      have hsz := hbel.size
      clear hbel
      by_cases hlt : k < C.length
      · have HMr := hid (HM1.out.on HBr.out)
        rcases HMr.out.cells with h0 | ⟨b, off, rfl, hb, hc⟩
        · omega
        obtain ⟨d0, d1, d3, a', c', d2, _, _⟩ := hc k hlt
        have h1 := sumT_le C C.length HM1.out.lt k (by omega)
        have h2 := HM1.out.lt k hlt
        have HSu : Hid (sumT C (k + 1) = sumT C k + (clAt C k).ts.length) := rfl
        clear hc
        generalize sumT C k = S at *
        generalize (clAt C k).ts.length = N at *
        go_wp2_with fail
        go_roundw
        case rel => exact ⟨k + 1, by omega, by go_num, by rw [HSu.out]; go_num, HBr.out.alloc hsz _⟩
        case measure => simp [intOf]; omega
      · have hk' : k = C.length := by omega
        subst hk'
        go_wp2_with fail
        go_ret
        exact ⟨ret_int HS.out.symm, HB1.out.trans (HBr.out.mono HB1.out.size)⟩
  · have HF := hid (HR.out false hm)
    have HS : Hid (sizeM f cnt now C = -1) := by show sizeM f cnt now C = _; simp [sizeM, hm]
    clear HR hm
    go_enter Tryd.func43, Tryd.ntmps43
    go_wp2_with (go_at_call 59; refine HF.out.mono ?_; rintro e w1 ⟨rfl, hb1⟩; have HB1 := hid (HB0.out.trans (hb1.mono HB0.out.size)); clear hb1)
    go_ret
    exact ⟨ret_int HS.out.symm, HB1.out⟩
end Go.Proofs.YtljhokoojodjnaaDoor
namespace Go.Proofs.YtljhokoojodjnaaDoor
open Go.RowKit
set_option linter.unusedVariables false
set_option linter.unusedSimpArgs false
set_option maxRecDepth 20000 in
set_option maxHeartbeats 16000000 in
theorem specTab_any (f : List Nd) (fb fc : Nat) (cap : Int) (R : List Rw) (ra : Option Addr) (rc : Nat) (v : Bool) (hv : tabB f cap R = v) (w : World) (hT : TabIn w fb f ra R) :
    Calls Tryd.prog 7 #[tbV (some ⟨fb, 0, none⟩) f.length fc cap ra R.length rc] w fun e w' => e = .returned (.bool v) ∧ Below w.heap.size w w' := by
  have HV := hid hv
  have HT := hid hT
  have HB0 := hid (below_one' w (.cells #[.slice (some ⟨fb, 0, none⟩) f.length fc, .int .i64 cap, .slice ra R.length rc] 31))
  have HX0 := hid (TBox.new w (some ⟨fb, 0, none⟩) f.length fc cap ra R.length rc 31)
  have HFr := hid (fun b (hb : rightB f = b) w' (h : Below w.heap.size w w') => show Calls Tryd.prog 23 #[.slice (some ⟨fb, 0, none⟩) f.length fc] w' fun e w'' => e = .returned (.bool b) ∧ Below w'.heap.size w' w'' from by subst hb; exact specRight_any f fb fc w' (HT.out.nodes.below h HT.out.nodes.1) (fun i hi => (HT.out.ok i hi).nm) (lf_max HT.out.lf))
  have HCp := hid (fun v (h : capB cap = v) w => capS_any cap v h w)
  have hlr := hT.lr
  have hlf := hT.lf
  unfold tbV
  clear hv hT
  rcases Bool.eq_false_or_eq_true (rightB f) with hr | hr
  · have HF := hid (HFr.out true hr)
    rcases Bool.eq_false_or_eq_true (capB cap) with hc | hc
    · have HC := hid (HCp.out true hc)
      by_cases hl : (R.length : Int) ≤ cap
      · have hnl : ¬ ((R.length : Int) > cap) := by omega
        have HVR := hid (HV.out.symm.trans (tabB_rows hr hc hl))
        clear HFr HCp HV hr hc hl
        go_enter Tryd.func7, Tryd.ntmps7
        go_wp2_with (first | (go_at_call 23; refine (HF.out _ HB0.out).mono ?_; rintro e w1 ⟨rfl, hb1⟩; have HB1 := hid (HB0.out.trans (hb1.mono HB0.out.size)); have HX1 := hid (HX0.out.on hb1); obtain ⟨_, m0, m1, m2⟩ := HX1.out; clear hb1) | (go_at_call 24; refine (HC.out _).mono ?_; rintro e w' ⟨rfl, rfl⟩))
        clear m0 m1 m2
        go_loopw [3] (fun t wr => ∃ k : Nat, k ≤ R.length ∧ t = .int .i64 k ∧ rowsTo f R k = true ∧ Below w1.heap.size w1 wr) (fun t _ => R.length - (intOf t).toNat)
        case atStart => exact ⟨0, Nat.zero_le _, rfl, rfl, Below.refl _ _⟩
        case round =>
          obtain ⟨k, hk, rfl, hs, hbel⟩ := hrel
          have HS := hid hs
          have HBr := hid hbel
          have HBE := hid (HB1.out.trans (hbel.mono HB1.out.size))
          have HXr := hid (HX1.out.on hbel)
          clear hs hbel
          obtain ⟨hq, m0, m1, m2⟩ := HXr.out
          by_cases hlt : k < R.length
          · have HTr := hid (HT.out.on HBE.out)
            rcases HTr.out.rows with h0 | ⟨b, off, rfl, hb, hcs⟩
            · omega
            obtain ⟨c0, c2, c3, ⟨gb, gc, c1, hGF⟩, ⟨ca, cc, c4, hCk⟩⟩ := hcs k hlt
            have HJ := hid (fun j (hj : j < R.length) => (hcs j hj).1)
            have HSu := hid (rowsTo_succ f R k)
            have HNo := hid (fun h => HVR.out.trans (rowsTo_false f R k R.length hlt h))
            have HI := hid (HT.out.rin k hlt)
            have HUe : Hid (upB R k = (decide (k = 0) || Op.bytesLess (rwAt R (k - 1)).key.toList (rwAt R k).key.toList)) := rfl
            generalize hx : rwAt R k = x at *
            have HBn := hid (below_one' wr (.cells #[.string x.key, .slice (some ⟨gb, 0, none⟩) x.f.length gc, .int .i64 x.cnt, .int .i64 x.now, .slice ca x.C.length cc] 53))
            have HNn := hid (RBox.new wr x.key (some ⟨gb, 0, none⟩) x.f.length gc x.cnt x.now ca x.C.length cc 53)
            have HXn := hid (HXr.out.on HBn.out)
            have HGn := hid (hGF.below HBn.out hGF.1)
            have HCn := hid (hCk.on HBn.out)
            have HFn := hid (HTr.out.nodes.below HBn.out HTr.out.nodes.1)
            have HJn := hid (fun j (hj : j < R.length) => (HBn.out.cell (p := ⟨b, off + j * 5, none⟩) hb).trans (HJ.out j hj))
            clear hcs hGF hCk HJ
            go_wp2_with fail
            clear c0 c1 c2 c3 c4 m0 m1 m2
            generalize wr.alloc (.cells #[.string x.key, .slice (some ⟨gb, 0, none⟩) x.f.length gc, .int .i64 x.cnt, .int .i64 x.now, .slice ca x.C.length cc] 53) = V at *
            generalize wr.heap.size = qn at HNn ⊢
            obtain ⟨_, y0, y1, y2, y3, y4⟩ := HNn.out
            obtain ⟨_, m0, m1, m2⟩ := HXn.out
            have y0' := cell_regrown y0
            have y1' := cell_regrown y1
            have y2' := cell_regrown y2
            have y3' := cell_regrown y3
            have y4' := cell_regrown y4
            have m0' := cell_regrown m0
            have m1' := cell_regrown m1
            have m2' := cell_regrown m2
            clear y0 y1 y2 y3 y4 m0 m1 m2 HNn HXn
            have HWd : Hid (∀ b, wordB x.key = b → ∀ d os, Calls Tryd.prog 25 #[.string x.key] (Sort.grow (redrawn V d) os) fun e w'' => e = .returned (.bool b) ∧ ∃ p : Regrown, w'' = Sort.grow (redrawn V p.d) p.os) := fun b hb d os => Calls.regrown_of (by subst hb; exact (specWord_any x.key (Sort.grow (redrawn V d) os) HI.out.key).mono (by rintro e w' ⟨rfl, rfl⟩; exact ⟨rfl, Below.refl _ _⟩))
            have HMo : Hid (∀ b, monB x.f x.cnt x.now x.C = b → ∀ d os, Calls Tryd.prog 26 #[.agg #[.slice (some ⟨gb, 0, none⟩) x.f.length gc, .int .i64 x.cnt, .int .i64 x.now, .slice ca x.C.length cc]] (Sort.grow (redrawn V d) os) fun e w'' => e = .returned (.bool b) ∧ ∃ p : Regrown, w'' = Sort.grow (redrawn V p.d) p.os) := fun b hb d os => Calls.regrown_of (specMon_any x.f gb gc x.cnt x.now x.C ca cc b hb (Sort.grow (redrawn V d) os) (HI.out.mon (HGn.out.below (below_regrown V d os) HGn.out.1) (HCn.out.on (below_regrown V d os))))
            have HSm : Hid (∀ b, decide (x.f = f) = b → ∀ d os, Calls Tryd.prog 27 #[.slice (some ⟨gb, 0, none⟩) x.f.length gc, .slice (some ⟨fb, 0, none⟩) f.length fc] (Sort.grow (redrawn V d) os) fun e w'' => e = .returned (.bool b) ∧ ∃ p : Regrown, w'' = Sort.grow (redrawn V p.d) p.os) := fun b hb d os => Calls.regrown_of (specSame_any x.f f gb fb gc fc b hb HI.out.lf HT.out.lf (Sort.grow (redrawn V d) os) (HGn.out.below (below_regrown V d os) HGn.out.1) (HFn.out.below (below_regrown V d os) HFn.out.1))
            have HRB : Hid (rowB f x = (wordB x.key && (decide (0 < x.cnt) && (decide (x.f = f) && monB x.f x.cnt x.now x.C)))) := rfl
            have HM0 := hid (fun h => monB_cnt0 (f := x.f) (cnt := x.cnt) (now := x.now) (C := x.C) h)
            rcases Bool.eq_false_or_eq_true (wordB x.key) with hw | hw
            · have HW1 := hid (HWd.out true hw)
              cases k with
              | zero =>
                have hup : upB R 0 = true := rfl
                rcases Bool.eq_false_or_eq_true (monB x.f x.cnt x.now x.C) with hm | hm
                · have HM1 := hid (HMo.out true hm)
                  by_cases hz : x.cnt = 0
                  · have HNx := hid (HNo.out (by rw [HRB.out, hz]; simp))
                    have hz1 : (x.cnt == 0) = true := by simp [hz]
                    clear HWd HMo HSm HNo HSu HRB HM0 HUe hm hz
                    refine wp_region_quiet_below (by kernel_rfl) (by kernel_rfl) ?_
                    repeat (go_big_quiet_step (first | exact HW1.out _ _ | exact HM1.out _ _))
                    refine wpQuiet_nil ?_
                    intro _ hw'
                    obtain ⟨⟨dq, osq⟩, hw''⟩ := hw'
                    subst hw''
                    have HB2 := hid (HBr.out.trans ((HBn.out.trans ((below_regrown V dq osq).mono HBn.out.size)).mono HBr.out.size))
                    go_wp2_with fail
                    go_ret
                    exact ⟨ret_bool HNx.out.symm, HB1.out.trans (HB2.out.mono HB1.out.size)⟩
                  · have hz1 : (x.cnt == 0) = false := by simp [hz]
                    have hz0 : 0 < x.cnt := by have := HM0.out hm; omega
                    rcases Bool.eq_false_or_eq_true (decide (x.f = f)) with hs | hs
                    · have HS1 := hid (HSm.out true hs)
                      have HSx : Hid (rowsTo f R (0 + 1) = true) := by show rowsTo f R (0 + 1) = true; rw [HSu.out, HS.out, hup, HRB.out, hw, hm, hs]; simp [hz0]
                      clear HWd HMo HSm HNo HSu HRB HM0 HUe hm hz hs
                      refine wp_region_quiet_below (by kernel_rfl) (by kernel_rfl) ?_
                      repeat (go_big_quiet_step (first | exact HW1.out _ _ | exact HM1.out _ _ | exact HS1.out _ _))
                      refine wpQuiet_nil ?_
                      intro _ hw'
                      obtain ⟨⟨dq, osq⟩, hw''⟩ := hw'
                      subst hw''
                      have HB2 := hid (HBr.out.trans ((HBn.out.trans ((below_regrown V dq osq).mono HBn.out.size)).mono HBr.out.size))
                      go_wp2_with fail
                      go_roundw
                      case rel => exact ⟨0 + 1, by omega, by go_num, HSx.out, HB2.out⟩
                      case measure => simp [intOf]; omega
                    · have HS1 := hid (HSm.out false hs)
                      have HNx := hid (HNo.out (by rw [HRB.out, hs]; simp))
                      clear HWd HMo HSm HNo HSu HRB HM0 HUe hm hz hs
                      refine wp_region_quiet_below (by kernel_rfl) (by kernel_rfl) ?_
                      repeat (go_big_quiet_step (first | exact HW1.out _ _ | exact HM1.out _ _ | exact HS1.out _ _))
                      refine wpQuiet_nil ?_
                      intro _ hw'
                      obtain ⟨⟨dq, osq⟩, hw''⟩ := hw'
                      subst hw''
                      have HB2 := hid (HBr.out.trans ((HBn.out.trans ((below_regrown V dq osq).mono HBn.out.size)).mono HBr.out.size))
                      go_wp2_with fail
                      go_ret
                      exact ⟨ret_bool HNx.out.symm, HB1.out.trans (HB2.out.mono HB1.out.size)⟩
                · have HM1 := hid (HMo.out false hm)
                  have HNx := hid (HNo.out (by rw [HRB.out, hm]; simp))
                  clear HWd HMo HSm HNo HSu HRB HM0 HUe hm
                  refine wp_region_quiet_below (by kernel_rfl) (by kernel_rfl) ?_
                  repeat (go_big_quiet_step (first | exact HW1.out _ _ | exact HM1.out _ _))
                  refine wpQuiet_nil ?_
                  intro _ hw'
                  obtain ⟨⟨dq, osq⟩, hw''⟩ := hw'
                  subst hw''
                  have HB2 := hid (HBr.out.trans ((HBn.out.trans ((below_regrown V dq osq).mono HBn.out.size)).mono HBr.out.size))
                  go_wp2_with fail
                  go_ret
                  exact ⟨ret_bool HNx.out.symm, HB1.out.trans (HB2.out.mono HB1.out.size)⟩
              | succ j =>
                have e0 := HJn.out j (by omega)
                have e0' := cell_regrown e0
                simp only [Nat.add_sub_cancel] at HUe
                generalize hU : (rwAt R j).key = U at *
                clear e0 HJn
                rcases Bool.eq_false_or_eq_true (Op.bytesLess U.toList x.key.toList) with hle | hle
                · have hup : Hid (upB R (j + 1) = true) := by show upB R (j + 1) = true; rw [HUe.out, hle]; simp
                  rcases Bool.eq_false_or_eq_true (monB x.f x.cnt x.now x.C) with hm | hm
                  · have HM1 := hid (HMo.out true hm)
                    by_cases hz : x.cnt = 0
                    · have HNx := hid (HNo.out (by rw [HRB.out, hz]; simp))
                      have hz1 : (x.cnt == 0) = true := by simp [hz]
                      clear HWd HMo HSm HNo HSu HRB HM0 HUe hm hz
                      refine wp_region_quiet_below (by kernel_rfl) (by kernel_rfl) ?_
                      repeat (go_big_quiet_step (first | exact HW1.out _ _ | exact HM1.out _ _))
                      refine wpQuiet_nil ?_
                      intro _ hw'
                      obtain ⟨⟨dq, osq⟩, hw''⟩ := hw'
                      subst hw''
                      have HB2 := hid (HBr.out.trans ((HBn.out.trans ((below_regrown V dq osq).mono HBn.out.size)).mono HBr.out.size))
                      go_wp2_with fail
                      go_ret
                      exact ⟨ret_bool HNx.out.symm, HB1.out.trans (HB2.out.mono HB1.out.size)⟩
                    · have hz1 : (x.cnt == 0) = false := by simp [hz]
                      have hz0 : 0 < x.cnt := by have := HM0.out hm; omega
                      rcases Bool.eq_false_or_eq_true (decide (x.f = f)) with hs | hs
                      · have HS1 := hid (HSm.out true hs)
                        have HSx : Hid (rowsTo f R (j + 1 + 1) = true) := by show rowsTo f R (j + 1 + 1) = true; rw [HSu.out, HS.out, hup.out, HRB.out, hw, hm, hs]; simp [hz0]
                        clear HWd HMo HSm HNo HSu HRB HM0 HUe hm hz hs
                        refine wp_region_quiet_below (by kernel_rfl) (by kernel_rfl) ?_
                        repeat (go_big_quiet_step (first | exact HW1.out _ _ | exact HM1.out _ _ | exact HS1.out _ _))
                        refine wpQuiet_nil ?_
                        intro _ hw'
                        obtain ⟨⟨dq, osq⟩, hw''⟩ := hw'
                        subst hw''
                        have HB2 := hid (HBr.out.trans ((HBn.out.trans ((below_regrown V dq osq).mono HBn.out.size)).mono HBr.out.size))
                        go_wp2_with fail
                        go_roundw
                        case rel => exact ⟨j + 1 + 1, by omega, by go_num, HSx.out, HB2.out⟩
                        case measure => simp [intOf]; omega
                      · have HS1 := hid (HSm.out false hs)
                        have HNx := hid (HNo.out (by rw [HRB.out, hs]; simp))
                        clear HWd HMo HSm HNo HSu HRB HM0 HUe hm hz hs
                        refine wp_region_quiet_below (by kernel_rfl) (by kernel_rfl) ?_
                        repeat (go_big_quiet_step (first | exact HW1.out _ _ | exact HM1.out _ _ | exact HS1.out _ _))
                        refine wpQuiet_nil ?_
                        intro _ hw'
                        obtain ⟨⟨dq, osq⟩, hw''⟩ := hw'
                        subst hw''
                        have HB2 := hid (HBr.out.trans ((HBn.out.trans ((below_regrown V dq osq).mono HBn.out.size)).mono HBr.out.size))
                        go_wp2_with fail
                        go_ret
                        exact ⟨ret_bool HNx.out.symm, HB1.out.trans (HB2.out.mono HB1.out.size)⟩
                  · have HM1 := hid (HMo.out false hm)
                    have HNx := hid (HNo.out (by rw [HRB.out, hm]; simp))
                    clear HWd HMo HSm HNo HSu HRB HM0 HUe hm
                    refine wp_region_quiet_below (by kernel_rfl) (by kernel_rfl) ?_
                    repeat (go_big_quiet_step (first | exact HW1.out _ _ | exact HM1.out _ _))
                    refine wpQuiet_nil ?_
                    intro _ hw'
                    obtain ⟨⟨dq, osq⟩, hw''⟩ := hw'
                    subst hw''
                    have HB2 := hid (HBr.out.trans ((HBn.out.trans ((below_regrown V dq osq).mono HBn.out.size)).mono HBr.out.size))
                    go_wp2_with fail
                    go_ret
                    exact ⟨ret_bool HNx.out.symm, HB1.out.trans (HB2.out.mono HB1.out.size)⟩
                · have HNx := hid (HNo.out (by rw [HUe.out, hle]; simp))
                  clear HWd HMo HSm HNo HSu HRB HM0 HUe
                  refine wp_region_quiet_below (by kernel_rfl) (by kernel_rfl) ?_
                  repeat (go_big_quiet_step (exact HW1.out _ _))
                  refine wpQuiet_nil ?_
                  intro _ hw'
                  obtain ⟨⟨dq, osq⟩, hw''⟩ := hw'
                  subst hw''
                  have HB2 := hid (HBr.out.trans ((HBn.out.trans ((below_regrown V dq osq).mono HBn.out.size)).mono HBr.out.size))
                  go_wp2_with fail
                  go_ret
                  exact ⟨ret_bool HNx.out.symm, HB1.out.trans (HB2.out.mono HB1.out.size)⟩
            · have HW1 := hid (HWd.out false hw)
              have HNx := hid (HNo.out (by rw [HRB.out, hw]; simp))
              clear HWd HMo HSm HNo HSu HRB HM0 HUe
              refine wp_region_quiet_below (by kernel_rfl) (by kernel_rfl) ?_
              repeat (go_big_quiet_step (exact HW1.out _ _))
              refine wpQuiet_nil ?_
              intro _ hw'
              obtain ⟨⟨dq, osq⟩, hw''⟩ := hw'
              subst hw''
              have HB2 := hid (HBr.out.trans ((HBn.out.trans ((below_regrown V dq osq).mono HBn.out.size)).mono HBr.out.size))
              go_wp2_with fail
              go_ret
              exact ⟨ret_bool HNx.out.symm, HB1.out.trans (HB2.out.mono HB1.out.size)⟩
          · have hk' : k = R.length := by omega
            subst hk'
            go_wp2_with fail
            go_ret
            exact ⟨ret_bool (by rw [HVR.out, HS.out]), HBE.out⟩
      · have hnl : ((R.length : Int) > cap) := by omega
        have HVF := hid (HV.out.symm.trans (tabB_len hl))
        clear HFr HCp HV hr hc hl
        go_enter Tryd.func7, Tryd.ntmps7
        go_wp2_with (first | (go_at_call 23; refine (HF.out _ HB0.out).mono ?_; rintro e w1 ⟨rfl, hb1⟩; have HB1 := hid (HB0.out.trans (hb1.mono HB0.out.size)); have HX1 := hid (HX0.out.on hb1); obtain ⟨_, m0, m1, m2⟩ := HX1.out; clear hb1) | (go_at_call 24; refine (HC.out _).mono ?_; rintro e w' ⟨rfl, rfl⟩))
        go_ret
        exact ⟨ret_bool HVF.out.symm, HB1.out⟩
    · have HC := hid (HCp.out false hc)
      have HVF := hid (HV.out.symm.trans (tabB_cap hc))
      clear HFr HCp HV hr hc
      go_enter Tryd.func7, Tryd.ntmps7
      go_wp2_with (first | (go_at_call 23; refine (HF.out _ HB0.out).mono ?_; rintro e w1 ⟨rfl, hb1⟩; have HB1 := hid (HB0.out.trans (hb1.mono HB0.out.size)); have HX1 := hid (HX0.out.on hb1); obtain ⟨_, m0, m1, m2⟩ := HX1.out; clear hb1) | (go_at_call 24; refine (HC.out _).mono ?_; rintro e w' ⟨rfl, rfl⟩))
      go_ret
      exact ⟨ret_bool HVF.out.symm, HB1.out⟩
  · have HF := hid (HFr.out false hr)
    have HVF := hid (HV.out.symm.trans (tabB_right hr))
    clear HFr HCp HV hr
    go_enter Tryd.func7, Tryd.ntmps7
    go_wp2_with (go_at_call 23; refine (HF.out _ HB0.out).mono ?_; rintro e w1 ⟨rfl, hb1⟩; have HB1 := hid (HB0.out.trans (hb1.mono HB0.out.size)); have HX1 := hid (HX0.out.on hb1); obtain ⟨_, m0, m1, m2⟩ := HX1.out; clear hb1)
    go_ret
    exact ⟨ret_bool HVF.out.symm, HB1.out⟩
end Go.Proofs.YtljhokoojodjnaaDoor
namespace Go.Proofs.YtljhokoojodjnaaDoor
open Go.RowKit
set_option linter.unusedVariables false
set_option linter.unusedSimpArgs false
def sizeTo (R : List Rw) : Nat → Int
  | 0 => 0
  | k + 1 => sizeTo R k + sizeM (rwAt R k).f (rwAt R k).cnt (rwAt R k).now (rwAt R k).C
def sizeTb (f : List Nd) (cap : Int) (R : List Rw) : Int := if tabB f cap R = true then sizeTo R R.length else -1
theorem sizeM_in {x : Rw} (h : RwIn x) : -1 ≤ sizeM x.f x.cnt x.now x.C ∧ sizeM x.f x.cnt x.now x.C ≤ 2097152000000 := by
  unfold sizeM
  split
  · have h1 := sumT_le x.C x.C.length h.lt x.C.length (Nat.le_refl _)
    have h2 := h.lc
    constructor
    · omega
    · have : (sumT x.C x.C.length : Int) ≤ ((2000000 * x.C.length : Nat) : Int) := by exact_mod_cast h1
      omega
  · omega
theorem sizeTo_in (R : List Rw) (h : ∀ i, i < R.length → RwIn (rwAt R i)) : ∀ k, k ≤ R.length → -(k : Int) ≤ sizeTo R k ∧ sizeTo R k ≤ 2097152000000 * k := by
  intro k
  induction k with
  | zero => intro _; simp [sizeTo]
  | succ k ih =>
    intro hk
    have h1 := ih (by omega)
    have h2 := sizeM_in (h k (by omega))
    unfold sizeTo
    omega
set_option maxRecDepth 20000 in
set_option maxHeartbeats 4000000 in
theorem specTsz_any (f : List Nd) (fb fc : Nat) (cap : Int) (R : List Rw) (ra : Option Addr) (rc : Nat) (w : World) (hT : TabIn w fb f ra R) :
    Calls Tryd.prog 20 #[tbV (some ⟨fb, 0, none⟩) f.length fc cap ra R.length rc] w fun e w' => e = .returned (.int .i64 (sizeTb f cap R)) ∧ Below w.heap.size w w' := by
  have HT := hid hT
  have HB0 := hid (below_one' w (.cells #[.slice (some ⟨fb, 0, none⟩) f.length fc, .int .i64 cap, .slice ra R.length rc] 31))
  have HX0 := hid (TBox.new w (some ⟨fb, 0, none⟩) f.length fc cap ra R.length rc 31)
  have HR : Hid (∀ b, tabB f cap R = b → ∀ w, TabIn w fb f ra R → Calls Tryd.prog 7 #[.agg #[.slice (some ⟨fb, 0, none⟩) f.length fc, .int .i64 cap, .slice ra R.length rc]] w fun e w' => e = .returned (.bool b) ∧ Below w.heap.size w w') := fun b hb w h => specTab_any f fb fc cap R ra rc b hb w h
  have HU : Hid (∀ fa fn fc cnt now ca cn cc, moV fa fn fc cnt now ca cn cc = .agg #[.slice fa fn fc, .int .i64 cnt, .int .i64 now, .slice ca cn cc]) := fun _ _ _ _ _ _ _ _ => rfl
  have hlr := hT.lr
  unfold tbV
  clear hT
  rcases Bool.eq_false_or_eq_true (tabB f cap R) with hm | hm
  · have HF := hid (HR.out true hm)
    have HSz : Hid (sizeTb f cap R = sizeTo R R.length) := by show sizeTb f cap R = _; simp [sizeTb, hm]
    clear HR hm
    go_enter Tryd.func20, Tryd.ntmps20
    go_wp2_with (go_at_call 7; refine (HF.out _ (HT.out.on HB0.out)).mono ?_; rintro e w1 ⟨rfl, hb1⟩; have HB1 := hid (HB0.out.trans (hb1.mono HB0.out.size)); have HX1 := hid (HX0.out.on hb1); obtain ⟨_, m0, m1, m2⟩ := HX1.out; clear hb1)
    clear m0 m1 m2
    go_loopw [3, 4] (fun m t wr => ∃ k : Nat, k ≤ R.length ∧ t = .int .i64 k ∧ m = .int .i64 (sizeTo R k) ∧ Below w1.heap.size w1 wr) (fun _ t _ => R.length - (intOf t).toNat)
    case atStart => exact ⟨0, Nat.zero_le _, rfl, rfl, Below.refl _ _⟩
    case round =>
      obtain ⟨k, hk, rfl, rfl, hbel⟩ := hrel
      have HBr := hid hbel
      have HBE := hid (HB1.out.trans (hbel.mono HB1.out.size))
      obtain ⟨hq, m0, m1, m2⟩ := HX1.out.on hbel
      clear hbel
      by_cases hlt : k < R.length
      · have HTr := hid (HT.out.on HBE.out)
        rcases HTr.out.rows with h0 | ⟨b, off, rfl, hb, hcs⟩
        · omega
        obtain ⟨c0, c2, c3, ⟨gb, gc, c1, hGF⟩, ⟨ca, cc, c4, hCk⟩⟩ := hcs k hlt
        have HI := hid (HT.out.rin k hlt)
        have HS1 : Hid (sizeTo R (k + 1) = sizeTo R k + sizeM (rwAt R k).f (rwAt R k).cnt (rwAt R k).now (rwAt R k).C) := rfl
        have h1 := sizeTo_in R (fun i hi => (HT.out.rin i hi)) k hk
        have h2 := sizeM_in HI.out
        generalize hx : rwAt R k = x at *
        clear hcs hx
        have HMz := hid (specMsz_any x.f gb gc x.cnt x.now x.C ca cc wr (HI.out.mon hGF hCk))
        rw [HU.out] at HMz
        generalize sizeM x.f x.cnt x.now x.C = N at *
        generalize sizeTo R k = S at *
        go_wp2_with (go_at_call 42; refine HMz.out.mono ?_; rintro e w2 ⟨rfl, hb2⟩; have HB2 := hid (HBr.out.trans (hb2.mono HBr.out.size)); clear hb2)
        go_roundw
        case rel => exact ⟨k + 1, by omega, by go_num, by rw [HS1.out], HB2.out⟩
        case measure => simp [intOf]; omega
      · have hk' : k = R.length := by omega
        subst hk'
        go_wp2_with fail
        go_ret
        exact ⟨ret_int HSz.out.symm, HBE.out⟩
  · have HF := hid (HR.out false hm)
    have HSz : Hid (sizeTb f cap R = -1) := by show sizeTb f cap R = _; simp [sizeTb, hm]
    clear HR hm
    go_enter Tryd.func20, Tryd.ntmps20
    go_wp2_with (go_at_call 7; refine (HF.out _ (HT.out.on HB0.out)).mono ?_; rintro e w1 ⟨rfl, hb1⟩; have HB1 := hid (HB0.out.trans (hb1.mono HB0.out.size)); clear hb1)
    go_ret
    exact ⟨ret_int HSz.out.symm, HB1.out⟩
set_option maxRecDepth 20000 in
set_option maxHeartbeats 4000000 in
theorem implTsz_any (f : List Nd) (fb fc : Nat) (cap : Int) (R : List Rw) (ra : Option Addr) (rc : Nat) (w : World) (hT : TabIn w fb f ra R) (hkw : Kw w) (hg : 1 < w.heap.size) :
    Calls Tryd.prog 21 #[tbV (some ⟨fb, 0, none⟩) f.length fc cap ra R.length rc] w fun e w' => e = .returned (.int .i64 (sizeTb f cap R)) ∧ Below w.heap.size w w' := by
  have HT := hid hT
  have HK := hid hkw
  have HB0 := hid (below_one' w (.cells #[.slice (some ⟨fb, 0, none⟩) f.length fc, .int .i64 cap, .slice ra R.length rc] 31))
  have HX0 := hid (TBox.new w (some ⟨fb, 0, none⟩) f.length fc cap ra R.length rc 31)
  have HR : Hid (∀ b, tabB f cap R = b → ∀ w, TabIn w fb f ra R → Kw w → 1 < w.heap.size → Calls Tryd.prog 9 #[.agg #[.slice (some ⟨fb, 0, none⟩) f.length fc, .int .i64 cap, .slice ra R.length rc]] w fun e w' => e = .returned (.bool b) ∧ Below w.heap.size w w') := fun b hb w h hk hl => implTab_any f fb fc cap R ra rc b hb w h hk hl
  have HU : Hid (∀ fa fn fc cnt now ca cn cc, moV fa fn fc cnt now ca cn cc = .agg #[.slice fa fn fc, .int .i64 cnt, .int .i64 now, .slice ca cn cc]) := fun _ _ _ _ _ _ _ _ => rfl
  have hlr := hT.lr
  unfold tbV
  clear hT
  rcases Bool.eq_false_or_eq_true (tabB f cap R) with hm | hm
  · have HF := hid (HR.out true hm)
    have HSz : Hid (sizeTb f cap R = sizeTo R R.length) := by show sizeTb f cap R = _; simp [sizeTb, hm]
    clear HR hm
    go_enter Tryd.func21, Tryd.ntmps21
    go_wp2_with (go_at_call 9; refine (HF.out _ (HT.out.on HB0.out) (HK.out.below HB0.out hg) (by have := HB0.out.size; omega)).mono ?_; rintro e w1 ⟨rfl, hb1⟩; have HB1 := hid (HB0.out.trans (hb1.mono HB0.out.size)); have HX1 := hid (HX0.out.on hb1); obtain ⟨_, m0, m1, m2⟩ := HX1.out; clear hb1)
    clear m0 m1 m2
    go_loopw [3, 12] (fun m t wr => ∃ k : Nat, k ≤ R.length ∧ t = .int .i64 k ∧ m = .int .i64 (sizeTo R k) ∧ Below w1.heap.size w1 wr) (fun _ t _ => R.length - (intOf t).toNat)
    case atStart => exact ⟨0, Nat.zero_le _, rfl, rfl, Below.refl _ _⟩
    case round =>
      obtain ⟨k, hk, rfl, rfl, hbel⟩ := hrel
      have HBr := hid hbel
      have HBE := hid (HB1.out.trans (hbel.mono HB1.out.size))
      obtain ⟨hq, m0, m1, m2⟩ := HX1.out.on hbel
      clear hbel
      by_cases hlt : k < R.length
      · have HTr := hid (HT.out.on HBE.out)
        rcases HTr.out.rows with h0 | ⟨b, off, rfl, hb, hcs⟩
        · omega
        obtain ⟨c0, c2, c3, ⟨gb, gc, c1, hGF⟩, ⟨ca, cc, c4, hCk⟩⟩ := hcs k hlt
        have HI := hid (HT.out.rin k hlt)
        have HS1 : Hid (sizeTo R (k + 1) = sizeTo R k + sizeM (rwAt R k).f (rwAt R k).cnt (rwAt R k).now (rwAt R k).C) := rfl
        have h1 := sizeTo_in R (fun i hi => (HT.out.rin i hi)) k hk
        have h2 := sizeM_in HI.out
        generalize hx : rwAt R k = x at *
        clear hcs hx
        have HBn := hid (below_one' wr (.cells #[.string x.key, .slice (some ⟨gb, 0, none⟩) x.f.length gc, .int .i64 x.cnt, .int .i64 x.now, .slice ca x.C.length cc] 53))
        have HMz := hid (implMsz_any x.f gb gc x.cnt x.now x.C ca cc _ ((HI.out.mon hGF hCk).on HBn.out) ((HK.out.below HBE.out hg).below HBn.out (by have := HBE.out.size; omega)) (by have := HBE.out.size; have := HBn.out.size; omega))
        rw [HU.out] at HMz
        generalize sizeM x.f x.cnt x.now x.C = N at *
        generalize sizeTo R k = S at *
        go_wp2_with (go_at_call 43; refine HMz.out.mono ?_; rintro e w2 ⟨rfl, hb2⟩; have HB2 := hid (HBr.out.trans ((HBn.out.trans (hb2.mono HBn.out.size)).mono HBr.out.size)); clear hb2)
        go_roundw
        case rel => exact ⟨k + 1, by omega, by go_num, by rw [HS1.out], HB2.out⟩
        case measure => simp [intOf]; omega
      · have hk' : k = R.length := by omega
        subst hk'
        go_wp2_with fail
        go_ret
        exact ⟨ret_int HSz.out.symm, HBE.out⟩
  · have HF := hid (HR.out false hm)
    have HSz : Hid (sizeTb f cap R = -1) := by show sizeTb f cap R = _; simp [sizeTb, hm]
    clear HR hm
    go_enter Tryd.func21, Tryd.ntmps21
    go_wp2_with (go_at_call 9; refine (HF.out _ (HT.out.on HB0.out) (HK.out.below HB0.out hg) (by have := HB0.out.size; omega)).mono ?_; rintro e w1 ⟨rfl, hb1⟩; have HB1 := hid (HB0.out.trans (hb1.mono HB0.out.size)); clear hb1)
    go_ret
    exact ⟨ret_int HSz.out.symm, HB1.out⟩
end Go.Proofs.YtljhokoojodjnaaDoor
namespace Go.Proofs.YtljhokoojodjnaaDoor
open Go.RowKit
set_option linter.unusedVariables false
set_option linter.unusedSimpArgs false
set_option maxRecDepth 20000 in
set_option maxHeartbeats 4000000 in
theorem walkTabZ (f : List Nd) (fa : Option Addr) (fc : Nat) (cap : Int) (R : List Rw) (ra : Option Addr) (rc : Nat) (w : World) (hT : InT w fa fc f ra R) (hkw : Kw w) (hg : 1 < w.heap.size) :
    Calls Tryd.prog 5 #[tbV fa f.length fc cap ra R.length rc] w fun e w' => e = .returned (.bool true) ∧ Below w.heap.size w w' := by
  have HT := hid hT
  have HK := hid hkw
  have HU : Hid (∀ fa fn fc cap ra rn rc, tbV fa fn fc cap ra rn rc = .agg #[.slice fa fn fc, .int .i64 cap, .slice ra rn rc]) := fun _ _ _ _ _ _ _ => rfl
  clear hT hkw
  rw [HU.out]
  go_enter Tryd.func5, Tryd.ntmps5
  go_wp2_with fail
  have HB0 := hid (below_one' w (.cells #[.slice fa f.length fc, .int .i64 cap, .slice ra R.length rc] 25))
  have HX0 := hid (TBox.new w fa f.length fc cap ra R.length rc 25)
  generalize w.alloc (.cells #[.slice fa f.length fc, .int .i64 cap, .slice ra R.length rc] 25) = W0 at *
  have hz0 := HB0.out.size
  refine (szTab_any f fa fc cap R ra rc _ ⟨⟨HT.out.f.arg.below HB0.out (Nat.le_refl _), HT.out.f.ok, HT.out.f.len⟩, ⟨HT.out.r.arg.below HB0.out (Nat.le_refl _), HT.out.r.ok, HT.out.r.len⟩⟩).mono ?_
  rintro e w1 ⟨r, rfl, q1, q2, hr, hb1⟩
  have HB1 := hid (HB0.out.trans (hb1.mono hz0))
  have hz1 := hb1.size
  have HX1 := hid (HX0.out.on hb1)
  by_cases hr0 : r < 0
  · clear hb1 hr
    go_wp2_with fail
    go_ret
    exact ⟨rfl, HB1.out⟩
  have HZ := hid (hr (by omega))
  have HTM := hid (fun w h1 h2 => toTab_any f fa fc cap R ra rc HZ.out w h1 h2)
  have HTI : Hid (∀ w b c, TabAt w b f c R → TabIn w b f (some ⟨c, 0, none⟩) R) := fun w b c h => ⟨h.nodes, HT.out.f.ok, HZ.out.fl, by obtain ⟨A, B, T, Z, z, h⟩ := h.rows; exact h.at HZ.out.rw', HZ.out.r, fun i hi => RwIn.of (HT.out.r.ok i hi) (HZ.out.rw' i hi)⟩
  clear hb1 hr
  obtain ⟨u0, x0, x1, x2⟩ := HX1.out
  go_wp2_with fail
  refine (HTM.out _ (HT.out.f.arg.below HB1.out (Nat.le_refl _)) (HT.out.r.arg.below HB1.out (Nat.le_refl _))).mono ?_
  rintro e w2 ⟨b2, c2, rfl, hb2, ht2, hbl2⟩
  have HB2 := hid (HB1.out.trans (hbl2.mono (by omega)))
  have hz2 := hbl2.size
  have HX2 := hid (HX1.out.on hbl2)
  have HM2 := hid (HTI.out _ _ _ ht2)
  clear ht2 hbl2 u0 x0 x1 x2
  go_wp2_with fail
  refine (specTsz_any f b2 f.length cap R (some ⟨c2, 0, none⟩) R.length _ HM2.out).mono ?_
  rintro e w3 ⟨rfl, hbl3⟩
  have HB3 := hid (HB2.out.trans (hbl3.mono (by omega)))
  have hz3 := hbl3.size
  have HX3 := hid (HX2.out.on hbl3)
  clear hbl3
  obtain ⟨u0, x0, x1, x2⟩ := HX3.out
  go_wp2_with fail
  refine (HTM.out _ (HT.out.f.arg.below HB3.out (Nat.le_refl _)) (HT.out.r.arg.below HB3.out (Nat.le_refl _))).mono ?_
  rintro e w4 ⟨b4, c4, rfl, hb4, ht4, hbl4⟩
  have HB4 := hid (HB3.out.trans (hbl4.mono (by omega)))
  have hz4 := hbl4.size
  have HX4 := hid (HX3.out.on hbl4)
  have HM4 := hid (HTI.out _ _ _ ht4)
  clear ht4 hbl4 u0 x0 x1 x2
  rw [HU.out]
  go_wp2_with fail
  have hbo := below_one' w4 (.cells #[.slice (some ⟨b4, 0, none⟩) f.length f.length, .int .i64 cap, .slice (some ⟨c4, 0, none⟩) R.length R.length] 31)
  have HB5 := hid (below_new HB4.out (.cells #[.slice (some ⟨b4, 0, none⟩) f.length f.length, .int .i64 cap, .slice (some ⟨c4, 0, none⟩) R.length R.length] 31))
  have HX5 := hid (HX4.out.on hbo)
  have HY5 := hid (TBox.new w4 (some ⟨b4, 0, none⟩) f.length f.length cap (some ⟨c4, 0, none⟩) R.length R.length 31)
  have HM5 := hid (HM4.out.on hbo)
  have hz5 := HB5.out.size
  clear hbo
  generalize w4.alloc (.cells #[.slice (some ⟨b4, 0, none⟩) f.length f.length, .int .i64 cap, .slice (some ⟨c4, 0, none⟩) R.length R.length] 31) = W5 at *
  refine (implTsz_any f b4 f.length cap R (some ⟨c4, 0, none⟩) R.length _ HM5.out (HK.out.below HB5.out hg) (by omega)).mono ?_
  rintro e w6 ⟨rfl, hbl6⟩
  have HB6 := hid (HB5.out.trans (hbl6.mono (by omega)))
  have hz6 := hbl6.size
  have HX6 := hid (HX5.out.on hbl6)
  have HY6 := hid (HY5.out.on hbl6)
  have HM6 := hid (HM5.out.on hbl6)
  clear hbl6
  generalize sizeTb f cap R = ANS at *
  have hx : (ANS != ANS) = false := by simp
  obtain ⟨u0, x0, x1, x2⟩ := HX6.out
  obtain ⟨u1, y0, y1, y2⟩ := HY6.out
  have HEQ := hid (fun b1 b2 d1 d2 a1 a2 c1 c2 w n1 n2 h1 h2 => eqTab_any f b1 b2 d1 d2 cap R a1 a2 c1 c2 HZ.out.fl HZ.out.r HZ.out.rw' w n1 n2 h1 h2)
  go_wp2_with fail
  go_region_with (first
    | (go_at_call 8; refine (HTM.out _ (HT.out.f.arg.below (below_drew HB6.out) (Nat.le_refl _)) (HT.out.r.arg.below (below_drew HB6.out) (Nat.le_refl _))).mono ?_; rintro e w7 ⟨b7, c7, rfl, hb7, ht7, hbl7'⟩; have hbl7 := below_undrew hbl7'; clear hbl7'; have HB7 := hid (HB6.out.trans (hbl7.mono (by omega))); have hz7 := hbl7.size; have HY7 := hid (HY6.out.on hbl7); have HM7 := hid (HM6.out.on hbl7); have HQ7 := hid (HTI.out _ _ _ ht7); obtain ⟨u7, t0, t1, t2⟩ := HY7.out; rw [HU.out]; clear ht7 hbl7)
    | (go_at_call 10; refine (HEQ.out b4 b7 f.length f.length (some ⟨c4, 0, none⟩) (some ⟨c7, 0, none⟩) R.length R.length _ HM7.out.nodes HQ7.out.nodes HM7.out.rows HQ7.out.rows).mono ?_; rintro e w8 ⟨rfl, hbl8⟩; have HB8 := hid (HB7.out.trans (hbl8.mono (by omega))); clear hbl8))
  all_goals
    go_wp2_with fail
    go_ret
    exact ⟨rfl, HB8.out⟩
end Go.Proofs.YtljhokoojodjnaaDoor
