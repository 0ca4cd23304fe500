/-
  Texts in their order: plain facts.
  The program's MonRight, by its contract.
  Rows of tables: plain facts; the laws' own helpers over them: szRowS, szTable, by their contracts.
  The laws' own helpers over rows of tables and tables: toRowS, toTable, by their contracts.
  The laws' own helpers over tables: toTable, eqRowS, eqTable, by their contracts.
  TableRight: what it asks; l09Same, slices.Equal, watchesFor, by their contracts.
  TableRight, the program's, by its contract.
-/
import Derived.Test.YtljhokoojodjnaaGreatDoorWord
import Derived.Test.YtljhokoojodjnaaGreatDoorMnR
import Derived.Test.YtljhokoojodjnaaGreatDoorCkM
namespace Go.Proofs.YtljhokoojodjnaaGreatDoor
open Go.RowKit
theorem wordB_len (s : ByteArray) (h : wordB s = true) : 1 ≤ s.size ∧ s.size ≤ 8 := by
  simp only [wordB, Bool.and_eq_true, decide_eq_true_eq] at h
  exact h.1
/-- No name is empty. -/
theorem word_full (T : ByteArray) (h : wordB T = true) : T.toList.isEmpty = false := by
  have h1 := (wordB_len T h).1
  have h2 : T.toList = T.data.toList := ByteArray.toList_eq T
  have h3 : T.data.toList.length = T.size := rfl
  rw [h2]
  cases hl : T.data.toList with
  | nil => rw [hl] at h3; simp at h3; omega
  | cons x l => rfl
theorem less_nil (l : List UInt8) : Op.bytesLess l [] = false := by cases l <;> rfl
theorem less_irr : ∀ a : List UInt8, Op.bytesLess a a = false
  | [] => rfl
  | x :: a => by simp [Op.bytesLess, less_irr a]
theorem less_asym : ∀ a b : List UInt8, Op.bytesLess a b = true → Op.bytesLess b a = false
  | _, [], h => by simp [less_nil] at h
  | [], _ :: _, _ => rfl
  | x :: a, y :: b, h => by
    simp only [Op.bytesLess, Bool.or_eq_true, Bool.and_eq_true, decide_eq_true_eq, beq_iff_eq] at h
    simp only [Op.bytesLess, Bool.or_eq_false_iff, Bool.and_eq_false_iff, decide_eq_false_iff_not, beq_eq_false_iff_ne]
    rcases h with h | ⟨rfl, h⟩
    · exact ⟨UInt8.lt_asymm h, Or.inl (fun e => by subst e; exact UInt8.lt_irrefl _ h)⟩
    · exact ⟨UInt8.lt_irrefl _, Or.inr (less_asym a b h)⟩
theorem less_ne (a b : List UInt8) (h : Op.bytesLess a b = true) : (b == a) = false := by
  rw [beq_eq_false_iff_ne]
  rintro rfl
  rw [less_irr] at h
  cases h
theorem less_tri : ∀ a b : List UInt8, Op.bytesLess a b = false → (b == a) = false → Op.bytesLess b a = true
  | [], [], _, h => by simp at h
  | _ :: _, [], _, _ => rfl
  | [], _ :: _, h, _ => by simp [Op.bytesLess] at h
  | x :: a, y :: b, h, h' => by
    simp only [Op.bytesLess, Bool.or_eq_false_iff, Bool.and_eq_false_iff, decide_eq_false_iff_not, beq_eq_false_iff_ne] at h
    simp only [Op.bytesLess, Bool.or_eq_true, Bool.and_eq_true, decide_eq_true_eq, beq_iff_eq]
    by_cases e : y = x
    · subst e
      right
      refine ⟨rfl, less_tri a b (h.2.resolve_left (fun h => h rfl)) ?_⟩
      rw [beq_eq_false_iff_ne] at h' ⊢
      exact fun q => h' (by rw [q])
    · left
      have h1 := UInt8.not_lt.1 h.1
      exact UInt8.lt_of_le_of_ne h1 e
theorem less_trans : ∀ a b c : List UInt8, Op.bytesLess a b = true → Op.bytesLess b c = true → Op.bytesLess a c = true
  | _, [], _, h, _ => by simp [less_nil] at h
  | _, _ :: _, [], _, h => by simp [Op.bytesLess] at h
  | [], _ :: _, _ :: _, _, _ => rfl
  | x :: a, y :: b, z :: c, h1, h2 => by
    simp only [Op.bytesLess, Bool.or_eq_true, Bool.and_eq_true, decide_eq_true_eq, beq_iff_eq] at h1 h2 ⊢
    rcases h1 with h1 | ⟨rfl, h1⟩
    · rcases h2 with h2 | ⟨rfl, h2⟩
      · exact Or.inl (UInt8.lt_trans h1 h2)
      · exact Or.inl h1
    · rcases h2 with h2 | ⟨rfl, h2⟩
      · exact Or.inl h2
      · exact Or.inr ⟨rfl, less_trans a b c h1 h2⟩
end Go.Proofs.YtljhokoojodjnaaGreatDoor
namespace Go.Proofs.YtljhokoojodjnaaGreatDoor
open Go.RowKit
set_option linter.unusedVariables false
set_option linter.unusedSimpArgs false
/-- What is asked of a Monitor that the program has. -/
structure MonIn (w : World) (fb : Nat) (f : List Nd) (ca : Option Addr) (C : List Cl) : Prop where
  nodes : NodesAt w fb f
  ok : ∀ i, i < f.length → ndOk (ndAt f i)
  lf : f.length ≤ 1048576
  cells : CksAt w ca C
  lc : C.length ≤ 1048576
  lt : ∀ i, i < C.length → (clAt C i).ts.length ≤ 2000000
theorem MonIn.on {w w' : World} {fb : Nat} {f : List Nd} {ca : Option Addr} {C : List Cl} (h : MonIn w fb f ca C) (hb : Below w.heap.size w w') : MonIn w' fb f ca C :=
  ⟨h.nodes.below hb h.nodes.1, h.ok, h.lf, h.cells.on hb, h.lc, h.lt⟩
theorem lf_max {n : Nat} (h : n ≤ 1048576) : n ≤ maxLen := by unfold maxLen; omega
theorem monB_right {f : List Nd} {cnt now : Int} {C : List Cl} (h : rightB f = false) : monB f cnt now C = false := by simp [monB, h]
theorem monB_len {f : List Nd} {cnt now : Int} {C : List Cl} (h : ¬ C.length = f.length) : monB f cnt now C = false := by simp [monB, h]
theorem monB_cnt {f : List Nd} {cnt now : Int} {C : List Cl} (h : timeB cnt = false) : monB f cnt now C = false := by simp [monB, h]
theorem monB_now {f : List Nd} {cnt now : Int} {C : List Cl} (h : timeB now = false) : monB f cnt now C = false := by simp [monB, h]
theorem monB_zero {f : List Nd} {cnt now : Int} {C : List Cl} (h : ((cnt == 0) && (now != 0)) = true) : monB f cnt now C = false := by simp only [monB, h, Bool.not_true, Bool.false_and, Bool.and_false]
theorem monB_cells {f : List Nd} {cnt now : Int} {C : List Cl} (h1 : rightB f = true) (h2 : C.length = f.length) (h3 : timeB cnt = true) (h4 : timeB now = true) (h5 : ((cnt == 0) && (now != 0)) = false) : monB f cnt now C = cellsTo f cnt now C f.length := by
  simp only [monB, h1, h2, h3, h4, h5, decide_true, Bool.true_and, Bool.not_false]
theorem timeB_not {t : Int} (h : timeB t = true) : 0 ≤ t ∧ t ≤ 1000000 := by simpa [timeB] using h
theorem timeB_no {t : Int} (h : timeB t = false) : t < 0 ∨ 1000000 < t := by
  simp only [timeB, decide_eq_false_iff_not] at h
  omega
theorem NBox6.new (w : World) (x : Nd) (t : TypeId) : NodeAt (w.alloc (.cells #[.int .i64 x.k, .int .i64 x.a, .int .i64 x.b, .int .i64 x.lo, .int .i64 x.hi, .string x.nm] t)) w.heap.size 0 x :=
  ⟨by simp [go_sem], by simp [go_sem], by simp [go_sem], by simp [go_sem], by simp [go_sem], by simp [go_sem]⟩
set_option maxRecDepth 20000 in
set_option maxHeartbeats 8000000 in
theorem implMon_any (f : List Nd) (fb fc : Nat) (cnt now : Int) (C : List Cl) (ca : Option Addr) (cc : Nat) (v : Bool) (hv : monB f cnt now C = v) (w : World) (hM : MonIn w fb f ca C) (hkw : Kw w) (hg : 0 < w.heap.size) :
    Calls Tryz.prog 94 #[moV (some ⟨fb, 0, none⟩) f.length fc cnt now ca C.length cc] w fun e w' => e = .returned (.bool v) ∧ Below w.heap.size w w' := by
  have HV := hid hv
  have HM := hid hM
  have HB0 := hid (below_one' w (.cells #[.slice (some ⟨fb, 0, none⟩) f.length fc, .int .i64 cnt, .int .i64 now, .slice ca C.length cc] 46))
  have HX0 := hid (MBox.new w (some ⟨fb, 0, none⟩) f.length fc cnt now ca C.length cc 46)
  have HFr : Hid (∀ b, rightB f = b → Calls Tryz.prog 67 #[.slice (some ⟨fb, 0, none⟩) f.length fc] (w.alloc (.cells #[.slice (some ⟨fb, 0, none⟩) f.length fc, .int .i64 cnt, .int .i64 now, .slice ca C.length cc] 46)) fun e w' => e = .returned (.bool b) ∧ Below (w.alloc (.cells #[.slice (some ⟨fb, 0, none⟩) f.length fc, .int .i64 cnt, .int .i64 now, .slice ca C.length cc] 46)).heap.size (w.alloc (.cells #[.slice (some ⟨fb, 0, none⟩) f.length fc, .int .i64 cnt, .int .i64 now, .slice ca C.length cc] 46)) w') := fun b hb => by subst hb; exact implRight_any f fb fc _ (hM.on HB0.out).nodes HM.out.ok (lf_max HM.out.lf) (hkw.below HB0.out hg) (by simp <;> omega)
  have hlf := hM.lf
  have hlc := hM.lc
  have HU : Hid (∀ x : Nd, ndV x = .agg #[.int .i64 x.k, .int .i64 x.a, .int .i64 x.b, .int .i64 x.lo, .int .i64 x.hi, .string x.nm]) := fun _ => rfl
  unfold moV
  clear hv hM hkw hg
  rcases Bool.eq_false_or_eq_true (rightB f) with hr | hr
  · have HF := hid (HFr.out true hr)
    clear HFr
    by_cases hle : C.length = f.length
    · have hne : ((C.length : Int) != (f.length : Int)) = false := by simp [hle]
      rcases Bool.eq_false_or_eq_true (timeB cnt) with ht | ht
      · obtain ⟨hc1, hc2⟩ := timeB_not ht
        rcases Bool.eq_false_or_eq_true (timeB now) with ht2 | ht2
        · have HT2 := hid (fun w => timeI_is now true ht2 w)
          have hcase : (cnt == 0) = true ∧ (now != 0) = true ∨ ((cnt == 0) && (now != 0)) = false ∧ ((cnt == 0) = false ∨ ((cnt == 0) = true ∧ (now != 0) = false)) := by cases (cnt == 0) <;> cases (now != 0) <;> simp
          rcases hcase with ⟨hz1, hz2⟩ | ⟨hzz, hz⟩
          · have HVF := hid (HV.out.symm.trans (monB_zero (by rw [hz1, hz2]; rfl)))
            clear HV hr ht ht2 hle
            go_enter Tryz.func94, Tryz.ntmps94
            go_wp2_with (first | (go_at_call 67; refine HF.out.mono ?_; rintro e w1 ⟨rfl, hb1⟩; have HB1 := hid (HB0.out.trans (hb1.mono HB0.out.size)); obtain ⟨_, m0, m1, m2, m3⟩ := HX0.out.on hb1; clear hb1) | (go_at_call 92; refine (HT2.out _).mono ?_; rintro e w' ⟨rfl, rfl⟩))
            go_ret
            exact ⟨ret_bool HVF.out.symm, HB1.out⟩
          · have HVC := hid (HV.out.symm.trans (monB_cells hr hle ht ht2 hzz))
            have HLe := hid hle
            clear HV hr ht ht2 hzz hle
            rcases hz with hz | ⟨hz, hz2⟩
            all_goals
              go_enter Tryz.func94, Tryz.ntmps94
              go_wp2_with (first | (go_at_call 67; refine HF.out.mono ?_; rintro e w1 ⟨rfl, hb1⟩; have HB1 := hid (HB0.out.trans (hb1.mono HB0.out.size)); have HX1 := hid (HX0.out.on hb1); obtain ⟨_, m0, m1, m2, m3⟩ := HX1.out; clear hb1) | (go_at_call 92; refine (HT2.out _).mono ?_; rintro e w' ⟨rfl, rfl⟩))
              clear m0 m1 m2 m3
              go_loopw [45] (fun t wr => ∃ k : Nat, k ≤ f.length ∧ t = .int .i64 k ∧ cellsTo f cnt now C k = true ∧ Below w1.heap.size w1 wr) (fun t _ => f.length - (intOf t).toNat)
              case atStart => exact ⟨0, Nat.zero_le _, rfl, rfl, Below.refl _ _⟩
              case round =>
                obtain ⟨k, hk, rfl, hg, hbel⟩ := hrel
                have HG := hid hg
                have HBr := hid hbel
                have HBE := hid (HB1.out.trans (hbel.mono HB1.out.size))
                have HXr := hid (HX1.out.on hbel)
                clear hg hbel
                by_cases hlt : k < f.length
                · have HMr := hid (HM.out.on HBE.out)
                  have hltC : k < C.length := by have := HLe.out; omega
                  rcases HMr.out.cells with hz0 | ⟨cb, co, rfl, hcb, hcells⟩
                  · omega
                  obtain ⟨n0, n1, n2, n3, n4, n5⟩ := HMr.out.nodes.2 k hlt
                  have hfb := HMr.out.nodes.1
                  have HCk := hid (hcells k hltC)
                  have HSu := hid (cellsTo_succ f cnt now C k)
                  have hltk := HMr.out.lt k hltC
                  have HCF := hid (fun h => HVC.out.trans (cellsTo_false f cnt now C k f.length hlt h))
                  have HBn := hid (below_one' wr (.cells #[.int .i64 (ndAt f k).k, .int .i64 (ndAt f k).a, .int .i64 (ndAt f k).b, .int .i64 (ndAt f k).lo, .int .i64 (ndAt f k).hi, .string (ndAt f k).nm] 132))
                  have HNn := hid (NBox6.new wr (ndAt f k) 132)
                  have HXn := hid (HXr.out.on HBn.out)
                  have HCn := hid (HCk.out.below HBn.out (Nat.le_refl _) hcb)
                  clear hcells HCk
                  generalize ndAt f k = x at *
                  generalize hcc : clAt C k = c at *
                  clear hcc
                  obtain ⟨lo, hi, ts, was⟩ := c
                  obtain ⟨q0, m0, m1, m2, m3⟩ := HXr.out
                  have hltk' : ts.length ≤ 2000000 := hltk
                  clear hltk
                  go_wp2_with fail
                  clear n0 n1 n2 n3 n4 n5 m0 m1 m2 m3 q0
                  generalize wr.alloc (.cells #[.int .i64 x.k, .int .i64 x.a, .int .i64 x.b, .int .i64 x.lo, .int .i64 x.hi, .string x.nm] 132) = V at *
                  generalize wr.heap.size = qn at HNn ⊢
                  obtain ⟨y0, y1, y2, y3, y4, y5⟩ := HNn.out
                  obtain ⟨_, m0, m1, m2, m3⟩ := HXn.out
                  obtain ⟨d0, d1, d3, ta, tc, d2, _, hT⟩ := HCn.out
                  have HT := hid hT
                  have m0' := cell_regrown m0
                  have m1' := cell_regrown m1
                  have m2' := cell_regrown m2
                  have m3' := cell_regrown m3
                  have y0' := cell_regrown y0
                  have y1' := cell_regrown y1
                  have y2' := cell_regrown y2
                  have y3' := cell_regrown y3
                  have y4' := cell_regrown y4
                  have y5' := cell_regrown y5
                  have d0' := cell_regrown d0
                  have d1' := cell_regrown d1
                  have d2' := cell_regrown d2
                  have d3' := cell_regrown d3
                  simp only at d0' d1' d2' d3'
                  clear m0 m1 m2 m3 y0 y1 y2 y3 y4 y5 d0 d1 d2 d3 hT HCn HNn HXn
                  have HW1 : Hid (∀ b, wasB cnt x was = b → ∀ d os, Calls Tryz.prog 133 #[.agg #[.slice (some ⟨fb, 0, none⟩) f.length fc, .int .i64 cnt, .int .i64 now, .slice (some ⟨cb, co, none⟩) C.length cc], .agg #[.int .i64 x.k, .int .i64 x.a, .int .i64 x.b, .int .i64 x.lo, .int .i64 x.hi, .string x.nm], .bool was] (Sort.grow (redrawn V d) os) fun e w'' => e = .returned (.bool b) ∧ ∃ p : Regrown, w'' = Sort.grow (redrawn V p.d) p.os) := fun b hb d os => Calls.regrown_of (by have := wasI_is (.bool true) (some ⟨fb, 0, none⟩) f.length fc cnt now (some ⟨cb, co, none⟩) C.length cc x was b hb (Sort.grow (redrawn V d) os); rw [HU.out] at this; exact this)
                  have HK1 : Hid (∀ b, keptB cnt now x ⟨lo, hi, ts, was⟩ = b → ∀ d os, Calls Tryz.prog 134 #[.agg #[.slice (some ⟨fb, 0, none⟩) f.length fc, .int .i64 cnt, .int .i64 now, .slice (some ⟨cb, co, none⟩) C.length cc], .agg #[.int .i64 x.k, .int .i64 x.a, .int .i64 x.b, .int .i64 x.lo, .int .i64 x.hi, .string x.nm], .agg #[.int .i64 lo, .int .i64 hi, .slice ta ts.length tc]] (Sort.grow (redrawn V d) os) fun e w'' => e = .returned (.bool b) ∧ ∃ p : Regrown, w'' = Sort.grow (redrawn V p.d) p.os) := fun b hb d os => Calls.regrown_of (by have := keptI_is (some ⟨fb, 0, none⟩) f.length fc cnt now hc1 (some ⟨cb, co, none⟩) C.length cc x ⟨lo, hi, ts, was⟩ ts.length rfl ta tc hltk' b hb (Sort.grow (redrawn V d) os) (HT.out.on (below_regrown V d os)); rw [HU.out] at this; exact this)
                  rcases Bool.eq_false_or_eq_true (wasB cnt x was) with hw | hw
                  · have HW := hid (HW1.out true hw)
                    rcases Bool.eq_false_or_eq_true (keptB cnt now x ⟨lo, hi, ts, was⟩) with hk2 | hk2
                    · have HK := hid (HK1.out true hk2)
                      have HS2 : Hid (cellsTo f cnt now C (k + 1) = true) := by show cellsTo f cnt now C (k + 1) = true; rw [HSu.out, HG.out]; unfold cellB; rw [hw, hk2]; rfl
                      clear HW1 HK1 hw hk2 HSu HCF
                      refine wp_region_quiet_below (by kernel_rfl) (by kernel_rfl) ?_
                      repeat (go_big_quiet_step (first | exact HW.out _ _ | exact HK.out _ _))
                      refine wpQuiet_nil ?_
                      intro _ hw'
                      obtain ⟨⟨dq, osq⟩, hw''⟩ := hw'
                      subst hw''
                      have HB2 := hid (HBr.out.trans ((HBn.out.trans ((below_regrown V dq osq).mono HBn.out.size)).mono HBr.out.size))
                      go_wp2_with fail
                      go_roundw
                      case rel => exact ⟨k + 1, by omega, by go_num, HS2.out, HB2.out⟩
                      case measure => simp [intOf]; omega
                    · have HK := hid (HK1.out false hk2)
                      have HVF := hid (HCF.out (by unfold cellB; rw [hk2]; simp))
                      clear HW1 HK1 hw hk2 HSu HCF
                      refine wp_region_quiet_below (by kernel_rfl) (by kernel_rfl) ?_
                      repeat (go_big_quiet_step (first | exact HW.out _ _ | exact HK.out _ _))
                      refine wpQuiet_nil ?_
                      intro _ hw'
                      obtain ⟨⟨dq, osq⟩, hw''⟩ := hw'
                      subst hw''
                      have HB2 := hid (HBE.out.trans ((HBn.out.trans ((below_regrown V dq osq).mono HBn.out.size)).mono HBE.out.size))
                      go_wp2_with fail
                      go_ret
                      exact ⟨ret_bool HVF.out.symm, HB2.out⟩
                  · have HW := hid (HW1.out false hw)
                    have HVF := hid (HCF.out (by unfold cellB; rw [hw]; rfl))
                    clear HW1 HK1 hw HSu HCF
                    refine wp_region_quiet_below (by kernel_rfl) (by kernel_rfl) ?_
                    repeat (go_big_quiet_step (exact HW.out _ _))
                    refine wpQuiet_nil ?_
                    intro _ hw'
                    obtain ⟨⟨dq, osq⟩, hw''⟩ := hw'
                    subst hw''
                    have HB2 := hid (HBE.out.trans ((HBn.out.trans ((below_regrown V dq osq).mono HBn.out.size)).mono HBE.out.size))
                    go_wp2_with fail
                    go_ret
                    exact ⟨ret_bool HVF.out.symm, HB2.out⟩
                · have hk' : k = f.length := by omega
                  subst hk'
                  go_wp2_with fail
                  go_ret
                  exact ⟨ret_bool (by rw [HVC.out, HG.out]), HBE.out⟩
        · have HT2 := hid (fun w => timeI_is now false ht2 w)
          have HVF := hid (HV.out.symm.trans (monB_now ht2))
          clear HV hr ht ht2 hle
          go_enter Tryz.func94, Tryz.ntmps94
          go_wp2_with (first | (go_at_call 67; refine HF.out.mono ?_; rintro e w1 ⟨rfl, hb1⟩; have HB1 := hid (HB0.out.trans (hb1.mono HB0.out.size)); obtain ⟨_, m0, m1, m2, m3⟩ := HX0.out.on hb1; clear hb1) | (go_at_call 92; refine (HT2.out _).mono ?_; rintro e w' ⟨rfl, rfl⟩))
          go_ret
          exact ⟨ret_bool HVF.out.symm, HB1.out⟩
      · have HVF := hid (HV.out.symm.trans (monB_cnt ht))
        have htc := timeB_no ht
        clear HV hr ht hle
        rcases htc with htc | htc
        · go_enter Tryz.func94, Tryz.ntmps94
          go_wp2_with (go_at_call 67; refine HF.out.mono ?_; rintro e w1 ⟨rfl, hb1⟩; have HB1 := hid (HB0.out.trans (hb1.mono HB0.out.size)); obtain ⟨_, m0, m1, m2, m3⟩ := HX0.out.on hb1; clear hb1)
          go_ret
          exact ⟨ret_bool HVF.out.symm, HB1.out⟩
        · have htd : ¬ cnt < 0 := by omega
          go_enter Tryz.func94, Tryz.ntmps94
          go_wp2_with (go_at_call 67; refine HF.out.mono ?_; rintro e w1 ⟨rfl, hb1⟩; have HB1 := hid (HB0.out.trans (hb1.mono HB0.out.size)); obtain ⟨_, m0, m1, m2, m3⟩ := HX0.out.on hb1; clear hb1)
          go_ret
          exact ⟨ret_bool HVF.out.symm, HB1.out⟩
    · have HVF := hid (HV.out.symm.trans (monB_len hle))
      have hne : ((C.length : Int) != (f.length : Int)) = true := by simp; omega
      clear HV hr hle
      go_enter Tryz.func94, Tryz.ntmps94
      go_wp2_with (go_at_call 67; refine HF.out.mono ?_; rintro e w1 ⟨rfl, hb1⟩; have HB1 := hid (HB0.out.trans (hb1.mono HB0.out.size)); obtain ⟨_, m0, m1, m2, m3⟩ := HX0.out.on hb1; clear hb1)
      go_ret
      exact ⟨ret_bool HVF.out.symm, HB1.out⟩
  · have HF := hid (HFr.out false hr)
    have HVF := hid (HV.out.symm.trans (monB_right hr))
    clear HFr HV hr
    go_enter Tryz.func94, Tryz.ntmps94
    go_wp2_with (go_at_call 67; refine HF.out.mono ?_; rintro e w1 ⟨rfl, hb1⟩; have HB1 := hid (HB0.out.trans (hb1.mono HB0.out.size)); obtain ⟨_, m0, m1, m2, m3⟩ := HX0.out.on hb1; clear hb1)
    go_ret
    exact ⟨ret_bool HVF.out.symm, HB1.out⟩
end Go.Proofs.YtljhokoojodjnaaGreatDoor
namespace Go.Proofs.YtljhokoojodjnaaGreatDoor
open Go.RowKit
set_option linter.unusedVariables false
set_option linter.unusedSimpArgs false
/-- A row of a table: a key, and a Monitor. -/
structure Rw where
  key : ByteArray
  f : List Nd
  cnt : Int
  now : Int
  C : List Cl
def rw0 : Rw := ⟨ByteArray.empty, [], 0, 0, []⟩
def rwAt (R : List Rw) (i : Nat) : Rw := R.getD i rw0
/-- What a row is handed round as. -/
def rwV (key : ByteArray) (fa : Option Addr) (fn fc : Nat) (cnt now : Int) (ca : Option Addr) (cn cc : Nat) : Value := .agg #[.string key, .slice fa fn fc, .int .i64 cnt, .int .i64 now, .slice ca cn cc]
/-- What a Table is handed round as. -/
def tbV (fa : Option Addr) (fn fc : Nat) (cap : Int) (ra : Option Addr) (rn rc : Nat) : Value := .agg #[.slice fa fn fc, .int .i64 cap, .slice ra rn rc]
/-- A row that came in lies at a place. -/
def ArgR (w : World) (b o : Nat) (x : Rw) : Prop := w.cell? ⟨b, o, none⟩ = some (.string x.key) ∧ w.cell? ⟨b, o + 2, none⟩ = some (.int .i64 x.cnt) ∧ w.cell? ⟨b, o + 3, none⟩ = some (.int .i64 x.now) ∧ (∃ a c, w.cell? ⟨b, o + 1, none⟩ = some (.slice a x.f.length c) ∧ ArgN w a x.f) ∧ (∃ a c, w.cell? ⟨b, o + 4, none⟩ = some (.slice a x.C.length c) ∧ ArgCs w a x.C)
def ArgRs (w : World) (a : Option Addr) (R : List Rw) : Prop := R.length = 0 ∨ ∃ b off, a = some ⟨b, off, none⟩ ∧ b < w.heap.size ∧ ∀ i, i < R.length → ArgR w b (off + i * 5) (rwAt R i)
theorem ArgR.below {w w' : World} {b o : Nat} {x : Rw} {B : Nat} (h : ArgR w b o x) (hb : Below B w w') (hB : w.heap.size ≤ B) (hlt : b < w.heap.size) : ArgR w' b o x := by
  obtain ⟨h1, h2, h3, ⟨a, c, h4, h5⟩, ⟨a', c', h6, h7⟩⟩ := h
  exact ⟨(hb.cell (p := ⟨b, _, none⟩) (by show b < B; omega)).trans h1, (hb.cell (p := ⟨b, _, none⟩) (by show b < B; omega)).trans h2, (hb.cell (p := ⟨b, _, none⟩) (by show b < B; omega)).trans h3, ⟨a, c, (hb.cell (p := ⟨b, _, none⟩) (by show b < B; omega)).trans h4, h5.below hb hB⟩, ⟨a', c', (hb.cell (p := ⟨b, _, none⟩) (by show b < B; omega)).trans h6, h7.below hb hB⟩⟩
theorem ArgRs.below {w w' : World} {a : Option Addr} {R : List Rw} {B : Nat} (h : ArgRs w a R) (hb : Below B w w') (hB : w.heap.size ≤ B) : ArgRs w' a R := by
  rcases h with h | ⟨b, off, e, hlt, hc⟩
  · exact Or.inl h
  · exact Or.inr ⟨b, off, e, Nat.lt_of_lt_of_le hlt hb.size, fun i hi => (hc i hi).below hb hB hlt⟩
/-- What is asked of a row that came in. -/
structure RwOk (x : Rw) : Prop where
  key : x.key.size ≤ maxLen
  ok : ∀ i, i < x.f.length → ndOk (ndAt x.f i)
  lf : x.f.length ≤ maxLen
  cnt : -9223372036854775808 ≤ x.cnt ∧ x.cnt ≤ 9223372036854775807
  now : -9223372036854775808 ≤ x.now ∧ x.now ≤ 9223372036854775807
  cok : ∀ i, i < x.C.length → ClOk (clAt x.C i)
  lc : x.C.length ≤ maxLen
structure InRs (w : World) (a : Option Addr) (R : List Rw) : Prop where
  arg : ArgRs w a R
  ok : ∀ i, i < R.length → RwOk (rwAt R i)
  len : R.length ≤ maxLen
/-- A row is no longer, in all its parts, than a law goes. -/
structure RwSz (x : Rw) : Prop where
  f : x.f.length ≤ 1048576
  nm : ∀ i, i < x.f.length → (ndAt x.f i).nm.size ≤ 1048576
  c : x.C.length ≤ 1048576
  ts : sumT x.C x.C.length ≤ 1048576
theorem RwSz.each {x : Rw} (h : RwSz x) : ∀ i, i < x.C.length → (clAt x.C i).ts.length ≤ 1048576 := fun i hi => by have := sumT_one x.C hi; have := h.ts; omega
set_option maxRecDepth 20000 in
set_option maxHeartbeats 1000000 in
theorem szNodeS_left (f : List Nd) (a : Option Addr) (cap : Nat) (hs : ∀ i, i < f.length → (ndAt f i).nm.size ≤ maxLen) (hl : f.length ≤ maxLen) (left : Int) (hl1 : 0 ≤ left) (hl2 : left ≤ 1048576) (w : World) (hA : ArgN w a f) :
    Calls Tryz.prog 75 #[.slice a f.length cap, .int .i64 left] w fun e w' => ∃ r : Int, e = .returned (.int .i64 r) ∧ -1 ≤ r ∧ r ≤ 1048576 ∧ (0 ≤ r → f.length ≤ 1048576 ∧ ∀ i, i < f.length → (ndAt f i).nm.size ≤ 1048576) ∧ Below w.heap.size w w' := by
  unfold maxLen at hl
  have HS := hid hs
  have HA := hid hA
  clear hs hA
  by_cases h : left - (f.length : Int) < 0
  · go_enter Tryz.func75, Tryz.ntmps75
    go_wp2
    go_ret
    exact ⟨-1, rfl, by omega, by omega, by omega, Below.refl _ _⟩
  go_enter Tryz.func75, Tryz.ntmps75
  go_wp2_with fail
  go_loopw [1, 5] (fun l t wr => ∃ (k : Nat) (r : Int), k ≤ f.length ∧ t = .int .i64 k ∧ l = .int .i64 r ∧ 0 ≤ r ∧ r ≤ 1048576 ∧ (∀ i, i < k → (ndAt f i).nm.size ≤ 1048576) ∧ Below w.heap.size w wr) (fun _ t _ => f.length - (intOf t).toNat)
  case atStart => exact ⟨0, _, Nat.zero_le _, rfl, rfl, by omega, by omega, fun i h => by omega, Below.refl _ _⟩
  case round =>
    obtain ⟨k, r, hk, rfl, rfl, hr1, hr2, hsz, hbel⟩ := hrel
    have HZ := hid hsz
    have HB := hid hbel
    clear hsz hbel
    by_cases hlt : k < f.length
    · rcases HA.out with h0 | ⟨b, off, rfl, hb, hc⟩
      · omega
      · obtain ⟨c0, c1, c2, c3, c4, c5⟩ := (hc k hlt).below HB.out hb
        clear hc
        have HX := hid (HS.out k hlt)
        have HC := hid (fun w => szNode_any (ndAt f k) HX.out r hr1 hr2 w)
        have hle : f.length ≤ 1048576 := by omega
        clear h
        go_wp2_with (go_at_call 120; refine (HC.out _).mono ?_; rintro e w1 ⟨r', rfl, q1, q2, q3, hb1⟩; have HB1 : Hid (Below w.heap.size w w1) := HB.out.trans (hb1.mono HB.out.size); have HQ := hid q3; clear q3 hb1)
        · go_ret
          exact ⟨-1, rfl, by omega, by omega, by omega, HB1.out⟩
        · go_roundw
          case rel => exact ⟨k + 1, r', by omega, by go_num, rfl, by omega, q2, fun i hi => by
            by_cases e : i = k
            · subst e; exact HQ.out (by omega)
            · exact HZ.out i (by omega), HB1.out⟩
          case measure => simp [intOf]; omega
    · go_wp2_with fail
      go_ret
      exact ⟨r, rfl, by omega, by omega, fun _ => ⟨by omega, fun i hi => HZ.out i (by omega)⟩, HB.out⟩
set_option maxRecDepth 20000 in
set_option maxHeartbeats 2000000 in
theorem szMon_left (x : Rw) (ho : RwOk x) (fa : Option Addr) (fc : Nat) (ca : Option Addr) (cc : Nat) (left : Int) (hl1 : 0 ≤ left) (hl2 : left ≤ 1048576) (w : World) (hF : ArgN w fa x.f) (hC : ArgCs w ca x.C) :
    Calls Tryz.prog 154 #[moV fa x.f.length fc x.cnt x.now ca x.C.length cc, .int .i64 left] w fun e w' => ∃ r : Int, e = .returned (.int .i64 r) ∧ -1 ≤ r ∧ r ≤ 1048576 ∧ (0 ≤ r → RwSz x) ∧ Below w.heap.size w w' := by
  unfold moV
  have HB0 := hid (below_one' w (.cells #[.slice fa x.f.length fc, .int .i64 x.cnt, .int .i64 x.now, .slice ca x.C.length cc] 161))
  have HX := hid (MBox.new w fa x.f.length fc x.cnt x.now ca x.C.length cc 161)
  have HN := hid (fun w h => szNodeS_left x.f fa fc (fun i hi => (ho.ok i hi).nm) ho.lf left hl1 hl2 w h)
  have HCS := hid (fun r h1 h2 w h => szCellS_any x.C ca cc ho.cok ho.lc r h1 h2 w h)
  have HF := hid hF
  have HCa := hid hC
  clear hF hC ho
  go_enter Tryz.func154, Tryz.ntmps154
  go_wp2_with (first | (go_at_call 75; refine (HN.out _ (HF.out.below HB0.out (Nat.le_refl _))).mono ?_; rintro e w1 ⟨r, rfl, q1, q2, q3, hb⟩; have HQ := hid q3; have HB1 := hid (HB0.out.trans (hb.mono (by simp))); obtain ⟨_, m0, m1, m2, m3⟩ := HX.out.on hb; clear q3 hb) | (go_at_call 179; refine (HCS.out r (by omega) (by omega) _ (HCa.out.below HB1.out (Nat.le_refl _))).mono ?_; rintro e w2 ⟨r2, rfl, p1, p2, p3, hb2⟩; have HP := hid p3; have HB2 := hid (HB1.out.trans (hb2.mono HB1.out.size)); clear p3 hb2))
  · go_ret
    exact ⟨-1, rfl, by omega, by omega, by omega, HB1.out⟩
  · go_ret
    exact ⟨-1, rfl, by omega, by omega, by omega, HB2.out⟩
  · go_ret
    exact ⟨r2, rfl, by omega, by omega, fun h => ⟨(HQ.out (by omega)).1, (HQ.out (by omega)).2, (HP.out h).1, (HP.out h).2⟩, HB2.out⟩
/-- The box of a row. -/
structure RBox (W : World) (q : Nat) (key : ByteArray) (fa : Option Addr) (fn fc : Nat) (cnt now : Int) (ca : Option Addr) (cn cc : Nat) : Prop where
  lt : q < W.heap.size
  r0 : W.cell? ⟨q, 0, none⟩ = some (.string key)
  r1 : W.cell? ⟨q, 1, none⟩ = some (.slice fa fn fc)
  r2 : W.cell? ⟨q, 2, none⟩ = some (.int .i64 cnt)
  r3 : W.cell? ⟨q, 3, none⟩ = some (.int .i64 now)
  r4 : W.cell? ⟨q, 4, none⟩ = some (.slice ca cn cc)
theorem RBox.new (w : World) (key : ByteArray) (fa : Option Addr) (fn fc : Nat) (cnt now : Int) (ca : Option Addr) (cn cc : Nat) (t : TypeId) : RBox (w.alloc (.cells #[.string key, .slice fa fn fc, .int .i64 cnt, .int .i64 now, .slice ca cn cc] t)) w.heap.size key fa fn fc cnt now ca cn cc :=
  ⟨by simp, by simp [go_sem], by simp [go_sem], by simp [go_sem], by simp [go_sem], by simp [go_sem]⟩
theorem RBox.save {W W' : World} {q : Nat} {key : ByteArray} {fa : Option Addr} {fn fc : Nat} {cnt now : Int} {ca : Option Addr} {cn cc : Nat} {S : Nat → Prop} (h : RBox W q key fa fn fc cnt now ca cn cc) (hs : Save W W' S) (h1 : ¬ S q) : RBox W' q key fa fn fc cnt now ca cn cc :=
  ⟨Nat.lt_of_lt_of_le h.lt hs.size, (hs.cell (p := ⟨q, _, none⟩) h.lt h1).trans h.r0, (hs.cell (p := ⟨q, _, none⟩) h.lt h1).trans h.r1, (hs.cell (p := ⟨q, _, none⟩) h.lt h1).trans h.r2, (hs.cell (p := ⟨q, _, none⟩) h.lt h1).trans h.r3, (hs.cell (p := ⟨q, _, none⟩) h.lt h1).trans h.r4⟩
theorem RBox.on {W W' : World} {q : Nat} {key : ByteArray} {fa : Option Addr} {fn fc : Nat} {cnt now : Int} {ca : Option Addr} {cn cc : Nat} (h : RBox W q key fa fn fc cnt now ca cn cc) (hb : Below W.heap.size W W') : RBox W' q key fa fn fc cnt now ca cn cc :=
  h.save (S := fun _ => False) (Save.of_below hb _ (fun j h1 h2 => absurd h1 (by omega))) (fun h => h)
structure RFree (W : World) (q : Nat) : Prop where
  g0 : W.frozen? ⟨q, 0, none⟩ = false
  g1 : W.frozen? ⟨q, 1, none⟩ = false
  g2 : W.frozen? ⟨q, 2, none⟩ = false
  g3 : W.frozen? ⟨q, 3, none⟩ = false
  g4 : W.frozen? ⟨q, 4, none⟩ = false
theorem RFree.on {W W' : World} {q : Nat} (h : RFree W q) (hb : Below W.heap.size W W') (hq : q < W.heap.size) : RFree W' q :=
  ⟨(hb.frozen (p := ⟨q, _, none⟩) hq).trans h.g0, (hb.frozen (p := ⟨q, _, none⟩) hq).trans h.g1, (hb.frozen (p := ⟨q, _, none⟩) hq).trans h.g2, (hb.frozen (p := ⟨q, _, none⟩) hq).trans h.g3, (hb.frozen (p := ⟨q, _, none⟩) hq).trans h.g4⟩
theorem RFree.new (w : World) (x y z u v : Value) (t : TypeId) : RFree (w.alloc (.cells #[x, y, z, u, v] t)) w.heap.size :=
  ⟨by simp [go_sem], by simp [go_sem], by simp [go_sem], by simp [go_sem], by simp [go_sem]⟩
set_option maxRecDepth 20000 in
set_option maxHeartbeats 2000000 in
theorem szRow_any (x : Rw) (ho : RwOk x) (fa : Option Addr) (fc : Nat) (ca : Option Addr) (cc : Nat) (left : Int) (hl1 : 0 ≤ left) (hl2 : left ≤ 1048576) (w : World) (hF : ArgN w fa x.f) (hC : ArgCs w ca x.C) :
    Calls Tryz.prog 121 #[rwV x.key fa x.f.length fc x.cnt x.now ca x.C.length cc, .int .i64 left] w fun e w' => ∃ r : Int, e = .returned (.int .i64 r) ∧ -1 ≤ r ∧ r ≤ 1048576 ∧ (0 ≤ r → RwSz x) ∧ Below w.heap.size w w' := by
  have HB0 := hid (below_one' w (.cells #[.string x.key, .slice fa x.f.length fc, .int .i64 x.cnt, .int .i64 x.now, .slice ca x.C.length cc] 163))
  have HM := hid (fun l h1 h2 w hf hc => szMon_left x ho fa fc ca cc l h1 h2 w hf hc)
  unfold moV at HM
  unfold rwV
  have HF := hid hF
  have HCa := hid hC
  have hk := ho.key
  have hkl : (x.key.size : Int) = (x.key.toList.length : Int) ∨ True := Or.inr trivial
  unfold maxLen at hk
  clear hF hC ho hkl
  by_cases h : left - (x.key.size : Int) < 0
  · go_enter Tryz.func121, Tryz.ntmps121
    go_wp2_with fail
    go_ret
    exact ⟨-1, rfl, by omega, by omega, by omega, HB0.out⟩
  go_enter Tryz.func121, Tryz.ntmps121
  go_wp2_with (go_at_call 154; refine (HM.out (left - (x.key.size : Int)) (by omega) (by omega) _ (HF.out.below HB0.out (Nat.le_refl _)) (HCa.out.below HB0.out (Nat.le_refl _))).mono ?_; rintro e w1 ⟨r, rfl, q1, q2, q3, hb⟩; have HQ := hid q3; have HB1 := hid (HB0.out.trans (hb.mono (by simp))); clear q3 hb)
  · go_ret
    exact ⟨-1, rfl, by omega, by omega, by omega, HB1.out⟩
  · go_ret
    exact ⟨r, rfl, by omega, by omega, HQ.out, HB1.out⟩
set_option maxRecDepth 20000 in
set_option maxHeartbeats 1000000 in
theorem szRowS_any (R : List Rw) (a : Option Addr) (cap : Nat) (hs : ∀ i, i < R.length → RwOk (rwAt R i)) (hl : R.length ≤ maxLen) (left : Int) (h1 : 0 ≤ left) (h2 : left ≤ 1048576) (w : World) (hA : ArgRs w a R) :
    Calls Tryz.prog 76 #[.slice a R.length cap, .int .i64 left] w fun e w' => ∃ r : Int, e = .returned (.int .i64 r) ∧ -1 ≤ r ∧ r ≤ 1048576 ∧ (0 ≤ r → R.length ≤ 1048576 ∧ ∀ i, i < R.length → RwSz (rwAt R i)) ∧ Below w.heap.size w w' := by
  unfold maxLen at hl
  have HS := hid hs
  have HA := hid hA
  have HU : Hid (∀ key fa fn fc cnt now ca cn cc, rwV key fa fn fc cnt now ca cn cc = .agg #[.string key, .slice fa fn fc, .int .i64 cnt, .int .i64 now, .slice ca cn cc]) := fun _ _ _ _ _ _ _ _ _ => rfl
  clear hs hA
  by_cases h : left - (R.length : Int) < 0
  · go_enter Tryz.func76, Tryz.ntmps76
    go_wp2
    go_ret
    exact ⟨-1, rfl, by omega, by omega, by omega, Below.refl _ _⟩
  go_enter Tryz.func76, Tryz.ntmps76
  go_wp2_with fail
  go_loopw [1, 5] (fun l t wr => ∃ (k : Nat) (r : Int), k ≤ R.length ∧ t = .int .i64 k ∧ l = .int .i64 r ∧ 0 ≤ r ∧ r ≤ 1048576 ∧ (∀ i, i < k → RwSz (rwAt R i)) ∧ Below w.heap.size w wr) (fun _ t _ => R.length - (intOf t).toNat)
  case atStart => exact ⟨0, _, Nat.zero_le _, rfl, rfl, by omega, by omega, fun i hi => by omega, Below.refl _ _⟩
  case round =>
    obtain ⟨k, r, hk, rfl, rfl, hr1, hr2, hr3, hbel⟩ := hrel
    have HB := hid hbel
    have HR3 := hid hr3
    clear hbel hr3
    by_cases hlt : k < R.length
    · rcases HA.out with h0 | ⟨b, off, rfl, hb, hc⟩
      · omega
      · obtain ⟨c0, c2, c3, ⟨fa, fc, c1, hF⟩, ⟨ca, cc, c4, hC⟩⟩ := (hc k hlt).below HB.out (Nat.le_refl _) hb
        have HC := hid (szRow_any (rwAt R k) (HS.out k hlt) fa fc ca cc r hr1 hr2 wr hF hC)
        rw [HU.out] at HC
        clear hc h hF hC
        go_wp2_with (go_at_call 121; refine HC.out.mono ?_; rintro e w1 ⟨r', rfl, q1, q2, q3, hb1⟩; have HB1 : Hid (Below w.heap.size w w1) := HB.out.trans (hb1.mono HB.out.size); have HQ := hid q3; clear q3 hb1)
        · go_ret
          exact ⟨-1, rfl, by omega, by omega, by omega, HB1.out⟩
        · go_roundw
          case rel => exact ⟨k + 1, r', by omega, by go_num, rfl, by omega, q2, fun i hi => by
            by_cases e : i = k
            · subst e; exact HQ.out (by omega)
            · exact HR3.out i (by omega), HB1.out⟩
          case measure => simp [intOf]; omega
    · go_wp2_with fail
      go_ret
      have hk' : k = R.length := by omega
      exact ⟨r, rfl, by omega, by omega, fun _ => ⟨by omega, fun i hi => HR3.out i (by omega)⟩, HB.out⟩
/-- The box of a Table. -/
structure TBox (W : World) (q : Nat) (fa : Option Addr) (fn fc : Nat) (cap : Int) (ra : Option Addr) (rn rc : Nat) : Prop where
  lt : q < W.heap.size
  t0 : W.cell? ⟨q, 0, none⟩ = some (.slice fa fn fc)
  t1 : W.cell? ⟨q, 1, none⟩ = some (.int .i64 cap)
  t2 : W.cell? ⟨q, 2, none⟩ = some (.slice ra rn rc)
theorem TBox.new (w : World) (fa : Option Addr) (fn fc : Nat) (cap : Int) (ra : Option Addr) (rn rc : Nat) (t : TypeId) : TBox (w.alloc (.cells #[.slice fa fn fc, .int .i64 cap, .slice ra rn rc] t)) w.heap.size fa fn fc cap ra rn rc :=
  ⟨by simp, by simp [go_sem], by simp [go_sem], by simp [go_sem]⟩
theorem TBox.save {W W' : World} {q : Nat} {fa : Option Addr} {fn fc : Nat} {cap : Int} {ra : Option Addr} {rn rc : Nat} {S : Nat → Prop} (h : TBox W q fa fn fc cap ra rn rc) (hs : Save W W' S) (h1 : ¬ S q) : TBox W' q fa fn fc cap ra rn rc :=
  ⟨Nat.lt_of_lt_of_le h.lt hs.size, (hs.cell (p := ⟨q, _, none⟩) h.lt h1).trans h.t0, (hs.cell (p := ⟨q, _, none⟩) h.lt h1).trans h.t1, (hs.cell (p := ⟨q, _, none⟩) h.lt h1).trans h.t2⟩
theorem TBox.on {W W' : World} {q : Nat} {fa : Option Addr} {fn fc : Nat} {cap : Int} {ra : Option Addr} {rn rc : Nat} (h : TBox W q fa fn fc cap ra rn rc) (hb : Below W.heap.size W W') : TBox W' q fa fn fc cap ra rn rc :=
  h.save (S := fun _ => False) (Save.of_below hb _ (fun j h1 h2 => absurd h1 (by omega))) (fun h => h)
structure TFree (W : World) (q : Nat) : Prop where
  g0 : W.frozen? ⟨q, 0, none⟩ = false
  g1 : W.frozen? ⟨q, 1, none⟩ = false
  g2 : W.frozen? ⟨q, 2, none⟩ = false
theorem TFree.save {W W' : World} {q : Nat} {S : Nat → Prop} (h : TFree W q) (hs : Save W W' S) (hq : q < W.heap.size) (h1 : ¬ S q) : TFree W' q :=
  ⟨(hs.frozen (p := ⟨q, _, none⟩) hq h1).trans h.g0, (hs.frozen (p := ⟨q, _, none⟩) hq h1).trans h.g1, (hs.frozen (p := ⟨q, _, none⟩) hq h1).trans h.g2⟩
theorem TFree.on {W W' : World} {q : Nat} (h : TFree W q) (hb : Below W.heap.size W W') (hq : q < W.heap.size) : TFree W' q :=
  h.save (S := fun _ => False) (Save.of_below hb _ (fun j h1 h2 => absurd h1 (by omega))) hq (fun h => h)
theorem TFree.new (w : World) (x y z : Value) (t : TypeId) : TFree (w.alloc (.cells #[x, y, z] t)) w.heap.size :=
  ⟨by simp [go_sem], by simp [go_sem], by simp [go_sem]⟩
/-- What is asked of a Table that came in. -/
structure InT (w : World) (fa : Option Addr) (fc : Nat) (f : List Nd) (ra : Option Addr) (R : List Rw) : Prop where
  f : InN w fa fc f
  r : InRs w ra R
/-- A table is no longer, in all its parts, than a law goes. -/
structure TbSz (f : List Nd) (R : List Rw) : Prop where
  fl : f.length ≤ 1048576
  nm : ∀ i, i < f.length → (ndAt f i).nm.size ≤ 1048576
  r : R.length ≤ 1048576
  rw' : ∀ i, i < R.length → RwSz (rwAt R i)
set_option maxRecDepth 20000 in
set_option maxHeartbeats 2000000 in
theorem szTab_any (f : List Nd) (fa : Option Addr) (fc : Nat) (cap : Int) (R : List Rw) (ra : Option Addr) (rc : Nat) (w : World) (hT : InT w fa fc f ra R) :
    Calls Tryz.prog 24 #[tbV fa f.length fc cap ra R.length rc, .int .i64 1048576] w fun e w' => ∃ r : Int, e = .returned (.int .i64 r) ∧ -1 ≤ r ∧ r ≤ 1048576 ∧ (0 ≤ r → TbSz f R) ∧ Below w.heap.size w w' := by
  unfold tbV
  have HB0 := hid (below_one' w (.cells #[.slice fa f.length fc, .int .i64 cap, .slice ra R.length rc] 59))
  have HX := hid (TBox.new w fa f.length fc cap ra R.length rc 59)
  have HN := hid (fun w h => szNodeS_left f fa fc (fun i hi => (hT.f.ok i hi).nm) hT.f.len 1048576 (by omega) (by omega) w h)
  have HRS := hid (fun r h1 h2 w h => szRowS_any R ra rc hT.r.ok hT.r.len r h1 h2 w h)
  have HT := hid hT
  clear hT
  go_enter Tryz.func24, Tryz.ntmps24
  go_wp2_with (first | (go_at_call 75; refine (HN.out _ (HT.out.f.arg.below HB0.out (Nat.le_refl _))).mono ?_; rintro e w1 ⟨r, rfl, q1, q2, q3, hb⟩; have HQ := hid q3; have HB1 := hid (HB0.out.trans (hb.mono (by simp))); obtain ⟨_, m0, m1, m2⟩ := HX.out.on hb; clear q3 hb) | (go_at_call 76; refine (HRS.out r (by omega) (by omega) _ (HT.out.r.arg.below HB1.out (Nat.le_refl _))).mono ?_; rintro e w2 ⟨r2, rfl, p1, p2, p3, hb2⟩; have HP := hid p3; have HB2 := hid (HB1.out.trans (hb2.mono HB1.out.size)); clear p3 hb2))
  · go_ret
    exact ⟨-1, rfl, by omega, by omega, by omega, HB1.out⟩
  · go_ret
    exact ⟨-1, rfl, by omega, by omega, by omega, HB2.out⟩
  · go_ret
    exact ⟨r2, rfl, by omega, by omega, fun h => ⟨(HQ.out (by omega)).1, (HQ.out (by omega)).2, (HP.out h).1, (HP.out h).2⟩, HB2.out⟩
end Go.Proofs.YtljhokoojodjnaaGreatDoor
namespace Go.Proofs.YtljhokoojodjnaaGreatDoor
open Go.RowKit
set_option linter.unusedVariables false
set_option linter.unusedSimpArgs false
theorem rset4 (w : World) (q : Nat) (x y z u : Value) : Save w ((((w.setCell ⟨q, 1, none⟩ x).setCell ⟨q, 2, none⟩ y).setCell ⟨q, 3, none⟩ z).setCell ⟨q, 4, none⟩ u) (fun j => j = q) :=
  Save.setCell (S := fun j => j = q) (Save.setCell (S := fun j => j = q) (Save.setCell (S := fun j => j = q) (Save.setCell (S := fun j => j = q) (Save.refl w _) (p := ⟨q, 1, none⟩) (fun _ => rfl) _) (p := ⟨q, 2, none⟩) (fun _ => rfl) _) (p := ⟨q, 3, none⟩) (fun _ => rfl) _) (p := ⟨q, 4, none⟩) (fun _ => rfl) _
theorem rset5 (w : World) (q : Nat) (v x y z u : Value) : Save w (((((w.setCell ⟨q, 0, none⟩ v).setCell ⟨q, 1, none⟩ x).setCell ⟨q, 2, none⟩ y).setCell ⟨q, 3, none⟩ z).setCell ⟨q, 4, none⟩ u) (fun j => j = q) :=
  Save.setCell (S := fun j => j = q) (gset4 w q v x y z) (p := ⟨q, 4, none⟩) (fun _ => rfl) _
theorem kset5 (w : World) (q k : Nat) (v x y z u : Value) : Save w (((((w.setCell ⟨q, k, none⟩ v).setCell ⟨q, k + 1, none⟩ x).setCell ⟨q, k + 2, none⟩ y).setCell ⟨q, k + 3, none⟩ z).setCell ⟨q, k + 4, none⟩ u) (fun j => j = q) :=
  Save.setCell (S := fun j => j = q) (Save.setCell (S := fun j => j = q) (Save.setCell (S := fun j => j = q) (Save.setCell (S := fun j => j = q) (Save.setCell (S := fun j => j = q) (Save.refl w _) (p := ⟨q, k, none⟩) (fun _ => rfl) _) (p := ⟨q, k + 1, none⟩) (fun _ => rfl) _) (p := ⟨q, k + 2, none⟩) (fun _ => rfl) _) (p := ⟨q, k + 3, none⟩) (fun _ => rfl) _) (p := ⟨q, k + 4, none⟩) (fun _ => rfl) _
theorem Below.set_at {B : Nat} {w w' : World} (h : Below B w w') (q o : Nat) (v : Value) (hq : B ≤ q) : Below B w (w'.setCell ⟨q, o, none⟩ v) := h.setCell (p := ⟨q, o, none⟩) hq v
set_option maxRecDepth 20000 in
set_option maxHeartbeats 2000000 in
theorem toRow_any (x : Rw) (hz : RwSz x) (fa : Option Addr) (fc : Nat) (ca : Option Addr) (cc : Nat) (w : World) (hF : ArgN w fa x.f) (hC : ArgCs w ca x.C) :
    Calls Tryz.prog 123 #[rwV x.key fa x.f.length fc x.cnt x.now ca x.C.length cc] w fun e w' => ∃ b c A z, e = .returned (rwV x.key (some ⟨b, 0, none⟩) x.f.length x.f.length x.cnt x.now (some ⟨c, 0, none⟩) x.C.length x.C.length) ∧ w.heap.size ≤ b ∧ b < c ∧ NodesAt w' b x.f ∧ (∃ zn, w'.rowIs b 132 (x.f.length * 6) zn) ∧ CkRow w' c x.C A z x.C.length ∧ Below w.heap.size w w' := by
  have HM := hid (fun w h1 h2 => toMon_any x.f fa fc x.cnt x.now x.C ca cc hz.f hz.c hz.each w h1 h2)
  unfold moV at HM
  unfold rwV
  have HF := hid hF
  have HCa := hid hC
  have HB0 := hid ((((Below.refl w.heap.size w).alloc (Nat.le_refl _) (.cells #[.string x.key, .slice fa x.f.length fc, .int .i64 x.cnt, .int .i64 x.now, .slice ca x.C.length cc] 163)).alloc (by simp) (.cells #[.string ⟨#[]⟩, .slice none 0 0, .int .i64 0, .int .i64 0, .slice none 0 0] 52)).alloc (by simp; omega) (.cells #[.string x.key, .slice none 0 0, .int .i64 0, .int .i64 0, .slice none 0 0] 52))
  clear hF hC hz
  go_enter Tryz.func123, Tryz.ntmps123
  go_wp2_with (go_at_call 155; refine (HM.out _ (HF.out.below HB0.out (Nat.le_refl _)) (HCa.out.below HB0.out (Nat.le_refl _))).mono ?_; rintro e w1 ⟨b1, c1, A1, z1, rfl, hb1, hbc1, hn1, hr1, hck1, hbl1⟩; have HN := hid hn1; have HR := hid hr1; have HCk := hid hck1; have HB := hid (HB0.out.trans (hbl1.mono (by simp; omega))); obtain ⟨hc, hf⟩ := bcell hbl1; have hz : w.heap.size + 3 ≤ w1.heap.size := (by have := hbl1.size; simp at this; omega); have hb1' : w.heap.size + 3 ≤ b1 := (by simp at hb1; omega); clear hbl1 hn1 hr1 hck1 hb1)
  refine bodyPost_ret (v := .agg #[.string x.key, .slice (some ⟨b1, 0, none⟩) x.f.length x.f.length, .int .i64 x.cnt, .int .i64 x.now, .slice (some ⟨c1, 0, none⟩) x.C.length x.C.length]) (by simp [results, Tryz.results123, go_sem, hc, hf, hz]) rfl ?_
  have s4 := rset4 w1 (w.heap.size + 2) (.slice (some ⟨b1, 0, none⟩) x.f.length x.f.length) (.int .i64 x.cnt) (.int .i64 x.now) (.slice (some ⟨c1, 0, none⟩) x.C.length x.C.length)
  have s5 := rset5 ((((w1.setCell ⟨w.heap.size + 2, 1, none⟩ (.slice (some ⟨b1, 0, none⟩) x.f.length x.f.length)).setCell ⟨w.heap.size + 2, 2, none⟩ (.int .i64 x.cnt)).setCell ⟨w.heap.size + 2, 3, none⟩ (.int .i64 x.now)).setCell ⟨w.heap.size + 2, 4, none⟩ (.slice (some ⟨c1, 0, none⟩) x.C.length x.C.length)) (w.heap.size + 1) (.string x.key) (.slice (some ⟨b1, 0, none⟩) x.f.length x.f.length) (.int .i64 x.cnt) (.int .i64 x.now) (.slice (some ⟨c1, 0, none⟩) x.C.length x.C.length)
  refine ⟨b1, c1, A1, z1, rfl, by omega, hbc1, ?_, ?_, ?_, ?_⟩
  · exact s5.nodes (s4.nodes HN.out (by omega)) (by omega)
  · obtain ⟨zn, hr⟩ := HR.out
    have r1 := hr.of_block (s4.block b1 hr.lt (by omega))
    exact ⟨zn, r1.of_block (s5.block b1 r1.lt (by omega))⟩
  · exact (HCk.out.save s4 (by omega) (fun i hi => by have := HCk.out.above i hi; omega)).save s5 (by omega) (fun i hi => by have := HCk.out.above i hi; omega)
  · have b3 := HB.out.trans (s4.below (B := w.heap.size) HB.out.size (fun j h => by omega))
    exact b3.trans (s5.below (B := w.heap.size) b3.size (fun j h => by omega))
/-- Cell j of a row of rows of which the first k are laid. -/
def rowR (R : List Rw) (V U : Nat → Value) (z : Nat → Value) (k j : Nat) : Value := if j < k * 5 then (if j % 5 = 0 then .string (rwAt R (j / 5)).key else if j % 5 = 1 then V (j / 5) else if j % 5 = 2 then .int .i64 (rwAt R (j / 5)).cnt else if j % 5 = 3 then .int .i64 (rwAt R (j / 5)).now else U (j / 5)) else z j
theorem rowR_step (R : List Rw) (V U : Nat → Value) (z : Nat → Value) (k j : Nat) (v u : Value) : rowR R (fun i => if i = k then v else V i) (fun i => if i = k then u else U i) z (k + 1) j = if j = k * 5 + 4 then u else if j = k * 5 + 3 then .int .i64 (rwAt R k).now else if j = k * 5 + 2 then .int .i64 (rwAt R k).cnt else if j = k * 5 + 1 then v else if j = k * 5 then .string (rwAt R k).key else rowR R V U z k j := by
  unfold rowR
  by_cases h : j < k * 5
  · have e4 : ¬ j = k * 5 + 4 := by omega
    have e3 : ¬ j = k * 5 + 3 := by omega
    have e2 : ¬ j = k * 5 + 2 := by omega
    have e1 : ¬ j = k * 5 + 1 := by omega
    have e0 : ¬ j = k * 5 := by omega
    have h' : j < (k + 1) * 5 := by omega
    have hd : ¬ j / 5 = k := by omega
    simp only [e4, e3, e2, e1, e0, h, h', hd, if_true, if_false]
  · by_cases h' : j < (k + 1) * 5
    · have hd : j / 5 = k := by omega
      have hj : j = k * 5 ∨ j = k * 5 + 1 ∨ j = k * 5 + 2 ∨ j = k * 5 + 3 ∨ j = k * 5 + 4 := by omega
      rcases hj with e | e | e | e | e
      · have hm : j % 5 = 0 := by omega
        rw [if_pos h', if_pos hm, if_neg (by omega), if_neg (by omega), if_neg (by omega), if_neg (by omega), if_pos e, hd]
      · have hm : j % 5 = 1 := by omega
        rw [if_pos h', if_neg (by omega), if_pos hm, if_neg (by omega), if_neg (by omega), if_neg (by omega), if_pos e]
        simp [hd]
      · have hm : j % 5 = 2 := by omega
        rw [if_pos h', if_neg (by omega), if_neg (by omega), if_pos hm, if_neg (by omega), if_neg (by omega), if_pos e, hd]
      · have hm : j % 5 = 3 := by omega
        rw [if_pos h', if_neg (by omega), if_neg (by omega), if_neg (by omega), if_pos hm, if_neg (by omega), if_pos e, hd]
      · have hm : j % 5 = 4 := by omega
        rw [if_pos h', if_neg (by omega), if_neg (by omega), if_neg (by omega), if_neg (by omega), if_pos e]
        simp [hd]
    · rw [if_neg h', if_neg (by omega), if_neg (by omega), if_neg (by omega), if_neg (by omega), if_neg (by omega), if_neg h]
def fmV (A : Nat → Nat) (R : List Rw) (i : Nat) : Value := .slice (some ⟨A i, 0, none⟩) (rwAt R i).f.length (rwAt R i).f.length
def clV (B : Nat → Nat) (R : List Rw) (i : Nat) : Value := .slice (some ⟨B i, 0, none⟩) (rwAt R i).C.length (rwAt R i).C.length
/-- A row of rows that is wholly owned: k of them are laid, the formula, the cells and the times of each in blocks of their own behind. -/
structure RwRow (w : World) (b : Nat) (R : List Rw) (A B : Nat → Nat) (T : Nat → Nat → Nat) (Z : Nat → Nat → Value) (z : Nat → Value) (k : Nat) : Prop where
  row : w.rowIs b 52 (R.length * 5) (rowR R (fmV A R) (clV B R) z k)
  nodes : ∀ i, i < k → NodesAt w (A i) (rwAt R i).f
  frow : ∀ i, i < k → ∃ zn, w.rowIs (A i) 132 ((rwAt R i).f.length * 6) zn
  cells : ∀ i, i < k → CkRow w (B i) (rwAt R i).C (T i) (Z i) (rwAt R i).C.length
  above : ∀ i, i < k → b < A i ∧ A i < B i
  rising : ∀ i j, i < j → j < k → B i < A j ∧ ∀ m, m < (rwAt R i).C.length → T i m < A j
/-- A row that the program has. -/
def RwAt (w : World) (b o : Nat) (x : Rw) : Prop := w.cell? ⟨b, o, none⟩ = some (.string x.key) ∧ w.cell? ⟨b, o + 2, none⟩ = some (.int .i64 x.cnt) ∧ w.cell? ⟨b, o + 3, none⟩ = some (.int .i64 x.now) ∧ (∃ fb c, w.cell? ⟨b, o + 1, none⟩ = some (.slice (some ⟨fb, 0, none⟩) x.f.length c) ∧ NodesAt w fb x.f) ∧ (∃ a c, w.cell? ⟨b, o + 4, none⟩ = some (.slice a x.C.length c) ∧ CksAt w a x.C)
def RsAt (w : World) (a : Option Addr) (R : List Rw) : Prop := R.length = 0 ∨ ∃ b off, a = some ⟨b, off, none⟩ ∧ b < w.heap.size ∧ ∀ i, i < R.length → RwAt w b (off + i * 5) (rwAt R i)
theorem RwAt.below {w w' : World} {b o : Nat} {x : Rw} (h : RwAt w b o x) (hb : Below w.heap.size w w') (hlt : b < w.heap.size) : RwAt w' b o x := by
  obtain ⟨h1, h2, h3, ⟨a, c, h4, h5⟩, ⟨a', c', h6, h7⟩⟩ := h
  exact ⟨(hb.cell (p := ⟨b, _, none⟩) hlt).trans h1, (hb.cell (p := ⟨b, _, none⟩) hlt).trans h2, (hb.cell (p := ⟨b, _, none⟩) hlt).trans h3, ⟨a, c, (hb.cell (p := ⟨b, _, none⟩) hlt).trans h4, h5.below hb h5.1⟩, ⟨a', c', (hb.cell (p := ⟨b, _, none⟩) hlt).trans h6, h7.on hb⟩⟩
theorem RsAt.on {w w' : World} {a : Option Addr} {R : List Rw} (h : RsAt w a R) (hb : Below w.heap.size w w') : RsAt w' a R := by
  rcases h with h | ⟨b, off, e, hlt, hc⟩
  · exact Or.inl h
  · exact Or.inr ⟨b, off, e, Nat.lt_of_lt_of_le hlt hb.size, fun i hi => (hc i hi).below hb hlt⟩
theorem RwRow.at {w : World} {b : Nat} {R : List Rw} {A B : Nat → Nat} {T : Nat → Nat → Nat} {Z : Nat → Nat → Value} {z : Nat → Value} (h : RwRow w b R A B T Z z R.length) (hz : ∀ i, i < R.length → RwSz (rwAt R i)) : RsAt w (some ⟨b, 0, none⟩) R := by
  refine Or.inr ⟨b, 0, rfl, h.row.lt, fun i hi => ⟨?_, ?_, ?_, ⟨A i, (rwAt R i).f.length, ?_, h.nodes i hi⟩, ⟨some ⟨B i, 0, none⟩, (rwAt R i).C.length, ?_, (h.cells i hi).at (hz i hi).each⟩⟩⟩
  · rw [show 0 + i * 5 = i * 5 by omega, h.row.cell (by omega)]
    unfold rowR
    rw [if_pos (by omega), if_pos (by omega), show i * 5 / 5 = i by omega]
  · rw [show 0 + i * 5 + 2 = i * 5 + 2 by omega, h.row.cell (by omega)]
    unfold rowR
    rw [if_pos (by omega), if_neg (by omega), if_neg (by omega), if_pos (by omega), show (i * 5 + 2) / 5 = i by omega]
  · rw [show 0 + i * 5 + 3 = i * 5 + 3 by omega, h.row.cell (by omega)]
    unfold rowR
    rw [if_pos (by omega), if_neg (by omega), if_neg (by omega), if_neg (by omega), if_pos (by omega), show (i * 5 + 3) / 5 = i by omega]
  · rw [show 0 + i * 5 + 1 = i * 5 + 1 by omega, h.row.cell (by omega)]
    unfold rowR
    rw [if_pos (by omega), if_neg (by omega), if_pos (by omega), show (i * 5 + 1) / 5 = i by omega]
    rfl
  · rw [show 0 + i * 5 + 4 = i * 5 + 4 by omega, h.row.cell (by omega)]
    unfold rowR
    rw [if_pos (by omega), if_neg (by omega), if_neg (by omega), if_neg (by omega), if_neg (by omega), show (i * 5 + 4) / 5 = i by omega]
    rfl
theorem RwRow.save {w w' : World} {b : Nat} {R : List Rw} {A B : Nat → Nat} {T : Nat → Nat → Nat} {Z : Nat → Nat → Value} {z : Nat → Value} {k : Nat} {S : Nat → Prop} (h : RwRow w b R A B T Z z k) (hs : Save w w' S) (h0 : ¬ S b) (h1 : ∀ j, b < j → ¬ S j) : RwRow w' b R A B T Z z k :=
  ⟨h.row.of_block (hs.block b h.row.lt h0), fun i hi => hs.nodes (h.nodes i hi) (h1 _ (h.above i hi).1), fun i hi => by obtain ⟨zn, hr⟩ := h.frow i hi; exact ⟨zn, hr.of_block (hs.block _ hr.lt (h1 _ (h.above i hi).1))⟩, fun i hi => (h.cells i hi).save hs (h1 _ (by have := h.above i hi; omega)) (fun m hm => h1 _ (by have := h.above i hi; have := (h.cells i hi).above m hm; omega)), h.above, h.rising⟩
theorem RwRow.below {w w' : World} {b : Nat} {R : List Rw} {A B : Nat → Nat} {T : Nat → Nat → Nat} {Z : Nat → Nat → Value} {z : Nat → Value} {k : Nat} (h : RwRow w b R A B T Z z k) (hb : Below w.heap.size w w') : RwRow w' b R A B T Z z k :=
  h.save (Save.of_below hb (fun _ => False) (fun j h1 h2 => absurd h1 (by omega))) (fun h => h) (fun _ _ h => h)
theorem Tryz.uRws : Tryz.prog.underlying 24 = some (.slice 52) := by kernel_rfl
theorem Tryz.infoRw : (Tryz.prog.info? 52).map (fun i => (i.zero, i.size, i.bytes)) = some (some (.agg #[.string ⟨#[]⟩, .slice none 0 0, .int .i64 0, .int .i64 0, .slice none 0 0]), 5, 80) := by kernel_rfl
theorem run_makeR (n : Nat) (hn : n ≤ 1048576) : ∃ zc, ∀ w : World, Sem.run Tryz.prog (Instr.makeSlice 24 (.int .i64 n) (.int .i64 n)) w = .ok (.slice (some ⟨w.heap.size, 0, none⟩) n n) (w.alloc (.cells (madeCells zc (n * 5)) 52)) := by
  obtain ⟨i0, hi, hz0, hz1, hz2⟩ := info_parts Tryz.infoRw
  refine ⟨(Value.agg #[.string ⟨#[]⟩, .slice none 0 0, .int .i64 0, .int .i64 0, .slice none 0 0]).cells, fun w => ?_⟩
  have h := run_make (P := Tryz.prog) w 24 52 i0 _ Tryz.uRws hi hz0 .i64 .i64 n n (by omega) (Int.le_refl _) (by rw [hz2]; omega) (by omega)
  rw [hz1] at h
  simpa using h
set_option maxRecDepth 20000 in
set_option maxHeartbeats 2000000 in
theorem toRowS_any (R : List Rw) (a : Option Addr) (cap : Nat) (hl : R.length ≤ 1048576) (hz : ∀ i, i < R.length → RwSz (rwAt R i)) (w : World) (hA : ArgRs w a R) :
    Calls Tryz.prog 79 #[.slice a R.length cap] w fun e w' => ∃ b A B T Z z, e = .returned (.slice (some ⟨b, 0, none⟩) R.length R.length) ∧ w.heap.size ≤ b ∧ RwRow w' b R A B T Z z R.length ∧ Below w.heap.size w w' := by
  obtain ⟨zc, hmk⟩ := run_makeR R.length hl
  have HA := hid hA
  have HZ := hid hz
  have HU : Hid (∀ key fa fn fc cnt now ca cn cc, rwV key fa fn fc cnt now ca cn cc = .agg #[.string key, .slice fa fn fc, .int .i64 cnt, .int .i64 now, .slice ca cn cc]) := fun _ _ _ _ _ _ _ _ _ => rfl
  clear hA hz
  have hr0 : Hid (∃ z, (w.alloc (.cells (madeCells zc (R.length * 5)) 52)).rowIs w.heap.size 52 (R.length * 5) (rowR R (fmV (fun _ => 0) R) (clV (fun _ => 0) R) z 0)) := by
    refine ⟨fun j => (madeCells zc (R.length * 5)).getD j undef, ?_⟩
    have := World.rowIs_alloc w (madeCells zc (R.length * 5)) 52 (rowR R (fmV (fun _ => 0) R) (clV (fun _ => 0) R) (fun j => (madeCells zc (R.length * 5)).getD j undef) 0) (fun i hi => by simp [rowR, hi])
    rwa [size_madeCells] at this
  obtain ⟨z, hr0⟩ := hr0.out
  have HR0 := hid hr0
  clear hr0
  go_enter Tryz.func79, Tryz.ntmps79
  go_wp2_with fail
  go_loopw [4] (fun t wr => ∃ (k : Nat) (A B : Nat → Nat) (T : Nat → Nat → Nat) (Z : Nat → Nat → Value), k ≤ R.length ∧ t = .int .i64 k ∧ RwRow wr w.heap.size R A B T Z z k ∧ Below w.heap.size w wr) (fun t _ => R.length - (intOf t).toNat)
  case atStart => exact ⟨0, fun _ => 0, fun _ => 0, fun _ _ => 0, fun _ _ => undef, Nat.zero_le _, rfl, ⟨HR0.out, fun i h => by omega, fun i h => by omega, fun i h => by omega, fun i h => by omega, fun i j _ h => by omega⟩, (Below.refl _ _).alloc (Nat.le_refl _) _⟩
  case round =>
    clear HR0 hmk
    obtain ⟨k, A, B, T, Z, hk, rfl, hrow, hbel⟩ := hrel
    have HB := hid hbel
    have HRow := hid hrow
    have hsz := hrow.row.lt
    clear hrow hbel
    by_cases hlt : k < R.length
    · rcases HA.out with h0 | ⟨b, off, rfl, hb, hc⟩
      · omega
      · obtain ⟨c0, c2, c3, ⟨fa, fc, c1, hF⟩, ⟨ca, cc, c4, hC⟩⟩ := (hc k hlt).below HB.out (Nat.le_refl _) hb
        have HC := hid (toRow_any (rwAt R k) (HZ.out k hlt) fa fc ca cc wr hF hC)
        simp only [HU.out] at HC
        clear hc hF hC
        go_wp2_with (go_at_call 123; refine HC.out.mono ?_; rintro e w1 ⟨b1, e1, A1, z1, rfl, hb1, hbe1, hn1, hr1, hck1, hbl1⟩; have HB1 := hid hbl1; have HE1 := hid (HRow.out.below hbl1); have HN1 := hid hn1; have HF1 := hid hr1; have HK1 := hid hck1; have hlt1 := hn1.1; have hltc := hck1.row.lt; have d0 := HE1.out.row.cell (i := k * 5) (by omega); have d1 := HE1.out.row.cell (i := k * 5 + 1) (by omega); have d2 := HE1.out.row.cell (i := k * 5 + 2) (by omega); have d3 := HE1.out.row.cell (i := k * 5 + 3) (by omega); have d4 := HE1.out.row.cell (i := k * 5 + 4) (by omega); have f0 := HE1.out.row.frozen (k * 5); have f1 := HE1.out.row.frozen (k * 5 + 1); have f2 := HE1.out.row.frozen (k * 5 + 2); have f3 := HE1.out.row.frozen (k * 5 + 3); have f4 := HE1.out.row.frozen (k * 5 + 4); clear hn1 hr1 hck1 hbl1)
        go_roundw
        case rel =>
          have hs := kset5 w1 w.heap.size (k * 5) (.string (rwAt R k).key) (.slice (some ⟨b1, 0, none⟩) (rwAt R k).f.length (rwAt R k).f.length) (.int .i64 (rwAt R k).cnt) (.int .i64 (rwAt R k).now) (.slice (some ⟨e1, 0, none⟩) (rwAt R k).C.length (rwAt R k).C.length)
          refine ⟨k + 1, fun i => if i = k then b1 else A i, fun i => if i = k then e1 else B i, fun i => if i = k then A1 else T i, fun i => if i = k then z1 else Z i, by omega, by go_num, ⟨?_, fun i hi => ?_, fun i hi => ?_, fun i hi => ?_, fun i hi => ?_, fun i j hij hj => ?_⟩, (HB.out.trans (HB1.out.mono HB.out.size)).trans (hs.below (B := w.heap.size) (HB.out.trans (HB1.out.mono HB.out.size)).size (fun j h => by omega))⟩
          · refine (((((HE1.out.row.set (k * 5) _).set (k * 5 + 1) _).set (k * 5 + 2) _).set (k * 5 + 3) _).set (k * 5 + 4) _).congr (fun j hj => ?_)
            have := rowR_step R (fmV A R) (clV B R) z k j (.slice (some ⟨b1, 0, none⟩) (rwAt R k).f.length (rwAt R k).f.length) (.slice (some ⟨e1, 0, none⟩) (rwAt R k).C.length (rwAt R k).C.length)
            rw [← this]
            congr 1
            · funext i
              unfold fmV
              by_cases e : i = k
              · subst e; simp
              · simp [e]
            · funext i
              unfold clV
              by_cases e : i = k
              · subst e; simp
              · simp [e]
          · show NodesAt _ (if i = k then b1 else A i) _
            split
            · next e => subst e; exact hs.nodes HN1.out (by omega)
            · exact hs.nodes (HE1.out.nodes i (by omega)) (by have := HRow.out.above i (by omega); omega)
          · show ∃ zn, World.rowIs _ (if i = k then b1 else A i) _ _ zn
            split
            · next e =>
              subst e
              obtain ⟨zn, hr⟩ := HF1.out
              exact ⟨zn, hr.of_block (hs.block _ hr.lt (by omega))⟩
            · obtain ⟨zn, hr⟩ := HE1.out.frow i (by omega)
              exact ⟨zn, hr.of_block (hs.block _ hr.lt (by have := HRow.out.above i (by omega); omega))⟩
          · show CkRow _ (if i = k then e1 else B i) _ (if i = k then A1 else T i) (if i = k then z1 else Z i) _
            by_cases e : i = k
            · subst e
              simp only [if_true]
              exact HK1.out.save hs (by omega) (fun m hm => by have := HK1.out.above m hm; omega)
            · simp only [e, if_false]
              have h1 := HRow.out.above i (by omega)
              exact (HE1.out.cells i (by omega)).save hs (by omega) (fun m hm => by have := (HE1.out.cells i (by omega)).above m hm; omega)
          · show _ < (if i = k then b1 else A i) ∧ (if i = k then b1 else A i) < (if i = k then e1 else B i)
            by_cases e : i = k
            · subst e; simp only [if_true]; omega
            · simp only [e, if_false]; exact HRow.out.above i (by omega)
          · show (if i = k then e1 else B i) < (if j = k then b1 else A j) ∧ ∀ m, m < _ → (if i = k then A1 else T i) m < (if j = k then b1 else A j)
            have hik : ¬ i = k := by omega
            simp only [hik, if_false]
            by_cases e : j = k
            · subst e
              simp only [if_true]
              have h2 := (HRow.out.cells i (by omega)).row.lt
              exact ⟨by omega, fun m hm => by have := World.rowIs.lt ((HRow.out.cells i (by omega)).times m hm); omega⟩
            · simp only [e, if_false]
              exact HRow.out.rising i j hij (by omega)
        case measure => simp [intOf]; omega
    · have hk' : k = R.length := by omega
      subst hk'
      go_wp2_with fail
      go_ret
      exact ⟨w.heap.size, A, B, T, Z, z, rfl, Nat.le_refl _, HRow.out, HB.out⟩
end Go.Proofs.YtljhokoojodjnaaGreatDoor
namespace Go.Proofs.YtljhokoojodjnaaGreatDoor
open Go.RowKit
set_option linter.unusedVariables false
set_option linter.unusedSimpArgs false
theorem tab3 (w : World) (o1 : Obj) : TBox (((w.alloc o1).alloc (.cells #[.slice none 0 0, .int .i64 0, .slice none 0 0] 26)).alloc (.cells #[.slice none 0 0, .int .i64 0, .slice none 0 0] 26)) (w.heap.size + 1) none 0 0 0 none 0 0 ∧ TFree (((w.alloc o1).alloc (.cells #[.slice none 0 0, .int .i64 0, .slice none 0 0] 26)).alloc (.cells #[.slice none 0 0, .int .i64 0, .slice none 0 0] 26)) (w.heap.size + 1) ∧ TBox (((w.alloc o1).alloc (.cells #[.slice none 0 0, .int .i64 0, .slice none 0 0] 26)).alloc (.cells #[.slice none 0 0, .int .i64 0, .slice none 0 0] 26)) (w.heap.size + 2) none 0 0 0 none 0 0 ∧ TFree (((w.alloc o1).alloc (.cells #[.slice none 0 0, .int .i64 0, .slice none 0 0] 26)).alloc (.cells #[.slice none 0 0, .int .i64 0, .slice none 0 0] 26)) (w.heap.size + 2) := by
  have e1 : w.heap.size + 1 = (w.alloc o1).heap.size := by simp
  have e2 : w.heap.size + 2 = ((w.alloc o1).alloc (.cells #[.slice none 0 0, .int .i64 0, .slice none 0 0] 26)).heap.size := by simp
  refine ⟨?_, ?_, ?_, ?_⟩
  · rw [e1]; exact (TBox.new _ _ _ _ _ _ _ _ _).on (below_one' _ _)
  · rw [e1]; exact (TFree.new _ _ _ _ _).on (below_one' _ _) (by simp)
  · rw [e2]; exact TBox.new _ _ _ _ _ _ _ _ _
  · rw [e2]; exact TFree.new _ _ _ _ _
theorem tset2 (w : World) (q : Nat) (x y : Value) : Save w ((w.setCell ⟨q, 0, none⟩ x).setCell ⟨q, 1, none⟩ y) (fun j => j = q) :=
  Save.setCell (S := fun j => j = q) (Save.setCell (S := fun j => j = q) (Save.refl w _) (p := ⟨q, 0, none⟩) (fun _ => rfl) _) (p := ⟨q, 1, none⟩) (fun _ => rfl) _
theorem TBox.set2 {W : World} {q : Nat} {fa : Option Addr} {fn fc : Nat} {cap : Int} {ra : Option Addr} {rn rc : Nat} (h : TBox W q fa fn fc cap ra rn rc) (fa' : Option Addr) (fn' fc' : Nat) (cap' : Int) : TBox ((W.setCell ⟨q, 0, none⟩ (.slice fa' fn' fc')).setCell ⟨q, 1, none⟩ (.int .i64 cap')) q fa' fn' fc' cap' ra rn rc :=
  ⟨by simpa using h.lt, by simp [go_sem, h.t0], by simp [go_sem, h.t1], by simp [go_sem, h.t2]⟩
theorem TFree.set {W : World} {q : Nat} (h : TFree W q) (a : Addr) (v : Value) : TFree (W.setCell a v) q :=
  ⟨by simpa using h.g0, by simpa using h.g1, by simpa using h.g2⟩
/-- A Table that the program has, wholly owned. -/
structure TabAt (w : World) (fb : Nat) (f : List Nd) (rb : Nat) (R : List Rw) : Prop where
  nodes : NodesAt w fb f
  frow : ∃ zn, w.rowIs fb 132 (f.length * 6) zn
  rows : ∃ A B T Z z, RwRow w rb R A B T Z z R.length
  lt : fb < rb
theorem TabAt.on {w w' : World} {fb : Nat} {f : List Nd} {rb : Nat} {R : List Rw} (h : TabAt w fb f rb R) (hb : Below w.heap.size w w') : TabAt w' fb f rb R := by
  obtain ⟨h1, ⟨zn, h2⟩, ⟨A, B, T, Z, z, h3⟩, h4⟩ := h
  exact ⟨h1.below hb h1.1, ⟨zn, h2.of_block (hb.block fb h2.lt)⟩, ⟨A, B, T, Z, z, h3.below hb⟩, h4⟩
set_option maxRecDepth 20000 in
set_option maxHeartbeats 2000000 in
theorem toTab_any (f : List Nd) (fa : Option Addr) (fc : Nat) (cap : Int) (R : List Rw) (ra : Option Addr) (rc : Nat) (hz : TbSz f R) (w : World) (hF : ArgN w fa f) (hR : ArgRs w ra R) :
    Calls Tryz.prog 26 #[tbV fa f.length fc cap ra R.length rc] w fun e w' => ∃ b c, e = .returned (tbV (some ⟨b, 0, none⟩) f.length f.length cap (some ⟨c, 0, none⟩) R.length R.length) ∧ w.heap.size ≤ b ∧ TabAt w' b f c R ∧ Below w.heap.size w w' := by
  unfold tbV
  have HB0 := hid ((((Below.refl w.heap.size w).alloc (Nat.le_refl _) (.cells #[.slice fa f.length fc, .int .i64 cap, .slice ra R.length rc] 59)).alloc (by simp) (.cells #[.slice none 0 0, .int .i64 0, .slice none 0 0] 26)).alloc (by simp; omega) (.cells #[.slice none 0 0, .int .i64 0, .slice none 0 0] 26))
  obtain ⟨x1', g1', x2', g2'⟩ := tab3 w (.cells #[.slice fa f.length fc, .int .i64 cap, .slice ra R.length rc] 59)
  have HX1 := hid x1'
  have HG1 := hid g1'
  have HX2 := hid x2'
  have HG2 := hid g2'
  have HL := hid ((TBox.new w fa f.length fc cap ra R.length rc 59).on (bbelow2' _ (.cells #[.slice none 0 0, .int .i64 0, .slice none 0 0] 26) (.cells #[.slice none 0 0, .int .i64 0, .slice none 0 0] 26)))
  clear x1' g1' x2' g2'
  have HN := hid (fun w h => toNodeS_row f fa fc hz.fl w h)
  have HRS := hid (fun w h => toRowS_any R ra rc hz.r hz.rw' w h)
  have HF := hid hF
  have HRa := hid hR
  clear hF hR hz
  go_enter Tryz.func26, Tryz.ntmps26
  go_wp2_with (first | (go_at_call 78; refine (HN.out _ (HF.out.below HB0.out (Nat.le_refl _))).mono ?_; rintro e w1 ⟨b1, rfl, hb1, hn1, hr1, _, hb⟩; have HN1 := hid hn1; have HR1 := hid hr1; have HB1 := hid (HB0.out.trans (hb.mono (by simp; omega))); have X1 := hid (HX1.out.on hb); have G1 := hid (HG1.out.on hb HX1.out.lt); have X2 := hid (HX2.out.on hb); have G2 := hid (HG2.out.on hb HX2.out.lt); have L1 := hid (HL.out.on hb); obtain ⟨hq1, x0, x1, x2⟩ := X2.out; obtain ⟨g0, g1, g2⟩ := G2.out; obtain ⟨hq2, l0, l1, l2⟩ := L1.out; have hz : w.heap.size + 3 ≤ w1.heap.size := (by have := hb.size; simp at this; omega); have hb1' : w.heap.size + 3 ≤ b1 := (by simp at hb1; omega); have hb1z := hn1.1; clear hb hn1 hr1 hb1) | (go_at_call 79; have HS1 := hid (tset2 w1 (w.heap.size + 2) (.slice (some ⟨b1, 0, none⟩) f.length f.length) (.int .i64 cap)); refine (HRS.out _ (HRa.out.below (HB1.out.trans (HS1.out.below (B := w.heap.size) (by omega) (fun j h => by omega))) (Nat.le_refl _))).mono ?_; rintro e w2 ⟨b2, A2, B2, T2, Z2, z2, rfl, hb2, hr2, hbl2⟩; have HR2 := hid hr2; have HB2 := hid hbl2; clear x0 x1 x2 g0 g1 g2 l0 l1 l2 hq1 hq2; obtain ⟨hq1, x0, x1, x2⟩ := (X2.out.set2 (some ⟨b1, 0, none⟩) f.length f.length cap).on hbl2; obtain ⟨g0, g1, g2⟩ := ((G2.out.set _ _).set _ _).on hbl2 (X2.out.set2 (some ⟨b1, 0, none⟩) f.length f.length cap).lt; obtain ⟨hq2, y0, y1, y2⟩ := (X1.out.save HS1.out (by omega)).on hbl2; obtain ⟨f0, f1, f2⟩ := (G1.out.save HS1.out (X1.out.lt) (by omega)).on hbl2 (X1.out.save HS1.out (by omega)).lt; have hz2 : w1.heap.size ≤ w2.heap.size := (by have := hbl2.size; simp at this; omega); have hb2' : w1.heap.size ≤ b2 := (by simp at hb2; omega); clear hbl2 hr2 hb2))
  refine bodyPost_ret (v := .agg #[.slice (some ⟨b1, 0, none⟩) f.length f.length, .int .i64 cap, .slice (some ⟨b2, 0, none⟩) R.length R.length]) (by simp [results, Tryz.results26, go_sem, x0, x1, x2, g0, g1, g2, y0, y1, y2, f0, f1, f2]) rfl ?_
  have s2 : Save _ w2 (fun _ => False) := Save.of_below HB2.out (fun _ => False) (fun j h1 h2 => absurd h1 (by omega))
  have s3 := gset1 w2 (w.heap.size + 2) 2 (.slice (some ⟨b2, 0, none⟩) R.length R.length)
  have s4 := (tset2 (w2.setCell ⟨w.heap.size + 2, 2, none⟩ (.slice (some ⟨b2, 0, none⟩) R.length R.length)) (w.heap.size + 1) (.slice (some ⟨b1, 0, none⟩) f.length f.length) (.int .i64 cap)).setCell (p := ⟨w.heap.size + 1, 2, none⟩) (fun _ => rfl) (.slice (some ⟨b2, 0, none⟩) R.length R.length)
  refine ⟨b1, b2, rfl, by omega, ⟨?_, ?_, ⟨A2, B2, T2, Z2, z2, ?_⟩, by omega⟩, ?_⟩
  · exact s4.nodes (s3.nodes (s2.nodes (HS1.out.nodes HN1.out (by omega)) (fun h => h)) (by omega)) (by omega)
  · obtain ⟨zn, hr⟩ := HR1.out
    have r1 := hr.of_block (HS1.out.block b1 hr.lt (by omega))
    have r2 := r1.of_block (s2.block b1 r1.lt (fun h => h))
    have r3 := r2.of_block (s3.block b1 r2.lt (by omega))
    exact ⟨zn, r3.of_block (s4.block b1 r3.lt (by omega))⟩
  · exact (HR2.out.save s3 (by omega) (fun j hj => by omega)).save s4 (by omega) (fun j hj => by omega)
  · have b1 := HB1.out.trans (HS1.out.below (B := w.heap.size) (by omega) (fun j h => by omega))
    have b2 := b1.trans (HB2.out.mono b1.size)
    have b3 := b2.trans (s3.below (B := w.heap.size) b2.size (fun j h => by omega))
    exact b3.trans (s4.below (B := w.heap.size) b3.size (fun j h => by omega))
set_option maxRecDepth 20000 in
set_option maxHeartbeats 2000000 in
theorem eqRow_any (x : Rw) (hz : RwSz x) (b1 b2 d1 d2 : Nat) (a1 a2 : Option Addr) (c1 c2 : Nat) (w : World) (n1 : NodesAt w b1 x.f) (n2 : NodesAt w b2 x.f) (h1 : CksAt w a1 x.C) (h2 : CksAt w a2 x.C) :
    Calls Tryz.prog 125 #[rwV x.key (some ⟨b1, 0, none⟩) x.f.length d1 x.cnt x.now a1 x.C.length c1, rwV x.key (some ⟨b2, 0, none⟩) x.f.length d2 x.cnt x.now a2 x.C.length c2] w fun e w' => e = .returned (.bool true) ∧ Below w.heap.size w w' := by
  unfold rwV
  have HB0 := hid (bbelow2' w (.cells #[.string x.key, .slice (some ⟨b1, 0, none⟩) x.f.length d1, .int .i64 x.cnt, .int .i64 x.now, .slice a1 x.C.length c1] 52) (.cells #[.string x.key, .slice (some ⟨b2, 0, none⟩) x.f.length d2, .int .i64 x.cnt, .int .i64 x.now, .slice a2 x.C.length c2] 52))
  have N1 := hid (n1.below HB0.out n1.1)
  have N2 := hid (n2.below HB0.out n2.1)
  have H1 := hid (h1.on HB0.out)
  have H2 := hid (h2.on HB0.out)
  have HM := hid (fun w n1 n2 h1 h2 => eqMon_any x.f b1 b2 d1 d2 x.cnt x.now x.C a1 a2 c1 c2 hz.f hz.c (fun i hi => by have := hz.each i hi; omega) w n1 n2 h1 h2)
  unfold moV at HM
  have hnn : (x.key.toList == x.key.toList) = true := by simp
  clear n1 n2 h1 h2 hz
  go_enter Tryz.func125, Tryz.ntmps125
  go_wp2_with (go_at_call 156; refine (HM.out _ N1.out N2.out H1.out H2.out).mono ?_; rintro e w1 ⟨rfl, hb⟩; have HB1 := hid (HB0.out.trans (hb.mono (by simp; omega))); clear hb)
  go_ret
  exact ⟨rfl, HB1.out⟩
theorem NodesAt.drew {w : World} {b : Nat} {f : List Nd} (h : NodesAt w b f) : NodesAt w.drew b f := ⟨h.1, fun i hi => by
  obtain ⟨c0, c1, c2, c3, c4, c5⟩ := h.2 i hi
  exact ⟨c0, c1, c2, c3, c4, c5⟩⟩
theorem CksAt.drew {w : World} {a : Option Addr} {C : List Cl} (h : CksAt w a C) : CksAt w.drew a C := h
set_option maxRecDepth 20000 in
set_option maxHeartbeats 2000000 in
theorem eqRowS_any (R : List Rw) (n : Nat) (hn : R.length = n) (a1 a2 : Option Addr) (c1 c2 : Nat) (hl : n ≤ 1048576) (hz : ∀ i, i < R.length → RwSz (rwAt R i)) (w : World) (h1 : RsAt w a1 R) (h2 : RsAt w a2 R) :
    Calls Tryz.prog 82 #[.slice a1 n c1, .slice a2 n c2] w fun e w' => e = .returned (.bool true) ∧ Below w.heap.size w w' := by
  subst hn
  have H1 := hid h1
  have H2 := hid h2
  have HZ := hid hz
  have HU : Hid (∀ key fa fn fc cnt now ca cn cc, rwV key fa fn fc cnt now ca cn cc = .agg #[.string key, .slice fa fn fc, .int .i64 cnt, .int .i64 now, .slice ca cn cc]) := fun _ _ _ _ _ _ _ _ _ => rfl
  clear h1 h2 hz
  go_enter Tryz.func82, Tryz.ntmps82
  go_wp2_with fail
  go_loopw [5] (fun t wr => ∃ k : Nat, k ≤ R.length ∧ t = .int .i64 k ∧ Below w.heap.size w wr) (fun t _ => R.length - (intOf t).toNat)
  case atStart => exact ⟨0, Nat.zero_le _, rfl, Below.refl _ _⟩
  case round =>
    obtain ⟨k, hk, rfl, hbel⟩ := hrel
    have HB := hid hbel
    have hsz := hbel.size
    clear hbel
    by_cases hlt : k < R.length
    · rcases H1.out.on HB.out with h0 | ⟨b1, o1, rfl, hb1, hc1⟩
      · omega
      rcases H2.out.on HB.out with h0 | ⟨b2, o2, rfl, hb2, hc2⟩
      · omega
      obtain ⟨d0, d2, d3, ⟨fb, fc, d1, hF⟩, ⟨ca, cc, d4, hC⟩⟩ := hc1 k hlt
      obtain ⟨e0, e2, e3, ⟨gb, gc, e1, hG⟩, ⟨da, dc, e4, hD⟩⟩ := hc2 k hlt
      have HC := hid (fun w n1 n2 h1 h2 => eqRow_any (rwAt R k) (HZ.out k hlt) fb gb fc gc ca da cc dc w n1 n2 h1 h2)
      simp only [HU.out] at HC
      have HF := hid hF.drew
      have HG := hid hG.drew
      have HCc := hid hC.drew
      have HD := hid hD.drew
      clear hc1 hc2 hF hG hC hD
      go_wp2_with fail
      go_region_with (go_at_call 125; refine (HC.out _ HF.out HG.out HCc.out HD.out).mono ?_; rintro e w1 ⟨rfl, hb1'⟩; have HB1 : Hid (Below w.heap.size w w1) := HB.out.trans (Below.mono ⟨hb1'.os, hb1'.tape, hb1'.output, hb1'.size, hb1'.block⟩ hsz); clear hb1')
      all_goals
        go_wp2_with fail
        go_roundw
        case rel => exact ⟨k + 1, by omega, by go_num, HB1.out⟩
        case measure => simp [intOf]; omega
    · go_wp2_with fail
      go_ret
      exact ⟨rfl, HB.out⟩
set_option maxRecDepth 20000 in
set_option maxHeartbeats 2000000 in
theorem eqTab_any (f : List Nd) (b1 b2 d1 d2 : Nat) (cap : Int) (R : List Rw) (a1 a2 : Option Addr) (c1 c2 : Nat) (hl : f.length ≤ 1048576) (hr : R.length ≤ 1048576) (hz : ∀ i, i < R.length → RwSz (rwAt R i)) (w : World) (n1 : NodesAt w b1 f) (n2 : NodesAt w b2 f) (h1 : RsAt w a1 R) (h2 : RsAt w a2 R) :
    Calls Tryz.prog 29 #[tbV (some ⟨b1, 0, none⟩) f.length d1 cap a1 R.length c1, tbV (some ⟨b2, 0, none⟩) f.length d2 cap a2 R.length c2] w fun e w' => e = .returned (.bool true) ∧ Below w.heap.size w w' := by
  unfold tbV
  have HB0 := hid (bbelow2' w (.cells #[.slice (some ⟨b1, 0, none⟩) f.length d1, .int .i64 cap, .slice a1 R.length c1] 26) (.cells #[.slice (some ⟨b2, 0, none⟩) f.length d2, .int .i64 cap, .slice a2 R.length c2] 26))
  have N1 := hid (n1.below HB0.out n1.1)
  have N2 := hid (n2.below HB0.out n2.1)
  have H1 := hid (h1.on HB0.out)
  have H2 := hid (h2.on HB0.out)
  have HRS := hid (fun w h1 h2 => eqRowS_any R _ rfl a1 a2 c1 c2 hr hz w h1 h2)
  clear n1 n2 h1 h2 hz
  have e1 : (cap != cap) = false := by simp
  go_enter Tryz.func29, Tryz.ntmps29
  go_wp2_with (first | (go_at_call 81; refine (eqNodeS_same f b1 b2 d1 d2 hl _ N1.out N2.out).mono ?_; rintro e w1 ⟨rfl, hb⟩; have HB1 := hid (HB0.out.trans (hb.mono (by simp; omega))); have H11 := hid (H1.out.on hb); have H12 := hid (H2.out.on hb); obtain ⟨hc, hf⟩ := bcell hb; have hz : w.heap.size + 2 ≤ w1.heap.size := (by have := hb.size; simp at this; omega); clear hb) | (go_at_call 82; refine (HRS.out _ H11.out H12.out).mono ?_; rintro e w2 ⟨rfl, hb2⟩; have HB2 := hid (HB1.out.trans (hb2.mono HB1.out.size)); clear hb2))
  go_ret
  exact ⟨rfl, HB2.out⟩
end Go.Proofs.YtljhokoojodjnaaGreatDoor
namespace Go.Proofs.YtljhokoojodjnaaGreatDoor
open Go.RowKit
set_option linter.unusedVariables false
set_option linter.unusedSimpArgs false
def rowB (f : List Nd) (x : Rw) : Bool := wordB x.key && (decide (0 < x.cnt) && (decide (x.f = f) && monB x.f x.cnt x.now x.C))
def upB (R : List Rw) (i : Nat) : Bool := decide (i = 0) || Op.bytesLess (rwAt R (i - 1)).key.toList (rwAt R i).key.toList
def rowsTo (f : List Nd) (R : List Rw) (k : Nat) : Bool := (List.range k).all fun i => upB R i && rowB f (rwAt R i)
def capB (cap : Int) : Bool := decide (1 ≤ cap ∧ cap ≤ 12)
def tabB (f : List Nd) (cap : Int) (R : List Rw) : Bool := rightB f && (capB cap && (decide ((R.length : Int) ≤ cap) && rowsTo f R R.length))
theorem rowsTo_succ (f : List Nd) (R : List Rw) (k : Nat) : rowsTo f R (k + 1) = (rowsTo f R k && (upB R k && rowB f (rwAt R k))) := by
  simp [rowsTo, List.range_succ]
theorem rowsTo_false (f : List Nd) (R : List Rw) (k m : Nat) (hm : k < m) (h : (upB R k && rowB f (rwAt R k)) = false) : rowsTo f R m = false := by
  simp only [rowsTo, List.all_eq_false, List.mem_range]
  exact ⟨k, hm, by rw [h]; decide⟩
theorem tabB_right {f : List Nd} {cap : Int} {R : List Rw} (h : rightB f = false) : tabB f cap R = false := by simp [tabB, h]
theorem tabB_cap {f : List Nd} {cap : Int} {R : List Rw} (h : capB cap = false) : tabB f cap R = false := by simp [tabB, h]
theorem tabB_len {f : List Nd} {cap : Int} {R : List Rw} (h : ¬ (R.length : Int) ≤ cap) : tabB f cap R = false := by simp [tabB, h]
theorem tabB_rows {f : List Nd} {cap : Int} {R : List Rw} (h1 : rightB f = true) (h2 : capB cap = true) (h3 : (R.length : Int) ≤ cap) : tabB f cap R = rowsTo f R R.length := by simp [tabB, h1, h2, h3]
theorem monB_cnt0 {f : List Nd} {cnt now : Int} {C : List Cl} (h : monB f cnt now C = true) : 0 ≤ cnt := by
  simp only [monB, Bool.and_eq_true] at h
  exact (timeB_not h.2.2.1).1
/-- Two rows of nodes are alike up to a place. -/
def sameTo (x g : List Nd) (k : Nat) : Bool := (List.range k).all fun i => decide (ndAt x i = ndAt g i)
theorem sameTo_succ (x g : List Nd) (k : Nat) : sameTo x g (k + 1) = (sameTo x g k && decide (ndAt x k = ndAt g k)) := by simp [sameTo, List.range_succ]
theorem same_len {x g : List Nd} (h : ¬ x.length = g.length) : decide (x = g) = false := by
  simp only [decide_eq_false_iff_not]
  exact fun e => h (by rw [e])
theorem same_no {x g : List Nd} (k : Nat) (h : ¬ ndAt x k = ndAt g k) : decide (x = g) = false := by
  simp only [decide_eq_false_iff_not]
  exact fun e => h (by rw [e])
theorem same_yes {x g : List Nd} (hl : x.length = g.length) (h : sameTo x g x.length = true) : decide (x = g) = true := by
  simp only [sameTo, List.all_eq_true, List.mem_range, decide_eq_true_eq] at h
  simp only [decide_eq_true_eq]
  refine List.ext_getElem hl (fun i h1 h2 => ?_)
  have := h i h1
  simpa [ndAt, List.getD, List.getElem?_eq_getElem h1, List.getElem?_eq_getElem h2] using this
set_option maxRecDepth 20000 in
set_option maxHeartbeats 2000000 in
theorem specSame_any (x g : List Nd) (xb gb c1 c2 : Nat) (v : Bool) (hv : decide (x = g) = v) (hl : x.length ≤ 1048576) (hg : g.length ≤ 1048576) (w : World) (h1 : NodesAt w xb x) (h2 : NodesAt w gb g) :
    Calls Tryz.prog 70 #[.slice (some ⟨xb, 0, none⟩) x.length c1, .slice (some ⟨gb, 0, none⟩) g.length c2] w fun e w' => e = .returned (.bool v) ∧ Below w.heap.size w w' := by
  have H1 := hid h1
  have H2 := hid h2
  have HV := hid hv
  have HU : Hid (∀ x : Nd, ndV x = .agg #[.int .i64 x.k, .int .i64 x.a, .int .i64 x.b, .int .i64 x.lo, .int .i64 x.hi, .string x.nm]) := fun _ => rfl
  clear h1 h2 hv
  by_cases hle : x.length = g.length
  · have hne : ((x.length : Int) != (g.length : Int)) = false := by simp [hle]
    go_enter Tryz.func70, Tryz.ntmps70
    go_wp2_with fail
    go_loopw [5] (fun t wr => ∃ k : Nat, k ≤ x.length ∧ t = .int .i64 k ∧ sameTo x g k = true ∧ Below w.heap.size w wr) (fun t _ => x.length - (intOf t).toNat)
    case atStart => exact ⟨0, Nat.zero_le _, rfl, rfl, Below.refl _ _⟩
    case round =>
      obtain ⟨k, hk, rfl, hs, hbel⟩ := hrel
      have HB := hid hbel
      have HS := hid hs
      have HSu := hid (sameTo_succ x g k)
      have HNo := hid (fun h => HV.out.symm.trans (same_no (x := x) (g := g) k h))
      have HYes := hid (fun e h => HV.out.symm.trans (same_yes (x := x) (g := g) e h))
      have HLe := hid hle
      clear hbel hs
      by_cases hlt : k < x.length
      · have hlt2 : k < g.length := by omega
        obtain ⟨n0, n1, n2, n3, n4, n5⟩ := (H1.out.below HB.out H1.out.1).2 k hlt
        obtain ⟨m0, m1, m2, m3, m4, m5⟩ := (H2.out.below HB.out H2.out.1).2 k hlt2
        have hxb : xb < wr.heap.size := by have := HB.out.size; have := H1.out.1; omega
        have hgb : gb < wr.heap.size := by have := HB.out.size; have := H2.out.1; omega
        clear hne
        generalize ndAt x k = X at *
        generalize ndAt g k = Y at *
        have hq := neq_node X Y
        simp only [HU.out] at hq
        by_cases hXY : X = Y
        · have hd : decide (X = Y) = true := by simp [hXY]
          rw [hd] at hq
          go_wp2_with fail
          go_region
          go_wp2_with fail
          go_roundw
          case rel => exact ⟨k + 1, by omega, by go_num, by rw [HSu.out, HS.out, hd]; rfl, below_drew HB.out⟩
          case measure => simp [intOf]; omega
        · have hd : decide (X = Y) = false := by simp [hXY]
          rw [hd] at hq
          go_wp2_with fail
          go_region
          go_wp2_with fail
          go_ret
          exact ⟨ret_bool (HNo.out hXY).symm, below_drew HB.out⟩
      · have hk' : k = x.length := by omega
        subst hk'
        go_wp2_with fail
        go_ret
        exact ⟨ret_bool (HYes.out HLe.out HS.out).symm, HB.out⟩
  · have hne : ((x.length : Int) != (g.length : Int)) = true := by simp; omega
    have HF := hid (HV.out.symm.trans (same_len hle))
    go_enter Tryz.func70, Tryz.ntmps70
    go_wp2_with fail
    go_ret
    exact ⟨ret_bool HF.out.symm, Below.refl _ _⟩
set_option maxRecDepth 20000 in
set_option maxHeartbeats 2000000 in
theorem equalNs_any (x g : List Nd) (xb gb c1 c2 : Nat) (v : Bool) (hv : decide (x = g) = v) (hl : x.length ≤ 1048576) (hg : g.length ≤ 1048576) (w : World) (h1 : NodesAt w xb x) (h2 : NodesAt w gb g) :
    Calls Tryz.prog 114 #[.slice (some ⟨xb, 0, none⟩) x.length c1, .slice (some ⟨gb, 0, none⟩) g.length c2] w fun e w' => e = .returned (.bool v) ∧ Below w.heap.size w w' := by
  have H1 := hid h1
  have H2 := hid h2
  have HV := hid hv
  have HU : Hid (∀ x : Nd, ndV x = .agg #[.int .i64 x.k, .int .i64 x.a, .int .i64 x.b, .int .i64 x.lo, .int .i64 x.hi, .string x.nm]) := fun _ => rfl
  clear h1 h2 hv
  by_cases hle : x.length = g.length
  · have hne : ((x.length : Int) != (g.length : Int)) = false := by simp [hle]
    go_enter Tryz.func114, Tryz.ntmps114
    go_wp2_with fail
    go_loopw [13] (fun t wr => ∃ k : Nat, k ≤ x.length ∧ t = .int .i64 k ∧ sameTo x g k = true ∧ Below w.heap.size w wr) (fun t _ => x.length - (intOf t).toNat)
    case atStart => exact ⟨0, Nat.zero_le _, rfl, rfl, Below.refl _ _⟩
    case round =>
      obtain ⟨k, hk, rfl, hs, hbel⟩ := hrel
      have HB := hid hbel
      have HS := hid hs
      have HSu := hid (sameTo_succ x g k)
      have HNo := hid (fun h => HV.out.symm.trans (same_no (x := x) (g := g) k h))
      have HYes := hid (fun e h => HV.out.symm.trans (same_yes (x := x) (g := g) e h))
      have HLe := hid hle
      clear hbel hs
      by_cases hlt : k < x.length
      · have hlt2 : k < g.length := by omega
        obtain ⟨n0, n1, n2, n3, n4, n5⟩ := (H1.out.below HB.out H1.out.1).2 k hlt
        obtain ⟨m0, m1, m2, m3, m4, m5⟩ := (H2.out.below HB.out H2.out.1).2 k hlt2
        have hxb : xb < wr.heap.size := by have := HB.out.size; have := H1.out.1; omega
        have hgb : gb < wr.heap.size := by have := HB.out.size; have := H2.out.1; omega
        clear hne
        generalize ndAt x k = X at *
        generalize ndAt g k = Y at *
        have hq := neq_node X Y
        simp only [HU.out] at hq
        by_cases hXY : X = Y
        · have hd : decide (X = Y) = true := by simp [hXY]
          rw [hd] at hq
          go_wp2_with fail
          go_region
          go_wp2_with fail
          go_roundw
          case rel => exact ⟨k + 1, by omega, by go_num, by rw [HSu.out, HS.out, hd]; rfl, below_drew HB.out⟩
          case measure => simp [intOf]; omega
        · have hd : decide (X = Y) = false := by simp [hXY]
          rw [hd] at hq
          go_wp2_with fail
          go_region
          go_wp2_with fail
          go_ret
          exact ⟨ret_bool (HNo.out hXY).symm, below_drew HB.out⟩
      · have hk' : k = x.length := by omega
        subst hk'
        go_wp2_with fail
        go_ret
        exact ⟨ret_bool (HYes.out HLe.out HS.out).symm, HB.out⟩
  · have hne : ((x.length : Int) != (g.length : Int)) = true := by simp; omega
    have HF := hid (HV.out.symm.trans (same_len hle))
    go_enter Tryz.func114, Tryz.ntmps114
    go_wp2_with fail
    go_ret
    exact ⟨ret_bool HF.out.symm, Below.refl _ _⟩
/-- What is asked of a row that the program has. -/
structure RwIn (x : Rw) : Prop where
  key : x.key.size ≤ maxLen
  ok : ∀ i, i < x.f.length → ndOk (ndAt x.f i)
  lf : x.f.length ≤ 1048576
  lc : x.C.length ≤ 1048576
  lt : ∀ i, i < x.C.length → (clAt x.C i).ts.length ≤ 2000000
theorem RwIn.mon {x : Rw} (h : RwIn x) {w : World} {fb : Nat} {ca : Option Addr} (h1 : NodesAt w fb x.f) (h2 : CksAt w ca x.C) : MonIn w fb x.f ca x.C := ⟨h1, h.ok, h.lf, h2, h.lc, h.lt⟩
theorem RwIn.of {x : Rw} (h : RwOk x) (hz : RwSz x) : RwIn x := ⟨h.key, h.ok, hz.f, hz.c, fun i hi => by have := hz.each i hi; omega⟩
def watchB (f : List Nd) (x : Rw) : Bool := decide (0 < x.cnt) && (decide (x.f = f) && monB x.f x.cnt x.now x.C)
set_option maxRecDepth 20000 in
set_option maxHeartbeats 2000000 in
theorem watches_any (f : List Nd) (x : Rw) (hx : RwIn x) (gb gc fb fc : Nat) (ca : Option Addr) (cc : Nat) (v : Bool) (hv : watchB f x = v) (hf : f.length ≤ 1048576) (w : World) (hG : NodesAt w gb f) (hF : NodesAt w fb x.f) (hC : CksAt w ca x.C) (hkw : Kw w) (hg : 0 < w.heap.size) :
    Calls Tryz.prog 68 #[.agg #[.slice (some ⟨fb, 0, none⟩) x.f.length fc, .int .i64 x.cnt, .int .i64 x.now, .slice ca x.C.length cc], .slice (some ⟨gb, 0, none⟩) f.length gc] w fun e w' => e = .returned (.bool v) ∧ Below w.heap.size w w' := by
  have HB0 := hid (below_one' w (.cells #[.slice (some ⟨fb, 0, none⟩) x.f.length fc, .int .i64 x.cnt, .int .i64 x.now, .slice ca x.C.length cc] 46))
  have HX0 := hid (MBox.new w (some ⟨fb, 0, none⟩) x.f.length fc x.cnt x.now ca x.C.length cc 46)
  have HV : Hid (v = (decide (0 < x.cnt) && (decide (x.f = f) && monB x.f x.cnt x.now x.C))) := hv.symm
  have HG := hid hG
  have HF := hid hF
  have HC := hid hC
  have HK := hid hkw
  have HI := hid hx
  have HE := hid (fun b (hb : decide (x.f = f) = b) w h1 h2 => equalNs_any x.f f fb gb fc gc b hb HI.out.lf hf w h1 h2)
  have HM := hid (fun b (hb : monB x.f x.cnt x.now x.C = b) w h hk hl => implMon_any x.f fb fc x.cnt x.now x.C ca cc b hb w h hk hl)
  unfold moV at HM
  clear hv hG hF hC hkw hx
  by_cases hc : 0 < x.cnt
  · rcases Bool.eq_false_or_eq_true (decide (x.f = f)) with hs | hs
    · rcases Bool.eq_false_or_eq_true (monB x.f x.cnt x.now x.C) with hm | hm
      all_goals
        have HE1 := hid (HE.out _ hs)
        have HM1 := hid (HM.out _ hm)
        have hVF : Hid (v = monB x.f x.cnt x.now x.C) := by show v = _; rw [HV.out, hs]; simp [hc]
        rw [hm] at hVF
        clear HE HM hs hm
        go_enter Tryz.func68, Tryz.ntmps68
        go_wp2_with (first | (go_at_call 114; refine (HE1.out _ (HF.out.below HB0.out HF.out.1) (HG.out.below HB0.out HG.out.1)).mono ?_; rintro e w1 ⟨rfl, hb1⟩; have HB1 := hid (HB0.out.trans (hb1.mono HB0.out.size)); obtain ⟨_, m0, m1, m2, m3⟩ := HX0.out.on hb1; clear hb1) | (go_at_call 94; refine (HM1.out _ (HI.out.mon (HF.out.below HB1.out HF.out.1) (HC.out.on HB1.out)) (HK.out.below HB1.out hg) (by have := HB1.out.size; omega)).mono ?_; rintro e w2 ⟨rfl, hb2⟩; have HB2 := hid (HB1.out.trans (hb2.mono HB1.out.size)); clear hb2))
        go_ret
        exact ⟨ret_bool hVF.out.symm, HB2.out⟩
    · have HE1 := hid (HE.out _ hs)
      have hVF : Hid (v = false) := by show v = _; rw [HV.out, hs]; simp
      clear HE HM hs
      go_enter Tryz.func68, Tryz.ntmps68
      go_wp2_with (go_at_call 114; refine (HE1.out _ (HF.out.below HB0.out HF.out.1) (HG.out.below HB0.out HG.out.1)).mono ?_; rintro e w1 ⟨rfl, hb1⟩; have HB1 := hid (HB0.out.trans (hb1.mono HB0.out.size)); obtain ⟨_, m0, m1, m2, m3⟩ := HX0.out.on hb1; clear hb1)
      go_ret
      exact ⟨ret_bool hVF.out.symm, HB1.out⟩
  · have hVF : Hid (v = false) := by show v = _; rw [HV.out]; simp [hc]
    clear HE HM
    go_enter Tryz.func68, Tryz.ntmps68
    go_wp2_with fail
    go_ret
    exact ⟨ret_bool hVF.out.symm, HB0.out⟩
set_option maxRecDepth 20000 in
theorem capI_any (cap : Int) (v : Bool) (hv : capB cap = v) (w : World) : Calls Tryz.prog 61 #[.int .i64 cap] w fun e w' => e = .returned (.bool v) ∧ w = w' := by
  have HV : Hid (v = decide (1 ≤ cap ∧ cap ≤ 12)) := hv.symm
  clear hv
  by_cases h1 : 1 ≤ cap
  · by_cases h2 : cap ≤ 12
    all_goals
      go_enter Tryz.func61, Tryz.ntmps61
      go_wp2_with fail
      go_ret
      exact ⟨ret_bool (by rw [HV.out]; simp [h1, h2]), rfl⟩
  · go_enter Tryz.func61, Tryz.ntmps61
    go_wp2_with fail
    go_ret
    exact ⟨ret_bool (by rw [HV.out]; simp; omega), rfl⟩
theorem capS_any (cap : Int) (v : Bool) (hv : capB cap = v) (w : World) : Calls Tryz.prog 63 #[.int .i64 cap, .int .i64 1, .int .i64 12] w fun e w' => e = .returned (.bool v) ∧ w = w' := by
  subst hv
  refine (is_any cap 1 12 w).mono ?_
  rintro e w' ⟨rfl, rfl⟩
  exact ⟨by unfold isB capB; rfl, rfl⟩
end Go.Proofs.YtljhokoojodjnaaGreatDoor
namespace Go.Proofs.YtljhokoojodjnaaGreatDoor
open Go.RowKit
set_option linter.unusedVariables false
set_option linter.unusedSimpArgs false
/-- What is asked of a Table that the program has. -/
structure TabIn (w : World) (fb : Nat) (f : List Nd) (ra : Option Addr) (R : List Rw) : Prop where
  nodes : NodesAt w fb f
  ok : ∀ i, i < f.length → ndOk (ndAt f i)
  lf : f.length ≤ 1048576
  rows : RsAt w ra R
  lr : R.length ≤ 1048576
  rin : ∀ i, i < R.length → RwIn (rwAt R i)
theorem TabIn.on {w w' : World} {fb : Nat} {f : List Nd} {ra : Option Addr} {R : List Rw} (h : TabIn w fb f ra R) (hb : Below w.heap.size w w') : TabIn w' fb f ra R :=
  ⟨h.nodes.below hb h.nodes.1, h.ok, h.lf, h.rows.on hb, h.lr, h.rin⟩
def keyTo (R : List Rw) (k : Nat) : ByteArray := if k = 0 then ⟨#[]⟩ else (rwAt R (k - 1)).key
theorem nil_list : (⟨#[]⟩ : ByteArray).toList = [] := by rw [ByteArray.toList_eq]
theorem key_up {x K : ByteArray} (hw : wordB x = true) (h : Op.bytesLess K.toList x.toList = true ∨ K = ⟨#[]⟩) : Op.bytesLess x.toList K.toList = false ∧ (x.toList == K.toList) = false := by
  rcases h with h | rfl
  · exact ⟨less_asym _ _ h, less_ne _ _ h⟩
  · rw [nil_list]
    have h2 := word_full x hw
    refine ⟨less_nil _, ?_⟩
    cases hl : x.toList with
    | nil => rw [hl] at h2; cases h2
    | cons y l => rfl
set_option maxRecDepth 20000 in
set_option maxHeartbeats 8000000 in
theorem implTab_any (f : List Nd) (fb fc : Nat) (cap : Int) (R : List Rw) (ra : Option Addr) (rc : Nat) (v : Bool) (hv : tabB f cap R = v) (w : World) (hT : TabIn w fb f ra R) (hkw : Kw w) (hg : 0 < w.heap.size) :
    Calls Tryz.prog 19 #[tbV (some ⟨fb, 0, none⟩) f.length fc cap ra R.length rc] w fun e w' => e = .returned (.bool v) ∧ Below w.heap.size w w' := by
  have HV := hid hv
  have HT := hid hT
  have HK := hid hkw
  have HB0 := hid (below_one' w (.cells #[.slice (some ⟨fb, 0, none⟩) f.length fc, .int .i64 cap, .slice ra R.length rc] 26))
  have HX0 := hid (TBox.new w (some ⟨fb, 0, none⟩) f.length fc cap ra R.length rc 26)
  have HFr := hid (fun b (hb : rightB f = b) w' (h : Below w.heap.size w w') => show Calls Tryz.prog 67 #[.slice (some ⟨fb, 0, none⟩) f.length fc] w' fun e w'' => e = .returned (.bool b) ∧ Below w'.heap.size w' w'' from by subst hb; exact implRight_any f fb fc w' (HT.out.nodes.below h HT.out.nodes.1) HT.out.ok (lf_max HT.out.lf) (HK.out.below h hg) (by have := h.size; omega))
  have HCp := hid (fun v (h : capB cap = v) w => capI_any cap v h w)
  have hlr := hT.lr
  have hlf := hT.lf
  unfold tbV
  clear hv hT hkw
  rcases Bool.eq_false_or_eq_true (rightB f) with hr | hr
  · have HF := hid (HFr.out true hr)
    rcases Bool.eq_false_or_eq_true (capB cap) with hc | hc
    · have HC := hid (HCp.out true hc)
      by_cases hl : (R.length : Int) ≤ cap
      · have hnl : ¬ ((R.length : Int) > cap) := by omega
        have HVR := hid (HV.out.symm.trans (tabB_rows hr hc hl))
        clear HFr HCp HV hr hc hl
        go_enter Tryz.func19, Tryz.ntmps19
        go_wp2_with (first | (go_at_call 67; refine (HF.out _ HB0.out).mono ?_; rintro e w1 ⟨rfl, hb1⟩; have HB1 := hid (HB0.out.trans (hb1.mono HB0.out.size)); have HX1 := hid (HX0.out.on hb1); obtain ⟨_, m0, m1, m2⟩ := HX1.out; clear hb1) | (go_at_call 61; refine (HC.out _).mono ?_; rintro e w' ⟨rfl, rfl⟩))
        clear m0 m1 m2
        go_loopw [3, 27] (fun s t wr => ∃ k : Nat, k ≤ R.length ∧ t = .int .i64 k ∧ s = .string (keyTo R k) ∧ rowsTo f R k = true ∧ Below w1.heap.size w1 wr) (fun _ t _ => R.length - (intOf t).toNat)
        case atStart => exact ⟨0, Nat.zero_le _, rfl, rfl, rfl, Below.refl _ _⟩
        case round =>
          obtain ⟨k, hk, rfl, rfl, hs, hbel⟩ := hrel
          have HS := hid hs
          have HBr := hid hbel
          have HBE := hid (HB1.out.trans (hbel.mono HB1.out.size))
          have HXr := hid (HX1.out.on hbel)
          clear hs hbel
          by_cases hlt : k < R.length
          · have HTr := hid (HT.out.on HBE.out)
            rcases HTr.out.rows with h0 | ⟨b, off, rfl, hb, hcs⟩
            · omega
            obtain ⟨c0, c2, c3, ⟨gb, gc, c1, hGF⟩, ⟨ca, cc, c4, hCk⟩⟩ := hcs k hlt
            have HSu := hid (rowsTo_succ f R k)
            have HNo := hid (fun h => HVR.out.trans (rowsTo_false f R k R.length hlt h))
            have HI := hid (HT.out.rin k hlt)
            have HKy : Hid (keyTo R (k + 1) = (rwAt R k).key) := by show keyTo R (k + 1) = _; simp [keyTo]
            have HUp : Hid (upB R k = true → Op.bytesLess (keyTo R k).toList (rwAt R k).key.toList = true ∨ (k = 0 ∧ keyTo R k = ⟨#[]⟩)) := fun h => by
              unfold upB at h
              unfold keyTo
              by_cases e : k = 0
              · right; exact ⟨e, by rw [if_pos e]⟩
              · left; rw [if_neg e]; simpa [e] using h
            have HUn : Hid (upB R k = false → ¬ k = 0 ∧ Op.bytesLess (keyTo R k).toList (rwAt R k).key.toList = false) := fun h => by
              unfold upB at h
              unfold keyTo
              simp only [Bool.or_eq_false_iff, decide_eq_false_iff_not] at h
              exact ⟨h.1, by rw [if_neg h.1]; exact h.2⟩
            generalize hu : upB R k = up at *
            generalize hK' : keyTo R k = K at *
            generalize hx : rwAt R k = x at *
            have HBn := hid (below_one' wr (.cells #[.string x.key, .slice (some ⟨gb, 0, none⟩) x.f.length gc, .int .i64 x.cnt, .int .i64 x.now, .slice ca x.C.length cc] 52))
            have HNn := hid (RBox.new wr x.key (some ⟨gb, 0, none⟩) x.f.length gc x.cnt x.now ca x.C.length cc 52)
            have HXn := hid (HXr.out.on HBn.out)
            have HWt := hid (fun v (h : watchB f x = v) => watches_any f x HI.out fb fc gb gc ca cc v h HT.out.lf _ ((HTr.out.nodes).below HBn.out HTr.out.nodes.1) (hGF.below HBn.out hGF.1) (hCk.on HBn.out) ((HK.out.below HBE.out hg).below HBn.out (by have := HBE.out.size; omega)) (by have := HBE.out.size; have := HBn.out.size; omega))
            have HKn := hid (((HK.out.below HBE.out hg).below HBn.out (by have := HBE.out.size; omega)))
            clear hcs hGF hCk
            obtain ⟨hq, m0, m1, m2⟩ := HXr.out
            have HRB : Hid (rowB f x = (wordB x.key && watchB f x)) := rfl
            rcases Bool.eq_false_or_eq_true (wordB x.key) with hw | hw
            · rcases Bool.eq_false_or_eq_true up with hup | hup
              · obtain ⟨hx1, hx2⟩ := key_up hw ((HUp.out hup).imp id (fun h => h.2))
                rcases Bool.eq_false_or_eq_true (watchB f x) with hwt | hwt
                · have HSx : Hid (rowsTo f R (k + 1) = true) := by show rowsTo f R (k + 1) = true; rw [HSu.out, HS.out, hup, HRB.out, hw, hwt]; rfl
                  have HWt := hid (HWt.out true hwt)
                  clear hu hK' hx hup hwt HUp HUn HSu HNo
                  go_wp2_with (first | (go_at_call 46; refine (implWord_any _ _ HI.out.key HKn.out).mono ?_; rintro e w' ⟨rfl, rfl⟩) | (go_at_call 68; refine HWt.out.mono ?_; rintro e w2 ⟨rfl, hb2⟩; have HB2 := hid (HBr.out.trans ((HBn.out.trans (hb2.mono HBn.out.size)).mono HBr.out.size)); obtain ⟨_, r0, r1, r2, r3, r4⟩ := HNn.out.on hb2; clear hb2))
                  go_roundw
                  case rel => exact ⟨k + 1, by omega, by go_num, by rw [HKy.out], HSx.out, HB2.out⟩
                  case measure => simp [intOf]; omega
                · have HNx := hid (HNo.out (by rw [hup, HRB.out, hwt]; simp))
                  have HWt := hid (HWt.out false hwt)
                  clear hu hK' hx hup hwt HUp HUn HSu HNo
                  go_wp2_with (first | (go_at_call 46; refine (implWord_any _ _ HI.out.key HKn.out).mono ?_; rintro e w' ⟨rfl, rfl⟩) | (go_at_call 68; refine HWt.out.mono ?_; rintro e w2 ⟨rfl, hb2⟩; have HB2 := hid (HBr.out.trans ((HBn.out.trans (hb2.mono HBn.out.size)).mono HBr.out.size)); obtain ⟨_, r0, r1, r2, r3, r4⟩ := HNn.out.on hb2; clear hb2))
                  go_ret
                  exact ⟨ret_bool HNx.out.symm, HB1.out.trans (HB2.out.mono HB1.out.size)⟩
              · have HX3 := hid (HUn.out hup).2
                have HNx := hid (HNo.out (by rw [hup]; rfl))
                rcases Bool.eq_false_or_eq_true (x.key.toList == K.toList) with hx2 | hx2
                · have hx3 : Op.bytesLess x.key.toList K.toList = false := by rw [beq_iff_eq] at hx2; rw [hx2]; exact less_irr _
                  clear hu hK' hx hup HUp HUn HSu HNo HWt
                  go_wp2_with (go_at_call 46; refine (implWord_any _ _ HI.out.key HKn.out).mono ?_; rintro e w' ⟨rfl, rfl⟩)
                  go_ret
                  exact ⟨ret_bool HNx.out.symm, HBE.out.trans (HBn.out.mono HBE.out.size)⟩
                · have hx3 := less_tri _ _ HX3.out hx2
                  clear hu hK' hx hup HUp HUn HSu HNo HWt
                  go_wp2_with (go_at_call 46; refine (implWord_any _ _ HI.out.key HKn.out).mono ?_; rintro e w' ⟨rfl, rfl⟩)
                  go_ret
                  exact ⟨ret_bool HNx.out.symm, HBE.out.trans (HBn.out.mono HBE.out.size)⟩
            · have HNx := hid (HNo.out (by rw [HRB.out, hw]; simp))
              clear hu hK' hx HUp HUn HSu HNo HWt
              go_wp2_with (go_at_call 46; refine (implWord_any _ _ HI.out.key HKn.out).mono ?_; rintro e w' ⟨rfl, rfl⟩)
              go_ret
              exact ⟨ret_bool HNx.out.symm, HBE.out.trans (HBn.out.mono HBE.out.size)⟩
          · have hk' : k = R.length := by omega
            subst hk'
            generalize keyTo R R.length = q
            go_wp2_with fail
            go_ret
            exact ⟨ret_bool (by rw [HVR.out, HS.out]), HBE.out⟩
      · have hnl : ((R.length : Int) > cap) := by omega
        have HVF := hid (HV.out.symm.trans (tabB_len hl))
        clear HFr HCp HV hr hc hl
        go_enter Tryz.func19, Tryz.ntmps19
        go_wp2_with (first | (go_at_call 67; refine (HF.out _ HB0.out).mono ?_; rintro e w1 ⟨rfl, hb1⟩; have HB1 := hid (HB0.out.trans (hb1.mono HB0.out.size)); have HX1 := hid (HX0.out.on hb1); obtain ⟨_, m0, m1, m2⟩ := HX1.out; clear hb1) | (go_at_call 61; refine (HC.out _).mono ?_; rintro e w' ⟨rfl, rfl⟩))
        go_ret
        exact ⟨ret_bool HVF.out.symm, HB1.out⟩
    · have HC := hid (HCp.out false hc)
      have HVF := hid (HV.out.symm.trans (tabB_cap hc))
      clear HFr HCp HV hr hc
      go_enter Tryz.func19, Tryz.ntmps19
      go_wp2_with (first | (go_at_call 67; refine (HF.out _ HB0.out).mono ?_; rintro e w1 ⟨rfl, hb1⟩; have HB1 := hid (HB0.out.trans (hb1.mono HB0.out.size)); have HX1 := hid (HX0.out.on hb1); obtain ⟨_, m0, m1, m2⟩ := HX1.out; clear hb1) | (go_at_call 61; refine (HC.out _).mono ?_; rintro e w' ⟨rfl, rfl⟩))
      go_ret
      exact ⟨ret_bool HVF.out.symm, HB1.out⟩
  · have HF := hid (HFr.out false hr)
    have HVF := hid (HV.out.symm.trans (tabB_right hr))
    clear HFr HCp HV hr
    go_enter Tryz.func19, Tryz.ntmps19
    go_wp2_with (go_at_call 67; refine (HF.out _ HB0.out).mono ?_; rintro e w1 ⟨rfl, hb1⟩; have HB1 := hid (HB0.out.trans (hb1.mono HB0.out.size)); have HX1 := hid (HX0.out.on hb1); obtain ⟨_, m0, m1, m2⟩ := HX1.out; clear hb1)
    go_ret
    exact ⟨ret_bool HVF.out.symm, HB1.out⟩
end Go.Proofs.YtljhokoojodjnaaGreatDoor
