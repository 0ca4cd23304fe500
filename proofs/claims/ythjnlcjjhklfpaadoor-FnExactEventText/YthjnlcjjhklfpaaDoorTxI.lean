/-
  The program's EventText by its contract.
-/
import Derived.Test.YthjnlcjjhklfpaaDoorTxS
import Derived.Test.YthjnlcjjhklfpaaDoorClD
import Derived.Test.YthjnlcjjhklfpaaDoorShelf
namespace Go.Proofs.YthjnlcjjhklfpaaDoor
open Go.RowKit
set_option linter.unusedVariables false
set_option linter.unusedSimpArgs false
/-- The powers of ten stand in the library's table. -/
def Pw (w : World) : Prop := Lib.TabIs Tryd.prog w "internal/strconv.uint64pow10" .u64 Lib.pow10Tab
theorem Tryd.gPw : Tryd.prog.globalNamed "internal/strconv.uint64pow10" = some 2 := by kernel_rfl
theorem Pw.below {w w' : World} (h : Pw w) (hb : Below w.heap.size w w') : Pw w' := by
  unfold Pw Lib.TabIs World.var? at h ⊢
  rw [Tryd.gPw] at h ⊢
  simp only [Option.bind_some] at h ⊢
  have hlt : 2 < w.heap.size := by
    rcases Nat.lt_or_ge 2 w.heap.size with h' | h'
    · exact h'
    · rw [Array.getElem?_eq_none h'] at h; cases h
  rw [hb.block _ hlt]
  exact h
theorem below_grow (w : World) (k : Nat) (os : Array Obj) : Below w.heap.size w (Sort.grow (w.drewN k) os) :=
  ⟨rfl, rfl, rfl, by simp [Sort.grow], fun j hj => by simp [Sort.grow, Array.getElem?_append, hj]⟩
theorem format_any (q : Nat) (hq : q ≤ 1000000) (w : World) (hp : Pw w) :
    Calls Tryd.prog 78 #[.int .i64 q, .int .i64 10] w fun e w' => e = .returned (.string (decS q)) ∧ Below w.heap.size w w' := by
  refine (Tryd.strconv_FormatInt_10 q (by omega) (by omega) w hp).mono ?_
  rintro e w' ⟨rfl, k, os, rfl⟩
  refine ⟨?_, below_grow w k os⟩
  unfold decS Lib.itoa
  rw [if_neg (by omega)]
  simp
theorem own_lit (w : World) (base : Nat) (h : base ≤ w.heap.size) (x : ByteArray) : OwS (w.alloc (.cells #[.string x] 9)) base (.slice (some ⟨w.heap.size, 0, none⟩) 1 1) [x] :=
  ⟨rfl, Or.inr ⟨w.heap.size, 1, #[.string x], rfl, h, blk_new w _, Nat.le_refl _, by unfold maxLen; omega, rfl, rfl⟩⟩
theorem ts_cells {w : World} {g : Nat} {S : List ByteArray} (h : TsAt w (some ⟨g, 0, none⟩) S) : ∀ j, j < S.length → w.cell? ⟨g, j, none⟩ = some (.string (txAt S j)) := by
  rcases h with h | ⟨b, e, _, h2⟩
  · intro j hj; omega
  · injection e with e
    injection e with e
    subst e
    exact h2
theorem OwS.some' {w : World} {base : Nat} {v : Value} {x : ByteArray} {S : List ByteArray} (h : OwS w base v (x :: S)) : ∃ g c, v = .slice (some ⟨g, 0, none⟩) (x :: S).length c ∧ (x :: S).length ≤ c ∧ (∀ (j : Nat) y, (x :: S)[j]? = some y → w.cell? ⟨g, 0 + j, none⟩ = some (.string y)) ∧ g < w.heap.size := by
  rcases h.2 with ⟨hv, h0⟩ | ⟨g, cap, cur, hv, hb, hg, h1, h2, h3, h4⟩
  · simp at h0
  · refine ⟨g, cap, hv, h1, fun j y hy => ?_, (Array.getElem?_eq_some_iff.1 hg).1⟩
    have h5 := World.ownsRow.cells h (g := g) (by rw [hv]; rfl) j (.string y) (by rw [List.getElem?_map, hy]; rfl)
    rw [Addr.add_lit] at h5
    exact h5
theorem inter_tail (sep : List UInt8) : ∀ (r : List (List UInt8)) (x : List UInt8), sep.intercalate (x :: r) = x ++ r.flatMap (fun y => sep ++ y)
  | [], x => by simp [List.intercalate]
  | y :: r, x => by
    have ih := inter_tail sep r y
    have e : sep.intercalate (x :: y :: r) = x ++ (sep ++ sep.intercalate (y :: r)) := by simp [List.intercalate, List.intersperse]
    rw [e, ih]
    simp [List.flatMap_cons]
theorem join_et (T : Evt) (q : Nat) (hq : T.1 = q) : Lib.join ((decS q :: T.2).map (·.data.toList)) [32] = etL T T.2.length := by
  unfold Lib.join
  rw [List.map_cons, inter_tail]
  unfold etL decS
  rw [hq, List.take_length]
  simp [List.flatMap_map]
theorem et_len (T : Evt) (h8 : T.2.length ≤ 8) (hs : ∀ i, i < T.2.length → (txAt T.2 i).size ≤ 8) (ht : T.1 ≤ 1000000) : ∀ k, k ≤ T.2.length → (etL T k).length ≤ 1000001 + k * 9
  | 0, _ => by
    unfold etL
    have := dec_len T.1.toNat
    simp
    omega
  | k + 1, hk => by
    rw [etL_succ T k (by omega)]
    have h1 := et_len T h8 hs ht k (by omega)
    have h2 := hs k (by omega)
    have h3 : (txAt T.2 k).data.toList.length = (txAt T.2 k).size := rfl
    simp at h3 ⊢
    omega
set_option maxRecDepth 20000 in
set_option maxHeartbeats 4000000 in
theorem implText_any (T : Evt) (hok : EvOk T) (g c : Nat) (w : World) (hS : StrsAt w g T.2) (hkw : Kw w) (hgl : 0 < w.heap.size) (hp : Pw w) :
    Calls Tryd.prog 33 #[.agg #[.int .i64 T.1, .slice (some ⟨g, 0, none⟩) T.2.length c]] w fun e w' => e = .returned (.string (etS T)) ∧ Below w.heap.size w w' := by
  have HB0 := hid ((Below.refl w.heap.size w).alloc (Nat.le_refl _) (.cells #[.int .i64 T.1, .slice (some ⟨g, 0, none⟩) T.2.length c] 38))
  have HX0 := hid (BoxE.new w T.1 (.slice (some ⟨g, 0, none⟩) T.2.length c) 38)
  have HT0 : Hid (TsAt (w.alloc (.cells #[.int .i64 T.1, .slice (some ⟨g, 0, none⟩) T.2.length c] 38)) (some ⟨g, 0, none⟩) T.2) := TsAt.below (Or.inr ⟨g, rfl, hS⟩) HB0.out
  have HP0 := hid (hp.below HB0.out)
  have HK0 := hid (hkw.below HB0.out hgl)
  have hgl0 := Nat.lt_of_lt_of_le hgl HB0.out.size
  have HO := hid hok
  clear hS hok hp hkw
  rcases (Bool.eq_false_or_eq_true (evR T)).symm with hw | hw
  · have HV : Hid (etS T = ByteArray.empty) := by show etS T = _; simp [etS, hw]
    have HW := hid hw
    clear hw
    go_enter Tryd.func33, Tryd.ntmps33
    go_wp2_with (go_at_call 28; refine (implEvent_is T false HW.out HO.out _ c _ HT0.out HK0.out hgl0).mono ?_; rintro e w1 ⟨rfl, hb1⟩; have HB1 := hid (HB0.out.trans (hb1.mono (by simp))); clear hb1)
    go_ret
    exact ⟨by rw [HV.out]; rfl, HB1.out⟩
  have HV : Hid (etS T = ⟨(etL T T.2.length).toArray⟩) := by show etS T = _; simp [etS, hw]
  have htm := evR_time T hw
  have h8 : T.2.length ≤ 8 ∧ ∀ i, i < T.2.length → (txAt T.2 i).size ≤ 8 := by
    have h := hw
    simp only [evR, evB, namesB, Bool.and_eq_true, decide_eq_true_eq] at h
    exact ⟨h.2.1, fun i hi => (wordB_len _ (namesTo_word T.2 i _ hi h.2.2).1).2⟩
  have HLn := hid (et_len T h8.1 h8.2 htm.2 T.2.length (Nat.le_refl _))
  have hl8 := h8.1
  have HW := hid hw
  obtain ⟨q, hq⟩ : ∃ q : Nat, T.1 = q := ⟨T.1.toNat, by omega⟩
  have hq6 : q ≤ 1000000 := by omega
  have HQ := hid hq
  have HJ := hid (join_et T q hq)
  obtain ⟨i0, hi, hz0, hz1, hz2⟩ := info_parts Tryd.infoS1
  clear hw h8 htm
  rw [hq] at HB0 HX0 HT0 HP0 HK0 hgl0 ⊢
  go_enter Tryd.func33, Tryd.ntmps33
  go_wp2_with (first | (go_at_call 28; have HCR := implEvent_is T true HW.out HO.out _ c _ HT0.out HK0.out hgl0; rw [HQ.out] at HCR; refine HCR.mono ?_; rintro e w1 ⟨rfl, hb1⟩; have HB1 := hid (HB0.out.trans (hb1.mono (by simp))); have HX1 := hid (HX0.out.below hb1); have HT1 := hid (HT0.out.below hb1); have HP1 := hid (HP0.out.below hb1); have hz1' := HB1.out.size; obtain ⟨hq1, x0, x1⟩ := HX1.out; clear hb1 HCR) | (go_at_call 78; refine (format_any q hq6 _ HP1.out).mono ?_; rintro e w2 ⟨rfl, hb2⟩; have HB2 := hid (HB1.out.trans (hb2.mono hz1')); obtain ⟨hq2, y0, y1⟩ := HX1.out.below hb2; have HT2 := hid (HT1.out.below hb2); have hz2' := HB2.out.size; have HO2 := hid (own_lit w2 w2.heap.size (Nat.le_refl _) (decS q)); have HT3 := hid (HT2.out.below ((Below.refl w2.heap.size w2).alloc (Nat.le_refl _) (.cells #[.string (decS q)] 9))); clear hb2 x0 x1 hq1) | (at_builtin; refine wpList_append_own_at _ rfl _ _ 29 rfl w2.heap.size 9 i0 _ 1 16 Tryd.uSts hi hz0 hz1 hz2 rfl (by decide) _ _ _ rfl HO2.out ⟨g, 0, none⟩ T.2.length c (T.2.map Value.string) rfl (by simp) (strs_cells (ts_cells HT3.out)) (strs_one T.2) (by simp; unfold maxLen; omega) (by simp; omega) (by simp) ?_; intro v5 w5 hown5 hgrow5 _ hat5; have hO5 : OwS w5 w2.heap.size v5 (decS q :: T.2) := (by show w5.ownsRow _ _ _ _ _ _; simpa [Nat.add_comm] using hown5); have HB5 := hid ((HB2.out.alloc hz2' _).grown hgrow5 (by simp; omega) (fun k hk => by have := (World.ownsRow.lt HO2.out k hk).1; omega)); obtain ⟨gv, cv, rfl, hcv, hgv, hglt⟩ := hO5.some'; have HC5 := hid hgv; have hz5 := HB5.out.size; clear hown5 hgrow5 hat5 hO5) | (go_at_call 79; refine (Tryd.strings_Join gv 0 cv (decS q :: T.2) ⟨#[32]⟩ _ HC5.out hglt (by simp; omega) hcv (by have h1 := HJ.out; have h2 := HLn.out; show (Lib.join _ [32]).length ≤ _; rw [h1]; omega)).mono ?_; rintro e w6 ⟨he, hb6⟩; have he' : e = .returned (.string ⟨(etL T T.2.length).toArray⟩) := (by rw [he]; show Ending.returned (.string ⟨(Lib.join _ [32]).toArray⟩) = _; rw [HJ.out]); subst he'; have HB6 := hid (HB5.out.trans (hb6.mono hz5)); clear hb6 he))
  go_ret
  exact ⟨by rw [HV.out]; rfl, HB6.out⟩
end Go.Proofs.YthjnlcjjhklfpaaDoor
