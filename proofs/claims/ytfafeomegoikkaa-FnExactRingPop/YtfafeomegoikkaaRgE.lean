/-
  RingReady and RingOpen, the model's and the program's, by one contract each.
-/
import Derived.Test.YtfafeomegoikkaaRgC
import Derived.Test.YtfafeomegoikkaaOwI
namespace Go.Proofs.Ytfafeomegoikkaa
open Go.RowKit
set_option linter.unusedVariables false
set_option linter.unusedSimpArgs false
/-- The places from H on that are claimed and not filled. -/
def openTo (Z : List Int) (C H k : Nat) : List Int := ((List.range k).filter fun j => sqAt Z C (H + j) == ((H + j : Nat) : Int)).map fun j => ((H + j : Nat) : Int)
def itemsTo (Z : List Int) (C H k : Nat) : List Int := (List.range k).map fun j => itAt Z C (H + j)
/-- The first k places from H on are filled. -/
def filledTo (Z : List Int) (C H k : Nat) : Prop := ∀ j, j < k → sqAt Z C (H + j) = ((H + j : Nat) : Int) + 1
def fillN (Z : List Int) (C H : Nat) : Nat → Nat
  | 0 => 0
  | k + 1 => if fillN Z C H k = k ∧ sqAt Z C (H + k) = ((H + k : Nat) : Int) + 1 then k + 1 else fillN Z C H k
theorem openTo_yes (Z : List Int) (C H k : Nat) (h : sqAt Z C (H + k) = ((H + k : Nat) : Int)) : openTo Z C H (k + 1) = openTo Z C H k ++ [((H + k : Nat) : Int)] := by
  simp [openTo, List.range_succ, h]
theorem openTo_no (Z : List Int) (C H k : Nat) (h : ¬ sqAt Z C (H + k) = ((H + k : Nat) : Int)) : openTo Z C H (k + 1) = openTo Z C H k := by
  have h' : (sqAt Z C (H + k) == ((H + k : Nat) : Int)) = false := by simpa using h
  unfold openTo
  rw [List.range_succ, List.filter_append, List.filter_cons_of_neg (by rw [h']; simp)]
  simp
theorem openTo_len (Z : List Int) (C H k : Nat) : (openTo Z C H k).length ≤ k := by
  unfold openTo
  rw [List.length_map]
  exact Nat.le_trans (List.length_filter_le _ _) (by simp)
theorem itemsTo_succ (Z : List Int) (C H k : Nat) : itemsTo Z C H (k + 1) = itemsTo Z C H k ++ [itAt Z C (H + k)] := by simp [itemsTo, List.range_succ]
theorem itemsTo_len (Z : List Int) (C H k : Nat) : (itemsTo Z C H k).length = k := by simp [itemsTo]
theorem filledTo_succ {Z : List Int} {C H k : Nat} (h : filledTo Z C H k) (h1 : sqAt Z C (H + k) = ((H + k : Nat) : Int) + 1) : filledTo Z C H (k + 1) := fun j hj => by
  by_cases e : j = k
  · subst e; exact h1
  · exact h j (by omega)
theorem fillN_le (Z : List Int) (C H : Nat) : ∀ k, fillN Z C H k ≤ k
  | 0 => Nat.le_refl _
  | k + 1 => by have := fillN_le Z C H k; unfold fillN; split <;> omega
theorem fillN_all {Z : List Int} {C H : Nat} : ∀ k, filledTo Z C H k → fillN Z C H k = k
  | 0, _ => rfl
  | k + 1, h => by unfold fillN; rw [if_pos ⟨fillN_all k (fun j hj => h j (by omega)), h k (by omega)⟩]
theorem fillN_stop {Z : List Int} {C H k : Nat} (h : filledTo Z C H k) (h1 : ¬ sqAt Z C (H + k) = ((H + k : Nat) : Int) + 1) : ∀ m, k ≤ m → fillN Z C H m = k := by
  intro m hm
  induction m with
  | zero => rw [show k = 0 by omega]; rfl
  | succ m ih =>
    by_cases e : k = m + 1
    · subst e; exact fillN_all _ h
    · have h2 := ih (by omega)
      unfold fillN
      by_cases e2 : k = m
      · subst e2
        rw [if_neg (fun x => h1 x.2)]
        exact h2
      · rw [if_neg (fun x => by omega)]
        exact h2
def readyL (cap hd tl : Int) (n : Nat) (Z : List Int) : List Int := if ringB cap hd tl n Z = true then itemsTo Z cap.toNat hd.toNat (fillN Z cap.toNat hd.toNat (tl.toNat - hd.toNat)) else []
def openL (cap hd tl : Int) (n : Nat) (Z : List Int) : List Int := if ringB cap hd tl n Z = true then openTo Z cap.toNat hd.toNat (tl.toNat - hd.toNat) else []
theorem readyL_le (cap hd tl : Int) (n : Nat) (Z : List Int) : (readyL cap hd tl n Z).length ≤ 16 := by
  unfold readyL
  split
  · next h =>
    obtain ⟨C, H, T, rfl, rfl, rfl, _, _, _, _, _, _, _, _, _⟩ := ringB_parts h
    rw [itemsTo_len]
    have := fillN_le Z (C : Int).toNat (H : Int).toNat ((T : Int).toNat - (H : Int).toNat)
    omega
  · simp
theorem openL_le (cap hd tl : Int) (n : Nat) (Z : List Int) : (openL cap hd tl n Z).length ≤ 16 := by
  unfold openL
  split
  · next h =>
    obtain ⟨C, H, T, rfl, rfl, rfl, _, _, _, _, _, _, _, _, _⟩ := ringB_parts h
    have := openTo_len Z (C : Int).toNat (H : Int).toNat ((T : Int).toNat - (H : Int).toNat)
    omega
  · simp
theorem cup_two {T : Nat} {p s t : Int} (h : cupB T p s t = true) : (s = p ∧ t = 0) ∨ (s = p + 1 ∧ itemB t = true) := by
  simp only [cupB, Bool.or_eq_true, Bool.and_eq_true, beq_iff_eq, decide_eq_true_eq] at h
  rcases h with h | h
  · exact Or.inl h
  · exact Or.inr h.2
theorem waits_is (s t p : Int) (v : Bool) (hv : (s == p && t == 0) = v) (w : World) : Calls Try.prog 60 #[.agg #[.int .i64 s, .int .i64 t], .int .i64 p] w fun e w' => e = .returned (.bool v) ∧ Below w.heap.size w w' := by
  subst hv; exact waits_any s t p w
theorem OwnI.slice {w w' : World} {base n vc : Nat} {va : Option Addr} {Y : List Int} (h : OwnI w' base (.slice va n vc) Y) (hb : w.heap.size ≤ base) (hbel : Below w.heap.size w w') : NumsOut w w' va Y := by
  obtain ⟨a, c, e, h1⟩ := h.out hb hbel
  injection e with e1 e2 e3
  subst e1
  exact h1
theorem run_seq (w : World) (s t : Int) : (Instr.field 59 (.agg #[.int .i64 s, .int .i64 t]) 0).run Try.prog w = .ok (.int .i64 s) w := by kernel_rfl
theorem run_item (w : World) (s t : Int) : (Instr.field 59 (.agg #[.int .i64 s, .int .i64 t]) 1).run Try.prog w = .ok (.int .i64 t) w := by kernel_rfl
set_option maxRecDepth 20000 in
set_option maxHeartbeats 4000000 in
theorem specReady_any (cap hd tl : Int) (Z : List Int) (n : Nat) (hn : Z.length = n * 2) (a : Option Addr) (c : Nat) (hl : n ≤ 2000000) (w : World) (hA : ArgI w a Z) :
    Calls Try.prog 26 #[rgV cap hd tl a n c] w fun e w' => ∃ a' c', e = .returned (.slice a' (readyL cap hd tl n Z).length c') ∧ NumsOut w w' a' (readyL cap hd tl n Z) := by
  have HV : Hid (∀ cap hd tl a n c, rgV cap hd tl a n c = .agg #[.int .i64 cap, .int .i64 hd, .int .i64 tl, .slice a n c]) := fun _ _ _ _ _ _ => rfl
  obtain ⟨i0, hi0, iz0, iz1, iz2⟩ := info_parts Try.infoI
  have HB0 := hid ((Below.refl w.heap.size w).alloc (Nat.le_refl _) (.cells #[.int .i64 cap, .int .i64 hd, .int .i64 tl, .slice a n c] 25))
  have HA := hid (hA.on HB0.out)
  have HBX := hid (RBox.new w cap hd tl a n c 25)
  have HN := hid hn
  have HR := hid (fun w h => specRr_any cap hd tl Z n hn a c hl w h)
  rw [HV.out] at HR ⊢
  clear hA hn
  have hlz := HBX.out.lt
  have hw0 := HB0.out.size
  rcases Bool.eq_false_or_eq_true (ringB cap hd tl n Z) with h1 | h1
  rotate_left
  · have HL : Hid (readyL cap hd tl n Z = []) := by show readyL cap hd tl n Z = []; simp [readyL, h1]
    rw [h1] at HR
    rw [HL.out]
    clear h1
    go_enter Try.func26, Try.ntmps26
    go_wp2_with fail
    have HBX1 := hid (HBX.out.on (below_one' _ (.cells #[] 2)))
    have HA1 := hid (HA.out.on (below_one' _ (.cells #[] 2)))
    have HB1 := hid (HB0.out.trans ((below_one' _ (.cells #[] 2)).mono hw0))
    have hW2 : ((w.alloc (.cells #[.int .i64 cap, .int .i64 hd, .int .i64 tl, .slice a n c] 25)).alloc (.cells #[] 2)).heap.size = w.heap.size + 1 + 1 := by simp
    generalize (w.alloc (.cells #[.int .i64 cap, .int .i64 hd, .int .i64 tl, .slice a n c] 25)).alloc (.cells #[] 2) = W at *
    obtain ⟨hq, k0, k1, k2, k3⟩ := HBX1.out
    go_loopw [3, 4] (fun v t wr => v = .slice (some ⟨w.heap.size + 1, 0, none⟩) 0 0 ∧ t = .int .i64 hd ∧ W = wr) (fun _ _ _ => 0)
    case atStart => exact ⟨rfl, rfl, rfl⟩
    case round =>
      obtain ⟨rfl, rfl, rfl⟩ := hrel
      go_wp2_with (go_at_call 30; refine (HR.out _ HA1.out).mono ?_; rintro e w1 ⟨rfl, hb1⟩; have HB2 := hid (HB1.out.trans (hb1.mono HB1.out.size)); have hz1 := hb1.size; clear hb1)
      go_ret
      exact ⟨_, _, rfl, Or.inl rfl, Or.inl rfl, fun q e => (by cases e; exact ⟨by show _ ≤ _; simp, by show w.heap.size + 1 < _; omega⟩), HB2.out⟩
  obtain ⟨n', H, T, rfl, rfl, rfl, hnn, -, hH, hT, hHT, hTC, hC1, hC16, hpl⟩ := ringB_parts h1
  subst hnn
  have HP := hid (fun k hk => placesTo_at hpl k hk)
  have HL : Hid (readyL (n : Int) (H : Int) (T : Int) n Z = itemsTo Z n H (fillN Z n H (T - H))) := by show readyL (n : Int) (H : Int) (T : Int) n Z = _; simp [readyL, h1]
  have HCU := hid (fun P hP w hA => specCup_any n P H T Z HN.out hC1 hC16 hP a c w hA)
  unfold cuV at HCU
  simp only [HV.out] at HCU
  rw [h1] at HR
  clear h1 hpl
  generalize readyL (n : Int) (H : Int) (T : Int) n Z = Y at *
  have hWz : (w.alloc (.cells #[.int .i64 n, .int .i64 H, .int .i64 T, .slice a n c] 25)).heap.size = w.heap.size + 1 := by simp
  go_enter Try.func26, Try.ntmps26
  go_wp2_with fail
  have HBW : Hid (Below (w.heap.size + 1) (w.alloc (.cells #[.int .i64 n, .int .i64 H, .int .i64 T, .slice a n c] 25)) ((w.alloc (.cells #[.int .i64 n, .int .i64 H, .int .i64 T, .slice a n c] 25)).alloc (.cells #[] 2))) := (below_one' _ (.cells #[] 2)).mono (Nat.le_of_eq hWz.symm)
  have HOn := hid (own_none (w.alloc (.cells #[.int .i64 n, .int .i64 H, .int .i64 T, .slice a n c] 25)) (w.heap.size + 1) (by omega))
  rw [hWz] at HOn
  generalize w.alloc (.cells #[.int .i64 n, .int .i64 H, .int .i64 T, .slice a n c] 25) = W at *
  go_loopw [3, 4] (fun v t wr => ∃ (k : Nat) (D : List Int) (va : Option Addr) (vc : Nat), k ≤ T - H ∧ t = .int .i64 ((H + k : Nat) : Int) ∧ v = .slice va D.length vc ∧ D = itemsTo Z n H k ∧ OwnI wr (w.heap.size + 1) (.slice va D.length vc) D ∧ filledTo Z n H k ∧ Below (w.heap.size + 1) W wr) (fun _ t _ => T - (intOf t).toNat)
  case atStart => exact ⟨0, [], some ⟨w.heap.size + 1, 0, none⟩, 0, Nat.zero_le _, rfl, rfl, rfl, HOn.out, fun j hj => by omega, HBW.out⟩
  case round =>
    obtain ⟨k, D, va, vc, hk, rfl, rfl, hD, hown, hfi, hbel⟩ := hrel
    have hDl : D.length ≤ 16 := by rw [hD]; rw [itemsTo_len]; omega
    have HD := hid hD
    have HO := hid hown
    have HF : Hid (filledTo Z n H k) := hfi
    have HB := hid hbel
    have hqz' : w.heap.size + 1 ≤ wr.heap.size := by have := hbel.size; omega
    obtain ⟨hqz, k0, k1, k2, k3⟩ := HBX.out.below hbel (by omega)
    have HAr := hid (HA.out.below hbel (by omega))
    clear hown hfi hbel hD
    have HRr := hid (HR.out wr HAr.out)
    by_cases hlt : k < T - H
    · have hpl := HP.out k (by omega)
      have HC := hid (fun w h => HCU.out (H + k) (by omega) w h)
      have HS := hid (itemsTo_succ Z n H k)
      have HFS := hid (fun h => filledTo_succ HF.out (k := k) h)
      have HStop := hid (fun h => fillN_stop HF.out (k := k) h (T - H) hk)
      generalize sqAt Z n (H + k) = s at *
      generalize itAt Z n (H + k) = t at *
      have hp1 : ((H + k : Nat) : Int) < (T : Int) := by omega
      have hp0 : 0 ≤ ((H + k : Nat) : Int) ∧ ((H + k : Nat) : Int) ≤ 1000016 := by omega
      have HP1 : Hid (((H + (k + 1) : Nat) : Int) = ((H + k : Nat) : Int) + 1) := by show _ = _; omega
      generalize ((H + k : Nat) : Int) = p at *
      have q1 : ((p + 1) == (p + 1)) = true := by simp
      have q2 : ((p + 1) == p) = false := by simp; omega
      have q3 : ((p + 1) != p) = true := by simp; omega
      have q4 : (p == (p + 1)) = false := by simp; omega
      rcases cup_two hpl with ⟨rfl, rfl⟩ | ⟨rfl, ht⟩
      · go_wp2_with (first | (go_at_call 30; refine HRr.out.mono ?_; rintro e w1 ⟨rfl, hb1⟩; have HB1 := hid (HB.out.trans (hb1.mono hqz')); have HO1 := hid (HO.out.on hb1); obtain ⟨_, k0, k1, k2, k3⟩ := HBX.out.below HB1.out (by omega); have hz1 := hb1.size; have HA1 := hid (HAr.out.on hb1); have hz1' : w.heap.size + 1 ≤ w1.heap.size := (by omega); clear hb1) | (go_at_call 54; refine (HC.out _ HA1.out).mono ?_; rintro e w2 ⟨rfl, hb2⟩; have HB2 := hid (HB1.out.trans (hb2.mono hz1')); have HO2 := hid (HO1.out.on hb2); obtain ⟨_, k0, k1, k2, k3⟩ := HBX.out.below HB2.out (by omega); have hz2 := hb2.size; have HA2 := hid (HA1.out.on hb2); have hz2' : w.heap.size + 1 ≤ w2.heap.size := (by omega); have hf2 := run_seq w2 s 0; clear hb2))
        go_ret
        have HE : Hid (Y = D) := by show Y = D; rw [HL.out, HStop.out (by omega), HD.out]
        rw [HE.out]
        first
          | exact ⟨va, vc, rfl, OwnI.slice HO2.out (by omega) (HB0.out.trans (HB2.out.mono (by omega)))⟩
          | exact ⟨va, ⟨vc, rfl⟩, OwnI.slice HO2.out (by omega) (HB0.out.trans (HB2.out.mono (by omega)))⟩
      · go_wp2_with (first | (go_at_call 30; refine HRr.out.mono ?_; rintro e w1 ⟨rfl, hb1⟩; have HB1 := hid (HB.out.trans (hb1.mono hqz')); have HO1 := hid (HO.out.on hb1); obtain ⟨_, k0, k1, k2, k3⟩ := HBX.out.below HB1.out (by omega); have hz1 := hb1.size; have HA1 := hid (HAr.out.on hb1); have hz1' : w.heap.size + 1 ≤ w1.heap.size := (by omega); clear hb1) | (go_at_call 54; refine (HC.out _ HA1.out).mono ?_; rintro e w2 ⟨rfl, hb2⟩; have HB2 := hid (HB1.out.trans (hb2.mono hz1')); have HO2 := hid (HO1.out.on hb2); obtain ⟨_, k0, k1, k2, k3⟩ := HBX.out.below HB2.out (by omega); have hz2 := hb2.size; have HA2 := hid (HA1.out.on hb2); have hz2' : w.heap.size + 1 ≤ w2.heap.size := (by omega); have hf2 := run_seq w2 (p + 1) t; clear hb2) | (go_at_call 54; refine (HC.out _ HA2.out).mono ?_; rintro e w3 ⟨rfl, hb3⟩; have HB3 := hid (HB2.out.trans (hb3.mono hz2')); have HO3 := hid (HO2.out.on hb3); obtain ⟨_, k0, k1, k2, k3⟩ := HBX.out.below HB3.out (by omega); have hz3 := hb3.size; have hz3' : w.heap.size + 1 ≤ w3.heap.size := (by omega); have hf3 := run_item w3 (p + 1) t; clear hb3) | (at_builtin; go_loud (refine wpList_append_own_at _ rfl _ _ 37 rfl (w.heap.size + 1) 2 i0 _ 1 8 Try.uIs hi0 iz0 iz1 iz2 rfl (by decide) _ _ _ rfl (HO3.out.alloc _) ⟨w3.heap.size, 0, none⟩ 1 1 [.int .i64 t] rfl rfl (cell_one' _ _ (by simp) _ _) (by simp [Value.oneCell']) (by unfold maxLen; omega) (by omega) (by simp; omega) ?_; intro v5 w5 hown5 hgrow5 _ hat5; obtain ⟨gb, cp, rfl, _, _⟩ := World.ownsRow.form hown5 (by omega); have HO5 := hid (OwnI.snoc hown5); have HB5 := hid (HB3.out.trans ((((Save.refl w3 (fun j => w.heap.size + 1 ≤ j)).alloc _).grown hgrow5 (fun j e _ => (HO3.out.lt j e).1)).below (B := w.heap.size + 1) (by omega) (fun j h => h))); clear hown5 hgrow5 hat5)))
        go_roundw
        case rel => exact ⟨k + 1, D ++ [t], some ⟨gb, 0, none⟩, cp, by omega, by rw [HP1.out], by simp, by rw [HS.out, HD.out], by simpa using HO5.out, HFS.out (by first | trivial | rfl | omega), HB5.out⟩
        case measure => simp [intOf]; omega
    · have hk' : k = T - H := by omega
      subst hk'
      have hp1 : ¬ ((H + (T - H) : Nat) : Int) < (T : Int) := by omega
      go_wp2_with (go_at_call 30; refine HRr.out.mono ?_; rintro e w1 ⟨rfl, hb1⟩; have HB1 := hid (HB.out.trans (hb1.mono hqz')); have HO1 := hid (HO.out.on hb1); obtain ⟨_, k0, k1, k2, k3⟩ := HBX.out.below HB1.out (by omega); have hz1 := hb1.size; have HA1 := hid (HAr.out.on hb1); have hz1' : w.heap.size + 1 ≤ w1.heap.size := (by omega); clear hb1)
      go_ret
      have HE : Hid (Y = D) := by show Y = D; rw [HL.out, fillN_all _ HF.out, HD.out]
      rw [HE.out]
      first
        | exact ⟨va, vc, rfl, OwnI.slice HO1.out (by omega) (HB0.out.trans (HB1.out.mono (by omega)))⟩
        | exact ⟨va, ⟨vc, rfl⟩, OwnI.slice HO1.out (by omega) (HB0.out.trans (HB1.out.mono (by omega)))⟩
set_option maxRecDepth 20000 in
set_option maxHeartbeats 4000000 in
theorem specOpen_any (cap hd tl : Int) (Z : List Int) (n : Nat) (hn : Z.length = n * 2) (a : Option Addr) (c : Nat) (hl : n ≤ 2000000) (w : World) (hA : ArgI w a Z) :
    Calls Try.prog 28 #[rgV cap hd tl a n c] w fun e w' => ∃ a' c', e = .returned (.slice a' (openL cap hd tl n Z).length c') ∧ NumsOut w w' a' (openL cap hd tl n Z) := by
  have HV : Hid (∀ cap hd tl a n c, rgV cap hd tl a n c = .agg #[.int .i64 cap, .int .i64 hd, .int .i64 tl, .slice a n c]) := fun _ _ _ _ _ _ => rfl
  obtain ⟨i0, hi0, iz0, iz1, iz2⟩ := info_parts Try.infoI
  have HB0 := hid ((Below.refl w.heap.size w).alloc (Nat.le_refl _) (.cells #[.int .i64 cap, .int .i64 hd, .int .i64 tl, .slice a n c] 25))
  have HA := hid (hA.on HB0.out)
  have HBX := hid (RBox.new w cap hd tl a n c 25)
  have HN := hid hn
  have HR := hid (fun w h => specRr_any cap hd tl Z n hn a c hl w h)
  rw [HV.out] at HR ⊢
  clear hA hn
  have hlz := HBX.out.lt
  have hw0 := HB0.out.size
  rcases Bool.eq_false_or_eq_true (ringB cap hd tl n Z) with h1 | h1
  rotate_left
  · have HL : Hid (openL cap hd tl n Z = []) := by show openL cap hd tl n Z = []; simp [openL, h1]
    rw [h1] at HR
    rw [HL.out]
    clear h1
    go_enter Try.func28, Try.ntmps28
    go_wp2_with fail
    have HBX1 := hid (HBX.out.on (below_one' _ (.cells #[] 2)))
    have HA1 := hid (HA.out.on (below_one' _ (.cells #[] 2)))
    have HB1 := hid (HB0.out.trans ((below_one' _ (.cells #[] 2)).mono hw0))
    have hW2 : ((w.alloc (.cells #[.int .i64 cap, .int .i64 hd, .int .i64 tl, .slice a n c] 25)).alloc (.cells #[] 2)).heap.size = w.heap.size + 1 + 1 := by simp
    generalize (w.alloc (.cells #[.int .i64 cap, .int .i64 hd, .int .i64 tl, .slice a n c] 25)).alloc (.cells #[] 2) = W at *
    obtain ⟨hq, k0, k1, k2, k3⟩ := HBX1.out
    go_loopw [3, 4] (fun v t wr => v = .slice (some ⟨w.heap.size + 1, 0, none⟩) 0 0 ∧ t = .int .i64 hd ∧ W = wr) (fun _ _ _ => 0)
    case atStart => exact ⟨rfl, rfl, rfl⟩
    case round =>
      obtain ⟨rfl, rfl, rfl⟩ := hrel
      go_wp2_with (go_at_call 30; refine (HR.out _ HA1.out).mono ?_; rintro e w1 ⟨rfl, hb1⟩; have HB2 := hid (HB1.out.trans (hb1.mono HB1.out.size)); have hz1 := hb1.size; clear hb1)
      go_ret
      exact ⟨_, _, rfl, Or.inl rfl, Or.inl rfl, fun q e => (by cases e; exact ⟨by show _ ≤ _; simp, by show w.heap.size + 1 < _; omega⟩), HB2.out⟩
  obtain ⟨n', H, T, rfl, rfl, rfl, hnn, -, hH, hT, hHT, hTC, hC1, hC16, hpl⟩ := ringB_parts h1
  subst hnn
  have HP := hid (fun k hk => placesTo_at hpl k hk)
  have HL : Hid (openL (n : Int) (H : Int) (T : Int) n Z = openTo Z n H (T - H)) := by show openL (n : Int) (H : Int) (T : Int) n Z = _; simp [openL, h1]
  have HCU := hid (fun P hP w hA => specCup_any n P H T Z HN.out hC1 hC16 hP a c w hA)
  unfold cuV at HCU
  simp only [HV.out] at HCU
  rw [h1] at HR
  clear h1 hpl
  generalize openL (n : Int) (H : Int) (T : Int) n Z = Y at *
  have hWz : (w.alloc (.cells #[.int .i64 n, .int .i64 H, .int .i64 T, .slice a n c] 25)).heap.size = w.heap.size + 1 := by simp
  go_enter Try.func28, Try.ntmps28
  go_wp2_with fail
  have HBW : Hid (Below (w.heap.size + 1) (w.alloc (.cells #[.int .i64 n, .int .i64 H, .int .i64 T, .slice a n c] 25)) ((w.alloc (.cells #[.int .i64 n, .int .i64 H, .int .i64 T, .slice a n c] 25)).alloc (.cells #[] 2))) := (below_one' _ (.cells #[] 2)).mono (Nat.le_of_eq hWz.symm)
  have HOn := hid (own_none (w.alloc (.cells #[.int .i64 n, .int .i64 H, .int .i64 T, .slice a n c] 25)) (w.heap.size + 1) (by omega))
  rw [hWz] at HOn
  generalize w.alloc (.cells #[.int .i64 n, .int .i64 H, .int .i64 T, .slice a n c] 25) = W at *
  go_loopw [3, 4] (fun v t wr => ∃ (k : Nat) (D : List Int) (va : Option Addr) (vc : Nat), k ≤ T - H ∧ t = .int .i64 ((H + k : Nat) : Int) ∧ v = .slice va D.length vc ∧ D = openTo Z n H k ∧ OwnI wr (w.heap.size + 1) (.slice va D.length vc) D ∧ True ∧ Below (w.heap.size + 1) W wr) (fun _ t _ => T - (intOf t).toNat)
  case atStart => exact ⟨0, [], some ⟨w.heap.size + 1, 0, none⟩, 0, Nat.zero_le _, rfl, rfl, rfl, HOn.out, trivial, HBW.out⟩
  case round =>
    obtain ⟨k, D, va, vc, hk, rfl, rfl, hD, hown, hfi, hbel⟩ := hrel
    have hDl : D.length ≤ 16 := by rw [hD]; have := openTo_len Z n H k; omega
    have HD := hid hD
    have HO := hid hown
    have HF : Hid (True) := hfi
    have HB := hid hbel
    have hqz' : w.heap.size + 1 ≤ wr.heap.size := by have := hbel.size; omega
    obtain ⟨hqz, k0, k1, k2, k3⟩ := HBX.out.below hbel (by omega)
    have HAr := hid (HA.out.below hbel (by omega))
    clear hown hfi hbel hD
    have HRr := hid (HR.out wr HAr.out)
    by_cases hlt : k < T - H
    · have hpl := HP.out k (by omega)
      have HC := hid (fun w h => HCU.out (H + k) (by omega) w h)
      have HSy := hid (openTo_yes Z n H k)
      have HSn := hid (openTo_no Z n H k)
      generalize sqAt Z n (H + k) = s at *
      generalize itAt Z n (H + k) = t at *
      have hp1 : ((H + k : Nat) : Int) < (T : Int) := by omega
      have hp0 : 0 ≤ ((H + k : Nat) : Int) ∧ ((H + k : Nat) : Int) ≤ 1000016 := by omega
      have HP1 : Hid (((H + (k + 1) : Nat) : Int) = ((H + k : Nat) : Int) + 1) := by show _ = _; omega
      generalize ((H + k : Nat) : Int) = p at *
      have q1 : ((p + 1) == (p + 1)) = true := by simp
      have q2 : ((p + 1) == p) = false := by simp; omega
      have q3 : ((p + 1) != p) = true := by simp; omega
      have q4 : (p == (p + 1)) = false := by simp; omega
      rcases cup_two hpl with ⟨rfl, rfl⟩ | ⟨rfl, ht⟩
      · go_wp2_with (first | (go_at_call 30; refine HRr.out.mono ?_; rintro e w1 ⟨rfl, hb1⟩; have HB1 := hid (HB.out.trans (hb1.mono hqz')); have HO1 := hid (HO.out.on hb1); obtain ⟨_, k0, k1, k2, k3⟩ := HBX.out.below HB1.out (by omega); have hz1 := hb1.size; have HA1 := hid (HAr.out.on hb1); have hz1' : w.heap.size + 1 ≤ w1.heap.size := (by omega); clear hb1) | (go_at_call 54; refine (HC.out _ HA1.out).mono ?_; rintro e w2 ⟨rfl, hb2⟩; have HB2 := hid (HB1.out.trans (hb2.mono hz1')); have HO2 := hid (HO1.out.on hb2); obtain ⟨_, k0, k1, k2, k3⟩ := HBX.out.below HB2.out (by omega); have hz2 := hb2.size; have HA2 := hid (HA1.out.on hb2); have hz2' : w.heap.size + 1 ≤ w2.heap.size := (by omega); have hf2 := run_seq w2 s 0; clear hb2) | (at_builtin; go_loud (refine wpList_append_own_at _ rfl _ _ 37 rfl (w.heap.size + 1) 2 i0 _ 1 8 Try.uIs hi0 iz0 iz1 iz2 rfl (by decide) _ _ _ rfl (HO2.out.alloc _) ⟨w2.heap.size, 0, none⟩ 1 1 [.int .i64 s] rfl rfl (cell_one' _ _ (by simp) _ _) (by simp [Value.oneCell']) (by unfold maxLen; omega) (by omega) (by simp; omega) ?_; intro v5 w5 hown5 hgrow5 _ hat5; obtain ⟨gb, cp, rfl, _, _⟩ := World.ownsRow.form hown5 (by omega); have HO5 := hid (OwnI.snoc hown5); have HB5 := hid (HB2.out.trans ((((Save.refl w2 (fun j => w.heap.size + 1 ≤ j)).alloc _).grown hgrow5 (fun j e _ => (HO2.out.lt j e).1)).below (B := w.heap.size + 1) (by omega) (fun j h => h))); clear hown5 hgrow5 hat5)))
        go_roundw
        case rel => exact ⟨k + 1, D ++ [s], some ⟨gb, 0, none⟩, cp, by omega, by rw [HP1.out], by simp, by rw [HSy.out (by first | trivial | rfl | omega), HD.out], by simpa using HO5.out, trivial, HB5.out⟩
        case measure => simp [intOf]; omega
      · go_wp2_with (first | (go_at_call 30; refine HRr.out.mono ?_; rintro e w1 ⟨rfl, hb1⟩; have HB1 := hid (HB.out.trans (hb1.mono hqz')); have HO1 := hid (HO.out.on hb1); obtain ⟨_, k0, k1, k2, k3⟩ := HBX.out.below HB1.out (by omega); have hz1 := hb1.size; have HA1 := hid (HAr.out.on hb1); have hz1' : w.heap.size + 1 ≤ w1.heap.size := (by omega); clear hb1) | (go_at_call 54; refine (HC.out _ HA1.out).mono ?_; rintro e w2 ⟨rfl, hb2⟩; have HB2 := hid (HB1.out.trans (hb2.mono hz1')); have HO2 := hid (HO1.out.on hb2); obtain ⟨_, k0, k1, k2, k3⟩ := HBX.out.below HB2.out (by omega); have hz2 := hb2.size; have HA2 := hid (HA1.out.on hb2); have hz2' : w.heap.size + 1 ≤ w2.heap.size := (by omega); have hf2 := run_seq w2 (p + 1) t; clear hb2))
        go_roundw
        case rel => exact ⟨k + 1, D, va, vc, by omega, by rw [HP1.out], rfl, by rw [HSn.out (by omega), HD.out], HO2.out, trivial, HB2.out⟩
        case measure => simp [intOf]; omega
    · have hk' : k = T - H := by omega
      subst hk'
      have hp1 : ¬ ((H + (T - H) : Nat) : Int) < (T : Int) := by omega
      go_wp2_with (go_at_call 30; refine HRr.out.mono ?_; rintro e w1 ⟨rfl, hb1⟩; have HB1 := hid (HB.out.trans (hb1.mono hqz')); have HO1 := hid (HO.out.on hb1); obtain ⟨_, k0, k1, k2, k3⟩ := HBX.out.below HB1.out (by omega); have hz1 := hb1.size; have HA1 := hid (HAr.out.on hb1); have hz1' : w.heap.size + 1 ≤ w1.heap.size := (by omega); clear hb1)
      go_ret
      have HE : Hid (Y = D) := by show Y = D; rw [HL.out, HD.out]
      rw [HE.out]
      first
        | exact ⟨va, vc, rfl, OwnI.slice HO1.out (by omega) (HB0.out.trans (HB1.out.mono (by omega)))⟩
        | exact ⟨va, ⟨vc, rfl⟩, OwnI.slice HO1.out (by omega) (HB0.out.trans (HB1.out.mono (by omega)))⟩
set_option maxRecDepth 20000 in
set_option maxHeartbeats 4000000 in
theorem implReady_any (cap hd tl : Int) (Z : List Int) (n : Nat) (hn : Z.length = n * 2) (a : Option Addr) (c : Nat) (hl : n ≤ 2000000) (w : World) (hA : ArgI w a Z) :
    Calls Try.prog 25 #[rgV cap hd tl a n c] w fun e w' => ∃ a' c', e = .returned (.slice a' (readyL cap hd tl n Z).length c') ∧ NumsOut w w' a' (readyL cap hd tl n Z) := by
  have HV : Hid (∀ cap hd tl a n c, rgV cap hd tl a n c = .agg #[.int .i64 cap, .int .i64 hd, .int .i64 tl, .slice a n c]) := fun _ _ _ _ _ _ => rfl
  obtain ⟨i0, hi0, iz0, iz1, iz2⟩ := info_parts Try.infoI
  have HB0 := hid ((Below.refl w.heap.size w).alloc (Nat.le_refl _) (.cells #[.int .i64 cap, .int .i64 hd, .int .i64 tl, .slice a n c] 25))
  have HA := hid (hA.on HB0.out)
  have HBX := hid (RBox.new w cap hd tl a n c 25)
  have HN := hid hn
  have HR := hid (fun w h => implRr_any cap hd tl Z n hn a c hl w h)
  rw [HV.out] at HR ⊢
  clear hA hn
  have hlz := HBX.out.lt
  have hw0 := HB0.out.size
  rcases Bool.eq_false_or_eq_true (ringB cap hd tl n Z) with h1 | h1
  rotate_left
  · have HL : Hid (readyL cap hd tl n Z = []) := by show readyL cap hd tl n Z = []; simp [readyL, h1]
    rw [h1] at HR
    rw [HL.out]
    clear h1
    go_enter Try.func25, Try.ntmps25
    go_wp2_with (go_at_call 29; refine (HR.out _ HA.out).mono ?_; rintro e w1 ⟨rfl, hb1⟩; have HB1 := hid (HB0.out.trans (hb1.mono hw0)); clear hb1)
    go_ret
    exact ⟨none, 0, rfl, Or.inl rfl, Or.inl rfl, fun q e => (by cases e), HB1.out⟩
  obtain ⟨n', H, T, rfl, rfl, rfl, hnn, -, hH, hT, hHT, hTC, hC1, hC16, hpl⟩ := ringB_parts h1
  subst hnn
  have HP := hid (fun k hk => placesTo_at hpl k hk)
  have HL : Hid (readyL (n : Int) (H : Int) (T : Int) n Z = itemsTo Z n H (fillN Z n H (T - H))) := by show readyL (n : Int) (H : Int) (T : Int) n Z = _; simp [readyL, h1]
  have HCU := hid (fun P hP w hA => implCup_any n P H T Z HN.out hC1 hC16 hP a c w hA)
  unfold cuV at HCU
  simp only [HV.out] at HCU
  rw [h1] at HR
  clear h1 hpl
  generalize readyL (n : Int) (H : Int) (T : Int) n Z = Y at *
  have hWz : (w.alloc (.cells #[.int .i64 n, .int .i64 H, .int .i64 T, .slice a n c] 25)).heap.size = w.heap.size + 1 := by simp
  go_enter Try.func25, Try.ntmps25
  go_wp2_with (go_at_call 29; refine (HR.out _ HA.out).mono ?_; rintro e w1 ⟨rfl, hb1⟩; have HBW := hid (hb1.mono (Nat.le_of_eq hWz.symm)); obtain ⟨_, k0, k1, k2, k3⟩ := HBX.out.on hb1; clear hb1)
  generalize w.alloc (.cells #[.int .i64 n, .int .i64 H, .int .i64 T, .slice a n c] 25) = W at *
  go_loopw [3, 4] (fun v t wr => ∃ (k : Nat) (D : List Int) (va : Option Addr) (vc : Nat), k ≤ T - H ∧ t = .int .i64 ((H + k : Nat) : Int) ∧ v = .slice va D.length vc ∧ D = itemsTo Z n H k ∧ OwnI wr (w.heap.size + 1) (.slice va D.length vc) D ∧ filledTo Z n H k ∧ Below (w.heap.size + 1) W wr) (fun _ t _ => T - (intOf t).toNat)
  case atStart => exact ⟨0, [], none, 0, Nat.zero_le _, rfl, rfl, rfl, OwnI.nil _ _, fun j hj => by omega, HBW.out⟩
  case round =>
    obtain ⟨k, D, va, vc, hk, rfl, rfl, hD, hown, hfi, hbel⟩ := hrel
    have hDl : D.length ≤ 16 := by rw [hD]; rw [itemsTo_len]; omega
    have HD := hid hD
    have HO := hid hown
    have HF : Hid (filledTo Z n H k) := hfi
    have HB := hid hbel
    have hqz' : w.heap.size + 1 ≤ wr.heap.size := by have := hbel.size; omega
    obtain ⟨hqz, k0, k1, k2, k3⟩ := HBX.out.below hbel (by omega)
    have HAr := hid (HA.out.below hbel (by omega))
    clear hown hfi hbel hD
    by_cases hlt : k < T - H
    · have hpl := HP.out k (by omega)
      have HC := hid (fun w h => HCU.out (H + k) (by omega) w h)
      have HS := hid (itemsTo_succ Z n H k)
      have HFS := hid (fun h => filledTo_succ HF.out (k := k) h)
      have HStop := hid (fun h => fillN_stop HF.out (k := k) h (T - H) hk)
      generalize sqAt Z n (H + k) = s at *
      generalize itAt Z n (H + k) = t at *
      have hp1 : ((H + k : Nat) : Int) < (T : Int) := by omega
      have hp0 : 0 ≤ ((H + k : Nat) : Int) ∧ ((H + k : Nat) : Int) ≤ 1000016 := by omega
      have HP1 : Hid (((H + (k + 1) : Nat) : Int) = ((H + k : Nat) : Int) + 1) := by show _ = _; omega
      generalize ((H + k : Nat) : Int) = p at *
      have q1 : ((p + 1) == (p + 1)) = true := by simp
      have q2 : ((p + 1) == p) = false := by simp; omega
      have q3 : ((p + 1) != p) = true := by simp; omega
      have q4 : (p == (p + 1)) = false := by simp; omega
      rcases cup_two hpl with ⟨rfl, rfl⟩ | ⟨rfl, ht⟩
      · have HW := hid (fun w => waits_is s 0 s true (by simp) w)
        go_wp2_with (first | (go_at_call 59; refine (HC.out _ HAr.out).mono ?_; rintro e w1 ⟨rfl, hb1⟩; have HB1 := hid (HB.out.trans (hb1.mono hqz')); have HO1 := hid (HO.out.on hb1); obtain ⟨_, k0, k1, k2, k3⟩ := HBX.out.below HB1.out (by omega); have hz1 := hb1.size; have hne : ¬ w.heap.size = w1.heap.size := (by omega); clear hb1) | (go_at_call 60; refine (HW.out _).mono ?_; rintro e w2 ⟨rfl, hb2⟩; have HB2 := hid ((HB1.out.alloc (by omega) _).trans (hb2.mono (by simp; omega))); have HO2 := hid ((HO1.out.on (below_one' _ _)).on hb2); have m1 := (hb2.cell (p := ⟨w1.heap.size, 1, none⟩) (by simp)).trans (by simp [go_sem] : _ = some (.int .i64 0)); have hz2 := HB2.out.size; have hz3 : w.heap.size + 1 ≤ w2.heap.size := (by omega); obtain ⟨_, k0', k1', k2', k3'⟩ := HBX.out.below HB2.out (by omega); clear hb2))
        go_ret
        have HE : Hid (Y = D) := by show Y = D; rw [HL.out, HStop.out (by omega), HD.out]
        rw [HE.out]
        first
          | exact ⟨va, vc, rfl, OwnI.slice HO2.out (by omega) (HB0.out.trans (HB2.out.mono (by omega)))⟩
          | exact ⟨va, ⟨vc, rfl⟩, OwnI.slice HO2.out (by omega) (HB0.out.trans (HB2.out.mono (by omega)))⟩
      · have HW := hid (fun w => waits_is (p + 1) t p false (by rw [q2]; rfl) w)
        go_wp2_with (first | (go_at_call 59; refine (HC.out _ HAr.out).mono ?_; rintro e w1 ⟨rfl, hb1⟩; have HB1 := hid (HB.out.trans (hb1.mono hqz')); have HO1 := hid (HO.out.on hb1); obtain ⟨_, k0, k1, k2, k3⟩ := HBX.out.below HB1.out (by omega); have hz1 := hb1.size; have hne : ¬ w.heap.size = w1.heap.size := (by omega); clear hb1) | (go_at_call 60; refine (HW.out _).mono ?_; rintro e w2 ⟨rfl, hb2⟩; have HB2 := hid ((HB1.out.alloc (by omega) _).trans (hb2.mono (by simp; omega))); have HO2 := hid ((HO1.out.on (below_one' _ _)).on hb2); have m1 := (hb2.cell (p := ⟨w1.heap.size, 1, none⟩) (by simp)).trans (by simp [go_sem] : _ = some (.int .i64 t)); have hz2 := HB2.out.size; have hz3 : w.heap.size + 1 ≤ w2.heap.size := (by omega); obtain ⟨_, k0', k1', k2', k3'⟩ := HBX.out.below HB2.out (by omega); clear hb2) | (at_builtin; go_loud (refine wpList_append_own_at _ rfl _ _ 37 rfl (w.heap.size + 1) 2 i0 _ 1 8 Try.uIs hi0 iz0 iz1 iz2 rfl (by decide) _ _ _ rfl (HO2.out.alloc _) ⟨w2.heap.size, 0, none⟩ 1 1 [.int .i64 t] rfl rfl (cell_one' _ _ (by simp) _ _) (by simp [Value.oneCell']) (by unfold maxLen; omega) (by omega) (by simp; omega) ?_; intro v5 w5 hown5 hgrow5 _ hat5; obtain ⟨gb, cp, rfl, _, _⟩ := World.ownsRow.form hown5 (by omega); have HO5 := hid (OwnI.snoc hown5); have HB5 := hid (HB2.out.trans ((((Save.refl w2 (fun j => w.heap.size + 1 ≤ j)).alloc _).grown hgrow5 (fun j e _ => (HO2.out.lt j e).1)).below (B := w.heap.size + 1) (by omega) (fun j h => h))); clear hown5 hgrow5 hat5)))
        go_roundw
        case rel => exact ⟨k + 1, D ++ [t], some ⟨gb, 0, none⟩, cp, by omega, by rw [HP1.out], by simp, by rw [HS.out, HD.out], by simpa using HO5.out, HFS.out (by first | trivial | rfl | omega), HB5.out⟩
        case measure => simp [intOf]; omega
    · have hk' : k = T - H := by omega
      subst hk'
      have hp1 : ¬ ((H + (T - H) : Nat) : Int) < (T : Int) := by omega
      go_wp2_with fail
      go_ret
      have HE : Hid (Y = D) := by show Y = D; rw [HL.out, fillN_all _ HF.out, HD.out]
      rw [HE.out]
      first
        | exact ⟨va, vc, rfl, OwnI.slice HO.out (by omega) (HB0.out.trans (HB.out.mono (by omega)))⟩
        | exact ⟨va, ⟨vc, rfl⟩, OwnI.slice HO.out (by omega) (HB0.out.trans (HB.out.mono (by omega)))⟩
set_option maxRecDepth 20000 in
set_option maxHeartbeats 4000000 in
theorem implOpen_any (cap hd tl : Int) (Z : List Int) (n : Nat) (hn : Z.length = n * 2) (a : Option Addr) (c : Nat) (hl : n ≤ 2000000) (w : World) (hA : ArgI w a Z) :
    Calls Try.prog 27 #[rgV cap hd tl a n c] w fun e w' => ∃ a' c', e = .returned (.slice a' (openL cap hd tl n Z).length c') ∧ NumsOut w w' a' (openL cap hd tl n Z) := by
  have HV : Hid (∀ cap hd tl a n c, rgV cap hd tl a n c = .agg #[.int .i64 cap, .int .i64 hd, .int .i64 tl, .slice a n c]) := fun _ _ _ _ _ _ => rfl
  obtain ⟨i0, hi0, iz0, iz1, iz2⟩ := info_parts Try.infoI
  have HB0 := hid ((Below.refl w.heap.size w).alloc (Nat.le_refl _) (.cells #[.int .i64 cap, .int .i64 hd, .int .i64 tl, .slice a n c] 25))
  have HA := hid (hA.on HB0.out)
  have HBX := hid (RBox.new w cap hd tl a n c 25)
  have HN := hid hn
  have HR := hid (fun w h => implRr_any cap hd tl Z n hn a c hl w h)
  rw [HV.out] at HR ⊢
  clear hA hn
  have hlz := HBX.out.lt
  have hw0 := HB0.out.size
  rcases Bool.eq_false_or_eq_true (ringB cap hd tl n Z) with h1 | h1
  rotate_left
  · have HL : Hid (openL cap hd tl n Z = []) := by show openL cap hd tl n Z = []; simp [openL, h1]
    rw [h1] at HR
    rw [HL.out]
    clear h1
    go_enter Try.func27, Try.ntmps27
    go_wp2_with (go_at_call 29; refine (HR.out _ HA.out).mono ?_; rintro e w1 ⟨rfl, hb1⟩; have HB1 := hid (HB0.out.trans (hb1.mono hw0)); clear hb1)
    go_ret
    exact ⟨none, 0, rfl, Or.inl rfl, Or.inl rfl, fun q e => (by cases e), HB1.out⟩
  obtain ⟨n', H, T, rfl, rfl, rfl, hnn, -, hH, hT, hHT, hTC, hC1, hC16, hpl⟩ := ringB_parts h1
  subst hnn
  have HP := hid (fun k hk => placesTo_at hpl k hk)
  have HL : Hid (openL (n : Int) (H : Int) (T : Int) n Z = openTo Z n H (T - H)) := by show openL (n : Int) (H : Int) (T : Int) n Z = _; simp [openL, h1]
  have HCU := hid (fun P hP w hA => implCup_any n P H T Z HN.out hC1 hC16 hP a c w hA)
  unfold cuV at HCU
  simp only [HV.out] at HCU
  rw [h1] at HR
  clear h1 hpl
  generalize openL (n : Int) (H : Int) (T : Int) n Z = Y at *
  have hWz : (w.alloc (.cells #[.int .i64 n, .int .i64 H, .int .i64 T, .slice a n c] 25)).heap.size = w.heap.size + 1 := by simp
  go_enter Try.func27, Try.ntmps27
  go_wp2_with (go_at_call 29; refine (HR.out _ HA.out).mono ?_; rintro e w1 ⟨rfl, hb1⟩; have HBW := hid (hb1.mono (Nat.le_of_eq hWz.symm)); obtain ⟨_, k0, k1, k2, k3⟩ := HBX.out.on hb1; clear hb1)
  generalize w.alloc (.cells #[.int .i64 n, .int .i64 H, .int .i64 T, .slice a n c] 25) = W at *
  go_loopw [3, 4] (fun v t wr => ∃ (k : Nat) (D : List Int) (va : Option Addr) (vc : Nat), k ≤ T - H ∧ t = .int .i64 ((H + k : Nat) : Int) ∧ v = .slice va D.length vc ∧ D = openTo Z n H k ∧ OwnI wr (w.heap.size + 1) (.slice va D.length vc) D ∧ True ∧ Below (w.heap.size + 1) W wr) (fun _ t _ => T - (intOf t).toNat)
  case atStart => exact ⟨0, [], none, 0, Nat.zero_le _, rfl, rfl, rfl, OwnI.nil _ _, trivial, HBW.out⟩
  case round =>
    obtain ⟨k, D, va, vc, hk, rfl, rfl, hD, hown, hfi, hbel⟩ := hrel
    have hDl : D.length ≤ 16 := by rw [hD]; have := openTo_len Z n H k; omega
    have HD := hid hD
    have HO := hid hown
    have HF : Hid (True) := hfi
    have HB := hid hbel
    have hqz' : w.heap.size + 1 ≤ wr.heap.size := by have := hbel.size; omega
    obtain ⟨hqz, k0, k1, k2, k3⟩ := HBX.out.below hbel (by omega)
    have HAr := hid (HA.out.below hbel (by omega))
    clear hown hfi hbel hD
    by_cases hlt : k < T - H
    · have hpl := HP.out k (by omega)
      have HC := hid (fun w h => HCU.out (H + k) (by omega) w h)
      have HSy := hid (openTo_yes Z n H k)
      have HSn := hid (openTo_no Z n H k)
      generalize sqAt Z n (H + k) = s at *
      generalize itAt Z n (H + k) = t at *
      have hp1 : ((H + k : Nat) : Int) < (T : Int) := by omega
      have hp0 : 0 ≤ ((H + k : Nat) : Int) ∧ ((H + k : Nat) : Int) ≤ 1000016 := by omega
      have HP1 : Hid (((H + (k + 1) : Nat) : Int) = ((H + k : Nat) : Int) + 1) := by show _ = _; omega
      generalize ((H + k : Nat) : Int) = p at *
      have q1 : ((p + 1) == (p + 1)) = true := by simp
      have q2 : ((p + 1) == p) = false := by simp; omega
      have q3 : ((p + 1) != p) = true := by simp; omega
      have q4 : (p == (p + 1)) = false := by simp; omega
      rcases cup_two hpl with ⟨rfl, rfl⟩ | ⟨rfl, ht⟩
      · have HW := hid (fun w => waits_is s 0 s true (by simp) w)
        go_wp2_with (first | (go_at_call 59; refine (HC.out _ HAr.out).mono ?_; rintro e w1 ⟨rfl, hb1⟩; have HB1 := hid (HB.out.trans (hb1.mono hqz')); have HO1 := hid (HO.out.on hb1); obtain ⟨_, k0, k1, k2, k3⟩ := HBX.out.below HB1.out (by omega); have hz1 := hb1.size; have hne : ¬ w.heap.size = w1.heap.size := (by omega); clear hb1) | (go_at_call 60; refine (HW.out _).mono ?_; rintro e w2 ⟨rfl, hb2⟩; have HB2 := hid (HB1.out.trans (hb2.mono (by omega))); have HO2 := hid (HO1.out.on hb2); have hz2 := hb2.size; have hz3 : w.heap.size + 1 ≤ w2.heap.size := (by omega); obtain ⟨_, k0', k1', k2', k3'⟩ := HBX.out.below HB2.out (by omega); clear hb2) | (at_builtin; go_loud (refine wpList_append_own_at _ rfl _ _ 37 rfl (w.heap.size + 1) 2 i0 _ 1 8 Try.uIs hi0 iz0 iz1 iz2 rfl (by decide) _ _ _ rfl (HO2.out.alloc _) ⟨w2.heap.size, 0, none⟩ 1 1 [.int .i64 s] rfl rfl (cell_one' _ _ (by simp) _ _) (by simp [Value.oneCell']) (by unfold maxLen; omega) (by omega) (by simp; omega) ?_; intro v5 w5 hown5 hgrow5 _ hat5; obtain ⟨gb, cp, rfl, _, _⟩ := World.ownsRow.form hown5 (by omega); have HO5 := hid (OwnI.snoc hown5); have HB5 := hid (HB2.out.trans ((((Save.refl w2 (fun j => w.heap.size + 1 ≤ j)).alloc _).grown hgrow5 (fun j e _ => (HO2.out.lt j e).1)).below (B := w.heap.size + 1) (by omega) (fun j h => h))); clear hown5 hgrow5 hat5)))
        go_roundw
        case rel => exact ⟨k + 1, D ++ [s], some ⟨gb, 0, none⟩, cp, by omega, by rw [HP1.out], by simp, by rw [HSy.out (by first | trivial | rfl | omega), HD.out], by simpa using HO5.out, trivial, HB5.out⟩
        case measure => simp [intOf]; omega
      · have HW := hid (fun w => waits_is (p + 1) t p false (by rw [q2]; rfl) w)
        go_wp2_with (first | (go_at_call 59; refine (HC.out _ HAr.out).mono ?_; rintro e w1 ⟨rfl, hb1⟩; have HB1 := hid (HB.out.trans (hb1.mono hqz')); have HO1 := hid (HO.out.on hb1); obtain ⟨_, k0, k1, k2, k3⟩ := HBX.out.below HB1.out (by omega); have hz1 := hb1.size; have hne : ¬ w.heap.size = w1.heap.size := (by omega); clear hb1) | (go_at_call 60; refine (HW.out _).mono ?_; rintro e w2 ⟨rfl, hb2⟩; have HB2 := hid (HB1.out.trans (hb2.mono (by omega))); have HO2 := hid (HO1.out.on hb2); have hz2 := hb2.size; have hz3 : w.heap.size + 1 ≤ w2.heap.size := (by omega); obtain ⟨_, k0', k1', k2', k3'⟩ := HBX.out.below HB2.out (by omega); clear hb2))
        go_roundw
        case rel => exact ⟨k + 1, D, va, vc, by omega, by rw [HP1.out], rfl, by rw [HSn.out (by omega), HD.out], HO2.out, trivial, HB2.out⟩
        case measure => simp [intOf]; omega
    · have hk' : k = T - H := by omega
      subst hk'
      have hp1 : ¬ ((H + (T - H) : Nat) : Int) < (T : Int) := by omega
      go_wp2_with fail
      go_ret
      have HE : Hid (Y = D) := by show Y = D; rw [HL.out, HD.out]
      rw [HE.out]
      first
        | exact ⟨va, vc, rfl, OwnI.slice HO.out (by omega) (HB0.out.trans (HB.out.mono (by omega)))⟩
        | exact ⟨va, ⟨vc, rfl⟩, OwnI.slice HO.out (by omega) (HB0.out.trans (HB.out.mono (by omega)))⟩
end Go.Proofs.Ytfafeomegoikkaa
