/-
  The model's l07Lay and l07Done, by their contracts.
-/
import Derived.Test.YtagklhfejbdkdaaDoorFmS
import Derived.Test.YtagklhfejbdkdaaDoorPartS
namespace Go.Proofs.YtagklhfejbdkdaaDoor
open Go.RowKit
set_option linter.unusedVariables false
set_option linter.unusedSimpArgs false
theorem moved_ok {x : Nd} {to : Nat → Int} (h : ndOk x) (ht : ∀ j, 0 ≤ to j ∧ to j ≤ 1000) : ndOk (movedN to x) := by
  obtain ⟨h1, h2, h3, h4, h5, h6⟩ := h
  refine ⟨h1, ?_, ?_, h4, h5, h6⟩
  · show _ ≤ (if 0 < armsN x.k then to x.a.toNat else x.a) ∧ (if 0 < armsN x.k then to x.a.toNat else x.a) ≤ _
    split
    · have := ht x.a.toNat; omega
    · exact h2
  · show _ ≤ (if 1 < armsN x.k then to x.b.toNat else x.b) ∧ (if 1 < armsN x.k then to x.b.toNat else x.b) ≤ _
    split
    · have := ht x.b.toNat; omega
    · exact h3
theorem lay_to {f : List Nd} {k n : Nat} (h : LaidG f k) (hk : k ≤ n) (hn : n ≤ 1000) : ∀ j, 0 ≤ (layS f k).2 j ∧ (layS f k).2 j ≤ 1000 := by
  intro j
  by_cases hj : j < k
  · have := h.to j hj; have := h.len; omega
  · rw [h.zero j (by omega)]; omega
theorem lay_ok {f : List Nd} (hok : ∀ i, i < f.length → ndOk (ndAt f i)) (hL : okL f f.length) (hn : f.length ≤ 1000) : ∀ k, k ≤ f.length → ∀ i, i < (layS f k).1.length → ndOk (ndAt (layS f k).1 i)
  | 0, _, i, hi => by simp [layS] at hi
  | k + 1, hk, i, hi => by
    have hlg := laid_all f f.length hL k (by omega)
    have h1 := lay_ok hok hL hn k (by omega)
    have h2 := moved_ok (hok k (by omega)) (lay_to hlg (n := f.length) (by omega) hn)
    have e : (layS f (k + 1)).1 = putG (layS f k).1 (movedN (layS f k).2 (ndAt f k)) := rfl
    rw [e] at hi ⊢
    by_cases h3 : i < (layS f k).1.length
    · rw [ndAt_put _ _ _ h3]; exact h1 i h3
    · have h4 := putG_len (layS f k).1 (movedN (layS f k).2 (ndAt f k))
      by_cases h5 : plG (layS f k).1 (movedN (layS f k).2 (ndAt f k)) < (layS f k).1.length
      · rw [putG_old h5] at hi; omega
      · have h6 := plG_le (layS f k).1 (movedN (layS f k).2 (ndAt f k))
        have h7 : i = plG (layS f k).1 (movedN (layS f k).2 (ndAt f k)) := by omega
        rw [h7, ndAt_put_at]; exact h2
set_option maxRecDepth 20000 in
set_option maxHeartbeats 8000000 in
theorem specLay_any (f : List Nd) (b cap rb base : Nat) (h0 : 0 < f.length) (hn : f.length ≤ 24) (hok : ∀ i, i < f.length → ndOk (ndAt f i)) (hL : okL f f.length) (hbb : b < base) (hbr : b ≠ rb) (w : World) (hN : NodesAt w b f) (v0 : Value) (hM : MkAt w rb base v0 []) :
    Calls Tryd.prog 42 #[.pointer (some ⟨rb, 0, none⟩), .slice (some ⟨b, 0, none⟩) f.length cap] w fun e w' => e = .returned (.int .i64 ((layS f f.length).2 (f.length - 1))) ∧ ∃ v', MkAt w' rb base v' (layS f f.length).1 ∧ Save w w' (fun j => j = rb ∨ base ≤ j) := by
  have HM := hid hM
  have HN := hid hN
  have HOk := hid hok
  have HL := hid (fun k (hk : k ≤ f.length) => laid_all f f.length hL k hk)
  have HLo := hid (lay_ok hok hL (by omega))
  have HLt := hid hL
  have hmk := run_make_row' (P := Tryd.prog) 45 2 (.int .i64 0) 8 Tryd.underlying45 Tryd.infoI rfl .i64 .i64 f.length (by omega) (by omega)
  have hrb := hM.lt
  have hltb := hM.ltb
  have HR0 : Hid (RowD (w.alloc (.cells (madeCells #[.int .i64 0] f.length) 2)) w.heap.size f.length (fun _ => 0)) := World.rowIs_made _ _ _ _
  have HW0 := hid (fone w (.cells (madeCells #[.int .i64 0] f.length) 2))
  clear hM hN hok hL
  go_enter Tryd.func42, Tryd.ntmps42
  go_wp2_with fail
  have hvo0 : ∀ q, v0.ownBlock = some q → q ≠ w.heap.size := fun q hq => by have := (World.ownsRow.lt HM.out.own q hq).2; omega
  have HM1 := hid (HM.out.on HW0.out)
  have HN1 := hid (HN.out.below HW0.out HN.out.1)
  have hsz1 : w.heap.size < (w.alloc (.cells (madeCells #[.int .i64 0] f.length) 2)).heap.size := by simp
  generalize w.alloc (.cells (madeCells #[.int .i64 0] f.length) 2) = W1 at *
  clear hmk
  go_loopw [6] (fun t wr => ∃ (k : Nat) (v : Value), k ≤ f.length ∧ t = .int .i64 k ∧ (∀ q, v.ownBlock = some q → q ≠ w.heap.size) ∧ RowD wr w.heap.size f.length (layS f k).2 ∧ MkAt wr rb base v (layS f k).1 ∧ Save W1 wr (fun j => j = rb ∨ base ≤ j)) (fun t _ => f.length - (intOf t).toNat)
  case atStart => exact ⟨0, v0, Nat.zero_le _, rfl, hvo0, HR0.out, HM1.out, Save.refl _ _⟩
  case round =>
    obtain ⟨k, v, hk, rfl, hvo, hrow, hM, hsv⟩ := hrel
    have HRow := hid hrow
    have HMr := hid hM
    have HSv := hid hsv
    have hszr := hsv.size
    have hrl := hrow.lt
    have hbw : b < w.heap.size := HN.out.1
    have HNr := hid (hsv.nodes HN1.out (by rintro (h | h) <;> omega))
    clear hrow hM hsv
    by_cases hlt : k < f.length
    · have HLg := hid (HL.out k (by omega))
      have HOy := hid (moved_ok (HOk.out k hlt) (lay_to (HL.out k (by omega)) (n := f.length) (by omega) (by omega)))
      have HOb := hid (fun j (h : v.ownBlock = some j) => (World.ownsRow.lt HMr.out.own j h).1)
      have hx := nodeB_arms _ _ (HLt.out k hlt)
      obtain ⟨c0, c1, c2, c3, c4, c5⟩ := HNr.out.2 k hlt
      have hbr' := HNr.out.1
      have hRE : ∀ j, (layS f (k + 1)).2 j = if j = k then ((plG (layS f k).1 (movedN (layS f k).2 (ndAt f k)) : Nat) : Int) else (layS f k).2 j := fun j => rfl
      have HGE : Hid ((layS f (k + 1)).1 = putG (layS f k).1 (movedN (layS f k).2 (ndAt f k))) := rfl
      rcases armsN_012 (ndAt f k).k with ha | ha | ha
      · have HM := hid (movedN_0 (layS f k).2 (ndAt f k) ha)
        have e : ndV (movedN (layS f k).2 (ndAt f k)) = .agg #[.int .i64 (ndAt f k).k, .int .i64 (ndAt f k).a, .int .i64 (ndAt f k).b, .int .i64 (ndAt f k).lo, .int .i64 (ndAt f k).hi, .string (ndAt f k).nm] := by rw [HM.out]; rfl
        have HPt := hid (fun w' h => by have := put_any (movedN (layS f k).2 (ndAt f k)) HOy.out (layS f k).1 rb base v (by have := HLg.out.len; omega) w' h; rw [e] at this; exact this)
        have HRE := hid hRE
        clear e hRE
        generalize hP : plG (layS f k).1 (movedN (layS f k).2 (ndAt f k)) = P at *
        generalize hG : putG (layS f k).1 (movedN (layS f k).2 (ndAt f k)) = G at *
        clear hP hG HM
        generalize ndAt f k = x at *
        go_wp2_with (first | (go_at_call 61; refine (arms_w _ _).mono ?_; rintro e w' ⟨rfl, rfl⟩) | (go_at_call 24; refine (HPt.out _ (HMr.out.on (fone wr _))).mono ?_; rintro e w2 ⟨rfl, v', hM2, hs2, hv2⟩; have HM2 := hid hM2; have HS2 := hid ((Save.of_below (fone wr _) (MkB rb v) (fun j h1 h2 => absurd h1 (by omega))).trans hs2); have HV2 := hid hv2; have HR2 := hid (World.rowIs.of_block HRow.out (HS2.out.block w.heap.size HRow.out.lt (by rintro (h | h); exact absurd h (by omega); exact hvo _ h rfl))); have d2 := HR2.out.cell (i := k) hlt; have f2 := HR2.out.frozen k; clear hM2 hs2 hv2))
        go_roundw
        case rel =>
          have hvo' : ∀ q, v'.ownBlock = some q → q ≠ w.heap.size := fun q hq => by
            rcases HV2.out q hq with h | h
            · exact hvo q h
            · have := hszr; simp at h; omega
          have hs3 := Save.setCell (S := fun j => j = w.heap.size) (Save.refl w2 _) (p := ⟨w.heap.size, k, none⟩) (fun _ => rfl) (.int .i64 (P : Nat))
          refine ⟨k + 1, v', by omega, by go_num, hvo', (RowD.set HR2.out k (P : Nat)).congr (fun j => by rw [HRE.out]), ?_, ?_⟩
          · rw [HGE.out]; exact HM2.out.save hs3 (by rintro j (h | h) h2; exact absurd h2 (by show ¬ j = w.heap.size; omega); exact absurd h2 (hvo' j h))
          · exact (HSv.out.trans (HS2.out.mono (fun j _ h => by rcases h with h | h; exact Or.inl h; exact Or.inr (HOb.out j h)))).setCell (p := ⟨w.heap.size, k, none⟩) (fun _ => Or.inr hltb) _
        case measure => simp [intOf]; omega
      · obtain ⟨na, hna⟩ := Int.eq_ofNat_of_zero_le (hx.1 (by omega)).1
        have hlta := (hx.1 (by omega)).2
        rw [hna] at hlta
        have HM := hid (movedN_1 (layS f k).2 (ndAt f k) na ha hna)
        have ea := HRow.out.cell (i := na) (by omega)
        rw [hna] at c1
        have e : ndV (movedN (layS f k).2 (ndAt f k)) = .agg #[.int .i64 (ndAt f k).k, .int .i64 ((layS f k).2 na), .int .i64 (ndAt f k).b, .int .i64 (ndAt f k).lo, .int .i64 (ndAt f k).hi, .string (ndAt f k).nm] := by rw [HM.out]; rfl
        have HPt := hid (fun w' h => by have := put_any (movedN (layS f k).2 (ndAt f k)) HOy.out (layS f k).1 rb base v (by have := HLg.out.len; omega) w' h; rw [e] at this; exact this)
        have HRE := hid hRE
        clear e hRE
        generalize hP : plG (layS f k).1 (movedN (layS f k).2 (ndAt f k)) = P at *
        generalize hG : putG (layS f k).1 (movedN (layS f k).2 (ndAt f k)) = G at *
        clear hP hG HM hna hx
        generalize (layS f k).2 na = D at *
        generalize ndAt f k = x at *
        go_wp2_with (first | (go_at_call 61; refine (arms_w _ _).mono ?_; rintro e w' ⟨rfl, rfl⟩) | (go_at_call 24; refine (HPt.out _ (HMr.out.on (fone wr _))).mono ?_; rintro e w2 ⟨rfl, v', hM2, hs2, hv2⟩; have HM2 := hid hM2; have HS2 := hid ((Save.of_below (fone wr _) (MkB rb v) (fun j h1 h2 => absurd h1 (by omega))).trans hs2); have HV2 := hid hv2; have HR2 := hid (World.rowIs.of_block HRow.out (HS2.out.block w.heap.size HRow.out.lt (by rintro (h | h); exact absurd h (by omega); exact hvo _ h rfl))); have d2 := HR2.out.cell (i := k) hlt; have f2 := HR2.out.frozen k; clear hM2 hs2 hv2))
        go_roundw
        case rel =>
          have hvo' : ∀ q, v'.ownBlock = some q → q ≠ w.heap.size := fun q hq => by
            rcases HV2.out q hq with h | h
            · exact hvo q h
            · have := hszr; simp at h; omega
          have hs3 := Save.setCell (S := fun j => j = w.heap.size) (Save.refl w2 _) (p := ⟨w.heap.size, k, none⟩) (fun _ => rfl) (.int .i64 (P : Nat))
          refine ⟨k + 1, v', by omega, by go_num, hvo', (RowD.set HR2.out k (P : Nat)).congr (fun j => by rw [HRE.out]), ?_, ?_⟩
          · rw [HGE.out]; exact HM2.out.save hs3 (by rintro j (h | h) h2; exact absurd h2 (by show ¬ j = w.heap.size; omega); exact absurd h2 (hvo' j h))
          · exact (HSv.out.trans (HS2.out.mono (fun j _ h => by rcases h with h | h; exact Or.inl h; exact Or.inr (HOb.out j h)))).setCell (p := ⟨w.heap.size, k, none⟩) (fun _ => Or.inr hltb) _
        case measure => simp [intOf]; omega
      · obtain ⟨na, hna⟩ := Int.eq_ofNat_of_zero_le (hx.1 (by omega)).1
        have hlta := (hx.1 (by omega)).2
        rw [hna] at hlta
        obtain ⟨nb, hnb'⟩ := Int.eq_ofNat_of_zero_le (hx.2 (by omega)).1
        have hltb' := (hx.2 (by omega)).2
        rw [hnb'] at hltb'
        have HM := hid (movedN_2 (layS f k).2 (ndAt f k) na nb ha hna hnb')
        have ea := HRow.out.cell (i := na) (by omega)
        have eb := HRow.out.cell (i := nb) (by omega)
        rw [hna] at c1
        rw [hnb'] at c2
        have e : ndV (movedN (layS f k).2 (ndAt f k)) = .agg #[.int .i64 (ndAt f k).k, .int .i64 ((layS f k).2 na), .int .i64 ((layS f k).2 nb), .int .i64 (ndAt f k).lo, .int .i64 (ndAt f k).hi, .string (ndAt f k).nm] := by rw [HM.out]; rfl
        have HPt := hid (fun w' h => by have := put_any (movedN (layS f k).2 (ndAt f k)) HOy.out (layS f k).1 rb base v (by have := HLg.out.len; omega) w' h; rw [e] at this; exact this)
        have HRE := hid hRE
        clear e hRE
        generalize hP : plG (layS f k).1 (movedN (layS f k).2 (ndAt f k)) = P at *
        generalize hG : putG (layS f k).1 (movedN (layS f k).2 (ndAt f k)) = G at *
        clear hP hG HM hna hnb' hx
        generalize (layS f k).2 na = D at *
        generalize (layS f k).2 nb = E at *
        generalize ndAt f k = x at *
        go_wp2_with (first | (go_at_call 61; refine (arms_w _ _).mono ?_; rintro e w' ⟨rfl, rfl⟩) | (go_at_call 24; refine (HPt.out _ (HMr.out.on (fone wr _))).mono ?_; rintro e w2 ⟨rfl, v', hM2, hs2, hv2⟩; have HM2 := hid hM2; have HS2 := hid ((Save.of_below (fone wr _) (MkB rb v) (fun j h1 h2 => absurd h1 (by omega))).trans hs2); have HV2 := hid hv2; have HR2 := hid (World.rowIs.of_block HRow.out (HS2.out.block w.heap.size HRow.out.lt (by rintro (h | h); exact absurd h (by omega); exact hvo _ h rfl))); have d2 := HR2.out.cell (i := k) hlt; have f2 := HR2.out.frozen k; clear hM2 hs2 hv2))
        go_roundw
        case rel =>
          have hvo' : ∀ q, v'.ownBlock = some q → q ≠ w.heap.size := fun q hq => by
            rcases HV2.out q hq with h | h
            · exact hvo q h
            · have := hszr; simp at h; omega
          have hs3 := Save.setCell (S := fun j => j = w.heap.size) (Save.refl w2 _) (p := ⟨w.heap.size, k, none⟩) (fun _ => rfl) (.int .i64 (P : Nat))
          refine ⟨k + 1, v', by omega, by go_num, hvo', (RowD.set HR2.out k (P : Nat)).congr (fun j => by rw [HRE.out]), ?_, ?_⟩
          · rw [HGE.out]; exact HM2.out.save hs3 (by rintro j (h | h) h2; exact absurd h2 (by show ¬ j = w.heap.size; omega); exact absurd h2 (hvo' j h))
          · exact (HSv.out.trans (HS2.out.mono (fun j _ h => by rcases h with h | h; exact Or.inl h; exact Or.inr (HOb.out j h)))).setCell (p := ⟨w.heap.size, k, none⟩) (fun _ => Or.inr hltb) _
        case measure => simp [intOf]; omega
    · have hk' : k = f.length := by omega
      subst hk'
      have d := HRow.out.cell (i := f.length - 1) (by omega)
      have hidx : ((f.length : Int) - 1).toNat = f.length - 1 := by omega
      have hidx2 : (f.length : Int) - 1 = ((f.length - 1 : Nat) : Int) := by omega
      have hlt1 : f.length - 1 < f.length := by omega
      go_wp2_with fail
      go_ret
      exact ⟨rfl, v, HMr.out, (Save.of_below HW0.out _ (fun j h1 h2 => absurd h1 (by omega))).trans HSv.out⟩
end Go.Proofs.YtagklhfejbdkdaaDoor
