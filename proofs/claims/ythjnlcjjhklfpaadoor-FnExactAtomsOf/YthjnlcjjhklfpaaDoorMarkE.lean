/-
  The laws' marks over rows of events: markStringS, heldStringS from any mark on; markEventS, heldEventS; by their contracts.
-/
import Derived.Test.YthjnlcjjhklfpaaDoorEvS
namespace Go.Proofs.YthjnlcjjhklfpaaDoor
open Go.RowKit
set_option linter.unusedVariables false
set_option linter.unusedSimpArgs false
set_option maxRecDepth 20000 in
set_option maxHeartbeats 1000000 in
theorem markStringS_from (n k0 : Nat) (v : Int) (hv : v = k0) (hk0 : 0 < k0) (hk1 : k0 + n ≤ 1000000000) (a : Option Addr) (c : Nat) (w : World) (h : RowT w a n) :
    Calls Tryd.prog 23 #[.slice a n c, .int .i64 v] w fun e w' => e = .returned (.int .i64 (k0 + n : Nat)) ∧ TsAt w' a (markT k0 n) ∧ RowT w' a n ∧ Save w w' (OfT a) := by
  subst hv
  rcases h with rfl | ⟨b, z, rfl, h⟩
  · go_enter Tryd.func23, Tryd.ntmps23
    go_wp2_with fail
    go_loopw [1, 5] (fun t s wr => t = .int .i64 k0 ∧ s = .int .i64 0 ∧ w = wr) (fun _ _ _ => 0)
    case atStart => exact ⟨rfl, rfl, rfl⟩
    case round =>
      obtain ⟨rfl, rfl, rfl⟩ := hrel
      go_wp2_with fail
      go_ret
      exact ⟨rfl, Or.inl rfl, Or.inl rfl, Save.refl _ _⟩
  · have HR0 := hid (h.congr (fun j hj => (show z j = rowT (markT k0 n) z 0 j by simp [rowT])))
    have hbl := h.lt
    clear h
    go_enter Tryd.func23, Tryd.ntmps23
    go_wp2_with fail
    go_loopw [1, 5] (fun t s wr => ∃ k : Nat, k ≤ n ∧ t = .int .i64 (k0 + k : Nat) ∧ s = .int .i64 k ∧ wr.rowIs b 9 n (rowT (markT k0 n) z k) ∧ Save w wr (OfT (some ⟨b, 0, none⟩))) (fun _ s _ => n - (intOf s).toNat)
    case atStart => exact ⟨0, Nat.zero_le _, rfl, rfl, HR0.out, Save.refl _ _⟩
    case round =>
      clear HR0
      obtain ⟨k, hk, rfl, rfl, hrow, hsv⟩ := hrel
      have HS := hid hsv
      have HRow := hid hrow
      have hsz := hrow.lt
      clear hrow hsv
      by_cases hlt : k < n
      · go_wp2_with fail
        refine (markText_int _ (k0 + k) (by push_cast; omega) (by omega) (by omega) _).mono ?_
        rintro e w1 ⟨rfl, hb1⟩
        have HR1 := hid (HRow.out.of_block (hb1.block b hsz))
        have HS1 := hid (HS.out.trans (Save.of_below hb1 _ (fun j h1 h2 => absurd h1 (by omega))))
        have d5 := HR1.out.cell (i := k) hlt
        have f5 := HR1.out.frozen k
        clear hb1
        go_wp2_with fail
        go_roundw
        case rel =>
          refine ⟨k + 1, by omega, by simp; omega, by go_num, (HR1.out.set k _).congr (fun j hj => ?_), HS1.out.setCell (p := ⟨b, k, none⟩) (fun _ => ⟨_, rfl, rfl⟩) _⟩
          rw [rowT_step, markT_at _ _ _ hlt]
        case measure => simp [intOf]; omega
      · have hk' : k = n := by omega
        subst hk'
        go_wp2_with fail
        go_ret
        exact ⟨rfl, Or.inr ⟨b, rfl, @rowT_strs _ b (markT k0 k) z (by rw [markT_len]; exact HRow.out)⟩, Or.inr ⟨b, _, rfl, HRow.out⟩, HS.out⟩
set_option maxRecDepth 20000 in
set_option maxHeartbeats 1000000 in
theorem heldStringS_from (n k0 : Nat) (v : Int) (hv : v = k0) (hk0 : 0 < k0) (hk1 : k0 + n ≤ 1000000000) (a : Option Addr) (c : Nat) (w : World) (h : TsAt w a (markT k0 n)) :
    Calls Tryd.prog 24 #[.slice a n c, .int .i64 v] w fun e w' => e = .returned (.int .i64 (k0 + n : Nat)) ∧ Below w.heap.size w w' := by
  subst hv
  have H := hid h
  clear h
  go_enter Tryd.func24, Tryd.ntmps24
  go_wp2_with fail
  go_loopw [1, 5] (fun t s wr => ∃ k : Nat, k ≤ n ∧ t = .int .i64 (k0 + k : Nat) ∧ s = .int .i64 k ∧ Below w.heap.size w wr) (fun _ s _ => n - (intOf s).toNat)
  case atStart => exact ⟨0, Nat.zero_le _, rfl, rfl, Below.refl _ _⟩
  case round =>
    obtain ⟨k, hk, rfl, rfl, hbel⟩ := hrel
    have HB := hid hbel
    have hsz := hbel.size
    clear hbel
    by_cases hlt : k < n
    · rcases H.out with h0 | ⟨b, rfl, hb, hc⟩
      · rw [markT_len] at h0; omega
      have d5 := (HB.out.cell (p := ⟨b, k, none⟩) hb).trans (hc k (by rw [markT_len]; exact hlt))
      rw [markT_at _ _ _ hlt] at d5
      have hbl : b < wr.heap.size := Nat.lt_of_lt_of_le hb hsz
      clear hc
      go_wp2_with fail
      go_region_with (go_at_call 68; refine (markText_int _ (k0 + k) (by push_cast; omega) (by omega) (by omega) _).mono ?_; rintro e w1 ⟨rfl, hb1⟩; have HB1 : Hid (Below w.heap.size w w1) := HB.out.trans (Below.mono ⟨hb1.os, hb1.tape, hb1.output, hb1.size, hb1.block⟩ hsz); have d6 := (hb1.cell (p := ⟨b, k, none⟩) hbl).trans d5; clear hb1)
      all_goals
        go_wp2_with fail
        go_roundw
        case rel => exact ⟨k + 1, by omega, by simp; omega, by go_num, HB1.out⟩
        case measure => simp [intOf]; omega
    · have hk' : k = n := by omega
      subst hk'
      go_wp2_with fail
      go_ret
      exact ⟨rfl, HB.out⟩
/-- The mark at which event i begins. -/
def kAt (k0 : Nat) (N : Nat → Nat) : Nat → Nat
  | 0 => k0
  | i + 1 => kAt k0 N i + 1 + N i
theorem kAt_pos (k0 : Nat) (N : Nat → Nat) (h : 0 < k0) : ∀ i, 0 < kAt k0 N i
  | 0 => h
  | i + 1 => by have := kAt_pos k0 N h i; unfold kAt; omega
theorem kAt_mono (k0 : Nat) (N : Nat → Nat) {i k : Nat} (h : i ≤ k) : kAt k0 N i ≤ kAt k0 N k := by
  induction h with
  | refl => exact Nat.le_refl _
  | step _ ih => exact Nat.le_trans ih (by show _ ≤ _ + 1 + _; omega)
/-- A row of events to be written to: each one's names lie in a block of its own. -/
structure EvMk (w : World) (b n : Nat) (a : Nat → Option Addr) (N c : Nat → Nat) : Prop where
  row : ∃ z, w.rowIs b 38 (n * 2) z ∧ ∀ i, i < n → z (i * 2 + 1) = .slice (a i) (N i) (c i)
  names : ∀ i, i < n → RowT w (a i) (N i)
  apart : ∀ i, i < n → ∀ q, a i = some q → q.block ≠ b
  apart2 : ∀ i j, i < n → j < n → i ≠ j → ∀ q r, a i = some q → a j = some r → q.block ≠ r.block
def EvMkS (b n : Nat) (a : Nat → Option Addr) (j : Nat) : Prop := j = b ∨ ∃ i, i < n ∧ OfT (a i) j
structure EvHd (w : World) (b n k0 : Nat) (a : Nat → Option Addr) (N c : Nat → Nat) : Prop where
  lt : b < w.heap.size
  times : ∀ i, i < n → w.cell? ⟨b, i * 2, none⟩ = some (.int .i64 (kAt k0 N i))
  slices : ∀ i, i < n → w.cell? ⟨b, i * 2 + 1, none⟩ = some (.slice (a i) (N i) (c i))
  names : ∀ i, i < n → TsAt w (a i) (markT (kAt k0 N i + 1) (N i))
theorem EvHd.below {w w' : World} {b n k0 : Nat} {a : Nat → Option Addr} {N c : Nat → Nat} (h : EvHd w b n k0 a N c) (hb : Below w.heap.size w w') : EvHd w' b n k0 a N c :=
  ⟨Nat.lt_of_lt_of_le h.lt hb.size, fun i hi => (hb.cell (p := ⟨b, _, none⟩) h.lt).trans (h.times i hi), fun i hi => (hb.cell (p := ⟨b, _, none⟩) h.lt).trans (h.slices i hi), fun i hi => (h.names i hi).below hb⟩
theorem EvMk.below {w w' : World} {b n : Nat} {a : Nat → Option Addr} {N c : Nat → Nat} (h : EvMk w b n a N c) (hb : Below w.heap.size w w') : EvMk w' b n a N c := by
  obtain ⟨z, h1, h2⟩ := h.row
  exact ⟨⟨z, h1.of_block (hb.block b h1.lt), h2⟩, fun i hi => (h.names i hi).below hb, h.apart, h.apart2⟩
theorem EvMk.save {w w' : World} {b n : Nat} {a : Nat → Option Addr} {N c : Nat → Nat} {S : Nat → Prop} (h : EvMk w b n a N c) (hs : Save w w' S) (hS : ∀ j, EvMkS b n a j → ¬ S j) : EvMk w' b n a N c := by
  obtain ⟨z, h1, h2⟩ := h.row
  exact ⟨⟨z, h1.of_block (hs.block b h1.lt (hS b (Or.inl rfl))), h2⟩, fun i hi => (h.names i hi).save hs (fun q e => hS q (Or.inr ⟨i, hi, _, e, rfl⟩)), h.apart, h.apart2⟩
theorem OfT.some {q : Addr} {j : Nat} (h : OfT (some q) j) : q.block = j := by obtain ⟨r, e, h⟩ := h; cases e; exact h
set_option maxRecDepth 20000 in
set_option maxHeartbeats 2000000 in
theorem markEventS_row (n k0 b cap : Nat) (v : Int) (hv : v = k0) (a : Nat → Option Addr) (N c : Nat → Nat) (hn : n ≤ 1048576) (hk0 : 0 < k0) (hk1 : kAt k0 N n ≤ 1000000000) (w : World) (h : EvMk w b n a N c) :
    Calls Tryd.prog 46 #[.slice (some ⟨b, 0, none⟩) n cap, .int .i64 v] w fun e w' => e = .returned (.int .i64 (kAt k0 N n : Nat)) ∧ EvHd w' b n k0 a N c ∧ Save w w' (EvMkS b n a) := by
  subst hv
  obtain ⟨z0, hr0, hz0⟩ := h.row
  have HR0 := hid hr0
  have HZ0 := hid hz0
  have HN0 := hid h.names
  have HA := hid h.apart
  have HA2 := hid h.apart2
  have HK1 := hid hk1
  clear h hr0 hz0 hk1
  go_enter Tryd.func46, Tryd.ntmps46
  go_wp2_with fail
  go_loopw [1, 5] (fun t s wr => ∃ (k : Nat) (z : Nat → Value), k ≤ n ∧ t = .int .i64 (kAt k0 N k : Nat) ∧ s = .int .i64 k ∧ wr.rowIs b 38 (n * 2) z ∧ (∀ i, i < n → z (i * 2 + 1) = .slice (a i) (N i) (c i)) ∧ (∀ i, i < k → z (i * 2) = .int .i64 (kAt k0 N i : Nat)) ∧ (∀ i, i < n → RowT wr (a i) (N i)) ∧ (∀ i, i < k → TsAt wr (a i) (markT (kAt k0 N i + 1) (N i))) ∧ Save w wr (EvMkS b n a)) (fun _ s _ => n - (intOf s).toNat)
  case atStart => exact ⟨0, z0, Nat.zero_le _, rfl, rfl, HR0.out, HZ0.out, fun i h => by omega, HN0.out, fun i h => by omega, Save.refl _ _⟩
  case round =>
    clear HR0 HZ0 HN0
    obtain ⟨k, z, hk, rfl, rfl, hrow, hz1, hz2, hnm, hts, hsv⟩ := hrel
    have HS := hid hsv
    have HRow := hid hrow
    have HZ1 := hid hz1
    have HZ2 := hid hz2
    have HNm := hid hnm
    have HTs := hid hts
    have hsz := hrow.lt
    clear hrow hsv hz1 hz2 hnm hts
    by_cases hlt : k < n
    · have hkp := kAt_pos k0 N hk0 k
      have hkm := kAt_mono k0 N (show k + 1 ≤ n from hlt)
      have hks : kAt k0 N (k + 1) = kAt k0 N k + 1 + N k := rfl
      have HKS := hid hks
      have hkb : kAt k0 N k + 1 + N k ≤ 1000000000 := by have := HK1.out; omega
      clear hks hkm
      have d0 := HRow.out.cell (i := k * 2) (by omega)
      have d1 := HRow.out.cell (i := k * 2 + 1) (by omega)
      rw [HZ1.out k hlt] at d1
      have f0 := HRow.out.frozen (k * 2)
      generalize hK : kAt k0 N k = K at *
      have HKe := hid hK
      clear hK
      have HSv1 := hid (Save.setCell (S := EvMkS b n a) HS.out (p := ⟨b, k * 2, none⟩) (fun _ => Or.inl rfl) (.int .i64 (K : Nat)))
      have HR1 := hid (HRow.out.set (k * 2) (.int .i64 (K : Nat)))
      have HOther : Hid (Save wr (wr.setCell ⟨b, k * 2, none⟩ (.int .i64 (K : Nat))) (fun j => j = b)) := Save.setCell (S := fun j => j = b) (Save.refl wr _) (p := ⟨b, k * 2, none⟩) (fun _ => rfl) _
      have HNm1 := hid (fun i (hi : i < n) => (HNm.out i hi).save HOther.out (fun q e h => HA.out i hi _ e h))
      have HTs1 := hid (fun i (hi : i < k) => (HTs.out i hi).save HOther.out (fun q e h => HA.out i (by omega) _ e h))
      go_wp2_with fail
      refine (markStringS_from (N k) (K + 1) _ (by push_cast; omega) (by omega) (by omega) (a k) (c k) _ (HNm1.out k hlt)).mono ?_
      rintro e w1 ⟨rfl, ht1, hr1, hs1⟩
      have hb1 : ¬ OfT (a k) b := fun ⟨q, e, h⟩ => HA.out k hlt q e h
      have hi1 : ∀ i, i < n → i ≠ k → ∀ q, a i = some ⟨q, 0, none⟩ → ¬ OfT (a k) q := fun i hi hne q e ⟨r, e', h⟩ => HA2.out i k hi hlt hne _ r e e' h.symm
      have HR2 := hid (HR1.out.of_block (hs1.block b (by simpa using hsz) hb1))
      have HS2 := hid (HSv1.out.trans (hs1.mono (fun j _ h => Or.inr ⟨k, hlt, h⟩)))
      have HNm2 : Hid (∀ i, i < n → RowT w1 (a i) (N i)) := fun i hi => by
        by_cases e : i = k
        · subst e; exact hr1
        · exact (HNm1.out i hi).save hs1 (hi1 i hi e)
      have HTs2 : Hid (∀ i, i < k + 1 → TsAt w1 (a i) (markT (kAt k0 N i + 1) (N i))) := fun i hi => by
        by_cases e : i = k
        · subst e; rw [HKe.out]; exact ht1
        · exact (HTs1.out i (by omega)).save hs1 (hi1 i (by omega) e)
      clear ht1 hr1 hs1 hb1 hi1
      go_wp2_with fail
      go_roundw
      case rel =>
        refine ⟨k + 1, _, by omega, by rw [HKS.out]; simp, by go_num, HR2.out, fun i hi => ?_, fun i hi => ?_, HNm2.out, HTs2.out, HS2.out⟩
        · exact (if_neg (by omega)).trans (HZ1.out i hi)
        · by_cases e : i = k
          · subst e; exact (if_pos rfl).trans (by rw [HKe.out])
          · exact (if_neg (by omega)).trans (HZ2.out i (by omega))
      case measure => simp [intOf]; omega
    · have hk' : k = n := by omega
      subst hk'
      go_wp2_with fail
      go_ret
      exact ⟨rfl, ⟨HRow.out.lt, fun i hi => by rw [HRow.out.cell (by omega), HZ2.out i hi], fun i hi => by rw [HRow.out.cell (by omega), HZ1.out i hi], HTs.out⟩, HS.out⟩
set_option maxRecDepth 20000 in
set_option maxHeartbeats 2000000 in
theorem heldEventS_row (n k0 b cap : Nat) (v : Int) (hv : v = k0) (a : Nat → Option Addr) (N c : Nat → Nat) (hn : n ≤ 1048576) (hk0 : 0 < k0) (hk1 : kAt k0 N n ≤ 1000000000) (w : World) (h : EvHd w b n k0 a N c) :
    Calls Tryd.prog 47 #[.slice (some ⟨b, 0, none⟩) n cap, .int .i64 v] w fun e w' => e = .returned (.int .i64 (kAt k0 N n : Nat)) ∧ Below w.heap.size w w' := by
  subst hv
  have H := hid h
  have HK1 := hid hk1
  clear h hk1
  go_enter Tryd.func47, Tryd.ntmps47
  go_wp2_with fail
  go_loopw [1, 5] (fun t s wr => ∃ k : Nat, k ≤ n ∧ t = .int .i64 (kAt k0 N k : Nat) ∧ s = .int .i64 k ∧ Below w.heap.size w wr) (fun _ s _ => n - (intOf s).toNat)
  case atStart => exact ⟨0, Nat.zero_le _, rfl, rfl, Below.refl _ _⟩
  case round =>
    obtain ⟨k, hk, rfl, rfl, hbel⟩ := hrel
    have HB := hid hbel
    have hsz := hbel.size
    clear hbel
    by_cases hlt : k < n
    · have hkp := kAt_pos k0 N hk0 k
      have hkm := kAt_mono k0 N (show k + 1 ≤ n from hlt)
      have hks : kAt k0 N (k + 1) = kAt k0 N k + 1 + N k := rfl
      have HKS := hid hks
      have hkb : kAt k0 N k + 1 + N k ≤ 1000000000 := by have := HK1.out; omega
      clear hks hkm
      have HH := hid (H.out.below HB.out)
      have d0 := HH.out.times k hlt
      have d1 := HH.out.slices k hlt
      have HT := hid (HH.out.names k hlt)
      generalize kAt k0 N k = K at *
      go_wp2_with fail
      refine (heldStringS_from (N k) (K + 1) _ (by push_cast; omega) (by omega) (by omega) (a k) (c k) _ HT.out).mono ?_
      rintro e w1 ⟨rfl, hb1⟩
      have HB1 := hid (HB.out.trans (hb1.mono hsz))
      clear hb1
      have hnn : ¬ ((K + 1 + N k : Nat) : Int) < 0 := by omega
      go_wp2_with fail
      go_roundw
      case rel => exact ⟨k + 1, by omega, by rw [HKS.out]; simp, by go_num, HB1.out⟩
      case measure => simp [intOf]; omega
    · have hk' : k = n := by omega
      subst hk'
      go_wp2_with fail
      go_ret
      exact ⟨rfl, HB.out⟩
end Go.Proofs.YthjnlcjjhklfpaaDoor
