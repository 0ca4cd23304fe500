/-
  Marks over rows of cells with times: markCellS, heldCellS, by their contracts.
  Marks over rows of bools from a mark on.
  The laws' marks: heldNodeS by its contract.
  Marks over the answers of MonNew: rows of nodes that may be longer, rows of cells without times.
  Answers of MonStep: what is read of them, marks over them. Contracts of eqMonOut, markMonitor, heldMonitor, markMonOut, heldMonOut.
-/
import Derived.Test.YtbfkbgmkibkbnaaGreatDoorPa20
import Derived.Test.YtbfkbgmkibkbnaaGreatDoorPa08
import Derived.Test.YtbfkbgmkibkbnaaGreatDoorPa11
import Derived.Test.YtbfkbgmkibkbnaaGreatDoorPa46
namespace Go.Proofs.YtbfkbgmkibkbnaaGreatDoor
open Go.RowKit
set_option linter.unusedVariables false
set_option linter.unusedSimpArgs false
/-- The mark at which cell i begins. -/
def kC (k0 : Nat) (N : Nat → Nat) : Nat → Nat
  | 0 => k0
  | i + 1 => kC k0 N i + 3 + N i
theorem kC_mono (k0 : Nat) (N : Nat → Nat) {i k : Nat} (h : i ≤ k) : kC k0 N i ≤ kC k0 N k := by
  induction h with
  | refl => exact Nat.le_refl _
  | step _ ih => exact Nat.le_trans ih (by show _ ≤ _ + 3 + _; omega)
/-- A row of cells to be written to: each one's times lie in a block of their own. -/
structure CkMu (w : World) (b n : Nat) (A : Nat → Option Addr) (N C : Nat → Nat) : Prop where
  row : ∃ z m, n * 4 ≤ m ∧ w.rowIs b 96 m z ∧ ∀ i, i < n → z (i * 4 + 2) = .slice (A i) (N i) (C i)
  times : ∀ i, i < n → RowIs w (A i) (N i)
  apart : ∀ i, i < n → ∀ q, A i = some q → q.block ≠ b
  apart2 : ∀ i j, i < n → j < n → i ≠ j → ∀ q r, A i = some q → A j = some r → q.block ≠ r.block
def CkMuS (b n : Nat) (A : Nat → Option Addr) (j : Nat) : Prop := j = b ∨ ∃ i, i < n ∧ OfT (A i) j
/-- A row of cells that holds its marks. -/
structure CkHd (w : World) (b n k0 : Nat) (A : Nat → Option Addr) (N C : Nat → Nat) : Prop where
  lt : b < w.heap.size
  lo : ∀ i, i < n → w.cell? ⟨b, i * 4, none⟩ = some (.int .i64 (kC k0 N i : Nat))
  hi : ∀ i, i < n → w.cell? ⟨b, i * 4 + 1, none⟩ = some (.int .i64 (kC k0 N i + 1 : Nat))
  sl : ∀ i, i < n → w.cell? ⟨b, i * 4 + 2, none⟩ = some (.slice (A i) (N i) (C i))
  was : ∀ i, i < n → w.cell? ⟨b, i * 4 + 3, none⟩ = some (.bool (decide (((kC k0 N i + 2 + N i : Nat) : Int) % 3 = 0)))
  times : ∀ i, i < n → ArgI w (A i) (markI (kC k0 N i + 2) (N i))
theorem CkHd.on {w w' : World} {b n k0 : Nat} {A : Nat → Option Addr} {N C : Nat → Nat} (h : CkHd w b n k0 A N C) (hb : Below w.heap.size w w') : CkHd w' b n k0 A N C :=
  ⟨Nat.lt_of_lt_of_le h.lt hb.size, fun i hi => (hb.cell (p := ⟨b, _, none⟩) h.lt).trans (h.lo i hi), fun i hi => (hb.cell (p := ⟨b, _, none⟩) h.lt).trans (h.hi i hi), fun i hi => (hb.cell (p := ⟨b, _, none⟩) h.lt).trans (h.sl i hi), fun i hi => (hb.cell (p := ⟨b, _, none⟩) h.lt).trans (h.was i hi), fun i hi => (h.times i hi).on hb⟩
theorem CkMu.save {w w' : World} {b n : Nat} {A : Nat → Option Addr} {N C : Nat → Nat} {S : Nat → Prop} (h : CkMu w b n A N C) (hs : Save w w' S) (hS : ∀ j, CkMuS b n A j → ¬ S j) : CkMu w' b n A N C := by
  obtain ⟨z, m, h0, h1, h2⟩ := h.row
  exact ⟨⟨z, m, h0, h1.of_block (hs.block b h1.lt (hS b (Or.inl rfl))), h2⟩, fun i hi => (h.times i hi).save hs (fun q e => hS q.block (Or.inr ⟨i, hi, q, e, rfl⟩)), h.apart, h.apart2⟩
theorem CkMu.on {w w' : World} {b n : Nat} {A : Nat → Option Addr} {N C : Nat → Nat} (h : CkMu w b n A N C) (hb : Below w.heap.size w w') : CkMu w' b n A N C :=
  h.save (S := fun _ => False) (Save.of_below hb _ (fun j h1 h2 => absurd h1 (by omega))) (fun _ _ h => h)
set_option maxRecDepth 20000 in
set_option maxHeartbeats 4000000 in
theorem markCs_up (n k0 b cap : Nat) (v : Int) (hv : v = k0) (A : Nat → Option Addr) (N C : Nat → Nat) (hn : n ≤ 1048576) (hN : ∀ i, i < n → N i ≤ 2000000) (hk1 : kC k0 N n ≤ 1000000000) (w : World) (h : CkMu w b n A N C) :
    Calls Tryz.prog 69 #[.slice (some ⟨b, 0, none⟩) n cap, .int .i64 v] w fun e w' => e = .returned (.int .i64 (kC k0 N n : Nat)) ∧ CkHd w' b n k0 A N C ∧ Save w w' (CkMuS b n A) := by
  subst hv
  obtain ⟨z0, m, hnm, hr0, hz0⟩ := h.row
  have HR0 := hid hr0
  have HZ0 := hid hz0
  have HN0 := hid h.times
  have HA := hid h.apart
  have HA2 := hid h.apart2
  have HK1 := hid hk1
  have HNn := hid hN
  clear h hr0 hz0 hk1 hN
  go_enter Tryz.func69, Tryz.ntmps69
  go_wp2_with fail
  go_loopw [1, 5] (fun t s wr => ∃ (k : Nat) (z : Nat → Value), k ≤ n ∧ t = .int .i64 (kC k0 N k : Nat) ∧ s = .int .i64 k ∧ wr.rowIs b 96 m z ∧ (∀ i, i < n → z (i * 4 + 2) = .slice (A i) (N i) (C i)) ∧ (∀ i, i < k → z (i * 4) = .int .i64 (kC k0 N i : Nat) ∧ z (i * 4 + 1) = .int .i64 (kC k0 N i + 1 : Nat) ∧ z (i * 4 + 3) = .bool (decide (((kC k0 N i + 2 + N i : Nat) : Int) % 3 = 0))) ∧ (∀ i, i < n → k ≤ i → RowIs wr (A i) (N i)) ∧ (∀ i, i < k → ArgI wr (A i) (markI (kC k0 N i + 2) (N i))) ∧ Save w wr (CkMuS b n A)) (fun _ s _ => n - (intOf s).toNat)
  case atStart => exact ⟨0, z0, Nat.zero_le _, rfl, rfl, HR0.out, HZ0.out, fun i h => by omega, fun i h _ => HN0.out i h, fun i h => by omega, Save.refl _ _⟩
  case round =>
    clear HR0 HZ0 HN0
    obtain ⟨k, z, hk, rfl, rfl, hrow, hz1, hz2, hnm', hts, hsv⟩ := hrel
    have HS := hid hsv
    have HRow := hid hrow
    have HZ1 := hid hz1
    have HZ2 := hid hz2
    have HNm := hid hnm'
    have HTs := hid hts
    have hsz := hrow.lt
    clear hrow hsv hz1 hz2 hnm' hts
    by_cases hlt : k < n
    · have hkm := kC_mono k0 N (show k + 1 ≤ n from hlt)
      have hks : kC k0 N (k + 1) = kC k0 N k + 3 + N k := rfl
      have HKS := hid hks
      have hkb : kC k0 N k + 3 + N k ≤ 1000000000 := by have := HK1.out; omega
      clear hks hkm
      have d0 := HRow.out.cell (i := k * 4) (by omega)
      have d1 := HRow.out.cell (i := k * 4 + 1) (by omega)
      have d2 := HRow.out.cell (i := k * 4 + 2) (by omega)
      rw [HZ1.out k hlt] at d2
      have d3 := HRow.out.cell (i := k * 4 + 3) (by omega)
      have f0 := HRow.out.frozen
      generalize hK : kC k0 N k = K at *
      have HKe := hid hK
      clear hK
      have HSv1 := hid ((HS.out.setCell (p := ⟨b, k * 4, none⟩) (fun _ => Or.inl rfl) (.int .i64 (K : Nat))).setCell (p := ⟨b, k * 4 + 1, none⟩) (fun _ => Or.inl rfl) (.int .i64 ((K : Int) + 1)))
      have HR1 := hid ((HRow.out.set (k * 4) (.int .i64 (K : Nat))).set (k * 4 + 1) (.int .i64 ((K : Int) + 1)))
      have HOther : Hid (Save wr ((wr.setCell ⟨b, k * 4, none⟩ (.int .i64 (K : Nat))).setCell ⟨b, k * 4 + 1, none⟩ (.int .i64 ((K : Int) + 1))) (fun j => j = b)) := Save.setCell (S := fun j => j = b) (Save.setCell (S := fun j => j = b) (Save.refl wr _) (p := ⟨b, k * 4, none⟩) (fun _ => rfl) _) (p := ⟨b, k * 4 + 1, none⟩) (fun _ => rfl) _
      have HNm1 := hid (fun i (hi : i < n) (hki : k ≤ i) => (HNm.out i hi hki).save HOther.out (fun q e h => HA.out i hi _ e h))
      have HTs1 := hid (fun i (hi : i < k) => ArgI.save (HTs.out i hi) HOther.out (fun q e h => HA.out i (by omega) _ e h))
      go_wp2_with fail
      rw [show ((K : Int) + 1 + 1) = ((K + 2 : Nat) : Int) by push_cast; omega]
      refine (markInt64S_any (K + 2) (N k) (A k) (C k) (HNn.out k hlt) (by omega) _ (HNm1.out k hlt (Nat.le_refl _))).mono ?_
      rintro e w1 ⟨rfl, ht1, hs1⟩
      have hb1 : ¬ OfT (A k) b := fun ⟨q, e, h⟩ => HA.out k hlt q e h
      have hi1 : ∀ i, i < n → i ≠ k → ∀ q, A i = some q → ¬ OfT (A k) q.block := fun i hi hne q e ⟨r, e', h⟩ => HA2.out i k hi hlt hne _ r e e' h.symm
      have HR2 := hid (HR1.out.of_block (hs1.block b (by simpa using hsz) hb1))
      have HS2 := hid (HSv1.out.trans (hs1.mono (fun j _ h => Or.inr ⟨k, hlt, h⟩)))
      have HNm2 : Hid (∀ i, i < n → k + 1 ≤ i → RowIs w1 (A i) (N i)) := fun i hi hki => (HNm1.out i hi (by omega)).save hs1 (hi1 i hi (by omega))
      have HTs2 : Hid (∀ i, i < k + 1 → ArgI w1 (A i) (markI (kC k0 N i + 2) (N i))) := fun i hi => by
        by_cases e : i = k
        · subst e; rw [HKe.out]; exact ht1
        · exact ArgI.save (HTs1.out i (by omega)) hs1 (hi1 i (by omega) e)
      have e3 := HR2.out.cell (i := k * 4 + 3) (by omega)
      have f3 := HR2.out.frozen (k * 4 + 3)
      clear ht1 hs1 hb1 hi1 d0 d1 d2 d3 f0
      go_wp2_with fail
      go_roundw
      case rel =>
        refine ⟨k + 1, _, by omega, by rw [HKS.out]; simp; omega, by go_num, HR2.out.set (k * 4 + 3) _, fun i hi => ?_, fun i hi => ?_, fun i hi hki => (HNm2.out i hi hki).save (Save.setCell (S := fun j => j = b) (Save.refl w1 _) (p := ⟨b, k * 4 + 3, none⟩) (fun _ => rfl) _) (fun q e h => HA.out i hi _ e h), fun i hi => ArgI.save (HTs2.out i hi) (Save.setCell (S := fun j => j = b) (Save.refl w1 _) (p := ⟨b, k * 4 + 3, none⟩) (fun _ => rfl) _) (fun q e h => HA.out i (by omega) _ e h), HS2.out.setCell (p := ⟨b, k * 4 + 3, none⟩) (fun _ => Or.inl rfl) _⟩
        · exact (if_neg (by omega)).trans ((if_neg (by omega)).trans ((if_neg (by omega)).trans (HZ1.out i hi)))
        · by_cases e : i = k
          · subst e
            refine ⟨(if_neg (by omega)).trans ((if_neg (by omega)).trans ((if_pos rfl).trans (by rw [HKe.out]))), (if_neg (by omega)).trans ((if_pos rfl).trans (by rw [HKe.out]; push_cast; rfl)), (if_pos rfl).trans (by rw [HKe.out]; push_cast; rfl)⟩
          · obtain ⟨q0, q1, q3⟩ := HZ2.out i (by omega)
            exact ⟨(if_neg (by omega)).trans ((if_neg (by omega)).trans ((if_neg (by omega)).trans q0)), (if_neg (by omega)).trans ((if_neg (by omega)).trans ((if_neg (by omega)).trans q1)), (if_neg (by omega)).trans ((if_neg (by omega)).trans ((if_neg (by omega)).trans q3))⟩
      case measure => simp [intOf]; omega
    · have hk' : k = n := by omega
      subst hk'
      go_wp2_with fail
      go_ret
      exact ⟨rfl, ⟨HRow.out.lt, fun i hi => by rw [HRow.out.cell (by omega), (HZ2.out i hi).1], fun i hi => by rw [HRow.out.cell (by omega), (HZ2.out i hi).2.1], fun i hi => by rw [HRow.out.cell (by omega), HZ1.out i hi], fun i hi => by rw [HRow.out.cell (by omega), (HZ2.out i hi).2.2], HTs.out⟩, HS.out⟩
set_option maxRecDepth 20000 in
set_option maxHeartbeats 4000000 in
theorem heldCs_up (n k0 b cap : Nat) (v : Int) (hv : v = k0) (A : Nat → Option Addr) (N C : Nat → Nat) (hn : n ≤ 1048576) (hN : ∀ i, i < n → N i ≤ 2000000) (hk1 : kC k0 N n ≤ 1000000000) (w : World) (h : CkHd w b n k0 A N C) :
    Calls Tryz.prog 110 #[.slice (some ⟨b, 0, none⟩) n cap, .int .i64 v] w fun e w' => e = .returned (.int .i64 (kC k0 N n : Nat)) ∧ Below w.heap.size w w' := by
  subst hv
  have H := hid h
  have HK1 := hid hk1
  have HNn := hid hN
  clear h hk1 hN
  go_enter Tryz.func110, Tryz.ntmps110
  go_wp2_with fail
  go_loopw [1, 5] (fun t s wr => ∃ k : Nat, k ≤ n ∧ t = .int .i64 (kC k0 N k : Nat) ∧ s = .int .i64 k ∧ Below w.heap.size w wr) (fun _ s _ => n - (intOf s).toNat)
  case atStart => exact ⟨0, Nat.zero_le _, rfl, rfl, Below.refl _ _⟩
  case round =>
    obtain ⟨k, hk, rfl, rfl, hbel⟩ := hrel
    have HB := hid hbel
    have hsz := hbel.size
    clear hbel
    by_cases hlt : k < n
    · have hkm := kC_mono k0 N (show k + 1 ≤ n from hlt)
      have hks : kC k0 N (k + 1) = kC k0 N k + 3 + N k := rfl
      have HKS := hid hks
      have hkb : kC k0 N k + 3 + N k ≤ 1000000000 := by have := HK1.out; omega
      clear hks hkm
      have HH := hid (H.out.on HB.out)
      have d0 := HH.out.lo k hlt
      have d1 := HH.out.hi k hlt
      have d2 := HH.out.sl k hlt
      have HD3 := hid (HH.out.was k hlt)
      have HT := hid (HH.out.times k hlt)
      have hbl := HH.out.lt
      generalize kC k0 N k = K at *
      have x0 : ((K : Int) != (K : Int)) = false := by simp
      have d1' : wr.cell? ⟨b, k * 4 + 1, none⟩ = some (.int .i64 ((K : Int) + 1)) := by rw [d1]; push_cast; rfl
      have x1 : ((K : Int) + 1 != (K : Int) + 1) = false := by simp
      clear d1
      go_wp2_with fail
      rw [show ((K : Int) + 1 + 1) = ((K + 2 : Nat) : Int) by push_cast; omega]
      refine (heldInt64S_any (K + 2) (N k) (A k) (C k) (HNn.out k hlt) (by omega) _ HT.out).mono ?_
      rintro e w1 ⟨rfl, hb1⟩
      have HB1 := hid (HB.out.trans (hb1.mono hsz))
      have e3 := (hb1.cell (p := ⟨b, k * 4 + 3, none⟩) hbl).trans HD3.out
      have hge : ¬ (((K + 2 + N k : Nat) : Int) < 0) := by omega
      clear hb1 d0 d1' d2 x0 x1
      by_cases h3 : ((K : Int) + 2 + (N k : Int)) % 3 = 0
      · have b3 : decide (((K + 2 + N k : Nat) : Int) % 3 = 0) = true := decide_eq_true (by omega)
        rw [b3] at e3
        clear b3
        go_wp2_with fail
        go_roundw
        case rel => exact ⟨k + 1, by omega, by rw [HKS.out]; simp; omega, by go_num, HB1.out⟩
        case measure => simp [intOf]; omega
      · have b3 : decide (((K + 2 + N k : Nat) : Int) % 3 = 0) = false := decide_eq_false (by omega)
        rw [b3] at e3
        clear b3
        go_wp2_with fail
        go_roundw
        case rel => exact ⟨k + 1, by omega, by rw [HKS.out]; simp; omega, by go_num, HB1.out⟩
        case measure => simp [intOf]; omega
    · have hk' : k = n := by omega
      subst hk'
      go_wp2_with fail
      go_ret
      exact ⟨rfl, HB.out⟩
set_option maxRecDepth 20000 in
theorem markCs_nil' (a : Option Addr) (k0 c : Nat) (w : World) :
    Calls Tryz.prog 69 #[.slice a 0 c, .int .i64 k0] w fun e w' => e = .returned (.int .i64 k0) ∧ w = w' := by
  go_enter Tryz.func69, Tryz.ntmps69
  go_wp2_with fail
  go_loopw [1, 5] (fun t s wr => t = .int .i64 k0 ∧ s = .int .i64 0 ∧ w = wr) (fun _ _ _ => 0)
  case atStart => exact ⟨rfl, rfl, rfl⟩
  case round =>
    obtain ⟨rfl, rfl, rfl⟩ := hrel
    go_wp2_with fail
    go_ret
    exact ⟨rfl, rfl⟩
set_option maxRecDepth 20000 in
theorem heldCs_nil' (a : Option Addr) (k0 c : Nat) (w : World) :
    Calls Tryz.prog 110 #[.slice a 0 c, .int .i64 k0] w fun e w' => e = .returned (.int .i64 k0) ∧ w = w' := by
  go_enter Tryz.func110, Tryz.ntmps110
  go_wp2_with fail
  go_loopw [1, 5] (fun t s wr => t = .int .i64 k0 ∧ s = .int .i64 0 ∧ w = wr) (fun _ _ _ => 0)
  case atStart => exact ⟨rfl, rfl, rfl⟩
  case round =>
    obtain ⟨rfl, rfl, rfl⟩ := hrel
    go_wp2_with fail
    go_ret
    exact ⟨rfl, rfl⟩
end Go.Proofs.YtbfkbgmkibkbnaaGreatDoor
namespace Go.Proofs.YtbfkbgmkibkbnaaGreatDoor
open Go.RowKit
set_option linter.unusedVariables false
set_option linter.unusedSimpArgs false
set_option maxRecDepth 20000 in
set_option maxHeartbeats 1000000 in
theorem markBs_up (k0 n : Nat) (a : Option Addr) (c : Nat) (hk0 : k0 ≤ 1000000000) (hn : n ≤ 1048576) (w : World) (h : RowBs w a n) :
    Calls Tryz.prog 39 #[.slice a n c, .int .i64 k0] w fun e w' => e = .returned (.int .i64 (k0 + n : Nat)) ∧ BsAt w' a (markB k0 n) ∧ Save w w' (OfT a) := by
  rcases h with rfl | ⟨b, z, m, rfl, hnm, h⟩
  · go_enter Tryz.func39, Tryz.ntmps39
    go_wp2_with fail
    go_loopw [1, 5] (fun t s wr => t = .int .i64 k0 ∧ s = .int .i64 0 ∧ w = wr) (fun _ _ _ => 0)
    case atStart => exact ⟨rfl, rfl, rfl⟩
    case round =>
      obtain ⟨rfl, rfl, rfl⟩ := hrel
      go_wp2_with fail
      go_ret
      exact ⟨rfl, Or.inl rfl, Save.refl _ _⟩
  · have HR0 := hid (h.congr (fun j hj => (show z j = rowV (markB k0 n) z 0 j by simp [rowV])))
    have hbl := h.lt
    clear h
    go_enter Tryz.func39, Tryz.ntmps39
    go_wp2_with fail
    go_loopw [1, 5] (fun t s wr => ∃ k : Nat, k ≤ n ∧ t = .int .i64 (k0 + k : Nat) ∧ s = .int .i64 k ∧ wr.rowIs b 4 m (rowV (markB k0 n) z k) ∧ Save w wr (OfT (some ⟨b, 0, none⟩))) (fun _ s _ => n - (intOf s).toNat)
    case atStart => exact ⟨0, Nat.zero_le _, rfl, rfl, HR0.out, Save.refl _ _⟩
    case round =>
      clear HR0
      obtain ⟨k, hk, rfl, rfl, hrow, hsv⟩ := hrel
      have HS := hid hsv
      have HRow := hid hrow
      have hsz := hrow.lt
      clear hrow hsv
      by_cases hlt : k < n
      · have d5 := HRow.out.cell (i := k) (by omega)
        have f5 := HRow.out.frozen k
        have HE : Hid ((markB k0 n).getD k false = decide ((((k0 + k : Nat) : Int)) % 3 = 0)) := markB_at k0 n k hlt
        go_wp2_with fail
        go_roundw
        case rel =>
          refine ⟨k + 1, by omega, by simp; omega, by go_num, (HRow.out.set k _).congr (fun j hj => ?_), HS.out.setCell (p := ⟨b, k, none⟩) (fun _ => ⟨_, rfl, rfl⟩) _⟩
          rw [rowV_step, HE.out]
          split
          · congr 1
          · rfl
        case measure => simp [intOf]; omega
      · have hk' : k = n := by omega
        subst hk'
        go_wp2_with fail
        go_ret
        refine ⟨rfl, Or.inr ⟨b, rfl, HRow.out.lt, fun i hi => ?_⟩, HS.out⟩
        rw [markB_len] at hi
        rw [HRow.out.cell (by omega)]
        unfold rowV
        rw [if_pos hi]
set_option maxRecDepth 20000 in
set_option maxHeartbeats 1000000 in
theorem heldBs_up (k0 n : Nat) (a : Option Addr) (c : Nat) (hk0 : k0 ≤ 1000000000) (hn : n ≤ 1048576) (w : World) (h : BsAt w a (markB k0 n)) :
    Calls Tryz.prog 40 #[.slice a n c, .int .i64 k0] w fun e w' => e = .returned (.int .i64 (k0 + n : Nat)) ∧ Below w.heap.size w w' := by
  have H := hid h
  clear h
  go_enter Tryz.func40, Tryz.ntmps40
  go_wp2_with fail
  go_loopw [1, 5] (fun t s wr => ∃ k : Nat, k ≤ n ∧ t = .int .i64 (k0 + k : Nat) ∧ s = .int .i64 k ∧ Below w.heap.size w wr) (fun _ s _ => n - (intOf s).toNat)
  case atStart => exact ⟨0, Nat.zero_le _, rfl, rfl, Below.refl _ _⟩
  case round =>
    obtain ⟨k, hk, rfl, rfl, hbel⟩ := hrel
    have HB := hid hbel
    clear hbel
    by_cases hlt : k < n
    · rcases H.out with h0 | ⟨b, rfl, hb, hc⟩
      · rw [markB_len] at h0; omega
      have d5 := (HB.out.cell (p := ⟨b, k, none⟩) hb).trans (hc k (by rw [markB_len]; exact hlt))
      rw [markB_at _ _ _ hlt] at d5
      clear hc
      by_cases h3 : ((k0 : Int) + (k : Int)) % 3 = 0
      · have e3 : mkB (k0 + k) = true := by simp [mkB, h3]
        rw [e3] at d5
        clear e3
        go_wp2_with fail
        go_roundw
        case rel => exact ⟨k + 1, by omega, by simp; omega, by go_num, HB.out⟩
        case measure => simp [intOf]; omega
      · have e3 : mkB (k0 + k) = false := by simp [mkB, h3]
        rw [e3] at d5
        clear e3
        go_wp2_with fail
        go_roundw
        case rel => exact ⟨k + 1, by omega, by simp; omega, by go_num, HB.out⟩
        case measure => simp [intOf]; omega
    · have hk' : k = n := by omega
      subst hk'
      go_wp2_with fail
      go_ret
      exact ⟨rfl, HB.out⟩
end Go.Proofs.YtbfkbgmkibkbnaaGreatDoor
namespace Go.Proofs.YtbfkbgmkibkbnaaGreatDoor
open Go.RowKit
set_option linter.unusedVariables false
set_option linter.unusedSimpArgs false
theorem heldNodeS_nil (a : Option Addr) (k0 c : Nat) (w : World) :
    Calls Tryz.prog 109 #[.slice a 0 c, .int .i64 k0] w fun e w' => e = .returned (.int .i64 k0) ∧ w = w' := by
  go_enter Tryz.func109, Tryz.ntmps109
  go_wp2_with fail
  go_loopw [1, 5] (fun t s wr => t = .int .i64 k0 ∧ s = .int .i64 0 ∧ w = wr) (fun _ _ _ => 0)
  case atStart => exact ⟨rfl, rfl, rfl⟩
  case round =>
    obtain ⟨rfl, rfl, rfl⟩ := hrel
    go_wp2_with fail
    go_ret
    exact ⟨rfl, rfl⟩
set_option maxRecDepth 20000 in
set_option maxHeartbeats 2000000 in
theorem heldNodeS_row (n k0 b c : Nat) (hn : n ≤ 1048576) (hk0 : 0 < k0) (hk1 : k0 ≤ 1000) (w : World) (h : NodesAt w b (markN k0 n)) :
    Calls Tryz.prog 109 #[.slice (some ⟨b, 0, none⟩) n c, .int .i64 k0] w fun e w' => e = .returned (.int .i64 (k0 + n * 6 : Nat)) ∧ Below w.heap.size w w' := by
  have H := hid h
  clear h
  go_enter Tryz.func109, Tryz.ntmps109
  go_wp2_with fail
  go_loopw [1, 5] (fun t s wr => ∃ k : Nat, k ≤ n ∧ t = .int .i64 (k0 + k * 6 : Nat) ∧ s = .int .i64 k ∧ Below w.heap.size w wr) (fun _ s _ => n - (intOf s).toNat)
  case atStart => exact ⟨0, Nat.zero_le _, rfl, rfl, Below.refl _ _⟩
  case round =>
    obtain ⟨k, hk, rfl, rfl, hbel⟩ := hrel
    have HB := hid hbel
    have hsz := hbel.size
    clear hbel
    by_cases hlt : k < n
    · have hnd := H.out.2 k (by rw [markN_len]; exact hlt)
      rw [markN_at _ _ _ hlt] at hnd
      obtain ⟨d0, d1, d2, d3, d4, d5⟩ := hnd.below HB.out H.out.1
      clear hnd
      simp only [mkNd, Nd.k, Nd.a, Nd.b, Nd.lo, Nd.hi, Nd.nm] at d0 d1 d2 d3 d4 d5
      have hbl : b < wr.heap.size := Nat.lt_of_lt_of_le H.out.1 hsz
      go_wp2_with fail
      go_region_with (go_at_call 76; refine (markText_int _ (k0 + k * 6 + 5) (by push_cast; omega) (by omega) (by omega) _).mono ?_; rintro e w1 ⟨rfl, hb1⟩; have HB1 : Hid (Below w.heap.size w w1) := HB.out.trans (Below.mono ⟨hb1.os, hb1.tape, hb1.output, hb1.size, hb1.block⟩ hsz); have d6 := (hb1.cell (p := ⟨b, k * 6 + 5, none⟩) hbl).trans d5; clear hb1)
      all_goals
        go_wp2_with fail
        go_roundw
        case rel => exact ⟨k + 1, by omega, by simp; omega, by go_num, HB1.out⟩
        case measure => simp [intOf]; omega
    · have hk' : k = n := by omega
      subst hk'
      go_wp2_with fail
      go_ret
      exact ⟨rfl, HB.out⟩
end Go.Proofs.YtbfkbgmkibkbnaaGreatDoor
namespace Go.Proofs.YtbfkbgmkibkbnaaGreatDoor
open Go.RowKit
set_option linter.unusedVariables false
set_option linter.unusedSimpArgs false
set_option maxRecDepth 20000 in
set_option maxHeartbeats 2000000 in
theorem markNodeS_long (n k0 b c : Nat) (z : Nat → Value) (hn : n ≤ 1048576) (hk0 : 0 < k0) (hk1 : k0 ≤ 1000) (m : Nat) (hm : n * 6 ≤ m) (w : World) (h : w.rowIs b 81 m z) :
    Calls Tryz.prog 37 #[.slice (some ⟨b, 0, none⟩) n c, .int .i64 k0] w fun e w' => e = .returned (.int .i64 (k0 + n * 6 : Nat)) ∧ w'.rowIs b 81 m (rowF (markN k0 n) z n) ∧ Save w w' (fun j => j = b) := by
  have HR0 := hid (h.congr (fun j hj => (show z j = rowF (markN k0 n) z 0 j by simp [rowF])))
  have hbl := h.lt
  clear h
  go_enter Tryz.func37, Tryz.ntmps37
  go_wp2_with fail
  go_loopw [1, 5] (fun t s wr => ∃ k : Nat, k ≤ n ∧ t = .int .i64 (k0 + k * 6 : Nat) ∧ s = .int .i64 k ∧ wr.rowIs b 81 m (rowF (markN k0 n) z k) ∧ Save w wr (fun j => j = b)) (fun _ s _ => n - (intOf s).toNat)
  case atStart => exact ⟨0, Nat.zero_le _, rfl, rfl, HR0.out, Save.refl _ _⟩
  case round =>
    clear HR0
    obtain ⟨k, hk, rfl, rfl, hrow, hsv⟩ := hrel
    have HS := hid hsv
    have HRow := hid hrow
    have hsz := hrow.lt
    clear hrow hsv
    by_cases hlt : k < n
    · have d0 := HRow.out.cell (i := k * 6) (by omega)
      have d1 := HRow.out.cell (i := k * 6 + 1) (by omega)
      have d2 := HRow.out.cell (i := k * 6 + 2) (by omega)
      have d3 := HRow.out.cell (i := k * 6 + 3) (by omega)
      have d4 := HRow.out.cell (i := k * 6 + 4) (by omega)
      have f0 := HRow.out.frozen
      go_wp2_with fail
      refine (markText_int _ (k0 + k * 6 + 5) (by push_cast; omega) (by omega) (by omega) _).mono ?_
      rintro e w1 ⟨rfl, hb1⟩
      have HR1 := hid ((((((HRow.out.set (k * 6) _).set (k * 6 + 1) _).set (k * 6 + 2) _).set (k * 6 + 3) _).set (k * 6 + 4) _).of_block (hb1.block b (by simpa using hsz)))
      have HS1 := hid ((((((HS.out.setCell (p := ⟨b, k * 6, none⟩) (fun _ => rfl) _).setCell (p := ⟨b, k * 6 + 1, none⟩) (fun _ => rfl) _).setCell (p := ⟨b, k * 6 + 2, none⟩) (fun _ => rfl) _).setCell (p := ⟨b, k * 6 + 3, none⟩) (fun _ => rfl) _).setCell (p := ⟨b, k * 6 + 4, none⟩) (fun _ => rfl) _).trans (Save.of_below hb1 _ (fun j h1 h2 => absurd h1 (by omega))))
      have d5 := HR1.out.cell (i := k * 6 + 5) (by omega)
      have f5 := HR1.out.frozen (k * 6 + 5)
      clear hb1 d0 d1 d2 d3 d4 f0
      go_wp2_with fail
      go_roundw
      case rel =>
        refine ⟨k + 1, by omega, by simp; omega, by go_num, (HR1.out.set (k * 6 + 5) _).congr (fun j hj => ?_), HS1.out.setCell (p := ⟨b, k * 6 + 5, none⟩) (fun _ => rfl) _⟩
        rw [rowF_step, markN_at _ _ _ hlt]
        simp [mkNd, Int.add_assoc, Nd.k, Nd.a, Nd.b, Nd.lo, Nd.hi, Nd.nm]
      case measure => simp [intOf]; omega
    · have hk' : k = n := by omega
      subst hk'
      go_wp2_with fail
      go_ret
      exact ⟨rfl, HRow.out, HS.out⟩
theorem row_nodes_long {w : World} {b m : Nat} {f : List Nd} {z : Nat → Value} (h : w.rowIs b 81 m (rowF f z f.length)) (hm : f.length * 6 ≤ m) : NodesAt w b f := by
  refine ⟨h.lt, fun i hi => ?_⟩
  have key : ∀ r, r < 6 → w.cell? ⟨b, i * 6 + r, none⟩ = some ((ndCells (ndAt f i)).getD r undef) := by
    intro r hr
    rw [h.cell (by omega)]
    unfold rowF
    rw [if_pos (by omega), show (i * 6 + r) / 6 = i by omega, show (i * 6 + r) % 6 = r by omega]
  exact ⟨key 0 (by decide), key 1 (by decide), key 2 (by decide), key 3 (by decide), key 4 (by decide), key 5 (by decide)⟩
/-- The block of a slice's address. -/
def OfB (a : Option Addr) (j : Nat) : Prop := ∃ q, a = some q ∧ q.block = j
theorem markNs (n : Nat) (a : Option Addr) (c : Nat) (hn : n ≤ 1048576) (w : World) (h : RowA w a n) :
    Calls Tryz.prog 37 #[.slice a n c, .int .i64 1] w fun e w' => e = .returned (.int .i64 (1 + n * 6 : Nat)) ∧ NsA w' a (markN 1 n) ∧ Save w w' (OfB a) := by
  rcases h with rfl | ⟨b, m, z, rfl, hm, h⟩
  · refine (markNodeS_nil a 1 c w).mono ?_
    rintro e w' ⟨rfl, rfl⟩
    exact ⟨rfl, Or.inl rfl, Save.refl _ _⟩
  · refine (markNodeS_long n 1 b c z hn (by omega) (by omega) m hm w h).mono ?_
    rintro e w' ⟨rfl, hr, hs⟩
    refine ⟨rfl, Or.inr ⟨b, rfl, ?_⟩, hs.mono (fun j _ e => ⟨_, rfl, e.symm⟩)⟩
    exact @row_nodes_long w' b m (markN 1 n) z (by rw [markN_len]; exact hr) (by rw [markN_len]; exact hm)
theorem heldNs (n : Nat) (a : Option Addr) (c : Nat) (hn : n ≤ 1048576) (w : World) (h : NsA w a (markN 1 n)) :
    Calls Tryz.prog 109 #[.slice a n c, .int .i64 1] w fun e w' => e = .returned (.int .i64 (1 + n * 6 : Nat)) ∧ Below w.heap.size w w' := by
  rcases h with h | ⟨b, rfl, h⟩
  · rw [markN_len] at h
    subst h
    refine (heldNodeS_nil a 1 c w).mono ?_
    rintro e w' ⟨rfl, rfl⟩
    exact ⟨rfl, Below.refl _ _⟩
  · exact heldNodeS_row n 1 b c hn (by omega) (by omega) w h
theorem NsA.save {w w' : World} {a : Option Addr} {P : List Nd} {S : Nat → Prop} (h : NsA w a P) (hs : Save w w' S) (hS : ∀ q, a = some q → ¬ S q.block) : NsA w' a P :=
  h.imp id (fun ⟨b, e, hn⟩ => ⟨b, e, hs.nodes hn (hS _ e)⟩)
theorem NsA.on {w w' : World} {a : Option Addr} {P : List Nd} (h : NsA w a P) (hb : Below w.heap.size w w') : NsA w' a P :=
  h.imp id (fun ⟨b, e, hn⟩ => ⟨b, e, hn.below hb hn.1⟩)
theorem RowA.save {w w' : World} {a : Option Addr} {n : Nat} {S : Nat → Prop} (h : RowA w a n) (hs : Save w w' S) (hS : ∀ q, a = some q → ¬ S q.block) : RowA w' a n :=
  h.imp id (fun ⟨b, m, z, e, hm, hr⟩ => ⟨b, m, z, e, hm, hr.of_block (hs.block b hr.lt (hS _ e))⟩)
theorem RowA.on {w w' : World} {a : Option Addr} {n : Nat} (h : RowA w a n) (hb : Below w.heap.size w w') : RowA w' a n :=
  h.imp id (fun ⟨b, m, z, e, hm, hr⟩ => ⟨b, m, z, e, hm, hr.of_block (hb.block b hr.lt)⟩)
theorem RowB.save {w w' : World} {a : Option Addr} {F : List Nd} {S : Nat → Prop} (h : RowB w a F) (hs : Save w w' S) (hS : ∀ q, a = some q → ¬ S q.block) : RowB w' a F :=
  h.imp id (fun ⟨b, e, hr⟩ => ⟨b, e, World.rowIs.of_block hr (hs.block b (World.rowIs.lt hr) (hS _ e))⟩)
theorem RowB.on {w w' : World} {a : Option Addr} {F : List Nd} (h : RowB w a F) (hb : Below w.heap.size w w') : RowB w' a F :=
  h.imp id (fun ⟨b, e, hr⟩ => ⟨b, e, World.rowIs.of_block hr (hb.block b (World.rowIs.lt hr))⟩)
set_option maxRecDepth 20000 in
theorem eqNs_nil (a1 a2 : Option Addr) (c1 c2 : Nat) (w : World) :
    Calls Tryz.prog 35 #[.slice a1 0 c1, .slice a2 0 c2] w fun e w' => e = .returned (.bool true) ∧ Below w.heap.size w w' := by
  go_enter Tryz.func35, Tryz.ntmps35
  go_wp2_with fail
  go_loopw [5] (fun t wr => t = .int .i64 0 ∧ wr = w) (fun _ _ => 0)
  case atStart => exact ⟨rfl, rfl⟩
  case round =>
    obtain ⟨rfl, rfl⟩ := hrel
    go_wp2_with fail
    go_ret
    exact ⟨rfl, Below.refl _ _⟩
theorem eqNs (P : List Nd) (n : Nat) (hn : P.length = n) (a1 a2 : Option Addr) (c1 c2 : Nat) (hl : n ≤ 1048576) (w : World) (h1 : NsA w a1 P) (h2 : NsA w a2 P) :
    Calls Tryz.prog 35 #[.slice a1 n c1, .slice a2 n c2] w fun e w' => e = .returned (.bool true) ∧ Below w.heap.size w w' := by
  subst hn
  rcases h1 with h0 | ⟨b1, rfl, h1⟩
  · rw [h0]
    exact eqNs_nil a1 a2 c1 c2 w
  · rcases h2 with h0 | ⟨b2, rfl, h2⟩
    · rw [h0]
      exact eqNs_nil _ a2 c1 c2 w
    · exact eqNodeS_same P b1 b2 c1 c2 hl w h1 h2
/-- Cell j of a row of bare cells of which the first k are marked. -/
def rowM (k0 : Nat) (z : Nat → Value) (k j : Nat) : Value := if j < k * 4 then (if j % 4 = 0 then .int .i64 ((k0 + j / 4 * 3 : Nat) : Int) else if j % 4 = 1 then .int .i64 ((k0 + j / 4 * 3 + 1 : Nat) : Int) else if j % 4 = 2 then .slice none 0 0 else .bool (decide (((k0 + j / 4 * 3 + 2 : Nat) : Int) % 3 = 0))) else z j
theorem rowM_step (k0 : Nat) (z : Nat → Value) (k j : Nat) (hz : z (k * 4 + 2) = .slice none 0 0) : rowM k0 z (k + 1) j = if j = k * 4 + 3 then .bool (decide (((k0 + k * 3 + 2 : Nat) : Int) % 3 = 0)) else if j = k * 4 + 1 then .int .i64 ((k0 + k * 3 + 1 : Nat) : Int) else if j = k * 4 then .int .i64 ((k0 + k * 3 : Nat) : Int) else rowM k0 z k j := by
  unfold rowM
  by_cases h : j < k * 4
  · have e3 : ¬ j = k * 4 + 3 := by omega
    have e1 : ¬ j = k * 4 + 1 := by omega
    have e0 : ¬ j = k * 4 := by omega
    have h' : j < (k + 1) * 4 := by omega
    simp only [e3, e1, e0, h, h', if_true, if_false]
  · by_cases h' : j < (k + 1) * 4
    · have hd : j / 4 = k := by omega
      have hj : j = k * 4 ∨ j = k * 4 + 1 ∨ j = k * 4 + 2 ∨ j = k * 4 + 3 := by omega
      rcases hj with e | e | e | e
      · rw [if_pos h', if_pos (by omega), if_neg (by omega), if_neg (by omega), if_pos e, hd]
      · rw [if_pos h', if_neg (by omega), if_pos (by omega), if_neg (by omega), if_pos e, hd]
      · rw [if_pos h', if_neg (by omega), if_neg (by omega), if_pos (by omega), if_neg (by omega), if_neg (by omega), if_neg (by omega), if_neg h, e, hz]
      · rw [if_pos h', if_neg (by omega), if_neg (by omega), if_neg (by omega), if_pos e, hd]
    · rw [if_neg h', if_neg (by omega), if_neg (by omega), if_neg (by omega), if_neg h]
set_option maxRecDepth 20000 in
set_option maxHeartbeats 2000000 in
theorem markCs_row (n k0 b c : Nat) (z : Nat → Value) (hn : n ≤ 1048576) (hk1 : k0 ≤ 10000000) (m : Nat) (hm : n * 4 ≤ m) (hz : ∀ i, i < n → z (i * 4 + 2) = .slice none 0 0) (w : World) (h : w.rowIs b 96 m z) :
    Calls Tryz.prog 69 #[.slice (some ⟨b, 0, none⟩) n c, .int .i64 k0] w fun e w' => e = .returned (.int .i64 (k0 + n * 3 : Nat)) ∧ w'.rowIs b 96 m (rowM k0 z n) ∧ Save w w' (fun j => j = b) := by
  have HR0 := hid (h.congr (fun j hj => (show z j = rowM k0 z 0 j by simp [rowM])))
  have hbl := h.lt
  have HZ := hid hz
  clear h hz
  go_enter Tryz.func69, Tryz.ntmps69
  go_wp2_with fail
  go_loopw [1, 5] (fun t s wr => ∃ k : Nat, k ≤ n ∧ t = .int .i64 (k0 + k * 3 : Nat) ∧ s = .int .i64 k ∧ wr.rowIs b 96 m (rowM k0 z k) ∧ Save w wr (fun j => j = b)) (fun _ s _ => n - (intOf s).toNat)
  case atStart => exact ⟨0, Nat.zero_le _, rfl, rfl, HR0.out, Save.refl _ _⟩
  case round =>
    clear HR0
    obtain ⟨k, hk, rfl, rfl, hrow, hsv⟩ := hrel
    have HS := hid hsv
    have HRow := hid hrow
    have hsz := hrow.lt
    clear hrow hsv
    by_cases hlt : k < n
    · have HZk := hid (HZ.out k hlt)
      have d0 := HRow.out.cell (i := k * 4) (by omega)
      have d1 := HRow.out.cell (i := k * 4 + 1) (by omega)
      have d2' := HRow.out.cell (i := k * 4 + 2) (by omega)
      have d2 : wr.cell? ⟨b, k * 4 + 2, none⟩ = some (.slice none 0 0) := by rw [d2']; unfold rowM; rw [if_neg (by omega), HZk.out]
      have d3 := HRow.out.cell (i := k * 4 + 3) (by omega)
      have f0 := HRow.out.frozen
      have HMI := hid (fun (q : Nat) (hq : q ≤ 1000000000) w => markInt64S_any q 0 none 0 (by omega) hq w (Or.inl rfl))
      clear d2'
      go_wp2_with fail
      rw [show ((k0 : Int) + (k : Int) * 3 + 1 + 1) = ((k0 + k * 3 + 2 : Nat) : Int) by push_cast; omega]
      refine (HMI.out (k0 + k * 3 + 2) (by omega) _).mono ?_
      rintro e w1 ⟨rfl, _, hs1⟩
      have hno : ¬ OfT none b := fun h => by obtain ⟨q, e, _⟩ := h; cases e
      have HR1 := hid (((HRow.out.set (k * 4) _).set (k * 4 + 1) _).of_block (hs1.block b (by simpa using hsz) hno))
      have HS1 := hid (((HS.out.setCell (p := ⟨b, k * 4, none⟩) (fun _ => rfl) (.int .i64 ((k0 : Int) + (k : Int) * 3))).setCell (p := ⟨b, k * 4 + 1, none⟩) (fun _ => rfl) (.int .i64 ((k0 : Int) + (k : Int) * 3 + 1))).trans (hs1.mono (fun j _ h => by obtain ⟨q, e, _⟩ := h; cases e)))
      have e3 := HR1.out.cell (i := k * 4 + 3) (by omega)
      have f3 := HR1.out.frozen (k * 4 + 3)
      have HSt := hid (fun j => rowM_step k0 z k j HZk.out)
      clear hs1 d0 d1 d2 d3 f0 HMI
      go_wp2_with fail
      go_roundw
      case rel =>
        refine ⟨k + 1, by omega, by simp; omega, by go_num, (HR1.out.set (k * 4 + 3) _).congr (fun j hj => ?_), HS1.out.setCell (p := ⟨b, k * 4 + 3, none⟩) (fun _ => rfl) _⟩
        rw [HSt.out]
        split
        · congr 1
        · split
          · congr 1
          · split
            · congr 1
            · rfl
      case measure => simp [intOf]; omega
    · have hk' : k = n := by omega
      subst hk'
      go_wp2_with fail
      go_ret
      exact ⟨rfl, HRow.out, HS.out⟩
end Go.Proofs.YtbfkbgmkibkbnaaGreatDoor
namespace Go.Proofs.YtbfkbgmkibkbnaaGreatDoor
open Go.RowKit
set_option linter.unusedVariables false
set_option linter.unusedSimpArgs false
/-- An answer that is read. -/
structure OutR (w : World) (fa ca aa : Option Addr) (F : List Nd) (D : List Cl) (V : List Bool) : Prop where
  f : NsA w fa F
  c : CksAt w ca D
  b : BsAt w aa V
theorem OutR.below {w w' : World} {fa ca aa : Option Addr} {F : List Nd} {D : List Cl} {V : List Bool} (h : OutR w fa ca aa F D V) (hb : Below w.heap.size w w') : OutR w' fa ca aa F D V := ⟨h.f.on hb, h.c.on hb, h.b.below hb⟩
set_option maxRecDepth 20000 in
set_option maxHeartbeats 2000000 in
theorem eqMonG (F : List Nd) (D : List Cl) (n : Nat) (hn : F.length = n) (hd : D.length = n) (cnt now : Int) (a1 a2 : Option Addr) (d1 d2 : Nat) (b1 b2 : Option Addr) (c1 c2 : Nat) (hl : n ≤ 1048576) (hl2 : ∀ i, i < D.length → (clAt D i).ts.length ≤ 2000000) (w : World) (n1 : NsA w a1 F) (n2 : NsA w a2 F) (h1 : CksAt w b1 D) (h2 : CksAt w b2 D) :
    Calls Tryz.prog 23 #[.agg #[.slice a1 n d1, .int .i64 cnt, .int .i64 now, .slice b1 n c1], .agg #[.slice a2 n d2, .int .i64 cnt, .int .i64 now, .slice b2 n c2]] w fun e w' => e = .returned (.bool true) ∧ Below w.heap.size w w' := by
  have HB0 := hid (bbelow2' w (.cells #[.slice a1 n d1, .int .i64 cnt, .int .i64 now, .slice b1 n c1] 34) (.cells #[.slice a2 n d2, .int .i64 cnt, .int .i64 now, .slice b2 n c2] 34))
  have N1 := hid (n1.on HB0.out)
  have N2 := hid (n2.on HB0.out)
  have H1 := hid (h1.on HB0.out)
  have H2 := hid (h2.on HB0.out)
  have HCS := hid (fun w h1 h2 => eqCellS_any D n hd b1 b2 c1 c2 hl hl2 w h1 h2)
  have HNS := hid (fun w h1 h2 => eqNs F n hn a1 a2 d1 d2 hl w h1 h2)
  have e1 : (cnt != cnt) = false := by simp
  have e2 : (now != now) = false := by simp
  clear n1 n2 h1 h2 hn hd hl2
  go_enter Tryz.func23, Tryz.ntmps23
  go_wp2_with (first | (go_at_call 35; refine (HNS.out _ N1.out N2.out).mono ?_; rintro e w1 ⟨rfl, hb⟩; have HB1 := hid (HB0.out.trans (hb.mono (by simp; omega))); have H11 := hid (H1.out.on hb); have H12 := hid (H2.out.on hb); obtain ⟨hc, hf⟩ := bcell hb; have hz : w.heap.size + 2 ≤ w1.heap.size := (by have := hb.size; simp at this; omega); clear hb) | (go_at_call 67; refine (HCS.out _ H11.out H12.out).mono ?_; rintro e w2 ⟨rfl, hb2⟩; have HB2 := hid (HB1.out.trans (hb2.mono HB1.out.size)); clear hb2))
  go_ret
  exact ⟨rfl, HB2.out⟩
set_option maxRecDepth 20000 in
set_option maxHeartbeats 2000000 in
theorem eqOutG (F : List Nd) (D : List Cl) (V : List Bool) (n m : Nat) (hn : F.length = n) (hd : D.length = n) (hv : V.length = m) (cnt now : Int) (yes : Bool) (code : Int) (a1 a2 : Option Addr) (d1 d2 : Nat) (b1 b2 : Option Addr) (c1 c2 : Nat) (e1 e2 : Option Addr) (g1 g2 : Nat) (hl : n ≤ 1048576) (hm : m ≤ 1048576) (hl2 : ∀ i, i < D.length → (clAt D i).ts.length ≤ 2000000) (w : World) (r1 : OutR w a1 b1 e1 F D V) (r2 : OutR w a2 b2 e2 F D V) :
    Calls Tryz.prog 22 #[outV a1 n d1 cnt now b1 n c1 yes e1 m g1 code, outV a2 n d2 cnt now b2 n c2 yes e2 m g2 code] w fun e w' => e = .returned (.bool true) ∧ Below w.heap.size w w' := by
  unfold outV
  have HB0 := hid (bbelow2' w (.cells #[.slice a1 n d1, .int .i64 cnt, .int .i64 now, .slice b1 n c1, .bool yes, .slice e1 m g1, .int .i64 code] 36) (.cells #[.slice a2 n d2, .int .i64 cnt, .int .i64 now, .slice b2 n c2, .bool yes, .slice e2 m g2, .int .i64 code] 36))
  have HX1 := hid ((OBox.new2 w a1 n d1 cnt now b1 n c1 yes e1 m g1 code).1.on (below_one' _ (.cells #[.slice a2 n d2, .int .i64 cnt, .int .i64 now, .slice b2 n c2, .bool yes, .slice e2 m g2, .int .i64 code] 36)))
  have HX2 : Hid (OBox ((w.alloc (.cells #[.slice a1 n d1, .int .i64 cnt, .int .i64 now, .slice b1 n c1, .bool yes, .slice e1 m g1, .int .i64 code] 36)).alloc (.cells #[.slice a2 n d2, .int .i64 cnt, .int .i64 now, .slice b2 n c2, .bool yes, .slice e2 m g2, .int .i64 code] 36)) (w.heap.size + 1) a2 n d2 cnt now b2 n c2 yes e2 m g2 code) := by have := (OBox.new2 (w.alloc (.cells #[.slice a1 n d1, .int .i64 cnt, .int .i64 now, .slice b1 n c1, .bool yes, .slice e1 m g1, .int .i64 code] 36)) a2 n d2 cnt now b2 n c2 yes e2 m g2 code).1; rw [World.size_alloc] at this; exact this
  have HM := hid (fun w n1 n2 h1 h2 => eqMonG F D n hn hd cnt now a1 a2 d1 d2 b1 b2 c1 c2 hl hl2 w n1 n2 h1 h2)
  have R1 := hid (r1.below HB0.out)
  have R2 := hid (r2.below HB0.out)
  have HBs := hid (fun w h1 h2 => eqBoolS_any V m hv e1 e2 g1 g2 hm w h1 h2)
  clear r1 r2 hn hd hv hl2
  have x1 : (code != code) = false := by simp
  cases yes
  all_goals
    go_enter Tryz.func22, Tryz.ntmps22
    go_wp2_with (first | (go_at_call 23; refine (HM.out _ R1.out.f R2.out.f R1.out.c R2.out.c).mono ?_; rintro e w1 ⟨rfl, hb⟩; have HB1 := hid (HB0.out.trans (hb.mono (by simp; omega))); have R11 := hid (R1.out.below hb); have R12 := hid (R2.out.below hb); have HY1 := hid (HX1.out.on hb); have HY2 := hid (HX2.out.on hb); obtain ⟨_, o0, o1, o2, o3, o4, o5, o6⟩ := HY1.out; obtain ⟨_, p0, p1, p2, p3, p4, p5, p6⟩ := HY2.out; clear hb) | (go_at_call 34; refine (HBs.out _ R11.out.b R12.out.b).mono ?_; rintro e w2 ⟨rfl, hb2⟩; have HB2 := hid (HB1.out.trans (hb2.mono HB1.out.size)); clear o0 o1 o2 o3 o4 o5 o6 p0 p1 p2 p3 p4 p5 p6; obtain ⟨_, o0, o1, o2, o3, o4, o5, o6⟩ := HY1.out.on hb2; obtain ⟨_, p0, p1, p2, p3, p4, p5, p6⟩ := HY2.out.on hb2; clear hb2))
    go_ret
    exact ⟨rfl, HB2.out⟩
def CkMuN (w : World) (ca : Option Addr) (n : Nat) (A : Nat → Option Addr) (N C : Nat → Nat) : Prop := n = 0 ∨ ∃ b, ca = some ⟨b, 0, none⟩ ∧ CkMu w b n A N C
def CkHdN (w : World) (ca : Option Addr) (n k0 : Nat) (A : Nat → Option Addr) (N C : Nat → Nat) : Prop := n = 0 ∨ ∃ b, ca = some ⟨b, 0, none⟩ ∧ CkHd w b n k0 A N C
theorem CkHdN.on {w w' : World} {ca : Option Addr} {n k0 : Nat} {A : Nat → Option Addr} {N C : Nat → Nat} (h : CkHdN w ca n k0 A N C) (hb : Below w.heap.size w w') : CkHdN w' ca n k0 A N C := h.imp id (fun ⟨b, e, h⟩ => ⟨b, e, h.on hb⟩)
/-- An answer, or a Monitor, to be marked: where its blocks lie. -/
structure OutM (w : World) (B : Nat) (fa ca aa : Option Addr) (nf n m : Nat) (A : Nat → Option Addr) (N C : Nat → Nat) : Prop where
  rf : RowA w fa nf
  rc : CkMuN w ca n A N C
  rb : RowBs w aa m
  bf : ∀ q, fa = some q → q = ⟨q.block, 0, none⟩ ∧ B ≤ q.block ∧ q.block < w.heap.size
  bc : ∀ q, ca = some q → q = ⟨q.block, 0, none⟩ ∧ B ≤ q.block ∧ q.block < w.heap.size
  bb : ∀ q, aa = some q → q = ⟨q.block, 0, none⟩ ∧ B ≤ q.block ∧ q.block < w.heap.size
  bt : ∀ i, i < n → ∀ q, A i = some q → B ≤ q.block ∧ q.block < w.heap.size
  o1 : ∀ p q, fa = some p → ca = some q → p.block ≠ q.block
  o2 : ∀ p q, fa = some p → aa = some q → p.block ≠ q.block
  o3 : ∀ p q, ca = some p → aa = some q → p.block ≠ q.block
  t1 : ∀ i, i < n → ∀ p q, A i = some p → fa = some q → p.block ≠ q.block
  t2 : ∀ i, i < n → ∀ p q, A i = some p → aa = some q → p.block ≠ q.block
def ofC (ca : Option Addr) (n : Nat) (A : Nat → Option Addr) (j : Nat) : Prop := OfB ca j ∨ ∃ i, i < n ∧ OfT (A i) j
theorem CkMuN.save {w w' : World} {ca : Option Addr} {n : Nat} {A : Nat → Option Addr} {N C : Nat → Nat} {S : Nat → Prop} (h : CkMuN w ca n A N C) (hs : Save w w' S) (hS : ∀ j, ofC ca n A j → ¬ S j) : CkMuN w' ca n A N C :=
  h.imp id (fun ⟨b, e, h⟩ => ⟨b, e, h.save hs (fun j hj => hS j (by rcases hj with rfl | hj; exact Or.inl ⟨_, e, rfl⟩; exact Or.inr hj))⟩)
theorem OutM.save {w w' : World} {B : Nat} {fa ca aa : Option Addr} {nf n m : Nat} {A : Nat → Option Addr} {N C : Nat → Nat} {S : Nat → Prop} (h : OutM w B fa ca aa nf n m A N C) (hs : Save w w' S) (hS : ∀ j, B ≤ j → j < w.heap.size → ¬ S j) : OutM w' B fa ca aa nf n m A N C := by
  have hz := hs.size
  refine ⟨h.rf.save hs (fun q e => hS _ (h.bf q e).2.1 (h.bf q e).2.2), h.rc.save hs (fun j hj => ?_), h.rb.save hs (fun b e => hS _ (h.bb _ e).2.1 (h.bb _ e).2.2), fun q e => ⟨(h.bf q e).1, (h.bf q e).2.1, by have := (h.bf q e).2.2; omega⟩, fun q e => ⟨(h.bc q e).1, (h.bc q e).2.1, by have := (h.bc q e).2.2; omega⟩, fun q e => ⟨(h.bb q e).1, (h.bb q e).2.1, by have := (h.bb q e).2.2; omega⟩, fun i hi q e => ⟨(h.bt i hi q e).1, by have := (h.bt i hi q e).2; omega⟩, h.o1, h.o2, h.o3, h.t1, h.t2⟩
  rcases hj with ⟨q, e, rfl⟩ | ⟨i, hi, q, e, rfl⟩
  · exact hS _ (h.bc q e).2.1 (h.bc q e).2.2
  · exact hS _ (h.bt i hi q e).1 (h.bt i hi q e).2
theorem OutM.on {w w' : World} {B : Nat} {fa ca aa : Option Addr} {nf n m : Nat} {A : Nat → Option Addr} {N C : Nat → Nat} (h : OutM w B fa ca aa nf n m A N C) (hb : Below w.heap.size w w') : OutM w' B fa ca aa nf n m A N C :=
  h.save (S := fun _ => False) (Save.of_below hb _ (fun j h1 h2 => absurd h1 (by omega))) (fun _ _ _ h => h)
theorem markCsN (n k0 : Nat) (ca : Option Addr) (cap : Nat) (A : Nat → Option Addr) (N C : Nat → Nat) (hn : n ≤ 1048576) (hN : ∀ i, i < n → N i ≤ 2000000) (hk1 : kC k0 N n ≤ 1000000000) (w : World) (h : CkMuN w ca n A N C) :
    Calls Tryz.prog 69 #[.slice ca n cap, .int .i64 k0] w fun e w' => e = .returned (.int .i64 (kC k0 N n : Nat)) ∧ CkHdN w' ca n k0 A N C ∧ Save w w' (ofC ca n A) := by
  rcases h with rfl | ⟨b, rfl, h⟩
  · refine (markCs_nil' ca k0 cap w).mono ?_
    rintro e w' ⟨rfl, rfl⟩
    exact ⟨rfl, Or.inl rfl, Save.refl _ _⟩
  · refine (markCs_up n k0 b cap k0 rfl A N C hn hN hk1 w h).mono ?_
    rintro e w' ⟨rfl, h1, h2⟩
    exact ⟨rfl, Or.inr ⟨b, rfl, h1⟩, h2.mono (fun j _ e => by rcases e with rfl | e; exact Or.inl ⟨_, rfl, rfl⟩; exact Or.inr e)⟩
theorem heldCsN (n k0 : Nat) (ca : Option Addr) (cap : Nat) (A : Nat → Option Addr) (N C : Nat → Nat) (hn : n ≤ 1048576) (hN : ∀ i, i < n → N i ≤ 2000000) (hk1 : kC k0 N n ≤ 1000000000) (w : World) (h : CkHdN w ca n k0 A N C) :
    Calls Tryz.prog 110 #[.slice ca n cap, .int .i64 k0] w fun e w' => e = .returned (.int .i64 (kC k0 N n : Nat)) ∧ Below w.heap.size w w' := by
  rcases h with rfl | ⟨b, rfl, h⟩
  · refine (heldCs_nil' ca k0 cap w).mono ?_
    rintro e w' ⟨rfl, rfl⟩
    exact ⟨rfl, Below.refl _ _⟩
  · exact heldCs_up n k0 b cap k0 rfl A N C hn hN hk1 w h
set_option maxRecDepth 20000 in
set_option maxHeartbeats 2000000 in
theorem markMonG (nf n : Nat) (cnt now : Int) (fa : Option Addr) (fc : Nat) (ca : Option Addr) (cc : Nat) (aa : Option Addr) (m : Nat) (A : Nat → Option Addr) (N C : Nat → Nat) (hl0 : nf ≤ 1048576) (hl : n ≤ 1048576) (hN : ∀ i, i < n → N i ≤ 2000000) (hk1 : kC (1 + nf * 6) N n ≤ 1000000000) (B : Nat) (w : World) (h : OutM w B fa ca aa nf n m A N C) :
    Calls Tryz.prog 25 #[.agg #[.slice fa nf fc, .int .i64 cnt, .int .i64 now, .slice ca n cc], .int .i64 1] w fun e w' => e = .returned (.int .i64 (kC (1 + nf * 6) N n : Nat)) ∧ NsA w' fa (markN 1 nf) ∧ CkHdN w' ca n (1 + nf * 6) A N C ∧ Save w w' (fun j => OfB fa j ∨ ofC ca n A j) := by
  have HB0 := hid (below_one' w (.cells #[.slice fa nf fc, .int .i64 cnt, .int .i64 now, .slice ca n cc] 34))
  have HX0 := hid (MBox.new w fa nf fc cnt now ca n cc 34)
  have H := hid (h.on HB0.out)
  have HO := hid h
  have HMN := hid (fun w h => markNs nf fa fc (by omega) w h)
  have HMC := hid (fun w h => markCsN n (1 + nf * 6) ca cc A N C (by omega) hN hk1 w h)
  have hS0 : Hid (Save w (w.alloc (.cells #[.slice fa nf fc, .int .i64 cnt, .int .i64 now, .slice ca n cc] 34)) (fun j => OfB fa j ∨ ofC ca n A j)) := Save.alloc (Save.refl w _) _
  clear h hN
  generalize hKK : kC (1 + nf * 6) N n = KK at *
  clear hKK
  go_enter Tryz.func25, Tryz.ntmps25
  go_wp2_with (first | (go_at_call 37; refine (HMN.out _ H.out.rf).mono ?_; rintro e w1 ⟨rfl, hn1, hs1⟩; have HN1 := hid hn1; have HS1 := hid hs1; have HC1 := hid (H.out.rc.save hs1 (fun j hj h => by obtain ⟨p, e2, h⟩ := h; rcases hj with ⟨q, e3, h3⟩ | ⟨i, hi, q, e3, h3⟩; exact HO.out.o1 p q e2 e3 (by omega); exact HO.out.t1 i hi q p e3 e2 (by omega))); obtain ⟨_, m0, m1, m2, m3⟩ := HX0.out.save hs1 (fun h => by obtain ⟨p, e2, h⟩ := h; have := (HO.out.bf p e2).2.2; omega); clear hn1 hs1) | (go_at_call 69; refine (HMC.out _ HC1.out).mono ?_; rintro e w2 ⟨rfl, hm2, hs2⟩; have HM2 := hid hm2; have HN2 := hid (HN1.out.save hs2 (fun p e2 hj => by rcases hj with ⟨q, e3, h3⟩ | ⟨i, hi, q, e3, h3⟩; exact HO.out.o1 p q e2 e3 (by omega); exact HO.out.t1 i hi q p e3 e2 (by omega))); have HS2 := hid ((hS0.out.trans (HS1.out.mono (fun j _ h => Or.inl h))).trans (hs2.mono (fun j _ h => Or.inr h))); clear hm2 hs2))
  go_ret
  exact ⟨rfl, HN2.out, HM2.out, HS2.out⟩
set_option maxRecDepth 20000 in
set_option maxHeartbeats 2000000 in
theorem heldMonG (n : Nat) (cnt now : Int) (fa : Option Addr) (fc : Nat) (ca : Option Addr) (cc : Nat) (A : Nat → Option Addr) (N C : Nat → Nat) (hl : n ≤ 1000000) (hN : ∀ i, i < n → N i ≤ 2000000) (hk1 : kC (1 + n * 6) N n ≤ 1000000000) (w : World) (hf : NsA w fa (markN 1 n)) (hc : CkHdN w ca n (1 + n * 6) A N C) :
    Calls Tryz.prog 71 #[.agg #[.slice fa n fc, .int .i64 cnt, .int .i64 now, .slice ca n cc], .int .i64 1] w fun e w' => e = .returned (.int .i64 (kC (1 + n * 6) N n : Nat)) ∧ Below w.heap.size w w' := by
  have HB0 := hid (below_one' w (.cells #[.slice fa n fc, .int .i64 cnt, .int .i64 now, .slice ca n cc] 34))
  have HX0 := hid (MBox.new w fa n fc cnt now ca n cc 34)
  have HF := hid (hf.on HB0.out)
  have HC := hid (hc.on HB0.out)
  have HMN := hid (fun w h => heldNs n fa fc (by omega) w h)
  have HMC := hid (fun w h => heldCsN n (1 + n * 6) ca cc A N C (by omega) hN hk1 w h)
  have hk0 : ¬ (((1 + n * 6 : Nat) : Int) < 0) := by omega
  clear hf hc hN
  generalize hKK : kC (1 + n * 6) N n = KK at *
  have hk2 : ¬ ((KK : Int) < 0) := by omega
  clear hKK
  go_enter Tryz.func71, Tryz.ntmps71
  go_wp2_with (first | (go_at_call 109; refine (HMN.out _ HF.out).mono ?_; rintro e w1 ⟨rfl, hb1⟩; have HB1 := hid (HB0.out.trans (hb1.mono HB0.out.size)); have HC1 := hid (HC.out.on hb1); obtain ⟨_, m0, m1, m2, m3⟩ := HX0.out.on hb1; clear hb1) | (go_at_call 110; refine (HMC.out _ HC1.out).mono ?_; rintro e w2 ⟨rfl, hb2⟩; have HB2 := hid (HB1.out.trans (hb2.mono HB1.out.size)); clear hb2))
  go_ret
  exact ⟨rfl, HB2.out⟩
/-- An answer that holds its marks. -/
structure OutH (w : World) (fa ca aa : Option Addr) (n m : Nat) (A : Nat → Option Addr) (N C : Nat → Nat) : Prop where
  f : NsA w fa (markN 1 n)
  c : CkHdN w ca n (1 + n * 6) A N C
  b : BsAt w aa (markB (kC (1 + n * 6) N n) m)
theorem OutH.on {w w' : World} {fa ca aa : Option Addr} {n m : Nat} {A : Nat → Option Addr} {N C : Nat → Nat} (h : OutH w fa ca aa n m A N C) (hb : Below w.heap.size w w') : OutH w' fa ca aa n m A N C := ⟨h.f.on hb, h.c.on hb, h.b.below hb⟩
set_option maxRecDepth 20000 in
set_option maxHeartbeats 2000000 in
theorem markOutG (n m : Nat) (cnt now : Int) (yes : Bool) (code : Int) (fa : Option Addr) (fc : Nat) (ca : Option Addr) (cc : Nat) (aa : Option Addr) (ac : Nat) (A : Nat → Option Addr) (N C : Nat → Nat) (hl : n ≤ 1000000) (hm : m ≤ 1000000) (hN : ∀ i, i < n → N i ≤ 2000000) (hk1 : kC (1 + n * 6) N n ≤ 900000000) (B : Nat) (w : World) (h : OutM w B fa ca aa n n m A N C) :
    Calls Tryz.prog 27 #[outV fa n fc cnt now ca n cc yes aa m ac code, .int .i64 1] w fun e w' => e = .returned (.int .i64 (kC (1 + n * 6) N n + m : Nat)) ∧ OutH w' fa ca aa n m A N C ∧ Save w w' (fun j => OfB fa j ∨ ofC ca n A j ∨ OfB aa j) := by
  unfold outV
  have HB0 := hid (below_one' w (.cells #[.slice fa n fc, .int .i64 cnt, .int .i64 now, .slice ca n cc, .bool yes, .slice aa m ac, .int .i64 code] 36))
  have HX0 := hid (OBox.new2 w fa n fc cnt now ca n cc yes aa m ac code).1
  have HO := hid h
  have H := hid (h.on HB0.out)
  have HMM := hid (markMonG n n cnt now fa fc ca cc aa m A N C (by omega) (by omega) hN (by omega) B _ H.out)
  have HBs := hid (fun w h => markBs_up (kC (1 + n * 6) N n) m aa ac (by omega) (by omega) w h)
  have HOH : Hid (∀ w', NsA w' fa (markN 1 n) → CkHdN w' ca n (1 + n * 6) A N C → BsAt w' aa (markB (kC (1 + n * 6) N n) m) → OutH w' fa ca aa n m A N C) := fun w' h1 h2 h3 => ⟨h1, h2, h3⟩
  have hS0 : Hid (Save w (w.alloc (.cells #[.slice fa n fc, .int .i64 cnt, .int .i64 now, .slice ca n cc, .bool yes, .slice aa m ac, .int .i64 code] 36)) (fun j => OfB fa j ∨ ofC ca n A j ∨ OfB aa j)) := Save.alloc (Save.refl w _) _
  clear h hN
  generalize hKK : kC (1 + n * 6) N n = KK at *
  clear hKK
  go_enter Tryz.func27, Tryz.ntmps27
  go_wp2_with (first | (go_at_call 25; refine HMM.out.mono ?_; rintro e w1 ⟨rfl, hn1, hm1, hs1⟩; have HN1 := hid hn1; have HM1 := hid hm1; have HS1 := hid (hS0.out.trans (hs1.mono (fun j _ hj => by rcases hj with h | h; exact Or.inl h; exact Or.inr (Or.inl h)))); have HRb := hid (H.out.rb.save hs1 (fun b e hj => by rcases hj with ⟨q, e3, h3⟩ | ⟨q, e3, h3⟩ | ⟨i, hi, q, e3, h3⟩; exact HO.out.o2 q _ e3 e h3; exact HO.out.o3 q _ e3 e h3; exact HO.out.t2 i hi q _ e3 e h3)); obtain ⟨_, o0, o1, o2, o3, o4, o5, o6⟩ := HX0.out.save hs1 (fun hj => by rcases hj with ⟨q, e3, h3⟩ | ⟨q, e3, h3⟩ | ⟨i, hi, q, e3, h3⟩; (have := HO.out.bf q e3; omega); (have := HO.out.bc q e3; omega); (have := HO.out.bt i hi q e3; omega)); clear hn1 hm1 hs1) | (go_at_call 39; refine (HBs.out _ HRb.out).mono ?_; rintro e w2 ⟨rfl, hb2, hs2⟩; have HH2 := hid (HOH.out _ (HN1.out.save hs2 (fun p e hj => by obtain ⟨q, e3, h3⟩ := hj; exact HO.out.o2 p q e e3 h3.symm)) (by rcases HM1.out with h | ⟨b, e, h⟩; exact Or.inl h; exact Or.inr ⟨b, e, ⟨Nat.lt_of_lt_of_le h.lt hs2.size, fun i hi => (hs2.cell (p := ⟨b, _, none⟩) h.lt (fun hj => by obtain ⟨q, e3, h3⟩ := hj; exact HO.out.o3 _ q e e3 h3.symm)).trans (h.lo i hi), fun i hi => (hs2.cell (p := ⟨b, _, none⟩) h.lt (fun hj => by obtain ⟨q, e3, h3⟩ := hj; exact HO.out.o3 _ q e e3 h3.symm)).trans (h.hi i hi), fun i hi => (hs2.cell (p := ⟨b, _, none⟩) h.lt (fun hj => by obtain ⟨q, e3, h3⟩ := hj; exact HO.out.o3 _ q e e3 h3.symm)).trans (h.sl i hi), fun i hi => (hs2.cell (p := ⟨b, _, none⟩) h.lt (fun hj => by obtain ⟨q, e3, h3⟩ := hj; exact HO.out.o3 _ q e e3 h3.symm)).trans (h.was i hi), fun i hi => ArgI.save (h.times i hi) hs2 (fun p e4 hj => by obtain ⟨q, e3, h3⟩ := hj; exact HO.out.t2 i hi p q e4 e3 h3.symm)⟩⟩) hb2); have HS2 := hid (HS1.out.trans (hs2.mono (fun j _ hj => Or.inr (Or.inr hj)))); clear hb2 hs2))
  go_ret
  exact ⟨rfl, HH2.out, HS2.out⟩
set_option maxRecDepth 20000 in
set_option maxHeartbeats 2000000 in
theorem heldOutG (n m : Nat) (cnt now : Int) (yes : Bool) (code : Int) (fa : Option Addr) (fc : Nat) (ca : Option Addr) (cc : Nat) (aa : Option Addr) (ac : Nat) (A : Nat → Option Addr) (N C : Nat → Nat) (hl : n ≤ 1000000) (hm : m ≤ 1000000) (hN : ∀ i, i < n → N i ≤ 2000000) (hk1 : kC (1 + n * 6) N n ≤ 900000000) (w : World) (h : OutH w fa ca aa n m A N C) :
    Calls Tryz.prog 28 #[outV fa n fc cnt now ca n cc yes aa m ac code, .int .i64 1] w fun e w' => e = .returned (.int .i64 (kC (1 + n * 6) N n + m : Nat)) ∧ Below w.heap.size w w' := by
  unfold outV
  have HB0 := hid (below_one' w (.cells #[.slice fa n fc, .int .i64 cnt, .int .i64 now, .slice ca n cc, .bool yes, .slice aa m ac, .int .i64 code] 36))
  have HX0 := hid (OBox.new2 w fa n fc cnt now ca n cc yes aa m ac code).1
  have H := hid (h.on HB0.out)
  have HMM := hid (heldMonG n cnt now fa fc ca cc A N C hl hN (by omega) _ H.out.f H.out.c)
  have HBs := hid (fun w h => heldBs_up (kC (1 + n * 6) N n) m aa ac (by omega) (by omega) w h)
  have HHb := hid H.out.b
  clear h hN H
  generalize hKK : kC (1 + n * 6) N n = KK at *
  have hk2 : ¬ ((KK : Int) < 0) := by omega
  have hk3 : ¬ (((KK + m : Nat) : Int) < 0) := by omega
  clear hKK
  go_enter Tryz.func28, Tryz.ntmps28
  go_wp2_with (first | (go_at_call 71; refine HMM.out.mono ?_; rintro e w1 ⟨rfl, hb1⟩; have HB1 := hid (HB0.out.trans (hb1.mono HB0.out.size)); have HHb1 := hid (HHb.out.below hb1); obtain ⟨_, o0, o1, o2, o3, o4, o5, o6⟩ := HX0.out.on hb1; clear hb1) | (go_at_call 40; refine (HBs.out _ HHb1.out).mono ?_; rintro e w2 ⟨rfl, hb2⟩; have HB2 := hid (HB1.out.trans (hb2.mono HB1.out.size)); clear hb2))
  go_ret
  exact ⟨rfl, HB2.out⟩
end Go.Proofs.YtbfkbgmkibkbnaaGreatDoor
