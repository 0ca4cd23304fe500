/-
  The model's l04Holds: the kinds with calls and loops; all kinds together. (Written by wip/tools/gen_meanS.py.)
-/
import Derived.Test.YtbfkbgmkibkbnaaGreatDoorPa02
namespace Go.Proofs.YtbfkbgmkibkbnaaGreatDoor
open Go.RowKit
set_option linter.unusedVariables false
set_option linter.unusedSimpArgs false
/-- The place of a loop that goes down, one ahead. -/
def jV : Nat → Value
  | 0 => .int .i64 (-1)
  | k + 1 => .int .i64 k
theorem jV_step (j : Nat) : Value.int .i64 ((j : Int) - 1) = jV j := by
  cases j with
  | zero => rfl
  | succ j => simp [jV]
theorem jV_start (i : Nat) : Value.int .i64 (i : Int) = jV (i + 1) := rfl
set_option maxRecDepth 20000 in
set_option maxHeartbeats 2000000 in
theorem specHold2 (f : List Nd) (L : List Evt) (n i fb eb : Nat) (ta : Option Addr) (fc tc ec : Nat) (w : World) (h : HoldIn w f L n i fb eb ta) (hk : (ndAt f n).k = 2) :
    Calls Tryz.prog 87 #[.slice (some ⟨fb, 0, none⟩) f.length fc, .slice ta n tc, .int .i64 n, .slice (some ⟨eb, 0, none⟩) L.length ec, .int .i64 i] w fun e w' => e = .returned (.bool (hv f L n i)) ∧ Below w.heap.size w w' := by
  obtain ⟨c0, c1, c2, c3, c4, c5⟩ := h.nodes.2 n h.hn
  have hn := h.hn
  have hi := h.hi
  have hfl := h.fl
  have hll := h.ll
  have hfb := h.nodes.1
  have heb := h.evs.1
  have HV := hid (hv2 f L n i h.arms hk)
  obtain ⟨d0, a1, c1', d1, hT⟩ := h.evs.2 i hi
  have hnm := h.nms i hi
  rw [hk] at c0
  clear h hk
  generalize ndAt f n = x at *
  generalize evAt L i = T at *
  have HBW := hid ((Below.refl w.heap.size w).alloc (Nat.le_refl _) (.cells #[.int .i64 2, .int .i64 x.a, .int .i64 x.b, .int .i64 x.lo, .int .i64 x.hi, .string x.nm] 81))
  have e5 : (w.alloc (.cells #[.int .i64 2, .int .i64 x.a, .int .i64 x.b, .int .i64 x.lo, .int .i64 x.hi, .string x.nm] 81)).cell? ⟨w.heap.size, 5, none⟩ = some (.string x.nm) := by simp [go_sem]
  have e0 := (HBW.out.cell (p := ⟨eb, i * 2, none⟩) heb).trans d0
  have e1 := (HBW.out.cell (p := ⟨eb, i * 2 + 1, none⟩) heb).trans d1
  have HT := hid (hT.below HBW.out)
  have HC := hid (fun d os => Calls.regrown_of (specL03Has_any T.1 T.2 x.nm _ rfl a1 c1' hnm (Sort.grow (redrawn (w.alloc (.cells #[.int .i64 2, .int .i64 x.a, .int .i64 x.b, .int .i64 x.lo, .int .i64 x.hi, .string x.nm] 81)) d) os) (HT.out.below (below_regrown _ d os))))
  have e0' := cell_regrown e0
  have e1' := cell_regrown e1
  have e5' := cell_regrown e5
  clear hT
  go_enter Tryz.func87, Tryz.ntmps87
  go_wp2_with fail
  refine wp_region_quiet_below (by kernel_rfl) (by kernel_rfl) ?_
  repeat (go_big_quiet_step (exact HC.out _ _))
  refine wpQuiet_nil ?_
  intro _ hw'
  obtain ⟨⟨dq, osq⟩, hw''⟩ := hw'
  subst hw''
  go_wp2_with fail
  go_ret
  exact ⟨ret_bool HV.out.symm, HBW.out.trans ((below_regrown _ dq osq).mono (by simp))⟩
set_option maxRecDepth 20000 in
set_option maxHeartbeats 2000000 in
theorem specHold6 (f : List Nd) (L : List Evt) (n i fb eb : Nat) (ta : Option Addr) (fc tc ec : Nat) (w : World) (h : HoldIn w f L n i fb eb ta) (hk : (ndAt f n).k = 6) :
    Calls Tryz.prog 87 #[.slice (some ⟨fb, 0, none⟩) f.length fc, .slice ta n tc, .int .i64 n, .slice (some ⟨eb, 0, none⟩) L.length ec, .int .i64 i] w fun e w' => e = .returned (.bool (hv f L n i)) ∧ Below w.heap.size w w' := by
  obtain ⟨c0, c1, c2, c3, c4, c5⟩ := h.nodes.2 n h.hn
  have hn := h.hn
  have hi := h.hi
  have hfl := h.fl
  have hll := h.ll
  have hfb := h.nodes.1
  have heb := h.evs.1
  obtain ⟨p, hp, hpn⟩ := arms_a h.arms (by simp [armsN, hk])
  have HV := hid (hv6 f L n i h.arms hk p hp)
  obtain ⟨tb, rb, rc, rfl, htb, hrb, t0, t1⟩ := h.tab.get hpn
  obtain ⟨d0, _⟩ := h.evs.2 i hi
  obtain ⟨k1, k2⟩ := h.times i hi
  rw [hk] at c0
  rw [hp] at c1
  clear hk hp
  cases i with
  | zero =>
    clear h t1
    generalize ndAt f n = x at *
    go_enter Tryz.func87, Tryz.ntmps87
    go_wp2_with fail
    go_quiet (fail)
    go_wp2_with fail
    go_ret
    exact ⟨ret_bool (by rw [HV.out]; simp), below_drewN ((Below.refl _ _).alloc (Nat.le_refl _) _) _⟩
  | succ j =>
    obtain ⟨p0, _⟩ := h.evs.2 j (by omega)
    obtain ⟨k3, k4⟩ := h.times j (by omega)
    have t2 := t1 j (by omega)
    have hg : gapB (ndAt f n) L j (j + 1) = inB (ndAt f n).lo (ndAt f n).hi ((evAt L (j + 1)).1 - (evAt L j).1) := rfl
    simp only [Nat.add_sub_cancel] at HV
    clear h t1
    rcases Bool.eq_false_or_eq_true (gapB (ndAt f n) L j (j + 1)) with hgv | hgv
    all_goals
      rw [hg] at hgv
      have HG := hid hgv
      clear hgv
      rw [hg] at HV
      clear hg
      generalize ndAt f n = x at *
      generalize evAt L (j + 1) = T at *
      generalize evAt L j = U at *
      generalize hv f L p j = g at *
    · go_enter Tryz.func87, Tryz.ntmps87
      go_wp2_with fail
      go_quiet ((go_at_call 121; exact Calls.quiet_of_same (specIn_is _ _ _ true HG.out _)))
      go_wp2_with fail
      go_ret
      exact ⟨ret_bool (by rw [HV.out, HG.out]; simp), below_drewN ((Below.refl _ _).alloc (Nat.le_refl _) _) _⟩
    · go_enter Tryz.func87, Tryz.ntmps87
      go_wp2_with fail
      go_quiet ((go_at_call 121; exact Calls.quiet_of_same (specIn_is _ _ _ false HG.out _)))
      go_wp2_with fail
      go_ret
      exact ⟨ret_bool (by rw [HV.out, HG.out]; simp), below_drewN ((Below.refl _ _).alloc (Nat.le_refl _) _) _⟩
set_option maxRecDepth 20000 in
set_option maxHeartbeats 2000000 in
theorem specHold7 (f : List Nd) (L : List Evt) (n i fb eb : Nat) (ta : Option Addr) (fc tc ec : Nat) (w : World) (h : HoldIn w f L n i fb eb ta) (hk : (ndAt f n).k = 7) :
    Calls Tryz.prog 87 #[.slice (some ⟨fb, 0, none⟩) f.length fc, .slice ta n tc, .int .i64 n, .slice (some ⟨eb, 0, none⟩) L.length ec, .int .i64 i] w fun e w' => e = .returned (.bool (hv f L n i)) ∧ Below w.heap.size w w' := by
  obtain ⟨c0, c1, c2, c3, c4, c5⟩ := h.nodes.2 n h.hn
  have hn := h.hn
  have hi := h.hi
  have hfl := h.fl
  have hll := h.ll
  have hfb := h.nodes.1
  have heb := h.evs.1
  obtain ⟨p, hp, hpn⟩ := arms_a h.arms (by simp [armsN, hk])
  have HV := hid (hv7 f L n i h.arms hk p hp)
  obtain ⟨tb, rb, rc, rfl, htb, hrb, t0, t1⟩ := h.tab.get hpn
  obtain ⟨d0, _⟩ := h.evs.2 i hi
  obtain ⟨k1, k2⟩ := h.times i hi
  have HE := hid (fun j hj => (h.evs.2 j hj).1)
  have HTm := hid h.times
  have HT1 := hid t1
  have hgE : ∀ j, gapB (ndAt f n) L j i = inB (ndAt f n).lo (ndAt f n).hi ((evAt L i).1 - (evAt L j).1) := fun _ => rfl
  have HGE := hid hgE
  clear hgE t1 h
  rw [hk] at c0
  rw [hp] at c1
  clear hk hp
  generalize ndAt f n = x at *
  have HBW := hid ((Below.refl w.heap.size w).alloc (Nat.le_refl _) (.cells #[.int .i64 7, .int .i64 (p : Int), .int .i64 x.b, .int .i64 x.lo, .int .i64 x.hi, .string x.nm] 81))
  have b0 : (w.alloc (.cells #[.int .i64 7, .int .i64 (p : Int), .int .i64 x.b, .int .i64 x.lo, .int .i64 x.hi, .string x.nm] 81)).cell? ⟨w.heap.size, 0, none⟩ = some (.int .i64 7) := by simp [go_sem]
  have b1 : (w.alloc (.cells #[.int .i64 7, .int .i64 (p : Int), .int .i64 x.b, .int .i64 x.lo, .int .i64 x.hi, .string x.nm] 81)).cell? ⟨w.heap.size, 1, none⟩ = some (.int .i64 p) := by simp [go_sem]
  have b3 : (w.alloc (.cells #[.int .i64 7, .int .i64 (p : Int), .int .i64 x.b, .int .i64 x.lo, .int .i64 x.hi, .string x.nm] 81)).cell? ⟨w.heap.size, 3, none⟩ = some (.int .i64 x.lo) := by simp [go_sem]
  have b4 : (w.alloc (.cells #[.int .i64 7, .int .i64 (p : Int), .int .i64 x.b, .int .i64 x.lo, .int .i64 x.hi, .string x.nm] 81)).cell? ⟨w.heap.size, 4, none⟩ = some (.int .i64 x.hi) := by simp [go_sem]
  have hWs : w.heap.size < (w.alloc (.cells #[.int .i64 7, .int .i64 (p : Int), .int .i64 x.b, .int .i64 x.lo, .int .i64 x.hi, .string x.nm] 81)).heap.size := by simp
  have d0' := (HBW.out.cell (p := ⟨eb, i * 2, none⟩) heb).trans d0
  have t0' := (HBW.out.cell (p := ⟨tb, p, none⟩) htb).trans t0
  go_enter Tryz.func87, Tryz.ntmps87
  go_wp2_with fail
  clear c0 c1 c2 c3 c4 c5
  generalize (w.alloc (.cells #[.int .i64 7, .int .i64 (p : Int), .int .i64 x.b, .int .i64 x.lo, .int .i64 x.hi, .string x.nm] 81)) = W at *
  clear t0 d0
  go_loopw [12, 13] (fun s t wr => ∃ (k : Nat) (sv : Bool), k ≤ i + 1 ∧ t = jV k ∧ s = .bool sv ∧ (∀ m, k ≤ m → m ≤ i → (gapB x L m i && hv f L p m) = false) ∧ Below W.heap.size W wr) (fun _ t _ => (intOf t + 1).toNat)
  case atStart => exact ⟨i + 1, true, Nat.le_refl _, rfl, rfl, fun m h1 h2 => by omega, Below.refl _ _⟩
  case round =>
    obtain ⟨k, sv, hk, rfl, rfl, hg, hbel⟩ := hrel
    have HR := hid hg
    have HB := hid hbel
    clear hg hbel
    have a0 := (HB.out.cell (p := ⟨w.heap.size, 0, none⟩) hWs).trans b0
    cases k with
    | zero =>
      simp only [jV]
      go_wp2_with fail
      go_ret
      refine ⟨ret_bool ?_, HBW.out.trans (HB.out.mono (by have := HBW.out.size; omega))⟩
      rw [HV.out, onceTo_no x L i _ _ (fun m hm => HR.out m (by omega) (by omega))]
    | succ j =>
      simp only [jV]
      have hjl : j < L.length := by omega
      have a1 := (HB.out.cell (p := ⟨w.heap.size, 1, none⟩) hWs).trans b1
      have a3 := (HB.out.cell (p := ⟨w.heap.size, 3, none⟩) hWs).trans b3
      have a4 := (HB.out.cell (p := ⟨w.heap.size, 4, none⟩) hWs).trans b4
      have HB0 := hid (HBW.out.trans (HB.out.mono HBW.out.size))
      have f0 := (HB.out.cell (p := ⟨eb, i * 2, none⟩) (Nat.lt_of_lt_of_le heb HBW.out.size)).trans d0'
      have g0 := (HB0.out.cell (p := ⟨eb, j * 2, none⟩) heb).trans (HE.out j hjl)
      have u0 := (HB.out.cell (p := ⟨tb, p, none⟩) (Nat.lt_of_lt_of_le htb HBW.out.size)).trans t0'
      have u1 := (HB0.out.cell (p := ⟨rb, j, none⟩) hrb).trans (HT1.out j hjl)
      obtain ⟨k3, k4⟩ := HTm.out j hjl
      have HGj := hid (HGE.out j)
      clear b0 b1 b3 b4 d0' t0'
      have hex : inB x.lo x.hi ((evAt L i).1 - (evAt L j).1) = gapB x L j i := rfl
      have HEX := hid hex
      clear hex
      have HP := hid (fun (hb : (gapB x L j i && hv f L p j) = false) m (h1 : j ≤ m) (h2 : m ≤ i) => (show (gapB x L m i && hv f L p m) = false from if e : m = j then by rw [e]; exact hb else HR.out m (by omega) h2))
      have HY := hid (fun (h1 : gapB x L j i = true) (h2 : (hv f L p j) = true) => onceTo_yes x L i (hv f L p) (i + 1) j (by omega) h1 h2)
      generalize gapB x L j i = gv at *
      generalize hv f L p j = g at *
      generalize evAt L i = T at *
      generalize evAt L j = U at *
      cases gv <;> cases g
      · have HG : Hid (inB x.lo x.hi (T.1 - U.1) = false) := HEX.out
        go_wp2_with fail
        go_quiet ((go_at_call 121; exact Calls.quiet_of_same (specIn_is _ _ _ false HG.out _)))
        go_wp2_with fail
        go_roundw
        case rel => exact ⟨j, sv, by omega, jV_step j, rfl, HP.out rfl, below_drewN HB.out _⟩
        case measure => simp [intOf]
      · have HG : Hid (inB x.lo x.hi (T.1 - U.1) = false) := HEX.out
        go_wp2_with fail
        go_quiet ((go_at_call 121; exact Calls.quiet_of_same (specIn_is _ _ _ false HG.out _)))
        go_wp2_with fail
        go_roundw
        case rel => exact ⟨j, sv, by omega, jV_step j, rfl, HP.out rfl, below_drewN HB.out _⟩
        case measure => simp [intOf]
      · have HG : Hid (inB x.lo x.hi (T.1 - U.1) = true) := HEX.out
        go_wp2_with fail
        go_quiet ((go_at_call 121; exact Calls.quiet_of_same (specIn_is _ _ _ true HG.out _)))
        go_wp2_with fail
        go_roundw
        case rel => exact ⟨j, sv, by omega, jV_step j, rfl, HP.out rfl, below_drewN HB.out _⟩
        case measure => simp [intOf]
      · have HG : Hid (inB x.lo x.hi (T.1 - U.1) = true) := HEX.out
        go_wp2_with fail
        go_quiet ((go_at_call 121; exact Calls.quiet_of_same (specIn_is _ _ _ true HG.out _)))
        go_wp2_with fail
        go_ret
        exact ⟨ret_bool (by rw [HV.out, HY.out (by simp) (by simp)]), below_drewN HB0.out _⟩
set_option maxRecDepth 20000 in
set_option maxHeartbeats 2000000 in
theorem specHold8 (f : List Nd) (L : List Evt) (n i fb eb : Nat) (ta : Option Addr) (fc tc ec : Nat) (w : World) (h : HoldIn w f L n i fb eb ta) (hk : (ndAt f n).k = 8) :
    Calls Tryz.prog 87 #[.slice (some ⟨fb, 0, none⟩) f.length fc, .slice ta n tc, .int .i64 n, .slice (some ⟨eb, 0, none⟩) L.length ec, .int .i64 i] w fun e w' => e = .returned (.bool (hv f L n i)) ∧ Below w.heap.size w w' := by
  obtain ⟨c0, c1, c2, c3, c4, c5⟩ := h.nodes.2 n h.hn
  have hn := h.hn
  have hi := h.hi
  have hfl := h.fl
  have hll := h.ll
  have hfb := h.nodes.1
  have heb := h.evs.1
  obtain ⟨p, hp, hpn⟩ := arms_a h.arms (by simp [armsN, hk])
  have HV := hid (hv8 f L n i h.arms hk p hp)
  obtain ⟨tb, rb, rc, rfl, htb, hrb, t0, t1⟩ := h.tab.get hpn
  obtain ⟨d0, _⟩ := h.evs.2 i hi
  obtain ⟨k1, k2⟩ := h.times i hi
  have HE := hid (fun j hj => (h.evs.2 j hj).1)
  have HTm := hid h.times
  have HT1 := hid t1
  have hgE : ∀ j, gapB (ndAt f n) L j i = inB (ndAt f n).lo (ndAt f n).hi ((evAt L i).1 - (evAt L j).1) := fun _ => rfl
  have HGE := hid hgE
  clear hgE t1 h
  rw [hk] at c0
  rw [hp] at c1
  clear hk hp
  generalize ndAt f n = x at *
  have HBW := hid ((Below.refl w.heap.size w).alloc (Nat.le_refl _) (.cells #[.int .i64 8, .int .i64 (p : Int), .int .i64 x.b, .int .i64 x.lo, .int .i64 x.hi, .string x.nm] 81))
  have b0 : (w.alloc (.cells #[.int .i64 8, .int .i64 (p : Int), .int .i64 x.b, .int .i64 x.lo, .int .i64 x.hi, .string x.nm] 81)).cell? ⟨w.heap.size, 0, none⟩ = some (.int .i64 8) := by simp [go_sem]
  have b1 : (w.alloc (.cells #[.int .i64 8, .int .i64 (p : Int), .int .i64 x.b, .int .i64 x.lo, .int .i64 x.hi, .string x.nm] 81)).cell? ⟨w.heap.size, 1, none⟩ = some (.int .i64 p) := by simp [go_sem]
  have b3 : (w.alloc (.cells #[.int .i64 8, .int .i64 (p : Int), .int .i64 x.b, .int .i64 x.lo, .int .i64 x.hi, .string x.nm] 81)).cell? ⟨w.heap.size, 3, none⟩ = some (.int .i64 x.lo) := by simp [go_sem]
  have b4 : (w.alloc (.cells #[.int .i64 8, .int .i64 (p : Int), .int .i64 x.b, .int .i64 x.lo, .int .i64 x.hi, .string x.nm] 81)).cell? ⟨w.heap.size, 4, none⟩ = some (.int .i64 x.hi) := by simp [go_sem]
  have hWs : w.heap.size < (w.alloc (.cells #[.int .i64 8, .int .i64 (p : Int), .int .i64 x.b, .int .i64 x.lo, .int .i64 x.hi, .string x.nm] 81)).heap.size := by simp
  have d0' := (HBW.out.cell (p := ⟨eb, i * 2, none⟩) heb).trans d0
  have t0' := (HBW.out.cell (p := ⟨tb, p, none⟩) htb).trans t0
  go_enter Tryz.func87, Tryz.ntmps87
  go_wp2_with fail
  clear c0 c1 c2 c3 c4 c5
  generalize (w.alloc (.cells #[.int .i64 8, .int .i64 (p : Int), .int .i64 x.b, .int .i64 x.lo, .int .i64 x.hi, .string x.nm] 81)) = W at *
  clear t0 d0
  go_loopw [12, 13] (fun s t wr => ∃ (k : Nat) (sv : Bool), k ≤ i + 1 ∧ t = jV k ∧ s = .bool sv ∧ (∀ m, k ≤ m → m ≤ i → (gapB x L m i && !hv f L p m) = false) ∧ Below W.heap.size W wr) (fun _ t _ => (intOf t + 1).toNat)
  case atStart => exact ⟨i + 1, true, Nat.le_refl _, rfl, rfl, fun m h1 h2 => by omega, Below.refl _ _⟩
  case round =>
    obtain ⟨k, sv, hk, rfl, rfl, hg, hbel⟩ := hrel
    have HR := hid hg
    have HB := hid hbel
    clear hg hbel
    have a0 := (HB.out.cell (p := ⟨w.heap.size, 0, none⟩) hWs).trans b0
    cases k with
    | zero =>
      simp only [jV]
      go_wp2_with fail
      go_ret
      refine ⟨ret_bool ?_, HBW.out.trans (HB.out.mono (by have := HBW.out.size; omega))⟩
      rw [HV.out, onceTo_no x L i _ _ (fun m hm => HR.out m (by omega) (by omega))]
      rfl
    | succ j =>
      simp only [jV]
      have hjl : j < L.length := by omega
      have a1 := (HB.out.cell (p := ⟨w.heap.size, 1, none⟩) hWs).trans b1
      have a3 := (HB.out.cell (p := ⟨w.heap.size, 3, none⟩) hWs).trans b3
      have a4 := (HB.out.cell (p := ⟨w.heap.size, 4, none⟩) hWs).trans b4
      have HB0 := hid (HBW.out.trans (HB.out.mono HBW.out.size))
      have f0 := (HB.out.cell (p := ⟨eb, i * 2, none⟩) (Nat.lt_of_lt_of_le heb HBW.out.size)).trans d0'
      have g0 := (HB0.out.cell (p := ⟨eb, j * 2, none⟩) heb).trans (HE.out j hjl)
      have u0 := (HB.out.cell (p := ⟨tb, p, none⟩) (Nat.lt_of_lt_of_le htb HBW.out.size)).trans t0'
      have u1 := (HB0.out.cell (p := ⟨rb, j, none⟩) hrb).trans (HT1.out j hjl)
      obtain ⟨k3, k4⟩ := HTm.out j hjl
      have HGj := hid (HGE.out j)
      clear b0 b1 b3 b4 d0' t0'
      have hex : inB x.lo x.hi ((evAt L i).1 - (evAt L j).1) = gapB x L j i := rfl
      have HEX := hid hex
      clear hex
      have HP := hid (fun (hb : (gapB x L j i && !hv f L p j) = false) m (h1 : j ≤ m) (h2 : m ≤ i) => (show (gapB x L m i && !hv f L p m) = false from if e : m = j then by rw [e]; exact hb else HR.out m (by omega) h2))
      have HY := hid (fun (h1 : gapB x L j i = true) (h2 : (!hv f L p j) = true) => onceTo_yes x L i (fun j => !hv f L p j) (i + 1) j (by omega) h1 h2)
      generalize gapB x L j i = gv at *
      generalize hv f L p j = g at *
      generalize evAt L i = T at *
      generalize evAt L j = U at *
      cases gv <;> cases g
      · have HG : Hid (inB x.lo x.hi (T.1 - U.1) = false) := HEX.out
        go_wp2_with fail
        go_quiet ((go_at_call 121; exact Calls.quiet_of_same (specIn_is _ _ _ false HG.out _)))
        go_wp2_with fail
        go_roundw
        case rel => exact ⟨j, sv, by omega, jV_step j, rfl, HP.out rfl, below_drewN HB.out _⟩
        case measure => simp [intOf]
      · have HG : Hid (inB x.lo x.hi (T.1 - U.1) = false) := HEX.out
        go_wp2_with fail
        go_quiet ((go_at_call 121; exact Calls.quiet_of_same (specIn_is _ _ _ false HG.out _)))
        go_wp2_with fail
        go_roundw
        case rel => exact ⟨j, sv, by omega, jV_step j, rfl, HP.out rfl, below_drewN HB.out _⟩
        case measure => simp [intOf]
      · have HG : Hid (inB x.lo x.hi (T.1 - U.1) = true) := HEX.out
        go_wp2_with fail
        go_quiet ((go_at_call 121; exact Calls.quiet_of_same (specIn_is _ _ _ true HG.out _)))
        go_wp2_with fail
        go_ret
        exact ⟨ret_bool (by rw [HV.out, HY.out (by simp) (by simp)]; rfl), below_drewN HB0.out _⟩
      · have HG : Hid (inB x.lo x.hi (T.1 - U.1) = true) := HEX.out
        go_wp2_with fail
        go_quiet ((go_at_call 121; exact Calls.quiet_of_same (specIn_is _ _ _ true HG.out _)))
        go_wp2_with fail
        go_roundw
        case rel => exact ⟨j, sv, by omega, jV_step j, rfl, HP.out rfl, below_drewN HB.out _⟩
        case measure => simp [intOf]
set_option maxRecDepth 20000 in
set_option maxHeartbeats 2000000 in
theorem specHold9 (f : List Nd) (L : List Evt) (n i fb eb : Nat) (ta : Option Addr) (fc tc ec : Nat) (w : World) (h : HoldIn w f L n i fb eb ta) (hk : (ndAt f n).k = 9) :
    Calls Tryz.prog 87 #[.slice (some ⟨fb, 0, none⟩) f.length fc, .slice ta n tc, .int .i64 n, .slice (some ⟨eb, 0, none⟩) L.length ec, .int .i64 i] w fun e w' => e = .returned (.bool (hv f L n i)) ∧ Below w.heap.size w w' := by
  obtain ⟨c0, c1, c2, c3, c4, c5⟩ := h.nodes.2 n h.hn
  have hn := h.hn
  have hi := h.hi
  have hfl := h.fl
  have hll := h.ll
  have hfb := h.nodes.1
  have heb := h.evs.1
  obtain ⟨p, hp, hpn⟩ := arms_a h.arms (by simp [armsN, hk])
  obtain ⟨q, hq, hqn⟩ := arms_b h.arms (by simp [armsN, hk])
  have HV := hid (hv9 f L n i h.arms hk p hp q hq)
  obtain ⟨tb, rb, rc, rfl, htb, hrb, t0, t1⟩ := h.tab.get hpn
  obtain ⟨tb', rb', rc', e, _, hrb', s0, s1⟩ := h.tab.get hqn
  injection e with e; injection e with e; subst e
  have HS1 := hid s1
  clear s1
  obtain ⟨d0, _⟩ := h.evs.2 i hi
  obtain ⟨k1, k2⟩ := h.times i hi
  have HE := hid (fun j hj => (h.evs.2 j hj).1)
  have HTm := hid h.times
  have HT1 := hid t1
  have hgE : ∀ j, gapB (ndAt f n) L j i = inB (ndAt f n).lo (ndAt f n).hi ((evAt L i).1 - (evAt L j).1) := fun _ => rfl
  have HGE := hid hgE
  clear hgE t1 h
  rw [hk] at c0
  rw [hp] at c1
  rw [hq] at c2
  clear hq
  clear hk hp
  generalize ndAt f n = x at *
  have HBW := hid ((Below.refl w.heap.size w).alloc (Nat.le_refl _) (.cells #[.int .i64 9, .int .i64 (p : Int), .int .i64 (q : Int), .int .i64 x.lo, .int .i64 x.hi, .string x.nm] 81))
  have b0 : (w.alloc (.cells #[.int .i64 9, .int .i64 (p : Int), .int .i64 (q : Int), .int .i64 x.lo, .int .i64 x.hi, .string x.nm] 81)).cell? ⟨w.heap.size, 0, none⟩ = some (.int .i64 9) := by simp [go_sem]
  have b1 : (w.alloc (.cells #[.int .i64 9, .int .i64 (p : Int), .int .i64 (q : Int), .int .i64 x.lo, .int .i64 x.hi, .string x.nm] 81)).cell? ⟨w.heap.size, 1, none⟩ = some (.int .i64 p) := by simp [go_sem]
  have b2 : (w.alloc (.cells #[.int .i64 9, .int .i64 (p : Int), .int .i64 (q : Int), .int .i64 x.lo, .int .i64 x.hi, .string x.nm] 81)).cell? ⟨w.heap.size, 2, none⟩ = some (.int .i64 q) := by simp [go_sem]
  have b3 : (w.alloc (.cells #[.int .i64 9, .int .i64 (p : Int), .int .i64 (q : Int), .int .i64 x.lo, .int .i64 x.hi, .string x.nm] 81)).cell? ⟨w.heap.size, 3, none⟩ = some (.int .i64 x.lo) := by simp [go_sem]
  have b4 : (w.alloc (.cells #[.int .i64 9, .int .i64 (p : Int), .int .i64 (q : Int), .int .i64 x.lo, .int .i64 x.hi, .string x.nm] 81)).cell? ⟨w.heap.size, 4, none⟩ = some (.int .i64 x.hi) := by simp [go_sem]
  have hWs : w.heap.size < (w.alloc (.cells #[.int .i64 9, .int .i64 (p : Int), .int .i64 (q : Int), .int .i64 x.lo, .int .i64 x.hi, .string x.nm] 81)).heap.size := by simp
  have d0' := (HBW.out.cell (p := ⟨eb, i * 2, none⟩) heb).trans d0
  have t0' := (HBW.out.cell (p := ⟨tb, p, none⟩) htb).trans t0
  have s0' := (HBW.out.cell (p := ⟨tb, q, none⟩) htb).trans s0
  go_enter Tryz.func87, Tryz.ntmps87
  go_wp2_with fail
  clear c0 c1 c2 c3 c4 c5
  generalize (w.alloc (.cells #[.int .i64 9, .int .i64 (p : Int), .int .i64 (q : Int), .int .i64 x.lo, .int .i64 x.hi, .string x.nm] 81)) = W at *
  clear t0 d0 s0
  go_loopw [12, 13] (fun s t wr => ∃ (k : Nat) (sv : Bool), k ≤ i + 1 ∧ t = jV k ∧ s = .bool sv ∧ (hv f L n i = (sv && sinceTo x L i (hv f L p) (hv f L q) k)) ∧ Below W.heap.size W wr) (fun _ t _ => (intOf t + 1).toNat)
  case atStart => exact ⟨i + 1, true, Nat.le_refl _, rfl, rfl, by rw [HV.out]; simp, Below.refl _ _⟩
  case round =>
    obtain ⟨k, sv, hk, rfl, rfl, hg, hbel⟩ := hrel
    have HR := hid hg
    have HB := hid hbel
    clear hg hbel
    have a0 := (HB.out.cell (p := ⟨w.heap.size, 0, none⟩) hWs).trans b0
    cases k with
    | zero =>
      simp only [jV]
      go_wp2_with fail
      go_ret
      refine ⟨ret_bool ?_, HBW.out.trans (HB.out.mono (by have := HBW.out.size; omega))⟩
      rw [HR.out]
      simp [sinceTo]
    | succ j =>
      simp only [jV]
      have hjl : j < L.length := by omega
      have a1 := (HB.out.cell (p := ⟨w.heap.size, 1, none⟩) hWs).trans b1
      have a2 := (HB.out.cell (p := ⟨w.heap.size, 2, none⟩) hWs).trans b2
      have a3 := (HB.out.cell (p := ⟨w.heap.size, 3, none⟩) hWs).trans b3
      have a4 := (HB.out.cell (p := ⟨w.heap.size, 4, none⟩) hWs).trans b4
      have HB0 := hid (HBW.out.trans (HB.out.mono HBW.out.size))
      have f0 := (HB.out.cell (p := ⟨eb, i * 2, none⟩) (Nat.lt_of_lt_of_le heb HBW.out.size)).trans d0'
      have g0 := (HB0.out.cell (p := ⟨eb, j * 2, none⟩) heb).trans (HE.out j hjl)
      have u0 := (HB.out.cell (p := ⟨tb, p, none⟩) (Nat.lt_of_lt_of_le htb HBW.out.size)).trans t0'
      have u1 := (HB0.out.cell (p := ⟨rb, j, none⟩) hrb).trans (HT1.out j hjl)
      have v0 := (HB.out.cell (p := ⟨tb, q, none⟩) (Nat.lt_of_lt_of_le htb HBW.out.size)).trans s0'
      have v1 := (HB0.out.cell (p := ⟨rb', j, none⟩) hrb').trans (HS1.out j hjl)
      obtain ⟨k3, k4⟩ := HTm.out j hjl
      have HGj := hid (HGE.out j)
      clear b0 b1 b3 b4 d0' t0' b2 s0'
      have hex : inB x.lo x.hi ((evAt L i).1 - (evAt L j).1) = gapB x L j i := rfl
      have HEX := hid hex
      clear hex
      have HSt : Hid (hv f L n i = (sv && ((gapB x L j i && hv f L q j) || (hv f L p j && sinceTo x L i (hv f L p) (hv f L q) j)))) := HR.out
      clear HR
      generalize gapB x L j i = gv at *
      generalize hv f L p j = g at *
      generalize hv f L q j = g' at *
      generalize evAt L i = T at *
      generalize evAt L j = U at *
      cases gv <;> cases sv <;> cases g' <;> cases g
      · have HG : Hid (inB x.lo x.hi (T.1 - U.1) = false) := HEX.out
        go_wp2_with fail
        go_quiet ((go_at_call 121; exact Calls.quiet_of_same (specIn_is _ _ _ false HG.out _)))
        go_wp2_with fail
        go_roundw
        case rel => exact ⟨j, false, by omega, jV_step j, rfl, by rw [HSt.out]; simp, below_drewN HB.out _⟩
        case measure => simp [intOf]
      · have HG : Hid (inB x.lo x.hi (T.1 - U.1) = false) := HEX.out
        go_wp2_with fail
        go_quiet ((go_at_call 121; exact Calls.quiet_of_same (specIn_is _ _ _ false HG.out _)))
        go_wp2_with fail
        go_roundw
        case rel => exact ⟨j, false, by omega, jV_step j, rfl, by rw [HSt.out]; simp, below_drewN HB.out _⟩
        case measure => simp [intOf]
      · have HG : Hid (inB x.lo x.hi (T.1 - U.1) = false) := HEX.out
        go_wp2_with fail
        go_quiet ((go_at_call 121; exact Calls.quiet_of_same (specIn_is _ _ _ false HG.out _)))
        go_wp2_with fail
        go_roundw
        case rel => exact ⟨j, false, by omega, jV_step j, rfl, by rw [HSt.out]; simp, below_drewN HB.out _⟩
        case measure => simp [intOf]
      · have HG : Hid (inB x.lo x.hi (T.1 - U.1) = false) := HEX.out
        go_wp2_with fail
        go_quiet ((go_at_call 121; exact Calls.quiet_of_same (specIn_is _ _ _ false HG.out _)))
        go_wp2_with fail
        go_roundw
        case rel => exact ⟨j, false, by omega, jV_step j, rfl, by rw [HSt.out]; simp, below_drewN HB.out _⟩
        case measure => simp [intOf]
      · have HG : Hid (inB x.lo x.hi (T.1 - U.1) = false) := HEX.out
        go_wp2_with fail
        go_quiet ((go_at_call 121; exact Calls.quiet_of_same (specIn_is _ _ _ false HG.out _)))
        go_wp2_with fail
        go_roundw
        case rel => exact ⟨j, false, by omega, jV_step j, rfl, by rw [HSt.out]; simp, below_drewN HB.out _⟩
        case measure => simp [intOf]
      · have HG : Hid (inB x.lo x.hi (T.1 - U.1) = false) := HEX.out
        go_wp2_with fail
        go_quiet ((go_at_call 121; exact Calls.quiet_of_same (specIn_is _ _ _ false HG.out _)))
        go_wp2_with fail
        go_roundw
        case rel => exact ⟨j, true, by omega, jV_step j, rfl, by rw [HSt.out]; simp, below_drewN HB.out _⟩
        case measure => simp [intOf]
      · have HG : Hid (inB x.lo x.hi (T.1 - U.1) = false) := HEX.out
        go_wp2_with fail
        go_quiet ((go_at_call 121; exact Calls.quiet_of_same (specIn_is _ _ _ false HG.out _)))
        go_wp2_with fail
        go_roundw
        case rel => exact ⟨j, false, by omega, jV_step j, rfl, by rw [HSt.out]; simp, below_drewN HB.out _⟩
        case measure => simp [intOf]
      · have HG : Hid (inB x.lo x.hi (T.1 - U.1) = false) := HEX.out
        go_wp2_with fail
        go_quiet ((go_at_call 121; exact Calls.quiet_of_same (specIn_is _ _ _ false HG.out _)))
        go_wp2_with fail
        go_roundw
        case rel => exact ⟨j, true, by omega, jV_step j, rfl, by rw [HSt.out]; simp, below_drewN HB.out _⟩
        case measure => simp [intOf]
      · have HG : Hid (inB x.lo x.hi (T.1 - U.1) = true) := HEX.out
        go_wp2_with fail
        go_quiet ((go_at_call 121; exact Calls.quiet_of_same (specIn_is _ _ _ true HG.out _)))
        go_wp2_with fail
        go_roundw
        case rel => exact ⟨j, false, by omega, jV_step j, rfl, by rw [HSt.out]; simp, below_drewN HB.out _⟩
        case measure => simp [intOf]
      · have HG : Hid (inB x.lo x.hi (T.1 - U.1) = true) := HEX.out
        go_wp2_with fail
        go_quiet ((go_at_call 121; exact Calls.quiet_of_same (specIn_is _ _ _ true HG.out _)))
        go_wp2_with fail
        go_roundw
        case rel => exact ⟨j, false, by omega, jV_step j, rfl, by rw [HSt.out]; simp, below_drewN HB.out _⟩
        case measure => simp [intOf]
      · have HG : Hid (inB x.lo x.hi (T.1 - U.1) = true) := HEX.out
        go_wp2_with fail
        go_quiet ((go_at_call 121; exact Calls.quiet_of_same (specIn_is _ _ _ true HG.out _)))
        go_wp2_with fail
        go_roundw
        case rel => exact ⟨j, false, by omega, jV_step j, rfl, by rw [HSt.out]; simp, below_drewN HB.out _⟩
        case measure => simp [intOf]
      · have HG : Hid (inB x.lo x.hi (T.1 - U.1) = true) := HEX.out
        go_wp2_with fail
        go_quiet ((go_at_call 121; exact Calls.quiet_of_same (specIn_is _ _ _ true HG.out _)))
        go_wp2_with fail
        go_roundw
        case rel => exact ⟨j, false, by omega, jV_step j, rfl, by rw [HSt.out]; simp, below_drewN HB.out _⟩
        case measure => simp [intOf]
      · have HG : Hid (inB x.lo x.hi (T.1 - U.1) = true) := HEX.out
        go_wp2_with fail
        go_quiet ((go_at_call 121; exact Calls.quiet_of_same (specIn_is _ _ _ true HG.out _)))
        go_wp2_with fail
        go_roundw
        case rel => exact ⟨j, false, by omega, jV_step j, rfl, by rw [HSt.out]; simp, below_drewN HB.out _⟩
        case measure => simp [intOf]
      · have HG : Hid (inB x.lo x.hi (T.1 - U.1) = true) := HEX.out
        go_wp2_with fail
        go_quiet ((go_at_call 121; exact Calls.quiet_of_same (specIn_is _ _ _ true HG.out _)))
        go_wp2_with fail
        go_roundw
        case rel => exact ⟨j, true, by omega, jV_step j, rfl, by rw [HSt.out]; simp, below_drewN HB.out _⟩
        case measure => simp [intOf]
      · have HG : Hid (inB x.lo x.hi (T.1 - U.1) = true) := HEX.out
        go_wp2_with fail
        go_quiet ((go_at_call 121; exact Calls.quiet_of_same (specIn_is _ _ _ true HG.out _)))
        go_wp2_with fail
        go_ret
        exact ⟨ret_bool (by rw [HSt.out]; simp), below_drewN HB0.out _⟩
      · have HG : Hid (inB x.lo x.hi (T.1 - U.1) = true) := HEX.out
        go_wp2_with fail
        go_quiet ((go_at_call 121; exact Calls.quiet_of_same (specIn_is _ _ _ true HG.out _)))
        go_wp2_with fail
        go_ret
        exact ⟨ret_bool (by rw [HSt.out]; simp), below_drewN HB0.out _⟩
theorem specHold_any (f : List Nd) (L : List Evt) (n i fb eb : Nat) (ta : Option Addr) (fc tc ec : Nat) (w : World) (h : HoldIn w f L n i fb eb ta) (hk1 : 1 ≤ (ndAt f n).k) (hk2 : (ndAt f n).k ≤ 9) :
    Calls Tryz.prog 87 #[.slice (some ⟨fb, 0, none⟩) f.length fc, .slice ta n tc, .int .i64 n, .slice (some ⟨eb, 0, none⟩) L.length ec, .int .i64 i] w fun e w' => e = .returned (.bool (hv f L n i)) ∧ Below w.heap.size w w' := by
  have : (ndAt f n).k = 1 ∨ (ndAt f n).k = 2 ∨ (ndAt f n).k = 3 ∨ (ndAt f n).k = 4 ∨ (ndAt f n).k = 5 ∨ (ndAt f n).k = 6 ∨ (ndAt f n).k = 7 ∨ (ndAt f n).k = 8 ∨ (ndAt f n).k = 9 := by omega
  rcases this with e | e | e | e | e | e | e | e | e
  · exact specHold1 f L n i fb eb ta fc tc ec w h e
  · exact specHold2 f L n i fb eb ta fc tc ec w h e
  · exact specHold3 f L n i fb eb ta fc tc ec w h e
  · exact specHold4 f L n i fb eb ta fc tc ec w h e
  · exact specHold5 f L n i fb eb ta fc tc ec w h e
  · exact specHold6 f L n i fb eb ta fc tc ec w h e
  · exact specHold7 f L n i fb eb ta fc tc ec w h e
  · exact specHold8 f L n i fb eb ta fc tc ec w h e
  · exact specHold9 f L n i fb eb ta fc tc ec w h e
end Go.Proofs.YtbfkbgmkibkbnaaGreatDoor
