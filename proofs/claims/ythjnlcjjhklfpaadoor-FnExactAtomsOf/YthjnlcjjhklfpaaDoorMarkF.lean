/-
  The laws' marks over rows of events and of texts that may be longer than what is asked for.
-/
import Derived.Test.YthjnlcjjhklfpaaDoorMarkE
import Derived.Test.YthjnlcjjhklfpaaDoorClE
namespace Go.Proofs.YthjnlcjjhklfpaaDoor
open Go.RowKit
set_option linter.unusedVariables false
set_option linter.unusedSimpArgs false
set_option maxRecDepth 20000 in
set_option maxHeartbeats 1000000 in
theorem markStringS_up (n k0 : Nat) (v : Int) (hv : v = k0) (hk0 : 0 < k0) (hk1 : k0 + n ≤ 1000000000) (a : Option Addr) (c : Nat) (w : World) (h : RowTs w a n) :
    Calls Tryd.prog 23 #[.slice a n c, .int .i64 v] w fun e w' => e = .returned (.int .i64 (k0 + n : Nat)) ∧ TsAt w' a (markT k0 n) ∧ RowTs w' a n ∧ Save w w' (OfT a) := by
  subst hv
  rcases h with rfl | ⟨b, z, m, rfl, hnm, h⟩
  · go_enter Tryd.func23, Tryd.ntmps23
    go_wp2_with fail
    go_loopw [1, 5] (fun t s wr => t = .int .i64 k0 ∧ s = .int .i64 0 ∧ w = wr) (fun _ _ _ => 0)
    case atStart => exact ⟨rfl, rfl, rfl⟩
    case round =>
      obtain ⟨rfl, rfl, rfl⟩ := hrel
      go_wp2_with fail
      go_ret
      exact ⟨rfl, Or.inl rfl, Or.inl rfl, Save.refl _ _⟩
  · have HR0 := hid (h.congr (fun j hj => (show z j = rowT (markT k0 n) z 0 j by simp [rowT])))
    have hbl := h.lt
    clear h
    go_enter Tryd.func23, Tryd.ntmps23
    go_wp2_with fail
    go_loopw [1, 5] (fun t s wr => ∃ k : Nat, k ≤ n ∧ t = .int .i64 (k0 + k : Nat) ∧ s = .int .i64 k ∧ wr.rowIs b 9 m (rowT (markT k0 n) z k) ∧ Save w wr (OfT (some ⟨b, 0, none⟩))) (fun _ s _ => n - (intOf s).toNat)
    case atStart => exact ⟨0, Nat.zero_le _, rfl, rfl, HR0.out, Save.refl _ _⟩
    case round =>
      clear HR0
      obtain ⟨k, hk, rfl, rfl, hrow, hsv⟩ := hrel
      have HS := hid hsv
      have HRow := hid hrow
      have hsz := hrow.lt
      clear hrow hsv
      by_cases hlt : k < n
      · go_wp2_with fail
        refine (markText_int _ (k0 + k) (by push_cast; omega) (by omega) (by omega) _).mono ?_
        rintro e w1 ⟨rfl, hb1⟩
        have HR1 := hid (HRow.out.of_block (hb1.block b hsz))
        have HS1 := hid (HS.out.trans (Save.of_below hb1 _ (fun j h1 h2 => absurd h1 (by omega))))
        have d5 := HR1.out.cell (i := k) (by omega)
        have f5 := HR1.out.frozen k
        clear hb1
        go_wp2_with fail
        go_roundw
        case rel =>
          refine ⟨k + 1, by omega, by simp; omega, by go_num, (HR1.out.set k _).congr (fun j hj => ?_), HS1.out.setCell (p := ⟨b, k, none⟩) (fun _ => ⟨_, rfl, rfl⟩) _⟩
          rw [rowT_step, markT_at _ _ _ hlt]
        case measure => simp [intOf]; omega
      · have hk' : k = n := by omega
        subst hk'
        go_wp2_with fail
        go_ret
        refine ⟨rfl, Or.inr ⟨b, rfl, HRow.out.lt, fun i hi => ?_⟩, Or.inr ⟨b, _, m, rfl, hnm, HRow.out⟩, HS.out⟩
        rw [markT_len] at hi
        rw [HRow.out.cell (by omega)]
        unfold rowT
        rw [if_pos hi]
/-- A row of events to be written to: each one's names lie in a block of its own. -/
structure EvMu (w : World) (b n : Nat) (a : Nat → Option Addr) (N c : Nat → Nat) : Prop where
  row : ∃ z m, n * 2 ≤ m ∧ w.rowIs b 38 m z ∧ ∀ i, i < n → z (i * 2 + 1) = .slice (a i) (N i) (c i)
  names : ∀ i, i < n → RowTs w (a i) (N i)
  apart : ∀ i, i < n → ∀ q, a i = some q → q.block ≠ b
  apart2 : ∀ i j, i < n → j < n → i ≠ j → ∀ q r, a i = some q → a j = some r → q.block ≠ r.block
set_option maxRecDepth 20000 in
set_option maxHeartbeats 2000000 in
theorem markEventS_up (n k0 b cap : Nat) (v : Int) (hv : v = k0) (a : Nat → Option Addr) (N c : Nat → Nat) (hn : n ≤ 1048576) (hk0 : 0 < k0) (hk1 : kAt k0 N n ≤ 1000000000) (w : World) (h : EvMu w b n a N c) :
    Calls Tryd.prog 46 #[.slice (some ⟨b, 0, none⟩) n cap, .int .i64 v] w fun e w' => e = .returned (.int .i64 (kAt k0 N n : Nat)) ∧ EvHd w' b n k0 a N c ∧ Save w w' (EvMkS b n a) := by
  subst hv
  obtain ⟨z0, m, hnm, hr0, hz0⟩ := h.row
  have HR0 := hid hr0
  have HZ0 := hid hz0
  have HN0 := hid h.names
  have HA := hid h.apart
  have HA2 := hid h.apart2
  have HK1 := hid hk1
  clear h hr0 hz0 hk1
  go_enter Tryd.func46, Tryd.ntmps46
  go_wp2_with fail
  go_loopw [1, 5] (fun t s wr => ∃ (k : Nat) (z : Nat → Value), k ≤ n ∧ t = .int .i64 (kAt k0 N k : Nat) ∧ s = .int .i64 k ∧ wr.rowIs b 38 m z ∧ (∀ i, i < n → z (i * 2 + 1) = .slice (a i) (N i) (c i)) ∧ (∀ i, i < k → z (i * 2) = .int .i64 (kAt k0 N i : Nat)) ∧ (∀ i, i < n → RowTs wr (a i) (N i)) ∧ (∀ i, i < k → TsAt wr (a i) (markT (kAt k0 N i + 1) (N i))) ∧ Save w wr (EvMkS b n a)) (fun _ s _ => n - (intOf s).toNat)
  case atStart => exact ⟨0, z0, Nat.zero_le _, rfl, rfl, HR0.out, HZ0.out, fun i h => by omega, HN0.out, fun i h => by omega, Save.refl _ _⟩
  case round =>
    clear HR0 HZ0 HN0
    obtain ⟨k, z, hk, rfl, rfl, hrow, hz1, hz2, hnm, hts, hsv⟩ := hrel
    have HS := hid hsv
    have HRow := hid hrow
    have HZ1 := hid hz1
    have HZ2 := hid hz2
    have HNm := hid hnm
    have HTs := hid hts
    have hsz := hrow.lt
    clear hrow hsv hz1 hz2 hnm hts
    by_cases hlt : k < n
    · have hkp := kAt_pos k0 N hk0 k
      have hkm := kAt_mono k0 N (show k + 1 ≤ n from hlt)
      have hks : kAt k0 N (k + 1) = kAt k0 N k + 1 + N k := rfl
      have HKS := hid hks
      have hkb : kAt k0 N k + 1 + N k ≤ 1000000000 := by have := HK1.out; omega
      clear hks hkm
      have d0 := HRow.out.cell (i := k * 2) (by omega)
      have d1 := HRow.out.cell (i := k * 2 + 1) (by omega)
      rw [HZ1.out k hlt] at d1
      have f0 := HRow.out.frozen (k * 2)
      generalize hK : kAt k0 N k = K at *
      have HKe := hid hK
      clear hK
      have HSv1 := hid (Save.setCell (S := EvMkS b n a) HS.out (p := ⟨b, k * 2, none⟩) (fun _ => Or.inl rfl) (.int .i64 (K : Nat)))
      have HR1 := hid (HRow.out.set (k * 2) (.int .i64 (K : Nat)))
      have HOther : Hid (Save wr (wr.setCell ⟨b, k * 2, none⟩ (.int .i64 (K : Nat))) (fun j => j = b)) := Save.setCell (S := fun j => j = b) (Save.refl wr _) (p := ⟨b, k * 2, none⟩) (fun _ => rfl) _
      have HNm1 := hid (fun i (hi : i < n) => (HNm.out i hi).save HOther.out (fun q e h => HA.out i hi _ e h))
      have HTs1 := hid (fun i (hi : i < k) => (HTs.out i hi).save HOther.out (fun q e h => HA.out i (by omega) _ e h))
      go_wp2_with fail
      refine (markStringS_up (N k) (K + 1) _ (by push_cast; omega) (by omega) (by omega) (a k) (c k) _ (HNm1.out k hlt)).mono ?_
      rintro e w1 ⟨rfl, ht1, hr1, hs1⟩
      have hb1 : ¬ OfT (a k) b := fun ⟨q, e, h⟩ => HA.out k hlt q e h
      have hi1 : ∀ i, i < n → i ≠ k → ∀ q, a i = some ⟨q, 0, none⟩ → ¬ OfT (a k) q := fun i hi hne q e ⟨r, e', h⟩ => HA2.out i k hi hlt hne _ r e e' h.symm
      have HR2 := hid (HR1.out.of_block (hs1.block b (by simpa using hsz) hb1))
      have HS2 := hid (HSv1.out.trans (hs1.mono (fun j _ h => Or.inr ⟨k, hlt, h⟩)))
      have HNm2 : Hid (∀ i, i < n → RowTs w1 (a i) (N i)) := fun i hi => by
        by_cases e : i = k
        · subst e; exact hr1
        · exact (HNm1.out i hi).save hs1 (hi1 i hi e)
      have HTs2 : Hid (∀ i, i < k + 1 → TsAt w1 (a i) (markT (kAt k0 N i + 1) (N i))) := fun i hi => by
        by_cases e : i = k
        · subst e; rw [HKe.out]; exact ht1
        · exact (HTs1.out i (by omega)).save hs1 (hi1 i (by omega) e)
      clear ht1 hr1 hs1 hb1 hi1
      go_wp2_with fail
      go_roundw
      case rel =>
        refine ⟨k + 1, _, by omega, by rw [HKS.out]; simp, by go_num, HR2.out, fun i hi => ?_, fun i hi => ?_, HNm2.out, HTs2.out, HS2.out⟩
        · exact (if_neg (by omega)).trans (HZ1.out i hi)
        · by_cases e : i = k
          · subst e; exact (if_pos rfl).trans (by rw [HKe.out])
          · exact (if_neg (by omega)).trans (HZ2.out i (by omega))
      case measure => simp [intOf]; omega
    · have hk' : k = n := by omega
      subst hk'
      go_wp2_with fail
      go_ret
      exact ⟨rfl, ⟨HRow.out.lt, fun i hi => by rw [HRow.out.cell (by omega), HZ2.out i hi], fun i hi => by rw [HRow.out.cell (by omega), HZ1.out i hi], HTs.out⟩, HS.out⟩
set_option maxRecDepth 20000 in
theorem markEventS_nil (a : Option Addr) (c : Nat) (w : World) :
    Calls Tryd.prog 46 #[.slice a 0 c, .int .i64 1] w fun e w' => e = .returned (.int .i64 1) ∧ w = w' := by
  go_enter Tryd.func46, Tryd.ntmps46
  go_wp2_with fail
  go_loopw [1, 5] (fun t s wr => t = .int .i64 1 ∧ s = .int .i64 0 ∧ w = wr) (fun _ _ _ => 0)
  case atStart => exact ⟨rfl, rfl, rfl⟩
  case round =>
    obtain ⟨rfl, rfl, rfl⟩ := hrel
    go_wp2_with fail
    go_ret
    exact ⟨rfl, rfl⟩
set_option maxRecDepth 20000 in
theorem heldEventS_nil (a : Option Addr) (c : Nat) (w : World) :
    Calls Tryd.prog 47 #[.slice a 0 c, .int .i64 1] w fun e w' => e = .returned (.int .i64 1) ∧ w = w' := by
  go_enter Tryd.func47, Tryd.ntmps47
  go_wp2_with fail
  go_loopw [1, 5] (fun t s wr => t = .int .i64 1 ∧ s = .int .i64 0 ∧ w = wr) (fun _ _ _ => 0)
  case atStart => exact ⟨rfl, rfl, rfl⟩
  case round =>
    obtain ⟨rfl, rfl, rfl⟩ := hrel
    go_wp2_with fail
    go_ret
    exact ⟨rfl, rfl⟩
/-- What a row of events that is owned holds behind the marks. -/
def EvHeld (w : World) (a : Option Addr) (n : Nat) (A : Nat → Option Addr) (N c : Nat → Nat) : Prop := n = 0 ∨ ∃ b, a = some ⟨b, 0, none⟩ ∧ EvHd w b n 1 A N c
theorem EvHeld.below {w w' : World} {a : Option Addr} {n : Nat} {A : Nat → Option Addr} {N c : Nat → Nat} (h : EvHeld w a n A N c) (hb : Below w.heap.size w w') : EvHeld w' a n A N c :=
  h.imp id (fun ⟨b, e, h1⟩ => ⟨b, e, h1.below hb⟩)
def qA (Q : List EvQ) (i : Nat) : Option Addr := (Q.getD i ((0, []), none, 0)).2.1
def qN (Q : List EvQ) (i : Nat) : Nat := (Q.getD i ((0, []), none, 0)).1.2.length
def qC (Q : List EvQ) (i : Nat) : Nat := (Q.getD i ((0, []), none, 0)).2.2
theorem q_get (Q : List EvQ) {i : Nat} (h : i < Q.length) : ∃ x, Q[i]? = some x ∧ x ∈ Q ∧ qA Q i = x.2.1 ∧ qN Q i = x.1.2.length ∧ qC Q i = x.2.2 := by
  refine ⟨Q[i], by simp [h], List.getElem_mem h, ?_, ?_, ?_⟩
  · simp [qA, List.getD, h]
  · simp [qN, List.getD, h]
  · simp [qC, List.getD, h]
theorem EvOwn.mu {w : World} {base : Nat} {v : Value} {Q : List EvQ} (h : EvOwn w base v Q) {b : Nat} {c : Nat} (hv : v = .slice (some ⟨b, 0, none⟩) Q.length c) : EvMu w b Q.length (qA Q) (qN Q) (qC Q) := by
  rcases h.own.2 with ⟨hv', _⟩ | ⟨g, cap, cur, hv', hb, hg, h1, h2, h3, h4⟩
  · rw [hv'] at hv; cases hv
  rw [hv] at hv'
  injection hv' with e1 e2 e3
  injection e1 with e1
  injection e1 with e1
  subst e1
  have hob : v.ownBlock = some b := by rw [hv]; rfl
  refine ⟨⟨fun j => cur.getD j undef, cap * 2, by omega, ⟨cur, hg, h3, fun i hi => ?_⟩, fun i hi => ?_⟩, fun i hi => ?_, fun i hi q e => ?_, fun i j hi hj hne q r e1 e2 => ?_⟩
  · have hi' : i < cur.size := by omega
    simp [hi']
  · obtain ⟨x, hx, hm, ea, en, ec⟩ := q_get Q hi
    have h5 := (q_at Q i x hx).2
    rw [← h4, List.getElem?_take, if_pos (by omega)] at h5
    rw [ea, en, ec]
    simp at h5
    simp [h5]
  · obtain ⟨x, hx, hm, ea, en, ec⟩ := q_get Q hi
    rw [ea, en]
    exact (h.names x hm).2.1
  · obtain ⟨x, hx, hm, ea, en, ec⟩ := q_get Q hi
    rw [ea] at e
    intro e2
    exact ((h.names x hm).2.2 q e).2.2.2 (by rw [hob, e2])
  · obtain ⟨x, hx, hmx, ex, _, _⟩ := q_get Q hi
    obtain ⟨y, hy, hmy, ey, _, _⟩ := q_get Q hj
    rw [ex] at e1
    rw [ey] at e2
    have hap := List.pairwise_iff_getElem.1 h.apart
    have gx : Q[i] = x := by simpa [hi] using hx
    have gy : Q[j] = y := by simpa [hj] using hy
    rcases Nat.lt_or_gt_of_ne hne with hl | hl
    · have := hap i j hi hj hl
      rw [gx, gy] at this
      exact this q r e1 e2
    · have := hap j i hj hi hl
      rw [gx, gy] at this
      exact fun e => this r q e2 e1 e.symm
theorem EvOwn.sub {w : World} {base : Nat} {v : Value} {Q : List EvQ} (h : EvOwn w base v Q) {b : Nat} {c : Nat} (hv : v = .slice (some ⟨b, 0, none⟩) Q.length c) {j : Nat} (hj : EvMkS b Q.length (qA Q) j) : EvB v Q j := by
  rcases hj with rfl | ⟨i, hi, q, e, rfl⟩
  · exact Or.inl (by rw [hv]; rfl)
  · obtain ⟨x, hx, hm, ea, _, _⟩ := q_get Q hi
    exact Or.inr ⟨x, hm, q, by rw [← ea]; exact e, rfl⟩
theorem markEventS_own {w : World} {base : Nat} {a : Option Addr} {c : Nat} {Q : List EvQ} (hn : Q.length ≤ 1048576) (hk : kAt 1 (qN Q) Q.length ≤ 1000000000) (h : EvOwn w base (.slice a Q.length c) Q) :
    Calls Tryd.prog 46 #[.slice a Q.length c, .int .i64 1] w fun e w' => e = .returned (.int .i64 (kAt 1 (qN Q) Q.length : Nat)) ∧ EvHeld w' a Q.length (qA Q) (qN Q) (qC Q) ∧ Save w w' (EvB (.slice a Q.length c) Q) := by
  obtain ⟨a', c', e, hes, hfl⟩ := h.form
  injection e with e1 _ e3
  subst e1 e3
  cases a with
  | none =>
    rcases h.own.2 with ⟨_, h0⟩ | ⟨_, _, _, e, _⟩
    · rw [h0]
      refine (markEventS_nil none c w).mono ?_
      rintro e w' ⟨rfl, rfl⟩
      exact ⟨rfl, Or.inl rfl, Save.refl _ _⟩
    · injection e with e; cases e
  | some q =>
    obtain ⟨eq, _⟩ := hfl q rfl
    rw [eq] at h ⊢
    refine (markEventS_up Q.length 1 q.block c 1 rfl (qA Q) (qN Q) (qC Q) hn (by omega) hk w (h.mu rfl)).mono ?_
    rintro e w' ⟨rfl, hd, hs⟩
    exact ⟨rfl, Or.inr ⟨_, rfl, hd⟩, hs.mono (fun j _ hj => h.sub rfl hj)⟩
theorem heldEventS_own {w : World} {a : Option Addr} {c n : Nat} {A : Nat → Option Addr} {N C : Nat → Nat} (hn : n ≤ 1048576) (hk : kAt 1 N n ≤ 1000000000) (h : EvHeld w a n A N C) :
    Calls Tryd.prog 47 #[.slice a n c, .int .i64 1] w fun e w' => e = .returned (.int .i64 (kAt 1 N n : Nat)) ∧ Below w.heap.size w w' := by
  rcases h with rfl | ⟨b, rfl, h⟩
  · refine (heldEventS_nil a c w).mono ?_
    rintro e w' ⟨rfl, rfl⟩
    exact ⟨rfl, Below.refl _ _⟩
  · exact heldEventS_row n 1 b c 1 rfl A N C hn (by omega) hk w h
end Go.Proofs.YthjnlcjjhklfpaaDoor
