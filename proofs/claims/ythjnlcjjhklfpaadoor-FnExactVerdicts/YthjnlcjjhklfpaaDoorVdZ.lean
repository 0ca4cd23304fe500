/-
  The laws' marks: markNodeS by its contract.
  The laws' marks over rows of events: markStringS, heldStringS from any mark on; markEventS, heldEventS; by their contracts.
  The laws' marks over rows of bools: eqBoolS, markBoolS, heldBoolS; the program's Verdicts; by their contracts.
  The program's Verdicts by its contract.
  The walk of the law FnExactVerdicts.
-/
import Derived.Test.YthjnlcjjhklfpaaDoorConv2
import Derived.Test.YthjnlcjjhklfpaaDoorMkT
import Derived.Test.YthjnlcjjhklfpaaDoorEvS
import Derived.Test.YthjnlcjjhklfpaaDoorMeanZ
namespace Go.Proofs.YthjnlcjjhklfpaaDoor
open Go.RowKit
set_option linter.unusedVariables false
set_option linter.unusedSimpArgs false
/-- The node of the marks from k on, and a row of such. -/
def mkNd (k : Nat) : Nd := ⟨k, (k + 1 : Nat), (k + 2 : Nat), (k + 3 : Nat), (k + 4 : Nat), mtS (k + 5)⟩
def markN (k n : Nat) : List Nd := (List.range n).map fun i => mkNd (k + i * 6)
theorem markN_len (k n : Nat) : (markN k n).length = n := by simp [markN]
theorem markN_at (k n i : Nat) (h : i < n) : ndAt (markN k n) i = mkNd (k + i * 6) := by simp [ndAt, markN, h]
set_option maxRecDepth 20000 in
set_option maxHeartbeats 1000000 in
theorem toNodeS_row (f : List Nd) (a : Option Addr) (cap : Nat) (hl : f.length ≤ 1048576) (w : World) (hA : ArgN w a f) :
    Calls Tryd.prog 16 #[.slice a f.length cap] w fun e w' => ∃ b, e = .returned (.slice (some ⟨b, 0, none⟩) f.length f.length) ∧ w.heap.size ≤ b ∧ NodesAt w' b f ∧ (∃ z, w'.rowIs b 74 (f.length * 6) z) ∧ (∀ j, w'.frozen? ⟨b, j, none⟩ = false) ∧ Below w.heap.size w w' := by
  obtain ⟨zc, hmk⟩ := run_makeN f.length hl
  have HA := hid hA
  clear hA
  have hr0 : Hid (∃ z, (w.alloc (.cells (madeCells zc (f.length * 6)) 74)).rowIs w.heap.size 74 (f.length * 6) (rowF f z 0)) := by
    refine ⟨fun j => (madeCells zc (f.length * 6)).getD j undef, ?_⟩
    have := World.rowIs_alloc w (madeCells zc (f.length * 6)) 74 (rowF f (fun j => (madeCells zc (f.length * 6)).getD j undef) 0) (fun i hi => by simp [rowF, hi])
    rwa [size_madeCells] at this
  obtain ⟨z, hr0⟩ := hr0.out
  have HR0 := hid hr0
  clear hr0
  go_enter Tryd.func16, Tryd.ntmps16
  go_wp2_with fail
  go_loopw [4] (fun t wr => ∃ k : Nat, k ≤ f.length ∧ t = .int .i64 k ∧ wr.rowIs w.heap.size 74 (f.length * 6) (rowF f z k) ∧ Below w.heap.size w wr) (fun t _ => f.length - (intOf t).toNat)
  case atStart => exact ⟨0, Nat.zero_le _, rfl, HR0.out, (Below.refl _ _).alloc (Nat.le_refl _) _⟩
  case round =>
    clear HR0 hmk
    obtain ⟨k, hk, rfl, hrow, hbel⟩ := hrel
    have HB := hid hbel
    have HRow := hid hrow
    have hsz := hrow.lt
    clear hrow hbel
    by_cases hlt : k < f.length
    · rcases HA.out with h0 | ⟨b, off, rfl, hb, hc⟩
      · omega
      · obtain ⟨c0, c1, c2, c3, c4, c5⟩ := (hc k hlt).below HB.out hb
        clear hc
        go_wp2_with (go_at_call 60; refine (toNode_any (ndAt f k) _).mono ?_; rintro e w1 ⟨rfl, hb1⟩; have HB1 := hid hb1; have HR1 := hid (HRow.out.of_block (hb1.block _ hsz)); have d0 := HR1.out.cell (i := k * 6) (by omega); have d1 := HR1.out.cell (i := k * 6 + 1) (by omega); have d2 := HR1.out.cell (i := k * 6 + 2) (by omega); have d3 := HR1.out.cell (i := k * 6 + 3) (by omega); have d4 := HR1.out.cell (i := k * 6 + 4) (by omega); have d5 := HR1.out.cell (i := k * 6 + 5) (by omega); have f0 := HR1.out.frozen (k * 6); have f1 := HR1.out.frozen (k * 6 + 1); have f2 := HR1.out.frozen (k * 6 + 2); have f3 := HR1.out.frozen (k * 6 + 3); have f4 := HR1.out.frozen (k * 6 + 4); have f5 := HR1.out.frozen (k * 6 + 5); unfold ndV; clear hb1)
        go_roundw
        case rel => exact ⟨k + 1, by omega, by go_num, store_six HR1.out, ((((((HB.out.trans (HB1.out.mono HB.out.size)).setCell (Nat.le_refl _) _).setCell (Nat.le_refl _) _).setCell (Nat.le_refl _) _).setCell (Nat.le_refl _) _).setCell (Nat.le_refl _) _).setCell (Nat.le_refl _) _⟩
        case measure => simp [intOf]; omega
    · have hk' : k = f.length := by omega
      subst hk'
      go_wp2_with fail
      go_ret
      exact ⟨w.heap.size, rfl, Nat.le_refl _, row_nodes HRow.out, ⟨_, HRow.out⟩, fun j => HRow.out.frozen j, HB.out⟩
set_option maxRecDepth 20000 in
set_option maxHeartbeats 2000000 in
theorem markNodeS_row (n k0 b c : Nat) (z : Nat → Value) (hn : n ≤ 1048576) (hk0 : 0 < k0) (hk1 : k0 ≤ 1000) (w : World) (h : w.rowIs b 74 (n * 6) z) :
    Calls Tryd.prog 22 #[.slice (some ⟨b, 0, none⟩) n c, .int .i64 k0] w fun e w' => e = .returned (.int .i64 (k0 + n * 6 : Nat)) ∧ w'.rowIs b 74 (n * 6) (rowF (markN k0 n) z n) ∧ Save w w' (fun j => j = b) := by
  have HR0 := hid (h.congr (fun j hj => (show z j = rowF (markN k0 n) z 0 j by simp [rowF])))
  have hbl := h.lt
  clear h
  go_enter Tryd.func22, Tryd.ntmps22
  go_wp2_with fail
  go_loopw [1, 5] (fun t s wr => ∃ k : Nat, k ≤ n ∧ t = .int .i64 (k0 + k * 6 : Nat) ∧ s = .int .i64 k ∧ wr.rowIs b 74 (n * 6) (rowF (markN k0 n) z k) ∧ Save w wr (fun j => j = b)) (fun _ s _ => n - (intOf s).toNat)
  case atStart => exact ⟨0, Nat.zero_le _, rfl, rfl, HR0.out, Save.refl _ _⟩
  case round =>
    clear HR0
    obtain ⟨k, hk, rfl, rfl, hrow, hsv⟩ := hrel
    have HS := hid hsv
    have HRow := hid hrow
    have hsz := hrow.lt
    clear hrow hsv
    by_cases hlt : k < n
    · have d0 := HRow.out.cell (i := k * 6) (by omega)
      have d1 := HRow.out.cell (i := k * 6 + 1) (by omega)
      have d2 := HRow.out.cell (i := k * 6 + 2) (by omega)
      have d3 := HRow.out.cell (i := k * 6 + 3) (by omega)
      have d4 := HRow.out.cell (i := k * 6 + 4) (by omega)
      have f0 := HRow.out.frozen
      go_wp2_with fail
      refine (markText_int _ (k0 + k * 6 + 5) (by push_cast; omega) (by omega) (by omega) _).mono ?_
      rintro e w1 ⟨rfl, hb1⟩
      have HR1 := hid ((((((HRow.out.set (k * 6) _).set (k * 6 + 1) _).set (k * 6 + 2) _).set (k * 6 + 3) _).set (k * 6 + 4) _).of_block (hb1.block b (by simpa using hsz)))
      have HS1 := hid ((((((HS.out.setCell (p := ⟨b, k * 6, none⟩) (fun _ => rfl) _).setCell (p := ⟨b, k * 6 + 1, none⟩) (fun _ => rfl) _).setCell (p := ⟨b, k * 6 + 2, none⟩) (fun _ => rfl) _).setCell (p := ⟨b, k * 6 + 3, none⟩) (fun _ => rfl) _).setCell (p := ⟨b, k * 6 + 4, none⟩) (fun _ => rfl) _).trans (Save.of_below hb1 _ (fun j h1 h2 => absurd h1 (by omega))))
      have d5 := HR1.out.cell (i := k * 6 + 5) (by omega)
      have f5 := HR1.out.frozen (k * 6 + 5)
      clear hb1 d0 d1 d2 d3 d4 f0
      go_wp2_with fail
      go_roundw
      case rel =>
        refine ⟨k + 1, by omega, by simp; omega, by go_num, (HR1.out.set (k * 6 + 5) _).congr (fun j hj => ?_), HS1.out.setCell (p := ⟨b, k * 6 + 5, none⟩) (fun _ => rfl) _⟩
        rw [rowF_step, markN_at _ _ _ hlt]
        simp [mkNd, Int.add_assoc, Nd.k, Nd.a, Nd.b, Nd.lo, Nd.hi, Nd.nm]
      case measure => simp [intOf]; omega
    · have hk' : k = n := by omega
      subst hk'
      go_wp2_with fail
      go_ret
      exact ⟨rfl, HRow.out, HS.out⟩
theorem markNodeS_nil (a : Option Addr) (k0 c : Nat) (w : World) :
    Calls Tryd.prog 22 #[.slice a 0 c, .int .i64 k0] w fun e w' => e = .returned (.int .i64 k0) ∧ w = w' := by
  go_enter Tryd.func22, Tryd.ntmps22
  go_wp2_with fail
  go_loopw [1, 5] (fun t s wr => t = .int .i64 k0 ∧ s = .int .i64 0 ∧ w = wr) (fun _ _ _ => 0)
  case atStart => exact ⟨rfl, rfl, rfl⟩
  case round =>
    obtain ⟨rfl, rfl, rfl⟩ := hrel
    go_wp2_with fail
    go_ret
    exact ⟨rfl, rfl⟩
end Go.Proofs.YthjnlcjjhklfpaaDoor
namespace Go.Proofs.YthjnlcjjhklfpaaDoor
open Go.RowKit
set_option linter.unusedVariables false
set_option linter.unusedSimpArgs false
set_option maxRecDepth 20000 in
set_option maxHeartbeats 1000000 in
theorem markStringS_from (n k0 : Nat) (v : Int) (hv : v = k0) (hk0 : 0 < k0) (hk1 : k0 + n ≤ 1000000000) (a : Option Addr) (c : Nat) (w : World) (h : RowT w a n) :
    Calls Tryd.prog 23 #[.slice a n c, .int .i64 v] w fun e w' => e = .returned (.int .i64 (k0 + n : Nat)) ∧ TsAt w' a (markT k0 n) ∧ RowT w' a n ∧ Save w w' (OfT a) := by
  subst hv
  rcases h with rfl | ⟨b, z, rfl, h⟩
  · go_enter Tryd.func23, Tryd.ntmps23
    go_wp2_with fail
    go_loopw [1, 5] (fun t s wr => t = .int .i64 k0 ∧ s = .int .i64 0 ∧ w = wr) (fun _ _ _ => 0)
    case atStart => exact ⟨rfl, rfl, rfl⟩
    case round =>
      obtain ⟨rfl, rfl, rfl⟩ := hrel
      go_wp2_with fail
      go_ret
      exact ⟨rfl, Or.inl rfl, Or.inl rfl, Save.refl _ _⟩
  · have HR0 := hid (h.congr (fun j hj => (show z j = rowT (markT k0 n) z 0 j by simp [rowT])))
    have hbl := h.lt
    clear h
    go_enter Tryd.func23, Tryd.ntmps23
    go_wp2_with fail
    go_loopw [1, 5] (fun t s wr => ∃ k : Nat, k ≤ n ∧ t = .int .i64 (k0 + k : Nat) ∧ s = .int .i64 k ∧ wr.rowIs b 9 n (rowT (markT k0 n) z k) ∧ Save w wr (OfT (some ⟨b, 0, none⟩))) (fun _ s _ => n - (intOf s).toNat)
    case atStart => exact ⟨0, Nat.zero_le _, rfl, rfl, HR0.out, Save.refl _ _⟩
    case round =>
      clear HR0
      obtain ⟨k, hk, rfl, rfl, hrow, hsv⟩ := hrel
      have HS := hid hsv
      have HRow := hid hrow
      have hsz := hrow.lt
      clear hrow hsv
      by_cases hlt : k < n
      · go_wp2_with fail
        refine (markText_int _ (k0 + k) (by push_cast; omega) (by omega) (by omega) _).mono ?_
        rintro e w1 ⟨rfl, hb1⟩
        have HR1 := hid (HRow.out.of_block (hb1.block b hsz))
        have HS1 := hid (HS.out.trans (Save.of_below hb1 _ (fun j h1 h2 => absurd h1 (by omega))))
        have d5 := HR1.out.cell (i := k) hlt
        have f5 := HR1.out.frozen k
        clear hb1
        go_wp2_with fail
        go_roundw
        case rel =>
          refine ⟨k + 1, by omega, by simp; omega, by go_num, (HR1.out.set k _).congr (fun j hj => ?_), HS1.out.setCell (p := ⟨b, k, none⟩) (fun _ => ⟨_, rfl, rfl⟩) _⟩
          rw [rowT_step, markT_at _ _ _ hlt]
        case measure => simp [intOf]; omega
      · have hk' : k = n := by omega
        subst hk'
        go_wp2_with fail
        go_ret
        exact ⟨rfl, Or.inr ⟨b, rfl, @rowT_strs _ b (markT k0 k) z (by rw [markT_len]; exact HRow.out)⟩, Or.inr ⟨b, _, rfl, HRow.out⟩, HS.out⟩
set_option maxRecDepth 20000 in
set_option maxHeartbeats 1000000 in
theorem heldStringS_from (n k0 : Nat) (v : Int) (hv : v = k0) (hk0 : 0 < k0) (hk1 : k0 + n ≤ 1000000000) (a : Option Addr) (c : Nat) (w : World) (h : TsAt w a (markT k0 n)) :
    Calls Tryd.prog 24 #[.slice a n c, .int .i64 v] w fun e w' => e = .returned (.int .i64 (k0 + n : Nat)) ∧ Below w.heap.size w w' := by
  subst hv
  have H := hid h
  clear h
  go_enter Tryd.func24, Tryd.ntmps24
  go_wp2_with fail
  go_loopw [1, 5] (fun t s wr => ∃ k : Nat, k ≤ n ∧ t = .int .i64 (k0 + k : Nat) ∧ s = .int .i64 k ∧ Below w.heap.size w wr) (fun _ s _ => n - (intOf s).toNat)
  case atStart => exact ⟨0, Nat.zero_le _, rfl, rfl, Below.refl _ _⟩
  case round =>
    obtain ⟨k, hk, rfl, rfl, hbel⟩ := hrel
    have HB := hid hbel
    have hsz := hbel.size
    clear hbel
    by_cases hlt : k < n
    · rcases H.out with h0 | ⟨b, rfl, hb, hc⟩
      · rw [markT_len] at h0; omega
      have d5 := (HB.out.cell (p := ⟨b, k, none⟩) hb).trans (hc k (by rw [markT_len]; exact hlt))
      rw [markT_at _ _ _ hlt] at d5
      have hbl : b < wr.heap.size := Nat.lt_of_lt_of_le hb hsz
      clear hc
      go_wp2_with fail
      go_region_with (go_at_call 68; refine (markText_int _ (k0 + k) (by push_cast; omega) (by omega) (by omega) _).mono ?_; rintro e w1 ⟨rfl, hb1⟩; have HB1 : Hid (Below w.heap.size w w1) := HB.out.trans (Below.mono ⟨hb1.os, hb1.tape, hb1.output, hb1.size, hb1.block⟩ hsz); have d6 := (hb1.cell (p := ⟨b, k, none⟩) hbl).trans d5; clear hb1)
      all_goals
        go_wp2_with fail
        go_roundw
        case rel => exact ⟨k + 1, by omega, by simp; omega, by go_num, HB1.out⟩
        case measure => simp [intOf]; omega
    · have hk' : k = n := by omega
      subst hk'
      go_wp2_with fail
      go_ret
      exact ⟨rfl, HB.out⟩
/-- The mark at which event i begins. -/
def kAt (k0 : Nat) (N : Nat → Nat) : Nat → Nat
  | 0 => k0
  | i + 1 => kAt k0 N i + 1 + N i
theorem kAt_pos (k0 : Nat) (N : Nat → Nat) (h : 0 < k0) : ∀ i, 0 < kAt k0 N i
  | 0 => h
  | i + 1 => by have := kAt_pos k0 N h i; unfold kAt; omega
theorem kAt_mono (k0 : Nat) (N : Nat → Nat) {i k : Nat} (h : i ≤ k) : kAt k0 N i ≤ kAt k0 N k := by
  induction h with
  | refl => exact Nat.le_refl _
  | step _ ih => exact Nat.le_trans ih (by show _ ≤ _ + 1 + _; omega)
/-- A row of events to be written to: each one's names lie in a block of its own. -/
structure EvMk (w : World) (b n : Nat) (a : Nat → Option Addr) (N c : Nat → Nat) : Prop where
  row : ∃ z, w.rowIs b 38 (n * 2) z ∧ ∀ i, i < n → z (i * 2 + 1) = .slice (a i) (N i) (c i)
  names : ∀ i, i < n → RowT w (a i) (N i)
  apart : ∀ i, i < n → ∀ q, a i = some q → q.block ≠ b
  apart2 : ∀ i j, i < n → j < n → i ≠ j → ∀ q r, a i = some q → a j = some r → q.block ≠ r.block
def EvMkS (b n : Nat) (a : Nat → Option Addr) (j : Nat) : Prop := j = b ∨ ∃ i, i < n ∧ OfT (a i) j
structure EvHd (w : World) (b n k0 : Nat) (a : Nat → Option Addr) (N c : Nat → Nat) : Prop where
  lt : b < w.heap.size
  times : ∀ i, i < n → w.cell? ⟨b, i * 2, none⟩ = some (.int .i64 (kAt k0 N i))
  slices : ∀ i, i < n → w.cell? ⟨b, i * 2 + 1, none⟩ = some (.slice (a i) (N i) (c i))
  names : ∀ i, i < n → TsAt w (a i) (markT (kAt k0 N i + 1) (N i))
theorem EvHd.below {w w' : World} {b n k0 : Nat} {a : Nat → Option Addr} {N c : Nat → Nat} (h : EvHd w b n k0 a N c) (hb : Below w.heap.size w w') : EvHd w' b n k0 a N c :=
  ⟨Nat.lt_of_lt_of_le h.lt hb.size, fun i hi => (hb.cell (p := ⟨b, _, none⟩) h.lt).trans (h.times i hi), fun i hi => (hb.cell (p := ⟨b, _, none⟩) h.lt).trans (h.slices i hi), fun i hi => (h.names i hi).below hb⟩
theorem EvMk.below {w w' : World} {b n : Nat} {a : Nat → Option Addr} {N c : Nat → Nat} (h : EvMk w b n a N c) (hb : Below w.heap.size w w') : EvMk w' b n a N c := by
  obtain ⟨z, h1, h2⟩ := h.row
  exact ⟨⟨z, h1.of_block (hb.block b h1.lt), h2⟩, fun i hi => (h.names i hi).below hb, h.apart, h.apart2⟩
theorem EvMk.save {w w' : World} {b n : Nat} {a : Nat → Option Addr} {N c : Nat → Nat} {S : Nat → Prop} (h : EvMk w b n a N c) (hs : Save w w' S) (hS : ∀ j, EvMkS b n a j → ¬ S j) : EvMk w' b n a N c := by
  obtain ⟨z, h1, h2⟩ := h.row
  exact ⟨⟨z, h1.of_block (hs.block b h1.lt (hS b (Or.inl rfl))), h2⟩, fun i hi => (h.names i hi).save hs (fun q e => hS q (Or.inr ⟨i, hi, _, e, rfl⟩)), h.apart, h.apart2⟩
theorem OfT.some {q : Addr} {j : Nat} (h : OfT (some q) j) : q.block = j := by obtain ⟨r, e, h⟩ := h; cases e; exact h
set_option maxRecDepth 20000 in
set_option maxHeartbeats 2000000 in
theorem markEventS_row (n k0 b cap : Nat) (v : Int) (hv : v = k0) (a : Nat → Option Addr) (N c : Nat → Nat) (hn : n ≤ 1048576) (hk0 : 0 < k0) (hk1 : kAt k0 N n ≤ 1000000000) (w : World) (h : EvMk w b n a N c) :
    Calls Tryd.prog 46 #[.slice (some ⟨b, 0, none⟩) n cap, .int .i64 v] w fun e w' => e = .returned (.int .i64 (kAt k0 N n : Nat)) ∧ EvHd w' b n k0 a N c ∧ Save w w' (EvMkS b n a) := by
  subst hv
  obtain ⟨z0, hr0, hz0⟩ := h.row
  have HR0 := hid hr0
  have HZ0 := hid hz0
  have HN0 := hid h.names
  have HA := hid h.apart
  have HA2 := hid h.apart2
  have HK1 := hid hk1
  clear h hr0 hz0 hk1
  go_enter Tryd.func46, Tryd.ntmps46
  go_wp2_with fail
  go_loopw [1, 5] (fun t s wr => ∃ (k : Nat) (z : Nat → Value), k ≤ n ∧ t = .int .i64 (kAt k0 N k : Nat) ∧ s = .int .i64 k ∧ wr.rowIs b 38 (n * 2) z ∧ (∀ i, i < n → z (i * 2 + 1) = .slice (a i) (N i) (c i)) ∧ (∀ i, i < k → z (i * 2) = .int .i64 (kAt k0 N i : Nat)) ∧ (∀ i, i < n → RowT wr (a i) (N i)) ∧ (∀ i, i < k → TsAt wr (a i) (markT (kAt k0 N i + 1) (N i))) ∧ Save w wr (EvMkS b n a)) (fun _ s _ => n - (intOf s).toNat)
  case atStart => exact ⟨0, z0, Nat.zero_le _, rfl, rfl, HR0.out, HZ0.out, fun i h => by omega, HN0.out, fun i h => by omega, Save.refl _ _⟩
  case round =>
    clear HR0 HZ0 HN0
    obtain ⟨k, z, hk, rfl, rfl, hrow, hz1, hz2, hnm, hts, hsv⟩ := hrel
    have HS := hid hsv
    have HRow := hid hrow
    have HZ1 := hid hz1
    have HZ2 := hid hz2
    have HNm := hid hnm
    have HTs := hid hts
    have hsz := hrow.lt
    clear hrow hsv hz1 hz2 hnm hts
    by_cases hlt : k < n
    · have hkp := kAt_pos k0 N hk0 k
      have hkm := kAt_mono k0 N (show k + 1 ≤ n from hlt)
      have hks : kAt k0 N (k + 1) = kAt k0 N k + 1 + N k := rfl
      have HKS := hid hks
      have hkb : kAt k0 N k + 1 + N k ≤ 1000000000 := by have := HK1.out; omega
      clear hks hkm
      have d0 := HRow.out.cell (i := k * 2) (by omega)
      have d1 := HRow.out.cell (i := k * 2 + 1) (by omega)
      rw [HZ1.out k hlt] at d1
      have f0 := HRow.out.frozen (k * 2)
      generalize hK : kAt k0 N k = K at *
      have HKe := hid hK
      clear hK
      have HSv1 := hid (Save.setCell (S := EvMkS b n a) HS.out (p := ⟨b, k * 2, none⟩) (fun _ => Or.inl rfl) (.int .i64 (K : Nat)))
      have HR1 := hid (HRow.out.set (k * 2) (.int .i64 (K : Nat)))
      have HOther : Hid (Save wr (wr.setCell ⟨b, k * 2, none⟩ (.int .i64 (K : Nat))) (fun j => j = b)) := Save.setCell (S := fun j => j = b) (Save.refl wr _) (p := ⟨b, k * 2, none⟩) (fun _ => rfl) _
      have HNm1 := hid (fun i (hi : i < n) => (HNm.out i hi).save HOther.out (fun q e h => HA.out i hi _ e h))
      have HTs1 := hid (fun i (hi : i < k) => (HTs.out i hi).save HOther.out (fun q e h => HA.out i (by omega) _ e h))
      go_wp2_with fail
      refine (markStringS_from (N k) (K + 1) _ (by push_cast; omega) (by omega) (by omega) (a k) (c k) _ (HNm1.out k hlt)).mono ?_
      rintro e w1 ⟨rfl, ht1, hr1, hs1⟩
      have hb1 : ¬ OfT (a k) b := fun ⟨q, e, h⟩ => HA.out k hlt q e h
      have hi1 : ∀ i, i < n → i ≠ k → ∀ q, a i = some ⟨q, 0, none⟩ → ¬ OfT (a k) q := fun i hi hne q e ⟨r, e', h⟩ => HA2.out i k hi hlt hne _ r e e' h.symm
      have HR2 := hid (HR1.out.of_block (hs1.block b (by simpa using hsz) hb1))
      have HS2 := hid (HSv1.out.trans (hs1.mono (fun j _ h => Or.inr ⟨k, hlt, h⟩)))
      have HNm2 : Hid (∀ i, i < n → RowT w1 (a i) (N i)) := fun i hi => by
        by_cases e : i = k
        · subst e; exact hr1
        · exact (HNm1.out i hi).save hs1 (hi1 i hi e)
      have HTs2 : Hid (∀ i, i < k + 1 → TsAt w1 (a i) (markT (kAt k0 N i + 1) (N i))) := fun i hi => by
        by_cases e : i = k
        · subst e; rw [HKe.out]; exact ht1
        · exact (HTs1.out i (by omega)).save hs1 (hi1 i (by omega) e)
      clear ht1 hr1 hs1 hb1 hi1
      go_wp2_with fail
      go_roundw
      case rel =>
        refine ⟨k + 1, _, by omega, by rw [HKS.out]; simp, by go_num, HR2.out, fun i hi => ?_, fun i hi => ?_, HNm2.out, HTs2.out, HS2.out⟩
        · exact (if_neg (by omega)).trans (HZ1.out i hi)
        · by_cases e : i = k
          · subst e; exact (if_pos rfl).trans (by rw [HKe.out])
          · exact (if_neg (by omega)).trans (HZ2.out i (by omega))
      case measure => simp [intOf]; omega
    · have hk' : k = n := by omega
      subst hk'
      go_wp2_with fail
      go_ret
      exact ⟨rfl, ⟨HRow.out.lt, fun i hi => by rw [HRow.out.cell (by omega), HZ2.out i hi], fun i hi => by rw [HRow.out.cell (by omega), HZ1.out i hi], HTs.out⟩, HS.out⟩
set_option maxRecDepth 20000 in
set_option maxHeartbeats 2000000 in
theorem heldEventS_row (n k0 b cap : Nat) (v : Int) (hv : v = k0) (a : Nat → Option Addr) (N c : Nat → Nat) (hn : n ≤ 1048576) (hk0 : 0 < k0) (hk1 : kAt k0 N n ≤ 1000000000) (w : World) (h : EvHd w b n k0 a N c) :
    Calls Tryd.prog 47 #[.slice (some ⟨b, 0, none⟩) n cap, .int .i64 v] w fun e w' => e = .returned (.int .i64 (kAt k0 N n : Nat)) ∧ Below w.heap.size w w' := by
  subst hv
  have H := hid h
  have HK1 := hid hk1
  clear h hk1
  go_enter Tryd.func47, Tryd.ntmps47
  go_wp2_with fail
  go_loopw [1, 5] (fun t s wr => ∃ k : Nat, k ≤ n ∧ t = .int .i64 (kAt k0 N k : Nat) ∧ s = .int .i64 k ∧ Below w.heap.size w wr) (fun _ s _ => n - (intOf s).toNat)
  case atStart => exact ⟨0, Nat.zero_le _, rfl, rfl, Below.refl _ _⟩
  case round =>
    obtain ⟨k, hk, rfl, rfl, hbel⟩ := hrel
    have HB := hid hbel
    have hsz := hbel.size
    clear hbel
    by_cases hlt : k < n
    · have hkp := kAt_pos k0 N hk0 k
      have hkm := kAt_mono k0 N (show k + 1 ≤ n from hlt)
      have hks : kAt k0 N (k + 1) = kAt k0 N k + 1 + N k := rfl
      have HKS := hid hks
      have hkb : kAt k0 N k + 1 + N k ≤ 1000000000 := by have := HK1.out; omega
      clear hks hkm
      have HH := hid (H.out.below HB.out)
      have d0 := HH.out.times k hlt
      have d1 := HH.out.slices k hlt
      have HT := hid (HH.out.names k hlt)
      generalize kAt k0 N k = K at *
      go_wp2_with fail
      refine (heldStringS_from (N k) (K + 1) _ (by push_cast; omega) (by omega) (by omega) (a k) (c k) _ HT.out).mono ?_
      rintro e w1 ⟨rfl, hb1⟩
      have HB1 := hid (HB.out.trans (hb1.mono hsz))
      clear hb1
      have hnn : ¬ ((K + 1 + N k : Nat) : Int) < 0 := by omega
      go_wp2_with fail
      go_roundw
      case rel => exact ⟨k + 1, by omega, by rw [HKS.out]; simp, by go_num, HB1.out⟩
      case measure => simp [intOf]; omega
    · have hk' : k = n := by omega
      subst hk'
      go_wp2_with fail
      go_ret
      exact ⟨rfl, HB.out⟩
end Go.Proofs.YthjnlcjjhklfpaaDoor
namespace Go.Proofs.YthjnlcjjhklfpaaDoor
open Go.RowKit
set_option linter.unusedVariables false
set_option linter.unusedSimpArgs false
set_option maxRecDepth 20000 in
set_option maxHeartbeats 1000000 in
theorem eqBoolS_any (V : List Bool) (n : Nat) (hn : V.length = n) (a1 a2 : Option Addr) (c1 c2 : Nat) (hl : n ≤ 1048576) (w : World) (h1 : BsAt w a1 V) (h2 : BsAt w a2 V) :
    Calls Tryd.prog 54 #[.slice a1 n c1, .slice a2 n c2] w fun e w' => e = .returned (.bool true) ∧ Below w.heap.size w w' := by
  subst hn
  have H1 := hid h1
  have H2 := hid h2
  clear h1 h2
  go_enter Tryd.func54, Tryd.ntmps54
  go_wp2_with fail
  go_loopw [5] (fun t wr => ∃ k : Nat, k ≤ V.length ∧ t = .int .i64 k ∧ Below w.heap.size w wr) (fun t _ => V.length - (intOf t).toNat)
  case atStart => exact ⟨0, Nat.zero_le _, rfl, Below.refl _ _⟩
  case round =>
    obtain ⟨k, hk, rfl, hbel⟩ := hrel
    have HB := hid hbel
    clear hbel
    by_cases hlt : k < V.length
    · rcases H1.out with h0 | ⟨b1, rfl, hb1, hc1⟩
      · omega
      rcases H2.out with h0 | ⟨b2, rfl, hb2, hc2⟩
      · omega
      have d1 := (HB.out.cell (p := ⟨b1, k, none⟩) hb1).trans (hc1 k hlt)
      have d2 := (HB.out.cell (p := ⟨b2, k, none⟩) hb2).trans (hc2 k hlt)
      clear hc1 hc2
      generalize V.getD k false = t at *
      have ht : (t != t) = false := by simp
      go_wp2_with fail
      go_quiet (fail)
      go_wp2_with fail
      go_roundw
      case rel => exact ⟨k + 1, by omega, by go_num, below_drewN HB.out _⟩
      case measure => simp [intOf]; omega
    · go_wp2_with fail
      go_ret
      exact ⟨rfl, HB.out⟩
def mkB (k : Nat) : Bool := decide ((k : Int) % 3 = 0)
def markB (k n : Nat) : List Bool := (List.range n).map fun i => mkB (k + i)
theorem markB_len (k n : Nat) : (markB k n).length = n := by simp [markB]
theorem markB_at (k n i : Nat) (h : i < n) : (markB k n).getD i false = mkB (k + i) := by simp [markB, h]
/-- A row of bools to be written to; it may be longer than what is asked for. -/
def RowBs (w : World) (a : Option Addr) (n : Nat) : Prop := n = 0 ∨ ∃ b z m, a = some ⟨b, 0, none⟩ ∧ n ≤ m ∧ w.rowIs b 4 m z
theorem RowBs.below {w w' : World} {a : Option Addr} {n : Nat} (h : RowBs w a n) (hb : Below w.heap.size w w') : RowBs w' a n :=
  h.imp id (fun ⟨b, z, m, e, hm, hr⟩ => ⟨b, z, m, e, hm, hr.of_block (hb.block b hr.lt)⟩)
theorem RowBs.save {w w' : World} {a : Option Addr} {n : Nat} {S : Nat → Prop} (h : RowBs w a n) (hs : Save w w' S) (hS : ∀ b, a = some ⟨b, 0, none⟩ → ¬ S b) : RowBs w' a n :=
  h.imp id (fun ⟨b, z, m, e, hm, hr⟩ => ⟨b, z, m, e, hm, hr.of_block (hs.block b hr.lt (hS b e))⟩)
def rowV (V : List Bool) (z : Nat → Value) (k j : Nat) : Value := if j < k then .bool (V.getD j false) else z j
theorem rowV_step (V : List Bool) (z : Nat → Value) (k j : Nat) : rowV V z (k + 1) j = if j = k then .bool (V.getD k false) else rowV V z k j := by
  unfold rowV
  by_cases e : j = k
  · subst e; simp
  · by_cases h : j < k
    · rw [if_pos (by omega), if_neg e, if_pos h]
    · rw [if_neg (by omega), if_neg e, if_neg h]
set_option maxRecDepth 20000 in
set_option maxHeartbeats 1000000 in
theorem markBoolS_any (n : Nat) (a : Option Addr) (c : Nat) (hn : n ≤ 1048576) (w : World) (h : RowBs w a n) :
    Calls Tryd.prog 55 #[.slice a n c, .int .i64 1] w fun e w' => e = .returned (.int .i64 (1 + n : Nat)) ∧ BsAt w' a (markB 1 n) ∧ Save w w' (OfT a) := by
  rcases h with rfl | ⟨b, z, m, rfl, hnm, h⟩
  · go_enter Tryd.func55, Tryd.ntmps55
    go_wp2_with fail
    go_loopw [1, 5] (fun t s wr => t = .int .i64 1 ∧ s = .int .i64 0 ∧ w = wr) (fun _ _ _ => 0)
    case atStart => exact ⟨rfl, rfl, rfl⟩
    case round =>
      obtain ⟨rfl, rfl, rfl⟩ := hrel
      go_wp2_with fail
      go_ret
      exact ⟨rfl, Or.inl rfl, Save.refl _ _⟩
  · have HR0 := hid (h.congr (fun j hj => (show z j = rowV (markB 1 n) z 0 j by simp [rowV])))
    have hbl := h.lt
    clear h
    go_enter Tryd.func55, Tryd.ntmps55
    go_wp2_with fail
    go_loopw [1, 5] (fun t s wr => ∃ k : Nat, k ≤ n ∧ t = .int .i64 (1 + k : Nat) ∧ s = .int .i64 k ∧ wr.rowIs b 4 m (rowV (markB 1 n) z k) ∧ Save w wr (OfT (some ⟨b, 0, none⟩))) (fun _ s _ => n - (intOf s).toNat)
    case atStart => exact ⟨0, Nat.zero_le _, rfl, rfl, HR0.out, Save.refl _ _⟩
    case round =>
      clear HR0
      obtain ⟨k, hk, rfl, rfl, hrow, hsv⟩ := hrel
      have HS := hid hsv
      have HRow := hid hrow
      have hsz := hrow.lt
      clear hrow hsv
      by_cases hlt : k < n
      · have d5 := HRow.out.cell (i := k) (by omega)
        have f5 := HRow.out.frozen k
        have HE : Hid ((markB 1 n).getD k false = decide ((((1 + k : Nat) : Int)) % 3 = 0)) := markB_at 1 n k hlt
        go_wp2_with fail
        go_roundw
        case rel =>
          refine ⟨k + 1, by omega, by simp; omega, by go_num, (HRow.out.set k _).congr (fun j hj => ?_), HS.out.setCell (p := ⟨b, k, none⟩) (fun _ => ⟨_, rfl, rfl⟩) _⟩
          rw [rowV_step, HE.out]
          split
          · congr 1
          · rfl
        case measure => simp [intOf]; omega
      · have hk' : k = n := by omega
        subst hk'
        go_wp2_with fail
        go_ret
        refine ⟨rfl, Or.inr ⟨b, rfl, HRow.out.lt, fun i hi => ?_⟩, HS.out⟩
        rw [markB_len] at hi
        rw [HRow.out.cell (by omega)]
        unfold rowV
        rw [if_pos hi]
set_option maxRecDepth 20000 in
set_option maxHeartbeats 1000000 in
theorem heldBoolS_any (n : Nat) (a : Option Addr) (c : Nat) (hn : n ≤ 1048576) (w : World) (h : BsAt w a (markB 1 n)) :
    Calls Tryd.prog 56 #[.slice a n c, .int .i64 1] w fun e w' => e = .returned (.int .i64 (1 + n : Nat)) ∧ Below w.heap.size w w' := by
  have H := hid h
  clear h
  go_enter Tryd.func56, Tryd.ntmps56
  go_wp2_with fail
  go_loopw [1, 5] (fun t s wr => ∃ k : Nat, k ≤ n ∧ t = .int .i64 (1 + k : Nat) ∧ s = .int .i64 k ∧ Below w.heap.size w wr) (fun _ s _ => n - (intOf s).toNat)
  case atStart => exact ⟨0, Nat.zero_le _, rfl, rfl, Below.refl _ _⟩
  case round =>
    obtain ⟨k, hk, rfl, rfl, hbel⟩ := hrel
    have HB := hid hbel
    clear hbel
    by_cases hlt : k < n
    · rcases H.out with h0 | ⟨b, rfl, hb, hc⟩
      · rw [markB_len] at h0; omega
      have d5 := (HB.out.cell (p := ⟨b, k, none⟩) hb).trans (hc k (by rw [markB_len]; exact hlt))
      rw [markB_at _ _ _ hlt] at d5
      clear hc
      by_cases h3 : (1 + (k : Int)) % 3 = 0
      · have e3 : mkB (1 + k) = true := by simp [mkB, h3]
        rw [e3] at d5
        clear e3
        go_wp2_with fail
        go_roundw
        case rel => exact ⟨k + 1, by omega, by simp; omega, by go_num, HB.out⟩
        case measure => simp [intOf]; omega
      · have e3 : mkB (1 + k) = false := by simp [mkB, h3]
        rw [e3] at d5
        clear e3
        go_wp2_with fail
        go_roundw
        case rel => exact ⟨k + 1, by omega, by simp; omega, by go_num, HB.out⟩
        case measure => simp [intOf]; omega
    · have hk' : k = n := by omega
      subst hk'
      go_wp2_with fail
      go_ret
      exact ⟨rfl, HB.out⟩
end Go.Proofs.YthjnlcjjhklfpaaDoor
namespace Go.Proofs.YthjnlcjjhklfpaaDoor
open Go.RowKit
set_option linter.unusedVariables false
set_option linter.unusedSimpArgs false
theorem HoldsC.num {w0 : World} {f : List Nd} {L : List Evt} {fb fc eb ec mb p : Nat} (H : HoldsC w0 f L fb fc eb ec mb p) (v : Int) (hvp : v = p) (i : Nat) (hi : i < L.length) {K : Nat → Nat → Int} {c : Nat} {w : World} (h : St w0 f L mb w K c (p + 1)) :
    Calls Tryd.prog 91 #[mV f L fb fc eb ec mb, .int .i64 v, .int .i64 i] w fun e w' => e = .returned (.bool (hv f L p i)) ∧ ∃ K' c', Aft f L mb w w' K c K' c' (p + 1) := by
  subst hvp
  exact H i K c w hi h
/-- A row of bools that the call owns. -/
def OwnB (w : World) (base : Nat) (v : Value) (V : List Bool) : Prop := w.ownsRow base 4 1 v V.length (V.map Value.bool)
theorem OwnB.save {w w' : World} {base : Nat} {v : Value} {V : List Bool} {S : Nat → Prop} (h : OwnB w base v V) (hs : Save w w' S) (hS : ∀ k, v.ownBlock = some k → ¬ S k) : OwnB w' base v V := by
  refine ⟨h.1, ?_⟩
  rcases h.2 with hn | ⟨b, cap, cur, rfl, hb, hg, rest⟩
  · exact .inl hn
  · refine .inr ⟨b, cap, cur, rfl, hb, ?_, rest⟩
    rw [hs.block b (Array.getElem?_eq_some_iff.1 hg).1 (hS b rfl)]
    exact hg
theorem OwnB.form {w : World} {base : Nat} {v : Value} {V : List Bool} (h : OwnB w base v V) : ∃ a c, v = .slice a V.length c ∧ BsAt w a V ∧ RowBs w a V.length ∧ (∀ b, a = some ⟨b, 0, none⟩ → base ≤ b ∧ b < w.heap.size) ∧ ∀ q, a = some q → q = ⟨q.block, 0, none⟩ := by
  rcases h.2 with ⟨hv, h0⟩ | ⟨g, cap, cur, hv, hb, hg, h1, h2, h3, h4⟩
  · exact ⟨none, 0, by rw [hv, h0], Or.inl h0, Or.inl h0, fun b e => (by cases e), fun q e => (by cases e)⟩
  · have hlt := (Array.getElem?_eq_some_iff.1 hg).1
    refine ⟨some ⟨g, 0, none⟩, cap, hv, Or.inr ⟨g, rfl, hlt, fun i hi => ?_⟩, Or.inr ⟨g, fun j => cur.getD j undef, cap, rfl, h1, ⟨cur, hg, by omega, fun i hi => ?_⟩⟩, fun b e => (by injection e with e1; injection e1 with e2; subst e2; exact ⟨hb, hlt⟩), fun q e => (by injection e with e1; subst e1; rfl)⟩
    · have h5 := World.ownsRow.cells h (g := g) (by rw [hv]; rfl) i (.bool (V.getD i false)) (by simp [hi])
      rw [Addr.add_lit] at h5
      simpa using h5
    · have hi' : i < cur.size := by omega
      simp [hi']
structure MBox (W : World) (q : Nat) (f : List Nd) (L : List Evt) (fb fc eb ec mb : Nat) : Prop where
  lt : q < W.heap.size
  m0 : W.cell? ⟨q, 0, none⟩ = some (.slice (some ⟨fb, 0, none⟩) f.length fc)
  m1 : W.cell? ⟨q, 1, none⟩ = some (.slice (some ⟨eb, 0, none⟩) L.length ec)
  m2 : W.cell? ⟨q, 2, none⟩ = some (.map (some mb))
theorem MBox.save {W W' : World} {q : Nat} {f : List Nd} {L : List Evt} {fb fc eb ec mb : Nat} {S : Nat → Prop} (h : MBox W q f L fb fc eb ec mb) (hs : Save W W' S) (h1 : ¬ S q) : MBox W' q f L fb fc eb ec mb :=
  ⟨Nat.lt_of_lt_of_le h.lt hs.size, (hs.cell (p := ⟨q, _, none⟩) h.lt h1).trans h.m0, (hs.cell (p := ⟨q, _, none⟩) h.lt h1).trans h.m1, (hs.cell (p := ⟨q, _, none⟩) h.lt h1).trans h.m2⟩
def vTo (f : List Nd) (L : List Evt) (k : Nat) : List Bool := (List.range k).map (hv f L (f.length - 1))
theorem vTo_len (f : List Nd) (L : List Evt) (k : Nat) : (vTo f L k).length = k := by simp [vTo]
theorem vTo_succ (f : List Nd) (L : List Evt) (k : Nat) : vTo f L (k + 1) = vTo f L k ++ [hv f L (f.length - 1) k] := by simp [vTo, List.range_succ]
set_option maxRecDepth 20000 in
set_option maxHeartbeats 4000000 in
theorem implVerdicts_any (f : List Nd) (L : List Evt) (fb eb fc ec : Nat) (w : World) (h : MeanIn w f L fb eb) (hkw : Kw w) (hg : 0 < w.heap.size) :
    Calls Tryd.prog 53 #[.slice (some ⟨fb, 0, none⟩) f.length fc, .slice (some ⟨eb, 0, none⟩) L.length ec] w fun e w' => ∃ a c, e = .returned (.slice a (vdB f L).length c) ∧ BsAt w' a (vdB f L) ∧ RowBs w' a (vdB f L).length ∧ (∀ b, a = some ⟨b, 0, none⟩ → w.heap.size ≤ b ∧ b < w'.heap.size) ∧ (∀ q, a = some q → q = ⟨q.block, 0, none⟩) ∧ Below w.heap.size w w' := by
  have H := hid h
  have HK := hid hkw
  have hfl := h.fl
  have hll := h.ll
  have hm1 : f.length ≤ maxLen := by unfold maxLen; omega
  have hm2 : L.length ≤ maxLen := by unfold maxLen; omega
  have HM1 := hid hm1
  have HM2 := hid hm2
  clear h hkw hm1 hm2
  rcases (Bool.eq_false_or_eq_true (rightB f)).symm with hr | hr
  · have HV := hid (vdB_no1 f L hr)
    have HR := hid hr
    clear hr
    go_enter Tryd.func53, Tryd.ntmps53
    go_wp2_with (go_at_call 61; refine (implRight_is f false HR.out fb fc _ H.out.nodes H.out.fok HM1.out HK.out hg).mono ?_; rintro e w1 ⟨rfl, hb1⟩; have HB1 := hid hb1; have HM := hid (H.out.below hb1); have hg1 := Nat.lt_of_lt_of_le hg hb1.size; clear hb1)
    go_ret
    exact ⟨none, 0, by rw [HV.out]; rfl, Or.inl (by rw [HV.out]; rfl), Or.inl (by rw [HV.out]; rfl), fun b e => (by cases e), fun b e => (by cases e), HB1.out⟩
  have HR := hid hr
  clear hr
  rcases (Bool.eq_false_or_eq_true (trB L)).symm with ht | ht
  · have HV := hid (vdB_no2 f L ht)
    have HT := hid ht
    clear ht
    go_enter Tryd.func53, Tryd.ntmps53
    go_wp2_with (first | (go_at_call 61; refine (implRight_is f true HR.out fb fc _ H.out.nodes H.out.fok HM1.out HK.out hg).mono ?_; rintro e w1 ⟨rfl, hb1⟩; have HB1 := hid hb1; have HM := hid (H.out.below hb1); have hg1 := Nat.lt_of_lt_of_le hg hb1.size; clear hb1) | (go_at_call 42; refine (implTrace_is L false HT.out eb ec H.out.lok HM2.out _ HM.out.evs (HK.out.below HB1.out hg) hg1).mono ?_; rintro e w2 ⟨rfl, hb2⟩; have HB2 := hid (HB1.out.trans (hb2.mono HB1.out.size)); have HMM := hid (HM.out.below hb2); have hz2 := HB2.out.size; clear hb2))
    go_ret
    exact ⟨none, 0, by rw [HV.out]; rfl, Or.inl (by rw [HV.out]; rfl), Or.inl (by rw [HV.out]; rfl), fun b e => (by cases e), fun b e => (by cases e), HB2.out⟩
  have HV : Hid (vdB f L = vTo f L L.length) := vdB_yes f L HR.out ht
  obtain ⟨hf1, hf2, _⟩ := rightB_parts f HR.out
  have hl60 := (trB_parts L ht).1
  have HT := hid ht
  clear ht
  obtain ⟨i0, hi, hz0, hz1, hz2'⟩ := info_parts Tryd.infoB
  go_enter Tryd.func53, Tryd.ntmps53
  go_wp2_with (first | (go_at_call 61; refine (implRight_is f true HR.out fb fc _ H.out.nodes H.out.fok HM1.out HK.out hg).mono ?_; rintro e w1 ⟨rfl, hb1⟩; have HB1 := hid hb1; have HM := hid (H.out.below hb1); have hg1 := Nat.lt_of_lt_of_le hg hb1.size; clear hb1) | (go_at_call 42; refine (implTrace_is L true HT.out eb ec H.out.lok HM2.out _ HM.out.evs (HK.out.below HB1.out hg) hg1).mono ?_; rintro e w2 ⟨rfl, hb2⟩; have HB2 := hid (HB1.out.trans (hb2.mono HB1.out.size)); have HMM := hid (HM.out.below hb2); have hz2 := HB2.out.size; clear hb2) | (go_at_call 90; refine (newMeaning_any f L fb fc eb ec _).mono ?_; rintro e w3 ⟨mb, rfl, hmb, hKM, hb3⟩; have HC := hid (Ctx.mk HMM.out HR.out HT.out hmb : Ctx w2 f L fb eb mb); have HKM := hid hKM; have HB3 := hid hb3; have hml := hKM.lt; have hz3 := hb3.size; unfold mV; clear hKM hb3))
  have HX0 : Hid (MBox (w3.alloc (.cells #[.slice (some ⟨fb, 0, none⟩) f.length fc, .slice (some ⟨eb, 0, none⟩) L.length ec, .map (some mb)] 105)) w3.heap.size f L fb fc eb ec mb) := ⟨by simp, by simp [go_sem], by simp [go_sem], by simp [go_sem]⟩
  have HS0 : Hid (St w2 f L mb (w3.alloc (.cells #[.slice (some ⟨fb, 0, none⟩) f.length fc, .slice (some ⟨eb, 0, none⟩) L.length ec, .map (some mb)] 105)) (fun _ _ => 0) 0 (f.length - 1 + 1)) := St.made (HB3.out.alloc hz3 _) (HKM.out.below ((Below.refl _ _).alloc (Nat.le_refl _) _)) _
  have hq : mb < w3.heap.size := hml
  have hbs : w3.heap.size < (w3.alloc (.cells #[.slice (some ⟨fb, 0, none⟩) f.length fc, .slice (some ⟨eb, 0, none⟩) L.length ec, .map (some mb)] 105)).heap.size := by simp
  clear HKM
  generalize w3.alloc (.cells #[.slice (some ⟨fb, 0, none⟩) f.length fc, .slice (some ⟨eb, 0, none⟩) L.length ec, .map (some mb)] 105) = W at *
  go_loopw [6, 21] (fun v t wr => ∃ (k : Nat) (K : Nat → Nat → Int) (c : Nat), k ≤ L.length ∧ t = .int .i64 k ∧ OwnB wr W.heap.size v (vTo f L k) ∧ St w2 f L mb wr K c (f.length - 1 + 1) ∧ MBox wr w3.heap.size f L fb fc eb ec mb ∧ W.heap.size ≤ wr.heap.size) (fun _ t _ => L.length - (intOf t).toNat)
  case atStart => exact ⟨0, _, _, Nat.zero_le _, rfl, World.ownsRow_nil _ _ _ _, HS0.out, HX0.out, Nat.le_refl _⟩
  case round =>
    clear HX0 HS0
    obtain ⟨k, K, c, hk, rfl, hO, hSt, hX, hWr⟩ := hrel
    have HO := hid hO
    have HSt := hid hSt
    have HXr := hid hX
    have HVS := hid (vTo_succ f L k)
    have HVL := hid (vTo_len f L k)
    obtain ⟨xl, m0, m1, m2⟩ := hX
    obtain ⟨va, vc, hva, _⟩ := hO.form
    rw [vTo_len] at hva
    subst hva
    clear hO hSt
    by_cases hlt : k < L.length
    · have HLow : Hid (∀ q, (Value.slice va k vc).ownBlock = some q → W.heap.size ≤ q) := fun q e => (World.ownsRow.lt HO.out q e).1
      go_wp2_with (first | (go_at_call 91; refine ((holds_all HC.out (f.length - 1) (by omega)).num _ (by omega) k hlt HSt.out).mono ?_; rintro e w4 ⟨rfl, K4, c4, hA⟩; have HS4 := hid (hA.st HC.out HSt.out); have HX4 := hid (HXr.out.save hA.save (by omega)); have HO4 := hid (HO.out.save hA.save (fun q e => by have := HLow.out q e; omega)); have hz4 := hA.save.size; clear hA) | (at_builtin; refine wpList_append_own_at _ rfl _ _ 64 rfl W.heap.size 4 i0 _ 1 1 Tryd.uBs hi hz0 hz1 hz2' rfl (by decide) _ _ _ rfl (HO4.out.alloc _) ⟨w4.heap.size, 0, none⟩ 1 1 [.bool (hv f L (f.length - 1) k)] rfl rfl (cell_one _ _ _) (by simp [Value.oneCell']) (by rw [HVL.out]; unfold maxLen; omega) (by rw [HVL.out]; omega) (by simp; omega) ?_; intro v5 w5 hown5 hgrow5 _ hat5; have HSv : Hid (Save w4 w5 (fun j => (Value.slice va k vc).ownBlock = some j)) := (((Save.refl w4 (fun j => (Value.slice va k vc).ownBlock = some j)).alloc _).grown hgrow5 (fun q e _ => e)); have HO5 : Hid (OwnB w5 W.heap.size v5 (vTo f L (k + 1))) := (by show w5.ownsRow _ _ _ _ _ _; rw [HVS.out, List.length_append, List.map_append]; exact hown5); clear hown5 hgrow5 hat5))
      have hS5 : St w2 f L mb w5 K4 c4 (f.length - 1 + 1) := ⟨HS4.out.bel.trans (HSv.out.below (B := w2.heap.size) HS4.out.bel.size (fun j e => by have := HLow.out j e; omega)), HS4.out.map.save HSv.out (fun e => by have := HLow.out mb e; omega), HS4.out.cnt, HS4.out.good⟩
      have HS5 := hid hS5
      have HX5 := hid (HX4.out.save HSv.out (fun e => by have := HLow.out _ e; omega))
      have hz5 := HSv.out.size
      clear hS5
      go_roundw
      case rel => exact ⟨k + 1, K4, c4, by omega, by go_num, HO5.out, HS5.out, HX5.out, by omega⟩
      case measure => simp [intOf]; omega
    · have hk' : k = L.length := by omega
      subst hk'
      obtain ⟨a9, c9, e9, hB9, hR9, hL9, hF9⟩ := HO.out.form
      have HB9 := hid hB9
      have HR9 := hid hR9
      have HL9 := hid hL9
      have HF9 := hid hF9
      rw [vTo_len] at e9
      injection e9 with e9 _ e10
      subst e9 e10
      clear hB9 hR9 hL9 hF9
      go_wp2_with fail
      go_ret
      rw [HV.out]
      refine ⟨_, ⟨vc, ?_⟩, HB9.out, HR9.out, fun b e => ?_, HF9.out, HB2.out.trans (HSt.out.bel.mono hz2)⟩
      · show Ending.returned (Value.slice va L.length vc) = _
        rw [HVL.out]
      · have := HL9.out b e
        exact ⟨by omega, this.2⟩
end Go.Proofs.YthjnlcjjhklfpaaDoor
namespace Go.Proofs.YthjnlcjjhklfpaaDoor
open Go.RowKit
set_option linter.unusedVariables false
set_option linter.unusedSimpArgs false
theorem ofT_flat {a : Option Addr} {j : Nat} {P : Nat → Prop} (h : OfT a j) (hp : ∀ b, a = some ⟨b, 0, none⟩ → P b) (ha : ∀ q, a = some q → q = ⟨q.block, 0, none⟩) : P j := by
  obtain ⟨q, rfl, rfl⟩ := h
  exact hp _ (by rw [← ha q rfl])
def lenN (E : List Evt) (i : Nat) : Nat := (evAt E i).2.length
theorem kAt_sum (E : List Evt) (k0 : Nat) : ∀ k, kAt k0 (lenN E) k = k0 + k + sumN E k
  | 0 => rfl
  | k + 1 => by
    show kAt k0 (lenN E) k + 1 + lenN E k = k0 + (k + 1) + (sumN E k + (evAt E k).2.length)
    rw [kAt_sum E k0 k]
    unfold lenN
    omega
/-- A row of events as toEventS makes it, to be written to. -/
theorem EvRow.mk' {w : World} {b : Nat} {E : List Evt} {A : Nat → Nat} {z : Nat → Value} (h : EvRow w b E A z E.length) : EvMk w b E.length (fun i => some ⟨A i, 0, none⟩) (lenN E) (lenN E) := by
  refine ⟨⟨_, h.row, fun i hi => ?_⟩, fun i hi => Or.inr ⟨A i, _, rfl, h.names i hi⟩, fun i hi q e => ?_, fun i j hi hj hne q r e1 e2 => ?_⟩
  · unfold rowE
    rw [if_pos (by omega), if_neg (by omega), show (i * 2 + 1) / 2 = i by omega]
    rfl
  · injection e with e
    subst e
    have := h.above i hi
    show A i ≠ b
    omega
  · injection e1 with e1
    injection e2 with e2
    subst e1 e2
    show A i ≠ A j
    rcases Nat.lt_or_gt_of_ne hne with hl | hl
    · have := h.rising i j hl hj; omega
    · have := h.rising j i hl hi; omega
set_option maxRecDepth 20000 in
set_option maxHeartbeats 8000000 in
theorem walkVerdicts (a : Option Addr) (cap : Nat) (f : List Nd) (a2 : Option Addr) (cap2 : Nat) (L : List Evt) (w : World) (hI : InN w a cap f) (hJ : InEs w a2 L) (hkw : Kw w) (hg : 0 < w.heap.size) :
    Calls Tryd.prog 13 #[.slice a f.length cap, .slice a2 L.length cap2] w fun e w' => e = .returned (.bool true) ∧ Below w.heap.size w w' := by
  have HI := hid hI
  have HJ := hid hJ
  have HK := hid hkw
  have hvl0 := vdB_len f L
  have hvl : (vdB f L).length ≤ 1048576 := by omega
  clear hI hJ hkw hvl0
  go_enter Tryd.func13, Tryd.ntmps13
  go_wp2_with fail
  refine (szNodeS_le f a cap (fun i hi => (HI.out.ok i hi).nm) HI.out.len _ HI.out.arg).mono ?_
  rintro e w1 ⟨r, rfl, hr1, hr, hb1⟩
  have HB1 := hid hb1
  have hz1 := hb1.size
  by_cases hr0 : r < 0
  · clear hb1 hr
    go_wp2_with fail
    go_ret
    exact ⟨rfl, HB1.out⟩
  obtain ⟨hl, _⟩ := hr (by omega)
  clear hb1 hr
  go_wp2_with fail
  refine (szEventS_any L a2 cap2 HJ.out.ok HJ.out.len r (by omega) hr1 _ (HJ.out.arg.below HB1.out (Nat.le_refl _))).mono ?_
  rintro e w2 ⟨s, rfl, q1, q2, hs, hb2⟩
  have HB2 := hid (HB1.out.trans (hb2.mono hz1))
  have hz2 := hb2.size
  by_cases hs0 : s < 0
  · clear hb2 hs
    go_wp2_with fail
    go_ret
    exact ⟨rfl, HB2.out⟩
  obtain ⟨hl2, hl3, hsum⟩ := hs (by omega)
  have HL3 := hid hl3
  have hkA := kAt_sum L (1 + f.length * 6) L.length
  have hkB : kAt (1 + f.length * 6) (lenN L) L.length ≤ 1000000000 := by rw [hkA]; omega
  have HKB := hid hkB
  clear hb2 hs hl3 hkA hkB hsum
  go_wp2_with fail
  refine (toNodeS_any f a cap hl _ (HI.out.arg.below HB2.out (Nat.le_refl _))).mono ?_
  rintro e w3 ⟨b3, rfl, hb3, hn3, hf3, hbl3⟩
  have HB3 := hid (HB2.out.trans (hbl3.mono (by omega)))
  have hz3 := hbl3.size
  have HN3 := hid hn3
  clear hn3 hf3 hbl3
  go_wp2_with fail
  refine (toEventS_any L a2 cap2 hl2 HL3.out _ (HJ.out.arg.below HB3.out (Nat.le_refl _))).mono ?_
  rintro e w4 ⟨b4, A4, z4, rfl, hb4, hR4, hbl4⟩
  have HB4 := hid (HB3.out.trans (hbl4.mono (by omega)))
  have hz4 := hbl4.size
  have HM4 := hid (MeanIn.mk (HN3.out.below hbl4 HN3.out.1) hR4.at HI.out.ok HJ.out.ok hl hl2 : MeanIn w4 f L b3 b4)
  clear hR4 hbl4
  go_wp2_with fail
  refine (specVerdicts_any f L b3 b4 f.length L.length _ HM4.out).mono ?_
  rintro e w5 ⟨a0, c0, rfl, hS5, hA0, hbl5⟩
  have HB5 := hid (HB4.out.trans (hbl5.mono (by omega)))
  have hz5 := hbl5.size
  have HS5 := hid hS5
  have HA0 := hid hA0
  clear hbl5 hS5 hA0
  go_wp2_with fail
  refine (toNodeS_row f a cap hl _ (HI.out.arg.below HB5.out (Nat.le_refl _))).mono ?_
  rintro e w6 ⟨b6, rfl, hb6, hn6, ⟨z6, hr6⟩, hf6, hbl6⟩
  have HB6 := hid (HB5.out.trans (hbl6.mono (by omega)))
  have hz6 := hbl6.size
  have HN6 := hid hn6
  have HR6 := hid hr6
  have hl6 := hr6.lt
  have HS6 := hid (HS5.out.below hbl6)
  clear hn6 hf6 hbl6 hr6
  go_wp2_with fail
  refine (toEventS_any L a2 cap2 hl2 HL3.out _ (HJ.out.arg.below HB6.out (Nat.le_refl _))).mono ?_
  rintro e w7 ⟨b7, A7, z7, rfl, hb7, hR7, hbl7⟩
  have HB7 := hid (HB6.out.trans (hbl7.mono (by omega)))
  have hz7 := hbl7.size
  have HM7 := hid (MeanIn.mk (HN6.out.below hbl7 HN6.out.1) hR7.at HI.out.ok HJ.out.ok hl hl2 : MeanIn w7 f L b6 b7)
  have HR7 := hid (HR6.out.of_block (hbl7.block b6 HR6.out.lt))
  have HE7 := hid hR7
  have hl7 := hR7.row.lt
  have HS7 := hid (HS6.out.below hbl7)
  clear hR7 hbl7
  go_wp2_with fail
  refine (implVerdicts_any f L b6 b7 f.length L.length _ HM7.out (HK.out.below HB7.out hg) (by omega)).mono ?_
  rintro e w8 ⟨ag, cg, rfl, hG, hGr, hGb, hGq, hbl8⟩
  have HB8 := hid (HB7.out.trans (hbl8.mono (by omega)))
  have hz8 := hbl8.size
  have HM8 := hid (HM7.out.below hbl8)
  have HR8 := hid (HR7.out.of_block (hbl8.block b6 HR7.out.lt))
  have HE8 := hid (HE7.out.below hbl8)
  have HS8 := hid (HS7.out.below hbl8)
  have HG8 := hid hG
  have HGr8 := hid hGr
  have HGb := hid hGb
  have HGq := hid hGq
  clear hbl8 hG hGr hGb hGq
  go_wp2_with fail
  refine (eqBoolS_any (vdB f L) _ rfl ag a0 cg c0 hvl _ HG8.out HS8.out).mono ?_
  rintro e w9 ⟨rfl, hbl9⟩
  have HB9 := hid (HB8.out.trans (hbl9.mono (by omega)))
  have hz9 := hbl9.size
  have HM9 := hid (HM8.out.below hbl9)
  have HR9 := hid (HR8.out.of_block (hbl9.block b6 HR8.out.lt))
  have HE9 := hid (HE8.out.below hbl9)
  have HS9 := hid (HS8.out.below hbl9)
  have HG9 := hid (HG8.out.below hbl9)
  have HGr9 := hid (HGr8.out.below hbl9)
  clear hbl9
  go_wp2_with fail
  refine (toNodeS_any f a cap hl _ (HI.out.arg.below HB9.out (Nat.le_refl _))).mono ?_
  rintro e w10 ⟨b10, rfl, hb10, hn10, hf10, hbl10⟩
  have HB10 := hid (HB9.out.trans (hbl10.mono (by omega)))
  have hz10 := hbl10.size
  have HN10 := hid hn10
  have HM10 := hid (HM9.out.below hbl10)
  have HR10 := hid (HR9.out.of_block (hbl10.block b6 HR9.out.lt))
  have HE10 := hid (HE9.out.below hbl10)
  have HS10 := hid (HS9.out.below hbl10)
  have HG10 := hid (HG9.out.below hbl10)
  have HGr10 := hid (HGr9.out.below hbl10)
  clear hn10 hf10 hbl10
  go_wp2_with fail
  refine (eqNodeS_same f b6 b10 f.length f.length hl _ HM10.out.nodes HN10.out).mono ?_
  rintro e w11 ⟨rfl, hbl11⟩
  have HB11 := hid (HB10.out.trans (hbl11.mono (by omega)))
  have hz11 := hbl11.size
  have HM11 := hid (HM10.out.below hbl11)
  have HR11 := hid (HR10.out.of_block (hbl11.block b6 HR10.out.lt))
  have HE11 := hid (HE10.out.below hbl11)
  have HS11 := hid (HS10.out.below hbl11)
  have HG11 := hid (HG10.out.below hbl11)
  have HGr11 := hid (HGr10.out.below hbl11)
  clear hbl11
  go_wp2_with fail
  refine (toEventS_any L a2 cap2 hl2 HL3.out _ (HJ.out.arg.below HB11.out (Nat.le_refl _))).mono ?_
  rintro e w12 ⟨b12, A12, z12, rfl, hb12, hR12, hbl12⟩
  have HB12 := hid (HB11.out.trans (hbl12.mono (by omega)))
  have hz12 := hbl12.size
  have HQ12 := hid hR12.at.es
  have HM12 := hid (HM11.out.below hbl12)
  have HR12 := hid (HR11.out.of_block (hbl12.block b6 HR11.out.lt))
  have HE12 := hid (HE11.out.below hbl12)
  have HS12 := hid (HS11.out.below hbl12)
  have HG12 := hid (HG11.out.below hbl12)
  have HGr12 := hid (HGr11.out.below hbl12)
  clear hR12 hbl12
  go_wp2_with fail
  refine (eqEventS_any L _ rfl _ _ L.length L.length hl2 HL3.out _ HM12.out.evs.es HQ12.out).mono ?_
  rintro e w13 ⟨rfl, hbl13⟩
  have HB13 := hid (HB12.out.trans (hbl13.mono (by omega)))
  have hz13 := hbl13.size
  have HR13 := hid (HR12.out.of_block (hbl13.block b6 HR12.out.lt))
  have HE13 := hid (HE12.out.below hbl13)
  have HS13 := hid (HS12.out.below hbl13)
  have HG13 := hid (HG12.out.below hbl13)
  have HGr13 := hid (HGr12.out.below hbl13)
  clear hbl13 HM12 HM11 HM10 HM9 HM8 HM4
  have n06 : ∀ b, a0 = some ⟨b, 0, none⟩ → b < b6 := fun b e => by have := HA0.out b e; omega
  have ng7 : ∀ b, ag = some ⟨b, 0, none⟩ → b6 < b ∧ b7 < b ∧ w7.heap.size ≤ b := fun b e => by have := HGb.out b e; omega
  have N06 := hid n06
  have NG7 := hid ng7
  clear n06 ng7
  go_wp2_with fail
  refine (markNodeS_row f.length 1 b6 f.length _ hl (by omega) (by omega) _ HR13.out).mono ?_
  rintro e w14 ⟨rfl, _, hsv14⟩
  have HB14 := hid (HB13.out.trans (hsv14.below (B := w.heap.size) (by omega) (fun j hj => by omega)))
  have hz14 := hsv14.size
  have HE14 : Hid (EvRow w14 b7 L A7 z7 L.length) := ⟨HE13.out.row.of_block (hsv14.block b7 HE13.out.row.lt (by omega)), fun i hi => World.rowIs.of_block (HE13.out.names i hi) (hsv14.block _ (World.rowIs.lt (HE13.out.names i hi)) (by have := HE13.out.above i hi; omega)), HE13.out.above, HE13.out.rising⟩
  have HS14 := hid (HS13.out.save hsv14 (fun b e h => by have := N06.out b e; omega))
  have HG14 := hid (HG13.out.save hsv14 (fun b e h => by have := NG7.out b e; omega))
  have HGr14 := hid (HGr13.out.save hsv14 (fun b e h => by have := NG7.out b e; omega))
  clear hsv14
  go_wp2_with fail
  refine (markEventS_row L.length (1 + f.length * 6) b7 L.length _ (by push_cast; omega) _ _ _ hl2 (by omega) HKB.out _ HE14.out.mk').mono ?_
  rintro e w15 ⟨rfl, _, hsv15⟩
  have hge : ∀ j, EvMkS b7 L.length (fun i => some ⟨A7 i, 0, none⟩) j → b7 ≤ j ∧ j < w7.heap.size := by
    rintro j (rfl | ⟨i, hi, h⟩)
    · exact ⟨Nat.le_refl _, hl7⟩
    · have h1 := h.some
      have h2 := HE7.out.above i hi
      have h3 := World.rowIs.lt (HE7.out.names i hi)
      simp only at h1
      omega
  have HB15 := hid (HB14.out.trans (hsv15.below (B := w.heap.size) (by omega) (fun j hj => by have := hge j hj; omega)))
  have hz15 := hsv15.size
  have HS15 := hid (HS14.out.save hsv15 (fun b e h => by have := hge b h; have := N06.out b e; omega))
  have HG15 := hid (HG14.out.save hsv15 (fun b e h => by have := hge b h; have := NG7.out b e; omega))
  have HGr15 := hid (HGr14.out.save hsv15 (fun b e h => by have := hge b h; have := NG7.out b e; omega))
  clear hsv15 hge
  generalize hKK : kAt (1 + f.length * 6) (lenN L) L.length = KK at *
  clear hKK
  have hk0 : ¬ ((KK : Nat) : Int) < 0 := by omega
  go_wp2_with fail
  refine (eqBoolS_any (vdB f L) _ rfl ag a0 cg c0 hvl _ HG15.out HS15.out).mono ?_
  rintro e w16 ⟨rfl, hbl16⟩
  have HB16 := hid (HB15.out.trans (hbl16.mono (by omega)))
  have hz16 := hbl16.size
  have HS16 := hid (HS15.out.below hbl16)
  have HGr16 := hid (HGr15.out.below hbl16)
  clear hbl16
  go_wp2_with fail
  refine (markBoolS_any (vdB f L).length ag cg hvl _ HGr16.out).mono ?_
  rintro e w17 ⟨rfl, hm17, hsv17⟩
  have HM17 := hid hm17
  have HB17 := hid (HB16.out.trans (hsv17.below (B := w.heap.size) (by omega) (fun j hj => ofT_flat hj (P := fun j => w.heap.size ≤ j) (fun b e => by have := NG7.out b e; omega) HGq.out)))
  have hz17 := hsv17.size
  have HS17 := hid (HS16.out.save hsv17 (fun b e h => ofT_flat h (P := fun j => ¬ j = b) (fun b' e' => by have := NG7.out b' e'; have := N06.out b e; omega) HGq.out rfl))
  clear hm17 hsv17
  go_wp2_with fail
  refine (heldBoolS_any (vdB f L).length ag cg hvl _ HM17.out).mono ?_
  rintro e w18 ⟨rfl, hbl18⟩
  have HB18 := hid (HB17.out.trans (hbl18.mono (by omega)))
  have hz18 := hbl18.size
  have HS18 := hid (HS17.out.below hbl18)
  have HM18 := hid (HM17.out.below hbl18)
  clear hbl18
  have hq0 : ¬ ((1 + (vdB f L).length : Nat) : Int) < 0 := by omega
  go_wp2_with fail
  refine (toNodeS_any f a cap hl _ (HI.out.arg.below HB18.out (Nat.le_refl _))).mono ?_
  rintro e w19 ⟨b19, rfl, hb19, hn19, hf19, hbl19⟩
  have HB19 := hid (HB18.out.trans (hbl19.mono (by omega)))
  have hz19 := hbl19.size
  have HN19 := hid hn19
  have HS19 := hid (HS18.out.below hbl19)
  have HM19 := hid (HM18.out.below hbl19)
  clear hn19 hf19 hbl19
  go_wp2_with fail
  refine (toEventS_any L a2 cap2 hl2 HL3.out _ (HJ.out.arg.below HB19.out (Nat.le_refl _))).mono ?_
  rintro e w20 ⟨b20, A20, z20, rfl, hb20, hR20, hbl20⟩
  have HB20 := hid (HB19.out.trans (hbl20.mono (by omega)))
  have hz20 := hbl20.size
  have HMI := hid (MeanIn.mk (HN19.out.below hbl20 HN19.out.1) hR20.at HI.out.ok HJ.out.ok hl hl2 : MeanIn w20 f L b19 b20)
  have HS20 := hid (HS19.out.below hbl20)
  have HM20 := hid (HM19.out.below hbl20)
  clear hR20 hbl20
  go_wp2_with fail
  refine (implVerdicts_any f L b19 b20 f.length L.length _ HMI.out (HK.out.below HB20.out hg) (by omega)).mono ?_
  rintro e w21 ⟨ah, ch, rfl, hH, _, _, _, hbl21⟩
  have HB21 := hid (HB20.out.trans (hbl21.mono (by omega)))
  have hz21 := hbl21.size
  have HS21 := hid (HS20.out.below hbl21)
  have HM21 := hid (HM20.out.below hbl21)
  have HH21 := hid hH
  clear hbl21 hH
  go_wp2_with fail
  refine (eqBoolS_any (vdB f L) _ rfl ah a0 ch c0 hvl _ HH21.out HS21.out).mono ?_
  rintro e w22 ⟨rfl, hbl22⟩
  have HB22 := hid (HB21.out.trans (hbl22.mono (by omega)))
  have hz22 := hbl22.size
  have HM22 := hid (HM21.out.below hbl22)
  clear hbl22
  go_wp2_with fail
  refine (heldBoolS_any (vdB f L).length ag cg hvl _ HM22.out).mono ?_
  rintro e w23 ⟨rfl, hbl23⟩
  have HB23 := hid (HB22.out.trans (hbl23.mono (by omega)))
  clear hbl23
  go_wp2_with fail
  go_ret
  exact ⟨rfl, HB23.out⟩
end Go.Proofs.YthjnlcjjhklfpaaDoor
