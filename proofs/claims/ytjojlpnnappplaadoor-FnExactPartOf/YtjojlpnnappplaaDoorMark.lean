/-
  The laws' marks: markText, markNodeS, heldNodeS, by their contracts.
-/
import Derived.Test.YtjojlpnnappplaaDoorConv2
import Derived.Laws.IdiomStrings
namespace Go.Proofs.YtjojlpnnappplaaDoor
open Go.RowKit
set_option linter.unusedVariables false
set_option linter.unusedSimpArgs false
def mtL : Nat → Nat → List UInt8 → List UInt8
  | 0, _, o => o
  | n + 1, j, o => if j = 0 then o else mtL n (j / 10) (UInt8.ofNat (48 + j % 10) :: o)
theorem mtL_fuel : ∀ (n m j : Nat) (o : List UInt8), j ≤ n → j ≤ m → mtL n j o = mtL m j o := by
  intro n
  induction n with
  | zero =>
    intro m j o h1 _
    obtain rfl : j = 0 := by omega
    cases m with
    | zero => rfl
    | succ m => simp [mtL]
  | succ n ih =>
    intro m j o h1 h2
    cases m with
    | zero =>
      obtain rfl : j = 0 := by omega
      simp [mtL]
    | succ m =>
      unfold mtL
      split
      · rfl
      · exact ih m (j / 10) _ (by omega) (by omega)
theorem mtL_step (j : Nat) (o : List UInt8) (h : 0 < j) : mtL j j o = mtL (j / 10) (j / 10) (UInt8.ofNat (48 + j % 10) :: o) := by
  obtain ⟨n, rfl⟩ : ∃ n, j = n + 1 := ⟨j - 1, by omega⟩
  conv => lhs; unfold mtL
  rw [if_neg (by omega)]
  exact mtL_fuel _ _ _ _ (by omega) (Nat.le_refl _)
/-- The text of a mark. -/
def mtS (k : Nat) : ByteArray := ⟨((109 : UInt8) :: mtL k k []).toArray⟩
set_option maxRecDepth 20000 in
set_option maxHeartbeats 1000000 in
theorem markText_any (k : Nat) (hk : 0 < k) (hk2 : k ≤ 1000000000) (w : World) :
    Calls Tryd.prog 52 #[.int .i64 k] w fun e w' => e = .returned (.string (mtS k)) ∧ Below w.heap.size w w' := by
  go_enter Tryd.func52, Tryd.ntmps52
  go_wp2_with fail
  go_loopw [0, 3] (fun t s wr => ∃ (j : Nat) (o : List UInt8), t = .int .i64 j ∧ s = .string ⟨o.toArray⟩ ∧ j ≤ 1000000000 ∧ o.length + j ≤ 1000000000 + 20 ∧ mtL j j o = mtL k k [] ∧ Below w.heap.size w wr) (fun t _ _ => (intOf t).toNat)
  case atStart => exact ⟨k, [], rfl, rfl, hk2, by simp; omega, rfl, Below.refl _ _⟩
  case round =>
    obtain ⟨j, o, rfl, rfl, hj, ho, hm, hbel⟩ := hrel
    have HM := hid hm
    have HB := hid hbel
    have hsz := hbel.size
    clear hm hbel
    by_cases hj0 : 0 < j
    · have hcv := run_convert_bytes_back (P := Tryd.prog) (wr.alloc (.cells #[.int .u8 (48 + (j : Int) % 10)] 5)) 114 9 5 ⟨wr.heap.size, 0, none⟩ 1 [UInt8.ofNat (48 + j % 10)] (by kernel_rfl) (by kernel_rfl) (by kernel_rfl) (by
        intro i hi
        have hi0 : i = 0 := by simpa using hi
        subst hi0
        have hb : (UInt8.ofNat (48 + j % 10)).toNat = 48 + j % 10 := by
          rw [UInt8.toNat_ofNat']
          omega
        have hc0 : (wr.alloc (.cells #[.int .u8 (48 + (j : Int) % 10)] 5)).cell? ((⟨wr.heap.size, 0, none⟩ : Addr).add 0) = some (.int .u8 (48 + (j : Int) % 10)) := by
          exact cell_one _ _ _ 0 _ (by simp)
        rw [hc0]
        simp only [List.getElem_cons_zero, hb]
        push_cast
        rfl)
      simp only [List.length_cons, List.length_nil] at hcv
      go_wp2_with fail
      refine ⟨⟨j / 10, UInt8.ofNat (48 + j % 10) :: o, by simp, ?_, by omega, by simp; omega, by rw [← mtL_step j o hj0]; exact HM, HB.alloc hsz _⟩, by simp [intOf]; omega⟩
      simp only [Value.string.injEq]
      apply ByteArray.ext
      simp
    · obtain rfl : j = 0 := by omega
      go_wp2_with fail
      refine bodyPost_ret (v := .string (⟨#[109]⟩ ++ ⟨o.toArray⟩)) (by simp [results, Tryd.results52, go_sem]) rfl ⟨?_, HB⟩
      have HM' : o = mtL k k [] := HM
      simp only [Ending.returned.injEq, Value.string.injEq, mtS, ← HM']
      apply ByteArray.ext
      simp
theorem markText_int (v : Int) (k : Nat) (hv : v = k) (hk : 0 < k) (hk2 : k ≤ 1000000000) (w : World) :
    Calls Tryd.prog 52 #[.int .i64 v] w fun e w' => e = .returned (.string (mtS k)) ∧ Below w.heap.size w w' := by
  subst hv
  exact markText_any k hk hk2 w
/-- The node of the marks from k on, and a row of such. -/
def mkNd (k : Nat) : Nd := ⟨k, (k + 1 : Nat), (k + 2 : Nat), (k + 3 : Nat), (k + 4 : Nat), mtS (k + 5)⟩
def markN (k n : Nat) : List Nd := (List.range n).map fun i => mkNd (k + i * 6)
theorem markN_len (k n : Nat) : (markN k n).length = n := by simp [markN]
theorem markN_at (k n i : Nat) (h : i < n) : ndAt (markN k n) i = mkNd (k + i * 6) := by simp [ndAt, markN, h]
set_option maxRecDepth 20000 in
set_option maxHeartbeats 1000000 in
theorem toNodeS_row (f : List Nd) (a : Option Addr) (cap : Nat) (hl : f.length ≤ 1048576) (w : World) (hA : ArgN w a f) :
    Calls Tryd.prog 14 #[.slice a f.length cap] w fun e w' => ∃ b, e = .returned (.slice (some ⟨b, 0, none⟩) f.length f.length) ∧ w.heap.size ≤ b ∧ NodesAt w' b f ∧ (∃ z, w'.rowIs b 45 (f.length * 6) z) ∧ (∀ j, w'.frozen? ⟨b, j, none⟩ = false) ∧ Below w.heap.size w w' := by
  obtain ⟨zc, hmk⟩ := run_makeN f.length hl
  have HA := hid hA
  clear hA
  have hr0 : Hid (∃ z, (w.alloc (.cells (madeCells zc (f.length * 6)) 45)).rowIs w.heap.size 45 (f.length * 6) (rowF f z 0)) := by
    refine ⟨fun j => (madeCells zc (f.length * 6)).getD j undef, ?_⟩
    have := World.rowIs_alloc w (madeCells zc (f.length * 6)) 45 (rowF f (fun j => (madeCells zc (f.length * 6)).getD j undef) 0) (fun i hi => by simp [rowF, hi])
    rwa [size_madeCells] at this
  obtain ⟨z, hr0⟩ := hr0.out
  have HR0 := hid hr0
  clear hr0
  go_enter Tryd.func14, Tryd.ntmps14
  go_wp2_with fail
  go_loopw [4] (fun t wr => ∃ k : Nat, k ≤ f.length ∧ t = .int .i64 k ∧ wr.rowIs w.heap.size 45 (f.length * 6) (rowF f z k) ∧ Below w.heap.size w wr) (fun t _ => f.length - (intOf t).toNat)
  case atStart => exact ⟨0, Nat.zero_le _, rfl, HR0.out, (Below.refl _ _).alloc (Nat.le_refl _) _⟩
  case round =>
    clear HR0 hmk
    obtain ⟨k, hk, rfl, hrow, hbel⟩ := hrel
    have HB := hid hbel
    have HRow := hid hrow
    have hsz := hrow.lt
    clear hrow hbel
    by_cases hlt : k < f.length
    · rcases HA.out with h0 | ⟨b, off, rfl, hb, hc⟩
      · omega
      · obtain ⟨c0, c1, c2, c3, c4, c5⟩ := (hc k hlt).below HB.out hb
        clear hc
        go_wp2_with (go_at_call 38; refine (toNode_any (ndAt f k) _).mono ?_; rintro e w1 ⟨rfl, hb1⟩; have HB1 := hid hb1; have HR1 := hid (HRow.out.of_block (hb1.block _ hsz)); have d0 := HR1.out.cell (i := k * 6) (by omega); have d1 := HR1.out.cell (i := k * 6 + 1) (by omega); have d2 := HR1.out.cell (i := k * 6 + 2) (by omega); have d3 := HR1.out.cell (i := k * 6 + 3) (by omega); have d4 := HR1.out.cell (i := k * 6 + 4) (by omega); have d5 := HR1.out.cell (i := k * 6 + 5) (by omega); have f0 := HR1.out.frozen (k * 6); have f1 := HR1.out.frozen (k * 6 + 1); have f2 := HR1.out.frozen (k * 6 + 2); have f3 := HR1.out.frozen (k * 6 + 3); have f4 := HR1.out.frozen (k * 6 + 4); have f5 := HR1.out.frozen (k * 6 + 5); unfold ndV; clear hb1)
        go_roundw
        case rel => exact ⟨k + 1, by omega, by go_num, store_six HR1.out, ((((((HB.out.trans (HB1.out.mono HB.out.size)).setCell (Nat.le_refl _) _).setCell (Nat.le_refl _) _).setCell (Nat.le_refl _) _).setCell (Nat.le_refl _) _).setCell (Nat.le_refl _) _).setCell (Nat.le_refl _) _⟩
        case measure => simp [intOf]; omega
    · have hk' : k = f.length := by omega
      subst hk'
      go_wp2_with fail
      go_ret
      exact ⟨w.heap.size, rfl, Nat.le_refl _, row_nodes HRow.out, ⟨_, HRow.out⟩, fun j => HRow.out.frozen j, HB.out⟩
set_option maxRecDepth 20000 in
set_option maxHeartbeats 2000000 in
theorem markNodeS_row (n k0 b c : Nat) (z : Nat → Value) (hn : n ≤ 1048576) (hk0 : 0 < k0) (hk1 : k0 ≤ 1000) (w : World) (h : w.rowIs b 45 (n * 6) z) :
    Calls Tryd.prog 24 #[.slice (some ⟨b, 0, none⟩) n c, .int .i64 k0] w fun e w' => e = .returned (.int .i64 (k0 + n * 6 : Nat)) ∧ w'.rowIs b 45 (n * 6) (rowF (markN k0 n) z n) ∧ Save w w' (fun j => j = b) := by
  have HR0 := hid (h.congr (fun j hj => (show z j = rowF (markN k0 n) z 0 j by simp [rowF])))
  have hbl := h.lt
  clear h
  go_enter Tryd.func24, Tryd.ntmps24
  go_wp2_with fail
  go_loopw [1, 5] (fun t s wr => ∃ k : Nat, k ≤ n ∧ t = .int .i64 (k0 + k * 6 : Nat) ∧ s = .int .i64 k ∧ wr.rowIs b 45 (n * 6) (rowF (markN k0 n) z k) ∧ Save w wr (fun j => j = b)) (fun _ s _ => n - (intOf s).toNat)
  case atStart => exact ⟨0, Nat.zero_le _, rfl, rfl, HR0.out, Save.refl _ _⟩
  case round =>
    clear HR0
    obtain ⟨k, hk, rfl, rfl, hrow, hsv⟩ := hrel
    have HS := hid hsv
    have HRow := hid hrow
    have hsz := hrow.lt
    clear hrow hsv
    by_cases hlt : k < n
    · have d0 := HRow.out.cell (i := k * 6) (by omega)
      have d1 := HRow.out.cell (i := k * 6 + 1) (by omega)
      have d2 := HRow.out.cell (i := k * 6 + 2) (by omega)
      have d3 := HRow.out.cell (i := k * 6 + 3) (by omega)
      have d4 := HRow.out.cell (i := k * 6 + 4) (by omega)
      have f0 := HRow.out.frozen
      go_wp2_with fail
      refine (markText_int _ (k0 + k * 6 + 5) (by push_cast; omega) (by omega) (by omega) _).mono ?_
      rintro e w1 ⟨rfl, hb1⟩
      have HR1 := hid ((((((HRow.out.set (k * 6) _).set (k * 6 + 1) _).set (k * 6 + 2) _).set (k * 6 + 3) _).set (k * 6 + 4) _).of_block (hb1.block b (by simpa using hsz)))
      have HS1 := hid ((((((HS.out.setCell (p := ⟨b, k * 6, none⟩) (fun _ => rfl) _).setCell (p := ⟨b, k * 6 + 1, none⟩) (fun _ => rfl) _).setCell (p := ⟨b, k * 6 + 2, none⟩) (fun _ => rfl) _).setCell (p := ⟨b, k * 6 + 3, none⟩) (fun _ => rfl) _).setCell (p := ⟨b, k * 6 + 4, none⟩) (fun _ => rfl) _).trans (Save.of_below hb1 _ (fun j h1 h2 => absurd h1 (by omega))))
      have d5 := HR1.out.cell (i := k * 6 + 5) (by omega)
      have f5 := HR1.out.frozen (k * 6 + 5)
      clear hb1 d0 d1 d2 d3 d4 f0
      go_wp2_with fail
      go_roundw
      case rel =>
        refine ⟨k + 1, by omega, by simp; omega, by go_num, (HR1.out.set (k * 6 + 5) _).congr (fun j hj => ?_), HS1.out.setCell (p := ⟨b, k * 6 + 5, none⟩) (fun _ => rfl) _⟩
        rw [rowF_step, markN_at _ _ _ hlt]
        simp [mkNd, Int.add_assoc, Nd.k, Nd.a, Nd.b, Nd.lo, Nd.hi, Nd.nm]
      case measure => simp [intOf]; omega
    · have hk' : k = n := by omega
      subst hk'
      go_wp2_with fail
      go_ret
      exact ⟨rfl, HRow.out, HS.out⟩
theorem markNodeS_nil (a : Option Addr) (k0 c : Nat) (w : World) :
    Calls Tryd.prog 24 #[.slice a 0 c, .int .i64 k0] w fun e w' => e = .returned (.int .i64 k0) ∧ w = w' := by
  go_enter Tryd.func24, Tryd.ntmps24
  go_wp2_with fail
  go_loopw [1, 5] (fun t s wr => t = .int .i64 k0 ∧ s = .int .i64 0 ∧ w = wr) (fun _ _ _ => 0)
  case atStart => exact ⟨rfl, rfl, rfl⟩
  case round =>
    obtain ⟨rfl, rfl, rfl⟩ := hrel
    go_wp2_with fail
    go_ret
    exact ⟨rfl, rfl⟩
theorem heldNodeS_nil (a : Option Addr) (k0 c : Nat) (w : World) :
    Calls Tryd.prog 31 #[.slice a 0 c, .int .i64 k0] w fun e w' => e = .returned (.int .i64 k0) ∧ w = w' := by
  go_enter Tryd.func31, Tryd.ntmps31
  go_wp2_with fail
  go_loopw [1, 5] (fun t s wr => t = .int .i64 k0 ∧ s = .int .i64 0 ∧ w = wr) (fun _ _ _ => 0)
  case atStart => exact ⟨rfl, rfl, rfl⟩
  case round =>
    obtain ⟨rfl, rfl, rfl⟩ := hrel
    go_wp2_with fail
    go_ret
    exact ⟨rfl, rfl⟩
set_option maxRecDepth 20000 in
set_option maxHeartbeats 2000000 in
theorem heldNodeS_row (n k0 b c : Nat) (hn : n ≤ 1048576) (hk0 : 0 < k0) (hk1 : k0 ≤ 1000) (w : World) (h : NodesAt w b (markN k0 n)) :
    Calls Tryd.prog 31 #[.slice (some ⟨b, 0, none⟩) n c, .int .i64 k0] w fun e w' => e = .returned (.int .i64 (k0 + n * 6 : Nat)) ∧ Below w.heap.size w w' := by
  have H := hid h
  clear h
  go_enter Tryd.func31, Tryd.ntmps31
  go_wp2_with fail
  go_loopw [1, 5] (fun t s wr => ∃ k : Nat, k ≤ n ∧ t = .int .i64 (k0 + k * 6 : Nat) ∧ s = .int .i64 k ∧ Below w.heap.size w wr) (fun _ s _ => n - (intOf s).toNat)
  case atStart => exact ⟨0, Nat.zero_le _, rfl, rfl, Below.refl _ _⟩
  case round =>
    obtain ⟨k, hk, rfl, rfl, hbel⟩ := hrel
    have HB := hid hbel
    have hsz := hbel.size
    clear hbel
    by_cases hlt : k < n
    · have hnd := H.out.2 k (by rw [markN_len]; exact hlt)
      rw [markN_at _ _ _ hlt] at hnd
      obtain ⟨d0, d1, d2, d3, d4, d5⟩ := hnd.below HB.out H.out.1
      clear hnd
      simp only [mkNd, Nd.k, Nd.a, Nd.b, Nd.lo, Nd.hi, Nd.nm] at d0 d1 d2 d3 d4 d5
      have hbl : b < wr.heap.size := Nat.lt_of_lt_of_le H.out.1 hsz
      go_wp2_with fail
      go_region_with (go_at_call 52; refine (markText_int _ (k0 + k * 6 + 5) (by push_cast; omega) (by omega) (by omega) _).mono ?_; rintro e w1 ⟨rfl, hb1⟩; have HB1 : Hid (Below w.heap.size w w1) := HB.out.trans (Below.mono ⟨hb1.os, hb1.tape, hb1.output, hb1.size, hb1.block⟩ hsz); have d6 := (hb1.cell (p := ⟨b, k * 6 + 5, none⟩) hbl).trans d5; clear hb1)
      all_goals
        go_wp2_with fail
        go_roundw
        case rel => exact ⟨k + 1, by omega, by simp; omega, by go_num, HB1.out⟩
        case measure => simp [intOf]; omega
    · have hk' : k = n := by omega
      subst hk'
      go_wp2_with fail
      go_ret
      exact ⟨rfl, HB.out⟩
end Go.Proofs.YtjojlpnnappplaaDoor
