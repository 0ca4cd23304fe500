/-
  The laws' marks over rows of texts: eqStringS, markStringS, heldStringS, by their contracts.
-/
import Derived.Test.YthjnlcjjhklfpaaDoorMkT
namespace Go.Proofs.YthjnlcjjhklfpaaDoor
open Go.RowKit
set_option linter.unusedVariables false
set_option linter.unusedSimpArgs false
def txAt (S : List ByteArray) (i : Nat) : ByteArray := S.getD i ByteArray.empty
/-- A row of texts lies in a block. -/
def StrsAt (w : World) (b : Nat) (S : List ByteArray) : Prop := b < w.heap.size ∧ ∀ i, i < S.length → w.cell? ⟨b, i, none⟩ = some (.string (txAt S i))
/-- A slice of texts, of which nothing is asked where it is empty. -/
def TsAt (w : World) (a : Option Addr) (S : List ByteArray) : Prop := S.length = 0 ∨ ∃ b, a = some ⟨b, 0, none⟩ ∧ StrsAt w b S
def RowT (w : World) (a : Option Addr) (n : Nat) : Prop := n = 0 ∨ ∃ b z, a = some ⟨b, 0, none⟩ ∧ w.rowIs b 9 n z
theorem TsAt.save {w w' : World} {a : Option Addr} {S : List ByteArray} {T : Nat → Prop} (h : TsAt w a S) (hs : Save w w' T) (hT : ∀ b, a = some ⟨b, 0, none⟩ → ¬ T b) : TsAt w' a S :=
  h.imp id (fun ⟨b, e, h1, h2⟩ => ⟨b, e, Nat.lt_of_lt_of_le h1 hs.size, fun i hi => (hs.cell (p := ⟨b, i, none⟩) h1 (hT b e)).trans (h2 i hi)⟩)
theorem TsAt.below {w w' : World} {a : Option Addr} {S : List ByteArray} (h : TsAt w a S) (hb : Below w.heap.size w w') : TsAt w' a S :=
  h.imp id (fun ⟨b, e, h1, h2⟩ => ⟨b, e, Nat.lt_of_lt_of_le h1 hb.size, fun i hi => (hb.cell (p := ⟨b, i, none⟩) h1).trans (h2 i hi)⟩)
theorem RowT.below {w w' : World} {a : Option Addr} {n : Nat} (h : RowT w a n) (hb : Below w.heap.size w w') : RowT w' a n :=
  h.imp id (fun ⟨b, z, e, hr⟩ => ⟨b, z, e, hr.of_block (hb.block b hr.lt)⟩)
theorem RowT.save {w w' : World} {a : Option Addr} {n : Nat} {T : Nat → Prop} (h : RowT w a n) (hs : Save w w' T) (hT : ∀ b, a = some ⟨b, 0, none⟩ → ¬ T b) : RowT w' a n :=
  h.imp id (fun ⟨b, z, e, hr⟩ => ⟨b, z, e, hr.of_block (hs.block b hr.lt (hT b e))⟩)
set_option maxRecDepth 20000 in
set_option maxHeartbeats 1000000 in
theorem eqStringS_any (S : List ByteArray) (n : Nat) (hn : S.length = n) (a1 a2 : Option Addr) (c1 c2 : Nat) (hl : n ≤ 1048576) (w : World) (h1 : TsAt w a1 S) (h2 : TsAt w a2 S) :
    Calls Tryd.prog 21 #[.slice a1 n c1, .slice a2 n c2] w fun e w' => e = .returned (.bool true) ∧ Below w.heap.size w w' := by
  subst hn
  have H1 := hid h1
  have H2 := hid h2
  clear h1 h2
  go_enter Tryd.func21, Tryd.ntmps21
  go_wp2_with fail
  go_loopw [5] (fun t wr => ∃ k : Nat, k ≤ S.length ∧ t = .int .i64 k ∧ Below w.heap.size w wr) (fun t _ => S.length - (intOf t).toNat)
  case atStart => exact ⟨0, Nat.zero_le _, rfl, Below.refl _ _⟩
  case round =>
    obtain ⟨k, hk, rfl, hbel⟩ := hrel
    have HB := hid hbel
    have hsz := hbel.size
    clear hbel
    by_cases hlt : k < S.length
    · rcases H1.out with h0 | ⟨b1, rfl, hb1, hc1⟩
      · omega
      rcases H2.out with h0 | ⟨b2, rfl, hb2, hc2⟩
      · omega
      have d1 := (HB.out.cell (p := ⟨b1, k, none⟩) hb1).trans (hc1 k hlt)
      have d2 := (HB.out.cell (p := ⟨b2, k, none⟩) hb2).trans (hc2 k hlt)
      clear hc1 hc2
      generalize txAt S k = t at *
      have ht : (t.toList == t.toList) = true := by simp
      go_wp2_with fail
      all_goals
        go_region
      all_goals
        go_wp2_with fail
        go_roundw
        case rel => exact ⟨k + 1, by omega, by go_num, below_drewN HB.out _⟩
        case measure => simp [intOf]; omega
    · go_wp2_with fail
      go_ret
      exact ⟨rfl, HB.out⟩
def markT (k n : Nat) : List ByteArray := (List.range n).map fun i => mtS (k + i)
theorem markT_len (k n : Nat) : (markT k n).length = n := by simp [markT]
theorem markT_at (k n i : Nat) (h : i < n) : txAt (markT k n) i = mtS (k + i) := by simp [txAt, markT, h]
def rowT (S : List ByteArray) (z : Nat → Value) (k j : Nat) : Value := if j < k then .string (txAt S j) else z j
theorem rowT_step (S : List ByteArray) (z : Nat → Value) (k j : Nat) : rowT S z (k + 1) j = if j = k then .string (txAt S k) else rowT S z k j := by
  unfold rowT
  by_cases e : j = k
  · subst e; simp
  · by_cases h : j < k
    · rw [if_pos (by omega), if_neg e, if_pos h]
    · rw [if_neg (by omega), if_neg e, if_neg h]
theorem rowT_strs {w : World} {b : Nat} {S : List ByteArray} {z : Nat → Value} (h : w.rowIs b 9 S.length (rowT S z S.length)) : StrsAt w b S :=
  ⟨h.lt, fun i hi => by rw [h.cell hi]; unfold rowT; rw [if_pos hi]⟩
def OfT (a : Option Addr) (j : Nat) : Prop := ∃ q, a = some q ∧ q.block = j
set_option maxRecDepth 20000 in
set_option maxHeartbeats 1000000 in
theorem markStringS_any (n : Nat) (a : Option Addr) (c : Nat) (hn : n ≤ 1048576) (w : World) (h : RowT w a n) :
    Calls Tryd.prog 23 #[.slice a n c, .int .i64 1] w fun e w' => e = .returned (.int .i64 (1 + n : Nat)) ∧ TsAt w' a (markT 1 n) ∧ Save w w' (OfT a) := by
  rcases h with rfl | ⟨b, z, rfl, h⟩
  · go_enter Tryd.func23, Tryd.ntmps23
    go_wp2_with fail
    go_loopw [1, 5] (fun t s wr => t = .int .i64 1 ∧ s = .int .i64 0 ∧ w = wr) (fun _ _ _ => 0)
    case atStart => exact ⟨rfl, rfl, rfl⟩
    case round =>
      obtain ⟨rfl, rfl, rfl⟩ := hrel
      go_wp2_with fail
      go_ret
      exact ⟨rfl, Or.inl rfl, Save.refl _ _⟩
  · have HR0 := hid (h.congr (fun j hj => (show z j = rowT (markT 1 n) z 0 j by simp [rowT])))
    have hbl := h.lt
    clear h
    go_enter Tryd.func23, Tryd.ntmps23
    go_wp2_with fail
    go_loopw [1, 5] (fun t s wr => ∃ k : Nat, k ≤ n ∧ t = .int .i64 (1 + k : Nat) ∧ s = .int .i64 k ∧ wr.rowIs b 9 n (rowT (markT 1 n) z k) ∧ Save w wr (OfT (some ⟨b, 0, none⟩))) (fun _ s _ => n - (intOf s).toNat)
    case atStart => exact ⟨0, Nat.zero_le _, rfl, rfl, HR0.out, Save.refl _ _⟩
    case round =>
      clear HR0
      obtain ⟨k, hk, rfl, rfl, hrow, hsv⟩ := hrel
      have HS := hid hsv
      have HRow := hid hrow
      have hsz := hrow.lt
      clear hrow hsv
      by_cases hlt : k < n
      · go_wp2_with fail
        refine (markText_int _ (1 + k) (by push_cast; omega) (by omega) (by omega) _).mono ?_
        rintro e w1 ⟨rfl, hb1⟩
        have HR1 := hid (HRow.out.of_block (hb1.block b hsz))
        have HS1 := hid (HS.out.trans (Save.of_below hb1 _ (fun j h1 h2 => absurd h1 (by omega))))
        have d5 := HR1.out.cell (i := k) hlt
        have f5 := HR1.out.frozen k
        clear hb1
        go_wp2_with fail
        go_roundw
        case rel =>
          refine ⟨k + 1, by omega, by simp; omega, by go_num, (HR1.out.set k _).congr (fun j hj => ?_), HS1.out.setCell (p := ⟨b, k, none⟩) (fun _ => ⟨_, rfl, rfl⟩) _⟩
          rw [rowT_step, markT_at _ _ _ hlt]
        case measure => simp [intOf]; omega
      · have hk' : k = n := by omega
        subst hk'
        go_wp2_with fail
        go_ret
        exact ⟨rfl, Or.inr ⟨b, rfl, @rowT_strs _ b (markT 1 k) z (by rw [markT_len]; exact HRow.out)⟩, HS.out⟩
set_option maxRecDepth 20000 in
set_option maxHeartbeats 1000000 in
theorem heldStringS_any (n : Nat) (a : Option Addr) (c : Nat) (hn : n ≤ 1048576) (w : World) (h : TsAt w a (markT 1 n)) :
    Calls Tryd.prog 24 #[.slice a n c, .int .i64 1] w fun e w' => e = .returned (.int .i64 (1 + n : Nat)) ∧ Below w.heap.size w w' := by
  have H := hid h
  clear h
  go_enter Tryd.func24, Tryd.ntmps24
  go_wp2_with fail
  go_loopw [1, 5] (fun t s wr => ∃ k : Nat, k ≤ n ∧ t = .int .i64 (1 + k : Nat) ∧ s = .int .i64 k ∧ Below w.heap.size w wr) (fun _ s _ => n - (intOf s).toNat)
  case atStart => exact ⟨0, Nat.zero_le _, rfl, rfl, Below.refl _ _⟩
  case round =>
    obtain ⟨k, hk, rfl, rfl, hbel⟩ := hrel
    have HB := hid hbel
    have hsz := hbel.size
    clear hbel
    by_cases hlt : k < n
    · rcases H.out with h0 | ⟨b, rfl, hb, hc⟩
      · rw [markT_len] at h0; omega
      have d5 := (HB.out.cell (p := ⟨b, k, none⟩) hb).trans (hc k (by rw [markT_len]; exact hlt))
      rw [markT_at _ _ _ hlt] at d5
      have hbl : b < wr.heap.size := Nat.lt_of_lt_of_le hb hsz
      clear hc
      go_wp2_with fail
      go_region_with (go_at_call 68; refine (markText_int _ (1 + k) (by push_cast; omega) (by omega) (by omega) _).mono ?_; rintro e w1 ⟨rfl, hb1⟩; have HB1 : Hid (Below w.heap.size w w1) := HB.out.trans (Below.mono ⟨hb1.os, hb1.tape, hb1.output, hb1.size, hb1.block⟩ hsz); have d6 := (hb1.cell (p := ⟨b, k, none⟩) hbl).trans d5; clear hb1)
      all_goals
        go_wp2_with fail
        go_roundw
        case rel => exact ⟨k + 1, by omega, by simp; omega, by go_num, HB1.out⟩
        case measure => simp [intOf]; omega
    · have hk' : k = n := by omega
      subst hk'
      go_wp2_with fail
      go_ret
      exact ⟨rfl, HB.out⟩
end Go.Proofs.YthjnlcjjhklfpaaDoor
