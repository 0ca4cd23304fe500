/-
  The program's readNum and GetNum at every argument, by their contracts.
-/
import Derived.Test.YtpdklkofflfjgaaDoorRead
import Derived.Test.YtpdklkofflfjgaaDoorAsk
namespace Go.Proofs.YtpdklkofflfjgaaDoor
open Go.RowKit

/-- What GetNum tells: a number, the place behind it, a code. -/
def getR (s : ByteArray) (a : Int) : Int × Int × Int :=
  if placeC s a = 0 then (if (rdN s a.toNat).2.2 = 0 then (unfoldN (rdN s a.toNat).1, ((rdN s a.toNat).2.1 : Nat), 0) else (0, 0, (rdN s a.toNat).2.2)) else (0, 0, placeC s a)
def tupV (r : Int × Int × Int) : Value := if r.2.2 = 0 then .tuple #[.int .i64 r.1, .int .i64 r.2.1, .nilIface] else wrongT r.2.2
def outN (n b c : Int) : Value := .agg #[.int .i64 n, .int .i64 b, .int .i64 c]

set_option maxHeartbeats 4000000 in
set_option maxRecDepth 100000 in
theorem readNum_out (s : ByteArray) (hs : s.size ≤ maxLen) (a : Int) (hc : placeC s a ≠ 0) (w : World) :
    Calls Tryd.prog 22 #[.string s, .int .i64 a] w fun e w' => e = .returned (wrongT (placeC s a)) ∧ w = w' := by
  have HP0 : Hid (∀ w1, Calls Tryd.prog 31 #[.string s, .int .i64 a] w1 fun e w' => e = .returned (.int .i64 (placeC s a)) ∧ w1 = w') := place_w s hs a
  generalize placeC s a = c at hc HP0
  have d0 : (c != 0) = true := by simpa using hc
  go_enter Tryd.func22, Tryd.ntmps22
  go_wp2
  refine scope_labels (fun l A W => W = w ∧ l = 0 ∧ ∃ (x1 x7 x8 x9 u11 u12 u13 u14 u15 u16 u17 u18 u19 u20 u21 u22 u23 u24 u25 u26 u27 u28 u29 u30 u31 u32 u33 u34 u35 u36 u37 u38 u39 u40 u41 u42 u43 u44 u45 u46 u47 u48 u49 u50 u51 u52 u53 u54 : Value), A = { tmps := #[.string s, x1, undef, undef, .int .i64 0, .int .i64 0, .nilIface, x7, x8, x9, .int .i64 c, u11, u12, u13, u14, u15, u16, u17, u18, u19, u20, u21, u22, u23, u24, u25, u26, u27, u28, u29, u30, u31, u32, u33, u34, u35, u36, u37, u38, u39, u40, u41, u42, u43, u44, u45, u46, u47, u48, u49, u50, u51, u52, u53, u54], defers := [] }) (fun _ _ _ => 0) ?_ ?_
  · intro l A W hJ
    obtain ⟨rfl, rfl, x1, x7, x8, x9, u11, u12, u13, u14, u15, u16, u17, u18, u19, u20, u21, u22, u23, u24, u25, u26, u27, u28, u29, u30, u31, u32, u33, u34, u35, u36, u37, u38, u39, u40, u41, u42, u43, u44, u45, u46, u47, u48, u49, u50, u51, u52, u53, u54, rfl⟩ := hJ
    refine ⟨_, rfl, ?_⟩
    go_wp2
    simp only [jumps]
    go_ret3
    exact ⟨rfl, rfl⟩
  · go_wp2_with (go_at_call 31; refine (HP0.out _).mono ?_; rintro e w' ⟨rfl, rfl⟩)
    go_step3
    exact ⟨rfl, rfl, _, _, _, _, _, _, _, _, _, _, _, _, _, _, _, _, _, _, _, _, _, _, _, _, _, _, _, _, _, _, _, _, _, _, _, _, _, _, _, _, _, _, _, _, _, _, _, _, rfl⟩

theorem placeC_zero {s : ByteArray} {a : Int} (h : placeC s a = 0) : s.size ≤ 8000 ∧ 0 ≤ a := by
  unfold placeC at h
  by_cases h1 : 8000 < s.size
  · simp [h1] at h
  · by_cases h2 : a < 0
    · simp [h1, h2] at h
    · omega
theorem readNum_any (s : ByteArray) (hs : s.size ≤ maxLen) (a : Int) (ha : a < 9223372036854775808) (w : World) :
    Calls Tryd.prog 22 #[.string s, .int .i64 a] w fun e w' => e = .returned (tupV (getR s a)) ∧ w = w' := by
  by_cases h : placeC s a = 0
  · obtain ⟨h1, h2⟩ := placeC_zero h
    obtain ⟨n, rfl⟩ := Int.eq_ofNat_of_zero_le h2
    refine (readNum_in s h1 n (by omega) w).mono fun e w' he => ⟨?_, he.2⟩
    rw [he.1]
    unfold getR tupV numT
    rw [if_pos h, Int.toNat_natCast]
    by_cases hz : (rdN s n).2.2 = 0 <;> simp [hz]
  · refine (readNum_out s hs a h w).mono fun e w' he => ⟨?_, he.2⟩
    rw [he.1]
    unfold getR tupV
    rw [if_neg h]
    simp [h]

theorem bcell {W w1 : World} (hb : Below W.heap.size W w1) : (∀ b o, b < W.heap.size → w1.cell? ⟨b, o, none⟩ = W.cell? ⟨b, o, none⟩) ∧ (∀ b o, b < W.heap.size → w1.frozen? ⟨b, o, none⟩ = W.frozen? ⟨b, o, none⟩) :=
  ⟨fun b o h => hb.cell (p := ⟨b, o, none⟩) h, fun b o h => hb.frozen (p := ⟨b, o, none⟩) h⟩
/-- What errors.As leaves: the target holds the code; nothing else that was there is turned. -/
theorem as_code (c : Int) (t : Nat) (old : Value) (w : World) (hg : w.cell? ⟨0, 0, none⟩ = some (.iface 77 (.agg #[.pointer (some ⟨1, 44, none⟩)]))) (ht0 : w.cell? ⟨t, 0, none⟩ = some old) (hf0 : w.frozen? ⟨t, 0, none⟩ = false) :
    Calls Tryd.prog 23 #[.iface 48 (.agg #[.int .i64 c]), .iface 50 (.pointer (some ⟨t, 0, none⟩))] w fun ev w' => ev = .returned (.bool true) ∧ w'.cell? ⟨t, 0, none⟩ = some (.int .i64 c) ∧ Below t w w' ∧ w.heap.size ≤ w'.heap.size := by
  have htl : t < w.heap.size := World.block_lt_of_cell? w ⟨t, 0, none⟩ ht0
  refine (as_hit c ⟨t, 0, none⟩ old w hg ht0 hf0).mono fun e w' he => ⟨he.1, ?_⟩
  rw [he.2]
  refine ⟨?_, ?_, by simp; omega⟩
  · refine World.cell?_setCell_same _ _ _ (u := old) ?_
    rw [World.cell?_alloc_lt _ _ ⟨t, 0, none⟩ (by simp; omega), World.cell?_alloc_lt _ _ ⟨t, 0, none⟩ (by simp; omega), World.cell?_alloc_lt _ _ ⟨t, 0, none⟩ (by simp; omega), World.cell?_alloc_lt _ _ ⟨t, 0, none⟩ htl]; exact ht0
  · refine Below.setCell (B := t) (p := ⟨t, 0, none⟩) ?_ (Nat.le_refl t) _
    refine Below.alloc ?_ (by simp; omega) _
    refine Below.alloc ?_ (by simp; omega) _
    refine Below.alloc ?_ (by simp; omega) _
    exact Below.alloc (Below.refl _ _) (by omega) _

set_option maxHeartbeats 2000000 in
set_option maxRecDepth 100000 in
theorem implGetNum_any (s : ByteArray) (hs : s.size ≤ maxLen) (a : Int) (ha : a < 9223372036854775808) (w : World) (hg : w.cell? ⟨0, 0, none⟩ = some (.iface 77 (.agg #[.pointer (some ⟨1, 44, none⟩)]))) :
    Calls Tryd.prog 9 #[.string s, .int .i64 a] w fun e w' => e = .returned (outN (getR s a).1 (getR s a).2.1 (getR s a).2.2) ∧ Below w.heap.size w w' := by
  have HX : Hid (∀ w1, Calls Tryd.prog 22 #[.string s, .int .i64 a] w1 fun e w' => e = .returned (tupV (getR s a)) ∧ w1 = w') := readNum_any s hs a ha
  have hlt : 0 < w.heap.size := World.block_lt_of_cell? w ⟨0, 0, none⟩ hg
  have h0 : (getR s a).2.2 ≠ 0 → (getR s a).1 = 0 ∧ (getR s a).2.1 = 0 := by
    unfold getR
    split
    · split <;> simp
    · simp
  generalize getR s a = r at HX h0
  obtain ⟨n, b, c⟩ := r
  simp only at h0 HX ⊢
  by_cases hc : c = 0
  · subst hc
    rw [show tupV (n, b, 0) = .tuple #[.int .i64 n, .int .i64 b, .nilIface] by simp [tupV]] at HX
    clear h0
    go_enter Tryd.func9, Tryd.ntmps9
    go_wp2_with (first | (go_at_call 22; refine (HX.out _).mono ?_; rintro e w' ⟨rfl, rfl⟩) | (go_at_call 23; refine (as_nil _ _).mono ?_; rintro e w' ⟨rfl, rfl⟩))
    exact bodyPost_ret (v := outN n b 0) (by simp [results, Tryd.results9, go_sem, outN]) rfl ⟨rfl, ((Below.refl _ _).alloc (Nat.le_refl _) _).alloc (by simp) _⟩
  · obtain ⟨rfl, rfl⟩ := h0 hc
    rw [show tupV (0, 0, c) = .tuple #[.int .i64 0, .int .i64 0, .iface 48 (.agg #[.int .i64 c])] by simp [tupV, wrongT, hc]] at HX
    clear h0
    go_enter Tryd.func9, Tryd.ntmps9
    go_wp2_with (go_at_call 22; refine (HX.out _).mono ?_; rintro e w' ⟨rfl, rfl⟩)
    refine (as_code c (w.heap.size + 1) (.int .i64 0) _ ?_ (by simp) (by simp)).mono ?_
    · rw [World.cell?_alloc_lt _ _ ⟨0, 0, none⟩ (by simp), World.cell?_alloc_lt _ _ ⟨0, 0, none⟩ hlt]; exact hg
    rintro e w1 ⟨rfl, hcc, hb, hsz⟩
    have hc1 := fun o => hb.cell (p := ⟨w.heap.size, o, none⟩) (Nat.lt_succ_self _)
    have hf1 := fun o => hb.frozen (p := ⟨w.heap.size, o, none⟩) (Nat.lt_succ_self _)
    have HB : Hid (Below w.heap.size w w1) := (((Below.refl _ _).alloc (Nat.le_refl _) _).alloc (by simp) _).trans (hb.mono (by omega))
    clear hb hsz hg hlt
    simp at hc1 hf1
    go_wp2
    exact bodyPost_ret (v := outN 0 0 c) (by simp [results, Tryd.results9, go_sem, hc1, outN]) rfl ⟨rfl, ((HB.out.setCell (Nat.le_refl _) _).setCell (Nat.le_refl _) _).setCell (Nat.le_refl _) _⟩
end Go.Proofs.YtpdklkofflfjgaaDoor
