/-
  GetText: the program's readText and GetText, by their contracts.
-/
import Derived.Test.YtpdklkofflfjgaaDoorNumLaw
import Derived.Test.YtpdklkofflfjgaaDoorClone
namespace Go.Proofs.YtpdklkofflfjgaaDoor
open Go.RowKit

theorem rdF_place (s : ByteArray) : ∀ (f k p U : Nat), (rdF f s k p U).2.2 = 0 → (rdF f s k p U).2.1 ≤ s.size := by
  intro f
  induction f with
  | zero => intro k p U h; simp [rdF] at h
  | succ f ih =>
    intro k p U h
    simp only [rdF] at h ⊢
    by_cases h1 : s.size ≤ p
    · simp [h1] at h
    · rw [if_neg h1] at h ⊢
      by_cases h2 : k = 9 ∧ 1 < byteAt s p
      · rw [if_pos h2] at h; simp at h
      · rw [if_neg h2] at h ⊢
        by_cases h3 : byteAt s p < 128
        · rw [if_pos h3] at h ⊢
          by_cases h4 : byteAt s p = 0 ∧ 0 < k
          · rw [if_pos h4] at h; simp at h
          · rw [if_neg h4]; simp; omega
        · rw [if_neg h3] at h ⊢
          exact ih _ _ _ h
theorem getR_place {s : ByteArray} {a n b : Int} (h : getR s a = (n, b, 0)) : s.size ≤ 8000 ∧ 0 ≤ b ∧ b ≤ s.size := by
  unfold getR at h
  by_cases h0 : placeC s a = 0
  · rw [if_pos h0] at h
    by_cases h1 : (rdN s a.toNat).2.2 = 0
    · rw [if_pos h1] at h
      have hp := rdF_place s 10 0 a.toNat 0 h1
      simp only [Prod.mk.injEq] at h
      refine ⟨(placeC_zero h0).1, by omega, ?_⟩
      have : (rdN s a.toNat).2.1 ≤ s.size := hp
      omega
    · rw [if_neg h1] at h
      simp only [Prod.mk.injEq] at h
      exact absurd h.2.2 h1
  · rw [if_neg h0] at h
    simp only [Prod.mk.injEq] at h
    exact absurd h.2.2 h0
/-- What GetText tells: a text, the place behind it, a code. -/
def getT (s : ByteArray) (r : Int × Int × Int) : ByteArray × Int × Int :=
  if r.2.2 = 0 then (if r.1 < 0 ∨ 8000 < r.1 then (ByteArray.empty, 0, 3) else if (s.size : Int) < r.2.1 + r.1 then (ByteArray.empty, 0, 4) else (s.extract r.2.1.toNat (r.2.1 + r.1).toNat, r.2.1 + r.1, 0)) else (ByteArray.empty, 0, r.2.2)
def outT (t : ByteArray) (b c : Int) : Value := .agg #[.string t, .int .i64 b, .int .i64 c]
def tupT (t : ByteArray) (b c : Int) : Value := if c = 0 then .tuple #[.string t, .int .i64 b, .nilIface] else .tuple #[.string ByteArray.empty, .int .i64 0, .iface 48 (.agg #[.int .i64 c])]

set_option maxHeartbeats 2000000 in
set_option maxRecDepth 100000 in
theorem readText_any (s : ByteArray) (hs : s.size ≤ maxLen) (a : Int) (ha : a < 9223372036854775808) (w : World) :
    Calls Tryd.prog 29 #[.string s, .int .i64 a] w fun e w' => e = .returned (tupT (getT s (getR s a)).1 (getT s (getR s a)).2.1 (getT s (getR s a)).2.2) ∧ Below w.heap.size w w' := by
  have HX := shutF (fun w1 => readNum_any s hs a ha w1)
  have hpl := @getR_place s a
  unfold maxLen at hs
  generalize getR s a = r at HX hpl
  obtain ⟨n, b, c⟩ := r
  by_cases hc : c = 0
  · subst hc
    obtain ⟨h8, hb0, hb1⟩ := hpl rfl
    clear hpl
    rw [show tupV (n, b, 0) = .tuple #[.int .i64 n, .int .i64 b, .nilIface] by simp [tupV]] at HX
    by_cases h1 : n < 0
    · rw [show getT s (n, b, 0) = (ByteArray.empty, 0, 3) by simp [getT, h1]]
      have d1 : decide (n < 0) = true := by simpa using h1
      go_enter Tryd.func29, Tryd.ntmps29
      go_wp2_with (go_at_call 22; refine (HX.out _).mono ?_; rintro e w' ⟨rfl, rfl⟩)
      go_ret3
      exact ⟨by simp [tupT]; rfl, Below.refl _ _⟩
    by_cases h2 : 8000 < n
    · rw [show getT s (n, b, 0) = (ByteArray.empty, 0, 3) by simp [getT, h2]]
      go_enter Tryd.func29, Tryd.ntmps29
      go_wp2_with (go_at_call 22; refine (HX.out _).mono ?_; rintro e w' ⟨rfl, rfl⟩)
      go_ret3
      exact ⟨by simp [tupT]; rfl, Below.refl _ _⟩
    by_cases h3 : (s.size : Int) < b + n
    · rw [show getT s (n, b, 0) = (ByteArray.empty, 0, 4) by simp [getT, h1, h2, h3]]
      go_enter Tryd.func29, Tryd.ntmps29
      go_wp2_with (go_at_call 22; refine (HX.out _).mono ?_; rintro e w' ⟨rfl, rfl⟩)
      go_ret3
      exact ⟨by simp [tupT]; rfl, Below.refl _ _⟩
    · rw [show getT s (n, b, 0) = (s.extract b.toNat (b + n).toNat, b + n, 0) by simp [getT, h1, h2, h3]]
      have hsz : (s.extract b.toNat (b + n).toNat).size ≤ 10000 := by simp; omega
      have HC := shutF (fun w1 => clone_any (s.extract b.toNat (b + n).toNat) hsz w1)
      clear hsz
      go_enter Tryd.func29, Tryd.ntmps29
      go_wp2_with (go_at_call 22; refine (HX.out _).mono ?_; rintro e w' ⟨rfl, rfl⟩)
      refine (HC.out _).mono ?_
      rintro e w1 ⟨rfl, hb1⟩
      have HB := shutF hb1
      clear hb1
      go_wp2
      go_ret3
      exact ⟨by simp [tupT], HB.out⟩
  · rw [show tupV (n, b, c) = .tuple #[.int .i64 0, .int .i64 0, .iface 48 (.agg #[.int .i64 c])] by simp [tupV, wrongT, hc]] at HX
    rw [show getT s (n, b, c) = (ByteArray.empty, 0, c) by simp [getT, hc]]
    clear hpl
    go_enter Tryd.func29, Tryd.ntmps29
    go_wp2_with (go_at_call 22; refine (HX.out _).mono ?_; rintro e w' ⟨rfl, rfl⟩)
    go_ret3
    exact ⟨by simp [tupT, hc]; rfl, Below.refl _ _⟩

set_option maxHeartbeats 2000000 in
set_option maxRecDepth 100000 in
theorem implGetText_any (s : ByteArray) (hs : s.size ≤ maxLen) (a : Int) (ha : a < 9223372036854775808) (w : World) (hg : w.cell? ⟨0, 0, none⟩ = some (.iface 77 (.agg #[.pointer (some ⟨1, 44, none⟩)]))) :
    Calls Tryd.prog 13 #[.string s, .int .i64 a] w fun e w' => e = .returned (outT (getT s (getR s a)).1 (getT s (getR s a)).2.1 (getT s (getR s a)).2.2) ∧ Below w.heap.size w w' := by
  have HX := shutF (fun w1 => readText_any s hs a ha w1)
  have hlt : 0 < w.heap.size := World.block_lt_of_cell? w ⟨0, 0, none⟩ hg
  have h0 : (getT s (getR s a)).2.2 ≠ 0 → (getT s (getR s a)).1 = ByteArray.empty ∧ (getT s (getR s a)).2.1 = 0 := by
    unfold getT
    split
    · split
      · simp
      · split <;> simp
    · simp
  generalize getT s (getR s a) = r at HX h0
  obtain ⟨t, b, c⟩ := r
  simp only at h0 HX ⊢
  by_cases hc : c = 0
  · subst hc
    rw [show tupT t b 0 = .tuple #[.string t, .int .i64 b, .nilIface] by simp [tupT]] at HX
    clear h0
    go_enter Tryd.func13, Tryd.ntmps13
    go_wp2_with fail
    refine (HX.out _).mono ?_
    rintro e w1 ⟨rfl, hb1⟩
    have hc1 := fun o => hb1.cell (p := ⟨w.heap.size, o, none⟩) (by simp)
    have hf1 := fun o => hb1.frozen (p := ⟨w.heap.size, o, none⟩) (by simp)
    have hz1 : w.heap.size < w1.heap.size := by have := hb1.size; simp at this; omega
    have HB : Hid (Below w.heap.size w w1) := ((Below.refl _ _).alloc (Nat.le_refl _) _).trans (hb1.mono (by simp))
    clear hb1
    simp at hc1 hf1
    go_wp2_with (go_at_call 23; refine (as_nil _ _).mono ?_; rintro e w' ⟨rfl, rfl⟩)
    exact bodyPost_ret (v := outT t b 0) (by simp [results, Tryd.results13, go_sem, hc1, hz1, outT]) rfl ⟨rfl, (((HB.out.setCell (Nat.le_refl _) _).setCell (Nat.le_refl _) _).setCell (Nat.le_refl _) _).alloc (by simp; omega) _⟩
  · obtain ⟨rfl, rfl⟩ := h0 hc
    rw [show tupT ByteArray.empty 0 c = .tuple #[.string ByteArray.empty, .int .i64 0, .iface 48 (.agg #[.int .i64 c])] by simp [tupT, hc]] at HX
    clear h0
    go_enter Tryd.func13, Tryd.ntmps13
    go_wp2_with fail
    refine (HX.out _).mono ?_
    rintro e w1 ⟨rfl, hb1⟩
    have hg1 : w1.cell? ⟨0, 0, none⟩ = some (.iface 77 (.agg #[.pointer (some ⟨1, 44, none⟩)])) := by
      rw [hb1.cell (p := ⟨0, 0, none⟩) (by simp), World.cell?_alloc_lt _ _ ⟨0, 0, none⟩ hlt]; exact hg
    have HG := shutF hg1
    clear hg1 hg
    have hz1 : w.heap.size < w1.heap.size := by have := hb1.size; simp at this; omega
    have HB1 := shutF hb1
    clear hb1
    go_wp2_with fail
    refine (as_code c w1.heap.size (.int .i64 0) _ ?_ (by simp) (by simp)).mono ?_
    · rw [World.cell?_alloc_lt _ _ ⟨0, 0, none⟩ (by show 0 < w1.heap.size; omega)]; exact HG.out
    rintro e w2 ⟨rfl, hcc, hb, hsz⟩
    have hc1 := fun o => (hb.cell (p := ⟨w.heap.size, o, none⟩) hz1).trans ((World.cell?_alloc_lt _ _ ⟨w.heap.size, o, none⟩ hz1).trans (HB1.out.cell (p := ⟨w.heap.size, o, none⟩) (by simp)))
    have hf1 := fun o => (hb.frozen (p := ⟨w.heap.size, o, none⟩) hz1).trans ((World.frozen?_alloc_old _ _ ⟨w.heap.size, o, none⟩ (Nat.ne_of_lt hz1)).trans (HB1.out.frozen (p := ⟨w.heap.size, o, none⟩) (by simp)))
    have HB : Hid (Below w.heap.size w w2) := ((((Below.refl _ _).alloc (Nat.le_refl _) _).trans (HB1.out.mono (by simp))).alloc (by omega) _).trans (hb.mono (by omega))
    clear hb hsz HG HB1
    simp at hc1 hf1
    go_wp2
    exact bodyPost_ret (v := outT ByteArray.empty 0 c) (by simp [results, Tryd.results13, go_sem, hc1, outT]; rfl) rfl ⟨rfl, ((HB.out.setCell (Nat.le_refl _) _).setCell (Nat.le_refl _) _).setCell (Nat.le_refl _) _⟩
end Go.Proofs.YtpdklkofflfjgaaDoor
