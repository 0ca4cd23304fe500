/-
  The model's l07Done, by its contract.
-/
import Derived.Test.YtagklhfejbdkdaaDoorFmL
import Derived.Test.YtagklhfejbdkdaaDoorFoK
namespace Go.Proofs.YtagklhfejbdkdaaDoor
open Go.RowKit
set_option linter.unusedVariables false
set_option linter.unusedSimpArgs false
theorem partG_len {g : List Nd} {i : Nat} (hg : goodTo g g.length = true) (hi : i < g.length) : (partG g i).length ≤ g.length := by
  have HD : downTo g g.length := goodTo_down g _ hg
  have HP0 : PlacesOk g [] := ⟨List.nodup_nil, fun j h => by cases h⟩
  have HP := HP0.walk (n := g.length) (i := i) (fun j hj => HD j (by omega)) hi hi
  have := HP.len
  unfold partG
  rw [partTo_len]
  exact this
theorem OwnsN.nsA {w : World} {base : Nat} {v : Value} {F : List Nd} (h : OwnsN w base v F) : ∃ fa fc, v = .slice fa F.length fc ∧ NsA w fa F ∧ ∀ q, fa = some q → q = ⟨q.block, 0, none⟩ ∧ base ≤ q.block ∧ q.block < w.heap.size := by
  obtain ⟨a, c, rfl, hf⟩ := h.form
  refine ⟨a, c, rfl, ?_, fun q e => ?_⟩
  · by_cases h0 : F.length = 0
    · exact Or.inl h0
    · rcases hf with rfl | ⟨b, rfl, _, _⟩
      · exfalso
        rcases h.2 with ⟨_, h1⟩ | ⟨q, cp, cu, e, _⟩
        · exact h0 h1
        · cases e
      · exact Or.inr ⟨b, rfl, h.at⟩
  · rcases hf with rfl | ⟨b, rfl, h1, h2⟩
    · cases e
    · injection e with e; subst e; exact ⟨rfl, h1, h2⟩
theorem foz (w : World) : FoBox (w.alloc (.cells #[.slice none 0 0, .int .i64 0] 26)) w.heap.size none 0 0 0 ∧ FoFree (w.alloc (.cells #[.slice none 0 0, .int .i64 0] 26)) w.heap.size := ⟨FoBox.new _ _ _ _ _ _, FoFree.new _ _ _ _⟩
set_option maxRecDepth 20000 in
set_option maxHeartbeats 4000000 in
theorem specDone_any (g : List Nd) (hg : goodTo g g.length = true) (hl : g.length ≤ 24) (i : Nat) (hi : i < g.length) (F : List Nd) (hF : partG g i = F) (rb base : Nat) (v : Value) (w : World) (hM : MkAt w rb base v g) :
    Calls Tryd.prog 28 #[.pointer (some ⟨rb, 0, none⟩), .int .i64 i] w fun e w' => ∃ fa fc, e = .returned (.agg #[.slice fa F.length fc, .int .i64 0]) ∧ NsA w' fa F ∧ (∀ q, fa = some q → w.heap.size ≤ q.block ∧ q.block < w'.heap.size) ∧ Below w.heap.size w w' := by
  have hFl : F.length ≤ 24 := by rw [← hF]; have := partG_len hg hi; omega
  have HB0 := hid (fone w (.cells #[.slice none 0 0, .int .i64 0] 26))
  have HX0 := hid (foz w).1
  have HG0 := hid (foz w).2
  have HM0 := hid (hM.on HB0.out)
  have hrb : rb < w.heap.size := Nat.lt_of_lt_of_le hM.lt hM.ltb
  obtain ⟨va, vc, rfl, hvf⟩ := hM.own.form
  obtain ⟨gb, rfl⟩ : ∃ gb, va = some ⟨gb, 0, none⟩ := by
    rcases hvf with rfl | ⟨b, rfl, _, _⟩
    · exfalso
      rcases hM.own.2 with ⟨_, h0⟩ | ⟨q, cp, cu, e, _⟩
      · omega
      · cases e
    · exact ⟨b, rfl⟩
  have HPt := hid (specPartAt_good g gb vc i _ HM0.out.own.at ⟨by omega, by omega, hg⟩ hi HM0.out.ok)
  have hFe : partTo g (walkF g g.length i []) (walkF g g.length i []).length = F := hF
  rw [hFe] at HPt
  have c0 := HM0.out.c0
  have c2 := HM0.out.c2
  clear hM hg hF hFe
  go_enter Tryd.func28, Tryd.ntmps28
  go_wp2_with (go_at_call 50; refine HPt.out.mono ?_; rintro e w1 ⟨v1, rfl, hO1, hb1⟩; obtain ⟨fa, fc, rfl, hns, hq⟩ := hO1.nsA; have HN := hid hns; have HQ := hid hq; have HB1 := hid (HB0.out.trans (hb1.mono HB0.out.size)); obtain ⟨hq0, o0, o1⟩ := HX0.out.on hb1; obtain ⟨g0, g1⟩ := HG0.out.on hb1 HX0.out.lt; have hz1 := hb1.size; clear hO1 hns hq hb1)
  refine bodyPost_ret (v := .agg #[.slice fa F.length fc, .int .i64 0]) (by simp [results, Tryd.results28, go_sem, o0, o1, g0, g1]) rfl ?_
  have s2 := foset2 w1 w.heap.size (.slice fa F.length fc) (.int .i64 0)
  have hz2 := s2.size
  have hz0 : w.heap.size < (w.alloc (.cells #[.slice none 0 0, .int .i64 0] 26)).heap.size := by simp
  exact ⟨fa, fc, rfl, HN.out.save s2 (fun q e => by have := HQ.out q e; show ¬ q.block = w.heap.size; omega), (fun q e => by have := HQ.out q e; omega), HB1.out.trans (s2.below (B := w.heap.size) HB1.out.size (fun j h => by omega))⟩
end Go.Proofs.YtagklhfejbdkdaaDoor
