/-
  join by its contract.
-/
import Derived.Test.YtpdklkofflfjgaaDoorPutNumI
namespace Go.Proofs.YtpdklkofflfjgaaDoor
open Go.RowKit

theorem copyNone (a : Addr) (dCap : Nat) (s : ByteArray) (h0 : s.size = 0) (w : World) (ty : TypeId) : (Builtin.copy_ #[22, 9] ty #[.slice (some a) 0 dCap, .string s]).run Tryd.prog w = .ok (goInt 0) w := by
  simp [Builtin.copy_, run_underlying Tryd.underlying22, Builtin.lenOf, Builtin.firstCells, h0, storeCells]
theorem str_append (a b : ByteArray) : str (a.data.toList ++ b.data.toList) = a ++ b := by
  apply ByteArray.ext
  simp [str, ByteArray.data_append]

set_option maxHeartbeats 1000000 in
set_option maxRecDepth 100000 in
theorem join_some (a b : ByteArray) (ha : a.size ≤ 10000) (hb : b.size ≤ 10000) (hp : 0 < b.size) (w : World) :
    Calls Tryd.prog 28 #[.string a, .string b] w fun e w' => e = .returned (.string (a ++ b)) ∧ Below w.heap.size w w' := by
  obtain ⟨i0, hi, hz0, hz1, hz2⟩ := info_parts Tryd.info5
  go_enter Tryd.func28, Tryd.ntmps28
  go_wp2_with (at_make; refine wpList_make_full _ rfl (.tmp 10) (.tmp 10) 22 rfl w.heap.size 5 i0 (.int .u8 0) 1 Tryd.underlying22 hi hz0 hz1 .i64 .i64 _ _ (a.size + b.size) rfl rfl (by omega) (by omega) ?b2 ?b3 ?b4 ?_)
  case b2 => rw [hz2]; omega
  case b3 => unfold maxLen; omega
  case b4 => exact Nat.le_refl _
  intro w1 hown hgrow
  have hrow : Row w1 w.heap.size (a.size + b.size) 5 [] := by
    rcases hown.2 with ⟨h', _⟩ | ⟨g', cap', cur, h', _, hg, _, _, hcs, _⟩
    · simp at h'
    · simp only [Value.slice.injEq, Option.some.injEq, Addr.mk.injEq, and_true, true_and] at h'
      obtain ⟨rfl, rfl⟩ := h'
      exact ⟨cur, hg, by omega, rfl⟩
  have hbel : Below w.heap.size w w1 := (Below.refl _ _).grown hgrow (Nat.le_refl _) (by simp)
  obtain ⟨w2, hc1, hrow2, hb2⟩ := hrow.copy a (a.size + b.size) (a.size + b.size) (by simp) (by omega)
  have hbel2 := hb2 _ _ (Nat.le_refl _) hbel
  simp only [List.length_nil, List.nil_append] at hc1 hrow2
  clear hown hgrow hrow hbel hb2
  have hl : a.data.toList.length = a.size := rfl
  obtain ⟨w3, hc2, hrow3, hb3⟩ := hrow2.copy b b.size b.size (by omega) (Nat.le_refl _)
  have HB : Hid (Below w.heap.size w w3) := hb3 _ _ (Nat.le_refl _) hbel2
  have hconv := hrow3.string (cap := a.size + b.size) (a.size + b.size) (by rw [List.length_append]; rfl)
  rw [str_append] at hconv
  rw [hl] at hc2
  clear hrow2 hrow3 hb3 hbel2 hl
  have h0 : ¬ b.size = 0 := by omega
  go_wp2
  go_ret
  exact ⟨rfl, HB.out⟩
set_option maxHeartbeats 1000000 in
set_option maxRecDepth 100000 in
theorem join_none (a : ByteArray) (ha : a.size ≤ 10000) (w : World) :
    Calls Tryd.prog 28 #[.string a, .string ByteArray.empty] w fun e w' => e = .returned (.string a) ∧ Below w.heap.size w w' := by
  obtain ⟨i0, hi, hz0, hz1, hz2⟩ := info_parts Tryd.info5
  go_enter Tryd.func28, Tryd.ntmps28
  go_wp2_with (at_make; refine wpList_make_full _ rfl (.tmp 10) (.tmp 10) 22 rfl w.heap.size 5 i0 (.int .u8 0) 1 Tryd.underlying22 hi hz0 hz1 .i64 .i64 _ _ (a.size) rfl rfl (by omega) (by omega) ?b2 ?b3 ?b4 ?_)
  case b2 => rw [hz2]; omega
  case b3 => unfold maxLen; omega
  case b4 => exact Nat.le_refl _
  intro w1 hown hgrow
  have hrow : Row w1 w.heap.size (a.size) 5 [] := by
    rcases hown.2 with ⟨h', _⟩ | ⟨g', cap', cur, h', _, hg, _, _, hcs, _⟩
    · simp at h'
    · simp only [Value.slice.injEq, Option.some.injEq, Addr.mk.injEq, and_true, true_and] at h'
      obtain ⟨rfl, rfl⟩ := h'
      exact ⟨cur, hg, by omega, rfl⟩
  have hbel : Below w.heap.size w w1 := (Below.refl _ _).grown hgrow (Nat.le_refl _) (by simp)
  obtain ⟨w2, hc1, hrow2, hb2⟩ := hrow.copy a (a.size) (a.size) (by simp) (by omega)
  have hbel2 := hb2 _ _ (Nat.le_refl _) hbel
  simp only [List.length_nil, List.nil_append] at hc1 hrow2
  clear hown hgrow hrow hbel hb2
  have hc2 := fun ad W ty => copyNone ad 0 ByteArray.empty rfl W ty
  have hconv := hrow2.string (cap := a.size) a.size rfl
  rw [str_self] at hconv
  have HB : Hid (Below w.heap.size w w2) := hbel2
  clear hrow2 hbel2
  go_wp2
  go_ret
  exact ⟨rfl, HB.out⟩
theorem join_any (a b : ByteArray) (ha : a.size ≤ 10000) (hb : b.size ≤ 10000) (w : World) :
    Calls Tryd.prog 28 #[.string a, .string b] w fun e w' => e = .returned (.string (a ++ b)) ∧ Below w.heap.size w w' := by
  by_cases h0 : b.size = 0
  · obtain rfl : b = ByteArray.empty := ByteArray.size_eq_zero_iff.1 h0
    have := join_none a ha w
    simpa using this
  · exact join_some a b ha hb (by omega) w
end Go.Proofs.YtpdklkofflfjgaaDoor
