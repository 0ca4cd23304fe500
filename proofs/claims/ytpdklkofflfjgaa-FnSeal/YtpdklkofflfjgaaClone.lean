/-
  strings.Clone, by its contract: the same text; what was there is not turned.
-/
import Derived.Test.YtpdklkofflfjgaaSeal
import Derived.Lib.UnsafeStr
namespace Go.Proofs.Ytpdklkofflfjgaa
open Go.RowKit

theorem Try.cells5 : Try.prog.cellsOf 5 = 1 := by kernel_rfl
theorem Row.unsafeText {w : World} {B n : Nat} {s : ByteArray} (h : Row w B n 5 s.data.toList) (hp : 0 < s.size) (hn : s.size ≤ n) (h63 : s.size ≤ 9223372036854775807) (ty : TypeId) :
    (Builtin.unsafeString_ #[55, 3] ty #[.pointer (some ⟨B, 0, none⟩), .int .i64 s.size]).run Try.prog w = .ok (.string s) (w.freeze ⟨B, 0, none⟩ s.size) := by
  obtain ⟨cur, hb, hs, ht⟩ := h
  have hsz : s.data.toList.length = s.size := rfl
  have hr := Lib.run_unsafeString_row (P := Try.prog) w 55 3 ty 5 Try.underlying55 Try.cells5 B n (by simp [World.shape?, hb, hs]) s.data.toList (by intro h0; rw [h0] at hsz; simp at hsz; omega) (by rw [hsz]; exact hn) (by rw [hsz]; exact h63) (by
    intro j x hj
    have hj' : j < s.data.toList.length := (List.getElem?_eq_some_iff.1 hj).1
    rw [addr_add, cell_of_row w B j cur 5 (0, 0) hb]
    have h1 : (cur.toList.take s.data.toList.length)[j]? = (s.data.toList.map bV)[j]? := by rw [ht]
    rw [List.getElem?_take, if_pos hj', List.getElem?_map, hj] at h1
    simpa [bV] using h1)
  rw [hsz] at hr
  rw [hr]

set_option maxHeartbeats 1000000 in
set_option maxRecDepth 100000 in
theorem clone_any (s : ByteArray) (hs : s.size ≤ 10000) (w : World) :
    Calls Try.prog 38 #[.string s] w fun e w' => e = .returned (.string s) ∧ Below w.heap.size w w' := by
  by_cases h0 : s.size = 0
  · obtain rfl : s = ByteArray.empty := ByteArray.size_eq_zero_iff.1 h0
    go_enter Try.func38, Try.ntmps38
    go_wp2
    go_ret
    exact ⟨rfl, Below.refl _ _⟩
  · obtain ⟨i0, hi, hz0, hz1, hz2⟩ := info_parts Try.info5
    have hp : 0 < s.size := by omega
    go_enter Try.func38, Try.ntmps38
    go_wp2_with (first | go_in | (at_make; refine wpList_make_full _ rfl (.tmp 8) (.tmp 8) 22 rfl w.heap.size 5 i0 (.int .u8 0) 1 Try.underlying22 hi hz0 hz1 .i64 .i64 _ _ s.size rfl rfl rfl rfl ?b2 ?b3 ?b4 ?_))
    case b2 => rw [hz2]; omega
    case b3 => unfold maxLen; omega
    case b4 => exact Nat.le_refl _
    intro w1 hown hgrow
    have hrow : Row w1 w.heap.size s.size 5 [] := by
      rcases hown.2 with ⟨h', _⟩ | ⟨g', cap', cur, h', _, hg, _, _, hcs, _⟩
      · simp at h'
      · simp only [Value.slice.injEq, Option.some.injEq, Addr.mk.injEq, and_true, true_and] at h'
        obtain ⟨rfl, rfl⟩ := h'
        exact ⟨cur, hg, by omega, rfl⟩
    have hbel : Below w.heap.size w w1 := (Below.refl _ _).grown hgrow (Nat.le_refl _) (by simp)
    obtain ⟨w2, hc1, hrow2, hb2⟩ := hrow.copy s s.size s.size (by simp) (Nat.le_refl _)
    have hbel2 := hb2 _ _ (Nat.le_refl _) hbel
    simp only [List.length_nil, List.nil_append] at hc1 hrow2
    have hus := fun ty => hrow2.unsafeText hp (Nat.le_refl _) (by omega) ty
    have HB : Hid (Below w.heap.size w (w2.freeze ⟨w.heap.size, 0, none⟩ s.size)) := Lib.below_freeze hbel2 (Nat.le_refl _) _
    clear hown hgrow hrow hbel hb2 hrow2 hbel2
    go_wp2
    go_ret
    exact ⟨rfl, HB.out⟩
end Go.Proofs.Ytpdklkofflfjgaa
