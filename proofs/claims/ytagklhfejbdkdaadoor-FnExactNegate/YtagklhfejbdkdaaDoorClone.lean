/-
  strings.Clone, by its contract: the same text; what was there is not turned.
-/
import Derived.Test.YtagklhfejbdkdaaDoorSv
import Derived.Laws.IdiomStrings
import Derived.Lib.UnsafeStr
namespace Go.Proofs.YtagklhfejbdkdaaDoor
open Go.RowKit
set_option linter.unusedVariables false
set_option linter.unusedSimpArgs false

def str (l : List UInt8) : ByteArray := ⟨l.toArray⟩
def bV (b : UInt8) : Value := .int .u8 (b.toNat : Int)
theorem Tryd.infoU8 : (Tryd.prog.info? 5).map (fun i => (i.zero, i.size, i.bytes)) = some (some (.int .u8 0), 1, 1) := by kernel_rfl
/-- A row of bytes of the call's own: block B, of which the first bytes are p. -/
def Row (w : World) (B n : Nat) (T : TypeId) (p : List UInt8) : Prop := ∃ cur, w.heap[B]? = some (.cells cur T (0, 0)) ∧ cur.size = n ∧ cur.toList.take p.length = p.map bV
theorem addr_add (g j : Nat) : (⟨g, 0, none⟩ : Addr).add j = ⟨g, j, none⟩ := by
  simp only [Addr.add]
  split
  · simp_all
  · simp
theorem Tryd.sizeU8 (w : World) : (sizeOf 5).run Tryd.prog w = .ok 1 w := by kernel_rfl
theorem copyCells (s : ByteArray) : List.take s.size (List.map (fun b : UInt8 => Value.int IntKind.u8 (b.toNat : Int)) s.data.toList) = s.data.toList.map bV := by
  rw [List.take_of_length_le (by rw [List.length_map]; exact Nat.le_refl _)]
  rfl
theorem Row.copy {w : World} {B n : Nat} {p : List UInt8} (h : Row w B n 5 p) (s : ByteArray) (dLen dCap : Nat) (hfit : p.length + s.size ≤ n) (hle : s.size ≤ dLen) :
    ∃ w2, (∀ ty, (Builtin.copy_ #[84, 9] ty #[.slice (some ⟨B, p.length, none⟩) dLen dCap, .string s]).run Tryd.prog w = .ok (goInt s.size) w2) ∧ Row w2 B n 5 (p ++ s.data.toList) ∧ (∀ B0 w0, B0 ≤ B → Below B0 w0 w → Below B0 w0 w2) := by
  obtain ⟨cur, hb, hs, ht⟩ := h
  have hl : (s.data.toList.map bV).length = s.size := by rw [List.length_map]; rfl
  have hst := run_storeCells_at (P := Tryd.prog) B p.length 5 (s.data.toList.map bV) 0 cur w hb (by rw [hl]; omega) (by
    intro v hv
    obtain ⟨b, _, rfl⟩ := List.mem_map.1 hv
    rfl)
  rw [hl] at hst
  simp only [Nat.add_zero] at hst
  refine ⟨w.setRow B (cur.toList.take p.length ++ s.data.toList.map bV ++ cur.toList.drop (p.length + s.size)).toArray, ?_, ⟨_, setRow_heap w B cur _ 5 (0, 0) hb, ?_, ?_⟩, fun B0 w0 hB hbel => hbel.trans ⟨rfl, rfl, rfl, by simp [World.setRow], fun k hk => setRow_other w B k _ (by omega)⟩⟩
  · intro ty
    have hmin : Nat.min s.size dLen = s.size := Nat.min_eq_left hle
    simp [Builtin.copy_, run_underlying Tryd.underlying84, Builtin.lenOf, Builtin.firstCells, hmin]
    rw [copyCells, hst]
    simp [Result.andThen]
  · have h5 : s.data.toList.length = s.size := rfl
    simp [hs]
    have : s.data.size = s.size := rfl
    omega
  · have h5 : s.data.toList.length = s.size := rfl
    rw [ht, List.toList_toArray, List.length_append, h5]
    rw [List.take_append_of_le_length (by simp)]
    rw [List.take_of_length_le (by simp)]
    simp
theorem str_self (a : ByteArray) : str a.data.toList = a := by
  apply ByteArray.ext
  simp [str]
theorem Tryd.cellsU8 : Tryd.prog.cellsOf 5 = 1 := by kernel_rfl
theorem Row.unsafeText {w : World} {B n : Nat} {s : ByteArray} (h : Row w B n 5 s.data.toList) (hp : 0 < s.size) (hn : s.size ≤ n) (h63 : s.size ≤ 9223372036854775807) (ty : TypeId) :
    (Builtin.unsafeString_ #[132, 3] ty #[.pointer (some ⟨B, 0, none⟩), .int .i64 s.size]).run Tryd.prog w = .ok (.string s) (w.freeze ⟨B, 0, none⟩ s.size) := by
  obtain ⟨cur, hb, hs, ht⟩ := h
  have hsz : s.data.toList.length = s.size := rfl
  have hr := Lib.run_unsafeString_row (P := Tryd.prog) w 132 3 ty 5 Tryd.underlying132 Tryd.cellsU8 B n (by simp [World.shape?, hb, hs]) s.data.toList (by intro h0; rw [h0] at hsz; simp at hsz; omega) (by rw [hsz]; exact hn) (by rw [hsz]; exact h63) (by
    intro j x hj
    have hj' : j < s.data.toList.length := (List.getElem?_eq_some_iff.1 hj).1
    rw [addr_add, cell_of_row w B j cur 5 (0, 0) hb]
    have h1 : (cur.toList.take s.data.toList.length)[j]? = (s.data.toList.map bV)[j]? := by rw [ht]
    rw [List.getElem?_take, if_pos hj', List.getElem?_map, hj] at h1
    simpa [bV] using h1)
  rw [hsz] at hr
  rw [hr]

set_option maxHeartbeats 1000000 in
set_option maxRecDepth 100000 in
theorem clone_any (s : ByteArray) (hs : s.size ≤ 10000) (w : World) :
    Calls Tryd.prog 71 #[.string s] w fun e w' => e = .returned (.string s) ∧ Below w.heap.size w w' := by
  by_cases h0 : s.size = 0
  · obtain rfl : s = ByteArray.empty := ByteArray.size_eq_zero_iff.1 h0
    go_enter Tryd.func71, Tryd.ntmps71
    go_wp2
    go_ret
    exact ⟨rfl, Below.refl _ _⟩
  · obtain ⟨i0, hi, hz0, hz1, hz2⟩ := info_parts Tryd.infoU8
    have hp : 0 < s.size := by omega
    go_enter Tryd.func71, Tryd.ntmps71
    go_wp2_with (first | go_in | (at_make; refine wpList_make_full _ rfl (.tmp 8) (.tmp 8) 84 rfl w.heap.size 5 i0 (.int .u8 0) 1 Tryd.underlying84 hi hz0 hz1 .i64 .i64 _ _ s.size rfl rfl rfl rfl ?b2 ?b3 ?b4 ?_))
    case b2 => rw [hz2]; omega
    case b3 => unfold maxLen; omega
    case b4 => exact Nat.le_refl _
    intro w1 hown hgrow
    have hrow : Row w1 w.heap.size s.size 5 [] := by
      rcases hown.2 with ⟨h', _⟩ | ⟨g', cap', cur, h', _, hg, _, _, hcs, _⟩
      · simp at h'
      · simp only [Value.slice.injEq, Option.some.injEq, Addr.mk.injEq, and_true, true_and] at h'
        obtain ⟨rfl, rfl⟩ := h'
        exact ⟨cur, hg, by omega, rfl⟩
    have hbel : Below w.heap.size w w1 := (Below.refl _ _).grown hgrow (Nat.le_refl _) (by simp)
    obtain ⟨w2, hc1, hrow2, hb2⟩ := hrow.copy s s.size s.size (by simp) (Nat.le_refl _)
    have hbel2 := hb2 _ _ (Nat.le_refl _) hbel
    simp only [List.length_nil, List.nil_append] at hc1 hrow2
    have hus := fun ty => hrow2.unsafeText hp (Nat.le_refl _) (by omega) ty
    have HB : Hid (Below w.heap.size w (w2.freeze ⟨w.heap.size, 0, none⟩ s.size)) := Lib.below_freeze hbel2 (Nat.le_refl _) _
    clear hown hgrow hrow hbel hb2 hrow2 hbel2
    go_wp2
    go_ret
    exact ⟨rfl, HB.out⟩
end Go.Proofs.YtagklhfejbdkdaaDoor
