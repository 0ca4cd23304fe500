/-
  The program's PutNum by its contract; the walk of the law over both.
-/
import Derived.Test.YtpdklkofflfjgaaNum
import Derived.ProofKit
import Derived.OpenShut
import Derived.ShutString
namespace Go.Proofs.Ytpdklkofflfjgaa
open Go.RowKit

/-- A row of bytes of the call's own: block B, of which the first bytes are p. -/
def Row (w : World) (B n : Nat) (T : TypeId) (p : List UInt8) : Prop := ∃ cur, w.heap[B]? = some (.cells cur T (0, 0)) ∧ cur.size = n ∧ cur.toList.take p.length = p.map bV
theorem Row.cell {w : World} {B n : Nat} {T : TypeId} {p : List UInt8} (h : Row w B n T p) (j : Nat) (hj : j < n) : ∃ v, w.cell? ⟨B, j, none⟩ = some v := by
  obtain ⟨cur, hb, hs, _⟩ := h
  rw [cell_of_row w B j cur T (0, 0) hb]
  exact ⟨cur[j]'(by omega), by simp⟩
theorem Row.free {w : World} {B n : Nat} {T : TypeId} {p : List UInt8} (h : Row w B n T p) (j : Nat) : w.frozen? ⟨B, j, none⟩ = false := by
  obtain ⟨cur, hb, _, _⟩ := h
  exact frozen_of_row w B j cur T hb
theorem Row.step {w : World} {B n : Nat} {T : TypeId} {p : List UInt8} {b : UInt8} {x : Value} (h : Row w B n T p) (hx : bV b = x) (hp : p.length < n) : Row (w.setCell ⟨B, p.length, none⟩ x) B n T (p ++ [b]) := by
  obtain ⟨cur, hb, hs, ht⟩ := h
  refine ⟨cur.setIfInBounds p.length x, heap_setCell_same w B p.length cur T x hb, by simpa using hs, ?_⟩
  rw [List.length_append, List.length_singleton, Array.toList_setIfInBounds, List.take_add_one, List.take_set_of_le (Nat.le_refl _), ht]
  have : p.length < cur.toList.length := by simpa [hs] using hp
  rw [List.getElem?_set_self this]
  simp [hx]
theorem addr_add (g j : Nat) : (⟨g, 0, none⟩ : Addr).add j = ⟨g, j, none⟩ := by
  simp only [Addr.add]
  split
  · simp_all
  · simp
theorem Row.string {w : World} {B n cap : Nat} {T : TypeId} {p : List UInt8} (h : Row w B n T p) (k : Nat) (hk : p.length = k) : (convert 22 9 (.slice (some ⟨B, 0, none⟩) k cap)).run Try.prog w = .ok (.string (str p)) w := by
  subst hk
  refine run_convert_bytes_back w 22 9 5 ⟨B, 0, none⟩ cap p Try.underlying22 Try.underlying5 Try.underlying9 ?_
  intro j hj
  obtain ⟨cur, hb, hs, ht⟩ := h
  rw [addr_add, cell_of_row w B j cur T (0, 0) hb]
  have h1 : (cur.toList.take p.length)[j]? = (p.map bV)[j]? := by rw [ht]
  rw [List.getElem?_take, if_pos hj] at h1
  simpa [hj, bV] using h1

theorem Try.len48 : Try.prog.arrayLen 48 = 10 := by kernel_rfl
theorem Try.elem48 : Try.prog.elem 48 = 5 := by kernel_rfl
theorem Try.size5 (w : World) : (sizeOf 5).run Try.prog w = .ok 1 w := by kernel_rfl
theorem slice48 (B k : Nat) (hk : k ≤ 9) (w : World) : (Instr.sliceAt 48 (.pointer (some ⟨B, 0, none⟩)) none (some (.int .i64 ((k : Int) + 1))) none).run Try.prog w = .ok (.slice (some ⟨B, 0, none⟩) (k + 1) 10) w := by
  rw [run_sliceAt_array_h w 48 ⟨B, 0, none⟩ (by rw [Try.len48, Try.elem48]; exact Try.underlying48) .i64 _ (by omega) (by rw [Try.len48]; omega), Try.elem48, Try.size5, Try.len48]
  simp [slicedAt, Result.andThen, Addr.add]

set_option maxHeartbeats 1000000 in
set_option maxRecDepth 100000 in
theorem implPutNum_any (n : Int) (h1 : -9223372036854775808 ≤ n) (h2 : n ≤ 9223372036854775807) (w : World) :
    Calls Try.prog 21 #[.int .i64 n] w fun e w' => e = .returned (.string (str (encode (foldN n)))) ∧ Below w.heap.size w w' := by
  have hu := foldN_lt h1 h2
  have HX : Hid (∀ w1, Calls Try.prog 42 #[.int .i64 n] w1 fun e w' => e = .returned (.int .u64 (foldN n : Nat)) ∧ w' = w1) := implFold_any n h1 h2
  generalize foldN n = u at hu HX
  go_enter Try.func21, Try.ntmps21
  go_wp2_with (go_at_call 42; refine (HX.out _).mono ?_; rintro e w' ⟨rfl, hw⟩; subst hw)
  go_loopw [4, 5] (fun i uu wr => ∃ (p : List UInt8) (U : Nat), i = .int .i64 p.length ∧ uu = .int .u64 U ∧ Half u p U ∧ Row wr w.heap.size 10 48 p ∧ Below w.heap.size w wr) (fun _ uu _ => (intOf uu).toNat)
  case atStart => exact ⟨[], u, rfl, rfl, half_start hu, ⟨_, heap_alloc_new w _, rfl, rfl⟩, (Below.refl _ _).alloc (Nat.le_refl _) _⟩
  case round =>
    obtain ⟨p, U, rfl, rfl, hh, hrow, hbel⟩ := hrel
    have HH : Hid (Half u p U) := hh
    have hU := half_le hh
    have hsz := hbel.size
    have hp9 : p.length ≤ 9 := hh.1
    obtain ⟨c0, hc0⟩ := hrow.cell p.length (by omega)
    have hf0 := hrow.free p.length
    clear hh hu
    by_cases hlt : 128 ≤ U
    · have HS : Hid (Half u (p ++ [UInt8.ofNat (U % 128 + 128)]) (U / 128)) := half_step HH.out hlt
      have HR := hrow.step (bV_more U) (by omega)
      clear hrow
      go_wp2
      go_roundw
      case rel => exact ⟨_, U / 128, by simp, by go_num, HS.out, HR, hbel.setCell (Nat.le_refl _) _⟩
      case measure => simp [intOf]; omega
    · have HE : Hid (p ++ [UInt8.ofNat U] = encode u) := half_end HH.out (by omega)
      have HR := hrow.step (bV_last U (by omega)) (by omega)
      rw [HE.out] at HR
      have hconv := HR.string (cap := 10) (p.length + 1) (by rw [← HE.out]; simp)
      have HB : Hid (Below w.heap.size w (wr.setCell ⟨w.heap.size, p.length, none⟩ (.int .u8 (U : Int)))) := hbel.setCell (Nat.le_refl _) _
      clear hrow HR hbel
      have hsl := fun W => slice48 w.heap.size p.length hp9 W
      go_wp2
      go_ret
      exact ⟨rfl, HB.out⟩

theorem walkPutNum (a0 : Int) (w0 : (Lit.int .i64 a0).wf = true) (w : World) :
    Calls Try.prog 4 #[.int .i64 a0] w fun e w' => e = .returned (.bool true) ∧ Below w.heap.size w w' := by
  have hb : -9223372036854775808 ≤ a0 ∧ a0 ≤ 9223372036854775807 := by simpa [Lit.wf, IntKind.min, IntKind.max, IntKind.signed, IntKind.bits] using w0
  go_enter Try.func4, Try.ntmps4
  go_wp2_with fail
  refine (specPutNum_any a0 hb.1 hb.2 _).mono ?_
  rintro e w1 ⟨rfl, hb1⟩
  have HB1 : Hid (Below w.heap.size w w1) := hb1
  clear hb1
  go_wp2_with fail
  refine (implPutNum_any a0 hb.1 hb.2 _).mono ?_
  rintro e w2 ⟨rfl, hb2⟩
  have HB2 : Hid (Below w.heap.size w w2) := HB1.out.trans (hb2.mono HB1.out.size)
  clear hb2
  generalize str (encode (foldN a0)) = s
  go_wp2
  go_ret
  exact ⟨rfl, HB2.out⟩
end Go.Proofs.Ytpdklkofflfjgaa
