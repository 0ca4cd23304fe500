/-
  PutNum, the program's, by its contract.
-/
import Derived.Test.YtpdklkofflfjgaaDoorPutNum
import Derived.ProofKit
import Derived.OpenShut
import Derived.ShutString
namespace Go.Proofs.YtpdklkofflfjgaaDoor
open Go.RowKit

theorem Row.cell {w : World} {B n : Nat} {T : TypeId} {p : List UInt8} (h : Row w B n T p) (j : Nat) (hj : j < n) : ∃ v, w.cell? ⟨B, j, none⟩ = some v := by
  obtain ⟨cur, hb, hs, _⟩ := h
  rw [cell_of_row w B j cur T (0, 0) hb]
  exact ⟨cur[j]'(by omega), by simp⟩
theorem Row.free {w : World} {B n : Nat} {T : TypeId} {p : List UInt8} (h : Row w B n T p) (j : Nat) : w.frozen? ⟨B, j, none⟩ = false := by
  obtain ⟨cur, hb, _, _⟩ := h
  exact frozen_of_row w B j cur T hb
theorem Row.step {w : World} {B n : Nat} {T : TypeId} {p : List UInt8} {b : UInt8} {x : Value} (h : Row w B n T p) (hx : bV b = x) (hp : p.length < n) : Row (w.setCell ⟨B, p.length, none⟩ x) B n T (p ++ [b]) := by
  obtain ⟨cur, hb, hs, ht⟩ := h
  refine ⟨cur.setIfInBounds p.length x, heap_setCell_same w B p.length cur T x hb, by simpa using hs, ?_⟩
  rw [List.length_append, List.length_singleton, Array.toList_setIfInBounds, List.take_add_one, List.take_set_of_le (Nat.le_refl _), ht]
  have : p.length < cur.toList.length := by simpa [hs] using hp
  rw [List.getElem?_set_self this]
  simp [hx]
theorem Row.string {w : World} {B n cap : Nat} {T : TypeId} {p : List UInt8} (h : Row w B n T p) (k : Nat) (hk : p.length = k) : (convert 22 9 (.slice (some ⟨B, 0, none⟩) k cap)).run Tryd.prog w = .ok (.string (str p)) w := by
  subst hk
  refine run_convert_bytes_back w 22 9 5 ⟨B, 0, none⟩ cap p Tryd.underlying22 Tryd.underlying5 Tryd.underlying9 ?_
  intro j hj
  obtain ⟨cur, hb, hs, ht⟩ := h
  rw [addr_add, cell_of_row w B j cur T (0, 0) hb]
  have h1 : (cur.toList.take p.length)[j]? = (p.map bV)[j]? := by rw [ht]
  rw [List.getElem?_take, if_pos hj] at h1
  simpa [hj, bV] using h1

theorem Tryd.len40 : Tryd.prog.arrayLen 40 = 10 := by kernel_rfl
theorem Tryd.elem40 : Tryd.prog.elem 40 = 5 := by kernel_rfl
theorem slice40 (B k : Nat) (hk : k ≤ 9) (w : World) : (Instr.sliceAt 40 (.pointer (some ⟨B, 0, none⟩)) none (some (.int .i64 ((k : Int) + 1))) none).run Tryd.prog w = .ok (.slice (some ⟨B, 0, none⟩) (k + 1) 10) w := by
  rw [run_sliceAt_array_h w 40 ⟨B, 0, none⟩ (by rw [Tryd.len40, Tryd.elem40]; exact Tryd.underlying40) .i64 _ (by omega) (by rw [Tryd.len40]; omega), Tryd.elem40, Tryd.size5, Tryd.len40]
  simp [slicedAt, Result.andThen, Addr.add]

set_option maxHeartbeats 1000000 in
set_option maxRecDepth 100000 in
theorem implPutNum_any (n : Int) (h1 : -9223372036854775808 ≤ n) (h2 : n ≤ 9223372036854775807) (w : World) :
    Calls Tryd.prog 7 #[.int .i64 n] w fun e w' => e = .returned (.string (str (encode (foldN n)))) ∧ Below w.heap.size w w' := by
  have hu := foldN_lt h1 h2
  have HX : Hid (∀ w1, Calls Tryd.prog 20 #[.int .i64 n] w1 fun e w' => e = .returned (.int .u64 (foldN n : Nat)) ∧ w' = w1) := implFold_any n h1 h2
  generalize foldN n = u at hu HX
  go_enter Tryd.func7, Tryd.ntmps7
  go_wp2_with (go_at_call 20; refine (HX.out _).mono ?_; rintro e w' ⟨rfl, hw⟩; subst hw)
  go_loopw [4, 5] (fun i uu wr => ∃ (p : List UInt8) (U : Nat), i = .int .i64 p.length ∧ uu = .int .u64 U ∧ Half u p U ∧ Row wr w.heap.size 10 40 p ∧ Below w.heap.size w wr) (fun _ uu _ => (intOf uu).toNat)
  case atStart => exact ⟨[], u, rfl, rfl, half_start hu, ⟨_, heap_alloc_new w _, rfl, rfl⟩, (Below.refl _ _).alloc (Nat.le_refl _) _⟩
  case round =>
    obtain ⟨p, U, rfl, rfl, hh, hrow, hbel⟩ := hrel
    have HH : Hid (Half u p U) := hh
    have hU := half_le hh
    have hsz := hbel.size
    have hp9 : p.length ≤ 9 := hh.1
    obtain ⟨c0, hc0⟩ := hrow.cell p.length (by omega)
    have hf0 := hrow.free p.length
    clear hh hu
    by_cases hlt : 128 ≤ U
    · have HS : Hid (Half u (p ++ [UInt8.ofNat (U % 128 + 128)]) (U / 128)) := half_step HH.out hlt
      have HR := hrow.step (bV_more U) (by omega)
      clear hrow
      go_wp2
      go_roundw
      case rel => exact ⟨_, U / 128, by simp, by go_num, HS.out, HR, hbel.setCell (Nat.le_refl _) _⟩
      case measure => simp [intOf]; omega
    · have HE : Hid (p ++ [UInt8.ofNat U] = encode u) := half_end HH.out (by omega)
      have HR := hrow.step (bV_last U (by omega)) (by omega)
      rw [HE.out] at HR
      have hconv := HR.string (cap := 10) (p.length + 1) (by rw [← HE.out]; simp)
      have HB : Hid (Below w.heap.size w (wr.setCell ⟨w.heap.size, p.length, none⟩ (.int .u8 (U : Int)))) := hbel.setCell (Nat.le_refl _) _
      clear hrow HR hbel
      have hsl := fun W => slice40 w.heap.size p.length hp9 W
      go_wp2
      go_ret
      exact ⟨rfl, HB.out⟩

end Go.Proofs.YtpdklkofflfjgaaDoor