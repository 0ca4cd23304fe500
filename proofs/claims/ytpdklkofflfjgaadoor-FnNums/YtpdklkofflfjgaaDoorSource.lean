/-
  l01Source by its contract.
-/
import Derived.Test.YtpdklkofflfjgaaDoorDraw
namespace Go.Proofs.YtpdklkofflfjgaaDoor
open Go.RowKit

theorem SrcAt.put3 {w : World} {S : Nat} {v : Value} {p M z : Nat} (h : SrcAt w S v p M z) (z' : Nat) (x : Value) (hx : x = .int .i64 z') : SrcAt (w.setCell ⟨S, 3, none⟩ x) S v p M z' := by
  subst hx
  have := heap_setCell_same w S 3 _ 59 (.int .i64 z') h
  simpa [SrcAt] using this
theorem Bytes.below {w w' : World} {B : Nat} {a : Option Addr} {len : Nat} (h : Bytes w B a len) (hb : Below B w w') : Bytes w' B a len := by
  rcases h with h | ⟨b, off, rfl, hbB, hc⟩
  · exact Or.inl h
  · refine Or.inr ⟨b, off, rfl, hbB, fun i hi => ?_⟩
    obtain ⟨z, hz, hcz⟩ := hc i hi
    exact ⟨z, hz, by rw [hb.cell (p := ⟨b, off + i, none⟩) hbB]; exact hcz⟩
theorem wrap_u64_nat (x : Int) : ∃ M : Nat, M < 18446744073709551616 ∧ IntKind.u64.wrap x = (M : Int) := by
  have h : 0 ≤ IntKind.u64.wrap x ∧ IntKind.u64.wrap x < 18446744073709551616 := by
    rw [IntKind.wrap_u64]
    omega
  exact ⟨(IntKind.u64.wrap x).toNat, by omega, by omega⟩

set_option maxHeartbeats 4000000 in
set_option maxRecDepth 100000 in
theorem source_any (w : World) (a : Option Addr) (len cap : Nat) (hl : len ≤ 1048576) (hb : Bytes w w.heap.size a len) :
    Calls Tryd.prog 18 #[.slice a len cap] w fun e w' => e = .returned (.pointer (some ⟨w.heap.size, 0, none⟩)) ∧ Below w.heap.size w w' ∧ SrcOk w' w.heap.size w.heap.size a len cap := by
  go_enter Tryd.func18, Tryd.ntmps18
  go_wp2
  go_loopw [4] (fun i wr => ∃ k M : Nat, i = .int .i64 k ∧ k ≤ len ∧ M < 18446744073709551616 ∧ SrcAt wr w.heap.size (.slice a len cap) 0 M 0 ∧ Below w.heap.size w wr) (fun i _ => len - (intOf i).toNat)
  case atStart => exact ⟨0, 88172645463325252, rfl, by omega, by omega, heap_alloc_new w _, (Below.refl _ _).alloc (Nat.le_refl _) _⟩
  case round =>
    obtain ⟨k, M, rfl, hk, hM, hs, hbel⟩ := hrel
    obtain ⟨c0, c1, c2, c3, hf⟩ := hs.cell
    have HS := shutG hs
    have HB := shutG hbel
    clear hs hbel
    by_cases hlt : k < len ∧ k < 64
    · obtain ⟨h1, h2⟩ := hlt
      have i1 : (k : Int) < (len : Int) := by omega
      have i2 : (k : Int) < 64 := by omega
      rcases hb with h0 | ⟨b, off, rfl, hbB, hc⟩
      · omega
      obtain ⟨x, hx, hcx⟩ := hc k h1
      have hcx2 : wr.cell? ⟨b, off + k, none⟩ = some (.int .u8 x) := (HB.out.cell (p := ⟨b, off + k, none⟩) hbB).trans hcx
      obtain ⟨M1, hM1, e1⟩ := xor_u64 (M : Int) (x : Int)
      obtain ⟨M2, hM2, e2⟩ := wrap_u64_nat ((M1 : Int) * 1099511628211)
      clear hc hcx
      go_wp2
      go_region
      go_wp2
      go_roundw
      case rel => exact ⟨k + 1, M2, by go_num, by omega, hM2, HS.out.put2 M2 _ rfl, (HB.out.setCell (Nat.le_refl _) _).drew⟩
      case measure => simp [intOf]; omega
    · have HBy := shutG hb
      clear hb
      have S1 := shutG (HS.out.put3 (len / 20) (.int .i64 ((len : Int) / 20)) (by go_num))
      have S2 := shutG (S1.out.put3 12 (.int .i64 12) rfl)
      have B1 := shutG (HB.out.setCell (p := ⟨w.heap.size, 3, none⟩) (Nat.le_refl _) (.int .i64 ((len : Int) / 20)))
      have B2 := shutG (B1.out.setCell (p := ⟨w.heap.size, 3, none⟩) (Nat.le_refl _) (.int .i64 12))
      by_cases h20 : 12 < (len : Int) / 20
      · by_cases h1 : k < len
        · have i1 : (k : Int) < (len : Int) := by omega
          have i2 : ¬ (k : Int) < 64 := by omega
          go_wp2
          go_ret
          exact ⟨rfl, B2.out, Nat.le_refl _, HBy.out.below B2.out, hl, 0, M, 12, S2.out, Nat.zero_le _, hM⟩
        · have i1 : ¬ (k : Int) < (len : Int) := by omega
          have d1 : decide ((k : Int) < (len : Int)) = false := by simpa using i1
          go_wp2
          go_ret
          exact ⟨rfl, B2.out, Nat.le_refl _, HBy.out.below B2.out, hl, 0, M, 12, S2.out, Nat.zero_le _, hM⟩
      · by_cases h1 : k < len
        · have i1 : (k : Int) < (len : Int) := by omega
          have i2 : ¬ (k : Int) < 64 := by omega
          go_wp2
          go_ret
          exact ⟨rfl, B1.out, Nat.le_refl _, HBy.out.below B1.out, hl, 0, M, len / 20, S1.out, Nat.zero_le _, hM⟩
        · have i1 : ¬ (k : Int) < (len : Int) := by omega
          have d1 : decide ((k : Int) < (len : Int)) = false := by simpa using i1
          go_wp2
          go_ret
          exact ⟨rfl, B1.out, Nat.le_refl _, HBy.out.below B1.out, hl, 0, M, len / 20, S1.out, Nat.zero_le _, hM⟩
end Go.Proofs.YtpdklkofflfjgaaDoor
