/-
  The source of draws: what its block holds, and its method n by its contract.
-/
import Derived.Test.YtpdklkofflfjgaaDoorPutText
import Derived.BigRegion
import Derived.BigQuiet
import Derived.Deep.QuietTactic
namespace Go.Proofs.YtpdklkofflfjgaaDoor
open Go.RowKit

/-- The bytes of a slice that came in lie below block B. -/
def Bytes (w : World) (B : Nat) (a : Option Addr) (len : Nat) : Prop :=
  len = 0 ∨ ∃ b off, a = some ⟨b, off, none⟩ ∧ b < B ∧ ∀ i, i < len → ∃ z : Nat, z < 256 ∧ w.cell? ⟨b, off + i, none⟩ = some (.int .u8 z)
/-- The source's block. -/
def SrcAt (w : World) (S : Nat) (v : Value) (p M z : Nat) : Prop := w.heap[S]? = some (.cells #[v, .int .i64 p, .int .u64 M, .int .i64 z] 59 (0, 0))
def SrcOk (w : World) (B S : Nat) (a : Option Addr) (len cap : Nat) : Prop :=
  B ≤ S ∧ Bytes w B a len ∧ len ≤ 1048576 ∧ ∃ p M z : Nat, SrcAt w S (.slice a len cap) p M z ∧ p ≤ len ∧ M < 18446744073709551616
theorem shutG {p : Prop} (h : p) : Hid p := h
theorem xor_u64 (x y : Int) : ∃ M : Nat, M < 18446744073709551616 ∧ bits .xor .u64 x y = (M : Int) := by
  have h : 0 ≤ bits .xor .u64 x y ∧ bits .xor .u64 x y < 18446744073709551616 := by
    show 0 ≤ IntKind.u64.wrap _ ∧ IntKind.u64.wrap _ < _
    rw [IntKind.wrap_u64]
    omega
  exact ⟨(bits .xor .u64 x y).toNat, by omega, by omega⟩

theorem SrcAt.cell {w : World} {S : Nat} {v : Value} {p M z : Nat} (h : SrcAt w S v p M z) :
    w.cell? ⟨S, 0, none⟩ = some v ∧ w.cell? ⟨S, 1, none⟩ = some (.int .i64 p) ∧ w.cell? ⟨S, 2, none⟩ = some (.int .u64 M) ∧ w.cell? ⟨S, 3, none⟩ = some (.int .i64 z) ∧ ∀ o, w.frozen? ⟨S, o, none⟩ = false := by
  have h0 := fun j => cell_of_row w S j _ 59 (0, 0) h
  exact ⟨by rw [h0]; rfl, by rw [h0]; rfl, by rw [h0]; rfl, by rw [h0]; rfl, fun o => frozen_of_row w S o _ 59 h⟩
theorem SrcAt.put1 {w : World} {S : Nat} {v : Value} {p M z : Nat} (h : SrcAt w S v p M z) (p' : Nat) (x : Value) (hx : x = .int .i64 p') : SrcAt (w.setCell ⟨S, 1, none⟩ x) S v p' M z := by
  subst hx
  have := heap_setCell_same w S 1 _ 59 (.int .i64 p') h
  simpa [SrcAt] using this
theorem SrcAt.put2 {w : World} {S : Nat} {v : Value} {p M z : Nat} (h : SrcAt w S v p M z) (M' : Nat) (x : Value) (hx : x = .int .u64 M') : SrcAt (w.setCell ⟨S, 2, none⟩ x) S v p M' z := by
  subst hx
  have := heap_setCell_same w S 2 _ 59 (.int .u64 M') h
  simpa [SrcAt] using this
theorem grown_refl (w : World) (r : Option Nat) : w.grownBy w r := ⟨rfl, rfl, rfl, Nat.le_refl _, fun _ _ _ => rfl⟩
theorem grown_drew {w w' : World} {r : Option Nat} (h : w.grownBy w' r) : w.grownBy w'.drew r := ⟨h.os, h.tape, h.output, h.size, h.block⟩
theorem grown_set {w w' : World} {S o : Nat} (h : w.grownBy w' (some S)) (v : Value) : w.grownBy (w'.setCell ⟨S, o, none⟩ v) (some S) :=
  ⟨h.os, h.tape, h.output, by simpa [World.setCell] using h.size, fun k hk hne => (Below.heap_setCell _ _ _ _ (fun e => hne (by rw [e]))).trans (h.block k hk hne)⟩
theorem grown_trans {w w1 w2 : World} {r : Option Nat} (h : w.grownBy w1 r) (h2 : w1.grownBy w2 r) : w.grownBy w2 r :=
  ⟨h2.os.trans h.os, h2.tape.trans h.tape, h2.output.trans h.output, Nat.le_trans h.size h2.size, fun k hk hne => (h2.block k (Nat.lt_of_lt_of_le hk h.size) hne).trans (h.block k hk hne)⟩
theorem Bytes.kept {w w' : World} {B S : Nat} {a : Option Addr} {len : Nat} (h : Bytes w B a len) (hB : B ≤ S) (hg : w.grownBy w' (some S)) : Bytes w' B a len := by
  rcases h with h | ⟨b, off, rfl, hb, hc⟩
  · exact Or.inl h
  · refine Or.inr ⟨b, off, rfl, hb, fun i hi => ?_⟩
    obtain ⟨z, hz, hcz⟩ := hc i hi
    exact ⟨z, hz, hg.cell hcz (by intro e; simp at e; omega)⟩

theorem rem_in (y most : Int) (hm : 1 < most) (hm2 : most < 9223372036854775808) : 0 ≤ wrap64 (y % most) ∧ wrap64 (y % most) < most := by
  have h1 := Int.emod_nonneg y (show most ≠ 0 by omega)
  have h2 := Int.emod_lt_of_pos y (show 0 < most by omega)
  rw [IntWalk.wrap64_in _ ⟨by omega, by omega⟩]
  exact ⟨h1, h2⟩

set_option maxHeartbeats 8000000 in
set_option maxRecDepth 100000 in
theorem n_core (w : World) (S : Nat) (a : Option Addr) (len cap p M z : Nat) (hs : SrcAt w S (.slice a len cap) p M z) (hl : len ≤ 1048576) (hp : p ≤ len)
    (hr : p < len → ∃ b off x : Nat, a = some ⟨b, off, none⟩ ∧ b ≠ S ∧ x < 256 ∧ w.cell? ⟨b, off + p, none⟩ = some (.int .u8 x)) (most : Int) (hm : 1 < most) (hm2 : most < 9223372036854775808) :
    Calls Tryd.prog 25 #[.pointer (some ⟨S, 0, none⟩), .int .i64 most] w fun e w' => (∃ v : Int, e = .returned (.int .i64 v) ∧ 0 ≤ v ∧ v < most) ∧ w.grownBy w' (some S) ∧ ∃ p' M' : Nat, SrcAt w' S (.slice a len cap) p' M' z ∧ p' ≤ len ∧ M' < 18446744073709551616 := by
  obtain ⟨c0, c1, c2, c3, hf⟩ := hs.cell
  have HS := shutG hs
  have HG := shutG (grown_refl w (some S))
  by_cases hlt : p < len
  · obtain ⟨b, off, x, rfl, hb, hx, hcx⟩ := hr hlt
    have i1 : (p : Int) < (len : Int) := by omega
    clear hr hs
    go_enter Tryd.func25, Tryd.ntmps25
    go_wp2
    go_region
    go_wp2
    go_region
    go_wp2
    have S7 := shutG (HS.out.put1 (p + 1) (.int .i64 ((p : Int) + 1)) (by go_num))
    have G7 := shutG (grown_drew (grown_drew (grown_set HG.out (.int .i64 ((p : Int) + 1)) (o := 1))))
    generalize hw7 : (w.setCell ⟨S, 1, none⟩ (.int .i64 ((p : Int) + 1))).drew.drew = w7
    replace S7 : Hid (SrcAt w7 S (.slice (some ⟨b, off, none⟩) len cap) (p + 1) M z) := by rw [← hw7]; exact S7.out
    replace G7 : Hid (w.grownBy w7 (some S)) := by rw [← hw7]; exact G7.out
    clear hcx
    clear hw7 HS HG c0 c1 c2 c3 hf
    obtain ⟨c0, c1, c2, c3, hf⟩ := S7.out.cell
    obtain ⟨M1, hM1, e1⟩ := xor_u64 (M : Int) (IntKind.u64.wrap ((M : Int) * 8192))
    have S8 := shutG (S7.out.put2 M1 (.int .u64 (M1 : Int)) rfl)
    have G8 := shutG (grown_drew (grown_set G7.out (.int .u64 (M1 : Int)) (o := 2)))
    go_region
    go_wp2
    generalize hw8 : (w7.setCell ⟨S, 2, none⟩ (.int .u64 (M1 : Int))).drew = w8
    replace S8 : Hid (SrcAt w8 S (.slice (some ⟨b, off, none⟩) len cap) (p + 1) M1 z) := by rw [← hw8]; exact S8.out
    replace G8 : Hid (w.grownBy w8 (some S)) := by rw [← hw8]; exact G8.out
    clear hw8 S7 G7 c0 c1 c2 c3 hf e1
    obtain ⟨c0, c1, c2, c3, hf⟩ := S8.out.cell
    obtain ⟨M2, hM2, e2⟩ := xor_u64 (M1 : Int) ((M1 : Int) / 128)
    have S9 := shutG (S8.out.put2 M2 (.int .u64 (M2 : Int)) rfl)
    have G9 := shutG (grown_drew (grown_set G8.out (.int .u64 (M2 : Int)) (o := 2)))
    go_region
    go_wp2
    generalize hw9 : (w8.setCell ⟨S, 2, none⟩ (.int .u64 (M2 : Int))).drew = w9
    replace S9 : Hid (SrcAt w9 S (.slice (some ⟨b, off, none⟩) len cap) (p + 1) M2 z) := by rw [← hw9]; exact S9.out
    replace G9 : Hid (w.grownBy w9 (some S)) := by rw [← hw9]; exact G9.out
    clear hw9 S8 G8 c0 c1 c2 c3 hf e2
    obtain ⟨c0, c1, c2, c3, hf⟩ := S9.out.cell
    obtain ⟨M3, hM3, e3⟩ := xor_u64 (M2 : Int) (IntKind.u64.wrap ((M2 : Int) * 131072))
    have SA := shutG (S9.out.put2 M3 (.int .u64 (M3 : Int)) rfl)
    have GA := shutG (grown_drew (grown_set G9.out (.int .u64 (M3 : Int)) (o := 2)))
    go_region
    generalize hwA : (w9.setCell ⟨S, 2, none⟩ (.int .u64 (M3 : Int))).drew = wA
    replace SA : Hid (SrcAt wA S (.slice (some ⟨b, off, none⟩) len cap) (p + 1) M3 z) := by rw [← hwA]; exact SA.out
    replace GA : Hid (w.grownBy wA (some S)) := by rw [← hwA]; exact GA.out
    clear hwA S9 G9 c0 c1 c2 c3 hf e3
    obtain ⟨c0, c1, c2, c3, hf⟩ := SA.out.cell
    go_wp2
    go_ret
    exact ⟨⟨_, rfl, rem_in _ most hm hm2⟩, GA.out, _, _, SA.out, by omega, hM3⟩
  · have i1 : ¬ (p : Int) < (len : Int) := by omega
    have d1 : decide ((p : Int) < (len : Int)) = false := by simpa using i1
    clear hr hs
    go_enter Tryd.func25, Tryd.ntmps25
    go_wp2
    go_region
    go_wp2
    have S7 := HS
    have G7 := shutG (grown_drew HG.out)
    generalize hw7 : w.drew = w7
    replace S7 : Hid (SrcAt w7 S (.slice a len cap) p M z) := by rw [← hw7]; exact S7.out
    replace G7 : Hid (w.grownBy w7 (some S)) := by rw [← hw7]; exact G7.out
    clear hw7 HS HG c0 c1 c2 c3 hf
    obtain ⟨c0, c1, c2, c3, hf⟩ := S7.out.cell
    obtain ⟨M1, hM1, e1⟩ := xor_u64 (M : Int) (IntKind.u64.wrap ((M : Int) * 8192))
    have S8 := shutG (S7.out.put2 M1 (.int .u64 (M1 : Int)) rfl)
    have G8 := shutG (grown_drew (grown_set G7.out (.int .u64 (M1 : Int)) (o := 2)))
    go_region
    go_wp2
    generalize hw8 : (w7.setCell ⟨S, 2, none⟩ (.int .u64 (M1 : Int))).drew = w8
    replace S8 : Hid (SrcAt w8 S (.slice a len cap) p M1 z) := by rw [← hw8]; exact S8.out
    replace G8 : Hid (w.grownBy w8 (some S)) := by rw [← hw8]; exact G8.out
    clear hw8 S7 G7 c0 c1 c2 c3 hf e1
    obtain ⟨c0, c1, c2, c3, hf⟩ := S8.out.cell
    obtain ⟨M2, hM2, e2⟩ := xor_u64 (M1 : Int) ((M1 : Int) / 128)
    have S9 := shutG (S8.out.put2 M2 (.int .u64 (M2 : Int)) rfl)
    have G9 := shutG (grown_drew (grown_set G8.out (.int .u64 (M2 : Int)) (o := 2)))
    go_region
    go_wp2
    generalize hw9 : (w8.setCell ⟨S, 2, none⟩ (.int .u64 (M2 : Int))).drew = w9
    replace S9 : Hid (SrcAt w9 S (.slice a len cap) p M2 z) := by rw [← hw9]; exact S9.out
    replace G9 : Hid (w.grownBy w9 (some S)) := by rw [← hw9]; exact G9.out
    clear hw9 S8 G8 c0 c1 c2 c3 hf e2
    obtain ⟨c0, c1, c2, c3, hf⟩ := S9.out.cell
    obtain ⟨M3, hM3, e3⟩ := xor_u64 (M2 : Int) (IntKind.u64.wrap ((M2 : Int) * 131072))
    have SA := shutG (S9.out.put2 M3 (.int .u64 (M3 : Int)) rfl)
    have GA := shutG (grown_drew (grown_set G9.out (.int .u64 (M3 : Int)) (o := 2)))
    go_region
    generalize hwA : (w9.setCell ⟨S, 2, none⟩ (.int .u64 (M3 : Int))).drew = wA
    replace SA : Hid (SrcAt wA S (.slice a len cap) p M3 z) := by rw [← hwA]; exact SA.out
    replace GA : Hid (w.grownBy wA (some S)) := by rw [← hwA]; exact GA.out
    clear hwA S9 G9 c0 c1 c2 c3 hf e3
    obtain ⟨c0, c1, c2, c3, hf⟩ := SA.out.cell
    go_wp2
    go_ret
    exact ⟨⟨_, rfl, rem_in _ most hm hm2⟩, GA.out, _, _, SA.out, by omega, hM3⟩
end Go.Proofs.YtpdklkofflfjgaaDoor
