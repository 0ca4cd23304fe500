/-
  A ring at work: its atomic numbers (loaded, stored, compared and swapped, swapped), its size, its slots, by their contracts.
-/
import Derived.Test.YtfafeomegoikkaaRgC
import Derived.Test.YtfafeomegoikkaaRgX
import Derived.Laws.Pointers
import Derived.Laws.LoneSync
namespace Go.Proofs.Ytfafeomegoikkaa
open Go.RowKit
set_option linter.unusedVariables false
set_option linter.unusedSimpArgs false
/-- sync/atomic.SwapT: the number is stored, the elder one is handed back. -/
theorem run_call_swap {P : Program} {f : FuncId} {fn : Func} (hf : P.funcs[f]? = some fn) (hname : (fn.name == "runtime.NumGoroutine") = false) (hb : fn.body.isNone = true) (hn : Extern.findNext fn = none) (k : IntKind)
    (he : Extern.find fn = some (Extern.Atomic.swapT (.int k))) {a : Addr} {x y : Int} {w : World} (hc : w.cell? a = some (.int k x)) (hz : w.frozen? a = false) :
    (callFunc f #[.pointer (some a), .int k y]).run P w = .ok (.value (.int k x)) (w.setCell a (.int k y)) := by
  rw [run_callFunc_extern hf hname hb hn he]
  change (Sem.run P (do
    let a' ← asAddr (.pointer (some a))
    let old ← Extern.Atomic.read (.int k) a'
    store a' (.int k y) .atomic
    pure old) w).andThen _ = _
  simp [Extern.Atomic.read, asAddr, hc, hz, run_store P w a (.int k y) .atomic rfl, Result.andThen]
theorem at_load (b o : Nat) (x : Int) (w : World) (h : w.cell? ⟨b, o, none⟩ = some (.int .i64 x)) :
    Calls Try.prog 72 #[.pointer (some ⟨b, o, none⟩)] w fun e w' => e = .returned (.int .i64 x) ∧ w' = w := by
  have hl := run_call_load (P := Try.prog) Try.func83 (by kernel_rfl) (by kernel_rfl) (by kernel_rfl) .i64 (by kernel_rfl) h
  go_enter Try.func72, Try.ntmps72
  go_wp2
  go_ret
  exact ⟨rfl, rfl⟩
theorem at_store (b o : Nat) (y : Int) (u : Value) (w : World) (h : w.cell? ⟨b, o, none⟩ = some u) (f : w.frozen? ⟨b, o, none⟩ = false) :
    Calls Try.prog 77 #[.pointer (some ⟨b, o, none⟩), .int .i64 y] w fun e w' => e = .returned (.tuple #[]) ∧ w' = w.setCell ⟨b, o, none⟩ (.int .i64 y) := by
  have hl := run_call_store (P := Try.prog) Try.func85 (by kernel_rfl) (by kernel_rfl) (by kernel_rfl) (by kernel_rfl) (k := .i64) (y := y) h f
  go_enter Try.func77, Try.ntmps77
  go_wp2
  go_end0
  exact ⟨rfl, rfl⟩
theorem at_hit (b o : Nat) (x y : Int) (w : World) (h : w.cell? ⟨b, o, none⟩ = some (.int .i64 x)) (f : w.frozen? ⟨b, o, none⟩ = false) :
    Calls Try.prog 74 #[.pointer (some ⟨b, o, none⟩), .int .i64 x, .int .i64 y] w fun e w' => e = .returned (.bool true) ∧ w' = w.setCell ⟨b, o, none⟩ (.int .i64 y) := by
  have hl := run_call_cas_hit (P := Try.prog) Try.func84 (by kernel_rfl) (by kernel_rfl) (by kernel_rfl) .i64 (by kernel_rfl) (y := y) h f
  go_enter Try.func74, Try.ntmps74
  go_wp2
  go_ret
  exact ⟨rfl, rfl⟩
theorem at_miss (b o : Nat) (x z y : Int) (hne : ¬ x = z) (w : World) (h : w.cell? ⟨b, o, none⟩ = some (.int .i64 x)) (f : w.frozen? ⟨b, o, none⟩ = false) :
    Calls Try.prog 74 #[.pointer (some ⟨b, o, none⟩), .int .i64 z, .int .i64 y] w fun e w' => e = .returned (.bool false) ∧ w' = w := by
  have hl := run_call_cas_miss (P := Try.prog) Try.func84 (by kernel_rfl) (by kernel_rfl) (by kernel_rfl) .i64 (by kernel_rfl) (y := y) h f hne
  go_enter Try.func74, Try.ntmps74
  go_wp2
  go_ret
  exact ⟨rfl, rfl⟩
theorem at_swap (b o : Nat) (x y : Int) (w : World) (h : w.cell? ⟨b, o, none⟩ = some (.int .i64 x)) (f : w.frozen? ⟨b, o, none⟩ = false) :
    Calls Try.prog 78 #[.pointer (some ⟨b, o, none⟩), .int .i64 y] w fun e w' => e = .returned (.int .i64 x) ∧ w' = w.setCell ⟨b, o, none⟩ (.int .i64 y) := by
  have hl := run_call_swap (P := Try.prog) Try.func86 (by kernel_rfl) (by kernel_rfl) (by kernel_rfl) .i64 (by kernel_rfl) (y := y) h f
  go_enter Try.func78, Try.ntmps78
  go_wp2
  go_ret
  exact ⟨rfl, rfl⟩
/-- A ring at work. -/
structure WAt (w : World) (wb sb : Nat) (H T : Int) (n : Nat) (Z : List Int) : Prop where
  lt : wb < w.heap.size
  ne : ¬ wb = sb
  c0 : w.cell? ⟨wb, 0, none⟩ = some (.int .i64 H)
  c1 : w.cell? ⟨wb, 1, none⟩ = some (.int .i64 T)
  c2 : w.cell? ⟨wb, 2, none⟩ = some (.slice (some ⟨sb, 0, none⟩) n n)
  f0 : w.frozen? ⟨wb, 0, none⟩ = false
  f1 : w.frozen? ⟨wb, 1, none⟩ = false
  row : w.rowIs sb 96 (n * 2) (fun j => .int .i64 (zAt Z j))
  len : Z.length = n * 2
theorem WAt.slt {w : World} {wb sb : Nat} {H T : Int} {n : Nat} {Z : List Int} (h : WAt w wb sb H T n Z) : sb < w.heap.size := h.row.lt
theorem WAt.on {w w' : World} {wb sb : Nat} {H T : Int} {n : Nat} {Z : List Int} (h : WAt w wb sb H T n Z) (hb : Below w.heap.size w w') : WAt w' wb sb H T n Z :=
  ⟨Nat.lt_of_lt_of_le h.lt hb.size, h.ne, (hb.cell (p := ⟨wb, _, none⟩) h.lt).trans h.c0, (hb.cell (p := ⟨wb, _, none⟩) h.lt).trans h.c1, (hb.cell (p := ⟨wb, _, none⟩) h.lt).trans h.c2, (hb.frozen (p := ⟨wb, _, none⟩) h.lt).trans h.f0, (hb.frozen (p := ⟨wb, _, none⟩) h.lt).trans h.f1, h.row.of_block (hb.block sb h.slt), h.len⟩
theorem frozen_set {w : World} {p a : Addr} {v : Value} (h : w.frozen? p = false) : (w.setCell a v).frozen? p = false := by simpa using h
theorem size_set (w : World) (p : Addr) (v : Value) : (w.setCell p v).heap.size = w.heap.size := by simp
theorem WAt.head {w : World} {wb sb : Nat} {H T : Int} {n : Nat} {Z : List Int} (h : WAt w wb sb H T n Z) (x : Int) : WAt (w.setCell ⟨wb, 0, none⟩ (.int .i64 x)) wb sb x T n Z :=
  ⟨by rw [size_set]; exact h.lt, h.ne, by simp [go_sem, h.c0], by rw [World.cell?_setCell_other _ _ _ _ (by simp)]; exact h.c1, by rw [World.cell?_setCell_other _ _ _ _ (by simp)]; exact h.c2, frozen_set h.f0, frozen_set h.f1, h.row.setOther (fun e => h.ne e.symm) _, h.len⟩
theorem WAt.tail {w : World} {wb sb : Nat} {H T : Int} {n : Nat} {Z : List Int} (h : WAt w wb sb H T n Z) (x : Int) : WAt (w.setCell ⟨wb, 1, none⟩ (.int .i64 x)) wb sb H x n Z :=
  ⟨by rw [size_set]; exact h.lt, h.ne, by rw [World.cell?_setCell_other _ _ _ _ (by simp)]; exact h.c0, by simp [go_sem, h.c1], by rw [World.cell?_setCell_other _ _ _ _ (by simp)]; exact h.c2, frozen_set h.f0, frozen_set h.f1, h.row.setOther (fun e => h.ne e.symm) _, h.len⟩
theorem zAt_set (Z : List Int) (j : Nat) (x : Int) (hj : j < Z.length) (i : Nat) : zAt (Z.set j x) i = if i = j then x else zAt Z i := by
  unfold zAt
  by_cases e : i = j
  · subst e; simp [hj]
  · rw [if_neg e]
    simp [List.getD, List.getElem?_set, Ne.symm e]
theorem WAt.slot {w : World} {wb sb : Nat} {H T : Int} {n : Nat} {Z : List Int} (h : WAt w wb sb H T n Z) (j : Nat) (hj : j < n * 2) (x : Int) : WAt (w.setCell ⟨sb, j, none⟩ (.int .i64 x)) wb sb H T n (Z.set j x) := by
  have hn : (⟨sb, j, none⟩ : Addr).block ≠ wb := fun e => h.ne e.symm
  refine ⟨by rw [size_set]; exact h.lt, h.ne, ?_, ?_, ?_, frozen_set h.f0, frozen_set h.f1, ?_, by simpa using h.len⟩
  · rw [World.cell?_setCell_other _ _ _ _ (by intro e; injection e with e; exact h.ne e.symm)]; exact h.c0
  · rw [World.cell?_setCell_other _ _ _ _ (by intro e; injection e with e; exact h.ne e.symm)]; exact h.c1
  · rw [World.cell?_setCell_other _ _ _ _ (by intro e; injection e with e; exact h.ne e.symm)]; exact h.c2
  · refine (h.row.set j (.int .i64 x)).congr (fun i hi => ?_)
    rw [zAt_set Z j x (by rw [h.len]; exact hj)]
    split <;> rfl
theorem wsize_any (wb sb : Nat) (H T : Int) (n : Nat) (Z : List Int) (w : World) (h : WAt w wb sb H T n Z) :
    Calls Try.prog 73 #[.pointer (some ⟨wb, 0, none⟩)] w fun e w' => e = .returned (.int .i64 n) ∧ w' = w := by
  have c2 := h.c2
  go_enter Try.func73, Try.ntmps73
  go_wp2
  go_ret
  exact ⟨rfl, rfl⟩
set_option maxHeartbeats 1000000 in
theorem wslot_any (wb sb : Nat) (H T : Int) (n P : Nat) (hn : 1 ≤ n) (hn2 : n ≤ 16) (hP : P ≤ 3000000) (Z : List Int) (w : World) (h : WAt w wb sb H T n Z) :
    Calls Try.prog 76 #[.pointer (some ⟨wb, 0, none⟩), .int .i64 P] w fun e w' => e = .returned (.pointer (some ⟨sb, P % n * 2, none⟩)) ∧ Below w.heap.size w w' := by
  have hm : (P : Int).tmod (n : Int) = ((P % n : Nat) : Int) := by rw [Int.tmod_eq_emod_of_nonneg (by omega)]; rfl
  have hlt : P % n < n := Nat.mod_lt _ hn
  have hC0 : ¬ n = 0 := by omega
  have HW := hid (fun w h => wsize_any wb sb H T n Z w h)
  have HD := hid (h.on (below_drew (Below.refl _ _)))
  have c2 := h.c2
  generalize P % n = i at *
  clear h
  go_enter Try.func76, Try.ntmps76
  go_wp2_with fail
  go_region_with (go_at_call 73; refine (HW.out _ HD.out).mono ?_; rintro e w1 ⟨rfl, rfl⟩)
  all_goals
    go_wp2_with fail
    go_ret
    exact ⟨rfl, below_drew (Below.refl _ _)⟩
end Go.Proofs.Ytfafeomegoikkaa
