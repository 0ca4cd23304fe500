/-
  The program's steps of kinds that keep nothing: always, not, and, or, by their contracts.
-/
import Derived.Test.YtbfkbgmkibkbnaaGreatDoorPa21
namespace Go.Proofs.YtbfkbgmkibkbnaaGreatDoor
open Go.RowKit
set_option linter.unusedVariables false
set_option linter.unusedSimpArgs false
theorem kbelow4 (w : World) (o1 o2 o3 o4 : Obj) : Below w.heap.size w ((((w.alloc o1).alloc o2).alloc o3).alloc o4) := (kbelow3 w o1 o2 o3).alloc (by simp; omega) o4
set_option maxRecDepth 20000 in
set_option maxHeartbeats 2000000 in
theorem always_any (wf : Option Addr) (wn wc : Nat) (cnt now tm : Int) (na : Option Addr) (nn nc : Nat) (aa : Option Addr) (an ac : Nat) (x : Nd) (lo hi : Int) (a : Option Addr) (n c : Nat) (was : Bool) (w : World) :
    Calls Tryz.prog 126 #[.agg #[.slice wf wn wc, .int .i64 cnt, .int .i64 now, .int .i64 tm, .slice na nn nc, .slice aa an ac], .agg #[.int .i64 x.k, .int .i64 x.a, .int .i64 x.b, .int .i64 x.lo, .int .i64 x.hi, .string x.nm], .agg #[.int .i64 lo, .int .i64 hi, .slice a n c, .bool was]] w fun e w' => e = .returned (.tuple #[.bool true, .agg #[.int .i64 0, .int .i64 0, .slice none 0 0, .bool false]]) ∧ Below w.heap.size w w' := by
  go_enter Tryz.func126, Tryz.ntmps126
  go_wp2_with fail
  refine bodyPost_ret (v := .tuple #[.bool true, .agg #[.int .i64 0, .int .i64 0, .slice none 0 0, .bool false]]) (by simp [results, Tryz.results126, go_sem]) rfl ?_
  exact ⟨rfl, kbelow4 _ _ _ _ _⟩
set_option maxRecDepth 20000 in
set_option maxHeartbeats 2000000 in
theorem not_any (wf : Option Addr) (wn wc : Nat) (cnt now tm : Int) (na : Option Addr) (nn nc : Nat) (ab an ac : Nat) (x : Nd) (lo hi : Int) (a : Option Addr) (n c : Nat) (was : Bool) (i : Nat) (hi' : i < an) (ha : an ≤ 1048576) (hx : x.a = (i : Int)) (va : Bool) (w : World) (hab : ab < w.heap.size) (hc : w.cell? ⟨ab, i, none⟩ = some (.bool va)) :
    Calls Tryz.prog 128 #[.agg #[.slice wf wn wc, .int .i64 cnt, .int .i64 now, .int .i64 tm, .slice na nn nc, .slice (some ⟨ab, 0, none⟩) an ac], .agg #[.int .i64 x.k, .int .i64 x.a, .int .i64 x.b, .int .i64 x.lo, .int .i64 x.hi, .string x.nm], .agg #[.int .i64 lo, .int .i64 hi, .slice a n c, .bool was]] w fun e w' => e = .returned (.tuple #[.bool (!va), .agg #[.int .i64 0, .int .i64 0, .slice none 0 0, .bool false]]) ∧ Below w.heap.size w w' := by
  have h1 : ab < w.heap.size + 1 := by omega
  have h2 : ab < w.heap.size + 1 + 1 := by omega
  have h3 : ab < w.heap.size + 1 + 1 + 1 := by omega
  rw [hx]
  clear hx
  go_enter Tryz.func128, Tryz.ntmps128
  go_wp2_with fail
  refine bodyPost_ret (v := .tuple #[.bool (!va), .agg #[.int .i64 0, .int .i64 0, .slice none 0 0, .bool false]]) (by simp [results, Tryz.results128, go_sem]) rfl ?_
  exact ⟨rfl, kbelow4 _ _ _ _ _⟩
set_option maxRecDepth 20000 in
set_option maxHeartbeats 2000000 in
theorem and_any (wf : Option Addr) (wn wc : Nat) (cnt now tm : Int) (na : Option Addr) (nn nc : Nat) (ab an ac : Nat) (x : Nd) (lo hi : Int) (a : Option Addr) (n c : Nat) (was : Bool) (i j : Nat) (hi' : i < an) (hj' : j < an) (ha : an ≤ 1048576) (hx : x.a = (i : Int)) (hy : x.b = (j : Int)) (va vb : Bool) (w : World) (hab : ab < w.heap.size) (hc : w.cell? ⟨ab, i, none⟩ = some (.bool va)) (hd : w.cell? ⟨ab, j, none⟩ = some (.bool vb)) :
    Calls Tryz.prog 129 #[.agg #[.slice wf wn wc, .int .i64 cnt, .int .i64 now, .int .i64 tm, .slice na nn nc, .slice (some ⟨ab, 0, none⟩) an ac], .agg #[.int .i64 x.k, .int .i64 x.a, .int .i64 x.b, .int .i64 x.lo, .int .i64 x.hi, .string x.nm], .agg #[.int .i64 lo, .int .i64 hi, .slice a n c, .bool was]] w fun e w' => e = .returned (.tuple #[.bool (va && vb), .agg #[.int .i64 0, .int .i64 0, .slice none 0 0, .bool false]]) ∧ Below w.heap.size w w' := by
  have h1 : ab < w.heap.size + 1 := by omega
  have h2 : ab < w.heap.size + 1 + 1 := by omega
  have h3 : ab < w.heap.size + 1 + 1 + 1 := by omega
  rw [hx, hy]
  clear hx hy
  cases va
  all_goals
    go_enter Tryz.func129, Tryz.ntmps129
    go_wp2_with fail
    refine bodyPost_ret (by simp [results, Tryz.results129, go_sem]; rfl) rfl ?_
    exact ⟨rfl, kbelow4 _ _ _ _ _⟩
set_option maxRecDepth 20000 in
set_option maxHeartbeats 2000000 in
theorem or_any (wf : Option Addr) (wn wc : Nat) (cnt now tm : Int) (na : Option Addr) (nn nc : Nat) (ab an ac : Nat) (x : Nd) (lo hi : Int) (a : Option Addr) (n c : Nat) (was : Bool) (i j : Nat) (hi' : i < an) (hj' : j < an) (ha : an ≤ 1048576) (hx : x.a = (i : Int)) (hy : x.b = (j : Int)) (va vb : Bool) (w : World) (hab : ab < w.heap.size) (hc : w.cell? ⟨ab, i, none⟩ = some (.bool va)) (hd : w.cell? ⟨ab, j, none⟩ = some (.bool vb)) :
    Calls Tryz.prog 130 #[.agg #[.slice wf wn wc, .int .i64 cnt, .int .i64 now, .int .i64 tm, .slice na nn nc, .slice (some ⟨ab, 0, none⟩) an ac], .agg #[.int .i64 x.k, .int .i64 x.a, .int .i64 x.b, .int .i64 x.lo, .int .i64 x.hi, .string x.nm], .agg #[.int .i64 lo, .int .i64 hi, .slice a n c, .bool was]] w fun e w' => e = .returned (.tuple #[.bool (va || vb), .agg #[.int .i64 0, .int .i64 0, .slice none 0 0, .bool false]]) ∧ Below w.heap.size w w' := by
  have h1 : ab < w.heap.size + 1 := by omega
  have h2 : ab < w.heap.size + 1 + 1 := by omega
  have h3 : ab < w.heap.size + 1 + 1 + 1 := by omega
  rw [hx, hy]
  clear hx hy
  cases va
  all_goals
    go_enter Tryz.func130, Tryz.ntmps130
    go_wp2_with fail
    refine bodyPost_ret (by simp [results, Tryz.results130, go_sem]; rfl) rfl ?_
    exact ⟨rfl, kbelow4 _ _ _ _ _⟩
end Go.Proofs.YtbfkbgmkibkbnaaGreatDoor
