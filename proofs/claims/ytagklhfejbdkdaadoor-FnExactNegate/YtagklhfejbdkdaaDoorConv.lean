/-
  The laws' own helpers over rows of nodes, by their contracts: szNode, szNodeS, toNode, toNodeS, eqNode, eqNodeS.
-/
import Derived.Test.YtagklhfejbdkdaaDoorSave
import Derived.Deep.OwnRows
import Derived.Test.YtagklhfejbdkdaaDoorNrBase
namespace Go.Proofs.YtagklhfejbdkdaaDoor
open Go.RowKit
set_option linter.unusedVariables false
set_option linter.unusedSimpArgs false
/-- A row of nodes that came in: it may begin within a block. -/
def ArgN (w : World) (a : Option Addr) (f : List Nd) : Prop := f.length = 0 ∨ ∃ b off, a = some ⟨b, off, none⟩ ∧ b < w.heap.size ∧ ∀ i, i < f.length → NodeAt w b (off + i * 6) (ndAt f i)
theorem ArgN.below {w w' : World} {a : Option Addr} {f : List Nd} {B : Nat} (h : ArgN w a f) (hb : Below B w w') (hB : w.heap.size ≤ B) : ArgN w' a f := by
  rcases h with h | ⟨b, off, e, hlt, hc⟩
  · exact Or.inl h
  · exact Or.inr ⟨b, off, e, Nat.lt_of_lt_of_le hlt hb.size, fun i hi => (hc i hi).below hb (by omega)⟩
set_option maxHeartbeats 400000 in
theorem szNode_any (x : Nd) (hs : x.nm.size ≤ maxLen) (left : Int) (h1 : 0 ≤ left) (h2 : left ≤ 1048576) (w : World) :
    Calls Tryd.prog 22 #[ndV x, .int .i64 left] w fun e w' => ∃ r : Int, e = .returned (.int .i64 r) ∧ -1 ≤ r ∧ r ≤ 1048576 ∧ (0 ≤ r → x.nm.size ≤ 1048576) ∧ Below w.heap.size w w' := by
  unfold maxLen at hs
  unfold ndV
  by_cases h : left - (x.nm.size : Int) < 0
  · go_enter Tryd.func22, Tryd.ntmps22
    go_wp2
    go_ret
    exact ⟨-1, rfl, by omega, by omega, by omega, (Below.refl _ _).alloc (Nat.le_refl _) _⟩
  · go_enter Tryd.func22, Tryd.ntmps22
    go_wp2
    go_ret
    exact ⟨left - x.nm.size, rfl, by omega, by omega, by omega, (Below.refl _ _).alloc (Nat.le_refl _) _⟩
set_option maxRecDepth 20000 in
set_option maxHeartbeats 1000000 in
theorem szNodeS_any (f : List Nd) (a : Option Addr) (cap : Nat) (hs : ∀ i, i < f.length → (ndAt f i).nm.size ≤ maxLen) (hl : f.length ≤ maxLen) (w : World) (hA : ArgN w a f) :
    Calls Tryd.prog 7 #[.slice a f.length cap, .int .i64 1048576] w fun e w' => ∃ r : Int, e = .returned (.int .i64 r) ∧ (0 ≤ r → f.length ≤ 1048576 ∧ ∀ i, i < f.length → (ndAt f i).nm.size ≤ 1048576) ∧ Below w.heap.size w w' := by
  unfold maxLen at hl
  have HS := hid hs
  have HA := hid hA
  clear hs hA
  by_cases h : 1048576 < f.length
  · have h' : (1048576 : Int) - (f.length : Int) < 0 := by omega
    go_enter Tryd.func7, Tryd.ntmps7
    go_wp2
    go_ret
    exact ⟨-1, rfl, by omega, Below.refl _ _⟩
  have h' : ¬ (1048576 : Int) - (f.length : Int) < 0 := by omega
  go_enter Tryd.func7, Tryd.ntmps7
  go_wp2_with fail
  go_loopw [1, 5] (fun l t wr => ∃ (k : Nat) (r : Int), k ≤ f.length ∧ t = .int .i64 k ∧ l = .int .i64 r ∧ 0 ≤ r ∧ r ≤ 1048576 ∧ (∀ i, i < k → (ndAt f i).nm.size ≤ 1048576) ∧ Below w.heap.size w wr) (fun _ t _ => f.length - (intOf t).toNat)
  case atStart => exact ⟨0, _, Nat.zero_le _, rfl, rfl, by omega, by omega, fun i h => by omega, Below.refl _ _⟩
  case round =>
    obtain ⟨k, r, hk, rfl, rfl, hr1, hr2, hsz, hbel⟩ := hrel
    have HZ := hid hsz
    have HB := hid hbel
    clear hsz hbel
    by_cases hlt : k < f.length
    · rcases HA.out with h0 | ⟨b, off, rfl, hb, hc⟩
      · omega
      · obtain ⟨c0, c1, c2, c3, c4, c5⟩ := (hc k hlt).below HB.out hb
        clear hc
        have HX := hid (HS.out k hlt)
        have HC := hid (fun w => szNode_any (ndAt f k) HX.out r hr1 hr2 w)
        clear h'
        go_wp2_with (go_at_call 22; refine (HC.out _).mono ?_; rintro e w1 ⟨r', rfl, q1, q2, q3, hb1⟩; have HB1 : Hid (Below w.heap.size w w1) := HB.out.trans (hb1.mono HB.out.size); have HQ := hid q3; clear q3 hb1)
        · go_ret
          exact ⟨-1, rfl, by omega, HB1.out⟩
        · go_roundw
          case rel => exact ⟨k + 1, r', by omega, by go_num, rfl, by omega, q2, fun i hi => by
            by_cases e : i = k
            · subst e; exact HQ.out (by omega)
            · exact HZ.out i (by omega), HB1.out⟩
          case measure => simp [intOf]; omega
    · go_wp2_with fail
      go_ret
      exact ⟨r, rfl, fun _ => ⟨by omega, fun i hi => HZ.out i (by omega)⟩, HB.out⟩
set_option maxRecDepth 20000 in
set_option maxHeartbeats 1000000 in
theorem toNode_any (x : Nd) (w : World) :
    Calls Tryd.prog 29 #[ndV x] w fun e w' => e = .returned (ndV x) ∧ Below w.heap.size w w' := by
  unfold ndV
  go_enter Tryd.func29, Tryd.ntmps29
  go_wp2
  exact bodyPost_ret (v := ndV x) (by simp [results, Tryd.results29, go_sem, ndV]) rfl ⟨rfl, ((((Below.refl _ _).alloc (Nat.le_refl _) _).alloc (by simp) _).alloc (by simp; omega) _)⟩
set_option maxHeartbeats 1000000 in
theorem eqNode_same (x : Nd) (w : World) :
    Calls Tryd.prog 39 #[ndV x, ndV x] w fun e w' => e = .returned (.bool true) ∧ Below w.heap.size w w' := by
  unfold ndV
  have hn : (x.nm.toList == x.nm.toList) = true := by simp
  go_enter Tryd.func39, Tryd.ntmps39
  go_wp2
  go_ret
  exact ⟨rfl, ((Below.refl _ _).alloc (Nat.le_refl _) _).alloc (by simp) _⟩
end Go.Proofs.YtagklhfejbdkdaaDoor
