/-
  The model's l04In, l04Holds by their contracts.
-/
import Derived.Test.YtnbegpplbjppoaaDoorMean
import Derived.Test.YtnbegpplbjppoaaDoorRight
import Derived.Test.YtnbegpplbjppoaaDoorEvTr
import Derived.Lib.QuietBelow
import Derived.BigQuiet
namespace Go.Proofs.YtnbegpplbjppoaaDoor
open Go.RowKit
set_option linter.unusedVariables false
set_option linter.unusedSimpArgs false
theorem specIn_any (lo hi n : Int) (w : World) :
    Calls Tryd.prog 50 #[.int .i64 lo, .int .i64 hi, .int .i64 n] w fun e w' => e = .returned (.bool (inB lo hi n)) ∧ w' = w := by
  by_cases h1 : lo ≤ n <;> by_cases h2 : hi = -1 <;> by_cases h3 : n ≤ hi
  all_goals
    first
    | subst h2
      go_enter Tryd.func50, Tryd.ntmps50
      go_wp2
      go_ret
      exact ⟨ret_bool (by simp [inB]; omega), rfl⟩
    | have h2' : (hi == -1) = false := by simpa using h2
      go_enter Tryd.func50, Tryd.ntmps50
      go_wp2
      go_ret
      exact ⟨ret_bool (by simp [inB, h2]; omega), rfl⟩
theorem specIn_is (lo hi n : Int) (v : Bool) (hv : inB lo hi n = v) (w : World) :
    Calls Tryd.prog 50 #[.int .i64 lo, .int .i64 hi, .int .i64 n] w fun e w' => e = .returned (.bool v) ∧ w' = w := by
  subst hv
  exact specIn_any lo hi n w
/-- The first k rows of a table lie at a slice. -/
def TabAt (w : World) (a : Option Addr) (k len : Nat) (T : Nat → Nat → Bool) : Prop := k = 0 ∨ ∃ b, a = some ⟨b, 0, none⟩ ∧ b < w.heap.size ∧ ∀ m, m < k → ∃ rb rc, w.cell? ⟨b, m, none⟩ = some (.slice (some ⟨rb, 0, none⟩) len rc) ∧ rb < w.heap.size ∧ ∀ j, j < len → w.cell? ⟨rb, j, none⟩ = some (.bool (T m j))
theorem TabAt.below {w w' : World} {a : Option Addr} {k len : Nat} {T : Nat → Nat → Bool} (h : TabAt w a k len T) (hb : Below w.heap.size w w') : TabAt w' a k len T :=
  h.imp id (fun ⟨b, e, h1, h2⟩ => ⟨b, e, Nat.lt_of_lt_of_le h1 hb.size, fun m hm => by
    obtain ⟨rb, rc, q1, q2, q3⟩ := h2 m hm
    exact ⟨rb, rc, (hb.cell (p := ⟨b, m, none⟩) h1).trans q1, Nat.lt_of_lt_of_le q2 hb.size, fun j hj => (hb.cell (p := ⟨rb, j, none⟩) q2).trans (q3 j hj)⟩⟩)
structure HoldIn (w : World) (f : List Nd) (L : List Evt) (n i fb eb : Nat) (ta : Option Addr) : Prop where
  nodes : NodesAt w fb f
  evs : EvsAt w eb L
  tab : TabAt w ta n L.length (hv f L)
  hn : n < f.length
  hi : i < L.length
  fl : f.length ≤ 24
  ll : L.length ≤ 60
  arms : armsOk (ndAt f n) n
  times : ∀ j, j < L.length → 0 ≤ (evAt L j).1 ∧ (evAt L j).1 ≤ 1000000
  nms : ∀ j, j < L.length → (evAt L j).2.length ≤ maxLen
theorem HoldIn.below {w w' : World} {f : List Nd} {L : List Evt} {n i fb eb : Nat} {ta : Option Addr} (h : HoldIn w f L n i fb eb ta) (hb : Below w.heap.size w w') : HoldIn w' f L n i fb eb ta :=
  ⟨h.nodes.below hb h.nodes.1, h.evs.below hb, h.tab.below hb, h.hn, h.hi, h.fl, h.ll, h.arms, h.times, h.nms⟩
theorem arms_a {x : Nd} {n : Nat} (h : armsOk x n) (hk : 0 < armsN x.k) : ∃ p : Nat, x.a = p ∧ p < n := by
  obtain ⟨h1, h2⟩ := h.1 hk
  exact ⟨x.a.toNat, by omega, by omega⟩
theorem arms_b {x : Nd} {n : Nat} (h : armsOk x n) (hk : 1 < armsN x.k) : ∃ p : Nat, x.b = p ∧ p < n := by
  obtain ⟨h1, h2⟩ := h.2 hk
  exact ⟨x.b.toNat, by omega, by omega⟩
/-- A cell of the table. -/
theorem TabAt.get {w : World} {a : Option Addr} {k len : Nat} {T : Nat → Nat → Bool} (h : TabAt w a k len T) {m : Nat} (hm : m < k) : ∃ b rb rc, a = some ⟨b, 0, none⟩ ∧ b < w.heap.size ∧ rb < w.heap.size ∧ w.cell? ⟨b, m, none⟩ = some (.slice (some ⟨rb, 0, none⟩) len rc) ∧ ∀ j, j < len → w.cell? ⟨rb, j, none⟩ = some (.bool (T m j)) := by
  rcases h with h | ⟨b, e, h1, h2⟩
  · omega
  · obtain ⟨rb, rc, q1, q2, q3⟩ := h2 m hm
    exact ⟨b, rb, rc, e, h1, q2, q1, q3⟩
/-! ### What a node means, kind by kind -/
section
variable (f : List Nd) (L : List Evt) (n i : Nat) (hd : armsOk (ndAt f n) n)
include hd
theorem hv1 (hk : (ndAt f n).k = 1) : hv f L n i = true := by rw [hv_eq f L n i hd]; simp [holdB, hk]
theorem hv2 (hk : (ndAt f n).k = 2) : hv f L n i = nhTo (evAt L i).2 (ndAt f n).nm (evAt L i).2.length := by rw [hv_eq f L n i hd]; simp [holdB, hk]
theorem hv3 (hk : (ndAt f n).k = 3) (p : Nat) (hp : (ndAt f n).a = p) : hv f L n i = !hv f L p i := by rw [hv_eq f L n i hd]; simp [holdB, hk, hp]
theorem hv4 (hk : (ndAt f n).k = 4) (p : Nat) (hp : (ndAt f n).a = p) (q : Nat) (hq : (ndAt f n).b = q) : hv f L n i = (hv f L p i && hv f L q i) := by rw [hv_eq f L n i hd]; simp [holdB, hk, hp, hq]
theorem hv5 (hk : (ndAt f n).k = 5) (p : Nat) (hp : (ndAt f n).a = p) (q : Nat) (hq : (ndAt f n).b = q) : hv f L n i = (hv f L p i || hv f L q i) := by rw [hv_eq f L n i hd]; simp [holdB, hk, hp, hq]
theorem hv6 (hk : (ndAt f n).k = 6) (p : Nat) (hp : (ndAt f n).a = p) : hv f L n i = (decide (0 < i) && (gapB (ndAt f n) L (i - 1) i && hv f L p (i - 1))) := by rw [hv_eq f L n i hd]; simp [holdB, hk, hp]
theorem hv7 (hk : (ndAt f n).k = 7) (p : Nat) (hp : (ndAt f n).a = p) : hv f L n i = onceTo (ndAt f n) L i (hv f L p) (i + 1) := by rw [hv_eq f L n i hd]; simp [holdB, hk, hp]
theorem hv8 (hk : (ndAt f n).k = 8) (p : Nat) (hp : (ndAt f n).a = p) : hv f L n i = !onceTo (ndAt f n) L i (fun j => !hv f L p j) (i + 1) := by rw [hv_eq f L n i hd]; simp [holdB, hk, hp]
theorem hv9 (hk : (ndAt f n).k = 9) (p : Nat) (hp : (ndAt f n).a = p) (q : Nat) (hq : (ndAt f n).b = q) : hv f L n i = sinceTo (ndAt f n) L i (hv f L p) (hv f L q) (i + 1) := by rw [hv_eq f L n i hd]; simp [holdB, hk, hp, hq]
end
set_option maxRecDepth 20000 in
set_option maxHeartbeats 1000000 in
theorem specHold1 (f : List Nd) (L : List Evt) (n i fb eb : Nat) (ta : Option Addr) (fc tc ec : Nat) (w : World) (h : HoldIn w f L n i fb eb ta) (hk : (ndAt f n).k = 1) :
    Calls Tryd.prog 36 #[.slice (some ⟨fb, 0, none⟩) f.length fc, .slice ta n tc, .int .i64 n, .slice (some ⟨eb, 0, none⟩) L.length ec, .int .i64 i] w fun e w' => e = .returned (.bool (hv f L n i)) ∧ Below w.heap.size w w' := by
  obtain ⟨c0, c1, c2, c3, c4, c5⟩ := h.nodes.2 n h.hn
  have hn := h.hn
  have hfl := h.fl
  have HV := hid (hv1 f L n i h.arms hk)
  rw [hk] at c0
  have HK := hid hk
  clear h hk
  generalize ndAt f n = x at *
  go_enter Tryd.func36, Tryd.ntmps36
  go_wp2_with fail
  go_ret
  exact ⟨ret_bool HV.out.symm, (Below.refl _ _).alloc (Nat.le_refl _) _⟩
set_option maxRecDepth 20000 in
set_option maxHeartbeats 1000000 in
theorem specHold3 (f : List Nd) (L : List Evt) (n i fb eb : Nat) (ta : Option Addr) (fc tc ec : Nat) (w : World) (h : HoldIn w f L n i fb eb ta) (hk : (ndAt f n).k = 3) :
    Calls Tryd.prog 36 #[.slice (some ⟨fb, 0, none⟩) f.length fc, .slice ta n tc, .int .i64 n, .slice (some ⟨eb, 0, none⟩) L.length ec, .int .i64 i] w fun e w' => e = .returned (.bool (hv f L n i)) ∧ Below w.heap.size w w' := by
  obtain ⟨c0, c1, c2, c3, c4, c5⟩ := h.nodes.2 n h.hn
  have hn := h.hn
  have hi := h.hi
  have hfl := h.fl
  have hll := h.ll
  obtain ⟨p, hp, hpn⟩ := arms_a h.arms (by simp [armsN, hk])
  have HV := hid (hv3 f L n i h.arms hk p hp)
  obtain ⟨tb, rb, rc, rfl, htb, hrb, t0, t1⟩ := h.tab.get hpn
  have t2 := t1 i hi
  rw [hk] at c0
  rw [hp] at c1
  clear h hk t1 hp
  generalize ndAt f n = x at *
  generalize hv f L p i = g at *
  go_enter Tryd.func36, Tryd.ntmps36
  go_wp2_with fail
  go_ret
  exact ⟨ret_bool HV.out.symm, (Below.refl _ _).alloc (Nat.le_refl _) _⟩
set_option maxRecDepth 20000 in
set_option maxHeartbeats 1000000 in
theorem specHold4 (f : List Nd) (L : List Evt) (n i fb eb : Nat) (ta : Option Addr) (fc tc ec : Nat) (w : World) (h : HoldIn w f L n i fb eb ta) (hk : (ndAt f n).k = 4) :
    Calls Tryd.prog 36 #[.slice (some ⟨fb, 0, none⟩) f.length fc, .slice ta n tc, .int .i64 n, .slice (some ⟨eb, 0, none⟩) L.length ec, .int .i64 i] w fun e w' => e = .returned (.bool (hv f L n i)) ∧ Below w.heap.size w w' := by
  obtain ⟨c0, c1, c2, c3, c4, c5⟩ := h.nodes.2 n h.hn
  have hn := h.hn
  have hi := h.hi
  have hfl := h.fl
  have hll := h.ll
  obtain ⟨p, hp, hpn⟩ := arms_a h.arms (by simp [armsN, hk])
  obtain ⟨q, hq, hqn⟩ := arms_b h.arms (by simp [armsN, hk])
  have HV := hid (hv4 f L n i h.arms hk p hp q hq)
  obtain ⟨tb, rb, rc, rfl, htb, hrb, t0, t1⟩ := h.tab.get hpn
  obtain ⟨tb', rb', rc', e, _, hrb', s0, s1⟩ := h.tab.get hqn
  injection e with e; injection e with e; subst e
  have t2 := t1 i hi
  have s2 := s1 i hi
  rw [hk] at c0
  rw [hp] at c1
  rw [hq] at c2
  clear h hk t1 s1 hp hq
  generalize ndAt f n = x at *
  generalize hv f L p i = g at *
  generalize hv f L q i = g' at *
  cases g
  all_goals
    go_enter Tryd.func36, Tryd.ntmps36
    go_wp2_with fail
    go_ret
    exact ⟨ret_bool HV.out.symm, (Below.refl _ _).alloc (Nat.le_refl _) _⟩
set_option maxRecDepth 20000 in
set_option maxHeartbeats 1000000 in
theorem specHold5 (f : List Nd) (L : List Evt) (n i fb eb : Nat) (ta : Option Addr) (fc tc ec : Nat) (w : World) (h : HoldIn w f L n i fb eb ta) (hk : (ndAt f n).k = 5) :
    Calls Tryd.prog 36 #[.slice (some ⟨fb, 0, none⟩) f.length fc, .slice ta n tc, .int .i64 n, .slice (some ⟨eb, 0, none⟩) L.length ec, .int .i64 i] w fun e w' => e = .returned (.bool (hv f L n i)) ∧ Below w.heap.size w w' := by
  obtain ⟨c0, c1, c2, c3, c4, c5⟩ := h.nodes.2 n h.hn
  have hn := h.hn
  have hi := h.hi
  have hfl := h.fl
  have hll := h.ll
  obtain ⟨p, hp, hpn⟩ := arms_a h.arms (by simp [armsN, hk])
  obtain ⟨q, hq, hqn⟩ := arms_b h.arms (by simp [armsN, hk])
  have HV := hid (hv5 f L n i h.arms hk p hp q hq)
  obtain ⟨tb, rb, rc, rfl, htb, hrb, t0, t1⟩ := h.tab.get hpn
  obtain ⟨tb', rb', rc', e, _, hrb', s0, s1⟩ := h.tab.get hqn
  injection e with e; injection e with e; subst e
  have t2 := t1 i hi
  have s2 := s1 i hi
  rw [hk] at c0
  rw [hp] at c1
  rw [hq] at c2
  clear h hk t1 s1 hp hq
  generalize ndAt f n = x at *
  generalize hv f L p i = g at *
  generalize hv f L q i = g' at *
  cases g
  all_goals
    go_enter Tryd.func36, Tryd.ntmps36
    go_wp2_with fail
    go_ret
    exact ⟨ret_bool HV.out.symm, (Below.refl _ _).alloc (Nat.le_refl _) _⟩
end Go.Proofs.YtnbegpplbjppoaaDoor
