/-
  The program's keepAndAsk, by its contract.
-/
import Derived.Test.YtbfkbgmkibkbnaaGreatDoorPa11
import Derived.Test.YtbfkbgmkibkbnaaGreatDoorPa20
namespace Go.Proofs.YtbfkbgmkibkbnaaGreatDoor
open Go.RowKit
set_option linter.unusedVariables false
set_option linter.unusedSimpArgs false
def nextI (put : Bool) (hi tm : Int) (Z : List Int) : List Int := if put then putI hi tm Z else dropI hi tm Z
theorem kr_next {lo hi : Int} {Z : List Int} {tm : Int} (put : Bool) (h : krB lo hi Z = true) (ht : timeB tm = true) : krB lo hi (nextI put hi tm Z) = true := by
  unfold nextI
  split
  · exact kr_put h ht
  · exact kr_drop tm h
/-- The boxes of keepAndAsk. -/
structure KaBox (W : World) (q : Nat) (tm : Int) (lo hi : Int) (a : Option Addr) (n c : Nat) : Prop where
  l0 : q < W.heap.size
  l2 : q + 1 + 1 < W.heap.size
  t3 : W.cell? ⟨q, 3, none⟩ = some (.int .i64 tm)
  k : KBox W (q + 1) lo hi a n c
  kf : KFree W (q + 1)
  r : MFree W (q + 1 + 1)
  r0 : W.cell? ⟨q + 1 + 1, 0, none⟩ = some (.int .i64 0)
  r1 : W.cell? ⟨q + 1 + 1, 1, none⟩ = some (.int .i64 0)
  r2 : W.cell? ⟨q + 1 + 1, 2, none⟩ = some (.slice none 0 0)
  r3 : W.cell? ⟨q + 1 + 1, 3, none⟩ = some (.bool false)
theorem KaBox.new (w : World) (wv : Value) (cnt now tm : Int) (nv av : Value) (lo hi : Int) (a : Option Addr) (n c : Nat) (t : TypeId) : KaBox (((w.alloc (.cells #[wv, .int .i64 cnt, .int .i64 now, .int .i64 tm, nv, av] t)).alloc (.cells #[.int .i64 lo, .int .i64 hi, .slice a n c] 94)).alloc (.cells #[.int .i64 0, .int .i64 0, .slice none 0 0, .bool false] 96)) w.heap.size tm lo hi a n c :=
  ⟨by simp; omega, by simp, by simp [go_sem], ⟨by simp, by simp [go_sem], by simp [go_sem], by simp [go_sem]⟩, ⟨by simp [go_sem], by simp [go_sem], by simp [go_sem]⟩, ⟨by simp [go_sem], by simp [go_sem], by simp [go_sem], by simp [go_sem]⟩, by simp [go_sem], by simp [go_sem], by simp [go_sem], by simp [go_sem]⟩
theorem KaBox.on {W W' : World} {q : Nat} {tm lo hi : Int} {a : Option Addr} {n c : Nat} (h : KaBox W q tm lo hi a n c) (hb : Below W.heap.size W W') : KaBox W' q tm lo hi a n c := by
  have hz := hb.size
  have h2 := h.l2
  exact ⟨by have := h.l0; omega, by omega, (hb.cell (p := ⟨q, _, none⟩) h.l0).trans h.t3, h.k.on hb, h.kf.on hb h.k.lt, h.r.on hb h.l2, (hb.cell (p := ⟨q + 1 + 1, _, none⟩) h.l2).trans h.r0, (hb.cell (p := ⟨q + 1 + 1, _, none⟩) h.l2).trans h.r1, (hb.cell (p := ⟨q + 1 + 1, _, none⟩) h.l2).trans h.r2, (hb.cell (p := ⟨q + 1 + 1, _, none⟩) h.l2).trans h.r3⟩
theorem KaBox.set {W : World} {q : Nat} {tm lo hi : Int} {a : Option Addr} {n c : Nat} (h : KaBox W q tm lo hi a n c) (a' : Option Addr) (n' c' : Nat) : KaBox (((W.setCell ⟨q + 1, 0, none⟩ (.int .i64 lo)).setCell ⟨q + 1, 1, none⟩ (.int .i64 hi)).setCell ⟨q + 1, 2, none⟩ (.slice a' n' c')) q tm lo hi a' n' c' := by
  have hs := set3 W (q + 1) lo hi (.slice a' n' c')
  have hz := hs.size
  have h2 := h.l2
  have h0 := h.l0
  refine ⟨by omega, by omega, (hs.cell (p := ⟨q, _, none⟩) h.l0 (by show ¬ q = q + 1; omega)).trans h.t3, ⟨by have := h.k.lt; omega, by simp [go_sem, h.k.k0], by simp [go_sem, h.k.k1], by simp [go_sem, h.k.k2]⟩, ⟨by simpa using h.kf.f0, by simpa using h.kf.f1, by simpa using h.kf.f2⟩, h.r.save hs h.l2 (by omega), (hs.cell (p := ⟨q + 1 + 1, _, none⟩) h.l2 (by show ¬ q + 1 + 1 = q + 1; omega)).trans h.r0, (hs.cell (p := ⟨q + 1 + 1, _, none⟩) h.l2 (by show ¬ q + 1 + 1 = q + 1; omega)).trans h.r1, (hs.cell (p := ⟨q + 1 + 1, _, none⟩) h.l2 (by show ¬ q + 1 + 1 = q + 1; omega)).trans h.r2, (hs.cell (p := ⟨q + 1 + 1, _, none⟩) h.l2 (by show ¬ q + 1 + 1 = q + 1; omega)).trans h.r3⟩
theorem ArgI.drew' {w : World} {a : Option Addr} {Z : List Int} (h : ArgI w a Z) : ArgI w.drew a Z := h
theorem kbelow3 (w : World) (o1 o2 o3 : Obj) : Below w.heap.size w (((w.alloc o1).alloc o2).alloc o3) := (((Below.refl w.heap.size w).alloc (Nat.le_refl _) o1).alloc (by simp) o2).alloc (by simp; omega) o3
set_option maxRecDepth 20000 in
set_option maxHeartbeats 8000000 in
theorem keepAsk_any (wf : Option Addr) (wn wc : Nat) (cnt now tm : Int) (na : Option Addr) (nn nc : Nat) (aa : Option Addr) (an ac : Nat) (lo hi : Int) (Z : List Int) (n : Nat) (hn : Z.length = n) (a : Option Addr) (c : Nat) (hS : SlV a n c) (hkr : krB lo hi Z = true) (ht : timeB tm = true) (put : Bool) (Y : List Int) (hY : nextI put hi tm Z = Y) (v : Bool) (hv : askTo lo hi tm Y Y.length = v) (w : World) (hA : ArgI w a Z) :
    Calls Tryz.prog 149 #[.agg #[.slice wf wn wc, .int .i64 cnt, .int .i64 now, .int .i64 tm, .slice na nn nc, .slice aa an ac], .agg #[.int .i64 lo, .int .i64 hi, .slice a n c], .bool put] w fun e w' => ∃ va vc, e = .returned (.tuple #[.bool v, .agg #[.int .i64 lo, .int .i64 hi, .slice va Y.length vc, .bool false]]) ∧ OwnI w' w.heap.size (.slice va Y.length vc) Y ∧ Below w.heap.size w w' := by
  have hl9 := krB_len hkr
  have hok : okK lo hi Z tm = true := by unfold okK; rw [hkr, ht]; rfl
  have hkY : krB lo hi Y = true := by rw [← hY]; exact kr_next put hkr ht
  have hlY := krB_len hkY
  have hka : kaB lo hi Y tm = v := by unfold kaB; rw [hkY, ht, hv]; rfl
  have HB0 := hid (kbelow3 w (.cells #[.slice wf wn wc, .int .i64 cnt, .int .i64 now, .int .i64 tm, .slice na nn nc, .slice aa an ac] 90) (.cells #[.int .i64 lo, .int .i64 hi, .slice a n c] 94) (.cells #[.int .i64 0, .int .i64 0, .slice none 0 0, .bool false] 96))
  have HX0 := hid (KaBox.new w (.slice wf wn wc) cnt now tm (.slice na nn nc) (.slice aa an ac) lo hi a n c 90)
  have HAk : Hid (∀ va vc w, ArgI w va Y → Calls Tryz.prog 164 #[.agg #[.int .i64 lo, .int .i64 hi, .slice va Y.length vc], .int .i64 tm] w fun e w' => e = .returned (.bool v) ∧ Below w.heap.size w w') := fun va vc w h => by have := implAsk_any lo hi Y Y.length rfl va vc (by omega) tm w h; rw [hka] at this; exact this
  have HA := hid (hA.on HB0.out)
  have HPD : Hid (∀ w', ArgI w' a Z → Calls Tryz.prog (if put then 162 else 163) #[.agg #[.int .i64 lo, .int .i64 hi, .slice a n c], .int .i64 tm] w' fun e w'' => ∃ va vc, e = .returned (.agg #[.int .i64 lo, .int .i64 hi, .slice va Y.length vc]) ∧ OwnI w'' w'.heap.size (.slice va Y.length vc) Y ∧ Below w'.heap.size w' w'') := fun w' h => by
    cases put with
    | true => exact implPut_any lo hi Z n hn a c hS (by omega) tm lo hi Y (by rw [hok, if_pos rfl, ← hY]; rfl) w' h
    | false => exact implDrop_any lo hi Z n hn a c hS (by omega) tm lo hi Y (by rw [hok, if_pos rfl, ← hY]; rfl) w' h
  clear hA hn hS hkr ht hY hv hok hkY hka
  obtain ⟨l0, l2, t3, ⟨l1, k0, k1, k2⟩, ⟨f0, f1, f2⟩, _, _, _, _, _⟩ := HX0.out
  cases put with
  | true =>
    have HP := hid (fun w' h => HPD.out w' h)
    simp only [if_true] at HP
    clear HPD
    go_enter Tryz.func149, Tryz.ntmps149
    go_wp2_with (go_at_call 162; refine (HP.out _ HA.out).mono ?_; rintro e w1 ⟨va, vc, rfl, hO1, hb1⟩; clear t3 k0 k1 k2 f0 f1 f2 l0 l1 l2; have HX1 := hid (HX0.out.on hb1); have HO1 := hid hO1; have HB1 := hid (HB0.out.trans (hb1.mono HB0.out.size)); obtain ⟨l0, l2, t3, ⟨l1, k0, k1, k2⟩, ⟨f0, f1, f2⟩, _, _, _, _, _⟩ := HX1.out; have hz1 := hb1.size; clear hb1 hO1)
    clear t3 k0 k1 k2 f0 f1 f2 l0 l1 l2
    have hst := set3 w1 (w.heap.size + 1) lo hi (.slice va Y.length vc)
    have HXV := hid (HX1.out.set va Y.length vc)
    have HOV := hid (HO1.out.save hst (fun k e => by have := (HO1.out.lt k e).1; simp at this; omega))
    have HBV := hid (HB1.out.trans (hst.below (B := w.heap.size) HB1.out.size (fun j e => by omega)))
    clear hst
    generalize ((w1.setCell ⟨w.heap.size + 1, 0, none⟩ (.int .i64 lo)).setCell ⟨w.heap.size + 1, 1, none⟩ (.int .i64 hi)).setCell ⟨w.heap.size + 1, 2, none⟩ (.slice va Y.length vc) = V at *
    obtain ⟨l0, l2, t3, ⟨l1, k0, k1, k2⟩, _, ⟨g0, g1, g2, g3⟩, r0, r1, r2, r3⟩ := HXV.out
    go_region_with (go_at_call 164; refine (HAk.out va vc _ (HOV.out.arg).drew').mono ?_; rintro e w2 ⟨rfl, hb2'⟩; have hb2 := below_undrew hb2'; clear hb2'; have HB2 := hid (HBV.out.trans (hb2.mono HBV.out.size)); have HO2 := hid (HOV.out.on hb2); obtain ⟨l0', l2', t3', ⟨l1', k0', k1', k2'⟩, _, ⟨g0', g1', g2', g3'⟩, r0', r1', r2', r3'⟩ := HXV.out.on hb2; clear hb2)
    all_goals
      go_wp2_with fail
      refine bodyPost_ret (v := .tuple #[.bool v, .agg #[.int .i64 lo, .int .i64 hi, .slice va Y.length vc, .bool false]]) (by simp [results, Tryz.results149, go_sem, r0', r1', r2', r3', g0', g1', g2', g3']) rfl ?_
      have s4 := gset4 w2 (w.heap.size + 1 + 1) (.int .i64 lo) (.int .i64 hi) (.slice va Y.length vc) (.bool false)
      exact ⟨va, vc, rfl, (HO2.out.save s4 (fun k e => by have := (HO2.out.lt k e).1; simp at this; omega)).low (by simp; omega), HB2.out.trans (s4.below (B := w.heap.size) HB2.out.size (fun j e => by omega))⟩
  | false =>
    have HP := hid (fun w' h => HPD.out w' h)
    simp only [Bool.false_eq_true, if_false] at HP
    clear HPD
    go_enter Tryz.func149, Tryz.ntmps149
    go_wp2_with (go_at_call 163; refine (HP.out _ HA.out).mono ?_; rintro e w1 ⟨va, vc, rfl, hO1, hb1⟩; clear t3 k0 k1 k2 f0 f1 f2 l0 l1 l2; have HX1 := hid (HX0.out.on hb1); have HO1 := hid hO1; have HB1 := hid (HB0.out.trans (hb1.mono HB0.out.size)); obtain ⟨l0, l2, t3, ⟨l1, k0, k1, k2⟩, ⟨f0, f1, f2⟩, _, _, _, _, _⟩ := HX1.out; have hz1 := hb1.size; clear hb1 hO1)
    clear t3 k0 k1 k2 f0 f1 f2 l0 l1 l2
    have hst := set3 w1 (w.heap.size + 1) lo hi (.slice va Y.length vc)
    have HXV := hid (HX1.out.set va Y.length vc)
    have HOV := hid (HO1.out.save hst (fun k e => by have := (HO1.out.lt k e).1; simp at this; omega))
    have HBV := hid (HB1.out.trans (hst.below (B := w.heap.size) HB1.out.size (fun j e => by omega)))
    clear hst
    generalize ((w1.setCell ⟨w.heap.size + 1, 0, none⟩ (.int .i64 lo)).setCell ⟨w.heap.size + 1, 1, none⟩ (.int .i64 hi)).setCell ⟨w.heap.size + 1, 2, none⟩ (.slice va Y.length vc) = V at *
    obtain ⟨l0, l2, t3, ⟨l1, k0, k1, k2⟩, _, ⟨g0, g1, g2, g3⟩, r0, r1, r2, r3⟩ := HXV.out
    go_region_with (go_at_call 164; refine (HAk.out va vc _ (HOV.out.arg).drew').mono ?_; rintro e w2 ⟨rfl, hb2'⟩; have hb2 := below_undrew hb2'; clear hb2'; have HB2 := hid (HBV.out.trans (hb2.mono HBV.out.size)); have HO2 := hid (HOV.out.on hb2); obtain ⟨l0', l2', t3', ⟨l1', k0', k1', k2'⟩, _, ⟨g0', g1', g2', g3'⟩, r0', r1', r2', r3'⟩ := HXV.out.on hb2; clear hb2)
    all_goals
      go_wp2_with fail
      refine bodyPost_ret (v := .tuple #[.bool v, .agg #[.int .i64 lo, .int .i64 hi, .slice va Y.length vc, .bool false]]) (by simp [results, Tryz.results149, go_sem, r0', r1', r2', r3', g0', g1', g2', g3']) rfl ?_
      have s4 := gset4 w2 (w.heap.size + 1 + 1) (.int .i64 lo) (.int .i64 hi) (.slice va Y.length vc) (.bool false)
      exact ⟨va, vc, rfl, (HO2.out.save s4 (fun k e => by have := (HO2.out.lt k e).1; simp at this; omega)).low (by simp; omega), HB2.out.trans (s4.below (B := w.heap.size) HB2.out.size (fun j e => by omega))⟩
end Go.Proofs.YtbfkbgmkibkbnaaGreatDoor
