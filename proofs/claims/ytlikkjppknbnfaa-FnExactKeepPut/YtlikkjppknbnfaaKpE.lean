/-
  KeepAsk, the model's and the program's, by one contract.
-/
import Derived.Test.YtlikkjppknbnfaaKpD
import Derived.Test.YtlikkjppknbnfaaKpX
import Derived.Test.YtlikkjppknbnfaaInBd
namespace Go.Proofs.Ytlikkjppknbnfaa
open Go.RowKit
set_option linter.unusedVariables false
set_option linter.unusedSimpArgs false
def askTo (lo hi tm : Int) (Z : List Int) (k : Nat) : Bool := (List.range k).any fun i => inB lo hi (tm - zAt Z i)
def kaB (lo hi : Int) (Z : List Int) (tm : Int) : Bool := krB lo hi Z && (timeB tm && askTo lo hi tm Z Z.length)
theorem askTo_succ (lo hi tm : Int) (Z : List Int) (k : Nat) : askTo lo hi tm Z (k + 1) = (askTo lo hi tm Z k || inB lo hi (tm - zAt Z k)) := by simp [askTo, List.range_succ]
theorem askTo_true (lo hi tm : Int) (Z : List Int) (k m : Nat) (hk : k < m) (h : inB lo hi (tm - zAt Z k) = true) : askTo lo hi tm Z m = true := by
  simp only [askTo, List.any_eq_true, List.mem_range]
  exact ⟨k, hk, h⟩
theorem timeB_parts {t : Int} (h : timeB t = true) : 0 ≤ t ∧ t ≤ 1000000 := by simpa [timeB] using h
theorem specIn_any (lo hi d : Int) (w : World) : Calls Try.prog 46 #[.int .i64 lo, .int .i64 hi, .int .i64 d] w fun e w' => e = .returned (.bool (inB lo hi d)) ∧ w' = w := by
  have HD : Hid (inB lo hi d = (decide (lo ≤ d) && (decide (hi = -1) || decide (d ≤ hi)))) := rfl
  by_cases h1 : lo ≤ d
  · by_cases h2 : hi = -1
    · subst h2
      go_enter Try.func46, Try.ntmps46
      go_wp2
      go_ret
      exact ⟨ret_bool (by rw [HD.out]; simp [h1]), rfl⟩
    · have h2' : (hi == -1) = false := by simpa using h2
      by_cases h3 : d ≤ hi
      all_goals
        go_enter Try.func46, Try.ntmps46
        go_wp2
        go_ret
        exact ⟨ret_bool (by rw [HD.out]; simp [h1, h2, h3]), rfl⟩
  · go_enter Try.func46, Try.ntmps46
    go_wp2
    go_ret
    exact ⟨ret_bool (by rw [HD.out]; simp; omega), rfl⟩
theorem specIn_is (lo hi d : Int) (v : Bool) (hv : inB lo hi d = v) (w : World) : Calls Try.prog 46 #[.int .i64 lo, .int .i64 hi, .int .i64 d] w fun e w' => e = .returned (.bool v) ∧ w' = w := by
  subst hv; exact specIn_any lo hi d w
set_option maxRecDepth 20000 in
set_option maxHeartbeats 4000000 in
theorem specAskR_any (lo hi : Int) (Z : List Int) (n : Nat) (hn : Z.length = n) (a : Option Addr) (c : Nat) (hl : n ≤ 2000000) (tm : Int) (ht : timeB tm = true) (hz : ∀ i, i < n → 0 ≤ zAt Z i ∧ zAt Z i ≤ 1000000) (w : World) (hA : ArgI w a Z) :
    Calls Try.prog 41 #[kpV lo hi a n c, .int .i64 tm] w fun e w' => e = .returned (.bool (askTo lo hi tm Z Z.length)) ∧ Below w.heap.size w w' := by
  unfold kpV
  subst hn
  obtain ⟨t1, t2⟩ := timeB_parts ht
  have HB0 := hid ((Below.refl w.heap.size w).alloc (Nat.le_refl _) (.cells #[.int .i64 lo, .int .i64 hi, .slice a Z.length c] 25))
  have HA := hid (hA.on HB0.out)
  have HBX := hid (KBox.new w lo hi a Z.length c 25)
  have HZ := hid hz
  clear hA ht hz
  go_enter Try.func41, Try.ntmps41
  go_wp2_with fail
  have hlz := HBX.out.lt
  have hw0 := HB0.out.size
  generalize w.alloc (.cells #[.int .i64 lo, .int .i64 hi, .slice a Z.length c] 25) = W at *
  go_loopw [5] (fun t wr => ∃ k : Nat, k ≤ Z.length ∧ t = .int .i64 k ∧ askTo lo hi tm Z k = false ∧ Below W.heap.size W wr) (fun t _ => Z.length - (intOf t).toNat)
  case atStart => exact ⟨0, Nat.zero_le _, rfl, rfl, Below.refl _ _⟩
  case round =>
    obtain ⟨k, hk, rfl, hg, hbel⟩ := hrel
    have HG := hid hg
    have HB := hid hbel
    obtain ⟨_, k0, k1, k2⟩ := HBX.out.below hbel hlz
    have hqz := Nat.lt_of_lt_of_le hlz hbel.size
    clear hg hbel
    by_cases hlt : k < Z.length
    · have HS1 := hid (askTo_succ lo hi tm Z k)
      have HYes := hid (askTo_true lo hi tm Z k Z.length hlt)
      rcases HA.out with h0 | ⟨b, off, rfl, hb, hc⟩
      · omega
      have d0 := (HB.out.cell (p := ⟨b, off + k, none⟩) hb).trans (hc k hlt)
      obtain ⟨z1, z2⟩ := HZ.out k hlt
      clear hc
      generalize zAt Z k = T at *
      rcases Bool.eq_false_or_eq_true (inB lo hi (tm - T)) with hx | hx
      · have HC := hid (fun w => specIn_is lo hi (tm - T) true hx w)
        have HX := hid hx
        clear hx
        go_wp2_with fail
        go_quiet ((go_at_call 46; exact Calls.quiet_of_same (HC.out _)))
        go_wp2_with fail
        go_ret
        exact ⟨ret_bool (HYes.out HX.out).symm, HB0.out.trans (below_drewN (HB.out.mono hw0) _)⟩
      · have HC := hid (fun w => specIn_is lo hi (tm - T) false hx w)
        have HX := hid hx
        clear hx
        go_wp2_with fail
        go_quiet ((go_at_call 46; exact Calls.quiet_of_same (HC.out _)))
        go_wp2_with fail
        go_roundw
        case rel => exact ⟨k + 1, by omega, by go_num, by rw [HS1.out, HG.out, HX.out]; rfl, below_drewN HB.out _⟩
        case measure => simp [intOf]; omega
    · have hk' : k = Z.length := by omega
      subst hk'
      go_wp2_with fail
      go_ret
      exact ⟨ret_bool HG.out.symm, HB0.out.trans (HB.out.mono hw0)⟩
theorem timeS_is (t : Int) (v : Bool) (hv : timeB t = v) (w : World) : Calls Try.prog 37 #[.int .i64 t] w fun e w' => e = .returned (.bool v) ∧ w = w' := by
  subst hv; exact (specTime_any t w).mono (by rintro e w' ⟨rfl, rfl⟩; exact ⟨rfl, rfl⟩)
theorem timeI_is (t : Int) (v : Bool) (hv : timeB t = v) (w : World) : Calls Try.prog 33 #[.int .i64 t] w fun e w' => e = .returned (.bool v) ∧ w = w' := by
  subst hv; exact (implTime_any t w).mono (by rintro e w' ⟨rfl, rfl⟩; exact ⟨rfl, rfl⟩)
theorem specKr_is (lo hi : Int) (Z : List Int) (v : Bool) (hv : krB lo hi Z = v) (n : Nat) (hn : Z.length = n) (a : Option Addr) (c : Nat) (hl : n ≤ 2000000) (w : World) (hA : ArgI w a Z) :
    Calls Try.prog 19 #[.agg #[.int .i64 lo, .int .i64 hi, .slice a n c]] w fun e w' => e = .returned (.bool v) ∧ Below w.heap.size w w' := by
  subst hv; exact specKr_any lo hi Z n hn a c hl w hA
theorem implKr_is (lo hi : Int) (Z : List Int) (v : Bool) (hv : krB lo hi Z = v) (n : Nat) (hn : Z.length = n) (a : Option Addr) (c : Nat) (hl : n ≤ 2000000) (w : World) (hA : ArgI w a Z) :
    Calls Try.prog 18 #[.agg #[.int .i64 lo, .int .i64 hi, .slice a n c]] w fun e w' => e = .returned (.bool v) ∧ Below w.heap.size w w' := by
  subst hv; exact implKr_any lo hi Z n hn a c hl w hA
theorem krB_times {lo hi : Int} {Z : List Int} (h : krB lo hi Z = true) : ∀ i, i < Z.length → 0 ≤ zAt Z i ∧ zAt Z i ≤ 1000000 := fun i hi => by have := riseTo_at (krB_parts h).2.2 i hi; omega
set_option maxRecDepth 20000 in
set_option maxHeartbeats 2000000 in
theorem specAsk_any (lo hi : Int) (Z : List Int) (n : Nat) (hn : Z.length = n) (a : Option Addr) (c : Nat) (hl : n ≤ 2000000) (tm : Int) (w : World) (hA : ArgI w a Z) :
    Calls Try.prog 15 #[kpV lo hi a n c, .int .i64 tm] w fun e w' => e = .returned (.bool (kaB lo hi Z tm)) ∧ Below w.heap.size w w' := by
  subst hn
  have HB0 := hid ((Below.refl w.heap.size w).alloc (Nat.le_refl _) (.cells #[.int .i64 lo, .int .i64 hi, .slice a Z.length c] 25))
  have HA := hid (hA.on HB0.out)
  have HBX := hid (KBox.new w lo hi a Z.length c 25)
  have HD : Hid (kaB lo hi Z tm = (krB lo hi Z && (timeB tm && askTo lo hi tm Z Z.length))) := rfl
  clear hA
  rcases Bool.eq_false_or_eq_true (krB lo hi Z) with hk | hk
  rotate_left
  · have HC := hid (specKr_is lo hi Z false hk Z.length rfl a c hl _ HA.out)
    have HK := hid hk
    unfold kpV
    clear hk
    go_enter Try.func15, Try.ntmps15
    go_wp2_with (go_at_call 19; refine HC.out.mono ?_; rintro e w1 ⟨rfl, hb⟩; have HB1 := hid (HB0.out.trans (hb.mono (by simp))); clear hb)
    go_ret
    exact ⟨ret_bool (by rw [HD.out, HK.out]; rfl), HB1.out⟩
  have HC := hid (specKr_is lo hi Z true hk Z.length rfl a c hl _ HA.out)
  have HK := hid hk
  clear hk
  rcases Bool.eq_false_or_eq_true (timeB tm) with ht | ht
  rotate_left
  · have HT := hid ht
    have HC2 := hid (fun w => timeS_is tm false ht w)
    unfold kpV
    clear ht
    go_enter Try.func15, Try.ntmps15
    go_wp2_with (first | (go_at_call 19; refine HC.out.mono ?_; rintro e w1 ⟨rfl, hb⟩; have HB1 := hid (HB0.out.trans (hb.mono (by simp))); clear hb) | (go_at_call 37; refine (HC2.out _).mono ?_; rintro e w' ⟨rfl, rfl⟩))
    go_ret
    exact ⟨ret_bool (by rw [HD.out, HK.out, HT.out]; rfl), HB1.out⟩
  have HT := hid ht
  have HC2 := hid (fun w => timeS_is tm true ht w)
  have HC3 : Hid (∀ w, ArgI w a Z → Calls Try.prog 41 #[.agg #[.int .i64 lo, .int .i64 hi, .slice a Z.length c], .int .i64 tm] w fun e w' => e = .returned (.bool (askTo lo hi tm Z Z.length)) ∧ Below w.heap.size w w') := fun w h => specAskR_any lo hi Z Z.length rfl a c hl tm ht (krB_times HK.out) w h
  unfold kpV
  clear ht
  go_enter Try.func15, Try.ntmps15
  go_wp2_with (first | (go_at_call 19; refine HC.out.mono ?_; rintro e w1 ⟨rfl, hb⟩; have HB1 := hid (HB0.out.trans (hb.mono (by simp))); have HA1 := hid (HA.out.on hb); have hz1 := HB1.out.size; obtain ⟨_, k0, k1, k2⟩ := HBX.out.on hb; clear hb) | (go_at_call 37; refine (HC2.out _).mono ?_; rintro e w' ⟨rfl, rfl⟩) | (go_at_call 41; refine (HC3.out _ HA1.out).mono ?_; rintro e w2 ⟨rfl, hb⟩; have HB2 := hid (HB1.out.trans (hb.mono hz1)); clear hb))
  go_ret
  exact ⟨ret_bool (by rw [HD.out, HK.out, HT.out]; rfl), HB2.out⟩
theorem boundsR_is (lo hi : Int) (a b : Int) (v : Bool) (hv : inB lo hi (b - a) = v) (ha : 0 ≤ a ∧ a ≤ 1000000) (hb : 0 ≤ b ∧ b ≤ 1000000) (w : World) : Calls Try.prog 40 #[.agg #[.int .i64 0, .int .i64 0, .int .i64 0, .int .i64 lo, .int .i64 hi, .string ⟨#[]⟩], .int .i64 a, .int .i64 b] w fun e w' => e = .returned (.bool v) ∧ Below w.heap.size w w' := by
  subst hv
  exact boundsR_any 0 0 0 lo hi ⟨#[]⟩ a b ha hb w
structure NBox (W : World) (q : Nat) (lo hi : Int) : Prop where
  lt : q < W.heap.size
  n0 : W.cell? ⟨q, 0, none⟩ = some (.int .i64 0)
  n1 : W.cell? ⟨q, 1, none⟩ = some (.int .i64 0)
  n2 : W.cell? ⟨q, 2, none⟩ = some (.int .i64 0)
  n3 : W.cell? ⟨q, 3, none⟩ = some (.int .i64 lo)
  n4 : W.cell? ⟨q, 4, none⟩ = some (.int .i64 hi)
  n5 : W.cell? ⟨q, 5, none⟩ = some (.string ⟨#[]⟩)
theorem NBox.new (w : World) (lo hi : Int) (t : TypeId) : NBox (w.alloc (.cells #[.int .i64 0, .int .i64 0, .int .i64 0, .int .i64 lo, .int .i64 hi, .string ⟨#[]⟩] t)) w.heap.size lo hi :=
  ⟨by simp, by simp [go_sem], by simp [go_sem], by simp [go_sem], by simp [go_sem], by simp [go_sem], by simp [go_sem]⟩
theorem NBox.on {W W' : World} {q : Nat} {lo hi : Int} (h : NBox W q lo hi) (hb : Below W.heap.size W W') : NBox W' q lo hi :=
  ⟨Nat.lt_of_lt_of_le h.lt hb.size, (hb.cell (p := ⟨q, _, none⟩) h.lt).trans h.n0, (hb.cell (p := ⟨q, _, none⟩) h.lt).trans h.n1, (hb.cell (p := ⟨q, _, none⟩) h.lt).trans h.n2, (hb.cell (p := ⟨q, _, none⟩) h.lt).trans h.n3, (hb.cell (p := ⟨q, _, none⟩) h.lt).trans h.n4, (hb.cell (p := ⟨q, _, none⟩) h.lt).trans h.n5⟩
set_option maxRecDepth 20000 in
set_option maxHeartbeats 2000000 in
theorem implAsk_any (lo hi : Int) (Z : List Int) (n : Nat) (hn : Z.length = n) (a : Option Addr) (c : Nat) (hl : n ≤ 2000000) (tm : Int) (w : World) (hA : ArgI w a Z) :
    Calls Try.prog 14 #[kpV lo hi a n c, .int .i64 tm] w fun e w' => e = .returned (.bool (kaB lo hi Z tm)) ∧ Below w.heap.size w w' := by
  subst hn
  have HB0 := hid ((Below.refl w.heap.size w).alloc (Nat.le_refl _) (.cells #[.int .i64 lo, .int .i64 hi, .slice a Z.length c] 25))
  have HA := hid (hA.on HB0.out)
  have HBX := hid (KBox.new w lo hi a Z.length c 25)
  have HD : Hid (kaB lo hi Z tm = (krB lo hi Z && (timeB tm && askTo lo hi tm Z Z.length))) := rfl
  clear hA
  rcases Bool.eq_false_or_eq_true (krB lo hi Z) with hk | hk
  rotate_left
  · have HC := hid (implKr_is lo hi Z false hk Z.length rfl a c hl _ HA.out)
    have HK := hid hk
    unfold kpV
    clear hk
    go_enter Try.func14, Try.ntmps14
    go_wp2_with (go_at_call 18; refine HC.out.mono ?_; rintro e w1 ⟨rfl, hb⟩; have HB1 := hid (HB0.out.trans (hb.mono (by simp))); clear hb)
    go_ret
    exact ⟨ret_bool (by rw [HD.out, HK.out]; rfl), HB1.out⟩
  have HC := hid (implKr_is lo hi Z true hk Z.length rfl a c hl _ HA.out)
  have HK := hid hk
  clear hk
  rcases Bool.eq_false_or_eq_true (timeB tm) with ht | ht
  rotate_left
  · have HT := hid ht
    have HC2 := hid (fun w => timeI_is tm false ht w)
    unfold kpV
    clear ht
    go_enter Try.func14, Try.ntmps14
    go_wp2_with (first | (go_at_call 18; refine HC.out.mono ?_; rintro e w1 ⟨rfl, hb⟩; have HB1 := hid (HB0.out.trans (hb.mono (by simp))); clear hb) | (go_at_call 33; refine (HC2.out _).mono ?_; rintro e w' ⟨rfl, rfl⟩))
    go_ret
    exact ⟨ret_bool (by rw [HD.out, HK.out, HT.out]; rfl), HB1.out⟩
  have HT := hid ht
  have HC2 := hid (fun w => timeI_is tm true ht w)
  have HTM := hid (timeB_parts ht)
  have HZ := hid (krB_times HK.out)
  unfold kpV
  clear ht
  go_enter Try.func14, Try.ntmps14
  go_wp2_with (first | (go_at_call 18; refine HC.out.mono ?_; rintro e w1 ⟨rfl, hb⟩; have HB1 := hid (HB0.out.trans (hb.mono (by simp))); have HA1 := hid (HA.out.on hb); have hz1 := HB1.out.size; have HX1 := hid (HBX.out.on hb); obtain ⟨_, k0, k1, k2⟩ := HBX.out.on hb; clear hb) | (go_at_call 33; refine (HC2.out _).mono ?_; rintro e w' ⟨rfl, rfl⟩))
  have HN0 := hid (NBox.new w1 lo hi 36)
  have HBn := hid (below_one' w1 (.cells #[.int .i64 0, .int .i64 0, .int .i64 0, .int .i64 lo, .int .i64 hi, .string ⟨#[]⟩] 36))
  have HAW := hid (HA1.out.on HBn.out)
  have HBW := hid (HB1.out.trans (HBn.out.mono hz1))
  generalize w1.alloc (.cells #[.int .i64 0, .int .i64 0, .int .i64 0, .int .i64 lo, .int .i64 hi, .string ⟨#[]⟩] 36) = W at *
  have hzW := HBW.out.size
  clear k0 k1 k2
  go_loopw [24] (fun t wr => ∃ k : Nat, k ≤ Z.length ∧ t = .int .i64 k ∧ askTo lo hi tm Z k = false ∧ Below W.heap.size W wr) (fun t _ => Z.length - (intOf t).toNat)
  case atStart => exact ⟨0, Nat.zero_le _, rfl, rfl, Below.refl _ _⟩
  case round =>
    obtain ⟨k, hk, rfl, hg, hbel⟩ := hrel
    have HG := hid hg
    have HB := hid hbel
    have HBE := hid (HBW.out.trans (hbel.mono hzW))
    have hze := HBE.out.size
    obtain ⟨_, n0, n1, n2, n3, n4, n5⟩ := HN0.out.on hbel
    clear hg hbel
    by_cases hlt : k < Z.length
    · have HS1 := hid (askTo_succ lo hi tm Z k)
      have HYes := hid (askTo_true lo hi tm Z k Z.length hlt)
      rcases HAW.out with h0 | ⟨b, off, rfl, hb, hc⟩
      · omega
      have d0 := (HB.out.cell (p := ⟨b, off + k, none⟩) hb).trans (hc k hlt)
      have HZk := hid (HZ.out k hlt)
      clear hc
      generalize zAt Z k = T at *
      rcases Bool.eq_false_or_eq_true (inB lo hi (tm - T)) with hx | hx
      · have HC := hid (fun w => boundsR_is lo hi T tm true hx HZk.out HTM.out w)
        have HX := hid hx
        clear hx
        go_wp2_with (go_at_call 40; refine (HC.out _).mono ?_; rintro e w3 ⟨rfl, hb3⟩; have HB3 := hid (HBE.out.trans (hb3.mono hze)); clear hb3)
        go_ret
        exact ⟨ret_bool (by rw [HD.out, HK.out, HT.out, HYes.out HX.out]; rfl), HB3.out⟩
      · have HC := hid (fun w => boundsR_is lo hi T tm false hx HZk.out HTM.out w)
        have HX := hid hx
        have hwz := HB.out.size
        clear hx
        go_wp2_with (go_at_call 40; refine (HC.out _).mono ?_; rintro e w3 ⟨rfl, hb3⟩; have HB3 := hid (HB.out.trans (hb3.mono hwz)); clear hb3)
        go_roundw
        case rel => exact ⟨k + 1, by omega, by go_num, by rw [HS1.out, HG.out, HX.out]; rfl, HB3.out⟩
        case measure => simp [intOf]; omega
    · have hk' : k = Z.length := by omega
      subst hk'
      go_wp2_with fail
      go_ret
      exact ⟨ret_bool (by rw [HD.out, HK.out, HT.out, HG.out]; rfl), HBE.out⟩
end Go.Proofs.Ytlikkjppknbnfaa
