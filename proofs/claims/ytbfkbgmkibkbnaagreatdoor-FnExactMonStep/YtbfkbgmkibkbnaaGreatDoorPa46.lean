/-
  The model's MonStep over what is right, by its contract.
  MonStep where it refuses: the model's and the program's, by their contracts.
  A monitor over a trace: plain facts.
  From what MonStep leaves to what the next MonStep reads.
  A MonOut's box, new.
  A row of bools that a call owns; a MonOut's box, new.
  What a monitor tells is what its formula means: plain facts.
  The model's MonRun, by its contract.
  The program's formulasCode, by its contract.
  The program's MonNew, by its contract.
  The program's FormulaRight and TraceRight, told.
-/
import Derived.Test.YtbfkbgmkibkbnaaGreatDoorPa45
import Derived.Test.YtbfkbgmkibkbnaaGreatDoorPa44
import Derived.Test.YtbfkbgmkibkbnaaGreatDoorPa31
import Derived.Test.YtbfkbgmkibkbnaaGreatDoorPa02
import Derived.Test.YtbfkbgmkibkbnaaGreatDoorPa42
import Derived.Test.YtbfkbgmkibkbnaaGreatDoorPa08
import Derived.Test.YtbfkbgmkibkbnaaGreatDoorPa00
import Derived.Deep.RegionHeld3
import Derived.Test.YtbfkbgmkibkbnaaGreatDoorPa20
namespace Go.Proofs.YtbfkbgmkibkbnaaGreatDoor
open Go.RowKit
set_option linter.unusedVariables false
set_option linter.unusedSimpArgs false
set_option maxRecDepth 20000 in
set_option maxHeartbeats 4000000 in
theorem specMStep_ok (f : List Nd) (fb fc : Nat) (cnt now : Int) (C : List Cl) (ca : Option Addr) (cc : Nat) (tm : Int) (S : List ByteArray) (na : Option Addr) (nn nc : Nat) (hnn : S.length = nn) (hnl : nn ≤ maxLen) (hS : TxOk S) (hm : monB f cnt now C = true) (he : evB tm S = true) (hle : now ≤ tm) (hcn : cnt ≠ 1000000) (D : List Cl) (hD : nextC cnt now tm S f C = D) (G : Nat → Bool) (hG : gV cnt now tm S f C = G) (w : World) (hM : MonIn w fb f ca C) (hT : TsAt w na S) :
    Calls Tryz.prog 19 #[.agg #[.slice (some ⟨fb, 0, none⟩) f.length fc, .int .i64 cnt, .int .i64 now, .slice ca C.length cc], .agg #[.int .i64 tm, .slice na nn nc]] w fun e w' => ∃ g gc cb cap ab bc, e = .returned (.agg #[.slice (some ⟨g, 0, none⟩) f.length gc, .int .i64 (cnt + 1), .int .i64 tm, .slice (some ⟨cb, 0, none⟩) f.length cap, .bool (G (f.length - 1)), .slice (some ⟨ab, 0, none⟩) f.length bc, .int .i64 0]) ∧ w.heap.size ≤ g ∧ NodesAt w' g f ∧ w.heap.size ≤ cb ∧ cb < w'.heap.size ∧ (∀ i, i < f.length → CkX w' (fun j => j = cb ∨ j < w.heap.size) cb i (clAt D i)) ∧ w.heap.size ≤ ab ∧ ab < w'.heap.size ∧ (∀ j, j < f.length → w'.cell? ⟨ab, j, none⟩ = some (.bool (G j))) ∧ Below w.heap.size w w' := by
  have htm : timeB tm = true := by
    simp only [evB, Bool.and_eq_true, decide_eq_true_eq] at he
    simp [timeB, he.1]
  have HMr := hid (fun w h => specMon_any f fb fc cnt now C ca cc true hm w h)
  unfold moV at HMr
  have HEv := hid (fun w h => specEvent_any tm S nn hnn na nc hS hnl w h)
  rw [he] at HEv
  have HSp := hid (fun w hM hT => specStep_any f fb fc cnt now C ca cc tm S na nn nc hnn hnl hm htm hle D hD G hG w hM hT)
  have HM := hid hM
  have HT := hid hT
  have HB0 := hid (kbelow3 w (.cells #[.slice (some ⟨fb, 0, none⟩) f.length fc, .int .i64 cnt, .int .i64 now, .slice ca C.length cc] 34) (.cells #[.int .i64 tm, .slice na nn nc] 41) (.cells #[.slice none 0 0, .int .i64 0, .int .i64 0, .slice none 0 0, .bool false, .slice none 0 0, .int .i64 0] 36))
  have HX0 := hid (PsBox.new w fb f.length fc cnt now ca C.length cc tm na nn nc)
  have hcn' : (cnt == 1000000) = false := by simpa using hcn
  have hle' : ¬ tm < now := by omega
  clear hm hM hT he hcn hnn hD hG htm
  go_enter Tryz.func19, Tryz.ntmps19
  go_wp2_with (first | (go_at_call 63; refine (HMr.out _ (HM.out.on HB0.out)).mono ?_; rintro e w1 ⟨rfl, hb1⟩; have HB1 := hid (HB0.out.trans (hb1.mono HB0.out.size)); have HX1 := hid (HX0.out.on hb1); obtain ⟨⟨l0, m0, m1, m2, m3⟩, l1, e0, e1, _, _⟩ := HX1.out; have hz1 := hb1.size; clear hb1) | (go_at_call 49; refine (HEv.out _ (HT.out.below HB1.out)).mono ?_; rintro e w2 ⟨rfl, hb2⟩; have HB2 := hid (HB1.out.trans (hb2.mono HB1.out.size)); have HX2 := hid (HX1.out.on hb2); clear m0 m1 m2 m3 l0 l1 e0 e1; obtain ⟨⟨l0, m0, m1, m2, m3⟩, l1, e0, e1, _, _⟩ := HX2.out; have hz2 := hb2.size; clear hb2) | (go_at_call 64; refine (HSp.out _ (HM.out.on HB2.out) (HT.out.below HB2.out)).mono ?_; rintro e w3 ⟨g, gc, cb, cap, ab, bc, rfl, hg1, hg2, hc1, hc2, hck, ha1, ha2, hab, hb3⟩; have HR3 := hid (And.intro hg1 (And.intro hg2 (And.intro hc1 (And.intro hc2 (And.intro hck (And.intro ha1 (And.intro ha2 hab))))))); have HB3 := hid (HB2.out.trans (hb3.mono HB2.out.size)); have HX3 := hid (HX2.out.on hb3); clear m0 m1 m2 m3 l0 l1 e0 e1; obtain ⟨_, o0, o1, o2, o3, o4, o5, o6⟩ := HX3.out.o; obtain ⟨g0, g1, g2, g3, g4, g5, g6⟩ := HX3.out.g; have hz3 := hb3.size; clear hb3 hg1 hg2 hc1 hc2 hck ha1 ha2 hab))
  refine bodyPost_ret (v := .agg #[.slice (some ⟨g, 0, none⟩) f.length gc, .int .i64 (cnt + 1), .int .i64 tm, .slice (some ⟨cb, 0, none⟩) f.length cap, .bool (G (f.length - 1)), .slice (some ⟨ab, 0, none⟩) f.length bc, .int .i64 0]) (by simp [results, Tryz.results19, go_sem, o0, o1, o2, o3, o4, o5, o6, g0, g1, g2, g3, g4, g5, g6]) rfl ?_
  have hsf := set7 w3 (w.heap.size + 1 + 1) (.slice (some ⟨g, 0, none⟩) f.length gc) (.int .i64 (cnt + 1)) (.int .i64 tm) (.slice (some ⟨cb, 0, none⟩) f.length cap) (.bool (G (f.length - 1))) (.slice (some ⟨ab, 0, none⟩) f.length bc) (.int .i64 0)
  obtain ⟨hg1, hg2, hc1, hc2, hck, ha1, ha2, hab⟩ := HR3.out
  have hzf := hsf.size
  have hQ := HX2.out.o.lt
  have hw2 := HB2.out.size
  exact ⟨g, gc, cb, cap, ab, bc, rfl, by omega, hsf.nodes hg2 (by omega), by omega, by omega, (fun i hi => (hck i hi).step hsf hc2 (by omega) (fun j _ e => Or.inr (by omega)) (fun j e => Or.inl (by rcases e with e | e; exact Or.inl e; exact Or.inr (by omega)))), by omega, by omega, (fun j hj => (hsf.cell (p := ⟨ab, j, none⟩) ha2 (by show ¬ ab = w.heap.size + 1 + 1; omega)).trans (hab j hj)), HB3.out.trans (hsf.below (B := w.heap.size) HB3.out.size (fun j e => by omega))⟩
end Go.Proofs.YtbfkbgmkibkbnaaGreatDoor
namespace Go.Proofs.YtbfkbgmkibkbnaaGreatDoor
open Go.RowKit
set_option linter.unusedVariables false
set_option linter.unusedSimpArgs false
def stepCode (f : List Nd) (cnt now : Int) (C : List Cl) (tm : Int) (S : List ByteArray) : Int := if monB f cnt now C && evB tm S then (if tm < now then 8 else if cnt = 1000000 then 9 else 0) else 1
set_option maxRecDepth 20000 in
set_option maxHeartbeats 4000000 in
theorem specMStep_no (f : List Nd) (fb fc : Nat) (cnt now : Int) (C : List Cl) (ca : Option Addr) (cc : Nat) (tm : Int) (S : List ByteArray) (na : Option Addr) (nn nc : Nat) (hnn : S.length = nn) (hnl : nn ≤ maxLen) (hS : TxOk S) (code : Int) (hc : stepCode f cnt now C tm S = code) (hne : code ≠ 0) (w : World) (hM : MonIn w fb f ca C) (hT : TsAt w na S) :
    Calls Tryz.prog 19 #[.agg #[.slice (some ⟨fb, 0, none⟩) f.length fc, .int .i64 cnt, .int .i64 now, .slice ca C.length cc], .agg #[.int .i64 tm, .slice na nn nc]] w fun e w' => e = .returned (.agg #[.slice none 0 0, .int .i64 0, .int .i64 0, .slice none 0 0, .bool false, .slice none 0 0, .int .i64 code]) ∧ Below w.heap.size w w' := by
  have HMr0 := hid (fun v hv w h => specMon_any f fb fc cnt now C ca cc v hv w h)
  unfold moV at HMr0
  have HEv0 := hid (fun w h => specEvent_any tm S nn hnn na nc hS hnl w h)
  have HM := hid hM
  have HT := hid hT
  skip
  have HB0 := hid (kbelow3 w (.cells #[.slice (some ⟨fb, 0, none⟩) f.length fc, .int .i64 cnt, .int .i64 now, .slice ca C.length cc] 34) (.cells #[.int .i64 tm, .slice na nn nc] 41) (.cells #[.slice none 0 0, .int .i64 0, .int .i64 0, .slice none 0 0, .bool false, .slice none 0 0, .int .i64 0] 36))
  have HX0 := hid (PsBox.new w fb f.length fc cnt now ca C.length cc tm na nn nc)
  rcases Bool.eq_false_or_eq_true (monB f cnt now C) with hm | hm
  · rcases Bool.eq_false_or_eq_true (evB tm S) with he | he
    · have HMr := hid (HMr0.out true hm)
      have HEv := HEv0
      rw [he] at HEv
      unfold stepCode at hc
      rw [hm, he] at hc
      by_cases hlt : tm < now
      · obtain rfl : 8 = code := by rw [← hc]; simp [hlt]
        clear hM hT hc hnn hm he HMr0 HEv0 hne
        go_enter Tryz.func19, Tryz.ntmps19
        go_wp2_with (first | (go_at_call 63; refine (HMr.out _ (HM.out.on HB0.out)).mono ?_; rintro e w1 ⟨rfl, hb1⟩; have HB1 := hid (HB0.out.trans (hb1.mono HB0.out.size)); have HX1 := hid (HX0.out.on hb1); obtain ⟨⟨l0, m0, m1, m2, m3⟩, l1, e0, e1, ⟨_, o0, o1, o2, o3, o4, o5, o6⟩, ⟨g0, g1, g2, g3, g4, g5, g6⟩⟩ := HX1.out; have hz1 := hb1.size; clear hb1) | (go_at_call 49; refine (HEv.out _ (HT.out.below HB1.out)).mono ?_; rintro e w2 ⟨rfl, hb2⟩; have HB2 := hid (HB1.out.trans (hb2.mono HB1.out.size)); have HX2 := hid (HX1.out.on hb2); clear m0 m1 m2 m3 l0 l1 e0 e1 o0 o1 o2 o3 o4 o5 o6 g0 g1 g2 g3 g4 g5 g6; obtain ⟨⟨l0, m0, m1, m2, m3⟩, l1, e0, e1, ⟨_, o0, o1, o2, o3, o4, o5, o6⟩, ⟨g0, g1, g2, g3, g4, g5, g6⟩⟩ := HX2.out; have hz2 := hb2.size; clear hb2))
        refine bodyPost_ret (v := .agg #[.slice none 0 0, .int .i64 0, .int .i64 0, .slice none 0 0, .bool false, .slice none 0 0, .int .i64 8]) (by simp [results, Tryz.results19, go_sem, o0, o1, o2, o3, o4, o5, o6, g0, g1, g2, g3, g4, g5, g6]) rfl ?_
        have hsf := set7 w2 (w.heap.size + 1 + 1) (.slice none 0 0) (.int .i64 0) (.int .i64 0) (.slice none 0 0) (.bool false) (.slice none 0 0) (.int .i64 8)
        exact ⟨rfl, HB2.out.trans (hsf.below (B := w.heap.size) HB2.out.size (fun j e => by omega))⟩
      · by_cases hcn : cnt = 1000000
        · obtain rfl : 9 = code := by rw [← hc]; simp [hlt, hcn]
          have hcn' : (cnt == 1000000) = true := by simpa using hcn
          clear hM hT hc hnn hm he HMr0 HEv0 hne hcn
          go_enter Tryz.func19, Tryz.ntmps19
          go_wp2_with (first | (go_at_call 63; refine (HMr.out _ (HM.out.on HB0.out)).mono ?_; rintro e w1 ⟨rfl, hb1⟩; have HB1 := hid (HB0.out.trans (hb1.mono HB0.out.size)); have HX1 := hid (HX0.out.on hb1); obtain ⟨⟨l0, m0, m1, m2, m3⟩, l1, e0, e1, ⟨_, o0, o1, o2, o3, o4, o5, o6⟩, ⟨g0, g1, g2, g3, g4, g5, g6⟩⟩ := HX1.out; have hz1 := hb1.size; clear hb1) | (go_at_call 49; refine (HEv.out _ (HT.out.below HB1.out)).mono ?_; rintro e w2 ⟨rfl, hb2⟩; have HB2 := hid (HB1.out.trans (hb2.mono HB1.out.size)); have HX2 := hid (HX1.out.on hb2); clear m0 m1 m2 m3 l0 l1 e0 e1 o0 o1 o2 o3 o4 o5 o6 g0 g1 g2 g3 g4 g5 g6; obtain ⟨⟨l0, m0, m1, m2, m3⟩, l1, e0, e1, ⟨_, o0, o1, o2, o3, o4, o5, o6⟩, ⟨g0, g1, g2, g3, g4, g5, g6⟩⟩ := HX2.out; have hz2 := hb2.size; clear hb2))
          refine bodyPost_ret (v := .agg #[.slice none 0 0, .int .i64 0, .int .i64 0, .slice none 0 0, .bool false, .slice none 0 0, .int .i64 9]) (by simp [results, Tryz.results19, go_sem, o0, o1, o2, o3, o4, o5, o6, g0, g1, g2, g3, g4, g5, g6]) rfl ?_
          have hsf := set7 w2 (w.heap.size + 1 + 1) (.slice none 0 0) (.int .i64 0) (.int .i64 0) (.slice none 0 0) (.bool false) (.slice none 0 0) (.int .i64 9)
          exact ⟨rfl, HB2.out.trans (hsf.below (B := w.heap.size) HB2.out.size (fun j e => by omega))⟩
        · exact absurd (by rw [← hc]; simp [hlt, hcn]) hne
    · have HMr := hid (HMr0.out true hm)
      have HEv := HEv0
      rw [he] at HEv
      obtain rfl : 1 = code := by rw [← hc]; unfold stepCode; rw [hm, he]; rfl
      clear hM hT hc hnn hm he HMr0 HEv0 hne
      go_enter Tryz.func19, Tryz.ntmps19
      go_wp2_with (first | (go_at_call 63; refine (HMr.out _ (HM.out.on HB0.out)).mono ?_; rintro e w1 ⟨rfl, hb1⟩; have HB1 := hid (HB0.out.trans (hb1.mono HB0.out.size)); have HX1 := hid (HX0.out.on hb1); obtain ⟨⟨l0, m0, m1, m2, m3⟩, l1, e0, e1, ⟨_, o0, o1, o2, o3, o4, o5, o6⟩, ⟨g0, g1, g2, g3, g4, g5, g6⟩⟩ := HX1.out; have hz1 := hb1.size; clear hb1) | (go_at_call 49; refine (HEv.out _ (HT.out.below HB1.out)).mono ?_; rintro e w2 ⟨rfl, hb2⟩; have HB2 := hid (HB1.out.trans (hb2.mono HB1.out.size)); have HX2 := hid (HX1.out.on hb2); clear m0 m1 m2 m3 l0 l1 e0 e1 o0 o1 o2 o3 o4 o5 o6 g0 g1 g2 g3 g4 g5 g6; obtain ⟨⟨l0, m0, m1, m2, m3⟩, l1, e0, e1, ⟨_, o0, o1, o2, o3, o4, o5, o6⟩, ⟨g0, g1, g2, g3, g4, g5, g6⟩⟩ := HX2.out; have hz2 := hb2.size; clear hb2))
      refine bodyPost_ret (v := .agg #[.slice none 0 0, .int .i64 0, .int .i64 0, .slice none 0 0, .bool false, .slice none 0 0, .int .i64 1]) (by simp [results, Tryz.results19, go_sem, o0, o1, o2, o3, o4, o5, o6, g0, g1, g2, g3, g4, g5, g6]) rfl ?_
      have hsf := set7 w2 (w.heap.size + 1 + 1) (.slice none 0 0) (.int .i64 0) (.int .i64 0) (.slice none 0 0) (.bool false) (.slice none 0 0) (.int .i64 1)
      exact ⟨rfl, HB2.out.trans (hsf.below (B := w.heap.size) HB2.out.size (fun j e => by omega))⟩
  · have HMr := hid (HMr0.out false hm)
    obtain rfl : 1 = code := by rw [← hc]; unfold stepCode; rw [hm]; rfl
    clear hM hT hc hnn hm HMr0 HEv0 hne
    go_enter Tryz.func19, Tryz.ntmps19
    go_wp2_with (go_at_call 63; refine (HMr.out _ (HM.out.on HB0.out)).mono ?_; rintro e w1 ⟨rfl, hb1⟩; have HB1 := hid (HB0.out.trans (hb1.mono HB0.out.size)); have HX1 := hid (HX0.out.on hb1); obtain ⟨⟨l0, m0, m1, m2, m3⟩, l1, e0, e1, ⟨_, o0, o1, o2, o3, o4, o5, o6⟩, ⟨g0, g1, g2, g3, g4, g5, g6⟩⟩ := HX1.out; have hz1 := hb1.size; clear hb1)
    refine bodyPost_ret (v := .agg #[.slice none 0 0, .int .i64 0, .int .i64 0, .slice none 0 0, .bool false, .slice none 0 0, .int .i64 1]) (by simp [results, Tryz.results19, go_sem, o0, o1, o2, o3, o4, o5, o6, g0, g1, g2, g3, g4, g5, g6]) rfl ?_
    have hsf := set7 w1 (w.heap.size + 1 + 1) (.slice none 0 0) (.int .i64 0) (.int .i64 0) (.slice none 0 0) (.bool false) (.slice none 0 0) (.int .i64 1)
    exact ⟨rfl, HB1.out.trans (hsf.below (B := w.heap.size) HB1.out.size (fun j e => by omega))⟩
set_option maxRecDepth 20000 in
set_option maxHeartbeats 4000000 in
theorem implStep_no (f : List Nd) (fb fc : Nat) (cnt now : Int) (C : List Cl) (ca : Option Addr) (cc : Nat) (tm : Int) (S : List ByteArray) (na : Option Addr) (nn nc : Nat) (hnn : S.length = nn) (hnl : nn ≤ maxLen) (hS : TxOk S) (code : Int) (hc : stepCode f cnt now C tm S = code) (hne : code ≠ 0) (w : World) (hM : MonIn w fb f ca C) (hT : TsAt w na S) (hkw : Kw w) (hg : 1 < w.heap.size) :
    Calls Tryz.prog 13 #[.agg #[.slice (some ⟨fb, 0, none⟩) f.length fc, .int .i64 cnt, .int .i64 now, .slice ca C.length cc], .agg #[.int .i64 tm, .slice na nn nc]] w fun e w' => e = .returned (.agg #[.slice none 0 0, .int .i64 0, .int .i64 0, .slice none 0 0, .bool false, .slice none 0 0, .int .i64 code]) ∧ Below w.heap.size w w' := by
  have HMr0 := hid (fun v hv w h hk hg => implMon_any f fb fc cnt now C ca cc v hv w h hk hg)
  unfold moV at HMr0
  have HEv0 := hid (fun w h hk hg => implEvent_any tm S nn hnn na nc hS hnl w h hk hg)
  have HM := hid hM
  have HT := hid hT
  have HK := hid hkw
  have HB0 := hid (kbelow3 w (.cells #[.slice (some ⟨fb, 0, none⟩) f.length fc, .int .i64 cnt, .int .i64 now, .slice ca C.length cc] 34) (.cells #[.int .i64 tm, .slice na nn nc] 41) (.cells #[.slice none 0 0, .int .i64 0, .int .i64 0, .slice none 0 0, .bool false, .slice none 0 0, .int .i64 0] 36))
  have HX0 := hid (PsBox.new w fb f.length fc cnt now ca C.length cc tm na nn nc)
  rcases Bool.eq_false_or_eq_true (monB f cnt now C) with hm | hm
  · rcases Bool.eq_false_or_eq_true (evB tm S) with he | he
    · have HMr := hid (HMr0.out true hm)
      have HEv := HEv0
      rw [he] at HEv
      unfold stepCode at hc
      rw [hm, he] at hc
      by_cases hlt : tm < now
      · obtain rfl : 8 = code := by rw [← hc]; simp [hlt]
        clear hM hT hc hnn hkw hm he HMr0 HEv0 hne
        go_enter Tryz.func13, Tryz.ntmps13
        go_wp2_with (first | (go_at_call 53; refine (HMr.out _ (HM.out.on HB0.out) (HK.out.below HB0.out hg) (by have := HB0.out.size; omega)).mono ?_; rintro e w1 ⟨rfl, hb1⟩; have HB1 := hid (HB0.out.trans (hb1.mono HB0.out.size)); have HX1 := hid (HX0.out.on hb1); obtain ⟨⟨l0, m0, m1, m2, m3⟩, l1, e0, e1, ⟨_, o0, o1, o2, o3, o4, o5, o6⟩, ⟨g0, g1, g2, g3, g4, g5, g6⟩⟩ := HX1.out; have hz1 := hb1.size; clear hb1) | (go_at_call 54; refine (HEv.out _ (HT.out.below HB1.out) (HK.out.below HB1.out hg) (by have := HB1.out.size; omega)).mono ?_; rintro e w2 ⟨rfl, hb2⟩; have HB2 := hid (HB1.out.trans (hb2.mono HB1.out.size)); have HX2 := hid (HX1.out.on hb2); clear m0 m1 m2 m3 l0 l1 e0 e1 o0 o1 o2 o3 o4 o5 o6 g0 g1 g2 g3 g4 g5 g6; obtain ⟨⟨l0, m0, m1, m2, m3⟩, l1, e0, e1, ⟨_, o0, o1, o2, o3, o4, o5, o6⟩, ⟨g0, g1, g2, g3, g4, g5, g6⟩⟩ := HX2.out; have hz2 := hb2.size; clear hb2))
        refine bodyPost_ret (v := .agg #[.slice none 0 0, .int .i64 0, .int .i64 0, .slice none 0 0, .bool false, .slice none 0 0, .int .i64 8]) (by simp [results, Tryz.results13, go_sem, o0, o1, o2, o3, o4, o5, o6, g0, g1, g2, g3, g4, g5, g6]) rfl ?_
        have hsf := set7 w2 (w.heap.size + 1 + 1) (.slice none 0 0) (.int .i64 0) (.int .i64 0) (.slice none 0 0) (.bool false) (.slice none 0 0) (.int .i64 8)
        exact ⟨rfl, HB2.out.trans (hsf.below (B := w.heap.size) HB2.out.size (fun j e => by omega))⟩
      · by_cases hcn : cnt = 1000000
        · obtain rfl : 9 = code := by rw [← hc]; simp [hlt, hcn]
          have hcn' : (cnt == 1000000) = true := by simpa using hcn
          clear hM hT hc hnn hkw hm he HMr0 HEv0 hne hcn
          go_enter Tryz.func13, Tryz.ntmps13
          go_wp2_with (first | (go_at_call 53; refine (HMr.out _ (HM.out.on HB0.out) (HK.out.below HB0.out hg) (by have := HB0.out.size; omega)).mono ?_; rintro e w1 ⟨rfl, hb1⟩; have HB1 := hid (HB0.out.trans (hb1.mono HB0.out.size)); have HX1 := hid (HX0.out.on hb1); obtain ⟨⟨l0, m0, m1, m2, m3⟩, l1, e0, e1, ⟨_, o0, o1, o2, o3, o4, o5, o6⟩, ⟨g0, g1, g2, g3, g4, g5, g6⟩⟩ := HX1.out; have hz1 := hb1.size; clear hb1) | (go_at_call 54; refine (HEv.out _ (HT.out.below HB1.out) (HK.out.below HB1.out hg) (by have := HB1.out.size; omega)).mono ?_; rintro e w2 ⟨rfl, hb2⟩; have HB2 := hid (HB1.out.trans (hb2.mono HB1.out.size)); have HX2 := hid (HX1.out.on hb2); clear m0 m1 m2 m3 l0 l1 e0 e1 o0 o1 o2 o3 o4 o5 o6 g0 g1 g2 g3 g4 g5 g6; obtain ⟨⟨l0, m0, m1, m2, m3⟩, l1, e0, e1, ⟨_, o0, o1, o2, o3, o4, o5, o6⟩, ⟨g0, g1, g2, g3, g4, g5, g6⟩⟩ := HX2.out; have hz2 := hb2.size; clear hb2))
          refine bodyPost_ret (v := .agg #[.slice none 0 0, .int .i64 0, .int .i64 0, .slice none 0 0, .bool false, .slice none 0 0, .int .i64 9]) (by simp [results, Tryz.results13, go_sem, o0, o1, o2, o3, o4, o5, o6, g0, g1, g2, g3, g4, g5, g6]) rfl ?_
          have hsf := set7 w2 (w.heap.size + 1 + 1) (.slice none 0 0) (.int .i64 0) (.int .i64 0) (.slice none 0 0) (.bool false) (.slice none 0 0) (.int .i64 9)
          exact ⟨rfl, HB2.out.trans (hsf.below (B := w.heap.size) HB2.out.size (fun j e => by omega))⟩
        · exact absurd (by rw [← hc]; simp [hlt, hcn]) hne
    · have HMr := hid (HMr0.out true hm)
      have HEv := HEv0
      rw [he] at HEv
      obtain rfl : 1 = code := by rw [← hc]; unfold stepCode; rw [hm, he]; rfl
      clear hM hT hc hnn hkw hm he HMr0 HEv0 hne
      go_enter Tryz.func13, Tryz.ntmps13
      go_wp2_with (first | (go_at_call 53; refine (HMr.out _ (HM.out.on HB0.out) (HK.out.below HB0.out hg) (by have := HB0.out.size; omega)).mono ?_; rintro e w1 ⟨rfl, hb1⟩; have HB1 := hid (HB0.out.trans (hb1.mono HB0.out.size)); have HX1 := hid (HX0.out.on hb1); obtain ⟨⟨l0, m0, m1, m2, m3⟩, l1, e0, e1, ⟨_, o0, o1, o2, o3, o4, o5, o6⟩, ⟨g0, g1, g2, g3, g4, g5, g6⟩⟩ := HX1.out; have hz1 := hb1.size; clear hb1) | (go_at_call 54; refine (HEv.out _ (HT.out.below HB1.out) (HK.out.below HB1.out hg) (by have := HB1.out.size; omega)).mono ?_; rintro e w2 ⟨rfl, hb2⟩; have HB2 := hid (HB1.out.trans (hb2.mono HB1.out.size)); have HX2 := hid (HX1.out.on hb2); clear m0 m1 m2 m3 l0 l1 e0 e1 o0 o1 o2 o3 o4 o5 o6 g0 g1 g2 g3 g4 g5 g6; obtain ⟨⟨l0, m0, m1, m2, m3⟩, l1, e0, e1, ⟨_, o0, o1, o2, o3, o4, o5, o6⟩, ⟨g0, g1, g2, g3, g4, g5, g6⟩⟩ := HX2.out; have hz2 := hb2.size; clear hb2))
      refine bodyPost_ret (v := .agg #[.slice none 0 0, .int .i64 0, .int .i64 0, .slice none 0 0, .bool false, .slice none 0 0, .int .i64 1]) (by simp [results, Tryz.results13, go_sem, o0, o1, o2, o3, o4, o5, o6, g0, g1, g2, g3, g4, g5, g6]) rfl ?_
      have hsf := set7 w2 (w.heap.size + 1 + 1) (.slice none 0 0) (.int .i64 0) (.int .i64 0) (.slice none 0 0) (.bool false) (.slice none 0 0) (.int .i64 1)
      exact ⟨rfl, HB2.out.trans (hsf.below (B := w.heap.size) HB2.out.size (fun j e => by omega))⟩
  · have HMr := hid (HMr0.out false hm)
    obtain rfl : 1 = code := by rw [← hc]; unfold stepCode; rw [hm]; rfl
    clear hM hT hc hnn hkw hm HMr0 HEv0 hne
    go_enter Tryz.func13, Tryz.ntmps13
    go_wp2_with (go_at_call 53; refine (HMr.out _ (HM.out.on HB0.out) (HK.out.below HB0.out hg) (by have := HB0.out.size; omega)).mono ?_; rintro e w1 ⟨rfl, hb1⟩; have HB1 := hid (HB0.out.trans (hb1.mono HB0.out.size)); have HX1 := hid (HX0.out.on hb1); obtain ⟨⟨l0, m0, m1, m2, m3⟩, l1, e0, e1, ⟨_, o0, o1, o2, o3, o4, o5, o6⟩, ⟨g0, g1, g2, g3, g4, g5, g6⟩⟩ := HX1.out; have hz1 := hb1.size; clear hb1)
    refine bodyPost_ret (v := .agg #[.slice none 0 0, .int .i64 0, .int .i64 0, .slice none 0 0, .bool false, .slice none 0 0, .int .i64 1]) (by simp [results, Tryz.results13, go_sem, o0, o1, o2, o3, o4, o5, o6, g0, g1, g2, g3, g4, g5, g6]) rfl ?_
    have hsf := set7 w1 (w.heap.size + 1 + 1) (.slice none 0 0) (.int .i64 0) (.int .i64 0) (.slice none 0 0) (.bool false) (.slice none 0 0) (.int .i64 1)
    exact ⟨rfl, HB1.out.trans (hsf.below (B := w.heap.size) HB1.out.size (fun j e => by omega))⟩
end Go.Proofs.YtbfkbgmkibkbnaaGreatDoor
namespace Go.Proofs.YtbfkbgmkibkbnaaGreatDoor
open Go.RowKit
set_option linter.unusedVariables false
set_option linter.unusedSimpArgs false
/-- The time up to which k events have come. -/
def nowK (L : List Evt) (k : Nat) : Int := if k = 0 then 0 else (evAt L (k - 1)).1
/-- The cells behind k events. -/
def runC (f : List Nd) (L : List Evt) : Nat → List Cl
  | 0 => bareC f
  | k + 1 => nextC (k : Int) (nowK L k) (evAt L k).1 (evAt L k).2 f (runC f L k)
/-- What node i tells of event k. -/
def runG (f : List Nd) (L : List Evt) (k i : Nat) : Bool := gV (k : Int) (nowK L k) (evAt L k).1 (evAt L k).2 f (runC f L k) i
theorem bare_right {f : List Nd} (hr : rightB f = true) : monB f 0 0 (bareC f) = true := by
  have hg : goodTo f f.length = true := by
    have := hr
    simp only [rightB, Bool.and_eq_true] at this
    exact this.2.1
  simp only [monB, Bool.and_eq_true, decide_eq_true_eq, cellsTo, List.all_eq_true, List.mem_range]
  refine ⟨hr, bareC_len f, rfl, rfl, rfl, fun i hi => ?_⟩
  rw [bareC_at f i hi]
  have hn := (goodTo_at f i f.length hi hg).1
  have hk := nodeB_kind hn
  have hsp : spanB (bareLo (ndAt f i)) (bareHi (ndAt f i)) = true := by
    rcases Bool.eq_false_or_eq_true (keepsK (ndAt f i).k) with h | h
    · have ht : timedB (ndAt f i).k = true := by
        simp only [keepsK, decide_eq_true_eq] at h
        simp [timedB]
        omega
      simp only [nodeB, Bool.and_eq_true] at hn
      have h5 := hn.2.2.2.2
      rw [if_pos ht] at h5
      simpa [bareLo, bareHi, h] using h5
    · have e1 : bareLo (ndAt f i) = 0 := by simp [bareLo, h]
      have e2 : bareHi (ndAt f i) = 0 := by simp [bareHi, h]
      rw [e1, e2]
      decide
  have hkr : krB (bareLo (ndAt f i)) (bareHi (ndAt f i)) [] = true := krB_yes _ _ _ hsp (by unfold mostI; split <;> simp <;> omega) rfl
  simp only [cellB, keptB, wasB, hkr]
  simp
theorem nowK_le {L : List Evt} (hmon : ∀ j, j + 1 < L.length → (evAt L j).1 ≤ (evAt L (j + 1)).1) (hev : ∀ j, j < L.length → evR (evAt L j) = true) (k : Nat) (hk : k < L.length) : nowK L k ≤ (evAt L k).1 := by
  unfold nowK
  split
  · have := hev k hk
    simp only [evR, evB, Bool.and_eq_true, decide_eq_true_eq] at this
    omega
  · next h =>
    have := hmon (k - 1) (by omega)
    rwa [show k - 1 + 1 = k by omega] at this
theorem ev_time {e : Evt} (h : evR e = true) : timeB e.1 = true := by
  simp only [evR, evB, Bool.and_eq_true, decide_eq_true_eq] at h
  simp [timeB, h.1]
/-- A monitor that goes through a right trace is right all the way. -/
theorem run_right {f : List Nd} {L : List Evt} (hr : rightB f = true) (hl : L.length ≤ 60) (hev : ∀ j, j < L.length → evR (evAt L j) = true) (hmon : ∀ j, j + 1 < L.length → (evAt L j).1 ≤ (evAt L (j + 1)).1) : ∀ k, k ≤ L.length → monB f (k : Int) (nowK L k) (runC f L k) = true := by
  intro k
  induction k with
  | zero => intro _; exact bare_right hr
  | succ k ih =>
    intro hk
    have h1 := ih (by omega)
    have h2 := next_right (S := (evAt L k).2) h1 (nowK_le hmon hev k (by omega)) (ev_time (hev k (by omega))) (by omega)
    have e : nowK L (k + 1) = (evAt L k).1 := by unfold nowK; rw [if_neg (by omega), Nat.add_sub_cancel]
    rw [e]
    have e2 : ((k + 1 : Nat) : Int) = (k : Int) + 1 := by omega
    rw [e2]
    exact h2
end Go.Proofs.YtbfkbgmkibkbnaaGreatDoor
namespace Go.Proofs.YtbfkbgmkibkbnaaGreatDoor
open Go.RowKit
set_option linter.unusedVariables false
set_option linter.unusedSimpArgs false
theorem ckx_at {w : World} {T : Nat → Prop} {cb n : Nat} {D : List Cl} (hlt : cb < w.heap.size) (hl : D.length = n) (h : ∀ i, i < n → CkX w T cb i (clAt D i)) : CksAt w (some ⟨cb, 0, none⟩) D := by
  refine Or.inr ⟨cb, 0, rfl, hlt, fun i hi => ?_⟩
  obtain ⟨a, c, h0, h1, h2, h3, h4, h5, _⟩ := h i (by omega)
  rw [Nat.zero_add]
  exact ⟨h0, h1, h3, a, c, h2, h4, h5⟩
theorem ckO_at {w : World} {cb m : Nat} {D : List Cl} {V z : Nat → Value} (hm : D.length * 4 ≤ m) (h : CkO w cb m D V z D.length) : CksAt w (some ⟨cb, 0, none⟩) D := by
  refine Or.inr ⟨cb, 0, rfl, h.row.lt, fun i hi => ?_⟩
  obtain ⟨a, c, ev, hA, _, _⟩ := (h.own i hi).form
  have hsl := (h.own i hi)
  rw [ev] at hsl
  rw [Nat.zero_add]
  refine ⟨?_, ?_, ?_, a, c, ?_, hsl.slv, hA⟩
  · rw [h.row.cell (by omega)]
    unfold rowC
    rw [if_pos (by omega), if_pos (by omega), show i * 4 / 4 = i by omega]
  · rw [h.row.cell (by omega)]
    unfold rowC
    rw [if_pos (by omega), if_neg (by omega), if_pos (by omega), show (i * 4 + 1) / 4 = i by omega]
  · rw [h.row.cell (by omega)]
    unfold rowC
    rw [if_pos (by omega), if_neg (by omega), if_neg (by omega), if_neg (by omega), show (i * 4 + 3) / 4 = i by omega]
  · rw [h.row.cell (by omega)]
    unfold rowC
    rw [if_pos (by omega), if_neg (by omega), if_neg (by omega), if_pos (by omega), show (i * 4 + 2) / 4 = i by omega, ev]
/-- A right monitor, as the next step reads it. -/
theorem monIn_of {w : World} {g : Nat} {f : List Nd} {cb : Nat} {D : List Cl} {cnt now : Int} (hn : NodesAt w g f) (hok : ∀ i, i < f.length → ndOk (ndAt f i)) (hm : monB f cnt now D = true) (hc : CksAt w (some ⟨cb, 0, none⟩) D) : MonIn w g f (some ⟨cb, 0, none⟩) D := by
  simp only [monB, Bool.and_eq_true, decide_eq_true_eq, cellsTo, List.all_eq_true, List.mem_range] at hm
  obtain ⟨hr, hcl, _, _, _, hcells⟩ := hm
  have hfl : f.length ≤ 24 := by simp only [rightB, Bool.and_eq_true, decide_eq_true_eq] at hr; exact hr.1.2
  exact ⟨hn, hok, by omega, hc, by omega, fun i hi => by have := krB_len (cell_keeps (hcells i (by omega))).1; omega⟩
end Go.Proofs.YtbfkbgmkibkbnaaGreatDoor
namespace Go.Proofs.YtbfkbgmkibkbnaaGreatDoor
open Go.RowKit
set_option linter.unusedVariables false
set_option linter.unusedSimpArgs false
theorem OBox.new2 (w : World) (fa : Option Addr) (fn fc : Nat) (cnt now : Int) (ca : Option Addr) (cn cc : Nat) (yes : Bool) (aa : Option Addr) (an ac : Nat) (code : Int) : OBox (w.alloc (.cells #[.slice fa fn fc, .int .i64 cnt, .int .i64 now, .slice ca cn cc, .bool yes, .slice aa an ac, .int .i64 code] 36)) w.heap.size fa fn fc cnt now ca cn cc yes aa an ac code ∧ OFree (w.alloc (.cells #[.slice fa fn fc, .int .i64 cnt, .int .i64 now, .slice ca cn cc, .bool yes, .slice aa an ac, .int .i64 code] 36)) w.heap.size :=
  ⟨⟨by simp, by simp [go_sem], by simp [go_sem], by simp [go_sem], by simp [go_sem], by simp [go_sem], by simp [go_sem], by simp [go_sem]⟩, ⟨by simp [go_sem], by simp [go_sem], by simp [go_sem], by simp [go_sem], by simp [go_sem], by simp [go_sem], by simp [go_sem]⟩⟩
end Go.Proofs.YtbfkbgmkibkbnaaGreatDoor
namespace Go.Proofs.YtbfkbgmkibkbnaaGreatDoor
open Go.RowKit
set_option linter.unusedVariables false
set_option linter.unusedSimpArgs false
/-- A row of bools that the call owns. -/
def OwnQ (w : World) (base : Nat) (v : Value) (V : List Bool) : Prop := w.ownsRow base 4 1 v V.length (V.map Value.bool)
theorem OwnQ.save {w w' : World} {base : Nat} {v : Value} {V : List Bool} {S : Nat → Prop} (h : OwnQ w base v V) (hs : Save w w' S) (hS : ∀ k, v.ownBlock = some k → ¬ S k) : OwnQ w' base v V := by
  refine ⟨h.1, ?_⟩
  rcases h.2 with hn | ⟨b, cap, cur, rfl, hb, hg, rest⟩
  · exact .inl hn
  · refine .inr ⟨b, cap, cur, rfl, hb, ?_, rest⟩
    rw [hs.block b (Array.getElem?_eq_some_iff.1 hg).1 (hS b rfl)]
    exact hg
theorem OwnQ.form {w : World} {base : Nat} {v : Value} {V : List Bool} (h : OwnQ w base v V) : ∃ a c, v = .slice a V.length c ∧ BsAt w a V ∧ RowBs w a V.length ∧ (∀ b, a = some ⟨b, 0, none⟩ → base ≤ b ∧ b < w.heap.size) ∧ ∀ q, a = some q → q = ⟨q.block, 0, none⟩ := by
  rcases h.2 with ⟨hv, h0⟩ | ⟨g, cap, cur, hv, hb, hg, h1, h2, h3, h4⟩
  · exact ⟨none, 0, by rw [hv, h0], Or.inl h0, Or.inl h0, fun b e => (by cases e), fun q e => (by cases e)⟩
  · have hlt := (Array.getElem?_eq_some_iff.1 hg).1
    refine ⟨some ⟨g, 0, none⟩, cap, hv, Or.inr ⟨g, rfl, hlt, fun i hi => ?_⟩, Or.inr ⟨g, fun j => cur.getD j undef, cap, rfl, h1, ⟨cur, hg, by omega, fun i hi => ?_⟩⟩, fun b e => (by injection e with e1; injection e1 with e2; subst e2; exact ⟨hb, hlt⟩), fun q e => (by injection e with e1; subst e1; rfl)⟩
    · have h5 := World.ownsRow.cells h (g := g) (by rw [hv]; rfl) i (.bool (V.getD i false)) (by simp [hi])
      rw [Addr.add_lit] at h5
      simpa using h5
    · have hi' : i < cur.size := by omega
      simp [hi']
theorem ownQ_none (w : World) (base : Nat) (h : base ≤ w.heap.size) : OwnQ (w.alloc (.cells #[] 4)) base (.slice (some ⟨w.heap.size, 0, none⟩) 0 0) [] :=
  World.ownsRow_made w #[] 0 h (by simp [maxLen]) (by simp)
/-- The cells of a Monitor that stand whatever is written into block q. -/
def CkOff (w : World) (q : Nat) (a : Option Addr) (C : List Cl) : Prop := ∀ w', Save w w' (fun j => j = q) → CksAt w' a C
theorem CkOff.on {w w' : World} {q : Nat} {a : Option Addr} {C : List Cl} (h : CkOff w q a C) (hs : Save w w' (fun j => j = q)) : CkOff w' q a C := fun W h2 => h W (hs.trans h2)
theorem CkOff.below {w w' : World} {q : Nat} {a : Option Addr} {C : List Cl} (h : CkOff w q a C) (hb : Below w.heap.size w w') : CkOff w' q a C := h.on (Save.of_below hb _ (fun j h1 h2 => absurd h1 (by omega)))
theorem CkOff.at {w : World} {q : Nat} {a : Option Addr} {C : List Cl} (h : CkOff w q a C) : CksAt w a C := h w (Save.refl w _)
theorem CkOff.bare {w : World} {q : Nat} {a : Option Addr} {F : List Nd} (h : CksAt w a (bareC F)) (h1 : ∀ p, a = some p → ¬ p.block = q) : CkOff w q a (bareC F) := fun W hs => h.bare_save hs h1
theorem CkOff.made {w : World} {T : Nat → Prop} {cb n q : Nat} {D : List Cl} (hlt : cb < w.heap.size) (hl : D.length = n) (hT : T q) (hq : ¬ cb = q) (h : ∀ i, i < n → CkX w T cb i (clAt D i)) : CkOff w q (some ⟨cb, 0, none⟩) D := fun W hs =>
  ckx_at (Nat.lt_of_lt_of_le hlt hs.size) hl (fun i hi => (h i hi).step hs hlt hq (fun j _ e => by have : j = q := e; subst this; exact hT) (fun j e => Or.inl e))
end Go.Proofs.YtbfkbgmkibkbnaaGreatDoor
namespace Go.Proofs.YtbfkbgmkibkbnaaGreatDoor
open Go.RowKit
set_option linter.unusedVariables false
set_option linter.unusedSimpArgs false
/-- The times at which g was so, of the first k events. -/
def putsTo (L : List Evt) (g : Nat → Bool) : Nat → List Int
  | 0 => []
  | k + 1 => putsTo L g k ++ (if g k then [(evAt L k).1] else [])
/-- The times at which gb was so, and ga at all behind, of the first k events. -/
def sincesTo (L : List Evt) (ga gb : Nat → Bool) : Nat → List Int
  | 0 => []
  | k + 1 => (if ga k then sincesTo L ga gb k else []) ++ (if gb k then [(evAt L k).1] else [])
theorem mem_if {p : Bool} {a t : Int} : a ∈ (if p then [t] else []) ↔ p = true ∧ a = t := by
  cases p <;> simp
theorem puts_once (x : Nd) (L : List Evt) (i : Nat) (g : Nat → Bool) : ∀ k, onceTo x L i g k = true ↔ ∃ a, a ∈ putsTo L g k ∧ inB x.lo x.hi ((evAt L i).1 - a) = true := by
  intro k
  induction k with
  | zero => simp [onceTo, putsTo]
  | succ k ih =>
    have e : onceTo x L i g (k + 1) = (onceTo x L i g k || (gapB x L k i && g k)) := by simp [onceTo, List.range_succ]
    have e2 : putsTo L g (k + 1) = putsTo L g k ++ (if g k then [(evAt L k).1] else []) := rfl
    rw [e, Bool.or_eq_true, ih, Bool.and_eq_true, e2]
    constructor
    · rintro (⟨a, h1, h2⟩ | ⟨h1, h2⟩)
      · exact ⟨a, List.mem_append.2 (Or.inl h1), h2⟩
      · exact ⟨_, List.mem_append.2 (Or.inr (mem_if.2 ⟨h2, rfl⟩)), h1⟩
    · rintro ⟨a, h1, h2⟩
      rcases List.mem_append.1 h1 with h1 | h1
      · exact Or.inl ⟨a, h1, h2⟩
      · obtain ⟨h3, rfl⟩ := mem_if.1 h1
        exact Or.inr ⟨h2, h3⟩
theorem sinces_since (x : Nd) (L : List Evt) (i : Nat) (ga gb : Nat → Bool) : ∀ k, sinceTo x L i ga gb k = true ↔ ∃ a, a ∈ sincesTo L ga gb k ∧ inB x.lo x.hi ((evAt L i).1 - a) = true := by
  intro k
  induction k with
  | zero => simp [sinceTo, sincesTo]
  | succ k ih =>
    have e1 : sinceTo x L i ga gb (k + 1) = ((gapB x L k i && gb k) || (ga k && sinceTo x L i ga gb k)) := rfl
    have e2 : sincesTo L ga gb (k + 1) = (if ga k then sincesTo L ga gb k else []) ++ (if gb k then [(evAt L k).1] else []) := rfl
    rw [e1, e2, Bool.or_eq_true, Bool.and_eq_true, Bool.and_eq_true, ih]
    constructor
    · rintro (⟨h1, h2⟩ | ⟨h1, a, h2, h3⟩)
      · exact ⟨_, List.mem_append.2 (Or.inr (mem_if.2 ⟨h2, rfl⟩)), h1⟩
      · exact ⟨a, List.mem_append.2 (Or.inl (by rw [if_pos h1]; exact h2)), h3⟩
    · rintro ⟨a, h1, h2⟩
      rcases List.mem_append.1 h1 with h1 | h1
      · rcases Bool.eq_false_or_eq_true (ga k) with h3 | h3
        · rw [if_pos h3] at h1
          exact Or.inr ⟨h3, a, h1, h2⟩
        · rw [if_neg (by simp [h3])] at h1
          simp at h1
      · obtain ⟨h3, rfl⟩ := mem_if.1 h1
        exact Or.inl ⟨h2, h3⟩
theorem Kept.nil {lo hi : Int} (tm : Int) (h : spanB lo hi = true) : Kept lo hi tm [] [] :=
  ⟨krB_yes _ _ _ h (by unfold mostI; split <;> simp <;> omega) rfl, fun a ha => by simp at ha, fun _ => ⟨rfl, fun a ha => by simp at ha⟩, fun _ a => by simp⟩
theorem Kept.next {lo hi tm : Int} {A Z : List Int} (h : Kept lo hi tm A Z) (put : Bool) (tm' : Int) (ht : tm ≤ tm') (hT : timeB tm' = true) : Kept lo hi tm' (A ++ (if put then [tm'] else [])) (nextI put hi tm' Z) := by
  unfold nextI
  cases put with
  | true => rw [if_pos rfl, if_pos rfl]; exact h.put tm' ht hT
  | false => rw [if_neg (by simp), if_neg (by simp), List.append_nil]; exact h.drop tm' ht
/-- What is kept of node n behind k events. -/
def KeptAt (f : List Nd) (L : List Evt) (k n : Nat) (c : Cl) : Prop :=
  let x := ndAt f n
  (x.k = 6 → c.was = (decide (0 < k) && hv f L x.a.toNat (k - 1))) ∧
  (x.k = 7 → Kept c.lo c.hi (nowK L k) (putsTo L (hv f L x.a.toNat) k) c.ts) ∧
  (x.k = 8 → Kept c.lo c.hi (nowK L k) (putsTo L (fun j => !hv f L x.a.toNat j) k) c.ts) ∧
  (x.k = 9 → Kept c.lo c.hi (nowK L k) (sincesTo L (hv f L x.a.toNat) (hv f L x.b.toNat) k) c.ts)
theorem keptAt_bare {f : List Nd} {L : List Evt} (hr : rightB f = true) (n : Nat) (hn : n < f.length) : KeptAt f L 0 n (clAt (runC f L 0) n) := by
  have hb := bare_right hr
  simp only [monB, Bool.and_eq_true, decide_eq_true_eq, cellsTo, List.all_eq_true, List.mem_range] at hb
  have hk := (cell_keeps (hb.2.2.2.2.2 n hn)).1
  have hs := (krB_parts hk).1
  show KeptAt f L 0 n (clAt (bareC f) n)
  rw [bareC_at f n hn] at hs ⊢
  refine ⟨fun _ => rfl, fun _ => Kept.nil _ hs, fun _ => Kept.nil _ hs, fun _ => Kept.nil _ hs⟩
theorem ask_bool {p q : Bool} (h : p = true ↔ q = true) : p = q := by
  cases p <;> cases q <;> simp_all
/-- One event: what each node tells, and what is kept of it. -/
theorem run_node {f : List Nd} {L : List Evt} (hr : rightB f = true) (hl : L.length ≤ 60) (hev : ∀ j, j < L.length → evR (evAt L j) = true) (hmon : ∀ j, j + 1 < L.length → (evAt L j).1 ≤ (evAt L (j + 1)).1) (k : Nat) (hk : k < L.length) (hI : ∀ n, n < f.length → KeptAt f L k n (clAt (runC f L k) n)) : ∀ n, n < f.length → runG f L k n = hv f L n k := by
  intro n
  induction n using Nat.strongRecOn with
  | ind n ih =>
    intro hn
    obtain ⟨hkd, hda⟩ := right_node hr n hn
    have hm := run_right hr hl hev hmon k (by omega)
    simp only [monB, Bool.and_eq_true, decide_eq_true_eq, cellsTo, List.all_eq_true, List.mem_range] at hm
    have hc := cell_keeps (hm.2.2.2.2.2 n hn)
    have hle := nowK_le hmon hev k hk
    have hT := ev_time (hev k hk)
    obtain ⟨i6, i7, i8, i9⟩ := hI n hn
    have hga : 0 < armsN (ndAt f n).k → runG f L k (ndAt f n).a.toNat = hv f L (ndAt f n).a.toNat k := fun h => by
      have := hda.1 h
      exact ih _ (by omega) (by omega)
    have hgb : 1 < armsN (ndAt f n).k → runG f L k (ndAt f n).b.toNat = hv f L (ndAt f n).b.toNat k := fun h => by
      have := hda.2 h
      exact ih _ (by omega) (by omega)
    have hlo : keepsK (ndAt f n).k = true → (clAt (runC f L k) n).lo = (ndAt f n).lo ∧ (clAt (runC f L k) n).hi = (ndAt f n).hi := fun h => by
      rw [hc.2.1, hc.2.2.1]
      simp [bareLo, bareHi, h]
    rw [hv_eq f L n k hda]
    show gV _ _ _ _ _ _ _ = _
    rw [gV_eq _ _ _ _ _ _ _ hkd hda]
    have eg : gV (k : Int) (nowK L k) (evAt L k).1 (evAt L k).2 f (runC f L k) = runG f L k := rfl
    rw [eg]
    generalize clAt (runC f L k) n = c at *
    unfold holdB stB
    generalize ndAt f n = x at *
    simp only
    obtain ⟨q1, q2⟩ := hkd
    by_cases h1 : x.k = 1
    · rw [if_pos h1, if_pos h1]
    rw [if_neg h1, if_neg h1]
    by_cases h2 : x.k = 2
    · rw [if_pos h2, if_pos h2]
    rw [if_neg h2, if_neg h2]
    have ha := hga (armsN_a (by omega))
    by_cases h3 : x.k = 3
    · rw [if_pos h3, if_pos h3, ha]
    rw [if_neg h3, if_neg h3]
    by_cases h4 : x.k = 4
    · rw [if_pos h4, if_pos h4, ha, hgb (armsN_b (by omega))]
    rw [if_neg h4, if_neg h4]
    by_cases h5 : x.k = 5
    · rw [if_pos h5, if_pos h5, ha, hgb (armsN_b (by omega))]
    rw [if_neg h5, if_neg h5]
    by_cases h6 : x.k = 6
    · rw [if_pos h6, if_pos h6]
      show (decide (0 < (k : Int)) && (c.was && inB x.lo x.hi ((evAt L k).1 - nowK L k))) = _
      rw [i6 h6]
      by_cases h0 : 0 < k
      · have e1 : decide (0 < (k : Int)) = true := by simp; omega
        have e2 : decide (0 < k) = true := by simp; omega
        have e3 : nowK L k = (evAt L (k - 1)).1 := by unfold nowK; rw [if_neg (by omega)]
        rw [e1, e2, e3, Bool.true_and, Bool.true_and, Bool.true_and, Bool.and_comm]
        rfl
      · have e2 : decide (0 < k) = false := by simp; omega
        have e1 : decide (0 < (k : Int)) = false := by simp; omega
        rw [e1, e2]
        rfl
    rw [if_neg h6, if_neg h6]
    obtain ⟨elo, ehi⟩ := hlo (by simp [keepsK]; omega)
    by_cases h7 : x.k = 7
    · rw [if_pos h7, if_pos h7, ha]
      have hK := (i7 h7).next (hv f L x.a.toNat k) _ hle hT
      show askTo _ _ _ _ _ = _
      rw [hK.ask]
      refine ask_bool ?_
      rw [askTo_iff, puts_once, elo, ehi]
      rfl
    rw [if_neg h7, if_neg h7]
    by_cases h8 : x.k = 8
    · rw [if_pos h8, if_pos h8, ha]
      have hK := (i8 h8).next (!hv f L x.a.toNat k) _ hle hT
      show (!askTo _ _ _ _ _) = _
      rw [hK.ask]
      congr 1
      refine ask_bool ?_
      rw [askTo_iff, puts_once, elo, ehi]
      rfl
    rw [if_neg h8, if_neg h8]
    have h9 : x.k = 9 := by omega
    rw [if_pos h9, ha, hgb (armsN_b (by omega))]
    have hK0 : Kept c.lo c.hi (nowK L k) (if hv f L x.a.toNat k then sincesTo L (hv f L x.a.toNat) (hv f L x.b.toNat) k else []) (if hv f L x.a.toNat k then c.ts else []) := by
      have h := i9 h9
      cases hv f L x.a.toNat k with
      | true => simpa using h
      | false => simpa using Kept.nil _ (krB_parts h.right).1
    have hK := hK0.next (hv f L x.b.toNat k) _ hle hT
    show askTo _ _ _ _ _ = _
    rw [hK.ask]
    refine ask_bool ?_
    rw [askTo_iff, sinces_since, elo, ehi]
    rfl
/-- What is kept behind one event more. -/
theorem keptAt_next {f : List Nd} {L : List Evt} (hr : rightB f = true) (hl : L.length ≤ 60) (hev : ∀ j, j < L.length → evR (evAt L j) = true) (hmon : ∀ j, j + 1 < L.length → (evAt L j).1 ≤ (evAt L (j + 1)).1) (k : Nat) (hk : k < L.length) (hI : ∀ n, n < f.length → KeptAt f L k n (clAt (runC f L k) n)) (n : Nat) (hn : n < f.length) : KeptAt f L (k + 1) n (clAt (runC f L (k + 1)) n) := by
  have hG := run_node hr hl hev hmon k hk hI
  obtain ⟨hkd, hda⟩ := right_node hr n hn
  have hle := nowK_le hmon hev k hk
  have hT := ev_time (hev k hk)
  obtain ⟨i6, i7, i8, i9⟩ := hI n hn
  have e : clAt (runC f L (k + 1)) n = (stB (k : Int) (nowK L k) (evAt L k).1 (evAt L k).2 (ndAt f n) (clAt (runC f L k) n) (runG f L k)).2 := by
    show clAt (nextC _ _ _ _ _ _) n = _
    rw [nextC_at _ _ _ _ _ _ _ hn]
    rfl
  have en : nowK L (k + 1) = (evAt L k).1 := by unfold nowK; rw [if_neg (by omega), Nat.add_sub_cancel]
  have hga : 0 < armsN (ndAt f n).k → runG f L k (ndAt f n).a.toNat = hv f L (ndAt f n).a.toNat k := fun h => by
    have := hda.1 h
    exact hG _ (by omega)
  have hgb : 1 < armsN (ndAt f n).k → runG f L k (ndAt f n).b.toNat = hv f L (ndAt f n).b.toNat k := fun h => by
    have := hda.2 h
    exact hG _ (by omega)
  rw [e]
  unfold KeptAt
  generalize clAt (runC f L k) n = c at *
  generalize ndAt f n = x at *
  simp only
  rw [en]
  unfold stB
  refine ⟨fun h6 => ?_, fun h7 => ?_, fun h8 => ?_, fun h9 => ?_⟩
  · rw [if_neg (by omega), if_neg (by omega), if_neg (by omega), if_neg (by omega), if_neg (by omega), if_pos h6]
    show runG f L k x.a.toNat = _
    rw [hga (armsN_a (by omega))]
    simp
  · rw [if_neg (by omega), if_neg (by omega), if_neg (by omega), if_neg (by omega), if_neg (by omega), if_neg (by omega), if_pos h7, hga (armsN_a (by omega))]
    exact (i7 h7).next (hv f L x.a.toNat k) _ hle hT
  · rw [if_neg (by omega), if_neg (by omega), if_neg (by omega), if_neg (by omega), if_neg (by omega), if_neg (by omega), if_neg (by omega), if_pos h8, hga (armsN_a (by omega))]
    exact (i8 h8).next (!hv f L x.a.toNat k) _ hle hT
  · rw [if_neg (by omega), if_neg (by omega), if_neg (by omega), if_neg (by omega), if_neg (by omega), if_neg (by omega), if_neg (by omega), if_neg (by omega), hga (armsN_a (by omega)), hgb (armsN_b (by omega))]
    have hK0 : Kept c.lo c.hi (nowK L k) (if hv f L x.a.toNat k then sincesTo L (hv f L x.a.toNat) (hv f L x.b.toNat) k else []) (if hv f L x.a.toNat k then c.ts else []) := by
      have h := i9 h9
      cases hv f L x.a.toNat k with
      | true => simpa using h
      | false => simpa using Kept.nil _ (krB_parts h.right).1
    exact hK0.next (hv f L x.b.toNat k) _ hle hT
/-- All the way: what is kept, and what is told. -/
theorem run_kept {f : List Nd} {L : List Evt} (hr : rightB f = true) (hl : L.length ≤ 60) (hev : ∀ j, j < L.length → evR (evAt L j) = true) (hmon : ∀ j, j + 1 < L.length → (evAt L j).1 ≤ (evAt L (j + 1)).1) : ∀ k, k ≤ L.length → ∀ n, n < f.length → KeptAt f L k n (clAt (runC f L k) n) := by
  intro k
  induction k with
  | zero => intro _ n hn; exact keptAt_bare hr n hn
  | succ k ih => intro hk n hn; exact keptAt_next hr hl hev hmon k (by omega) (ih (by omega)) n hn
theorem run_hv {f : List Nd} {L : List Evt} (hr : rightB f = true) (hl : L.length ≤ 60) (hev : ∀ j, j < L.length → evR (evAt L j) = true) (hmon : ∀ j, j + 1 < L.length → (evAt L j).1 ≤ (evAt L (j + 1)).1) (k : Nat) (hk : k < L.length) (n : Nat) (hn : n < f.length) : runG f L k n = hv f L n k :=
  run_node hr hl hev hmon k hk (run_kept hr hl hev hmon k (by omega)) n hn
end Go.Proofs.YtbfkbgmkibkbnaaGreatDoor
namespace Go.Proofs.YtbfkbgmkibkbnaaGreatDoor
open Go.RowKit
set_option linter.unusedVariables false
set_option linter.unusedSimpArgs false
/-- What the first k events have told. -/
def rTo (f : List Nd) (L : List Evt) (k : Nat) : List Bool := (List.range k).map fun j => runG f L j (f.length - 1)
theorem rTo_len (f : List Nd) (L : List Evt) (k : Nat) : (rTo f L k).length = k := by simp [rTo]
theorem rTo_succ (f : List Nd) (L : List Evt) (k : Nat) : rTo f L (k + 1) = rTo f L k ++ [runG f L k (f.length - 1)] := by simp [rTo, List.range_succ]
theorem tr_to {L : List Evt} (ht : trB L = true) : trTo L L.length = true := by
  simp only [trB, Bool.and_eq_true, decide_eq_true_eq] at ht
  exact ht.2
theorem tr_ev {L : List Evt} (ht : trB L = true) : ∀ j, j < L.length → evR (evAt L j) = true := fun j hj => (trTo_ev L j _ hj (tr_to ht)).1
theorem tr_mon {L : List Evt} (ht : trB L = true) : ∀ j, j + 1 < L.length → (evAt L j).1 ≤ (evAt L (j + 1)).1 := fun j hj => by
  have := (trTo_ev L (j + 1) _ hj (tr_to ht)).2 (by omega)
  rwa [Nat.add_sub_cancel] at this
theorem rTo_vd {f : List Nd} {L : List Evt} (hr : rightB f = true) (ht : trB L = true) : vdB f L = rTo f L L.length := by
  rw [vdB_yes f L hr ht]
  unfold rTo
  refine List.map_congr_left fun j hj => ?_
  have hf := (rightB_parts f hr).1
  exact (run_hv hr (trB_parts L ht).1 (tr_ev ht) (tr_mon ht) j (List.mem_range.1 hj) _ (by omega)).symm
/-- What stands in a round of the model's MonRun. -/
structure RunS (w wr : World) (q : Nat) (f : List Nd) (L : List Evt) (k g gc : Nat) (ca : Option Addr) (cc : Nat) (v : Value) : Prop where
  own : OwnQ wr w.heap.size v (rTo f L k)
  nq : ¬ v.ownBlock = some q
  box : MBox wr q (some ⟨g, 0, none⟩) f.length gc (k : Int) (nowK L k) ca f.length cc
  fr : MFree wr q
  nodes : NodesAt wr g f
  cks : CksAt wr ca (runC f L k)
  bel : Below w.heap.size w wr
  low : w.heap.size ≤ q
theorem runC_len (f : List Nd) (L : List Evt) : ∀ k, (runC f L k).length = f.length
  | 0 => bareC_len f
  | k + 1 => nextC_len _ _ _ _ _ _
theorem monIn_gen {w : World} {g : Nat} {f : List Nd} {ca : Option Addr} {D : List Cl} {cnt now : Int} (hn : NodesAt w g f) (hok : ∀ i, i < f.length → ndOk (ndAt f i)) (hm : monB f cnt now D = true) (hc : CksAt w ca D) : MonIn w g f ca D := by
  simp only [monB, Bool.and_eq_true, decide_eq_true_eq, cellsTo, List.all_eq_true, List.mem_range] at hm
  obtain ⟨hr, hcl, _, _, _, hcells⟩ := hm
  have hfl : f.length ≤ 24 := by simp only [rightB, Bool.and_eq_true, decide_eq_true_eq] at hr; exact hr.1.2
  exact ⟨hn, hok, by omega, hc, by omega, fun i hi => by have := krB_len (cell_keeps (hcells i (by omega))).1; omega⟩
theorem nowK_succ (L : List Evt) (k : Nat) : nowK L (k + 1) = (evAt L k).1 := by unfold nowK; rw [if_neg (by omega), Nat.add_sub_cancel]
/-- A round's end: the Monitor's store, the append. -/
theorem RunS.next {w wr V w5 : World} {q : Nat} {f : List Nd} {L : List Evt} {k g gc : Nat} {ca : Option Addr} {cc : Nat} {v : Value} (h : RunS w wr q f L k g gc ca cc v) (hV : Below wr.heap.size wr V) {g' gc' cb cap' : Nat} (hn : NodesAt V g' f) (hg : wr.heap.size ≤ g') (hcb : wr.heap.size ≤ cb) (hcl : cb < V.heap.size) (hck : ∀ i, i < f.length → CkX V (fun j => j = cb ∨ j < wr.heap.size) cb i (clAt (runC f L (k + 1)) i)) {o : Obj} {v' : Value}
    (hgrow : (((((V.setCell ⟨q, 0, none⟩ (.slice (some ⟨g', 0, none⟩) f.length gc')).setCell ⟨q, 1, none⟩ (.int .i64 ((k : Int) + 1))).setCell ⟨q, 2, none⟩ (.int .i64 (evAt L k).1)).setCell ⟨q, 3, none⟩ (.slice (some ⟨cb, 0, none⟩) f.length cap')).alloc o).grownBy w5 v.ownBlock)
    (hat : v'.ownBlock = v.ownBlock ∨ v'.ownBlock = some (((((V.setCell ⟨q, 0, none⟩ (.slice (some ⟨g', 0, none⟩) f.length gc')).setCell ⟨q, 1, none⟩ (.int .i64 ((k : Int) + 1))).setCell ⟨q, 2, none⟩ (.int .i64 (evAt L k).1)).setCell ⟨q, 3, none⟩ (.slice (some ⟨cb, 0, none⟩) f.length cap')).alloc o).heap.size)
    (hown : OwnQ w5 w.heap.size v' (rTo f L (k + 1))) : RunS w w5 q f L (k + 1) g' gc' (some ⟨cb, 0, none⟩) cap' v' := by
  have hq := h.box.lt
  have hVs := hV.size
  have hrow := World.ownsRow.lt h.own
  have hb := h.box.on hV
  have hf := h.fr.on hV hq
  have hset := gset4 V q (.slice (some ⟨g', 0, none⟩) f.length gc') (.int .i64 ((k : Int) + 1)) (.int .i64 (evAt L k).1) (.slice (some ⟨cb, 0, none⟩) f.length cap')
  have hM1 : MBox ((((V.setCell ⟨q, 0, none⟩ (.slice (some ⟨g', 0, none⟩) f.length gc')).setCell ⟨q, 1, none⟩ (.int .i64 ((k : Int) + 1))).setCell ⟨q, 2, none⟩ (.int .i64 (evAt L k).1)).setCell ⟨q, 3, none⟩ (.slice (some ⟨cb, 0, none⟩) f.length cap')) q (some ⟨g', 0, none⟩) f.length gc' ((k : Int) + 1) (evAt L k).1 (some ⟨cb, 0, none⟩) f.length cap' := ⟨by simpa using hb.lt, by simp [go_sem, hb.m0], by simp [go_sem, hb.m1], by simp [go_sem, hb.m2], by simp [go_sem, hb.m3]⟩
  have hF1 : MFree ((((V.setCell ⟨q, 0, none⟩ (.slice (some ⟨g', 0, none⟩) f.length gc')).setCell ⟨q, 1, none⟩ (.int .i64 ((k : Int) + 1))).setCell ⟨q, 2, none⟩ (.int .i64 (evAt L k).1)).setCell ⟨q, 3, none⟩ (.slice (some ⟨cb, 0, none⟩) f.length cap')) q := (((hf.set _ _).set _ _).set _ _).set _ _
  generalize (((V.setCell ⟨q, 0, none⟩ (.slice (some ⟨g', 0, none⟩) f.length gc')).setCell ⟨q, 1, none⟩ (.int .i64 ((k : Int) + 1))).setCell ⟨q, 2, none⟩ (.int .i64 (evAt L k).1)).setCell ⟨q, 3, none⟩ (.slice (some ⟨cb, 0, none⟩) f.length cap') = V1 at *
  have h15 : Save V1 w5 (fun j => v.ownBlock = some j) := ((Save.refl V1 (fun j => v.ownBlock = some j)).alloc o).grown hgrow (fun _ e _ => e)
  have hVq : Save V w5 (fun j => j = q ∨ v.ownBlock = some j) := (hset.mono (T := fun j => j = q ∨ v.ownBlock = some j) (fun j _ e => Or.inl e)).trans (h15.mono (fun j _ e => Or.inr e))
  have hVw : Save V w5 (fun j => j < wr.heap.size) := hVq.mono (fun j _ e => by rcases e with e | e; omega; exact (hrow j e).2)
  have hz1 := hset.size
  have hz5 := h15.size
  have ek : ((k + 1 : Nat) : Int) = (k : Int) + 1 := by omega
  refine ⟨hown, fun e => ?_, ?_, hF1.save h15 hM1.lt h.nq, hVw.nodes hn (by omega), ?_, h.bel.trans ((hV.mono h.bel.size).trans (hVq.below (B := w.heap.size) (by have := h.bel.size; omega) (fun j hj => by rcases hj with rfl | hj; exact h.low; exact (hrow j hj).1))), h.low⟩
  · rcases hat with h6 | h6
    · exact h.nq (h6 ▸ e)
    · rw [h6] at e
      injection e with e
      simp at e
      omega
  · rw [ek, nowK_succ]
    exact hM1.save h15 h.nq
  · exact ckx_at (by omega) (runC_len f L _) (fun i hi => (hck i hi).step (T' := fun j => j = cb ∨ j < wr.heap.size) hVw hcl (by omega) (fun j _ e => Or.inr e) (fun j e => Or.inl e))
theorem moz7 {V w2 : World} (h : Below (V.alloc (.cells #[.slice none 0 0, .int .i64 0, .int .i64 0, .slice none 0 0, .bool false, .slice none 0 0, .int .i64 0] 36)).drew.heap.size (V.alloc (.cells #[.slice none 0 0, .int .i64 0, .int .i64 0, .slice none 0 0, .bool false, .slice none 0 0, .int .i64 0] 36)).drew w2) : Below V.heap.size V w2 ∧ OBox w2 V.heap.size none 0 0 0 0 none 0 0 false none 0 0 0 ∧ OFree w2 V.heap.size ∧ V.heap.size + 1 ≤ w2.heap.size := by
  have h1 := below_undrew h
  have hz : (V.alloc (.cells #[.slice none 0 0, .int .i64 0, .int .i64 0, .slice none 0 0, .bool false, .slice none 0 0, .int .i64 0] 36)).heap.size = V.heap.size + 1 := by simp
  have hs := h1.size
  have hz0 := OBox.zero V
  unfold oZ at hz0
  exact ⟨(below_one' V _).trans (h1.mono (by omega)), hz0.1.on h1, hz0.2.on h1 (by omega), by omega⟩
theorem below_set7 {w W : World} {q : Nat} (h : Below w.heap.size w W) (hq : w.heap.size ≤ q) (x0 x1 x2 x3 x4 x5 x6 : Value) : Below w.heap.size w (((((((W.setCell ⟨q, 0, none⟩ x0).setCell ⟨q, 1, none⟩ x1).setCell ⟨q, 2, none⟩ x2).setCell ⟨q, 3, none⟩ x3).setCell ⟨q, 4, none⟩ x4).setCell ⟨q, 5, none⟩ x5).setCell ⟨q, 6, none⟩ x6) :=
  h.trans ((set7 W q x0 x1 x2 x3 x4 x5 x6).below (B := w.heap.size) h.size (fun j e => by omega))
set_option maxRecDepth 20000 in
set_option maxHeartbeats 8000000 in
theorem specMRun_any (f : List Nd) (L : List Evt) (fb eb fc ec : Nat) (w : World) (h : MeanIn w f L fb eb) :
    Calls Tryz.prog 31 #[.slice (some ⟨fb, 0, none⟩) f.length fc, .slice (some ⟨eb, 0, none⟩) L.length ec] w fun e w' => ∃ a c, e = .returned (.slice a (vdB f L).length c) ∧ BsAt w' a (vdB f L) ∧ (∀ b, a = some ⟨b, 0, none⟩ → w.heap.size ≤ b ∧ b < w'.heap.size) ∧ Below w.heap.size w w' := by
  have H := hid h
  have hfl := h.fl
  have hll := h.ll
  have hm1 : f.length ≤ maxLen := by unfold maxLen; omega
  have hm2 : L.length ≤ maxLen := by unfold maxLen; omega
  have HM1 := hid hm1
  have HM2 := hid hm2
  clear h hm1 hm2
  have HB0 := hid (below_one' w (.cells #[] 4))
  have hz0 : w.heap.size < (w.alloc (.cells #[] 4)).heap.size := by simp
  have HO0 := hid (ownQ_none w w.heap.size (Nat.le_refl _))
  rcases (Bool.eq_false_or_eq_true (rightB f)).symm with hr | hr
  · have HV := hid (vdB_no1 f L hr)
    have HR := hid hr
    clear hr
    go_enter Tryz.func31, Tryz.ntmps31
    go_wp2_with (go_at_call 10; refine (specRight_is f false HR.out fb fc _ (H.out.below HB0.out).nodes (fun i hi => ndOk_nm (H.out.fok i hi)) HM1.out).mono ?_; rintro e w1 ⟨rfl, hb1⟩; have HB1 := hid (HB0.out.trans (hb1.mono (by omega))); have hz1 := hb1.size; clear hb1)
    go_ret
    exact ⟨_, 0, by rw [HV.out]; rfl, Or.inl (by rw [HV.out]; rfl), fun b e => by injection e with e; injection e with e; subst e; exact ⟨Nat.le_refl _, by omega⟩, HB1.out⟩
  have HR := hid hr
  clear hr
  rcases (Bool.eq_false_or_eq_true (trB L)).symm with ht | ht
  · have HV := hid (vdB_no2 f L ht)
    have HT := hid ht
    clear ht
    go_enter Tryz.func31, Tryz.ntmps31
    go_wp2_with (first | (go_at_call 10; refine (specRight_is f true HR.out fb fc _ (H.out.below HB0.out).nodes (fun i hi => ndOk_nm (H.out.fok i hi)) HM1.out).mono ?_; rintro e w1 ⟨rfl, hb1⟩; have HB1 := hid (HB0.out.trans (hb1.mono (by omega))); have hz1 := hb1.size; have HM := hid (H.out.below HB1.out); clear hb1) | (go_at_call 11; refine (specTrace_is L false HT.out eb ec H.out.lok HM2.out _ HM.out.evs).mono ?_; rintro e w2 ⟨rfl, hb2⟩; have HB2 := hid (HB1.out.trans (hb2.mono HB1.out.size)); have hz2 := hb2.size; clear hb2))
    go_ret
    exact ⟨_, 0, by rw [HV.out]; rfl, Or.inl (by rw [HV.out]; rfl), fun b e => by injection e with e; injection e with e; subst e; exact ⟨Nat.le_refl _, by omega⟩, HB2.out⟩
  have HV := hid (rTo_vd HR.out ht)
  obtain ⟨hf1, hf2, _⟩ := rightB_parts f HR.out
  have hl60 := (trB_parts L ht).1
  have HEv := hid (tr_ev ht)
  have HMo := hid (tr_mon ht)
  have HT := hid ht
  have HRt := hid (run_right HR.out hl60 HEv.out HMo.out)
  clear ht
  obtain ⟨i0, hi, hy0, hy1, hy2⟩ := info_parts Tryz.infoBo
  go_enter Tryz.func31, Tryz.ntmps31
  go_wp2_with (first | (go_at_call 10; refine (specRight_is f true HR.out fb fc _ (H.out.below HB0.out).nodes (fun i hi => ndOk_nm (H.out.fok i hi)) HM1.out).mono ?_; rintro e w1 ⟨rfl, hb1⟩; have HB1 := hid (HB0.out.trans (hb1.mono (by omega))); have hz1 := hb1.size; have HM := hid (H.out.below HB1.out); have HO1 := hid (HO0.out.save (Save.of_below hb1 (fun _ => False) (fun j h1 h2 => absurd h1 (by omega))) (fun _ _ h => h)); clear hb1) | (go_at_call 11; refine (specTrace_is L true HT.out eb ec H.out.lok HM2.out _ HM.out.evs).mono ?_; rintro e w2 ⟨rfl, hb2⟩; have HB2 := hid (HB1.out.trans (hb2.mono HB1.out.size)); have hz2 := hb2.size; have HM2' := hid (HM.out.below hb2); have HO2 := hid (HO1.out.save (Save.of_below hb2 (fun _ => False) (fun j h1 h2 => absurd h1 (by omega))) (fun _ _ h => h)); clear hb2) | (go_at_call 73; refine (specNew_any f fb fc (by omega) (by omega) _ HM2'.out.nodes).mono ?_; rintro e w3 ⟨g, gc, va, vc, rfl, hg3, hn3, hc3, hq3, hb3⟩; have HB3 := hid (HB2.out.trans (hb3.mono HB2.out.size)); have hz3 := hb3.size; have HN3 := hid hn3; have HC3 := hid hc3; have HQ3 := hid hq3; have HO3 := hid (HO2.out.save (Save.of_below hb3 (fun _ => False) (fun j h1 h2 => absurd h1 (by omega))) (fun _ _ h => h)); unfold moV; clear hb3 hn3 hc3 hq3))
  have HX4 : Hid (RunS w (w3.alloc (.cells #[.slice (some ⟨g, 0, none⟩) f.length gc, .int .i64 0, .int .i64 0, .slice va f.length vc] 34)) w3.heap.size f L 0 g gc va vc (.slice (some ⟨w.heap.size, 0, none⟩) 0 0)) := ⟨HO3.out.save (Save.alloc (Save.refl w3 (fun _ => False)) _) (fun _ _ h => h), fun e => by injection e with e; simp at e; omega, by have := MBox.new w3 (some ⟨g, 0, none⟩) f.length gc 0 0 va f.length vc 34; simpa [nowK] using this, MFree.new _ _ _ _ _ _, HN3.out.below (below_one' w3 _) HN3.out.1, HC3.out.on (below_one' w3 _), HB3.out.trans ((below_one' w3 _).mono HB3.out.size), HB3.out.size⟩
  have hq4 : w3.heap.size < (w3.alloc (.cells #[.slice (some ⟨g, 0, none⟩) f.length gc, .int .i64 0, .int .i64 0, .slice va f.length vc] 34)).heap.size := by simp
  generalize w3.alloc (.cells #[.slice (some ⟨g, 0, none⟩) f.length gc, .int .i64 0, .int .i64 0, .slice va f.length vc] 34) = W4 at *
  generalize w3.heap.size = q at *
  clear HN3 HC3 HQ3 HO3 HO2 HO1 HO0
  go_loopw [5, 7] (fun v t wr => ∃ (k g gc : Nat) (ca : Option Addr) (cc : Nat), k ≤ L.length ∧ t = .int .i64 k ∧ RunS w wr q f L k g gc ca cc v) (fun _ t _ => L.length - (intOf t).toNat)
  case atStart => exact ⟨0, g, gc, va, vc, Nat.zero_le _, rfl, HX4.out⟩
  case round =>
    clear HX4
    obtain ⟨k, g1, gc1, ca, cc, hk, rfl, hR⟩ := hrel
    have HR1 := hid hR
    have HVS := hid (rTo_succ f L k)
    have HVL := hid (rTo_len f L k)
    obtain ⟨va', vc', hva, _⟩ := hR.own.form
    rw [rTo_len] at hva
    subst hva
    obtain ⟨m4, m0, m1, m2, m3⟩ := hR.box
    clear hR
    by_cases hlt : k < L.length
    · obtain ⟨e0, na, nc, e1, hT⟩ := (H.out.below HR1.out.bel).evs.2 k hlt
      have heb := (H.out.below HR1.out.bel).evs.1
      have HT1 := hid hT
      have hl := runC_len f L k
      have HSt := hid (fun W' (hb : Below wr.heap.size wr W') => specStep_any f g1 gc1 (k : Int) (nowK L k) (runC f L k) ca cc (evAt L k).1 (evAt L k).2 na (evAt L k).2.length nc rfl (H.out.lok k hlt).2.2 (HRt.out k hk) (ev_time (HEv.out k hlt)) (nowK_le HMo.out HEv.out k hlt) (runC f L (k + 1)) rfl (runG f L k) rfl W' (monIn_gen (HR1.out.nodes.below hb HR1.out.nodes.1) (H.out.fok) (HRt.out k hk) (HR1.out.cks.on hb)) (HT1.out.below hb))
      rw [hl] at HSt
      have HS := hid (fun W' (hb : Below wr.heap.size wr W') => (⟨(hb.cell (p := ⟨q, 0, none⟩) m4).trans m0, (hb.cell (p := ⟨q, 1, none⟩) m4).trans m1, (hb.cell (p := ⟨q, 2, none⟩) m4).trans m2, (hb.cell (p := ⟨q, 3, none⟩) m4).trans m3, (hb.cell (p := ⟨eb, k * 2, none⟩) heb).trans e0, (hb.cell (p := ⟨eb, k * 2 + 1, none⟩) heb).trans e1⟩ : W'.cell? ⟨q, 0, none⟩ = some (.slice (some ⟨g1, 0, none⟩) f.length gc1) ∧ W'.cell? ⟨q, 1, none⟩ = some (.int .i64 (k : Int)) ∧ W'.cell? ⟨q, 2, none⟩ = some (.int .i64 (nowK L k)) ∧ W'.cell? ⟨q, 3, none⟩ = some (.slice ca f.length cc) ∧ W'.cell? ⟨eb, k * 2, none⟩ = some (.int .i64 (evAt L k).1) ∧ W'.cell? ⟨eb, k * 2 + 1, none⟩ = some (.slice na (evAt L k).2.length nc)))
      have HBV := hid (Below.refl wr.heap.size wr)
      clear hT hl
      go_wp2_with fail
      go_region_held3 (fun W' => W'.cell? ⟨q, 0, none⟩ = some (.slice (some ⟨g1, 0, none⟩) f.length gc1) ∧ W'.cell? ⟨q, 1, none⟩ = some (.int .i64 (k : Int)) ∧ W'.cell? ⟨q, 2, none⟩ = some (.int .i64 (nowK L k)) ∧ W'.cell? ⟨q, 3, none⟩ = some (.slice ca f.length cc) ∧ W'.cell? ⟨eb, k * 2, none⟩ = some (.int .i64 (evAt L k).1) ∧ W'.cell? ⟨eb, k * 2 + 1, none⟩ = some (.slice na (evAt L k).2.length nc)) (first | (with_reducible exact HS.out _ (below_drew HBV.out)) | (with_reducible exact HS.out _ HB5.out) | (with_reducible exact HS.out _ (below_drew HB5.out)) | (with_reducible exact HS.out _ (below_set7 HB5.out (Nat.le_refl _) _ _ _ _ _ _ _)) | (with_reducible exact HS.out _ (below_drew (below_set7 HB5.out (Nat.le_refl _) _ _ _ _ _ _ _))) | (refine HS.out _ ?_; repeat (first | (with_reducible exact HB5.out) | (with_reducible exact HBV.out) | (with_reducible apply below_drew) | (with_reducible refine Below.alloc ?_ (by first | omega | (simp; done) | (simp; omega)) _)))) ((go_at_call 64; refine (HSt.out _ (by (repeat (first | exact HBV.out | apply below_drew | (refine Below.alloc ?_ (by first | omega | (simp; done)) _))))).mono ?_; rintro e w5 ⟨g5, gc5, cb5, cap5, ab5, bc5, rfl, h51, h52, h53, h54, h55, h56, h57, h58, hb5'⟩; (first | (have hb5 : Below wr.heap.size wr w5 := below_undrew hb5'; clear hb5') | (obtain ⟨hb5, hob, hof, hz5q⟩ := moz7 hb5'; have HOb := hid hob; have HOf := hid hof; obtain ⟨_, y0, y1, y2, y3, y4, y5, y6⟩ := hob; obtain ⟨f0, f1, f2, f3, f4, f5, f6⟩ := hof; clear hb5')); have HB5 := hid hb5; have HN5 := hid h52; have HC5 := hid (And.intro h51 (And.intro h53 (And.intro h54 h55))); have hz5 := hb5.size; clear hb5 h51 h52 h53 h55 h56 h57 h58))
      · have HO6 := hid (OBox.new2 w5 (some ⟨g5, 0, none⟩) f.length gc5 ((k : Int) + 1) (evAt L k).1 (some ⟨cb5, 0, none⟩) f.length cap5 (runG f L k (f.length - 1)) (some ⟨ab5, 0, none⟩) f.length bc5 0).1
        have HB6 := hid (HB5.out.trans ((below_one' w5 (.cells #[.slice (some ⟨g5, 0, none⟩) f.length gc5, .int .i64 ((k : Int) + 1), .int .i64 (evAt L k).1, .slice (some ⟨cb5, 0, none⟩) f.length cap5, .bool (runG f L k (f.length - 1)), .slice (some ⟨ab5, 0, none⟩) f.length bc5, .int .i64 0] 36)).mono hz5))
        have HN6 := hid (HN5.out.below (below_one' w5 (.cells #[.slice (some ⟨g5, 0, none⟩) f.length gc5, .int .i64 ((k : Int) + 1), .int .i64 (evAt L k).1, .slice (some ⟨cb5, 0, none⟩) f.length cap5, .bool (runG f L k (f.length - 1)), .slice (some ⟨ab5, 0, none⟩) f.length bc5, .int .i64 0] 36)) HN5.out.1)
        have HC6 : Hid (wr.heap.size ≤ g5 ∧ wr.heap.size ≤ cb5 ∧ cb5 < (w5.alloc (.cells #[.slice (some ⟨g5, 0, none⟩) f.length gc5, .int .i64 ((k : Int) + 1), .int .i64 (evAt L k).1, .slice (some ⟨cb5, 0, none⟩) f.length cap5, .bool (runG f L k (f.length - 1)), .slice (some ⟨ab5, 0, none⟩) f.length bc5, .int .i64 0] 36)).heap.size ∧ ∀ i, i < f.length → CkX (w5.alloc (.cells #[.slice (some ⟨g5, 0, none⟩) f.length gc5, .int .i64 ((k : Int) + 1), .int .i64 (evAt L k).1, .slice (some ⟨cb5, 0, none⟩) f.length cap5, .bool (runG f L k (f.length - 1)), .slice (some ⟨ab5, 0, none⟩) f.length bc5, .int .i64 0] 36)) (fun j => j = cb5 ∨ j < wr.heap.size) cb5 i (clAt (runC f L (k + 1)) i)) := ⟨HC5.out.1, HC5.out.2.1, by have := HC5.out.2.2.1; simp; omega, fun i hi => (HC5.out.2.2.2 i hi).step (S := fun _ => False) (Save.alloc (Save.refl w5 (fun _ => False)) _) h54 (fun h => h) (fun _ _ h => h.elim) (fun j e => Or.inl e)⟩
        have HQ9 : Hid (wr.heap.size ≤ w5.heap.size) := hz5
        generalize w5.alloc (.cells #[.slice (some ⟨g5, 0, none⟩) f.length gc5, .int .i64 ((k : Int) + 1), .int .i64 (evAt L k).1, .slice (some ⟨cb5, 0, none⟩) f.length cap5, .bool (runG f L k (f.length - 1)), .slice (some ⟨ab5, 0, none⟩) f.length bc5, .int .i64 0] 36) = V at *
        generalize w5.heap.size = Q9 at *
        obtain ⟨z9, o0, o1, o2, o3, o4, o5, o6⟩ := HO6.out
        obtain ⟨_, y0, y1, y2, y3⟩ := HR1.out.box.on HB6.out
        obtain ⟨f0, f1, f2, f3⟩ := HR1.out.fr.on HB6.out HR1.out.box.lt
        have hqV := Nat.lt_of_lt_of_le m4 HB6.out.size
        have hq9 : ¬ Q9 = q := by have := HQ9.out; omega
        have HOw : Hid (∀ o, OwnQ (((((V.setCell ⟨q, 0, none⟩ (.slice (some ⟨g5, 0, none⟩) f.length gc5)).setCell ⟨q, 1, none⟩ (.int .i64 ((k : Int) + 1))).setCell ⟨q, 2, none⟩ (.int .i64 (evAt L k).1)).setCell ⟨q, 3, none⟩ (.slice (some ⟨cb5, 0, none⟩) f.length cap5)).alloc o) w.heap.size (.slice va' k vc') (rTo f L k)) := fun o => ((HR1.out.own.save (Save.of_below HB6.out (fun j => j = q) (fun j h1 h2 => absurd h1 (by omega))) (fun j e h => HR1.out.nq (h ▸ e))).save (gset4 V q (.slice (some ⟨g5, 0, none⟩) f.length gc5) (.int .i64 ((k : Int) + 1)) (.int .i64 (evAt L k).1) (.slice (some ⟨cb5, 0, none⟩) f.length cap5)) (fun j e h => HR1.out.nq (h ▸ e))).save (S := fun _ => False) ((Save.refl _ (fun _ => False)).alloc o) (fun _ _ h => h)
        clear m0 m1 m2 m3 e0 e1
        go_wp2_with (at_builtin; refine wpList_append_own_at _ rfl _ _ 27 rfl w.heap.size 4 i0 _ 1 1 Tryz.uBos hi hy0 hy1 hy2 rfl (by decide) _ _ _ rfl (HOw.out _) ⟨V.heap.size, 0, none⟩ 1 1 [.bool (runG f L k (f.length - 1))] rfl rfl (cell_one' _ V.heap.size (by simp) _ _) (by simp [Value.oneCell']) (by rw [HVL.out]; unfold maxLen; omega) (by rw [HVL.out]; omega) (by simp; have := HR1.out.bel.size; have := HB6.out.size; omega) ?_; intro v8 w8 hown8 hgrow8 _ hat8; have HNx := hid (HR1.out.next HB6.out HN6.out HC6.out.1 HC6.out.2.1 HC6.out.2.2.1 HC6.out.2.2.2 hgrow8 hat8 (by show w8.ownsRow _ _ _ _ _ _; rw [HVS.out, List.length_append, List.map_append]; exact hown8)); clear hown8 hgrow8 hat8)
        go_roundw
        case rel => exact ⟨k + 1, g5, gc5, some ⟨cb5, 0, none⟩, cap5, by omega, by go_num, HNx.out⟩
        case measure => simp [intOf]; omega
      · have HB6 := hid (below_set7 HB5.out (Nat.le_refl _) (.slice (some ⟨g5, 0, none⟩) f.length gc5) (.int .i64 ((k : Int) + 1)) (.int .i64 (evAt L k).1) (.slice (some ⟨cb5, 0, none⟩) f.length cap5) (.bool (runG f L k (f.length - 1))) (.slice (some ⟨ab5, 0, none⟩) f.length bc5) (.int .i64 0))
        have HO6 : Hid (OBox (((((((w5.setCell ⟨wr.heap.size, 0, none⟩ (.slice (some ⟨g5, 0, none⟩) f.length gc5)).setCell ⟨wr.heap.size, 1, none⟩ (.int .i64 ((k : Int) + 1))).setCell ⟨wr.heap.size, 2, none⟩ (.int .i64 (evAt L k).1)).setCell ⟨wr.heap.size, 3, none⟩ (.slice (some ⟨cb5, 0, none⟩) f.length cap5)).setCell ⟨wr.heap.size, 4, none⟩ (.bool (runG f L k (f.length - 1)))).setCell ⟨wr.heap.size, 5, none⟩ (.slice (some ⟨ab5, 0, none⟩) f.length bc5)).setCell ⟨wr.heap.size, 6, none⟩ (.int .i64 0)) wr.heap.size (some ⟨g5, 0, none⟩) f.length gc5 ((k : Int) + 1) (evAt L k).1 (some ⟨cb5, 0, none⟩) f.length cap5 (runG f L k (f.length - 1)) (some ⟨ab5, 0, none⟩) f.length bc5 0) := ⟨by simpa using HOb.out.lt, by simp [go_sem, y0], by simp [go_sem, y1], by simp [go_sem, y2], by simp [go_sem, y3], by simp [go_sem, y4], by simp [go_sem, y5], by simp [go_sem, y6]⟩
        have hg5 : wr.heap.size + 1 ≤ g5 := by have := HC5.out.1; simpa using this
        have hcb5 : wr.heap.size + 1 ≤ cb5 := by have := HC5.out.2.1; simpa using this
        have HN6 := hid ((set7 w5 wr.heap.size (.slice (some ⟨g5, 0, none⟩) f.length gc5) (.int .i64 ((k : Int) + 1)) (.int .i64 (evAt L k).1) (.slice (some ⟨cb5, 0, none⟩) f.length cap5) (.bool (runG f L k (f.length - 1))) (.slice (some ⟨ab5, 0, none⟩) f.length bc5) (.int .i64 0)).nodes HN5.out (by omega))
        have HC6 : Hid (wr.heap.size ≤ g5 ∧ wr.heap.size ≤ cb5 ∧ cb5 < (((((((w5.setCell ⟨wr.heap.size, 0, none⟩ (.slice (some ⟨g5, 0, none⟩) f.length gc5)).setCell ⟨wr.heap.size, 1, none⟩ (.int .i64 ((k : Int) + 1))).setCell ⟨wr.heap.size, 2, none⟩ (.int .i64 (evAt L k).1)).setCell ⟨wr.heap.size, 3, none⟩ (.slice (some ⟨cb5, 0, none⟩) f.length cap5)).setCell ⟨wr.heap.size, 4, none⟩ (.bool (runG f L k (f.length - 1)))).setCell ⟨wr.heap.size, 5, none⟩ (.slice (some ⟨ab5, 0, none⟩) f.length bc5)).setCell ⟨wr.heap.size, 6, none⟩ (.int .i64 0)).heap.size ∧ ∀ i, i < f.length → CkX (((((((w5.setCell ⟨wr.heap.size, 0, none⟩ (.slice (some ⟨g5, 0, none⟩) f.length gc5)).setCell ⟨wr.heap.size, 1, none⟩ (.int .i64 ((k : Int) + 1))).setCell ⟨wr.heap.size, 2, none⟩ (.int .i64 (evAt L k).1)).setCell ⟨wr.heap.size, 3, none⟩ (.slice (some ⟨cb5, 0, none⟩) f.length cap5)).setCell ⟨wr.heap.size, 4, none⟩ (.bool (runG f L k (f.length - 1)))).setCell ⟨wr.heap.size, 5, none⟩ (.slice (some ⟨ab5, 0, none⟩) f.length bc5)).setCell ⟨wr.heap.size, 6, none⟩ (.int .i64 0)) (fun j => j = cb5 ∨ j < wr.heap.size) cb5 i (clAt (runC f L (k + 1)) i)) := ⟨by omega, by omega, Nat.lt_of_lt_of_le h54 (set7 w5 wr.heap.size (.slice (some ⟨g5, 0, none⟩) f.length gc5) (.int .i64 ((k : Int) + 1)) (.int .i64 (evAt L k).1) (.slice (some ⟨cb5, 0, none⟩) f.length cap5) (.bool (runG f L k (f.length - 1))) (.slice (some ⟨ab5, 0, none⟩) f.length bc5) (.int .i64 0)).size, fun i hi => (HC5.out.2.2.2 i hi).step (set7 w5 wr.heap.size (.slice (some ⟨g5, 0, none⟩) f.length gc5) (.int .i64 ((k : Int) + 1)) (.int .i64 (evAt L k).1) (.slice (some ⟨cb5, 0, none⟩) f.length cap5) (.bool (runG f L k (f.length - 1))) (.slice (some ⟨ab5, 0, none⟩) f.length bc5) (.int .i64 0)) h54 (by show ¬ cb5 = wr.heap.size; omega) (fun j _ h => Or.inr (by have : j = wr.heap.size := h; simp; omega)) (fun j e => Or.inl (by rcases e with e | e; exact Or.inl e; exact Or.inr (by simp; omega)))⟩
        have HQ9 : Hid (wr.heap.size ≤ wr.heap.size) := Nat.le_refl _
        clear y0 y1 y2 y3 y4 y5 y6 f0 f1 f2 f3 f4 f5 f6 HOb HOf
        generalize ((((((w5.setCell ⟨wr.heap.size, 0, none⟩ (.slice (some ⟨g5, 0, none⟩) f.length gc5)).setCell ⟨wr.heap.size, 1, none⟩ (.int .i64 ((k : Int) + 1))).setCell ⟨wr.heap.size, 2, none⟩ (.int .i64 (evAt L k).1)).setCell ⟨wr.heap.size, 3, none⟩ (.slice (some ⟨cb5, 0, none⟩) f.length cap5)).setCell ⟨wr.heap.size, 4, none⟩ (.bool (runG f L k (f.length - 1)))).setCell ⟨wr.heap.size, 5, none⟩ (.slice (some ⟨ab5, 0, none⟩) f.length bc5)).setCell ⟨wr.heap.size, 6, none⟩ (.int .i64 0) = V at *
        obtain ⟨Q9, hQe⟩ : ∃ Q9, wr.heap.size = Q9 := ⟨_, rfl⟩
        rw [hQe] at HO6 HQ9
        simp only [hQe]
        obtain ⟨z9, o0, o1, o2, o3, o4, o5, o6⟩ := HO6.out
        obtain ⟨_, y0, y1, y2, y3⟩ := HR1.out.box.on HB6.out
        obtain ⟨f0, f1, f2, f3⟩ := HR1.out.fr.on HB6.out HR1.out.box.lt
        have hqV := Nat.lt_of_lt_of_le m4 HB6.out.size
        have hq9 : ¬ Q9 = q := by have := HQ9.out; omega
        have HOw : Hid (∀ o, OwnQ (((((V.setCell ⟨q, 0, none⟩ (.slice (some ⟨g5, 0, none⟩) f.length gc5)).setCell ⟨q, 1, none⟩ (.int .i64 ((k : Int) + 1))).setCell ⟨q, 2, none⟩ (.int .i64 (evAt L k).1)).setCell ⟨q, 3, none⟩ (.slice (some ⟨cb5, 0, none⟩) f.length cap5)).alloc o) w.heap.size (.slice va' k vc') (rTo f L k)) := fun o => ((HR1.out.own.save (Save.of_below HB6.out (fun j => j = q) (fun j h1 h2 => absurd h1 (by omega))) (fun j e h => HR1.out.nq (h ▸ e))).save (gset4 V q (.slice (some ⟨g5, 0, none⟩) f.length gc5) (.int .i64 ((k : Int) + 1)) (.int .i64 (evAt L k).1) (.slice (some ⟨cb5, 0, none⟩) f.length cap5)) (fun j e h => HR1.out.nq (h ▸ e))).save (S := fun _ => False) ((Save.refl _ (fun _ => False)).alloc o) (fun _ _ h => h)
        clear m0 m1 m2 m3 e0 e1
        go_wp2_with (at_builtin; refine wpList_append_own_at _ rfl _ _ 27 rfl w.heap.size 4 i0 _ 1 1 Tryz.uBos hi hy0 hy1 hy2 rfl (by decide) _ _ _ rfl (HOw.out _) ⟨V.heap.size, 0, none⟩ 1 1 [.bool (runG f L k (f.length - 1))] rfl rfl (cell_one' _ V.heap.size (by simp) _ _) (by simp [Value.oneCell']) (by rw [HVL.out]; unfold maxLen; omega) (by rw [HVL.out]; omega) (by simp; have := HR1.out.bel.size; have := HB6.out.size; omega) ?_; intro v8 w8 hown8 hgrow8 _ hat8; have HNx := hid (HR1.out.next HB6.out HN6.out HC6.out.1 HC6.out.2.1 HC6.out.2.2.1 HC6.out.2.2.2 hgrow8 hat8 (by show w8.ownsRow _ _ _ _ _ _; rw [HVS.out, List.length_append, List.map_append]; exact hown8)); clear hown8 hgrow8 hat8)
        go_roundw
        case rel => exact ⟨k + 1, g5, gc5, some ⟨cb5, 0, none⟩, cap5, by omega, by go_num, HNx.out⟩
        case measure => simp [intOf]; omega
    · have hk' : k = L.length := by omega
      subst hk'
      obtain ⟨a9, c9, e9, hB9, hR9, hL9, hF9⟩ := HR1.out.own.form
      have HB9 := hid hB9
      have HL9 := hid hL9
      rw [rTo_len] at e9
      injection e9 with e9 _ e10
      subst e9 e10
      clear hB9 hR9 hL9 hF9
      go_wp2_with fail
      go_ret
      rw [HV.out]
      refine ⟨_, ⟨vc', ?_⟩, HB9.out, HL9.out, HR1.out.bel⟩
      show Ending.returned (Value.slice va' L.length vc') = _
      rw [HVL.out]
end Go.Proofs.YtbfkbgmkibkbnaaGreatDoor
namespace Go.Proofs.YtbfkbgmkibkbnaaGreatDoor
open Go.RowKit
set_option linter.unusedVariables false
set_option linter.unusedSimpArgs false
def longTo (L : Nat → List Nd) (k : Nat) : Bool := (List.range k).any fun i => decide (400 < (L i).length)
def rightTo (L : Nat → List Nd) (k : Nat) : Bool := (List.range k).all fun i => rightB (L i)
def codeTo (L : Nat → List Nd) (m : Nat) : Int := if longTo L m then 2 else if rightTo L m then 0 else 1
theorem longTo_succ (L : Nat → List Nd) (k : Nat) : longTo L (k + 1) = (longTo L k || decide (400 < (L k).length)) := by simp [longTo, List.range_succ]
theorem longTo_yes (L : Nat → List Nd) (k m : Nat) (hk : k < m) (h : 400 < (L k).length) : longTo L m = true := by
  simp only [longTo, List.any_eq_true, List.mem_range]
  exact ⟨k, hk, by simpa using h⟩
theorem rightTo_succ (L : Nat → List Nd) (k : Nat) : rightTo L (k + 1) = (rightTo L k && rightB (L k)) := by simp [rightTo, List.range_succ]
theorem rightTo_no (L : Nat → List Nd) (k m : Nat) (hk : k < m) (h : rightB (L k) = false) : rightTo L m = false := by
  simp only [rightTo, List.all_eq_false, List.mem_range]
  exact ⟨k, hk, by simp [h]⟩
/-- A list of rows of nodes. -/
structure FsAt (w : World) (b : Nat) (m : Nat) (L : Nat → List Nd) (A C : Nat → Nat) : Prop where
  lt : b < w.heap.size
  cell : ∀ j, j < m → w.cell? ⟨b, j, none⟩ = some (.slice (some ⟨A j, 0, none⟩) (L j).length (C j))
  nodes : ∀ j, j < m → NodesAt w (A j) (L j)
theorem FsAt.on {w w' : World} {b m : Nat} {L : Nat → List Nd} {A C : Nat → Nat} (h : FsAt w b m L A C) (hb : Below w.heap.size w w') : FsAt w' b m L A C :=
  ⟨Nat.lt_of_lt_of_le h.lt hb.size, fun j hj => (hb.cell (p := ⟨b, j, none⟩) h.lt).trans (h.cell j hj), fun j hj => (h.nodes j hj).below hb (h.nodes j hj).1⟩
set_option maxRecDepth 20000 in
set_option maxHeartbeats 2000000 in
theorem codes_any (m : Nat) (hm : m ≤ 1000) (L : Nat → List Nd) (A C : Nat → Nat) (b c : Nat) (hok : ∀ j, j < m → (∀ i, i < (L j).length → ndOk (ndAt (L j) i)) ∧ (L j).length ≤ 1048576) (code : Int) (hcode : codeTo L m = code) (w : World) (hF : FsAt w b m L A C) (hkw : Kw w) (hg : 1 < w.heap.size) :
    Calls Tryz.prog 50 #[.slice (some ⟨b, 0, none⟩) m c] w fun e w' => e = .returned (.int .i64 code) ∧ Below w.heap.size w w' := by
  have HF := hid hF
  have HK := hid hkw
  have HOk := hid hok
  have HC : Hid (code = if longTo L m then 2 else if rightTo L m then 0 else 1) := hcode.symm
  clear hF hkw hok hcode
  go_enter Tryz.func50, Tryz.ntmps50
  go_wp2_with fail
  go_loop [9] (fun i => ∃ k : Nat, k ≤ m ∧ i = .int .i64 k ∧ longTo L k = false) (fun i => m - (intOf i).toNat)
  case atStart => exact ⟨0, Nat.zero_le _, rfl, rfl⟩
  case round =>
    obtain ⟨k, hk, rfl, hg'⟩ := hrel
    have HG := hid hg'
    clear hg'
    by_cases hlt : k < m
    · have d0 := HF.out.cell k hlt
      have hb0 := HF.out.lt
      have hl1 := (HOk.out k hlt).2
      by_cases h4 : 400 < (L k).length
      · have HE : Hid (code = 2) := by show code = 2; rw [HC.out, if_pos (longTo_yes L k m hlt h4)]
        go_wp2_with fail
        go_ret
        exact ⟨ret_int HE.out.symm, Below.refl _ _⟩
      · have HS : Hid (longTo L (k + 1) = false) := by show longTo L (k + 1) = false; rw [longTo_succ, HG.out]; simp; omega
        go_wp2_with fail
        go_round
        case rel => exact ⟨k + 1, by omega, by go_num, HS.out⟩
        case measure => simp [intOf]; omega
    · have hk' : k = m := by omega
      subst hk'
      have HC2 : Hid (code = if rightTo L k then 0 else 1) := by show code = _; rw [HC.out, HG.out]; rfl
      clear HC HG hk hlt
      go_wp2_with fail
      go_loopw [19] (fun i wr => ∃ k' : Nat, k' ≤ k ∧ i = .int .i64 k' ∧ rightTo L k' = true ∧ Below w.heap.size w wr) (fun i _ => k - (intOf i).toNat)
      case atStart => exact ⟨0, Nat.zero_le _, rfl, rfl, Below.refl _ _⟩
      case round =>
        obtain ⟨j, hj, rfl, hr, hbel⟩ := hrel
        have HR := hid hr
        have HB := hid hbel
        have hz := hbel.size
        clear hr hbel
        by_cases hlt : j < k
        · have HFr := hid (HF.out.on HB.out)
          have d0 := HFr.out.cell j hlt
          have hb0 := HFr.out.lt
          have HRi : Hid (∀ v, rightB (L j) = v → Calls Tryz.prog 44 #[.slice (some ⟨A j, 0, none⟩) (L j).length (C j)] wr fun e w' => e = .returned (.bool v) ∧ Below wr.heap.size wr w') := fun v hv => by subst hv; exact implRight_any (L j) (A j) (C j) wr (HFr.out.nodes j hlt) (HOk.out j hlt).1 (by have := (HOk.out j hlt).2; unfold maxLen; omega) (HK.out.below HB.out hg) (by omega)
          rcases Bool.eq_false_or_eq_true (rightB (L j)) with hv | hv
          · have HS : Hid (rightTo L (j + 1) = true) := by show rightTo L (j + 1) = true; rw [rightTo_succ, HR.out, hv]; rfl
            have HRv := hid (HRi.out true hv)
            clear HRi hv
            go_wp2_with (go_at_call 44; refine HRv.out.mono ?_; rintro e w1 ⟨rfl, hb1⟩; have HB1 := hid (HB.out.trans (hb1.mono HB.out.size)); clear hb1)
            go_roundw
            case rel => exact ⟨j + 1, by omega, by go_num, HS.out, HB1.out⟩
            case measure => simp [intOf]; omega
          · have HE : Hid (code = 1) := by show code = 1; rw [HC2.out, rightTo_no L j k hlt hv]; rfl
            have HRv := hid (HRi.out false hv)
            clear HRi hv
            go_wp2_with (go_at_call 44; refine HRv.out.mono ?_; rintro e w1 ⟨rfl, hb1⟩; have HB1 := hid (HB.out.trans (hb1.mono HB.out.size)); clear hb1)
            go_ret
            exact ⟨ret_int HE.out.symm, HB1.out⟩
        · have hj' : j = k := by omega
          subst hj'
          have HE : Hid (code = 0) := by show code = 0; rw [HC2.out, HR.out]; rfl
          go_wp2_with fail
          go_ret
          exact ⟨ret_int HE.out.symm, HB.out⟩
end Go.Proofs.YtbfkbgmkibkbnaaGreatDoor
namespace Go.Proofs.YtbfkbgmkibkbnaaGreatDoor
open Go.RowKit
set_option linter.unusedVariables false
set_option linter.unusedSimpArgs false
theorem goodTo_nm' (f : List Nd) (n : Nat) (h : goodTo f n = true) (i : Nat) (hi : i < n) : (ndAt f i).nm.size ≤ 8 := by
  have h1 := (goodTo_at f i n hi h).1
  simp only [nodeB, Bool.and_eq_true] at h1
  have h2 := h1.2.1
  split at h2
  · simp [wordB] at h2
    omega
  · have h3 : (ndAt f i).nm.size = 0 := by
      rw [← emptyB_eq _ h2]
      rfl
    omega
theorem newCode_to (f : List Nd) : newCode f = codeTo (fun _ => f) 1 := by
  unfold newCode codeTo
  by_cases h : 400 < f.length
  · rw [if_pos h, if_pos (longTo_yes (fun _ => f) 0 1 (by omega) h)]
  · have h2 : longTo (fun _ => f) 1 = false := by simp [longTo, List.range_succ]; omega
    rw [if_neg h, h2, rightTo_succ]
    simp [rightTo]
theorem fs_one (w : World) (o : Obj) (f : List Nd) (b cap : Nat) (hN : NodesAt w b f) (t : TypeId) : FsAt ((w.alloc o).alloc (.cells #[.slice (some ⟨b, 0, none⟩) f.length cap] t)) (w.heap.size + 1) 1 (fun _ => f) (fun _ => b) (fun _ => cap) :=
  ⟨by simp, fun j hj => by obtain rfl : j = 0 := by omega
                           simp [go_sem], fun j hj => (hN.below (((Below.refl w.heap.size w).alloc (Nat.le_refl _) o).alloc (by simp) _) hN.1)⟩
set_option maxRecDepth 20000 in
set_option maxHeartbeats 4000000 in
theorem implMNew_any (f : List Nd) (b cap : Nat) (w : World) (hN : NodesAt w b f) (hok : ∀ i, i < f.length → ndOk (ndAt f i)) (hlen : f.length ≤ 1048576) (hkw : Kw w) (hg : 1 < w.heap.size) (F : List Nd) (code : Int) (hF : newF f = F) (hc : newCode f = code) :
    Calls Tryz.prog 12 #[.slice (some ⟨b, 0, none⟩) f.length cap] w fun e w' => ∃ fa fc ca cc, e = .returned (outV fa F.length fc 0 0 ca F.length cc false none 0 0 code) ∧ NsA w' fa F ∧ RowA w' fa F.length ∧ RowB w' ca F ∧ (∀ q, fa = some q → q = ⟨q.block, 0, none⟩ ∧ w.heap.size ≤ q.block ∧ q.block < w'.heap.size) ∧ (∀ q, ca = some q → q = ⟨q.block, 0, none⟩ ∧ w.heap.size ≤ q.block ∧ q.block < w'.heap.size) ∧ (∀ p q, fa = some p → ca = some q → p.block < q.block) ∧ Below w.heap.size w w' := by
  have HU : Hid (∀ fa fn fc cnt now ca cn cc yes aa an ac code, outV fa fn fc cnt now ca cn cc yes aa an ac code = .agg #[.slice fa fn fc, .int .i64 cnt, .int .i64 now, .slice ca cn cc, .bool yes, .slice aa an ac, .int .i64 code]) := fun _ _ _ _ _ _ _ _ _ _ _ _ _ => rfl
  have HB0 := hid (below_one' w oZ)
  have HX0 := hid (OBox.zero w).1
  have HG0 := hid (OBox.zero w).2
  unfold oZ at HB0 HX0 HG0
  simp only [HU.out]
  have HFs := hid (fs_one w (.cells #[.slice none 0 0, .int .i64 0, .int .i64 0, .slice none 0 0, .bool false, .slice none 0 0, .int .i64 0] 36) f b cap hN 23)
  have HBf := hid (below_one' (w.alloc (.cells #[.slice none 0 0, .int .i64 0, .int .i64 0, .slice none 0 0, .bool false, .slice none 0 0, .int .i64 0] 36)) (.cells #[.slice (some ⟨b, 0, none⟩) f.length cap] 23))
  have HBa := hid (HB0.out.trans (HBf.out.mono HB0.out.size))
  have HXa := hid (HX0.out.on HBf.out)
  have HGa := hid (HG0.out.on HBf.out HX0.out.lt)
  have HCd := hid (codes_any 1 (by omega) (fun _ => f) (fun _ => b) (fun _ => cap) (w.heap.size + 1) 1 (fun _ _ => ⟨hok, hlen⟩) code (by rw [← newCode_to, hc]) _ HFs.out (hkw.below HBa.out hg) (by have := HBa.out.size; omega))
  have hcase : code = 2 ∨ code = 1 ∨ (code = 0 ∧ rightB f = true) := by
    rw [← hc]
    unfold newCode
    split
    · exact Or.inl rfl
    · split
      · next h => exact Or.inr (Or.inr ⟨rfl, h⟩)
      · exact Or.inr (Or.inl rfl)
  rcases hcase with rfl | rfl | ⟨rfl, hr⟩
  iterate 2
    · obtain rfl : [] = F := by rw [← hF, newF_no hc (by omega)]
      clear hF hc hN hkw HFs HBf HX0 HG0 HB0
      go_enter Tryz.func12, Tryz.ntmps12
      go_wp2_with (go_at_call 50; refine HCd.out.mono ?_; rintro e w1 ⟨rfl, hb1⟩; have HB1 := hid (HBa.out.trans (hb1.mono HBa.out.size)); obtain ⟨hq, o0, o1, o2, o3, o4, o5, o6⟩ := HXa.out.on hb1; obtain ⟨g0, g1, g2, g3, g4, g5, g6⟩ := HGa.out.on hb1 HXa.out.lt; clear hb1)
      refine bodyPost_ret (by simp [results, Tryz.results12, go_sem, o0, o1, o2, o3, o4, o5, o6, g0, g1, g2, g3, g4, g5, g6]; rfl) rfl ?_
      have s7 := fun c => set7 w1 w.heap.size (.slice none 0 0) (.int .i64 0) (.int .i64 0) (.slice none 0 0) (.bool false) (.slice none 0 0) (.int .i64 c)
      exact ⟨none, 0, none, 0, rfl, Or.inl rfl, Or.inl rfl, Or.inl rfl, (fun q e => by cases e), (fun q e => by cases e), (fun p q e => by cases e), HB1.out.trans ((s7 _).below (B := w.heap.size) HB1.out.size (fun j h => by omega))⟩
  · obtain rfl : f = F := by rw [← hF, newF_yes hc]
    obtain ⟨hl1, hl2, hgd⟩ := rightB_all' f hr
    have HNw := hid (fun w' (h : Below w.heap.size w w') => own_nodes f b cap (by omega) (by omega) (fun i hi => by have := goodTo_nm' f _ hgd i hi; omega) w' (hN.below h hN.1))
    have HBc := hid (fun w' (h : Below w.heap.size w w') => bareCells_any f b cap (by omega) w' (hN.below h hN.1))
    clear hF hc hr hN hgd hkw HFs HBf HX0 HG0 HB0
    go_enter Tryz.func12, Tryz.ntmps12
    go_wp2_with (first | (go_at_call 50; refine HCd.out.mono ?_; rintro e w1 ⟨rfl, hb1⟩; have HB1 := hid (HBa.out.trans (hb1.mono HBa.out.size)); have HX1 := hid (HXa.out.on hb1); have HG1 := hid (HGa.out.on hb1 HXa.out.lt); have hz1 := hb1.size; clear hb1) | (go_at_call 51; refine (HNw.out _ HB1.out).mono ?_; rintro e w2 ⟨g, gc, m, z, rfl, _, hgg, hm, hr2, hn2, hb2⟩; have HB2 := hid (HB1.out.trans (hb2.mono HB1.out.size)); have HN2 := hid hn2; have HR2 := hid hr2; have HX2 := hid (HX1.out.on hb2); have HG2 := hid (HG1.out.on hb2 HX1.out.lt); have hz2 := hb2.size; clear hb2 hn2 hr2) | (go_at_call 52; refine (HBc.out _ HB2.out).mono ?_; rintro e w3 ⟨h, rfl, hh, hr3, hb3⟩; have HB3 := hid (HB2.out.trans (hb3.mono HB2.out.size)); have HN3 := hid (HN2.out.below hb3 HN2.out.1); have HR3 := hid (HR2.out.of_block (hb3.block g HN2.out.1)); have HC3 := hid hr3; obtain ⟨hq, o0, o1, o2, o3, o4, o5, o6⟩ := HX2.out.on hb3; obtain ⟨g0, g1, g2, g3, g4, g5, g6⟩ := HG2.out.on hb3 HX2.out.lt; have hz3 := hb3.size; clear hb3 hr3))
    refine bodyPost_ret (v := .agg #[.slice (some ⟨g, 0, none⟩) f.length gc, .int .i64 0, .int .i64 0, .slice (some ⟨h, 0, none⟩) f.length f.length, .bool false, .slice none 0 0, .int .i64 0]) (by simp [results, Tryz.results12, go_sem, o0, o1, o2, o3, o4, o5, o6, g0, g1, g2, g3, g4, g5, g6]) rfl ?_
    have hx := HX1.out.lt
    have hb1s := HB1.out.size
    have s7 := set7 w3 w.heap.size (.slice (some ⟨g, 0, none⟩) f.length gc) (.int .i64 0) (.int .i64 0) (.slice (some ⟨h, 0, none⟩) f.length f.length) (.bool false) (.slice none 0 0) (.int .i64 0)
    have hz7 := s7.size
    have hn2 := HN2.out.1
    have hc3 := World.rowIs.lt HC3.out
    exact ⟨some ⟨g, 0, none⟩, gc, some ⟨h, 0, none⟩, f.length, rfl, Or.inr ⟨g, rfl, s7.nodes HN3.out (by omega)⟩, Or.inr ⟨g, m, z, rfl, hm, HR3.out.of_block (s7.block g HR3.out.lt (by omega))⟩, Or.inr ⟨h, rfl, World.rowIs.of_block HC3.out (s7.block h hc3 (by omega))⟩, (fun q e => by injection e with e; subst e; exact ⟨rfl, by show _ ≤ g; omega, by show g < _; omega⟩), (fun q e => by injection e with e; subst e; exact ⟨rfl, by show _ ≤ h; omega, by show h < _; omega⟩), (fun p q e1 e2 => by injection e1 with e1; injection e2 with e2; subst e1 e2; show g < h; omega), HB3.out.trans (s7.below (B := w.heap.size) HB3.out.size (fun j h => by omega))⟩
end Go.Proofs.YtbfkbgmkibkbnaaGreatDoor
namespace Go.Proofs.YtbfkbgmkibkbnaaGreatDoor
open Go.RowKit
set_option linter.unusedVariables false
theorem implRight_is (f : List Nd) (v : Bool) (hv : rightB f = v) (b cap : Nat) (w : World) (hN : NodesAt w b f) (hok : ∀ i, i < f.length → ndOk (ndAt f i)) (hlen : f.length ≤ maxLen) (hkw : Kw w) (hg : 1 < w.heap.size) :
    Calls Tryz.prog 44 #[.slice (some ⟨b, 0, none⟩) f.length cap] w fun e w' => e = .returned (.bool v) ∧ Below w.heap.size w w' := by
  subst hv
  exact implRight_any f b cap w hN hok hlen hkw hg
theorem implTrace_is (E : List Evt) (v : Bool) (hv : trB E = v) (b c : Nat) (hs : ∀ i, i < E.length → EvOk (evAt E i)) (hl : E.length ≤ maxLen) (w : World) (hA : EvsAt w b E) (hkw : Kw w) (hg : 1 < w.heap.size) :
    Calls Tryz.prog 45 #[.slice (some ⟨b, 0, none⟩) E.length c] w fun e w' => e = .returned (.bool v) ∧ Below w.heap.size w w' := by
  subst hv
  exact implTrace_any E _ rfl _ c hs hl w hA.es hkw hg
end Go.Proofs.YtbfkbgmkibkbnaaGreatDoor
