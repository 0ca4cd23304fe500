/-
  The program's goThrough, by its contract: the walk.
-/
import Derived.Test.YtbfkbgmkibkbnaaGreatDoorPa33
import Derived.Shelf.Abstract
namespace Go.Proofs.YtbfkbgmkibkbnaaGreatDoor
open Go.RowKit
set_option linter.unusedVariables false
set_option linter.unusedSimpArgs false
theorem steps_enter (k : Nat) (h1 : 1 ≤ k) (h9 : k ≤ 9) : ∀ (args : Array Value) (w : World), Sem.run Tryz.prog (callFunc (stepF (k : Int)) args) w = .ok (.enter (stepF (k : Int)) args) w := by
  have hk : k = 1 ∨ k = 2 ∨ k = 3 ∨ k = 4 ∨ k = 5 ∨ k = 6 ∨ k = 7 ∨ k = 8 ∨ k = 9 := by omega
  rcases hk with rfl | rfl | rfl | rfl | rfl | rfl | rfl | rfl | rfl
  · exact enters_of Tryz.func126 (by kernel_rfl) rfl
  · exact enters_of Tryz.func127 (by kernel_rfl) rfl
  · exact enters_of Tryz.func128 (by kernel_rfl) rfl
  · exact enters_of Tryz.func129 (by kernel_rfl) rfl
  · exact enters_of Tryz.func130 (by kernel_rfl) rfl
  · exact enters_of Tryz.func131 (by kernel_rfl) rfl
  · exact enters_of Tryz.func132 (by kernel_rfl) rfl
  · exact enters_of Tryz.func133 (by kernel_rfl) rfl
  · exact enters_of Tryz.func134 (by kernel_rfl) rfl
theorem cells_row (W : World) (n : Nat) (D : List Cl) (V : Nat → Value) : (W.alloc (.cells (madeCells zCk (n * 4)) 96)).rowIs W.heap.size 96 (n * 4) (rowC D V zC 0) := by
  have := World.rowIs_alloc W (madeCells zCk (n * 4)) 96 (rowC D V zC 0) (fun i hi => by
    rw [size_madeCells] at hi
    simp only [rowC, Nat.zero_mul, Nat.not_lt_zero, if_false]
    simp [madeCells, hi, zC, zCk])
  rwa [size_madeCells] at this
theorem CkO.start {w : World} {cb m : Nat} {D : List Cl} {V z : Nat → Value} (h : w.rowIs cb 96 m (rowC D V z 0)) : CkO w cb m D V z 0 :=
  ⟨h, fun i hi => absurd hi (by omega), fun i j _ hj => absurd hj (by omega)⟩
/-- One cell more. -/
theorem CkO.put {W w2 : World} {cb m : Nat} {D : List Cl} {V : Nat → Value} {k : Nat} {B : Nat} {va : Option Addr} {vc : Nat} {lo hi : Int} {Y : List Int} {was : Bool} (h : CkO W cb m D V zC k) (hm : k * 4 + 4 ≤ m) (hd : clAt D k = ⟨lo, hi, Y, was⟩) (hs : Save W w2 (fun j => j = B)) (hB : B < cb) (hsz : cb < W.heap.size) (ho : OwnI w2 W.heap.size (.slice va Y.length vc) Y) (u : Value) :
    CkO (((((w2.setCell ⟨B, k, none⟩ u).setCell ⟨cb, k * 4, none⟩ (.int .i64 lo)).setCell ⟨cb, k * 4 + 1, none⟩ (.int .i64 hi)).setCell ⟨cb, k * 4 + 2, none⟩ (.slice va Y.length vc)).setCell ⟨cb, k * 4 + 3, none⟩ (.bool was)) cb m D (fun i => if i = k then .slice va Y.length vc else V i) zC (k + 1) := by
  have h2 := h.save hs (by omega) (fun j hj => by omega)
  have hs5 : Save w2 (((((w2.setCell ⟨B, k, none⟩ u).setCell ⟨cb, k * 4, none⟩ (.int .i64 lo)).setCell ⟨cb, k * 4 + 1, none⟩ (.int .i64 hi)).setCell ⟨cb, k * 4 + 2, none⟩ (.slice va Y.length vc)).setCell ⟨cb, k * 4 + 3, none⟩ (.bool was)) (fun j => j = B ∨ j = cb) :=
    ((((Save.refl w2 _).setCell (p := ⟨B, k, none⟩) (fun _ => Or.inl rfl) u).setCell (p := ⟨cb, k * 4, none⟩) (fun _ => Or.inr rfl) _).setCell (p := ⟨cb, k * 4 + 1, none⟩) (fun _ => Or.inr rfl) _).setCell (p := ⟨cb, k * 4 + 2, none⟩) (fun _ => Or.inr rfl) _ |>.setCell (p := ⟨cb, k * 4 + 3, none⟩) (fun _ => Or.inr rfl) _
  refine ⟨?_, fun i hi => ?_, fun i j hij hj p q hp hq => ?_⟩
  · refine (((((World.rowIs.setOther h2.row (by show _ ≠ _; simp only; omega) u).set (k * 4) _).set (k * 4 + 1) _).set (k * 4 + 2) _).set (k * 4 + 3) _).congr (fun j hj => ?_)
    have e := rowC_step D V zC k j (.slice va Y.length vc)
    rw [hd] at e
    exact e.symm
  · show OwnI _ _ (if i = k then _ else V i) _
    split
    · next e =>
      subst e
      rw [hd]
      exact (ho.save hs5 (fun j e => by have := (ho.lt j e).1; omega)).low (by omega)
    · exact (h2.own i (by omega)).save hs5 (fun j e => by have := ((h2.own i (by omega)).lt j e).1; omega)
  · have hp : (if i = k then Value.slice va Y.length vc else V i).ownBlock = some p := hp
    have hq : (if j = k then Value.slice va Y.length vc else V j).ownBlock = some q := hq
    rw [if_neg (by omega)] at hp
    by_cases e : j = k
    · rw [if_pos e] at hq
      have h3 := ((h.own i (by omega)).lt p hp).2
      have h4 := (ho.lt q hq).1
      omega
    · rw [if_neg e] at hq
      exact h.rise i j hij (by omega) p q hp hq
set_option maxRecDepth 20000 in
set_option maxHeartbeats 8000000 in
theorem goThrough_any (w0 : World) (f : List Nd) (fb fc : Nat) (cnt now tm : Int) (S : List ByteArray) (na : Option Addr) (nn nc : Nat) (hnn : S.length = nn) (hnl : nn ≤ maxLen) (C : List Cl) (ca : Option Addr) (cc : Nat) (hcl : C.length = f.length) (hr : rightB f = true) (hkr : ∀ i, i < f.length → krB (clAt C i).lo (clAt C i).hi (clAt C i).ts = true) (ht0 : timeB now = true) (ht : timeB tm = true) (ab ac : Nat) (D : List Cl) (hD : nextC cnt now tm S f C = D) (G : Nat → Bool) (hG : gV cnt now tm S f C = G) (w : World) (hN : NodesAt w0 fb f) (hC : CksAt w0 ca C) (hT : TsAt w0 na S) (hb0 : Below w0.heap.size w0 w) (hab0 : w0.heap.size ≤ ab) (hrow : w.rowIs ab 4 f.length (boolsTo G 0)) :
    Calls Tryz.prog 55 #[.agg #[.slice (some ⟨fb, 0, none⟩) f.length fc, .int .i64 cnt, .int .i64 now, .int .i64 tm, .slice na nn nc, .slice (some ⟨ab, 0, none⟩) f.length ac], .slice ca C.length cc] w fun e w' => ∃ cb V, e = .returned (.slice (some ⟨cb, 0, none⟩) f.length f.length) ∧ w.heap.size ≤ cb ∧ CkO w' cb (f.length * 4) D V zC f.length ∧ w'.rowIs ab 4 f.length (boolsTo G f.length) ∧ Save w w' (fun j => j = ab) := by
  have hfl : f.length ≤ 24 := (by simp only [rightB, Bool.and_eq_true, decide_eq_true_eq] at hr; exact hr.1.2)
  have HSt : Hid (∀ i, i < f.length → stB cnt now tm S (ndAt f i) (clAt C i) G = (G i, clAt D i)) := fun i hi => by
    obtain ⟨q1, q2⟩ := right_node hr i hi
    subst hD hG
    rw [nextC_at _ _ _ _ _ _ _ hi]
    exact Prod.ext (gV_eq cnt now tm S f C i q1 q2).symm rfl
  have HNd := hid (fun i hi => right_node hr i hi)
  have HKr := hid hkr
  have HN := hid hN
  have HC := hid hC
  have HT := hid hT
  have HB0 := hid hb0
  have habl := hrow.lt
  have HRw := hid hrow
  have HDl : Hid (D.length = f.length) := by show D.length = _; rw [← hD, nextC_len]
  have hmk := run_makeCk f.length (by omega)
  have HKS := hid (fun w => kindSteps_any w)
  have hfb := hN.1
  have HNn := hid hnn
  have HTs := hid (And.intro ht0 ht)
  rw [hcl]
  have HCl := hid hcl
  clear hD hG hkr hr hN hC hT hb0 hrow hnn hcl ht0 ht
  have HBq := hid (below_one' w (.cells #[.slice (some ⟨fb, 0, none⟩) f.length fc, .int .i64 cnt, .int .i64 now, .int .i64 tm, .slice na nn nc, .slice (some ⟨ab, 0, none⟩) f.length ac] 90))
  have HWq : Hid (∀ W', Below (w.heap.size + 1) (w.alloc (.cells #[.slice (some ⟨fb, 0, none⟩) f.length fc, .int .i64 cnt, .int .i64 now, .int .i64 tm, .slice na nn nc, .slice (some ⟨ab, 0, none⟩) f.length ac] 90)) W' → W'.cell? ⟨w.heap.size, 0, none⟩ = some (.slice (some ⟨fb, 0, none⟩) f.length fc) ∧ W'.cell? ⟨w.heap.size, 1, none⟩ = some (.int .i64 cnt) ∧ W'.cell? ⟨w.heap.size, 2, none⟩ = some (.int .i64 now) ∧ W'.cell? ⟨w.heap.size, 3, none⟩ = some (.int .i64 tm) ∧ W'.cell? ⟨w.heap.size, 4, none⟩ = some (.slice na nn nc) ∧ W'.cell? ⟨w.heap.size, 5, none⟩ = some (.slice (some ⟨ab, 0, none⟩) f.length ac)) := fun W' hb => by
    refine ⟨(hb.cell (p := ⟨w.heap.size, _, none⟩) (by show w.heap.size < _; omega)).trans ?_, (hb.cell (p := ⟨w.heap.size, _, none⟩) (by show w.heap.size < _; omega)).trans ?_, (hb.cell (p := ⟨w.heap.size, _, none⟩) (by show w.heap.size < _; omega)).trans ?_, (hb.cell (p := ⟨w.heap.size, _, none⟩) (by show w.heap.size < _; omega)).trans ?_, (hb.cell (p := ⟨w.heap.size, _, none⟩) (by show w.heap.size < _; omega)).trans ?_, (hb.cell (p := ⟨w.heap.size, _, none⟩) (by show w.heap.size < _; omega)).trans ?_⟩ <;> simp [go_sem]
  go_enter Tryz.func55, Tryz.ntmps55
  go_wp2_with (go_at_call 99; refine (HKS.out _).mono ?_; rintro e w1 ⟨rfl, hb1⟩; have HB1 := hid (show Below (w.heap.size + 1) _ w1 by simpa using hb1); have hz1 : w.heap.size + 1 ≤ w1.heap.size := (by have := hb1.size; simpa using this); have hz1a : w.heap.size < w1.heap.size := hz1; have hz1b : w.heap.size < w1.heap.size + 1 := (by omega); obtain ⟨a0, a1, a2, a3, a4, a5⟩ := HWq.out w1 HB1.out; clear hb1)
  have HR0 := hid (cells_row (w1.alloc (.cells #[.nilFunc, .func (.func 126) #[] #[], .func (.func 127) #[] #[], .func (.func 128) #[] #[], .func (.func 129) #[] #[], .func (.func 130) #[] #[], .func (.func 131) #[] #[], .func (.func 132) #[] #[], .func (.func 133) #[] #[], .func (.func 134) #[] #[]] 138)) f.length D (fun _ => .slice none 0 0))
  have HS0 := hid (fun k h1 h9 => (((below_one' (w1.alloc (.cells #[.nilFunc, .func (.func 126) #[] #[], .func (.func 127) #[] #[], .func (.func 128) #[] #[], .func (.func 129) #[] #[], .func (.func 130) #[] #[], .func (.func 131) #[] #[], .func (.func 132) #[] #[], .func (.func 133) #[] #[], .func (.func 134) #[] #[]] 138)) (.cells (madeCells zCk (f.length * 4)) 96)).cell (p := ⟨w1.heap.size, k, none⟩) (by simp)).trans (steps_at w1 138 k h1 h9)))
  have HBW := hid (bbelow2' w1 (.cells #[.nilFunc, .func (.func 126) #[] #[], .func (.func 127) #[] #[], .func (.func 128) #[] #[], .func (.func 129) #[] #[], .func (.func 130) #[] #[], .func (.func 131) #[] #[], .func (.func 132) #[] #[], .func (.func 133) #[] #[], .func (.func 134) #[] #[]] 138) (.cells (madeCells zCk (f.length * 4)) 96))
  have HWW := hid (HWq.out _ (HB1.out.trans (HBW.out.mono hz1)))
  have HBw := hid (HBq.out.trans ((HB1.out.trans (HBW.out.mono hz1)).mono (by omega)))
  have hW0 : ((w1.alloc (.cells #[.nilFunc, .func (.func 126) #[] #[], .func (.func 127) #[] #[], .func (.func 128) #[] #[], .func (.func 129) #[] #[], .func (.func 130) #[] #[], .func (.func 131) #[] #[], .func (.func 132) #[] #[], .func (.func 133) #[] #[], .func (.func 134) #[] #[]] 138)).alloc (.cells (madeCells zCk (f.length * 4)) 96)).heap.size = w1.heap.size + 1 + 1 := by simp
  simp only [World.size_alloc] at HR0
  clear a0 a1 a2 a3 a4 a5 HWq HBq hmk
  generalize ((w1.alloc (.cells #[.nilFunc, .func (.func 126) #[] #[], .func (.func 127) #[] #[], .func (.func 128) #[] #[], .func (.func 129) #[] #[], .func (.func 130) #[] #[], .func (.func 131) #[] #[], .func (.func 132) #[] #[], .func (.func 133) #[] #[], .func (.func 134) #[] #[]] 138)).alloc (.cells (madeCells zCk (f.length * 4)) 96)) = W0 at *
  go_loopw [16] (fun t wr => ∃ (k : Nat) (V : Nat → Value), k ≤ f.length ∧ t = .int .i64 k ∧ CkO wr (w1.heap.size + 1) (f.length * 4) D V zC k ∧ wr.rowIs ab 4 f.length (boolsTo G k) ∧ Save W0 wr (fun j => j = ab ∨ j = w1.heap.size + 1)) (fun t _ => f.length - (intOf t).toNat)
  case atStart => exact ⟨0, _, Nat.zero_le _, rfl, CkO.start HR0.out, HRw.out.of_block (HBw.out.block ab habl), Save.refl _ _⟩
  case round =>
    obtain ⟨k, V, hk, rfl, hO, hrow, hsv⟩ := hrel
    have HO := hid hO
    have HRr := hid hrow
    have HSV := hid hsv
    have hzr := hsv.size
    have HB0r := hid (HB0.out.trans ((HBw.out.mono HB0.out.size).trans (hsv.below (B := w0.heap.size) (by have := HB0.out.size; have := HBw.out.size; omega) (fun j e => by have := HB0.out.size; omega))))
    clear hO hrow hsv
    by_cases hlt : k < f.length
    · obtain ⟨n0, n1, n2, n3, n4, n5⟩ := (HN.out.2 k hlt).below HB0r.out hfb
      have hbr : fb < wr.heap.size := by have := HB0r.out.size; omega
      obtain ⟨hkd, harm⟩ := HNd.out k hlt
      rcases HC.out with h0 | ⟨wb, o, rfl, hwb, hcs⟩
      · have := HCl.out; omega
      have hck := (hcs k (by have := HCl.out; omega)).below HB0r.out (Nat.le_refl _) hwb
      have HTr := hid (HT.out.below HB0r.out)
      obtain ⟨kk, hkk⟩ : ∃ kk : Nat, (ndAt f k).k = (kk : Int) := ⟨(ndAt f k).k.toNat, by obtain ⟨h1, h2⟩ := hkd; omega⟩
      have hk19 : 1 ≤ kk ∧ kk ≤ 9 := by obtain ⟨h1, h2⟩ := hkd; omega
      have hst := HSt.out k hlt
      obtain ⟨lo', hi', Y, was', hdk⟩ : ∃ lo' hi' Y was', clAt D k = ⟨lo', hi', Y, was'⟩ := ⟨_, _, _, _, rfl⟩
      rw [hdk] at hst
      have HDk := hid hdk
      obtain ⟨c0, c1, c3, a, c, c2, hsl, hAr⟩ := hck
      have HK0 : Hid (∀ W', Below wr.heap.size wr W' → Calls Tryz.prog (stepF (kk : Int)) #[.agg #[.slice (some ⟨fb, 0, none⟩) f.length fc, .int .i64 cnt, .int .i64 now, .int .i64 tm, .slice na nn nc, .slice (some ⟨ab, 0, none⟩) f.length ac], .agg #[.int .i64 (kk : Int), .int .i64 (ndAt f k).a, .int .i64 (ndAt f k).b, .int .i64 (ndAt f k).lo, .int .i64 (ndAt f k).hi, .string (ndAt f k).nm], .agg #[.int .i64 (clAt C k).lo, .int .i64 (clAt C k).hi, .slice a (clAt C k).ts.length c, .bool (clAt C k).was]] W' fun e w' => ∃ va vc, e = .returned (.tuple #[.bool (G k), .agg #[.int .i64 lo', .int .i64 hi', .slice va Y.length vc, .bool was']]) ∧ OwnI w' W'.heap.size (.slice va Y.length vc) Y ∧ Below W'.heap.size W' w') := fun W' hb => by
        have := kind_any (some ⟨fb, 0, none⟩) f.length fc cnt now tm S na nn nc HNn.out hnl ab f.length ac (by omega) (ndAt f k) k (by omega) hkd harm (clAt C k) _ rfl a c hsl (HKr.out k hlt) HTs.out.1 HTs.out.2 G (G k) lo' hi' Y was' hst W' (by have := HRr.out.lt; have := hb.size; omega) (fun p hp => by rw [hb.cell (p := ⟨ab, p, none⟩) HRr.out.lt, HRr.out.cell (by omega)]; unfold boolsTo; rw [if_pos hp]) (hAr.on hb) (HTr.out.below hb)
        rwa [hkk] at this
      have HSt0 := hid (HS0.out kk hk19.1 hk19.2)
      have hent := steps_enter kk hk19.1 hk19.2
      rw [hkk] at n0
      have HBq8 := hid (below_one' wr (.cells #[.int .i64 (kk : Int), .int .i64 (ndAt f k).a, .int .i64 (ndAt f k).b, .int .i64 (ndAt f k).lo, .int .i64 (ndAt f k).hi, .string (ndAt f k).nm] 81))
      have HX8 : Hid ((wr.alloc (.cells #[.int .i64 (kk : Int), .int .i64 (ndAt f k).a, .int .i64 (ndAt f k).b, .int .i64 (ndAt f k).lo, .int .i64 (ndAt f k).hi, .string (ndAt f k).nm] 81)).heap.size = wr.heap.size + 1 ∧ (wr.alloc (.cells #[.int .i64 (kk : Int), .int .i64 (ndAt f k).a, .int .i64 (ndAt f k).b, .int .i64 (ndAt f k).lo, .int .i64 (ndAt f k).hi, .string (ndAt f k).nm] 81)).cell? ⟨wr.heap.size, 0, none⟩ = some (.int .i64 kk) ∧ (wr.alloc (.cells #[.int .i64 (kk : Int), .int .i64 (ndAt f k).a, .int .i64 (ndAt f k).b, .int .i64 (ndAt f k).lo, .int .i64 (ndAt f k).hi, .string (ndAt f k).nm] 81)).cell? ⟨wr.heap.size, 1, none⟩ = some (.int .i64 (ndAt f k).a) ∧ (wr.alloc (.cells #[.int .i64 (kk : Int), .int .i64 (ndAt f k).a, .int .i64 (ndAt f k).b, .int .i64 (ndAt f k).lo, .int .i64 (ndAt f k).hi, .string (ndAt f k).nm] 81)).cell? ⟨wr.heap.size, 2, none⟩ = some (.int .i64 (ndAt f k).b) ∧ (wr.alloc (.cells #[.int .i64 (kk : Int), .int .i64 (ndAt f k).a, .int .i64 (ndAt f k).b, .int .i64 (ndAt f k).lo, .int .i64 (ndAt f k).hi, .string (ndAt f k).nm] 81)).cell? ⟨wr.heap.size, 3, none⟩ = some (.int .i64 (ndAt f k).lo) ∧ (wr.alloc (.cells #[.int .i64 (kk : Int), .int .i64 (ndAt f k).a, .int .i64 (ndAt f k).b, .int .i64 (ndAt f k).lo, .int .i64 (ndAt f k).hi, .string (ndAt f k).nm] 81)).cell? ⟨wr.heap.size, 4, none⟩ = some (.int .i64 (ndAt f k).hi) ∧ (wr.alloc (.cells #[.int .i64 (kk : Int), .int .i64 (ndAt f k).a, .int .i64 (ndAt f k).b, .int .i64 (ndAt f k).lo, .int .i64 (ndAt f k).hi, .string (ndAt f k).nm] 81)).cell? ⟨wr.heap.size, 5, none⟩ = some (.string (ndAt f k).nm)) := ⟨by simp, by simp [go_sem], by simp [go_sem], by simp [go_sem], by simp [go_sem], by simp [go_sem], by simp [go_sem]⟩
      have HCc := hid (show wr.cell? ⟨wb, o + k * 4, none⟩ = some (.int .i64 (clAt C k).lo) ∧ wr.cell? ⟨wb, o + k * 4 + 1, none⟩ = some (.int .i64 (clAt C k).hi) ∧ wr.cell? ⟨wb, o + k * 4 + 2, none⟩ = some (.slice a (clAt C k).ts.length c) ∧ wr.cell? ⟨wb, o + k * 4 + 3, none⟩ = some (.bool (clAt C k).was) from ⟨c0, c1, c2, c3⟩)
      clear c0 c1 c2 c3 hcs hsl hAr hst hdk hkk hkd harm HS0
      generalize clAt C k = ck at *
      generalize ndAt f k = x at *
      generalize stepF (kk : Int) = F at *
      obtain ⟨clo, chi, cts, cwas⟩ := ck
      simp only at HCc HK0
      generalize cts.length = cn at *
      go_wp2_with fail
      generalize wr.alloc (.cells #[.int .i64 (kk : Int), .int .i64 x.a, .int .i64 x.b, .int .i64 x.lo, .int .i64 x.hi, .string x.nm] 81) = WB at *
      have hab2 := HRr.out.lt
      have hcb2 := HO.out.row.lt
      have hqr : w.heap.size < wr.heap.size := by omega
      have HS := hid (fun W' (hs : Save WB W' (fun j => j = ab ∨ j = w1.heap.size + 1)) => (by
        obtain ⟨hz8, y0, y1, y2, y3, y4, y5⟩ := HX8.out
        obtain ⟨v0, v1, v2, v3, v4, v5⟩ := HWW.out
        obtain ⟨u0, u1, u2, u3⟩ := HCc.out
        have hwb2 := HB0.out.size
        have G0 : GtS WB w.heap.size w1.heap.size wr.heap.size wb (o + k * 4) (some ⟨fb, 0, none⟩) f.length fc cnt now tm na nn nc ab f.length ac kk F x clo chi a cn c cwas := by
          have eq := fun i => ((HBq8.out.cell (p := ⟨w.heap.size, i, none⟩) (by show w.heap.size < _; omega)).trans (HSV.out.cell (p := ⟨w.heap.size, i, none⟩) (by show w.heap.size < _; omega) (by show ¬ (w.heap.size = ab ∨ w.heap.size = w1.heap.size + 1); omega)))
          have es := fun i => ((HBq8.out.cell (p := ⟨w1.heap.size, i, none⟩) (by show w1.heap.size < _; omega)).trans (HSV.out.cell (p := ⟨w1.heap.size, i, none⟩) (by show w1.heap.size < _; omega) (by show ¬ (w1.heap.size = ab ∨ w1.heap.size = w1.heap.size + 1); omega)))
          have ew := fun i => (HBq8.out.cell (p := ⟨wb, i, none⟩) (by show wb < _; omega))
          exact ⟨(eq _).trans v0, (eq _).trans v1, (eq _).trans v2, (eq _).trans v3, (eq _).trans v4, (eq _).trans v5, y0, y1, y2, y3, y4, y5, (es _).trans HSt0.out, (ew _).trans u0, (ew _).trans u1, (ew _).trans u2, (ew _).trans u3⟩
        obtain ⟨g0, g1, g2, g3, g4, g5, g6, g7, g8, g9, g10, g11, g12, g13, g14, g15, g16⟩ := G0.save hs (by omega) (by omega) (by omega) (by omega) (by show ¬ (w.heap.size = ab ∨ _); omega) (by show ¬ (w1.heap.size = ab ∨ _); omega) (by show ¬ (wr.heap.size = ab ∨ _); omega) (by show ¬ (wb = ab ∨ _); omega)
        exact ⟨g0, g1, g2, g3, g4, g5, g6, g7, g8, g9, g10, g11, g12, g13, g14, g15, g16⟩ : W'.cell? ⟨w.heap.size, 0, none⟩ = some (.slice (some ⟨fb, 0, none⟩) f.length fc) ∧ W'.cell? ⟨w.heap.size, 1, none⟩ = some (.int .i64 cnt) ∧ W'.cell? ⟨w.heap.size, 2, none⟩ = some (.int .i64 now) ∧ W'.cell? ⟨w.heap.size, 3, none⟩ = some (.int .i64 tm) ∧ W'.cell? ⟨w.heap.size, 4, none⟩ = some (.slice na nn nc) ∧ W'.cell? ⟨w.heap.size, 5, none⟩ = some (.slice (some ⟨ab, 0, none⟩) f.length ac) ∧ W'.cell? ⟨wr.heap.size, 0, none⟩ = some (.int .i64 kk) ∧ W'.cell? ⟨wr.heap.size, 1, none⟩ = some (.int .i64 x.a) ∧ W'.cell? ⟨wr.heap.size, 2, none⟩ = some (.int .i64 x.b) ∧ W'.cell? ⟨wr.heap.size, 3, none⟩ = some (.int .i64 x.lo) ∧ W'.cell? ⟨wr.heap.size, 4, none⟩ = some (.int .i64 x.hi) ∧ W'.cell? ⟨wr.heap.size, 5, none⟩ = some (.string x.nm) ∧ W'.cell? ⟨w1.heap.size, kk, none⟩ = some (.func (.func F) #[] #[]) ∧ W'.cell? ⟨wb, o + k * 4, none⟩ = some (.int .i64 clo) ∧ W'.cell? ⟨wb, o + k * 4 + 1, none⟩ = some (.int .i64 chi) ∧ W'.cell? ⟨wb, o + k * 4 + 2, none⟩ = some (.slice a cn c) ∧ W'.cell? ⟨wb, o + k * 4 + 3, none⟩ = some (.bool cwas)))
      have HSV0 := hid (Save.refl WB (fun j => j = ab ∨ j = w1.heap.size + 1))
      have HBB := hid HBq8.out
      have hk10 : (kk : Int) < 10 := by omega
      have hk00 : (0 : Int) ≤ (kk : Int) := by omega
      have hkn : k < f.length := hlt
      have hWz := HX8.out.1
      have hne : ¬ ab = w1.heap.size + 1 := by omega
      have hne' : ¬ w1.heap.size + 1 = ab := by omega
      have hoff : o + k * 4 + 3 < o + k * 4 + 4 := by omega
      go_region_held3 (fun W' => W'.cell? ⟨w.heap.size, 0, none⟩ = some (.slice (some ⟨fb, 0, none⟩) f.length fc) ∧ W'.cell? ⟨w.heap.size, 1, none⟩ = some (.int .i64 cnt) ∧ W'.cell? ⟨w.heap.size, 2, none⟩ = some (.int .i64 now) ∧ W'.cell? ⟨w.heap.size, 3, none⟩ = some (.int .i64 tm) ∧ W'.cell? ⟨w.heap.size, 4, none⟩ = some (.slice na nn nc) ∧ W'.cell? ⟨w.heap.size, 5, none⟩ = some (.slice (some ⟨ab, 0, none⟩) f.length ac) ∧ W'.cell? ⟨wr.heap.size, 0, none⟩ = some (.int .i64 kk) ∧ W'.cell? ⟨wr.heap.size, 1, none⟩ = some (.int .i64 x.a) ∧ W'.cell? ⟨wr.heap.size, 2, none⟩ = some (.int .i64 x.b) ∧ W'.cell? ⟨wr.heap.size, 3, none⟩ = some (.int .i64 x.lo) ∧ W'.cell? ⟨wr.heap.size, 4, none⟩ = some (.int .i64 x.hi) ∧ W'.cell? ⟨wr.heap.size, 5, none⟩ = some (.string x.nm) ∧ W'.cell? ⟨w1.heap.size, kk, none⟩ = some (.func (.func F) #[] #[]) ∧ W'.cell? ⟨wb, o + k * 4, none⟩ = some (.int .i64 clo) ∧ W'.cell? ⟨wb, o + k * 4 + 1, none⟩ = some (.int .i64 chi) ∧ W'.cell? ⟨wb, o + k * 4 + 2, none⟩ = some (.slice a cn c) ∧ W'.cell? ⟨wb, o + k * 4 + 3, none⟩ = some (.bool cwas)) ((refine HS.out _ ?_; repeat (first | exact HSw.out | exact HSV0.out | apply Save.drew | (refine Save.alloc ?_ _) | (refine Save.setCell ?_ (fun _ => Or.inl rfl) _) | (refine Save.setCell ?_ (fun _ => Or.inr rfl) _)))) ((refine (HK0.out _ (below_drew HBB.out)).mono ?_; rintro e w2 ⟨va, vc, rfl, hO2, hb2'⟩; have hb2 := below_undrew hb2'; clear hb2'; have HSw := hid (Save.of_below hb2 (fun j => j = ab ∨ j = w1.heap.size + 1) (fun j h1 h2 => absurd h1 (by omega))); have HO2 := hid hO2; have HB2 := hid hb2; have hz2 := hb2.size; have hra := (HRr.out.of_block (HBB.out.block ab hab2)).of_block (hb2.block ab (by omega)); have hrc := (HO.out.row.of_block (HBB.out.block (w1.heap.size + 1) hcb2)).of_block (hb2.block (w1.heap.size + 1) (by omega)); have da := hra.cell (i := k) hkn; have fa := hra.frozen k; have dc0 := hrc.cell (i := k * 4) (by omega); have dc1 := hrc.cell (i := k * 4 + 1) (by omega); have dc2 := hrc.cell (i := k * 4 + 2) (by omega); have dc3 := hrc.cell (i := k * 4 + 3) (by omega); have fc0 := hrc.frozen (k * 4); have fc1 := hrc.frozen (k * 4 + 1); have fc2 := hrc.frozen (k * 4 + 2); have fc3 := hrc.frozen (k * 4 + 3); clear hra hrc; clear hb2 hO2))
      go_wp2_with fail
      have hOB := HO.out.save (Save.of_below HBB.out (fun _ => False) (fun j h1 h2 => absurd h1 (by omega))) (fun h => h) (fun _ _ h => h)
      have hRB := (HRr.out.of_block (HBB.out.block ab hab2)).of_block (HB2.out.block ab (by omega))
      have hSB := ((Save.of_below HBB.out (fun j => j = ab ∨ j = w1.heap.size + 1) (fun j h1 h2 => absurd h1 (by omega))).trans HSw.out)
      have hDk := HDk.out
      have hAb := Save.of_below HB2.out (fun j => j = ab) (fun j h1 h2 => absurd h1 (by omega))
      have hO2' : OwnI w2 WB.heap.size (.slice va Y.length vc) Y := HO2.out
      go_roundw
      case rel =>
        refine ⟨k + 1, fun i => if i = k then .slice va Y.length vc else V i, by omega, by go_num, hOB.put (by omega) hDk hAb (by omega) (by omega) hO2' _, ?_, ?_⟩
        · refine (World.rowIs.setOther (World.rowIs.setOther (World.rowIs.setOther (World.rowIs.setOther (hRB.set k _) (by show _ ≠ _; simp only; omega) _) (by show _ ≠ _; simp only; omega) _) (by show _ ≠ _; simp only; omega) _) (by show _ ≠ _; simp only; omega) _).congr (fun j hj => (boolsTo_step G k j).symm)
        · exact HSV.out.trans (Save.setCell (Save.setCell (Save.setCell (Save.setCell (Save.setCell hSB (p := ⟨ab, k, none⟩) (fun _ => Or.inl rfl) _) (p := ⟨w1.heap.size + 1, k * 4, none⟩) (fun _ => Or.inr rfl) _) (p := ⟨w1.heap.size + 1, k * 4 + 1, none⟩) (fun _ => Or.inr rfl) _) (p := ⟨w1.heap.size + 1, k * 4 + 2, none⟩) (fun _ => Or.inr rfl) _) (p := ⟨w1.heap.size + 1, k * 4 + 3, none⟩) (fun _ => Or.inr rfl) _)
      case measure => simp [intOf]; omega
    · have hk' : k = f.length := by omega
      subst hk'
      go_wp2_with fail
      go_ret
      exact ⟨w1.heap.size + 1, V, rfl, by omega, HO.out, HRr.out, (Save.of_below HBw.out (fun j => j = ab) (fun j h1 h2 => absurd h1 (by omega))).over HSV.out (fun j hj e => by omega)⟩
end Go.Proofs.YtbfkbgmkibkbnaaGreatDoor
