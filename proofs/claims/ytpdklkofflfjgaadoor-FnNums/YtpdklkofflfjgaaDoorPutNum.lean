/-
  PutNum, the model's, by its contract.
-/
import Derived.Test.YtpdklkofflfjgaaDoorText
import Derived.Laws.IdiomStrings
namespace Go.Proofs.YtpdklkofflfjgaaDoor
open Go.RowKit

/-! ### Plain facts -/
def foldN (n : Int) : Nat := if n < 0 then (2 * (-(n + 1)) + 1).toNat else (2 * n).toNat
def enc : Nat → Nat → List UInt8
  | 0, u => [UInt8.ofNat u]
  | f + 1, u => if u < 128 then [UInt8.ofNat u] else UInt8.ofNat (u % 128 + 128) :: enc f (u / 128)
def encode (u : Nat) : List UInt8 := enc 9 u
/-- What a loop holds behind some rounds: the bytes made, and the number left. -/
def Half (u : Nat) (p : List UInt8) (U : Nat) : Prop := p.length ≤ 9 ∧ U * 128 ^ p.length < 18446744073709551616 ∧ p ++ enc (9 - p.length) U = encode u

theorem foldN_lt {n : Int} (h1 : -9223372036854775808 ≤ n) (h2 : n ≤ 9223372036854775807) : foldN n < 18446744073709551616 := by
  unfold foldN
  split <;> omega
theorem half_start {u : Nat} (h : u < 18446744073709551616) : Half u [] u := ⟨by simp, by simpa using h, by simp [encode]⟩
theorem half_le {u U : Nat} {p : List UInt8} (h : Half u p U) : U < 18446744073709551616 := by
  have h2 := h.2.1
  have h1 : 0 < 128 ^ p.length := Nat.pow_pos (by omega)
  have h3 := Nat.le_mul_of_pos_right U h1
  omega
theorem half_more {u U : Nat} {p : List UInt8} (h : Half u p U) (hU : 128 ≤ U) : p.length ≤ 8 := by
  obtain ⟨h1, h2, _⟩ := h
  by_cases h9 : p.length = 9
  · rw [h9] at h2
    have : (128 : Nat) ^ 9 = 9223372036854775808 := by decide
    rw [this] at h2
    omega
  · omega
theorem enc_small (f U : Nat) (h : U < 128) : enc f U = [UInt8.ofNat U] := by
  cases f with
  | zero => rfl
  | succ f => simp [enc, h]
theorem half_step {u U : Nat} {p : List UInt8} (h : Half u p U) (hU : 128 ≤ U) : Half u (p ++ [UInt8.ofNat (U % 128 + 128)]) (U / 128) := by
  have h8 := half_more h hU
  obtain ⟨h1, h2, h3⟩ := h
  refine ⟨by simp; omega, ?_, ?_⟩
  · rw [List.length_append, List.length_singleton, Nat.pow_succ]
    have : U / 128 * (128 ^ p.length * 128) = (U / 128 * 128) * 128 ^ p.length := by
      rw [Nat.mul_comm (128 ^ p.length) 128, ← Nat.mul_assoc]
    rw [this]
    exact Nat.lt_of_le_of_lt (Nat.mul_le_mul_right _ (Nat.div_mul_le_self U 128)) h2
  · rw [← h3]
    obtain ⟨f, hf⟩ : ∃ f, 9 - p.length = f + 1 := ⟨8 - p.length, by omega⟩
    rw [hf, show 9 - (p ++ [UInt8.ofNat (U % 128 + 128)]).length = f from by simp; omega]
    simp only [enc]
    rw [if_neg (by omega)]
    simp
theorem half_end {u U : Nat} {p : List UInt8} (h : Half u p U) (hU : U < 128) : p ++ [UInt8.ofNat U] = encode u := by
  rw [← h.2.2, enc_small _ _ hU]
theorem bV_more (U : Nat) : bV (UInt8.ofNat (U % 128 + 128)) = .int .u8 ((U : Int) % 128 + 128) := by
  unfold bV
  rw [UInt8.toNat_ofNat']
  congr 1
  omega
theorem bV_last (U : Nat) (h : U < 128) : bV (UInt8.ofNat U) = .int .u8 (U : Int) := by
  unfold bV
  rw [UInt8.toNat_ofNat']
  congr 1
  omega
theorem encode_len (u : Nat) : 1 ≤ (encode u).length ∧ (encode u).length ≤ 10 := by
  have : ∀ f u, 1 ≤ (enc f u).length ∧ (enc f u).length ≤ f + 1 := by
    intro f
    induction f with
    | zero => intro u; simp [enc]
    | succ f ih =>
      intro u
      simp only [enc]
      split
      · simp
      · have := ih (u / 128)
        simp
        omega
  exact this 9 u
theorem str_size (l : List UInt8) : (str l).size = l.length := by simp [str, ByteArray.size]

/-- A slice that owns bytes is turned into their text. -/
theorem own_string {w : World} {B : Nat} {v : Value} {n : Nat} {l : List UInt8} (hl : l.length = n) (hn : 0 < n) (h : w.ownsRow B 5 1 v n (l.map bV)) :
    ∃ g cap, v = .slice (some ⟨g, 0, none⟩) n cap ∧ (convert 22 9 (.slice (some ⟨g, 0, none⟩) n cap)).run Tryd.prog w = .ok (.string (str l)) w := by
  rcases h.2 with ⟨_, h0⟩ | ⟨g, cap, cur, rfl, hrest⟩
  · omega
  · refine ⟨g, cap, rfl, ?_⟩
    subst hl
    refine run_convert_bytes_back w 22 9 5 ⟨g, 0, none⟩ cap l Tryd.underlying22 Tryd.underlying5 Tryd.underlying9 ?_
    intro j hj
    have := h.cellAt j (by omega)
    have ha : (⟨g, 0, none⟩ : Addr).add j = ⟨g, j, none⟩ := by
      simp only [Addr.add]
      split
      · simp_all
      · simp
    rw [ha, this]
    simp [hj, bV]
theorem own_step {B : Nat} {w wr w1 : World} {v v' : Value} {o : Obj} {p : List UInt8} {b : UInt8} {x : Value} (hx : bV b = x) (hB : B ≤ wr.heap.size)
    (hown : wr.ownsRow B 5 1 v p.length (p.map bV)) (hbel : Below B w wr) (hown' : w1.ownsRow B 5 1 v' (p.length + 1) (p.map bV ++ [x])) (hgrow : (wr.alloc o).grownBy w1 v.ownBlock) :
    w1.ownsRow B 5 1 v' (p ++ [b]).length ((p ++ [b]).map bV) ∧ Below B w w1 := by
  refine ⟨by rw [← hx] at hown'; simpa using hown', (hbel.alloc hB o).grown hgrow (by simp; omega) (fun j hj => (hown.lt j hj).1)⟩
theorem specFold_any (n : Int) (h1 : -9223372036854775808 ≤ n) (h2 : n ≤ 9223372036854775807) (w : World) :
    Calls Tryd.prog 21 #[.int .i64 n] w fun e w' => e = .returned (.int .u64 (foldN n : Nat)) ∧ w' = w := by
  by_cases h : n < 0
  · have HF : Hid (((foldN n : Nat) : Int) = 2 * -(n + 1) + 1) := by unfold foldN; rw [if_pos h]; show ((_ : Nat) : Int) = _; omega
    go_enter Tryd.func21, Tryd.ntmps21
    go_wp2
    go_ret
    exact ⟨ret_int HF.out.symm, rfl⟩
  · have HF : Hid (((foldN n : Nat) : Int) = 2 * n) := by unfold foldN; rw [if_neg h]; show ((_ : Nat) : Int) = _; omega
    go_enter Tryd.func21, Tryd.ntmps21
    go_wp2
    go_ret
    exact ⟨ret_int HF.out.symm, rfl⟩
theorem implFold_any (n : Int) (h1 : -9223372036854775808 ≤ n) (h2 : n ≤ 9223372036854775807) (w : World) :
    Calls Tryd.prog 20 #[.int .i64 n] w fun e w' => e = .returned (.int .u64 (foldN n : Nat)) ∧ w' = w := by
  by_cases h : n < 0
  · have HF : Hid (((foldN n : Nat) : Int) = 2 * -(n + 1) + 1) := by unfold foldN; rw [if_pos h]; show ((_ : Nat) : Int) = _; omega
    go_enter Tryd.func20, Tryd.ntmps20
    go_wp2
    go_ret
    exact ⟨ret_int HF.out.symm, rfl⟩
  · have HF : Hid (((foldN n : Nat) : Int) = 2 * n) := by unfold foldN; rw [if_neg h]; show ((_ : Nat) : Int) = _; omega
    go_enter Tryd.func20, Tryd.ntmps20
    go_wp2
    go_ret
    exact ⟨ret_int HF.out.symm, rfl⟩

set_option maxHeartbeats 1000000 in
set_option maxRecDepth 100000 in
theorem specPutNum_any (n : Int) (h1 : -9223372036854775808 ≤ n) (h2 : n ≤ 9223372036854775807) (w : World) :
    Calls Tryd.prog 8 #[.int .i64 n] w fun e w' => e = .returned (.string (str (encode (foldN n)))) ∧ Below w.heap.size w w' := by
  obtain ⟨i0, hi, hz0, hz1, hz2⟩ := info_parts Tryd.info5
  have hu := foldN_lt h1 h2
  have HX : Hid (∀ w1, Calls Tryd.prog 21 #[.int .i64 n] w1 fun e w' => e = .returned (.int .u64 (foldN n : Nat)) ∧ w' = w1) := specFold_any n h1 h2
  generalize foldN n = u at hu HX
  go_enter Tryd.func8, Tryd.ntmps8
  go_wp2_with (go_at_call 21; refine (HX.out _).mono ?_; rintro e w' ⟨rfl, rfl⟩)
  go_loopw [3, 4] (fun uu v wr => ∃ (p : List UInt8) (U : Nat), uu = .int .u64 U ∧ Half u p U ∧ wr.ownsRow w'.heap.size 5 1 v p.length (p.map bV) ∧ Below w'.heap.size w' wr) (fun uu _ _ => (intOf uu).toNat)
  case atStart => exact ⟨[], u, rfl, half_start hu, World.ownsRow_lit _ #[] 0 (Nat.le_refl _) (Nat.zero_le _) rfl, (Below.refl _ _).alloc (Nat.le_refl _) _⟩
  case round =>
    obtain ⟨p, U, rfl, hh, hown, hbel⟩ := hrel
    have HH : Hid (Half u p U) := hh
    have hU := half_le hh
    have hsz := hbel.size
    clear hh hu
    by_cases hlt : 128 ≤ U
    · have hp8 := half_more HH.out hlt
      go_wp2_with (at_builtin; refine wpList_append_own _ rfl _ _ 22 rfl w'.heap.size 5 i0 (.int .u8 0) 1 1 Tryd.underlying22 hi hz0 hz1 hz2 rfl (by decide) _ _ _ rfl (hown.alloc _) ⟨wr.heap.size, 0, none⟩ 1 1 [.int .u8 ((U : Int) % 128 + 128)] rfl rfl ?c1 ?c2 ?c3 ?c4 ?c5 ?_)
      case c1 =>
        intro j v hj
        match j, hj with
        | 0, hj => simp at hj; subst hj; simp [Addr.add]
      case c2 => intro v hv; simp at hv; subst hv; rfl
      case c3 => unfold maxLen; omega
      case c4 => omega
      case c5 => simp; omega
      intro v' w1 hown' hgrow _
      have R := own_step (bV_more U) (by omega) hown hbel hown' hgrow
      have HS : Hid (Half u (p ++ [UInt8.ofNat (U % 128 + 128)]) (U / 128)) := half_step HH.out hlt
      clear hown' hgrow hown hbel
      go_wp2
      go_roundw
      case rel => exact ⟨_, U / 128, by go_num, HS.out, R.1, R.2⟩
      case measure => simp [intOf]; omega
    · have HE : Hid (p ++ [UInt8.ofNat U] = encode u) := half_end HH.out (by omega)
      have hp9 : p.length ≤ 9 := HH.out.1
      go_wp2_with (at_builtin; refine wpList_append_own _ rfl _ _ 22 rfl w'.heap.size 5 i0 (.int .u8 0) 1 1 Tryd.underlying22 hi hz0 hz1 hz2 rfl (by decide) _ _ _ rfl (hown.alloc _) ⟨wr.heap.size, 0, none⟩ 1 1 [.int .u8 (U : Int)] rfl rfl ?d1 ?d2 ?d3 ?d4 ?d5 ?_)
      case d1 =>
        intro j v hj
        match j, hj with
        | 0, hj => simp at hj; subst hj; simp [Addr.add]
      case d2 => intro v hv; simp at hv; subst hv; rfl
      case d3 => unfold maxLen; omega
      case d4 => omega
      case d5 => simp; omega
      intro v' w1 hown' hgrow _
      have R := own_step (bV_last U (by omega)) (by omega) hown hbel hown' hgrow
      have R1 : w1.ownsRow w'.heap.size 5 1 v' (p.length + 1) ((encode u).map bV) := by rw [← HE.out]; simpa using R.1
      obtain ⟨g, cap, hv, hconv⟩ := own_string (by rw [← HE.out]; simp) (by omega) R1
      have HB : Hid (Below w'.heap.size w' w1) := R.2
      clear R R1 hown' hgrow hown hbel
      rw [hv]
      clear hv
      go_wp2
      go_ret
      exact ⟨rfl, HB.out⟩
end Go.Proofs.YtpdklkofflfjgaaDoor
