/-
  Rows of names that a call makes: the program's copyNames, the model's l03Copy, by their contracts.
-/
import Derived.Test.YthjnlcjjhklfpaaDoorEvTr
import Derived.Test.YthjnlcjjhklfpaaDoorClone
namespace Go.Proofs.YthjnlcjjhklfpaaDoor
open Go.RowKit
set_option linter.unusedVariables false
set_option linter.unusedSimpArgs false
/-- A row of texts that the call owns. -/
def OwS (w : World) (base : Nat) (v : Value) (S : List ByteArray) : Prop := w.ownsRow base 9 1 v S.length (S.map Value.string)
/-- A row of texts to be written to; it may be longer than what is asked for. -/
def RowTs (w : World) (a : Option Addr) (n : Nat) : Prop := n = 0 ∨ ∃ b z m, a = some ⟨b, 0, none⟩ ∧ n ≤ m ∧ w.rowIs b 9 m z
theorem RowTs.below {w w' : World} {a : Option Addr} {n : Nat} (h : RowTs w a n) (hb : Below w.heap.size w w') : RowTs w' a n :=
  h.imp id (fun ⟨b, z, m, e, hm, hr⟩ => ⟨b, z, m, e, hm, hr.of_block (hb.block b hr.lt)⟩)
theorem RowTs.save {w w' : World} {a : Option Addr} {n : Nat} {T : Nat → Prop} (h : RowTs w a n) (hs : Save w w' T) (hT : ∀ b, a = some ⟨b, 0, none⟩ → ¬ T b) : RowTs w' a n :=
  h.imp id (fun ⟨b, z, m, e, hm, hr⟩ => ⟨b, z, m, e, hm, hr.of_block (hs.block b hr.lt (hT b e))⟩)
theorem OwS.form {w : World} {base : Nat} {v : Value} {S : List ByteArray} (h : OwS w base v S) : ∃ a c, v = .slice a S.length c ∧ TsAt w a S ∧ RowTs w a S.length ∧ ∀ q, a = some q → base ≤ q.block ∧ q.block < w.heap.size ∧ q = ⟨q.block, 0, none⟩ := by
  rcases h.2 with ⟨hv, h0⟩ | ⟨g, cap, cur, hv, hb, hg, h1, h2, h3, h4⟩
  · exact ⟨none, 0, by rw [hv, h0], Or.inl h0, Or.inl h0, fun q e => (by cases e)⟩
  · have hlt := (Array.getElem?_eq_some_iff.1 hg).1
    refine ⟨some ⟨g, 0, none⟩, cap, hv, Or.inr ⟨g, rfl, hlt, fun i hi => ?_⟩, Or.inr ⟨g, fun j => cur.getD j undef, cap, rfl, h1, ⟨cur, hg, by omega, fun i hi => ?_⟩⟩, fun q e => (by injection e with e1; subst e1; exact ⟨hb, hlt, rfl⟩)⟩
    · have h5 := World.ownsRow.cells h (g := g) (by rw [hv]; rfl) i (.string (txAt S i)) (by simp [hi, txAt, List.getD])
      rw [Addr.add_lit] at h5
      simpa using h5
    · have hi' : i < cur.size := by omega
      simp [hi']
theorem OwS.save {w w' : World} {base : Nat} {v : Value} {S : List ByteArray} {T : Nat → Prop} (h : OwS w base v S) (hs : Save w w' T) (hT : ∀ k, v.ownBlock = some k → ¬ T k) : OwS w' base v S := by
  refine ⟨h.1, ?_⟩
  rcases h.2 with hn | ⟨b, cap, cur, rfl, hb, hg, rest⟩
  · exact .inl hn
  · refine .inr ⟨b, cap, cur, rfl, hb, ?_, rest⟩
    rw [hs.block b (Array.getElem?_eq_some_iff.1 hg).1 (hT b rfl)]
    exact hg
theorem OwS.below {w w' : World} {base : Nat} {v : Value} {S : List ByteArray} (h : OwS w base v S) (hb : Below w.heap.size w w') : OwS w' base v S :=
  h.save (T := fun _ => False) (Save.of_below hb _ (fun j h1 h2 => by omega)) (fun _ _ h => h)
theorem take_succ_tx (S : List ByteArray) (k : Nat) (h : k < S.length) : S.take (k + 1) = S.take k ++ [txAt S k] := by
  rw [List.take_add_one]
  simp [txAt, List.getD, h]
theorem Tryd.infoS1 : (Tryd.prog.info? 9).map (fun i => (i.zero, i.size, i.bytes)) = some (some (.string ⟨#[]⟩), 1, 16) := by kernel_rfl
set_option maxRecDepth 20000 in
set_option maxHeartbeats 2000000 in
theorem copyNames_any (S : List ByteArray) (hs : ∀ i, i < S.length → (txAt S i).size ≤ 10000) (hl : S.length ≤ 1000) (a : Option Addr) (c : Nat) (w : World) (hA : TsAt w a S) :
    Calls Tryd.prog 87 #[.slice a S.length c] w fun e w' => ∃ v, e = .returned v ∧ OwS w' w.heap.size v S ∧ Below w.heap.size w w' := by
  have HS := hid hs
  have HA := hid hA
  clear hs hA
  obtain ⟨i0, hi, hz0, hz1, hz2⟩ := info_parts Tryd.infoS1
  go_enter Tryd.func87, Tryd.ntmps87
  go_wp2_with fail
  go_loopw [3, 8] (fun v t wr => ∃ k : Nat, k ≤ S.length ∧ t = .int .i64 k ∧ OwS wr w.heap.size v (S.take k) ∧ Below w.heap.size w wr) (fun _ t _ => S.length - (intOf t).toNat)
  case atStart => exact ⟨0, Nat.zero_le _, rfl, World.ownsRow_nil _ _ _ _, Below.refl _ _⟩
  case round =>
    obtain ⟨k, hk, rfl, hO, hbel⟩ := hrel
    have HO := hid hO
    have HB := hid hbel
    have hsz := hbel.size
    clear hbel
    have HL := hid (show (S.take k).length = k by simp; omega)
    obtain ⟨va, vc, hva, _⟩ := hO.form
    rw [HL.out] at hva
    subst hva
    clear hO
    by_cases hlt : k < S.length
    · have HT := hid (take_succ_tx S k hlt)
      rcases HA.out with h0 | ⟨b, rfl, hb, hc⟩
      · omega
      have d0 := (HB.out.cell (p := ⟨b, k, none⟩) hb).trans (hc k hlt)
      have HX := hid (HS.out k hlt)
      clear hc
      generalize txAt S k = T at *
      go_wp2_with (first | (go_at_call 66; refine (clone_any T HX.out _).mono ?_; rintro e w1 ⟨rfl, hb1⟩; have HO1 := hid (HO.out.below hb1); have HB1 := hid (HB.out.trans (hb1.mono hsz)); have hz1' := hb1.size; clear hb1) | (at_builtin; refine wpList_append_own_at _ rfl _ _ 29 rfl w.heap.size 9 i0 _ 1 16 Tryd.uSts hi hz0 hz1 hz2 rfl (by decide) _ _ _ rfl (HO1.out.alloc _) ⟨w1.heap.size, 0, none⟩ 1 1 [.string T] rfl rfl (cell_one _ _ _) (by simp [Value.oneCell']) (by rw [HL.out]; unfold maxLen; omega) (by rw [HL.out]; omega) (by simp; omega) ?_; intro v5 w5 hown5 hgrow5 _ hat5; have HB5 := hid ((HB1.out.alloc (by omega) _).grown hgrow5 (by simp; omega) (fun q hq => (World.ownsRow.lt HO1.out q hq).1)); have HO5 : Hid (OwS w5 w.heap.size v5 (S.take (k + 1))) := (by show w5.ownsRow _ _ _ _ _ _; rw [HT.out, List.length_append, List.map_append]; exact hown5); clear hown5 hgrow5 hat5))
      go_roundw
      case rel => exact ⟨k + 1, by omega, by go_num, HO5.out, HB5.out⟩
      case measure => simp [intOf]; omega
    · have hk' : k = S.length := by omega
      subst hk'
      have HO' : Hid (OwS wr w.heap.size (.slice va S.length vc) S) := by
        have := HO.out
        rw [List.take_length] at this
        exact this
      go_wp2_with fail
      go_ret
      exact ⟨_, rfl, HO'.out, HB.out⟩
end Go.Proofs.YthjnlcjjhklfpaaDoor
