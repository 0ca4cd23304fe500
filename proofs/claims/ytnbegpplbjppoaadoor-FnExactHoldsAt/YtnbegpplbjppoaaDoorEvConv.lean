/-
  The laws' own helpers over events: szStringS, toStringS, szEvent, toEvent, eqEvent, by their contracts.
-/
import Derived.Test.YtnbegpplbjppoaaDoorEv
namespace Go.Proofs.YtnbegpplbjppoaaDoor
open Go.RowKit
set_option linter.unusedVariables false
set_option linter.unusedSimpArgs false
/-- A row of texts that came in: it may begin within a block. -/
def ArgT (w : World) (a : Option Addr) (S : List ByteArray) : Prop := S.length = 0 ∨ ∃ b off, a = some ⟨b, off, none⟩ ∧ b < w.heap.size ∧ ∀ i, i < S.length → w.cell? ⟨b, off + i, none⟩ = some (.string (txAt S i))
theorem ArgT.below {w w' : World} {a : Option Addr} {S : List ByteArray} {B : Nat} (h : ArgT w a S) (hb : Below B w w') (hB : w.heap.size ≤ B) : ArgT w' a S := by
  rcases h with h | ⟨b, off, e, hlt, hc⟩
  · exact Or.inl h
  · exact Or.inr ⟨b, off, e, Nat.lt_of_lt_of_le hlt hb.size, fun i hi => (hb.cell (p := ⟨b, off + i, none⟩) (by show b < B; omega)).trans (hc i hi)⟩
theorem bcell {W w1 : World} (hb : Below W.heap.size W w1) : (∀ b o, b < W.heap.size → w1.cell? ⟨b, o, none⟩ = W.cell? ⟨b, o, none⟩) ∧ (∀ b o, b < W.heap.size → w1.frozen? ⟨b, o, none⟩ = W.frozen? ⟨b, o, none⟩) :=
  ⟨fun b o h => hb.cell (p := ⟨b, o, none⟩) h, fun b o h => hb.frozen (p := ⟨b, o, none⟩) h⟩
set_option maxRecDepth 20000 in
set_option maxHeartbeats 1000000 in
theorem szStringS_any (S : List ByteArray) (a : Option Addr) (cap : Nat) (hs : TxOk S) (hl : S.length ≤ maxLen) (left : Int) (h1 : 0 ≤ left) (h2 : left ≤ 1048576) (w : World) (hA : ArgT w a S) :
    Calls Tryd.prog 30 #[.slice a S.length cap, .int .i64 left] w fun e w' => ∃ r : Int, e = .returned (.int .i64 r) ∧ -1 ≤ r ∧ r ≤ 1048576 ∧ (0 ≤ r → S.length ≤ 1048576 ∧ (∀ i, i < S.length → (txAt S i).size ≤ 1048576) ∧ r + S.length ≤ left) ∧ Below w.heap.size w w' := by
  unfold maxLen at hl
  have HS : Hid (∀ i, i < S.length → (txAt S i).size ≤ 9223372036854775807) := fun i hi => by have := hs i hi; unfold maxLen at this; omega
  have HA := hid hA
  clear hs hA
  by_cases h : left - (S.length : Int) < 0
  · go_enter Tryd.func30, Tryd.ntmps30
    go_wp2
    go_ret
    exact ⟨-1, rfl, by omega, by omega, by omega, Below.refl _ _⟩
  go_enter Tryd.func30, Tryd.ntmps30
  go_wp2_with fail
  go_loopw [1, 5] (fun l t wr => ∃ (k : Nat) (r : Int), k ≤ S.length ∧ t = .int .i64 k ∧ l = .int .i64 r ∧ 0 ≤ r ∧ r ≤ 1048576 ∧ r + S.length ≤ left ∧ (∀ i, i < k → (txAt S i).size ≤ 1048576) ∧ Below w.heap.size w wr) (fun _ t _ => S.length - (intOf t).toNat)
  case atStart => exact ⟨0, _, Nat.zero_le _, rfl, rfl, by omega, by omega, by omega, fun i h => by omega, Below.refl _ _⟩
  case round =>
    obtain ⟨k, r, hk, rfl, rfl, hr1, hr2, hr3, hsz, hbel⟩ := hrel
    have HZ := hid hsz
    have HB := hid hbel
    clear hsz hbel
    by_cases hlt : k < S.length
    · rcases HA.out with h0 | ⟨b, off, rfl, hb, hc⟩
      · omega
      · have c0 := (HB.out.cell (p := ⟨b, off + k, none⟩) hb).trans (hc k hlt)
        have hx := HS.out k hlt
        clear hc
        generalize hT : txAt S k = T at *
        have HT := hid hT
        clear hT
        by_cases h' : r - (T.size : Int) < 0
        · go_wp2_with fail
          go_ret
          exact ⟨-1, rfl, by omega, by omega, by omega, HB.out⟩
        · go_wp2_with fail
          go_roundw
          case rel => exact ⟨k + 1, _, by omega, by go_num, rfl, by omega, by omega, by omega, fun i hi => by
            by_cases e : i = k
            · subst e; rw [HT.out]; omega
            · exact HZ.out i (by omega), HB.out⟩
          case measure => simp [intOf]; omega
    · go_wp2_with fail
      go_ret
      exact ⟨r, rfl, by omega, by omega, fun _ => ⟨by omega, fun i hi => HZ.out i (by omega), hr3⟩, HB.out⟩
theorem Tryd.infoSt : (Tryd.prog.info? 9).map (fun i => (i.zero, i.size, i.bytes)) = some (some (.string ⟨#[]⟩), 1, 16) := by kernel_rfl
theorem Tryd.uSts : Tryd.prog.underlying 40 = some (.slice 9) := by kernel_rfl
/-- Block b holds a row of texts, and nothing else. -/
def RowS (w : World) (b : Nat) (S : List ByteArray) : Prop := w.rowIs b 9 S.length (fun j => .string (txAt S j))
theorem RowS.strs {w : World} {b : Nat} {S : List ByteArray} (h : RowS w b S) : StrsAt w b S := ⟨World.rowIs.lt h, fun i hi => World.rowIs.cell h hi⟩
theorem RowS.below {w w' : World} {b : Nat} {S : List ByteArray} {B : Nat} (h : RowS w b S) (hb : Below B w w') (hB : b < B) : RowS w' b S := World.rowIs.of_block h (hb.block b hB)
theorem RowS.ts {w : World} {b : Nat} {S : List ByteArray} (h : RowS w b S) : TsAt w (some ⟨b, 0, none⟩) S := Or.inr ⟨b, rfl, h.strs⟩
set_option maxRecDepth 20000 in
set_option maxHeartbeats 1000000 in
theorem toStringS_any (S : List ByteArray) (a : Option Addr) (cap : Nat) (hl : S.length ≤ 1048576) (w : World) (hA : ArgT w a S) :
    Calls Tryd.prog 31 #[.slice a S.length cap] w fun e w' => e = .returned (.slice (some ⟨w.heap.size, 0, none⟩) S.length S.length) ∧ RowS w' w.heap.size S ∧ Below w.heap.size w w' := by
  have hmk : ∀ w : World, Sem.run Tryd.prog (Instr.makeSlice 40 (.int .i64 S.length) (.int .i64 S.length)) w = .ok (.slice (some ⟨w.heap.size, 0, none⟩) S.length S.length) (w.alloc (.cells (madeCells #[.string ⟨#[]⟩] S.length) 9)) :=
    fun w => run_make_row' 40 9 _ 16 Tryd.uSts Tryd.infoSt rfl .i64 .i64 S.length (by omega) (by omega) w
  have HA := hid hA
  have HR0 : Hid ((w.alloc (.cells (madeCells #[.string ⟨#[]⟩] S.length) 9)).rowIs w.heap.size 9 S.length (rowT S (fun _ => .string ⟨#[]⟩) 0)) := (World.rowIs_made w _ _ _).congr (fun j hj => by simp [rowT])
  clear hA
  go_enter Tryd.func31, Tryd.ntmps31
  go_wp2_with fail
  go_loopw [4] (fun t wr => ∃ k : Nat, k ≤ S.length ∧ t = .int .i64 k ∧ wr.rowIs w.heap.size 9 S.length (rowT S (fun _ => .string ⟨#[]⟩) k) ∧ Below w.heap.size w wr) (fun t _ => S.length - (intOf t).toNat)
  case atStart => exact ⟨0, Nat.zero_le _, rfl, HR0.out, (Below.refl _ _).alloc (Nat.le_refl _) _⟩
  case round =>
    clear HR0 hmk
    obtain ⟨k, hk, rfl, hrow, hbel⟩ := hrel
    have HB := hid hbel
    have HRow := hid hrow
    have hsz := hrow.lt
    clear hrow hbel
    by_cases hlt : k < S.length
    · rcases HA.out with h0 | ⟨b, off, rfl, hb, hc⟩
      · omega
      · have c0 := (HB.out.cell (p := ⟨b, off + k, none⟩) hb).trans (hc k hlt)
        have d0 := HRow.out.cell hlt
        have f0 := HRow.out.frozen k
        clear hc
        go_wp2_with fail
        go_roundw
        case rel => exact ⟨k + 1, by omega, by go_num, (HRow.out.set k _).congr (fun j hj => (rowT_step _ _ _ _).symm), HB.out.setCell (Nat.le_refl _) _⟩
        case measure => simp [intOf]; omega
    · have hk' : k = S.length := by omega
      subst hk'
      go_wp2_with fail
      go_ret
      exact ⟨rfl, HRow.out.congr (fun j hj => by simp [rowT, hj]), HB.out⟩
set_option maxRecDepth 20000 in
set_option maxHeartbeats 1000000 in
theorem szEvent_any (t : Int) (S : List ByteArray) (a : Option Addr) (cap : Nat) (hs : TxOk S) (hl : S.length ≤ maxLen) (left : Int) (h1 : 0 ≤ left) (h2 : left ≤ 1048576) (w : World) (hA : ArgT w a S) :
    Calls Tryd.prog 16 #[.agg #[.int .i64 t, .slice a S.length cap], .int .i64 left] w fun e w' => ∃ r : Int, e = .returned (.int .i64 r) ∧ -1 ≤ r ∧ r ≤ 1048576 ∧ (0 ≤ r → S.length ≤ 1048576 ∧ (∀ i, i < S.length → (txAt S i).size ≤ 1048576) ∧ r + S.length ≤ left) ∧ Below w.heap.size w w' := by
  have HA := hid (hA.below ((Below.refl w.heap.size w).alloc (Nat.le_refl _) (.cells #[.int .i64 t, .slice a S.length cap] 42)) (Nat.le_refl _))
  have HS := hid hs
  have HL := hid hl
  clear hA hs hl
  go_enter Tryd.func16, Tryd.ntmps16
  go_wp2_with (go_at_call 30; refine (szStringS_any S a cap HS.out HL.out left h1 h2 _ HA.out).mono ?_; rintro e w1 ⟨r, rfl, q1, q2, q3, hb⟩; have HQ := hid q3; have HB1 : Hid (Below w.heap.size w w1) := ((Below.refl w.heap.size w).alloc (Nat.le_refl _) _).trans (hb.mono (by simp)); clear q3 hb)
  · go_ret
    exact ⟨-1, rfl, by omega, by omega, by omega, HB1.out⟩
  · go_ret
    exact ⟨r, rfl, by omega, by omega, HQ.out, HB1.out⟩
set_option maxRecDepth 20000 in
set_option maxHeartbeats 1000000 in
theorem toEvent_any (t : Int) (S : List ByteArray) (a : Option Addr) (cap : Nat) (hl : S.length ≤ 1048576) (w : World) (hA : ArgT w a S) :
    Calls Tryd.prog 18 #[.agg #[.int .i64 t, .slice a S.length cap]] w fun e w' => ∃ b, e = .returned (.agg #[.int .i64 t, .slice (some ⟨b, 0, none⟩) S.length S.length]) ∧ w.heap.size ≤ b ∧ RowS w' b S ∧ Below w.heap.size w w' := by
  have HA := hid hA
  clear hA
  go_enter Tryd.func18, Tryd.ntmps18
  go_wp2_with (go_at_call 31; refine (toStringS_any S a cap hl _ (HA.out.below (((((Below.refl w.heap.size w).alloc (Nat.le_refl _) _).alloc (by simp) _).alloc (by simp; omega) _)) (Nat.le_refl _))).mono ?_; rintro e w1 ⟨rfl, hR, hb⟩; have HR := hid hR; have HB := hid hb; obtain ⟨hc, hf⟩ := bcell hb; have hz : w.heap.size + 3 ≤ w1.heap.size := (by have := hb.size; simp at this; omega); clear hb hR)
  refine bodyPost_ret (v := .agg #[.int .i64 t, .slice (some ⟨w.heap.size + 3, 0, none⟩) S.length S.length]) (by simp [results, Tryd.results18, go_sem, hc, hf, hz]) rfl ⟨w.heap.size + 3, rfl, by omega, ?_, ?_⟩
  · have HR' : RowS w1 (w.heap.size + 3) S := by simpa using HR.out
    exact World.rowIs.setOther (World.rowIs.setOther (World.rowIs.setOther HR' (by show _ ≠ _; simp) _) (by show _ ≠ _; simp) _) (by show _ ≠ _; simp) _
  · exact ((((((Below.refl w.heap.size w).alloc (Nat.le_refl _) _).alloc (by simp) _).alloc (by simp; omega) _).trans (HB.out.mono (by simp; omega))).setCell (by show _ ≤ _; simp; omega) _).setCell (by show _ ≤ _; simp) _ |>.setCell (by show _ ≤ _; simp) _
set_option maxRecDepth 20000 in
set_option maxHeartbeats 1000000 in
theorem eqEvent_any (t : Int) (S : List ByteArray) (n : Nat) (hn : S.length = n) (a1 a2 : Option Addr) (c1 c2 : Nat) (hl : n ≤ 1048576) (w : World) (h1 : TsAt w a1 S) (h2 : TsAt w a2 S) :
    Calls Tryd.prog 20 #[.agg #[.int .i64 t, .slice a1 n c1], .agg #[.int .i64 t, .slice a2 n c2]] w fun e w' => e = .returned (.bool true) ∧ Below w.heap.size w w' := by
  have HB0 := hid (((Below.refl w.heap.size w).alloc (Nat.le_refl _) (.cells #[.int .i64 t, .slice a1 n c1] 45)).alloc (by simp) (.cells #[.int .i64 t, .slice a2 n c2] 45))
  have H1 := hid (h1.below HB0.out)
  have H2 := hid (h2.below HB0.out)
  have HN := hid hn
  clear h1 h2 hn
  go_enter Tryd.func20, Tryd.ntmps20
  go_wp2_with (go_at_call 32; refine (eqStringS_any S n HN.out a1 a2 c1 c2 hl _ H1.out H2.out).mono ?_; rintro e w1 ⟨rfl, hb⟩; have HB1 := hid (HB0.out.trans (hb.mono (by simp; omega))); clear hb)
  go_ret
  exact ⟨rfl, HB1.out⟩
end Go.Proofs.YtnbegpplbjppoaaDoor
