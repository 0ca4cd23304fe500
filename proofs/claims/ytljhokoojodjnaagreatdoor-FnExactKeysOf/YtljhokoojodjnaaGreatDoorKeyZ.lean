/-
  DERIVED: THE SHELF's CONTRACTS AT THIS DUMP, IN PLAIN WORDS (tools/lay-plain.mjs out of 'YtljhokoojodjnaaGreatDoorIter.lean', which tools/lay-shelf.mjs wrote): THE SAME DECLARATIONS UNDER THE SAME NAMES: 'import', 'namespace', 'open', 'def', 'theorem' AND NOTHING ELSE: no command of the shelf's: FOR A HAND-IN. Each laying: the table of numbers ('.._ren') and one theorem, a field a fact of the dump's own or the kernel's comparison; each contract: ONE APPLICATION.
  strings.Clone, by its contract: the same text; what was there is not turned.
  The laws' marks over rows of texts: eqStringS, markStringS, heldStringS, by their contracts.
  The model's l06Cell, by its contract.
  MonRight, the model's and the program's, by one contract: the loops.
  TableRight, the model's, by its contract.
  Rows of texts that a call owns; the laws' marks over them.
  The keys of a table through a map, sorted: impl.monitorsOf, impl.risingKeys, impl.KeysOf, by their contracts.
  The program's copy of a formula that shares nothing: slices.Clone, own, by their contracts.
  The model's KeysOf, by its contract.
  How much a table weighs, summed: szNodeS, szCellS, szMonitor, szRowS, szTable, by sharper contracts.
  Marks over rows of cells with times: markCellS, heldCellS, by their contracts.
  The laws' marks: heldNodeS by its contract.
  Marks over tables: markNodeS from any mark on, markRowS, markTable, by their contracts.
  The walk of the law FnExactKeysOf.
-/
import Derived.Shelf.SlIter.Nil
import Derived.Shelf.SortM.Plain
import Derived.Shelf.SortM.SortNone
import Derived.Ground.GgzProg
import Derived.Ground.SlgmProg
import Derived.Test.YtljhokoojodjnaaGreatDoorProg
import Derived.Test.YtljhokoojodjnaaGreatDoorSv
import Derived.Laws.IdiomStrings
import Derived.Lib.UnsafeStr
import Derived.Test.YtljhokoojodjnaaGreatDoorMkT
import Derived.Test.YtljhokoojodjnaaGreatDoorMnS1
import Derived.Test.YtljhokoojodjnaaGreatDoorMnS2
import Derived.Test.YtljhokoojodjnaaGreatDoorMnS3
import Derived.Test.YtljhokoojodjnaaGreatDoorMnS4
import Derived.Test.YtljhokoojodjnaaGreatDoorTabY
import Derived.Sort.Walk0
import Derived.Maps.OwnSet
import Derived.Test.YtljhokoojodjnaaGreatDoorInN
import Derived.Test.YtljhokoojodjnaaGreatDoorCkM
import Derived.Test.YtljhokoojodjnaaGreatDoorMarkN
namespace Go.Proofs
open Go.Shelf
def Tryz.keys108_ren : Go.Shelf.Ren := ⟨fun | 7 => 108 | 10 => 142 | n => n, fun | 23 => 83 | 26 => 9 | 3 => 46 | 28 => 142 | 0 => 0 | 27 => 141 | 33 => 81 | 4 => 4 | n => n, fun | n => n⟩
theorem Tryz.keys108 : Go.Proofs.SlLaysZ.n7 Tryz.prog Tryz.keys108_ren := {
  mixed := by kernel_rfl
  f7 := ⟨Tryz.f108.name, by decide, Tryz.func108.trans (congrArg some (by kernel_rfl))⟩
  f10 := ⟨Tryz.f142.name, by decide, Tryz.func142.trans (congrArg some (by kernel_rfl))⟩
  t0 := Tryz.underlying0
  a0 := Tryz.isAgg0
  z0 := Tryz.sizeOf0
  v0 := Tryz.zeroValue0
  t4 := Tryz.underlying4
  a4 := Tryz.isAgg4
  z4 := Tryz.sizeOf4
  v4 := Tryz.zeroValue4
  t23 := Tryz.underlying83
  a23 := Tryz.isAgg83
  z23 := Tryz.sizeOf83
  v23 := Tryz.zeroValue83
  t26 := Tryz.underlying9
  a26 := Tryz.isAgg9
  z26 := Tryz.sizeOf9
  v26 := Tryz.zeroValue9
  t27 := Tryz.underlying141
  a27 := Tryz.isAgg141
  z27 := Tryz.sizeOf141
  v27 := Tryz.zeroValue141
  t28 := Tryz.underlying142
  a28 := Tryz.isAgg142
  z28 := Tryz.sizeOf142
  v28 := Tryz.zeroValue142
  t33 := Tryz.underlying81
  a33 := Tryz.isAgg81
  z33 := Tryz.sizeOf81
  v33 := Tryz.zeroValue81 }
def Tryz.sorted107_ren : Go.Shelf.Ren := ⟨fun | 6 => 107 | 8 => 140 | 9 => 141 | 11 => 173 | 13 => 175 | 12 => 174 | 23 => 201 | 24 => 202 | 14 => 192 | 15 => 193 | 16 => 194 | 17 => 195 | 18 => 196 | 19 => 197 | 20 => 198 | 21 => 199 | 22 => 200 | 25 => 213 | 26 => 214 | 27 => 215 | 28 => 216 | 29 => 217 | 30 => 218 | 31 => 225 | n => n, fun | 26 => 9 | 28 => 142 | 24 => 27 | 0 => 0 | 3 => 3 | 37 => 119 | 48 => 261 | 50 => 116 | 4 => 4 | 40 => 253 | 39 => 252 | 45 => 258 | 5 => 5 | 9 => 9 | 51 => 271 | 55 => 275 | 57 => 281 | 58 => 282 | 33 => 81 | n => n, fun | n => n⟩
theorem Tryz.sorted107 : Go.Proofs.SlLaysZ.n6 Tryz.prog Tryz.sorted107_ren := {
  mixed := by kernel_rfl
  f6 := ⟨Tryz.f107.name, by decide, Tryz.func107.trans (congrArg some (by kernel_rfl))⟩
  f8 := ⟨Tryz.f140.name, by decide, Tryz.func140.trans (congrArg some (by kernel_rfl))⟩
  f11 := ⟨Tryz.f173.name, by decide, Tryz.func173.trans (congrArg some (by kernel_rfl))⟩
  t0 := Tryz.underlying0
  a0 := Tryz.isAgg0
  z0 := Tryz.sizeOf0
  v0 := Tryz.zeroValue0
  t24 := Tryz.underlying27
  a24 := Tryz.isAgg27
  z24 := Tryz.sizeOf27
  v24 := Tryz.zeroValue27
  t26 := Tryz.underlying9
  a26 := Tryz.isAgg9
  z26 := Tryz.sizeOf9
  v26 := Tryz.zeroValue9
  t28 := Tryz.underlying142
  a28 := Tryz.isAgg142
  z28 := Tryz.sizeOf142
  v28 := Tryz.zeroValue142
  i26 := by kernel_rfl }
def Tryz.sort141_ren : Go.Shelf.Ren := ⟨fun | 6 => 141 | 8 => 175 | 9 => 174 | 19 => 201 | 20 => 202 | 21 => 192 | 22 => 193 | 23 => 194 | 24 => 195 | 25 => 196 | 26 => 197 | 27 => 198 | 28 => 199 | 29 => 200 | 36 => 213 | 31 => 214 | 32 => 215 | 37 => 216 | 38 => 217 | 39 => 218 | 41 => 225 | n => n, fun | 27 => 27 | 29 => 9 | 3 => 3 | 32 => 119 | 26 => 27 | 0 => 0 | 44 => 261 | 46 => 116 | 4 => 4 | 36 => 253 | 35 => 252 | 41 => 258 | 5 => 5 | 9 => 9 | 53 => 271 | 57 => 275 | 63 => 281 | 64 => 282 | n => n, fun | n => n⟩
theorem Tryz.sort141 : Go.Proofs.SlLaysM.n6 Tryz.prog Tryz.sort141_ren := {
  mixed := by kernel_rfl
  f6 := ⟨Tryz.f141.name, by decide, Tryz.func141.trans (congrArg some (by kernel_rfl))⟩
  f8 := Tryz.func175.trans (congrArg some (by kernel_rfl))
  f9 := ⟨Tryz.f174.name, by decide, Tryz.func174.trans (congrArg some (by kernel_rfl))⟩
  f19 := Tryz.func201.trans (congrArg some (by kernel_rfl))
  f20 := Tryz.func202.trans (congrArg some (by kernel_rfl))
  f21 := ⟨Tryz.f192.name, by decide, Tryz.func192.trans (congrArg some (by kernel_rfl))⟩
  f22 := ⟨Tryz.f193.name, by decide, Tryz.func193.trans (congrArg some (by kernel_rfl))⟩
  f23 := ⟨Tryz.f194.name, by decide, Tryz.func194.trans (congrArg some (by kernel_rfl))⟩
  f24 := ⟨Tryz.f195.name, by decide, Tryz.func195.trans (congrArg some (by kernel_rfl))⟩
  f25 := ⟨Tryz.f196.name, by decide, Tryz.func196.trans (congrArg some (by kernel_rfl))⟩
  f26 := ⟨Tryz.f197.name, by decide, Tryz.func197.trans (congrArg some (by kernel_rfl))⟩
  f27 := ⟨Tryz.f198.name, by decide, Tryz.func198.trans (congrArg some (by kernel_rfl))⟩
  f28 := ⟨Tryz.f199.name, by decide, Tryz.func199.trans (congrArg some (by kernel_rfl))⟩
  f29 := ⟨Tryz.f200.name, by decide, Tryz.func200.trans (congrArg some (by kernel_rfl))⟩
  f31 := Tryz.func214.trans (congrArg some (by kernel_rfl))
  f32 := Tryz.func215.trans (congrArg some (by kernel_rfl))
  f36 := ⟨Tryz.f213.name, by decide, Tryz.func213.trans (congrArg some (by kernel_rfl))⟩
  f37 := ⟨Tryz.f216.name, by decide, Tryz.func216.trans (congrArg some (by kernel_rfl))⟩
  f38 := ⟨Tryz.f217.name, by decide, Tryz.func217.trans (congrArg some (by kernel_rfl))⟩
  f39 := ⟨Tryz.f218.name, by decide, Tryz.func218.trans (congrArg some (by kernel_rfl))⟩
  f41 := ⟨Tryz.f225.name, by decide, Tryz.func225.trans (congrArg some (by kernel_rfl))⟩
  t0 := Tryz.underlying0
  a0 := Tryz.isAgg0
  z0 := Tryz.sizeOf0
  v0 := Tryz.zeroValue0
  t3 := Tryz.underlying3
  a3 := Tryz.isAgg3
  z3 := Tryz.sizeOf3
  v3 := Tryz.zeroValue3
  t4 := Tryz.underlying4
  a4 := Tryz.isAgg4
  z4 := Tryz.sizeOf4
  v4 := Tryz.zeroValue4
  t5 := Tryz.underlying5
  a5 := Tryz.isAgg5
  z5 := Tryz.sizeOf5
  v5 := Tryz.zeroValue5
  t9 := Tryz.underlying9
  a9 := Tryz.isAgg9
  z9 := Tryz.sizeOf9
  v9 := Tryz.zeroValue9
  t26 := Tryz.underlying27
  a26 := Tryz.isAgg27
  z26 := Tryz.sizeOf27
  v26 := Tryz.zeroValue27
  t27 := Tryz.underlying27
  a27 := Tryz.isAgg27
  z27 := Tryz.sizeOf27
  v27 := Tryz.zeroValue27
  t29 := Tryz.underlying9
  a29 := Tryz.isAgg9
  z29 := Tryz.sizeOf9
  v29 := Tryz.zeroValue9
  t32 := Tryz.underlying119
  a32 := Tryz.isAgg119
  z32 := Tryz.sizeOf119
  v32 := Tryz.zeroValue119
  t35 := Tryz.underlying252
  a35 := Tryz.isAgg252
  z35 := Tryz.sizeOf252
  v35 := Tryz.zeroValue252
  t36 := Tryz.underlying253
  a36 := Tryz.isAgg253
  z36 := Tryz.sizeOf253
  v36 := Tryz.zeroValue253
  t41 := Tryz.underlying258
  a41 := Tryz.isAgg258
  z41 := Tryz.sizeOf258
  v41 := Tryz.zeroValue258
  t44 := Tryz.underlying261
  a44 := Tryz.isAgg261
  z44 := Tryz.sizeOf261
  v44 := Tryz.zeroValue261
  t46 := Tryz.underlying116
  a46 := Tryz.isAgg116
  z46 := Tryz.sizeOf116
  v46 := Tryz.zeroValue116
  t53 := Tryz.underlying271
  a53 := Tryz.isAgg271
  z53 := Tryz.sizeOf271
  v53 := Tryz.zeroValue271
  t57 := Tryz.underlying275
  a57 := Tryz.isAgg275
  z57 := Tryz.sizeOf275
  v57 := Tryz.zeroValue275
  t63 := Tryz.underlying281
  a63 := Tryz.isAgg281
  z63 := Tryz.sizeOf281
  v63 := Tryz.zeroValue281
  t64 := Tryz.underlying282
  a64 := Tryz.isAgg282
  z64 := Tryz.sizeOf282
  v64 := Tryz.zeroValue282 }
end Go.Proofs
namespace Go.Proofs.YtljhokoojodjnaaGreatDoor
open Go.RowKit
set_option linter.unusedVariables false
set_option linter.unusedSimpArgs false

def str (l : List UInt8) : ByteArray := ⟨l.toArray⟩
def bV (b : UInt8) : Value := .int .u8 (b.toNat : Int)
theorem Tryz.infoU8 : (Tryz.prog.info? 5).map (fun i => (i.zero, i.size, i.bytes)) = some (some (.int .u8 0), 1, 1) := by kernel_rfl
/-- A row of bytes of the call's own: block B, of which the first bytes are p. -/
def Row (w : World) (B n : Nat) (T : TypeId) (p : List UInt8) : Prop := ∃ cur, w.heap[B]? = some (.cells cur T (0, 0)) ∧ cur.size = n ∧ cur.toList.take p.length = p.map bV
theorem addr_add (g j : Nat) : (⟨g, 0, none⟩ : Addr).add j = ⟨g, j, none⟩ := by
  simp only [Addr.add]
  split
  · simp_all
  · simp
theorem Tryz.sizeU8 (w : World) : (sizeOf 5).run Tryz.prog w = .ok 1 w := by kernel_rfl
theorem copyCells (s : ByteArray) : List.take s.size (List.map (fun b : UInt8 => Value.int IntKind.u8 (b.toNat : Int)) s.data.toList) = s.data.toList.map bV := by
  rw [List.take_of_length_le (by rw [List.length_map]; exact Nat.le_refl _)]
  rfl
theorem Row.copy {w : World} {B n : Nat} {p : List UInt8} (h : Row w B n 5 p) (s : ByteArray) (dLen dCap : Nat) (hfit : p.length + s.size ≤ n) (hle : s.size ≤ dLen) :
    ∃ w2, (∀ ty, (Builtin.copy_ #[22, 9] ty #[.slice (some ⟨B, p.length, none⟩) dLen dCap, .string s]).run Tryz.prog w = .ok (goInt s.size) w2) ∧ Row w2 B n 5 (p ++ s.data.toList) ∧ (∀ B0 w0, B0 ≤ B → Below B0 w0 w → Below B0 w0 w2) := by
  obtain ⟨cur, hb, hs, ht⟩ := h
  have hl : (s.data.toList.map bV).length = s.size := by rw [List.length_map]; rfl
  have hst := run_storeCells_at (P := Tryz.prog) B p.length 5 (s.data.toList.map bV) 0 cur w hb (by rw [hl]; omega) (by
    intro v hv
    obtain ⟨b, _, rfl⟩ := List.mem_map.1 hv
    rfl)
  rw [hl] at hst
  simp only [Nat.add_zero] at hst
  refine ⟨w.setRow B (cur.toList.take p.length ++ s.data.toList.map bV ++ cur.toList.drop (p.length + s.size)).toArray, ?_, ⟨_, setRow_heap w B cur _ 5 (0, 0) hb, ?_, ?_⟩, fun B0 w0 hB hbel => hbel.trans ⟨rfl, rfl, rfl, by simp [World.setRow], fun k hk => setRow_other w B k _ (by omega)⟩⟩
  · intro ty
    have hmin : Nat.min s.size dLen = s.size := Nat.min_eq_left hle
    simp [Builtin.copy_, run_underlying Tryz.underlying22, Builtin.lenOf, Builtin.firstCells, hmin]
    rw [copyCells, hst]
    simp [Result.andThen]
  · have h5 : s.data.toList.length = s.size := rfl
    simp [hs]
    have : s.data.size = s.size := rfl
    omega
  · have h5 : s.data.toList.length = s.size := rfl
    rw [ht, List.toList_toArray, List.length_append, h5]
    rw [List.take_append_of_le_length (by simp)]
    rw [List.take_of_length_le (by simp)]
    simp
theorem str_self (a : ByteArray) : str a.data.toList = a := by
  apply ByteArray.ext
  simp [str]
theorem Tryz.cellsU8 : Tryz.prog.cellsOf 5 = 1 := by kernel_rfl
theorem Row.unsafeText {w : World} {B n : Nat} {s : ByteArray} (h : Row w B n 5 s.data.toList) (hp : 0 < s.size) (hn : s.size ≤ n) (h63 : s.size ≤ 9223372036854775807) (ty : TypeId) :
    (Builtin.unsafeString_ #[182, 3] ty #[.pointer (some ⟨B, 0, none⟩), .int .i64 s.size]).run Tryz.prog w = .ok (.string s) (w.freeze ⟨B, 0, none⟩ s.size) := by
  obtain ⟨cur, hb, hs, ht⟩ := h
  have hsz : s.data.toList.length = s.size := rfl
  have hr := Lib.run_unsafeString_row (P := Tryz.prog) w 182 3 ty 5 Tryz.underlying182 Tryz.cellsU8 B n (by simp [World.shape?, hb, hs]) s.data.toList (by intro h0; rw [h0] at hsz; simp at hsz; omega) (by rw [hsz]; exact hn) (by rw [hsz]; exact h63) (by
    intro j x hj
    have hj' : j < s.data.toList.length := (List.getElem?_eq_some_iff.1 hj).1
    rw [addr_add, cell_of_row w B j cur 5 (0, 0) hb]
    have h1 : (cur.toList.take s.data.toList.length)[j]? = (s.data.toList.map bV)[j]? := by rw [ht]
    rw [List.getElem?_take, if_pos hj', List.getElem?_map, hj] at h1
    simpa [bV] using h1)
  rw [hsz] at hr
  rw [hr]

set_option maxHeartbeats 1000000 in
set_option maxRecDepth 100000 in
theorem clone_any (s : ByteArray) (hs : s.size ≤ 10000) (w : World) :
    Calls Tryz.prog 52 #[.string s] w fun e w' => e = .returned (.string s) ∧ Below w.heap.size w w' := by
  by_cases h0 : s.size = 0
  · obtain rfl : s = ByteArray.empty := ByteArray.size_eq_zero_iff.1 h0
    go_enter Tryz.func52, Tryz.ntmps52
    go_wp2
    go_ret
    exact ⟨rfl, Below.refl _ _⟩
  · obtain ⟨i0, hi, hz0, hz1, hz2⟩ := info_parts Tryz.infoU8
    have hp : 0 < s.size := by omega
    go_enter Tryz.func52, Tryz.ntmps52
    go_wp2_with (first | go_in | (at_make; refine wpList_make_full _ rfl (.tmp 8) (.tmp 8) 22 rfl w.heap.size 5 i0 (.int .u8 0) 1 Tryz.underlying22 hi hz0 hz1 .i64 .i64 _ _ s.size rfl rfl rfl rfl ?b2 ?b3 ?b4 ?_))
    case b2 => rw [hz2]; omega
    case b3 => unfold maxLen; omega
    case b4 => exact Nat.le_refl _
    intro w1 hown hgrow
    have hrow : Row w1 w.heap.size s.size 5 [] := by
      rcases hown.2 with ⟨h', _⟩ | ⟨g', cap', cur, h', _, hg, _, _, hcs, _⟩
      · simp at h'
      · simp only [Value.slice.injEq, Option.some.injEq, Addr.mk.injEq, and_true, true_and] at h'
        obtain ⟨rfl, rfl⟩ := h'
        exact ⟨cur, hg, by omega, rfl⟩
    have hbel : Below w.heap.size w w1 := (Below.refl _ _).grown hgrow (Nat.le_refl _) (by simp)
    obtain ⟨w2, hc1, hrow2, hb2⟩ := hrow.copy s s.size s.size (by simp) (Nat.le_refl _)
    have hbel2 := hb2 _ _ (Nat.le_refl _) hbel
    simp only [List.length_nil, List.nil_append] at hc1 hrow2
    have hus := fun ty => hrow2.unsafeText hp (Nat.le_refl _) (by omega) ty
    have HB : Hid (Below w.heap.size w (w2.freeze ⟨w.heap.size, 0, none⟩ s.size)) := Lib.below_freeze hbel2 (Nat.le_refl _) _
    clear hown hgrow hrow hbel hb2 hrow2 hbel2
    go_wp2
    go_ret
    exact ⟨rfl, HB.out⟩
end Go.Proofs.YtljhokoojodjnaaGreatDoor
namespace Go.Proofs.YtljhokoojodjnaaGreatDoor
open Go.RowKit
set_option linter.unusedVariables false
set_option linter.unusedSimpArgs false
def txAt (S : List ByteArray) (i : Nat) : ByteArray := S.getD i ByteArray.empty
/-- A row of texts lies in a block. -/
def StrsAt (w : World) (b : Nat) (S : List ByteArray) : Prop := b < w.heap.size ∧ ∀ i, i < S.length → w.cell? ⟨b, i, none⟩ = some (.string (txAt S i))
/-- A slice of texts, of which nothing is asked where it is empty. -/
def TsAt (w : World) (a : Option Addr) (S : List ByteArray) : Prop := S.length = 0 ∨ ∃ b, a = some ⟨b, 0, none⟩ ∧ StrsAt w b S
def RowT (w : World) (a : Option Addr) (n : Nat) : Prop := n = 0 ∨ ∃ b z, a = some ⟨b, 0, none⟩ ∧ w.rowIs b 9 n z
theorem TsAt.save {w w' : World} {a : Option Addr} {S : List ByteArray} {T : Nat → Prop} (h : TsAt w a S) (hs : Save w w' T) (hT : ∀ b, a = some ⟨b, 0, none⟩ → ¬ T b) : TsAt w' a S :=
  h.imp id (fun ⟨b, e, h1, h2⟩ => ⟨b, e, Nat.lt_of_lt_of_le h1 hs.size, fun i hi => (hs.cell (p := ⟨b, i, none⟩) h1 (hT b e)).trans (h2 i hi)⟩)
theorem TsAt.below {w w' : World} {a : Option Addr} {S : List ByteArray} (h : TsAt w a S) (hb : Below w.heap.size w w') : TsAt w' a S :=
  h.imp id (fun ⟨b, e, h1, h2⟩ => ⟨b, e, Nat.lt_of_lt_of_le h1 hb.size, fun i hi => (hb.cell (p := ⟨b, i, none⟩) h1).trans (h2 i hi)⟩)
theorem RowT.below {w w' : World} {a : Option Addr} {n : Nat} (h : RowT w a n) (hb : Below w.heap.size w w') : RowT w' a n :=
  h.imp id (fun ⟨b, z, e, hr⟩ => ⟨b, z, e, hr.of_block (hb.block b hr.lt)⟩)
theorem RowT.save {w w' : World} {a : Option Addr} {n : Nat} {T : Nat → Prop} (h : RowT w a n) (hs : Save w w' T) (hT : ∀ b, a = some ⟨b, 0, none⟩ → ¬ T b) : RowT w' a n :=
  h.imp id (fun ⟨b, z, e, hr⟩ => ⟨b, z, e, hr.of_block (hs.block b hr.lt (hT b e))⟩)
set_option maxRecDepth 20000 in
set_option maxHeartbeats 1000000 in
theorem eqStringS_any (S : List ByteArray) (n : Nat) (hn : S.length = n) (a1 a2 : Option Addr) (c1 c2 : Nat) (hl : n ≤ 1048576) (w : World) (h1 : TsAt w a1 S) (h2 : TsAt w a2 S) :
    Calls Tryz.prog 35 #[.slice a1 n c1, .slice a2 n c2] w fun e w' => e = .returned (.bool true) ∧ Below w.heap.size w w' := by
  subst hn
  have H1 := hid h1
  have H2 := hid h2
  clear h1 h2
  go_enter Tryz.func35, Tryz.ntmps35
  go_wp2_with fail
  go_loopw [5] (fun t wr => ∃ k : Nat, k ≤ S.length ∧ t = .int .i64 k ∧ Below w.heap.size w wr) (fun t _ => S.length - (intOf t).toNat)
  case atStart => exact ⟨0, Nat.zero_le _, rfl, Below.refl _ _⟩
  case round =>
    obtain ⟨k, hk, rfl, hbel⟩ := hrel
    have HB := hid hbel
    have hsz := hbel.size
    clear hbel
    by_cases hlt : k < S.length
    · rcases H1.out with h0 | ⟨b1, rfl, hb1, hc1⟩
      · omega
      rcases H2.out with h0 | ⟨b2, rfl, hb2, hc2⟩
      · omega
      have d1 := (HB.out.cell (p := ⟨b1, k, none⟩) hb1).trans (hc1 k hlt)
      have d2 := (HB.out.cell (p := ⟨b2, k, none⟩) hb2).trans (hc2 k hlt)
      clear hc1 hc2
      generalize txAt S k = t at *
      have ht : (t.toList == t.toList) = true := by simp
      go_wp2_with fail
      all_goals
        go_region
      all_goals
        go_wp2_with fail
        go_roundw
        case rel => exact ⟨k + 1, by omega, by go_num, below_drewN HB.out _⟩
        case measure => simp [intOf]; omega
    · go_wp2_with fail
      go_ret
      exact ⟨rfl, HB.out⟩
def markT (k n : Nat) : List ByteArray := (List.range n).map fun i => mtS (k + i)
theorem markT_len (k n : Nat) : (markT k n).length = n := by simp [markT]
theorem markT_at (k n i : Nat) (h : i < n) : txAt (markT k n) i = mtS (k + i) := by simp [txAt, markT, h]
def rowT (S : List ByteArray) (z : Nat → Value) (k j : Nat) : Value := if j < k then .string (txAt S j) else z j
theorem rowT_step (S : List ByteArray) (z : Nat → Value) (k j : Nat) : rowT S z (k + 1) j = if j = k then .string (txAt S k) else rowT S z k j := by
  unfold rowT
  by_cases e : j = k
  · subst e; simp
  · by_cases h : j < k
    · rw [if_pos (by omega), if_neg e, if_pos h]
    · rw [if_neg (by omega), if_neg e, if_neg h]
theorem rowT_strs {w : World} {b : Nat} {S : List ByteArray} {z : Nat → Value} (h : w.rowIs b 9 S.length (rowT S z S.length)) : StrsAt w b S :=
  ⟨h.lt, fun i hi => by rw [h.cell hi]; unfold rowT; rw [if_pos hi]⟩
set_option maxRecDepth 20000 in
set_option maxHeartbeats 1000000 in
theorem markStringS_any (n : Nat) (a : Option Addr) (c : Nat) (hn : n ≤ 1048576) (w : World) (h : RowT w a n) :
    Calls Tryz.prog 36 #[.slice a n c, .int .i64 1] w fun e w' => e = .returned (.int .i64 (1 + n : Nat)) ∧ TsAt w' a (markT 1 n) ∧ Save w w' (OfT a) := by
  rcases h with rfl | ⟨b, z, rfl, h⟩
  · go_enter Tryz.func36, Tryz.ntmps36
    go_wp2_with fail
    go_loopw [1, 5] (fun t s wr => t = .int .i64 1 ∧ s = .int .i64 0 ∧ w = wr) (fun _ _ _ => 0)
    case atStart => exact ⟨rfl, rfl, rfl⟩
    case round =>
      obtain ⟨rfl, rfl, rfl⟩ := hrel
      go_wp2_with fail
      go_ret
      exact ⟨rfl, Or.inl rfl, Save.refl _ _⟩
  · have HR0 := hid (h.congr (fun j hj => (show z j = rowT (markT 1 n) z 0 j by simp [rowT])))
    have hbl := h.lt
    clear h
    go_enter Tryz.func36, Tryz.ntmps36
    go_wp2_with fail
    go_loopw [1, 5] (fun t s wr => ∃ k : Nat, k ≤ n ∧ t = .int .i64 (1 + k : Nat) ∧ s = .int .i64 k ∧ wr.rowIs b 9 n (rowT (markT 1 n) z k) ∧ Save w wr (OfT (some ⟨b, 0, none⟩))) (fun _ s _ => n - (intOf s).toNat)
    case atStart => exact ⟨0, Nat.zero_le _, rfl, rfl, HR0.out, Save.refl _ _⟩
    case round =>
      clear HR0
      obtain ⟨k, hk, rfl, rfl, hrow, hsv⟩ := hrel
      have HS := hid hsv
      have HRow := hid hrow
      have hsz := hrow.lt
      clear hrow hsv
      by_cases hlt : k < n
      · go_wp2_with fail
        refine (markText_int _ (1 + k) (by push_cast; omega) (by omega) (by omega) _).mono ?_
        rintro e w1 ⟨rfl, hb1⟩
        have HR1 := hid (HRow.out.of_block (hb1.block b hsz))
        have HS1 := hid (HS.out.trans (Save.of_below hb1 _ (fun j h1 h2 => absurd h1 (by omega))))
        have d5 := HR1.out.cell (i := k) hlt
        have f5 := HR1.out.frozen k
        clear hb1
        go_wp2_with fail
        go_roundw
        case rel =>
          refine ⟨k + 1, by omega, by simp; omega, by go_num, (HR1.out.set k _).congr (fun j hj => ?_), HS1.out.setCell (p := ⟨b, k, none⟩) (fun _ => ⟨_, rfl, rfl⟩) _⟩
          rw [rowT_step, markT_at _ _ _ hlt]
        case measure => simp [intOf]; omega
      · have hk' : k = n := by omega
        subst hk'
        go_wp2_with fail
        go_ret
        exact ⟨rfl, Or.inr ⟨b, rfl, @rowT_strs _ b (markT 1 k) z (by rw [markT_len]; exact HRow.out)⟩, HS.out⟩
set_option maxRecDepth 20000 in
set_option maxHeartbeats 1000000 in
theorem heldStringS_any (n : Nat) (a : Option Addr) (c : Nat) (hn : n ≤ 1048576) (w : World) (h : TsAt w a (markT 1 n)) :
    Calls Tryz.prog 37 #[.slice a n c, .int .i64 1] w fun e w' => e = .returned (.int .i64 (1 + n : Nat)) ∧ Below w.heap.size w w' := by
  have H := hid h
  clear h
  go_enter Tryz.func37, Tryz.ntmps37
  go_wp2_with fail
  go_loopw [1, 5] (fun t s wr => ∃ k : Nat, k ≤ n ∧ t = .int .i64 (1 + k : Nat) ∧ s = .int .i64 k ∧ Below w.heap.size w wr) (fun _ s _ => n - (intOf s).toNat)
  case atStart => exact ⟨0, Nat.zero_le _, rfl, rfl, Below.refl _ _⟩
  case round =>
    obtain ⟨k, hk, rfl, rfl, hbel⟩ := hrel
    have HB := hid hbel
    have hsz := hbel.size
    clear hbel
    by_cases hlt : k < n
    · rcases H.out with h0 | ⟨b, rfl, hb, hc⟩
      · rw [markT_len] at h0; omega
      have d5 := (HB.out.cell (p := ⟨b, k, none⟩) hb).trans (hc k (by rw [markT_len]; exact hlt))
      rw [markT_at _ _ _ hlt] at d5
      have hbl : b < wr.heap.size := Nat.lt_of_lt_of_le hb hsz
      clear hc
      go_wp2_with fail
      go_region_with (go_at_call 86; refine (markText_int _ (1 + k) (by push_cast; omega) (by omega) (by omega) _).mono ?_; rintro e w1 ⟨rfl, hb1⟩; have HB1 : Hid (Below w.heap.size w w1) := HB.out.trans (Below.mono ⟨hb1.os, hb1.tape, hb1.output, hb1.size, hb1.block⟩ hsz); have d6 := (hb1.cell (p := ⟨b, k, none⟩) hbl).trans d5; clear hb1)
      all_goals
        go_wp2_with fail
        go_roundw
        case rel => exact ⟨k + 1, by omega, by simp; omega, by go_num, HB1.out⟩
        case measure => simp [intOf]; omega
    · have hk' : k = n := by omega
      subst hk'
      go_wp2_with fail
      go_ret
      exact ⟨rfl, HB.out⟩
end Go.Proofs.YtljhokoojodjnaaGreatDoor
namespace Go.Proofs.YtljhokoojodjnaaGreatDoor
open Go.RowKit
set_option linter.unusedVariables false
set_option linter.unusedSimpArgs false
theorem cellS_is (f : List Nd) (fb fc : Nat) (cnt now : Int) (h0 : 0 ≤ cnt) (C : List Cl) (cb co cc : Nat) (i : Nat) (hi : i < f.length) (hi2 : i < C.length) (hl : C.length ≤ 1048576) (hlf : f.length ≤ 1048576) (hlt : (clAt C i).ts.length ≤ 2000000) (v : Bool) (hv : cellB cnt now (ndAt f i) (clAt C i) = v) (w : World) (hN : NodeAt w fb (i * 6) (ndAt f i)) (hfb : fb < w.heap.size) (hC : CkAt w cb (co + i * 4) (clAt C i)) (hcb : cb < w.heap.size) :
    Calls Tryz.prog 115 #[.agg #[.slice (some ⟨fb, 0, none⟩) f.length fc, .int .i64 cnt, .int .i64 now, .slice (some ⟨cb, co, none⟩) C.length cc], .int .i64 i] w fun e w' => e = .returned (.bool v) ∧ Below w.heap.size w w' := by
  rcases Bool.eq_false_or_eq_true (wasB cnt (ndAt f i) (clAt C i).was) with hw | hw
  · rcases Bool.eq_false_or_eq_true (keepsK (ndAt f i).k) with hk | hk
    · rw [cellB_keeps cnt now _ _ hk, hw] at hv
      rcases Bool.eq_false_or_eq_true (krB (clAt C i).lo (clAt C i).hi (clAt C i).ts) with hkr | hkr
      · rcases Bool.eq_false_or_eq_true ((clAt C i).lo == (ndAt f i).lo) with e1 | e1
        · rcases Bool.eq_false_or_eq_true ((clAt C i).hi == (ndAt f i).hi) with e2 | e2
          · rw [hkr, e1, e2] at hv
            by_cases hn0 : (clAt C i).ts.length = 0
            · obtain rfl : true = v := by rw [← hv]; simp [hn0]
              exact cellS_6 f fb fc cnt now h0 C cb co cc i hi hi2 hl hlf hlt hw hk hkr e1 e2 hn0 w hN hfb hC hcb
            · by_cases hc : cnt = 0
              · obtain rfl : false = v := by rw [← hv]; simp [hn0, hc]
                exact cellS_7 f fb fc cnt now h0 C cb co cc i hi hi2 hl hlf hlt hw hk hkr e1 e2 (by omega) hc w hN hfb hC hcb
              · have hv2 : decide (lastT (clAt C i).ts ≤ now) = v := by rw [← hv]; simp [hn0, show 0 < cnt by omega]
                exact cellS_8 f fb fc cnt now h0 C cb co cc i hi hi2 hl hlf hlt hw hk hkr e1 e2 (by omega) (by omega) v hv2 w hN hfb hC hcb
          · obtain rfl : false = v := by rw [← hv, e2]; simp
            exact cellS_5 f fb fc cnt now h0 C cb co cc i hi hi2 hl hlf hlt hw hk hkr e1 e2 w hN hfb hC hcb
        · obtain rfl : false = v := by rw [← hv, e1]; simp
          exact cellS_4 f fb fc cnt now h0 C cb co cc i hi hi2 hl hlf hlt hw hk hkr e1 w hN hfb hC hcb
      · obtain rfl : false = v := by rw [← hv, hkr]; rfl
        exact cellS_3 f fb fc cnt now h0 C cb co cc i hi hi2 hl hlf hlt hw hk hkr w hN hfb hC hcb
    · rw [cellB_not cnt now _ _ hk, hw, Bool.true_and] at hv
      exact cellS_2 f fb fc cnt now h0 C cb co cc i hi hi2 hl hlf hlt hw hk v hv w hN hfb hC hcb
  · obtain rfl : false = v := by rw [← hv]; unfold cellB; rw [hw]; rfl
    exact cellS_1 f fb fc cnt now h0 C cb co cc i hi hi2 hl hlf hlt hw w hN hfb hC hcb
end Go.Proofs.YtljhokoojodjnaaGreatDoor
namespace Go.Proofs.YtljhokoojodjnaaGreatDoor
open Go.RowKit
set_option linter.unusedVariables false
set_option linter.unusedSimpArgs false
set_option maxRecDepth 20000 in
set_option maxHeartbeats 4000000 in
theorem specMon_any (f : List Nd) (fb fc : Nat) (cnt now : Int) (C : List Cl) (ca : Option Addr) (cc : Nat) (v : Bool) (hv : monB f cnt now C = v) (w : World) (hM : MonIn w fb f ca C) :
    Calls Tryz.prog 69 #[moV (some ⟨fb, 0, none⟩) f.length fc cnt now ca C.length cc] w fun e w' => e = .returned (.bool v) ∧ Below w.heap.size w w' := by
  have HV := hid hv
  have HM := hid hM
  have HB0 := hid (below_one' w (.cells #[.slice (some ⟨fb, 0, none⟩) f.length fc, .int .i64 cnt, .int .i64 now, .slice ca C.length cc] 46))
  have HX0 := hid (MBox.new w (some ⟨fb, 0, none⟩) f.length fc cnt now ca C.length cc 46)
  have HFr : Hid (∀ b, rightB f = b → ∀ w, NodesAt w fb f → Calls Tryz.prog 62 #[.slice (some ⟨fb, 0, none⟩) f.length fc] w fun e w' => e = .returned (.bool b) ∧ Below w.heap.size w w') := fun b hb w h => by subst hb; exact specRight_any f fb fc w h (fun i hi => (HM.out.ok i hi).nm) (lf_max HM.out.lf)
  have hlf := hM.lf
  have hlc := hM.lc
  unfold moV
  clear hv hM
  rcases Bool.eq_false_or_eq_true (rightB f) with hr | hr
  · have HF := hid (HFr.out true hr)
    clear HFr
    rcases Bool.eq_false_or_eq_true (timeB cnt) with ht | ht
    · have HT1 := hid (fun w => timeS_is cnt true ht w)
      rcases Bool.eq_false_or_eq_true (timeB now) with ht2 | ht2
      · have HT2 := hid (fun w => timeS_is now true ht2 w)
        have hcase : (cnt == 0) = true ∧ (now != 0) = true ∨ ((cnt == 0) && (now != 0)) = false ∧ ((cnt == 0) = false ∨ ((cnt == 0) = true ∧ (now != 0) = false)) := by cases (cnt == 0) <;> cases (now != 0) <;> simp
        rcases hcase with ⟨hz1, hz2⟩ | ⟨hzz, hz⟩
        · have HVF := hid (HV.out.symm.trans (monB_zero (by rw [hz1, hz2]; rfl)))
          clear HV hr ht ht2
          go_enter Tryz.func69, Tryz.ntmps69
          go_wp2_with (first | (go_at_call 62; refine (HF.out _ (HM.out.on HB0.out).nodes).mono ?_; rintro e w1 ⟨rfl, hb1⟩; have HB1 := hid (HB0.out.trans (hb1.mono HB0.out.size)); obtain ⟨_, m0, m1, m2, m3⟩ := HX0.out.on hb1; clear hb1) | (go_at_call 101; first | (refine (HT1.out _).mono ?_; rintro e w' ⟨rfl, rfl⟩) | (refine (HT2.out _).mono ?_; rintro e w' ⟨rfl, rfl⟩)))
          go_ret
          exact ⟨ret_bool HVF.out.symm, HB1.out⟩
        · by_cases hle : C.length = f.length
          · have HVC := hid (HV.out.symm.trans (monB_cells hr hle ht ht2 hzz))
            have h0 := (timeB_not ht).1
            have hne : ((C.length : Int) != (f.length : Int)) = false := by simp [hle]
            have HLe := hid hle
            clear HV hr ht ht2 hzz hle
            rcases hz with hz | ⟨hz, hz2⟩
            all_goals
              go_enter Tryz.func69, Tryz.ntmps69
              go_wp2_with (first | (go_at_call 62; refine (HF.out _ (HM.out.on HB0.out).nodes).mono ?_; rintro e w1 ⟨rfl, hb1⟩; have HB1 := hid (HB0.out.trans (hb1.mono HB0.out.size)); have HX1 := hid (HX0.out.on hb1); obtain ⟨_, m0, m1, m2, m3⟩ := HX1.out; clear hb1) | (go_at_call 101; first | (refine (HT1.out _).mono ?_; rintro e w' ⟨rfl, rfl⟩) | (refine (HT2.out _).mono ?_; rintro e w' ⟨rfl, rfl⟩)))
              clear m0 m1 m2 m3
              go_loopw [3] (fun t wr => ∃ k : Nat, k ≤ C.length ∧ t = .int .i64 k ∧ cellsTo f cnt now C k = true ∧ Below w1.heap.size w1 wr) (fun t _ => C.length - (intOf t).toNat)
              case atStart => exact ⟨0, Nat.zero_le _, rfl, rfl, Below.refl _ _⟩
              case round =>
                obtain ⟨k, hk, rfl, hg, hbel⟩ := hrel
                have HG := hid hg
                have HBr := hid hbel
                have HBE := hid (HB1.out.trans (hbel.mono HB1.out.size))
                obtain ⟨hq, m0, m1, m2, m3⟩ := HX1.out.on hbel
                clear hg hbel
                by_cases hlt : k < C.length
                · have HMr := hid (HM.out.on HBE.out)
                  rcases HMr.out.cells with hz0 | ⟨cb, co, rfl, hcb, hcells⟩
                  · omega
                  have HNk := hid (HMr.out.nodes.2 k (by have := HLe.out; omega))
                  have HCk := hid (hcells k hlt)
                  have hfb := HMr.out.nodes.1
                  have HC : Hid (∀ b, cellB cnt now (ndAt f k) (clAt C k) = b → Calls Tryz.prog 115 #[.agg #[.slice (some ⟨fb, 0, none⟩) f.length fc, .int .i64 cnt, .int .i64 now, .slice (some ⟨cb, co, none⟩) C.length cc], .int .i64 k] wr fun e w' => e = .returned (.bool b) ∧ Below wr.heap.size wr w') := fun b hb => cellS_is f fb fc cnt now h0 C cb co cc k (by have := HLe.out; omega) hlt hlc hlf (HMr.out.lt k hlt) b hb wr HNk.out hfb HCk.out hcb
                  have HSu := hid (cellsTo_succ f cnt now C k)
                  clear hcells hfb hcb
                  rcases Bool.eq_false_or_eq_true (cellB cnt now (ndAt f k) (clAt C k)) with hcb | hcb
                  · have HC1 := hid (HC.out true hcb)
                    have HS2 : Hid (cellsTo f cnt now C (k + 1) = true) := by show cellsTo f cnt now C (k + 1) = true; rw [HSu.out, HG.out, hcb]; rfl
                    clear HC hcb
                    go_wp2_with (go_at_call 115; refine HC1.out.mono ?_; rintro e w2 ⟨rfl, hb2⟩; have HB2 := hid (HBr.out.trans (hb2.mono HBr.out.size)); clear hb2)
                    go_roundw
                    case rel => exact ⟨k + 1, by omega, by go_num, HS2.out, HB2.out⟩
                    case measure => simp [intOf]; omega
                  · have HC1 := hid (HC.out false hcb)
                    have HVF := hid (HVC.out.trans (cellsTo_false f cnt now C k _ (by have := HLe.out; omega) hcb))
                    clear HC hcb
                    go_wp2_with (go_at_call 115; refine HC1.out.mono ?_; rintro e w2 ⟨rfl, hb2⟩; have HB2 := hid (HBE.out.trans (hb2.mono HBE.out.size)); clear hb2)
                    go_ret
                    exact ⟨ret_bool HVF.out.symm, HB2.out⟩
                · have hk' : k = C.length := by omega
                  subst hk'
                  go_wp2_with fail
                  go_ret
                  exact ⟨ret_bool (by rw [HVC.out, ← HLe.out, HG.out]), HBE.out⟩
          · have HVF := hid (HV.out.symm.trans (monB_len hle))
            have hne : ((C.length : Int) != (f.length : Int)) = true := by simp; omega
            clear HV hr ht ht2 hle
            rcases hz with hz | ⟨hz, hz2⟩
            all_goals
              go_enter Tryz.func69, Tryz.ntmps69
              go_wp2_with (first | (go_at_call 62; refine (HF.out _ (HM.out.on HB0.out).nodes).mono ?_; rintro e w1 ⟨rfl, hb1⟩; have HB1 := hid (HB0.out.trans (hb1.mono HB0.out.size)); obtain ⟨_, m0, m1, m2, m3⟩ := HX0.out.on hb1; clear hb1) | (go_at_call 101; first | (refine (HT1.out _).mono ?_; rintro e w' ⟨rfl, rfl⟩) | (refine (HT2.out _).mono ?_; rintro e w' ⟨rfl, rfl⟩)))
              go_ret
              exact ⟨ret_bool HVF.out.symm, HB1.out⟩
      · have HT2 := hid (fun w => timeS_is now false ht2 w)
        have HVF := hid (HV.out.symm.trans (monB_now ht2))
        clear HV hr ht ht2
        go_enter Tryz.func69, Tryz.ntmps69
        go_wp2_with (first | (go_at_call 62; refine (HF.out _ (HM.out.on HB0.out).nodes).mono ?_; rintro e w1 ⟨rfl, hb1⟩; have HB1 := hid (HB0.out.trans (hb1.mono HB0.out.size)); obtain ⟨_, m0, m1, m2, m3⟩ := HX0.out.on hb1; clear hb1) | (go_at_call 101; first | (refine (HT1.out _).mono ?_; rintro e w' ⟨rfl, rfl⟩) | (refine (HT2.out _).mono ?_; rintro e w' ⟨rfl, rfl⟩)))
        go_ret
        exact ⟨ret_bool HVF.out.symm, HB1.out⟩
    · have HT1 := hid (fun w => timeS_is cnt false ht w)
      have HVF := hid (HV.out.symm.trans (monB_cnt ht))
      clear HV hr ht
      go_enter Tryz.func69, Tryz.ntmps69
      go_wp2_with (first | (go_at_call 62; refine (HF.out _ (HM.out.on HB0.out).nodes).mono ?_; rintro e w1 ⟨rfl, hb1⟩; have HB1 := hid (HB0.out.trans (hb1.mono HB0.out.size)); obtain ⟨_, m0, m1, m2, m3⟩ := HX0.out.on hb1; clear hb1) | (go_at_call 101; refine (HT1.out _).mono ?_; rintro e w' ⟨rfl, rfl⟩))
      go_ret
      exact ⟨ret_bool HVF.out.symm, HB1.out⟩
  · have HF := hid (HFr.out false hr)
    have HVF := hid (HV.out.symm.trans (monB_right hr))
    clear HFr HV hr
    go_enter Tryz.func69, Tryz.ntmps69
    go_wp2_with (go_at_call 62; refine (HF.out _ (HM.out.on HB0.out).nodes).mono ?_; rintro e w1 ⟨rfl, hb1⟩; have HB1 := hid (HB0.out.trans (hb1.mono HB0.out.size)); obtain ⟨_, m0, m1, m2, m3⟩ := HX0.out.on hb1; clear hb1)
    go_ret
    exact ⟨ret_bool HVF.out.symm, HB1.out⟩
end Go.Proofs.YtljhokoojodjnaaGreatDoor
namespace Go.Proofs.YtljhokoojodjnaaGreatDoor
open Go.RowKit
set_option linter.unusedVariables false
set_option linter.unusedSimpArgs false
set_option maxRecDepth 20000 in
set_option maxHeartbeats 16000000 in
theorem specTab_any (f : List Nd) (fb fc : Nat) (cap : Int) (R : List Rw) (ra : Option Addr) (rc : Nat) (v : Bool) (hv : tabB f cap R = v) (w : World) (hT : TabIn w fb f ra R) :
    Calls Tryz.prog 20 #[tbV (some ⟨fb, 0, none⟩) f.length fc cap ra R.length rc] w fun e w' => e = .returned (.bool v) ∧ Below w.heap.size w w' := by
  have HV := hid hv
  have HT := hid hT
  have HB0 := hid (below_one' w (.cells #[.slice (some ⟨fb, 0, none⟩) f.length fc, .int .i64 cap, .slice ra R.length rc] 26))
  have HX0 := hid (TBox.new w (some ⟨fb, 0, none⟩) f.length fc cap ra R.length rc 26)
  have HFr := hid (fun b (hb : rightB f = b) w' (h : Below w.heap.size w w') => show Calls Tryz.prog 62 #[.slice (some ⟨fb, 0, none⟩) f.length fc] w' fun e w'' => e = .returned (.bool b) ∧ Below w'.heap.size w' w'' from by subst hb; exact specRight_any f fb fc w' (HT.out.nodes.below h HT.out.nodes.1) (fun i hi => (HT.out.ok i hi).nm) (lf_max HT.out.lf))
  have HCp := hid (fun v (h : capB cap = v) w => capS_any cap v h w)
  have hlr := hT.lr
  have hlf := hT.lf
  unfold tbV
  clear hv hT
  rcases Bool.eq_false_or_eq_true (rightB f) with hr | hr
  · have HF := hid (HFr.out true hr)
    rcases Bool.eq_false_or_eq_true (capB cap) with hc | hc
    · have HC := hid (HCp.out true hc)
      by_cases hl : (R.length : Int) ≤ cap
      · have hnl : ¬ ((R.length : Int) > cap) := by omega
        have HVR := hid (HV.out.symm.trans (tabB_rows hr hc hl))
        clear HFr HCp HV hr hc hl
        go_enter Tryz.func20, Tryz.ntmps20
        go_wp2_with (first | (go_at_call 62; refine (HF.out _ HB0.out).mono ?_; rintro e w1 ⟨rfl, hb1⟩; have HB1 := hid (HB0.out.trans (hb1.mono HB0.out.size)); have HX1 := hid (HX0.out.on hb1); obtain ⟨_, m0, m1, m2⟩ := HX1.out; clear hb1) | (go_at_call 63; refine (HC.out _).mono ?_; rintro e w' ⟨rfl, rfl⟩))
        clear m0 m1 m2
        go_loopw [3] (fun t wr => ∃ k : Nat, k ≤ R.length ∧ t = .int .i64 k ∧ rowsTo f R k = true ∧ Below w1.heap.size w1 wr) (fun t _ => R.length - (intOf t).toNat)
        case atStart => exact ⟨0, Nat.zero_le _, rfl, rfl, Below.refl _ _⟩
        case round =>
          obtain ⟨k, hk, rfl, hs, hbel⟩ := hrel
          have HS := hid hs
          have HBr := hid hbel
          have HBE := hid (HB1.out.trans (hbel.mono HB1.out.size))
          have HXr := hid (HX1.out.on hbel)
          clear hs hbel
          obtain ⟨hq, m0, m1, m2⟩ := HXr.out
          by_cases hlt : k < R.length
          · have HTr := hid (HT.out.on HBE.out)
            rcases HTr.out.rows with h0 | ⟨b, off, rfl, hb, hcs⟩
            · omega
            obtain ⟨c0, c2, c3, ⟨gb, gc, c1, hGF⟩, ⟨ca, cc, c4, hCk⟩⟩ := hcs k hlt
            have HJ := hid (fun j (hj : j < R.length) => (hcs j hj).1)
            have HSu := hid (rowsTo_succ f R k)
            have HNo := hid (fun h => HVR.out.trans (rowsTo_false f R k R.length hlt h))
            have HI := hid (HT.out.rin k hlt)
            have HUe : Hid (upB R k = (decide (k = 0) || Op.bytesLess (rwAt R (k - 1)).key.toList (rwAt R k).key.toList)) := rfl
            generalize hx : rwAt R k = x at *
            have HBn := hid (below_one' wr (.cells #[.string x.key, .slice (some ⟨gb, 0, none⟩) x.f.length gc, .int .i64 x.cnt, .int .i64 x.now, .slice ca x.C.length cc] 52))
            have HNn := hid (RBox.new wr x.key (some ⟨gb, 0, none⟩) x.f.length gc x.cnt x.now ca x.C.length cc 52)
            have HXn := hid (HXr.out.on HBn.out)
            have HGn := hid (hGF.below HBn.out hGF.1)
            have HCn := hid (hCk.on HBn.out)
            have HFn := hid (HTr.out.nodes.below HBn.out HTr.out.nodes.1)
            have HJn := hid (fun j (hj : j < R.length) => (HBn.out.cell (p := ⟨b, off + j * 5, none⟩) hb).trans (HJ.out j hj))
            clear hcs hGF hCk HJ
            go_wp2_with fail
            clear c0 c1 c2 c3 c4 m0 m1 m2
            generalize wr.alloc (.cells #[.string x.key, .slice (some ⟨gb, 0, none⟩) x.f.length gc, .int .i64 x.cnt, .int .i64 x.now, .slice ca x.C.length cc] 52) = V at *
            generalize wr.heap.size = qn at HNn ⊢
            obtain ⟨_, y0, y1, y2, y3, y4⟩ := HNn.out
            obtain ⟨_, m0, m1, m2⟩ := HXn.out
            have y0' := cell_regrown y0
            have y1' := cell_regrown y1
            have y2' := cell_regrown y2
            have y3' := cell_regrown y3
            have y4' := cell_regrown y4
            have m0' := cell_regrown m0
            have m1' := cell_regrown m1
            have m2' := cell_regrown m2
            clear y0 y1 y2 y3 y4 m0 m1 m2 HNn HXn
            have HWd : Hid (∀ b, wordB x.key = b → ∀ d os, Calls Tryz.prog 57 #[.string x.key] (Sort.grow (redrawn V d) os) fun e w'' => e = .returned (.bool b) ∧ ∃ p : Regrown, w'' = Sort.grow (redrawn V p.d) p.os) := fun b hb d os => Calls.regrown_of (by subst hb; exact (specWord_any x.key (Sort.grow (redrawn V d) os) HI.out.key).mono (by rintro e w' ⟨rfl, rfl⟩; exact ⟨rfl, Below.refl _ _⟩))
            have HMo : Hid (∀ b, monB x.f x.cnt x.now x.C = b → ∀ d os, Calls Tryz.prog 69 #[.agg #[.slice (some ⟨gb, 0, none⟩) x.f.length gc, .int .i64 x.cnt, .int .i64 x.now, .slice ca x.C.length cc]] (Sort.grow (redrawn V d) os) fun e w'' => e = .returned (.bool b) ∧ ∃ p : Regrown, w'' = Sort.grow (redrawn V p.d) p.os) := fun b hb d os => Calls.regrown_of (specMon_any x.f gb gc x.cnt x.now x.C ca cc b hb (Sort.grow (redrawn V d) os) (HI.out.mon (HGn.out.below (below_regrown V d os) HGn.out.1) (HCn.out.on (below_regrown V d os))))
            have HSm : Hid (∀ b, decide (x.f = f) = b → ∀ d os, Calls Tryz.prog 70 #[.slice (some ⟨gb, 0, none⟩) x.f.length gc, .slice (some ⟨fb, 0, none⟩) f.length fc] (Sort.grow (redrawn V d) os) fun e w'' => e = .returned (.bool b) ∧ ∃ p : Regrown, w'' = Sort.grow (redrawn V p.d) p.os) := fun b hb d os => Calls.regrown_of (specSame_any x.f f gb fb gc fc b hb HI.out.lf HT.out.lf (Sort.grow (redrawn V d) os) (HGn.out.below (below_regrown V d os) HGn.out.1) (HFn.out.below (below_regrown V d os) HFn.out.1))
            have HRB : Hid (rowB f x = (wordB x.key && (decide (0 < x.cnt) && (decide (x.f = f) && monB x.f x.cnt x.now x.C)))) := rfl
            have HM0 := hid (fun h => monB_cnt0 (f := x.f) (cnt := x.cnt) (now := x.now) (C := x.C) h)
            rcases Bool.eq_false_or_eq_true (wordB x.key) with hw | hw
            · have HW1 := hid (HWd.out true hw)
              cases k with
              | zero =>
                have hup : upB R 0 = true := rfl
                rcases Bool.eq_false_or_eq_true (monB x.f x.cnt x.now x.C) with hm | hm
                · have HM1 := hid (HMo.out true hm)
                  by_cases hz : x.cnt = 0
                  · have HNx := hid (HNo.out (by rw [HRB.out, hz]; simp))
                    have hz1 : (x.cnt == 0) = true := by simp [hz]
                    clear HWd HMo HSm HNo HSu HRB HM0 HUe hm hz
                    refine wp_region_quiet_below (by kernel_rfl) (by kernel_rfl) ?_
                    repeat (go_big_quiet_step (first | exact HW1.out _ _ | exact HM1.out _ _))
                    refine wpQuiet_nil ?_
                    intro _ hw'
                    obtain ⟨⟨dq, osq⟩, hw''⟩ := hw'
                    subst hw''
                    have HB2 := hid (HBr.out.trans ((HBn.out.trans ((below_regrown V dq osq).mono HBn.out.size)).mono HBr.out.size))
                    go_wp2_with fail
                    go_ret
                    exact ⟨ret_bool HNx.out.symm, HB1.out.trans (HB2.out.mono HB1.out.size)⟩
                  · have hz1 : (x.cnt == 0) = false := by simp [hz]
                    have hz0 : 0 < x.cnt := by have := HM0.out hm; omega
                    rcases Bool.eq_false_or_eq_true (decide (x.f = f)) with hs | hs
                    · have HS1 := hid (HSm.out true hs)
                      have HSx : Hid (rowsTo f R (0 + 1) = true) := by show rowsTo f R (0 + 1) = true; rw [HSu.out, HS.out, hup, HRB.out, hw, hm, hs]; simp [hz0]
                      clear HWd HMo HSm HNo HSu HRB HM0 HUe hm hz hs
                      refine wp_region_quiet_below (by kernel_rfl) (by kernel_rfl) ?_
                      repeat (go_big_quiet_step (first | exact HW1.out _ _ | exact HM1.out _ _ | exact HS1.out _ _))
                      refine wpQuiet_nil ?_
                      intro _ hw'
                      obtain ⟨⟨dq, osq⟩, hw''⟩ := hw'
                      subst hw''
                      have HB2 := hid (HBr.out.trans ((HBn.out.trans ((below_regrown V dq osq).mono HBn.out.size)).mono HBr.out.size))
                      go_wp2_with fail
                      go_roundw
                      case rel => exact ⟨0 + 1, by omega, by go_num, HSx.out, HB2.out⟩
                      case measure => simp [intOf]; omega
                    · have HS1 := hid (HSm.out false hs)
                      have HNx := hid (HNo.out (by rw [HRB.out, hs]; simp))
                      clear HWd HMo HSm HNo HSu HRB HM0 HUe hm hz hs
                      refine wp_region_quiet_below (by kernel_rfl) (by kernel_rfl) ?_
                      repeat (go_big_quiet_step (first | exact HW1.out _ _ | exact HM1.out _ _ | exact HS1.out _ _))
                      refine wpQuiet_nil ?_
                      intro _ hw'
                      obtain ⟨⟨dq, osq⟩, hw''⟩ := hw'
                      subst hw''
                      have HB2 := hid (HBr.out.trans ((HBn.out.trans ((below_regrown V dq osq).mono HBn.out.size)).mono HBr.out.size))
                      go_wp2_with fail
                      go_ret
                      exact ⟨ret_bool HNx.out.symm, HB1.out.trans (HB2.out.mono HB1.out.size)⟩
                · have HM1 := hid (HMo.out false hm)
                  have HNx := hid (HNo.out (by rw [HRB.out, hm]; simp))
                  clear HWd HMo HSm HNo HSu HRB HM0 HUe hm
                  refine wp_region_quiet_below (by kernel_rfl) (by kernel_rfl) ?_
                  repeat (go_big_quiet_step (first | exact HW1.out _ _ | exact HM1.out _ _))
                  refine wpQuiet_nil ?_
                  intro _ hw'
                  obtain ⟨⟨dq, osq⟩, hw''⟩ := hw'
                  subst hw''
                  have HB2 := hid (HBr.out.trans ((HBn.out.trans ((below_regrown V dq osq).mono HBn.out.size)).mono HBr.out.size))
                  go_wp2_with fail
                  go_ret
                  exact ⟨ret_bool HNx.out.symm, HB1.out.trans (HB2.out.mono HB1.out.size)⟩
              | succ j =>
                have e0 := HJn.out j (by omega)
                have e0' := cell_regrown e0
                simp only [Nat.add_sub_cancel] at HUe
                generalize hU : (rwAt R j).key = U at *
                clear e0 HJn
                rcases Bool.eq_false_or_eq_true (Op.bytesLess U.toList x.key.toList) with hle | hle
                · have hup : Hid (upB R (j + 1) = true) := by show upB R (j + 1) = true; rw [HUe.out, hle]; simp
                  rcases Bool.eq_false_or_eq_true (monB x.f x.cnt x.now x.C) with hm | hm
                  · have HM1 := hid (HMo.out true hm)
                    by_cases hz : x.cnt = 0
                    · have HNx := hid (HNo.out (by rw [HRB.out, hz]; simp))
                      have hz1 : (x.cnt == 0) = true := by simp [hz]
                      clear HWd HMo HSm HNo HSu HRB HM0 HUe hm hz
                      refine wp_region_quiet_below (by kernel_rfl) (by kernel_rfl) ?_
                      repeat (go_big_quiet_step (first | exact HW1.out _ _ | exact HM1.out _ _))
                      refine wpQuiet_nil ?_
                      intro _ hw'
                      obtain ⟨⟨dq, osq⟩, hw''⟩ := hw'
                      subst hw''
                      have HB2 := hid (HBr.out.trans ((HBn.out.trans ((below_regrown V dq osq).mono HBn.out.size)).mono HBr.out.size))
                      go_wp2_with fail
                      go_ret
                      exact ⟨ret_bool HNx.out.symm, HB1.out.trans (HB2.out.mono HB1.out.size)⟩
                    · have hz1 : (x.cnt == 0) = false := by simp [hz]
                      have hz0 : 0 < x.cnt := by have := HM0.out hm; omega
                      rcases Bool.eq_false_or_eq_true (decide (x.f = f)) with hs | hs
                      · have HS1 := hid (HSm.out true hs)
                        have HSx : Hid (rowsTo f R (j + 1 + 1) = true) := by show rowsTo f R (j + 1 + 1) = true; rw [HSu.out, HS.out, hup.out, HRB.out, hw, hm, hs]; simp [hz0]
                        clear HWd HMo HSm HNo HSu HRB HM0 HUe hm hz hs
                        refine wp_region_quiet_below (by kernel_rfl) (by kernel_rfl) ?_
                        repeat (go_big_quiet_step (first | exact HW1.out _ _ | exact HM1.out _ _ | exact HS1.out _ _))
                        refine wpQuiet_nil ?_
                        intro _ hw'
                        obtain ⟨⟨dq, osq⟩, hw''⟩ := hw'
                        subst hw''
                        have HB2 := hid (HBr.out.trans ((HBn.out.trans ((below_regrown V dq osq).mono HBn.out.size)).mono HBr.out.size))
                        go_wp2_with fail
                        go_roundw
                        case rel => exact ⟨j + 1 + 1, by omega, by go_num, HSx.out, HB2.out⟩
                        case measure => simp [intOf]; omega
                      · have HS1 := hid (HSm.out false hs)
                        have HNx := hid (HNo.out (by rw [HRB.out, hs]; simp))
                        clear HWd HMo HSm HNo HSu HRB HM0 HUe hm hz hs
                        refine wp_region_quiet_below (by kernel_rfl) (by kernel_rfl) ?_
                        repeat (go_big_quiet_step (first | exact HW1.out _ _ | exact HM1.out _ _ | exact HS1.out _ _))
                        refine wpQuiet_nil ?_
                        intro _ hw'
                        obtain ⟨⟨dq, osq⟩, hw''⟩ := hw'
                        subst hw''
                        have HB2 := hid (HBr.out.trans ((HBn.out.trans ((below_regrown V dq osq).mono HBn.out.size)).mono HBr.out.size))
                        go_wp2_with fail
                        go_ret
                        exact ⟨ret_bool HNx.out.symm, HB1.out.trans (HB2.out.mono HB1.out.size)⟩
                  · have HM1 := hid (HMo.out false hm)
                    have HNx := hid (HNo.out (by rw [HRB.out, hm]; simp))
                    clear HWd HMo HSm HNo HSu HRB HM0 HUe hm
                    refine wp_region_quiet_below (by kernel_rfl) (by kernel_rfl) ?_
                    repeat (go_big_quiet_step (first | exact HW1.out _ _ | exact HM1.out _ _))
                    refine wpQuiet_nil ?_
                    intro _ hw'
                    obtain ⟨⟨dq, osq⟩, hw''⟩ := hw'
                    subst hw''
                    have HB2 := hid (HBr.out.trans ((HBn.out.trans ((below_regrown V dq osq).mono HBn.out.size)).mono HBr.out.size))
                    go_wp2_with fail
                    go_ret
                    exact ⟨ret_bool HNx.out.symm, HB1.out.trans (HB2.out.mono HB1.out.size)⟩
                · have HNx := hid (HNo.out (by rw [HUe.out, hle]; simp))
                  clear HWd HMo HSm HNo HSu HRB HM0 HUe
                  refine wp_region_quiet_below (by kernel_rfl) (by kernel_rfl) ?_
                  repeat (go_big_quiet_step (exact HW1.out _ _))
                  refine wpQuiet_nil ?_
                  intro _ hw'
                  obtain ⟨⟨dq, osq⟩, hw''⟩ := hw'
                  subst hw''
                  have HB2 := hid (HBr.out.trans ((HBn.out.trans ((below_regrown V dq osq).mono HBn.out.size)).mono HBr.out.size))
                  go_wp2_with fail
                  go_ret
                  exact ⟨ret_bool HNx.out.symm, HB1.out.trans (HB2.out.mono HB1.out.size)⟩
            · have HW1 := hid (HWd.out false hw)
              have HNx := hid (HNo.out (by rw [HRB.out, hw]; simp))
              clear HWd HMo HSm HNo HSu HRB HM0 HUe
              refine wp_region_quiet_below (by kernel_rfl) (by kernel_rfl) ?_
              repeat (go_big_quiet_step (exact HW1.out _ _))
              refine wpQuiet_nil ?_
              intro _ hw'
              obtain ⟨⟨dq, osq⟩, hw''⟩ := hw'
              subst hw''
              have HB2 := hid (HBr.out.trans ((HBn.out.trans ((below_regrown V dq osq).mono HBn.out.size)).mono HBr.out.size))
              go_wp2_with fail
              go_ret
              exact ⟨ret_bool HNx.out.symm, HB1.out.trans (HB2.out.mono HB1.out.size)⟩
          · have hk' : k = R.length := by omega
            subst hk'
            go_wp2_with fail
            go_ret
            exact ⟨ret_bool (by rw [HVR.out, HS.out]), HBE.out⟩
      · have hnl : ((R.length : Int) > cap) := by omega
        have HVF := hid (HV.out.symm.trans (tabB_len hl))
        clear HFr HCp HV hr hc hl
        go_enter Tryz.func20, Tryz.ntmps20
        go_wp2_with (first | (go_at_call 62; refine (HF.out _ HB0.out).mono ?_; rintro e w1 ⟨rfl, hb1⟩; have HB1 := hid (HB0.out.trans (hb1.mono HB0.out.size)); have HX1 := hid (HX0.out.on hb1); obtain ⟨_, m0, m1, m2⟩ := HX1.out; clear hb1) | (go_at_call 63; refine (HC.out _).mono ?_; rintro e w' ⟨rfl, rfl⟩))
        go_ret
        exact ⟨ret_bool HVF.out.symm, HB1.out⟩
    · have HC := hid (HCp.out false hc)
      have HVF := hid (HV.out.symm.trans (tabB_cap hc))
      clear HFr HCp HV hr hc
      go_enter Tryz.func20, Tryz.ntmps20
      go_wp2_with (first | (go_at_call 62; refine (HF.out _ HB0.out).mono ?_; rintro e w1 ⟨rfl, hb1⟩; have HB1 := hid (HB0.out.trans (hb1.mono HB0.out.size)); have HX1 := hid (HX0.out.on hb1); obtain ⟨_, m0, m1, m2⟩ := HX1.out; clear hb1) | (go_at_call 63; refine (HC.out _).mono ?_; rintro e w' ⟨rfl, rfl⟩))
      go_ret
      exact ⟨ret_bool HVF.out.symm, HB1.out⟩
  · have HF := hid (HFr.out false hr)
    have HVF := hid (HV.out.symm.trans (tabB_right hr))
    clear HFr HCp HV hr
    go_enter Tryz.func20, Tryz.ntmps20
    go_wp2_with (go_at_call 62; refine (HF.out _ HB0.out).mono ?_; rintro e w1 ⟨rfl, hb1⟩; have HB1 := hid (HB0.out.trans (hb1.mono HB0.out.size)); have HX1 := hid (HX0.out.on hb1); obtain ⟨_, m0, m1, m2⟩ := HX1.out; clear hb1)
    go_ret
    exact ⟨ret_bool HVF.out.symm, HB1.out⟩
end Go.Proofs.YtljhokoojodjnaaGreatDoor
namespace Go.Proofs.YtljhokoojodjnaaGreatDoor
open Go.RowKit
set_option linter.unusedVariables false
set_option linter.unusedSimpArgs false
/-- A row of texts that the call owns. -/
def OwS (w : World) (base : Nat) (v : Value) (S : List ByteArray) : Prop := w.ownsRow base 9 1 v S.length (S.map Value.string)
/-- A row of texts to be written to; it may be longer than what is asked for. -/
def RowTs (w : World) (a : Option Addr) (n : Nat) : Prop := n = 0 ∨ ∃ b z m, a = some ⟨b, 0, none⟩ ∧ n ≤ m ∧ w.rowIs b 9 m z
theorem RowTs.below {w w' : World} {a : Option Addr} {n : Nat} (h : RowTs w a n) (hb : Below w.heap.size w w') : RowTs w' a n :=
  h.imp id (fun ⟨b, z, m, e, hm, hr⟩ => ⟨b, z, m, e, hm, hr.of_block (hb.block b hr.lt)⟩)
theorem RowTs.save {w w' : World} {a : Option Addr} {n : Nat} {T : Nat → Prop} (h : RowTs w a n) (hs : Save w w' T) (hT : ∀ b, a = some ⟨b, 0, none⟩ → ¬ T b) : RowTs w' a n :=
  h.imp id (fun ⟨b, z, m, e, hm, hr⟩ => ⟨b, z, m, e, hm, hr.of_block (hs.block b hr.lt (hT b e))⟩)
theorem OwS.form {w : World} {base : Nat} {v : Value} {S : List ByteArray} (h : OwS w base v S) : ∃ a c, v = .slice a S.length c ∧ TsAt w a S ∧ RowTs w a S.length ∧ ∀ q, a = some q → base ≤ q.block ∧ q.block < w.heap.size ∧ q = ⟨q.block, 0, none⟩ := by
  rcases h.2 with ⟨hv, h0⟩ | ⟨g, cap, cur, hv, hb, hg, h1, h2, h3, h4⟩
  · exact ⟨none, 0, by rw [hv, h0], Or.inl h0, Or.inl h0, fun q e => (by cases e)⟩
  · have hlt := (Array.getElem?_eq_some_iff.1 hg).1
    refine ⟨some ⟨g, 0, none⟩, cap, hv, Or.inr ⟨g, rfl, hlt, fun i hi => ?_⟩, Or.inr ⟨g, fun j => cur.getD j undef, cap, rfl, h1, ⟨cur, hg, by omega, fun i hi => ?_⟩⟩, fun q e => (by injection e with e1; subst e1; exact ⟨hb, hlt, rfl⟩)⟩
    · have h5 := World.ownsRow.cells h (g := g) (by rw [hv]; rfl) i (.string (txAt S i)) (by simp [hi, txAt, List.getD])
      rw [Addr.add_lit] at h5
      simpa using h5
    · have hi' : i < cur.size := by omega
      simp [hi']
set_option maxRecDepth 20000 in
set_option maxHeartbeats 1000000 in
theorem heldStringS_from (n k0 : Nat) (v : Int) (hv : v = k0) (hk0 : 0 < k0) (hk1 : k0 + n ≤ 1000000000) (a : Option Addr) (c : Nat) (w : World) (h : TsAt w a (markT k0 n)) :
    Calls Tryz.prog 37 #[.slice a n c, .int .i64 v] w fun e w' => e = .returned (.int .i64 (k0 + n : Nat)) ∧ Below w.heap.size w w' := by
  subst hv
  have H := hid h
  clear h
  go_enter Tryz.func37, Tryz.ntmps37
  go_wp2_with fail
  go_loopw [1, 5] (fun t s wr => ∃ k : Nat, k ≤ n ∧ t = .int .i64 (k0 + k : Nat) ∧ s = .int .i64 k ∧ Below w.heap.size w wr) (fun _ s _ => n - (intOf s).toNat)
  case atStart => exact ⟨0, Nat.zero_le _, rfl, rfl, Below.refl _ _⟩
  case round =>
    obtain ⟨k, hk, rfl, rfl, hbel⟩ := hrel
    have HB := hid hbel
    have hsz := hbel.size
    clear hbel
    by_cases hlt : k < n
    · rcases H.out with h0 | ⟨b, rfl, hb, hc⟩
      · rw [markT_len] at h0; omega
      have d5 := (HB.out.cell (p := ⟨b, k, none⟩) hb).trans (hc k (by rw [markT_len]; exact hlt))
      rw [markT_at _ _ _ hlt] at d5
      have hbl : b < wr.heap.size := Nat.lt_of_lt_of_le hb hsz
      clear hc
      go_wp2_with fail
      go_region_with (go_at_call 86; refine (markText_int _ (k0 + k) (by push_cast; omega) (by omega) (by omega) _).mono ?_; rintro e w1 ⟨rfl, hb1⟩; have HB1 : Hid (Below w.heap.size w w1) := HB.out.trans (Below.mono ⟨hb1.os, hb1.tape, hb1.output, hb1.size, hb1.block⟩ hsz); have d6 := (hb1.cell (p := ⟨b, k, none⟩) hbl).trans d5; clear hb1)
      all_goals
        go_wp2_with fail
        go_roundw
        case rel => exact ⟨k + 1, by omega, by simp; omega, by go_num, HB1.out⟩
        case measure => simp [intOf]; omega
    · have hk' : k = n := by omega
      subst hk'
      go_wp2_with fail
      go_ret
      exact ⟨rfl, HB.out⟩
set_option maxRecDepth 20000 in
set_option maxHeartbeats 1000000 in
theorem markStringS_up (n k0 : Nat) (v : Int) (hv : v = k0) (hk0 : 0 < k0) (hk1 : k0 + n ≤ 1000000000) (a : Option Addr) (c : Nat) (w : World) (h : RowTs w a n) :
    Calls Tryz.prog 36 #[.slice a n c, .int .i64 v] w fun e w' => e = .returned (.int .i64 (k0 + n : Nat)) ∧ TsAt w' a (markT k0 n) ∧ RowTs w' a n ∧ Save w w' (OfT a) := by
  subst hv
  rcases h with rfl | ⟨b, z, m, rfl, hnm, h⟩
  · go_enter Tryz.func36, Tryz.ntmps36
    go_wp2_with fail
    go_loopw [1, 5] (fun t s wr => t = .int .i64 k0 ∧ s = .int .i64 0 ∧ w = wr) (fun _ _ _ => 0)
    case atStart => exact ⟨rfl, rfl, rfl⟩
    case round =>
      obtain ⟨rfl, rfl, rfl⟩ := hrel
      go_wp2_with fail
      go_ret
      exact ⟨rfl, Or.inl rfl, Or.inl rfl, Save.refl _ _⟩
  · have HR0 := hid (h.congr (fun j hj => (show z j = rowT (markT k0 n) z 0 j by simp [rowT])))
    have hbl := h.lt
    clear h
    go_enter Tryz.func36, Tryz.ntmps36
    go_wp2_with fail
    go_loopw [1, 5] (fun t s wr => ∃ k : Nat, k ≤ n ∧ t = .int .i64 (k0 + k : Nat) ∧ s = .int .i64 k ∧ wr.rowIs b 9 m (rowT (markT k0 n) z k) ∧ Save w wr (OfT (some ⟨b, 0, none⟩))) (fun _ s _ => n - (intOf s).toNat)
    case atStart => exact ⟨0, Nat.zero_le _, rfl, rfl, HR0.out, Save.refl _ _⟩
    case round =>
      clear HR0
      obtain ⟨k, hk, rfl, rfl, hrow, hsv⟩ := hrel
      have HS := hid hsv
      have HRow := hid hrow
      have hsz := hrow.lt
      clear hrow hsv
      by_cases hlt : k < n
      · go_wp2_with fail
        refine (markText_int _ (k0 + k) (by push_cast; omega) (by omega) (by omega) _).mono ?_
        rintro e w1 ⟨rfl, hb1⟩
        have HR1 := hid (HRow.out.of_block (hb1.block b hsz))
        have HS1 := hid (HS.out.trans (Save.of_below hb1 _ (fun j h1 h2 => absurd h1 (by omega))))
        have d5 := HR1.out.cell (i := k) (by omega)
        have f5 := HR1.out.frozen k
        clear hb1
        go_wp2_with fail
        go_roundw
        case rel =>
          refine ⟨k + 1, by omega, by simp; omega, by go_num, (HR1.out.set k _).congr (fun j hj => ?_), HS1.out.setCell (p := ⟨b, k, none⟩) (fun _ => ⟨_, rfl, rfl⟩) _⟩
          rw [rowT_step, markT_at _ _ _ hlt]
        case measure => simp [intOf]; omega
      · have hk' : k = n := by omega
        subst hk'
        go_wp2_with fail
        go_ret
        refine ⟨rfl, Or.inr ⟨b, rfl, HRow.out.lt, fun i hi => ?_⟩, Or.inr ⟨b, _, m, rfl, hnm, HRow.out⟩, HS.out⟩
        rw [markT_len] at hi
        rw [HRow.out.cell (by omega)]
        unfold rowT
        rw [if_pos hi]
/-- A row of events to be written to: each one's names lie in a block of its own. -/
structure EvMu (w : World) (b n : Nat) (a : Nat → Option Addr) (N c : Nat → Nat) : Prop where
  row : ∃ z m, n * 2 ≤ m ∧ w.rowIs b 29 m z ∧ ∀ i, i < n → z (i * 2 + 1) = .slice (a i) (N i) (c i)
  names : ∀ i, i < n → RowTs w (a i) (N i)
  apart : ∀ i, i < n → ∀ q, a i = some q → q.block ≠ b
  apart2 : ∀ i j, i < n → j < n → i ≠ j → ∀ q r, a i = some q → a j = some r → q.block ≠ r.block
theorem ofT_flat {a : Option Addr} {j : Nat} {P : Nat → Prop} (h : OfT a j) (hp : ∀ b, a = some ⟨b, 0, none⟩ → P b) (ha : ∀ q, a = some q → q = ⟨q.block, 0, none⟩) : P j := by
  obtain ⟨q, rfl, rfl⟩ := h
  exact hp _ (by rw [← ha q rfl])
end Go.Proofs.YtljhokoojodjnaaGreatDoor
namespace Go.Proofs.YtljhokoojodjnaaGreatDoor
open Go.RowKit Go.Maps Go.Sort Go.Shelf
set_option linter.unusedVariables false
set_option linter.unusedSimpArgs false
def keysTo (R : List Rw) (k : Nat) : List ByteArray := (List.range k).map fun i => (rwAt R i).key
def keysB (f : List Nd) (cap : Int) (R : List Rw) : List ByteArray := if tabB f cap R = true then keysTo R R.length else []
theorem keysTo_len (R : List Rw) (k : Nat) : (keysTo R k).length = k := by simp [keysTo]
theorem keysTo_succ (R : List Rw) (k : Nat) : keysTo R (k + 1) = keysTo R k ++ [(rwAt R k).key] := by simp [keysTo, List.range_succ]
def lessK (a b : ByteArray) : Prop := Op.bytesLess a.toList b.toList = true
theorem rowsTo_at {f : List Nd} {R : List Rw} {n : Nat} (h : rowsTo f R n = true) (k : Nat) (hk : k < n) : upB R k = true ∧ wordB (rwAt R k).key = true := by
  simp only [rowsTo, List.all_eq_true, List.mem_range, Bool.and_eq_true] at h
  have h1 := h k hk
  refine ⟨h1.1, ?_⟩
  have h2 := h1.2
  simp only [rowB, Bool.and_eq_true] at h2
  exact h2.1
theorem key_less {f : List Nd} {R : List Rw} {n : Nat} (h : rowsTo f R n = true) : ∀ k, k < n → ∀ i, i < k → lessK (rwAt R i).key (rwAt R k).key := by
  intro k
  induction k with
  | zero => intro _ i hi; omega
  | succ k ih =>
    intro hk i hi
    have h1 := (rowsTo_at h (k + 1) hk).1
    simp only [upB, Nat.add_sub_cancel, Bool.or_eq_true, decide_eq_true_eq] at h1
    have h2 : lessK (rwAt R k).key (rwAt R (k + 1)).key := h1.resolve_left (by omega)
    by_cases e : i = k
    · subst e; exact h2
    · exact less_trans _ _ _ (ih (by omega) i (by omega)) h2
theorem keys_pair {f : List Nd} {R : List Rw} {n : Nat} (h : rowsTo f R n = true) : ∀ k, k ≤ n → (keysTo R k).Pairwise lessK := by
  intro k
  induction k with
  | zero => intro _; simp [keysTo]
  | succ k ih =>
    intro hk
    rw [keysTo_succ, List.pairwise_append]
    refine ⟨ih (by omega), List.pairwise_singleton _ _, fun a ha b hb => ?_⟩
    simp only [List.mem_singleton] at hb
    subst hb
    simp only [keysTo, List.mem_map, List.mem_range] at ha
    obtain ⟨i, hi, rfl⟩ := ha
    exact key_less h k (by omega) i hi
theorem key_new {f : List Nd} {R : List Rw} {n : Nat} (h : rowsTo f R n = true) (k : Nat) (hk : k < n) : (rwAt R k).key.data.toList ∉ (keysTo R k).map (·.data.toList) := by
  intro hm
  simp only [keysTo, List.map_map, List.mem_map, List.mem_range, Function.comp] at hm
  obtain ⟨i, hi, e⟩ := hm
  have h1 := key_less h k hk i hi
  unfold lessK at h1
  rw [ByteArray.toList_eq, ByteArray.toList_eq, e, less_irr] at h1
  cases h1
/-- What a sort makes of the keys. -/
theorem sort_keys {f : List Nd} {R : List Rw} {n : Nat} (h : rowsTo f R n = true) {ss : List (List UInt8)} (hp : ss.Perm ((keysTo R n).map (·.data.toList))) : ss.mergeSort (fun x y => decide (x ≤ y)) = (keysTo R n).map (·.data.toList) := by
  refine List.Perm.eq_of_pairwise (le := fun x y : List UInt8 => decide (x ≤ y) = true) (fun a b _ _ p q => ?_) (List.pairwise_mergeSort ?_ ?_ _) ?_ ((List.mergeSort_perm _ _).trans hp)
  · exact List.le_antisymm (by simpa using p) (by simpa using q)
  · intro a b c p q
    have p' : a ≤ b := by simpa using p
    have q' : b ≤ c := by simpa using q
    simpa using List.le_trans p' q'
  · intro a b
    rcases List.le_total a b with p | p
    · simp [p]
    · simp [p]
  · rw [List.pairwise_map]
    refine (keys_pair h n (Nat.le_refl _)).imp (fun {a b} hab => ?_)
    have h3 : Op.bytesLess a.toList b.toList = true := hab
    rw [bytesLess_eq, ByteArray.toList_eq, ByteArray.toList_eq] at h3
    have h4 : a.data.toList < b.data.toList := by simpa using h3
    simpa using List.le_of_lt h4
theorem enc_keys (S : List ByteArray) : (S.map (·.data.toList)).map encStr = S.map Value.string := by
  rw [List.map_map]
  apply List.map_congr_left
  intro x _
  simp [encStr]
/-- How an element of the map reads: as what it is. -/
def heldV (v : Value) : Option (DataW Value × List MemPlace) := some (.held v, [])
def litK (s : ByteArray) : Lit := .string s.data.toList
theorem insert_perm {H : Type} (x : Lit × DataW H) : ∀ l : List (Lit × DataW H), (DataW.insert x l).Perm (x :: l)
  | [] => List.Perm.refl _
  | y :: r => by
    unfold DataW.insert
    split
    · exact List.Perm.refl _
    · exact ((insert_perm x r).cons y).trans (List.Perm.swap x y r)
theorem has_keys {H : Type} (D : DataW H) (s : ByteArray) (h : s.data.toList ∉ strKeys D) (hm : IsMap D) : Maps.has D (litK s) = false := by
  obtain ⟨es, rfl⟩ := hm
  rw [Maps.has_eq]
  rw [List.any_eq_false]
  intro p hp hs
  by_cases e : p.1 = litK s
  · exact h (by simp only [strKeys, List.mem_map]; exact ⟨p, hp, by rw [e]; rfl⟩)
  · rw [Maps.sameKey_ne e] at hs
    cases hs
theorem put_keys {H : Type} {D : DataW H} (hm : IsMap D) (s : ByteArray) (h : s.data.toList ∉ strKeys D) (d : DataW H) : (strKeys (D.put (litK s) d)).Perm (s.data.toList :: strKeys D) := by
  have h1 := has_keys D s h hm
  obtain ⟨es, rfl⟩ := hm
  have h2 := Maps.del_of_not_has h1
  have h3 : (es.filter fun p => !p.1.sameKey (litK s)) = es := by
    have : DataW.map (es.filter fun p => !p.1.sameKey (litK s)) = DataW.map es := h2
    injection this
  show (List.map (fun p => strOf p.1) (DataW.insert (litK s, d) (es.filter fun p => !p.1.sameKey (litK s)))).Perm _
  rw [h3]
  exact (insert_perm _ _).map _
theorem Tryz.uMm : Tryz.prog.underlying 84 = some (.map 9 46) := by kernel_rfl
theorem Tryz.keySt : Maps.Keyed Tryz.prog 9 := Maps.string_keyed Tryz.underlying9
/-- A map of monitors by their keys. -/
structure KMap (w : World) (mb c : Nat) (K : List ByteArray) (D : DataW Value) : Prop where
  own : w.ownsMap Tryz.prog 9 heldV mb c D
  keys : (strKeys D).Perm (K.map (·.data.toList))
theorem KMap.save {w w' : World} {mb c : Nat} {K : List ByteArray} {D : DataW Value} {S : Nat → Prop} (h : KMap w mb c K D) (hs : Save w w' S) (hS : ¬ S mb) : KMap w' mb c K D := by
  have hlt := h.own.lt
  obtain ⟨⟨es, clock, hbk, rest⟩, h2⟩ := h
  exact ⟨⟨es, clock, by rw [hs.block mb hlt hS]; exact hbk, rest⟩, h2⟩
theorem KMap.on {w w' : World} {mb c : Nat} {K : List ByteArray} {D : DataW Value} (h : KMap w mb c K D) (hb : Below w.heap.size w w') : KMap w' mb c K D :=
  h.save (S := fun _ => False) (Save.of_below hb _ (fun j h1 h2 => absurd h1 (by omega))) (fun h => h)
theorem keyOf_key {s : ByteArray} (h : s.size ≤ maxLen) : keyOf Tryz.prog 9 (.string s) = some (litK s) := by
  exact WideMaps.keyOf_string_mk Tryz.underlying9 h
theorem KMap.put {w : World} {mb c : Nat} {K : List ByteArray} {D : DataW Value} (h : KMap w mb c K D) (s : ByteArray) (hs : s.size ≤ maxLen) (hn : s.data.toList ∉ K.map (·.data.toList)) (hc : c < 10000) (v : Value) :
    ∃ w', Sem.run Tryz.prog (Instr.mapUpdate 84 (.map (some mb)) (.string s) v) w = .ok () w' ∧ KMap w' mb (c + 1) (K ++ [s]) (D.put (litK s) (.held v)) ∧ Save w w' (fun b => b = mb) := by
  obtain ⟨w', hrun, hown, hg⟩ := h.own.update Tryz.keySt Tryz.uMm (by unfold maxLen; omega) (keyOf_key hs) (show heldV v = some (.held v, []) from rfl)
  refine ⟨w', hrun, ⟨hown, ?_⟩, (Save.refl w _).grown hg (fun k hk _ => by cases hk; rfl)⟩
  refine (put_keys h.own.isMap s (fun hm => hn (h.keys.mem_iff.1 hm)) _).trans ?_
  rw [List.map_append]
  exact ((h.keys.cons _).trans (List.perm_append_singleton _ _).symm)
theorem KMap.made (w : World) : KMap (w.alloc (.map #[] 0)) w.heap.size 0 [] (.map []) := ⟨World.ownsMap_made w _ _ _, List.Perm.refl _⟩
theorem Tryz.sorts (m : Nat) : AnyZ.SortsIn Tryz.prog Tryz.sorted107_ren Fence.wide m :=
  ⟨fun blk off cap ss W hH hblk hsz => callsIn_wide.2 (AnyM.slices_Sort_string Tryz.sort141 blk off cap ss W hH hblk hsz),
   fun p cap W => callsIn_wide.2 (AnyM.slices_Sort_string_none Tryz.sort141 p cap W)⟩
theorem Tryz.maps_Keys (mb : Option Nat) (W : World) : CallsIn Fence.wide 5 Tryz.prog 108 #[.map mb] W fun e w' => e = .returned (.func (.func 142) #[] #[.pointer (some ⟨W.heap.size, 0, none⟩)]) ∧ w' = W.alloc (.cells #[.map mb] 83) :=
  AnyZ.keys_in Tryz.keys108 Fence.wide 5 trivial rfl mb W
set_option maxHeartbeats 1000000 in
theorem Tryz.slices_Sorted_keys {H : Type} (b nn : Nat) (D0 : DataW H) (R : Value → Option (DataW H × List MemPlace)) (w : World) (hown : w.ownsMap Tryz.prog 9 R b nn D0) (hmax : Maps.size D0 ≤ maxLen) (hbytes : Maps.size D0 * 16 ≤ 140737488355328) :
    CallsIn Fence.wide 5 Tryz.prog 107 #[.func (.func 142) #[] #[.pointer (some ⟨w.heap.size, 0, none⟩)]] (w.alloc (.cells #[.map (some b)] 83)) fun e w' => ∃ (v : Value) (ss : List (List UInt8)), e = .returned v ∧ ss.Perm (strKeys D0) ∧
      w'.ownsRow (w.alloc (.cells #[.map (some b)] 83)).heap.size 9 1 v ss.length ((ss.mergeSort (fun x y => decide (x ≤ y))).map encStr) ∧ (v = .slice none 0 0 ↔ ss = []) ∧ Below (w.alloc (.cells #[.map (some b)] 83)).heap.size (w.alloc (.cells #[.map (some b)] 83)) w' := by
  have hbl := hown.lt
  have hseq : SeqGives Fence.wide 2 Tryz.prog 142 #[.pointer (some ⟨w.heap.size, 0, none⟩)] encStr (fun ss => ss.Perm (strKeys D0)) (Maps.size D0) (w.alloc (.cells #[.map (some b)] 83)) :=
    AnyZ.keys_gives (ρ := Tryz.keys108_ren) { Tryz.keys108 with } Fence.wide _ trivial rfl (by omega) w.heap.size b nn D0 _ (by simp) (by simp) (by
      obtain ⟨es, clock, hb, Ft, hs, hD⟩ := hown
      exact ⟨es, clock, (Below.heap_alloc _ _ b hbl).trans hb, Ft, hs, hD⟩)
  exact AnyZ.sorted_in Tryz.sorted107 Fence.wide 5 trivial trivial trivial trivial rfl (by omega) (Tryz.sorts _) (enters_of Tryz.func141 (by kernel_rfl) rfl) 142 #[.pointer (some ⟨w.heap.size, 0, none⟩)] trivial (enters_of Tryz.func142 (by kernel_rfl) rfl) _ _ hmax hbytes _ hseq
set_option maxHeartbeats 1000000 in
theorem rising_in (b nn : Nat) (D0 : DataW Value) (w : World) (hown : w.ownsMap Tryz.prog 9 heldV b nn D0) (hn : nn ≤ 10000) :
    Calls Tryz.prog 66 #[.map (some b)] w fun e w' => ∃ (v : Value) (ss : List (List UInt8)), e = .returned v ∧ ss.Perm (strKeys D0) ∧
      w'.ownsRow w.heap.size 9 1 v ss.length ((ss.mergeSort (fun x y => decide (x ≤ y))).map encStr) ∧ Below w.heap.size w w' := by
  have hmax : Maps.size D0 ≤ maxLen := by have := hown.size_le; unfold maxLen; omega
  have hbytes : Maps.size D0 * 16 ≤ 140737488355328 := by have := hown.size_le; omega
  refine (callsIn_wide (n := 6)).1 ?_
  have hfK : Fence.wide.fn 108 := trivial
  have hfS : Fence.wide.fn 107 := trivial
  refine callsIn_of_wp Tryz.func66 rfl trivial ?_ rfl
  simp only [Tryz.ntmps66, List.size_toArray, List.length_cons, List.length_nil, Nat.reduceAdd, Nat.reduceSub, Array.replicate_succ, Array.replicate_zero, List.push_toArray, List.append_toArray, List.nil_append, List.cons_append]
  gi_wp2_with (first
    | (gi_at_call 108; refine (Tryz.maps_Keys _ _).mono ?_; rintro e w' ⟨rfl, rfl⟩)
    | (gi_at_call 107; refine (Tryz.slices_Sorted_keys b nn D0 heldV w hown hmax hbytes).mono ?_; rintro e w' ⟨v, ss, rfl, hS, hrow, hnil, hb⟩))
  go_ret
  exact ⟨v, ss, rfl, hS, ownsRow_base_a hrow (by simp), ((Below.refl _ w).alloc (Nat.le_refl _) _).trans (hb.mono (by simp))⟩
theorem rising_any {f : List Nd} {R : List Rw} {n : Nat} (h : rowsTo f R n = true) (b nn : Nat) (D : DataW Value) (w : World) (hM : KMap w b nn (keysTo R n) D) (hn : nn ≤ 10000) :
    Calls Tryz.prog 66 #[.map (some b)] w fun e w' => ∃ v, e = .returned v ∧ OwS w' w.heap.size v (keysTo R n) ∧ Below w.heap.size w w' := by
  refine (rising_in b nn D w hM.own hn).mono ?_
  rintro e w' ⟨v, ss, rfl, hp, hrow, hb⟩
  have hp2 := hp.trans hM.keys
  have hl : ss.length = (keysTo R n).length := by rw [hp2.length_eq, List.length_map]
  rw [sort_keys h hp2, enc_keys, hl] at hrow
  exact ⟨v, rfl, hrow, hb⟩
set_option maxRecDepth 20000 in
set_option maxHeartbeats 4000000 in
theorem monitorsOf_any (f : List Nd) (fb fc : Nat) (cap : Int) (R : List Rw) (ra : Option Addr) (rc : Nat) (hr : rowsTo f R R.length = true) (hl : R.length ≤ 12) (w : World) (hT : TabIn w fb f ra R) :
    Calls Tryz.prog 48 #[tbV (some ⟨fb, 0, none⟩) f.length fc cap ra R.length rc] w fun e w' => ∃ mb D, e = .returned (.map (some mb)) ∧ w.heap.size ≤ mb ∧ KMap w' mb R.length (keysTo R R.length) D ∧ Below w.heap.size w w' := by
  have HT := hid hT
  have HB0 := hid (below_one' w (.cells #[.slice (some ⟨fb, 0, none⟩) f.length fc, .int .i64 cap, .slice ra R.length rc] 26))
  have HX0 := hid (TBox.new w (some ⟨fb, 0, none⟩) f.length fc cap ra R.length rc 26)
  unfold tbV
  have hmm := @run_makeMap Tryz.prog
  clear hT
  go_enter Tryz.func48, Tryz.ntmps48
  go_wp2_with fail
  clear hmm
  have HM0 := hid (KMap.made (w.alloc (.cells #[.slice (some ⟨fb, 0, none⟩) f.length fc, .int .i64 cap, .slice ra R.length rc] 26)))
  have HB1 := hid (HB0.out.alloc HB0.out.size (.map #[] 0))
  have HX1 := hid (HX0.out.on (below_one' _ (.map #[] 0)))
  have hmq : (w.alloc (.cells #[.slice (some ⟨fb, 0, none⟩) f.length fc, .int .i64 cap, .slice ra R.length rc] 26)).heap.size = w.heap.size + 1 := by simp
  rw [hmq] at HM0
  generalize (w.alloc (.cells #[.slice (some ⟨fb, 0, none⟩) f.length fc, .int .i64 cap, .slice ra R.length rc] 26)).alloc (.map #[] 0) = W1 at *
  have hz1 := HM0.out.own.lt
  go_loopw [10] (fun t wr => ∃ (k : Nat) (D : DataW Value), k ≤ R.length ∧ t = .int .i64 k ∧ KMap wr (w.heap.size + 1) k (keysTo R k) D ∧ Save W1 wr (fun j => j = w.heap.size + 1)) (fun t _ => R.length - (intOf t).toNat)
  case atStart => exact ⟨0, _, Nat.zero_le _, rfl, HM0.out, Save.refl _ _⟩
  case round =>
    obtain ⟨k, D, hk, rfl, hM, hsv⟩ := hrel
    have HM := hid hM
    have HS := hid hsv
    have hszr := hsv.size
    have HBE : Hid (RowKit.Below w.heap.size w wr) := HB1.out.trans (hsv.below (B := w.heap.size) HB1.out.size (fun j h => by omega))
    have HXr := hid (HX1.out.save hsv (by omega))
    clear hM hsv
    by_cases hlt : k < R.length
    · have HTr := hid (HT.out.on HBE.out)
      rcases HTr.out.rows with h0 | ⟨b, off, rfl, hb, hcs⟩
      · omega
      obtain ⟨c0, c2, c3, ⟨gb, gc, c1, _⟩, ⟨ca, cc, c4, _⟩⟩ := hcs k hlt
      have HNew := hid (key_new hr k hlt)
      have HKs := hid (keysTo_succ R k)
      have hw8 := (wordB_len _ (rowsTo_at hr k hlt).2).2
      have HBn := hid (below_one' wr (.cells #[.string (rwAt R k).key, .slice (some ⟨gb, 0, none⟩) (rwAt R k).f.length gc, .int .i64 (rwAt R k).cnt, .int .i64 (rwAt R k).now, .slice ca (rwAt R k).C.length cc] 52))
      have HNn := hid (RBox.new wr (rwAt R k).key (some ⟨gb, 0, none⟩) (rwAt R k).f.length gc (rwAt R k).cnt (rwAt R k).now ca (rwAt R k).C.length cc 52)
      have HMn := hid (HM.out.on HBn.out)
      clear hcs
      generalize rwAt R k = x at *
      obtain ⟨_, m0, m1, m2⟩ := HXr.out
      have HCl := hid (fun w => clone_any x.key (by omega) w)
      go_wp2_with fail
      clear c0 c1 c2 c3 c4 m0 m1 m2
      generalize wr.alloc (.cells #[.string x.key, .slice (some ⟨gb, 0, none⟩) x.f.length gc, .int .i64 x.cnt, .int .i64 x.now, .slice ca x.C.length cc] 52) = V at *
      generalize wr.heap.size = qn at HNn ⊢
      obtain ⟨hqn, y0, y1, y2, y3, y4⟩ := HNn.out
      go_region_with (go_at_call 52; refine (HCl.out _).mono ?_; rintro e w2 ⟨rfl, hb2⟩; have HB2 := hid (below_undrew hb2); obtain ⟨_, z0, z1, z2, z3, z4⟩ := HNn.out.on HB2.out; obtain ⟨W3, hupd, hM3, hs3⟩ := (HMn.out.on HB2.out).put x.key (by unfold maxLen; omega) HNew.out (by omega) (.agg #[.slice (some ⟨gb, 0, none⟩) x.f.length gc, .int .i64 x.cnt, .int .i64 x.now, .slice ca x.C.length cc]); have HM3 := hid hM3; have HS3 := hid hs3; clear hb2 hM3 hs3)
      all_goals
        go_wp2_with fail
        go_roundw
        case rel => exact ⟨k + 1, _, by omega, by go_num, by rw [HKs.out]; exact HM3.out, ((HS.out.trans (Save.of_below HBn.out _ (fun j h1 h2 => absurd h1 (by omega)))).trans (Save.of_below HB2.out _ (fun j h1 h2 => absurd h1 (by omega)))).trans HS3.out⟩
        case measure => simp [intOf]; omega
    · have hk' : k = R.length := by omega
      subst hk'
      go_wp2_with fail
      go_ret
      exact ⟨w.heap.size + 1, D, rfl, by omega, HM.out, HBE.out⟩
set_option maxRecDepth 20000 in
set_option maxHeartbeats 4000000 in
theorem implKeys_any (f : List Nd) (fb fc : Nat) (cap : Int) (R : List Rw) (ra : Option Addr) (rc : Nat) (K : List ByteArray) (hK : keysB f cap R = K) (w : World) (hT : TabIn w fb f ra R) (hkw : Kw w) (hg : 0 < w.heap.size) :
    Calls Tryz.prog 17 #[tbV (some ⟨fb, 0, none⟩) f.length fc cap ra R.length rc] w fun e w' => ∃ v, e = .returned v ∧ OwS w' w.heap.size v K ∧ RowKit.Below w.heap.size w w' := by
  have HT := hid hT
  have HKw := hid hkw
  have HB0 := hid (below_one' w (.cells #[.slice (some ⟨fb, 0, none⟩) f.length fc, .int .i64 cap, .slice ra R.length rc] 26))
  have HX0 := hid (TBox.new w (some ⟨fb, 0, none⟩) f.length fc cap ra R.length rc 26)
  have HR := hid (fun b (hb : tabB f cap R = b) w h hk hl => implTab_any f fb fc cap R ra rc b hb w h hk hl)
  unfold tbV at HR
  rcases Bool.eq_false_or_eq_true (tabB f cap R) with ht | ht
  · have HF := hid (HR.out true ht)
    obtain rfl : keysTo R R.length = K := by rw [← hK]; simp [keysB, ht]
    simp only [tabB, Bool.and_eq_true, decide_eq_true_eq, capB] at ht
    have hr := ht.2.2.2
    have hl : R.length ≤ 12 := by have := ht.2.1.2; have := ht.2.2.1; omega
    have HMo := hid (fun w h => monitorsOf_any f fb fc cap R ra rc hr hl w h)
    have HRi := hid (fun mb D w h => rising_any (n := R.length) hr mb R.length D w h (by omega))
    unfold tbV at HMo
    unfold tbV
    clear hT hkw hK ht hr HR
    go_enter Tryz.func17, Tryz.ntmps17
    go_wp2_with (first | (go_at_call 19; refine (HF.out _ (HT.out.on HB0.out) (HKw.out.below HB0.out hg) (by have := HB0.out.size; omega)).mono ?_; rintro e w1 ⟨rfl, hb1⟩; have HB1 := hid (HB0.out.trans (hb1.mono HB0.out.size)); obtain ⟨_, m0, m1, m2⟩ := HX0.out.on hb1; clear hb1) | (go_at_call 48; refine (HMo.out _ (HT.out.on HB1.out)).mono ?_; rintro e w2 ⟨mb, D, rfl, hmb, hM, hb2⟩; have HM := hid hM; have HB2 := hid (HB1.out.trans (hb2.mono HB1.out.size)); clear hb2 hM) | (go_at_call 66; refine (HRi.out mb D _ HM.out).mono ?_; rintro e w3 ⟨v, rfl, hO, hb3⟩; have HO := hid hO; have HB3 := hid (HB2.out.trans (hb3.mono HB2.out.size)); clear hb3 hO))
    go_ret
    exact ⟨v, rfl, ⟨HO.out.1, HO.out.2.imp id (fun ⟨g, c, cur, e, hb, rest⟩ => ⟨g, c, cur, e, Nat.le_trans HB2.out.size hb, rest⟩)⟩, HB3.out⟩
  · have HF := hid (HR.out false ht)
    obtain rfl : [] = K := by rw [← hK]; simp [keysB, ht]
    unfold tbV
    clear hT hkw hK ht HR
    go_enter Tryz.func17, Tryz.ntmps17
    go_wp2_with (go_at_call 19; refine (HF.out _ (HT.out.on HB0.out) (HKw.out.below HB0.out hg) (by have := HB0.out.size; omega)).mono ?_; rintro e w1 ⟨rfl, hb1⟩; have HB1 := hid (HB0.out.trans (hb1.mono HB0.out.size)); clear hb1)
    go_ret
    exact ⟨_, rfl, World.ownsRow_nil _ _ _ _, HB1.out⟩
end Go.Proofs.YtljhokoojodjnaaGreatDoor
namespace Go.Proofs.YtljhokoojodjnaaGreatDoor
open Go.RowKit
set_option linter.unusedVariables false
set_option linter.unusedSimpArgs false
theorem Tryz.uFm : Tryz.prog.underlying 89 = some (.slice 132) := by kernel_rfl
theorem eqIn_nil (w : World) (d : Nat) (t e : TypeId) (a : Addr) (l c : Nat) (h : Tryz.prog.underlying t = some (.slice e)) : (Op.equalIn (d + 1) t (.slice (some a) l c) (.slice none 0 0)).run Tryz.prog w = .ok false w := by
  simp [Op.equalIn, run_underlying h]
theorem equal_nil (w : World) (t e : TypeId) (a : Addr) (l c : Nat) (h : Tryz.prog.underlying t = some (.slice e)) : (Op.equal t (.slice (some a) l c) (.slice none 0 0)).run Tryz.prog w = .ok false w := eqIn_nil w 9999 t e a l c h
theorem eql_nil (w : World) (t e : TypeId) (a : Addr) (l c : Nat) (h : Tryz.prog.underlying t = some (.slice e)) : (binOp .eql t (.slice (some a) l c) (.slice none 0 0)).run Tryz.prog w = .ok (.bool false) w := by
  simp [binOp, equal_nil w t e a l c h]
theorem ownsN_none (w : World) (base : Nat) (h : base ≤ w.heap.size) : OwnsN (w.alloc (.cells #[] 132)) base (.slice (some ⟨w.heap.size, 0, none⟩) 0 0) [] :=
  World.ownsRow_made w #[] 0 h (by simp [maxLen]) (by simp)
theorem flatN_cells {W : World} {b : Nat} {f : List Nd} (h : NodesAt W b f) : ∀ j u, (flatN f)[j]? = some u → W.cell? ((⟨b, 0, none⟩ : Addr).add j) = some u := by
  intro j u hu
  have hj : j < f.length * 6 := by rw [← flatN_len]; exact (List.getElem?_eq_some_iff.1 hu).1
  have hi : j / 6 < f.length := by omega
  have e : j = j / 6 * 6 + j % 6 := by omega
  rw [e, flatN_get f (j / 6) (j % 6) hi (by omega)] at hu
  obtain ⟨c0, c1, c2, c3, c4, c5⟩ := h.2 (j / 6) hi
  rw [Addr.add_lit, Nat.zero_add]
  have hc : j % 6 = 0 ∨ j % 6 = 1 ∨ j % 6 = 2 ∨ j % 6 = 3 ∨ j % 6 = 4 ∨ j % 6 = 5 := by omega
  rw [e]
  generalize j / 6 = q at *
  generalize j % 6 = r at *
  rcases hc with rfl | rfl | rfl | rfl | rfl | rfl
  · simp [ndCells] at hu; rw [← hu]; exact c0
  · simp [ndCells] at hu; rw [← hu]; exact c1
  · simp [ndCells] at hu; rw [← hu]; exact c2
  · simp [ndCells] at hu; rw [← hu]; exact c3
  · simp [ndCells] at hu; rw [← hu]; exact c4
  · simp [ndCells] at hu; rw [← hu]; exact c5
theorem flatN_one (f : List Nd) : ∀ u ∈ flatN f, u.oneCell' = true := by
  intro u hu
  obtain ⟨x, _, hx⟩ := List.mem_flatMap.1 hu
  simp only [ndCells, List.mem_cons, List.not_mem_nil, or_false] at hx
  rcases hx with rfl | rfl | rfl | rfl | rfl | rfl <;> rfl
set_option maxRecDepth 20000 in
set_option maxHeartbeats 2000000 in
theorem cloneN_any (f : List Nd) (b cap : Nat) (hl : f.length ≤ 1048576) (w : World) (hN : NodesAt w b f) :
    Calls Tryz.prog 98 #[.slice (some ⟨b, 0, none⟩) f.length cap] w fun e w' => ∃ v, e = .returned v ∧ OwnsN w' w.heap.size v f ∧ Below w.heap.size w w' := by
  obtain ⟨i0, hi0, hz0, hz1, hz2⟩ := info_parts Tryz.infoN
  have HN := hid (hN.below (below_one' w (.cells #[] 132)) hN.1)
  have HB0 := hid (below_one' w (.cells #[] 132))
  have hnil : ∀ W, (binOp .eql 89 (.slice (some ⟨b, 0, none⟩) f.length cap) (.slice none 0 0)).run Tryz.prog W = .ok (.bool false) W := fun W => eql_nil W 89 _ ⟨b, 0, none⟩ _ _ Tryz.uFm
  clear hN
  go_enter Tryz.func98, Tryz.ntmps98
  go_wp2_with (at_builtin; go_loud (refine wpList_append_own_at _ rfl _ _ 89 rfl w.heap.size 132 i0 _ 6 56 Tryz.uFm hi0 hz0 hz1 hz2 rfl (by decide) _ 0 [] rfl (ownsN_none w w.heap.size (Nat.le_refl _)) ⟨b, 0, none⟩ f.length cap (flatN f) rfl (flatN_len f) (flatN_cells HN.out) (flatN_one f) (by unfold maxLen; omega) (by omega) (by simp) ?_; intro v5 w5 hown5 hgrow5 _ hat5; have HO5 : Hid (OwnsN w5 w.heap.size v5 f) := (by show w5.ownsRow _ _ _ _ _ _; simpa using hown5); have hs5 : Save w w5 (fun _ => False) := ((Save.refl w (fun _ => False)).alloc _).grown hgrow5 (fun k hk h => by simp [Value.ownBlock, Act.eval, Act.put] at hk; omega); have HB5 := hid (hs5.below (B := w.heap.size) (Nat.le_refl _) (fun j h => h.elim)); clear hown5 hgrow5 hat5 hs5))
  go_ret
  exact ⟨v5, rfl, HO5.out, HB5.out⟩
/-- A row of nodes that a call owns, as a row that may be longer. -/
theorem OwnsN.row {w : World} {base : Nat} {v : Value} {f : List Nd} (h : OwnsN w base v f) (h0 : 0 < f.length) : ∃ g c m z, v = .slice (some ⟨g, 0, none⟩) f.length c ∧ SlV (some ⟨g, 0, none⟩) f.length c ∧ base ≤ g ∧ f.length * 6 ≤ m ∧ w.rowIs g 132 m z ∧ (∀ i, i < f.length → z (i * 6 + 5) = .string (ndAt f i).nm) ∧ ∀ w' : World, w'.rowIs g 132 m z → NodesAt w' g f := by
  have hO := h
  rcases h.2 with ⟨_, h1⟩ | ⟨g, cap, cur, rfl, hb, hg, h1, h2, h3, h4⟩
  · omega
  · have hrow : w.rowIs g 132 cur.size (fun j => cur.getD j undef) := ⟨cur, hg, rfl, fun i hi => by simp [hi]⟩
    have hat := hO.at
    have key : ∀ i j v, i < f.length → j < 6 → w.cell? ⟨g, i * 6 + j, none⟩ = some v → cur.getD (i * 6 + j) undef = v := by
      intro i j v hi hj hc
      have h5 := hrow.cell (i := i * 6 + j) (by omega)
      rw [hc] at h5
      exact (Option.some.inj h5).symm
    refine ⟨g, cap, cur.size, _, rfl, Or.inr ⟨g, 0, rfl, h1, h2⟩, hb, by omega, hrow, fun i hi => key i 5 _ hi (by omega) (hat.2 i hi).c5, fun w' hr => ⟨hr.lt, fun i hi => ?_⟩⟩
    obtain ⟨c0, c1, c2, c3, c4, c5⟩ := hat.2 i hi
    have cell : ∀ j v, j < 6 → w.cell? ⟨g, i * 6 + j, none⟩ = some v → w'.cell? ⟨g, i * 6 + j, none⟩ = some v := fun j v hj hc => by
      rw [hr.cell (i := i * 6 + j) (by omega), key i j v hi hj hc]
    exact ⟨cell 0 _ (by omega) c0, cell 1 _ (by omega) c1, cell 2 _ (by omega) c2, cell 3 _ (by omega) c3, cell 4 _ (by omega) c4, cell 5 _ (by omega) c5⟩
set_option maxRecDepth 20000 in
set_option maxHeartbeats 4000000 in
theorem own_nodes (f : List Nd) (b cap : Nat) (h0 : 0 < f.length) (hl : f.length ≤ 1048576) (hnm : ∀ i, i < f.length → (ndAt f i).nm.size ≤ 10000) (w : World) (hN : NodesAt w b f) :
    Calls Tryz.prog 53 #[.slice (some ⟨b, 0, none⟩) f.length cap] w fun e w' => ∃ g c m z, e = .returned (.slice (some ⟨g, 0, none⟩) f.length c) ∧ SlV (some ⟨g, 0, none⟩) f.length c ∧ w.heap.size ≤ g ∧ f.length * 6 ≤ m ∧ w'.rowIs g 132 m z ∧ NodesAt w' g f ∧ Below w.heap.size w w' := by
  have HN := hid hN
  have HNm := hid hnm
  have HC := hid (cloneN_any f b cap hl w hN)
  have hbw := hN.1
  clear hN hnm
  go_enter Tryz.func53, Tryz.ntmps53
  go_wp2_with (go_at_call 98; refine HC.out.mono ?_; rintro e w1 ⟨v1, rfl, hO1, hb1⟩; obtain ⟨g, c, m, z, rfl, hsl, hg, hm, hr1, hz5, hall⟩ := hO1.row h0; have HSL := hid hsl; have HR1 := hid hr1; have HZ5 := hid hz5; have HAll := hid hall; have HB1 := hid hb1; clear hO1 hb1 hsl hr1 hz5 hall)
  go_loopw [10] (fun t wr => ∃ k : Nat, k ≤ f.length ∧ t = .int .i64 k ∧ wr.rowIs g 132 m z ∧ Below w.heap.size w wr) (fun t _ => f.length - (intOf t).toNat)
  case atStart => exact ⟨0, Nat.zero_le _, rfl, HR1.out, HB1.out⟩
  case round =>
    obtain ⟨k, hk, rfl, hrow, hbel⟩ := hrel
    have HRow := hid hrow
    have HB := hid hbel
    have hgr := hrow.lt
    clear hrow hbel
    by_cases hlt : k < f.length
    · obtain ⟨n0, n1, n2, n3, n4, n5⟩ := (HN.out.2 k hlt).below HB.out hbw
      have hbr : b < wr.heap.size := by have := HB.out.size; omega
      have hn10 := HNm.out k hlt
      have HZk := hid (HZ5.out k hlt)
      have HBa := hid (below_one' wr (.cells #[.int .i64 (ndAt f k).k, .int .i64 (ndAt f k).a, .int .i64 (ndAt f k).b, .int .i64 (ndAt f k).lo, .int .i64 (ndAt f k).hi, .string (ndAt f k).nm] 132))
      have HCl := hid (fun w => clone_any (ndAt f k).nm hn10 w)
      generalize ndAt f k = x at *
      go_wp2_with (go_at_call 52; refine (HCl.out _).mono ?_; rintro e w2 ⟨rfl, hb2⟩; have HB2 := hid (HB.out.trans ((HBa.out.trans (hb2.mono HBa.out.size)).mono HB.out.size)); have HR2 := hid ((World.rowIs.alloc HRow.out _).of_block (hb2.block g (by simp; omega))); have d5 := HR2.out.cell (i := k * 6 + 5) (by omega); have f5 := HR2.out.frozen (k * 6 + 5); clear hb2)
      go_roundw
      case rel =>
        refine ⟨k + 1, by omega, by go_num, (HR2.out.set (k * 6 + 5) _).congr (fun j hj => ?_), HB2.out.setCell hg _⟩
        by_cases e : j = k * 6 + 5
        · subst e; simp [HZk.out]
        · simp [e]
      case measure => simp [intOf]; omega
    · have hk' : k = f.length := by omega
      subst hk'
      go_wp2_with fail
      go_ret
      exact ⟨g, c, m, z, rfl, HSL.out, hg, hm, HRow.out, HAll.out _ HRow.out, HB.out⟩
end Go.Proofs.YtljhokoojodjnaaGreatDoor
namespace Go.Proofs.YtljhokoojodjnaaGreatDoor
open Go.RowKit
set_option linter.unusedVariables false
set_option linter.unusedSimpArgs false
theorem Tryz.infoStr : (Tryz.prog.info? 9).map (fun i => (i.zero, i.size, i.bytes)) = some (some (.string ⟨#[]⟩), 1, 16) := by kernel_rfl
theorem Tryz.uStrs : Tryz.prog.underlying 27 = some (.slice 9) := by kernel_rfl
theorem cells_str (X : World) (s : ByteArray) : ∀ j u, ([Value.string s])[j]? = some u → (X.alloc (.cells #[.string s] 9)).cell? ((⟨X.heap.size, 0, none⟩ : Addr).add j) = some u := by
  intro j u hu
  have hj : j < 1 := by have := (List.getElem?_eq_some_iff.1 hu).1; simpa using this
  obtain rfl : j = 0 := by omega
  rw [Addr.add_lit, Nat.zero_add]
  simp at hu
  subst hu
  simp [go_sem]
theorem str_one (s : ByteArray) : ∀ u ∈ [Value.string s], u.oneCell' = true := by
  intro u hu
  simp only [List.mem_singleton] at hu
  subst hu
  rfl
theorem owS_on {w w' : World} {base : Nat} {v : Value} {S : List ByteArray} (h : OwS w base v S) (hb : Below w.heap.size w w') : OwS w' base v S :=
  ⟨h.1, h.2.imp id (fun ⟨g, cap, cur, a, b, c, d⟩ => ⟨g, cap, cur, a, b, (hb.block g (Array.getElem?_eq_some_iff.1 c).1).trans c, d⟩)⟩
theorem owS_base {w : World} {base : Nat} {v : Value} {S : List ByteArray} (h : OwS w base v S) (j : Nat) (e : v.ownBlock = some j) : base ≤ j := by
  rcases h.2 with ⟨hv, _⟩ | ⟨g, cap, cur, hv, hb, _⟩
  · subst hv; simp [Value.ownBlock] at e
  · subst hv; simp [Value.ownBlock] at e; omega
theorem owS_put {w w3 : World} {base k : Nat} {v v' : Value} {R : List Rw} (h : w3.ownsRow base 9 1 v' (k + 1) ((keysTo R k).map Value.string ++ [Value.string (rwAt R k).key])) : OwS w3 base v' (keysTo R (k + 1)) := by
  unfold OwS
  rw [keysTo_len, keysTo_succ, List.map_append]
  exact h
theorem owS_none (w : World) (base : Nat) (h : base ≤ w.heap.size) : OwS (w.alloc (.cells #[] 9)) base (.slice (some ⟨w.heap.size, 0, none⟩) 0 0) [] :=
  World.ownsRow_made w #[] 0 h (by simp [maxLen]) (by simp)
set_option maxRecDepth 20000 in
set_option maxHeartbeats 4000000 in
theorem specKeys_any (f : List Nd) (fb fc : Nat) (cap : Int) (R : List Rw) (ra : Option Addr) (rc : Nat) (K : List ByteArray) (hK : keysB f cap R = K) (w : World) (hT : TabIn w fb f ra R) :
    Calls Tryz.prog 18 #[tbV (some ⟨fb, 0, none⟩) f.length fc cap ra R.length rc] w fun e w' => ∃ v, e = .returned v ∧ OwS w' w.heap.size v K ∧ Below w.heap.size w w' := by
  obtain ⟨i0, hi0, hz0, hz1, hz2⟩ := info_parts Tryz.infoStr
  have HT := hid hT
  have HB0 := hid (below_one' w (.cells #[.slice (some ⟨fb, 0, none⟩) f.length fc, .int .i64 cap, .slice ra R.length rc] 26))
  have HX0 := hid (TBox.new w (some ⟨fb, 0, none⟩) f.length fc cap ra R.length rc 26)
  have HR := hid (fun b (hb : tabB f cap R = b) w h => specTab_any f fb fc cap R ra rc b hb w h)
  have HO0 := hid (owS_none (w.alloc (.cells #[.slice (some ⟨fb, 0, none⟩) f.length fc, .int .i64 cap, .slice ra R.length rc] 26)) (w.heap.size + 1) (by simp))
  have HB1 := hid (HB0.out.alloc HB0.out.size (.cells #[] 9))
  have HX1 := hid (HX0.out.on (below_one' _ (.cells #[] 9)))
  have hlr := hT.lr
  unfold tbV at HR
  unfold tbV
  clear hT
  rcases Bool.eq_false_or_eq_true (tabB f cap R) with ht | ht
  · have HF := hid (HR.out true ht)
    obtain rfl : keysTo R R.length = K := by rw [← hK]; simp [keysB, ht]
    clear HR hK ht
    go_enter Tryz.func18, Tryz.ntmps18
    go_wp2_with fail
    have hmq : (w.alloc (.cells #[.slice (some ⟨fb, 0, none⟩) f.length fc, .int .i64 cap, .slice ra R.length rc] 26)).heap.size = w.heap.size + 1 := by simp
    rw [hmq] at HO0
    generalize (w.alloc (.cells #[.slice (some ⟨fb, 0, none⟩) f.length fc, .int .i64 cap, .slice ra R.length rc] 26)).alloc (.cells #[] 9) = W1 at *
    go_loopw [3, 4] (fun s t wr => ∃ (k : Nat) (va : Option Addr) (vc : Nat), k ≤ R.length ∧ t = .int .i64 k ∧ s = .slice va k vc ∧ OwS wr (w.heap.size + 1) (.slice va k vc) (keysTo R k) ∧ Below w.heap.size w wr ∧ TBox wr w.heap.size (some ⟨fb, 0, none⟩) f.length fc cap ra R.length rc) (fun _ t _ => R.length - (intOf t).toNat)
    case atStart => exact ⟨0, _, _, Nat.zero_le _, rfl, rfl, HO0.out, HB1.out, HX1.out⟩
    case round =>
      obtain ⟨k, va, vc, hk, rfl, rfl, hO, hbel, hX⟩ := hrel
      have HO := hid hO
      have HB := hid hbel
      have HX := hid hX
      obtain ⟨hq, m0, m1, m2⟩ := hX
      clear hO hbel
      by_cases hlt : k < R.length
      · have HTr := hid (HT.out.on HB.out)
        rcases HTr.out.rows with h0 | ⟨b, off, rfl, hb, hcs⟩
        · omega
        have HC0 := hid (hcs k hlt).1
        have HPut := hid (fun (w3 : World) (v' : Value) h => owS_put (w := wr) (w3 := w3) (base := w.heap.size + 1) (k := k) (v := .slice va k vc) (v' := v') (R := R) h)
        have HKl := hid (keysTo_len R k)
        generalize (rwAt R k).key = key at *
        clear hcs
        go_wp2_with (first | (go_at_call 20; refine (HF.out _ HTr.out).mono ?_; rintro e w1 ⟨rfl, hb1⟩; have HB2 := hid (HB.out.trans (hb1.mono HB.out.size)); have HX2 := hid (HX.out.on hb1); have HO2 := hid (owS_on HO.out hb1); have c0 := (hb1.cell (p := ⟨b, _, none⟩) hb).trans HC0.out; clear m0 m1 m2; obtain ⟨hq2, m0, m1, m2⟩ := HX2.out; clear hb1) | (at_builtin; go_loud (refine wpList_append_own_at _ rfl _ _ 27 rfl (w.heap.size + 1) 9 i0 _ 1 16 Tryz.uStrs hi0 hz0 hz1 hz2 rfl (by decide) (.slice va k vc) k ((keysTo R k).map Value.string) rfl (by have := owS_on HO2.out (below_one' w1 (.cells #[.string key] 9)); unfold OwS at this; rw [HKl.out] at this; exact this) ⟨w1.heap.size, 0, none⟩ 1 1 [Value.string key] rfl rfl (cells_str w1 key) (str_one key) (by unfold maxLen; omega) (by omega) (by simp; omega) ?_; intro v' w3 hown3 hgrow3 _ hat3; have HO3 := hid (HPut.out _ _ hown3); have HS3 : Hid (Save w1 w3 (fun j => w.heap.size + 1 ≤ j)) := ((Save.refl w1 _).alloc _).grown hgrow3 (fun j hj _ => owS_base HO2.out j hj); obtain ⟨gb, cp, rfl, _, _⟩ := World.ownsRow.form hown3 (by omega); clear hown3 hgrow3 hat3)))
        go_roundw
        case rel => exact ⟨k + 1, _, _, by omega, by go_num, rfl, HO3.out, HB2.out.trans (HS3.out.below (B := w.heap.size) HB2.out.size (fun j h => by omega)), HX2.out.save HS3.out (by omega)⟩
        case measure => simp [intOf]; omega
      · have hk' : k = R.length := by omega
        subst hk'
        go_wp2_with fail
        go_ret
        exact ⟨_, rfl, ⟨HO.out.1, HO.out.2.imp id (fun ⟨g, c, cur, e, hb, rest⟩ => ⟨g, c, cur, e, by omega, rest⟩)⟩, HB.out⟩
  · have HF := hid (HR.out false ht)
    obtain rfl : [] = K := by rw [← hK]; simp [keysB, ht]
    clear HR hK ht
    by_cases h0 : ¬ 0 < R.length
    · have hz : ¬ (0 : Int) < (R.length : Int) := by omega
      clear h0
      go_enter Tryz.func18, Tryz.ntmps18
      go_wp2_with fail
      have hmq : (w.alloc (.cells #[.slice (some ⟨fb, 0, none⟩) f.length fc, .int .i64 cap, .slice ra R.length rc] 26)).heap.size = w.heap.size + 1 := by simp
      rw [hmq] at HO0
      generalize (w.alloc (.cells #[.slice (some ⟨fb, 0, none⟩) f.length fc, .int .i64 cap, .slice ra R.length rc] 26)).alloc (.cells #[] 9) = W1 at *
      go_loopw [3, 4] (fun s t wr => t = .int .i64 0 ∧ s = .slice (some ⟨w.heap.size + 1, 0, none⟩) 0 0 ∧ wr = W1) (fun _ _ _ => 0)
      case atStart => exact ⟨rfl, rfl, rfl⟩
      case round =>
        obtain ⟨rfl, rfl, rfl⟩ := hrel
        obtain ⟨hq, m0, m1, m2⟩ := HX1.out
        go_wp2_with fail
        go_ret
        exact ⟨_, rfl, ⟨HO0.out.1, HO0.out.2.imp id (fun ⟨g, c, cur, e, hb, rest⟩ => ⟨g, c, cur, e, by omega, rest⟩)⟩, HB1.out⟩
    · go_enter Tryz.func18, Tryz.ntmps18
      go_wp2_with fail
      have hmq : (w.alloc (.cells #[.slice (some ⟨fb, 0, none⟩) f.length fc, .int .i64 cap, .slice ra R.length rc] 26)).heap.size = w.heap.size + 1 := by simp
      rw [hmq] at HO0
      generalize (w.alloc (.cells #[.slice (some ⟨fb, 0, none⟩) f.length fc, .int .i64 cap, .slice ra R.length rc] 26)).alloc (.cells #[] 9) = W1 at *
      go_loopw [3, 4] (fun s t wr => t = .int .i64 0 ∧ s = .slice (some ⟨w.heap.size + 1, 0, none⟩) 0 0 ∧ wr = W1) (fun _ _ _ => 0)
      case atStart => exact ⟨rfl, rfl, rfl⟩
      case round =>
        obtain ⟨rfl, rfl, rfl⟩ := hrel
        obtain ⟨hq, m0, m1, m2⟩ := HX1.out
        have hpos : (0 : Int) < (R.length : Int) := by omega
        go_wp2_with (go_at_call 20; refine (HF.out _ (HT.out.on HB1.out)).mono ?_; rintro e w1 ⟨rfl, hb1⟩; have HB2 := hid (HB1.out.trans (hb1.mono HB1.out.size)); have HO2 := hid (owS_on HO0.out hb1); clear hb1)
        go_ret
        exact ⟨_, rfl, ⟨HO2.out.1, HO2.out.2.imp id (fun ⟨g, c, cur, e, hb, rest⟩ => ⟨g, c, cur, e, by omega, rest⟩)⟩, HB2.out⟩
end Go.Proofs.YtljhokoojodjnaaGreatDoor
namespace Go.Proofs.YtljhokoojodjnaaGreatDoor
open Go.RowKit
set_option linter.unusedVariables false
set_option linter.unusedSimpArgs false
def rwW (x : Rw) : Nat := x.f.length + x.C.length + sumT x.C x.C.length
def sumW (R : List Rw) : Nat → Nat
  | 0 => 0
  | k + 1 => sumW R k + rwW (rwAt R k)
set_option maxHeartbeats 400000 in
theorem szNode_down (x : Nd) (hs : x.nm.size ≤ maxLen) (left : Int) (h1 : 0 ≤ left) (h2 : left ≤ 1048576) (w : World) :
    Calls Tryz.prog 120 #[ndV x, .int .i64 left] w fun e w' => ∃ r : Int, e = .returned (.int .i64 r) ∧ -1 ≤ r ∧ r ≤ left ∧ (0 ≤ r → x.nm.size ≤ 1048576) ∧ Below w.heap.size w w' := by
  unfold maxLen at hs
  unfold ndV
  by_cases h : left - (x.nm.size : Int) < 0
  · go_enter Tryz.func120, Tryz.ntmps120
    go_wp2
    go_ret
    exact ⟨-1, rfl, by omega, by omega, by omega, (Below.refl _ _).alloc (Nat.le_refl _) _⟩
  · go_enter Tryz.func120, Tryz.ntmps120
    go_wp2
    go_ret
    exact ⟨left - x.nm.size, rfl, by omega, by omega, by omega, (Below.refl _ _).alloc (Nat.le_refl _) _⟩
set_option maxRecDepth 20000 in
set_option maxHeartbeats 1000000 in
theorem szNodeS_sum (f : List Nd) (a : Option Addr) (cap : Nat) (hs : ∀ i, i < f.length → (ndAt f i).nm.size ≤ maxLen) (hl : f.length ≤ maxLen) (left : Int) (hl1 : 0 ≤ left) (hl2 : left ≤ 1048576) (w : World) (hA : ArgN w a f) :
    Calls Tryz.prog 75 #[.slice a f.length cap, .int .i64 left] w fun e w' => ∃ r : Int, e = .returned (.int .i64 r) ∧ -1 ≤ r ∧ r ≤ 1048576 ∧ (0 ≤ r → r + f.length ≤ left ∧ ∀ i, i < f.length → (ndAt f i).nm.size ≤ 1048576) ∧ Below w.heap.size w w' := by
  unfold maxLen at hl
  have HS := hid hs
  have HA := hid hA
  clear hs hA
  by_cases h : left - (f.length : Int) < 0
  · go_enter Tryz.func75, Tryz.ntmps75
    go_wp2
    go_ret
    exact ⟨-1, rfl, by omega, by omega, by omega, Below.refl _ _⟩
  go_enter Tryz.func75, Tryz.ntmps75
  go_wp2_with fail
  go_loopw [1, 5] (fun l t wr => ∃ (k : Nat) (r : Int), k ≤ f.length ∧ t = .int .i64 k ∧ l = .int .i64 r ∧ 0 ≤ r ∧ r + f.length ≤ left ∧ (∀ i, i < k → (ndAt f i).nm.size ≤ 1048576) ∧ Below w.heap.size w wr) (fun _ t _ => f.length - (intOf t).toNat)
  case atStart => exact ⟨0, _, Nat.zero_le _, rfl, rfl, by omega, by omega, fun i h => by omega, Below.refl _ _⟩
  case round =>
    obtain ⟨k, r, hk, rfl, rfl, hr1, hr2, hsz, hbel⟩ := hrel
    have HZ := hid hsz
    have HB := hid hbel
    clear hsz hbel
    by_cases hlt : k < f.length
    · rcases HA.out with h0 | ⟨b, off, rfl, hb, hc⟩
      · omega
      · obtain ⟨c0, c1, c2, c3, c4, c5⟩ := (hc k hlt).below HB.out hb
        clear hc
        have HX := hid (HS.out k hlt)
        have HC := hid (fun w => szNode_down (ndAt f k) HX.out r hr1 (by omega) w)
        have hle : f.length ≤ 1048576 := by omega
        clear h
        go_wp2_with (go_at_call 120; refine (HC.out _).mono ?_; rintro e w1 ⟨r', rfl, q1, q2, q3, hb1⟩; have HB1 : Hid (Below w.heap.size w w1) := HB.out.trans (hb1.mono HB.out.size); have HQ := hid q3; clear q3 hb1)
        · go_ret
          exact ⟨-1, rfl, by omega, by omega, by omega, HB1.out⟩
        · go_roundw
          case rel => exact ⟨k + 1, r', by omega, by go_num, rfl, by omega, by omega, fun i hi => by
            by_cases e : i = k
            · subst e; exact HQ.out (by omega)
            · exact HZ.out i (by omega), HB1.out⟩
          case measure => simp [intOf]; omega
    · go_wp2_with fail
      go_ret
      exact ⟨r, rfl, by omega, by omega, fun _ => ⟨by omega, fun i hi => HZ.out i (by omega)⟩, HB.out⟩
set_option maxRecDepth 20000 in
set_option maxHeartbeats 1000000 in
theorem szCellS_sum (C : List Cl) (a : Option Addr) (cap : Nat) (hs : ∀ i, i < C.length → ClOk (clAt C i)) (hl : C.length ≤ maxLen) (left : Int) (h1 : 0 ≤ left) (h2 : left ≤ 1048576) (w : World) (hA : ArgCs w a C) :
    Calls Tryz.prog 179 #[.slice a C.length cap, .int .i64 left] w fun e w' => ∃ r : Int, e = .returned (.int .i64 r) ∧ -1 ≤ r ∧ r ≤ 1048576 ∧ (0 ≤ r → r + C.length + sumT C C.length ≤ left) ∧ Below w.heap.size w w' := by
  unfold maxLen at hl
  have HS := hid hs
  have HA := hid hA
  have HU : Hid (∀ lo hi a n c was, ckV lo hi a n c was = .agg #[.int .i64 lo, .int .i64 hi, .slice a n c, .bool was]) := fun _ _ _ _ _ _ => rfl
  clear hs hA
  by_cases h : left - (C.length : Int) < 0
  · go_enter Tryz.func179, Tryz.ntmps179
    go_wp2
    go_ret
    exact ⟨-1, rfl, by omega, by omega, by omega, Below.refl _ _⟩
  go_enter Tryz.func179, Tryz.ntmps179
  go_wp2_with fail
  go_loopw [1, 5] (fun l t wr => ∃ (k : Nat) (r : Int), k ≤ C.length ∧ t = .int .i64 k ∧ l = .int .i64 r ∧ 0 ≤ r ∧ r ≤ 1048576 ∧ r + C.length + sumT C k ≤ left ∧ Below w.heap.size w wr) (fun _ t _ => C.length - (intOf t).toNat)
  case atStart => exact ⟨0, _, Nat.zero_le _, rfl, rfl, by omega, by omega, by simp [sumT] <;> omega, Below.refl _ _⟩
  case round =>
    obtain ⟨k, r, hk, rfl, rfl, hr1, hr2, hr3, hbel⟩ := hrel
    have HS1 := hid (show sumT C (k + 1) = sumT C k + (clAt C k).ts.length from rfl)
    have HB := hid hbel
    have HR3 := hid hr3
    clear hbel hr3
    by_cases hlt : k < C.length
    · rcases HA.out with h0 | ⟨b, off, rfl, hb, hc⟩
      · omega
      · obtain ⟨c0, c1, c3, a', c', c2, hT⟩ := (hc k hlt).below HB.out (Nat.le_refl _) hb
        obtain ⟨_, _, ho2⟩ := HS.out k hlt
        have HC := hid (fun w => szCell_any (clAt C k).lo (clAt C k).hi (clAt C k).ts.length a' c' (clAt C k).was ho2 r hr1 hr2 w)
        rw [HU.out] at HC
        clear hc h hT ho2
        go_wp2_with (go_at_call 203; refine (HC.out _).mono ?_; rintro e w1 ⟨r', rfl, q1, q2, q3, hb1⟩; have HB1 : Hid (Below w.heap.size w w1) := HB.out.trans (hb1.mono HB.out.size); have HQ := hid q3; clear q3 hb1)
        · go_ret
          exact ⟨-1, rfl, by omega, by omega, by omega, HB1.out⟩
        · go_roundw
          case rel => exact ⟨k + 1, r', by omega, by go_num, rfl, by omega, q2, by have := HQ.out (by omega); have := HR3.out; rw [HS1.out]; push_cast; omega, HB1.out⟩
          case measure => simp [intOf]; omega
    · go_wp2_with fail
      go_ret
      have hk' : k = C.length := by omega
      exact ⟨r, rfl, by omega, by omega, fun _ => by subst hk'; have := HR3.out; omega, HB.out⟩
set_option maxRecDepth 20000 in
set_option maxHeartbeats 2000000 in
theorem szMon_sum (x : Rw) (ho : RwOk x) (fa : Option Addr) (fc : Nat) (ca : Option Addr) (cc : Nat) (left : Int) (hl1 : 0 ≤ left) (hl2 : left ≤ 1048576) (w : World) (hF : ArgN w fa x.f) (hC : ArgCs w ca x.C) :
    Calls Tryz.prog 154 #[moV fa x.f.length fc x.cnt x.now ca x.C.length cc, .int .i64 left] w fun e w' => ∃ r : Int, e = .returned (.int .i64 r) ∧ -1 ≤ r ∧ r ≤ 1048576 ∧ (0 ≤ r → r + rwW x ≤ left ∧ RwSz x) ∧ Below w.heap.size w w' := by
  unfold moV
  have HB0 := hid (below_one' w (.cells #[.slice fa x.f.length fc, .int .i64 x.cnt, .int .i64 x.now, .slice ca x.C.length cc] 161))
  have HX := hid (MBox.new w fa x.f.length fc x.cnt x.now ca x.C.length cc 161)
  have HN := hid (fun w h => szNodeS_sum x.f fa fc (fun i hi => (ho.ok i hi).nm) ho.lf left hl1 hl2 w h)
  have HCS := hid (fun r h1 h2 w h => szCellS_sum x.C ca cc ho.cok ho.lc r h1 h2 w h)
  have HF := hid hF
  have HCa := hid hC
  clear hF hC ho
  go_enter Tryz.func154, Tryz.ntmps154
  go_wp2_with (first | (go_at_call 75; refine (HN.out _ (HF.out.below HB0.out (Nat.le_refl _))).mono ?_; rintro e w1 ⟨r, rfl, q1, q2, q3, hb⟩; have HQ := hid q3; have HB1 := hid (HB0.out.trans (hb.mono (by simp))); obtain ⟨_, m0, m1, m2, m3⟩ := HX.out.on hb; clear q3 hb) | (go_at_call 179; refine (HCS.out r (by omega) (by omega) _ (HCa.out.below HB1.out (Nat.le_refl _))).mono ?_; rintro e w2 ⟨r2, rfl, p1, p2, p3, hb2⟩; have HP := hid p3; have HB2 := hid (HB1.out.trans (hb2.mono HB1.out.size)); clear p3 hb2))
  · go_ret
    exact ⟨-1, rfl, by omega, by omega, by omega, HB1.out⟩
  · go_ret
    exact ⟨-1, rfl, by omega, by omega, by omega, HB2.out⟩
  · go_ret
    exact ⟨r2, rfl, by omega, by omega, fun h => by
      have h1 := (HQ.out (by omega)).1
      have h2 := HP.out h
      have hw : rwW x = x.f.length + x.C.length + sumT x.C x.C.length := rfl
      exact ⟨by omega, by omega, (HQ.out (by omega)).2, by omega, by omega⟩, HB2.out⟩
set_option maxRecDepth 20000 in
set_option maxHeartbeats 2000000 in
theorem szRow_sum (x : Rw) (ho : RwOk x) (fa : Option Addr) (fc : Nat) (ca : Option Addr) (cc : Nat) (left : Int) (hl1 : 0 ≤ left) (hl2 : left ≤ 1048576) (w : World) (hF : ArgN w fa x.f) (hC : ArgCs w ca x.C) :
    Calls Tryz.prog 121 #[rwV x.key fa x.f.length fc x.cnt x.now ca x.C.length cc, .int .i64 left] w fun e w' => ∃ r : Int, e = .returned (.int .i64 r) ∧ -1 ≤ r ∧ r ≤ 1048576 ∧ (0 ≤ r → r + rwW x ≤ left ∧ RwSz x) ∧ Below w.heap.size w w' := by
  have HB0 := hid (below_one' w (.cells #[.string x.key, .slice fa x.f.length fc, .int .i64 x.cnt, .int .i64 x.now, .slice ca x.C.length cc] 163))
  have HM := hid (fun l h1 h2 w hf hc => szMon_sum x ho fa fc ca cc l h1 h2 w hf hc)
  unfold moV at HM
  unfold rwV
  have HF := hid hF
  have HCa := hid hC
  have hk := ho.key
  have hkl : (x.key.size : Int) = (x.key.toList.length : Int) ∨ True := Or.inr trivial
  unfold maxLen at hk
  clear hF hC ho hkl
  by_cases h : left - (x.key.size : Int) < 0
  · go_enter Tryz.func121, Tryz.ntmps121
    go_wp2_with fail
    go_ret
    exact ⟨-1, rfl, by omega, by omega, by omega, HB0.out⟩
  go_enter Tryz.func121, Tryz.ntmps121
  go_wp2_with (go_at_call 154; refine (HM.out (left - (x.key.size : Int)) (by omega) (by omega) _ (HF.out.below HB0.out (Nat.le_refl _)) (HCa.out.below HB0.out (Nat.le_refl _))).mono ?_; rintro e w1 ⟨r, rfl, q1, q2, q3, hb⟩; have HQ := hid q3; have HB1 := hid (HB0.out.trans (hb.mono (by simp))); clear q3 hb)
  · go_ret
    exact ⟨-1, rfl, by omega, by omega, by omega, HB1.out⟩
  · go_ret
    exact ⟨r, rfl, by omega, by omega, fun h => ⟨by have := (HQ.out h).1; omega, (HQ.out h).2⟩, HB1.out⟩
set_option maxRecDepth 20000 in
set_option maxHeartbeats 1000000 in
theorem szRowS_sum (R : List Rw) (a : Option Addr) (cap : Nat) (hs : ∀ i, i < R.length → RwOk (rwAt R i)) (hl : R.length ≤ maxLen) (left : Int) (h1 : 0 ≤ left) (h2 : left ≤ 1048576) (w : World) (hA : ArgRs w a R) :
    Calls Tryz.prog 76 #[.slice a R.length cap, .int .i64 left] w fun e w' => ∃ r : Int, e = .returned (.int .i64 r) ∧ -1 ≤ r ∧ r ≤ 1048576 ∧ (0 ≤ r → r + R.length + sumW R R.length ≤ left ∧ ∀ i, i < R.length → RwSz (rwAt R i)) ∧ Below w.heap.size w w' := by
  unfold maxLen at hl
  have HS := hid hs
  have HA := hid hA
  have HU : Hid (∀ key fa fn fc cnt now ca cn cc, rwV key fa fn fc cnt now ca cn cc = .agg #[.string key, .slice fa fn fc, .int .i64 cnt, .int .i64 now, .slice ca cn cc]) := fun _ _ _ _ _ _ _ _ _ => rfl
  clear hs hA
  by_cases h : left - (R.length : Int) < 0
  · go_enter Tryz.func76, Tryz.ntmps76
    go_wp2
    go_ret
    exact ⟨-1, rfl, by omega, by omega, by omega, Below.refl _ _⟩
  go_enter Tryz.func76, Tryz.ntmps76
  go_wp2_with fail
  go_loopw [1, 5] (fun l t wr => ∃ (k : Nat) (r : Int), k ≤ R.length ∧ t = .int .i64 k ∧ l = .int .i64 r ∧ 0 ≤ r ∧ r + R.length + sumW R k ≤ left ∧ (∀ i, i < k → RwSz (rwAt R i)) ∧ Below w.heap.size w wr) (fun _ t _ => R.length - (intOf t).toNat)
  case atStart => exact ⟨0, _, Nat.zero_le _, rfl, rfl, by omega, by simp [sumW] <;> omega, fun i hi => by omega, Below.refl _ _⟩
  case round =>
    obtain ⟨k, r, hk, rfl, rfl, hr1, hr2, hr3, hbel⟩ := hrel
    have HB := hid hbel
    have HR3 := hid hr3
    clear hbel hr3
    by_cases hlt : k < R.length
    · rcases HA.out with h0 | ⟨b, off, rfl, hb, hc⟩
      · omega
      · obtain ⟨c0, c2, c3, ⟨fa, fc, c1, hF⟩, ⟨ca, cc, c4, hC⟩⟩ := (hc k hlt).below HB.out (Nat.le_refl _) hb
        have HSu : Hid (sumW R (k + 1) = sumW R k + rwW (rwAt R k)) := rfl
        have HC := hid (szRow_sum (rwAt R k) (HS.out k hlt) fa fc ca cc r hr1 (by omega) wr hF hC)
        rw [HU.out] at HC
        clear hc h hF hC
        go_wp2_with (go_at_call 121; refine HC.out.mono ?_; rintro e w1 ⟨r', rfl, q1, q2, q3, hb1⟩; have HB1 : Hid (Below w.heap.size w w1) := HB.out.trans (hb1.mono HB.out.size); have HQ := hid q3; clear q3 hb1)
        · go_ret
          exact ⟨-1, rfl, by omega, by omega, by omega, HB1.out⟩
        · go_roundw
          case rel => exact ⟨k + 1, r', by omega, by go_num, rfl, by omega, by have := (HQ.out (by omega)).1; rw [HSu.out]; omega, fun i hi => by
            by_cases e : i = k
            · subst e; exact (HQ.out (by omega)).2
            · exact HR3.out i (by omega), HB1.out⟩
          case measure => simp [intOf]; omega
    · go_wp2_with fail
      go_ret
      have hk' : k = R.length := by omega
      exact ⟨r, rfl, by omega, by omega, fun _ => ⟨by rw [← hk']; omega, fun i hi => HR3.out i (by omega)⟩, HB.out⟩
set_option maxRecDepth 20000 in
set_option maxHeartbeats 2000000 in
theorem szTab_sum (f : List Nd) (fa : Option Addr) (fc : Nat) (cap : Int) (R : List Rw) (ra : Option Addr) (rc : Nat) (w : World) (hT : InT w fa fc f ra R) :
    Calls Tryz.prog 24 #[tbV fa f.length fc cap ra R.length rc, .int .i64 1048576] w fun e w' => ∃ r : Int, e = .returned (.int .i64 r) ∧ -1 ≤ r ∧ r ≤ 1048576 ∧ (0 ≤ r → f.length + R.length + sumW R R.length ≤ 1048576 ∧ TbSz f R) ∧ Below w.heap.size w w' := by
  unfold tbV
  have HB0 := hid (below_one' w (.cells #[.slice fa f.length fc, .int .i64 cap, .slice ra R.length rc] 59))
  have HX := hid (TBox.new w fa f.length fc cap ra R.length rc 59)
  have HN := hid (fun w h => szNodeS_sum f fa fc (fun i hi => (hT.f.ok i hi).nm) hT.f.len 1048576 (by omega) (by omega) w h)
  have HRS := hid (fun r h1 h2 w h => szRowS_sum R ra rc hT.r.ok hT.r.len r h1 h2 w h)
  have HT := hid hT
  clear hT
  go_enter Tryz.func24, Tryz.ntmps24
  go_wp2_with (first | (go_at_call 75; refine (HN.out _ (HT.out.f.arg.below HB0.out (Nat.le_refl _))).mono ?_; rintro e w1 ⟨r, rfl, q1, q2, q3, hb⟩; have HQ := hid q3; have HB1 := hid (HB0.out.trans (hb.mono (by simp))); obtain ⟨_, m0, m1, m2⟩ := HX.out.on hb; clear q3 hb) | (go_at_call 76; refine (HRS.out r (by omega) (by omega) _ (HT.out.r.arg.below HB1.out (Nat.le_refl _))).mono ?_; rintro e w2 ⟨r2, rfl, p1, p2, p3, hb2⟩; have HP := hid p3; have HB2 := hid (HB1.out.trans (hb2.mono HB1.out.size)); clear p3 hb2))
  · go_ret
    exact ⟨-1, rfl, by omega, by omega, by omega, HB1.out⟩
  · go_ret
    exact ⟨-1, rfl, by omega, by omega, by omega, HB2.out⟩
  · go_ret
    exact ⟨r2, rfl, by omega, by omega, fun h => by
      have h1 := (HQ.out (by omega)).1
      have h2 := (HP.out h).1
      exact ⟨by omega, by omega, (HQ.out (by omega)).2, by omega, (HP.out h).2⟩, HB2.out⟩
end Go.Proofs.YtljhokoojodjnaaGreatDoor
namespace Go.Proofs.YtljhokoojodjnaaGreatDoor
open Go.RowKit
set_option linter.unusedVariables false
set_option linter.unusedSimpArgs false
/-- The mark at which cell i begins. -/
def kC (k0 : Nat) (N : Nat → Nat) : Nat → Nat
  | 0 => k0
  | i + 1 => kC k0 N i + 3 + N i
theorem kC_mono (k0 : Nat) (N : Nat → Nat) {i k : Nat} (h : i ≤ k) : kC k0 N i ≤ kC k0 N k := by
  induction h with
  | refl => exact Nat.le_refl _
  | step _ ih => exact Nat.le_trans ih (by show _ ≤ _ + 3 + _; omega)
/-- A row of cells to be written to: each one's times lie in a block of their own. -/
structure CkMu (w : World) (b n : Nat) (A : Nat → Option Addr) (N C : Nat → Nat) : Prop where
  row : ∃ z m, n * 4 ≤ m ∧ w.rowIs b 105 m z ∧ ∀ i, i < n → z (i * 4 + 2) = .slice (A i) (N i) (C i)
  times : ∀ i, i < n → RowIs w (A i) (N i)
  apart : ∀ i, i < n → ∀ q, A i = some q → q.block ≠ b
  apart2 : ∀ i j, i < n → j < n → i ≠ j → ∀ q r, A i = some q → A j = some r → q.block ≠ r.block
def CkMuS (b n : Nat) (A : Nat → Option Addr) (j : Nat) : Prop := j = b ∨ ∃ i, i < n ∧ OfT (A i) j
/-- A row of cells that holds its marks. -/
structure CkHd (w : World) (b n k0 : Nat) (A : Nat → Option Addr) (N C : Nat → Nat) : Prop where
  lt : b < w.heap.size
  lo : ∀ i, i < n → w.cell? ⟨b, i * 4, none⟩ = some (.int .i64 (kC k0 N i : Nat))
  hi : ∀ i, i < n → w.cell? ⟨b, i * 4 + 1, none⟩ = some (.int .i64 (kC k0 N i + 1 : Nat))
  sl : ∀ i, i < n → w.cell? ⟨b, i * 4 + 2, none⟩ = some (.slice (A i) (N i) (C i))
  was : ∀ i, i < n → w.cell? ⟨b, i * 4 + 3, none⟩ = some (.bool (decide (((kC k0 N i + 2 + N i : Nat) : Int) % 3 = 0)))
  times : ∀ i, i < n → ArgI w (A i) (markI (kC k0 N i + 2) (N i))
theorem CkHd.on {w w' : World} {b n k0 : Nat} {A : Nat → Option Addr} {N C : Nat → Nat} (h : CkHd w b n k0 A N C) (hb : Below w.heap.size w w') : CkHd w' b n k0 A N C :=
  ⟨Nat.lt_of_lt_of_le h.lt hb.size, fun i hi => (hb.cell (p := ⟨b, _, none⟩) h.lt).trans (h.lo i hi), fun i hi => (hb.cell (p := ⟨b, _, none⟩) h.lt).trans (h.hi i hi), fun i hi => (hb.cell (p := ⟨b, _, none⟩) h.lt).trans (h.sl i hi), fun i hi => (hb.cell (p := ⟨b, _, none⟩) h.lt).trans (h.was i hi), fun i hi => (h.times i hi).on hb⟩
theorem CkMu.save {w w' : World} {b n : Nat} {A : Nat → Option Addr} {N C : Nat → Nat} {S : Nat → Prop} (h : CkMu w b n A N C) (hs : Save w w' S) (hS : ∀ j, CkMuS b n A j → ¬ S j) : CkMu w' b n A N C := by
  obtain ⟨z, m, h0, h1, h2⟩ := h.row
  exact ⟨⟨z, m, h0, h1.of_block (hs.block b h1.lt (hS b (Or.inl rfl))), h2⟩, fun i hi => (h.times i hi).save hs (fun q e => hS q.block (Or.inr ⟨i, hi, q, e, rfl⟩)), h.apart, h.apart2⟩
theorem CkMu.on {w w' : World} {b n : Nat} {A : Nat → Option Addr} {N C : Nat → Nat} (h : CkMu w b n A N C) (hb : Below w.heap.size w w') : CkMu w' b n A N C :=
  h.save (S := fun _ => False) (Save.of_below hb _ (fun j h1 h2 => absurd h1 (by omega))) (fun _ _ h => h)
set_option maxRecDepth 20000 in
set_option maxHeartbeats 4000000 in
theorem markCs_up (n k0 b cap : Nat) (v : Int) (hv : v = k0) (A : Nat → Option Addr) (N C : Nat → Nat) (hn : n ≤ 1048576) (hN : ∀ i, i < n → N i ≤ 2000000) (hk1 : kC k0 N n ≤ 1000000000) (w : World) (h : CkMu w b n A N C) :
    Calls Tryz.prog 126 #[.slice (some ⟨b, 0, none⟩) n cap, .int .i64 v] w fun e w' => e = .returned (.int .i64 (kC k0 N n : Nat)) ∧ CkHd w' b n k0 A N C ∧ Save w w' (CkMuS b n A) := by
  subst hv
  obtain ⟨z0, m, hnm, hr0, hz0⟩ := h.row
  have HR0 := hid hr0
  have HZ0 := hid hz0
  have HN0 := hid h.times
  have HA := hid h.apart
  have HA2 := hid h.apart2
  have HK1 := hid hk1
  have HNn := hid hN
  clear h hr0 hz0 hk1 hN
  go_enter Tryz.func126, Tryz.ntmps126
  go_wp2_with fail
  go_loopw [1, 5] (fun t s wr => ∃ (k : Nat) (z : Nat → Value), k ≤ n ∧ t = .int .i64 (kC k0 N k : Nat) ∧ s = .int .i64 k ∧ wr.rowIs b 105 m z ∧ (∀ i, i < n → z (i * 4 + 2) = .slice (A i) (N i) (C i)) ∧ (∀ i, i < k → z (i * 4) = .int .i64 (kC k0 N i : Nat) ∧ z (i * 4 + 1) = .int .i64 (kC k0 N i + 1 : Nat) ∧ z (i * 4 + 3) = .bool (decide (((kC k0 N i + 2 + N i : Nat) : Int) % 3 = 0))) ∧ (∀ i, i < n → k ≤ i → RowIs wr (A i) (N i)) ∧ (∀ i, i < k → ArgI wr (A i) (markI (kC k0 N i + 2) (N i))) ∧ Save w wr (CkMuS b n A)) (fun _ s _ => n - (intOf s).toNat)
  case atStart => exact ⟨0, z0, Nat.zero_le _, rfl, rfl, HR0.out, HZ0.out, fun i h => by omega, fun i h _ => HN0.out i h, fun i h => by omega, Save.refl _ _⟩
  case round =>
    clear HR0 HZ0 HN0
    obtain ⟨k, z, hk, rfl, rfl, hrow, hz1, hz2, hnm', hts, hsv⟩ := hrel
    have HS := hid hsv
    have HRow := hid hrow
    have HZ1 := hid hz1
    have HZ2 := hid hz2
    have HNm := hid hnm'
    have HTs := hid hts
    have hsz := hrow.lt
    clear hrow hsv hz1 hz2 hnm' hts
    by_cases hlt : k < n
    · have hkm := kC_mono k0 N (show k + 1 ≤ n from hlt)
      have hks : kC k0 N (k + 1) = kC k0 N k + 3 + N k := rfl
      have HKS := hid hks
      have hkb : kC k0 N k + 3 + N k ≤ 1000000000 := by have := HK1.out; omega
      clear hks hkm
      have d0 := HRow.out.cell (i := k * 4) (by omega)
      have d1 := HRow.out.cell (i := k * 4 + 1) (by omega)
      have d2 := HRow.out.cell (i := k * 4 + 2) (by omega)
      rw [HZ1.out k hlt] at d2
      have d3 := HRow.out.cell (i := k * 4 + 3) (by omega)
      have f0 := HRow.out.frozen
      generalize hK : kC k0 N k = K at *
      have HKe := hid hK
      clear hK
      have HSv1 := hid ((HS.out.setCell (p := ⟨b, k * 4, none⟩) (fun _ => Or.inl rfl) (.int .i64 (K : Nat))).setCell (p := ⟨b, k * 4 + 1, none⟩) (fun _ => Or.inl rfl) (.int .i64 ((K : Int) + 1)))
      have HR1 := hid ((HRow.out.set (k * 4) (.int .i64 (K : Nat))).set (k * 4 + 1) (.int .i64 ((K : Int) + 1)))
      have HOther : Hid (Save wr ((wr.setCell ⟨b, k * 4, none⟩ (.int .i64 (K : Nat))).setCell ⟨b, k * 4 + 1, none⟩ (.int .i64 ((K : Int) + 1))) (fun j => j = b)) := Save.setCell (S := fun j => j = b) (Save.setCell (S := fun j => j = b) (Save.refl wr _) (p := ⟨b, k * 4, none⟩) (fun _ => rfl) _) (p := ⟨b, k * 4 + 1, none⟩) (fun _ => rfl) _
      have HNm1 := hid (fun i (hi : i < n) (hki : k ≤ i) => (HNm.out i hi hki).save HOther.out (fun q e h => HA.out i hi _ e h))
      have HTs1 := hid (fun i (hi : i < k) => ArgI.save (HTs.out i hi) HOther.out (fun q e h => HA.out i (by omega) _ e h))
      go_wp2_with fail
      rw [show ((K : Int) + 1 + 1) = ((K + 2 : Nat) : Int) by push_cast; omega]
      refine (markInt64S_any (K + 2) (N k) (A k) (C k) (HNn.out k hlt) (by omega) _ (HNm1.out k hlt (Nat.le_refl _))).mono ?_
      rintro e w1 ⟨rfl, ht1, hs1⟩
      have hb1 : ¬ OfT (A k) b := fun ⟨q, e, h⟩ => HA.out k hlt q e h
      have hi1 : ∀ i, i < n → i ≠ k → ∀ q, A i = some q → ¬ OfT (A k) q.block := fun i hi hne q e ⟨r, e', h⟩ => HA2.out i k hi hlt hne _ r e e' h.symm
      have HR2 := hid (HR1.out.of_block (hs1.block b (by simpa using hsz) hb1))
      have HS2 := hid (HSv1.out.trans (hs1.mono (fun j _ h => Or.inr ⟨k, hlt, h⟩)))
      have HNm2 : Hid (∀ i, i < n → k + 1 ≤ i → RowIs w1 (A i) (N i)) := fun i hi hki => (HNm1.out i hi (by omega)).save hs1 (hi1 i hi (by omega))
      have HTs2 : Hid (∀ i, i < k + 1 → ArgI w1 (A i) (markI (kC k0 N i + 2) (N i))) := fun i hi => by
        by_cases e : i = k
        · subst e; rw [HKe.out]; exact ht1
        · exact ArgI.save (HTs1.out i (by omega)) hs1 (hi1 i (by omega) e)
      have e3 := HR2.out.cell (i := k * 4 + 3) (by omega)
      have f3 := HR2.out.frozen (k * 4 + 3)
      clear ht1 hs1 hb1 hi1 d0 d1 d2 d3 f0
      go_wp2_with fail
      go_roundw
      case rel =>
        refine ⟨k + 1, _, by omega, by rw [HKS.out]; simp; omega, by go_num, HR2.out.set (k * 4 + 3) _, fun i hi => ?_, fun i hi => ?_, fun i hi hki => (HNm2.out i hi hki).save (Save.setCell (S := fun j => j = b) (Save.refl w1 _) (p := ⟨b, k * 4 + 3, none⟩) (fun _ => rfl) _) (fun q e h => HA.out i hi _ e h), fun i hi => ArgI.save (HTs2.out i hi) (Save.setCell (S := fun j => j = b) (Save.refl w1 _) (p := ⟨b, k * 4 + 3, none⟩) (fun _ => rfl) _) (fun q e h => HA.out i (by omega) _ e h), HS2.out.setCell (p := ⟨b, k * 4 + 3, none⟩) (fun _ => Or.inl rfl) _⟩
        · exact (if_neg (by omega)).trans ((if_neg (by omega)).trans ((if_neg (by omega)).trans (HZ1.out i hi)))
        · by_cases e : i = k
          · subst e
            refine ⟨(if_neg (by omega)).trans ((if_neg (by omega)).trans ((if_pos rfl).trans (by rw [HKe.out]))), (if_neg (by omega)).trans ((if_pos rfl).trans (by rw [HKe.out]; push_cast; rfl)), (if_pos rfl).trans (by rw [HKe.out]; push_cast; rfl)⟩
          · obtain ⟨q0, q1, q3⟩ := HZ2.out i (by omega)
            exact ⟨(if_neg (by omega)).trans ((if_neg (by omega)).trans ((if_neg (by omega)).trans q0)), (if_neg (by omega)).trans ((if_neg (by omega)).trans ((if_neg (by omega)).trans q1)), (if_neg (by omega)).trans ((if_neg (by omega)).trans ((if_neg (by omega)).trans q3))⟩
      case measure => simp [intOf]; omega
    · have hk' : k = n := by omega
      subst hk'
      go_wp2_with fail
      go_ret
      exact ⟨rfl, ⟨HRow.out.lt, fun i hi => by rw [HRow.out.cell (by omega), (HZ2.out i hi).1], fun i hi => by rw [HRow.out.cell (by omega), (HZ2.out i hi).2.1], fun i hi => by rw [HRow.out.cell (by omega), HZ1.out i hi], fun i hi => by rw [HRow.out.cell (by omega), (HZ2.out i hi).2.2], HTs.out⟩, HS.out⟩
set_option maxRecDepth 20000 in
set_option maxHeartbeats 4000000 in
theorem heldCs_up (n k0 b cap : Nat) (v : Int) (hv : v = k0) (A : Nat → Option Addr) (N C : Nat → Nat) (hn : n ≤ 1048576) (hN : ∀ i, i < n → N i ≤ 2000000) (hk1 : kC k0 N n ≤ 1000000000) (w : World) (h : CkHd w b n k0 A N C) :
    Calls Tryz.prog 158 #[.slice (some ⟨b, 0, none⟩) n cap, .int .i64 v] w fun e w' => e = .returned (.int .i64 (kC k0 N n : Nat)) ∧ Below w.heap.size w w' := by
  subst hv
  have H := hid h
  have HK1 := hid hk1
  have HNn := hid hN
  clear h hk1 hN
  go_enter Tryz.func158, Tryz.ntmps158
  go_wp2_with fail
  go_loopw [1, 5] (fun t s wr => ∃ k : Nat, k ≤ n ∧ t = .int .i64 (kC k0 N k : Nat) ∧ s = .int .i64 k ∧ Below w.heap.size w wr) (fun _ s _ => n - (intOf s).toNat)
  case atStart => exact ⟨0, Nat.zero_le _, rfl, rfl, Below.refl _ _⟩
  case round =>
    obtain ⟨k, hk, rfl, rfl, hbel⟩ := hrel
    have HB := hid hbel
    have hsz := hbel.size
    clear hbel
    by_cases hlt : k < n
    · have hkm := kC_mono k0 N (show k + 1 ≤ n from hlt)
      have hks : kC k0 N (k + 1) = kC k0 N k + 3 + N k := rfl
      have HKS := hid hks
      have hkb : kC k0 N k + 3 + N k ≤ 1000000000 := by have := HK1.out; omega
      clear hks hkm
      have HH := hid (H.out.on HB.out)
      have d0 := HH.out.lo k hlt
      have d1 := HH.out.hi k hlt
      have d2 := HH.out.sl k hlt
      have HD3 := hid (HH.out.was k hlt)
      have HT := hid (HH.out.times k hlt)
      have hbl := HH.out.lt
      generalize kC k0 N k = K at *
      have x0 : ((K : Int) != (K : Int)) = false := by simp
      have d1' : wr.cell? ⟨b, k * 4 + 1, none⟩ = some (.int .i64 ((K : Int) + 1)) := by rw [d1]; push_cast; rfl
      have x1 : ((K : Int) + 1 != (K : Int) + 1) = false := by simp
      clear d1
      go_wp2_with fail
      rw [show ((K : Int) + 1 + 1) = ((K + 2 : Nat) : Int) by push_cast; omega]
      refine (heldInt64S_any (K + 2) (N k) (A k) (C k) (HNn.out k hlt) (by omega) _ HT.out).mono ?_
      rintro e w1 ⟨rfl, hb1⟩
      have HB1 := hid (HB.out.trans (hb1.mono hsz))
      have e3 := (hb1.cell (p := ⟨b, k * 4 + 3, none⟩) hbl).trans HD3.out
      have hge : ¬ (((K + 2 + N k : Nat) : Int) < 0) := by omega
      clear hb1 d0 d1' d2 x0 x1
      by_cases h3 : ((K : Int) + 2 + (N k : Int)) % 3 = 0
      · have b3 : decide (((K + 2 + N k : Nat) : Int) % 3 = 0) = true := decide_eq_true (by omega)
        rw [b3] at e3
        clear b3
        go_wp2_with fail
        go_roundw
        case rel => exact ⟨k + 1, by omega, by rw [HKS.out]; simp; omega, by go_num, HB1.out⟩
        case measure => simp [intOf]; omega
      · have b3 : decide (((K + 2 + N k : Nat) : Int) % 3 = 0) = false := decide_eq_false (by omega)
        rw [b3] at e3
        clear b3
        go_wp2_with fail
        go_roundw
        case rel => exact ⟨k + 1, by omega, by rw [HKS.out]; simp; omega, by go_num, HB1.out⟩
        case measure => simp [intOf]; omega
    · have hk' : k = n := by omega
      subst hk'
      go_wp2_with fail
      go_ret
      exact ⟨rfl, HB.out⟩
set_option maxRecDepth 20000 in
theorem markCs_nil' (a : Option Addr) (k0 c : Nat) (w : World) :
    Calls Tryz.prog 126 #[.slice a 0 c, .int .i64 k0] w fun e w' => e = .returned (.int .i64 k0) ∧ w = w' := by
  go_enter Tryz.func126, Tryz.ntmps126
  go_wp2_with fail
  go_loopw [1, 5] (fun t s wr => t = .int .i64 k0 ∧ s = .int .i64 0 ∧ w = wr) (fun _ _ _ => 0)
  case atStart => exact ⟨rfl, rfl, rfl⟩
  case round =>
    obtain ⟨rfl, rfl, rfl⟩ := hrel
    go_wp2_with fail
    go_ret
    exact ⟨rfl, rfl⟩
set_option maxRecDepth 20000 in
theorem heldCs_nil' (a : Option Addr) (k0 c : Nat) (w : World) :
    Calls Tryz.prog 158 #[.slice a 0 c, .int .i64 k0] w fun e w' => e = .returned (.int .i64 k0) ∧ w = w' := by
  go_enter Tryz.func158, Tryz.ntmps158
  go_wp2_with fail
  go_loopw [1, 5] (fun t s wr => t = .int .i64 k0 ∧ s = .int .i64 0 ∧ w = wr) (fun _ _ _ => 0)
  case atStart => exact ⟨rfl, rfl, rfl⟩
  case round =>
    obtain ⟨rfl, rfl, rfl⟩ := hrel
    go_wp2_with fail
    go_ret
    exact ⟨rfl, rfl⟩
end Go.Proofs.YtljhokoojodjnaaGreatDoor
namespace Go.Proofs.YtljhokoojodjnaaGreatDoor
open Go.RowKit
set_option linter.unusedVariables false
set_option linter.unusedSimpArgs false
theorem heldNodeS_nil (a : Option Addr) (k0 c : Nat) (w : World) :
    Calls Tryz.prog 127 #[.slice a 0 c, .int .i64 k0] w fun e w' => e = .returned (.int .i64 k0) ∧ w = w' := by
  go_enter Tryz.func127, Tryz.ntmps127
  go_wp2_with fail
  go_loopw [1, 5] (fun t s wr => t = .int .i64 k0 ∧ s = .int .i64 0 ∧ w = wr) (fun _ _ _ => 0)
  case atStart => exact ⟨rfl, rfl, rfl⟩
  case round =>
    obtain ⟨rfl, rfl, rfl⟩ := hrel
    go_wp2_with fail
    go_ret
    exact ⟨rfl, rfl⟩
set_option maxRecDepth 20000 in
set_option maxHeartbeats 2000000 in
theorem heldNodeS_row (n k0 b c : Nat) (hn : n ≤ 1048576) (hk0 : 0 < k0) (hk1 : k0 ≤ 1000) (w : World) (h : NodesAt w b (markN k0 n)) :
    Calls Tryz.prog 127 #[.slice (some ⟨b, 0, none⟩) n c, .int .i64 k0] w fun e w' => e = .returned (.int .i64 (k0 + n * 6 : Nat)) ∧ Below w.heap.size w w' := by
  have H := hid h
  clear h
  go_enter Tryz.func127, Tryz.ntmps127
  go_wp2_with fail
  go_loopw [1, 5] (fun t s wr => ∃ k : Nat, k ≤ n ∧ t = .int .i64 (k0 + k * 6 : Nat) ∧ s = .int .i64 k ∧ Below w.heap.size w wr) (fun _ s _ => n - (intOf s).toNat)
  case atStart => exact ⟨0, Nat.zero_le _, rfl, rfl, Below.refl _ _⟩
  case round =>
    obtain ⟨k, hk, rfl, rfl, hbel⟩ := hrel
    have HB := hid hbel
    have hsz := hbel.size
    clear hbel
    by_cases hlt : k < n
    · have hnd := H.out.2 k (by rw [markN_len]; exact hlt)
      rw [markN_at _ _ _ hlt] at hnd
      obtain ⟨d0, d1, d2, d3, d4, d5⟩ := hnd.below HB.out H.out.1
      clear hnd
      simp only [mkNd, Nd.k, Nd.a, Nd.b, Nd.lo, Nd.hi, Nd.nm] at d0 d1 d2 d3 d4 d5
      have hbl : b < wr.heap.size := Nat.lt_of_lt_of_le H.out.1 hsz
      go_wp2_with fail
      go_region_with (go_at_call 86; refine (markText_int _ (k0 + k * 6 + 5) (by push_cast; omega) (by omega) (by omega) _).mono ?_; rintro e w1 ⟨rfl, hb1⟩; have HB1 : Hid (Below w.heap.size w w1) := HB.out.trans (Below.mono ⟨hb1.os, hb1.tape, hb1.output, hb1.size, hb1.block⟩ hsz); have d6 := (hb1.cell (p := ⟨b, k * 6 + 5, none⟩) hbl).trans d5; clear hb1)
      all_goals
        go_wp2_with fail
        go_roundw
        case rel => exact ⟨k + 1, by omega, by simp; omega, by go_num, HB1.out⟩
        case measure => simp [intOf]; omega
    · have hk' : k = n := by omega
      subst hk'
      go_wp2_with fail
      go_ret
      exact ⟨rfl, HB.out⟩
end Go.Proofs.YtljhokoojodjnaaGreatDoor
namespace Go.Proofs.YtljhokoojodjnaaGreatDoor
open Go.RowKit
set_option linter.unusedVariables false
set_option linter.unusedSimpArgs false
set_option maxRecDepth 20000 in
set_option maxHeartbeats 2000000 in
theorem markNodeS_up (n k0 b c : Nat) (v : Int) (hv : v = k0) (z : Nat → Value) (hn : n ≤ 1048576) (hk0 : 0 < k0) (hk1 : k0 + n * 6 ≤ 1000000000) (m : Nat) (hm : n * 6 ≤ m) (w : World) (h : w.rowIs b 132 m z) :
    Calls Tryz.prog 83 #[.slice (some ⟨b, 0, none⟩) n c, .int .i64 v] w fun e w' => e = .returned (.int .i64 (k0 + n * 6 : Nat)) ∧ w'.rowIs b 132 m (rowF (markN k0 n) z n) ∧ Save w w' (fun j => j = b) := by
  subst hv
  have HR0 := hid (h.congr (fun j hj => (show z j = rowF (markN k0 n) z 0 j by simp [rowF])))
  have hbl := h.lt
  clear h
  go_enter Tryz.func83, Tryz.ntmps83
  go_wp2_with fail
  go_loopw [1, 5] (fun t s wr => ∃ k : Nat, k ≤ n ∧ t = .int .i64 (k0 + k * 6 : Nat) ∧ s = .int .i64 k ∧ wr.rowIs b 132 m (rowF (markN k0 n) z k) ∧ Save w wr (fun j => j = b)) (fun _ s _ => n - (intOf s).toNat)
  case atStart => exact ⟨0, Nat.zero_le _, rfl, rfl, HR0.out, Save.refl _ _⟩
  case round =>
    clear HR0
    obtain ⟨k, hk, rfl, rfl, hrow, hsv⟩ := hrel
    have HS := hid hsv
    have HRow := hid hrow
    have hsz := hrow.lt
    clear hrow hsv
    by_cases hlt : k < n
    · have d0 := HRow.out.cell (i := k * 6) (by omega)
      have d1 := HRow.out.cell (i := k * 6 + 1) (by omega)
      have d2 := HRow.out.cell (i := k * 6 + 2) (by omega)
      have d3 := HRow.out.cell (i := k * 6 + 3) (by omega)
      have d4 := HRow.out.cell (i := k * 6 + 4) (by omega)
      have f0 := HRow.out.frozen
      go_wp2_with fail
      refine (markText_int _ (k0 + k * 6 + 5) (by push_cast; omega) (by omega) (by omega) _).mono ?_
      rintro e w1 ⟨rfl, hb1⟩
      have HR1 := hid ((((((HRow.out.set (k * 6) _).set (k * 6 + 1) _).set (k * 6 + 2) _).set (k * 6 + 3) _).set (k * 6 + 4) _).of_block (hb1.block b (by simpa using hsz)))
      have HS1 := hid ((((((HS.out.setCell (p := ⟨b, k * 6, none⟩) (fun _ => rfl) _).setCell (p := ⟨b, k * 6 + 1, none⟩) (fun _ => rfl) _).setCell (p := ⟨b, k * 6 + 2, none⟩) (fun _ => rfl) _).setCell (p := ⟨b, k * 6 + 3, none⟩) (fun _ => rfl) _).setCell (p := ⟨b, k * 6 + 4, none⟩) (fun _ => rfl) _).trans (Save.of_below hb1 _ (fun j h1 h2 => absurd h1 (by omega))))
      have d5 := HR1.out.cell (i := k * 6 + 5) (by omega)
      have f5 := HR1.out.frozen (k * 6 + 5)
      clear hb1 d0 d1 d2 d3 d4 f0
      go_wp2_with fail
      go_roundw
      case rel =>
        refine ⟨k + 1, by omega, by simp; omega, by go_num, (HR1.out.set (k * 6 + 5) _).congr (fun j hj => ?_), HS1.out.setCell (p := ⟨b, k * 6 + 5, none⟩) (fun _ => rfl) _⟩
        rw [rowF_step, markN_at _ _ _ hlt]
        simp [mkNd, Int.add_assoc, Nd.k, Nd.a, Nd.b, Nd.lo, Nd.hi, Nd.nm]
      case measure => simp [intOf]; omega
    · have hk' : k = n := by omega
      subst hk'
      go_wp2_with fail
      go_ret
      exact ⟨rfl, HRow.out, HS.out⟩
/-- The mark at which row i begins. -/
def mR (k0 : Nat) (R : List Rw) : Nat → Nat
  | 0 => k0
  | k + 1 => mR k0 R k + 3 + (rwAt R k).f.length * 6 + (rwAt R k).C.length * 3 + sumT (rwAt R k).C (rwAt R k).C.length
theorem mR_le (k0 : Nat) (R : List Rw) : ∀ k, mR k0 R k ≤ k0 + 3 * k + 6 * sumW R k
  | 0 => by simp [mR, sumW]
  | k + 1 => by
    have h := mR_le k0 R k
    have hw : rwW (rwAt R k) = (rwAt R k).f.length + (rwAt R k).C.length + sumT (rwAt R k).C (rwAt R k).C.length := rfl
    unfold mR sumW
    omega
theorem mR_mono (k0 : Nat) (R : List Rw) {i k : Nat} (h : i ≤ k) : mR k0 R i ≤ mR k0 R k := by
  induction h with
  | refl => exact Nat.le_refl _
  | step _ ih => exact Nat.le_trans ih (by show _ ≤ _ + 3 + _ + _ + _; omega)
theorem kC_sum (k0 : Nat) (C : List Cl) : ∀ n, kC k0 (fun i => (clAt C i).ts.length) n = k0 + n * 3 + sumT C n
  | 0 => by simp [kC, sumT]
  | n + 1 => by
    have h := kC_sum k0 C n
    unfold kC sumT
    omega
theorem ckRow_mu {w : World} {b : Nat} {C : List Cl} {A : Nat → Nat} {z : Nat → Value} (h : CkRow w b C A z C.length) : CkMu w b C.length (fun i => some ⟨A i, 0, none⟩) (fun i => (clAt C i).ts.length) (fun i => (clAt C i).ts.length) := by
  refine ⟨⟨_, _, Nat.le_refl _, h.row, fun i hi => ?_⟩, fun i hi => ?_, fun i hi q e => ?_, fun i j hi hj hne q r e1 e2 => ?_⟩
  · unfold rowC
    rw [if_pos (by omega), if_neg (by omega), if_neg (by omega), if_pos (by omega), show (i * 4 + 2) / 4 = i by omega]
    rfl
  · exact Or.inr ⟨A i, _, _, rfl, Nat.le_refl _, h.times i hi⟩
  · injection e with e; subst e
    have := h.above i hi
    show A i ≠ b
    omega
  · injection e1 with e1; injection e2 with e2; subst e1 e2
    show A i ≠ A j
    rcases Nat.lt_or_gt_of_ne hne with hl | hl
    · have := h.rising i j hl hj; omega
    · have := h.rising j i hl hi; omega
/-- Rows that are yet to be marked. -/
def PendR (w : World) (R : List Rw) (A B : Nat → Nat) (T : Nat → Nat → Nat) (n k : Nat) : Prop := ∀ i, k ≤ i → i < n → (∃ zn, w.rowIs (A i) 132 ((rwAt R i).f.length * 6) zn) ∧ CkMu w (B i) (rwAt R i).C.length (fun m => some ⟨T i m, 0, none⟩) (fun m => (clAt (rwAt R i).C m).ts.length) (fun m => (clAt (rwAt R i).C m).ts.length)
theorem PendR.save {w w' : World} {R : List Rw} {A B : Nat → Nat} {T : Nat → Nat → Nat} {n k k' : Nat} {S : Nat → Prop} (h : PendR w R A B T n k) (hk : k ≤ k') (hs : Save w w' S) (hA : ∀ i, k' ≤ i → i < n → ¬ S (A i)) (hB : ∀ i, k' ≤ i → i < n → ¬ S (B i)) (hT : ∀ i, k' ≤ i → i < n → ∀ m, m < (rwAt R i).C.length → ¬ S (T i m)) : PendR w' R A B T n k' := by
  intro i h1 h2
  obtain ⟨⟨zn, hr⟩, hc⟩ := h i (by omega) h2
  refine ⟨⟨zn, hr.of_block (hs.block _ hr.lt (hA i h1 h2))⟩, hc.save hs (fun j hj => ?_)⟩
  rcases hj with rfl | ⟨m, hm, q, e, rfl⟩
  · exact hB i h1 h2
  · injection e with e; subst e; exact hT i h1 h2 m hm
/-- Where the blocks of a row of rows lie. -/
structure RwOrd (R : List Rw) (b N : Nat) (A B : Nat → Nat) (T : Nat → Nat → Nat) (n : Nat) : Prop where
  bN : b < N
  ab : ∀ i, i < n → b < A i ∧ A i < B i
  bt : ∀ i, i < n → ∀ m, m < (rwAt R i).C.length → B i < T i m
  up : ∀ i j, i < j → j < n → B i < A j ∧ ∀ m, m < (rwAt R i).C.length → T i m < A j
  hi : ∀ i, i < n → A i < N ∧ B i < N ∧ ∀ m, m < (rwAt R i).C.length → T i m < N
theorem RwRow.ord {w : World} {b : Nat} {R : List Rw} {A B : Nat → Nat} {T : Nat → Nat → Nat} {Z : Nat → Nat → Value} {z : Nat → Value} (h : RwRow w b R A B T Z z R.length) : RwOrd R b w.heap.size A B T R.length :=
  ⟨h.row.lt, h.above, fun i hi m hm => (h.cells i hi).above m hm, h.rising, fun i hi => ⟨(h.nodes i hi).1, (h.cells i hi).row.lt, fun m hm => World.rowIs.lt ((h.cells i hi).times m hm)⟩⟩
theorem RwRow.pend {w : World} {b : Nat} {R : List Rw} {A B : Nat → Nat} {T : Nat → Nat → Nat} {Z : Nat → Nat → Value} {z : Nat → Value} (h : RwRow w b R A B T Z z R.length) : PendR w R A B T R.length 0 :=
  fun i _ hi => ⟨h.frow i hi, ckRow_mu (h.cells i hi)⟩
set_option maxRecDepth 20000 in
set_option maxHeartbeats 4000000 in
theorem markRowS_any (R : List Rw) (b N k0 cap : Nat) (v : Int) (hv : v = k0) (hk0 : 0 < k0) (hn : R.length ≤ 1048576) (hz : ∀ i, i < R.length → RwSz (rwAt R i)) (hk1 : mR k0 R R.length ≤ 1000000000) (A B : Nat → Nat) (T : Nat → Nat → Nat) (hO : RwOrd R b N A B T R.length) (w : World) (z : Nat → Value) (hr : w.rowIs b 52 (R.length * 5) z) (hzf : ∀ i, i < R.length → z (i * 5 + 1) = fmV A R i ∧ z (i * 5 + 4) = clV B R i) (hP : PendR w R A B T R.length 0) :
    Calls Tryz.prog 84 #[.slice (some ⟨b, 0, none⟩) R.length cap, .int .i64 v] w fun e w' => e = .returned (.int .i64 (mR k0 R R.length : Nat)) ∧ Save w w' (fun j => b ≤ j ∧ j < N) := by
  subst hv
  have HR0 := hid hr
  have HZ0 := hid hzf
  have HP0 := hid hP
  have HO := hid hO
  have HZ := hid hz
  have HK1 := hid hk1
  have HMono := hid (fun i k (h : i ≤ k) => mR_mono k0 R h)
  clear hr hzf hP hO hz hk1
  go_enter Tryz.func84, Tryz.ntmps84
  go_wp2_with fail
  go_loopw [1, 5] (fun t s wr => ∃ (k : Nat) (z : Nat → Value), k ≤ R.length ∧ t = .int .i64 (mR k0 R k : Nat) ∧ s = .int .i64 k ∧ wr.rowIs b 52 (R.length * 5) z ∧ (∀ i, i < R.length → z (i * 5 + 1) = fmV A R i ∧ z (i * 5 + 4) = clV B R i) ∧ PendR wr R A B T R.length k ∧ Save w wr (fun j => b ≤ j ∧ j < N)) (fun _ s _ => R.length - (intOf s).toNat)
  case atStart => exact ⟨0, z, Nat.zero_le _, rfl, rfl, HR0.out, HZ0.out, HP0.out, Save.refl _ _⟩
  case round =>
    clear HR0 HZ0 HP0
    obtain ⟨k, z, hk, rfl, rfl, hrow, hzf, hpe, hsv⟩ := hrel
    have HS := hid hsv
    have HRow := hid hrow
    have HZf := hid hzf
    have HPe := hid hpe
    have hsz := hrow.lt
    clear hrow hzf hpe hsv
    by_cases hlt : k < R.length
    · have HMS : Hid (mR k0 R (k + 1) = mR k0 R k + 3 + (rwAt R k).f.length * 6 + (rwAt R k).C.length * 3 + sumT (rwAt R k).C (rwAt R k).C.length) := rfl
      have hb1 := HMono.out (k + 1) R.length (by omega)
      have hb2 := HK1.out
      have hb0 := HMono.out 0 k (by omega)
      have hb3 : mR k0 R 0 = k0 := rfl
      have hms := HMS.out
      have hszk := HZ.out k hlt
      obtain ⟨hfl, _, hcl, htl⟩ := hszk
      have heach := hid (HZ.out k hlt).each
      have hsum := kC_sum
      have HKc := hid (kC_sum (mR k0 R k + 3 + (rwAt R k).f.length * 6) (rwAt R k).C (rwAt R k).C.length)
      obtain ⟨hab1, hab2⟩ := HO.out.ab k hlt
      obtain ⟨hhi1, hhi2, _⟩ := HO.out.hi k hlt
      have HBt := hid (HO.out.bt k hlt)
      have hbN := HO.out.bN
      clear hsum
      generalize hMk : mR k0 R k = mk at *
      generalize hfn : (rwAt R k).f.length = nf at *
      have d0 := HRow.out.cell (i := k * 5) (by omega)
      have f0 := HRow.out.frozen (k * 5)
      go_wp2_with fail
      refine (markText_int _ mk rfl (by omega) (by omega) _).mono ?_
      rintro e w1 ⟨rfl, hbl1⟩
      have HR1 := hid ((HRow.out.of_block (hbl1.block b hsz)).set (k * 5) (.string (mtS mk)))
      have HS1 := hid ((HS.out.trans (Save.of_below hbl1 (fun j => b ≤ j ∧ j < N) (fun j h1 h2 => absurd h1 (by omega)))).setCell (p := ⟨b, k * 5, none⟩) (fun _ => ⟨Nat.le_refl _, hbN⟩) (.string (mtS mk)))
      have HT1 : Hid (Save wr (w1.setCell ⟨b, k * 5, none⟩ (.string (mtS mk))) (fun j => j = b)) := (Save.of_below hbl1 (fun j => j = b) (fun j h1 h2 => absurd h1 (by omega))).setCell (p := ⟨b, k * 5, none⟩) (fun _ => rfl) (.string (mtS mk))
      have HP1 := hid (HPe.out.save (Nat.le_refl k) HT1.out (fun i h1 h2 => by have := HO.out.ab i h2; show ¬ A i = b; omega) (fun i h1 h2 => by have := HO.out.ab i h2; show ¬ B i = b; omega) (fun i h1 h2 m hm => by have := HO.out.ab i h2; have := HO.out.bt i h2 m hm; show ¬ T i m = b; omega))
      have e0 := (HRow.out.of_block (hbl1.block b hsz)).cell (i := k * 5) (by omega)
      have g0 := (HRow.out.of_block (hbl1.block b hsz)).frozen (k * 5)
      have d1 : (w1.setCell ⟨b, k * 5, none⟩ (.string (mtS mk))).cell? ⟨b, k * 5 + 1, none⟩ = some (.slice (some ⟨A k, 0, none⟩) nf nf) := by
        rw [HR1.out.cell (i := k * 5 + 1) (by omega), if_neg (by omega), (HZf.out k hlt).1]
        unfold fmV
        rw [hfn]
      obtain ⟨⟨zn, hrn⟩, hcm⟩ := HP1.out k (Nat.le_refl _) hlt
      have HCm := hid hcm
      rw [hfn] at hrn
      have HRn := hid hrn
      clear hcm hrn d0 f0 hbl1
      go_wp2_with fail
      refine (markNodeS_up nf (mk + 1) (A k) nf _ (by push_cast; rfl) zn hfl (by omega) (by omega) (nf * 6) (Nat.le_refl _) _ HRn.out).mono ?_
      rintro e w2 ⟨rfl, _, hs2⟩
      have HR2 := hid (HR1.out.of_block (hs2.block b HR1.out.lt (by show ¬ b = A k; omega)))
      have HS2 := hid (HS1.out.trans (hs2.mono (fun j _ h => by subst h; exact ⟨by omega, by omega⟩)))
      have HC2 := hid (HCm.out.save hs2 (fun j hj => by
        rcases hj with rfl | ⟨m, hm, q, e, rfl⟩
        · show ¬ B k = A k; omega
        · injection e with e; subst e; have := HBt.out m hm; show ¬ T k m = A k; omega))
      have HP2 := hid (HP1.out.save (k' := k + 1) (by omega) hs2 (fun i h1 h2 => by have := (HO.out.up k i (by omega) h2).1; show ¬ A i = A k; omega) (fun i h1 h2 => by have := (HO.out.up k i (by omega) h2).1; have := HO.out.ab i h2; show ¬ B i = A k; omega) (fun i h1 h2 m hm => by have := (HO.out.up k i (by omega) h2).1; have := HO.out.ab i h2; have := HO.out.bt i h2 m hm; show ¬ T i m = A k; omega))
      have d2 := HR2.out.cell (i := k * 5 + 2) (by omega)
      have d3 := HR2.out.cell (i := k * 5 + 3) (by omega)
      have d4 : w2.cell? ⟨b, k * 5 + 4, none⟩ = some (.slice (some ⟨B k, 0, none⟩) (rwAt R k).C.length (rwAt R k).C.length) := by
        rw [HR2.out.cell (i := k * 5 + 4) (by omega), if_neg (by omega), (HZf.out k hlt).2]
        rfl
      have g2 := HR2.out.frozen (k * 5 + 2)
      have g3 := HR2.out.frozen (k * 5 + 3)
      have HQ2 := hid (fun x y => Save.setCell (S := fun j => j = b) (Save.setCell (S := fun j => j = b) (Save.refl w2 _) (p := ⟨b, k * 5 + 2, none⟩) (fun _ => rfl) x) (p := ⟨b, k * 5 + 3, none⟩) (fun _ => rfl) y)
      have HC3 := hid (fun x y => HC2.out.save (HQ2.out x y) (fun j hj => by
        rcases hj with rfl | ⟨m, hm, q, e, rfl⟩
        · show ¬ B k = b; omega
        · injection e with e; subst e; have := HBt.out m hm; show ¬ T k m = b; omega))
      have HP3 := hid (fun x y => HP2.out.save (Nat.le_refl (k + 1)) (HQ2.out x y) (fun i h1 h2 => by have := HO.out.ab i h2; show ¬ A i = b; omega) (fun i h1 h2 => by have := HO.out.ab i h2; show ¬ B i = b; omega) (fun i h1 h2 m hm => by have := HO.out.ab i h2; have := HO.out.bt i h2 m hm; show ¬ T i m = b; omega))
      clear hs2 d1 e0 g0
      go_wp2_with fail
      refine (markCs_up (rwAt R k).C.length (mk + 3 + nf * 6) (B k) (rwAt R k).C.length _ (by push_cast; omega) (fun m => some ⟨T k m, 0, none⟩) _ _ hcl (fun i hi => by have := heach.out i hi; omega) (by rw [HKc.out]; omega) _ (HC3.out _ _)).mono ?_
      rintro e w3 ⟨rfl, _, hs3⟩
      have HR3 := hid (((HR2.out.set (k * 5 + 2) _).set (k * 5 + 3) _).of_block (hs3.block b (by simpa using HR2.out.lt) (fun hj => by
        rcases hj with h | ⟨m, hm, q, e, h⟩
        · omega
        · injection e with e; subst e; have := HBt.out m hm; have h' : T k m = b := h; omega)))
      have HS3 := hid ((HS2.out.trans ((HQ2.out _ _).mono (fun j _ h => by subst h; exact ⟨Nat.le_refl _, hbN⟩))).trans (hs3.mono (fun j _ h => by
        rcases h with rfl | ⟨m, hm, q, e, rfl⟩
        · exact ⟨by omega, by omega⟩
        · injection e with e; subst e; have := HBt.out m hm; have := (HO.out.hi k hlt).2.2 m hm; exact ⟨by show b ≤ T k m; omega, by show T k m < N; omega⟩)))
      have HP4 := hid ((HP3.out _ _).save (Nat.le_refl (k + 1)) hs3 (fun i h1 h2 hj => by
        have h3 := HO.out.up k i (by omega) h2
        rcases hj with h | ⟨m, hm, q, e, h⟩
        · omega
        · injection e with e; subst e; have := h3.2 m hm; have h' : T k m = A i := h; omega) (fun i h1 h2 hj => by
        have h3 := HO.out.up k i (by omega) h2
        have h4 := HO.out.ab i h2
        rcases hj with h | ⟨m, hm, q, e, h⟩
        · omega
        · injection e with e; subst e; have := h3.2 m hm; have h' : T k m = B i := h; omega) (fun i h1 h2 m' hm' hj => by
        have h3 := HO.out.up k i (by omega) h2
        have h4 := HO.out.ab i h2
        have h5 := HO.out.bt i h2 m' hm'
        rcases hj with h | ⟨m, hm, q, e, h⟩
        · omega
        · injection e with e; subst e; have := h3.2 m hm; have h' : T k m = T i m' := h; omega))
      clear hs3 d2 d3 d4 g2 g3
      go_wp2_with fail
      go_roundw
      case rel =>
        refine ⟨k + 1, _, by omega, by rw [HMS.out, HKc.out], by go_num, HR3.out, fun i hi => ⟨?_, ?_⟩, HP4.out, HS3.out⟩
        · show (if i * 5 + 1 = k * 5 + 3 then _ else if i * 5 + 1 = k * 5 + 2 then _ else if i * 5 + 1 = k * 5 then _ else z (i * 5 + 1)) = _
          rw [if_neg (by omega), if_neg (by omega), if_neg (by omega)]
          exact (HZf.out i hi).1
        · show (if i * 5 + 4 = k * 5 + 3 then _ else if i * 5 + 4 = k * 5 + 2 then _ else if i * 5 + 4 = k * 5 then _ else z (i * 5 + 4)) = _
          rw [if_neg (by omega), if_neg (by omega), if_neg (by omega)]
          exact (HZf.out i hi).2
      case measure => simp [intOf]; omega
    · have hk' : k = R.length := by omega
      subst hk'
      go_wp2_with fail
      go_ret
      exact ⟨rfl, HS.out⟩
/-- A Table that a law has made, all its blocks below N. -/
structure TabX (w : World) (N fb rb : Nat) (f : List Nd) (R : List Rw) : Prop where
  nodes : NodesAt w fb f
  frow : ∃ zn, w.rowIs fb 132 (f.length * 6) zn
  rows : ∃ A B T Z z, RwRow w rb R A B T Z z R.length ∧ RwOrd R rb N A B T R.length
  lt : fb < rb
theorem TabX.of {w : World} {fb rb : Nat} {f : List Nd} {R : List Rw} (h : TabAt w fb f rb R) : TabX w w.heap.size fb rb f R := by
  obtain ⟨h1, h2, ⟨A, B, T, Z, z, h3⟩, h4⟩ := h
  exact ⟨h1, h2, ⟨A, B, T, Z, z, h3, h3.ord⟩, h4⟩
theorem TabX.on {w w' : World} {N fb rb : Nat} {f : List Nd} {R : List Rw} (h : TabX w N fb rb f R) (hb : Below w.heap.size w w') : TabX w' N fb rb f R := by
  obtain ⟨h1, ⟨zn, h2⟩, ⟨A, B, T, Z, z, h3, h5⟩, h4⟩ := h
  exact ⟨h1.below hb h1.1, ⟨zn, h2.of_block (hb.block fb h2.lt)⟩, ⟨A, B, T, Z, z, h3.below hb, h5⟩, h4⟩
theorem TabX.at {w : World} {N fb rb : Nat} {f : List Nd} {R : List Rw} (h : TabX w N fb rb f R) : TabAt w fb f rb R := by
  obtain ⟨h1, h2, ⟨A, B, T, Z, z, h3, _⟩, h4⟩ := h
  exact ⟨h1, h2, ⟨A, B, T, Z, z, h3⟩, h4⟩
theorem TabX.hi {w : World} {N fb rb : Nat} {f : List Nd} {R : List Rw} (h : TabX w N fb rb f R) : rb < N := by
  obtain ⟨_, _, ⟨A, B, T, Z, z, _, h5⟩, _⟩ := h
  exact h5.bN
set_option maxRecDepth 20000 in
set_option maxHeartbeats 4000000 in
theorem markTab_any (f : List Nd) (R : List Rw) (N fb fc rb rc : Nat) (cap : Int) (hs : f.length + R.length + sumW R R.length ≤ 1048576) (hz : ∀ i, i < R.length → RwSz (rwAt R i)) (w : World) (hX : TabX w N fb rb f R) (hN : N ≤ w.heap.size) :
    Calls Tryz.prog 31 #[tbV (some ⟨fb, 0, none⟩) f.length fc cap (some ⟨rb, 0, none⟩) R.length rc, .int .i64 1] w fun e w' => ∃ v : Nat, e = .returned (.int .i64 v) ∧ Save w w' (fun j => fb ≤ j ∧ j < N) := by
  unfold tbV
  have HT0 := hid (TBox.new w (some ⟨fb, 0, none⟩) f.length fc cap (some ⟨rb, 0, none⟩) R.length rc 26)
  have HB0 := hid (below_one' w (.cells #[.slice (some ⟨fb, 0, none⟩) f.length fc, .int .i64 cap, .slice (some ⟨rb, 0, none⟩) R.length rc] 26))
  have hS0 : Hid (Save w (w.alloc (.cells #[.slice (some ⟨fb, 0, none⟩) f.length fc, .int .i64 cap, .slice (some ⟨rb, 0, none⟩) R.length rc] 26)) (fun j => fb ≤ j ∧ j < N)) := Save.alloc (Save.refl w _) _
  have hhi := hX.hi
  have hlt := hX.lt
  obtain ⟨_, ⟨zn, hrn⟩, ⟨A, B, T, Z, z, hrw, hord⟩, _⟩ := hX.on HB0.out
  have HRw := hid hrw
  have HO := hid hord
  have HZ := hid hz
  have hle := mR_le (1 + f.length * 6) R R.length
  have HMN := hid (fun w zn h => markNodeS_up f.length 1 fb fc 1 rfl zn (by omega) (by omega) (by omega) (f.length * 6) (Nat.le_refl _) w h)
  have HRn := hid hrn
  clear hX hrw hord hz hrn
  go_enter Tryz.func31, Tryz.ntmps31
  go_wp2_with (first | (go_at_call 83; refine (HMN.out _ _ HRn.out).mono ?_; rintro e w1 ⟨rfl, _, hs1⟩; have HS1 := hid (hS0.out.trans (hs1.mono (fun j _ h => by subst h; exact ⟨Nat.le_refl _, by omega⟩))); have HR1 := hid (HRw.out.save hs1 (by show ¬ rb = fb; omega) (fun j h => by show ¬ j = fb; omega)); obtain ⟨_, m0, m1, m2⟩ := HT0.out.save hs1 (by show ¬ w.heap.size = fb; omega); clear hs1) | (go_at_call 84; refine (markRowS_any R rb N (1 + f.length * 6) rc _ rfl (by omega) (by omega) HZ.out (by omega) A B T HO.out _ _ HR1.out.row (fun i hi => ⟨by unfold rowR; rw [if_pos (by omega), if_neg (by omega), if_pos (by omega), show (i * 5 + 1) / 5 = i by omega], by unfold rowR; rw [if_pos (by omega), if_neg (by omega), if_neg (by omega), if_neg (by omega), if_neg (by omega), show (i * 5 + 4) / 5 = i by omega]⟩) HR1.out.pend).mono ?_; rintro e w2 ⟨rfl, hs2⟩; have HS2 := hid (HS1.out.trans (hs2.mono (fun j _ h => ⟨by omega, h.2⟩))); clear hs2))
  go_ret
  exact ⟨_, rfl, HS2.out⟩
end Go.Proofs.YtljhokoojodjnaaGreatDoor
namespace Go.Proofs.YtljhokoojodjnaaGreatDoor
open Go.RowKit
set_option linter.unusedVariables false
set_option linter.unusedSimpArgs false
theorem keysB_len (f : List Nd) (cap : Int) (R : List Rw) (h : R.length ≤ 1048576) : (keysB f cap R).length ≤ 1048576 := by
  unfold keysB
  split
  · rw [keysTo_len]; exact h
  · simp
set_option maxRecDepth 20000 in
set_option maxHeartbeats 8000000 in
theorem walkKeys (f : List Nd) (fa : Option Addr) (fc : Nat) (cap : Int) (R : List Rw) (ra : Option Addr) (rc : Nat) (w : World) (hT : InT w fa fc f ra R) (hkw : Kw w) (hg : 0 < w.heap.size) :
    Calls Tryz.prog 5 #[tbV fa f.length fc cap ra R.length rc] w fun e w' => e = .returned (.bool true) ∧ Below w.heap.size w w' := by
  have HT := hid hT
  have HK := hid hkw
  have HU : Hid (∀ fa fn fc cap ra rn rc, tbV fa fn fc cap ra rn rc = .agg #[.slice fa fn fc, .int .i64 cap, .slice ra rn rc]) := fun _ _ _ _ _ _ _ => rfl
  clear hT hkw
  rw [HU.out]
  go_enter Tryz.func5, Tryz.ntmps5
  go_wp2_with fail
  have HB0 := hid (below_one' w (.cells #[.slice fa f.length fc, .int .i64 cap, .slice ra R.length rc] 59))
  have HX0 := hid (TBox.new w fa f.length fc cap ra R.length rc 59)
  generalize w.alloc (.cells #[.slice fa f.length fc, .int .i64 cap, .slice ra R.length rc] 59) = W0 at *
  have hz0 := HB0.out.size
  refine (szTab_sum f fa fc cap R ra rc _ ⟨⟨HT.out.f.arg.below HB0.out (Nat.le_refl _), HT.out.f.ok, HT.out.f.len⟩, ⟨HT.out.r.arg.below HB0.out (Nat.le_refl _), HT.out.r.ok, HT.out.r.len⟩⟩).mono ?_
  rintro e w1 ⟨r, rfl, q1, q2, hr, hb1⟩
  have HB1 := hid (HB0.out.trans (hb1.mono hz0))
  have hz1 := hb1.size
  have HX1 := hid (HX0.out.on hb1)
  by_cases hr0 : r < 0
  · clear hb1 hr
    go_wp2_with fail
    go_ret
    exact ⟨rfl, HB1.out⟩
  obtain ⟨hsum, hsz⟩ := hr (by omega)
  have HZ := hid hsz
  have HTM := hid (fun w h1 h2 => toTab_any f fa fc cap R ra rc HZ.out w h1 h2)
  have HTI : Hid (∀ w b c, TabAt w b f c R → TabIn w b f (some ⟨c, 0, none⟩) R) := fun w b c h => ⟨h.nodes, HT.out.f.ok, HZ.out.fl, by obtain ⟨A, B, T, Z, z, h⟩ := h.rows; exact h.at HZ.out.rw', HZ.out.r, fun i hi => RwIn.of (HT.out.r.ok i hi) (HZ.out.rw' i hi)⟩
  obtain ⟨K, hK⟩ : ∃ K, keysB f cap R = K := ⟨_, rfl⟩
  have hpl : K.length ≤ 1048576 := by rw [← hK]; exact keysB_len f cap R HZ.out.r
  have HSK := hid (fun fb ra w h => specKeys_any f fb f.length cap R ra R.length K hK w h)
  have HIK := hid (fun fb ra w h hk hl => implKeys_any f fb f.length cap R ra R.length K hK w h hk hl)
  have HMT := hid (fun N fb rb w h hn => markTab_any f R N fb f.length rb R.length cap hsum HZ.out.rw' w h hn)
  simp only [HU.out] at HTM HSK HIK HMT
  clear hb1 hr hsz hK
  obtain ⟨u0, x0, x1, x2⟩ := HX1.out
  go_wp2_with fail
  refine (HTM.out _ (HT.out.f.arg.below HB1.out (Nat.le_refl _)) (HT.out.r.arg.below HB1.out (Nat.le_refl _))).mono ?_
  rintro e w2 ⟨b2, c2, rfl, hb2, ht2, hbl2⟩
  have HB2 := hid (HB1.out.trans (hbl2.mono (by omega)))
  have hz2 := hbl2.size
  have HX2 := hid (HX1.out.on hbl2)
  have HM2 := hid (HTI.out _ _ _ ht2)
  clear ht2 hbl2 u0 x0 x1 x2
  go_wp2_with fail
  refine (HSK.out b2 _ _ HM2.out).mono ?_
  rintro e w3 ⟨v3, rfl, hO3, hbl3⟩
  have HB3 := hid (HB2.out.trans (hbl3.mono (by omega)))
  have hz3 := hbl3.size
  have HX3 := hid (HX2.out.on hbl3)
  obtain ⟨a0, c0, rfl, hs3, _, hr3⟩ := hO3.form
  have HS3 := hid hs3
  have HA0 := hid hr3
  clear hO3 hbl3 hs3 hr3
  obtain ⟨u0, x0, x1, x2⟩ := HX3.out
  go_wp2_with fail
  refine (HTM.out _ (HT.out.f.arg.below HB3.out (Nat.le_refl _)) (HT.out.r.arg.below HB3.out (Nat.le_refl _))).mono ?_
  rintro e w4 ⟨b4, c4, rfl, hb4, ht4, hbl4⟩
  have HB4 := hid (HB3.out.trans (hbl4.mono (by omega)))
  have hz4 := hbl4.size
  have HX4 := hid (HX3.out.on hbl4)
  have HS4 := hid (HS3.out.below hbl4)
  have HT4 := hid (TabX.of ht4)
  clear ht4 hbl4 u0 x0 x1 x2
  go_wp2_with fail
  have hbo := below_one' w4 (.cells #[.slice (some ⟨b4, 0, none⟩) f.length f.length, .int .i64 cap, .slice (some ⟨c4, 0, none⟩) R.length R.length] 26)
  have HB5 := hid (below_new HB4.out (.cells #[.slice (some ⟨b4, 0, none⟩) f.length f.length, .int .i64 cap, .slice (some ⟨c4, 0, none⟩) R.length R.length] 26))
  have HX5 := hid (HX4.out.on hbo)
  have HY5 := hid (TBox.new w4 (some ⟨b4, 0, none⟩) f.length f.length cap (some ⟨c4, 0, none⟩) R.length R.length 26)
  have HS5 := hid (HS4.out.below hbo)
  have HT5 := hid (HT4.out.on hbo)
  have hz5 := HB5.out.size
  have hz5' := hbo.size
  clear hbo
  generalize w4.alloc (.cells #[.slice (some ⟨b4, 0, none⟩) f.length f.length, .int .i64 cap, .slice (some ⟨c4, 0, none⟩) R.length R.length] 26) = W5 at *
  refine (HIK.out b4 _ _ (HTI.out _ _ _ HT5.out.at) (HK.out.below HB5.out hg) (by omega)).mono ?_
  rintro e w6 ⟨v6, rfl, hO6, hbl6⟩
  have HB6 := hid (HB5.out.trans (hbl6.mono (by omega)))
  have hz6 := hbl6.size
  have HX6 := hid (HX5.out.on hbl6)
  have HY6 := hid (HY5.out.on hbl6)
  have HS6 := hid (HS5.out.below hbl6)
  have HT6 := hid (HT5.out.on hbl6)
  obtain ⟨ag, cg, rfl, hG, hGr, hG3⟩ := hO6.form
  have HG6 := hid hG
  have HGr6 := hid hGr
  have HGb : Hid (∀ b, ag = some ⟨b, 0, none⟩ → W5.heap.size ≤ b ∧ b < w6.heap.size) := fun b e => ⟨(hG3 _ e).1, (hG3 _ e).2.1⟩
  have HGq : Hid (∀ q, ag = some q → q = ⟨q.block, 0, none⟩) := fun q e => (hG3 q e).2.2
  clear hbl6 hO6 hG hGr hG3
  go_wp2_with fail
  refine (eqStringS_any K _ rfl ag a0 cg c0 hpl _ HG6.out HS6.out).mono ?_
  rintro e w7 ⟨rfl, hbl7⟩
  have HB7 := hid (HB6.out.trans (hbl7.mono (by omega)))
  have hz7 := hbl7.size
  have HX7 := hid (HX6.out.on hbl7)
  have HY7 := hid (HY6.out.on hbl7)
  have HS7 := hid (HS6.out.below hbl7)
  have HT7 := hid (HT6.out.on hbl7)
  have HG7 := hid (HG6.out.below hbl7)
  have HGr7 := hid (HGr6.out.below hbl7)
  clear hbl7
  obtain ⟨u0, x0, x1, x2⟩ := HX7.out
  obtain ⟨u1, y0, y1, y2⟩ := HY7.out
  have HEQ := hid (fun b1 b2 d1 d2 a1 a2 c1 c2 w n1 n2 h1 h2 => eqTab_any f b1 b2 d1 d2 cap R a1 a2 c1 c2 HZ.out.fl HZ.out.r HZ.out.rw' w n1 n2 h1 h2)
  simp only [HU.out] at HEQ
  go_wp2_with fail
  go_region_with (first
    | (go_at_call 26; refine (HTM.out _ (HT.out.f.arg.below (below_drew HB7.out) (Nat.le_refl _)) (HT.out.r.arg.below (below_drew HB7.out) (Nat.le_refl _))).mono ?_; rintro e w8 ⟨b8, c8, rfl, hb8, ht8, hbl8'⟩; have hbl8 := below_undrew hbl8'; clear hbl8'; have HB8 := hid (HB7.out.trans (hbl8.mono (by omega))); have hz8 := hbl8.size; have HX8 := hid (HX7.out.on hbl8); have HY8 := hid (HY7.out.on hbl8); have HS8 := hid (HS7.out.below hbl8); have HT8 := hid (HT7.out.on hbl8); have HG8 := hid (HG7.out.below hbl8); have HGr8 := hid (HGr7.out.below hbl8); have HQ8 := hid (HTI.out _ _ _ ht8); obtain ⟨u7, t0, t1, t2⟩ := HY8.out; clear ht8 hbl8)
    | (go_at_call 29; refine (HEQ.out b4 b8 f.length f.length (some ⟨c4, 0, none⟩) (some ⟨c8, 0, none⟩) R.length R.length _ (HTI.out _ _ _ HT8.out.at).nodes HQ8.out.nodes (HTI.out _ _ _ HT8.out.at).rows HQ8.out.rows).mono ?_; rintro e w9 ⟨rfl, hbl9⟩; have HB9 := hid (HB8.out.trans (hbl9.mono (by omega))); have hz9 := hbl9.size; have HX9 := hid (HX8.out.on hbl9); have HY9 := hid (HY8.out.on hbl9); have HS9 := hid (HS8.out.below hbl9); have HT9 := hid (HT8.out.on hbl9); have HG9 := hid (HG8.out.below hbl9); have HGr9 := hid (HGr8.out.below hbl9); clear hbl9))
  all_goals
    have hn0 : ∀ b, a0 = some (⟨b, 0, none⟩ : Addr) → b < w3.heap.size := fun b e => (HA0.out _ e).2.1
    have hng : ∀ b, ag = some (⟨b, 0, none⟩ : Addr) → W5.heap.size ≤ b := fun b e => (HGb.out b e).1
    have hx := HX4.out.lt
    obtain ⟨u1', y0', y1', y2'⟩ := HY9.out
    go_wp2_with fail
    refine (HMT.out w4.heap.size b4 c4 _ HT9.out (by omega)).mono ?_
    rintro e w10 ⟨k10, rfl, hsv10⟩
    have HB10 := hid (HB9.out.trans (hsv10.below (B := w.heap.size) (by omega) (fun j hj => by omega)))
    have hz10 := hsv10.size
    have HX10 := hid (HX9.out.save hsv10 (by have := HX0.out.lt; show ¬ (b4 ≤ w.heap.size ∧ w.heap.size < w4.heap.size); omega))
    have HS10 := hid (HS9.out.save hsv10 (fun b e h => by have := hn0 b e; omega))
    have HG10 := hid (HG9.out.save hsv10 (fun b e h => by have := hng b e; omega))
    have HGr10 := hid (HGr9.out.save hsv10 (fun b e h => by have := hng b e; omega))
    clear hsv10 u1' y0' y1' y2'
    have hk0 : ¬ ((k10 : Nat) : Int) < 0 := by omega
    go_wp2_with fail
    refine (eqStringS_any K _ rfl ag a0 cg c0 hpl _ HG10.out HS10.out).mono ?_
    rintro e w11 ⟨rfl, hbl11⟩
    have HB11 := hid (HB10.out.trans (hbl11.mono (by omega)))
    have hz11 := hbl11.size
    have HX11 := hid (HX10.out.on hbl11)
    have HS11 := hid (HS10.out.below hbl11)
    have HGr11 := hid (HGr10.out.below hbl11)
    clear hbl11
    go_wp2_with fail
    refine (markStringS_up K.length 1 1 rfl (by omega) (by omega) ag cg _ HGr11.out).mono ?_
    rintro e w12 ⟨rfl, hm12, _, hsv12⟩
    have HM12 := hid hm12
    have HB12 := hid (HB11.out.trans (hsv12.below (B := w.heap.size) (by omega) (fun j hj => ofT_flat hj (P := fun j => w.heap.size ≤ j) (fun b e => by have := hng b e; omega) HGq.out)))
    have hz12 := hsv12.size
    have HX12 := hid (HX11.out.save hsv12 (fun h => by obtain ⟨q, e, h⟩ := h; have := hng _ ((HGq.out q e) ▸ e); omega))
    have HS12 := hid (HS11.out.save hsv12 (fun b e h => ofT_flat h (P := fun j => ¬ j = b) (fun b' e' => by have := hng b' e'; have := hn0 b e; omega) HGq.out rfl))
    clear hm12 hsv12
    go_wp2_with fail
    refine (heldStringS_from K.length 1 1 rfl (by omega) (by omega) ag cg _ HM12.out).mono ?_
    rintro e w13 ⟨rfl, hbl13⟩
    have HB13 := hid (HB12.out.trans (hbl13.mono (by omega)))
    have hz13 := hbl13.size
    have HX13 := hid (HX12.out.on hbl13)
    have HS13 := hid (HS12.out.below hbl13)
    have HM13 := hid (HM12.out.below hbl13)
    clear hbl13
    have hq0 : ¬ ((1 + K.length : Nat) : Int) < 0 := by omega
    obtain ⟨u2, z0, z1, z2⟩ := HX13.out
    go_wp2_with fail
    refine (HTM.out _ (HT.out.f.arg.below HB13.out (Nat.le_refl _)) (HT.out.r.arg.below HB13.out (Nat.le_refl _))).mono ?_
    rintro e w14 ⟨b14, c14, rfl, hb14, ht14, hbl14⟩
    have HB14 := hid (HB13.out.trans (hbl14.mono (by omega)))
    have hz14 := hbl14.size
    have HS14 := hid (HS13.out.below hbl14)
    have HM14 := hid (HM13.out.below hbl14)
    have HT14 := hid (HTI.out _ _ _ ht14)
    clear ht14 hbl14
    go_wp2_with fail
    refine (HIK.out b14 _ _ HT14.out (HK.out.below HB14.out hg) (by omega)).mono ?_
    rintro e w15 ⟨v15, rfl, hO15, hbl15⟩
    have HB15 := hid (HB14.out.trans (hbl15.mono (by omega)))
    have hz15 := hbl15.size
    have HS15 := hid (HS14.out.below hbl15)
    have HM15 := hid (HM14.out.below hbl15)
    obtain ⟨ah, ch, rfl, hH, _, _⟩ := hO15.form
    have HH15 := hid hH
    clear hO15 hbl15 hH
    go_wp2_with fail
    refine (eqStringS_any K _ rfl ah a0 ch c0 hpl _ HH15.out HS15.out).mono ?_
    rintro e w16 ⟨rfl, hbl16⟩
    have HB16 := hid (HB15.out.trans (hbl16.mono (by omega)))
    have hz16 := hbl16.size
    have HM16 := hid (HM15.out.below hbl16)
    clear hbl16
    go_wp2_with fail
    refine (heldStringS_from K.length 1 1 rfl (by omega) (by omega) ag cg _ HM16.out).mono ?_
    rintro e w17 ⟨rfl, hbl17⟩
    have HB17 := hid (HB16.out.trans (hbl17.mono (by omega)))
    clear hbl17
    go_wp2_with fail
    go_ret
    exact ⟨rfl, HB17.out⟩
end Go.Proofs.YtljhokoojodjnaaGreatDoor
