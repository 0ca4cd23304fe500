/-
  The methods of the program's kinds, by their contracts: node, parts; spanOf; a span's right.
-/
import Derived.Test.YtolckakofgllcaaDoorFormOf
import Derived.Test.YtolckakofgllcaaDoorSmR
namespace Go.Proofs.YtolckakofgllcaaDoor
open Go.RowKit
set_option linter.unusedVariables false
set_option linter.unusedSimpArgs false
theorem meth1 (a b lo hi : Int) (nm : ByteArray) (w : World) : Sem.run Tryd.prog (method 273 132 (.agg #[]) "loop.example/g00759/impl.node") w = .ok (113, .agg #[]) w := by kernel_rfl
set_option maxHeartbeats 400000 in
theorem nodeM1 (a b lo hi : Int) (nm : ByteArray) (w : World) :
    Calls Tryd.prog 113 #[.agg #[]] w fun e w' => e = .returned (.agg #[.int .i64 1, .int .i64 0, .int .i64 0, .int .i64 0, .int .i64 0, .string ⟨#[]⟩]) ∧ Below w.heap.size w w' := by
  go_enter Tryd.func113, Tryd.ntmps113
  go_wp2
  exact bodyPost_ret (v := .agg #[.int .i64 1, .int .i64 0, .int .i64 0, .int .i64 0, .int .i64 0, .string ⟨#[]⟩]) (by simp [results, Tryd.results113, go_sem]) rfl ⟨rfl, (((Below.refl _ _).alloc (Nat.le_refl _) _).alloc (by simp) _)⟩
theorem meth2 (a b lo hi : Int) (nm : ByteArray) (w : World) : Sem.run Tryd.prog (method 273 134 (.agg #[.string nm]) "loop.example/g00759/impl.node") w = .ok (114, .agg #[.string nm]) w := by kernel_rfl
set_option maxHeartbeats 400000 in
theorem nodeM2 (a b lo hi : Int) (nm : ByteArray) (w : World) :
    Calls Tryd.prog 114 #[.agg #[.string nm]] w fun e w' => e = .returned (.agg #[.int .i64 2, .int .i64 0, .int .i64 0, .int .i64 0, .int .i64 0, .string nm]) ∧ Below w.heap.size w w' := by
  go_enter Tryd.func114, Tryd.ntmps114
  go_wp2
  exact bodyPost_ret (v := .agg #[.int .i64 2, .int .i64 0, .int .i64 0, .int .i64 0, .int .i64 0, .string nm]) (by simp [results, Tryd.results114, go_sem]) rfl ⟨rfl, (((Below.refl _ _).alloc (Nat.le_refl _) _).alloc (by simp) _)⟩
theorem meth3 (a b lo hi : Int) (nm : ByteArray) (w : World) : Sem.run Tryd.prog (method 273 136 (.agg #[.int .i64 a]) "loop.example/g00759/impl.node") w = .ok (115, .agg #[.int .i64 a]) w := by kernel_rfl
set_option maxHeartbeats 400000 in
theorem nodeM3 (a b lo hi : Int) (nm : ByteArray) (w : World) :
    Calls Tryd.prog 115 #[.agg #[.int .i64 a]] w fun e w' => e = .returned (.agg #[.int .i64 3, .int .i64 a, .int .i64 0, .int .i64 0, .int .i64 0, .string ⟨#[]⟩]) ∧ Below w.heap.size w w' := by
  go_enter Tryd.func115, Tryd.ntmps115
  go_wp2
  exact bodyPost_ret (v := .agg #[.int .i64 3, .int .i64 a, .int .i64 0, .int .i64 0, .int .i64 0, .string ⟨#[]⟩]) (by simp [results, Tryd.results115, go_sem]) rfl ⟨rfl, (((Below.refl _ _).alloc (Nat.le_refl _) _).alloc (by simp) _)⟩
theorem meth4 (a b lo hi : Int) (nm : ByteArray) (w : World) : Sem.run Tryd.prog (method 273 138 (.agg #[.int .i64 a, .int .i64 b]) "loop.example/g00759/impl.node") w = .ok (116, .agg #[.int .i64 a, .int .i64 b]) w := by kernel_rfl
set_option maxHeartbeats 400000 in
theorem nodeM4 (a b lo hi : Int) (nm : ByteArray) (w : World) :
    Calls Tryd.prog 116 #[.agg #[.int .i64 a, .int .i64 b]] w fun e w' => e = .returned (.agg #[.int .i64 4, .int .i64 a, .int .i64 b, .int .i64 0, .int .i64 0, .string ⟨#[]⟩]) ∧ Below w.heap.size w w' := by
  go_enter Tryd.func116, Tryd.ntmps116
  go_wp2
  exact bodyPost_ret (v := .agg #[.int .i64 4, .int .i64 a, .int .i64 b, .int .i64 0, .int .i64 0, .string ⟨#[]⟩]) (by simp [results, Tryd.results116, go_sem]) rfl ⟨rfl, (((Below.refl _ _).alloc (Nat.le_refl _) _).alloc (by simp) _)⟩
theorem meth5 (a b lo hi : Int) (nm : ByteArray) (w : World) : Sem.run Tryd.prog (method 273 139 (.agg #[.int .i64 a, .int .i64 b]) "loop.example/g00759/impl.node") w = .ok (117, .agg #[.int .i64 a, .int .i64 b]) w := by kernel_rfl
set_option maxHeartbeats 400000 in
theorem nodeM5 (a b lo hi : Int) (nm : ByteArray) (w : World) :
    Calls Tryd.prog 117 #[.agg #[.int .i64 a, .int .i64 b]] w fun e w' => e = .returned (.agg #[.int .i64 5, .int .i64 a, .int .i64 b, .int .i64 0, .int .i64 0, .string ⟨#[]⟩]) ∧ Below w.heap.size w w' := by
  go_enter Tryd.func117, Tryd.ntmps117
  go_wp2
  exact bodyPost_ret (v := .agg #[.int .i64 5, .int .i64 a, .int .i64 b, .int .i64 0, .int .i64 0, .string ⟨#[]⟩]) (by simp [results, Tryd.results117, go_sem]) rfl ⟨rfl, (((Below.refl _ _).alloc (Nat.le_refl _) _).alloc (by simp) _)⟩
theorem meth6 (a b lo hi : Int) (nm : ByteArray) (w : World) : Sem.run Tryd.prog (method 273 141 (.agg #[.int .i64 lo, .int .i64 hi, .int .i64 a]) "loop.example/g00759/impl.node") w = .ok (118, .agg #[.int .i64 lo, .int .i64 hi, .int .i64 a]) w := by kernel_rfl
set_option maxHeartbeats 400000 in
theorem nodeM6 (a b lo hi : Int) (nm : ByteArray) (w : World) :
    Calls Tryd.prog 118 #[.agg #[.int .i64 lo, .int .i64 hi, .int .i64 a]] w fun e w' => e = .returned (.agg #[.int .i64 6, .int .i64 a, .int .i64 0, .int .i64 lo, .int .i64 hi, .string ⟨#[]⟩]) ∧ Below w.heap.size w w' := by
  go_enter Tryd.func118, Tryd.ntmps118
  go_wp2
  exact bodyPost_ret (v := .agg #[.int .i64 6, .int .i64 a, .int .i64 0, .int .i64 lo, .int .i64 hi, .string ⟨#[]⟩]) (by simp [results, Tryd.results118, go_sem]) rfl ⟨rfl, (((Below.refl _ _).alloc (Nat.le_refl _) _).alloc (by simp) _)⟩
theorem meth7 (a b lo hi : Int) (nm : ByteArray) (w : World) : Sem.run Tryd.prog (method 273 142 (.agg #[.int .i64 lo, .int .i64 hi, .int .i64 a]) "loop.example/g00759/impl.node") w = .ok (119, .agg #[.int .i64 lo, .int .i64 hi, .int .i64 a]) w := by kernel_rfl
set_option maxHeartbeats 400000 in
theorem nodeM7 (a b lo hi : Int) (nm : ByteArray) (w : World) :
    Calls Tryd.prog 119 #[.agg #[.int .i64 lo, .int .i64 hi, .int .i64 a]] w fun e w' => e = .returned (.agg #[.int .i64 7, .int .i64 a, .int .i64 0, .int .i64 lo, .int .i64 hi, .string ⟨#[]⟩]) ∧ Below w.heap.size w w' := by
  go_enter Tryd.func119, Tryd.ntmps119
  go_wp2
  exact bodyPost_ret (v := .agg #[.int .i64 7, .int .i64 a, .int .i64 0, .int .i64 lo, .int .i64 hi, .string ⟨#[]⟩]) (by simp [results, Tryd.results119, go_sem]) rfl ⟨rfl, (((Below.refl _ _).alloc (Nat.le_refl _) _).alloc (by simp) _)⟩
theorem meth8 (a b lo hi : Int) (nm : ByteArray) (w : World) : Sem.run Tryd.prog (method 273 143 (.agg #[.int .i64 lo, .int .i64 hi, .int .i64 a]) "loop.example/g00759/impl.node") w = .ok (120, .agg #[.int .i64 lo, .int .i64 hi, .int .i64 a]) w := by kernel_rfl
set_option maxHeartbeats 400000 in
theorem nodeM8 (a b lo hi : Int) (nm : ByteArray) (w : World) :
    Calls Tryd.prog 120 #[.agg #[.int .i64 lo, .int .i64 hi, .int .i64 a]] w fun e w' => e = .returned (.agg #[.int .i64 8, .int .i64 a, .int .i64 0, .int .i64 lo, .int .i64 hi, .string ⟨#[]⟩]) ∧ Below w.heap.size w w' := by
  go_enter Tryd.func120, Tryd.ntmps120
  go_wp2
  exact bodyPost_ret (v := .agg #[.int .i64 8, .int .i64 a, .int .i64 0, .int .i64 lo, .int .i64 hi, .string ⟨#[]⟩]) (by simp [results, Tryd.results120, go_sem]) rfl ⟨rfl, (((Below.refl _ _).alloc (Nat.le_refl _) _).alloc (by simp) _)⟩
theorem meth9 (a b lo hi : Int) (nm : ByteArray) (w : World) : Sem.run Tryd.prog (method 273 145 (.agg #[.int .i64 lo, .int .i64 hi, .int .i64 a, .int .i64 b]) "loop.example/g00759/impl.node") w = .ok (121, .agg #[.int .i64 lo, .int .i64 hi, .int .i64 a, .int .i64 b]) w := by kernel_rfl
set_option maxHeartbeats 400000 in
theorem nodeM9 (a b lo hi : Int) (nm : ByteArray) (w : World) :
    Calls Tryd.prog 121 #[.agg #[.int .i64 lo, .int .i64 hi, .int .i64 a, .int .i64 b]] w fun e w' => e = .returned (.agg #[.int .i64 9, .int .i64 a, .int .i64 b, .int .i64 lo, .int .i64 hi, .string ⟨#[]⟩]) ∧ Below w.heap.size w w' := by
  go_enter Tryd.func121, Tryd.ntmps121
  go_wp2
  exact bodyPost_ret (v := .agg #[.int .i64 9, .int .i64 a, .int .i64 b, .int .i64 lo, .int .i64 hi, .string ⟨#[]⟩]) (by simp [results, Tryd.results121, go_sem]) rfl ⟨rfl, (((Below.refl _ _).alloc (Nat.le_refl _) _).alloc (by simp) _)⟩
theorem pmeth1 (a b lo hi : Int) (nm : ByteArray) (w : World) : Sem.run Tryd.prog (method 273 132 (.agg #[]) "loop.example/g00759/impl.parts") w = .ok (112, .agg #[]) w := by kernel_rfl
theorem fnil1 (v : Value) (w : World) : Sem.run Tryd.prog (binOp .eql 107 (.iface 132 v) .nilIface) w = .ok (.bool false) w := by kernel_rfl
theorem pmeth2 (a b lo hi : Int) (nm : ByteArray) (w : World) : Sem.run Tryd.prog (method 273 134 (.agg #[.string nm]) "loop.example/g00759/impl.parts") w = .ok (112, .agg #[]) w := by kernel_rfl
theorem fnil2 (v : Value) (w : World) : Sem.run Tryd.prog (binOp .eql 107 (.iface 134 v) .nilIface) w = .ok (.bool false) w := by kernel_rfl
theorem pmeth3 (a b lo hi : Int) (nm : ByteArray) (w : World) : Sem.run Tryd.prog (method 273 136 (.agg #[.int .i64 a]) "loop.example/g00759/impl.parts") w = .ok (110, .agg #[.int .i64 a]) w := by kernel_rfl
theorem fnil3 (v : Value) (w : World) : Sem.run Tryd.prog (binOp .eql 107 (.iface 136 v) .nilIface) w = .ok (.bool false) w := by kernel_rfl
theorem pmeth4 (a b lo hi : Int) (nm : ByteArray) (w : World) : Sem.run Tryd.prog (method 273 138 (.agg #[.int .i64 a, .int .i64 b]) "loop.example/g00759/impl.parts") w = .ok (111, .agg #[.int .i64 a, .int .i64 b]) w := by kernel_rfl
theorem fnil4 (v : Value) (w : World) : Sem.run Tryd.prog (binOp .eql 107 (.iface 138 v) .nilIface) w = .ok (.bool false) w := by kernel_rfl
theorem pmeth5 (a b lo hi : Int) (nm : ByteArray) (w : World) : Sem.run Tryd.prog (method 273 139 (.agg #[.int .i64 a, .int .i64 b]) "loop.example/g00759/impl.parts") w = .ok (111, .agg #[.int .i64 a, .int .i64 b]) w := by kernel_rfl
theorem fnil5 (v : Value) (w : World) : Sem.run Tryd.prog (binOp .eql 107 (.iface 139 v) .nilIface) w = .ok (.bool false) w := by kernel_rfl
theorem pmeth6 (a b lo hi : Int) (nm : ByteArray) (w : World) : Sem.run Tryd.prog (method 273 141 (.agg #[.int .i64 lo, .int .i64 hi, .int .i64 a]) "loop.example/g00759/impl.parts") w = .ok (110, .agg #[.int .i64 a]) w := by kernel_rfl
theorem fnil6 (v : Value) (w : World) : Sem.run Tryd.prog (binOp .eql 107 (.iface 141 v) .nilIface) w = .ok (.bool false) w := by kernel_rfl
theorem pmeth7 (a b lo hi : Int) (nm : ByteArray) (w : World) : Sem.run Tryd.prog (method 273 142 (.agg #[.int .i64 lo, .int .i64 hi, .int .i64 a]) "loop.example/g00759/impl.parts") w = .ok (110, .agg #[.int .i64 a]) w := by kernel_rfl
theorem fnil7 (v : Value) (w : World) : Sem.run Tryd.prog (binOp .eql 107 (.iface 142 v) .nilIface) w = .ok (.bool false) w := by kernel_rfl
theorem pmeth8 (a b lo hi : Int) (nm : ByteArray) (w : World) : Sem.run Tryd.prog (method 273 143 (.agg #[.int .i64 lo, .int .i64 hi, .int .i64 a]) "loop.example/g00759/impl.parts") w = .ok (110, .agg #[.int .i64 a]) w := by kernel_rfl
theorem fnil8 (v : Value) (w : World) : Sem.run Tryd.prog (binOp .eql 107 (.iface 143 v) .nilIface) w = .ok (.bool false) w := by kernel_rfl
theorem pmeth9 (a b lo hi : Int) (nm : ByteArray) (w : World) : Sem.run Tryd.prog (method 273 145 (.agg #[.int .i64 lo, .int .i64 hi, .int .i64 a, .int .i64 b]) "loop.example/g00759/impl.parts") w = .ok (111, .agg #[.int .i64 a, .int .i64 b]) w := by kernel_rfl
theorem fnil9 (v : Value) (w : World) : Sem.run Tryd.prog (binOp .eql 107 (.iface 145 v) .nilIface) w = .ok (.bool false) w := by kernel_rfl
theorem parts0 (w : World) :
    Calls Tryd.prog 112 #[.agg #[]] w fun e w' => e = .returned (.slice none 0 0) ∧ Below w.heap.size w w' := by
  go_enter Tryd.func112, Tryd.ntmps112
  go_wp2
  go_ret
  exact ⟨rfl, (Below.refl _ _).alloc (Nat.le_refl _) _⟩
theorem parts1 (a : Int) (w : World) :
    Calls Tryd.prog 110 #[.agg #[.int .i64 a]] w fun e w' => ∃ g, e = .returned (.slice (some ⟨g, 0, none⟩) 1 1) ∧ w.heap.size ≤ g ∧ g < w'.heap.size ∧ w'.cell? ⟨g, 0, none⟩ = some (.int .i64 a) ∧ Below w.heap.size w w' := by
  go_enter Tryd.func110, Tryd.ntmps110
  go_wp2
  go_ret
  exact ⟨_, rfl, by simp, by simp, by simp [go_sem], (((Below.refl _ _).alloc (Nat.le_refl _) _).alloc (by simp) _)⟩
theorem parts2 (a b : Int) (w : World) :
    Calls Tryd.prog 111 #[.agg #[.int .i64 a, .int .i64 b]] w fun e w' => ∃ g, e = .returned (.slice (some ⟨g, 0, none⟩) 2 2) ∧ w.heap.size ≤ g ∧ g < w'.heap.size ∧ w'.cell? ⟨g, 0, none⟩ = some (.int .i64 a) ∧ w'.cell? ⟨g, 1, none⟩ = some (.int .i64 b) ∧ Below w.heap.size w w' := by
  go_enter Tryd.func111, Tryd.ntmps111
  go_wp2
  go_ret
  exact ⟨_, rfl, by simp, by simp, by simp [go_sem], by simp [go_sem], (((Below.refl _ _).alloc (Nat.le_refl _) _).alloc (by simp) _)⟩
set_option maxRecDepth 20000 in
set_option maxHeartbeats 400000 in
theorem span1 (a b lo hi : Int) (nm : ByteArray) (w : World) :
    Calls Tryd.prog 75 #[.iface 132 (.agg #[])] w fun e w' => e = .returned (.tuple #[.agg #[.int .i64 0, .int .i64 0], .bool false]) ∧ Below w.heap.size w w' := by
  have t6 : ∀ w : World, Sem.run Tryd.prog (Instr.typeAssert (.iface 132 (.agg #[])) 107 141 true) w = .ok (.tuple #[.agg #[.int .i64 0, .int .i64 0, .int .i64 0], .bool false]) w := fun _ => by kernel_rfl
  have t7 : ∀ w : World, Sem.run Tryd.prog (Instr.typeAssert (.iface 132 (.agg #[])) 107 142 true) w = .ok (.tuple #[.agg #[.int .i64 0, .int .i64 0, .int .i64 0], .bool false]) w := fun _ => by kernel_rfl
  have t8 : ∀ w : World, Sem.run Tryd.prog (Instr.typeAssert (.iface 132 (.agg #[])) 107 143 true) w = .ok (.tuple #[.agg #[.int .i64 0, .int .i64 0, .int .i64 0], .bool false]) w := fun _ => by kernel_rfl
  have t9 : ∀ w : World, Sem.run Tryd.prog (Instr.typeAssert (.iface 132 (.agg #[])) 107 145 true) w = .ok (.tuple #[.agg #[.int .i64 0, .int .i64 0, .int .i64 0, .int .i64 0], .bool false]) w := fun _ => by kernel_rfl
  go_enter Tryd.func75, Tryd.ntmps75
  go_wp2
  exact bodyPost_ret (v := .tuple #[.agg #[.int .i64 0, .int .i64 0], .bool false]) (by simp [results, Tryd.results75, go_sem]) rfl ⟨rfl, ((Below.refl _ _).alloc (Nat.le_refl _) _)⟩
set_option maxRecDepth 20000 in
set_option maxHeartbeats 400000 in
theorem span2 (a b lo hi : Int) (nm : ByteArray) (w : World) :
    Calls Tryd.prog 75 #[.iface 134 (.agg #[.string nm])] w fun e w' => e = .returned (.tuple #[.agg #[.int .i64 0, .int .i64 0], .bool false]) ∧ Below w.heap.size w w' := by
  have t6 : ∀ w : World, Sem.run Tryd.prog (Instr.typeAssert (.iface 134 (.agg #[.string nm])) 107 141 true) w = .ok (.tuple #[.agg #[.int .i64 0, .int .i64 0, .int .i64 0], .bool false]) w := fun _ => by kernel_rfl
  have t7 : ∀ w : World, Sem.run Tryd.prog (Instr.typeAssert (.iface 134 (.agg #[.string nm])) 107 142 true) w = .ok (.tuple #[.agg #[.int .i64 0, .int .i64 0, .int .i64 0], .bool false]) w := fun _ => by kernel_rfl
  have t8 : ∀ w : World, Sem.run Tryd.prog (Instr.typeAssert (.iface 134 (.agg #[.string nm])) 107 143 true) w = .ok (.tuple #[.agg #[.int .i64 0, .int .i64 0, .int .i64 0], .bool false]) w := fun _ => by kernel_rfl
  have t9 : ∀ w : World, Sem.run Tryd.prog (Instr.typeAssert (.iface 134 (.agg #[.string nm])) 107 145 true) w = .ok (.tuple #[.agg #[.int .i64 0, .int .i64 0, .int .i64 0, .int .i64 0], .bool false]) w := fun _ => by kernel_rfl
  go_enter Tryd.func75, Tryd.ntmps75
  go_wp2
  exact bodyPost_ret (v := .tuple #[.agg #[.int .i64 0, .int .i64 0], .bool false]) (by simp [results, Tryd.results75, go_sem]) rfl ⟨rfl, ((Below.refl _ _).alloc (Nat.le_refl _) _)⟩
set_option maxRecDepth 20000 in
set_option maxHeartbeats 400000 in
theorem span3 (a b lo hi : Int) (nm : ByteArray) (w : World) :
    Calls Tryd.prog 75 #[.iface 136 (.agg #[.int .i64 a])] w fun e w' => e = .returned (.tuple #[.agg #[.int .i64 0, .int .i64 0], .bool false]) ∧ Below w.heap.size w w' := by
  have t6 : ∀ w : World, Sem.run Tryd.prog (Instr.typeAssert (.iface 136 (.agg #[.int .i64 a])) 107 141 true) w = .ok (.tuple #[.agg #[.int .i64 0, .int .i64 0, .int .i64 0], .bool false]) w := fun _ => by kernel_rfl
  have t7 : ∀ w : World, Sem.run Tryd.prog (Instr.typeAssert (.iface 136 (.agg #[.int .i64 a])) 107 142 true) w = .ok (.tuple #[.agg #[.int .i64 0, .int .i64 0, .int .i64 0], .bool false]) w := fun _ => by kernel_rfl
  have t8 : ∀ w : World, Sem.run Tryd.prog (Instr.typeAssert (.iface 136 (.agg #[.int .i64 a])) 107 143 true) w = .ok (.tuple #[.agg #[.int .i64 0, .int .i64 0, .int .i64 0], .bool false]) w := fun _ => by kernel_rfl
  have t9 : ∀ w : World, Sem.run Tryd.prog (Instr.typeAssert (.iface 136 (.agg #[.int .i64 a])) 107 145 true) w = .ok (.tuple #[.agg #[.int .i64 0, .int .i64 0, .int .i64 0, .int .i64 0], .bool false]) w := fun _ => by kernel_rfl
  go_enter Tryd.func75, Tryd.ntmps75
  go_wp2
  exact bodyPost_ret (v := .tuple #[.agg #[.int .i64 0, .int .i64 0], .bool false]) (by simp [results, Tryd.results75, go_sem]) rfl ⟨rfl, ((Below.refl _ _).alloc (Nat.le_refl _) _)⟩
set_option maxRecDepth 20000 in
set_option maxHeartbeats 400000 in
theorem span4 (a b lo hi : Int) (nm : ByteArray) (w : World) :
    Calls Tryd.prog 75 #[.iface 138 (.agg #[.int .i64 a, .int .i64 b])] w fun e w' => e = .returned (.tuple #[.agg #[.int .i64 0, .int .i64 0], .bool false]) ∧ Below w.heap.size w w' := by
  have t6 : ∀ w : World, Sem.run Tryd.prog (Instr.typeAssert (.iface 138 (.agg #[.int .i64 a, .int .i64 b])) 107 141 true) w = .ok (.tuple #[.agg #[.int .i64 0, .int .i64 0, .int .i64 0], .bool false]) w := fun _ => by kernel_rfl
  have t7 : ∀ w : World, Sem.run Tryd.prog (Instr.typeAssert (.iface 138 (.agg #[.int .i64 a, .int .i64 b])) 107 142 true) w = .ok (.tuple #[.agg #[.int .i64 0, .int .i64 0, .int .i64 0], .bool false]) w := fun _ => by kernel_rfl
  have t8 : ∀ w : World, Sem.run Tryd.prog (Instr.typeAssert (.iface 138 (.agg #[.int .i64 a, .int .i64 b])) 107 143 true) w = .ok (.tuple #[.agg #[.int .i64 0, .int .i64 0, .int .i64 0], .bool false]) w := fun _ => by kernel_rfl
  have t9 : ∀ w : World, Sem.run Tryd.prog (Instr.typeAssert (.iface 138 (.agg #[.int .i64 a, .int .i64 b])) 107 145 true) w = .ok (.tuple #[.agg #[.int .i64 0, .int .i64 0, .int .i64 0, .int .i64 0], .bool false]) w := fun _ => by kernel_rfl
  go_enter Tryd.func75, Tryd.ntmps75
  go_wp2
  exact bodyPost_ret (v := .tuple #[.agg #[.int .i64 0, .int .i64 0], .bool false]) (by simp [results, Tryd.results75, go_sem]) rfl ⟨rfl, ((Below.refl _ _).alloc (Nat.le_refl _) _)⟩
set_option maxRecDepth 20000 in
set_option maxHeartbeats 400000 in
theorem span5 (a b lo hi : Int) (nm : ByteArray) (w : World) :
    Calls Tryd.prog 75 #[.iface 139 (.agg #[.int .i64 a, .int .i64 b])] w fun e w' => e = .returned (.tuple #[.agg #[.int .i64 0, .int .i64 0], .bool false]) ∧ Below w.heap.size w w' := by
  have t6 : ∀ w : World, Sem.run Tryd.prog (Instr.typeAssert (.iface 139 (.agg #[.int .i64 a, .int .i64 b])) 107 141 true) w = .ok (.tuple #[.agg #[.int .i64 0, .int .i64 0, .int .i64 0], .bool false]) w := fun _ => by kernel_rfl
  have t7 : ∀ w : World, Sem.run Tryd.prog (Instr.typeAssert (.iface 139 (.agg #[.int .i64 a, .int .i64 b])) 107 142 true) w = .ok (.tuple #[.agg #[.int .i64 0, .int .i64 0, .int .i64 0], .bool false]) w := fun _ => by kernel_rfl
  have t8 : ∀ w : World, Sem.run Tryd.prog (Instr.typeAssert (.iface 139 (.agg #[.int .i64 a, .int .i64 b])) 107 143 true) w = .ok (.tuple #[.agg #[.int .i64 0, .int .i64 0, .int .i64 0], .bool false]) w := fun _ => by kernel_rfl
  have t9 : ∀ w : World, Sem.run Tryd.prog (Instr.typeAssert (.iface 139 (.agg #[.int .i64 a, .int .i64 b])) 107 145 true) w = .ok (.tuple #[.agg #[.int .i64 0, .int .i64 0, .int .i64 0, .int .i64 0], .bool false]) w := fun _ => by kernel_rfl
  go_enter Tryd.func75, Tryd.ntmps75
  go_wp2
  exact bodyPost_ret (v := .tuple #[.agg #[.int .i64 0, .int .i64 0], .bool false]) (by simp [results, Tryd.results75, go_sem]) rfl ⟨rfl, ((Below.refl _ _).alloc (Nat.le_refl _) _)⟩
set_option maxRecDepth 20000 in
set_option maxHeartbeats 400000 in
theorem span6 (a b lo hi : Int) (nm : ByteArray) (w : World) :
    Calls Tryd.prog 75 #[.iface 141 (.agg #[.int .i64 lo, .int .i64 hi, .int .i64 a])] w fun e w' => e = .returned (.tuple #[.agg #[.int .i64 lo, .int .i64 hi], .bool true]) ∧ Below w.heap.size w w' := by
  have t6 : ∀ w : World, Sem.run Tryd.prog (Instr.typeAssert (.iface 141 (.agg #[.int .i64 lo, .int .i64 hi, .int .i64 a])) 107 141 true) w = .ok (.tuple #[.agg #[.int .i64 lo, .int .i64 hi, .int .i64 a], .bool true]) w := fun _ => by kernel_rfl
  go_enter Tryd.func75, Tryd.ntmps75
  go_wp2
  exact bodyPost_ret (v := .tuple #[.agg #[.int .i64 lo, .int .i64 hi], .bool true]) (by simp [results, Tryd.results75, go_sem]) rfl ⟨rfl, ((Below.refl _ _).alloc (Nat.le_refl _) _).alloc (by simp) _⟩
set_option maxRecDepth 20000 in
set_option maxHeartbeats 400000 in
theorem span7 (a b lo hi : Int) (nm : ByteArray) (w : World) :
    Calls Tryd.prog 75 #[.iface 142 (.agg #[.int .i64 lo, .int .i64 hi, .int .i64 a])] w fun e w' => e = .returned (.tuple #[.agg #[.int .i64 lo, .int .i64 hi], .bool true]) ∧ Below w.heap.size w w' := by
  have t6 : ∀ w : World, Sem.run Tryd.prog (Instr.typeAssert (.iface 142 (.agg #[.int .i64 lo, .int .i64 hi, .int .i64 a])) 107 141 true) w = .ok (.tuple #[.agg #[.int .i64 0, .int .i64 0, .int .i64 0], .bool false]) w := fun _ => by kernel_rfl
  have t7 : ∀ w : World, Sem.run Tryd.prog (Instr.typeAssert (.iface 142 (.agg #[.int .i64 lo, .int .i64 hi, .int .i64 a])) 107 142 true) w = .ok (.tuple #[.agg #[.int .i64 lo, .int .i64 hi, .int .i64 a], .bool true]) w := fun _ => by kernel_rfl
  go_enter Tryd.func75, Tryd.ntmps75
  go_wp2
  exact bodyPost_ret (v := .tuple #[.agg #[.int .i64 lo, .int .i64 hi], .bool true]) (by simp [results, Tryd.results75, go_sem]) rfl ⟨rfl, ((Below.refl _ _).alloc (Nat.le_refl _) _).alloc (by simp) _⟩
set_option maxRecDepth 20000 in
set_option maxHeartbeats 400000 in
theorem span8 (a b lo hi : Int) (nm : ByteArray) (w : World) :
    Calls Tryd.prog 75 #[.iface 143 (.agg #[.int .i64 lo, .int .i64 hi, .int .i64 a])] w fun e w' => e = .returned (.tuple #[.agg #[.int .i64 lo, .int .i64 hi], .bool true]) ∧ Below w.heap.size w w' := by
  have t6 : ∀ w : World, Sem.run Tryd.prog (Instr.typeAssert (.iface 143 (.agg #[.int .i64 lo, .int .i64 hi, .int .i64 a])) 107 141 true) w = .ok (.tuple #[.agg #[.int .i64 0, .int .i64 0, .int .i64 0], .bool false]) w := fun _ => by kernel_rfl
  have t7 : ∀ w : World, Sem.run Tryd.prog (Instr.typeAssert (.iface 143 (.agg #[.int .i64 lo, .int .i64 hi, .int .i64 a])) 107 142 true) w = .ok (.tuple #[.agg #[.int .i64 0, .int .i64 0, .int .i64 0], .bool false]) w := fun _ => by kernel_rfl
  have t8 : ∀ w : World, Sem.run Tryd.prog (Instr.typeAssert (.iface 143 (.agg #[.int .i64 lo, .int .i64 hi, .int .i64 a])) 107 143 true) w = .ok (.tuple #[.agg #[.int .i64 lo, .int .i64 hi, .int .i64 a], .bool true]) w := fun _ => by kernel_rfl
  go_enter Tryd.func75, Tryd.ntmps75
  go_wp2
  exact bodyPost_ret (v := .tuple #[.agg #[.int .i64 lo, .int .i64 hi], .bool true]) (by simp [results, Tryd.results75, go_sem]) rfl ⟨rfl, ((Below.refl _ _).alloc (Nat.le_refl _) _).alloc (by simp) _⟩
set_option maxRecDepth 20000 in
set_option maxHeartbeats 400000 in
theorem span9 (a b lo hi : Int) (nm : ByteArray) (w : World) :
    Calls Tryd.prog 75 #[.iface 145 (.agg #[.int .i64 lo, .int .i64 hi, .int .i64 a, .int .i64 b])] w fun e w' => e = .returned (.tuple #[.agg #[.int .i64 lo, .int .i64 hi], .bool true]) ∧ Below w.heap.size w w' := by
  have t6 : ∀ w : World, Sem.run Tryd.prog (Instr.typeAssert (.iface 145 (.agg #[.int .i64 lo, .int .i64 hi, .int .i64 a, .int .i64 b])) 107 141 true) w = .ok (.tuple #[.agg #[.int .i64 0, .int .i64 0, .int .i64 0], .bool false]) w := fun _ => by kernel_rfl
  have t7 : ∀ w : World, Sem.run Tryd.prog (Instr.typeAssert (.iface 145 (.agg #[.int .i64 lo, .int .i64 hi, .int .i64 a, .int .i64 b])) 107 142 true) w = .ok (.tuple #[.agg #[.int .i64 0, .int .i64 0, .int .i64 0], .bool false]) w := fun _ => by kernel_rfl
  have t8 : ∀ w : World, Sem.run Tryd.prog (Instr.typeAssert (.iface 145 (.agg #[.int .i64 lo, .int .i64 hi, .int .i64 a, .int .i64 b])) 107 143 true) w = .ok (.tuple #[.agg #[.int .i64 0, .int .i64 0, .int .i64 0], .bool false]) w := fun _ => by kernel_rfl
  have t9 : ∀ w : World, Sem.run Tryd.prog (Instr.typeAssert (.iface 145 (.agg #[.int .i64 lo, .int .i64 hi, .int .i64 a, .int .i64 b])) 107 145 true) w = .ok (.tuple #[.agg #[.int .i64 lo, .int .i64 hi, .int .i64 a, .int .i64 b], .bool true]) w := fun _ => by kernel_rfl
  go_enter Tryd.func75, Tryd.ntmps75
  go_wp2
  exact bodyPost_ret (v := .tuple #[.agg #[.int .i64 lo, .int .i64 hi], .bool true]) (by simp [results, Tryd.results75, go_sem]) rfl ⟨rfl, ((Below.refl _ _).alloc (Nat.le_refl _) _).alloc (by simp) _⟩
end Go.Proofs.YtolckakofgllcaaDoor
