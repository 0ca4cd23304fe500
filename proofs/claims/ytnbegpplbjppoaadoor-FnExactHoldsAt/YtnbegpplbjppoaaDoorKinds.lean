/-
  The methods of the program's kinds, by their contracts: node, parts; spanOf; a span's right.
-/
import Derived.Test.YtnbegpplbjppoaaDoorFormOf
import Derived.Test.YtnbegpplbjppoaaDoorSmR
namespace Go.Proofs.YtnbegpplbjppoaaDoor
open Go.RowKit
set_option linter.unusedVariables false
set_option linter.unusedSimpArgs false
theorem meth1 (a b lo hi : Int) (nm : ByteArray) (w : World) : Sem.run Tryd.prog (method 251 110 (.agg #[]) "loop.example/g00759/impl.node") w = .ok (88, .agg #[]) w := by kernel_rfl
set_option maxHeartbeats 400000 in
theorem nodeM1 (a b lo hi : Int) (nm : ByteArray) (w : World) :
    Calls Tryd.prog 88 #[.agg #[]] w fun e w' => e = .returned (.agg #[.int .i64 1, .int .i64 0, .int .i64 0, .int .i64 0, .int .i64 0, .string ⟨#[]⟩]) ∧ Below w.heap.size w w' := by
  go_enter Tryd.func88, Tryd.ntmps88
  go_wp2
  exact bodyPost_ret (v := .agg #[.int .i64 1, .int .i64 0, .int .i64 0, .int .i64 0, .int .i64 0, .string ⟨#[]⟩]) (by simp [results, Tryd.results88, go_sem]) rfl ⟨rfl, (((Below.refl _ _).alloc (Nat.le_refl _) _).alloc (by simp) _)⟩
theorem meth2 (a b lo hi : Int) (nm : ByteArray) (w : World) : Sem.run Tryd.prog (method 251 112 (.agg #[.string nm]) "loop.example/g00759/impl.node") w = .ok (89, .agg #[.string nm]) w := by kernel_rfl
set_option maxHeartbeats 400000 in
theorem nodeM2 (a b lo hi : Int) (nm : ByteArray) (w : World) :
    Calls Tryd.prog 89 #[.agg #[.string nm]] w fun e w' => e = .returned (.agg #[.int .i64 2, .int .i64 0, .int .i64 0, .int .i64 0, .int .i64 0, .string nm]) ∧ Below w.heap.size w w' := by
  go_enter Tryd.func89, Tryd.ntmps89
  go_wp2
  exact bodyPost_ret (v := .agg #[.int .i64 2, .int .i64 0, .int .i64 0, .int .i64 0, .int .i64 0, .string nm]) (by simp [results, Tryd.results89, go_sem]) rfl ⟨rfl, (((Below.refl _ _).alloc (Nat.le_refl _) _).alloc (by simp) _)⟩
theorem meth3 (a b lo hi : Int) (nm : ByteArray) (w : World) : Sem.run Tryd.prog (method 251 114 (.agg #[.int .i64 a]) "loop.example/g00759/impl.node") w = .ok (90, .agg #[.int .i64 a]) w := by kernel_rfl
set_option maxHeartbeats 400000 in
theorem nodeM3 (a b lo hi : Int) (nm : ByteArray) (w : World) :
    Calls Tryd.prog 90 #[.agg #[.int .i64 a]] w fun e w' => e = .returned (.agg #[.int .i64 3, .int .i64 a, .int .i64 0, .int .i64 0, .int .i64 0, .string ⟨#[]⟩]) ∧ Below w.heap.size w w' := by
  go_enter Tryd.func90, Tryd.ntmps90
  go_wp2
  exact bodyPost_ret (v := .agg #[.int .i64 3, .int .i64 a, .int .i64 0, .int .i64 0, .int .i64 0, .string ⟨#[]⟩]) (by simp [results, Tryd.results90, go_sem]) rfl ⟨rfl, (((Below.refl _ _).alloc (Nat.le_refl _) _).alloc (by simp) _)⟩
theorem meth4 (a b lo hi : Int) (nm : ByteArray) (w : World) : Sem.run Tryd.prog (method 251 116 (.agg #[.int .i64 a, .int .i64 b]) "loop.example/g00759/impl.node") w = .ok (91, .agg #[.int .i64 a, .int .i64 b]) w := by kernel_rfl
set_option maxHeartbeats 400000 in
theorem nodeM4 (a b lo hi : Int) (nm : ByteArray) (w : World) :
    Calls Tryd.prog 91 #[.agg #[.int .i64 a, .int .i64 b]] w fun e w' => e = .returned (.agg #[.int .i64 4, .int .i64 a, .int .i64 b, .int .i64 0, .int .i64 0, .string ⟨#[]⟩]) ∧ Below w.heap.size w w' := by
  go_enter Tryd.func91, Tryd.ntmps91
  go_wp2
  exact bodyPost_ret (v := .agg #[.int .i64 4, .int .i64 a, .int .i64 b, .int .i64 0, .int .i64 0, .string ⟨#[]⟩]) (by simp [results, Tryd.results91, go_sem]) rfl ⟨rfl, (((Below.refl _ _).alloc (Nat.le_refl _) _).alloc (by simp) _)⟩
theorem meth5 (a b lo hi : Int) (nm : ByteArray) (w : World) : Sem.run Tryd.prog (method 251 117 (.agg #[.int .i64 a, .int .i64 b]) "loop.example/g00759/impl.node") w = .ok (92, .agg #[.int .i64 a, .int .i64 b]) w := by kernel_rfl
set_option maxHeartbeats 400000 in
theorem nodeM5 (a b lo hi : Int) (nm : ByteArray) (w : World) :
    Calls Tryd.prog 92 #[.agg #[.int .i64 a, .int .i64 b]] w fun e w' => e = .returned (.agg #[.int .i64 5, .int .i64 a, .int .i64 b, .int .i64 0, .int .i64 0, .string ⟨#[]⟩]) ∧ Below w.heap.size w w' := by
  go_enter Tryd.func92, Tryd.ntmps92
  go_wp2
  exact bodyPost_ret (v := .agg #[.int .i64 5, .int .i64 a, .int .i64 b, .int .i64 0, .int .i64 0, .string ⟨#[]⟩]) (by simp [results, Tryd.results92, go_sem]) rfl ⟨rfl, (((Below.refl _ _).alloc (Nat.le_refl _) _).alloc (by simp) _)⟩
theorem meth6 (a b lo hi : Int) (nm : ByteArray) (w : World) : Sem.run Tryd.prog (method 251 119 (.agg #[.int .i64 lo, .int .i64 hi, .int .i64 a]) "loop.example/g00759/impl.node") w = .ok (93, .agg #[.int .i64 lo, .int .i64 hi, .int .i64 a]) w := by kernel_rfl
set_option maxHeartbeats 400000 in
theorem nodeM6 (a b lo hi : Int) (nm : ByteArray) (w : World) :
    Calls Tryd.prog 93 #[.agg #[.int .i64 lo, .int .i64 hi, .int .i64 a]] w fun e w' => e = .returned (.agg #[.int .i64 6, .int .i64 a, .int .i64 0, .int .i64 lo, .int .i64 hi, .string ⟨#[]⟩]) ∧ Below w.heap.size w w' := by
  go_enter Tryd.func93, Tryd.ntmps93
  go_wp2
  exact bodyPost_ret (v := .agg #[.int .i64 6, .int .i64 a, .int .i64 0, .int .i64 lo, .int .i64 hi, .string ⟨#[]⟩]) (by simp [results, Tryd.results93, go_sem]) rfl ⟨rfl, (((Below.refl _ _).alloc (Nat.le_refl _) _).alloc (by simp) _)⟩
theorem meth7 (a b lo hi : Int) (nm : ByteArray) (w : World) : Sem.run Tryd.prog (method 251 120 (.agg #[.int .i64 lo, .int .i64 hi, .int .i64 a]) "loop.example/g00759/impl.node") w = .ok (94, .agg #[.int .i64 lo, .int .i64 hi, .int .i64 a]) w := by kernel_rfl
set_option maxHeartbeats 400000 in
theorem nodeM7 (a b lo hi : Int) (nm : ByteArray) (w : World) :
    Calls Tryd.prog 94 #[.agg #[.int .i64 lo, .int .i64 hi, .int .i64 a]] w fun e w' => e = .returned (.agg #[.int .i64 7, .int .i64 a, .int .i64 0, .int .i64 lo, .int .i64 hi, .string ⟨#[]⟩]) ∧ Below w.heap.size w w' := by
  go_enter Tryd.func94, Tryd.ntmps94
  go_wp2
  exact bodyPost_ret (v := .agg #[.int .i64 7, .int .i64 a, .int .i64 0, .int .i64 lo, .int .i64 hi, .string ⟨#[]⟩]) (by simp [results, Tryd.results94, go_sem]) rfl ⟨rfl, (((Below.refl _ _).alloc (Nat.le_refl _) _).alloc (by simp) _)⟩
theorem meth8 (a b lo hi : Int) (nm : ByteArray) (w : World) : Sem.run Tryd.prog (method 251 121 (.agg #[.int .i64 lo, .int .i64 hi, .int .i64 a]) "loop.example/g00759/impl.node") w = .ok (95, .agg #[.int .i64 lo, .int .i64 hi, .int .i64 a]) w := by kernel_rfl
set_option maxHeartbeats 400000 in
theorem nodeM8 (a b lo hi : Int) (nm : ByteArray) (w : World) :
    Calls Tryd.prog 95 #[.agg #[.int .i64 lo, .int .i64 hi, .int .i64 a]] w fun e w' => e = .returned (.agg #[.int .i64 8, .int .i64 a, .int .i64 0, .int .i64 lo, .int .i64 hi, .string ⟨#[]⟩]) ∧ Below w.heap.size w w' := by
  go_enter Tryd.func95, Tryd.ntmps95
  go_wp2
  exact bodyPost_ret (v := .agg #[.int .i64 8, .int .i64 a, .int .i64 0, .int .i64 lo, .int .i64 hi, .string ⟨#[]⟩]) (by simp [results, Tryd.results95, go_sem]) rfl ⟨rfl, (((Below.refl _ _).alloc (Nat.le_refl _) _).alloc (by simp) _)⟩
theorem meth9 (a b lo hi : Int) (nm : ByteArray) (w : World) : Sem.run Tryd.prog (method 251 123 (.agg #[.int .i64 lo, .int .i64 hi, .int .i64 a, .int .i64 b]) "loop.example/g00759/impl.node") w = .ok (96, .agg #[.int .i64 lo, .int .i64 hi, .int .i64 a, .int .i64 b]) w := by kernel_rfl
set_option maxHeartbeats 400000 in
theorem nodeM9 (a b lo hi : Int) (nm : ByteArray) (w : World) :
    Calls Tryd.prog 96 #[.agg #[.int .i64 lo, .int .i64 hi, .int .i64 a, .int .i64 b]] w fun e w' => e = .returned (.agg #[.int .i64 9, .int .i64 a, .int .i64 b, .int .i64 lo, .int .i64 hi, .string ⟨#[]⟩]) ∧ Below w.heap.size w w' := by
  go_enter Tryd.func96, Tryd.ntmps96
  go_wp2
  exact bodyPost_ret (v := .agg #[.int .i64 9, .int .i64 a, .int .i64 b, .int .i64 lo, .int .i64 hi, .string ⟨#[]⟩]) (by simp [results, Tryd.results96, go_sem]) rfl ⟨rfl, (((Below.refl _ _).alloc (Nat.le_refl _) _).alloc (by simp) _)⟩
theorem pmeth1 (a b lo hi : Int) (nm : ByteArray) (w : World) : Sem.run Tryd.prog (method 251 110 (.agg #[]) "loop.example/g00759/impl.parts") w = .ok (87, .agg #[]) w := by kernel_rfl
theorem fnil1 (v : Value) (w : World) : Sem.run Tryd.prog (binOp .eql 87 (.iface 110 v) .nilIface) w = .ok (.bool false) w := by kernel_rfl
theorem pmeth2 (a b lo hi : Int) (nm : ByteArray) (w : World) : Sem.run Tryd.prog (method 251 112 (.agg #[.string nm]) "loop.example/g00759/impl.parts") w = .ok (87, .agg #[]) w := by kernel_rfl
theorem fnil2 (v : Value) (w : World) : Sem.run Tryd.prog (binOp .eql 87 (.iface 112 v) .nilIface) w = .ok (.bool false) w := by kernel_rfl
theorem pmeth3 (a b lo hi : Int) (nm : ByteArray) (w : World) : Sem.run Tryd.prog (method 251 114 (.agg #[.int .i64 a]) "loop.example/g00759/impl.parts") w = .ok (85, .agg #[.int .i64 a]) w := by kernel_rfl
theorem fnil3 (v : Value) (w : World) : Sem.run Tryd.prog (binOp .eql 87 (.iface 114 v) .nilIface) w = .ok (.bool false) w := by kernel_rfl
theorem pmeth4 (a b lo hi : Int) (nm : ByteArray) (w : World) : Sem.run Tryd.prog (method 251 116 (.agg #[.int .i64 a, .int .i64 b]) "loop.example/g00759/impl.parts") w = .ok (86, .agg #[.int .i64 a, .int .i64 b]) w := by kernel_rfl
theorem fnil4 (v : Value) (w : World) : Sem.run Tryd.prog (binOp .eql 87 (.iface 116 v) .nilIface) w = .ok (.bool false) w := by kernel_rfl
theorem pmeth5 (a b lo hi : Int) (nm : ByteArray) (w : World) : Sem.run Tryd.prog (method 251 117 (.agg #[.int .i64 a, .int .i64 b]) "loop.example/g00759/impl.parts") w = .ok (86, .agg #[.int .i64 a, .int .i64 b]) w := by kernel_rfl
theorem fnil5 (v : Value) (w : World) : Sem.run Tryd.prog (binOp .eql 87 (.iface 117 v) .nilIface) w = .ok (.bool false) w := by kernel_rfl
theorem pmeth6 (a b lo hi : Int) (nm : ByteArray) (w : World) : Sem.run Tryd.prog (method 251 119 (.agg #[.int .i64 lo, .int .i64 hi, .int .i64 a]) "loop.example/g00759/impl.parts") w = .ok (85, .agg #[.int .i64 a]) w := by kernel_rfl
theorem fnil6 (v : Value) (w : World) : Sem.run Tryd.prog (binOp .eql 87 (.iface 119 v) .nilIface) w = .ok (.bool false) w := by kernel_rfl
theorem pmeth7 (a b lo hi : Int) (nm : ByteArray) (w : World) : Sem.run Tryd.prog (method 251 120 (.agg #[.int .i64 lo, .int .i64 hi, .int .i64 a]) "loop.example/g00759/impl.parts") w = .ok (85, .agg #[.int .i64 a]) w := by kernel_rfl
theorem fnil7 (v : Value) (w : World) : Sem.run Tryd.prog (binOp .eql 87 (.iface 120 v) .nilIface) w = .ok (.bool false) w := by kernel_rfl
theorem pmeth8 (a b lo hi : Int) (nm : ByteArray) (w : World) : Sem.run Tryd.prog (method 251 121 (.agg #[.int .i64 lo, .int .i64 hi, .int .i64 a]) "loop.example/g00759/impl.parts") w = .ok (85, .agg #[.int .i64 a]) w := by kernel_rfl
theorem fnil8 (v : Value) (w : World) : Sem.run Tryd.prog (binOp .eql 87 (.iface 121 v) .nilIface) w = .ok (.bool false) w := by kernel_rfl
theorem pmeth9 (a b lo hi : Int) (nm : ByteArray) (w : World) : Sem.run Tryd.prog (method 251 123 (.agg #[.int .i64 lo, .int .i64 hi, .int .i64 a, .int .i64 b]) "loop.example/g00759/impl.parts") w = .ok (86, .agg #[.int .i64 a, .int .i64 b]) w := by kernel_rfl
theorem fnil9 (v : Value) (w : World) : Sem.run Tryd.prog (binOp .eql 87 (.iface 123 v) .nilIface) w = .ok (.bool false) w := by kernel_rfl
theorem parts0 (w : World) :
    Calls Tryd.prog 87 #[.agg #[]] w fun e w' => e = .returned (.slice none 0 0) ∧ Below w.heap.size w w' := by
  go_enter Tryd.func87, Tryd.ntmps87
  go_wp2
  go_ret
  exact ⟨rfl, (Below.refl _ _).alloc (Nat.le_refl _) _⟩
theorem parts1 (a : Int) (w : World) :
    Calls Tryd.prog 85 #[.agg #[.int .i64 a]] w fun e w' => ∃ g, e = .returned (.slice (some ⟨g, 0, none⟩) 1 1) ∧ w.heap.size ≤ g ∧ g < w'.heap.size ∧ w'.cell? ⟨g, 0, none⟩ = some (.int .i64 a) ∧ Below w.heap.size w w' := by
  go_enter Tryd.func85, Tryd.ntmps85
  go_wp2
  go_ret
  exact ⟨_, rfl, by simp, by simp, by simp [go_sem], (((Below.refl _ _).alloc (Nat.le_refl _) _).alloc (by simp) _)⟩
theorem parts2 (a b : Int) (w : World) :
    Calls Tryd.prog 86 #[.agg #[.int .i64 a, .int .i64 b]] w fun e w' => ∃ g, e = .returned (.slice (some ⟨g, 0, none⟩) 2 2) ∧ w.heap.size ≤ g ∧ g < w'.heap.size ∧ w'.cell? ⟨g, 0, none⟩ = some (.int .i64 a) ∧ w'.cell? ⟨g, 1, none⟩ = some (.int .i64 b) ∧ Below w.heap.size w w' := by
  go_enter Tryd.func86, Tryd.ntmps86
  go_wp2
  go_ret
  exact ⟨_, rfl, by simp, by simp, by simp [go_sem], by simp [go_sem], (((Below.refl _ _).alloc (Nat.le_refl _) _).alloc (by simp) _)⟩
set_option maxRecDepth 20000 in
set_option maxHeartbeats 400000 in
theorem span1 (a b lo hi : Int) (nm : ByteArray) (w : World) :
    Calls Tryd.prog 52 #[.iface 110 (.agg #[])] w fun e w' => e = .returned (.tuple #[.agg #[.int .i64 0, .int .i64 0], .bool false]) ∧ Below w.heap.size w w' := by
  have t6 : ∀ w : World, Sem.run Tryd.prog (Instr.typeAssert (.iface 110 (.agg #[])) 87 119 true) w = .ok (.tuple #[.agg #[.int .i64 0, .int .i64 0, .int .i64 0], .bool false]) w := fun _ => by kernel_rfl
  have t7 : ∀ w : World, Sem.run Tryd.prog (Instr.typeAssert (.iface 110 (.agg #[])) 87 120 true) w = .ok (.tuple #[.agg #[.int .i64 0, .int .i64 0, .int .i64 0], .bool false]) w := fun _ => by kernel_rfl
  have t8 : ∀ w : World, Sem.run Tryd.prog (Instr.typeAssert (.iface 110 (.agg #[])) 87 121 true) w = .ok (.tuple #[.agg #[.int .i64 0, .int .i64 0, .int .i64 0], .bool false]) w := fun _ => by kernel_rfl
  have t9 : ∀ w : World, Sem.run Tryd.prog (Instr.typeAssert (.iface 110 (.agg #[])) 87 123 true) w = .ok (.tuple #[.agg #[.int .i64 0, .int .i64 0, .int .i64 0, .int .i64 0], .bool false]) w := fun _ => by kernel_rfl
  go_enter Tryd.func52, Tryd.ntmps52
  go_wp2
  exact bodyPost_ret (v := .tuple #[.agg #[.int .i64 0, .int .i64 0], .bool false]) (by simp [results, Tryd.results52, go_sem]) rfl ⟨rfl, ((Below.refl _ _).alloc (Nat.le_refl _) _)⟩
set_option maxRecDepth 20000 in
set_option maxHeartbeats 400000 in
theorem span2 (a b lo hi : Int) (nm : ByteArray) (w : World) :
    Calls Tryd.prog 52 #[.iface 112 (.agg #[.string nm])] w fun e w' => e = .returned (.tuple #[.agg #[.int .i64 0, .int .i64 0], .bool false]) ∧ Below w.heap.size w w' := by
  have t6 : ∀ w : World, Sem.run Tryd.prog (Instr.typeAssert (.iface 112 (.agg #[.string nm])) 87 119 true) w = .ok (.tuple #[.agg #[.int .i64 0, .int .i64 0, .int .i64 0], .bool false]) w := fun _ => by kernel_rfl
  have t7 : ∀ w : World, Sem.run Tryd.prog (Instr.typeAssert (.iface 112 (.agg #[.string nm])) 87 120 true) w = .ok (.tuple #[.agg #[.int .i64 0, .int .i64 0, .int .i64 0], .bool false]) w := fun _ => by kernel_rfl
  have t8 : ∀ w : World, Sem.run Tryd.prog (Instr.typeAssert (.iface 112 (.agg #[.string nm])) 87 121 true) w = .ok (.tuple #[.agg #[.int .i64 0, .int .i64 0, .int .i64 0], .bool false]) w := fun _ => by kernel_rfl
  have t9 : ∀ w : World, Sem.run Tryd.prog (Instr.typeAssert (.iface 112 (.agg #[.string nm])) 87 123 true) w = .ok (.tuple #[.agg #[.int .i64 0, .int .i64 0, .int .i64 0, .int .i64 0], .bool false]) w := fun _ => by kernel_rfl
  go_enter Tryd.func52, Tryd.ntmps52
  go_wp2
  exact bodyPost_ret (v := .tuple #[.agg #[.int .i64 0, .int .i64 0], .bool false]) (by simp [results, Tryd.results52, go_sem]) rfl ⟨rfl, ((Below.refl _ _).alloc (Nat.le_refl _) _)⟩
set_option maxRecDepth 20000 in
set_option maxHeartbeats 400000 in
theorem span3 (a b lo hi : Int) (nm : ByteArray) (w : World) :
    Calls Tryd.prog 52 #[.iface 114 (.agg #[.int .i64 a])] w fun e w' => e = .returned (.tuple #[.agg #[.int .i64 0, .int .i64 0], .bool false]) ∧ Below w.heap.size w w' := by
  have t6 : ∀ w : World, Sem.run Tryd.prog (Instr.typeAssert (.iface 114 (.agg #[.int .i64 a])) 87 119 true) w = .ok (.tuple #[.agg #[.int .i64 0, .int .i64 0, .int .i64 0], .bool false]) w := fun _ => by kernel_rfl
  have t7 : ∀ w : World, Sem.run Tryd.prog (Instr.typeAssert (.iface 114 (.agg #[.int .i64 a])) 87 120 true) w = .ok (.tuple #[.agg #[.int .i64 0, .int .i64 0, .int .i64 0], .bool false]) w := fun _ => by kernel_rfl
  have t8 : ∀ w : World, Sem.run Tryd.prog (Instr.typeAssert (.iface 114 (.agg #[.int .i64 a])) 87 121 true) w = .ok (.tuple #[.agg #[.int .i64 0, .int .i64 0, .int .i64 0], .bool false]) w := fun _ => by kernel_rfl
  have t9 : ∀ w : World, Sem.run Tryd.prog (Instr.typeAssert (.iface 114 (.agg #[.int .i64 a])) 87 123 true) w = .ok (.tuple #[.agg #[.int .i64 0, .int .i64 0, .int .i64 0, .int .i64 0], .bool false]) w := fun _ => by kernel_rfl
  go_enter Tryd.func52, Tryd.ntmps52
  go_wp2
  exact bodyPost_ret (v := .tuple #[.agg #[.int .i64 0, .int .i64 0], .bool false]) (by simp [results, Tryd.results52, go_sem]) rfl ⟨rfl, ((Below.refl _ _).alloc (Nat.le_refl _) _)⟩
set_option maxRecDepth 20000 in
set_option maxHeartbeats 400000 in
theorem span4 (a b lo hi : Int) (nm : ByteArray) (w : World) :
    Calls Tryd.prog 52 #[.iface 116 (.agg #[.int .i64 a, .int .i64 b])] w fun e w' => e = .returned (.tuple #[.agg #[.int .i64 0, .int .i64 0], .bool false]) ∧ Below w.heap.size w w' := by
  have t6 : ∀ w : World, Sem.run Tryd.prog (Instr.typeAssert (.iface 116 (.agg #[.int .i64 a, .int .i64 b])) 87 119 true) w = .ok (.tuple #[.agg #[.int .i64 0, .int .i64 0, .int .i64 0], .bool false]) w := fun _ => by kernel_rfl
  have t7 : ∀ w : World, Sem.run Tryd.prog (Instr.typeAssert (.iface 116 (.agg #[.int .i64 a, .int .i64 b])) 87 120 true) w = .ok (.tuple #[.agg #[.int .i64 0, .int .i64 0, .int .i64 0], .bool false]) w := fun _ => by kernel_rfl
  have t8 : ∀ w : World, Sem.run Tryd.prog (Instr.typeAssert (.iface 116 (.agg #[.int .i64 a, .int .i64 b])) 87 121 true) w = .ok (.tuple #[.agg #[.int .i64 0, .int .i64 0, .int .i64 0], .bool false]) w := fun _ => by kernel_rfl
  have t9 : ∀ w : World, Sem.run Tryd.prog (Instr.typeAssert (.iface 116 (.agg #[.int .i64 a, .int .i64 b])) 87 123 true) w = .ok (.tuple #[.agg #[.int .i64 0, .int .i64 0, .int .i64 0, .int .i64 0], .bool false]) w := fun _ => by kernel_rfl
  go_enter Tryd.func52, Tryd.ntmps52
  go_wp2
  exact bodyPost_ret (v := .tuple #[.agg #[.int .i64 0, .int .i64 0], .bool false]) (by simp [results, Tryd.results52, go_sem]) rfl ⟨rfl, ((Below.refl _ _).alloc (Nat.le_refl _) _)⟩
set_option maxRecDepth 20000 in
set_option maxHeartbeats 400000 in
theorem span5 (a b lo hi : Int) (nm : ByteArray) (w : World) :
    Calls Tryd.prog 52 #[.iface 117 (.agg #[.int .i64 a, .int .i64 b])] w fun e w' => e = .returned (.tuple #[.agg #[.int .i64 0, .int .i64 0], .bool false]) ∧ Below w.heap.size w w' := by
  have t6 : ∀ w : World, Sem.run Tryd.prog (Instr.typeAssert (.iface 117 (.agg #[.int .i64 a, .int .i64 b])) 87 119 true) w = .ok (.tuple #[.agg #[.int .i64 0, .int .i64 0, .int .i64 0], .bool false]) w := fun _ => by kernel_rfl
  have t7 : ∀ w : World, Sem.run Tryd.prog (Instr.typeAssert (.iface 117 (.agg #[.int .i64 a, .int .i64 b])) 87 120 true) w = .ok (.tuple #[.agg #[.int .i64 0, .int .i64 0, .int .i64 0], .bool false]) w := fun _ => by kernel_rfl
  have t8 : ∀ w : World, Sem.run Tryd.prog (Instr.typeAssert (.iface 117 (.agg #[.int .i64 a, .int .i64 b])) 87 121 true) w = .ok (.tuple #[.agg #[.int .i64 0, .int .i64 0, .int .i64 0], .bool false]) w := fun _ => by kernel_rfl
  have t9 : ∀ w : World, Sem.run Tryd.prog (Instr.typeAssert (.iface 117 (.agg #[.int .i64 a, .int .i64 b])) 87 123 true) w = .ok (.tuple #[.agg #[.int .i64 0, .int .i64 0, .int .i64 0, .int .i64 0], .bool false]) w := fun _ => by kernel_rfl
  go_enter Tryd.func52, Tryd.ntmps52
  go_wp2
  exact bodyPost_ret (v := .tuple #[.agg #[.int .i64 0, .int .i64 0], .bool false]) (by simp [results, Tryd.results52, go_sem]) rfl ⟨rfl, ((Below.refl _ _).alloc (Nat.le_refl _) _)⟩
set_option maxRecDepth 20000 in
set_option maxHeartbeats 400000 in
theorem span6 (a b lo hi : Int) (nm : ByteArray) (w : World) :
    Calls Tryd.prog 52 #[.iface 119 (.agg #[.int .i64 lo, .int .i64 hi, .int .i64 a])] w fun e w' => e = .returned (.tuple #[.agg #[.int .i64 lo, .int .i64 hi], .bool true]) ∧ Below w.heap.size w w' := by
  have t6 : ∀ w : World, Sem.run Tryd.prog (Instr.typeAssert (.iface 119 (.agg #[.int .i64 lo, .int .i64 hi, .int .i64 a])) 87 119 true) w = .ok (.tuple #[.agg #[.int .i64 lo, .int .i64 hi, .int .i64 a], .bool true]) w := fun _ => by kernel_rfl
  go_enter Tryd.func52, Tryd.ntmps52
  go_wp2
  exact bodyPost_ret (v := .tuple #[.agg #[.int .i64 lo, .int .i64 hi], .bool true]) (by simp [results, Tryd.results52, go_sem]) rfl ⟨rfl, ((Below.refl _ _).alloc (Nat.le_refl _) _).alloc (by simp) _⟩
set_option maxRecDepth 20000 in
set_option maxHeartbeats 400000 in
theorem span7 (a b lo hi : Int) (nm : ByteArray) (w : World) :
    Calls Tryd.prog 52 #[.iface 120 (.agg #[.int .i64 lo, .int .i64 hi, .int .i64 a])] w fun e w' => e = .returned (.tuple #[.agg #[.int .i64 lo, .int .i64 hi], .bool true]) ∧ Below w.heap.size w w' := by
  have t6 : ∀ w : World, Sem.run Tryd.prog (Instr.typeAssert (.iface 120 (.agg #[.int .i64 lo, .int .i64 hi, .int .i64 a])) 87 119 true) w = .ok (.tuple #[.agg #[.int .i64 0, .int .i64 0, .int .i64 0], .bool false]) w := fun _ => by kernel_rfl
  have t7 : ∀ w : World, Sem.run Tryd.prog (Instr.typeAssert (.iface 120 (.agg #[.int .i64 lo, .int .i64 hi, .int .i64 a])) 87 120 true) w = .ok (.tuple #[.agg #[.int .i64 lo, .int .i64 hi, .int .i64 a], .bool true]) w := fun _ => by kernel_rfl
  go_enter Tryd.func52, Tryd.ntmps52
  go_wp2
  exact bodyPost_ret (v := .tuple #[.agg #[.int .i64 lo, .int .i64 hi], .bool true]) (by simp [results, Tryd.results52, go_sem]) rfl ⟨rfl, ((Below.refl _ _).alloc (Nat.le_refl _) _).alloc (by simp) _⟩
set_option maxRecDepth 20000 in
set_option maxHeartbeats 400000 in
theorem span8 (a b lo hi : Int) (nm : ByteArray) (w : World) :
    Calls Tryd.prog 52 #[.iface 121 (.agg #[.int .i64 lo, .int .i64 hi, .int .i64 a])] w fun e w' => e = .returned (.tuple #[.agg #[.int .i64 lo, .int .i64 hi], .bool true]) ∧ Below w.heap.size w w' := by
  have t6 : ∀ w : World, Sem.run Tryd.prog (Instr.typeAssert (.iface 121 (.agg #[.int .i64 lo, .int .i64 hi, .int .i64 a])) 87 119 true) w = .ok (.tuple #[.agg #[.int .i64 0, .int .i64 0, .int .i64 0], .bool false]) w := fun _ => by kernel_rfl
  have t7 : ∀ w : World, Sem.run Tryd.prog (Instr.typeAssert (.iface 121 (.agg #[.int .i64 lo, .int .i64 hi, .int .i64 a])) 87 120 true) w = .ok (.tuple #[.agg #[.int .i64 0, .int .i64 0, .int .i64 0], .bool false]) w := fun _ => by kernel_rfl
  have t8 : ∀ w : World, Sem.run Tryd.prog (Instr.typeAssert (.iface 121 (.agg #[.int .i64 lo, .int .i64 hi, .int .i64 a])) 87 121 true) w = .ok (.tuple #[.agg #[.int .i64 lo, .int .i64 hi, .int .i64 a], .bool true]) w := fun _ => by kernel_rfl
  go_enter Tryd.func52, Tryd.ntmps52
  go_wp2
  exact bodyPost_ret (v := .tuple #[.agg #[.int .i64 lo, .int .i64 hi], .bool true]) (by simp [results, Tryd.results52, go_sem]) rfl ⟨rfl, ((Below.refl _ _).alloc (Nat.le_refl _) _).alloc (by simp) _⟩
set_option maxRecDepth 20000 in
set_option maxHeartbeats 400000 in
theorem span9 (a b lo hi : Int) (nm : ByteArray) (w : World) :
    Calls Tryd.prog 52 #[.iface 123 (.agg #[.int .i64 lo, .int .i64 hi, .int .i64 a, .int .i64 b])] w fun e w' => e = .returned (.tuple #[.agg #[.int .i64 lo, .int .i64 hi], .bool true]) ∧ Below w.heap.size w w' := by
  have t6 : ∀ w : World, Sem.run Tryd.prog (Instr.typeAssert (.iface 123 (.agg #[.int .i64 lo, .int .i64 hi, .int .i64 a, .int .i64 b])) 87 119 true) w = .ok (.tuple #[.agg #[.int .i64 0, .int .i64 0, .int .i64 0], .bool false]) w := fun _ => by kernel_rfl
  have t7 : ∀ w : World, Sem.run Tryd.prog (Instr.typeAssert (.iface 123 (.agg #[.int .i64 lo, .int .i64 hi, .int .i64 a, .int .i64 b])) 87 120 true) w = .ok (.tuple #[.agg #[.int .i64 0, .int .i64 0, .int .i64 0], .bool false]) w := fun _ => by kernel_rfl
  have t8 : ∀ w : World, Sem.run Tryd.prog (Instr.typeAssert (.iface 123 (.agg #[.int .i64 lo, .int .i64 hi, .int .i64 a, .int .i64 b])) 87 121 true) w = .ok (.tuple #[.agg #[.int .i64 0, .int .i64 0, .int .i64 0], .bool false]) w := fun _ => by kernel_rfl
  have t9 : ∀ w : World, Sem.run Tryd.prog (Instr.typeAssert (.iface 123 (.agg #[.int .i64 lo, .int .i64 hi, .int .i64 a, .int .i64 b])) 87 123 true) w = .ok (.tuple #[.agg #[.int .i64 lo, .int .i64 hi, .int .i64 a, .int .i64 b], .bool true]) w := fun _ => by kernel_rfl
  go_enter Tryd.func52, Tryd.ntmps52
  go_wp2
  exact bodyPost_ret (v := .tuple #[.agg #[.int .i64 lo, .int .i64 hi], .bool true]) (by simp [results, Tryd.results52, go_sem]) rfl ⟨rfl, ((Below.refl _ _).alloc (Nat.le_refl _) _).alloc (by simp) _⟩
end Go.Proofs.YtnbegpplbjppoaaDoor
