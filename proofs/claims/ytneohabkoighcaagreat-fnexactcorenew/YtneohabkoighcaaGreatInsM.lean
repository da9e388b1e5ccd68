/- The method ins of each kind of place; registerSet. No condition. -/
import Derived.Test.YtneohabkoighcaaGreatInsP
namespace Go.Proofs.YtneohabkoighcaaGreat
open Go.ChangeShapes Go.WideShapes Go.ChangeAt Go.RowKit

set_option maxHeartbeats 1000000 in
theorem ins_number (r n : Int) (w : World) :
    Calls Tryz.prog 212 #[.agg #[.int .i64 r, .int .i64 n]] w fun e w' => e = .returned (.agg #[.int .i64 1, .int .i64 r, .int .i64 0, .int .i64 0, .int .i64 n]) ∧ Below w.heap.size w w' := by
  go_enter Tryz.func212, Tryz.ntmps212
  go_wp2
  refine bodyPost_ret (v := .agg #[.int .i64 1, .int .i64 r, .int .i64 0, .int .i64 0, .int .i64 n]) (by simp [results, Tryz.results212, go_sem]) rfl ⟨rfl, ?_⟩
  repeat (first | exact Below.refl _ _ | refine Below.alloc ?_ (by simp; try omega) _ | refine Below.setCell ?_ (by simp; try omega) _)
theorem meth_number (v : Value) (w : World) : (Go.method 359 160 v "loop.example/g00249/impl.ins").run Tryz.prog w = .ok (212, v) w := by kernel_rfl
theorem as_number_number (v : Value) (w : World) : (Instr.typeAssert (.iface 160 v) 129 160 true).run Tryz.prog w = .ok (.tuple #[v, .bool true]) w := by kernel_rfl
set_option maxHeartbeats 1000000 in
theorem regSet_number (r n : Int) (w : World) :
    Calls Tryz.prog 101 #[.iface 160 (.agg #[.int .i64 r, .int .i64 n])] w fun e w' => e = .returned (.int .i64 r) ∧ Below w.heap.size w w' := by
  have q0 := as_number_number
  go_enter Tryz.func101, Tryz.ntmps101
  go_wp2
  go_ret
  refine ⟨rfl, ?_⟩
  repeat (first | exact Below.refl _ _ | refine Below.alloc ?_ (by simp; try omega) _ | refine Below.setCell ?_ (by simp; try omega) _)

set_option maxHeartbeats 1000000 in
theorem ins_one (o r a : Int) (w : World) :
    Calls Tryz.prog 213 #[.agg #[.int .i64 o, .int .i64 r, .int .i64 a]] w fun e w' => e = .returned (.agg #[.int .i64 o, .int .i64 r, .int .i64 a, .int .i64 0, .int .i64 0]) ∧ Below w.heap.size w w' := by
  go_enter Tryz.func213, Tryz.ntmps213
  go_wp2
  refine bodyPost_ret (v := .agg #[.int .i64 o, .int .i64 r, .int .i64 a, .int .i64 0, .int .i64 0]) (by simp [results, Tryz.results213, go_sem]) rfl ⟨rfl, ?_⟩
  repeat (first | exact Below.refl _ _ | refine Below.alloc ?_ (by simp; try omega) _ | refine Below.setCell ?_ (by simp; try omega) _)
theorem meth_one (v : Value) (w : World) : (Go.method 359 162 v "loop.example/g00249/impl.ins").run Tryz.prog w = .ok (213, v) w := by kernel_rfl
theorem as_one_number (v : Value) (w : World) : (Instr.typeAssert (.iface 162 v) 129 160 true).run Tryz.prog w = .ok (.tuple #[.agg #[.int .i64 0, .int .i64 0], .bool false]) w := by kernel_rfl
theorem as_one_one (v : Value) (w : World) : (Instr.typeAssert (.iface 162 v) 129 162 true).run Tryz.prog w = .ok (.tuple #[v, .bool true]) w := by kernel_rfl
set_option maxHeartbeats 1000000 in
theorem regSet_one (o r a : Int) (w : World) :
    Calls Tryz.prog 101 #[.iface 162 (.agg #[.int .i64 o, .int .i64 r, .int .i64 a])] w fun e w' => e = .returned (.int .i64 r) ∧ Below w.heap.size w w' := by
  have q0 := as_one_number
  have q1 := as_one_one
  go_enter Tryz.func101, Tryz.ntmps101
  go_wp2
  go_ret
  refine ⟨rfl, ?_⟩
  repeat (first | exact Below.refl _ _ | refine Below.alloc ?_ (by simp; try omega) _ | refine Below.setCell ?_ (by simp; try omega) _)

set_option maxHeartbeats 1000000 in
theorem ins_two (o r a b : Int) (w : World) :
    Calls Tryz.prog 214 #[.agg #[.int .i64 o, .int .i64 r, .int .i64 a, .int .i64 b]] w fun e w' => e = .returned (.agg #[.int .i64 o, .int .i64 r, .int .i64 a, .int .i64 b, .int .i64 0]) ∧ Below w.heap.size w w' := by
  go_enter Tryz.func214, Tryz.ntmps214
  go_wp2
  refine bodyPost_ret (v := .agg #[.int .i64 o, .int .i64 r, .int .i64 a, .int .i64 b, .int .i64 0]) (by simp [results, Tryz.results214, go_sem]) rfl ⟨rfl, ?_⟩
  repeat (first | exact Below.refl _ _ | refine Below.alloc ?_ (by simp; try omega) _ | refine Below.setCell ?_ (by simp; try omega) _)
theorem meth_two (v : Value) (w : World) : (Go.method 359 164 v "loop.example/g00249/impl.ins").run Tryz.prog w = .ok (214, v) w := by kernel_rfl
theorem as_two_number (v : Value) (w : World) : (Instr.typeAssert (.iface 164 v) 129 160 true).run Tryz.prog w = .ok (.tuple #[.agg #[.int .i64 0, .int .i64 0], .bool false]) w := by kernel_rfl
theorem as_two_one (v : Value) (w : World) : (Instr.typeAssert (.iface 164 v) 129 162 true).run Tryz.prog w = .ok (.tuple #[.agg #[.int .i64 0, .int .i64 0, .int .i64 0], .bool false]) w := by kernel_rfl
theorem as_two_two (v : Value) (w : World) : (Instr.typeAssert (.iface 164 v) 129 164 true).run Tryz.prog w = .ok (.tuple #[v, .bool true]) w := by kernel_rfl
set_option maxHeartbeats 1000000 in
theorem regSet_two (o r a b : Int) (w : World) :
    Calls Tryz.prog 101 #[.iface 164 (.agg #[.int .i64 o, .int .i64 r, .int .i64 a, .int .i64 b])] w fun e w' => e = .returned (.int .i64 r) ∧ Below w.heap.size w w' := by
  have q0 := as_two_number
  have q1 := as_two_one
  have q2 := as_two_two
  go_enter Tryz.func101, Tryz.ntmps101
  go_wp2
  go_ret
  refine ⟨rfl, ?_⟩
  repeat (first | exact Below.refl _ _ | refine Below.alloc ?_ (by simp; try omega) _ | refine Below.setCell ?_ (by simp; try omega) _)

set_option maxHeartbeats 1000000 in
theorem ins_point (r a b n : Int) (w : World) :
    Calls Tryz.prog 215 #[.agg #[.int .i64 r, .int .i64 a, .int .i64 b, .int .i64 n]] w fun e w' => e = .returned (.agg #[.int .i64 6, .int .i64 r, .int .i64 a, .int .i64 b, .int .i64 n]) ∧ Below w.heap.size w w' := by
  go_enter Tryz.func215, Tryz.ntmps215
  go_wp2
  refine bodyPost_ret (v := .agg #[.int .i64 6, .int .i64 r, .int .i64 a, .int .i64 b, .int .i64 n]) (by simp [results, Tryz.results215, go_sem]) rfl ⟨rfl, ?_⟩
  repeat (first | exact Below.refl _ _ | refine Below.alloc ?_ (by simp; try omega) _ | refine Below.setCell ?_ (by simp; try omega) _)
theorem meth_point (v : Value) (w : World) : (Go.method 359 166 v "loop.example/g00249/impl.ins").run Tryz.prog w = .ok (215, v) w := by kernel_rfl
theorem as_point_number (v : Value) (w : World) : (Instr.typeAssert (.iface 166 v) 129 160 true).run Tryz.prog w = .ok (.tuple #[.agg #[.int .i64 0, .int .i64 0], .bool false]) w := by kernel_rfl
theorem as_point_one (v : Value) (w : World) : (Instr.typeAssert (.iface 166 v) 129 162 true).run Tryz.prog w = .ok (.tuple #[.agg #[.int .i64 0, .int .i64 0, .int .i64 0], .bool false]) w := by kernel_rfl
theorem as_point_two (v : Value) (w : World) : (Instr.typeAssert (.iface 166 v) 129 164 true).run Tryz.prog w = .ok (.tuple #[.agg #[.int .i64 0, .int .i64 0, .int .i64 0, .int .i64 0], .bool false]) w := by kernel_rfl
theorem as_point_point (v : Value) (w : World) : (Instr.typeAssert (.iface 166 v) 129 166 true).run Tryz.prog w = .ok (.tuple #[v, .bool true]) w := by kernel_rfl
set_option maxHeartbeats 1000000 in
theorem regSet_point (r a b n : Int) (w : World) :
    Calls Tryz.prog 101 #[.iface 166 (.agg #[.int .i64 r, .int .i64 a, .int .i64 b, .int .i64 n])] w fun e w' => e = .returned (.int .i64 r) ∧ Below w.heap.size w w' := by
  have q0 := as_point_number
  have q1 := as_point_one
  have q2 := as_point_two
  have q3 := as_point_point
  go_enter Tryz.func101, Tryz.ntmps101
  go_wp2
  go_ret
  refine ⟨rfl, ?_⟩
  repeat (first | exact Below.refl _ _ | refine Below.alloc ?_ (by simp; try omega) _ | refine Below.setCell ?_ (by simp; try omega) _)

set_option maxHeartbeats 1000000 in
theorem ins_load (r a n : Int) (w : World) :
    Calls Tryz.prog 216 #[.agg #[.int .i64 r, .int .i64 a, .int .i64 n]] w fun e w' => e = .returned (.agg #[.int .i64 10, .int .i64 r, .int .i64 a, .int .i64 0, .int .i64 n]) ∧ Below w.heap.size w w' := by
  go_enter Tryz.func216, Tryz.ntmps216
  go_wp2
  refine bodyPost_ret (v := .agg #[.int .i64 10, .int .i64 r, .int .i64 a, .int .i64 0, .int .i64 n]) (by simp [results, Tryz.results216, go_sem]) rfl ⟨rfl, ?_⟩
  repeat (first | exact Below.refl _ _ | refine Below.alloc ?_ (by simp; try omega) _ | refine Below.setCell ?_ (by simp; try omega) _)
theorem meth_load (v : Value) (w : World) : (Go.method 359 168 v "loop.example/g00249/impl.ins").run Tryz.prog w = .ok (216, v) w := by kernel_rfl
theorem as_load_number (v : Value) (w : World) : (Instr.typeAssert (.iface 168 v) 129 160 true).run Tryz.prog w = .ok (.tuple #[.agg #[.int .i64 0, .int .i64 0], .bool false]) w := by kernel_rfl
theorem as_load_one (v : Value) (w : World) : (Instr.typeAssert (.iface 168 v) 129 162 true).run Tryz.prog w = .ok (.tuple #[.agg #[.int .i64 0, .int .i64 0, .int .i64 0], .bool false]) w := by kernel_rfl
theorem as_load_two (v : Value) (w : World) : (Instr.typeAssert (.iface 168 v) 129 164 true).run Tryz.prog w = .ok (.tuple #[.agg #[.int .i64 0, .int .i64 0, .int .i64 0, .int .i64 0], .bool false]) w := by kernel_rfl
theorem as_load_point (v : Value) (w : World) : (Instr.typeAssert (.iface 168 v) 129 166 true).run Tryz.prog w = .ok (.tuple #[.agg #[.int .i64 0, .int .i64 0, .int .i64 0, .int .i64 0], .bool false]) w := by kernel_rfl
theorem as_load_load (v : Value) (w : World) : (Instr.typeAssert (.iface 168 v) 129 168 true).run Tryz.prog w = .ok (.tuple #[v, .bool true]) w := by kernel_rfl
set_option maxHeartbeats 1000000 in
theorem regSet_load (r a n : Int) (w : World) :
    Calls Tryz.prog 101 #[.iface 168 (.agg #[.int .i64 r, .int .i64 a, .int .i64 n])] w fun e w' => e = .returned (.int .i64 r) ∧ Below w.heap.size w w' := by
  have q0 := as_load_number
  have q1 := as_load_one
  have q2 := as_load_two
  have q3 := as_load_point
  have q4 := as_load_load
  go_enter Tryz.func101, Tryz.ntmps101
  go_wp2
  go_ret
  refine ⟨rfl, ?_⟩
  repeat (first | exact Below.refl _ _ | refine Below.alloc ?_ (by simp; try omega) _ | refine Below.setCell ?_ (by simp; try omega) _)

set_option maxHeartbeats 1000000 in
theorem ins_store (a b n : Int) (w : World) :
    Calls Tryz.prog 217 #[.agg #[.int .i64 a, .int .i64 b, .int .i64 n]] w fun e w' => e = .returned (.agg #[.int .i64 11, .int .i64 0, .int .i64 a, .int .i64 b, .int .i64 n]) ∧ Below w.heap.size w w' := by
  go_enter Tryz.func217, Tryz.ntmps217
  go_wp2
  refine bodyPost_ret (v := .agg #[.int .i64 11, .int .i64 0, .int .i64 a, .int .i64 b, .int .i64 n]) (by simp [results, Tryz.results217, go_sem]) rfl ⟨rfl, ?_⟩
  repeat (first | exact Below.refl _ _ | refine Below.alloc ?_ (by simp; try omega) _ | refine Below.setCell ?_ (by simp; try omega) _)
theorem meth_store (v : Value) (w : World) : (Go.method 359 170 v "loop.example/g00249/impl.ins").run Tryz.prog w = .ok (217, v) w := by kernel_rfl
theorem as_store_number (v : Value) (w : World) : (Instr.typeAssert (.iface 170 v) 129 160 true).run Tryz.prog w = .ok (.tuple #[.agg #[.int .i64 0, .int .i64 0], .bool false]) w := by kernel_rfl
theorem as_store_one (v : Value) (w : World) : (Instr.typeAssert (.iface 170 v) 129 162 true).run Tryz.prog w = .ok (.tuple #[.agg #[.int .i64 0, .int .i64 0, .int .i64 0], .bool false]) w := by kernel_rfl
theorem as_store_two (v : Value) (w : World) : (Instr.typeAssert (.iface 170 v) 129 164 true).run Tryz.prog w = .ok (.tuple #[.agg #[.int .i64 0, .int .i64 0, .int .i64 0, .int .i64 0], .bool false]) w := by kernel_rfl
theorem as_store_point (v : Value) (w : World) : (Instr.typeAssert (.iface 170 v) 129 166 true).run Tryz.prog w = .ok (.tuple #[.agg #[.int .i64 0, .int .i64 0, .int .i64 0, .int .i64 0], .bool false]) w := by kernel_rfl
theorem as_store_load (v : Value) (w : World) : (Instr.typeAssert (.iface 170 v) 129 168 true).run Tryz.prog w = .ok (.tuple #[.agg #[.int .i64 0, .int .i64 0, .int .i64 0], .bool false]) w := by kernel_rfl
set_option maxHeartbeats 1000000 in
theorem regSet_store (a b n : Int) (w : World) :
    Calls Tryz.prog 101 #[.iface 170 (.agg #[.int .i64 a, .int .i64 b, .int .i64 n])] w fun e w' => e = .returned (.int .i64 (-1)) ∧ Below w.heap.size w w' := by
  have q0 := as_store_number
  have q1 := as_store_one
  have q2 := as_store_two
  have q3 := as_store_point
  have q4 := as_store_load
  go_enter Tryz.func101, Tryz.ntmps101
  go_wp2
  go_ret
  refine ⟨rfl, ?_⟩
  repeat (first | exact Below.refl _ _ | refine Below.alloc ?_ (by simp; try omega) _ | refine Below.setCell ?_ (by simp; try omega) _)

set_option maxHeartbeats 1000000 in
theorem ins_zero (a n : Int) (w : World) :
    Calls Tryz.prog 218 #[.agg #[.int .i64 a, .int .i64 n]] w fun e w' => e = .returned (.agg #[.int .i64 13, .int .i64 0, .int .i64 a, .int .i64 0, .int .i64 n]) ∧ Below w.heap.size w w' := by
  go_enter Tryz.func218, Tryz.ntmps218
  go_wp2
  refine bodyPost_ret (v := .agg #[.int .i64 13, .int .i64 0, .int .i64 a, .int .i64 0, .int .i64 n]) (by simp [results, Tryz.results218, go_sem]) rfl ⟨rfl, ?_⟩
  repeat (first | exact Below.refl _ _ | refine Below.alloc ?_ (by simp; try omega) _ | refine Below.setCell ?_ (by simp; try omega) _)
theorem meth_zero (v : Value) (w : World) : (Go.method 359 172 v "loop.example/g00249/impl.ins").run Tryz.prog w = .ok (218, v) w := by kernel_rfl
theorem as_zero_number (v : Value) (w : World) : (Instr.typeAssert (.iface 172 v) 129 160 true).run Tryz.prog w = .ok (.tuple #[.agg #[.int .i64 0, .int .i64 0], .bool false]) w := by kernel_rfl
theorem as_zero_one (v : Value) (w : World) : (Instr.typeAssert (.iface 172 v) 129 162 true).run Tryz.prog w = .ok (.tuple #[.agg #[.int .i64 0, .int .i64 0, .int .i64 0], .bool false]) w := by kernel_rfl
theorem as_zero_two (v : Value) (w : World) : (Instr.typeAssert (.iface 172 v) 129 164 true).run Tryz.prog w = .ok (.tuple #[.agg #[.int .i64 0, .int .i64 0, .int .i64 0, .int .i64 0], .bool false]) w := by kernel_rfl
theorem as_zero_point (v : Value) (w : World) : (Instr.typeAssert (.iface 172 v) 129 166 true).run Tryz.prog w = .ok (.tuple #[.agg #[.int .i64 0, .int .i64 0, .int .i64 0, .int .i64 0], .bool false]) w := by kernel_rfl
theorem as_zero_load (v : Value) (w : World) : (Instr.typeAssert (.iface 172 v) 129 168 true).run Tryz.prog w = .ok (.tuple #[.agg #[.int .i64 0, .int .i64 0, .int .i64 0], .bool false]) w := by kernel_rfl
set_option maxHeartbeats 1000000 in
theorem regSet_zero (a n : Int) (w : World) :
    Calls Tryz.prog 101 #[.iface 172 (.agg #[.int .i64 a, .int .i64 n])] w fun e w' => e = .returned (.int .i64 (-1)) ∧ Below w.heap.size w w' := by
  have q0 := as_zero_number
  have q1 := as_zero_one
  have q2 := as_zero_two
  have q3 := as_zero_point
  have q4 := as_zero_load
  go_enter Tryz.func101, Tryz.ntmps101
  go_wp2
  go_ret
  refine ⟨rfl, ?_⟩
  repeat (first | exact Below.refl _ _ | refine Below.alloc ?_ (by simp; try omega) _ | refine Below.setCell ?_ (by simp; try omega) _)

set_option maxHeartbeats 1000000 in
theorem ins_gone (a : Int) (w : World) :
    Calls Tryz.prog 219 #[.agg #[.int .i64 a]] w fun e w' => e = .returned (.agg #[.int .i64 14, .int .i64 0, .int .i64 a, .int .i64 0, .int .i64 0]) ∧ Below w.heap.size w w' := by
  go_enter Tryz.func219, Tryz.ntmps219
  go_wp2
  refine bodyPost_ret (v := .agg #[.int .i64 14, .int .i64 0, .int .i64 a, .int .i64 0, .int .i64 0]) (by simp [results, Tryz.results219, go_sem]) rfl ⟨rfl, ?_⟩
  repeat (first | exact Below.refl _ _ | refine Below.alloc ?_ (by simp; try omega) _ | refine Below.setCell ?_ (by simp; try omega) _)
theorem meth_gone (v : Value) (w : World) : (Go.method 359 174 v "loop.example/g00249/impl.ins").run Tryz.prog w = .ok (219, v) w := by kernel_rfl
theorem as_gone_number (v : Value) (w : World) : (Instr.typeAssert (.iface 174 v) 129 160 true).run Tryz.prog w = .ok (.tuple #[.agg #[.int .i64 0, .int .i64 0], .bool false]) w := by kernel_rfl
theorem as_gone_one (v : Value) (w : World) : (Instr.typeAssert (.iface 174 v) 129 162 true).run Tryz.prog w = .ok (.tuple #[.agg #[.int .i64 0, .int .i64 0, .int .i64 0], .bool false]) w := by kernel_rfl
theorem as_gone_two (v : Value) (w : World) : (Instr.typeAssert (.iface 174 v) 129 164 true).run Tryz.prog w = .ok (.tuple #[.agg #[.int .i64 0, .int .i64 0, .int .i64 0, .int .i64 0], .bool false]) w := by kernel_rfl
theorem as_gone_point (v : Value) (w : World) : (Instr.typeAssert (.iface 174 v) 129 166 true).run Tryz.prog w = .ok (.tuple #[.agg #[.int .i64 0, .int .i64 0, .int .i64 0, .int .i64 0], .bool false]) w := by kernel_rfl
theorem as_gone_load (v : Value) (w : World) : (Instr.typeAssert (.iface 174 v) 129 168 true).run Tryz.prog w = .ok (.tuple #[.agg #[.int .i64 0, .int .i64 0, .int .i64 0], .bool false]) w := by kernel_rfl
set_option maxHeartbeats 1000000 in
theorem regSet_gone (a : Int) (w : World) :
    Calls Tryz.prog 101 #[.iface 174 (.agg #[.int .i64 a])] w fun e w' => e = .returned (.int .i64 (-1)) ∧ Below w.heap.size w w' := by
  have q0 := as_gone_number
  have q1 := as_gone_one
  have q2 := as_gone_two
  have q3 := as_gone_point
  have q4 := as_gone_load
  go_enter Tryz.func101, Tryz.ntmps101
  go_wp2
  go_ret
  refine ⟨rfl, ?_⟩
  repeat (first | exact Below.refl _ _ | refine Below.alloc ?_ (by simp; try omega) _ | refine Below.setCell ?_ (by simp; try omega) _)

set_option maxHeartbeats 1000000 in
theorem ins_halt (w : World) :
    Calls Tryz.prog 220 #[.agg #[]] w fun e w' => e = .returned (.agg #[.int .i64 15, .int .i64 0, .int .i64 0, .int .i64 0, .int .i64 0]) ∧ Below w.heap.size w w' := by
  go_enter Tryz.func220, Tryz.ntmps220
  go_wp2
  refine bodyPost_ret (v := .agg #[.int .i64 15, .int .i64 0, .int .i64 0, .int .i64 0, .int .i64 0]) (by simp [results, Tryz.results220, go_sem]) rfl ⟨rfl, ?_⟩
  repeat (first | exact Below.refl _ _ | refine Below.alloc ?_ (by simp; try omega) _ | refine Below.setCell ?_ (by simp; try omega) _)
theorem meth_halt (v : Value) (w : World) : (Go.method 359 176 v "loop.example/g00249/impl.ins").run Tryz.prog w = .ok (220, v) w := by kernel_rfl
theorem as_halt_number (v : Value) (w : World) : (Instr.typeAssert (.iface 176 v) 129 160 true).run Tryz.prog w = .ok (.tuple #[.agg #[.int .i64 0, .int .i64 0], .bool false]) w := by kernel_rfl
theorem as_halt_one (v : Value) (w : World) : (Instr.typeAssert (.iface 176 v) 129 162 true).run Tryz.prog w = .ok (.tuple #[.agg #[.int .i64 0, .int .i64 0, .int .i64 0], .bool false]) w := by kernel_rfl
theorem as_halt_two (v : Value) (w : World) : (Instr.typeAssert (.iface 176 v) 129 164 true).run Tryz.prog w = .ok (.tuple #[.agg #[.int .i64 0, .int .i64 0, .int .i64 0, .int .i64 0], .bool false]) w := by kernel_rfl
theorem as_halt_point (v : Value) (w : World) : (Instr.typeAssert (.iface 176 v) 129 166 true).run Tryz.prog w = .ok (.tuple #[.agg #[.int .i64 0, .int .i64 0, .int .i64 0, .int .i64 0], .bool false]) w := by kernel_rfl
theorem as_halt_load (v : Value) (w : World) : (Instr.typeAssert (.iface 176 v) 129 168 true).run Tryz.prog w = .ok (.tuple #[.agg #[.int .i64 0, .int .i64 0, .int .i64 0], .bool false]) w := by kernel_rfl
set_option maxHeartbeats 1000000 in
theorem regSet_halt (w : World) :
    Calls Tryz.prog 101 #[.iface 176 (.agg #[])] w fun e w' => e = .returned (.int .i64 (-1)) ∧ Below w.heap.size w w' := by
  have q0 := as_halt_number
  have q1 := as_halt_one
  have q2 := as_halt_two
  have q3 := as_halt_point
  have q4 := as_halt_load
  go_enter Tryz.func101, Tryz.ntmps101
  go_wp2
  go_ret
  refine ⟨rfl, ?_⟩
  repeat (first | exact Below.refl _ _ | refine Below.alloc ?_ (by simp; try omega) _ | refine Below.setCell ?_ (by simp; try omega) _)

end Go.Proofs.YtneohabkoighcaaGreat
