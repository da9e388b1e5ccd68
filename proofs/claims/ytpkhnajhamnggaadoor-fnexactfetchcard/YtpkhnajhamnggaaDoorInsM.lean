/- The method ins of each kind of place; registerSet. No condition. -/
import Derived.Test.YtpkhnajhamnggaaDoorInsP
namespace Go.Proofs.YtpkhnajhamnggaaDoor
open Go.ChangeShapes Go.WideShapes Go.ChangeAt Go.RowKit

set_option maxHeartbeats 1000000 in
theorem ins_number (r n : Int) (w : World) :
    Calls Tryd.prog 68 #[.agg #[.int .i64 r, .int .i64 n]] w fun e w' => e = .returned (.agg #[.int .i64 1, .int .i64 r, .int .i64 0, .int .i64 0, .int .i64 n]) ∧ Below w.heap.size w w' := by
  go_enter Tryd.func68, Tryd.ntmps68
  go_wp2
  refine bodyPost_ret (v := .agg #[.int .i64 1, .int .i64 r, .int .i64 0, .int .i64 0, .int .i64 n]) (by simp [results, Tryd.results68, go_sem]) rfl ⟨rfl, ?_⟩
  repeat (first | exact Below.refl _ _ | refine Below.alloc ?_ (by simp; try omega) _ | refine Below.setCell ?_ (by simp; try omega) _)
theorem meth_number (v : Value) (w : World) : (Go.method 251 69 v "loop.example/g00249/impl.ins").run Tryd.prog w = .ok (68, v) w := by kernel_rfl
theorem as_number_number (v : Value) (w : World) : (Instr.typeAssert (.iface 69 v) 61 69 true).run Tryd.prog w = .ok (.tuple #[v, .bool true]) w := by kernel_rfl
set_option maxHeartbeats 1000000 in
theorem ins_one (o r a : Int) (w : World) :
    Calls Tryd.prog 69 #[.agg #[.int .i64 o, .int .i64 r, .int .i64 a]] w fun e w' => e = .returned (.agg #[.int .i64 o, .int .i64 r, .int .i64 a, .int .i64 0, .int .i64 0]) ∧ Below w.heap.size w w' := by
  go_enter Tryd.func69, Tryd.ntmps69
  go_wp2
  refine bodyPost_ret (v := .agg #[.int .i64 o, .int .i64 r, .int .i64 a, .int .i64 0, .int .i64 0]) (by simp [results, Tryd.results69, go_sem]) rfl ⟨rfl, ?_⟩
  repeat (first | exact Below.refl _ _ | refine Below.alloc ?_ (by simp; try omega) _ | refine Below.setCell ?_ (by simp; try omega) _)
theorem meth_one (v : Value) (w : World) : (Go.method 251 71 v "loop.example/g00249/impl.ins").run Tryd.prog w = .ok (69, v) w := by kernel_rfl
theorem as_one_number (v : Value) (w : World) : (Instr.typeAssert (.iface 71 v) 61 69 true).run Tryd.prog w = .ok (.tuple #[.agg #[.int .i64 0, .int .i64 0], .bool false]) w := by kernel_rfl
theorem as_one_one (v : Value) (w : World) : (Instr.typeAssert (.iface 71 v) 61 71 true).run Tryd.prog w = .ok (.tuple #[v, .bool true]) w := by kernel_rfl
set_option maxHeartbeats 1000000 in
theorem ins_two (o r a b : Int) (w : World) :
    Calls Tryd.prog 70 #[.agg #[.int .i64 o, .int .i64 r, .int .i64 a, .int .i64 b]] w fun e w' => e = .returned (.agg #[.int .i64 o, .int .i64 r, .int .i64 a, .int .i64 b, .int .i64 0]) ∧ Below w.heap.size w w' := by
  go_enter Tryd.func70, Tryd.ntmps70
  go_wp2
  refine bodyPost_ret (v := .agg #[.int .i64 o, .int .i64 r, .int .i64 a, .int .i64 b, .int .i64 0]) (by simp [results, Tryd.results70, go_sem]) rfl ⟨rfl, ?_⟩
  repeat (first | exact Below.refl _ _ | refine Below.alloc ?_ (by simp; try omega) _ | refine Below.setCell ?_ (by simp; try omega) _)
theorem meth_two (v : Value) (w : World) : (Go.method 251 73 v "loop.example/g00249/impl.ins").run Tryd.prog w = .ok (70, v) w := by kernel_rfl
theorem as_two_number (v : Value) (w : World) : (Instr.typeAssert (.iface 73 v) 61 69 true).run Tryd.prog w = .ok (.tuple #[.agg #[.int .i64 0, .int .i64 0], .bool false]) w := by kernel_rfl
theorem as_two_one (v : Value) (w : World) : (Instr.typeAssert (.iface 73 v) 61 71 true).run Tryd.prog w = .ok (.tuple #[.agg #[.int .i64 0, .int .i64 0, .int .i64 0], .bool false]) w := by kernel_rfl
theorem as_two_two (v : Value) (w : World) : (Instr.typeAssert (.iface 73 v) 61 73 true).run Tryd.prog w = .ok (.tuple #[v, .bool true]) w := by kernel_rfl
set_option maxHeartbeats 1000000 in
theorem ins_point (r a b n : Int) (w : World) :
    Calls Tryd.prog 71 #[.agg #[.int .i64 r, .int .i64 a, .int .i64 b, .int .i64 n]] w fun e w' => e = .returned (.agg #[.int .i64 6, .int .i64 r, .int .i64 a, .int .i64 b, .int .i64 n]) ∧ Below w.heap.size w w' := by
  go_enter Tryd.func71, Tryd.ntmps71
  go_wp2
  refine bodyPost_ret (v := .agg #[.int .i64 6, .int .i64 r, .int .i64 a, .int .i64 b, .int .i64 n]) (by simp [results, Tryd.results71, go_sem]) rfl ⟨rfl, ?_⟩
  repeat (first | exact Below.refl _ _ | refine Below.alloc ?_ (by simp; try omega) _ | refine Below.setCell ?_ (by simp; try omega) _)
theorem meth_point (v : Value) (w : World) : (Go.method 251 75 v "loop.example/g00249/impl.ins").run Tryd.prog w = .ok (71, v) w := by kernel_rfl
theorem as_point_number (v : Value) (w : World) : (Instr.typeAssert (.iface 75 v) 61 69 true).run Tryd.prog w = .ok (.tuple #[.agg #[.int .i64 0, .int .i64 0], .bool false]) w := by kernel_rfl
theorem as_point_one (v : Value) (w : World) : (Instr.typeAssert (.iface 75 v) 61 71 true).run Tryd.prog w = .ok (.tuple #[.agg #[.int .i64 0, .int .i64 0, .int .i64 0], .bool false]) w := by kernel_rfl
theorem as_point_two (v : Value) (w : World) : (Instr.typeAssert (.iface 75 v) 61 73 true).run Tryd.prog w = .ok (.tuple #[.agg #[.int .i64 0, .int .i64 0, .int .i64 0, .int .i64 0], .bool false]) w := by kernel_rfl
theorem as_point_point (v : Value) (w : World) : (Instr.typeAssert (.iface 75 v) 61 75 true).run Tryd.prog w = .ok (.tuple #[v, .bool true]) w := by kernel_rfl
set_option maxHeartbeats 1000000 in
theorem ins_load (r a n : Int) (w : World) :
    Calls Tryd.prog 72 #[.agg #[.int .i64 r, .int .i64 a, .int .i64 n]] w fun e w' => e = .returned (.agg #[.int .i64 10, .int .i64 r, .int .i64 a, .int .i64 0, .int .i64 n]) ∧ Below w.heap.size w w' := by
  go_enter Tryd.func72, Tryd.ntmps72
  go_wp2
  refine bodyPost_ret (v := .agg #[.int .i64 10, .int .i64 r, .int .i64 a, .int .i64 0, .int .i64 n]) (by simp [results, Tryd.results72, go_sem]) rfl ⟨rfl, ?_⟩
  repeat (first | exact Below.refl _ _ | refine Below.alloc ?_ (by simp; try omega) _ | refine Below.setCell ?_ (by simp; try omega) _)
theorem meth_load (v : Value) (w : World) : (Go.method 251 77 v "loop.example/g00249/impl.ins").run Tryd.prog w = .ok (72, v) w := by kernel_rfl
theorem as_load_number (v : Value) (w : World) : (Instr.typeAssert (.iface 77 v) 61 69 true).run Tryd.prog w = .ok (.tuple #[.agg #[.int .i64 0, .int .i64 0], .bool false]) w := by kernel_rfl
theorem as_load_one (v : Value) (w : World) : (Instr.typeAssert (.iface 77 v) 61 71 true).run Tryd.prog w = .ok (.tuple #[.agg #[.int .i64 0, .int .i64 0, .int .i64 0], .bool false]) w := by kernel_rfl
theorem as_load_two (v : Value) (w : World) : (Instr.typeAssert (.iface 77 v) 61 73 true).run Tryd.prog w = .ok (.tuple #[.agg #[.int .i64 0, .int .i64 0, .int .i64 0, .int .i64 0], .bool false]) w := by kernel_rfl
theorem as_load_point (v : Value) (w : World) : (Instr.typeAssert (.iface 77 v) 61 75 true).run Tryd.prog w = .ok (.tuple #[.agg #[.int .i64 0, .int .i64 0, .int .i64 0, .int .i64 0], .bool false]) w := by kernel_rfl
theorem as_load_load (v : Value) (w : World) : (Instr.typeAssert (.iface 77 v) 61 77 true).run Tryd.prog w = .ok (.tuple #[v, .bool true]) w := by kernel_rfl
set_option maxHeartbeats 1000000 in
theorem ins_store (a b n : Int) (w : World) :
    Calls Tryd.prog 73 #[.agg #[.int .i64 a, .int .i64 b, .int .i64 n]] w fun e w' => e = .returned (.agg #[.int .i64 11, .int .i64 0, .int .i64 a, .int .i64 b, .int .i64 n]) ∧ Below w.heap.size w w' := by
  go_enter Tryd.func73, Tryd.ntmps73
  go_wp2
  refine bodyPost_ret (v := .agg #[.int .i64 11, .int .i64 0, .int .i64 a, .int .i64 b, .int .i64 n]) (by simp [results, Tryd.results73, go_sem]) rfl ⟨rfl, ?_⟩
  repeat (first | exact Below.refl _ _ | refine Below.alloc ?_ (by simp; try omega) _ | refine Below.setCell ?_ (by simp; try omega) _)
theorem meth_store (v : Value) (w : World) : (Go.method 251 79 v "loop.example/g00249/impl.ins").run Tryd.prog w = .ok (73, v) w := by kernel_rfl
theorem as_store_number (v : Value) (w : World) : (Instr.typeAssert (.iface 79 v) 61 69 true).run Tryd.prog w = .ok (.tuple #[.agg #[.int .i64 0, .int .i64 0], .bool false]) w := by kernel_rfl
theorem as_store_one (v : Value) (w : World) : (Instr.typeAssert (.iface 79 v) 61 71 true).run Tryd.prog w = .ok (.tuple #[.agg #[.int .i64 0, .int .i64 0, .int .i64 0], .bool false]) w := by kernel_rfl
theorem as_store_two (v : Value) (w : World) : (Instr.typeAssert (.iface 79 v) 61 73 true).run Tryd.prog w = .ok (.tuple #[.agg #[.int .i64 0, .int .i64 0, .int .i64 0, .int .i64 0], .bool false]) w := by kernel_rfl
theorem as_store_point (v : Value) (w : World) : (Instr.typeAssert (.iface 79 v) 61 75 true).run Tryd.prog w = .ok (.tuple #[.agg #[.int .i64 0, .int .i64 0, .int .i64 0, .int .i64 0], .bool false]) w := by kernel_rfl
theorem as_store_load (v : Value) (w : World) : (Instr.typeAssert (.iface 79 v) 61 77 true).run Tryd.prog w = .ok (.tuple #[.agg #[.int .i64 0, .int .i64 0, .int .i64 0], .bool false]) w := by kernel_rfl
set_option maxHeartbeats 1000000 in
theorem ins_zero (a n : Int) (w : World) :
    Calls Tryd.prog 74 #[.agg #[.int .i64 a, .int .i64 n]] w fun e w' => e = .returned (.agg #[.int .i64 13, .int .i64 0, .int .i64 a, .int .i64 0, .int .i64 n]) ∧ Below w.heap.size w w' := by
  go_enter Tryd.func74, Tryd.ntmps74
  go_wp2
  refine bodyPost_ret (v := .agg #[.int .i64 13, .int .i64 0, .int .i64 a, .int .i64 0, .int .i64 n]) (by simp [results, Tryd.results74, go_sem]) rfl ⟨rfl, ?_⟩
  repeat (first | exact Below.refl _ _ | refine Below.alloc ?_ (by simp; try omega) _ | refine Below.setCell ?_ (by simp; try omega) _)
theorem meth_zero (v : Value) (w : World) : (Go.method 251 81 v "loop.example/g00249/impl.ins").run Tryd.prog w = .ok (74, v) w := by kernel_rfl
theorem as_zero_number (v : Value) (w : World) : (Instr.typeAssert (.iface 81 v) 61 69 true).run Tryd.prog w = .ok (.tuple #[.agg #[.int .i64 0, .int .i64 0], .bool false]) w := by kernel_rfl
theorem as_zero_one (v : Value) (w : World) : (Instr.typeAssert (.iface 81 v) 61 71 true).run Tryd.prog w = .ok (.tuple #[.agg #[.int .i64 0, .int .i64 0, .int .i64 0], .bool false]) w := by kernel_rfl
theorem as_zero_two (v : Value) (w : World) : (Instr.typeAssert (.iface 81 v) 61 73 true).run Tryd.prog w = .ok (.tuple #[.agg #[.int .i64 0, .int .i64 0, .int .i64 0, .int .i64 0], .bool false]) w := by kernel_rfl
theorem as_zero_point (v : Value) (w : World) : (Instr.typeAssert (.iface 81 v) 61 75 true).run Tryd.prog w = .ok (.tuple #[.agg #[.int .i64 0, .int .i64 0, .int .i64 0, .int .i64 0], .bool false]) w := by kernel_rfl
theorem as_zero_load (v : Value) (w : World) : (Instr.typeAssert (.iface 81 v) 61 77 true).run Tryd.prog w = .ok (.tuple #[.agg #[.int .i64 0, .int .i64 0, .int .i64 0], .bool false]) w := by kernel_rfl
set_option maxHeartbeats 1000000 in
theorem ins_gone (a : Int) (w : World) :
    Calls Tryd.prog 75 #[.agg #[.int .i64 a]] w fun e w' => e = .returned (.agg #[.int .i64 14, .int .i64 0, .int .i64 a, .int .i64 0, .int .i64 0]) ∧ Below w.heap.size w w' := by
  go_enter Tryd.func75, Tryd.ntmps75
  go_wp2
  refine bodyPost_ret (v := .agg #[.int .i64 14, .int .i64 0, .int .i64 a, .int .i64 0, .int .i64 0]) (by simp [results, Tryd.results75, go_sem]) rfl ⟨rfl, ?_⟩
  repeat (first | exact Below.refl _ _ | refine Below.alloc ?_ (by simp; try omega) _ | refine Below.setCell ?_ (by simp; try omega) _)
theorem meth_gone (v : Value) (w : World) : (Go.method 251 83 v "loop.example/g00249/impl.ins").run Tryd.prog w = .ok (75, v) w := by kernel_rfl
theorem as_gone_number (v : Value) (w : World) : (Instr.typeAssert (.iface 83 v) 61 69 true).run Tryd.prog w = .ok (.tuple #[.agg #[.int .i64 0, .int .i64 0], .bool false]) w := by kernel_rfl
theorem as_gone_one (v : Value) (w : World) : (Instr.typeAssert (.iface 83 v) 61 71 true).run Tryd.prog w = .ok (.tuple #[.agg #[.int .i64 0, .int .i64 0, .int .i64 0], .bool false]) w := by kernel_rfl
theorem as_gone_two (v : Value) (w : World) : (Instr.typeAssert (.iface 83 v) 61 73 true).run Tryd.prog w = .ok (.tuple #[.agg #[.int .i64 0, .int .i64 0, .int .i64 0, .int .i64 0], .bool false]) w := by kernel_rfl
theorem as_gone_point (v : Value) (w : World) : (Instr.typeAssert (.iface 83 v) 61 75 true).run Tryd.prog w = .ok (.tuple #[.agg #[.int .i64 0, .int .i64 0, .int .i64 0, .int .i64 0], .bool false]) w := by kernel_rfl
theorem as_gone_load (v : Value) (w : World) : (Instr.typeAssert (.iface 83 v) 61 77 true).run Tryd.prog w = .ok (.tuple #[.agg #[.int .i64 0, .int .i64 0, .int .i64 0], .bool false]) w := by kernel_rfl
set_option maxHeartbeats 1000000 in
theorem ins_halt (w : World) :
    Calls Tryd.prog 76 #[.agg #[]] w fun e w' => e = .returned (.agg #[.int .i64 15, .int .i64 0, .int .i64 0, .int .i64 0, .int .i64 0]) ∧ Below w.heap.size w w' := by
  go_enter Tryd.func76, Tryd.ntmps76
  go_wp2
  refine bodyPost_ret (v := .agg #[.int .i64 15, .int .i64 0, .int .i64 0, .int .i64 0, .int .i64 0]) (by simp [results, Tryd.results76, go_sem]) rfl ⟨rfl, ?_⟩
  repeat (first | exact Below.refl _ _ | refine Below.alloc ?_ (by simp; try omega) _ | refine Below.setCell ?_ (by simp; try omega) _)
theorem meth_halt (v : Value) (w : World) : (Go.method 251 85 v "loop.example/g00249/impl.ins").run Tryd.prog w = .ok (76, v) w := by kernel_rfl
theorem as_halt_number (v : Value) (w : World) : (Instr.typeAssert (.iface 85 v) 61 69 true).run Tryd.prog w = .ok (.tuple #[.agg #[.int .i64 0, .int .i64 0], .bool false]) w := by kernel_rfl
theorem as_halt_one (v : Value) (w : World) : (Instr.typeAssert (.iface 85 v) 61 71 true).run Tryd.prog w = .ok (.tuple #[.agg #[.int .i64 0, .int .i64 0, .int .i64 0], .bool false]) w := by kernel_rfl
theorem as_halt_two (v : Value) (w : World) : (Instr.typeAssert (.iface 85 v) 61 73 true).run Tryd.prog w = .ok (.tuple #[.agg #[.int .i64 0, .int .i64 0, .int .i64 0, .int .i64 0], .bool false]) w := by kernel_rfl
theorem as_halt_point (v : Value) (w : World) : (Instr.typeAssert (.iface 85 v) 61 75 true).run Tryd.prog w = .ok (.tuple #[.agg #[.int .i64 0, .int .i64 0, .int .i64 0, .int .i64 0], .bool false]) w := by kernel_rfl
theorem as_halt_load (v : Value) (w : World) : (Instr.typeAssert (.iface 85 v) 61 77 true).run Tryd.prog w = .ok (.tuple #[.agg #[.int .i64 0, .int .i64 0, .int .i64 0], .bool false]) w := by kernel_rfl
end Go.Proofs.YtpkhnajhamnggaaDoor
