/- DrawCovers, DrawMeet: each returns two Keys of some four ints each, and turns nothing that was there. -/
import Derived.Test.YtackeckfhnpaaaaDrawK3
namespace Go.Proofs.Ytackeckfhnpaaaa
open Go.ChangeShapes Go.WideShapes Go.ChangeAt Go.RowKit

set_option maxRecDepth 100000 in
set_option maxHeartbeats 8000000 in
theorem drawCovers_any {w : World} {a : Option Addr} {len cap : Nat} (hc : Code8 w.heap.size w a len) :
    Calls Try.prog 9 #[.slice a len cap] w fun e w' => ∃ x0 x1 x2 x3 x4 x5 x6 x7 : Int, e = .returned (.tuple #[.agg #[.int .i64 x0, .int .i64 x1, .int .i64 x2, .int .i64 x3], .agg #[.int .i64 x4, .int .i64 x5, .int .i64 x6, .int .i64 x7]]) ∧ Below w.heap.size w w' := by
  have T0 := hid_mk (TwoK.new w 0 0 0 0 0 0 0 0 25 25)
  have C := hid_mk (hc.later T0.out.k)
  clear hc
  go_enter Try.func9, Try.ntmps9
  go_wp2_with fail
  refine (drawTwo_any C.out).mono ?_
  rintro e w1 ⟨x0, x1, x2, x3, x4, x5, x6, x7, rfl, b1⟩
  have T1 := hid_mk (T0.out.next b1)
  have l1 : w.heap.size + 1 < w1.heap.size := T1.out.b.lt
  have T2 := hid_mk (T1.out.next (((Below.refl _ w1).alloc (Nat.le_refl _) (.cells #[.int .i64 x0, .int .i64 x1, .int .i64 x2, .int .i64 x3] 25)).alloc (by simp) (.cells #[.int .i64 x4, .int .i64 x5, .int .i64 x6, .int .i64 x7] 25)))
  have P2 := hid_mk (TwoK.new w1 x0 x1 x2 x3 x4 x5 x6 x7 25 25)
  have n1 : w1.heap.size ≠ w.heap.size := by omega
  have n2 : w1.heap.size + 1 ≠ w.heap.size := by omega
  have n3 : w1.heap.size ≠ w.heap.size + 1 := by omega
  have n4 : w1.heap.size + 1 ≠ w.heap.size + 1 := by omega
  obtain ⟨_, z0, z1, z2, z3, f0, f1, f2, f3⟩ := T2.out.a
  obtain ⟨_, y0, y1, y2, y3, g0, g1, g2, g3⟩ := T2.out.b
  clear b1 T0 T1 C
  go_wp2_with fail
  generalize (w1.alloc (Obj.cells #[Value.int IntKind.i64 x0, Value.int IntKind.i64 x1, Value.int IntKind.i64 x2, Value.int IntKind.i64 x3] 25)).alloc (Obj.cells #[Value.int IntKind.i64 x4, Value.int IntKind.i64 x5, Value.int IntKind.i64 x6, Value.int IntKind.i64 x7] 25) = W2 at *
  have A5 := hid_mk P2.out.a
  have B5 := hid_mk P2.out.b
  have A6 := hid_mk A5.out.drew
  have B6 := hid_mk B5.out.drew
  clear P2
  generalize w1.heap.size = ra at *
  go_region_held3 (fun w' => w'.cell? ⟨ra, 0, none⟩ = some (.int .i64 x0) ∧ w'.cell? ⟨ra, 1, none⟩ = some (.int .i64 x1) ∧ w'.cell? ⟨ra, 2, none⟩ = some (.int .i64 x2) ∧ w'.cell? ⟨ra, 3, none⟩ = some (.int .i64 x3) ∧ w'.cell? ⟨ra + 1, 0, none⟩ = some (.int .i64 x4) ∧ w'.cell? ⟨ra + 1, 1, none⟩ = some (.int .i64 x5) ∧ w'.cell? ⟨ra + 1, 2, none⟩ = some (.int .i64 x6) ∧ w'.cell? ⟨ra + 1, 3, none⟩ = some (.int .i64 x7))
    (first
      | (with_reducible exact two_all A6.out B6.out)
      | (with_reducible exact two_all (A6.out.others n1 _ _ _ _) (B6.out.others n2 _ _ _ _))
      | (with_reducible exact two_all (A6.out.others n3 _ _ _ _) (B6.out.others n4 _ _ _ _))
      | (with_reducible exact two_all ((A6.out.others n1 _ _ _ _).others n3 _ _ _ _) ((B6.out.others n2 _ _ _ _).others n4 _ _ _ _))
      | (with_reducible exact two_all ((A6.out.others n3 _ _ _ _).others n1 _ _ _ _) ((B6.out.others n4 _ _ _ _).others n2 _ _ _ _))
      | (with_reducible exact two_all (A5.out.others n1 _ _ _ _).drew (B5.out.others n2 _ _ _ _).drew)
      | (with_reducible exact two_all (A5.out.others n3 _ _ _ _).drew (B5.out.others n4 _ _ _ _).drew)
      | (with_reducible exact two_all ((A5.out.others n1 _ _ _ _).others n3 _ _ _ _).drew ((B5.out.others n2 _ _ _ _).others n4 _ _ _ _).drew)
      | (with_reducible exact two_all ((A5.out.others n3 _ _ _ _).others n1 _ _ _ _).drew ((B5.out.others n4 _ _ _ _).others n2 _ _ _ _).drew)
      | fail) (fail)
  all_goals
    go_wp2
    refine bodyPost_ret (v := .tuple #[.agg #[.int .i64 x0, .int .i64 x1, .int .i64 x2, .int .i64 x3], .agg #[.int .i64 x4, .int .i64 x5, .int .i64 x6, .int .i64 x7]]) (by simp [results, Try.results9, go_sem, z0, z1, z2, z3, y0, y1, y2, y3]) rfl ⟨_, _, _, _, _, _, _, _, rfl, ?_⟩
    repeat' (first | (with_reducible exact T2.out.k) | (with_reducible apply Below.drew) | (with_reducible refine Below.setCell ?_ ?_ _) | (simp; done) | (simp; omega))

set_option maxRecDepth 100000 in
set_option maxHeartbeats 8000000 in
theorem drawMeet_any {w : World} {a : Option Addr} {len cap : Nat} (hc : Code8 w.heap.size w a len) :
    Calls Try.prog 11 #[.slice a len cap] w fun e w' => ∃ x0 x1 x2 x3 x4 x5 x6 x7 : Int, e = .returned (.tuple #[.agg #[.int .i64 x0, .int .i64 x1, .int .i64 x2, .int .i64 x3], .agg #[.int .i64 x4, .int .i64 x5, .int .i64 x6, .int .i64 x7]]) ∧ Below w.heap.size w w' := by
  have T0 := hid_mk (TwoK.new w 0 0 0 0 0 0 0 0 25 25)
  have C := hid_mk (hc.later T0.out.k)
  clear hc
  go_enter Try.func11, Try.ntmps11
  go_wp2_with fail
  refine (drawTwo_any C.out).mono ?_
  rintro e w1 ⟨x0, x1, x2, x3, x4, x5, x6, x7, rfl, b1⟩
  have T1 := hid_mk (T0.out.next b1)
  have l1 : w.heap.size + 1 < w1.heap.size := T1.out.b.lt
  have T2 := hid_mk (T1.out.next (((Below.refl _ w1).alloc (Nat.le_refl _) (.cells #[.int .i64 x0, .int .i64 x1, .int .i64 x2, .int .i64 x3] 25)).alloc (by simp) (.cells #[.int .i64 x4, .int .i64 x5, .int .i64 x6, .int .i64 x7] 25)))
  have P2 := hid_mk (TwoK.new w1 x0 x1 x2 x3 x4 x5 x6 x7 25 25)
  have n1 : w1.heap.size ≠ w.heap.size := by omega
  have n2 : w1.heap.size + 1 ≠ w.heap.size := by omega
  have n3 : w1.heap.size ≠ w.heap.size + 1 := by omega
  have n4 : w1.heap.size + 1 ≠ w.heap.size + 1 := by omega
  obtain ⟨_, z0, z1, z2, z3, f0, f1, f2, f3⟩ := T2.out.a
  obtain ⟨_, y0, y1, y2, y3, g0, g1, g2, g3⟩ := T2.out.b
  clear b1 T0 T1 C
  go_wp2_with fail
  generalize (w1.alloc (Obj.cells #[Value.int IntKind.i64 x0, Value.int IntKind.i64 x1, Value.int IntKind.i64 x2, Value.int IntKind.i64 x3] 25)).alloc (Obj.cells #[Value.int IntKind.i64 x4, Value.int IntKind.i64 x5, Value.int IntKind.i64 x6, Value.int IntKind.i64 x7] 25) = W2 at *
  have A5 := hid_mk P2.out.a
  have B5 := hid_mk P2.out.b
  have A6 := hid_mk A5.out.drew
  have B6 := hid_mk B5.out.drew
  clear P2
  generalize w1.heap.size = ra at *
  go_region_held3 (fun w' => w'.cell? ⟨ra, 0, none⟩ = some (.int .i64 x0) ∧ w'.cell? ⟨ra, 1, none⟩ = some (.int .i64 x1) ∧ w'.cell? ⟨ra, 2, none⟩ = some (.int .i64 x2) ∧ w'.cell? ⟨ra, 3, none⟩ = some (.int .i64 x3) ∧ w'.cell? ⟨ra + 1, 0, none⟩ = some (.int .i64 x4) ∧ w'.cell? ⟨ra + 1, 1, none⟩ = some (.int .i64 x5) ∧ w'.cell? ⟨ra + 1, 2, none⟩ = some (.int .i64 x6) ∧ w'.cell? ⟨ra + 1, 3, none⟩ = some (.int .i64 x7))
    (first
      | (with_reducible exact two_all A6.out B6.out)
      | (with_reducible exact two_all (A6.out.others n1 _ _ _ _) (B6.out.others n2 _ _ _ _))
      | (with_reducible exact two_all (A6.out.others n3 _ _ _ _) (B6.out.others n4 _ _ _ _))
      | (with_reducible exact two_all ((A6.out.others n1 _ _ _ _).others n3 _ _ _ _) ((B6.out.others n2 _ _ _ _).others n4 _ _ _ _))
      | (with_reducible exact two_all ((A6.out.others n3 _ _ _ _).others n1 _ _ _ _) ((B6.out.others n4 _ _ _ _).others n2 _ _ _ _))
      | (with_reducible exact two_all (A5.out.others n1 _ _ _ _).drew (B5.out.others n2 _ _ _ _).drew)
      | (with_reducible exact two_all (A5.out.others n3 _ _ _ _).drew (B5.out.others n4 _ _ _ _).drew)
      | (with_reducible exact two_all ((A5.out.others n1 _ _ _ _).others n3 _ _ _ _).drew ((B5.out.others n2 _ _ _ _).others n4 _ _ _ _).drew)
      | (with_reducible exact two_all ((A5.out.others n3 _ _ _ _).others n1 _ _ _ _).drew ((B5.out.others n4 _ _ _ _).others n2 _ _ _ _).drew)
      | fail) (fail)
  all_goals
    go_wp2
    refine bodyPost_ret (v := .tuple #[.agg #[.int .i64 x0, .int .i64 x1, .int .i64 x2, .int .i64 x3], .agg #[.int .i64 x4, .int .i64 x5, .int .i64 x6, .int .i64 x7]]) (by simp [results, Try.results11, go_sem, z0, z1, z2, z3, y0, y1, y2, y3]) rfl ⟨_, _, _, _, _, _, _, _, rfl, ?_⟩
    repeat' (first | (with_reducible exact T2.out.k) | (with_reducible apply Below.drew) | (with_reducible refine Below.setCell ?_ ?_ _) | (simp; done) | (simp; omega))

end Go.Proofs.Ytackeckfhnpaaaa
