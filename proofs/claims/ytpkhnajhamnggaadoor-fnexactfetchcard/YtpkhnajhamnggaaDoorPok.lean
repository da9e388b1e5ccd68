/- packedOk: at every Packed it tells whether E is in 0 .. 6, B and L in 0 .. 63. No condition. -/
import Derived.Test.YtpkhnajhamnggaaDoorLow
import Derived.Deep.DeepCutAuto
namespace Go.Proofs.YtpkhnajhamnggaaDoor
open Go.ChangeShapes Go.WideShapes Go.ChangeAt Go.RowKit

theorem pok_all {E B L : Int} (h1 : E % 8 = E) (h2 : B % 64 = B) (h3 : L % 64 = L) (h4 : E ≤ 6) : pokB E B L = true := by
  simp only [pokB, decide_eq_true_eq]; omega
theorem pok_no {E B L : Int} (h : ¬ (E % 8 = E ∧ B % 64 = B ∧ L % 64 = L ∧ E ≤ 6)) : pokB E B L = false := by
  simp only [pokB, decide_eq_false_iff_not]; omega

theorem st_packed : Tryd.prog.stoodInHeld 93 = false := by kernel_rfl
theorem eg_packed : Tryd.prog.eqGuardType Tryd.prog.depth 93 = false := by kernel_rfl
theorem equalIn_packed (a b c a' b' c' : Int) (w : World) : (Op.equalIn 10000 93 (.agg #[.int .i64 a, .int .i64 b, .int .i64 c]) (.agg #[.int .i64 a', .int .i64 b', .int .i64 c'])).run Tryd.prog w = .ok (a == a' && (b == b' && c == c')) w := by
  rw [run_equalIn_agg w 9999 93 _ _ (by kernel_rfl) st_packed]
  simp only [Program.fieldsOf, Tryd.underlying93]
  have e3 : ∀ (x y : Int) (w : World), (Op.equalIn 9999 3 (.int .i64 x) (.int .i64 y)).run Tryd.prog w = .ok (x == y) w := fun x y w => run_equalIn_int w 9998 3 _ _ x y Tryd.underlying3
  cases h1 : (a == a') <;> cases h2 : (b == b') <;> cases h3 : (c == c') <;> simp [Op.eqFields, go_sem, e3, h1, h2, h3]
theorem eql_packed (a b c a' b' c' : Int) (w : World) : (binOp .eql 93 (.agg #[.int .i64 a, .int .i64 b, .int .i64 c]) (.agg #[.int .i64 a', .int .i64 b', .int .i64 c'])).run Tryd.prog w = .ok (.bool (a == a' && (b == b' && c == c'))) w := by
  rw [run_eql_struct, equalIn_packed]; rfl

set_option maxRecDepth 100000 in
set_option maxHeartbeats 2000000 in
theorem packedOk_any (E B L : Int) (w : World) :
    Calls Tryd.prog 50 #[.agg #[.int .i64 E, .int .i64 B, .int .i64 L]] w fun e w' => e = .returned (.bool (pokB E B L)) ∧ Below w.heap.size w w' := by
  have eg := eg_packed
  have q1 := equalIn_packed
  have q2 := eql_packed
  go_enter Tryd.func50, Tryd.ntmps50
  go_upto_region 1 with fail
  go_cut [3] (fun p wx => ∃ q : Nat, p = .pointer (some ⟨q, 0, none⟩) ∧ wx.cell? ⟨w.heap.size, 0, none⟩ = some (.int .i64 E) ∧ wx.cell? ⟨w.heap.size, 1, none⟩ = some (.int .i64 B) ∧ wx.cell? ⟨w.heap.size, 2, none⟩ = some (.int .i64 L) ∧
    wx.cell? ⟨q, 0, none⟩ = some (.int .i64 (E % 8)) ∧ wx.cell? ⟨q, 1, none⟩ = some (.int .i64 (B % 64)) ∧ wx.cell? ⟨q, 2, none⟩ = some (.int .i64 (L % 64)) ∧ Below w.heap.size w wx)
  case first =>
    go_region_held3 (fun w' => w'.cell? ⟨w.heap.size, 0, none⟩ = some (.int .i64 E) ∧ w'.cell? ⟨w.heap.size, 1, none⟩ = some (.int .i64 B) ∧ w'.cell? ⟨w.heap.size, 2, none⟩ = some (.int .i64 L)) (first | (go_keep; done) | (go_simp; done) | (refine ⟨?_, ?_, ?_⟩ <;> (go_simp; done)))
      (first
        | (go_at_call 51; refine (lowBits_any _ _).mono ?_; rintro e w' ⟨rfl, rfl⟩)
        | (go_at_call_of 52 (Value.int IntKind.i64 3); refine (lowBits1_3 E _ _ ?_).mono ?_; go_simp; rintro e w' ⟨rfl, m, rfl⟩)
        | (go_at_call_of 52 (Value.int IntKind.i64 6); refine (lowBits1_6 B _ _ ?_).mono ?_; go_simp; rintro e w' ⟨rfl, m, rfl⟩)
        | (go_at_call_of 52 (Value.int IntKind.i64 6); refine (lowBits1_6 L _ _ ?_).mono ?_; go_simp; rintro e w' ⟨rfl, m, rfl⟩))
    all_goals
      go_wp2_with fail
      go_meet
      case rel =>
        refine ⟨_, rfl, by go_simp, by go_simp, by go_simp, by go_simp, by go_simp, by go_simp, ?_⟩
        repeat (first | exact Below.refl _ _ | apply below_drewN | apply Below.drew | refine Below.alloc ?_ (by simp; try omega) _ | refine Below.setCell ?_ (by simp; try omega) _)
  case rest =>
    obtain ⟨q, rfl, c0, c1, c2, d0, d1, d2, hb⟩ := hcut
    obtain ⟨E1, hE⟩ : ∃ x, Hid (x = E % 8) := ⟨_, rfl⟩
    obtain ⟨B1, hB⟩ : ∃ x, Hid (x = B % 64) := ⟨_, rfl⟩
    obtain ⟨L1, hL⟩ : ∃ x, Hid (x = L % 64) := ⟨_, rfl⟩
    rw [← hE.out] at d0
    rw [← hB.out] at d1
    rw [← hL.out] at d2
    cases g1 : (E == E1) <;> cases g2 : (B == B1) <;> cases g3 : (L == L1) <;> by_cases g4 : E ≤ 6
    all_goals
      go_wp2
      go_ret
      refine ⟨?_, hb⟩
      have e1 := hE.out
      have e2 := hB.out
      have e3 := hL.out
      simp only [beq_iff_eq, beq_eq_false_iff_ne, ne_eq] at g1 g2 g3
      first
        | (rw [pok_all (by omega) (by omega) (by omega) (by omega)]; rfl)
        | (rw [pok_no (by omega)]; rfl)
end Go.Proofs.YtpkhnajhamnggaaDoor
