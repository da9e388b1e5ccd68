/- Meet of the specification, at every two keys. No condition. -/
import Derived.Test.YtackeckfhnpaaaaMeetX
namespace Go.Proofs.Ytackeckfhnpaaaa
open Go.ChangeShapes Go.WideShapes Go.ChangeAt Go.RowKit

set_option maxRecDepth 100000 in
set_option maxHeartbeats 4000000 in
theorem specMeet_any (b t p s b' t' p' s' : Int) (w : World) :
    Calls Try.prog 13 #[.agg #[.int .i64 b, .int .i64 t, .int .i64 p, .int .i64 s], .agg #[.int .i64 b', .int .i64 t', .int .i64 p', .int .i64 s']] w fun e w' => e = .returned (.tuple #[meetV b t p s b' t' p' s', .bool (meetB b t p s b' t' p' s')]) ∧ Below w.heap.size w w' := by
  have s1 := specKeyOk_any b t p s
  have s2 := specKeyOk_any b' t' p' s'
  have s3 := specKeyOk_any (max b b') (min t t') (bits .and .i64 p p') 0
  unfold meetV meetB
  generalize kokB b t p s = x at s1 ⊢
  generalize kokB b' t' p' s' = y at s2 ⊢
  generalize kokB (max b b') (min t t') (bits .and .i64 p p') 0 = z at s3 ⊢
  have S1 : Hid _ := s1
  have S2 : Hid _ := s2
  have S3 : Hid _ := s3
  clear s1 s2 s3
  have T0 : Hid _ := TwoZ.new w b t p s b' t' p' s' 25 25 25
  go_enter Try.func13, Try.ntmps13
  go_upto_region 1 with fail
  go_cut [6] (fun v wx => ∃ q : Nat, v = .pointer (some ⟨q, 0, none⟩) ∧ w.heap.size + 1 + 1 < q ∧ Hid (Four wx q (max b b') (min t t') (bits .and .i64 p p') 0) ∧ Hid (TwoZ w b t p s b' t' p' s' wx))
  case first =>
    go_region_held3 (fun w' => w'.cell? ⟨w.heap.size, 0, none⟩ = some (.int .i64 b) ∧ w'.cell? ⟨w.heap.size, 1, none⟩ = some (.int .i64 t) ∧ w'.cell? ⟨w.heap.size, 2, none⟩ = some (.int .i64 p) ∧
        w'.cell? ⟨w.heap.size + 1, 0, none⟩ = some (.int .i64 b') ∧ w'.cell? ⟨w.heap.size + 1, 1, none⟩ = some (.int .i64 t') ∧ w'.cell? ⟨w.heap.size + 1, 2, none⟩ = some (.int .i64 p'))
      (first | (go_keep; done) | (go_simp; done) | (refine ⟨?_, ?_, ?_, ?_, ?_, ?_⟩ <;> (go_simp; done)))
      (first
        | (go_at_call 24; refine (max_any b b' _).mono ?_; rintro e w' ⟨rfl, rfl⟩)
        | (go_at_call 25; refine (min_any t t' _).mono ?_; rintro e w' ⟨rfl, rfl⟩))
    all_goals
      go_wp2_with fail
      go_meet
      case rel =>
        refine ⟨_, rfl, by simp, ⟨by simp, by go_simp, by go_simp, by go_simp, by go_simp, by go_simp, by go_simp, by go_simp, by go_simp⟩, T0.out.next ?_⟩
        repeat (first | exact Below.refl _ _ | apply below_drewN | apply Below.drew | refine Below.alloc ?_ (by simp; try omega) _ | refine Below.setCell ?_ (by simp; try omega) _)
  case rest =>
    obtain ⟨q, rfl, lq, F0, T1⟩ := hcut
    obtain ⟨_, a0, a1, a2, a3, _, _, _, _⟩ := T1.out.a
    obtain ⟨_, c0, c1, c2, c3, _, _, _, _⟩ := T1.out.b
    clear T0
    go_wp2_with fail
    refine (S1.out _).mono ?_
    rintro e w1 ⟨rfl, hb1⟩
    have T2 : Hid _ := T1.out.next hb1
    have F1 : Hid _ := F0.out.below hb1
    clear hb1 T1 F0 a0 a1 a2 a3 c0 c1 c2 c3
    cases x
    · obtain ⟨_, z0, z1, z2, z3, f0, f1, f2, f3⟩ := T2.out.z
      go_wp2
      refine bodyPost_ret (v := .tuple #[.agg #[.int .i64 0, .int .i64 0, .int .i64 0, .int .i64 0], .bool false]) (by simp [results, Try.results13, go_sem, z0, z1, z2, z3]) rfl ⟨rfl, ?_⟩
      repeat (first | exact T2.out.k | refine Below.setCell ?_ (by simp; try omega) _)
    obtain ⟨_, c0, c1, c2, c3, _, _, _, _⟩ := T2.out.b
    go_wp2_with fail
    refine (S2.out _).mono ?_
    rintro e w2 ⟨rfl, hb2⟩
    have T3 : Hid _ := T2.out.next hb2
    have F2 : Hid _ := F1.out.below hb2
    clear hb2 T2 F1 c0 c1 c2 c3
    cases y
    · obtain ⟨_, z0, z1, z2, z3, f0, f1, f2, f3⟩ := T3.out.z
      go_wp2
      refine bodyPost_ret (v := .tuple #[.agg #[.int .i64 0, .int .i64 0, .int .i64 0, .int .i64 0], .bool false]) (by simp [results, Try.results13, go_sem, z0, z1, z2, z3]) rfl ⟨rfl, ?_⟩
      repeat (first | exact T3.out.k | refine Below.setCell ?_ (by simp; try omega) _)
    obtain ⟨_, c0, c1, c2, c3, _, _, _, _⟩ := F2.out
    go_wp2_with fail
    refine (S3.out _).mono ?_
    rintro e w3 ⟨rfl, hb3⟩
    have T4 : Hid _ := T3.out.next hb3
    have F3 : Hid _ := F2.out.below hb3
    clear hb3 T3 F2 c0 c1 c2 c3
    obtain ⟨_, z0, z1, z2, z3, f0, f1, f2, f3⟩ := T4.out.z
    obtain ⟨_, c0, c1, c2, c3, _, _, _, _⟩ := F3.out
    cases z
    · go_wp2
      refine bodyPost_ret (v := .tuple #[.agg #[.int .i64 0, .int .i64 0, .int .i64 0, .int .i64 0], .bool false]) (by simp [results, Try.results13, go_sem, z0, z1, z2, z3]) rfl ⟨rfl, ?_⟩
      repeat (first | exact T4.out.k | refine Below.setCell ?_ (by simp; try omega) _)
    · go_wp2
      refine bodyPost_ret (v := .tuple #[.agg #[.int .i64 (max b b'), .int .i64 (min t t'), .int .i64 (bits .and .i64 p p'), .int .i64 0], .bool true]) (by simp [results, Try.results13, go_sem, z0, z1, z2, z3]) rfl ⟨rfl, ?_⟩
      repeat (first | exact T4.out.k | refine Below.setCell ?_ (by simp; try omega) _)
end Go.Proofs.Ytackeckfhnpaaaa
