/- For every two Keys Meet of the program answers as the specification's Meet, every field and the bool, and the law returns true. No condition. -/
import Derived.Test.YtljioakljgflgaaRows
import Derived.Test.YtljioakljgflgaaMeetS
import Derived.Test.YtljioakljgflgaaKeyS
import Derived.Test.YtljioakljgflgaaAft
import Derived.WalkKit
import Derived.ProofKit
import Derived.OpenShut
import Derived.Lib.SmallJoins
namespace Go.Proofs.Ytljioakljgflgaa.fnExactMeet
open Go.ChangeShapes Go.WideShapes Go.ChangeAt Go.RowKit Go.Joins

theorem own : ownKnob Try.prog.godebug = none := by kernel_rfl
theorem cellsK : Try.prog.cellsOf 34 = 4 := by kernel_rfl

set_option maxHeartbeats 20000000 in
theorem walk (x0 x1 x2 x3 x4 x5 x6 x7 : Int) (w : World) :
    Calls Try.prog 7 #[.agg #[.int .i64 x0, .int .i64 x1, .int .i64 x2, .int .i64 x3], .agg #[.int .i64 x4, .int .i64 x5, .int .i64 x6, .int .i64 x7]] w fun e w' => e = .returned (.bool true) ∧ Below w.heap.size w w' := by
  obtain ⟨m0, m1, m2, m3, hm⟩ := meetV_form x0 x1 x2 x3 x4 x5 x6 x7
  have s1 := specMeet_any x0 x1 x2 x3 x4 x5 x6 x7
  have s2 := implMeet_any x0 x1 x2 x3 x4 x5 x6 x7
  simp only [hm] at s1 s2
  generalize meetB x0 x1 x2 x3 x4 x5 x6 x7 = ok at s1 s2
  have S1 : Hid _ := s1
  have S2 : Hid _ := s2
  clear s1 s2 hm
  go_enter Try.func7, Try.ntmps7
  go_upto_region 1 with fail
  have T0 : Hid _ := TwoK.new w x0 x1 x2 x3 x4 x5 x6 x7 34 34
  generalize ((w.alloc (Obj.cells #[Value.int IntKind.i64 x0, Value.int IntKind.i64 x1, Value.int IntKind.i64 x2, Value.int IntKind.i64 x3] 34)).alloc (Obj.cells #[Value.int IntKind.i64 x4, Value.int IntKind.i64 x5, Value.int IntKind.i64 x6, Value.int IntKind.i64 x7] 34)) = W0 at T0 ⊢
  have ALL : Hid (∀ w', Aft W0 w' → w'.cell? ⟨w.heap.size, 0, none⟩ = some (.int .i64 x0) ∧ w'.cell? ⟨w.heap.size, 1, none⟩ = some (.int .i64 x1) ∧ w'.cell? ⟨w.heap.size, 2, none⟩ = some (.int .i64 x2) ∧ w'.cell? ⟨w.heap.size, 3, none⟩ = some (.int .i64 x3) ∧ w'.cell? ⟨w.heap.size + 1, 0, none⟩ = some (.int .i64 x4) ∧ w'.cell? ⟨w.heap.size + 1, 1, none⟩ = some (.int .i64 x5) ∧ w'.cell? ⟨w.heap.size + 1, 2, none⟩ = some (.int .i64 x6) ∧ w'.cell? ⟨w.heap.size + 1, 3, none⟩ = some (.int .i64 x7) ∧ Hid (Aft W0 w')) := fun w' h => by
    obtain ⟨c0, c1, c2, c3, d0, d1, d2, d3⟩ := (h.two T0.out).all
    exact ⟨c0, c1, c2, c3, d0, d1, d2, d3, h⟩
  have GET : Hid (∀ w', w'.cell? ⟨w.heap.size, 0, none⟩ = some (.int .i64 x0) ∧ w'.cell? ⟨w.heap.size, 1, none⟩ = some (.int .i64 x1) ∧ w'.cell? ⟨w.heap.size, 2, none⟩ = some (.int .i64 x2) ∧ w'.cell? ⟨w.heap.size, 3, none⟩ = some (.int .i64 x3) ∧ w'.cell? ⟨w.heap.size + 1, 0, none⟩ = some (.int .i64 x4) ∧ w'.cell? ⟨w.heap.size + 1, 1, none⟩ = some (.int .i64 x5) ∧ w'.cell? ⟨w.heap.size + 1, 2, none⟩ = some (.int .i64 x6) ∧ w'.cell? ⟨w.heap.size + 1, 3, none⟩ = some (.int .i64 x7) ∧ Hid (Aft W0 w') → Aft W0 w') := fun w' h => h.2.2.2.2.2.2.2.2
  have A0 : Hid (Aft W0 W0.drew) := (Aft.refl _).drew
  go_cut [5, 6] (fun v5 v6 wx => ∃ q : Nat, v5 = .pointer (some ⟨q, 0, none⟩) ∧ v6 = .bool ok ∧ Hid (Four wx q m0 m1 m2 m3) ∧ (wx.cell? ⟨w.heap.size, 0, none⟩ = some (.int .i64 x0) ∧ wx.cell? ⟨w.heap.size, 1, none⟩ = some (.int .i64 x1) ∧ wx.cell? ⟨w.heap.size, 2, none⟩ = some (.int .i64 x2) ∧ wx.cell? ⟨w.heap.size, 3, none⟩ = some (.int .i64 x3) ∧ wx.cell? ⟨w.heap.size + 1, 0, none⟩ = some (.int .i64 x4) ∧ wx.cell? ⟨w.heap.size + 1, 1, none⟩ = some (.int .i64 x5) ∧ wx.cell? ⟨w.heap.size + 1, 2, none⟩ = some (.int .i64 x6) ∧ wx.cell? ⟨w.heap.size + 1, 3, none⟩ = some (.int .i64 x7) ∧ Hid (Aft W0 wx)))
  case first =>
    go_region_held3 (fun w' => w'.cell? ⟨w.heap.size, 0, none⟩ = some (.int .i64 x0) ∧ w'.cell? ⟨w.heap.size, 1, none⟩ = some (.int .i64 x1) ∧ w'.cell? ⟨w.heap.size, 2, none⟩ = some (.int .i64 x2) ∧ w'.cell? ⟨w.heap.size, 3, none⟩ = some (.int .i64 x3) ∧ w'.cell? ⟨w.heap.size + 1, 0, none⟩ = some (.int .i64 x4) ∧ w'.cell? ⟨w.heap.size + 1, 1, none⟩ = some (.int .i64 x5) ∧ w'.cell? ⟨w.heap.size + 1, 2, none⟩ = some (.int .i64 x6) ∧ w'.cell? ⟨w.heap.size + 1, 3, none⟩ = some (.int .i64 x7) ∧ Hid (Aft W0 w')) (first | (with_reducible exact ALL.out _ A0.out) | (with_reducible exact ALL.out _ ((Aft.refl _).alloc _).drew) | (with_reducible exact ALL.out _ (Aft.call (GET.out _ (by assumption)) H1.out)) | (with_reducible exact ALL.out _ (Aft.call (GET.out _ (by assumption)) H2.out)) | (with_reducible exact ALL.out _ (Aft.call (GET.out _ (by assumption)) H3.out)) | (with_reducible exact ALL.out _ (Aft.alloc (GET.out _ (by assumption)) _)) | (exact ALL.out _ (Aft.realloc (GET.out _ (by assumption)) (by omega))) | (refine ALL.out _ (Aft.set (Aft.set (Aft.set (Aft.set (GET.out _ (by assumption)) ?_) ?_) ?_) ?_) <;> (first | omega | (simp; done) | (simp; omega))) | fail)
      (first
        | (go_at_call_of 19 (Value.agg #[Value.int IntKind.i64 x0, Value.int IntKind.i64 x1, Value.int IntKind.i64 x2, Value.int IntKind.i64 x3]); refine (toKey_any x0 x1 x2 x3 _).mono ?_; rintro e w1 ⟨rfl, hb1⟩; have H1 : Hid _ := hb1; have l1 := hb1.size; (try simp at l1); (first | (with_reducible have Z1 := hid_mk ((Four.new _ 0 0 0 0 25).below hb1); obtain ⟨zl1, zc0, zc1, zc2, zc3, zf0, zf1, zf2, zf3⟩ := Z1.out) | (with_reducible have Z1 := hid_mk ((Four.new _ 0 0 0 0 25).drew.below hb1); obtain ⟨zl1, zc0, zc1, zc2, zc3, zf0, zf1, zf2, zf3⟩ := Z1.out) | skip); clear hb1)
        | (go_at_call_of 19 (Value.agg #[Value.int IntKind.i64 x4, Value.int IntKind.i64 x5, Value.int IntKind.i64 x6, Value.int IntKind.i64 x7]); refine (toKey_any x4 x5 x6 x7 _).mono ?_; rintro e w2 ⟨rfl, hb2⟩; have H2 : Hid _ := hb2; have l2 := hb2.size; (try simp at l2); (first | (have Z2 : Hid _ := Z1.out.below hb2; obtain ⟨zl2, zc0, zc1, zc2, zc3, zf0, zf1, zf2, zf3⟩ := Z2.out) | (with_reducible have Z2 := hid_mk ((Four.new _ 0 0 0 0 25).below hb2); obtain ⟨zl2, zc0, zc1, zc2, zc3, zf0, zf1, zf2, zf3⟩ := Z2.out) | (with_reducible have Z2 := hid_mk ((Four.new _ 0 0 0 0 25).drew.below hb2); obtain ⟨zl2, zc0, zc1, zc2, zc3, zf0, zf1, zf2, zf3⟩ := Z2.out) | skip); clear hb2)
        | (go_at_call 13; refine (S1.out _).mono ?_; rintro e w3 ⟨rfl, hb3⟩; have H3 : Hid _ := hb3; have l3 := hb3.size; (try simp at l3); (first | (have Z3 : Hid _ := Z2.out.below hb3; obtain ⟨zl3, zc0, zc1, zc2, zc3, zf0, zf1, zf2, zf3⟩ := Z3.out) | (with_reducible have Z3 := hid_mk ((Four.new _ 0 0 0 0 25).below hb3); obtain ⟨zl3, zc0, zc1, zc2, zc3, zf0, zf1, zf2, zf3⟩ := Z3.out) | (with_reducible have Z3 := hid_mk ((Four.new _ 0 0 0 0 25).drew.below hb3); obtain ⟨zl3, zc0, zc1, zc2, zc3, zf0, zf1, zf2, zf3⟩ := Z3.out) | skip); clear hb3))
    all_goals
      go_wp2_with fail
      go_meet
      case rel =>
        refine ⟨_, rfl, rfl, ⟨?_, by go_simp, by go_simp, by go_simp, by go_simp, by go_simp, by go_simp, by go_simp, by go_simp⟩, by assumption⟩
        first | (simp; done) | (simp; omega)
  case rest =>
    obtain ⟨q, rfl, rfl, F1, hS⟩ := hcut
    have T1 : Hid (TwoK w w.heap.size (w.heap.size + 1) x0 x1 x2 x3 x4 x5 x6 x7 wc) := (GET.out _ hS).two T0.out
    clear ALL GET A0 hS T0
    go_upto_region 2 with fail
    generalize hW1 : wc = W1 at T1 F1 ⊢
    clear hW1 wc
    have ALL : Hid (∀ w', Aft W1 w' → w'.cell? ⟨w.heap.size, 0, none⟩ = some (.int .i64 x0) ∧ w'.cell? ⟨w.heap.size, 1, none⟩ = some (.int .i64 x1) ∧ w'.cell? ⟨w.heap.size, 2, none⟩ = some (.int .i64 x2) ∧ w'.cell? ⟨w.heap.size, 3, none⟩ = some (.int .i64 x3) ∧ w'.cell? ⟨w.heap.size + 1, 0, none⟩ = some (.int .i64 x4) ∧ w'.cell? ⟨w.heap.size + 1, 1, none⟩ = some (.int .i64 x5) ∧ w'.cell? ⟨w.heap.size + 1, 2, none⟩ = some (.int .i64 x6) ∧ w'.cell? ⟨w.heap.size + 1, 3, none⟩ = some (.int .i64 x7) ∧ Hid (Aft W1 w')) := fun w' h => by
      obtain ⟨c0, c1, c2, c3, d0, d1, d2, d3⟩ := (h.two T1.out).all
      exact ⟨c0, c1, c2, c3, d0, d1, d2, d3, h⟩
    have GET : Hid (∀ w', w'.cell? ⟨w.heap.size, 0, none⟩ = some (.int .i64 x0) ∧ w'.cell? ⟨w.heap.size, 1, none⟩ = some (.int .i64 x1) ∧ w'.cell? ⟨w.heap.size, 2, none⟩ = some (.int .i64 x2) ∧ w'.cell? ⟨w.heap.size, 3, none⟩ = some (.int .i64 x3) ∧ w'.cell? ⟨w.heap.size + 1, 0, none⟩ = some (.int .i64 x4) ∧ w'.cell? ⟨w.heap.size + 1, 1, none⟩ = some (.int .i64 x5) ∧ w'.cell? ⟨w.heap.size + 1, 2, none⟩ = some (.int .i64 x6) ∧ w'.cell? ⟨w.heap.size + 1, 3, none⟩ = some (.int .i64 x7) ∧ Hid (Aft W1 w') → Aft W1 w') := fun w' h => h.2.2.2.2.2.2.2.2
    have A0 : Hid (Aft W1 W1.drew) := (Aft.refl _).drew
    go_cut [7, 8] (fun v5 v6 wx => ∃ q : Nat, v5 = .pointer (some ⟨q, 0, none⟩) ∧ v6 = .bool ok ∧ Hid (Four wx q m0 m1 m2 m3) ∧ (wx.cell? ⟨w.heap.size, 0, none⟩ = some (.int .i64 x0) ∧ wx.cell? ⟨w.heap.size, 1, none⟩ = some (.int .i64 x1) ∧ wx.cell? ⟨w.heap.size, 2, none⟩ = some (.int .i64 x2) ∧ wx.cell? ⟨w.heap.size, 3, none⟩ = some (.int .i64 x3) ∧ wx.cell? ⟨w.heap.size + 1, 0, none⟩ = some (.int .i64 x4) ∧ wx.cell? ⟨w.heap.size + 1, 1, none⟩ = some (.int .i64 x5) ∧ wx.cell? ⟨w.heap.size + 1, 2, none⟩ = some (.int .i64 x6) ∧ wx.cell? ⟨w.heap.size + 1, 3, none⟩ = some (.int .i64 x7) ∧ Hid (Aft W1 wx)))
    case first =>
      go_region_held3 (fun w' => w'.cell? ⟨w.heap.size, 0, none⟩ = some (.int .i64 x0) ∧ w'.cell? ⟨w.heap.size, 1, none⟩ = some (.int .i64 x1) ∧ w'.cell? ⟨w.heap.size, 2, none⟩ = some (.int .i64 x2) ∧ w'.cell? ⟨w.heap.size, 3, none⟩ = some (.int .i64 x3) ∧ w'.cell? ⟨w.heap.size + 1, 0, none⟩ = some (.int .i64 x4) ∧ w'.cell? ⟨w.heap.size + 1, 1, none⟩ = some (.int .i64 x5) ∧ w'.cell? ⟨w.heap.size + 1, 2, none⟩ = some (.int .i64 x6) ∧ w'.cell? ⟨w.heap.size + 1, 3, none⟩ = some (.int .i64 x7) ∧ Hid (Aft W1 w')) (first | (with_reducible exact ALL.out _ A0.out) | (with_reducible exact ALL.out _ ((Aft.refl _).alloc _).drew) | (with_reducible exact ALL.out _ (Aft.call (GET.out _ (by assumption)) H1.out)) | (with_reducible exact ALL.out _ (Aft.call (GET.out _ (by assumption)) H2.out)) | (with_reducible exact ALL.out _ (Aft.call (GET.out _ (by assumption)) H3.out)) | (with_reducible exact ALL.out _ (Aft.alloc (GET.out _ (by assumption)) _)) | (exact ALL.out _ (Aft.realloc (GET.out _ (by assumption)) (by omega))) | (refine ALL.out _ (Aft.set (Aft.set (Aft.set (Aft.set (GET.out _ (by assumption)) ?_) ?_) ?_) ?_) <;> (first | omega | (simp; done) | (simp; omega))) | fail)
        (first
          | (go_at_call_of 19 (Value.agg #[Value.int IntKind.i64 x0, Value.int IntKind.i64 x1, Value.int IntKind.i64 x2, Value.int IntKind.i64 x3]); refine (toKey_any x0 x1 x2 x3 _).mono ?_; rintro e w1 ⟨rfl, hb1⟩; have H1 : Hid _ := hb1; have l1 := hb1.size; (try simp at l1); (first | (with_reducible have Z1 := hid_mk ((Four.new _ 0 0 0 0 25).below hb1); obtain ⟨zl1, zc0, zc1, zc2, zc3, zf0, zf1, zf2, zf3⟩ := Z1.out) | (with_reducible have Z1 := hid_mk ((Four.new _ 0 0 0 0 25).drew.below hb1); obtain ⟨zl1, zc0, zc1, zc2, zc3, zf0, zf1, zf2, zf3⟩ := Z1.out) | skip); clear hb1)
          | (go_at_call_of 19 (Value.agg #[Value.int IntKind.i64 x4, Value.int IntKind.i64 x5, Value.int IntKind.i64 x6, Value.int IntKind.i64 x7]); refine (toKey_any x4 x5 x6 x7 _).mono ?_; rintro e w2 ⟨rfl, hb2⟩; have H2 : Hid _ := hb2; have l2 := hb2.size; (try simp at l2); (first | (have Z2 : Hid _ := Z1.out.below hb2; obtain ⟨zl2, zc0, zc1, zc2, zc3, zf0, zf1, zf2, zf3⟩ := Z2.out) | (with_reducible have Z2 := hid_mk ((Four.new _ 0 0 0 0 25).below hb2); obtain ⟨zl2, zc0, zc1, zc2, zc3, zf0, zf1, zf2, zf3⟩ := Z2.out) | (with_reducible have Z2 := hid_mk ((Four.new _ 0 0 0 0 25).drew.below hb2); obtain ⟨zl2, zc0, zc1, zc2, zc3, zf0, zf1, zf2, zf3⟩ := Z2.out) | skip); clear hb2)
          | (go_at_call 12; refine (S2.out _).mono ?_; rintro e w3 ⟨rfl, hb3⟩; have H3 : Hid _ := hb3; have l3 := hb3.size; (try simp at l3); (first | (have Z3 : Hid _ := Z2.out.below hb3; obtain ⟨zl3, zc0, zc1, zc2, zc3, zf0, zf1, zf2, zf3⟩ := Z3.out) | (with_reducible have Z3 := hid_mk ((Four.new _ 0 0 0 0 25).below hb3); obtain ⟨zl3, zc0, zc1, zc2, zc3, zf0, zf1, zf2, zf3⟩ := Z3.out) | (with_reducible have Z3 := hid_mk ((Four.new _ 0 0 0 0 25).drew.below hb3); obtain ⟨zl3, zc0, zc1, zc2, zc3, zf0, zf1, zf2, zf3⟩ := Z3.out) | skip); clear hb3))
      all_goals
        go_wp2_with fail
        go_meet
        case rel =>
          refine ⟨_, rfl, rfl, ⟨?_, by go_simp, by go_simp, by go_simp, by go_simp, by go_simp, by go_simp, by go_simp, by go_simp⟩, by assumption⟩
          first | (simp; done) | (simp; omega)
    case rest =>
      obtain ⟨q', rfl, rfl, F2, hS⟩ := hcut
      have A2 : Hid (Aft W1 wc) := GET.out _ hS
      have T2 : Hid (TwoK w w.heap.size (w.heap.size + 1) x0 x1 x2 x3 x4 x5 x6 x7 wc) := A2.out.two T1.out
      obtain ⟨_, c0, c1, c2, c3, _, _, _, _⟩ := A2.out.four F1.out
      obtain ⟨_, d0, d1, d2, d3, _, _, _, _⟩ := F2.out
      clear ALL GET A0 hS T1 S1 S2 A2 F1 F2
      go_wp2_with fail
      refine (eqKey_same _ _ _ _ _).mono ?_
      rintro e w3 ⟨rfl, hb3⟩
      have K3 : Hid (Below w.heap.size w w3) := T2.out.k.trans (hb3.mono T2.out.k.size)
      clear hb3
      cases ok
      all_goals
        go_wp2
        go_ret
        exact ⟨rfl, K3.out⟩

set_option maxRecDepth 100000 in
theorem lifted (os : Os) (started : os.Started) (H : Type) (enc : TypeId × Value → H) :
    ReturnsInHanded {} Try.checked os 7 .any (Rows.fnExactMeetSpec.pre6 enc Try.prog Try.f7 Rows.fnExactMeetRow.domain false) (Rows.fnExactMeetSpec.post enc Try.prog Try.f7 false true false false) := by
  refine returnsInHanded_of_change (C := Try.checked) own started (by kernel_rfl) Try.func7
    (ChangeSpec.witness6 (enc := enc) (C := Try.checked) false ⟨#[], #[.agg #[.int .i64 0, .int .i64 0, .int .i64 0, .int .i64 0], .agg #[.int .i64 0, .int .i64 0, .int .i64 0, .int .i64 0]], []⟩ 8 (by kernel_rfl) (by kernel_rfl) (by kernel_rfl) (by kernel_rfl)) ?_
  intro W base args ds gs before hval0 hW hcnd _
  have hval : ∀ (j : Nat) t v, Try.f7.params[j]? = some t → args[j]? = some v → Value.okWide Try.prog W .any base t v := hval0
  have hW' := hW
  obtain ⟨p, q, hA0, hV, rfl, hfz, hnd⟩ := hW
  have hA : DataW.TrodAll enc Try.prog W 0 (fun _ => true) true Try.f7.params.toList args.toList ds p := hA0
  rw [Try.params7] at hA hval
  obtain ⟨v0, v1, d0, d1, p0, p1, rfl, rfl, rfl, h0, h1⟩ := trodAll_two hA
  obtain ⟨rfl, rfl⟩ := trodVars_none hV
  obtain ⟨cx0, cx1, cx2, cx3, yx0, yx1, yx2, yx3, m0, rfl, rfl, rfl, hyx0, hyx1, hyx2, hyx3⟩ := open_agg4 Try.underlying34 (by kernel_rfl) cellsK (hval 0 34 v0 rfl rfl) h0
  obtain ⟨x0, ex0, rfl, wx0⟩ := DataW.trod_int Try.underlying3 hyx0
  obtain ⟨x1, ex1, rfl, wx1⟩ := DataW.trod_int Try.underlying3 hyx1
  obtain ⟨x2, ex2, rfl, wx2⟩ := DataW.trod_int Try.underlying3 hyx2
  obtain ⟨x3, ex3, rfl, wx3⟩ := DataW.trod_int Try.underlying3 hyx3
  simp at ex0 ex1 ex2 ex3
  subst ex0 ex1 ex2 ex3
  obtain ⟨cx4, cx5, cx6, cx7, yx4, yx5, yx6, yx7, m1, rfl, rfl, rfl, hyx4, hyx5, hyx6, hyx7⟩ := open_agg4 Try.underlying34 (by kernel_rfl) cellsK (hval 1 34 v1 rfl rfl) h1
  obtain ⟨x4, ex4, rfl, wx4⟩ := DataW.trod_int Try.underlying3 hyx4
  obtain ⟨x5, ex5, rfl, wx5⟩ := DataW.trod_int Try.underlying3 hyx5
  obtain ⟨x6, ex6, rfl, wx6⟩ := DataW.trod_int Try.underlying3 hyx6
  obtain ⟨x7, ex7, rfl, wx7⟩ := DataW.trod_int Try.underlying3 hyx7
  simp at ex4 ex5 ex6 ex7
  subst ex4 ex5 ex6 ex7
  clear hA0 hval0
  simp only [List.append_nil] at hW'
  have reads0 : ∀ (W' : World) (sp : Nat → Bool), DataW.Trod enc Try.prog W' 0 sp true 34 (.agg #[.int .i64 x0, .int .i64 x1, .int .i64 x2, .int .i64 x3]) (.agg [.lit (.int .i64 x0), .lit (.int .i64 x1), .lit (.int .i64 x2), .lit (.int .i64 x3)]) [] := fun W' sp =>
    shut_agg4 (y0 := (.lit (.int .i64 x0), [])) (y1 := (.lit (.int .i64 x1), [])) (y2 := (.lit (.int .i64 x2), [])) (y3 := (.lit (.int .i64 x3), [])) Try.underlying34 (by kernel_rfl) cellsK ⟨1, by simp [DataW.trod, Try.underlying3, wx0]⟩ ⟨1, by simp [DataW.trod, Try.underlying3, wx1]⟩ ⟨1, by simp [DataW.trod, Try.underlying3, wx2]⟩ ⟨1, by simp [DataW.trod, Try.underlying3, wx3]⟩
  have reads1 : ∀ (W' : World) (sp : Nat → Bool), DataW.Trod enc Try.prog W' 0 sp true 34 (.agg #[.int .i64 x4, .int .i64 x5, .int .i64 x6, .int .i64 x7]) (.agg [.lit (.int .i64 x4), .lit (.int .i64 x5), .lit (.int .i64 x6), .lit (.int .i64 x7)]) [] := fun W' sp =>
    shut_agg4 (y0 := (.lit (.int .i64 x4), [])) (y1 := (.lit (.int .i64 x5), [])) (y2 := (.lit (.int .i64 x6), [])) (y3 := (.lit (.int .i64 x7), [])) Try.underlying34 (by kernel_rfl) cellsK ⟨1, by simp [DataW.trod, Try.underlying3, wx4]⟩ ⟨1, by simp [DataW.trod, Try.underlying3, wx5]⟩ ⟨1, by simp [DataW.trod, Try.underlying3, wx6]⟩ ⟨1, by simp [DataW.trod, Try.underlying3, wx7]⟩
  refine (walk x0 x1 x2 x3 x4 x5 x6 x7 W).mono fun e W' ⟨he, bel⟩ => ?_
  subst he
  exact ⟨_, rfl, _, _, _, [], [], [], hW', trodAll_mk1 (shut_bool Try.underlying4 _), trodAll_mk2 (reads0 _ _) (reads1 _ _), rfl, bel.frame _, fun h => by cases h⟩

theorem proved : Rows.FnExactMeetSaid :=
  OpenClaim.holds_of_wide 7 Try.f7 rfl rfl rfl rfl rfl rfl rfl ⟨rfl, rfl, rfl, rfl, rfl⟩ rfl rfl rfl rfl rfl (by kernel_rfl) Try.func7 (by kernel_rfl)
    (of_decide_eq_true (by kernel_rfl)) (by unfold Func.isWrapper; first | (rw [if_pos (by decide +kernel)]; kernel_rfl) | (rw [if_neg (by decide +kernel)]; exact ⟨rfl, rfl⟩))
    (fun os started H enc _ => lifted os started H enc)
end Go.Proofs.Ytljioakljgflgaa.fnExactMeet

namespace Go.Proofs.Ytljioakljgflgaa
/-- For every two Keys Meet of the program answers as the specification's Meet, every field and the bool, and the law returns true. No condition. -/
theorem fnExactMeet_holds : Rows.FnExactMeetSaid := fnExactMeet.proved
#print axioms fnExactMeet_holds
end Go.Proofs.Ytljioakljgflgaa
