/- For every two Words Taken of the program answers as the specification's Taken, every field, and the law returns true. No condition. -/
import Derived.Test.YtehmlneaahbdoaaRows
import Derived.Test.YtehmlneaahbdoaaReach
import Derived.Test.YtehmlneaahbdoaaWordD
import Derived.Test.YtehmlneaahbdoaaTwoW
import Derived.WalkKit
import Derived.ProofKit
import Derived.OpenShut
import Derived.Lib.SmallJoins
namespace Go.Proofs.Ytehmlneaahbdoaa.fnExactTaken
open Go.ChangeShapes Go.WideShapes Go.ChangeAt Go.RowKit Go.Joins

theorem own : ownKnob Try.prog.godebug = none := by kernel_rfl

set_option maxHeartbeats 20000000 in
theorem walk (x0 : Int) (x1 : Bool) (x2 : Int) (x3 : Int) (x4 : Int) (x5 : Int) (x6 : Int) (x7 : Bool) (x8 : Int) (x9 : Int) (x10 : Int) (x11 : Int) (w : World) :
    Calls Try.prog 3 #[.agg #[.int .i64 x0, .bool x1, .int .i64 x2, .int .i64 x3, .int .i64 x4, .int .i64 x5], .agg #[.int .i64 x6, .bool x7, .int .i64 x8, .int .i64 x9, .int .i64 x10, .int .i64 x11]] w fun e w' => e = .returned (.bool true) ∧ Below w.heap.size w w' := by
  have s1 := specTaken_any x0 x1 x2 x3 x4 x5 x6 x7 x8 x9 x10 x11
  have s2 := implTaken_any x0 x1 x2 x3 x4 x5 x6 x7 x8 x9 x10 x11
  obtain ⟨u0, u1, u2, u3, u4, u5, hV⟩ : ∃ (u0 : Int) (u1 : Bool) (u2 u3 u4 u5 : Int), (takV (bits .and .i64 x4 8 == 8) x6 x7 x8 x9 x10 x11) = .agg #[.int .i64 u0, .bool u1, .int .i64 u2, .int .i64 u3, .int .i64 u4, .int .i64 u5] := ⟨_, _, _, _, _, _, rfl⟩
  rw [hV] at s1 s2
  have S1 : Hid _ := s1
  have S2 : Hid _ := s2
  clear s1 s2 hV
  go_enter Try.func3, Try.ntmps3
  go_upto_region 1 with fail
  have T0 : Hid _ := Tw.new w x0 x1 x2 x3 x4 x5 x6 x7 x8 x9 x10 x11 25
  generalize (w.alloc (.cells #[.int .i64 x0, .bool x1, .int .i64 x2, .int .i64 x3, .int .i64 x4, .int .i64 x5] 25)).alloc (.cells #[.int .i64 x6, .bool x7, .int .i64 x8, .int .i64 x9, .int .i64 x10, .int .i64 x11] 25) = W0 at T0 ⊢
  have ALL : Hid (∀ w', Aft W0 w' → w'.cell? ⟨w.heap.size, 0, none⟩ = some (.int .i64 x0) ∧ w'.cell? ⟨w.heap.size, 1, none⟩ = some (.bool x1) ∧ w'.cell? ⟨w.heap.size, 2, none⟩ = some (.int .i64 x2) ∧ w'.cell? ⟨w.heap.size, 3, none⟩ = some (.int .i64 x3) ∧ w'.cell? ⟨w.heap.size, 4, none⟩ = some (.int .i64 x4) ∧ w'.cell? ⟨w.heap.size, 5, none⟩ = some (.int .i64 x5) ∧ w'.cell? ⟨w.heap.size + 1, 0, none⟩ = some (.int .i64 x6) ∧ w'.cell? ⟨w.heap.size + 1, 1, none⟩ = some (.bool x7) ∧ w'.cell? ⟨w.heap.size + 1, 2, none⟩ = some (.int .i64 x8) ∧ w'.cell? ⟨w.heap.size + 1, 3, none⟩ = some (.int .i64 x9) ∧ w'.cell? ⟨w.heap.size + 1, 4, none⟩ = some (.int .i64 x10) ∧ w'.cell? ⟨w.heap.size + 1, 5, none⟩ = some (.int .i64 x11) ∧ Hid (Aft W0 w')) := fun w' h => by
    obtain ⟨_, c0, c1, c2, c3, c4, c5, _, _, _, _, _, _⟩ := T0.out.a.below h.below
    obtain ⟨_, d0, d1, d2, d3, d4, d5, _, _, _, _, _, _⟩ := T0.out.y.below h.below
    exact ⟨c0, c1, c2, c3, c4, c5, d0, d1, d2, d3, d4, d5, h⟩
  have GET : Hid (∀ w', w'.cell? ⟨w.heap.size, 0, none⟩ = some (.int .i64 x0) ∧ w'.cell? ⟨w.heap.size, 1, none⟩ = some (.bool x1) ∧ w'.cell? ⟨w.heap.size, 2, none⟩ = some (.int .i64 x2) ∧ w'.cell? ⟨w.heap.size, 3, none⟩ = some (.int .i64 x3) ∧ w'.cell? ⟨w.heap.size, 4, none⟩ = some (.int .i64 x4) ∧ w'.cell? ⟨w.heap.size, 5, none⟩ = some (.int .i64 x5) ∧ w'.cell? ⟨w.heap.size + 1, 0, none⟩ = some (.int .i64 x6) ∧ w'.cell? ⟨w.heap.size + 1, 1, none⟩ = some (.bool x7) ∧ w'.cell? ⟨w.heap.size + 1, 2, none⟩ = some (.int .i64 x8) ∧ w'.cell? ⟨w.heap.size + 1, 3, none⟩ = some (.int .i64 x9) ∧ w'.cell? ⟨w.heap.size + 1, 4, none⟩ = some (.int .i64 x10) ∧ w'.cell? ⟨w.heap.size + 1, 5, none⟩ = some (.int .i64 x11) ∧ Hid (Aft W0 w') → Aft W0 w') := fun w' h => h.2.2.2.2.2.2.2.2.2.2.2.2
  have A0 : Hid (Aft W0 W0.drew) := (Aft.refl _).drew
  go_cut [5] (fun v wx => ∃ q : Nat, v = .pointer (some ⟨q, 0, none⟩) ∧ Hid (Six wx q u0 u1 u2 u3 u4 u5) ∧ Hid (Aft W0 wx))
  case first =>
    go_region_held3 (fun w' => w'.cell? ⟨w.heap.size, 0, none⟩ = some (.int .i64 x0) ∧ w'.cell? ⟨w.heap.size, 1, none⟩ = some (.bool x1) ∧ w'.cell? ⟨w.heap.size, 2, none⟩ = some (.int .i64 x2) ∧ w'.cell? ⟨w.heap.size, 3, none⟩ = some (.int .i64 x3) ∧ w'.cell? ⟨w.heap.size, 4, none⟩ = some (.int .i64 x4) ∧ w'.cell? ⟨w.heap.size, 5, none⟩ = some (.int .i64 x5) ∧ w'.cell? ⟨w.heap.size + 1, 0, none⟩ = some (.int .i64 x6) ∧ w'.cell? ⟨w.heap.size + 1, 1, none⟩ = some (.bool x7) ∧ w'.cell? ⟨w.heap.size + 1, 2, none⟩ = some (.int .i64 x8) ∧ w'.cell? ⟨w.heap.size + 1, 3, none⟩ = some (.int .i64 x9) ∧ w'.cell? ⟨w.heap.size + 1, 4, none⟩ = some (.int .i64 x10) ∧ w'.cell? ⟨w.heap.size + 1, 5, none⟩ = some (.int .i64 x11) ∧ Hid (Aft W0 w')) (first | (with_reducible assumption) | (((with_reducible refine ALL.out _ ?_); (first | (with_reducible apply A0.out) | ((with_reducible apply Aft.drew); (with_reducible apply Aft.alloc); (with_reducible exact Aft.refl _)) | ((with_reducible apply Aft.call ?_ H1.out); (with_reducible exact GET.out _ (by with_reducible assumption))) | ((with_reducible apply Aft.call ?_ H2.out); (with_reducible exact GET.out _ (by with_reducible assumption))) | ((with_reducible apply Aft.call ?_ H3.out); (with_reducible exact GET.out _ (by with_reducible assumption))) | ((with_reducible apply Aft.realloc (GET.out _ (by with_reducible assumption))); omega) | ((with_reducible apply Aft.alloc); (with_reducible exact GET.out _ (by with_reducible assumption))) | ((iterate 6 (with_reducible refine Aft.set ?_ (by omega))); (with_reducible exact GET.out _ (by with_reducible assumption))) | fail))))
      (first
        | (go_at_call_of 6 (Value.agg #[Value.int IntKind.i64 x0, Value.bool x1, Value.int IntKind.i64 x2, Value.int IntKind.i64 x3, Value.int IntKind.i64 x4, Value.int IntKind.i64 x5]); refine (toWord_any x0 x1 x2 x3 x4 x5 _).mono ?_; rintro e w1 ⟨rfl, hb1⟩; have H1 : Hid _ := hb1; have l1 := hb1.size; (try simp at l1); (first | (with_reducible have Z1 := hid_mk ((Six.new _ 0 false 0 0 0 0 28).below hb1); obtain ⟨zl1, zc0, zc1, zc2, zc3, zc4, zc5, zf0, zf1, zf2, zf3, zf4, zf5⟩ := Z1.out) | (with_reducible have Z1 := hid_mk ((Six.new _ 0 false 0 0 0 0 28).drew.below hb1); obtain ⟨zl1, zc0, zc1, zc2, zc3, zc4, zc5, zf0, zf1, zf2, zf3, zf4, zf5⟩ := Z1.out) | skip); clear hb1)
        | (go_at_call_of 6 (Value.agg #[Value.int IntKind.i64 x6, Value.bool x7, Value.int IntKind.i64 x8, Value.int IntKind.i64 x9, Value.int IntKind.i64 x10, Value.int IntKind.i64 x11]); refine (toWord_any x6 x7 x8 x9 x10 x11 _).mono ?_; rintro e w2 ⟨rfl, hb2⟩; have H2 : Hid _ := hb2; have l2 := hb2.size; (try simp at l2); (first | (have Z2 : Hid _ := Z1.out.below hb2; obtain ⟨zl2, zc0, zc1, zc2, zc3, zc4, zc5, zf0, zf1, zf2, zf3, zf4, zf5⟩ := Z2.out) | (with_reducible have Z2 := hid_mk ((Six.new _ 0 false 0 0 0 0 28).below hb2); obtain ⟨zl2, zc0, zc1, zc2, zc3, zc4, zc5, zf0, zf1, zf2, zf3, zf4, zf5⟩ := Z2.out) | (with_reducible have Z2 := hid_mk ((Six.new _ 0 false 0 0 0 0 28).drew.below hb2); obtain ⟨zl2, zc0, zc1, zc2, zc3, zc4, zc5, zf0, zf1, zf2, zf3, zf4, zf5⟩ := Z2.out) | skip); clear hb2)
        | (go_at_call 5; refine (S1.out _).mono ?_; rintro e w3 ⟨rfl, hb3⟩; have H3 : Hid _ := hb3; have l3 := hb3.size; (try simp at l3); (first | (have Z3 : Hid _ := Z2.out.below hb3; obtain ⟨zl3, zc0, zc1, zc2, zc3, zc4, zc5, zf0, zf1, zf2, zf3, zf4, zf5⟩ := Z3.out) | (with_reducible have Z3 := hid_mk ((Six.new _ 0 false 0 0 0 0 28).below hb3); obtain ⟨zl3, zc0, zc1, zc2, zc3, zc4, zc5, zf0, zf1, zf2, zf3, zf4, zf5⟩ := Z3.out) | (with_reducible have Z3 := hid_mk ((Six.new _ 0 false 0 0 0 0 28).drew.below hb3); obtain ⟨zl3, zc0, zc1, zc2, zc3, zc4, zc5, zf0, zf1, zf2, zf3, zf4, zf5⟩ := Z3.out) | skip); clear hb3))
    all_goals
      go_wp2_with fail
      go_meet
      case rel =>
        refine ⟨_, rfl, ⟨?_, by go_simp, by go_simp, by go_simp, by go_simp, by go_simp, by go_simp, by go_simp, by go_simp, by go_simp, by go_simp, by go_simp, by go_simp⟩, GET.out _ (by with_reducible assumption)⟩
        first | (simp; done) | (simp; omega)
  case rest =>
    obtain ⟨q, rfl, F1, hA⟩ := hcut
    have T1 : Hid (Tw w x0 x1 x2 x3 x4 x5 x6 x7 x8 x9 x10 x11 wc) := T0.out.next hA.out.below
    clear ALL GET A0 hA T0
    go_upto_region 2 with fail
    generalize hW1 : wc = W1 at T1 F1 ⊢
    clear hW1 wc
    have ALL : Hid (∀ w', Aft W1 w' → w'.cell? ⟨w.heap.size, 0, none⟩ = some (.int .i64 x0) ∧ w'.cell? ⟨w.heap.size, 1, none⟩ = some (.bool x1) ∧ w'.cell? ⟨w.heap.size, 2, none⟩ = some (.int .i64 x2) ∧ w'.cell? ⟨w.heap.size, 3, none⟩ = some (.int .i64 x3) ∧ w'.cell? ⟨w.heap.size, 4, none⟩ = some (.int .i64 x4) ∧ w'.cell? ⟨w.heap.size, 5, none⟩ = some (.int .i64 x5) ∧ w'.cell? ⟨w.heap.size + 1, 0, none⟩ = some (.int .i64 x6) ∧ w'.cell? ⟨w.heap.size + 1, 1, none⟩ = some (.bool x7) ∧ w'.cell? ⟨w.heap.size + 1, 2, none⟩ = some (.int .i64 x8) ∧ w'.cell? ⟨w.heap.size + 1, 3, none⟩ = some (.int .i64 x9) ∧ w'.cell? ⟨w.heap.size + 1, 4, none⟩ = some (.int .i64 x10) ∧ w'.cell? ⟨w.heap.size + 1, 5, none⟩ = some (.int .i64 x11) ∧ Hid (Aft W1 w')) := fun w' h => by
      obtain ⟨_, c0, c1, c2, c3, c4, c5, _, _, _, _, _, _⟩ := T1.out.a.below h.below
      obtain ⟨_, d0, d1, d2, d3, d4, d5, _, _, _, _, _, _⟩ := T1.out.y.below h.below
      exact ⟨c0, c1, c2, c3, c4, c5, d0, d1, d2, d3, d4, d5, h⟩
    have GET : Hid (∀ w', w'.cell? ⟨w.heap.size, 0, none⟩ = some (.int .i64 x0) ∧ w'.cell? ⟨w.heap.size, 1, none⟩ = some (.bool x1) ∧ w'.cell? ⟨w.heap.size, 2, none⟩ = some (.int .i64 x2) ∧ w'.cell? ⟨w.heap.size, 3, none⟩ = some (.int .i64 x3) ∧ w'.cell? ⟨w.heap.size, 4, none⟩ = some (.int .i64 x4) ∧ w'.cell? ⟨w.heap.size, 5, none⟩ = some (.int .i64 x5) ∧ w'.cell? ⟨w.heap.size + 1, 0, none⟩ = some (.int .i64 x6) ∧ w'.cell? ⟨w.heap.size + 1, 1, none⟩ = some (.bool x7) ∧ w'.cell? ⟨w.heap.size + 1, 2, none⟩ = some (.int .i64 x8) ∧ w'.cell? ⟨w.heap.size + 1, 3, none⟩ = some (.int .i64 x9) ∧ w'.cell? ⟨w.heap.size + 1, 4, none⟩ = some (.int .i64 x10) ∧ w'.cell? ⟨w.heap.size + 1, 5, none⟩ = some (.int .i64 x11) ∧ Hid (Aft W1 w') → Aft W1 w') := fun w' h => h.2.2.2.2.2.2.2.2.2.2.2.2
    have A0 : Hid (Aft W1 W1.drew) := (Aft.refl _).drew
    go_cut [6] (fun v wx => ∃ q : Nat, v = .pointer (some ⟨q, 0, none⟩) ∧ Hid (Six wx q u0 u1 u2 u3 u4 u5) ∧ Hid (Aft W1 wx))
    case first =>
      go_region_held3 (fun w' => w'.cell? ⟨w.heap.size, 0, none⟩ = some (.int .i64 x0) ∧ w'.cell? ⟨w.heap.size, 1, none⟩ = some (.bool x1) ∧ w'.cell? ⟨w.heap.size, 2, none⟩ = some (.int .i64 x2) ∧ w'.cell? ⟨w.heap.size, 3, none⟩ = some (.int .i64 x3) ∧ w'.cell? ⟨w.heap.size, 4, none⟩ = some (.int .i64 x4) ∧ w'.cell? ⟨w.heap.size, 5, none⟩ = some (.int .i64 x5) ∧ w'.cell? ⟨w.heap.size + 1, 0, none⟩ = some (.int .i64 x6) ∧ w'.cell? ⟨w.heap.size + 1, 1, none⟩ = some (.bool x7) ∧ w'.cell? ⟨w.heap.size + 1, 2, none⟩ = some (.int .i64 x8) ∧ w'.cell? ⟨w.heap.size + 1, 3, none⟩ = some (.int .i64 x9) ∧ w'.cell? ⟨w.heap.size + 1, 4, none⟩ = some (.int .i64 x10) ∧ w'.cell? ⟨w.heap.size + 1, 5, none⟩ = some (.int .i64 x11) ∧ Hid (Aft W1 w')) (first | (with_reducible assumption) | (((with_reducible refine ALL.out _ ?_); (first | (with_reducible apply A0.out) | ((with_reducible apply Aft.drew); (with_reducible apply Aft.alloc); (with_reducible exact Aft.refl _)) | ((with_reducible apply Aft.call ?_ H1.out); (with_reducible exact GET.out _ (by with_reducible assumption))) | ((with_reducible apply Aft.call ?_ H2.out); (with_reducible exact GET.out _ (by with_reducible assumption))) | ((with_reducible apply Aft.call ?_ H3.out); (with_reducible exact GET.out _ (by with_reducible assumption))) | ((with_reducible apply Aft.realloc (GET.out _ (by with_reducible assumption))); omega) | ((with_reducible apply Aft.alloc); (with_reducible exact GET.out _ (by with_reducible assumption))) | ((iterate 6 (with_reducible refine Aft.set ?_ (by omega))); (with_reducible exact GET.out _ (by with_reducible assumption))) | fail))))
        (first
          | (go_at_call_of 6 (Value.agg #[Value.int IntKind.i64 x0, Value.bool x1, Value.int IntKind.i64 x2, Value.int IntKind.i64 x3, Value.int IntKind.i64 x4, Value.int IntKind.i64 x5]); refine (toWord_any x0 x1 x2 x3 x4 x5 _).mono ?_; rintro e w1 ⟨rfl, hb1⟩; have H1 : Hid _ := hb1; have l1 := hb1.size; (try simp at l1); (first | (with_reducible have Z1 := hid_mk ((Six.new _ 0 false 0 0 0 0 28).below hb1); obtain ⟨zl1, zc0, zc1, zc2, zc3, zc4, zc5, zf0, zf1, zf2, zf3, zf4, zf5⟩ := Z1.out) | (with_reducible have Z1 := hid_mk ((Six.new _ 0 false 0 0 0 0 28).drew.below hb1); obtain ⟨zl1, zc0, zc1, zc2, zc3, zc4, zc5, zf0, zf1, zf2, zf3, zf4, zf5⟩ := Z1.out) | skip); clear hb1)
          | (go_at_call_of 6 (Value.agg #[Value.int IntKind.i64 x6, Value.bool x7, Value.int IntKind.i64 x8, Value.int IntKind.i64 x9, Value.int IntKind.i64 x10, Value.int IntKind.i64 x11]); refine (toWord_any x6 x7 x8 x9 x10 x11 _).mono ?_; rintro e w2 ⟨rfl, hb2⟩; have H2 : Hid _ := hb2; have l2 := hb2.size; (try simp at l2); (first | (have Z2 : Hid _ := Z1.out.below hb2; obtain ⟨zl2, zc0, zc1, zc2, zc3, zc4, zc5, zf0, zf1, zf2, zf3, zf4, zf5⟩ := Z2.out) | (with_reducible have Z2 := hid_mk ((Six.new _ 0 false 0 0 0 0 28).below hb2); obtain ⟨zl2, zc0, zc1, zc2, zc3, zc4, zc5, zf0, zf1, zf2, zf3, zf4, zf5⟩ := Z2.out) | (with_reducible have Z2 := hid_mk ((Six.new _ 0 false 0 0 0 0 28).drew.below hb2); obtain ⟨zl2, zc0, zc1, zc2, zc3, zc4, zc5, zf0, zf1, zf2, zf3, zf4, zf5⟩ := Z2.out) | skip); clear hb2)
          | (go_at_call 7; refine (S2.out _).mono ?_; rintro e w3 ⟨rfl, hb3⟩; have H3 : Hid _ := hb3; have l3 := hb3.size; (try simp at l3); (first | (have Z3 : Hid _ := Z2.out.below hb3; obtain ⟨zl3, zc0, zc1, zc2, zc3, zc4, zc5, zf0, zf1, zf2, zf3, zf4, zf5⟩ := Z3.out) | (with_reducible have Z3 := hid_mk ((Six.new _ 0 false 0 0 0 0 28).below hb3); obtain ⟨zl3, zc0, zc1, zc2, zc3, zc4, zc5, zf0, zf1, zf2, zf3, zf4, zf5⟩ := Z3.out) | (with_reducible have Z3 := hid_mk ((Six.new _ 0 false 0 0 0 0 28).drew.below hb3); obtain ⟨zl3, zc0, zc1, zc2, zc3, zc4, zc5, zf0, zf1, zf2, zf3, zf4, zf5⟩ := Z3.out) | skip); clear hb3))
      all_goals
        go_wp2_with fail
        go_meet
        case rel =>
          refine ⟨_, rfl, ⟨?_, by go_simp, by go_simp, by go_simp, by go_simp, by go_simp, by go_simp, by go_simp, by go_simp, by go_simp, by go_simp, by go_simp, by go_simp⟩, GET.out _ (by with_reducible assumption)⟩
          first | (simp; done) | (simp; omega)
    case rest =>
      obtain ⟨q', rfl, F2, hA⟩ := hcut
      have T2 : Hid (Tw w x0 x1 x2 x3 x4 x5 x6 x7 x8 x9 x10 x11 wc) := T1.out.next hA.out.below
      obtain ⟨_, c0, c1, c2, c3, c4, c5, _, _, _, _, _, _⟩ := F1.out.below hA.out.below
      obtain ⟨_, d0, d1, d2, d3, d4, d5, _, _, _, _, _, _⟩ := F2.out
      clear ALL GET A0 T1 S1 S2 hA F1 F2
      go_wp2_with fail
      refine (eqWord_same _ _ _ _ _ _ _).mono ?_
      rintro e w3 ⟨rfl, hb3⟩
      have K3 : Hid (Below w.heap.size w w3) := T2.out.k.trans (hb3.mono T2.out.k.size)
      clear hb3
      go_wp2
      go_ret
      exact ⟨rfl, K3.out⟩

set_option maxRecDepth 100000 in
theorem lifted (os : Os) (started : os.Started) (H : Type) (enc : TypeId × Value → H) :
    ReturnsInHanded {} Try.checked os 3 .any (Rows.fnExactTakenSpec.pre6 enc Try.prog Try.f3 Rows.fnExactTakenRow.domain false) (Rows.fnExactTakenSpec.post enc Try.prog Try.f3 false true false false) := by
  refine returnsInHanded_of_change (C := Try.checked) own started (by kernel_rfl) Try.func3
    (ChangeSpec.witness6 (enc := enc) (C := Try.checked) false ⟨#[], #[.agg #[.int .i64 0, .bool false, .int .i64 0, .int .i64 0, .int .i64 0, .int .i64 0], .agg #[.int .i64 0, .bool false, .int .i64 0, .int .i64 0, .int .i64 0, .int .i64 0]], []⟩ 8 (by kernel_rfl) (by kernel_rfl) (by kernel_rfl) (by kernel_rfl)) ?_
  intro W base args ds gs before hval0 hW hcnd _
  have hval : ∀ (j : Nat) t v, Try.f3.params[j]? = some t → args[j]? = some v → Value.okWide Try.prog W .any base t v := hval0
  have hW' := hW
  obtain ⟨p, q, hA0, hV, rfl, hfz, hnd⟩ := hW
  have hA : DataW.TrodAll enc Try.prog W 0 (fun _ => true) true Try.f3.params.toList args.toList ds p := hA0
  rw [Try.params3] at hA hval
  obtain ⟨v0, v1, d0, d1, p0, p1, rfl, rfl, rfl, h0, h1⟩ := trodAll_two hA
  obtain ⟨rfl, rfl⟩ := trodVars_none hV
  obtain ⟨x0, x1, x2, x3, x4, x5, rfl, rfl, rfl, wx0, wx2, wx3, wx4, wx5⟩ := open_word (hval 0 25 v0 rfl rfl) h0
  obtain ⟨x6, x7, x8, x9, x10, x11, rfl, rfl, rfl, wx6, wx8, wx9, wx10, wx11⟩ := open_word (hval 1 25 v1 rfl rfl) h1
  clear hA0 hval0
  simp only [List.append_nil] at hW'
  refine (walk x0 x1 x2 x3 x4 x5 x6 x7 x8 x9 x10 x11 W).mono fun e W' ⟨he, bel⟩ => ?_
  subst he
  exact ⟨_, rfl, _, _, _, [], [], [], hW', trodAll_mk1 (shut_bool Try.underlying4 _), trodAll_mk2 (shut_word wx0 wx2 wx3 wx4 wx5) (shut_word wx6 wx8 wx9 wx10 wx11), rfl, bel.frame _, fun h => by cases h⟩

theorem proved : Rows.FnExactTakenSaid :=
  OpenClaim.holds_of_wide 3 Try.f3 rfl rfl rfl rfl rfl rfl rfl ⟨rfl, rfl, rfl, rfl, rfl⟩ rfl rfl rfl rfl rfl (by kernel_rfl) Try.func3 (by kernel_rfl)
    (of_decide_eq_true (by kernel_rfl)) (by unfold Func.isWrapper; first | (rw [if_pos (by decide +kernel)]; kernel_rfl) | (rw [if_neg (by decide +kernel)]; exact ⟨rfl, rfl⟩))
    (fun os started H enc _ => lifted os started H enc)
end Go.Proofs.Ytehmlneaahbdoaa.fnExactTaken

namespace Go.Proofs.Ytehmlneaahbdoaa
/-- For every two Words Taken of the program answers as the specification's Taken, every field, and the law returns true. No condition. -/
theorem fnExactTaken_holds : Rows.FnExactTakenSaid := fnExactTaken.proved
#print axioms fnExactTaken_holds
end Go.Proofs.Ytehmlneaahbdoaa
