/- InsText of the specification at all places: what it answers. No condition. -/
import Derived.Test.YtdcghcbliajcpaaDoorTxtS
import Derived.Deep.CutBlock
import Derived.Deep.Cut
namespace Go.Proofs.YtdcghcbliajcpaaDoor
open Go.ChangeShapes Go.WideShapes Go.ChangeAt Go.RowKit
set_option maxRecDepth 100000

/-- One field as the specification writes it. -/
def pcL (b : Bool) (l : List UInt8) : List UInt8 := bif b then 32 :: l else []
theorem pcL_len (b : Bool) (l : List UInt8) : (pcL b l).length ≤ l.length + 1 := by cases b <;> simp [pcL]
theorem bit_1_1 : bitB 1 1 = true := by decide
theorem bit_1_2 : bitB 1 2 = false := by decide
theorem bit_1_4 : bitB 1 4 = false := by decide
theorem bit_1_8 : bitB 1 8 = true := by decide
theorem bit_2_1 : bitB 2 1 = true := by decide
theorem bit_2_2 : bitB 2 2 = true := by decide
theorem bit_2_4 : bitB 2 4 = true := by decide
theorem bit_2_8 : bitB 2 8 = false := by decide
theorem bit_3_1 : bitB 3 1 = true := by decide
theorem bit_3_2 : bitB 3 2 = true := by decide
theorem bit_3_4 : bitB 3 4 = false := by decide
theorem bit_3_8 : bitB 3 8 = false := by decide
theorem bit_4_1 : bitB 4 1 = true := by decide
theorem bit_4_2 : bitB 4 2 = true := by decide
theorem bit_4_4 : bitB 4 4 = true := by decide
theorem bit_4_8 : bitB 4 8 = false := by decide
theorem bit_5_1 : bitB 5 1 = true := by decide
theorem bit_5_2 : bitB 5 2 = true := by decide
theorem bit_5_4 : bitB 5 4 = true := by decide
theorem bit_5_8 : bitB 5 8 = false := by decide
theorem bit_6_1 : bitB 6 1 = true := by decide
theorem bit_6_2 : bitB 6 2 = true := by decide
theorem bit_6_4 : bitB 6 4 = true := by decide
theorem bit_6_8 : bitB 6 8 = true := by decide
theorem bit_7_1 : bitB 7 1 = true := by decide
theorem bit_7_2 : bitB 7 2 = true := by decide
theorem bit_7_4 : bitB 7 4 = true := by decide
theorem bit_7_8 : bitB 7 8 = false := by decide
theorem bit_8_1 : bitB 8 1 = true := by decide
theorem bit_8_2 : bitB 8 2 = true := by decide
theorem bit_8_4 : bitB 8 4 = true := by decide
theorem bit_8_8 : bitB 8 8 = false := by decide
theorem bit_9_1 : bitB 9 1 = true := by decide
theorem bit_9_2 : bitB 9 2 = true := by decide
theorem bit_9_4 : bitB 9 4 = false := by decide
theorem bit_9_8 : bitB 9 8 = false := by decide
theorem bit_10_1 : bitB 10 1 = true := by decide
theorem bit_10_2 : bitB 10 2 = true := by decide
theorem bit_10_4 : bitB 10 4 = false := by decide
theorem bit_10_8 : bitB 10 8 = true := by decide
theorem bit_11_1 : bitB 11 1 = false := by decide
theorem bit_11_2 : bitB 11 2 = true := by decide
theorem bit_11_4 : bitB 11 4 = true := by decide
theorem bit_11_8 : bitB 11 8 = true := by decide
theorem bit_12_1 : bitB 12 1 = true := by decide
theorem bit_12_2 : bitB 12 2 = true := by decide
theorem bit_12_4 : bitB 12 4 = false := by decide
theorem bit_12_8 : bitB 12 8 = false := by decide
theorem bit_13_1 : bitB 13 1 = false := by decide
theorem bit_13_2 : bitB 13 2 = true := by decide
theorem bit_13_4 : bitB 13 4 = false := by decide
theorem bit_13_8 : bitB 13 8 = true := by decide
theorem bit_14_1 : bitB 14 1 = false := by decide
theorem bit_14_2 : bitB 14 2 = true := by decide
theorem bit_14_4 : bitB 14 4 = false := by decide
theorem bit_14_8 : bitB 14 8 = false := by decide
theorem bit_15_1 : bitB 15 1 = false := by decide
theorem bit_15_2 : bitB 15 2 = false := by decide
theorem bit_15_4 : bitB 15 4 = false := by decide
theorem bit_15_8 : bitB 15 8 = false := by decide
theorem text_bits {x : In} (h : okI x = true) : inL x = nmL x.o ++ pcL (bitB x.o 1) (114 :: Lib.itoa x.r) ++ pcL (bitB x.o 2) (114 :: Lib.itoa x.a) ++ pcL (bitB x.o 4) (114 :: Lib.itoa x.b) ++ pcL (bitB x.o 8) (Lib.itoa x.n) := by
  rw [inL_on h]
  obtain ⟨h1, h2, _⟩ := ok_range h
  obtain ⟨o, r, a, b, n⟩ := x
  simp only at h1 h2 ⊢
  rcases op_cases ⟨h1, h2⟩ with rfl | rfl | rfl | rfl | rfl | rfl | rfl | rfl | rfl | rfl | rfl | rfl | rfl | rfl | rfl
  · simp [bit_1_1, bit_1_2, bit_1_4, bit_1_8, pcL, partsL, flL, fdL]
  · simp [bit_2_1, bit_2_2, bit_2_4, bit_2_8, pcL, partsL, flL, fdL]
  · simp [bit_3_1, bit_3_2, bit_3_4, bit_3_8, pcL, partsL, flL, fdL]
  · simp [bit_4_1, bit_4_2, bit_4_4, bit_4_8, pcL, partsL, flL, fdL]
  · simp [bit_5_1, bit_5_2, bit_5_4, bit_5_8, pcL, partsL, flL, fdL]
  · simp [bit_6_1, bit_6_2, bit_6_4, bit_6_8, pcL, partsL, flL, fdL]
  · simp [bit_7_1, bit_7_2, bit_7_4, bit_7_8, pcL, partsL, flL, fdL]
  · simp [bit_8_1, bit_8_2, bit_8_4, bit_8_8, pcL, partsL, flL, fdL]
  · simp [bit_9_1, bit_9_2, bit_9_4, bit_9_8, pcL, partsL, flL, fdL]
  · simp [bit_10_1, bit_10_2, bit_10_4, bit_10_8, pcL, partsL, flL, fdL]
  · simp [bit_11_1, bit_11_2, bit_11_4, bit_11_8, pcL, partsL, flL, fdL]
  · simp [bit_12_1, bit_12_2, bit_12_4, bit_12_8, pcL, partsL, flL, fdL]
  · simp [bit_13_1, bit_13_2, bit_13_4, bit_13_8, pcL, partsL, flL, fdL]
  · simp [bit_14_1, bit_14_2, bit_14_4, bit_14_8, pcL, partsL, flL, fdL]
  · simp [bit_15_1, bit_15_2, bit_15_4, bit_15_8, pcL, partsL, flL]

set_option maxHeartbeats 8000000 in
theorem specInsText_any (o r a b n : Int) (w : World) :
    Calls Tryd.prog 11 #[.agg #[.int .i64 o, .int .i64 r, .int .i64 a, .int .i64 b, .int .i64 n]] w fun e w' => e = .returned (.string (bs (inL ⟨o, r, a, b, n⟩))) ∧ Below w.heap.size w w' := by
  have s0 := specInsOk_any o r a b n
  have cr : (ByteArray.mk #[32, 114]) = bs [32, 114] := rfl
  have c32 : (ByteArray.mk #[32]) = bs [32] := rfl
  cases hk : iokB o r a b n with
  | false =>
    rw [hk] at s0
    have S0 := hid_mk s0
    have c0 : (ByteArray.mk #[]) = bs [] := rfl
    clear s0
    rw [inL_off (x := ⟨o, r, a, b, n⟩) hk]
    clear hk
    go_enter Tryd.func11, Tryd.ntmps11
    go_wp2_with (go_at_call 34; refine (S0.out _).mono ?_; rintro e w1 ⟨rfl, hb⟩)
    go_wp2
    go_ret
    exact ⟨rfl, ((Below.refl _ _).alloc (Nat.le_refl _) _).trans (hb.mono (by simp))⟩
  | true =>
    rw [hk] at s0
    have S0 := hid_mk s0
    have hx : okI ⟨o, r, a, b, n⟩ = true := hk
    obtain ⟨o0, o1, r0, r1, a0, a1, b0, b1, n0, n1⟩ := ok_range hx
    simp only at o0 o1 r0 r1 a0 a1 b0 b1 n0 n1
    have HR := hid_mk (digits_any r (by omega) (by omega))
    have HA := hid_mk (digits_any a (by omega) (by omega))
    have HB := hid_mk (digits_any b (by omega) (by omega))
    have HN := hid_mk (digits_any n (by omega) (by omega))
    have fn : ∀ m : Int, -128 ≤ m → m ≤ 127 → digL m = Lib.itoa m := fun m q0 q1 => by
      have N := fine_in q0 q1
      simp only [fine, Bool.and_eq_true, decide_eq_true_eq] at N
      exact N.1.1.1.1.1
    rw [fn r (by omega) (by omega)] at HR
    rw [fn a (by omega) (by omega)] at HA
    rw [fn b (by omega) (by omega)] at HB
    rw [fn n (by omega) (by omega)] at HN
    have lr := itoa_len (n := r) (by omega) (by omega)
    have la := itoa_len (n := a) (by omega) (by omega)
    have lb := itoa_len (n := b) (by omega) (by omega)
    have ln := itoa_len (n := n) (by omega) (by omega)
    have S1 := hid_mk (has_any o)
    have TB := text_bits hx
    obtain ⟨z, Z⟩ : ∃ z, Hid (z = inL ⟨o, r, a, b, n⟩) := ⟨_, rfl⟩
    rw [← Z.out]
    have hn : (nmL o).length ≤ 5 := by
      rcases op_cases ⟨o0, o1⟩ with rfl | rfl | rfl | rfl | rfl | rfl | rfl | rfl | rfl | rfl | rfl | rfl | rfl | rfl | rfl <;> decide
    obtain ⟨t0, T0⟩ : ∃ t0, Hid (t0 = nmL o) := ⟨_, rfl⟩
    rw [← T0.out] at hn
    simp only [bitB] at TB
    have Q : Hid (z = t0 ++ pcL (bits .and .i64 (hasZ o) 1 != 0) (114 :: Lib.itoa r) ++ pcL (bits .and .i64 (hasZ o) 2 != 0) (114 :: Lib.itoa a) ++ pcL (bits .and .i64 (hasZ o) 4 != 0) (114 :: Lib.itoa b) ++ pcL (bits .and .i64 (hasZ o) 8 != 0) (Lib.itoa n)) := by rw [Z.out, T0.out]; exact TB
    generalize Lib.itoa r = tr at HR lr Q
    generalize Lib.itoa a = ta at HA la Q
    generalize Lib.itoa b = tb at HB lb Q
    generalize Lib.itoa n = tn at HN ln Q
    generalize hasZ o = h at S1 Q
    clear s0 hk hx TB Z fn
    go_enter Tryd.func11, Tryd.ntmps11
    go_wp2_with (go_at_call 34; refine (S0.out _).mono ?_; rintro e w1 ⟨rfl, hb⟩; refine Hid.out ?_)
    refine Lib.hid ?_
    have P1 := hid_mk ((Pl.new w o r a b n 25).next hb)
    obtain ⟨d0, d1, d2, d3, d4⟩ := P1.out.all
    clear hb
    go_wp2_with (go_at_call 35; refine (S1.out _).mono ?_; rintro e w2 ⟨rfl, hb⟩; refine Hid.out ?_)
    refine Lib.hid ?_
    have P2 := hid_mk (P1.out.next hb)
    have D2 := hid_mk P2.out.drew
    clear hb d0 d1 d2 d3 d4 P1
    obtain ⟨d0, d1, d2, d3, d4⟩ := P2.out.all
    go_wp2_with fail
    go_region_with (first | (go_at_call 36; refine (names_any _).mono ?_; rintro e w3 ⟨kn, rfl, hN, _, hb⟩; have P3 := hid_mk (D2.out.next hb); have nn := hN.name (o := o) (by omega) (by omega); rw [← T0.out] at nn; clear hb hN d0 d1 d2 d3 d4; obtain ⟨d0, d1, d2, d3, d4⟩ := P3.out.all))
    all_goals
      clear P2 D2 d0 d1 d2 d3 d4
      go_upto_if 18 with fail
      go_cut [4] (fun c wx => ∃ t : List UInt8, c = .string (bs t) ∧ Hid (t.length ≤ 11 ∧ t = t0 ++ pcL (bits .and .i64 h 1 != 0) (114 :: tr)) ∧ Hid (Pl w w.heap.size o r a b n wx))
      case first =>
        cases g0 : (bits .and .i64 h 1 != 0)
        · go_wp2
          go_meet
          case rel => exact ⟨t0, rfl, ⟨by omega, by simp [pcL, g0]⟩, P3.out⟩
        · have q1 := hid_mk (fun w => add_bs (P := Tryd.prog) t0 [32, 114] w (by simp; omega))
          have q2 := hid_mk (fun w => add_bs (P := Tryd.prog) (t0 ++ [32, 114]) tr w (by simp; omega))
          obtain ⟨d0, d1, d2, d3, d4⟩ := P3.out.all
          have q1 := q1.out
          go_wp2_with (go_at_call 37; refine (HR.out _).mono ?_; rintro e wy ⟨rfl, hb⟩; refine Hid.out ?_)
          refine Lib.hid ?_
          have PY := hid_mk (P3.out.next hb)
          have q2 := q2.out
          clear hb d0 d1 d2 d3 d4 q1
          go_wp2
          go_meet
          case rel => exact ⟨_, rfl, ⟨by simp; omega, by simp [pcL, g0]⟩, PY.out⟩
      case rest =>
        obtain ⟨t1, rfl, G, P4⟩ := hcut
        obtain ⟨l1, e1⟩ := G.out
        have E1 := hid_mk e1
        clear e1 G P3 nn
        go_upto_if 27 with fail
        go_cut [4] (fun c wx => ∃ t : List UInt8, c = .string (bs t) ∧ Hid (t.length ≤ 17 ∧ t = t1 ++ pcL (bits .and .i64 h 2 != 0) (114 :: ta)) ∧ Hid (Pl w w.heap.size o r a b n wx))
        case first =>
          cases g0 : (bits .and .i64 h 2 != 0)
          · go_wp2
            go_meet
            case rel => exact ⟨t1, rfl, ⟨by omega, by simp [pcL, g0]⟩, P4.out⟩
          · have q1 := hid_mk (fun w => add_bs (P := Tryd.prog) t1 [32, 114] w (by simp; omega))
            have q2 := hid_mk (fun w => add_bs (P := Tryd.prog) (t1 ++ [32, 114]) ta w (by simp; omega))
            obtain ⟨d0, d1, d2, d3, d4⟩ := P4.out.all
            have q1 := q1.out
            go_wp2_with (go_at_call 37; refine (HA.out _).mono ?_; rintro e wy ⟨rfl, hb⟩; refine Hid.out ?_)
            refine Lib.hid ?_
            have PY := hid_mk (P4.out.next hb)
            have q2 := q2.out
            clear hb d0 d1 d2 d3 d4 q1
            go_wp2
            go_meet
            case rel => exact ⟨_, rfl, ⟨by simp; omega, by simp [pcL, g0]⟩, PY.out⟩
        case rest =>
          obtain ⟨t2, rfl, G, P5⟩ := hcut
          obtain ⟨l2, e2⟩ := G.out
          have E2 := hid_mk e2
          clear e2 G P4
          go_upto_if 36 with fail
          go_cut [4] (fun c wx => ∃ t : List UInt8, c = .string (bs t) ∧ Hid (t.length ≤ 23 ∧ t = t2 ++ pcL (bits .and .i64 h 4 != 0) (114 :: tb)) ∧ Hid (Pl w w.heap.size o r a b n wx))
          case first =>
            cases g0 : (bits .and .i64 h 4 != 0)
            · go_wp2
              go_meet
              case rel => exact ⟨t2, rfl, ⟨by omega, by simp [pcL, g0]⟩, P5.out⟩
            · have q1 := hid_mk (fun w => add_bs (P := Tryd.prog) t2 [32, 114] w (by simp; omega))
              have q2 := hid_mk (fun w => add_bs (P := Tryd.prog) (t2 ++ [32, 114]) tb w (by simp; omega))
              obtain ⟨d0, d1, d2, d3, d4⟩ := P5.out.all
              have q1 := q1.out
              go_wp2_with (go_at_call 37; refine (HB.out _).mono ?_; rintro e wy ⟨rfl, hb⟩; refine Hid.out ?_)
              refine Lib.hid ?_
              have PY := hid_mk (P5.out.next hb)
              have q2 := q2.out
              clear hb d0 d1 d2 d3 d4 q1
              go_wp2
              go_meet
              case rel => exact ⟨_, rfl, ⟨by simp; omega, by simp [pcL, g0]⟩, PY.out⟩
          case rest =>
            obtain ⟨t3, rfl, G, P6⟩ := hcut
            obtain ⟨l3, e3⟩ := G.out
            have E3 := hid_mk e3
            clear e3 G P5
            go_upto_if 45 with fail
            go_cut [4] (fun c wx => ∃ t : List UInt8, c = .string (bs t) ∧ Hid (t.length ≤ 29 ∧ t = t3 ++ pcL (bits .and .i64 h 8 != 0) (tn)) ∧ Hid (Pl w w.heap.size o r a b n wx))
            case first =>
              cases g0 : (bits .and .i64 h 8 != 0)
              · go_wp2
                go_meet
                case rel => exact ⟨t3, rfl, ⟨by omega, by simp [pcL, g0]⟩, P6.out⟩
              · have q1 := hid_mk (fun w => add_bs (P := Tryd.prog) t3 [32] w (by simp; omega))
                have q2 := hid_mk (fun w => add_bs (P := Tryd.prog) (t3 ++ [32]) tn w (by simp; omega))
                obtain ⟨d0, d1, d2, d3, d4⟩ := P6.out.all
                have q1 := q1.out
                go_wp2_with (go_at_call 37; refine (HN.out _).mono ?_; rintro e wy ⟨rfl, hb⟩; refine Hid.out ?_)
                refine Lib.hid ?_
                have PY := hid_mk (P6.out.next hb)
                have q2 := q2.out
                clear hb d0 d1 d2 d3 d4 q1
                go_wp2
                go_meet
                case rel => exact ⟨_, rfl, ⟨by simp; omega, by simp [pcL, g0]⟩, PY.out⟩
            case rest =>
              obtain ⟨t4, rfl, G, P7⟩ := hcut
              obtain ⟨l4, e4⟩ := G.out
              have E4 := hid_mk e4
              clear e4 G P6
              have hz : z = t4 := by rw [Q.out, E4.out, E3.out, E2.out, E1.out]
              subst hz
              go_wp2
              go_ret
              exact ⟨rfl, P7.out.bel⟩
end Go.Proofs.YtdcghcbliajcpaaDoor
