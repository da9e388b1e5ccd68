/- FnTexts at every code: the walk. The tables and errors hold what the texts lay. -/
import Derived.Test.YtdcghcbliajcpaaDoorBig
import Derived.Test.YtdcghcbliajcpaaDoorTxtE
import Derived.Test.YtdcghcbliajcpaaDoorTxtJ
namespace Go.Proofs.YtdcghcbliajcpaaDoor
open Go.ChangeShapes Go.WideShapes Go.ChangeAt Go.RowKit
set_option maxRecDepth 100000

theorem big_trueT (a : Option Addr) (len cap : Nat) (w : World) (S : Hid (∀ w, Calls Tryd.prog 8 #[.slice a len cap] w fun e w' => e = .returned (.bool true) ∧ w' = w)) :
    Calls Tryd.prog 3 #[.slice a len cap] w fun e w' => e = .returned (.bool true) ∧ Below w.heap.size w w' := by
  go_enter Tryd.func3, Tryd.ntmps3
  go_wp2_with fail
  refine (S.out _).mono ?_
  rintro e w0 ⟨rfl, rfl⟩
  go_wp2
  go_ret
  exact ⟨rfl, Below.refl _ _⟩
theorem Ans.slice {w0 w : World} {v : Value} {L : List In} (h : Ans w0 w v L) (hm : L.length ≤ maxLen) : ∃ a c, v = .slice a L.length c ∧ SliceI w.heap.size w a L.length L := by
  rcases h with ⟨rfl, rfl⟩ | ⟨q, rfl, _, ho⟩
  · exact ⟨none, 0, rfl, hm, rfl, .inl rfl⟩
  · exact ⟨_, _, rfl, ho.slice rfl hm⟩
theorem line_none {x : In} : ((bs (inL x)).toList == (bs []).toList) = !okI x := by
  cases h : okI x with
  | true => rw [ne_bs (inL_ne h)]; rfl
  | false => rw [inL_off h]; simp
theorem text_none {L : List In} : ((bs (codeL L)).toList == (bs []).toList) = !cokB L := by
  cases h : cokB L with
  | true => rw [ne_bs (codeL_ne h)]; rfl
  | false => rw [codeL_off h]; simp

set_option maxHeartbeats 20000000 in
theorem fnTexts_walk (a : Option Addr) (len cap : Nat) (w : World) (hc : Code8 w.heap.size w a len) (ae : Addr) (hL : LayE ae w) :
    Calls Tryd.prog 3 #[.slice a len cap] w fun e w' => e = .returned (.bool true) ∧ Below w.heap.size w w' := by
  have C : Hid (Code8 w.heap.size w a len) := hc
  have LY := hid_mk hL
  have sb := big_any a len cap hc.1
  clear hc hL
  cases hbig : decide ((1048576 : Int) < len)
  case true =>
    rw [hbig] at sb
    exact big_trueT a len cap w sb
  case false =>
    rw [hbig] at sb
    have SB : Hid _ := sb
    clear sb hbig
    have c0 : (ByteArray.mk #[]) = bs [] := rfl
    go_enter Tryd.func3, Tryd.ntmps3
    go_wp2_with fail
    refine (SB.out _).mono ?_
    rintro e w0 ⟨rfl, hw0⟩
    subst w0
    clear SB
    go_wp2_with fail
    refine (drawInsText_any C.out).mono ?_
    rintro e w1 ⟨xo, xr, xa, xb, xn, rfl, hb1⟩
    have H1 := hid_mk ((Ris.start hb1).push xo xr xa xb xn 25)
    clear hb1
    go_upto_region 4 with fail
    generalize w1.heap.size = rx at H1 ⊢
    generalize w1.alloc (.cells #[.int .i64 xo, .int .i64 xr, .int .i64 xa, .int .i64 xb, .int .i64 xn] 25) = w2 at H1 ⊢
    have s1 := implInsText_any xo xr xa xb xn
    have s2 := specInsText_any xo xr xa xb xn
    have s3 := implInsOk_any xo xr xa xb xn
    have hno := line_none (x := ⟨xo, xr, xa, xb, xn⟩)
    have HR : Hid (okI ⟨xo, xr, xa, xb, xn⟩ = true → readL (inL ⟨xo, xr, xa, xb, xn⟩) = some ⟨xo, xr, xa, xb, xn⟩) := read_back7
    have HLn : Hid ((inL ⟨xo, xr, xa, xb, xn⟩).length ≤ 2000) := line_short _
    rw [show okI ⟨xo, xr, xa, xb, xn⟩ = iokB xo xr xa xb xn from rfl] at hno HR
    generalize inL ⟨xo, xr, xa, xb, xn⟩ = t at s1 s2 hno HR HLn
    generalize iokB xo xr xa xb xn = v at s3 hno HR
    have S1 := hid_mk s1
    have S2 := hid_mk s2
    have S3 := hid_mk s3
    have hvv : (v != v) = false := by simp
    have htt : ((bs t).toList == (bs t).toList) = true := by simp
    have xin : (rx, (⟨xo, xr, xa, xb, xn⟩ : In)) ∈ [(rx, (⟨xo, xr, xa, xb, xn⟩ : In))] := .head _
    clear s1 s2 s3
    obtain ⟨_, d0, d1, d2, d3, d4, _, _, _, _, _⟩ := H1.out.at xin
    go_wp2_with fail
    refine (S1.out _ (LY.out.lay.below H1.out.bel)).mono ?_
    rintro e w3 ⟨rfl, hb3⟩
    have H3 := hid_mk (H1.out.next hb3)
    clear hb3 H1 d0 d1 d2 d3 d4
    obtain ⟨_, d0, d1, d2, d3, d4, _, _, _, _, _⟩ := H3.out.at xin
    go_wp2_with fail
    refine (S2.out _).mono ?_
    rintro e w4 ⟨rfl, hb4⟩
    have H4 := hid_mk (H3.out.next hb4)
    clear hb4 H3 d0 d1 d2 d3 d4
    obtain ⟨_, d0, d1, d2, d3, d4, _, _, _, _, _⟩ := H4.out.at xin
    go_wp2_with fail
    refine (S3.out _).mono ?_
    rintro e w5 ⟨rfl, hb5⟩
    have H5 := hid_mk (H4.out.next hb5)
    clear hb5 H4 d0 d1 d2 d3 d4 S1 S2 S3
    go_upto_if 39 with fail
    go_cut [] (fun wx => Hid (Below w.heap.size w wx))
    case first =>
      cases v
      · go_wp2
        go_meet
        case rel => exact H5.out.bel
      · have hr := HR.out rfl
        have s6 := implInsRead_any t (by have := HLn.out; omega) ae
        rw [rdX, hr] at s6
        simp only [Option.getD_some, Option.isSome_some, insV] at s6
        have S6 := hid_mk s6
        have qn := neq_ins xo xr xa xb xn xo xr xa xb xn
        rw [eqB_self] at qn
        have eg := eg_ins
        clear s6 hr
        go_wp2_with fail
        refine (S6.out _ (LY.out.below H5.out.bel)).mono ?_
        rintro e w6 ⟨rfl, hb6⟩
        have H6 := hid_mk ((H5.out.next hb6).push xo xr xa xb xn 25)
        clear hb6
        go_upto_region 9 with fail
        generalize w6.heap.size = ry at H6 ⊢
        generalize w6.alloc (.cells #[.int .i64 xo, .int .i64 xr, .int .i64 xa, .int .i64 xb, .int .i64 xn] 25) = w7 at H6 ⊢
        obtain ⟨_, d0, d1, d2, d3, d4, _, _, _, _, _⟩ := H6.out.at (.tail _ (.head _))
        obtain ⟨_, e0, e1, e2, e3, e4, _, _, _, _, _⟩ := H6.out.at (.head _)
        go_wp2
        go_meet
        case rel => exact H6.out.bel
    case rest =>
    clear H5 HR HLn hno hvv htt xin
    have B5 : Hid (Below w.heap.size w wc) := hcut
    clear hcut
    go_wp2_with fail
    refine (drawInsRead_any (C.out.later B5.out)).mono ?_
    rintro e w6 ⟨l, rfl, hl, hb6⟩
    have B6 := hid_mk (B5.out.trans (hb6.mono B5.out.size))
    clear hb6 B5
    have s1 := implInsRead_any l (by omega) ae
    have s2 := specInsRead_any l (by omega)
    rw [rdX] at s1
    have HT : Hid ((readL l).isSome = true → inL ((readL l).getD ⟨0, 0, 0, 0, 0⟩) = l) := fun h => by
      obtain ⟨x, hx⟩ := Option.isSome_iff_exists.1 h
      rw [hx]
      exact (read_some hx).2
    generalize (readL l).isSome = b at s1 s2 HT
    generalize (readL l).getD ⟨0, 0, 0, 0, 0⟩ = y at s1 s2 HT
    simp only [insV] at s1 s2
    have S1 := hid_mk s1
    have S2 := hid_mk s2
    have hbb : (b != b) = false := by simp
    clear s1 s2 hl
    go_wp2_with fail
    refine (S1.out _ (LY.out.below B6.out)).mono ?_
    rintro e w7 ⟨rfl, hb7⟩
    have H7 := hid_mk ((Ris.start (B6.out.trans (hb7.mono B6.out.size))).push y.o y.r y.a y.b y.n 25)
    clear hb7 B6
    go_upto_region 13 with fail
    generalize w7.heap.size = ry at H7 ⊢
    generalize w7.alloc (.cells #[.int .i64 y.o, .int .i64 y.r, .int .i64 y.a, .int .i64 y.b, .int .i64 y.n] 25) = w8 at H7 ⊢
    go_wp2_with fail
    refine (S2.out _).mono ?_
    rintro e w9 ⟨rfl, hb9⟩
    have H9 := hid_mk ((H7.out.next hb9).alloc (.cells #[.int .i64 y.o, .int .i64 y.r, .int .i64 y.a, .int .i64 y.b, .int .i64 y.n] 25))
    clear hb9 H7
    go_upto_region 14 with fail
    generalize w9.heap.size = rz at ⊢
    generalize w9.alloc (.cells #[.int .i64 y.o, .int .i64 y.r, .int .i64 y.a, .int .i64 y.b, .int .i64 y.n] 25) = w10 at H9 ⊢
    go_cut [75] (fun c wx => c = .bool false ∧ Hid (Below w.heap.size w wx))
    case first =>
      cases b
      · go_wp2
        go_meet
        case rel => exact ⟨rfl, H9.out.bel⟩
      · have s3 := implInsText_any y.o y.r y.a y.b y.n
        rw [show (⟨y.o, y.r, y.a, y.b, y.n⟩ : In) = y from rfl, HT.out rfl] at s3
        have S3 := hid_mk s3
        have htt : ((bs l).toList == (bs l).toList) = true := by simp
        clear s3
        obtain ⟨_, d0, d1, d2, d3, d4, _, _, _, _, _⟩ := H9.out.all (ry, y) (.head _)
        simp only at d0 d1 d2 d3 d4
        go_wp2_with fail
        refine (S3.out _ (LY.out.lay.below H9.out.bel)).mono ?_
        rintro e w11 ⟨rfl, hb11⟩
        have H11 := hid_mk (H9.out.next hb11)
        clear hb11 d0 d1 d2 d3 d4
        go_wp2
        go_meet
        case rel => exact ⟨rfl, H11.out.bel⟩
    case rest =>
    clear H9 HT hbb S1 S2
    obtain ⟨rfl, B9⟩ := hcut
    go_wp2_with fail
    refine (drawCodeText_any (C.out.later B9.out)).mono ?_
    rintro e w12 ⟨ad, m, cp, M, rfl, hs, hb12⟩
    have B12 := hid_mk (B9.out.trans (hb12.mono B9.out.size))
    have T12 := hid_mk hs
    clear hb12 hs B9
    go_wp2_with fail
    refine (implCodeText_any ad m cp M _ T12.out (LY.out.lay.below B12.out)).mono ?_
    rintro e w13 ⟨rfl, hb13⟩
    have B13 := hid_mk (B12.out.trans (hb13.mono B12.out.size))
    have T13 : Hid (SliceI w13.heap.size w13 ad m M) := (T12.out.keep hb13).mono hb13.size
    clear hb13 B12 T12
    have s1 := fun (w : World) => specCodeText_any ad m cp M w
    have s2 := fun (w : World) => implCodeOk_any ad m cp M w
    have hno := text_none (L := M)
    have HR : Hid (cokB M = true → readC (codeL M) = some M) := read_code
    have HLn : Hid ((codeL M).length ≤ 2000) := text_short _
    generalize codeL M = t at s1 hno HR HLn ⊢
    generalize cokB M = v at s2 hno HR
    have S1 := hid_mk s1
    have S2 := hid_mk s2
    have hvv : (v != v) = false := by simp
    have htt : ((bs t).toList == (bs t).toList) = true := by simp
    clear s1 s2
    go_wp2_with fail
    refine (S1.out _ T13.out).mono ?_
    rintro e w14 ⟨rfl, hb14⟩
    have B14 := hid_mk (B13.out.trans (hb14.mono B13.out.size))
    have T14 : Hid (SliceI w14.heap.size w14 ad m M) := (T13.out.keep hb14).mono hb14.size
    clear hb14 B13 T13
    go_wp2_with fail
    refine (S2.out _ T14.out).mono ?_
    rintro e w15 ⟨rfl, hb15⟩
    have B15 := hid_mk (B14.out.trans (hb15.mono B14.out.size))
    have T15 : Hid (SliceI w15.heap.size w15 ad m M) := (T14.out.keep hb15).mono hb15.size
    clear hb15 B14 T14 S1 S2
    go_upto_if 92 with fail
    go_cut [] (fun wx => Hid (Below w.heap.size w wx))
    case first =>
      cases v
      · go_wp2
        go_meet
        case rel => exact B15.out
      · have hr := HR.out rfl
        have s6 := implCodeRead_any t (by have := HLn.out; omega) ae
        rw [hr] at s6
        simp only [Option.getD_some, Option.isSome_some] at s6
        have S6 := hid_mk s6
        clear s6 hr
        go_wp2_with fail
        refine (S6.out _ (LY.out.below B15.out)).mono ?_
        rintro e w16 ⟨v6, rfl, hA, hb16⟩
        have B16 := hid_mk (B15.out.trans (hb16.mono B15.out.size))
        have T16 : Hid (SliceI w16.heap.size w16 ad m M) := (T15.out.keep hb16).mono hb16.size
        obtain rfl : M.length = m := T16.out.2.1
        obtain ⟨a6, c6, rfl, h6⟩ := hA.slice T16.out.1
        have R16 := hid_mk h6
        clear hb16 hA h6
        go_wp2_with fail
        refine (sameIns_same _ _ _ c6 cp M _ R16.out T16.out).mono ?_
        rintro e w17 ⟨rfl, hb17⟩
        have B17 := hid_mk (B16.out.trans (hb17.mono B16.out.size))
        clear hb17 B16 T16 R16
        go_wp2
        go_meet
        case rel => exact B17.out
    case rest =>
    clear B15 T15 HR HLn hno hvv htt
    have B17 : Hid (Below w.heap.size w wc) := hcut
    clear hcut
    go_wp2_with fail
    refine (drawCodeRead_any (C.out.later B17.out)).mono ?_
    rintro e w18 ⟨l, rfl, hl, hb18⟩
    have B18 := hid_mk (B17.out.trans (hb18.mono B17.out.size))
    clear hb18 B17
    have s1 := implCodeRead_any l (by omega) ae
    have s2 := specCodeRead_any l (by omega)
    simp only [SQ] at s2
    have HT : Hid (((readC l).isSome = true → codeL ((readC l).getD []) = l) ∧ ((readC l).isSome = false → (readC l).getD [] = []) ∧ ((readC l).getD []).length ≤ 48) := by
      cases hr : readC l with
      | none => exact ⟨fun h => (by cases h), fun _ => rfl, by simp⟩
      | some M => exact ⟨fun _ => (readC_some hr).2, fun h => (by cases h), (cok_parts (readC_some hr).1).2.1⟩
    generalize (readC l).isSome = b at s1 s2 HT
    generalize (readC l).getD [] = M at s1 s2 HT
    have S1 := hid_mk s1
    have S2 := hid_mk s2
    have hbb : (b == b) = true := by simp
    clear s1 s2 hl
    go_wp2_with fail
    refine (S1.out _ (LY.out.below B18.out)).mono ?_
    rintro e w19 ⟨v9, rfl, hA, hb19⟩
    have B19 := hid_mk (B18.out.trans (hb19.mono B18.out.size))
    obtain ⟨a9, c9, rfl, h9⟩ := hA.slice (by have := HT.out.2.2; unfold maxLen; omega)
    have T19 := hid_mk h9
    clear hb19 hA h9 B18
    go_wp2_with fail
    refine (S2.out _).mono ?_
    rintro e w20 ⟨a2, c2, rfl, _, hb20⟩
    have B20 := hid_mk (B19.out.trans (hb20.mono B19.out.size))
    have T20 : Hid (SliceI w20.heap.size w20 a9 M.length M) := (T19.out.keep hb20).mono hb20.size
    clear hb20 B19 T19 S1 S2
    cases b
    · obtain rfl := HT.out.2.1 rfl
      simp only [List.length_nil]
      go_wp2
      go_ret
      exact ⟨rfl, B20.out⟩
    · have s3 := fun w hS hL => implCodeText_any a9 M.length c9 M w hS hL
      rw [HT.out.1 rfl] at s3
      have S3 := hid_mk s3
      have htt : ((bs l).toList == (bs l).toList) = true := by simp
      clear s3
      go_wp2_with fail
      refine (S3.out _ T20.out (LY.out.lay.below B20.out)).mono ?_
      rintro e w21 ⟨rfl, hb21⟩
      have B21 := hid_mk (B20.out.trans (hb21.mono B20.out.size))
      clear hb21
      go_wp2
      go_ret
      exact ⟨rfl, B21.out⟩
end Go.Proofs.YtdcghcbliajcpaaDoor
