/- FnMemory: what is written to a drawn memory by a key that may is read by one that may; who may not turns nothing. In a world that holds the program's four errors. -/
import Derived.Test.YtfeoaegkhbjaeaaDoorMemC
import Derived.Test.YtfeoaegkhbjaeaaDoorMemB
import Derived.Test.YtfeoaegkhbjaeaaDoorMemG
import Derived.Test.YtfeoaegkhbjaeaaDoorMemX
import Derived.Test.YtfeoaegkhbjaeaaDoorBig
import Derived.Test.YtfeoaegkhbjaeaaDoorWMath
namespace Go.Proofs.YtfeoaegkhbjaeaaDoor
open Go.ChangeShapes Go.WideShapes Go.ChangeAt Go.RowKit
set_option maxRecDepth 100000

theorem rd_zero {L : List Wd} {G : List Bool} {y : Wd} {m : Int} (h : ¬ rdZ L y m = 0) : rdW L G y m = wd0 := by
  unfold rdW
  rw [show (rdZ L y m == 0) = false by simpa using h]
  rfl
theorem wr_put {L : List Wd} {y : Wd} {m : Int} {x : Wd} (h : wrZ L y m x = 0) : putB y.p x.i = true := by
  rw [wr_trp] at h
  cases ht : (trpZ L.length y m 2 == 0) with
  | true =>
    rw [ht] at h
    cases hp : putB y.p x.i with
    | true => rfl
    | false => rw [hp] at h; simp at h
  | false =>
    rw [ht] at h
    have h2 : trpZ L.length y m 2 = 0 := h
    rw [h2] at ht
    simp at ht
theorem len_same {w : World} {a : Option Addr} {n : Nat} {a' : Option Addr} {n' : Nat} {L : List Wd} {G : List Bool} (h : MemS w a n a' n' L G) : L.length = n := h.ws.2.1

set_option maxHeartbeats 20000000 in
theorem fnMemory_walk (a : Option Addr) (len cap : Nat) (a0 a1 a2 a3 : Addr) (w : World) (hc : Code8 w.heap.size w a len) (hE : Errs a0 a1 a2 a3 w) :
    Calls Tryd.prog 4 #[.slice a len cap] w fun e w' => e = .returned (.bool true) ∧ Below w.heap.size w w' := by
  have C := hid_mk hc
  have E := hid_mk hE
  have sb := big_any a len cap hc.1
  clear hc hE
  cases hbig : decide ((1048576 : Int) < len) with
  | true =>
    rw [hbig] at sb
    have SB := hid_mk sb
    clear sb hbig
    go_enter Tryd.func4, Tryd.ntmps4
    go_wp2_with fail
    refine (SB.out _).mono ?_
    rintro e w1 ⟨rfl, hw1⟩
    subst w1
    go_wp2
    go_ret
    exact ⟨rfl, Below.refl _ _⟩
  | false =>
    rw [hbig] at sb
    have SB := hid_mk sb
    clear sb hbig
    go_enter Tryd.func4, Tryd.ntmps4
    go_wp2_with fail
    refine (SB.out _).mono ?_
    rintro e w1 ⟨rfl, hw1⟩
    subst w1
    clear SB
    go_wp2_with fail
    refine (drawWrite_any C.out).mono ?_
    rintro e w1 ⟨p1, n1, c1, p2, n2, c2, L, G, y, m, x, rfl, hM, h1, h2, h3, hb1⟩
    have hlw := hM.ws.2.1
    have hlg := hM.gs.2.1
    have H := hid_mk ((((((Hold.new w).next hb1).push (argF w1.heap.size p1 n1 p2 n2 L G) hM.arg).alloc (.cells #[.slice p1 n1 c1, .slice p2 n2 c2] 27)).push (duoF w1.heap.size (.slice p1 n1 c1) (.slice p2 n2 c2)) (Duo.new _ _ _ _)).alloc (.cells #[.int .i64 y.n, .bool y.i, .int .i64 y.b, .int .i64 y.t, .int .i64 y.p, .int .i64 y.s] 36) |>.push (sixF (w1.heap.size + 1) y) (Six.second w1 _ y.n y.i y.b y.t y.p y.s _) |>.alloc (.cells #[.int .i64 x.n, .bool x.i, .int .i64 x.b, .int .i64 x.t, .int .i64 x.p, .int .i64 x.s] 36) |>.push (sixF (w1.heap.size + 1 + 1) x) (Six.third w1 _ _ x.n x.i x.b x.t x.p x.s _))
    clear hb1 hM
    simp only [wdV]
    go_upto_region 4 with fail
    generalize ((w1.alloc (.cells #[.slice p1 n1 c1, .slice p2 n2 c2] 27)).alloc (.cells #[.int .i64 y.n, .bool y.i, .int .i64 y.b, .int .i64 y.t, .int .i64 y.p, .int .i64 y.s] 36)).alloc (.cells #[.int .i64 x.n, .bool x.i, .int .i64 x.b, .int .i64 x.t, .int .i64 x.p, .int .i64 x.s] 36) = w2 at H ⊢
    generalize w1.heap.size = r0 at H ⊢
    have s1 := fun w hM hE => implWrite_any a0 a1 a2 a3 p1 n1 c1 p2 n2 c2 L G y m x h1 w hM hE
    have s2 := specWrite_any p1 n1 c1 p2 n2 c2 L G y m x
    obtain ⟨LL, hLL⟩ : ∃ LL, Hid (LL = wrL L G y m x) := ⟨_, rfl⟩
    obtain ⟨GG, hGG⟩ : ∃ GG, Hid (GG = keepG L G) := ⟨_, rfl⟩
    obtain ⟨z, hz⟩ : ∃ z, Hid (z = wrZ L y m x) := ⟨_, rfl⟩
    have hll := wrl_len L G y m x
    simp only [← hLL.out, ← hGG.out, ← hz.out] at s1 s2 hll
    obtain ⟨j1, hj1⟩ : ∃ j1, Hid (j1 = LL.length) := ⟨_, rfl⟩
    obtain ⟨j2, hj2⟩ : ∃ j2, Hid (j2 = GG.length) := ⟨_, rfl⟩
    simp only [← hj1.out, ← hj2.out] at s1 s2 hll
    have S1 := hid_mk s1
    have S2 := hid_mk s2
    obtain ⟨hll1, hll2⟩ := hll
    have hk1 : j1 ≤ 1048576 := by omega
    have hk2 : j2 ≤ 1048576 := by omega
    have hzz : (z != z) = false := by simp
    clear s1 s2
    obtain ⟨_, m0, m1, _, _⟩ := H.out.duo (.tail _ (.tail _ (.head _)))
    obtain ⟨_, y0, y1, y2, y3, y4, y5, _, _, _, _, _, _⟩ := H.out.six (.tail _ (.head _))
    obtain ⟨_, x0, x1, x2, x3, x4, x5, _, _, _, _, _, _⟩ := H.out.six (.head _)
    go_wp2_with fail
    refine (S1.out _ (H.out.arg (.tail _ (.tail _ (.tail _ (.head _))))) (E.out.below H.out.bel)).mono ?_
    rintro e w3 ⟨bx, dx, bx', dx', rfl, AX, _, hb3⟩
    replace H := hid_mk ((((H.out.next hb3).push (ansF bx bx' j1 j2 LL GG) AX).alloc (.cells #[.slice bx j1 dx, .slice bx' j2 dx'] 27)).push (duoF w3.heap.size (.slice bx j1 dx) (.slice bx' j2 dx')) (Duo.new _ _ _ _))
    clear hb3 AX m0 m1 y0 y1 y2 y3 y4 y5 x0 x1 x2 x3 x4 x5
    go_upto_region 5 with fail
    generalize w3.alloc (.cells #[.slice bx j1 dx, .slice bx' j2 dx'] 27) = w4 at H ⊢
    generalize w3.heap.size = rX at H ⊢
    obtain ⟨_, m0, m1, _, _⟩ := H.out.duo (.tail _ (.tail _ (.tail _ (.tail _ (.head _)))))
    obtain ⟨_, y0, y1, y2, y3, y4, y5, _, _, _, _, _, _⟩ := H.out.six (.tail _ (.tail _ (.tail _ (.head _))))
    obtain ⟨_, x0, x1, x2, x3, x4, x5, _, _, _, _, _, _⟩ := H.out.six (.tail _ (.tail _ (.head _)))
    go_wp2_with fail
    refine (S2.out _ (H.out.arg (.tail _ (.tail _ (.tail _ (.tail _ (.tail _ (.head _)))))))).mono ?_
    rintro e w5 ⟨by_, dy, by', dy', rfl, AY, _, hb5⟩
    replace H := hid_mk ((((H.out.next hb5).push (ansF by_ by' j1 j2 LL GG) AY).alloc (.cells #[.slice by_ j1 dy, .slice by' j2 dy'] 27)).push (duoF w5.heap.size (.slice by_ j1 dy) (.slice by' j2 dy')) (Duo.new _ _ _ _))
    clear hb5 AY m0 m1 y0 y1 y2 y3 y4 y5 x0 x1 x2 x3 x4 x5
    go_upto_region 6 with fail
    generalize w5.alloc (.cells #[.slice by_ j1 dy, .slice by' j2 dy'] 27) = w6 at H ⊢
    generalize w5.heap.size = rY at H ⊢
    go_wp2_with fail
    refine (drawRead_any (C.out.later H.out.bel)).mono ?_
    rintro e w7 ⟨s1, k1, e1, s2, k2, e2, L2, G2, yy, m2, rfl, hF, _, _, _, hb7⟩
    replace H := hid_mk (((((H.out.next hb7).push (argF w7.heap.size s1 k1 s2 k2 L2 G2) hF.mem.arg).alloc (.cells #[.slice s1 k1 e1, .slice s2 k2 e2] 27)).push (duoF w7.heap.size (.slice s1 k1 e1) (.slice s2 k2 e2)) (Duo.new _ _ _ _)).alloc (.cells #[.int .i64 yy.n, .bool yy.i, .int .i64 yy.b, .int .i64 yy.t, .int .i64 yy.p, .int .i64 yy.s] 36) |>.push (sixF (w7.heap.size + 1) yy) (Six.second w7 _ yy.n yy.i yy.b yy.t yy.p yy.s _))
    clear hb7 hF
    simp only [wdV]
    go_upto_region 7 with fail
    generalize (w7.alloc (.cells #[.slice s1 k1 e1, .slice s2 k2 e2] 27)).alloc (.cells #[.int .i64 yy.n, .bool yy.i, .int .i64 yy.b, .int .i64 yy.t, .int .i64 yy.p, .int .i64 yy.s] 36) = w8 at H ⊢
    generalize w7.heap.size = r2 at H ⊢
    have s3 := fun w hM hE => implRead_any a0 a1 a2 a3 s1 k1 e1 s2 k2 e2 L2 G2 yy m2 w hM hE
    have s4 := specRead_any s1 k1 e1 s2 k2 e2 L2 G2 yy m2
    have hv0 : rdZ L2 yy m2 = 0 ∨ rdW L2 G2 yy m2 = wd0 := by
      by_cases hr : rdZ L2 yy m2 = 0
      · exact .inl hr
      · exact .inr (rd_zero hr)
    generalize rdW L2 G2 yy m2 = v at s3 s4 hv0
    generalize rdZ L2 yy m2 = u at s3 s4 hv0
    simp only [wdV] at s3 s4
    have S3 := hid_mk s3
    have S4 := hid_mk s4
    have huu : (u != u) = false := by simp
    clear s3 s4 S1 S2 C
    obtain ⟨_, m0, m1, _, _⟩ := H.out.duo (.tail _ (.head _))
    obtain ⟨_, y0, y1, y2, y3, y4, y5, _, _, _, _, _, _⟩ := H.out.six (.head _)
    go_wp2_with fail
    refine (S3.out _ (H.out.arg (.tail _ (.tail _ (.head _)))) (E.out.below H.out.bel)).mono ?_
    rintro e w9 ⟨rfl, hb9⟩
    replace H := hid_mk (((H.out.next hb9).alloc (.cells #[.int .i64 v.n, .bool v.i, .int .i64 v.b, .int .i64 v.t, .int .i64 v.p, .int .i64 v.s] 36)).push (sixF w9.heap.size v) (Six.new _ _ _ _ _ _ _ _))
    clear hb9 m0 m1 y0 y1 y2 y3 y4 y5 S3
    go_upto_region 8 with fail
    generalize w9.alloc (.cells #[.int .i64 v.n, .bool v.i, .int .i64 v.b, .int .i64 v.t, .int .i64 v.p, .int .i64 v.s] 36) = w10 at H ⊢
    generalize w9.heap.size = rg at H ⊢
    obtain ⟨_, m0, m1, _, _⟩ := H.out.duo (.tail _ (.tail _ (.head _)))
    obtain ⟨_, y0, y1, y2, y3, y4, y5, _, _, _, _, _, _⟩ := H.out.six (.tail _ (.head _))
    go_wp2_with fail
    refine (S4.out _ (H.out.arg (.tail _ (.tail _ (.tail _ (.head _)))))).mono ?_
    rintro e w11 ⟨rfl, hb11⟩
    replace H := hid_mk (((H.out.next hb11).alloc (.cells #[.int .i64 v.n, .bool v.i, .int .i64 v.b, .int .i64 v.t, .int .i64 v.p, .int .i64 v.s] 36)).push (sixF w11.heap.size v) (Six.new _ _ _ _ _ _ _ _))
    clear hb11 m0 m1 y0 y1 y2 y3 y4 y5 S4 E
    go_upto_region 9 with fail
    generalize w11.alloc (.cells #[.int .i64 v.n, .bool v.i, .int .i64 v.b, .int .i64 v.t, .int .i64 v.p, .int .i64 v.s] 36) = w12 at H ⊢
    generalize w11.heap.size = rl at H ⊢
    have qn := neq_word v.n v.i v.b v.t v.p v.s
    have eg := eg_word
    obtain ⟨_, l0, l1, l2, l3, l4, l5, _, _, _, _, _, _⟩ := H.out.six (.head _)
    obtain ⟨_, g0, g1, g2, g3, g4, g5, _, _, _, _, _, _⟩ := H.out.six (.tail _ (.head _))
    obtain ⟨_, o0, o1, _, _⟩ := H.out.duo (.tail _ (.tail _ (.tail _ (.tail _ (.tail _ (.head _))))))
    obtain ⟨_, q0, q1, _, _⟩ := H.out.duo (.tail _ (.tail _ (.tail _ (.tail _ (.tail _ (.tail _ (.tail _ (.head _))))))))
    go_wp2_with fail
    refine (sameWords_same _ _ _ _ _ LL _ (AnsM.mem (H.out.ans (.tail _ (.tail _ (.tail _ (.tail _ (.tail _ (.tail _ (.tail _ (.tail _ (.head _)))))))))) hk1 hk2).ws (AnsM.mem (H.out.ans (.tail _ (.tail _ (.tail _ (.tail _ (.tail _ (.tail _ (.head _)))))))) hk1 hk2).ws).mono ?_
    rintro e w13 ⟨rfl, hb13⟩
    replace H := hid_mk (H.out.next hb13)
    clear hb13 l0 l1 l2 l3 l4 l5 g0 g1 g2 g3 g4 g5 o0 o1 q0 q1
    obtain ⟨_, l0, l1, l2, l3, l4, l5, _, _, _, _, _, _⟩ := H.out.six (.head _)
    obtain ⟨_, g0, g1, g2, g3, g4, g5, _, _, _, _, _, _⟩ := H.out.six (.tail _ (.head _))
    go_upto_region 11 with fail
    clear l0 l1 l2 l3 l4 l5
    go_cut [91] (fun pv wx => pv = .bool false ∧ wx = w13)
    case first =>
      rcases hv0 with rfl | rfl
      · go_wp2
        go_meet
        case rel => exact ⟨rfl, rfl⟩
      · have qz := neq_word 0 false 0 0 0 0
        simp only [wd0] at g0 g1 g2 g3 g4 g5
        by_cases hu0 : u = 0
        · subst hu0
          go_wp2
          go_meet
          case rel => exact ⟨rfl, rfl⟩
        · have hun : (u != 0) = true := by simpa using hu0
          go_wp2
          go_meet
          case rel => exact ⟨rfl, rfl⟩
    case' rest =>
      obtain ⟨rfl, rfl⟩ := hcut
    clear g0 g1 g2 g3 g4 g5 qn hv0
    by_cases hz0 : z = 0
    · subst hz0
      have s5 := specMemoryOk_any p1 n1 c1 p2 n2 c2 L G
      obtain ⟨_, q0, q1, _, _⟩ := H.out.duo (.tail _ (.tail _ (.tail _ (.tail _ (.tail _ (.tail _ (.tail _ (.tail _ (.tail _ (.tail _ (.tail _ (.head _))))))))))))
      cases hk : mokB L G with
      | false =>
        have hj : j1 = 0 := by rw [hj1.out, hLL.out, wrl_none hk]; rfl
        subst hj
        rw [hk] at s5
        have S5 := hid_mk s5
        clear s5 hk
        go_wp2_with fail
        refine (S5.out _ (H.out.arg (.tail _ (.tail _ (.tail _ (.tail _ (.tail _ (.tail _ (.tail _ (.tail _ (.tail _ (.tail _ (.tail _ (.tail _ (.head _))))))))))))))).mono ?_
        rintro e w14 ⟨rfl, hb14⟩
        replace H := hid_mk (H.out.next hb14)
        clear hb14 q0 q1
        obtain ⟨_, o0, o1, _, _⟩ := H.out.duo (.tail _ (.tail _ (.tail _ (.tail _ (.tail _ (.tail _ (.tail _ (.head _))))))))
        go_wp2
        go_ret
        exact ⟨rfl, H.out.bel⟩
      | true =>
        obtain ⟨h24, h24', _⟩ := mok_parts hk
        obtain ⟨hi0, hi1⟩ := wr_in hz.out.symm
        have hE : LL = L.set m.toNat x := hLL.out.trans (wrl_in hk hz.out.symm)
        obtain ⟨k, rfl⟩ : ∃ k : Nat, m = k := ⟨m.toNat, by omega⟩
        have hn : n1 = 24 := by omega
        have hj : j1 = 24 := by rw [hj1.out, hE, List.length_set]; exact h24
        have HP := hid_mk (wr_put hz.out.symm)
        have hk24 : k < 24 := by omega
        have HE : Hid (LL = L.set k x) := hE
        rw [hk] at s5
        have S5 := hid_mk s5
        clear s5 hk hE hLL hz hj1
        subst hn hj
        go_wp2_with fail
        refine (S5.out _ (H.out.arg (.tail _ (.tail _ (.tail _ (.tail _ (.tail _ (.tail _ (.tail _ (.tail _ (.tail _ (.tail _ (.tail _ (.tail _ (.head _))))))))))))))).mono ?_
        rintro e w14 ⟨rfl, hb14⟩
        replace H := hid_mk (H.out.next hb14)
        clear hb14 q0 q1 S5
        go_wp2
        go_loopw [18] (fun c wr => ∃ j : Nat, j ≤ 24 ∧ c = .int .i64 j ∧ Hid (Below w14.heap.size w14 wr)) (fun c _ => 24 - (intOf c).toNat)
        case atStart => exact ⟨0, Nat.zero_le _, rfl, Below.refl _ _⟩
        case round =>
          obtain ⟨j, hj, rfl, hB⟩ := hrel
          by_cases hlt : j < 24
          · by_cases hjk : j = k
            · have hne : ((j : Int) != (k : Int)) = false := by simp [hjk]
              have hu : undef = Value.tuple #[] := rfl
              go_wp2_with fail
              go_quiet (fail)
              go_wp2
              go_roundw
              case rel => exact ⟨j + 1, hlt, by go_num, below_drewN hB.out _⟩
              case measure => simp [intOf]; omega
            · have hne : ((j : Int) != (k : Int)) = true := by simp; omega
              have HL := hid_mk (H.out.next hB.out.drew)
              obtain ⟨_, o0, _, _, _⟩ := HL.out.duo (.tail _ (.tail _ (.tail _ (.tail _ (.tail _ (.tail _ (.tail _ (.head _))))))))
              obtain ⟨_, q0, _, _, _⟩ := HL.out.duo (.tail _ (.tail _ (.tail _ (.tail _ (.tail _ (.tail _ (.tail _ (.tail _ (.tail _ (.tail _ (.tail _ (.head _))))))))))))
              obtain ⟨kb, o, xx, rfl, _, hx, hat⟩ := (HL.out.arg (.tail _ (.tail _ (.tail _ (.tail _ (.tail _ (.tail _ (.tail _ (.tail _ (.tail _ (.tail _ (.tail _ (.tail _ (.head _)))))))))))))).ws.at hlt
              obtain ⟨kc, oc, xc, rfl, _, hxc, hatc⟩ := (AnsM.mem (HL.out.ans (.tail _ (.tail _ (.tail _ (.tail _ (.tail _ (.tail _ (.tail _ (.tail _ (.head _)))))))))) hk1 hk2).ws.at hlt
              obtain rfl : xx = xc := by
                rw [HE.out, List.getElem?_set_ne (by omega)] at hxc
                exact Option.some.inj (hx.symm.trans hxc)
              have qn := neq_word xx.n xx.i xx.b xx.t xx.p xx.s
              have ALL : Hid (wr.drew.cell? ⟨r0, 0, none⟩ = some (.slice (some ⟨kb, o, none⟩) 24 c1) ∧ wr.drew.cell? ⟨rX, 0, none⟩ = some (.slice (some ⟨kc, oc, none⟩) 24 dx) ∧ wr.drew.cell? ⟨kb, o + j * 6, none⟩ = some (.int .i64 xx.n) ∧ wr.drew.cell? ⟨kb, o + j * 6 + 1, none⟩ = some (.bool xx.i) ∧ wr.drew.cell? ⟨kb, o + j * 6 + 2, none⟩ = some (.int .i64 xx.b) ∧ wr.drew.cell? ⟨kb, o + j * 6 + 3, none⟩ = some (.int .i64 xx.t) ∧ wr.drew.cell? ⟨kb, o + j * 6 + 4, none⟩ = some (.int .i64 xx.p) ∧ wr.drew.cell? ⟨kb, o + j * 6 + 5, none⟩ = some (.int .i64 xx.s) ∧ wr.drew.cell? ⟨kc, oc + j * 6, none⟩ = some (.int .i64 xx.n) ∧ wr.drew.cell? ⟨kc, oc + j * 6 + 1, none⟩ = some (.bool xx.i) ∧ wr.drew.cell? ⟨kc, oc + j * 6 + 2, none⟩ = some (.int .i64 xx.b) ∧ wr.drew.cell? ⟨kc, oc + j * 6 + 3, none⟩ = some (.int .i64 xx.t) ∧ wr.drew.cell? ⟨kc, oc + j * 6 + 4, none⟩ = some (.int .i64 xx.p) ∧ wr.drew.cell? ⟨kc, oc + j * 6 + 5, none⟩ = some (.int .i64 xx.s)) := ⟨q0, o0, hat.c0, hat.c1, hat.c2, hat.c3, hat.c4, hat.c5, hatc.c0, hatc.c1, hatc.c2, hatc.c3, hatc.c4, hatc.c5⟩
              clear o0 q0 hx hat hxc hatc
              go_wp2_with fail
              go_region_held3 (fun w' => w'.cell? ⟨r0, 0, none⟩ = some (.slice (some ⟨kb, o, none⟩) 24 c1) ∧ w'.cell? ⟨rX, 0, none⟩ = some (.slice (some ⟨kc, oc, none⟩) 24 dx) ∧ w'.cell? ⟨kb, o + j * 6, none⟩ = some (.int .i64 xx.n) ∧ w'.cell? ⟨kb, o + j * 6 + 1, none⟩ = some (.bool xx.i) ∧ w'.cell? ⟨kb, o + j * 6 + 2, none⟩ = some (.int .i64 xx.b) ∧ w'.cell? ⟨kb, o + j * 6 + 3, none⟩ = some (.int .i64 xx.t) ∧ w'.cell? ⟨kb, o + j * 6 + 4, none⟩ = some (.int .i64 xx.p) ∧ w'.cell? ⟨kb, o + j * 6 + 5, none⟩ = some (.int .i64 xx.s) ∧ w'.cell? ⟨kc, oc + j * 6, none⟩ = some (.int .i64 xx.n) ∧ w'.cell? ⟨kc, oc + j * 6 + 1, none⟩ = some (.bool xx.i) ∧ w'.cell? ⟨kc, oc + j * 6 + 2, none⟩ = some (.int .i64 xx.b) ∧ w'.cell? ⟨kc, oc + j * 6 + 3, none⟩ = some (.int .i64 xx.t) ∧ w'.cell? ⟨kc, oc + j * 6 + 4, none⟩ = some (.int .i64 xx.p) ∧ w'.cell? ⟨kc, oc + j * 6 + 5, none⟩ = some (.int .i64 xx.s))
                (with_reducible exact ALL.out)
                (fail)
              go_wp2
              go_roundw
              case rel => exact ⟨j + 1, hlt, by go_num, hB.out.drew⟩
              case measure => simp [intOf]; omega
          · go_wp2_with fail
            have HL := hid_mk (H.out.next hB.out.drew)
            obtain ⟨_, o0, _, _, _⟩ := HL.out.duo (.tail _ (.tail _ (.tail _ (.tail _ (.tail _ (.tail _ (.tail _ (.head _))))))))
            obtain ⟨_, c0, c1, c2, c3, c4, c5, _, _, _, _, _, _⟩ := HL.out.six (.tail _ (.tail _ (.tail _ (.tail _ (.tail _ (.tail _ (.tail _ (.tail _ (.tail _ (.head _))))))))))
            obtain ⟨_, _, _, _, _, d4, _, _, _, _, _, _, _⟩ := HL.out.six (.tail _ (.tail _ (.tail _ (.tail _ (.tail _ (.tail _ (.tail _ (.tail _ (.tail _ (.tail _ (.head _)))))))))))
            obtain ⟨kc, oc, xc, rfl, _, hxc, hat⟩ := (AnsM.mem (HL.out.ans (.tail _ (.tail _ (.tail _ (.tail _ (.tail _ (.tail _ (.tail _ (.tail _ (.head _)))))))))) hk1 hk2).ws.at hk24
            obtain rfl : x = xc := by
              rw [HE.out, List.getElem?_set_self (by omega)] at hxc
              exact Option.some.inj hxc
            have qe := eql_word x.n x.i x.b x.t x.p x.s
            have hp := HP.out
            unfold putB at hp
            rw [← and16_ne] at hp
            have all : wr.drew.cell? ⟨rX, 0, none⟩ = some (.slice (some ⟨kc, oc, none⟩) 24 dx) ∧ wr.drew.cell? ⟨kc, oc + k * 6, none⟩ = some (.int .i64 x.n) ∧ wr.drew.cell? ⟨kc, oc + k * 6 + 1, none⟩ = some (.bool x.i) ∧ wr.drew.cell? ⟨kc, oc + k * 6 + 2, none⟩ = some (.int .i64 x.b) ∧ wr.drew.cell? ⟨kc, oc + k * 6 + 3, none⟩ = some (.int .i64 x.t) ∧ wr.drew.cell? ⟨kc, oc + k * 6 + 4, none⟩ = some (.int .i64 x.p) ∧ wr.drew.cell? ⟨kc, oc + k * 6 + 5, none⟩ = some (.int .i64 x.s) ∧ wr.drew.cell? ⟨r0 + 1 + 1, 0, none⟩ = some (.int .i64 x.n) ∧ wr.drew.cell? ⟨r0 + 1 + 1, 1, none⟩ = some (.bool x.i) ∧ wr.drew.cell? ⟨r0 + 1 + 1, 2, none⟩ = some (.int .i64 x.b) ∧ wr.drew.cell? ⟨r0 + 1 + 1, 3, none⟩ = some (.int .i64 x.t) ∧ wr.drew.cell? ⟨r0 + 1 + 1, 4, none⟩ = some (.int .i64 x.p) ∧ wr.drew.cell? ⟨r0 + 1 + 1, 5, none⟩ = some (.int .i64 x.s) ∧ wr.drew.cell? ⟨r0 + 1, 4, none⟩ = some (.int .i64 y.p) := ⟨o0, hat.c0, hat.c1, hat.c2, hat.c3, hat.c4, hat.c5, c0, c1, c2, c3, c4, c5, d4⟩
            have bel := hid_mk (HL.out.bel)
            have bel0 := hid_mk ((H.out.next hB.out).bel)
            clear o0 c0 c1 c2 c3 c4 c5 d4 hxc hat HP HE H HL hll1 hi0 hi1 h1 h2 hk1 hlt hlw hj
            have b0 : (0 : Int) ≤ (k : Int) := by omega
            have b1 : (k : Int) < 24 := by omega
            have b2 : (k : Int) ≤ ((24 : Nat) : Int) := by omega
            generalize x.i = xi at hp all qe
            generalize hbb : bits .and .i64 y.p 16 = bb at hp
            have ALL := hid_mk all
            clear all
            cases xi with
            | false =>
              have hu : undef = Value.tuple #[] := rfl
              clear hp
              have all : wr.cell? ⟨rX, 0, none⟩ = some (.slice (some ⟨kc, oc, none⟩) 24 dx) ∧ wr.cell? ⟨kc, oc + k * 6, none⟩ = some (.int .i64 x.n) ∧ wr.cell? ⟨kc, oc + k * 6 + 1, none⟩ = some (.bool false) ∧ wr.cell? ⟨kc, oc + k * 6 + 2, none⟩ = some (.int .i64 x.b) ∧ wr.cell? ⟨kc, oc + k * 6 + 3, none⟩ = some (.int .i64 x.t) ∧ wr.cell? ⟨kc, oc + k * 6 + 4, none⟩ = some (.int .i64 x.p) ∧ wr.cell? ⟨kc, oc + k * 6 + 5, none⟩ = some (.int .i64 x.s) ∧ wr.cell? ⟨r0 + 1 + 1, 0, none⟩ = some (.int .i64 x.n) ∧ wr.cell? ⟨r0 + 1 + 1, 1, none⟩ = some (.bool false) ∧ wr.cell? ⟨r0 + 1 + 1, 2, none⟩ = some (.int .i64 x.b) ∧ wr.cell? ⟨r0 + 1 + 1, 3, none⟩ = some (.int .i64 x.t) ∧ wr.cell? ⟨r0 + 1 + 1, 4, none⟩ = some (.int .i64 x.p) ∧ wr.cell? ⟨r0 + 1 + 1, 5, none⟩ = some (.int .i64 x.s) ∧ wr.cell? ⟨r0 + 1, 4, none⟩ = some (.int .i64 y.p) := ALL.out
              obtain ⟨o0, e0, e1, e2, e3, e4, e5, c0, c1, c2, c3, c4, c5, d4⟩ := all
              go_quiet (fail)
              go_wp2
              go_ret
              exact ⟨rfl, below_drewN bel0.out _⟩
            | true =>
              have hp' : (bb != 0) = true := by simpa using hp
              clear hp
              go_region_held3 (fun w' => w'.cell? ⟨rX, 0, none⟩ = some (.slice (some ⟨kc, oc, none⟩) 24 dx) ∧ w'.cell? ⟨kc, oc + k * 6, none⟩ = some (.int .i64 x.n) ∧ w'.cell? ⟨kc, oc + k * 6 + 1, none⟩ = some (.bool true) ∧ w'.cell? ⟨kc, oc + k * 6 + 2, none⟩ = some (.int .i64 x.b) ∧ w'.cell? ⟨kc, oc + k * 6 + 3, none⟩ = some (.int .i64 x.t) ∧ w'.cell? ⟨kc, oc + k * 6 + 4, none⟩ = some (.int .i64 x.p) ∧ w'.cell? ⟨kc, oc + k * 6 + 5, none⟩ = some (.int .i64 x.s) ∧ w'.cell? ⟨r0 + 1 + 1, 0, none⟩ = some (.int .i64 x.n) ∧ w'.cell? ⟨r0 + 1 + 1, 1, none⟩ = some (.bool true) ∧ w'.cell? ⟨r0 + 1 + 1, 2, none⟩ = some (.int .i64 x.b) ∧ w'.cell? ⟨r0 + 1 + 1, 3, none⟩ = some (.int .i64 x.t) ∧ w'.cell? ⟨r0 + 1 + 1, 4, none⟩ = some (.int .i64 x.p) ∧ w'.cell? ⟨r0 + 1 + 1, 5, none⟩ = some (.int .i64 x.s) ∧ w'.cell? ⟨r0 + 1, 4, none⟩ = some (.int .i64 y.p))
                (with_reducible exact ALL.out)
                (fail)
              go_wp2
              go_ret
              exact ⟨rfl, bel.out⟩
    · have hzn : (z != 0) = true := by simpa using hz0
      obtain ⟨_, o0, o1, _, _⟩ := H.out.duo (.tail _ (.tail _ (.tail _ (.tail _ (.tail _ (.tail _ (.tail _ (.head _))))))))
      obtain ⟨_, q0, q1, _, _⟩ := H.out.duo (.tail _ (.tail _ (.tail _ (.tail _ (.tail _ (.tail _ (.tail _ (.tail _ (.tail _ (.tail _ (.tail _ (.head _))))))))))))
      cases hk : mokB L G with
      | false =>
        have hj : j1 = 0 := by rw [hj1.out, hLL.out, wrl_none hk]; rfl
        subst hj
        go_wp2
        go_ret
        exact ⟨rfl, H.out.bel⟩
      | true =>
        obtain ⟨h24, h24', _⟩ := mok_parts hk
        have hLD : LL = L := hLL.out.trans (wrl_out hk (fun e => hz0 (hz.out.trans e)))
        subst hLD
        have hj : j1 = 24 := by rw [hj1.out]; exact h24
        have hn : n1 = 24 := by omega
        subst hj hn
        go_wp2_with fail
        refine (sameWords_same _ _ _ _ _ LL _ (AnsM.mem (H.out.ans (.tail _ (.tail _ (.tail _ (.tail _ (.tail _ (.tail _ (.tail _ (.tail _ (.head _)))))))))) hk1 hk2).ws (H.out.arg (.tail _ (.tail _ (.tail _ (.tail _ (.tail _ (.tail _ (.tail _ (.tail _ (.tail _ (.tail _ (.tail _ (.tail _ (.head _)))))))))))))).ws).mono ?_
        rintro e w14 ⟨rfl, hb14⟩
        replace H := hid_mk (H.out.next hb14)
        clear hb14
        go_wp2
        go_ret
        exact ⟨rfl, H.out.bel⟩
end Go.Proofs.YtfeoaegkhbjaeaaDoor
