/- FnFilter: what is read of a drawn memory, swept or not, is the same. In a world that holds the program's four errors. -/
import Derived.Test.YtfeoaegkhbjaeaaDoorMemC
import Derived.Test.YtfeoaegkhbjaeaaDoorIMem
import Derived.Test.YtfeoaegkhbjaeaaDoorMemB
import Derived.Test.YtfeoaegkhbjaeaaDoorMemX
import Derived.Test.YtfeoaegkhbjaeaaDoorKeyR
import Derived.Test.YtfeoaegkhbjaeaaDoorWordK
import Derived.Test.YtfeoaegkhbjaeaaDoorBig
import Derived.Test.YtfeoaegkhbjaeaaDoorWMath
namespace Go.Proofs.YtfeoaegkhbjaeaaDoor
open Go.ChangeShapes Go.WideShapes Go.ChangeAt Go.RowKit
set_option maxRecDepth 100000

theorem swp_le (L : List Wd) (G : List Bool) (m : Int) : (swpL L G m).length ≤ 24 ∧ (keepG L G).length ≤ 24 := by
  cases h : mokB L G with
  | false => rw [keepG_none h, swp_none h]; exact ⟨by simp, by simp⟩
  | true =>
    obtain ⟨h0, h1, _⟩ := mok_parts h
    rw [keepG_some h, swp_len h]
    omega
theorem field_mem (v0 v1 : Value) (w : World) : (Instr.field 27 (.agg #[v0, v1]) 0).run Tryd.prog w = .ok v0 w := by kernel_rfl

theorem keyw_y : ∃ y : Wd, ∀ w : World, Calls Tryd.prog 19 #[.agg #[.int .i64 0, .int .i64 4096, .int .i64 63, .int .i64 0], .int .i64 0] w fun e w' => e = .returned (.agg #[.int .i64 y.n, .bool y.i, .int .i64 y.b, .int .i64 y.t, .int .i64 y.p, .int .i64 y.s]) ∧ Below w.heap.size w w' :=
  ⟨⟨0 % 65536, kokB 0 4096 63 0, bif kokB 0 4096 63 0 then 0 else 0, bif kokB 0 4096 63 0 then 4096 else 0, bif kokB 0 4096 63 0 then 63 else 0, bif kokB 0 4096 63 0 then 0 else 0⟩, implKeyWord_any 0 4096 63 0 0⟩

set_option maxHeartbeats 4000000 in
theorem fnFilter_walk (a : Option Addr) (len cap : Nat) (a0 a1 a2 a3 : Addr) (w : World) (hc : Code8 w.heap.size w a len) (hE : Errs a0 a1 a2 a3 w) :
    Calls Tryd.prog 3 #[.slice a len cap] w fun e w' => e = .returned (.bool true) ∧ Below w.heap.size w w' := by
  have C := hid_mk hc
  have E := hid_mk hE
  have sb := big_any a len cap hc.1
  clear hc hE
  cases hbig : decide ((1048576 : Int) < len) with
  | true =>
    rw [hbig] at sb
    have SB := hid_mk sb
    clear sb hbig
    go_enter Tryd.func3, Tryd.ntmps3
    go_wp2_with fail
    refine (SB.out _).mono ?_
    rintro e w1 ⟨rfl, hw1⟩
    subst w1
    go_wp2
    go_ret
    exact ⟨rfl, Below.refl _ _⟩
  | false =>
    rw [hbig] at sb
    have SB := hid_mk sb
    clear sb hbig
    go_enter Tryd.func3, Tryd.ntmps3
    go_wp2_with fail
    refine (SB.out _).mono ?_
    rintro e w1 ⟨rfl, hw1⟩
    subst w1
    clear SB
    go_wp2_with fail
    refine (drawSweep_any C.out).mono ?_
    rintro e w1 ⟨p1, n1, c1, p2, n2, c2, L, G, m, rfl, hM, h1, h2, h3, hb1⟩
    have H := hid_mk (((((Hold.new w).next hb1).push (argF w1.heap.size p1 n1 p2 n2 L G) hM.mem.arg).alloc (.cells #[.slice p1 n1 c1, .slice p2 n2 c2] 27)).push (duoF w1.heap.size (.slice p1 n1 c1) (.slice p2 n2 c2)) (Duo.new _ _ _ _))
    clear hb1 hM
    go_upto_region 4 with fail
    generalize w1.alloc (.cells #[.slice p1 n1 c1, .slice p2 n2 c2] 27) = w2 at H ⊢
    generalize w1.heap.size = r0 at H ⊢
    have s1 := fun w hM => implSweep_any p1 n1 c1 p2 n2 c2 L G m h1 w hM
    have s2 := specSweep_any p1 n1 c1 p2 n2 c2 L G m
    obtain ⟨LL, hLL⟩ : ∃ LL, Hid (LL = swpL L G m) := ⟨_, rfl⟩
    obtain ⟨GG, hGG⟩ : ∃ GG, Hid (GG = keepG L G) := ⟨_, rfl⟩
    have hll := swp_le L G m
    simp only [← hLL.out, ← hGG.out] at s1 s2 hll
    obtain ⟨j1, hj1⟩ : ∃ j1, Hid (j1 = LL.length) := ⟨_, rfl⟩
    obtain ⟨j2, hj2⟩ : ∃ j2, Hid (j2 = GG.length) := ⟨_, rfl⟩
    simp only [← hj1.out, ← hj2.out] at s1 s2 hll
    have S1 := hid_mk s1
    have S2 := hid_mk s2
    obtain ⟨hll1, hll2⟩ := hll
    have hk1 : j1 ≤ 1048576 := by omega
    have hk2 : j2 ≤ 1048576 := by omega
    clear s1 s2
    obtain ⟨_, m0, m1, _, _⟩ := H.out.duo (.head _)
    go_wp2_with fail
    refine (S1.out _ (H.out.arg (.tail _ (.head _)))).mono ?_
    rintro e w3 ⟨bx, dx, bx', dx', rfl, AX, _, hb3⟩
    replace H := hid_mk ((((H.out.next hb3).push (ansF bx bx' j1 j2 LL GG) AX).alloc (.cells #[.slice bx j1 dx, .slice bx' j2 dx'] 27)).push (duoF w3.heap.size (.slice bx j1 dx) (.slice bx' j2 dx')) (Duo.new _ _ _ _))
    clear hb3 AX m0 m1 S1
    go_upto_region 5 with fail
    generalize w3.alloc (.cells #[.slice bx j1 dx, .slice bx' j2 dx'] 27) = w4 at H ⊢
    generalize w3.heap.size = rX at H ⊢
    obtain ⟨_, m0, m1, _, _⟩ := H.out.duo (.tail _ (.tail _ (.head _)))
    go_wp2_with fail
    refine (S2.out _ (H.out.arg (.tail _ (.tail _ (.tail _ (.head _)))))).mono ?_
    rintro e w5 ⟨by_, dy, by', dy', rfl, AY, _, hb5⟩
    replace H := hid_mk ((((H.out.next hb5).push (ansF by_ by' j1 j2 LL GG) AY).alloc (.cells #[.slice by_ j1 dy, .slice by' j2 dy'] 27)).push (duoF w5.heap.size (.slice by_ j1 dy) (.slice by' j2 dy')) (Duo.new _ _ _ _))
    clear hb5 AY m0 m1 S2
    go_upto_region 6 with fail
    generalize w5.alloc (.cells #[.slice by_ j1 dy, .slice by' j2 dy'] 27) = w6 at H ⊢
    generalize w5.heap.size = rY at H ⊢
    go_wp2_with fail
    refine (drawDrop_any (C.out.later H.out.bel)).mono ?_
    rintro e w7 ⟨e1, f1, g1, e2, f2, g2, L2, G2, m2, rfl, hF, _, _, _, hb7⟩
    replace H := hid_mk ((((H.out.next hb7).push (argF w7.heap.size e1 f1 e2 f2 L2 G2) hF.mem.arg).alloc (.cells #[.slice e1 f1 g1, .slice e2 f2 g2] 27)).push (duoF w7.heap.size (.slice e1 f1 g1) (.slice e2 f2 g2)) (Duo.new _ _ _ _))
    clear hb7 hF
    go_upto_region 7 with fail
    generalize w7.alloc (.cells #[.slice e1 f1 g1, .slice e2 f2 g2] 27) = w8 at H ⊢
    generalize w7.heap.size = r2 at H ⊢
    have s3 := implDrop_any e1 f1 g1 e2 f2 g2 L2 G2 m2
    have s4 := specDrop_any e1 f1 g1 e2 f2 g2 L2 G2 m2
    have hdl := drop_len L2 G2 m2
    obtain ⟨KL, hKL⟩ : ∃ KL, Hid (KL = keepL L2 G2) := ⟨_, rfl⟩
    obtain ⟨DG, hDG⟩ : ∃ DG, Hid (DG = dropG L2 G2 m2) := ⟨_, rfl⟩
    simp only [← hKL.out, ← hDG.out] at s3 s4 hdl
    obtain ⟨i1, hi1⟩ : ∃ i1, Hid (i1 = KL.length) := ⟨_, rfl⟩
    obtain ⟨i2, hi2⟩ : ∃ i2, Hid (i2 = DG.length) := ⟨_, rfl⟩
    simp only [← hi1.out, ← hi2.out] at s3 s4 hdl
    have S3 := hid_mk s3
    have S4 := hid_mk s4
    obtain ⟨hdl1, hdl2⟩ := hdl
    have hq1 : i1 ≤ 1048576 := by omega
    have hq2 : i2 ≤ 1048576 := by omega
    clear s3 s4
    obtain ⟨_, m0, m1, _, _⟩ := H.out.duo (.head _)
    go_wp2_with fail
    refine (S3.out _ (H.out.arg (.tail _ (.head _)))).mono ?_
    rintro e w9 ⟨bz, dz, bz', dz', rfl, AZ, _, hb9⟩
    replace H := hid_mk ((((H.out.next hb9).push (ansF bz bz' i1 i2 KL DG) AZ).alloc (.cells #[.slice bz i1 dz, .slice bz' i2 dz'] 27)).push (duoF w9.heap.size (.slice bz i1 dz) (.slice bz' i2 dz')) (Duo.new _ _ _ _))
    clear hb9 AZ m0 m1 S3
    go_upto_region 8 with fail
    generalize w9.alloc (.cells #[.slice bz i1 dz, .slice bz' i2 dz'] 27) = w10 at H ⊢
    generalize w9.heap.size = rZ at H ⊢
    have s5 := implMemoryOk_any p1 n1 c1 p2 n2 c2 L G
    have s6 := specMemoryOk_any p1 n1 c1 p2 n2 c2 L G
    obtain ⟨q, hq⟩ : ∃ q, Hid (q = mokB L G) := ⟨_, rfl⟩
    simp only [← hq.out] at s5 s6
    have S5 := hid_mk s5
    have S6 := hid_mk s6
    have hqq : (q != q) = false := by simp
    clear s5 s6
    have ALL : Hid (∀ w', Hold w w' [duoF rZ (.slice bz i1 dz) (.slice bz' i2 dz'), ansF bz bz' i1 i2 KL DG, duoF r2 (.slice e1 f1 g1) (.slice e2 f2 g2), argF r2 e1 f1 e2 f2 L2 G2, duoF rY (.slice by_ j1 dy) (.slice by' j2 dy'), ansF by_ by' j1 j2 LL GG, duoF rX (.slice bx j1 dx) (.slice bx' j2 dx'), ansF bx bx' j1 j2 LL GG, duoF r0 (.slice p1 n1 c1) (.slice p2 n2 c2), argF r0 p1 n1 p2 n2 L G] → (w'.cell? ⟨rX, 0, none⟩ = some (.slice bx j1 dx) ∧ w'.cell? ⟨rY, 0, none⟩ = some (.slice by_ j1 dy) ∧ w'.cell? ⟨r0, 0, none⟩ = some (.slice p1 n1 c1) ∧ w'.cell? ⟨r0, 1, none⟩ = some (.slice p2 n2 c2) ∧ w'.cell? ⟨rZ, 0, none⟩ = some (.slice bz i1 dz) ∧ w'.cell? ⟨r2, 0, none⟩ = some (.slice e1 f1 g1) ∧ w'.cell? ⟨r2, 1, none⟩ = some (.slice e2 f2 g2) ∧ Hid (Hold w w' [duoF rZ (.slice bz i1 dz) (.slice bz' i2 dz'), ansF bz bz' i1 i2 KL DG, duoF r2 (.slice e1 f1 g1) (.slice e2 f2 g2), argF r2 e1 f1 e2 f2 L2 G2, duoF rY (.slice by_ j1 dy) (.slice by' j2 dy'), ansF by_ by' j1 j2 LL GG, duoF rX (.slice bx j1 dx) (.slice bx' j2 dx'), ansF bx bx' j1 j2 LL GG, duoF r0 (.slice p1 n1 c1) (.slice p2 n2 c2), argF r0 p1 n1 p2 n2 L G]))) := fun w' h => by
      obtain ⟨_, z0, _, _, _⟩ := h.duo (.head _)
      obtain ⟨_, t0, t1, _, _⟩ := h.duo (.tail _ (.tail _ (.head _)))
      obtain ⟨_, y0, _, _, _⟩ := h.duo (.tail _ (.tail _ (.tail _ (.tail _ (.head _)))))
      obtain ⟨_, x0, _, _, _⟩ := h.duo (.tail _ (.tail _ (.tail _ (.tail _ (.tail _ (.tail _ (.head _)))))))
      obtain ⟨_, m0, m1, _, _⟩ := h.duo (.tail _ (.tail _ (.tail _ (.tail _ (.tail _ (.tail _ (.tail _ (.tail _ (.head _)))))))))
      exact ⟨x0, y0, m0, m1, z0, t0, t1, h⟩
    have GET : Hid (∀ w', (w'.cell? ⟨rX, 0, none⟩ = some (.slice bx j1 dx) ∧ w'.cell? ⟨rY, 0, none⟩ = some (.slice by_ j1 dy) ∧ w'.cell? ⟨r0, 0, none⟩ = some (.slice p1 n1 c1) ∧ w'.cell? ⟨r0, 1, none⟩ = some (.slice p2 n2 c2) ∧ w'.cell? ⟨rZ, 0, none⟩ = some (.slice bz i1 dz) ∧ w'.cell? ⟨r2, 0, none⟩ = some (.slice e1 f1 g1) ∧ w'.cell? ⟨r2, 1, none⟩ = some (.slice e2 f2 g2) ∧ Hid (Hold w w' [duoF rZ (.slice bz i1 dz) (.slice bz' i2 dz'), ansF bz bz' i1 i2 KL DG, duoF r2 (.slice e1 f1 g1) (.slice e2 f2 g2), argF r2 e1 f1 e2 f2 L2 G2, duoF rY (.slice by_ j1 dy) (.slice by' j2 dy'), ansF by_ by' j1 j2 LL GG, duoF rX (.slice bx j1 dx) (.slice bx' j2 dx'), ansF bx bx' j1 j2 LL GG, duoF r0 (.slice p1 n1 c1) (.slice p2 n2 c2), argF r0 p1 n1 p2 n2 L G])) → Hold w w' [duoF rZ (.slice bz i1 dz) (.slice bz' i2 dz'), ansF bz bz' i1 i2 KL DG, duoF r2 (.slice e1 f1 g1) (.slice e2 f2 g2), argF r2 e1 f1 e2 f2 L2 G2, duoF rY (.slice by_ j1 dy) (.slice by' j2 dy'), ansF by_ by' j1 j2 LL GG, duoF rX (.slice bx j1 dx) (.slice bx' j2 dx'), ansF bx bx' j1 j2 LL GG, duoF r0 (.slice p1 n1 c1) (.slice p2 n2 c2), argF r0 p1 n1 p2 n2 L G]) := fun w' h => h.2.2.2.2.2.2.2
    have D0 := hid_mk H.out.drew
    clear H
    go_cut [61] (fun pv wx => pv = .bool false ∧ Hid (Hold w wx [duoF rZ (.slice bz i1 dz) (.slice bz' i2 dz'), ansF bz bz' i1 i2 KL DG, duoF r2 (.slice e1 f1 g1) (.slice e2 f2 g2), argF r2 e1 f1 e2 f2 L2 G2, duoF rY (.slice by_ j1 dy) (.slice by' j2 dy'), ansF by_ by' j1 j2 LL GG, duoF rX (.slice bx j1 dx) (.slice bx' j2 dx'), ansF bx bx' j1 j2 LL GG, duoF r0 (.slice p1 n1 c1) (.slice p2 n2 c2), argF r0 p1 n1 p2 n2 L G]))
    case first =>
      have fld := field_mem
      go_region_held3 (fun w' => w'.cell? ⟨rX, 0, none⟩ = some (.slice bx j1 dx) ∧ w'.cell? ⟨rY, 0, none⟩ = some (.slice by_ j1 dy) ∧ w'.cell? ⟨r0, 0, none⟩ = some (.slice p1 n1 c1) ∧ w'.cell? ⟨r0, 1, none⟩ = some (.slice p2 n2 c2) ∧ w'.cell? ⟨rZ, 0, none⟩ = some (.slice bz i1 dz) ∧ w'.cell? ⟨r2, 0, none⟩ = some (.slice e1 f1 g1) ∧ w'.cell? ⟨r2, 1, none⟩ = some (.slice e2 f2 g2) ∧ Hid (Hold w w' [duoF rZ (.slice bz i1 dz) (.slice bz' i2 dz'), ansF bz bz' i1 i2 KL DG, duoF r2 (.slice e1 f1 g1) (.slice e2 f2 g2), argF r2 e1 f1 e2 f2 L2 G2, duoF rY (.slice by_ j1 dy) (.slice by' j2 dy'), ansF by_ by' j1 j2 LL GG, duoF rX (.slice bx j1 dx) (.slice bx' j2 dx'), ansF bx bx' j1 j2 LL GG, duoF r0 (.slice p1 n1 c1) (.slice p2 n2 c2), argF r0 p1 n1 p2 n2 L G]))
        (first | (with_reducible assumption) | (((with_reducible refine ALL.out _ ?_); (first | (with_reducible exact D0.out) | ((with_reducible apply Hold.next ?_ KA.out); (with_reducible exact GET.out _ (by with_reducible assumption))) | ((with_reducible apply Hold.next ?_ KB.out); (with_reducible exact GET.out _ (by with_reducible assumption))) | ((with_reducible apply Hold.next ?_ KC.out); (with_reducible exact GET.out _ (by with_reducible assumption))) | ((with_reducible apply Hold.next ?_ KD.out); (with_reducible exact GET.out _ (by with_reducible assumption))) | ((with_reducible apply Hold.next ?_ KE.out); (with_reducible exact GET.out _ (by with_reducible assumption))) | fail))))
        (first
          | (go_at_call 12; refine (sameWords_same _ _ _ _ _ KL _ (AnsM.mem ((GET.out _ (by with_reducible assumption)).ans (.tail _ (.head _))) hq1 hq2).ws (AnsM.mem AD.out hq1 hq2).ws).mono ?_; rintro e we ⟨rfl, hb⟩; have KE := hid_mk hb; clear hb)
          | (go_at_call 12; refine (sameWords_same _ _ _ _ _ LL _ (AnsM.mem ((GET.out _ (by with_reducible assumption)).ans (.tail _ (.tail _ (.tail _ (.tail _ (.tail _ (.tail _ (.tail _ (.head _))))))))) hk1 hk2).ws (AnsM.mem ((GET.out _ (by with_reducible assumption)).ans (.tail _ (.tail _ (.tail _ (.tail _ (.tail _ (.head _))))))) hk1 hk2).ws).mono ?_; rintro e wa ⟨rfl, hb⟩; have KA := hid_mk hb; clear hb)
          | (go_at_call 13; refine (S5.out _ ((GET.out _ (by with_reducible assumption)).arg (.tail _ (.tail _ (.tail _ (.tail _ (.tail _ (.tail _ (.tail _ (.tail _ (.tail _ (.head _)))))))))))).mono ?_; rintro e wb ⟨rfl, hb⟩; have KB := hid_mk hb; clear hb)
          | (go_at_call 14; refine (S6.out _ ((GET.out _ (by with_reducible assumption)).arg (.tail _ (.tail _ (.tail _ (.tail _ (.tail _ (.tail _ (.tail _ (.tail _ (.tail _ (.head _)))))))))))).mono ?_; rintro e wc ⟨rfl, hb⟩; have KC := hid_mk hb; clear hb)
          | (go_at_call 15; refine (S4.out _ ((GET.out _ (by with_reducible assumption)).arg (.tail _ (.tail _ (.tail _ (.head _)))))).mono ?_; rintro e wd ⟨bd, dd, bd', dd', rfl, ad, _, hb⟩; have AD := hid_mk ad; have KD := hid_mk hb; clear hb ad))
      have HN := hid_mk (GET.out _ (by with_reducible assumption))
      go_wp2_with fail
      go_meet
      case rel => exact ⟨rfl, HN.out⟩
    case rest =>
    obtain ⟨rfl, H⟩ := hcut
    clear ALL GET D0 S4 S5
    go_wp2_with fail
    refine (drawFilter_any (C.out.later H.out.bel)).mono ?_
    rintro e w11 ⟨s1, k1, u1, s2, k2, u2, L3, G3, xx, rfl, hF, _, _, _, hb⟩
    replace H := hid_mk (((((H.out.next hb).push (argF w11.heap.size s1 k1 s2 k2 L3 G3) hF.mem.arg).alloc (.cells #[.slice s1 k1 u1, .slice s2 k2 u2] 27)).push (duoF w11.heap.size (.slice s1 k1 u1) (.slice s2 k2 u2)) (Duo.new _ _ _ _)).alloc (.cells #[.int .i64 xx.n, .bool xx.i, .int .i64 xx.b, .int .i64 xx.t, .int .i64 xx.p, .int .i64 xx.s] 36) |>.push (sixF (w11.heap.size + 1) xx) (Six.second w11 _ xx.n xx.i xx.b xx.t xx.p xx.s _))
    clear hb hF
    simp only [wdV]
    go_upto_region 11 with fail
    generalize (w11.alloc (.cells #[.slice s1 k1 u1, .slice s2 k2 u2] 27)).alloc (.cells #[.int .i64 xx.n, .bool xx.i, .int .i64 xx.b, .int .i64 xx.t, .int .i64 xx.p, .int .i64 xx.s] 36) = w12 at H ⊢
    generalize w11.heap.size = r3 at H ⊢
    have t1 := implFilter_any (.slice s1 k1 u1) s2 k2 u2 G3 xx
    have t2 := specFilter_any (.slice s1 k1 u1) s2 k2 u2 G3 xx
    have t3 := implFilter_any (.slice s1 k1 u1) s2 k2 u2 G3 (filW G3 xx)
    rw [fil_fil] at t3
    generalize filW G3 xx = fx at t1 t2 t3
    simp only [wdV] at t1 t2 t3
    have T1 := hid_mk t1
    have T2 := hid_mk t2
    have T3 := hid_mk t3
    clear t1 t2 t3
    have ALL : Hid (∀ w', Hold w w' [sixF (r3 + 1) xx, duoF r3 (.slice s1 k1 u1) (.slice s2 k2 u2), argF r3 s1 k1 s2 k2 L3 G3, duoF rZ (.slice bz i1 dz) (.slice bz' i2 dz'), ansF bz bz' i1 i2 KL DG, duoF r2 (.slice e1 f1 g1) (.slice e2 f2 g2), argF r2 e1 f1 e2 f2 L2 G2, duoF rY (.slice by_ j1 dy) (.slice by' j2 dy'), ansF by_ by' j1 j2 LL GG, duoF rX (.slice bx j1 dx) (.slice bx' j2 dx'), ansF bx bx' j1 j2 LL GG, duoF r0 (.slice p1 n1 c1) (.slice p2 n2 c2), argF r0 p1 n1 p2 n2 L G] → (w'.cell? ⟨r3, 0, none⟩ = some (.slice s1 k1 u1) ∧ w'.cell? ⟨r3, 1, none⟩ = some (.slice s2 k2 u2) ∧ w'.cell? ⟨r3 + 1, 0, none⟩ = some (.int .i64 xx.n) ∧ w'.cell? ⟨r3 + 1, 1, none⟩ = some (.bool xx.i) ∧ w'.cell? ⟨r3 + 1, 2, none⟩ = some (.int .i64 xx.b) ∧ w'.cell? ⟨r3 + 1, 3, none⟩ = some (.int .i64 xx.t) ∧ w'.cell? ⟨r3 + 1, 4, none⟩ = some (.int .i64 xx.p) ∧ w'.cell? ⟨r3 + 1, 5, none⟩ = some (.int .i64 xx.s) ∧ Hid (Hold w w' [sixF (r3 + 1) xx, duoF r3 (.slice s1 k1 u1) (.slice s2 k2 u2), argF r3 s1 k1 s2 k2 L3 G3, duoF rZ (.slice bz i1 dz) (.slice bz' i2 dz'), ansF bz bz' i1 i2 KL DG, duoF r2 (.slice e1 f1 g1) (.slice e2 f2 g2), argF r2 e1 f1 e2 f2 L2 G2, duoF rY (.slice by_ j1 dy) (.slice by' j2 dy'), ansF by_ by' j1 j2 LL GG, duoF rX (.slice bx j1 dx) (.slice bx' j2 dx'), ansF bx bx' j1 j2 LL GG, duoF r0 (.slice p1 n1 c1) (.slice p2 n2 c2), argF r0 p1 n1 p2 n2 L G]))) := fun w' h => by
      obtain ⟨_, m0, m1, _, _⟩ := h.duo (.tail _ (.head _))
      obtain ⟨_, y0, y1, y2, y3, y4, y5, _, _, _, _, _, _⟩ := h.six (.head _)
      exact ⟨m0, m1, y0, y1, y2, y3, y4, y5, h⟩
    have GET : Hid (∀ w', (w'.cell? ⟨r3, 0, none⟩ = some (.slice s1 k1 u1) ∧ w'.cell? ⟨r3, 1, none⟩ = some (.slice s2 k2 u2) ∧ w'.cell? ⟨r3 + 1, 0, none⟩ = some (.int .i64 xx.n) ∧ w'.cell? ⟨r3 + 1, 1, none⟩ = some (.bool xx.i) ∧ w'.cell? ⟨r3 + 1, 2, none⟩ = some (.int .i64 xx.b) ∧ w'.cell? ⟨r3 + 1, 3, none⟩ = some (.int .i64 xx.t) ∧ w'.cell? ⟨r3 + 1, 4, none⟩ = some (.int .i64 xx.p) ∧ w'.cell? ⟨r3 + 1, 5, none⟩ = some (.int .i64 xx.s) ∧ Hid (Hold w w' [sixF (r3 + 1) xx, duoF r3 (.slice s1 k1 u1) (.slice s2 k2 u2), argF r3 s1 k1 s2 k2 L3 G3, duoF rZ (.slice bz i1 dz) (.slice bz' i2 dz'), ansF bz bz' i1 i2 KL DG, duoF r2 (.slice e1 f1 g1) (.slice e2 f2 g2), argF r2 e1 f1 e2 f2 L2 G2, duoF rY (.slice by_ j1 dy) (.slice by' j2 dy'), ansF by_ by' j1 j2 LL GG, duoF rX (.slice bx j1 dx) (.slice bx' j2 dx'), ansF bx bx' j1 j2 LL GG, duoF r0 (.slice p1 n1 c1) (.slice p2 n2 c2), argF r0 p1 n1 p2 n2 L G])) → Hold w w' [sixF (r3 + 1) xx, duoF r3 (.slice s1 k1 u1) (.slice s2 k2 u2), argF r3 s1 k1 s2 k2 L3 G3, duoF rZ (.slice bz i1 dz) (.slice bz' i2 dz'), ansF bz bz' i1 i2 KL DG, duoF r2 (.slice e1 f1 g1) (.slice e2 f2 g2), argF r2 e1 f1 e2 f2 L2 G2, duoF rY (.slice by_ j1 dy) (.slice by' j2 dy'), ansF by_ by' j1 j2 LL GG, duoF rX (.slice bx j1 dx) (.slice bx' j2 dx'), ansF bx bx' j1 j2 LL GG, duoF r0 (.slice p1 n1 c1) (.slice p2 n2 c2), argF r0 p1 n1 p2 n2 L G]) := fun w' h => h.2.2.2.2.2.2.2.2
    have D0 := hid_mk H.out.drew
    clear H
    go_cut [84] (fun pv wx => pv = .bool false ∧ Hid (Hold w wx [sixF (r3 + 1) xx, duoF r3 (.slice s1 k1 u1) (.slice s2 k2 u2), argF r3 s1 k1 s2 k2 L3 G3, duoF rZ (.slice bz i1 dz) (.slice bz' i2 dz'), ansF bz bz' i1 i2 KL DG, duoF r2 (.slice e1 f1 g1) (.slice e2 f2 g2), argF r2 e1 f1 e2 f2 L2 G2, duoF rY (.slice by_ j1 dy) (.slice by' j2 dy'), ansF by_ by' j1 j2 LL GG, duoF rX (.slice bx j1 dx) (.slice bx' j2 dx'), ansF bx bx' j1 j2 LL GG, duoF r0 (.slice p1 n1 c1) (.slice p2 n2 c2), argF r0 p1 n1 p2 n2 L G]))
    case first =>
      have qn := neq_word fx.n fx.i fx.b fx.t fx.p fx.s
      have eg := eg_word
      go_region_held3 (fun w' => w'.cell? ⟨r3, 0, none⟩ = some (.slice s1 k1 u1) ∧ w'.cell? ⟨r3, 1, none⟩ = some (.slice s2 k2 u2) ∧ w'.cell? ⟨r3 + 1, 0, none⟩ = some (.int .i64 xx.n) ∧ w'.cell? ⟨r3 + 1, 1, none⟩ = some (.bool xx.i) ∧ w'.cell? ⟨r3 + 1, 2, none⟩ = some (.int .i64 xx.b) ∧ w'.cell? ⟨r3 + 1, 3, none⟩ = some (.int .i64 xx.t) ∧ w'.cell? ⟨r3 + 1, 4, none⟩ = some (.int .i64 xx.p) ∧ w'.cell? ⟨r3 + 1, 5, none⟩ = some (.int .i64 xx.s) ∧ Hid (Hold w w' [sixF (r3 + 1) xx, duoF r3 (.slice s1 k1 u1) (.slice s2 k2 u2), argF r3 s1 k1 s2 k2 L3 G3, duoF rZ (.slice bz i1 dz) (.slice bz' i2 dz'), ansF bz bz' i1 i2 KL DG, duoF r2 (.slice e1 f1 g1) (.slice e2 f2 g2), argF r2 e1 f1 e2 f2 L2 G2, duoF rY (.slice by_ j1 dy) (.slice by' j2 dy'), ansF by_ by' j1 j2 LL GG, duoF rX (.slice bx j1 dx) (.slice bx' j2 dx'), ansF bx bx' j1 j2 LL GG, duoF r0 (.slice p1 n1 c1) (.slice p2 n2 c2), argF r0 p1 n1 p2 n2 L G]))
        (first | (with_reducible assumption) | (((with_reducible refine ALL.out _ ?_); (first | (with_reducible exact D0.out) | ((with_reducible apply Hold.next ?_ KA.out); (with_reducible exact GET.out _ (by with_reducible assumption))) | ((with_reducible apply Hold.next ?_ KB.out); (with_reducible exact GET.out _ (by with_reducible assumption))) | ((with_reducible apply Hold.next ?_ KC.out); (with_reducible exact GET.out _ (by with_reducible assumption))) | ((with_reducible apply Hold.next ?_ KD.out); (with_reducible exact GET.out _ (by with_reducible assumption))) | ((with_reducible apply Hold.next ?_ KE.out); (with_reducible exact GET.out _ (by with_reducible assumption))) | fail))))
        (first
          | (go_at_call 17; have KE := KD; refine (T1.out _ ((GET.out _ (by with_reducible assumption)).arg (.tail _ (.tail _ (.head _)))).gs).mono ?_; rintro e we ⟨rfl, hb⟩; clear KE; have KE := hid_mk hb; clear hb)
          | (go_at_call 17; have KD := KC; refine (T3.out _ ((GET.out _ (by with_reducible assumption)).arg (.tail _ (.tail _ (.head _)))).gs).mono ?_; rintro e wd ⟨rfl, hb⟩; clear KD; have KD := hid_mk hb; clear hb)
          | (go_at_call 17; have KC := KB; refine (T1.out _ ((GET.out _ (by with_reducible assumption)).arg (.tail _ (.tail _ (.head _)))).gs).mono ?_; rintro e wc ⟨rfl, hb⟩; clear KC; have KC := hid_mk hb; clear hb)
          | (go_at_call 18; refine (T2.out _ ((GET.out _ (by with_reducible assumption)).arg (.tail _ (.tail _ (.head _)))).gs).mono ?_; rintro e wb ⟨rfl, hb⟩; have KB := hid_mk hb; clear hb)
          | (go_at_call 17; refine (T1.out _ ((GET.out _ (by with_reducible assumption)).arg (.tail _ (.tail _ (.head _)))).gs).mono ?_; rintro e wa ⟨rfl, hb⟩; have KA := hid_mk hb; clear hb))
      have HN := hid_mk (GET.out _ (by with_reducible assumption))
      go_wp2_with fail
      go_meet
      case rel => exact ⟨rfl, HN.out⟩
    case rest =>
    obtain ⟨rfl, H⟩ := hcut
    clear ALL GET D0 T1 T2 T3
    obtain ⟨_, m0, m1, _, _⟩ := H.out.duo (.tail _ (.tail _ (.tail _ (.tail _ (.tail _ (.tail _ (.tail _ (.tail _ (.tail _ (.tail _ (.tail _ (.head _))))))))))))
    go_wp2_with fail
    refine (S6.out _ (H.out.arg (.tail _ (.tail _ (.tail _ (.tail _ (.tail _ (.tail _ (.tail _ (.tail _ (.tail _ (.tail _ (.tail _ (.tail _ (.head _))))))))))))))).mono ?_
    rintro e w13 ⟨rfl, hb⟩
    replace H := hid_mk (H.out.next hb)
    clear hb m0 m1 S6 hqq
    cases q with
    | false =>
      have hj : j1 = 0 := by rw [hj1.out, hLL.out, swp_none hq.out.symm]; rfl
      subst hj
      obtain ⟨_, x0, _, _, _⟩ := H.out.duo (.tail _ (.tail _ (.tail _ (.tail _ (.tail _ (.tail _ (.tail _ (.tail _ (.tail _ (.head _))))))))))
      go_wp2
      go_ret
      exact ⟨rfl, H.out.bel⟩
    | true =>
      have hm := hq.out.symm
      have hGe : GG = G := by rw [hGG.out, keepG_some hm]
      obtain ⟨y, sk⟩ := keyw_y
      have HR : Hid (∀ j : Int, rdZ LL y j = rdZ L y j ∧ rdW LL GG y j = rdW L G y j) := fun j => by
        rw [hLL.out, hGe]
        exact swp_read hm m y j
      have HM : Hid (mokB LL GG = true) := by
        show mokB LL GG = true
        rw [hLL.out, hGe]
        exact swp_ok hm m
      have SK := hid_mk sk
      clear sk hm hGe hLL hGG hq
      go_wp2_with fail
      refine (implRoot_any _).mono ?_
      rintro e w14 ⟨rfl, hb⟩
      replace H := hid_mk (H.out.next hb)
      clear hb
      go_wp2_with fail
      refine (SK.out _).mono ?_
      rintro e w15 ⟨rfl, hb⟩
      replace H := hid_mk (((H.out.next hb).alloc (.cells #[.int .i64 y.n, .bool y.i, .int .i64 y.b, .int .i64 y.t, .int .i64 y.p, .int .i64 y.s] 36)).push (sixF w15.heap.size y) (Six.new _ _ _ _ _ _ _ _))
      clear hb SK
      go_upto_region 16 with fail
      generalize w15.alloc (.cells #[.int .i64 y.n, .bool y.i, .int .i64 y.b, .int .i64 y.t, .int .i64 y.p, .int .i64 y.s] 36) = w16 at H ⊢
      generalize w15.heap.size = ry at H ⊢
      go_wp2
      go_loopw [13] (fun c wr => ∃ j : Nat, j ≤ 24 ∧ c = .int .i64 j ∧ Hid (Below w16.heap.size w16 wr)) (fun c _ => 24 - (intOf c).toNat)
      case atStart => exact ⟨0, Nat.zero_le _, rfl, Below.refl _ _⟩
      case round =>
        obtain ⟨j, hj, rfl, hB⟩ := hrel
        have HL := hid_mk (H.out.next hB.out)
        by_cases hlt : j < 24
        · have sr := fun w hM hE => implRead_any a0 a1 a2 a3 p1 n1 c1 p2 n2 c2 L G y j w hM hE
          have sr2 := fun w hM hE => implRead_any a0 a1 a2 a3 bx j1 dx bx' j2 dx' LL GG y j w hM hE
          obtain ⟨hr1, hr2⟩ := HR.out j
          simp only [hr1, hr2] at sr2
          clear hr1 hr2
          generalize rdZ L y j = u at sr sr2
          generalize rdW L G y j = v at sr sr2
          simp only [wdV] at sr sr2
          have SR := hid_mk sr
          have SR2 := hid_mk sr2
          clear sr sr2
          obtain ⟨_, m0, m1, _, _⟩ := HL.out.duo (.tail _ (.tail _ (.tail _ (.tail _ (.tail _ (.tail _ (.tail _ (.tail _ (.tail _ (.tail _ (.tail _ (.tail _ (.head _)))))))))))))
          obtain ⟨_, y0, y1, y2, y3, y4, y5, _, _, _, _, _, _⟩ := HL.out.six (.head _)
          go_wp2_with fail
          refine (SR.out _ (HL.out.arg (.tail _ (.tail _ (.tail _ (.tail _ (.tail _ (.tail _ (.tail _ (.tail _ (.tail _ (.tail _ (.tail _ (.tail _ (.tail _ (.head _))))))))))))))) (E.out.below HL.out.bel)).mono ?_
          rintro e w17 ⟨rfl, hb⟩
          have B1 := hid_mk ((hB.out.trans (hb.mono hB.out.size)).alloc (Nat.le_trans hB.out.size hb.size) (.cells #[.int .i64 v.n, .bool v.i, .int .i64 v.b, .int .i64 v.t, .int .i64 v.p, .int .i64 v.s] 36))
          replace HL := hid_mk (((HL.out.next hb).alloc (.cells #[.int .i64 v.n, .bool v.i, .int .i64 v.b, .int .i64 v.t, .int .i64 v.p, .int .i64 v.s] 36)).push (sixF w17.heap.size v) (Six.new _ _ _ _ _ _ _ _))
          clear hb m0 m1 y0 y1 y2 y3 y4 y5 SR
          go_upto_region 20 with fail
          generalize w17.alloc (.cells #[.int .i64 v.n, .bool v.i, .int .i64 v.b, .int .i64 v.t, .int .i64 v.p, .int .i64 v.s] 36) = w18 at HL B1 ⊢
          generalize w17.heap.size = ra at HL ⊢
          obtain ⟨_, x0, x1, _, _⟩ := HL.out.duo (.tail _ (.tail _ (.tail _ (.tail _ (.tail _ (.tail _ (.tail _ (.tail _ (.tail _ (.tail _ (.tail _ (.head _))))))))))))
          obtain ⟨_, y0, y1, y2, y3, y4, y5, _, _, _, _, _, _⟩ := HL.out.six (.tail _ (.head _))
          go_wp2_with fail
          refine (SR2.out _ (AnsM.mem (HL.out.ans (.tail _ (.tail _ (.tail _ (.tail _ (.tail _ (.tail _ (.tail _ (.tail _ (.tail _ (.tail _ (.tail _ (.tail _ (.head _)))))))))))))) hk1 hk2) (E.out.below HL.out.bel)).mono ?_
          rintro e w19 ⟨rfl, hb⟩
          have B2 := hid_mk ((B1.out.trans (hb.mono B1.out.size)).alloc (Nat.le_trans B1.out.size hb.size) (.cells #[.int .i64 v.n, .bool v.i, .int .i64 v.b, .int .i64 v.t, .int .i64 v.p, .int .i64 v.s] 36))
          replace HL := hid_mk (((HL.out.next hb).alloc (.cells #[.int .i64 v.n, .bool v.i, .int .i64 v.b, .int .i64 v.t, .int .i64 v.p, .int .i64 v.s] 36)).push (sixF w19.heap.size v) (Six.new _ _ _ _ _ _ _ _))
          clear hb x0 x1 y0 y1 y2 y3 y4 y5 SR2
          go_upto_region 21 with fail
          generalize w19.alloc (.cells #[.int .i64 v.n, .bool v.i, .int .i64 v.b, .int .i64 v.t, .int .i64 v.p, .int .i64 v.s] 36) = w20 at HL B2 ⊢
          generalize w19.heap.size = rb at HL ⊢
          obtain ⟨_, x0, x1, x2, x3, x4, x5, _, _, _, _, _, _⟩ := HL.out.six (.head _)
          obtain ⟨_, y0, y1, y2, y3, y4, y5, _, _, _, _, _, _⟩ := HL.out.six (.tail _ (.head _))
          have qn := neq_word v.n v.i v.b v.t v.p v.s
          have eg := eg_word
          have huu : (u != u) = false := by simp
          go_wp2
          go_roundw
          case rel => exact ⟨j + 1, hlt, by go_num, B2.out⟩
          case measure => simp [intOf]; omega
        · have sm := implMemoryOk_any bx j1 dx bx' j2 dx' LL GG
          rw [HM.out] at sm
          have SM := hid_mk sm
          clear sm
          obtain ⟨_, x0, x1, _, _⟩ := HL.out.duo (.tail _ (.tail _ (.tail _ (.tail _ (.tail _ (.tail _ (.tail _ (.tail _ (.tail _ (.tail _ (.head _)))))))))))
          go_wp2_with fail
          refine (SM.out _ (AnsM.mem (HL.out.ans (.tail _ (.tail _ (.tail _ (.tail _ (.tail _ (.tail _ (.tail _ (.tail _ (.tail _ (.tail _ (.tail _ (.head _))))))))))))) hk1 hk2)).mono ?_
          rintro e w17 ⟨rfl, hb⟩
          replace HL := hid_mk (HL.out.next hb)
          clear hb
          go_wp2
          go_ret
          exact ⟨rfl, HL.out.bel⟩
end Go.Proofs.YtfeoaegkhbjaeaaDoor
