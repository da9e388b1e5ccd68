/- FnKeys at every code: the walk. -/
import Derived.Test.YtackeckfhnpaaaaBig
import Derived.Test.YtackeckfhnpaaaaDrawK4
import Derived.Test.YtackeckfhnpaaaaKMath
import Derived.Test.YtackeckfhnpaaaaKeyC
import Derived.Test.YtackeckfhnpaaaaKeyR
import Derived.Test.YtackeckfhnpaaaaDrawK5
import Derived.Test.YtackeckfhnpaaaaMeetS
namespace Go.Proofs.Ytackeckfhnpaaaa
open Go.ChangeShapes Go.WideShapes Go.ChangeAt Go.RowKit

theorem big_true (a : Option Addr) (len cap : Nat) (w : World) (S : Hid (∀ w, Calls Try.prog 8 #[.slice a len cap] w fun e w' => e = .returned (.bool true) ∧ w' = w)) :
    Calls Try.prog 3 #[.slice a len cap] w fun e w' => e = .returned (.bool true) ∧ Below w.heap.size w w' := by
  go_enter Try.func3, Try.ntmps3
  go_wp2_with fail
  refine (S.out _).mono ?_
  rintro e w0 ⟨rfl, rfl⟩
  go_wp2
  go_ret
  exact ⟨rfl, Below.refl _ _⟩

/-- The six keys of FnKeys in their blocks. -/
structure Six (w0 : World) (ra rb rx ry rm rk : Nat) (a0 a1 a2 a3 b0 b1 b2 b3 x0 x1 x2 x3 y0 y1 y2 y3 m0 m1 m2 m3 k0 k1 k2 k3 : Int) (w : World) : Prop where
  a : Four w ra a0 a1 a2 a3
  b : Four w rb b0 b1 b2 b3
  x : Four w rx x0 x1 x2 x3
  y : Four w ry y0 y1 y2 y3
  m : Four w rm m0 m1 m2 m3
  k : Four w rk k0 k1 k2 k3
  bel : Below w0.heap.size w0 w
theorem Six.next {w0 w w' : World} {ra rb rx ry rm rk : Nat} {a0 a1 a2 a3 b0 b1 b2 b3 x0 x1 x2 x3 y0 y1 y2 y3 m0 m1 m2 m3 k0 k1 k2 k3 : Int} (h : Six w0 ra rb rx ry rm rk a0 a1 a2 a3 b0 b1 b2 b3 x0 x1 x2 x3 y0 y1 y2 y3 m0 m1 m2 m3 k0 k1 k2 k3 w) (hb : Below w.heap.size w w') : Six w0 ra rb rx ry rm rk a0 a1 a2 a3 b0 b1 b2 b3 x0 x1 x2 x3 y0 y1 y2 y3 m0 m1 m2 m3 k0 k1 k2 k3 w' :=
  ⟨h.a.below hb, h.b.below hb, h.x.below hb, h.y.below hb, h.m.below hb, h.k.below hb, h.bel.trans (hb.mono h.bel.size)⟩
theorem Six.drew {w0 w : World} {ra rb rx ry rm rk : Nat} {a0 a1 a2 a3 b0 b1 b2 b3 x0 x1 x2 x3 y0 y1 y2 y3 m0 m1 m2 m3 k0 k1 k2 k3 : Int} (h : Six w0 ra rb rx ry rm rk a0 a1 a2 a3 b0 b1 b2 b3 x0 x1 x2 x3 y0 y1 y2 y3 m0 m1 m2 m3 k0 k1 k2 k3 w) : Six w0 ra rb rx ry rm rk a0 a1 a2 a3 b0 b1 b2 b3 x0 x1 x2 x3 y0 y1 y2 y3 m0 m1 m2 m3 k0 k1 k2 k3 w.drew := h.next (Below.refl _ _).drew

theorem Six.abk {w0 w : World} {ra rb rx ry rm rk : Nat} {a0 a1 a2 a3 b0 b1 b2 b3 x0 x1 x2 x3 y0 y1 y2 y3 m0 m1 m2 m3 k0 k1 k2 k3 : Int} (h : Six w0 ra rb rx ry rm rk a0 a1 a2 a3 b0 b1 b2 b3 x0 x1 x2 x3 y0 y1 y2 y3 m0 m1 m2 m3 k0 k1 k2 k3 w) :
    w.cell? ⟨ra, 0, none⟩ = some (.int .i64 a0) ∧ w.cell? ⟨ra, 1, none⟩ = some (.int .i64 a1) ∧ w.cell? ⟨ra, 2, none⟩ = some (.int .i64 a2) ∧ w.cell? ⟨ra, 3, none⟩ = some (.int .i64 a3) ∧ w.cell? ⟨rb, 0, none⟩ = some (.int .i64 b0) ∧ w.cell? ⟨rb, 1, none⟩ = some (.int .i64 b1) ∧ w.cell? ⟨rb, 2, none⟩ = some (.int .i64 b2) ∧ w.cell? ⟨rb, 3, none⟩ = some (.int .i64 b3) ∧ w.cell? ⟨rk, 0, none⟩ = some (.int .i64 k0) ∧ w.cell? ⟨rk, 1, none⟩ = some (.int .i64 k1) ∧ w.cell? ⟨rk, 2, none⟩ = some (.int .i64 k2) ∧ w.cell? ⟨rk, 3, none⟩ = some (.int .i64 k3) :=
  ⟨h.a.c0, h.a.c1, h.a.c2, h.a.c3, h.b.c0, h.b.c1, h.b.c2, h.b.c3, h.k.c0, h.k.c1, h.k.c2, h.k.c3⟩
theorem Six.kk {w0 w : World} {ra rb rx ry rm rk : Nat} {a0 a1 a2 a3 b0 b1 b2 b3 x0 x1 x2 x3 y0 y1 y2 y3 m0 m1 m2 m3 k0 k1 k2 k3 : Int} (h : Six w0 ra rb rx ry rm rk a0 a1 a2 a3 b0 b1 b2 b3 x0 x1 x2 x3 y0 y1 y2 y3 m0 m1 m2 m3 k0 k1 k2 k3 w) :
    w.cell? ⟨rk, 0, none⟩ = some (.int .i64 k0) ∧ w.cell? ⟨rk, 1, none⟩ = some (.int .i64 k1) ∧ w.cell? ⟨rk, 2, none⟩ = some (.int .i64 k2) ∧ w.cell? ⟨rk, 3, none⟩ = some (.int .i64 k3) := ⟨h.k.c0, h.k.c1, h.k.c2, h.k.c3⟩

set_option maxRecDepth 100000 in
set_option maxHeartbeats 20000000 in
theorem fnKeys_walk (a : Option Addr) (len cap : Nat) (w : World) (hc : Code8 w.heap.size w a len) :
    Calls Try.prog 3 #[.slice a len cap] w fun e w' => e = .returned (.bool true) ∧ Below w.heap.size w w' := by
  have C : Hid (Code8 w.heap.size w a len) := hc
  have sb := big_any a len cap hc.1
  clear hc
  cases hbig : decide ((1048576 : Int) < len)
  case true =>
    rw [hbig] at sb
    exact big_true a len cap w sb
  case false =>
    rw [hbig] at sb
    have SB : Hid _ := sb
    clear sb hbig
    have bb : ∀ b : Bool, (b != b) = false := by decide
    go_enter Try.func3, Try.ntmps3
    go_wp2_with fail
    refine (SB.out _).mono ?_
    rintro e w0 ⟨rfl, hw0⟩
    subst w0
    clear SB
    go_wp2_with fail
    refine (drawCovers_any C.out).mono ?_
    rintro e w1 ⟨a0, a1, a2, a3, b0, b1, b2, b3, rfl, hb1⟩
    have A1 := hid_mk ((Four.new w1 a0 a1 a2 a3 25).alloc (.cells #[.int .i64 b0, .int .i64 b1, .int .i64 b2, .int .i64 b3] 25))
    have B1 := hid_mk (Four.second w1 (.cells #[.int .i64 a0, .int .i64 a1, .int .i64 a2, .int .i64 a3] 25) b0 b1 b2 b3 25)
    have K1 := hid_mk ((hb1.alloc hb1.size (.cells #[.int .i64 a0, .int .i64 a1, .int .i64 a2, .int .i64 a3] 25)).alloc (by have := hb1.size; simp; omega) (.cells #[.int .i64 b0, .int .i64 b1, .int .i64 b2, .int .i64 b3] 25))
    clear hb1
    have sc1 := implCovers_any a0 a1 a2 a3 b0 b1 b2 b3
    have sc2 := specCovers_any a0 a1 a2 a3 b0 b1 b2 b3
    obtain ⟨c, hc⟩ : ∃ c, Hid (c = covB a0 a1 a2 a3 b0 b1 b2 b3) := ⟨_, rfl⟩
    rw [← hc.out] at sc1 sc2
    have SC1 : Hid _ := sc1
    have SC2 : Hid _ := sc2
    clear sc1 sc2
    go_wp2_with fail
    refine (SC1.out _).mono ?_
    rintro e w2 ⟨rfl, hb2⟩
    have A2 := hid_mk (A1.out.below hb2)
    have B2 := hid_mk (B1.out.below hb2)
    have K2 := hid_mk (K1.out.trans (hb2.mono K1.out.size))
    obtain ⟨ra, hra⟩ : ∃ r, r = w1.heap.size := ⟨_, rfl⟩
    rw [← hra] at A2 B2 ⊢
    clear hb2 A1 B1 K1 SC1 hra
    go_wp2_with fail
    refine (drawMeet_any (Code8.later C.out K2.out)).mono ?_
    rintro e w3 ⟨x0, x1, x2, x3, y0, y1, y2, y3, rfl, hb3⟩
    have e3 := hid_mk (((Below.refl w3.heap.size w3).alloc (Nat.le_refl _) (.cells #[.int .i64 x0, .int .i64 x1, .int .i64 x2, .int .i64 x3] 25)).alloc (by simp) (.cells #[.int .i64 y0, .int .i64 y1, .int .i64 y2, .int .i64 y3] 25))
    have A3 := hid_mk ((A2.out.below hb3).below e3.out)
    have B3 := hid_mk ((B2.out.below hb3).below e3.out)
    have X3 := hid_mk ((Four.new w3 x0 x1 x2 x3 25).alloc (.cells #[.int .i64 y0, .int .i64 y1, .int .i64 y2, .int .i64 y3] 25))
    have Y3 := hid_mk (Four.second w3 (.cells #[.int .i64 x0, .int .i64 x1, .int .i64 x2, .int .i64 x3] 25) y0 y1 y2 y3 25)
    have K3 := hid_mk (((K2.out.trans (hb3.mono K2.out.size))).trans (e3.out.mono (by have := K2.out.size; have := hb3.size; omega)))
    clear hb3 e3 A2 B2 K2 w1
    obtain ⟨m0, m1, m2, m3, hm⟩ := meetV_form x0 x1 x2 x3 y0 y1 y2 y3
    have sm1 := implMeet_any x0 x1 x2 x3 y0 y1 y2 y3
    have sm2 := specMeet_any x0 x1 x2 x3 y0 y1 y2 y3
    simp only [hm] at sm1 sm2
    obtain ⟨ok, hok⟩ : ∃ c, Hid (c = meetB x0 x1 x2 x3 y0 y1 y2 y3) := ⟨_, rfl⟩
    rw [← hok.out] at sm1 sm2
    have HM : Hid (ok = true → covB x0 x1 x2 x3 m0 m1 m2 m3 = true ∧ covB y0 y1 y2 y3 m0 m1 m2 m3 = true ∧ m3 = 0) := fun h => by
      have h' := hok.out.symm.trans h
      have g := meet_cov h'
      simp only [meetV, h', if_true, Value.agg.injEq] at hm
      simp at hm
      obtain ⟨rfl, rfl, rfl, rfl⟩ := hm
      exact ⟨g.1, g.2, rfl⟩
    have SM1 : Hid _ := sm1
    have SM2 : Hid _ := sm2
    clear sm1 sm2 hm hok
    obtain ⟨_, p0, p1, p2, p3, _, _, _, _⟩ := X3.out
    obtain ⟨_, q0, q1, q2, q3, _, _, _, _⟩ := Y3.out
    go_wp2_with fail
    refine (SM1.out _).mono ?_
    rintro e w4 ⟨rfl, hb4⟩
    have e4 := hid_mk ((Below.refl w4.heap.size w4).alloc (Nat.le_refl _) (.cells #[.int .i64 m0, .int .i64 m1, .int .i64 m2, .int .i64 m3] 25))
    have A4 := hid_mk ((A3.out.below hb4).below e4.out)
    have B4 := hid_mk ((B3.out.below hb4).below e4.out)
    have X4 := hid_mk ((X3.out.below hb4).below e4.out)
    have Y4 := hid_mk ((Y3.out.below hb4).below e4.out)
    have M4 := hid_mk (Four.new w4 m0 m1 m2 m3 25)
    have K4 := hid_mk (((K3.out.trans (hb4.mono K3.out.size))).trans (e4.out.mono (by have := K3.out.size; have := hb4.size; omega)))
    obtain ⟨rx, hrx⟩ : ∃ r, r = w3.heap.size := ⟨_, rfl⟩
    rw [← hrx] at X4 Y4 ⊢
    clear hb4 e4 A3 B3 K3 X3 Y3 SM1 hrx p0 p1 p2 p3 q0 q1 q2 q3
    obtain ⟨_, p0, p1, p2, p3, _, _, _, _⟩ := X4.out
    obtain ⟨_, q0, q1, q2, q3, _, _, _, _⟩ := Y4.out
    go_wp2_with fail
    refine (SM2.out _).mono ?_
    rintro e w5 ⟨rfl, hb5⟩
    have e5 := hid_mk ((Below.refl w5.heap.size w5).alloc (Nat.le_refl _) (.cells #[.int .i64 m0, .int .i64 m1, .int .i64 m2, .int .i64 m3] 25))
    have A5 := hid_mk ((A4.out.below hb5).below e5.out)
    have B5 := hid_mk ((B4.out.below hb5).below e5.out)
    have X5 := hid_mk ((X4.out.below hb5).below e5.out)
    have Y5 := hid_mk ((Y4.out.below hb5).below e5.out)
    have M5 := hid_mk ((M4.out.below hb5).below e5.out)
    have K5 := hid_mk (((K4.out.trans (hb5.mono K4.out.size))).trans (e5.out.mono (by have := K4.out.size; have := hb5.size; omega)))
    obtain ⟨rm, hrm⟩ : ∃ r, r = w4.heap.size := ⟨_, rfl⟩
    rw [← hrm] at M5 ⊢
    clear hb5 e5 A4 B4 K4 X4 Y4 M4 SM2 hrm p0 p1 p2 p3 q0 q1 q2 q3
    go_wp2_with fail
    refine (drawKeyOk_any (Code8.later C.out K5.out)).mono ?_
    rintro e w6 ⟨k0, k1, k2, k3, rfl, hb6⟩
    have e6 := hid_mk ((Below.refl w6.heap.size w6).alloc (Nat.le_refl _) (.cells #[.int .i64 k0, .int .i64 k1, .int .i64 k2, .int .i64 k3] 25))
    have S6 : Hid (Six w ra (ra + 1) rx (rx + 1) rm w6.heap.size a0 a1 a2 a3 b0 b1 b2 b3 x0 x1 x2 x3 y0 y1 y2 y3 m0 m1 m2 m3 k0 k1 k2 k3 (w6.alloc (.cells #[.int .i64 k0, .int .i64 k1, .int .i64 k2, .int .i64 k3] 25))) :=
      ⟨(A5.out.below hb6).below e6.out, (B5.out.below hb6).below e6.out, (X5.out.below hb6).below e6.out, (Y5.out.below hb6).below e6.out, (M5.out.below hb6).below e6.out, Four.new w6 k0 k1 k2 k3 _,
        ((K5.out.trans (hb6.mono K5.out.size))).trans (e6.out.mono (by have := K5.out.size; have := hb6.size; omega))⟩
    clear hb6 e6 A5 B5 X5 Y5 M5 K5 C
    have sk1 := implKeyOk_any k0 k1 k2 k3
    have sk2 := specKeyOk_any k0 k1 k2 k3
    have sbk := implCovers_any b0 b1 b2 b3 k0 k1 k2 k3
    have sak := implCovers_any a0 a1 a2 a3 k0 k1 k2 k3
    have srk := implCovers_any 0 4096 63 0 k0 k1 k2 k3
    have skk := implCovers_any k0 k1 k2 k3 k0 k1 k2 k3
    have srr := implKeyOk_any 0 4096 63 0
    have sxm := implCovers_any x0 x1 x2 x3 m0 m1 m2 m3
    have sym := implCovers_any y0 y1 y2 y3 m0 m1 m2 m3
    rw [kok_root] at srr
    obtain ⟨kk, hkk⟩ : ∃ c, Hid (c = kokB k0 k1 k2 k3) := ⟨_, rfl⟩
    rw [← hkk.out] at sk1 sk2
    obtain ⟨bk, hbk⟩ : ∃ c, Hid (c = covB b0 b1 b2 b3 k0 k1 k2 k3) := ⟨_, rfl⟩
    rw [← hbk.out] at sbk
    have HA : Hid (c = true → bk = true → covB a0 a1 a2 a3 k0 k1 k2 k3 = true) := fun h g => cov_trans (hc.out.symm.trans h) (hbk.out.symm.trans g)
    have HR : Hid (kk = true → covB 0 4096 63 0 k0 k1 k2 k3 = true ∧ covB k0 k1 k2 k3 k0 k1 k2 k3 = true) := fun h => ⟨root_cov (hkk.out.symm.trans h), same_cov (hkk.out.symm.trans h)⟩
    have SK1 : Hid _ := sk1
    have SK2 : Hid _ := sk2
    have SBK : Hid _ := sbk
    have SAK : Hid _ := sak
    have SRK : Hid _ := srk
    have SKK : Hid _ := skk
    have SRR : Hid _ := srr
    have SXM : Hid _ := sxm
    have SYM : Hid _ := sym
    clear sk1 sk2 sbk sak srk skk srr sxm sym hkk hbk hc
    go_upto_region 9 with fail
    obtain ⟨rk, hrk⟩ : ∃ r, r = w6.heap.size := ⟨_, rfl⟩
    rw [← hrk] at S6 ⊢
    generalize w6.alloc (.cells #[.int .i64 k0, .int .i64 k1, .int .i64 k2, .int .i64 k3] 25) = V6 at S6 ⊢
    clear hrk
    go_cut [58] (fun v wx => v = .bool false ∧ Hid (Six w ra (ra + 1) rx (rx + 1) rm rk a0 a1 a2 a3 b0 b1 b2 b3 x0 x1 x2 x3 y0 y1 y2 y3 m0 m1 m2 m3 k0 k1 k2 k3 wx))
    case first =>
      have D6 := hid_mk S6.out.drew
      go_region_held3 (fun w' => w'.cell? ⟨ra, 0, none⟩ = some (.int .i64 a0) ∧ w'.cell? ⟨ra, 1, none⟩ = some (.int .i64 a1) ∧ w'.cell? ⟨ra, 2, none⟩ = some (.int .i64 a2) ∧ w'.cell? ⟨ra, 3, none⟩ = some (.int .i64 a3) ∧ w'.cell? ⟨ra + 1, 0, none⟩ = some (.int .i64 b0) ∧ w'.cell? ⟨ra + 1, 1, none⟩ = some (.int .i64 b1) ∧ w'.cell? ⟨ra + 1, 2, none⟩ = some (.int .i64 b2) ∧ w'.cell? ⟨ra + 1, 3, none⟩ = some (.int .i64 b3) ∧ w'.cell? ⟨rk, 0, none⟩ = some (.int .i64 k0) ∧ w'.cell? ⟨rk, 1, none⟩ = some (.int .i64 k1) ∧ w'.cell? ⟨rk, 2, none⟩ = some (.int .i64 k2) ∧ w'.cell? ⟨rk, 3, none⟩ = some (.int .i64 k3))
        (first
          | (with_reducible exact D6.out.abk)
          | (with_reducible exact S7.out.abk)
          | (with_reducible exact S8.out.abk)
          | (with_reducible exact S9.out.abk)
          | fail)
        (first
          | (go_at_call 15; refine (SC2.out _).mono ?_; rintro e w7 ⟨rfl, hb7⟩; have S7 := hid_mk (D6.out.next hb7); clear hb7)
          | (go_at_call 16; refine (SK1.out _).mono ?_; rintro e w8 ⟨rfl, hb8⟩; have S8 := hid_mk (S7.out.next hb8); clear hb8)
          | (go_at_call 17; refine (SK2.out _).mono ?_; rintro e w9 ⟨rfl, hb9⟩; have S9 := hid_mk (S8.out.next hb9); clear hb9))
      go_wp2_with fail
      go_meet
      case rel => exact ⟨by simp, S9.out⟩
    case rest =>
      obtain ⟨rfl, S9⟩ := hcut
      clear S6 SC2 SK2
      go_upto_region 11 with fail
      go_cut [76] (fun v wx => v = .bool false ∧ Hid (Six w ra (ra + 1) rx (rx + 1) rm rk a0 a1 a2 a3 b0 b1 b2 b3 x0 x1 x2 x3 y0 y1 y2 y3 m0 m1 m2 m3 k0 k1 k2 k3 wx))
      case first =>
        cases ok
        · go_wp2_with fail
          go_meet
          case rel => exact ⟨rfl, S9.out⟩
        · obtain ⟨h1, h2, rfl⟩ := HM.out (by simp)
          have sx := SXM.out
          have sy := SYM.out
          rw [h1] at sx
          rw [h2] at sy
          have SX : Hid _ := sx
          have SY : Hid _ := sy
          clear sx sy h1 h2
          obtain ⟨_, p0, p1, p2, p3, _, _, _, _⟩ := S9.out.x
          obtain ⟨_, q0, q1, q2, q3, _, _, _, _⟩ := S9.out.m
          go_wp2_with fail
          refine (SX.out _).mono ?_
          rintro e w10 ⟨rfl, hb10⟩
          have S10 := hid_mk (S9.out.next hb10)
          clear hb10 p0 p1 p2 p3 q0 q1 q2 q3
          obtain ⟨_, p0, p1, p2, p3, _, _, _, _⟩ := S10.out.y
          obtain ⟨_, q0, q1, q2, q3, _, _, _, _⟩ := S10.out.m
          go_wp2_with fail
          refine (SY.out _).mono ?_
          rintro e w11 ⟨rfl, hb11⟩
          have S11 := hid_mk (S10.out.next hb11)
          clear hb11 p0 p1 p2 p3 q0 q1 q2 q3
          obtain ⟨_, q0, q1, q2, q3, _, _, _, _⟩ := S11.out.m
          go_wp2_with fail
          go_meet
          case rel => exact ⟨rfl, S11.out⟩
      case rest =>
        obtain ⟨rfl, S11⟩ := hcut
        clear S9 HM SXM SYM
        go_upto_region 13 with fail
        go_cut [88] (fun v wx => v = .bool false ∧ Hid (Six w ra (ra + 1) rx (rx + 1) rm rk a0 a1 a2 a3 b0 b1 b2 b3 x0 x1 x2 x3 y0 y1 y2 y3 m0 m1 m2 m3 k0 k1 k2 k3 wx))
        case first =>
          cases c
          · go_wp2_with fail
            go_meet
            case rel => exact ⟨rfl, S11.out⟩
          · obtain ⟨_, p0, p1, p2, p3, _, _, _, _⟩ := S11.out.b
            obtain ⟨_, q0, q1, q2, q3, _, _, _, _⟩ := S11.out.k
            go_wp2_with fail
            refine (SBK.out _).mono ?_
            rintro e w12 ⟨rfl, hb12⟩
            have S12 := hid_mk (S11.out.next hb12)
            clear hb12 p0 p1 p2 p3 q0 q1 q2 q3
            cases bk
            · go_wp2_with fail
              go_meet
              case rel => exact ⟨rfl, S12.out⟩
            · have sa := SAK.out
              rw [HA.out (by simp) (by simp)] at sa
              have SA : Hid _ := sa
              clear sa
              obtain ⟨_, p0, p1, p2, p3, _, _, _, _⟩ := S12.out.a
              obtain ⟨_, q0, q1, q2, q3, _, _, _, _⟩ := S12.out.k
              go_wp2_with fail
              refine (SA.out _).mono ?_
              rintro e w13 ⟨rfl, hb13⟩
              have S13 := hid_mk (S12.out.next hb13)
              clear hb13 p0 p1 p2 p3 q0 q1 q2 q3
              go_wp2_with fail
              go_meet
              case rel => exact ⟨rfl, S13.out⟩
        case rest =>
          obtain ⟨rfl, S13⟩ := hcut
          clear S11 HA SBK SAK
          go_upto_region 15 with fail
          have D13 := hid_mk S13.out.drew
          cases kk
          · have hu : undef = Value.tuple #[] := rfl
            obtain ⟨_, k0', k1', k2', k3', _, _, _, _⟩ := S13.out.k
            first | (go_region_with (first
              | (go_at_call 18; refine (implRoot_any _).mono ?_; rintro e w14 ⟨rfl, hb14⟩; have S14 := hid_mk (D13.out.next hb14); clear hb14; obtain ⟨_, k0', k1', k2', k3', _, _, _, _⟩ := S14.out.k)
              | (go_at_call_of 16 (Value.agg #[Value.int IntKind.i64 0, Value.int IntKind.i64 4096, Value.int IntKind.i64 63, Value.int IntKind.i64 0]); refine (SRR.out _).mono ?_; rintro e w15 ⟨rfl, hb15⟩; have S15 := hid_mk (S14.out.next hb15); clear hb15; obtain ⟨_, k0', k1', k2', k3', _, _, _, _⟩ := S15.out.k)
              | (go_at_call_of 16 (Value.agg #[Value.int IntKind.i64 k0, Value.int IntKind.i64 k1, Value.int IntKind.i64 k2, Value.int IntKind.i64 k3]); refine (SK1.out _).mono ?_; rintro e w16 ⟨rfl, hb16⟩; have S16 := hid_mk (S15.out.next hb16); clear hb16))) | fail
            all_goals
              go_wp2
              go_ret
              exact ⟨rfl, S16.out.bel⟩
          · obtain ⟨h1, h2⟩ := HR.out (by simp)
            have sr := SRK.out
            have sk := SKK.out
            rw [h1] at sr
            rw [h2] at sk
            have SR : Hid _ := sr
            have SK : Hid _ := sk
            clear sr sk h1 h2
            go_region_held3 (fun w' => w'.cell? ⟨rk, 0, none⟩ = some (.int .i64 k0) ∧ w'.cell? ⟨rk, 1, none⟩ = some (.int .i64 k1) ∧ w'.cell? ⟨rk, 2, none⟩ = some (.int .i64 k2) ∧ w'.cell? ⟨rk, 3, none⟩ = some (.int .i64 k3))
              (first
                | (with_reducible exact D13.out.kk)
                | (with_reducible exact S14.out.kk)
                | (with_reducible exact S15.out.kk)
                | (with_reducible exact S16.out.kk)
                | (with_reducible exact S17.out.kk)
                | (with_reducible exact S18.out.kk)
                | (with_reducible exact S19.out.kk)
                | fail)
              (first
                | (go_at_call 18; refine (implRoot_any _).mono ?_; rintro e w17 ⟨rfl, hb17⟩; have S17 := hid_mk (S16.out.next hb17); clear hb17)
                | (go_at_call 18; refine (implRoot_any _).mono ?_; rintro e w14 ⟨rfl, hb14⟩; have S14 := hid_mk (D13.out.next hb14); clear hb14)
                | (go_at_call_of 16 (Value.agg #[Value.int IntKind.i64 0, Value.int IntKind.i64 4096, Value.int IntKind.i64 63, Value.int IntKind.i64 0]); refine (SRR.out _).mono ?_; rintro e w15 ⟨rfl, hb15⟩; have S15 := hid_mk (S14.out.next hb15); clear hb15)
                | (go_at_call_of 16 (Value.agg #[Value.int IntKind.i64 k0, Value.int IntKind.i64 k1, Value.int IntKind.i64 k2, Value.int IntKind.i64 k3]); refine (SK1.out _).mono ?_; rintro e w16 ⟨rfl, hb16⟩; have S16 := hid_mk (S15.out.next hb16); clear hb16)
                | (go_at_call_of 10 (Value.agg #[Value.int IntKind.i64 0, Value.int IntKind.i64 4096, Value.int IntKind.i64 63, Value.int IntKind.i64 0]); refine (SR.out _).mono ?_; rintro e w18 ⟨rfl, hb18⟩; have S18 := hid_mk (S17.out.next hb18); clear hb18)
                | (go_at_call_of 10 (Value.agg #[Value.int IntKind.i64 k0, Value.int IntKind.i64 k1, Value.int IntKind.i64 k2, Value.int IntKind.i64 k3]); refine (SK.out _).mono ?_; rintro e w19 ⟨rfl, hb19⟩; have S19 := hid_mk (S18.out.next hb19); clear hb19))
            go_wp2
            go_ret
            exact ⟨rfl, S19.out.bel⟩
end Go.Proofs.Ytackeckfhnpaaaa
