/- FnWords at every code: the walk. -/
import Derived.Test.YtejpeikfibaapaaBig
import Derived.Test.YtejpeikfibaapaaDrawW4
import Derived.Test.YtejpeikfibaapaaWMath
namespace Go.Proofs.Ytejpeikfibaapaa
open Go.ChangeShapes Go.WideShapes Go.ChangeAt Go.RowKit

theorem big_true (a : Option Addr) (len cap : Nat) (w : World) (S : Hid (∀ w, Calls Try.prog 9 #[.slice a len cap] w fun e w' => e = .returned (.bool true) ∧ w' = w)) :
    Calls Try.prog 3 #[.slice a len cap] w fun e w' => e = .returned (.bool true) ∧ Below w.heap.size w w' := by
  go_enter Try.func3, Try.ntmps3
  go_wp2_with fail
  refine (S.out _).mono ?_
  rintro e w0 ⟨rfl, rfl⟩
  go_wp2
  go_ret
  exact ⟨rfl, Below.refl _ _⟩

/-- The word and the list of FnWords. -/
structure One (w0 : World) (r : Nat) (wn : Int) (wi : Bool) (wb wt wp wz : Int) (ad : Option Addr) (m : Nat) (L : List Wd) (w : World) : Prop where
  six : Six w r wn wi wb wt wp wz
  sl : SliceW w.heap.size w ad m L
  bel : Below w0.heap.size w0 w
section
variable {w0 w w' : World} {r : Nat} {wn : Int} {wi : Bool} {wb wt wp wz : Int} {ad : Option Addr} {m : Nat} {L : List Wd}
theorem One.next (h : One w0 r wn wi wb wt wp wz ad m L w) (hb : Below w.heap.size w w') : One w0 r wn wi wb wt wp wz ad m L w' := ⟨h.six.below hb, (h.sl.keep hb).mono hb.size, h.bel.trans (hb.mono h.bel.size)⟩
theorem One.drew (h : One w0 r wn wi wb wt wp wz ad m L w) : One w0 r wn wi wb wt wp wz ad m L w.drew := h.next (Below.refl _ _).drew
theorem One.all (h : One w0 r wn wi wb wt wp wz ad m L w) : w.cell? ⟨r, 0, none⟩ = some (.int .i64 wn) ∧ w.cell? ⟨r, 1, none⟩ = some (.bool wi) ∧ w.cell? ⟨r, 2, none⟩ = some (.int .i64 wb) ∧ w.cell? ⟨r, 3, none⟩ = some (.int .i64 wt) ∧ w.cell? ⟨r, 4, none⟩ = some (.int .i64 wp) ∧ w.cell? ⟨r, 5, none⟩ = some (.int .i64 wz) := ⟨h.six.c0, h.six.c1, h.six.c2, h.six.c3, h.six.c4, h.six.c5⟩
end

/-- The three words and the key of FnWords in their blocks. -/
structure Hold (w0 : World) (rw rx rk ry : Nat) (wn : Int) (wi : Bool) (wb wt wp wz : Int) (xn : Int) (xi : Bool) (xb xt xp xs : Int) (k0 k1 k2 k3 : Int) (yn : Int) (yi : Bool) (yb yt yp ys : Int) (w : World) : Prop where
  sw : Six w rw wn wi wb wt wp wz
  sx : Six w rx xn xi xb xt xp xs
  fk : Four w rk k0 k1 k2 k3
  sy : Six w ry yn yi yb yt yp ys
  bel : Below w0.heap.size w0 w
section
variable {w0 w w' : World} {rw rx rk ry : Nat} {wn : Int} {wi : Bool} {wb wt wp wz : Int} {xn : Int} {xi : Bool} {xb xt xp xs : Int} {k0 k1 k2 k3 : Int} {yn : Int} {yi : Bool} {yb yt yp ys : Int}
theorem Hold.next (h : Hold w0 rw rx rk ry wn wi wb wt wp wz xn xi xb xt xp xs k0 k1 k2 k3 yn yi yb yt yp ys w) (hb : Below w.heap.size w w') : Hold w0 rw rx rk ry wn wi wb wt wp wz xn xi xb xt xp xs k0 k1 k2 k3 yn yi yb yt yp ys w' :=
  ⟨h.sw.below hb, h.sx.below hb, h.fk.below hb, h.sy.below hb, h.bel.trans (hb.mono h.bel.size)⟩
theorem Hold.drew (h : Hold w0 rw rx rk ry wn wi wb wt wp wz xn xi xb xt xp xs k0 k1 k2 k3 yn yi yb yt yp ys w) : Hold w0 rw rx rk ry wn wi wb wt wp wz xn xi xb xt xp xs k0 k1 k2 k3 yn yi yb yt yp ys w.drew := h.next (Below.refl _ _).drew
theorem Hold.alloc (h : Hold w0 rw rx rk ry wn wi wb wt wp wz xn xi xb xt xp xs k0 k1 k2 k3 yn yi yb yt yp ys w) (o : Obj) : Hold w0 rw rx rk ry wn wi wb wt wp wz xn xi xb xt xp xs k0 k1 k2 k3 yn yi yb yt yp ys (w.alloc o) := h.next ((Below.refl _ _).alloc (Nat.le_refl _) _)
theorem Hold.all (h : Hold w0 rw rx rk ry wn wi wb wt wp wz xn xi xb xt xp xs k0 k1 k2 k3 yn yi yb yt yp ys w) : w.cell? ⟨rx, 0, none⟩ = some (.int .i64 xn) ∧ w.cell? ⟨rx, 1, none⟩ = some (.bool xi) ∧ w.cell? ⟨rx, 2, none⟩ = some (.int .i64 xb) ∧ w.cell? ⟨rx, 3, none⟩ = some (.int .i64 xt) ∧ w.cell? ⟨rx, 4, none⟩ = some (.int .i64 xp) ∧ w.cell? ⟨rx, 5, none⟩ = some (.int .i64 xs) ∧ w.cell? ⟨rk, 0, none⟩ = some (.int .i64 k0) ∧ w.cell? ⟨rk, 1, none⟩ = some (.int .i64 k1) ∧ w.cell? ⟨rk, 2, none⟩ = some (.int .i64 k2) ∧ w.cell? ⟨rk, 3, none⟩ = some (.int .i64 k3) ∧ w.cell? ⟨ry, 0, none⟩ = some (.int .i64 yn) ∧ w.cell? ⟨ry, 1, none⟩ = some (.bool yi) ∧ w.cell? ⟨ry, 2, none⟩ = some (.int .i64 yb) ∧ w.cell? ⟨ry, 3, none⟩ = some (.int .i64 yt) ∧ w.cell? ⟨ry, 4, none⟩ = some (.int .i64 yp) ∧ w.cell? ⟨ry, 5, none⟩ = some (.int .i64 ys) :=
  ⟨h.sx.c0, h.sx.c1, h.sx.c2, h.sx.c3, h.sx.c4, h.sx.c5, h.fk.c0, h.fk.c1, h.fk.c2, h.fk.c3, h.sy.c0, h.sy.c1, h.sy.c2, h.sy.c3, h.sy.c4, h.sy.c5⟩
end

set_option maxRecDepth 100000 in
set_option maxHeartbeats 20000000 in
theorem fnWords_walk (a : Option Addr) (len cap : Nat) (w : World) (hc : Code8 w.heap.size w a len) :
    Calls Try.prog 3 #[.slice a len cap] w fun e w' => e = .returned (.bool true) ∧ Below w.heap.size w w' := by
  have C : Hid (Code8 w.heap.size w a len) := hc
  have sb := big_any a len cap hc.1
  clear hc
  cases hbig : decide ((1048576 : Int) < len)
  case true =>
    rw [hbig] at sb
    exact big_true a len cap w sb
  case false =>
    rw [hbig] at sb
    have SB : Hid _ := sb
    clear sb hbig
    have bb : ∀ b : Bool, (b != b) = false := by decide
    go_enter Try.func3, Try.ntmps3
    go_wp2_with fail
    refine (SB.out _).mono ?_
    rintro e w0 ⟨rfl, hw0⟩
    subst w0
    clear SB
    go_wp2_with fail
    refine (drawUnders_any C.out).mono ?_
    rintro e w1 ⟨wn, wi, wb, wt, wp, wz, ad, m, c, L, rfl, sl1, hb1⟩
    have O1 : Hid (One w w1.heap.size wn wi wb wt wp wz ad m L (w1.alloc (.cells #[.int .i64 wn, .bool wi, .int .i64 wb, .int .i64 wt, .int .i64 wp, .int .i64 wz] 27))) :=
      ⟨Six.new _ _ _ _ _ _ _ _, by rw [World.size_alloc]; exact (sl1.keep ((Below.refl _ _).alloc (Nat.le_refl _) _)).mono (Nat.le_succ _), hb1.alloc hb1.size _⟩
    clear sl1 hb1
    obtain ⟨u, hu⟩ : ∃ u, u = undB wi wb wt wp wz L := ⟨_, rfl⟩
    have SU1 : Hid (∀ w' : World, SliceW w'.heap.size w' ad m L → Calls Try.prog 11 #[.agg #[.int .i64 wn, .bool wi, .int .i64 wb, .int .i64 wt, .int .i64 wp, .int .i64 wz], .slice ad m c] w' fun e w'' => e = .returned (.bool u) ∧ Below w'.heap.size w' w'') := fun w' h => by
      rw [hu]; exact implUnders_any _ _ _ _ _ _ _ _ _ _ _ h
    have SU2 : Hid (∀ w' : World, SliceW w'.heap.size w' ad m L → Calls Try.prog 12 #[.agg #[.int .i64 wn, .bool wi, .int .i64 wb, .int .i64 wt, .int .i64 wp, .int .i64 wz], .slice ad m c] w' fun e w'' => e = .returned (.bool u) ∧ Below w'.heap.size w' w'') := fun w' h => by
      rw [hu]; exact specUnders_any _ _ _ _ _ _ _ _ _ _ _ h
    clear hu
    go_upto_region 4 with fail
    obtain ⟨rw', hrw⟩ : ∃ r, r = w1.heap.size := ⟨_, rfl⟩
    rw [← hrw] at O1 ⊢
    generalize w1.alloc (.cells #[.int .i64 wn, .bool wi, .int .i64 wb, .int .i64 wt, .int .i64 wp, .int .i64 wz] 27) = V1 at O1 ⊢
    clear hrw
    go_cut [23] (fun v wx => v = .bool false ∧ Hid (One w rw' wn wi wb wt wp wz ad m L wx))
    case first =>
      have D1 := hid_mk O1.out.drew
      go_region_held3 (fun w' => w'.cell? ⟨rw', 0, none⟩ = some (.int .i64 wn) ∧ w'.cell? ⟨rw', 1, none⟩ = some (.bool wi) ∧ w'.cell? ⟨rw', 2, none⟩ = some (.int .i64 wb) ∧ w'.cell? ⟨rw', 3, none⟩ = some (.int .i64 wt) ∧ w'.cell? ⟨rw', 4, none⟩ = some (.int .i64 wp) ∧ w'.cell? ⟨rw', 5, none⟩ = some (.int .i64 wz))
        (first
          | (with_reducible exact D1.out.all)
          | (with_reducible exact O2.out.all)
          | (with_reducible exact O3.out.all)
          | fail)
        (first
          | (go_at_call 11; refine (SU1.out _ D1.out.sl).mono ?_; rintro e w2 ⟨rfl, hb2⟩; have O2 := hid_mk (D1.out.next hb2); clear hb2)
          | (go_at_call 12; refine (SU2.out _ O2.out.sl).mono ?_; rintro e w3 ⟨rfl, hb3⟩; have O3 := hid_mk (O2.out.next hb3); clear hb3))
      go_wp2_with fail
      go_meet
      case rel => exact ⟨by simp, O3.out⟩
    case rest =>
      obtain ⟨rfl, O3⟩ := hcut
      clear O1 SU1 SU2
      have W3 := hid_mk O3.out.six
      have K3 := hid_mk O3.out.bel
      clear O3
      go_wp2_with fail
      refine (drawWordOk_any (Code8.later C.out K3.out)).mono ?_
      rintro e w4 ⟨xn, xi, xb, xt, xp, xs, rfl, hb4⟩
      have e4 := hid_mk (hb4.alloc hb4.size (.cells #[.int .i64 xn, .bool xi, .int .i64 xb, .int .i64 xt, .int .i64 xp, .int .i64 xs] 27))
      have W4 := hid_mk (W3.out.below e4.out)
      have X4 := hid_mk (Six.new w4 xn xi xb xt xp xs 27)
      have K4 := hid_mk (K3.out.trans (e4.out.mono K3.out.size))
      clear hb4 e4 W3 K3
      go_wp2_with fail
      refine (drawPlain_any (Code8.later C.out K4.out)).mono ?_
      rintro e w5 ⟨n, rfl, hb5⟩
      have W5 := hid_mk (W4.out.below hb5)
      have X5 := hid_mk (X4.out.below hb5)
      have K5 := hid_mk (K4.out.trans (hb5.mono K4.out.size))
      obtain ⟨rx, hrx⟩ : ∃ r, r = w4.heap.size := ⟨_, rfl⟩
      rw [← hrx] at X5 ⊢
      clear hb5 W4 X4 K4 hrx
      go_wp2_with fail
      refine (drawKeyWord_any (Code8.later C.out K5.out)).mono ?_
      rintro e w6 ⟨k0, k1, k2, k3, km, rfl, hb6⟩
      have e6 := hid_mk (hb6.alloc hb6.size (.cells #[.int .i64 k0, .int .i64 k1, .int .i64 k2, .int .i64 k3] 25))
      have W6 := hid_mk (W5.out.below e6.out)
      have X6 := hid_mk (X5.out.below e6.out)
      have F6 := hid_mk (Four.new w6 k0 k1 k2 k3 25)
      have K6 := hid_mk (K5.out.trans (e6.out.mono K5.out.size))
      clear hb6 e6 W5 X5 K5
      go_wp2_with fail
      refine (drawBare_any (Code8.later C.out K6.out)).mono ?_
      rintro e w7 ⟨yn, yi, yb, yt, yp, ys, rfl, hb7⟩
      have e7 := hid_mk (hb7.alloc hb7.size (.cells #[.int .i64 yn, .bool yi, .int .i64 yb, .int .i64 yt, .int .i64 yp, .int .i64 ys] 27))
      obtain ⟨rk, hrk⟩ : ∃ r, r = w6.heap.size := ⟨_, rfl⟩
      have H7 : Hid (Hold w rw' rx rk w7.heap.size wn wi wb wt wp wz xn xi xb xt xp xs k0 k1 k2 k3 yn yi yb yt yp ys (w7.alloc (.cells #[.int .i64 yn, .bool yi, .int .i64 yb, .int .i64 yt, .int .i64 yp, .int .i64 ys] 27))) :=
        ⟨W6.out.below e7.out, X6.out.below e7.out, hrk ▸ F6.out.below e7.out, Six.new _ _ _ _ _ _ _ _, K6.out.trans (e7.out.mono K6.out.size)⟩
      rw [← hrk]
      clear hb7 e7 W6 X6 F6 K6 hrk C
      have so1 := implWordOk_any xn xi xb xt xp xs
      have so2 := specWordOk_any xn xi xb xt xp xs
      have sp1 := implPlain_any n
      have sp2 := specPlain_any n
      have sk1 := implKeyWord_any k0 k1 k2 k3 km
      have sk2 := specKeyWord_any k0 k1 k2 k3 km
      have sv1 := implBare_any yn yi yb yt yp ys
      have sv2 := specBare_any yn yi yb yt yp ys
      have sw := implBare_any wn wi wb wt wp wz
      have sq := implPlain_any (wrap64 (n + 65536))
      rw [round_go] at sq
      have sop := implWordOk_any (n % 65536) false 0 0 0 0
      rw [plain_ok] at sop
      have sok := implWordOk_any (km % 65536) (kokB k0 k1 k2 k3) (bif kokB k0 k1 k2 k3 then k0 else 0) (bif kokB k0 k1 k2 k3 then k1 else 0) (bif kokB k0 k1 k2 k3 then k2 else 0) (bif kokB k0 k1 k2 k3 then k3 else 0)
      rw [keyword_ok] at sok
      have HX : Hid (wokB xn xi xb xt xp xs = true → undB xi xb xt xp xs [⟨xn, xi, xb, xt, xp, xs⟩] = true) := self_under
      generalize wokB xn xi xb xt xp xs = z at so1 so2 HX
      generalize n % 65536 = pn at sp1 sp2 sq sop
      generalize (bif kokB k0 k1 k2 k3 then k0 else 0) = q0 at sk1 sk2 sok
      generalize (bif kokB k0 k1 k2 k3 then k1 else 0) = q1 at sk1 sk2 sok
      generalize (bif kokB k0 k1 k2 k3 then k2 else 0) = q2 at sk1 sk2 sok
      generalize (bif kokB k0 k1 k2 k3 then k3 else 0) = q3 at sk1 sk2 sok
      generalize kokB k0 k1 k2 k3 = qi at sk1 sk2 sok
      generalize km % 65536 = qn at sk1 sk2 sok
      generalize yn % 65536 = vn at sv1 sv2
      generalize wn % 65536 = un at sw
      have SO1 : Hid _ := so1
      have SO2 : Hid _ := so2
      have SP1 : Hid _ := sp1
      have SP2 : Hid _ := sp2
      have SK1 : Hid _ := sk1
      have SK2 : Hid _ := sk2
      have SV1 : Hid _ := sv1
      have SV2 : Hid _ := sv2
      have SW : Hid _ := sw
      have SQ : Hid _ := sq
      have SOP : Hid _ := sop
      have SOK : Hid _ := sok
      clear so1 so2 sp1 sp2 sk1 sk2 sv1 sv2 sw sq sop sok
      have egw := eg_word
      have eqi := equalIn_word
      have eql := eql_word
      have neq := neq_word
      go_upto_region 10 with fail
      obtain ⟨ry, hry⟩ : ∃ r, r = w7.heap.size := ⟨_, rfl⟩
      rw [← hry] at H7 ⊢
      generalize w7.alloc (.cells #[.int .i64 yn, .bool yi, .int .i64 yb, .int .i64 yt, .int .i64 yp, .int .i64 ys] 27) = V7 at H7 ⊢
      clear hry
      go_cut [62] (fun v wx => v = .bool false ∧ Hid (Hold w rw' rx rk ry wn wi wb wt wp wz xn xi xb xt xp xs k0 k1 k2 k3 yn yi yb yt yp ys wx))
      case first =>
        have D7 := hid_mk H7.out.drew
        go_region_held3 (fun w' => w'.cell? ⟨rx, 0, none⟩ = some (.int .i64 xn) ∧ w'.cell? ⟨rx, 1, none⟩ = some (.bool xi) ∧ w'.cell? ⟨rx, 2, none⟩ = some (.int .i64 xb) ∧ w'.cell? ⟨rx, 3, none⟩ = some (.int .i64 xt) ∧ w'.cell? ⟨rx, 4, none⟩ = some (.int .i64 xp) ∧ w'.cell? ⟨rx, 5, none⟩ = some (.int .i64 xs) ∧ w'.cell? ⟨rk, 0, none⟩ = some (.int .i64 k0) ∧ w'.cell? ⟨rk, 1, none⟩ = some (.int .i64 k1) ∧ w'.cell? ⟨rk, 2, none⟩ = some (.int .i64 k2) ∧ w'.cell? ⟨rk, 3, none⟩ = some (.int .i64 k3) ∧ w'.cell? ⟨ry, 0, none⟩ = some (.int .i64 yn) ∧ w'.cell? ⟨ry, 1, none⟩ = some (.bool yi) ∧ w'.cell? ⟨ry, 2, none⟩ = some (.int .i64 yb) ∧ w'.cell? ⟨ry, 3, none⟩ = some (.int .i64 yt) ∧ w'.cell? ⟨ry, 4, none⟩ = some (.int .i64 yp) ∧ w'.cell? ⟨ry, 5, none⟩ = some (.int .i64 ys))
          (first
            | (with_reducible exact D7.out.all)
            | (with_reducible exact H8.out.all)
            | (with_reducible exact H9.out.all)
            | (with_reducible exact H10.out.all)
            | (with_reducible exact H11.out.all)
            | (with_reducible exact H12.out.all)
            | (with_reducible exact H13.out.all)
            | (with_reducible exact H14.out.all)
            | (with_reducible exact H15.out.all)
            | fail)
          (first
            | (go_at_call 17; refine (SO1.out _).mono ?_; rintro e w8 ⟨rfl, hb8⟩; have H8 := hid_mk (D7.out.next hb8); clear hb8)
            | (go_at_call 18; refine (SO2.out _).mono ?_; rintro e w9 ⟨rfl, hb9⟩; have H9 := hid_mk (H8.out.next hb9); clear hb9)
            | (go_at_call 19; refine (SP1.out _).mono ?_; rintro e w10 ⟨rfl, hb10⟩; have H10 := hid_mk (H9.out.next hb10); clear hb10)
            | (go_at_call 20; refine (SP2.out _).mono ?_; rintro e w11 ⟨rfl, hb11⟩; have H11 := hid_mk (H10.out.next hb11); clear hb11)
            | (go_at_call 21; refine (SK1.out _).mono ?_; rintro e w12 ⟨rfl, hb12⟩; have H12 := hid_mk (H11.out.next hb12); clear hb12)
            | (go_at_call 22; refine (SK2.out _).mono ?_; rintro e w13 ⟨rfl, hb13⟩; have H13 := hid_mk (H12.out.next hb13); clear hb13)
            | (go_at_call 23; refine (SV1.out _).mono ?_; rintro e w14 ⟨rfl, hb14⟩; have H14 := hid_mk (H13.out.next hb14); clear hb14)
            | (go_at_call 24; refine (SV2.out _).mono ?_; rintro e w15 ⟨rfl, hb15⟩; have H15 := hid_mk (H14.out.next hb15); clear hb15))
        go_wp2_with fail
        go_meet
        case rel => exact ⟨by simp, H15.out⟩
      case rest =>
        obtain ⟨rfl, H15⟩ := hcut
        clear H7 SO2 SP2 SK2 SV1 SV2
        go_wp2_with fail
        refine (SP1.out _).mono ?_
        rintro e w16 ⟨rfl, hb16⟩
        have H16 := hid_mk (H15.out.next hb16)
        clear hb16 H15
        go_wp2_with fail
        refine (SOP.out _).mono ?_
        rintro e w17 ⟨rfl, hb17⟩
        have H17 := hid_mk (H16.out.next hb17)
        clear hb17 H16 SOP
        obtain ⟨_, p0, p1, p2, p3, _, _, _, _⟩ := H17.out.fk
        go_wp2_with fail
        refine (SK1.out _).mono ?_
        rintro e w18 ⟨rfl, hb18⟩
        have H18 := hid_mk (H17.out.next hb18)
        clear hb18 H17 SK1 p0 p1 p2 p3
        go_wp2_with fail
        refine (SOK.out _).mono ?_
        rintro e w19 ⟨rfl, hb19⟩
        have H19 := hid_mk (H18.out.next hb19)
        clear hb19 H18 SOK
        obtain ⟨_, p0, p1, p2, p3, p4, p5, _, _, _, _, _, _⟩ := H19.out.sw
        go_wp2_with fail
        refine (SW.out _).mono ?_
        rintro e w20 ⟨rfl, hb20⟩
        have H20 := hid_mk (H19.out.next hb20)
        clear hb20 H19 SW p0 p1 p2 p3 p4 p5
        go_wp2_with fail
        refine (implUnders_any un false 0 0 0 0 none 0 0 [] _ ⟨by unfold maxLen; omega, rfl, .inl rfl⟩).mono ?_
        rintro e w21 ⟨rfl, hb21⟩
        have H21 := hid_mk (H20.out.next hb21)
        clear hb21 H20
        have hf : undB false 0 0 0 0 [] = true := rfl
        rw [hf]
        clear hf
        obtain ⟨_, p0, p1, p2, p3, p4, p5, _, _, _, _, _, _⟩ := H21.out.sx
        go_wp2_with fail
        refine (SO1.out _).mono ?_
        rintro e w22 ⟨rfl, hb22⟩
        have H22 := hid_mk (H21.out.next hb22)
        clear hb22 H21 SO1 p0 p1 p2 p3 p4 p5
        cases z
        · go_wp2_with fail
          refine (SQ.out _).mono ?_
          rintro e w23 ⟨rfl, hb23⟩
          have H23 := hid_mk (H22.out.next hb23)
          clear hb23 H22 SQ
          go_wp2_with fail
          refine (SP1.out _).mono ?_
          rintro e w24 ⟨rfl, hb24⟩
          have H24 := hid_mk (H23.out.next hb24)
          clear hb24 H23 SP1
          go_wp2
          go_ret
          exact ⟨rfl, H24.out.bel⟩
        · have hx := HX.out (by simp)
          clear HX
          have A22 := hid_mk (H22.out.alloc (.cells #[.int .i64 xn, .bool xi, .int .i64 xb, .int .i64 xt, .int .i64 xp, .int .i64 xs] 27))
          have S22 : Hid (SliceW (w22.heap.size + 1) (w22.alloc (.cells #[.int .i64 xn, .bool xi, .int .i64 xb, .int .i64 xt, .int .i64 xp, .int .i64 xs] 27)) (some ⟨w22.heap.size, 0, none⟩) 1 [⟨xn, xi, xb, xt, xp, xs⟩]) :=
            ⟨by unfold maxLen; omega, rfl, .inr ⟨w22.heap.size, 0, rfl, Nat.lt_succ_self _, fun j y hj => by
              match j, hj with
              | 0, hj =>
                simp at hj
                subst hj
                have g := Six.new w22 xn xi xb xt xp xs 27
                exact ⟨g.c0, g.c1, g.c2, g.c3, g.c4, g.c5⟩
              | j + 1, hj => simp at hj⟩⟩
          have SU : Hid (∀ w' : World, SliceW w'.heap.size w' (some ⟨w22.heap.size, 0, none⟩) 1 [⟨xn, xi, xb, xt, xp, xs⟩] → Calls Try.prog 11 #[.agg #[.int .i64 xn, .bool xi, .int .i64 xb, .int .i64 xt, .int .i64 xp, .int .i64 xs], .slice (some ⟨w22.heap.size, 0, none⟩) 1 1] w' fun e w'' => e = .returned (.bool true) ∧ Below w'.heap.size w' w'') := fun w' h => by
            have su := implUnders_any xn xi xb xt xp xs (some ⟨w22.heap.size, 0, none⟩) 1 1 [⟨xn, xi, xb, xt, xp, xs⟩] w' h
            rw [hx] at su
            exact su
          clear hx
          obtain ⟨_, p0, p1, p2, p3, p4, p5, _, _, _, _, _, _⟩ := H22.out.sx
          go_wp2_with fail
          refine (SU.out _ (by rw [World.size_alloc]; exact S22.out)).mono ?_
          rintro e w23 ⟨rfl, hb23⟩
          have H23 := hid_mk (A22.out.next hb23)
          clear hb23 H22 A22 SU S22 p0 p1 p2 p3 p4 p5
          go_wp2_with fail
          refine (SQ.out _).mono ?_
          rintro e w24 ⟨rfl, hb24⟩
          have H24 := hid_mk (H23.out.next hb24)
          clear hb24 H23 SQ
          go_wp2_with fail
          refine (SP1.out _).mono ?_
          rintro e w25 ⟨rfl, hb25⟩
          have H25 := hid_mk (H24.out.next hb25)
          clear hb25 H24 SP1
          go_wp2
          go_ret
          exact ⟨rfl, H25.out.bel⟩
end Go.Proofs.Ytejpeikfibaapaa
