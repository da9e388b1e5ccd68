/- FnCodes at every code: the walk. -/
import Derived.Test.YtbfbbapongijeaaBig
import Derived.Test.YtbfbbapongijeaaDrawI4
import Derived.Test.YtbfbbapongijeaaIHold
import Derived.Test.YtbfbbapongijeaaTakeOn
namespace Go.Proofs.Ytbfbbapongijeaa
open Go.ChangeShapes Go.WideShapes Go.ChangeAt Go.RowKit

theorem big_true (a : Option Addr) (len cap : Nat) (w : World) (S : Hid (∀ w, Calls Try.prog 9 #[.slice a len cap] w fun e w' => e = .returned (.bool true) ∧ w' = w)) :
    Calls Try.prog 3 #[.slice a len cap] w fun e w' => e = .returned (.bool true) ∧ Below w.heap.size w w' := by
  go_enter Try.func3, Try.ntmps3
  go_wp2_with fail
  refine (S.out _).mono ?_
  rintro e w0 ⟨rfl, rfl⟩
  go_wp2
  go_ret
  exact ⟨rfl, Below.refl _ _⟩

/-- What FnCodes holds at its end: three places in their blocks, and a list. -/
structure Fin6 (w0 : World) (ki ks ky : Nat) (i s y : In) (ad : Option Addr) (m : Nat) (L : List In) (w : World) : Prop where
  i : Five w ki i.o i.r i.a i.b i.n
  s : Five w ks s.o s.r s.a s.b s.n
  y : Five w ky y.o y.r y.a y.b y.n
  sl : SliceI w.heap.size w ad m L
  bel : Below w0.heap.size w0 w
section
variable {w0 w w' : World} {ki ks ky : Nat} {i s y : In} {ad : Option Addr} {m : Nat} {L : List In}
theorem Fin6.next (h : Fin6 w0 ki ks ky i s y ad m L w) (hb : Below w.heap.size w w') : Fin6 w0 ki ks ky i s y ad m L w' :=
  ⟨h.i.below hb, h.s.below hb, h.y.below hb, (h.sl.keep hb).mono hb.size, h.bel.trans (hb.mono h.bel.size)⟩
theorem Fin6.all (h : Fin6 w0 ki ks ky i s y ad m L w) : w.cell? ⟨ki, 0, none⟩ = some (.int .i64 i.o) ∧ w.cell? ⟨ki, 1, none⟩ = some (.int .i64 i.r) ∧ w.cell? ⟨ki, 2, none⟩ = some (.int .i64 i.a) ∧ w.cell? ⟨ki, 3, none⟩ = some (.int .i64 i.b) ∧ w.cell? ⟨ki, 4, none⟩ = some (.int .i64 i.n) ∧ w.cell? ⟨ks, 0, none⟩ = some (.int .i64 s.o) ∧ w.cell? ⟨ks, 1, none⟩ = some (.int .i64 s.r) ∧ w.cell? ⟨ks, 2, none⟩ = some (.int .i64 s.a) ∧ w.cell? ⟨ks, 3, none⟩ = some (.int .i64 s.b) ∧ w.cell? ⟨ks, 4, none⟩ = some (.int .i64 s.n) ∧ w.cell? ⟨ky, 0, none⟩ = some (.int .i64 y.o) ∧ w.cell? ⟨ky, 1, none⟩ = some (.int .i64 y.r) ∧ w.cell? ⟨ky, 2, none⟩ = some (.int .i64 y.a) ∧ w.cell? ⟨ky, 3, none⟩ = some (.int .i64 y.b) ∧ w.cell? ⟨ky, 4, none⟩ = some (.int .i64 y.n) :=
  ⟨h.i.c0, h.i.c1, h.i.c2, h.i.c3, h.i.c4, h.s.c0, h.s.c1, h.s.c2, h.s.c3, h.s.c4, h.y.c0, h.y.c1, h.y.c2, h.y.c3, h.y.c4⟩
theorem Fin6.drew (h : Fin6 w0 ki ks ky i s y ad m L w) : Fin6 w0 ki ks ky i s y ad m L w.drew := h.next (Below.refl _ _).drew
end

set_option maxRecDepth 100000 in
set_option maxHeartbeats 20000000 in
theorem fnCodes_walk (a : Option Addr) (len cap : Nat) (w : World) (hc : Code8 w.heap.size w a len) :
    Calls Try.prog 3 #[.slice a len cap] w fun e w' => e = .returned (.bool true) ∧ Below w.heap.size w w' := by
  have C : Hid (Code8 w.heap.size w a len) := hc
  have sb := big_any a len cap hc.1
  clear hc
  cases hbig : decide ((1048576 : Int) < len)
  case true =>
    rw [hbig] at sb
    exact big_true a len cap w sb
  case false =>
    rw [hbig] at sb
    have SB : Hid _ := sb
    clear sb hbig
    go_enter Try.func3, Try.ntmps3
    go_wp2_with fail
    refine (SB.out _).mono ?_
    rintro e w0 ⟨rfl, hw0⟩
    subst w0
    clear SB
    go_wp2_with fail
    refine (drawWord32_any C.out).mono ?_
    rintro e w1 ⟨xo, xr, xa, xb, xn, rfl, hb1⟩
    have H1 := hid_mk ((Ris.start hb1).push xo xr xa xb xn 25)
    clear hb1
    have sw1 := implWord32_any xo xr xa xb xn
    have sw2 := specWord32_any xo xr xa xb xn
    have so1 := implInsOk_any xo xr xa xb xn
    have HX : Hid (iokB xo xr xa xb xn = true → iofB (w32Z xo xr xa xb xn) = true ∧ iofO (w32Z xo xr xa xb xn) = xo ∧ iofR (w32Z xo xr xa xb xn) = xr ∧ iofA (w32Z xo xr xa xb xn) = xa ∧ iofC (w32Z xo xr xa xb xn) = xb ∧ iofN (w32Z xo xr xa xb xn) = xn ∧ w32Z xo xr xa xb xn ≤ 9223372036854775807) := read_back
    generalize iokB xo xr xa xb xn = x at sw1 sw2 so1 HX
    generalize w32Z xo xr xa xb xn = xw at sw1 sw2 HX
    have SW1 := hid_mk sw1
    have SW2 := hid_mk sw2
    have SO1 := hid_mk so1
    clear sw1 sw2 so1
    have hxx : (x != x) = false := by simp
    obtain ⟨xm, hxm⟩ : ∃ xm : Int, Hid (xm = (bif x then xw else 0)) := ⟨_, rfl⟩
    rw [← hxm.out] at SW1 SW2
    have hmm : (xm != xm) = false := by simp
    obtain ⟨rx, hrx⟩ : ∃ r, r = w1.heap.size := ⟨_, rfl⟩
    have xin : (rx, (⟨xo, xr, xa, xb, xn⟩ : In)) ∈ [(rx, (⟨xo, xr, xa, xb, xn⟩ : In))] := .head _
    go_wp2_with fail
    refine (SW1.out _).mono ?_
    rintro e w2 ⟨rfl, hb2⟩
    have H2 := hid_mk (H1.out.next hb2)
    rw [← hrx] at H2 ⊢
    clear hb2 H1 hrx
    obtain ⟨_, c0, c1, c2, c3, c4, _, _, _, _, _⟩ := H2.out.at xin
    go_wp2_with fail
    refine (SW2.out _).mono ?_
    rintro e w3 ⟨rfl, hb3⟩
    have H3 := hid_mk (H2.out.next hb3)
    clear hb3 H2 c0 c1 c2 c3 c4
    obtain ⟨_, c0, c1, c2, c3, c4, _, _, _, _, _⟩ := H3.out.at xin
    go_wp2_with fail
    refine (SO1.out _).mono ?_
    rintro e w4 ⟨rfl, hb4⟩
    have H4 := hid_mk (H3.out.next hb4)
    clear hb4 H3 c0 c1 c2 c3 c4 SW1 SW2 SO1
    go_upto_if 48 with fail
    go_cut [] (fun wx => Hid (Below w.heap.size w wx))
    case first =>
      obtain ⟨_, c0, c1, c2, c3, c4, _, _, _, _, _⟩ := H4.out.at xin
      cases x
      · go_wp2
        go_meet
        case rel => exact H4.out.bel
      · obtain rfl : xm = xw := hxm.out
        obtain ⟨h0, h1, h2, h3, h4, h5, h6⟩ := HX.out rfl
        have si := implInsOf_any xm h6
        rw [h0, h1, h2, h3, h4, h5] at si
        have SI := hid_mk si
        have qn := neq_ins xo xr xa xb xn xo xr xa xb xn
        rw [eqB_self] at qn
        have eg := eg_ins
        clear si h0 h1 h2 h3 h4 h5 h6 hxm HX
        go_wp2_with fail
        refine (SI.out _).mono ?_
        rintro e w5 ⟨rfl, hb5⟩
        have H5 := hid_mk ((H4.out.next hb5).push xo xr xa xb xn 25)
        clear hb5 H4 SI c0 c1 c2 c3 c4
        obtain ⟨_, c0, c1, c2, c3, c4, _, _, _, _, _⟩ := H5.out.at (.tail _ xin)
        obtain ⟨_, d0, d1, d2, d3, d4, _, _, _, _, _⟩ := H5.out.at (.head _)
        go_wp2
        go_meet
        case rel => exact H5.out.bel
    case rest =>
      have K6 : Hid (Below w.heap.size w wc) := hcut.out
      clear H4 HX hxx hxm hmm xin hcut
      go_wp2_with fail
      refine (drawInsOf_any (Code8.later C.out K6.out)).mono ?_
      rintro e w6 ⟨m, rfl, hm, hb6⟩
      have K7 : Hid (Below w.heap.size w w6) := K6.out.trans (hb6.mono K6.out.size)
      clear hb6 K6
      have si1 := implInsOf_any m hm
      have si2 := specInsOf_any m hm
      have sw := implWord32_any (iofO m) (iofR m) (iofA m) (iofC m) (iofN m)
      have HF : Hid (iofB m = false → eqB (iofO m) (iofR m) (iofA m) (iofC m) (iofN m) 0 0 0 0 0 = true) := fun h => by
        obtain ⟨h0, h1, h2, h3, h4⟩ := word_none h
        rw [h0, h1, h2, h3, h4]; rfl
      have HT : Hid (iofB m = true → iokB (iofO m) (iofR m) (iofA m) (iofC m) (iofN m) = true ∧ (bif iokB (iofO m) (iofR m) (iofA m) (iofC m) (iofN m) then w32Z (iofO m) (iofR m) (iofA m) (iofC m) (iofN m) else 0) = m) := fun h => by
        obtain ⟨h0, h1⟩ := word_back h
        rw [h0, h1]; exact ⟨rfl, rfl⟩
      generalize (bif iokB (iofO m) (iofR m) (iofA m) (iofC m) (iofN m) then w32Z (iofO m) (iofR m) (iofA m) (iofC m) (iofN m) else 0) = z at sw HT
      generalize iokB (iofO m) (iofR m) (iofA m) (iofC m) (iofN m) = gd at sw HT
      generalize iofB m = f at si1 si2 HF HT
      generalize iofO m = yo at si1 si2 sw HF
      generalize iofR m = yr at si1 si2 sw HF
      generalize iofA m = ya at si1 si2 sw HF
      generalize iofC m = yb at si1 si2 sw HF
      generalize iofN m = yn at si1 si2 sw HF
      have SI1 := hid_mk si1
      have SI2 := hid_mk si2
      have SW := hid_mk sw
      have hff : (f != f) = false := by simp
      clear si1 si2 sw hm
      go_wp2_with fail
      refine (SI1.out _).mono ?_
      rintro e w7 ⟨rfl, hb7⟩
      have H7 := hid_mk ((Ris.start (K7.out.trans (hb7.mono K7.out.size))).push yo yr ya yb yn 25)
      clear hb7 K7 SI1
      go_wp2_with fail
      refine (SI2.out _).mono ?_
      rintro e w8 ⟨rfl, hb8⟩
      have H8 := hid_mk (H7.out.next hb8)
      obtain ⟨ry, hry⟩ : ∃ r, r = w7.heap.size := ⟨_, rfl⟩
      rw [← hry] at H8 ⊢
      clear hb8 H7 SI2 hry
      obtain ⟨_, c0, c1, c2, c3, c4, _, _, _, _, _⟩ := (H8.out.alloc (.cells #[.int .i64 yo, .int .i64 yr, .int .i64 ya, .int .i64 yb, .int .i64 yn] 25)).at (.head _)
      have H8 := hid_mk (H8.out.alloc (.cells #[.int .i64 yo, .int .i64 yr, .int .i64 ya, .int .i64 yb, .int .i64 yn] 25))
      go_wp2_with fail
      refine (SW.out _).mono ?_
      rintro e w9 ⟨rfl, hb9⟩
      have H9 := hid_mk (H8.out.next hb9)
      clear hb9 H8 SW c0 c1 c2 c3 c4
      go_wp2_with fail
      refine (drawCodeOk_any (Code8.later C.out H9.out.bel)).mono ?_
      rintro e w10 ⟨ad', lm, cm, L, rfl, sl, hb10⟩
      have H10 := hid_mk (H9.out.next hb10)
      have SL := hid_mk sl
      clear sl hb10 H9
      go_wp2_with fail
      refine (drawSets_any (Code8.later C.out H10.out.bel)).mono ?_
      rintro e w11 ⟨so, sr, sa, sb, sn, rfl, hb11⟩
      have H11 := hid_mk ((H10.out.next hb11).push so sr sa sb sn 25)
      have SL := hid_mk (show SliceI (w11.alloc (.cells #[.int .i64 so, .int .i64 sr, .int .i64 sa, .int .i64 sb, .int .i64 sn] 25)).heap.size (w11.alloc (.cells #[.int .i64 so, .int .i64 sr, .int .i64 sa, .int .i64 sb, .int .i64 sn] 25)) ad' lm L from
        (((SL.out.keep hb11).mono hb11.size).keep ((Below.refl _ _).alloc (Nat.le_refl _) _)).mono (by simp))
      clear hb11 H10
      go_wp2_with fail
      refine (drawInsOk_any (Code8.later C.out H11.out.bel)).mono ?_
      rintro e w12 ⟨io, ir, ia, ib, in', rfl, hb12⟩
      have H12 := hid_mk ((H11.out.next hb12).push io ir ia ib in' 25)
      have SL := hid_mk (show SliceI (w12.alloc (.cells #[.int .i64 io, .int .i64 ir, .int .i64 ia, .int .i64 ib, .int .i64 in'] 25)).heap.size (w12.alloc (.cells #[.int .i64 io, .int .i64 ir, .int .i64 ia, .int .i64 ib, .int .i64 in'] 25)) ad' lm L from
        (((SL.out.keep hb12).mono hb12.size).keep ((Below.refl _ _).alloc (Nat.le_refl _) _)).mono (by simp))
      clear hb12 H11 C
      obtain ⟨rs, hrs⟩ : ∃ r, r = w11.heap.size := ⟨_, rfl⟩
      obtain ⟨ri, hri⟩ : ∃ r, r = w12.heap.size := ⟨_, rfl⟩
      have E0 : Hid (Fin6 w ri rs ry ⟨io, ir, ia, ib, in'⟩ ⟨so, sr, sa, sb, sn⟩ ⟨yo, yr, ya, yb, yn⟩ ad' lm L (w12.alloc (.cells #[.int .i64 io, .int .i64 ir, .int .i64 ia, .int .i64 ib, .int .i64 in'] 25))) :=
        ⟨hri ▸ H12.out.at (.head _), hrs ▸ H12.out.at (.tail _ (.head _)), H12.out.at (.tail _ (.tail _ (.head _))), SL.out, H12.out.bel⟩
      go_upto_region 21 with fail
      rw [← hrs, ← hri]
      generalize w12.alloc (.cells #[.int .i64 io, .int .i64 ir, .int .i64 ia, .int .i64 ib, .int .i64 in'] 25) = V at E0 ⊢
      clear H12 SL hrs hri
      have sc1 : ∀ w' : World, SliceI w'.heap.size w' ad' lm L → Calls Try.prog 20 #[.slice ad' lm cm] w' fun e w'' => e = .returned (.bool (cokB L)) ∧ Below w'.heap.size w' w'' := fun w' h => implCodeOk_any _ _ _ _ _ h
      have sc2 : ∀ w' : World, SliceI w'.heap.size w' ad' lm L → Calls Try.prog 21 #[.slice ad' lm cm] w' fun e w'' => e = .returned (.bool (cokB L)) ∧ Below w'.heap.size w' w'' := fun w' h => specCodeOk_any _ _ _ _ _ h
      have ss1 := implSets_any so sr sa sb sn
      have ss2 := specSets_any so sr sa sb sn
      have so1 := implInsOk_any io ir ia ib in'
      have so2 := specInsOk_any io ir ia ib in'
      generalize cokB L = b1 at sc1 sc2
      generalize setZ so sr = z1 at ss1 ss2
      generalize iokB io ir ia ib in' = b2 at so1 so2
      have hb1 : (b1 == b1) = true := by simp
      have hb2 : (b2 == b2) = true := by simp
      have hz1 : (z1 == z1) = true := by simp
      have SC1 := hid_mk sc1
      have SC2 := hid_mk sc2
      have SS1 := hid_mk ss1
      have SS2 := hid_mk ss2
      have SO1 := hid_mk so1
      have SO2 := hid_mk so2
      clear sc1 sc2 ss1 ss2 so1 so2
      have eg := eg_ins
      have D0 := hid_mk E0.out.drew
      have hu : undef = Value.tuple #[] := rfl
      cases f
      · have hE := HF.out (by simp)
        have qe := eql_ins yo yr ya yb yn 0 0 0 0 0
        rw [hE] at qe
        clear hE HF HT
        refine wp_region_held_drew (S := (fun w' => w'.cell? ⟨ri, 0, none⟩ = some (.int .i64 io) ∧ w'.cell? ⟨ri, 1, none⟩ = some (.int .i64 ir) ∧ w'.cell? ⟨ri, 2, none⟩ = some (.int .i64 ia) ∧ w'.cell? ⟨ri, 3, none⟩ = some (.int .i64 ib) ∧ w'.cell? ⟨ri, 4, none⟩ = some (.int .i64 in') ∧ w'.cell? ⟨rs, 0, none⟩ = some (.int .i64 so) ∧ w'.cell? ⟨rs, 1, none⟩ = some (.int .i64 sr) ∧ w'.cell? ⟨rs, 2, none⟩ = some (.int .i64 sa) ∧ w'.cell? ⟨rs, 3, none⟩ = some (.int .i64 sb) ∧ w'.cell? ⟨rs, 4, none⟩ = some (.int .i64 sn) ∧ w'.cell? ⟨ry, 0, none⟩ = some (.int .i64 yo) ∧ w'.cell? ⟨ry, 1, none⟩ = some (.int .i64 yr) ∧ w'.cell? ⟨ry, 2, none⟩ = some (.int .i64 ya) ∧ w'.cell? ⟨ry, 3, none⟩ = some (.int .i64 yb) ∧ w'.cell? ⟨ry, 4, none⟩ = some (.int .i64 yn))) (by kernel_rfl) D0.out.all (fun hHeld => ?_)
        refine take_on (i := 0) (d := 87) (v := Value.slice ad' lm cm) rfl rfl (by kernel_rfl) (by kernel_rfl) (by kernel_rfl) (fun _ _ _ h => h) (by rfl) ?_ (by assumption) ?_
        · (intro w hSw; (try dsimp only at hSw); go_simp)
        simp only [Act.put, List.setIfInBounds_toArray, List.set_cons_zero, List.set_cons_succ]
        refine take_on (i := 2) (d := 89) (v := Value.slice ad' lm cm) rfl rfl (by kernel_rfl) (by kernel_rfl) (by kernel_rfl) (fun _ _ _ h => h) (by rfl) ?_ (by assumption) ?_
        · (intro w hSw; (try dsimp only at hSw); go_simp)
        simp only [Act.put, List.setIfInBounds_toArray, List.set_cons_zero, List.set_cons_succ]
        refine wpAnyH_ready (rs := [1]) (by kernel_rfl) (by simp) ?_
        refine AllReadyH.cons rfl (fun K hK => ?_) AllReadyH.nil
        go_simp
        refine (SC1.out _ D0.out.sl).mono ?_
        rintro e wa2 ⟨rfl, hb⟩
        have E1 := hid_mk (D0.out.next hb)
        clear hb
        refine hK.out _ _ E1.out.all (fun hHeld => ?_)
        clear hK K
        try simp only [Act.put, List.setIfInBounds_toArray, List.set_cons_zero, List.set_cons_succ]
        refine wpAnyH_ready (rs := [3]) (by kernel_rfl) (by simp) ?_
        refine AllReadyH.cons rfl (fun K hK => ?_) AllReadyH.nil
        go_simp
        refine (SC2.out _ E1.out.sl).mono ?_
        rintro e wa3 ⟨rfl, hb⟩
        have E2 := hid_mk (E1.out.next hb)
        clear hb
        refine hK.out _ _ E2.out.all (fun hHeld => ?_)
        clear hK K
        try simp only [Act.put, List.setIfInBounds_toArray, List.set_cons_zero, List.set_cons_succ]
        refine take_on (i := 4) (d := 91) (v := .bool true) rfl rfl (by kernel_rfl) (by kernel_rfl) (by kernel_rfl) (fun _ _ _ h => h) (by rfl) ?_ (by assumption) ?_
        · (intro w hSw; (try dsimp only at hSw); go_simp)
        simp only [Act.put, List.setIfInBounds_toArray, List.set_cons_zero, List.set_cons_succ]
        refine take_on (i := 5) (d := 92) (v := .bool true) rfl rfl (by kernel_rfl) (by kernel_rfl) (by kernel_rfl) (fun _ _ _ h => h) (by rfl) ?_ (by assumption) ?_
        · (intro w hSw; (try dsimp only at hSw); go_simp)
        simp only [Act.put, List.setIfInBounds_toArray, List.set_cons_zero, List.set_cons_succ]
        refine take_on (i := 6) (d := 93) (v := .agg #[.int .i64 so, .int .i64 sr, .int .i64 sa, .int .i64 sb, .int .i64 sn]) rfl rfl (by kernel_rfl) (by kernel_rfl) (by kernel_rfl) (fun _ _ _ h => h) (by rfl) ?_ (by assumption) ?_
        · (intro w hSw; (try dsimp only at hSw); go_simp)
        simp only [Act.put, List.setIfInBounds_toArray, List.set_cons_zero, List.set_cons_succ]
        refine take_on (i := 8) (d := 95) (v := .agg #[.int .i64 so, .int .i64 sr, .int .i64 sa, .int .i64 sb, .int .i64 sn]) rfl rfl (by kernel_rfl) (by kernel_rfl) (by kernel_rfl) (fun _ _ _ h => h) (by rfl) ?_ (by assumption) ?_
        · (intro w hSw; (try dsimp only at hSw); go_simp)
        simp only [Act.put, List.setIfInBounds_toArray, List.set_cons_zero, List.set_cons_succ]
        refine wpAnyH_ready (rs := [7]) (by kernel_rfl) (by simp) ?_
        refine AllReadyH.cons rfl (fun K hK => ?_) AllReadyH.nil
        go_simp
        refine (SS1.out _).mono ?_
        rintro e wa8 ⟨rfl, hb⟩
        have E3 := hid_mk (E2.out.next hb)
        clear hb
        refine hK.out _ _ E3.out.all (fun hHeld => ?_)
        clear hK K
        try simp only [Act.put, List.setIfInBounds_toArray, List.set_cons_zero, List.set_cons_succ]
        refine wpAnyH_ready (rs := [9]) (by kernel_rfl) (by simp) ?_
        refine AllReadyH.cons rfl (fun K hK => ?_) AllReadyH.nil
        go_simp
        refine (SS2.out _).mono ?_
        rintro e wa9 ⟨rfl, hb⟩
        have E4 := hid_mk (E3.out.next hb)
        clear hb
        refine hK.out _ _ E4.out.all (fun hHeld => ?_)
        clear hK K
        try simp only [Act.put, List.setIfInBounds_toArray, List.set_cons_zero, List.set_cons_succ]
        refine take_on (i := 10) (d := 97) (v := .bool true) rfl rfl (by kernel_rfl) (by kernel_rfl) (by kernel_rfl) (fun _ _ _ h => h) (by rfl) ?_ (by assumption) ?_
        · (intro w hSw; (try dsimp only at hSw); go_simp)
        simp only [Act.put, List.setIfInBounds_toArray, List.set_cons_zero, List.set_cons_succ]
        refine take_on (i := 11) (d := 98) (v := .bool true) rfl rfl (by kernel_rfl) (by kernel_rfl) (by kernel_rfl) (fun _ _ _ h => h) (by rfl) ?_ (by assumption) ?_
        · (intro w hSw; (try dsimp only at hSw); go_simp)
        simp only [Act.put, List.setIfInBounds_toArray, List.set_cons_zero, List.set_cons_succ]
        refine take_on (i := 12) (d := 99) (v := .bool true) rfl rfl (by kernel_rfl) (by kernel_rfl) (by kernel_rfl) (fun _ _ _ h => h) (by rfl) ?_ (by assumption) ?_
        · (intro w hSw; (try dsimp only at hSw); go_simp)
        simp only [Act.put, List.setIfInBounds_toArray, List.set_cons_zero, List.set_cons_succ]
        refine take_on (i := 13) (d := 100) (v := .agg #[.int .i64 io, .int .i64 ir, .int .i64 ia, .int .i64 ib, .int .i64 in']) rfl rfl (by kernel_rfl) (by kernel_rfl) (by kernel_rfl) (fun _ _ _ h => h) (by rfl) ?_ (by assumption) ?_
        · (intro w hSw; (try dsimp only at hSw); go_simp)
        simp only [Act.put, List.setIfInBounds_toArray, List.set_cons_zero, List.set_cons_succ]
        refine take_on (i := 15) (d := 102) (v := .agg #[.int .i64 io, .int .i64 ir, .int .i64 ia, .int .i64 ib, .int .i64 in']) rfl rfl (by kernel_rfl) (by kernel_rfl) (by kernel_rfl) (fun _ _ _ h => h) (by rfl) ?_ (by assumption) ?_
        · (intro w hSw; (try dsimp only at hSw); go_simp)
        simp only [Act.put, List.setIfInBounds_toArray, List.set_cons_zero, List.set_cons_succ]
        refine wpAnyH_ready (rs := [14]) (by kernel_rfl) (by simp) ?_
        refine AllReadyH.cons rfl (fun K hK => ?_) AllReadyH.nil
        go_simp
        refine (SO1.out _).mono ?_
        rintro e wa15 ⟨rfl, hb⟩
        have E5 := hid_mk (E4.out.next hb)
        clear hb
        refine hK.out _ _ E5.out.all (fun hHeld => ?_)
        clear hK K
        try simp only [Act.put, List.setIfInBounds_toArray, List.set_cons_zero, List.set_cons_succ]
        refine wpAnyH_ready (rs := [16]) (by kernel_rfl) (by simp) ?_
        refine AllReadyH.cons rfl (fun K hK => ?_) AllReadyH.nil
        go_simp
        refine (SO2.out _).mono ?_
        rintro e wa16 ⟨rfl, hb⟩
        have E6 := hid_mk (E5.out.next hb)
        clear hb
        refine hK.out _ _ E6.out.all (fun hHeld => ?_)
        clear hK K
        try simp only [Act.put, List.setIfInBounds_toArray, List.set_cons_zero, List.set_cons_succ]
        refine take_on (i := 17) (d := 104) (v := .bool true) rfl rfl (by kernel_rfl) (by kernel_rfl) (by kernel_rfl) (fun _ _ _ h => h) (by rfl) ?_ (by assumption) ?_
        · (intro w hSw; (try dsimp only at hSw); go_simp)
        simp only [Act.put, List.setIfInBounds_toArray, List.set_cons_zero, List.set_cons_succ]
        refine take_on (i := 18) (d := 105) (v := .bool true) rfl rfl (by kernel_rfl) (by kernel_rfl) (by kernel_rfl) (fun _ _ _ h => h) (by rfl) ?_ (by assumption) ?_
        · (intro w hSw; (try dsimp only at hSw); go_simp)
        simp only [Act.put, List.setIfInBounds_toArray, List.set_cons_zero, List.set_cons_succ]
        refine take_on (i := 19) (d := 106) (v := .bool true) rfl rfl (by kernel_rfl) (by kernel_rfl) (by kernel_rfl) (fun _ _ _ h => h) (by rfl) ?_ (by assumption) ?_
        · (intro w hSw; (try dsimp only at hSw); go_simp)
        simp only [Act.put, List.setIfInBounds_toArray, List.set_cons_zero, List.set_cons_succ]
        refine take_on (i := 20) (d := 107) (v := .bool false) rfl rfl (by kernel_rfl) (by kernel_rfl) (by kernel_rfl) (fun _ _ _ h => h) (by rfl) ?_ (by assumption) ?_
        · (intro w hSw; (try dsimp only at hSw); go_simp)
        simp only [Act.put, List.setIfInBounds_toArray, List.set_cons_zero, List.set_cons_succ]
        refine take_on (i := 21) (d := 108) (v := .bool true) rfl rfl (by kernel_rfl) (by kernel_rfl) (by kernel_rfl) (fun _ _ _ h => h) (by rfl) ?_ (by assumption) ?_
        · (intro w hSw; (try dsimp only at hSw); go_simp)
        simp only [Act.put, List.setIfInBounds_toArray, List.set_cons_zero, List.set_cons_succ]
        refine take_on (i := 22) (d := 109) (v := .bool true) rfl rfl (by kernel_rfl) (by kernel_rfl) (by kernel_rfl) (fun _ _ _ h => h) (by rfl) ?_ (by assumption) ?_
        · (intro w hSw; (try dsimp only at hSw); go_simp)
        simp only [Act.put, List.setIfInBounds_toArray, List.set_cons_zero, List.set_cons_succ]
        refine take_on (i := 23) (d := 110) (v := .agg #[.int .i64 yo, .int .i64 yr, .int .i64 ya, .int .i64 yb, .int .i64 yn]) rfl rfl (by kernel_rfl) (by kernel_rfl) (by kernel_rfl) (fun _ _ _ h => h) (by rfl) ?_ (by assumption) ?_
        · (intro w hSw; (try dsimp only at hSw); go_simp)
        simp only [Act.put, List.setIfInBounds_toArray, List.set_cons_zero, List.set_cons_succ]
        refine take_on (i := 24) (d := 111) (v := .agg #[.int .i64 0, .int .i64 0, .int .i64 0, .int .i64 0, .int .i64 0]) rfl rfl (by kernel_rfl) (by kernel_rfl) (by kernel_rfl) (fun _ _ _ h => h) (by rfl) ?_ (by assumption) ?_
        · (intro w hSw; (try dsimp only at hSw); go_simp)
        simp only [Act.put, List.setIfInBounds_toArray, List.set_cons_zero, List.set_cons_succ]
        refine take_on (i := 25) (d := 112) (v := .bool true) rfl rfl (by kernel_rfl) (by kernel_rfl) (by kernel_rfl) (fun _ _ _ h => h) (by rfl) ?_ (by assumption) ?_
        · (intro w hSw; (try dsimp only at hSw); go_simp)
        simp only [Act.put, List.setIfInBounds_toArray, List.set_cons_zero, List.set_cons_succ]
        refine take_on (i := 26) (d := 113) (v := .bool true) rfl rfl (by kernel_rfl) (by kernel_rfl) (by kernel_rfl) (fun _ _ _ h => h) (by rfl) ?_ (by assumption) ?_
        · (intro w hSw; (try dsimp only at hSw); go_simp)
        simp only [Act.put, List.setIfInBounds_toArray, List.set_cons_zero, List.set_cons_succ]
        refine take_on (i := 27) (d := 114) (v := .bool true) rfl rfl (by kernel_rfl) (by kernel_rfl) (by kernel_rfl) (fun _ _ _ h => h) (by rfl) ?_ (by assumption) ?_
        · (intro w hSw; (try dsimp only at hSw); go_simp)
        simp only [Act.put, List.setIfInBounds_toArray, List.set_cons_zero, List.set_cons_succ]
        refine take_off (i := 28) (d := 115) rfl rfl (by kernel_rfl) (by kernel_rfl) (by kernel_rfl) (fun _ _ _ h => h) (by rfl) (by assumption) ?_
        simp only [Act.put, List.setIfInBounds_toArray, List.set_cons_zero, List.set_cons_succ]
        refine take_off (i := 29) (d := 116) rfl rfl (by kernel_rfl) (by kernel_rfl) (by kernel_rfl) (fun _ _ _ h => h) (by rfl) (by assumption) ?_
        simp only [Act.put, List.setIfInBounds_toArray, List.set_cons_zero, List.set_cons_succ]
        refine take_off (i := 30) (d := 117) rfl rfl (by kernel_rfl) (by kernel_rfl) (by kernel_rfl) (fun _ _ _ h => h) (by rfl) (by assumption) ?_
        simp only [Act.put, List.setIfInBounds_toArray, List.set_cons_zero, List.set_cons_succ]
        refine take_off (i := 31) (d := 118) rfl rfl (by kernel_rfl) (by kernel_rfl) (by kernel_rfl) (fun _ _ _ h => h) (by rfl) (by assumption) ?_
        simp only [Act.put, List.setIfInBounds_toArray, List.set_cons_zero, List.set_cons_succ]
        refine take_off (i := 32) (d := 119) rfl rfl (by kernel_rfl) (by kernel_rfl) (by kernel_rfl) (fun _ _ _ h => h) (by rfl) (by assumption) ?_
        simp only [Act.put, List.setIfInBounds_toArray, List.set_cons_zero, List.set_cons_succ]
        refine take_off (i := 33) (d := 120) rfl rfl (by kernel_rfl) (by kernel_rfl) (by kernel_rfl) (fun _ _ _ h => h) (by rfl) (by assumption) ?_
        simp only [Act.put, List.setIfInBounds_toArray, List.set_cons_zero, List.set_cons_succ]
        refine take_off (i := 34) (d := 121) rfl rfl (by kernel_rfl) (by kernel_rfl) (by kernel_rfl) (fun _ _ _ h => h) (by rfl) (by assumption) ?_
        simp only [Act.put, List.setIfInBounds_toArray, List.set_cons_zero, List.set_cons_succ]
        refine take_off (i := 35) (d := 122) rfl rfl (by kernel_rfl) (by kernel_rfl) (by kernel_rfl) (fun _ _ _ h => h) (by rfl) (by assumption) ?_
        simp only [Act.put, List.setIfInBounds_toArray, List.set_cons_zero, List.set_cons_succ]
        refine take_off (i := 36) (d := 123) rfl rfl (by kernel_rfl) (by kernel_rfl) (by kernel_rfl) (fun _ _ _ h => h) (by rfl) (by assumption) ?_
        simp only [Act.put, List.setIfInBounds_toArray, List.set_cons_zero, List.set_cons_succ]
        refine take_on (i := 37) (d := 124) (v := .bool true) rfl rfl (by kernel_rfl) (by kernel_rfl) (by kernel_rfl) (fun _ _ _ h => h) (by rfl) ?_ (by assumption) ?_
        · (intro w hSw; (try dsimp only at hSw); go_simp)
        simp only [Act.put, List.setIfInBounds_toArray, List.set_cons_zero, List.set_cons_succ]
        refine take_on (i := 38) (d := 125) (v := .bool true) rfl rfl (by kernel_rfl) (by kernel_rfl) (by kernel_rfl) (fun _ _ _ h => h) (by rfl) ?_ (by assumption) ?_
        · (intro w hSw; (try dsimp only at hSw); go_simp)
        simp only [Act.put, List.setIfInBounds_toArray, List.set_cons_zero, List.set_cons_succ]
        refine take_on (i := 39) (d := 2) (v := .bool true) rfl rfl (by kernel_rfl) (by kernel_rfl) (by kernel_rfl) (fun _ _ _ h => h) (by rfl) ?_ (by assumption) ?_
        · (intro w hSw; (try dsimp only at hSw); go_simp)
        simp only [Act.put, List.setIfInBounds_toArray, List.set_cons_zero, List.set_cons_succ]
        refine wpAnyH_done (by kernel_rfl) ?_ _
        go_wp2
        go_ret
        exact ⟨rfl, E6.out.bel⟩
      · obtain ⟨hg, hz⟩ := HT.out (by simp)
        subst hg hz
        clear HF HT
        refine wp_region_held_drew (S := (fun w' => w'.cell? ⟨ri, 0, none⟩ = some (.int .i64 io) ∧ w'.cell? ⟨ri, 1, none⟩ = some (.int .i64 ir) ∧ w'.cell? ⟨ri, 2, none⟩ = some (.int .i64 ia) ∧ w'.cell? ⟨ri, 3, none⟩ = some (.int .i64 ib) ∧ w'.cell? ⟨ri, 4, none⟩ = some (.int .i64 in') ∧ w'.cell? ⟨rs, 0, none⟩ = some (.int .i64 so) ∧ w'.cell? ⟨rs, 1, none⟩ = some (.int .i64 sr) ∧ w'.cell? ⟨rs, 2, none⟩ = some (.int .i64 sa) ∧ w'.cell? ⟨rs, 3, none⟩ = some (.int .i64 sb) ∧ w'.cell? ⟨rs, 4, none⟩ = some (.int .i64 sn) ∧ w'.cell? ⟨ry, 0, none⟩ = some (.int .i64 yo) ∧ w'.cell? ⟨ry, 1, none⟩ = some (.int .i64 yr) ∧ w'.cell? ⟨ry, 2, none⟩ = some (.int .i64 ya) ∧ w'.cell? ⟨ry, 3, none⟩ = some (.int .i64 yb) ∧ w'.cell? ⟨ry, 4, none⟩ = some (.int .i64 yn))) (by kernel_rfl) D0.out.all (fun hHeld => ?_)
        refine take_on (i := 0) (d := 87) (v := Value.slice ad' lm cm) rfl rfl (by kernel_rfl) (by kernel_rfl) (by kernel_rfl) (fun _ _ _ h => h) (by rfl) ?_ (by assumption) ?_
        · (intro w hSw; (try dsimp only at hSw); go_simp)
        simp only [Act.put, List.setIfInBounds_toArray, List.set_cons_zero, List.set_cons_succ]
        refine take_on (i := 2) (d := 89) (v := Value.slice ad' lm cm) rfl rfl (by kernel_rfl) (by kernel_rfl) (by kernel_rfl) (fun _ _ _ h => h) (by rfl) ?_ (by assumption) ?_
        · (intro w hSw; (try dsimp only at hSw); go_simp)
        simp only [Act.put, List.setIfInBounds_toArray, List.set_cons_zero, List.set_cons_succ]
        refine wpAnyH_ready (rs := [1]) (by kernel_rfl) (by simp) ?_
        refine AllReadyH.cons rfl (fun K hK => ?_) AllReadyH.nil
        go_simp
        refine (SC1.out _ D0.out.sl).mono ?_
        rintro e wa2 ⟨rfl, hb⟩
        have E1 := hid_mk (D0.out.next hb)
        clear hb
        refine hK.out _ _ E1.out.all (fun hHeld => ?_)
        clear hK K
        try simp only [Act.put, List.setIfInBounds_toArray, List.set_cons_zero, List.set_cons_succ]
        refine wpAnyH_ready (rs := [3]) (by kernel_rfl) (by simp) ?_
        refine AllReadyH.cons rfl (fun K hK => ?_) AllReadyH.nil
        go_simp
        refine (SC2.out _ E1.out.sl).mono ?_
        rintro e wa3 ⟨rfl, hb⟩
        have E2 := hid_mk (E1.out.next hb)
        clear hb
        refine hK.out _ _ E2.out.all (fun hHeld => ?_)
        clear hK K
        try simp only [Act.put, List.setIfInBounds_toArray, List.set_cons_zero, List.set_cons_succ]
        refine take_on (i := 4) (d := 91) (v := .bool true) rfl rfl (by kernel_rfl) (by kernel_rfl) (by kernel_rfl) (fun _ _ _ h => h) (by rfl) ?_ (by assumption) ?_
        · (intro w hSw; (try dsimp only at hSw); go_simp)
        simp only [Act.put, List.setIfInBounds_toArray, List.set_cons_zero, List.set_cons_succ]
        refine take_on (i := 5) (d := 92) (v := .bool true) rfl rfl (by kernel_rfl) (by kernel_rfl) (by kernel_rfl) (fun _ _ _ h => h) (by rfl) ?_ (by assumption) ?_
        · (intro w hSw; (try dsimp only at hSw); go_simp)
        simp only [Act.put, List.setIfInBounds_toArray, List.set_cons_zero, List.set_cons_succ]
        refine take_on (i := 6) (d := 93) (v := .agg #[.int .i64 so, .int .i64 sr, .int .i64 sa, .int .i64 sb, .int .i64 sn]) rfl rfl (by kernel_rfl) (by kernel_rfl) (by kernel_rfl) (fun _ _ _ h => h) (by rfl) ?_ (by assumption) ?_
        · (intro w hSw; (try dsimp only at hSw); go_simp)
        simp only [Act.put, List.setIfInBounds_toArray, List.set_cons_zero, List.set_cons_succ]
        refine take_on (i := 8) (d := 95) (v := .agg #[.int .i64 so, .int .i64 sr, .int .i64 sa, .int .i64 sb, .int .i64 sn]) rfl rfl (by kernel_rfl) (by kernel_rfl) (by kernel_rfl) (fun _ _ _ h => h) (by rfl) ?_ (by assumption) ?_
        · (intro w hSw; (try dsimp only at hSw); go_simp)
        simp only [Act.put, List.setIfInBounds_toArray, List.set_cons_zero, List.set_cons_succ]
        refine wpAnyH_ready (rs := [7]) (by kernel_rfl) (by simp) ?_
        refine AllReadyH.cons rfl (fun K hK => ?_) AllReadyH.nil
        go_simp
        refine (SS1.out _).mono ?_
        rintro e wa8 ⟨rfl, hb⟩
        have E3 := hid_mk (E2.out.next hb)
        clear hb
        refine hK.out _ _ E3.out.all (fun hHeld => ?_)
        clear hK K
        try simp only [Act.put, List.setIfInBounds_toArray, List.set_cons_zero, List.set_cons_succ]
        refine wpAnyH_ready (rs := [9]) (by kernel_rfl) (by simp) ?_
        refine AllReadyH.cons rfl (fun K hK => ?_) AllReadyH.nil
        go_simp
        refine (SS2.out _).mono ?_
        rintro e wa9 ⟨rfl, hb⟩
        have E4 := hid_mk (E3.out.next hb)
        clear hb
        refine hK.out _ _ E4.out.all (fun hHeld => ?_)
        clear hK K
        try simp only [Act.put, List.setIfInBounds_toArray, List.set_cons_zero, List.set_cons_succ]
        refine take_on (i := 10) (d := 97) (v := .bool true) rfl rfl (by kernel_rfl) (by kernel_rfl) (by kernel_rfl) (fun _ _ _ h => h) (by rfl) ?_ (by assumption) ?_
        · (intro w hSw; (try dsimp only at hSw); go_simp)
        simp only [Act.put, List.setIfInBounds_toArray, List.set_cons_zero, List.set_cons_succ]
        refine take_on (i := 11) (d := 98) (v := .bool true) rfl rfl (by kernel_rfl) (by kernel_rfl) (by kernel_rfl) (fun _ _ _ h => h) (by rfl) ?_ (by assumption) ?_
        · (intro w hSw; (try dsimp only at hSw); go_simp)
        simp only [Act.put, List.setIfInBounds_toArray, List.set_cons_zero, List.set_cons_succ]
        refine take_on (i := 12) (d := 99) (v := .bool true) rfl rfl (by kernel_rfl) (by kernel_rfl) (by kernel_rfl) (fun _ _ _ h => h) (by rfl) ?_ (by assumption) ?_
        · (intro w hSw; (try dsimp only at hSw); go_simp)
        simp only [Act.put, List.setIfInBounds_toArray, List.set_cons_zero, List.set_cons_succ]
        refine take_on (i := 13) (d := 100) (v := .agg #[.int .i64 io, .int .i64 ir, .int .i64 ia, .int .i64 ib, .int .i64 in']) rfl rfl (by kernel_rfl) (by kernel_rfl) (by kernel_rfl) (fun _ _ _ h => h) (by rfl) ?_ (by assumption) ?_
        · (intro w hSw; (try dsimp only at hSw); go_simp)
        simp only [Act.put, List.setIfInBounds_toArray, List.set_cons_zero, List.set_cons_succ]
        refine take_on (i := 15) (d := 102) (v := .agg #[.int .i64 io, .int .i64 ir, .int .i64 ia, .int .i64 ib, .int .i64 in']) rfl rfl (by kernel_rfl) (by kernel_rfl) (by kernel_rfl) (fun _ _ _ h => h) (by rfl) ?_ (by assumption) ?_
        · (intro w hSw; (try dsimp only at hSw); go_simp)
        simp only [Act.put, List.setIfInBounds_toArray, List.set_cons_zero, List.set_cons_succ]
        refine wpAnyH_ready (rs := [14]) (by kernel_rfl) (by simp) ?_
        refine AllReadyH.cons rfl (fun K hK => ?_) AllReadyH.nil
        go_simp
        refine (SO1.out _).mono ?_
        rintro e wa15 ⟨rfl, hb⟩
        have E5 := hid_mk (E4.out.next hb)
        clear hb
        refine hK.out _ _ E5.out.all (fun hHeld => ?_)
        clear hK K
        try simp only [Act.put, List.setIfInBounds_toArray, List.set_cons_zero, List.set_cons_succ]
        refine wpAnyH_ready (rs := [16]) (by kernel_rfl) (by simp) ?_
        refine AllReadyH.cons rfl (fun K hK => ?_) AllReadyH.nil
        go_simp
        refine (SO2.out _).mono ?_
        rintro e wa16 ⟨rfl, hb⟩
        have E6 := hid_mk (E5.out.next hb)
        clear hb
        refine hK.out _ _ E6.out.all (fun hHeld => ?_)
        clear hK K
        try simp only [Act.put, List.setIfInBounds_toArray, List.set_cons_zero, List.set_cons_succ]
        refine take_on (i := 17) (d := 104) (v := .bool true) rfl rfl (by kernel_rfl) (by kernel_rfl) (by kernel_rfl) (fun _ _ _ h => h) (by rfl) ?_ (by assumption) ?_
        · (intro w hSw; (try dsimp only at hSw); go_simp)
        simp only [Act.put, List.setIfInBounds_toArray, List.set_cons_zero, List.set_cons_succ]
        refine take_on (i := 18) (d := 105) (v := .bool true) rfl rfl (by kernel_rfl) (by kernel_rfl) (by kernel_rfl) (fun _ _ _ h => h) (by rfl) ?_ (by assumption) ?_
        · (intro w hSw; (try dsimp only at hSw); go_simp)
        simp only [Act.put, List.setIfInBounds_toArray, List.set_cons_zero, List.set_cons_succ]
        refine take_on (i := 19) (d := 106) (v := .bool true) rfl rfl (by kernel_rfl) (by kernel_rfl) (by kernel_rfl) (fun _ _ _ h => h) (by rfl) ?_ (by assumption) ?_
        · (intro w hSw; (try dsimp only at hSw); go_simp)
        simp only [Act.put, List.setIfInBounds_toArray, List.set_cons_zero, List.set_cons_succ]
        refine take_on (i := 20) (d := 107) (v := .bool true) rfl rfl (by kernel_rfl) (by kernel_rfl) (by kernel_rfl) (fun _ _ _ h => h) (by rfl) ?_ (by assumption) ?_
        · (intro w hSw; (try dsimp only at hSw); go_simp)
        simp only [Act.put, List.setIfInBounds_toArray, List.set_cons_zero, List.set_cons_succ]
        refine take_on (i := 21) (d := 108) (v := .bool false) rfl rfl (by kernel_rfl) (by kernel_rfl) (by kernel_rfl) (fun _ _ _ h => h) (by rfl) ?_ (by assumption) ?_
        · (intro w hSw; (try dsimp only at hSw); go_simp)
        simp only [Act.put, List.setIfInBounds_toArray, List.set_cons_zero, List.set_cons_succ]
        refine take_on (i := 22) (d := 109) (v := .bool false) rfl rfl (by kernel_rfl) (by kernel_rfl) (by kernel_rfl) (fun _ _ _ h => h) (by rfl) ?_ (by assumption) ?_
        · (intro w hSw; (try dsimp only at hSw); go_simp)
        simp only [Act.put, List.setIfInBounds_toArray, List.set_cons_zero, List.set_cons_succ]
        refine take_off (i := 23) (d := 110) rfl rfl (by kernel_rfl) (by kernel_rfl) (by kernel_rfl) (fun _ _ _ h => h) (by rfl) (by assumption) ?_
        simp only [Act.put, List.setIfInBounds_toArray, List.set_cons_zero, List.set_cons_succ]
        refine take_off (i := 24) (d := 111) rfl rfl (by kernel_rfl) (by kernel_rfl) (by kernel_rfl) (fun _ _ _ h => h) (by rfl) (by assumption) ?_
        simp only [Act.put, List.setIfInBounds_toArray, List.set_cons_zero, List.set_cons_succ]
        refine take_off (i := 25) (d := 112) rfl rfl (by kernel_rfl) (by kernel_rfl) (by kernel_rfl) (fun _ _ _ h => h) (by rfl) (by assumption) ?_
        simp only [Act.put, List.setIfInBounds_toArray, List.set_cons_zero, List.set_cons_succ]
        refine take_on (i := 26) (d := 113) (v := .bool false) rfl rfl (by kernel_rfl) (by kernel_rfl) (by kernel_rfl) (fun _ _ _ h => h) (by rfl) ?_ (by assumption) ?_
        · (intro w hSw; (try dsimp only at hSw); go_simp)
        simp only [Act.put, List.setIfInBounds_toArray, List.set_cons_zero, List.set_cons_succ]
        refine take_on (i := 27) (d := 114) (v := .bool false) rfl rfl (by kernel_rfl) (by kernel_rfl) (by kernel_rfl) (fun _ _ _ h => h) (by rfl) ?_ (by assumption) ?_
        · (intro w hSw; (try dsimp only at hSw); go_simp)
        simp only [Act.put, List.setIfInBounds_toArray, List.set_cons_zero, List.set_cons_succ]
        refine take_on (i := 28) (d := 115) (v := .bool true) rfl rfl (by kernel_rfl) (by kernel_rfl) (by kernel_rfl) (fun _ _ _ h => h) (by rfl) ?_ (by assumption) ?_
        · (intro w hSw; (try dsimp only at hSw); go_simp)
        simp only [Act.put, List.setIfInBounds_toArray, List.set_cons_zero, List.set_cons_succ]
        refine take_on (i := 29) (d := 116) (v := .bool true) rfl rfl (by kernel_rfl) (by kernel_rfl) (by kernel_rfl) (fun _ _ _ h => h) (by rfl) ?_ (by assumption) ?_
        · (intro w hSw; (try dsimp only at hSw); go_simp)
        simp only [Act.put, List.setIfInBounds_toArray, List.set_cons_zero, List.set_cons_succ]
        refine take_on (i := 30) (d := 117) (v := .bool true) rfl rfl (by kernel_rfl) (by kernel_rfl) (by kernel_rfl) (fun _ _ _ h => h) (by rfl) ?_ (by assumption) ?_
        · (intro w hSw; (try dsimp only at hSw); go_simp)
        simp only [Act.put, List.setIfInBounds_toArray, List.set_cons_zero, List.set_cons_succ]
        refine take_on (i := 31) (d := 118) (v := .bool true) rfl rfl (by kernel_rfl) (by kernel_rfl) (by kernel_rfl) (fun _ _ _ h => h) (by rfl) ?_ (by assumption) ?_
        · (intro w hSw; (try dsimp only at hSw); go_simp)
        simp only [Act.put, List.setIfInBounds_toArray, List.set_cons_zero, List.set_cons_succ]
        refine take_on (i := 32) (d := 119) (v := .bool true) rfl rfl (by kernel_rfl) (by kernel_rfl) (by kernel_rfl) (fun _ _ _ h => h) (by rfl) ?_ (by assumption) ?_
        · (intro w hSw; (try dsimp only at hSw); go_simp)
        simp only [Act.put, List.setIfInBounds_toArray, List.set_cons_zero, List.set_cons_succ]
        refine take_on (i := 33) (d := 120) (v := .int .i64 z) rfl rfl (by kernel_rfl) (by kernel_rfl) (by kernel_rfl) (fun _ _ _ h => h) (by rfl) ?_ (by assumption) ?_
        · (intro w hSw; (try dsimp only at hSw); go_simp)
        simp only [Act.put, List.setIfInBounds_toArray, List.set_cons_zero, List.set_cons_succ]
        refine take_on (i := 34) (d := 121) (v := .int .i64 z) rfl rfl (by kernel_rfl) (by kernel_rfl) (by kernel_rfl) (fun _ _ _ h => h) (by rfl) ?_ (by assumption) ?_
        · (intro w hSw; (try dsimp only at hSw); go_simp)
        simp only [Act.put, List.setIfInBounds_toArray, List.set_cons_zero, List.set_cons_succ]
        refine take_on (i := 35) (d := 122) (v := .bool true) rfl rfl (by kernel_rfl) (by kernel_rfl) (by kernel_rfl) (fun _ _ _ h => h) (by rfl) ?_ (by assumption) ?_
        · (intro w hSw; (try dsimp only at hSw); go_simp)
        simp only [Act.put, List.setIfInBounds_toArray, List.set_cons_zero, List.set_cons_succ]
        refine take_on (i := 36) (d := 123) (v := .bool true) rfl rfl (by kernel_rfl) (by kernel_rfl) (by kernel_rfl) (fun _ _ _ h => h) (by rfl) ?_ (by assumption) ?_
        · (intro w hSw; (try dsimp only at hSw); go_simp)
        simp only [Act.put, List.setIfInBounds_toArray, List.set_cons_zero, List.set_cons_succ]
        refine take_on (i := 37) (d := 124) (v := .bool true) rfl rfl (by kernel_rfl) (by kernel_rfl) (by kernel_rfl) (fun _ _ _ h => h) (by rfl) ?_ (by assumption) ?_
        · (intro w hSw; (try dsimp only at hSw); go_simp)
        simp only [Act.put, List.setIfInBounds_toArray, List.set_cons_zero, List.set_cons_succ]
        refine take_on (i := 38) (d := 125) (v := .bool true) rfl rfl (by kernel_rfl) (by kernel_rfl) (by kernel_rfl) (fun _ _ _ h => h) (by rfl) ?_ (by assumption) ?_
        · (intro w hSw; (try dsimp only at hSw); go_simp)
        simp only [Act.put, List.setIfInBounds_toArray, List.set_cons_zero, List.set_cons_succ]
        refine take_on (i := 39) (d := 2) (v := .bool true) rfl rfl (by kernel_rfl) (by kernel_rfl) (by kernel_rfl) (fun _ _ _ h => h) (by rfl) ?_ (by assumption) ?_
        · (intro w hSw; (try dsimp only at hSw); go_simp)
        simp only [Act.put, List.setIfInBounds_toArray, List.set_cons_zero, List.set_cons_succ]
        refine wpAnyH_done (by kernel_rfl) ?_ _
        go_wp2
        go_ret
        exact ⟨rfl, E6.out.bel⟩
end Go.Proofs.Ytbfbbapongijeaa
