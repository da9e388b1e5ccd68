/- For every list of places and every Word Fetch of the program answers as the specification's Fetch, the place and the trap, leaves the list as it was, and the law returns true; lists of more than 2^20 places the law passes by. The four errors of the program hold what its text lays (the card ties them). -/
import Derived.Test.YtpkhnajhamnggaaDoorCards
import Derived.Test.YtpkhnajhamnggaaDoorTie
import Derived.Test.YtpkhnajhamnggaaDoorFetB
import Derived.Test.YtpkhnajhamnggaaDoorWordD
import Derived.Test.YtpkhnajhamnggaaDoorInsE
import Derived.Test.YtpkhnajhamnggaaDoorSent
import Derived.WalkKit
import Derived.ProofKit
import Derived.OpenShut
import Derived.Lib.SmallJoins
import Derived.ChangeOld
import Derived.Below
import Derived.LaidHandle
import Derived.Stop.Joined
import Derived.SevenTiedAt
import Derived.Deep.Slices
import Derived.Deep.Strs
namespace Go.Proofs.YtpkhnajhamnggaaDoor.fnExactFetch
open Go.ChangeShapes Go.WideShapes Go.ChangeAt Go.RowKit Go.Joins Go.Deep
set_option linter.unusedVariables false

theorem own : ownKnob Tryd.prog.godebug = none := by kernel_rfl
theorem laidOut : laidOutB Tryd.prog = true := by kernel_rfl

set_option maxRecDepth 100000 in
set_option maxHeartbeats 20000000 in
theorem walk (la0 : Option Addr) (ln0 lc0 : Nat) (LL0 : List In) (x0 : Int) (x1 : Bool) (x2 x3 x4 x5 : Int) (a0 a1 a2 a3 : Addr) (w : World) (hS0 : SliceI w.heap.size w la0 ln0 LL0) (hE : Errs a0 a1 a2 a3 w) :
    Calls Tryd.prog 3 #[.slice la0 ln0 lc0, .agg #[.int .i64 x0, .bool x1, .int .i64 x2, .int .i64 x3, .int .i64 x4, .int .i64 x5]] w fun e w' => e = .returned (.bool true) ∧ Below w.heap.size w w' := by
  have sz := szInsS_any la0 ln0 lc0 w hS0.1
  by_cases hl : ln0 ≤ 1048576
  · obtain ⟨m, hm, hm0⟩ : ∃ m : Int, Hid (m = 1048576 - (ln0 : Int)) ∧ 0 ≤ m := ⟨_, rfl, by omega⟩
    have sz' : ∀ w, Calls Tryd.prog 4 #[.slice la0 ln0 lc0, .int .i64 1048576] w fun e w' => e = .returned (.int .i64 m) ∧ w' = w := fun w => by
      have h := szInsS_any la0 ln0 lc0 w hS0.1
      simp only [if_pos hl, ← hm.out] at h
      exact h
    have SZ := hid_mk sz'
    obtain ⟨y, Y⟩ : ∃ y, Hid (y = fetX LL0 x0 x1 x2 x3 x4 x5) := ⟨_, rfl⟩
    obtain ⟨u, U⟩ : ∃ u, Hid (u = fetT LL0 x0 x1 x2 x3 x4 x5) := ⟨_, rfl⟩
    have s1 := fun a cap w => specFetch_any a ln0 cap LL0 x0 x1 x2 x3 x4 x5 w
    have s2 := fun a cap w => implFetch_any a0 a1 a2 a3 a ln0 cap LL0 x0 x1 x2 x3 x4 x5 w
    simp only [← Y.out, ← U.out, inVal] at s1 s2
    have S1 := hid_mk s1
    have S2 := hid_mk s2
    have HE := hid_mk hE
    have H := hid_mk (Fx.new w x0 x1 x2 x3 x4 x5 la0 ln0 LL0 26 hS0)
    clear sz sz' hS0 s1 s2 hE
    generalize hw1 : w.alloc (.cells #[.int .i64 x0, .bool x1, .int .i64 x2, .int .i64 x3, .int .i64 x4, .int .i64 x5] 26) = w1 at H
    go_enter Tryd.func3, Tryd.ntmps3
    go_upto_region 1 with fail
    clear hw1
    go_wp2_with fail
    refine (SZ.out _).mono ?_
    rintro e w2 ⟨rfl, rfl⟩
    clear SZ
    go_wp2_with fail
    go_cut [6, 7] (fun pv tv wx => ∃ r : Nat, pv = .pointer (some ⟨r, 0, none⟩) ∧ tv = .int .i64 u ∧ w.heap.size < r ∧ Hid (Five wx r y.o y.r y.a y.b y.n) ∧ Hid (Fx w x0 x1 x2 x3 x4 x5 la0 ln0 LL0 wx))
    case first =>
      have zH := H.out.six.lt
      have ALL : Hid (∀ w' : World, Fx w x0 x1 x2 x3 x4 x5 la0 ln0 LL0 w' → (w'.cell? ⟨w.heap.size, 0, none⟩ = some (.int .i64 x0) ∧ w'.cell? ⟨w.heap.size, 1, none⟩ = some (.bool x1) ∧ w'.cell? ⟨w.heap.size, 2, none⟩ = some (.int .i64 x2) ∧ w'.cell? ⟨w.heap.size, 3, none⟩ = some (.int .i64 x3) ∧ w'.cell? ⟨w.heap.size, 4, none⟩ = some (.int .i64 x4) ∧ w'.cell? ⟨w.heap.size, 5, none⟩ = some (.int .i64 x5) ∧ Hid (Fx w x0 x1 x2 x3 x4 x5 la0 ln0 LL0 w'))) := fun w' h => ⟨h.six.c0, h.six.c1, h.six.c2, h.six.c3, h.six.c4, h.six.c5, h⟩
      have GET : Hid (∀ w' : World, (w'.cell? ⟨w.heap.size, 0, none⟩ = some (.int .i64 x0) ∧ w'.cell? ⟨w.heap.size, 1, none⟩ = some (.bool x1) ∧ w'.cell? ⟨w.heap.size, 2, none⟩ = some (.int .i64 x2) ∧ w'.cell? ⟨w.heap.size, 3, none⟩ = some (.int .i64 x3) ∧ w'.cell? ⟨w.heap.size, 4, none⟩ = some (.int .i64 x4) ∧ w'.cell? ⟨w.heap.size, 5, none⟩ = some (.int .i64 x5) ∧ Hid (Fx w x0 x1 x2 x3 x4 x5 la0 ln0 LL0 w')) → Fx w x0 x1 x2 x3 x4 x5 la0 ln0 LL0 w') := fun w' h => h.2.2.2.2.2.2
      have D0 := hid_mk H.out.drew
      go_region_held3 (fun w' => w'.cell? ⟨w.heap.size, 0, none⟩ = some (.int .i64 x0) ∧ w'.cell? ⟨w.heap.size, 1, none⟩ = some (.bool x1) ∧ w'.cell? ⟨w.heap.size, 2, none⟩ = some (.int .i64 x2) ∧ w'.cell? ⟨w.heap.size, 3, none⟩ = some (.int .i64 x3) ∧ w'.cell? ⟨w.heap.size, 4, none⟩ = some (.int .i64 x4) ∧ w'.cell? ⟨w.heap.size, 5, none⟩ = some (.int .i64 x5) ∧ Hid (Fx w x0 x1 x2 x3 x4 x5 la0 ln0 LL0 w'))
        (first | (with_reducible assumption) | (((with_reducible refine ALL.out _ ?_); (repeat' (first | (with_reducible exact D0.out) | (with_reducible exact H.out) | (with_reducible exact GET.out _ (by with_reducible assumption)) | (with_reducible apply Fx.drew) | (with_reducible apply Fx.alloc) | (with_reducible apply Fx.next ?_ K1.out) | (with_reducible apply Fx.next ?_ K2.out) | (with_reducible apply Fx.next ?_ K3.out) | ((with_reducible refine Fx.wr ?_ ?_ _ _ _ _ _); rotate_left; (first | omega | (simp; omega))) | fail)))))
        (first
          | (go_at_call 6; refine (toInsS_any _ _ _ LL0 _ hl (slI_all ((GET.out _ (by with_reducible assumption)).sl.mono (GET.out _ (by with_reducible assumption)).bel.size) (Below.refl _ _))).mono ?_; rintro e w4 ⟨q, rfl, hI, hb⟩; have I := hid_mk hI; clear hI; have K1 := hid_mk hb; have z1 := hb.size; (try simp at z1); (first | (with_reducible have Z := hid_mk (Z.out.below hb); obtain ⟨zl, zc0, zc1, zc2, zc3, zc4, zf0, zf1, zf2, zf3, zf4⟩ := Z.out) | (with_reducible have Z := hid_mk ((Five.new _ 0 0 0 0 0 29).below hb); obtain ⟨zl, zc0, zc1, zc2, zc3, zc4, zf0, zf1, zf2, zf3, zf4⟩ := Z.out) | (with_reducible have Z := hid_mk ((Five.new _ 0 0 0 0 0 29).drew.below hb); obtain ⟨zl, zc0, zc1, zc2, zc3, zc4, zf0, zf1, zf2, zf3, zf4⟩ := Z.out) | skip); clear hb)
          | (go_at_call 7; refine (toWord_any _ _ _ _ _ _ _).mono ?_; rintro e w5 ⟨rfl, hb⟩; have K2 := hid_mk hb; have z2 := hb.size; (try simp at z2); (first | (with_reducible have Z := hid_mk (Z.out.below hb); obtain ⟨zl, zc0, zc1, zc2, zc3, zc4, zf0, zf1, zf2, zf3, zf4⟩ := Z.out) | (with_reducible have Z := hid_mk ((Five.new _ 0 0 0 0 0 29).below hb); obtain ⟨zl, zc0, zc1, zc2, zc3, zc4, zf0, zf1, zf2, zf3, zf4⟩ := Z.out) | (with_reducible have Z := hid_mk ((Five.new _ 0 0 0 0 0 29).drew.below hb); obtain ⟨zl, zc0, zc1, zc2, zc3, zc4, zf0, zf1, zf2, zf3, zf4⟩ := Z.out) | skip); (first | (with_reducible have I := hid_mk (slI_all I.out hb)) | (with_reducible have I := hid_mk (slI_all (slI_alloc I.out _) hb)) | skip); clear hb)
          | (go_at_call 5; refine (S1.out _ _ _ (by first | (with_reducible exact I.out) | (with_reducible exact slI_alloc I.out _) | (with_reducible exact slI_alloc (slI_alloc I.out _) _))).mono ?_; rintro e w6 ⟨rfl, hb⟩; have K3 := hid_mk hb; have z3 := hb.size; (try simp at z3); (first | (with_reducible have Z := hid_mk (Z.out.below hb); obtain ⟨zl, zc0, zc1, zc2, zc3, zc4, zf0, zf1, zf2, zf3, zf4⟩ := Z.out) | (with_reducible have Z := hid_mk ((Five.new _ 0 0 0 0 0 29).below hb); obtain ⟨zl, zc0, zc1, zc2, zc3, zc4, zf0, zf1, zf2, zf3, zf4⟩ := Z.out) | (with_reducible have Z := hid_mk ((Five.new _ 0 0 0 0 0 29).drew.below hb); obtain ⟨zl, zc0, zc1, zc2, zc3, zc4, zf0, zf1, zf2, zf3, zf4⟩ := Z.out) | skip); clear hb))
      all_goals
        go_wp2_with fail
        go_meet
        case rel =>
          refine ⟨_, rfl, rfl, ?_, ?_, GET.out _ (by with_reducible assumption)⟩
          · first | omega | (simp; omega)
          · refine hid_mk ?_
            first | (with_reducible exact ((((Z.out.set0 _).set1 _).set2 _).set3 _).set4 _) | exact Five.new _ _ _ _ _ _ _
    case' rest =>
      obtain ⟨r, rfl, rfl, hr, YF, H⟩ := hcut
      have huu : (u != u) = false := by simp
      clear hm
      go_wp2_with fail
      refine (toInsS_any _ _ _ LL0 _ hl (H.out.sl.mono H.out.bel.size)).mono ?_
      rintro e w7 ⟨q, rfl, hI, hb⟩
      replace H := hid_mk (H.out.next hb)
      replace YF := hid_mk (YF.out.below hb)
      have I := hid_mk hI
      clear hI hb
      obtain ⟨_, c0, c1, c2, c3, c4, c5, _, _, _, _, _, _⟩ := H.out.six
      go_wp2_with fail
      refine (toWord_any _ _ _ _ _ _ _).mono ?_
      rintro e w8 ⟨rfl, hb⟩
      replace H := hid_mk (H.out.next hb)
      replace YF := hid_mk (YF.out.below hb)
      replace I := hid_mk (slI_all I.out hb)
      clear hb c0 c1 c2 c3 c4 c5
      go_wp2_with fail
      refine (S2.out _ _ _ I.out (HE.out.below H.out.bel)).mono ?_
      rintro e w9 ⟨rfl, hb⟩
      replace H := hid_mk ((H.out.next hb).alloc (.cells #[.int .i64 y.o, .int .i64 y.r, .int .i64 y.a, .int .i64 y.b, .int .i64 y.n] 29))
      replace YF := hid_mk ((YF.out.below hb).alloc (.cells #[.int .i64 y.o, .int .i64 y.r, .int .i64 y.a, .int .i64 y.b, .int .i64 y.n] 29))
      replace I := hid_mk (slI_alloc (slI_all I.out hb) (.cells #[.int .i64 y.o, .int .i64 y.r, .int .i64 y.a, .int .i64 y.b, .int .i64 y.n] 29))
      have GF : Hid (Five (w9.alloc (.cells #[.int .i64 y.o, .int .i64 y.r, .int .i64 y.a, .int .i64 y.b, .int .i64 y.n] 29)) w9.heap.size y.o y.r y.a y.b y.n) := Five.new _ _ _ _ _ _ _
      clear hb
      go_upto_region 8 with fail
      generalize w9.alloc (.cells #[.int .i64 y.o, .int .i64 y.r, .int .i64 y.a, .int .i64 y.b, .int .i64 y.n] 29) = w10 at H YF I GF ⊢
      generalize w9.heap.size = rg at GF ⊢
      obtain ⟨_, c0, c1, c2, c3, c4, _, _, _, _, _⟩ := YF.out
      obtain ⟨_, g0, g1, g2, g3, g4, _, _, _, _, _⟩ := GF.out
      go_wp2_with fail
      refine (eqIns_same _ _ _ _ _ _).mono ?_
      rintro e w11 ⟨rfl, hb⟩
      replace H := hid_mk (H.out.next hb)
      replace I := hid_mk (slI_all I.out hb)
      clear hb c0 c1 c2 c3 c4 g0 g1 g2 g3 g4 YF GF
      go_wp2_with fail
      refine (toInsS_any _ _ _ LL0 _ hl (H.out.sl.mono H.out.bel.size)).mono ?_
      rintro e w12 ⟨q2, rfl, hI, hb⟩
      replace H := hid_mk (H.out.next hb)
      replace I := hid_mk (slI_all I.out hb)
      have J := hid_mk hI
      clear hI hb
      go_wp2_with fail
      refine (eqInsS_same _ _ _ _ _ LL0 _ I.out J.out).mono ?_
      rintro e w13 ⟨rfl, hb⟩
      replace H := hid_mk (H.out.next hb)
      clear hb I J
      go_wp2
      go_ret
      exact ⟨rfl, H.out.bel⟩
  · have sz' : ∀ w, Calls Tryd.prog 4 #[.slice la0 ln0 lc0, .int .i64 1048576] w fun e w' => e = .returned (.int .i64 (-1)) ∧ w' = w := fun w => by
      have h := szInsS_any la0 ln0 lc0 w hS0.1
      simp only [if_neg hl] at h
      exact h
    have SZ := hid_mk sz'
    have B := hid_mk ((Below.refl w.heap.size w).alloc (Nat.le_refl _) (.cells #[.int .i64 x0, .bool x1, .int .i64 x2, .int .i64 x3, .int .i64 x4, .int .i64 x5] 26))
    clear sz sz'
    go_enter Tryd.func3, Tryd.ntmps3
    go_wp2_with fail
    refine (SZ.out _).mono ?_
    rintro e w2 ⟨rfl, rfl⟩
    go_wp2
    go_ret
    exact ⟨rfl, B.out⟩

set_option maxRecDepth 100000 in
theorem lifted (os : Os) (started : os.Started) (H : Type) (enc : TypeId × Value → H) :
    ReturnsInHanded {} Tryd.checked os 3 .any (fun w args => (Rows.fnExactFetchSpec.pre enc Tryd.prog Tryd.f3 [] false w args ∧ laidMetH Tryd.prog Rows.fnExactFetchRow.laid w) ∧ sizedMet enc Tryd.prog Tryd.f3 (OpenSpec.ofChange Rows.fnExactFetchSpec) false w args) (Rows.fnExactFetchSpec.post enc Tryd.prog Tryd.f3 false true false false) := by
  have hp : ∀ w : World, laidMetH Tryd.prog Rows.fnExactFetchRow.laid w = laidMet Tryd.prog Rows.fnExactFetchRow.laid w := fun w => MakeChecks.laidMetH_plain _ _ _ (by kernel_rfl)
  refine returnsInHanded_of_change_and (C := Tryd.checked) (X := fun w _ => laidMetH Tryd.prog Rows.fnExactFetchRow.laid w) (fun _ _ _ hh h => h.of_heap hh) own started (by kernel_rfl) Tryd.func3
    (ChangeSpec.witness_at (enc := enc) (C := Tryd.checked) (os := os) (X := fun w _ => laidMetH Tryd.prog Rows.fnExactFetchRow.laid w) false (laidWorld os) #[.slice none 0 0, .agg #[.int .i64 0, .bool false, .int .i64 0, .int .i64 0, .int .i64 0, .int .i64 0]] 8 rfl (by kernel_rfl) (by kernel_rfl) (by kernel_rfl) (by kernel_rfl) (by kernel_rfl) (by rw [hp]; exact laidWorld_met os _)) ?_
  intro W base args ds gs before hval0 hW _ _ hL _
  have hval : ∀ (j : Nat) t v, Tryd.f3.params[j]? = some t → args[j]? = some v → Value.okWide Tryd.prog W .any base t v := hval0
  have hW' := hW
  obtain ⟨p, q, hA0, hV0, rfl, hfz, hnd⟩ := hW
  have hA : DataW.TrodAll enc Tryd.prog W 0 (fun _ => true) true Tryd.f3.params.toList args.toList ds p := hA0
  have hV : DataW.TrodVars enc Tryd.prog W (fun _ => true) Rows.fnExactFetchSpec.vars gs q := hV0
  rw [Tryd.params3] at hA hval
  rw [hp] at hL
  obtain ⟨a0, a1, a2, a3, hE, hr⟩ := errs_in hL
  obtain ⟨rfl, rfl⟩ := hV.unique (hr H enc W _ (Below.refl _ _))
  obtain ⟨v0, vs0, d0, ds0, p0, q0, hargs, rfl, rfl, h0, r0⟩ := trodAll_cons hA
  obtain ⟨v1, vs1, d1, ds1, p1, q1, rfl, rfl, rfl, h1, r1⟩ := trodAll_cons r0
  obtain ⟨rfl, rfl, rfl⟩ := trodAll_nil r1
  obtain rfl : args = #[v0, v1] := by cases args; simp_all
  have k0 := h0
  have lt0 : ∀ x ∈ p0, x.block < W.heap.size := by obtain ⟨m, hm⟩ := k0; exact DataW.trod_lt m _ _ _ hm
  have k1 := h1
  have lt1 : ∀ x ∈ p1, x.block < W.heap.size := by obtain ⟨m, hm⟩ := k1; exact DataW.trod_lt m _ _ _ hm
  obtain ⟨la0, ln0, lc0, rfl⟩ := okWide_slice Tryd.underlying22 (hval 0 22 v0 rfl rfl)
  obtain ⟨LL0, hS0⟩ : ∃ L, SliceI W.heap.size W la0 ln0 L := by
    obtain ⟨fuel, hf⟩ := h0
    exact came_in (by simpa [Value.cells] using hf)
  obtain ⟨x0, x1, x2, x3, x4, x5, rfl, _, _, _, _, _, _, _⟩ := open_word (hval 1 26 v1 rfl rfl) h1
  clear hA0 hval0 hV0
  refine (walk la0 ln0 lc0 LL0 x0 x1 x2 x3 x4 x5 a0 a1 a2 a3 W hS0 hE).mono fun e W' ⟨he, bel⟩ => ?_
  subst he
  exact ⟨_, rfl, _, _, _, [], _, [.cell 0 0, .cell 1 0, .cell 2 0, .cell 3 0], hW', trodAll_mk1 (shut_bool Tryd.underlying4 _), (trodAll_cons_mk (Below.trod laidOut (by kernel_rfl) (of_decide_eq_true (by kernel_rfl)) k0 bel lt0) (trodAll_cons_mk (Below.trod laidOut (by kernel_rfl) (of_decide_eq_true (by kernel_rfl)) k1 bel lt1) trodAll_mk0)), hr H enc W' _ bel, bel.frame _, fun h => by cases h⟩

theorem said : Rows.FnExactFetchSaid :=
  OpenClaim.holds_of_wide 3 Tryd.f3 rfl rfl rfl rfl rfl rfl rfl ⟨rfl, rfl, rfl, rfl, rfl⟩ rfl rfl rfl rfl rfl (by kernel_rfl) Tryd.func3 (by kernel_rfl)
    (of_decide_eq_true (by kernel_rfl)) (by unfold Func.isWrapper; first | (rw [if_pos (by decide +kernel)]; kernel_rfl) | (rw [if_neg (by decide +kernel)]; exact ⟨rfl, rfl⟩))
    (fun os started H enc _ => lifted os started H enc)
theorem plain (f : FuncId) (fn : Func) (hf : Tryd.pinned.checked.prog.funcNamed Rows.fnExactFetchRow.func = some f) (hfn : Tryd.pinned.checked.prog.funcs[f]? = some fn) :
    true = Tryd.pinned.checked.prog.looks [] ∧ ∀ (j : Nat) t, fn.params[j]? = some t → Tryd.pinned.checked.prog.wantsStandIn t = false := by
  obtain rfl : f = 3 := Option.some.inj ((show Tryd.prog.funcNamed Rows.fnExactFetchRow.func = some 3 by kernel_rfl).symm.trans hf) |>.symm
  obtain rfl : fn = Tryd.f3 := (Option.some.inj (Tryd.func3.symm.trans hfn)).symm
  refine ⟨by kernel_rfl, fun j t ht => ?_⟩
  rw [Tryd.params3] at ht
  have hm := Array.mem_of_getElem? ht
  have hall : ∀ u ∈ Tryd.f3.params.toList, Tryd.prog.wantsStandIn u = false := by
    have h : (Tryd.f3.params.toList.all fun u => !Tryd.prog.wantsStandIn u) = true := by kernel_rfl
    intro u hu
    have := List.all_eq_true.1 h u hu
    simpa using this
  exact hall t (by rw [Tryd.params3]; simpa using hm)
theorem card : Rows.FnExactFetchCardSaid :=
  Claim7.holds_tied_plain_at .later [] _ _ _ _ said (fun _ h => by cases h) (by kernel_rfl) (fun _ h => by cases h) fnExactFetch_row_tie rfl ⟨rfl, rfl⟩ (by kernel_rfl) rfl plain (by kernel_rfl)
end Go.Proofs.YtpkhnajhamnggaaDoor.fnExactFetch

namespace Go.Proofs.YtpkhnajhamnggaaDoor
/-- For every list of places and every Word Fetch of the program answers as the specification's Fetch, the place and the trap, leaves the list as it was, and the law returns true; lists of more than 2^20 places the law passes by. The four errors of the program hold what its text lays. -/
theorem fnExactFetch_holds : Rows.FnExactFetchCardSaid := fnExactFetch.card
#print axioms fnExactFetch_holds
end Go.Proofs.YtpkhnajhamnggaaDoor
