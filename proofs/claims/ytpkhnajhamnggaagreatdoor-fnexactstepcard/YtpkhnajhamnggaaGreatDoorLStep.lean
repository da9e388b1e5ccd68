/- For every list of Ins and State Step of the program answers as the specification's Step, whole, in memory of its own, behind another call too; it leaves the list and the state as they were, and the law returns true; arguments of more than 2^20 elements the law passes by. The four errors of the program hold what its text lays (the card ties them). -/
import Derived.Test.YtpkhnajhamnggaaGreatDoorCards
import Derived.Test.YtpkhnajhamnggaaGreatDoorTie
import Derived.Test.YtpkhnajhamnggaaGreatDoorStpF
import Derived.Test.YtpkhnajhamnggaaGreatDoorStpM
import Derived.Test.YtpkhnajhamnggaaGreatDoorStpL
import Derived.Test.YtpkhnajhamnggaaGreatDoorZE
import Derived.Test.YtpkhnajhamnggaaGreatDoorZI
import Derived.Test.YtpkhnajhamnggaaGreatDoorZF
import Derived.Test.YtpkhnajhamnggaaGreatDoorZJ
import Derived.WalkKit
import Derived.ProofKit
import Derived.OpenShut
import Derived.Lib.SmallJoins
import Derived.ChangeOld
import Derived.Below
import Derived.LaidHandle
import Derived.Stop.Joined
import Derived.SevenTiedAt
import Derived.Deep.Slices
import Derived.Deep.Strs
namespace Go.Proofs.YtpkhnajhamnggaaGreatDoor.fnExactStep
open Go.ChangeShapes Go.WideShapes Go.ChangeAt Go.RowKit Go.Joins Go.Deep
set_option linter.unusedVariables false

theorem own : ownKnob Tryz.prog.godebug = none := by kernel_rfl
theorem laidOut : laidOutB Tryz.prog = true := by kernel_rfl

set_option maxRecDepth 100000 in
set_option maxHeartbeats 20000000 in
theorem walk (la0 : Option Addr) (ln0 lc0 : Nat) (LL0 : List In) (ra1 : Option Addr) (rn1 rc1 : Nat) (rx1 : Wd) (wa1 : Option Addr) (wn1 wc1 : Nat) (ga1 : Option Addr) (gn1 gc1 : Nat) (rt1 : Int) (R1 L1 : List Wd) (G1 : List Bool) (a0 a1 a2 a3 : Addr) (w : World) (hS0 : SliceI w.heap.size w la0 ln0 LL0) (hS1 : StS w ra1 rn1 wa1 wn1 ga1 gn1 R1 L1 G1) (hE : Errs a0 a1 a2 a3 w) :
    Calls Tryz.prog 3 #[.slice la0 ln0 lc0, .agg #[.slice ra1 rn1 rc1, .int .i64 rx1.n, .bool rx1.i, .int .i64 rx1.b, .int .i64 rx1.t, .int .i64 rx1.p, .int .i64 rx1.s, .slice wa1 wn1 wc1, .slice ga1 gn1 gc1, .int .i64 rt1]] w fun e w' => e = .returned (.bool true) ∧ Below w.heap.size w w' := by
  by_cases hl : ln0 ≤ 1048576
  · obtain ⟨mi, hmi, hmi0, hmi1⟩ : ∃ m : Int, Hid (m = 1048576 - (ln0 : Int)) ∧ 0 ≤ m ∧ m ≤ 1048576 := ⟨_, rfl, by omega, by omega⟩
    have szi := fun w => szInsS_any la0 ln0 lc0 w hS0.1
    simp only [if_pos hl, ← hmi.out] at szi
    have SZI := hid_mk szi
    have sz := szState_at ra1 rn1 rc1 rx1 wa1 wn1 wc1 ga1 gn1 gc1 rt1 mi hmi0 hmi1 hS1.rs.1 hS1.mem.ws.1 hS1.mem.gs.1
    clear szi
    by_cases hk : (rn1 : Int) + (wn1 : Int) + (gn1 : Int) ≤ mi
    · obtain ⟨m, hm, hm0⟩ : ∃ m : Int, Hid (m = mi - (rn1 : Int) - (wn1 : Int) - (gn1 : Int)) ∧ 0 ≤ m := ⟨_, rfl, by omega⟩
      simp only [if_pos hk, ← hm.out] at sz
      have SZ := hid_mk sz
      have hmo := hmi.out
      have hn0 : rn1 ≤ 1048576 := by omega
      have hn1 : wn1 ≤ 1048576 := by omega
      have hn2 : gn1 ≤ 1048576 := by omega
      obtain ⟨S, hSd⟩ : ∃ S, S = stpS LL0 ⟨R1, rx1, L1, G1, rt1⟩ := ⟨_, rfl⟩
      have hsl := stpS_len LL0 ⟨R1, rx1, L1, G1, rt1⟩
      rw [← hSd] at hsl
      have s1 := fun la lc a c c1 b1 d1 b2 w hL hM => specStep_any la ln0 lc LL0 a rn1 c rx1 c1 wn1 b1 d1 gn1 b2 rt1 R1 L1 G1 S hSd w hL hM
      have s2 := fun la lc a c c1 b1 d1 b2 hc w hL hM hE => implStep_any a0 a1 a2 a3 la ln0 lc LL0 a rn1 c rx1 c1 wn1 b1 d1 gn1 b2 rt1 R1 L1 G1 S hSd hc w hL hM hE
      obtain ⟨SR, SX, SL, SG, ST⟩ := S
      dsimp only at s1 s2 hsl
      obtain ⟨nr, hnr⟩ : ∃ n, n = SR.length := ⟨_, rfl⟩
      obtain ⟨nl, hnl⟩ : ∃ n, n = SL.length := ⟨_, rfl⟩
      obtain ⟨ng, hng⟩ : ∃ n, n = SG.length := ⟨_, rfl⟩
      simp only [← hnr, ← hnl, ← hng] at s1 s2 hsl
      have S1 := hid_mk s1
      have S2 := hid_mk s2
      have HE := hid_mk hE
      obtain ⟨ho0, ho1, ho2⟩ := hsl
      have hp0 : nr ≤ 1048576 := by omega
      have hp1 : nl ≤ 1048576 := by omega
      have hp2 : ng ≤ 1048576 := by omega
      obtain ⟨mk, hmk⟩ : ∃ m : Int, m = 1 + 5 * (ln0 : Int) := ⟨_, rfl⟩
      obtain ⟨mx, hmx⟩ : ∃ m : Int, m = mk + 6 * (rn1 : Int) + 6 * (wn1 : Int) + (gn1 : Int) := ⟨_, rfl⟩
      obtain ⟨mg, hmg⟩ : ∃ m : Int, m = 1 + 6 * (nr : Int) + 6 * (nl : Int) + (ng : Int) := ⟨_, rfl⟩
      have hmk1 : 1 ≤ mk := by omega
      have hmx0 : 0 ≤ mx := by omega
      have hmg0 : 0 ≤ mg := by omega
      have hmgn : (mg != mg) = false := by simp
      have hmxb : mk + 6 * (rn1 : Int) + 6 * (wn1 : Int) ≤ 16777216 := by omega
      have hmgb : 1 + 6 * (nr : Int) + 6 * (nl : Int) ≤ 16777216 := by omega
      have HMK := hid_mk hmk
      have HMX := hid_mk hmx
      have HMG := hid_mk hmg
      have H := hid_mk (((((Hold.new w).push (sliF w.heap.size la0 ln0 LL0) ⟨hS0, Nat.le_refl _⟩).push (argSF w.heap.size ra1 rn1 wa1 wn1 ga1 gn1 R1 L1 G1) hS1.arg).alloc (.cells (stl ra1 rn1 rc1 rx1 wa1 wn1 wc1 ga1 gn1 gc1 rt1).toArray 32)).push (celF w.heap.size (stl ra1 rn1 rc1 rx1 wa1 wn1 wc1 ga1 gn1 gc1 rt1)) (Cel.new w _ _))
      clear sz s1 s2 hSd hnr hnl hng hmk hmx hmg hmo hS0 hS1 hk hE ho0 ho1 ho2
      generalize hw1 : w.alloc (.cells (stl ra1 rn1 rc1 rx1 wa1 wn1 wc1 ga1 gn1 gc1 rt1).toArray 32) = w1 at H
      go_enter Tryz.func3, Tryz.ntmps3
      go_upto_region 1 with fail
      clear hw1
      go_wp2_with fail
      refine (SZI.out _).mono ?_
      rintro e w2 ⟨rfl, rfl⟩
      obtain ⟨m0, m1, m2, m3, m4, m5, m6, m7, m8, m9⟩ := (H.out.cel (.head _)).c10
      go_wp2_with fail
      refine (SZ.out _).mono ?_
      rintro e w2 ⟨rfl, hb2⟩
      replace H := hid_mk (H.out.next hb2)
      clear hb2 m0 m1 m2 m3 m4 m5 m6 m7 m8 m9 SZ SZI
      go_upto_region 8 with fail
      go_cut [6] (fun pa wx => ∃ r6 bw dbw bw1 dbw1 bw2 dbw2, pa = .pointer (some ⟨r6, 0, none⟩) ∧ Hid (Hold w wx [celF r6 (stl bw nr dbw SX bw1 nl dbw1 bw2 ng dbw2 ST), ansSF bw bw1 bw2 nr nl ng SR SL SG, celF w.heap.size (stl ra1 rn1 rc1 rx1 wa1 wn1 wc1 ga1 gn1 gc1 rt1), argSF w.heap.size ra1 rn1 wa1 wn1 ga1 gn1 R1 L1 G1, sliF w.heap.size la0 ln0 LL0]))
      case first =>
        have D0 := hid_mk H.out.drew
        refine wp_region_held_drew (S := fun w' => Hold w w' [celF w.heap.size (stl ra1 rn1 rc1 rx1 wa1 wn1 wc1 ga1 gn1 gc1 rt1), argSF w.heap.size ra1 rn1 wa1 wn1 ga1 gn1 R1 L1 G1, sliF w.heap.size la0 ln0 LL0]) (by kernel_rfl) D0.out (fun hHeld => ?_)
        generalize w2.drew = wd at D0 hHeld ⊢
        clear H
        have hwd : w.heap.size < wd.heap.size := (D0.out.cel (.head _)).lt
        have DD : Hid (∀ f ∈ [celF w.heap.size (stl ra1 rn1 rc1 rx1 wa1 wn1 wc1 ga1 gn1 gc1 rt1), argSF w.heap.size ra1 rn1 wa1 wn1 ga1 gn1 R1 L1 G1, sliF w.heap.size la0 ln0 LL0], ∀ k, f.S k → k < wd.heap.size) := fun f hf k hk => by
          simp only [List.mem_cons, List.not_mem_nil, or_false] at hf
          rcases hf with rfl | rfl | rfl
          · have := (D0.out.cel (.head _)).lt; simp only [celF] at hk; omega
          · simp only [argSF] at hk; omega
          · simp only [sliF] at hk; omega
        refine take_on (i := 0) (d := 24) (v := .slice la0 ln0 lc0) rfl rfl (by kernel_rfl) (by kernel_rfl) (by kernel_rfl) (fun _ _ _ h => h) (by rfl) ?_ hHeld ?_
        · (intro w' hSw; go_simp)
        simp only [Act.put, List.setIfInBounds_toArray, List.set_cons_zero, List.set_cons_succ]
        refine take_on (i := 2) (d := 26) (v := .agg (stl ra1 rn1 rc1 rx1 wa1 wn1 wc1 ga1 gn1 gc1 rt1).toArray) rfl rfl (by kernel_rfl) (by kernel_rfl) (by kernel_rfl) (fun _ _ _ h => h) (by rfl) ?_ hHeld ?_
        · exact fun w' hSw => exec_ldm (by rfl) (by rfl) ((show Hold w w' [celF w.heap.size (stl ra1 rn1 rc1 rx1 wa1 wn1 wc1 ga1 gn1 gc1 rt1), argSF w.heap.size ra1 rn1 wa1 wn1 ga1 gn1 R1 L1 G1, sliF w.heap.size la0 ln0 LL0] from hSw).cel (.head _)).range Tryz.underlying32 rfl (by kernel_rfl)
        simp only [Act.put, List.setIfInBounds_toArray, List.set_cons_zero, List.set_cons_succ]
        refine wpAnyH_ready (rs := [1, 5]) (by kernel_rfl) (by simp) ?_
        refine AllReadyH.cons rfl (fun K hK => ?_) (AllReadyH.cons rfl (fun K hK => ?_) AllReadyH.nil)
        · go_simp
          refine (toInsS_own _ _ _ LL0 _ hl (D0.out.sli (.tail _ (.tail _ (.head _))))).mono ?_
          rintro e v1 ⟨qt, rfl, hQ, _, hb⟩
          have z1 := hb.size
          have J1 := hid_mk ((D0.out.next hb).push (lstF qt ln0 LL0) hQ)
          clear hb hQ
          refine hK.out _ _ J1.out.tail (fun hHeld => ?_)
          clear hK K
          (try simp only [Act.put]); (try simp only [List.setIfInBounds_toArray]); (try simp only [List.set_cons_succ]); (try simp only [List.set_cons_zero]); (try simp only [List.set_cons_succ]); (try simp only [List.set_cons_zero]); (try simp only [Nat.zero_add])
          refine wpAnyH_ready (rs := [3, 5]) (by kernel_rfl) (by simp) ?_
          refine AllReadyH.cons rfl (fun K hK => ?_) (AllReadyH.cons rfl (fun K hK => ?_) AllReadyH.nil)
          · go_simp
            refine (toState_ans _ _ _ _ _ _ _ _ _ _ _ R1 L1 G1 _ hn0 hn1 hn2 (J1.out.argS (.tail _ (.tail _ (.head _))))).mono ?_
            rintro e v2 ⟨bt, bt1, bt2, rfl, hA, _, hb⟩
            have z2 := hb.size
            have J2 := hid_mk ((J1.out.next hb).push (ansSF bt bt1 bt2 rn1 wn1 gn1 R1 L1 G1) hA)
            clear hb hA
            refine hK.out _ _ J2.out.tail.tail (fun hHeld => ?_)
            clear hK K
            (try simp only [Act.put]); (try simp only [List.setIfInBounds_toArray]); (try simp only [List.set_cons_succ]); (try simp only [List.set_cons_zero]); (try simp only [List.set_cons_succ]); (try simp only [List.set_cons_zero]); (try simp only [Nat.zero_add])
            refine wpAnyH_ready (rs := [4, 5]) (by kernel_rfl) (by simp) ?_
            refine AllReadyH.cons rfl (fun K hK => ?_) (AllReadyH.cons rfl (fun K hK => ?_) AllReadyH.nil)
            · go_simp
              refine (S1.out _ _ _ _ _ _ _ _ _ (J2.out.lsl (.tail _ (.head _)) hl) ((J2.out.ansS (.head _)).sts hn0 hn1 hn2)).mono ?_
              rintro e v3 ⟨bw, dbw, bw1, dbw1, bw2, dbw2, rfl, _, hA, hf, hb⟩
              have z3 := hb.size
              have QN := hid_mk (fun k hk => And.intro (hf k hk) (hA.lt (k := k) hk))
              have J3 := hid_mk ((J2.out.next hb).push (ansSF bw bw1 bw2 nr nl ng SR SL SG) hA)
              clear hb hA hf
              refine hK.out _ _ J3.out.tail.tail.tail (fun hHeld => ?_)
              clear hK K
              (try simp only [Act.put]); (try simp only [List.setIfInBounds_toArray]); (try simp only [List.set_cons_succ]); (try simp only [List.set_cons_zero]); (try simp only [List.set_cons_succ]); (try simp only [List.set_cons_zero]); (try simp only [Nat.zero_add])
              refine wpAnyH_ready (rs := [5]) (by kernel_rfl) (by simp) ?_
              refine AllReadyH.cons rfl (fun K hK => ?_) AllReadyH.nil
              go_simp
              have J4 := hid_mk (J3.out.box ([.slice none 0 0, .int .i64 0, .bool false, .int .i64 0, .int .i64 0, .int .i64 0, .int .i64 0, .slice none 0 0, .slice none 0 0, .int .i64 0] : List Value) 42 v3.heap.size rfl)
              refine hK.out _ _ J4.out.tail.tail.tail.tail (fun hHeld => ?_)
              clear hK K
              (try simp only [Act.put]); (try simp only [List.setIfInBounds_toArray]); (try simp only [List.set_cons_succ]); (try simp only [List.set_cons_zero]); (try simp only [List.set_cons_succ]); (try simp only [List.set_cons_zero]); (try simp only [Nat.zero_add])
              obtain ⟨r6, hr6⟩ : ∃ r, r = v3.heap.size := ⟨_, rfl⟩
              have zy : wd.heap.size ≤ r6 ∧ v3.heap.size ≤ r6 := by omega
              rw [← hr6] at J4 ⊢
              clear hr6
              generalize v3.alloc (.cells ([.slice none 0 0, .int .i64 0, .bool false, .int .i64 0, .int .i64 0, .int .i64 0, .int .i64 0, .slice none 0 0, .slice none 0 0, .int .i64 0] : List Value).toArray 42) = v4 at J4 hHeld ⊢
              have zA : r6 < v4.heap.size := (J4.out.cel (.head _)).lt
              have J5 := hid_mk (J4.out.sub (gs := [celF r6 ([.slice none 0 0, .int .i64 0, .bool false, .int .i64 0, .int .i64 0, .int .i64 0, .int .i64 0, .slice none 0 0, .slice none 0 0, .int .i64 0]), ansSF bw bw1 bw2 nr nl ng SR SL SG, celF w.heap.size (stl ra1 rn1 rc1 rx1 wa1 wn1 wc1 ga1 gn1 gc1 rt1), argSF w.heap.size ra1 rn1 wa1 wn1 ga1 gn1 R1 L1 G1, sliF w.heap.size la0 ln0 LL0]) (fun f hf => by simp only [List.mem_cons, List.not_mem_nil, or_false] at hf ⊢; rcases hf with rfl | rfl | rfl | rfl | rfl; exact .inl rfl; exact .inr (.inl rfl); exact .inr (.inr (.inr (.inr (.inl rfl)))); exact .inr (.inr (.inr (.inr (.inr (.inl rfl))))); exact .inr (.inr (.inr (.inr (.inr (.inr rfl)))))))
              have TH : Hid (v4.there r6 0 10) := (J5.out.cel (.head _)).there
              have HS : Hid (Hold w (v4.setCells r6 0 (stl bw nr dbw SX bw1 nl dbw1 bw2 ng dbw2 ST)) [celF r6 (stl bw nr dbw SX bw1 nl dbw1 bw2 ng dbw2 ST), ansSF bw bw1 bw2 nr nl ng SR SL SG, celF w.heap.size (stl ra1 rn1 rc1 rx1 wa1 wn1 wc1 ga1 gn1 gc1 rt1), argSF w.heap.size ra1 rn1 wa1 wn1 ga1 gn1 R1 L1 G1, sliF w.heap.size la0 ln0 LL0]) := J5.out.sets (stl bw nr dbw SX bw1 nl dbw1 bw2 ng dbw2 ST) (by omega) (fun f hf k hk => (List.mem_cons.1 hf).elim (fun e => by subst e; have := QN.out k hk; omega) (fun h => by have := DD.out f h k hk; omega)) rfl
              refine wpAnyH_ready (rs := [6]) (by kernel_rfl) (by simp) ?_
              refine AllReadyH.cons rfl (fun K hK => ?_) AllReadyH.nil
              refine step_stm (by rfl) 42 _ _ (by rfl) r6 0 (stl bw nr dbw SX bw1 nl dbw1 bw2 ng dbw2 ST).toArray (by rfl) (by rfl) TH.out sizeSt (stl_one _ _ _ _ _ _ _ _ _ _ _) ?_
              refine hK.out _ _ HS.out.tail.tail (fun hHeld => ?_)
              clear hK K
              refine wpAnyH_done (by kernel_rfl) ?_ _
              clear hHeld
              dsimp only
              generalize v4.setCells r6 0 (stl bw nr dbw SX bw1 nl dbw1 bw2 ng dbw2 ST) = wz at HS ⊢
              go_wp2_with fail
              go_meet
              case rel => exact ⟨_, _, _, _, _, _, _, rfl, HS.out⟩
            · go_simp
              have J3 := hid_mk (J2.out.box ([.slice none 0 0, .int .i64 0, .bool false, .int .i64 0, .int .i64 0, .int .i64 0, .int .i64 0, .slice none 0 0, .slice none 0 0, .int .i64 0] : List Value) 42 v2.heap.size rfl)
              refine hK.out _ _ J3.out.tail.tail.tail (fun hHeld => ?_)
              clear hK K
              (try simp only [Act.put]); (try simp only [List.setIfInBounds_toArray]); (try simp only [List.set_cons_succ]); (try simp only [List.set_cons_zero]); (try simp only [List.set_cons_succ]); (try simp only [List.set_cons_zero]); (try simp only [Nat.zero_add])
              obtain ⟨r6, hr6⟩ : ∃ r, r = v2.heap.size := ⟨_, rfl⟩
              have zy : wd.heap.size ≤ r6 ∧ v2.heap.size ≤ r6 := by omega
              rw [← hr6] at J3 ⊢
              clear hr6
              generalize v2.alloc (.cells ([.slice none 0 0, .int .i64 0, .bool false, .int .i64 0, .int .i64 0, .int .i64 0, .int .i64 0, .slice none 0 0, .slice none 0 0, .int .i64 0] : List Value).toArray 42) = v3 at J3 hHeld ⊢
              have zA : r6 < v3.heap.size := (J3.out.cel (.head _)).lt
              refine wpAnyH_ready (rs := [4]) (by kernel_rfl) (by simp) ?_
              refine AllReadyH.cons rfl (fun K hK => ?_) AllReadyH.nil
              go_simp
              refine (S1.out _ _ _ _ _ _ _ _ _ (J3.out.lsl (.tail _ (.tail _ (.head _))) hl) ((J3.out.ansS (.tail _ (.head _))).sts hn0 hn1 hn2)).mono ?_
              rintro e v4 ⟨bw, dbw, bw1, dbw1, bw2, dbw2, rfl, _, hA, hf, hb⟩
              have z4 := hb.size
              have QN := hid_mk (fun k hk => And.intro (hf k hk) (hA.lt (k := k) hk))
              have J4 := hid_mk ((J3.out.next hb).push (ansSF bw bw1 bw2 nr nl ng SR SL SG) hA)
              clear hb hA hf
              refine hK.out _ _ J4.out.tail.tail.tail.tail (fun hHeld => ?_)
              clear hK K
              (try simp only [Act.put]); (try simp only [List.setIfInBounds_toArray]); (try simp only [List.set_cons_succ]); (try simp only [List.set_cons_zero]); (try simp only [List.set_cons_succ]); (try simp only [List.set_cons_zero]); (try simp only [Nat.zero_add])
              have J5 := hid_mk (J4.out.sub (gs := [celF r6 ([.slice none 0 0, .int .i64 0, .bool false, .int .i64 0, .int .i64 0, .int .i64 0, .int .i64 0, .slice none 0 0, .slice none 0 0, .int .i64 0]), ansSF bw bw1 bw2 nr nl ng SR SL SG, celF w.heap.size (stl ra1 rn1 rc1 rx1 wa1 wn1 wc1 ga1 gn1 gc1 rt1), argSF w.heap.size ra1 rn1 wa1 wn1 ga1 gn1 R1 L1 G1, sliF w.heap.size la0 ln0 LL0]) (fun f hf => by simp only [List.mem_cons, List.not_mem_nil, or_false] at hf ⊢; rcases hf with rfl | rfl | rfl | rfl | rfl; exact .inr (.inl rfl); exact .inl rfl; exact .inr (.inr (.inr (.inr (.inl rfl)))); exact .inr (.inr (.inr (.inr (.inr (.inl rfl))))); exact .inr (.inr (.inr (.inr (.inr (.inr rfl)))))))
              have TH : Hid (v4.there r6 0 10) := (J5.out.cel (.head _)).there
              have HS : Hid (Hold w (v4.setCells r6 0 (stl bw nr dbw SX bw1 nl dbw1 bw2 ng dbw2 ST)) [celF r6 (stl bw nr dbw SX bw1 nl dbw1 bw2 ng dbw2 ST), ansSF bw bw1 bw2 nr nl ng SR SL SG, celF w.heap.size (stl ra1 rn1 rc1 rx1 wa1 wn1 wc1 ga1 gn1 gc1 rt1), argSF w.heap.size ra1 rn1 wa1 wn1 ga1 gn1 R1 L1 G1, sliF w.heap.size la0 ln0 LL0]) := J5.out.sets (stl bw nr dbw SX bw1 nl dbw1 bw2 ng dbw2 ST) (by omega) (fun f hf k hk => (List.mem_cons.1 hf).elim (fun e => by subst e; have := QN.out k hk; omega) (fun h => by have := DD.out f h k hk; omega)) rfl
              refine wpAnyH_ready (rs := [6]) (by kernel_rfl) (by simp) ?_
              refine AllReadyH.cons rfl (fun K hK => ?_) AllReadyH.nil
              refine step_stm (by rfl) 42 _ _ (by rfl) r6 0 (stl bw nr dbw SX bw1 nl dbw1 bw2 ng dbw2 ST).toArray (by rfl) (by rfl) TH.out sizeSt (stl_one _ _ _ _ _ _ _ _ _ _ _) ?_
              refine hK.out _ _ HS.out.tail.tail (fun hHeld => ?_)
              clear hK K
              refine wpAnyH_done (by kernel_rfl) ?_ _
              clear hHeld
              dsimp only
              generalize v4.setCells r6 0 (stl bw nr dbw SX bw1 nl dbw1 bw2 ng dbw2 ST) = wz at HS ⊢
              go_wp2_with fail
              go_meet
              case rel => exact ⟨_, _, _, _, _, _, _, rfl, HS.out⟩
          · go_simp
            have J2 := hid_mk (J1.out.box ([.slice none 0 0, .int .i64 0, .bool false, .int .i64 0, .int .i64 0, .int .i64 0, .int .i64 0, .slice none 0 0, .slice none 0 0, .int .i64 0] : List Value) 42 v1.heap.size rfl)
            refine hK.out _ _ J2.out.tail.tail (fun hHeld => ?_)
            clear hK K
            (try simp only [Act.put]); (try simp only [List.setIfInBounds_toArray]); (try simp only [List.set_cons_succ]); (try simp only [List.set_cons_zero]); (try simp only [List.set_cons_succ]); (try simp only [List.set_cons_zero]); (try simp only [Nat.zero_add])
            obtain ⟨r6, hr6⟩ : ∃ r, r = v1.heap.size := ⟨_, rfl⟩
            have zy : wd.heap.size ≤ r6 ∧ v1.heap.size ≤ r6 := by omega
            rw [← hr6] at J2 ⊢
            clear hr6
            generalize v1.alloc (.cells ([.slice none 0 0, .int .i64 0, .bool false, .int .i64 0, .int .i64 0, .int .i64 0, .int .i64 0, .slice none 0 0, .slice none 0 0, .int .i64 0] : List Value).toArray 42) = v2 at J2 hHeld ⊢
            have zA : r6 < v2.heap.size := (J2.out.cel (.head _)).lt
            refine wpAnyH_ready (rs := [3]) (by kernel_rfl) (by simp) ?_
            refine AllReadyH.cons rfl (fun K hK => ?_) AllReadyH.nil
            go_simp
            refine (toState_ans _ _ _ _ _ _ _ _ _ _ _ R1 L1 G1 _ hn0 hn1 hn2 (J2.out.argS (.tail _ (.tail _ (.tail _ (.head _)))))).mono ?_
            rintro e v3 ⟨bt, bt1, bt2, rfl, hA, _, hb⟩
            have z3 := hb.size
            have J3 := hid_mk ((J2.out.next hb).push (ansSF bt bt1 bt2 rn1 wn1 gn1 R1 L1 G1) hA)
            clear hb hA
            refine hK.out _ _ J3.out.tail.tail.tail (fun hHeld => ?_)
            clear hK K
            (try simp only [Act.put]); (try simp only [List.setIfInBounds_toArray]); (try simp only [List.set_cons_succ]); (try simp only [List.set_cons_zero]); (try simp only [List.set_cons_succ]); (try simp only [List.set_cons_zero]); (try simp only [Nat.zero_add])
            refine wpAnyH_ready (rs := [4]) (by kernel_rfl) (by simp) ?_
            refine AllReadyH.cons rfl (fun K hK => ?_) AllReadyH.nil
            go_simp
            refine (S1.out _ _ _ _ _ _ _ _ _ (J3.out.lsl (.tail _ (.tail _ (.head _))) hl) ((J3.out.ansS (.head _)).sts hn0 hn1 hn2)).mono ?_
            rintro e v4 ⟨bw, dbw, bw1, dbw1, bw2, dbw2, rfl, _, hA, hf, hb⟩
            have z4 := hb.size
            have QN := hid_mk (fun k hk => And.intro (hf k hk) (hA.lt (k := k) hk))
            have J4 := hid_mk ((J3.out.next hb).push (ansSF bw bw1 bw2 nr nl ng SR SL SG) hA)
            clear hb hA hf
            refine hK.out _ _ J4.out.tail.tail.tail.tail (fun hHeld => ?_)
            clear hK K
            (try simp only [Act.put]); (try simp only [List.setIfInBounds_toArray]); (try simp only [List.set_cons_succ]); (try simp only [List.set_cons_zero]); (try simp only [List.set_cons_succ]); (try simp only [List.set_cons_zero]); (try simp only [Nat.zero_add])
            have J5 := hid_mk (J4.out.sub (gs := [celF r6 ([.slice none 0 0, .int .i64 0, .bool false, .int .i64 0, .int .i64 0, .int .i64 0, .int .i64 0, .slice none 0 0, .slice none 0 0, .int .i64 0]), ansSF bw bw1 bw2 nr nl ng SR SL SG, celF w.heap.size (stl ra1 rn1 rc1 rx1 wa1 wn1 wc1 ga1 gn1 gc1 rt1), argSF w.heap.size ra1 rn1 wa1 wn1 ga1 gn1 R1 L1 G1, sliF w.heap.size la0 ln0 LL0]) (fun f hf => by simp only [List.mem_cons, List.not_mem_nil, or_false] at hf ⊢; rcases hf with rfl | rfl | rfl | rfl | rfl; exact .inr (.inr (.inl rfl)); exact .inl rfl; exact .inr (.inr (.inr (.inr (.inl rfl)))); exact .inr (.inr (.inr (.inr (.inr (.inl rfl))))); exact .inr (.inr (.inr (.inr (.inr (.inr rfl)))))))
            have TH : Hid (v4.there r6 0 10) := (J5.out.cel (.head _)).there
            have HS : Hid (Hold w (v4.setCells r6 0 (stl bw nr dbw SX bw1 nl dbw1 bw2 ng dbw2 ST)) [celF r6 (stl bw nr dbw SX bw1 nl dbw1 bw2 ng dbw2 ST), ansSF bw bw1 bw2 nr nl ng SR SL SG, celF w.heap.size (stl ra1 rn1 rc1 rx1 wa1 wn1 wc1 ga1 gn1 gc1 rt1), argSF w.heap.size ra1 rn1 wa1 wn1 ga1 gn1 R1 L1 G1, sliF w.heap.size la0 ln0 LL0]) := J5.out.sets (stl bw nr dbw SX bw1 nl dbw1 bw2 ng dbw2 ST) (by omega) (fun f hf k hk => (List.mem_cons.1 hf).elim (fun e => by subst e; have := QN.out k hk; omega) (fun h => by have := DD.out f h k hk; omega)) rfl
            refine wpAnyH_ready (rs := [6]) (by kernel_rfl) (by simp) ?_
            refine AllReadyH.cons rfl (fun K hK => ?_) AllReadyH.nil
            refine step_stm (by rfl) 42 _ _ (by rfl) r6 0 (stl bw nr dbw SX bw1 nl dbw1 bw2 ng dbw2 ST).toArray (by rfl) (by rfl) TH.out sizeSt (stl_one _ _ _ _ _ _ _ _ _ _ _) ?_
            refine hK.out _ _ HS.out.tail.tail (fun hHeld => ?_)
            clear hK K
            refine wpAnyH_done (by kernel_rfl) ?_ _
            clear hHeld
            dsimp only
            generalize v4.setCells r6 0 (stl bw nr dbw SX bw1 nl dbw1 bw2 ng dbw2 ST) = wz at HS ⊢
            go_wp2_with fail
            go_meet
            case rel => exact ⟨_, _, _, _, _, _, _, rfl, HS.out⟩
        · go_simp
          have J1 := hid_mk (D0.out.box ([.slice none 0 0, .int .i64 0, .bool false, .int .i64 0, .int .i64 0, .int .i64 0, .int .i64 0, .slice none 0 0, .slice none 0 0, .int .i64 0] : List Value) 42 wd.heap.size rfl)
          refine hK.out _ _ J1.out.tail (fun hHeld => ?_)
          clear hK K
          (try simp only [Act.put]); (try simp only [List.setIfInBounds_toArray]); (try simp only [List.set_cons_succ]); (try simp only [List.set_cons_zero]); (try simp only [List.set_cons_succ]); (try simp only [List.set_cons_zero]); (try simp only [Nat.zero_add])
          obtain ⟨r6, hr6⟩ : ∃ r, r = wd.heap.size := ⟨_, rfl⟩
          have zy : wd.heap.size ≤ r6 ∧ wd.heap.size ≤ r6 := by omega
          rw [← hr6] at J1 ⊢
          clear hr6
          generalize wd.alloc (.cells ([.slice none 0 0, .int .i64 0, .bool false, .int .i64 0, .int .i64 0, .int .i64 0, .int .i64 0, .slice none 0 0, .slice none 0 0, .int .i64 0] : List Value).toArray 42) = v1 at J1 hHeld ⊢
          have zA : r6 < v1.heap.size := (J1.out.cel (.head _)).lt
          refine wpAnyH_ready (rs := [1]) (by kernel_rfl) (by simp) ?_
          refine AllReadyH.cons rfl (fun K hK => ?_) AllReadyH.nil
          go_simp
          refine (toInsS_own _ _ _ LL0 _ hl (J1.out.sli (.tail _ (.tail _ (.tail _ (.head _)))))).mono ?_
          rintro e v2 ⟨qt, rfl, hQ, _, hb⟩
          have z2 := hb.size
          have J2 := hid_mk ((J1.out.next hb).push (lstF qt ln0 LL0) hQ)
          clear hb hQ
          refine hK.out _ _ J2.out.tail.tail (fun hHeld => ?_)
          clear hK K
          (try simp only [Act.put]); (try simp only [List.setIfInBounds_toArray]); (try simp only [List.set_cons_succ]); (try simp only [List.set_cons_zero]); (try simp only [List.set_cons_succ]); (try simp only [List.set_cons_zero]); (try simp only [Nat.zero_add])
          refine wpAnyH_ready (rs := [3]) (by kernel_rfl) (by simp) ?_
          refine AllReadyH.cons rfl (fun K hK => ?_) AllReadyH.nil
          go_simp
          refine (toState_ans _ _ _ _ _ _ _ _ _ _ _ R1 L1 G1 _ hn0 hn1 hn2 (J2.out.argS (.tail _ (.tail _ (.tail _ (.head _)))))).mono ?_
          rintro e v3 ⟨bt, bt1, bt2, rfl, hA, _, hb⟩
          have z3 := hb.size
          have J3 := hid_mk ((J2.out.next hb).push (ansSF bt bt1 bt2 rn1 wn1 gn1 R1 L1 G1) hA)
          clear hb hA
          refine hK.out _ _ J3.out.tail.tail.tail (fun hHeld => ?_)
          clear hK K
          (try simp only [Act.put]); (try simp only [List.setIfInBounds_toArray]); (try simp only [List.set_cons_succ]); (try simp only [List.set_cons_zero]); (try simp only [List.set_cons_succ]); (try simp only [List.set_cons_zero]); (try simp only [Nat.zero_add])
          refine wpAnyH_ready (rs := [4]) (by kernel_rfl) (by simp) ?_
          refine AllReadyH.cons rfl (fun K hK => ?_) AllReadyH.nil
          go_simp
          refine (S1.out _ _ _ _ _ _ _ _ _ (J3.out.lsl (.tail _ (.head _)) hl) ((J3.out.ansS (.head _)).sts hn0 hn1 hn2)).mono ?_
          rintro e v4 ⟨bw, dbw, bw1, dbw1, bw2, dbw2, rfl, _, hA, hf, hb⟩
          have z4 := hb.size
          have QN := hid_mk (fun k hk => And.intro (hf k hk) (hA.lt (k := k) hk))
          have J4 := hid_mk ((J3.out.next hb).push (ansSF bw bw1 bw2 nr nl ng SR SL SG) hA)
          clear hb hA hf
          refine hK.out _ _ J4.out.tail.tail.tail.tail (fun hHeld => ?_)
          clear hK K
          (try simp only [Act.put]); (try simp only [List.setIfInBounds_toArray]); (try simp only [List.set_cons_succ]); (try simp only [List.set_cons_zero]); (try simp only [List.set_cons_succ]); (try simp only [List.set_cons_zero]); (try simp only [Nat.zero_add])
          have J5 := hid_mk (J4.out.sub (gs := [celF r6 ([.slice none 0 0, .int .i64 0, .bool false, .int .i64 0, .int .i64 0, .int .i64 0, .int .i64 0, .slice none 0 0, .slice none 0 0, .int .i64 0]), ansSF bw bw1 bw2 nr nl ng SR SL SG, celF w.heap.size (stl ra1 rn1 rc1 rx1 wa1 wn1 wc1 ga1 gn1 gc1 rt1), argSF w.heap.size ra1 rn1 wa1 wn1 ga1 gn1 R1 L1 G1, sliF w.heap.size la0 ln0 LL0]) (fun f hf => by simp only [List.mem_cons, List.not_mem_nil, or_false] at hf ⊢; rcases hf with rfl | rfl | rfl | rfl | rfl; exact .inr (.inr (.inr (.inl rfl))); exact .inl rfl; exact .inr (.inr (.inr (.inr (.inl rfl)))); exact .inr (.inr (.inr (.inr (.inr (.inl rfl))))); exact .inr (.inr (.inr (.inr (.inr (.inr rfl)))))))
          have TH : Hid (v4.there r6 0 10) := (J5.out.cel (.head _)).there
          have HS : Hid (Hold w (v4.setCells r6 0 (stl bw nr dbw SX bw1 nl dbw1 bw2 ng dbw2 ST)) [celF r6 (stl bw nr dbw SX bw1 nl dbw1 bw2 ng dbw2 ST), ansSF bw bw1 bw2 nr nl ng SR SL SG, celF w.heap.size (stl ra1 rn1 rc1 rx1 wa1 wn1 wc1 ga1 gn1 gc1 rt1), argSF w.heap.size ra1 rn1 wa1 wn1 ga1 gn1 R1 L1 G1, sliF w.heap.size la0 ln0 LL0]) := J5.out.sets (stl bw nr dbw SX bw1 nl dbw1 bw2 ng dbw2 ST) (by omega) (fun f hf k hk => (List.mem_cons.1 hf).elim (fun e => by subst e; have := QN.out k hk; omega) (fun h => by have := DD.out f h k hk; omega)) rfl
          refine wpAnyH_ready (rs := [6]) (by kernel_rfl) (by simp) ?_
          refine AllReadyH.cons rfl (fun K hK => ?_) AllReadyH.nil
          refine step_stm (by rfl) 42 _ _ (by rfl) r6 0 (stl bw nr dbw SX bw1 nl dbw1 bw2 ng dbw2 ST).toArray (by rfl) (by rfl) TH.out sizeSt (stl_one _ _ _ _ _ _ _ _ _ _ _) ?_
          refine hK.out _ _ HS.out.tail.tail (fun hHeld => ?_)
          clear hK K
          refine wpAnyH_done (by kernel_rfl) ?_ _
          clear hHeld
          dsimp only
          generalize v4.setCells r6 0 (stl bw nr dbw SX bw1 nl dbw1 bw2 ng dbw2 ST) = wz at HS ⊢
          go_wp2_with fail
          go_meet
          case rel => exact ⟨_, _, _, _, _, _, _, rfl, HS.out⟩
      case' rest =>
        obtain ⟨r6, bw, dbw, bw1, dbw1, bw2, dbw2, rfl, H⟩ := hcut
        have QW0 := hid_mk (fun k hk => (H.out.ansS (.tail _ (.head _))).lt (k := k) hk)
        have hz1 : r6 < wc.heap.size := (H.out.cel (.head _)).lt
        have hz2 : w.heap.size < wc.heap.size := (H.out.cel (.tail _ (.tail _ (.head _)))).lt
        go_wp2_with fail
        refine (toInsS_own _ _ _ LL0 _ hl (H.out.sli (.tail _ (.tail _ (.tail _ (.tail _ (.head _))))))).mono ?_
        rintro e w6 ⟨q0, rfl, hQ, hq, hb⟩
        have hz3 : q0 < w6.heap.size := hQ.1.lt
        replace H := hid_mk ((H.out.next hb).push (lstF q0 ln0 LL0) hQ)
        clear hb hQ
        generalize wc.heap.size = z5 at QW0 hz1 hz2 hq
        obtain ⟨m0, m1, m2, m3, m4, m5, m6, m7, m8, m9⟩ := (H.out.cel (.tail _ (.tail _ (.tail _ (.head _))))).c10
        go_wp2_with fail
        refine (toState_ans _ _ _ _ _ _ _ _ _ _ _ R1 L1 G1 _ hn0 hn1 hn2 (H.out.argS (.tail _ (.tail _ (.tail _ (.tail _ (.head _))))))).mono ?_
        rintro e w7 ⟨bx, bx1, bx2, rfl, A7, hg7, hb7⟩
        have QX0 := hid_mk (fun k hk => And.intro (hg7 k hk) (A7.lt (k := k) hk))
        have hz4 : w6.heap.size ≤ w7.heap.size := hb7.size
        replace H := hid_mk ((((H.out.next hb7).push (ansSF bx bx1 bx2 rn1 wn1 gn1 R1 L1 G1) A7).alloc (.cells (stl bx rn1 rn1 rx1 bx1 wn1 wn1 bx2 gn1 gn1 rt1).toArray 42)).push (celF w7.heap.size (stl bx rn1 rn1 rx1 bx1 wn1 wn1 bx2 gn1 gn1 rt1)) (Cel.new _ _ _))
        clear hb7 m0 m1 m2 m3 m4 m5 m6 m7 m8 m9 hg7 A7
        go_upto_region 11 with fail
        generalize w7.alloc (.cells (stl bx rn1 rn1 rx1 bx1 wn1 wn1 bx2 gn1 gn1 rt1).toArray 42) = w8 at H ⊢
        generalize w6.heap.size = z6 at QX0 hz3 hz4
        obtain ⟨r8, hr8⟩ : ∃ r, r = w7.heap.size := ⟨_, rfl⟩
        rw [← hr8] at H QX0 hz4 ⊢
        clear hr8
        have hz5 : r8 < w8.heap.size := (H.out.cel (.head _)).lt
        obtain ⟨m0, m1, m2, m3, m4, m5, m6, m7, m8, m9⟩ := (H.out.cel (.head _)).c10
        go_wp2_with fail
        refine (S2.out _ _ _ _ _ _ _ _ (Nat.le_refl _) _ (H.out.lsl (.tail _ (.tail _ (.head _))) hl) ((H.out.ansS (.tail _ (.head _))).sts hn0 hn1 hn2) (HE.out.below H.out.bel)).mono ?_
        rintro e w9 ⟨bg, dbg, bg1, dbg1, bg2, dbg2, rfl, _, A9, hg9, hb9⟩
        have QG0 := hid_mk (fun k hk => And.intro (hg9 k hk) (A9.lt (k := k) hk))
        have hz6 : w8.heap.size ≤ w9.heap.size := hb9.size
        replace H := hid_mk ((((H.out.next hb9).push (ansSF bg bg1 bg2 nr nl ng SR SL SG) A9).alloc (.cells (stl bg nr dbg SX bg1 nl dbg1 bg2 ng dbg2 ST).toArray 42)).push (celF w9.heap.size (stl bg nr dbg SX bg1 nl dbg1 bg2 ng dbg2 ST)) (Cel.new _ _ _))
        clear hb9 m0 m1 m2 m3 m4 m5 m6 m7 m8 m9 hg9 A9
        go_upto_region 12 with fail
        generalize w9.alloc (.cells (stl bg nr dbg SX bg1 nl dbg1 bg2 ng dbg2 ST).toArray 42) = w10 at H ⊢
        generalize w8.heap.size = z8 at QG0 hz5 hz6
        obtain ⟨r9, hr9⟩ : ∃ r, r = w9.heap.size := ⟨_, rfl⟩
        rw [← hr9] at H QG0 hz6 ⊢
        clear hr9
        have HZ : Hid (r6 < z5 ∧ w.heap.size < z5 ∧ z5 ≤ q0 ∧ q0 < z6 ∧ z6 ≤ r8 ∧ r8 < z8 ∧ z8 ≤ r9) := ⟨hz1, hz2, hq, hz3, hz4, hz5, hz6⟩
        have QW : Hid (∀ k, On bw k ∨ On bw1 k ∨ On bw2 k → k < z5) := QW0.out
        have QX : Hid (∀ k, On bx k ∨ On bx1 k ∨ On bx2 k → z6 ≤ k ∧ k < r8) := QX0.out
        have QG : Hid (∀ k, On bg k ∨ On bg1 k ∨ On bg2 k → z8 ≤ k ∧ k < r9) := QG0.out
        clear QW0 QX0 QG0 hz1 hz2 hz3 hz4 hz5 hz6 hq
        obtain ⟨m0, m1, m2, m3, m4, m5, m6, m7, m8, m9⟩ := (H.out.cel (.head _)).c10
        obtain ⟨y0, y1, y2, y3, y4, y5, y6, y7, y8, y9⟩ := (H.out.cel (.tail _ (.tail _ (.tail _ (.tail _ (.tail _ (.head _))))))).c10
        go_wp2_with fail
        refine (eqState_same _ _ _ _ _ _ _ _ _ _ _ _ _ _ _ _ _ SR SL SG _ ((H.out.ansS (.tail _ (.head _))).sts hp0 hp1 hp2) ((H.out.ansS (.tail _ (.tail _ (.tail _ (.tail _ (.tail _ (.tail _ (.head _)))))))).sts hp0 hp1 hp2)).mono ?_
        rintro e w11 ⟨rfl, hb⟩
        replace H := hid_mk (H.out.next hb)
        clear hb m0 m1 m2 m3 m4 m5 m6 m7 m8 m9 y0 y1 y2 y3 y4 y5 y6 y7 y8 y9
        go_wp2_with fail
        refine (toInsS_own _ _ _ LL0 _ hl (H.out.sli (.tail _ (.tail _ (.tail _ (.tail _ (.tail _ (.tail _ (.tail _ (.tail _ (.tail _ (.head _)))))))))))).mono ?_
        rintro e w12 ⟨qt, rfl, hQ, _, hb⟩
        replace H := hid_mk (H.out.next hb)
        have IQ := hid_mk (hQ.1.slice hQ.2 (by unfold maxLen; omega))
        clear hb hQ
        go_wp2_with fail
        refine (eqInsS_same _ _ _ _ _ LL0 _ (H.out.lsl (.tail _ (.tail _ (.tail _ (.tail _ (.head _))))) hl) IQ.out).mono ?_
        rintro e w13 ⟨rfl, hb⟩
        replace H := hid_mk (H.out.next hb)
        clear hb IQ
        go_upto_region 16 with fail
        have ALL : Hid (∀ w', Hold w w' [celF r9 (stl bg nr dbg SX bg1 nl dbg1 bg2 ng dbg2 ST), ansSF bg bg1 bg2 nr nl ng SR SL SG, celF r8 (stl bx rn1 rn1 rx1 bx1 wn1 wn1 bx2 gn1 gn1 rt1), ansSF bx bx1 bx2 rn1 wn1 gn1 R1 L1 G1, lstF q0 ln0 LL0, celF r6 (stl bw nr dbw SX bw1 nl dbw1 bw2 ng dbw2 ST), ansSF bw bw1 bw2 nr nl ng SR SL SG, celF w.heap.size (stl ra1 rn1 rc1 rx1 wa1 wn1 wc1 ga1 gn1 gc1 rt1), argSF w.heap.size ra1 rn1 wa1 wn1 ga1 gn1 R1 L1 G1, sliF w.heap.size la0 ln0 LL0] → (w'.cell? ⟨r8, 0, none⟩ = some (.slice bx rn1 rn1) ∧ w'.cell? ⟨r8, 1, none⟩ = some (.int .i64 rx1.n) ∧ w'.cell? ⟨r8, 2, none⟩ = some (.bool rx1.i) ∧ w'.cell? ⟨r8, 3, none⟩ = some (.int .i64 rx1.b) ∧ w'.cell? ⟨r8, 4, none⟩ = some (.int .i64 rx1.t) ∧ w'.cell? ⟨r8, 5, none⟩ = some (.int .i64 rx1.p) ∧ w'.cell? ⟨r8, 6, none⟩ = some (.int .i64 rx1.s) ∧ w'.cell? ⟨r8, 7, none⟩ = some (.slice bx1 wn1 wn1) ∧ w'.cell? ⟨r8, 8, none⟩ = some (.slice bx2 gn1 gn1) ∧ w'.cell? ⟨r8, 9, none⟩ = some (.int .i64 rt1) ∧ w'.cell? ⟨w.heap.size, 0, none⟩ = some (.slice ra1 rn1 rc1) ∧ w'.cell? ⟨w.heap.size, 1, none⟩ = some (.int .i64 rx1.n) ∧ w'.cell? ⟨w.heap.size, 2, none⟩ = some (.bool rx1.i) ∧ w'.cell? ⟨w.heap.size, 3, none⟩ = some (.int .i64 rx1.b) ∧ w'.cell? ⟨w.heap.size, 4, none⟩ = some (.int .i64 rx1.t) ∧ w'.cell? ⟨w.heap.size, 5, none⟩ = some (.int .i64 rx1.p) ∧ w'.cell? ⟨w.heap.size, 6, none⟩ = some (.int .i64 rx1.s) ∧ w'.cell? ⟨w.heap.size, 7, none⟩ = some (.slice wa1 wn1 wc1) ∧ w'.cell? ⟨w.heap.size, 8, none⟩ = some (.slice ga1 gn1 gc1) ∧ w'.cell? ⟨w.heap.size, 9, none⟩ = some (.int .i64 rt1) ∧ Hid (Hold w w' [celF r9 (stl bg nr dbg SX bg1 nl dbg1 bg2 ng dbg2 ST), ansSF bg bg1 bg2 nr nl ng SR SL SG, celF r8 (stl bx rn1 rn1 rx1 bx1 wn1 wn1 bx2 gn1 gn1 rt1), ansSF bx bx1 bx2 rn1 wn1 gn1 R1 L1 G1, lstF q0 ln0 LL0, celF r6 (stl bw nr dbw SX bw1 nl dbw1 bw2 ng dbw2 ST), ansSF bw bw1 bw2 nr nl ng SR SL SG, celF w.heap.size (stl ra1 rn1 rc1 rx1 wa1 wn1 wc1 ga1 gn1 gc1 rt1), argSF w.heap.size ra1 rn1 wa1 wn1 ga1 gn1 R1 L1 G1, sliF w.heap.size la0 ln0 LL0]))) := fun w' h => by
          have h1 := h.cel (.tail _ (.tail _ (.head _)))
          have h2 := h.cel (.tail _ (.tail _ (.tail _ (.tail _ (.tail _ (.tail _ (.tail _ (.head _))))))))
          exact ⟨h1.c 0 _ rfl, h1.c 1 _ rfl, h1.c 2 _ rfl, h1.c 3 _ rfl, h1.c 4 _ rfl, h1.c 5 _ rfl, h1.c 6 _ rfl, h1.c 7 _ rfl, h1.c 8 _ rfl, h1.c 9 _ rfl, h2.c 0 _ rfl, h2.c 1 _ rfl, h2.c 2 _ rfl, h2.c 3 _ rfl, h2.c 4 _ rfl, h2.c 5 _ rfl, h2.c 6 _ rfl, h2.c 7 _ rfl, h2.c 8 _ rfl, h2.c 9 _ rfl, h⟩
        have GET : Hid (∀ w', (w'.cell? ⟨r8, 0, none⟩ = some (.slice bx rn1 rn1) ∧ w'.cell? ⟨r8, 1, none⟩ = some (.int .i64 rx1.n) ∧ w'.cell? ⟨r8, 2, none⟩ = some (.bool rx1.i) ∧ w'.cell? ⟨r8, 3, none⟩ = some (.int .i64 rx1.b) ∧ w'.cell? ⟨r8, 4, none⟩ = some (.int .i64 rx1.t) ∧ w'.cell? ⟨r8, 5, none⟩ = some (.int .i64 rx1.p) ∧ w'.cell? ⟨r8, 6, none⟩ = some (.int .i64 rx1.s) ∧ w'.cell? ⟨r8, 7, none⟩ = some (.slice bx1 wn1 wn1) ∧ w'.cell? ⟨r8, 8, none⟩ = some (.slice bx2 gn1 gn1) ∧ w'.cell? ⟨r8, 9, none⟩ = some (.int .i64 rt1) ∧ w'.cell? ⟨w.heap.size, 0, none⟩ = some (.slice ra1 rn1 rc1) ∧ w'.cell? ⟨w.heap.size, 1, none⟩ = some (.int .i64 rx1.n) ∧ w'.cell? ⟨w.heap.size, 2, none⟩ = some (.bool rx1.i) ∧ w'.cell? ⟨w.heap.size, 3, none⟩ = some (.int .i64 rx1.b) ∧ w'.cell? ⟨w.heap.size, 4, none⟩ = some (.int .i64 rx1.t) ∧ w'.cell? ⟨w.heap.size, 5, none⟩ = some (.int .i64 rx1.p) ∧ w'.cell? ⟨w.heap.size, 6, none⟩ = some (.int .i64 rx1.s) ∧ w'.cell? ⟨w.heap.size, 7, none⟩ = some (.slice wa1 wn1 wc1) ∧ w'.cell? ⟨w.heap.size, 8, none⟩ = some (.slice ga1 gn1 gc1) ∧ w'.cell? ⟨w.heap.size, 9, none⟩ = some (.int .i64 rt1) ∧ Hid (Hold w w' [celF r9 (stl bg nr dbg SX bg1 nl dbg1 bg2 ng dbg2 ST), ansSF bg bg1 bg2 nr nl ng SR SL SG, celF r8 (stl bx rn1 rn1 rx1 bx1 wn1 wn1 bx2 gn1 gn1 rt1), ansSF bx bx1 bx2 rn1 wn1 gn1 R1 L1 G1, lstF q0 ln0 LL0, celF r6 (stl bw nr dbw SX bw1 nl dbw1 bw2 ng dbw2 ST), ansSF bw bw1 bw2 nr nl ng SR SL SG, celF w.heap.size (stl ra1 rn1 rc1 rx1 wa1 wn1 wc1 ga1 gn1 gc1 rt1), argSF w.heap.size ra1 rn1 wa1 wn1 ga1 gn1 R1 L1 G1, sliF w.heap.size la0 ln0 LL0])) → Hold w w' [celF r9 (stl bg nr dbg SX bg1 nl dbg1 bg2 ng dbg2 ST), ansSF bg bg1 bg2 nr nl ng SR SL SG, celF r8 (stl bx rn1 rn1 rx1 bx1 wn1 wn1 bx2 gn1 gn1 rt1), ansSF bx bx1 bx2 rn1 wn1 gn1 R1 L1 G1, lstF q0 ln0 LL0, celF r6 (stl bw nr dbw SX bw1 nl dbw1 bw2 ng dbw2 ST), ansSF bw bw1 bw2 nr nl ng SR SL SG, celF w.heap.size (stl ra1 rn1 rc1 rx1 wa1 wn1 wc1 ga1 gn1 gc1 rt1), argSF w.heap.size ra1 rn1 wa1 wn1 ga1 gn1 R1 L1 G1, sliF w.heap.size la0 ln0 LL0]) := fun w' h => h.2.2.2.2.2.2.2.2.2.2.2.2.2.2.2.2.2.2.2.2
        have F0 := hid_mk H.out.drew
        clear H
        go_region_held3 (fun w' => w'.cell? ⟨r8, 0, none⟩ = some (.slice bx rn1 rn1) ∧ w'.cell? ⟨r8, 1, none⟩ = some (.int .i64 rx1.n) ∧ w'.cell? ⟨r8, 2, none⟩ = some (.bool rx1.i) ∧ w'.cell? ⟨r8, 3, none⟩ = some (.int .i64 rx1.b) ∧ w'.cell? ⟨r8, 4, none⟩ = some (.int .i64 rx1.t) ∧ w'.cell? ⟨r8, 5, none⟩ = some (.int .i64 rx1.p) ∧ w'.cell? ⟨r8, 6, none⟩ = some (.int .i64 rx1.s) ∧ w'.cell? ⟨r8, 7, none⟩ = some (.slice bx1 wn1 wn1) ∧ w'.cell? ⟨r8, 8, none⟩ = some (.slice bx2 gn1 gn1) ∧ w'.cell? ⟨r8, 9, none⟩ = some (.int .i64 rt1) ∧ w'.cell? ⟨w.heap.size, 0, none⟩ = some (.slice ra1 rn1 rc1) ∧ w'.cell? ⟨w.heap.size, 1, none⟩ = some (.int .i64 rx1.n) ∧ w'.cell? ⟨w.heap.size, 2, none⟩ = some (.bool rx1.i) ∧ w'.cell? ⟨w.heap.size, 3, none⟩ = some (.int .i64 rx1.b) ∧ w'.cell? ⟨w.heap.size, 4, none⟩ = some (.int .i64 rx1.t) ∧ w'.cell? ⟨w.heap.size, 5, none⟩ = some (.int .i64 rx1.p) ∧ w'.cell? ⟨w.heap.size, 6, none⟩ = some (.int .i64 rx1.s) ∧ w'.cell? ⟨w.heap.size, 7, none⟩ = some (.slice wa1 wn1 wc1) ∧ w'.cell? ⟨w.heap.size, 8, none⟩ = some (.slice ga1 gn1 gc1) ∧ w'.cell? ⟨w.heap.size, 9, none⟩ = some (.int .i64 rt1) ∧ Hid (Hold w w' [celF r9 (stl bg nr dbg SX bg1 nl dbg1 bg2 ng dbg2 ST), ansSF bg bg1 bg2 nr nl ng SR SL SG, celF r8 (stl bx rn1 rn1 rx1 bx1 wn1 wn1 bx2 gn1 gn1 rt1), ansSF bx bx1 bx2 rn1 wn1 gn1 R1 L1 G1, lstF q0 ln0 LL0, celF r6 (stl bw nr dbw SX bw1 nl dbw1 bw2 ng dbw2 ST), ansSF bw bw1 bw2 nr nl ng SR SL SG, celF w.heap.size (stl ra1 rn1 rc1 rx1 wa1 wn1 wc1 ga1 gn1 gc1 rt1), argSF w.heap.size ra1 rn1 wa1 wn1 ga1 gn1 R1 L1 G1, sliF w.heap.size la0 ln0 LL0]))
          (first | (with_reducible assumption) | (((with_reducible refine ALL.out _ ?_); (first | (with_reducible exact F0.out) | ((with_reducible apply Hold.next ?_ K8.out); (with_reducible exact GET.out _ (by with_reducible assumption))) | ((with_reducible apply Hold.next ?_ K9.out); (with_reducible exact GET.out _ (by with_reducible assumption))) | fail))))
          (first
            | (go_at_call 10; refine (toState_ans _ _ _ _ _ _ _ _ _ _ _ R1 L1 G1 _ hn0 hn1 hn2 ((GET.out _ (by with_reducible assumption)).argS (.tail _ (.tail _ (.tail _ (.tail _ (.tail _ (.tail _ (.tail _ (.tail _ (.head _))))))))))).mono ?_; rintro e wt ⟨b8, b8w, b8g, rfl, A8, _, hbt⟩; have K8 := hid_mk hbt; have A8 := hid_mk A8; clear hbt)
            | (go_at_call 12; refine (eqState_same _ _ _ _ _ _ _ _ _ _ _ _ _ _ _ _ _ R1 L1 G1 _ ((((GET.out _ (by with_reducible assumption)).ansS (.tail _ (.tail _ (.tail _ (.head _)))))).sts hn0 hn1 hn2) (A8.out.sts hn0 hn1 hn2)).mono ?_; rintro e wu ⟨rfl, hbu⟩; have K9 := hid_mk hbu; clear hbu))
        have H := hid_mk (GET.out _ (by with_reducible assumption))
        clear ALL GET F0 K8 K9 A8
        go_upto_region 19 with fail
        go_wp2_with fail
        refine (markI_own _ _ _ LL0 _ hl (H.out.at (f := lstF q0 ln0 LL0) (.tail _ (.tail _ (.tail _ (.tail _ (.head _))))))).mono ?_
        rintro e w17 ⟨rfl, _, hK17⟩
        rw [← HMK.out]
        have hq0 : Hid (KeptS (fun k => k = q0) _ w17) := KeptS.ofBut hK17 rfl
        replace H := hid_mk ((H.out.sub (gs := [celF r9 (stl bg nr dbg SX bg1 nl dbg1 bg2 ng dbg2 ST), ansSF bg bg1 bg2 nr nl ng SR SL SG, celF r8 (stl bx rn1 rn1 rx1 bx1 wn1 wn1 bx2 gn1 gn1 rt1), ansSF bx bx1 bx2 rn1 wn1 gn1 R1 L1 G1, celF r6 (stl bw nr dbw SX bw1 nl dbw1 bw2 ng dbw2 ST), ansSF bw bw1 bw2 nr nl ng SR SL SG, celF w.heap.size (stl ra1 rn1 rc1 rx1 wa1 wn1 wc1 ga1 gn1 gc1 rt1), argSF w.heap.size ra1 rn1 wa1 wn1 ga1 gn1 R1 L1 G1, sliF w.heap.size la0 ln0 LL0]) (fun f hf => by simp only [List.mem_cons, List.not_mem_nil, or_false] at hf ⊢; rcases hf with rfl | rfl | rfl | rfl | rfl | rfl | rfl | rfl | rfl; exact .inl rfl; exact .inr (.inl rfl); exact .inr (.inr (.inl rfl)); exact .inr (.inr (.inr (.inl rfl))); exact .inr (.inr (.inr (.inr (.inr (.inl rfl))))); exact .inr (.inr (.inr (.inr (.inr (.inr (.inl rfl)))))); exact .inr (.inr (.inr (.inr (.inr (.inr (.inr (.inl rfl))))))); exact .inr (.inr (.inr (.inr (.inr (.inr (.inr (.inr (.inl rfl)))))))); exact .inr (.inr (.inr (.inr (.inr (.inr (.inr (.inr (.inr rfl)))))))))).wrote hq0.out (fun k hk => by have := HZ.out; omega) (fun f hf k hk ht => by
            have hx := HZ.out
            have hy := ht
            simp only [List.mem_cons, List.not_mem_nil, or_false] at hf
            rcases hf with rfl | rfl | rfl | rfl | rfl | rfl | rfl | rfl | rfl
            · simp only [celF] at hk; omega
            · have := QG.out k hk; omega
            · simp only [celF] at hk; omega
            · have := QX.out k hk; omega
            · simp only [celF] at hk; omega
            · have := QW.out k hk; omega
            · simp only [celF] at hk; omega
            · simp only [argSF] at hk; omega
            · simp only [sliF] at hk; omega))
        clear hK17 hq0
        obtain ⟨m0, m1, m2, m3, m4, m5, m6, m7, m8, m9⟩ := (H.out.cel (.tail _ (.tail _ (.head _)))).c10
        go_wp2_with fail
        refine (markState_at _ _ _ _ _ _ _ _ _ _ _ R1 L1 G1 mk hmk1 hmxb hn0 hn1 hn2 _ (H.out.ansS (.tail _ (.tail _ (.tail _ (.head _)))))).mono ?_
        rintro e w18 ⟨rfl, _, hK18⟩
        rw [← HMX.out]
        replace H := hid_mk ((H.out.sub (gs := [celF r9 (stl bg nr dbg SX bg1 nl dbg1 bg2 ng dbg2 ST), ansSF bg bg1 bg2 nr nl ng SR SL SG, celF r6 (stl bw nr dbw SX bw1 nl dbw1 bw2 ng dbw2 ST), ansSF bw bw1 bw2 nr nl ng SR SL SG, celF w.heap.size (stl ra1 rn1 rc1 rx1 wa1 wn1 wc1 ga1 gn1 gc1 rt1), argSF w.heap.size ra1 rn1 wa1 wn1 ga1 gn1 R1 L1 G1, sliF w.heap.size la0 ln0 LL0]) (fun f hf => by simp only [List.mem_cons, List.not_mem_nil, or_false] at hf ⊢; rcases hf with rfl | rfl | rfl | rfl | rfl | rfl | rfl; exact .inl rfl; exact .inr (.inl rfl); exact .inr (.inr (.inr (.inr (.inl rfl)))); exact .inr (.inr (.inr (.inr (.inr (.inl rfl))))); exact .inr (.inr (.inr (.inr (.inr (.inr (.inl rfl)))))); exact .inr (.inr (.inr (.inr (.inr (.inr (.inr (.inl rfl))))))); exact .inr (.inr (.inr (.inr (.inr (.inr (.inr (.inr rfl))))))))).wrote hK18 (fun k hk => by have := QX.out k hk; have := HZ.out; omega) (fun f hf k hk ht => by
            have hx := HZ.out
            have hy := QX.out k ht
            simp only [List.mem_cons, List.not_mem_nil, or_false] at hf
            rcases hf with rfl | rfl | rfl | rfl | rfl | rfl | rfl
            · simp only [celF] at hk; omega
            · have := QG.out k hk; omega
            · simp only [celF] at hk; omega
            · have := QW.out k hk; omega
            · simp only [celF] at hk; omega
            · simp only [argSF] at hk; omega
            · simp only [sliF] at hk; omega))
        clear hK18 m0 m1 m2 m3 m4 m5 m6 m7 m8 m9
        obtain ⟨m0, m1, m2, m3, m4, m5, m6, m7, m8, m9⟩ := (H.out.cel (.head _)).c10
        obtain ⟨y0, y1, y2, y3, y4, y5, y6, y7, y8, y9⟩ := (H.out.cel (.tail _ (.tail _ (.head _)))).c10
        go_wp2_with fail
        refine (eqState_same _ _ _ _ _ _ _ _ _ _ _ _ _ _ _ _ _ SR SL SG _ ((H.out.ansS (.tail _ (.head _))).sts hp0 hp1 hp2) ((H.out.ansS (.tail _ (.tail _ (.tail _ (.head _))))).sts hp0 hp1 hp2)).mono ?_
        rintro e w19 ⟨rfl, hb⟩
        replace H := hid_mk (H.out.next hb)
        clear hb m0 m1 m2 m3 m4 m5 m6 m7 m8 m9 y0 y1 y2 y3 y4 y5 y6 y7 y8 y9
        obtain ⟨m0, m1, m2, m3, m4, m5, m6, m7, m8, m9⟩ := (H.out.cel (.head _)).c10
        go_wp2_with fail
        refine (markState_at _ _ _ _ _ _ _ _ _ _ _ SR SL SG 1 (by decide) hmgb hp0 hp1 hp2 _ (H.out.ansS (.tail _ (.head _)))).mono ?_
        rintro e w20 ⟨rfl, AM, hK20⟩
        rw [← HMG.out]
        replace H := hid_mk (((H.out.sub (gs := [celF r9 (stl bg nr dbg SX bg1 nl dbg1 bg2 ng dbg2 ST), celF r6 (stl bw nr dbw SX bw1 nl dbw1 bw2 ng dbw2 ST), ansSF bw bw1 bw2 nr nl ng SR SL SG, celF w.heap.size (stl ra1 rn1 rc1 rx1 wa1 wn1 wc1 ga1 gn1 gc1 rt1), argSF w.heap.size ra1 rn1 wa1 wn1 ga1 gn1 R1 L1 G1, sliF w.heap.size la0 ln0 LL0]) (fun f hf => by simp only [List.mem_cons, List.not_mem_nil, or_false] at hf ⊢; rcases hf with rfl | rfl | rfl | rfl | rfl | rfl; exact .inl rfl; exact .inr (.inr (.inl rfl)); exact .inr (.inr (.inr (.inl rfl))); exact .inr (.inr (.inr (.inr (.inl rfl)))); exact .inr (.inr (.inr (.inr (.inr (.inl rfl))))); exact .inr (.inr (.inr (.inr (.inr (.inr rfl))))))).wrote hK20 (fun k hk => by have := QG.out k hk; have := HZ.out; omega) (fun f hf k hk ht => by
            have hx := HZ.out
            have hy := QG.out k ht
            simp only [List.mem_cons, List.not_mem_nil, or_false] at hf
            rcases hf with rfl | rfl | rfl | rfl | rfl | rfl
            · simp only [celF] at hk; omega
            · simp only [celF] at hk; omega
            · have := QW.out k hk; omega
            · simp only [celF] at hk; omega
            · simp only [argSF] at hk; omega
            · simp only [sliF] at hk; omega)).push (ansSF bg bg1 bg2 nr nl ng (marksW 1 nr) (marksW (1 + 6 * (nr : Int)) nl) (marksB (1 + 6 * (nr : Int) + 6 * (nl : Int)) ng)) AM)
        clear hK20 AM m0 m1 m2 m3 m4 m5 m6 m7 m8 m9
        obtain ⟨m0, m1, m2, m3, m4, m5, m6, m7, m8, m9⟩ := (H.out.cel (.tail _ (.head _))).c10
        go_wp2_with fail
        refine (heldState_at _ _ _ _ _ _ _ _ _ _ _ 1 (by decide) hmgb hp0 hp1 hp2 _ ((H.out.ansS (.head _)).sts hp0 hp1 hp2)).mono ?_
        rintro e w21 ⟨rfl, hb⟩
        rw [← HMG.out]
        replace H := hid_mk (H.out.next hb)
        clear hb m0 m1 m2 m3 m4 m5 m6 m7 m8 m9
        go_upto_region 31 with fail
        go_cut [13] (fun pa wx => ∃ r13 bh dbh bh1 dbh1 bh2 dbh2, pa = .pointer (some ⟨r13, 0, none⟩) ∧ Hid (Hold w wx [celF r13 (stl bh nr dbh SX bh1 nl dbh1 bh2 ng dbh2 ST), ansSF bh bh1 bh2 nr nl ng SR SL SG, ansSF bg bg1 bg2 nr nl ng (marksW 1 nr) (marksW (1 + 6 * (nr : Int)) nl) (marksB (1 + 6 * (nr : Int) + 6 * (nl : Int)) ng), celF r9 (stl bg nr dbg SX bg1 nl dbg1 bg2 ng dbg2 ST), celF r6 (stl bw nr dbw SX bw1 nl dbw1 bw2 ng dbw2 ST), ansSF bw bw1 bw2 nr nl ng SR SL SG, celF w.heap.size (stl ra1 rn1 rc1 rx1 wa1 wn1 wc1 ga1 gn1 gc1 rt1), argSF w.heap.size ra1 rn1 wa1 wn1 ga1 gn1 R1 L1 G1, sliF w.heap.size la0 ln0 LL0]))
        case first =>
          have D0 := hid_mk H.out.drew
          refine wp_region_held_drew (S := fun w' => Hold w w' [ansSF bg bg1 bg2 nr nl ng (marksW 1 nr) (marksW (1 + 6 * (nr : Int)) nl) (marksB (1 + 6 * (nr : Int) + 6 * (nl : Int)) ng), celF r9 (stl bg nr dbg SX bg1 nl dbg1 bg2 ng dbg2 ST), celF r6 (stl bw nr dbw SX bw1 nl dbw1 bw2 ng dbw2 ST), ansSF bw bw1 bw2 nr nl ng SR SL SG, celF w.heap.size (stl ra1 rn1 rc1 rx1 wa1 wn1 wc1 ga1 gn1 gc1 rt1), argSF w.heap.size ra1 rn1 wa1 wn1 ga1 gn1 R1 L1 G1, sliF w.heap.size la0 ln0 LL0]) (by kernel_rfl) D0.out (fun hHeld => ?_)
          generalize w21.drew = wd at D0 hHeld ⊢
          clear H
          have hwd : w.heap.size < wd.heap.size := (D0.out.cel (.tail _ (.tail _ (.tail _ (.tail _ (.head _)))))).lt
          have DD : Hid (∀ f ∈ [ansSF bg bg1 bg2 nr nl ng (marksW 1 nr) (marksW (1 + 6 * (nr : Int)) nl) (marksB (1 + 6 * (nr : Int) + 6 * (nl : Int)) ng), celF r9 (stl bg nr dbg SX bg1 nl dbg1 bg2 ng dbg2 ST), celF r6 (stl bw nr dbw SX bw1 nl dbw1 bw2 ng dbw2 ST), ansSF bw bw1 bw2 nr nl ng SR SL SG, celF w.heap.size (stl ra1 rn1 rc1 rx1 wa1 wn1 wc1 ga1 gn1 gc1 rt1), argSF w.heap.size ra1 rn1 wa1 wn1 ga1 gn1 R1 L1 G1, sliF w.heap.size la0 ln0 LL0], ∀ k, f.S k → k < wd.heap.size) := fun f hf k hk => by
            simp only [List.mem_cons, List.not_mem_nil, or_false] at hf
            rcases hf with rfl | rfl | rfl | rfl | rfl | rfl | rfl
            · exact (D0.out.ansS (.head _)).lt hk
            · have := (D0.out.cel (.tail _ (.head _))).lt; simp only [celF] at hk; omega
            · have := (D0.out.cel (.tail _ (.tail _ (.head _)))).lt; simp only [celF] at hk; omega
            · exact (D0.out.ansS (.tail _ (.tail _ (.tail _ (.head _))))).lt hk
            · have := (D0.out.cel (.tail _ (.tail _ (.tail _ (.tail _ (.head _)))))).lt; simp only [celF] at hk; omega
            · simp only [argSF] at hk; omega
            · simp only [sliF] at hk; omega
          refine take_on (i := 0) (d := 75) (v := .slice la0 ln0 lc0) rfl rfl (by kernel_rfl) (by kernel_rfl) (by kernel_rfl) (fun _ _ _ h => h) (by rfl) ?_ hHeld ?_
          · (intro w' hSw; go_simp)
          simp only [Act.put, List.setIfInBounds_toArray, List.set_cons_zero, List.set_cons_succ]
          refine take_on (i := 2) (d := 77) (v := .agg (stl ra1 rn1 rc1 rx1 wa1 wn1 wc1 ga1 gn1 gc1 rt1).toArray) rfl rfl (by kernel_rfl) (by kernel_rfl) (by kernel_rfl) (fun _ _ _ h => h) (by rfl) ?_ hHeld ?_
          · exact fun w' hSw => exec_ldm (by rfl) (by rfl) ((show Hold w w' [ansSF bg bg1 bg2 nr nl ng (marksW 1 nr) (marksW (1 + 6 * (nr : Int)) nl) (marksB (1 + 6 * (nr : Int) + 6 * (nl : Int)) ng), celF r9 (stl bg nr dbg SX bg1 nl dbg1 bg2 ng dbg2 ST), celF r6 (stl bw nr dbw SX bw1 nl dbw1 bw2 ng dbw2 ST), ansSF bw bw1 bw2 nr nl ng SR SL SG, celF w.heap.size (stl ra1 rn1 rc1 rx1 wa1 wn1 wc1 ga1 gn1 gc1 rt1), argSF w.heap.size ra1 rn1 wa1 wn1 ga1 gn1 R1 L1 G1, sliF w.heap.size la0 ln0 LL0] from hSw).cel (.tail _ (.tail _ (.tail _ (.tail _ (.head _)))))).range Tryz.underlying32 rfl (by kernel_rfl)
          simp only [Act.put, List.setIfInBounds_toArray, List.set_cons_zero, List.set_cons_succ]
          refine wpAnyH_ready (rs := [1, 5]) (by kernel_rfl) (by simp) ?_
          refine AllReadyH.cons rfl (fun K hK => ?_) (AllReadyH.cons rfl (fun K hK => ?_) AllReadyH.nil)
          · go_simp
            refine (toInsS_own _ _ _ LL0 _ hl (D0.out.sli (.tail _ (.tail _ (.tail _ (.tail _ (.tail _ (.tail _ (.head _))))))))).mono ?_
            rintro e v1 ⟨qt, rfl, hQ, _, hb⟩
            have z1 := hb.size
            have J1 := hid_mk ((D0.out.next hb).push (lstF qt ln0 LL0) hQ)
            clear hb hQ
            refine hK.out _ _ J1.out.tail (fun hHeld => ?_)
            clear hK K
            (try simp only [Act.put]); (try simp only [List.setIfInBounds_toArray]); (try simp only [List.set_cons_succ]); (try simp only [List.set_cons_zero]); (try simp only [List.set_cons_succ]); (try simp only [List.set_cons_zero]); (try simp only [Nat.zero_add])
            refine wpAnyH_ready (rs := [3, 5]) (by kernel_rfl) (by simp) ?_
            refine AllReadyH.cons rfl (fun K hK => ?_) (AllReadyH.cons rfl (fun K hK => ?_) AllReadyH.nil)
            · go_simp
              refine (toState_ans _ _ _ _ _ _ _ _ _ _ _ R1 L1 G1 _ hn0 hn1 hn2 (J1.out.argS (.tail _ (.tail _ (.tail _ (.tail _ (.tail _ (.tail _ (.head _))))))))).mono ?_
              rintro e v2 ⟨bt, bt1, bt2, rfl, hA, _, hb⟩
              have z2 := hb.size
              have J2 := hid_mk ((J1.out.next hb).push (ansSF bt bt1 bt2 rn1 wn1 gn1 R1 L1 G1) hA)
              clear hb hA
              refine hK.out _ _ J2.out.tail.tail (fun hHeld => ?_)
              clear hK K
              (try simp only [Act.put]); (try simp only [List.setIfInBounds_toArray]); (try simp only [List.set_cons_succ]); (try simp only [List.set_cons_zero]); (try simp only [List.set_cons_succ]); (try simp only [List.set_cons_zero]); (try simp only [Nat.zero_add])
              refine wpAnyH_ready (rs := [4, 5]) (by kernel_rfl) (by simp) ?_
              refine AllReadyH.cons rfl (fun K hK => ?_) (AllReadyH.cons rfl (fun K hK => ?_) AllReadyH.nil)
              · go_simp
                refine (S2.out _ _ _ _ _ _ _ _ (Nat.le_refl _) _ (J2.out.lsl (.tail _ (.head _)) hl) ((J2.out.ansS (.head _)).sts hn0 hn1 hn2) (HE.out.below J2.out.bel)).mono ?_
                rintro e v3 ⟨bh, dbh, bh1, dbh1, bh2, dbh2, rfl, _, hA, hf, hb⟩
                have z3 := hb.size
                have QN := hid_mk (fun k hk => And.intro (hf k hk) (hA.lt (k := k) hk))
                have J3 := hid_mk ((J2.out.next hb).push (ansSF bh bh1 bh2 nr nl ng SR SL SG) hA)
                clear hb hA hf
                refine hK.out _ _ J3.out.tail.tail.tail (fun hHeld => ?_)
                clear hK K
                (try simp only [Act.put]); (try simp only [List.setIfInBounds_toArray]); (try simp only [List.set_cons_succ]); (try simp only [List.set_cons_zero]); (try simp only [List.set_cons_succ]); (try simp only [List.set_cons_zero]); (try simp only [Nat.zero_add])
                refine wpAnyH_ready (rs := [5]) (by kernel_rfl) (by simp) ?_
                refine AllReadyH.cons rfl (fun K hK => ?_) AllReadyH.nil
                go_simp
                have J4 := hid_mk (J3.out.box ([.slice none 0 0, .int .i64 0, .bool false, .int .i64 0, .int .i64 0, .int .i64 0, .int .i64 0, .slice none 0 0, .slice none 0 0, .int .i64 0] : List Value) 42 v3.heap.size rfl)
                refine hK.out _ _ J4.out.tail.tail.tail.tail (fun hHeld => ?_)
                clear hK K
                (try simp only [Act.put]); (try simp only [List.setIfInBounds_toArray]); (try simp only [List.set_cons_succ]); (try simp only [List.set_cons_zero]); (try simp only [List.set_cons_succ]); (try simp only [List.set_cons_zero]); (try simp only [Nat.zero_add])
                obtain ⟨r13, hr13⟩ : ∃ r, r = v3.heap.size := ⟨_, rfl⟩
                have zy : wd.heap.size ≤ r13 ∧ v3.heap.size ≤ r13 := by omega
                rw [← hr13] at J4 ⊢
                clear hr13
                generalize v3.alloc (.cells ([.slice none 0 0, .int .i64 0, .bool false, .int .i64 0, .int .i64 0, .int .i64 0, .int .i64 0, .slice none 0 0, .slice none 0 0, .int .i64 0] : List Value).toArray 42) = v4 at J4 hHeld ⊢
                have zA : r13 < v4.heap.size := (J4.out.cel (.head _)).lt
                have J5 := hid_mk (J4.out.sub (gs := [celF r13 ([.slice none 0 0, .int .i64 0, .bool false, .int .i64 0, .int .i64 0, .int .i64 0, .int .i64 0, .slice none 0 0, .slice none 0 0, .int .i64 0]), ansSF bh bh1 bh2 nr nl ng SR SL SG, ansSF bg bg1 bg2 nr nl ng (marksW 1 nr) (marksW (1 + 6 * (nr : Int)) nl) (marksB (1 + 6 * (nr : Int) + 6 * (nl : Int)) ng), celF r9 (stl bg nr dbg SX bg1 nl dbg1 bg2 ng dbg2 ST), celF r6 (stl bw nr dbw SX bw1 nl dbw1 bw2 ng dbw2 ST), ansSF bw bw1 bw2 nr nl ng SR SL SG, celF w.heap.size (stl ra1 rn1 rc1 rx1 wa1 wn1 wc1 ga1 gn1 gc1 rt1), argSF w.heap.size ra1 rn1 wa1 wn1 ga1 gn1 R1 L1 G1, sliF w.heap.size la0 ln0 LL0]) (fun f hf => by simp only [List.mem_cons, List.not_mem_nil, or_false] at hf ⊢; rcases hf with rfl | rfl | rfl | rfl | rfl | rfl | rfl | rfl | rfl; exact .inl rfl; exact .inr (.inl rfl); exact .inr (.inr (.inr (.inr (.inl rfl)))); exact .inr (.inr (.inr (.inr (.inr (.inl rfl))))); exact .inr (.inr (.inr (.inr (.inr (.inr (.inl rfl)))))); exact .inr (.inr (.inr (.inr (.inr (.inr (.inr (.inl rfl))))))); exact .inr (.inr (.inr (.inr (.inr (.inr (.inr (.inr (.inl rfl)))))))); exact .inr (.inr (.inr (.inr (.inr (.inr (.inr (.inr (.inr (.inl rfl))))))))); exact .inr (.inr (.inr (.inr (.inr (.inr (.inr (.inr (.inr (.inr rfl)))))))))))
                have TH : Hid (v4.there r13 0 10) := (J5.out.cel (.head _)).there
                have HS : Hid (Hold w (v4.setCells r13 0 (stl bh nr dbh SX bh1 nl dbh1 bh2 ng dbh2 ST)) [celF r13 (stl bh nr dbh SX bh1 nl dbh1 bh2 ng dbh2 ST), ansSF bh bh1 bh2 nr nl ng SR SL SG, ansSF bg bg1 bg2 nr nl ng (marksW 1 nr) (marksW (1 + 6 * (nr : Int)) nl) (marksB (1 + 6 * (nr : Int) + 6 * (nl : Int)) ng), celF r9 (stl bg nr dbg SX bg1 nl dbg1 bg2 ng dbg2 ST), celF r6 (stl bw nr dbw SX bw1 nl dbw1 bw2 ng dbw2 ST), ansSF bw bw1 bw2 nr nl ng SR SL SG, celF w.heap.size (stl ra1 rn1 rc1 rx1 wa1 wn1 wc1 ga1 gn1 gc1 rt1), argSF w.heap.size ra1 rn1 wa1 wn1 ga1 gn1 R1 L1 G1, sliF w.heap.size la0 ln0 LL0]) := J5.out.sets (stl bh nr dbh SX bh1 nl dbh1 bh2 ng dbh2 ST) (by omega) (fun f hf k hk => (List.mem_cons.1 hf).elim (fun e => by subst e; have := QN.out k hk; omega) (fun h => by have := DD.out f h k hk; omega)) rfl
                refine wpAnyH_ready (rs := [6]) (by kernel_rfl) (by simp) ?_
                refine AllReadyH.cons rfl (fun K hK => ?_) AllReadyH.nil
                refine step_stm (by rfl) 42 _ _ (by rfl) r13 0 (stl bh nr dbh SX bh1 nl dbh1 bh2 ng dbh2 ST).toArray (by rfl) (by rfl) TH.out sizeSt (stl_one _ _ _ _ _ _ _ _ _ _ _) ?_
                refine hK.out _ _ HS.out.tail.tail (fun hHeld => ?_)
                clear hK K
                refine wpAnyH_done (by kernel_rfl) ?_ _
                clear hHeld
                dsimp only
                generalize v4.setCells r13 0 (stl bh nr dbh SX bh1 nl dbh1 bh2 ng dbh2 ST) = wz at HS ⊢
                go_wp2_with fail
                go_meet
                case rel => exact ⟨_, _, _, _, _, _, _, rfl, HS.out⟩
              · go_simp
                have J3 := hid_mk (J2.out.box ([.slice none 0 0, .int .i64 0, .bool false, .int .i64 0, .int .i64 0, .int .i64 0, .int .i64 0, .slice none 0 0, .slice none 0 0, .int .i64 0] : List Value) 42 v2.heap.size rfl)
                refine hK.out _ _ J3.out.tail.tail.tail (fun hHeld => ?_)
                clear hK K
                (try simp only [Act.put]); (try simp only [List.setIfInBounds_toArray]); (try simp only [List.set_cons_succ]); (try simp only [List.set_cons_zero]); (try simp only [List.set_cons_succ]); (try simp only [List.set_cons_zero]); (try simp only [Nat.zero_add])
                obtain ⟨r13, hr13⟩ : ∃ r, r = v2.heap.size := ⟨_, rfl⟩
                have zy : wd.heap.size ≤ r13 ∧ v2.heap.size ≤ r13 := by omega
                rw [← hr13] at J3 ⊢
                clear hr13
                generalize v2.alloc (.cells ([.slice none 0 0, .int .i64 0, .bool false, .int .i64 0, .int .i64 0, .int .i64 0, .int .i64 0, .slice none 0 0, .slice none 0 0, .int .i64 0] : List Value).toArray 42) = v3 at J3 hHeld ⊢
                have zA : r13 < v3.heap.size := (J3.out.cel (.head _)).lt
                refine wpAnyH_ready (rs := [4]) (by kernel_rfl) (by simp) ?_
                refine AllReadyH.cons rfl (fun K hK => ?_) AllReadyH.nil
                go_simp
                refine (S2.out _ _ _ _ _ _ _ _ (Nat.le_refl _) _ (J3.out.lsl (.tail _ (.tail _ (.head _))) hl) ((J3.out.ansS (.tail _ (.head _))).sts hn0 hn1 hn2) (HE.out.below J3.out.bel)).mono ?_
                rintro e v4 ⟨bh, dbh, bh1, dbh1, bh2, dbh2, rfl, _, hA, hf, hb⟩
                have z4 := hb.size
                have QN := hid_mk (fun k hk => And.intro (hf k hk) (hA.lt (k := k) hk))
                have J4 := hid_mk ((J3.out.next hb).push (ansSF bh bh1 bh2 nr nl ng SR SL SG) hA)
                clear hb hA hf
                refine hK.out _ _ J4.out.tail.tail.tail.tail (fun hHeld => ?_)
                clear hK K
                (try simp only [Act.put]); (try simp only [List.setIfInBounds_toArray]); (try simp only [List.set_cons_succ]); (try simp only [List.set_cons_zero]); (try simp only [List.set_cons_succ]); (try simp only [List.set_cons_zero]); (try simp only [Nat.zero_add])
                have J5 := hid_mk (J4.out.sub (gs := [celF r13 ([.slice none 0 0, .int .i64 0, .bool false, .int .i64 0, .int .i64 0, .int .i64 0, .int .i64 0, .slice none 0 0, .slice none 0 0, .int .i64 0]), ansSF bh bh1 bh2 nr nl ng SR SL SG, ansSF bg bg1 bg2 nr nl ng (marksW 1 nr) (marksW (1 + 6 * (nr : Int)) nl) (marksB (1 + 6 * (nr : Int) + 6 * (nl : Int)) ng), celF r9 (stl bg nr dbg SX bg1 nl dbg1 bg2 ng dbg2 ST), celF r6 (stl bw nr dbw SX bw1 nl dbw1 bw2 ng dbw2 ST), ansSF bw bw1 bw2 nr nl ng SR SL SG, celF w.heap.size (stl ra1 rn1 rc1 rx1 wa1 wn1 wc1 ga1 gn1 gc1 rt1), argSF w.heap.size ra1 rn1 wa1 wn1 ga1 gn1 R1 L1 G1, sliF w.heap.size la0 ln0 LL0]) (fun f hf => by simp only [List.mem_cons, List.not_mem_nil, or_false] at hf ⊢; rcases hf with rfl | rfl | rfl | rfl | rfl | rfl | rfl | rfl | rfl; exact .inr (.inl rfl); exact .inl rfl; exact .inr (.inr (.inr (.inr (.inl rfl)))); exact .inr (.inr (.inr (.inr (.inr (.inl rfl))))); exact .inr (.inr (.inr (.inr (.inr (.inr (.inl rfl)))))); exact .inr (.inr (.inr (.inr (.inr (.inr (.inr (.inl rfl))))))); exact .inr (.inr (.inr (.inr (.inr (.inr (.inr (.inr (.inl rfl)))))))); exact .inr (.inr (.inr (.inr (.inr (.inr (.inr (.inr (.inr (.inl rfl))))))))); exact .inr (.inr (.inr (.inr (.inr (.inr (.inr (.inr (.inr (.inr rfl)))))))))))
                have TH : Hid (v4.there r13 0 10) := (J5.out.cel (.head _)).there
                have HS : Hid (Hold w (v4.setCells r13 0 (stl bh nr dbh SX bh1 nl dbh1 bh2 ng dbh2 ST)) [celF r13 (stl bh nr dbh SX bh1 nl dbh1 bh2 ng dbh2 ST), ansSF bh bh1 bh2 nr nl ng SR SL SG, ansSF bg bg1 bg2 nr nl ng (marksW 1 nr) (marksW (1 + 6 * (nr : Int)) nl) (marksB (1 + 6 * (nr : Int) + 6 * (nl : Int)) ng), celF r9 (stl bg nr dbg SX bg1 nl dbg1 bg2 ng dbg2 ST), celF r6 (stl bw nr dbw SX bw1 nl dbw1 bw2 ng dbw2 ST), ansSF bw bw1 bw2 nr nl ng SR SL SG, celF w.heap.size (stl ra1 rn1 rc1 rx1 wa1 wn1 wc1 ga1 gn1 gc1 rt1), argSF w.heap.size ra1 rn1 wa1 wn1 ga1 gn1 R1 L1 G1, sliF w.heap.size la0 ln0 LL0]) := J5.out.sets (stl bh nr dbh SX bh1 nl dbh1 bh2 ng dbh2 ST) (by omega) (fun f hf k hk => (List.mem_cons.1 hf).elim (fun e => by subst e; have := QN.out k hk; omega) (fun h => by have := DD.out f h k hk; omega)) rfl
                refine wpAnyH_ready (rs := [6]) (by kernel_rfl) (by simp) ?_
                refine AllReadyH.cons rfl (fun K hK => ?_) AllReadyH.nil
                refine step_stm (by rfl) 42 _ _ (by rfl) r13 0 (stl bh nr dbh SX bh1 nl dbh1 bh2 ng dbh2 ST).toArray (by rfl) (by rfl) TH.out sizeSt (stl_one _ _ _ _ _ _ _ _ _ _ _) ?_
                refine hK.out _ _ HS.out.tail.tail (fun hHeld => ?_)
                clear hK K
                refine wpAnyH_done (by kernel_rfl) ?_ _
                clear hHeld
                dsimp only
                generalize v4.setCells r13 0 (stl bh nr dbh SX bh1 nl dbh1 bh2 ng dbh2 ST) = wz at HS ⊢
                go_wp2_with fail
                go_meet
                case rel => exact ⟨_, _, _, _, _, _, _, rfl, HS.out⟩
            · go_simp
              have J2 := hid_mk (J1.out.box ([.slice none 0 0, .int .i64 0, .bool false, .int .i64 0, .int .i64 0, .int .i64 0, .int .i64 0, .slice none 0 0, .slice none 0 0, .int .i64 0] : List Value) 42 v1.heap.size rfl)
              refine hK.out _ _ J2.out.tail.tail (fun hHeld => ?_)
              clear hK K
              (try simp only [Act.put]); (try simp only [List.setIfInBounds_toArray]); (try simp only [List.set_cons_succ]); (try simp only [List.set_cons_zero]); (try simp only [List.set_cons_succ]); (try simp only [List.set_cons_zero]); (try simp only [Nat.zero_add])
              obtain ⟨r13, hr13⟩ : ∃ r, r = v1.heap.size := ⟨_, rfl⟩
              have zy : wd.heap.size ≤ r13 ∧ v1.heap.size ≤ r13 := by omega
              rw [← hr13] at J2 ⊢
              clear hr13
              generalize v1.alloc (.cells ([.slice none 0 0, .int .i64 0, .bool false, .int .i64 0, .int .i64 0, .int .i64 0, .int .i64 0, .slice none 0 0, .slice none 0 0, .int .i64 0] : List Value).toArray 42) = v2 at J2 hHeld ⊢
              have zA : r13 < v2.heap.size := (J2.out.cel (.head _)).lt
              refine wpAnyH_ready (rs := [3]) (by kernel_rfl) (by simp) ?_
              refine AllReadyH.cons rfl (fun K hK => ?_) AllReadyH.nil
              go_simp
              refine (toState_ans _ _ _ _ _ _ _ _ _ _ _ R1 L1 G1 _ hn0 hn1 hn2 (J2.out.argS (.tail _ (.tail _ (.tail _ (.tail _ (.tail _ (.tail _ (.tail _ (.head _)))))))))).mono ?_
              rintro e v3 ⟨bt, bt1, bt2, rfl, hA, _, hb⟩
              have z3 := hb.size
              have J3 := hid_mk ((J2.out.next hb).push (ansSF bt bt1 bt2 rn1 wn1 gn1 R1 L1 G1) hA)
              clear hb hA
              refine hK.out _ _ J3.out.tail.tail.tail (fun hHeld => ?_)
              clear hK K
              (try simp only [Act.put]); (try simp only [List.setIfInBounds_toArray]); (try simp only [List.set_cons_succ]); (try simp only [List.set_cons_zero]); (try simp only [List.set_cons_succ]); (try simp only [List.set_cons_zero]); (try simp only [Nat.zero_add])
              refine wpAnyH_ready (rs := [4]) (by kernel_rfl) (by simp) ?_
              refine AllReadyH.cons rfl (fun K hK => ?_) AllReadyH.nil
              go_simp
              refine (S2.out _ _ _ _ _ _ _ _ (Nat.le_refl _) _ (J3.out.lsl (.tail _ (.tail _ (.head _))) hl) ((J3.out.ansS (.head _)).sts hn0 hn1 hn2) (HE.out.below J3.out.bel)).mono ?_
              rintro e v4 ⟨bh, dbh, bh1, dbh1, bh2, dbh2, rfl, _, hA, hf, hb⟩
              have z4 := hb.size
              have QN := hid_mk (fun k hk => And.intro (hf k hk) (hA.lt (k := k) hk))
              have J4 := hid_mk ((J3.out.next hb).push (ansSF bh bh1 bh2 nr nl ng SR SL SG) hA)
              clear hb hA hf
              refine hK.out _ _ J4.out.tail.tail.tail.tail (fun hHeld => ?_)
              clear hK K
              (try simp only [Act.put]); (try simp only [List.setIfInBounds_toArray]); (try simp only [List.set_cons_succ]); (try simp only [List.set_cons_zero]); (try simp only [List.set_cons_succ]); (try simp only [List.set_cons_zero]); (try simp only [Nat.zero_add])
              have J5 := hid_mk (J4.out.sub (gs := [celF r13 ([.slice none 0 0, .int .i64 0, .bool false, .int .i64 0, .int .i64 0, .int .i64 0, .int .i64 0, .slice none 0 0, .slice none 0 0, .int .i64 0]), ansSF bh bh1 bh2 nr nl ng SR SL SG, ansSF bg bg1 bg2 nr nl ng (marksW 1 nr) (marksW (1 + 6 * (nr : Int)) nl) (marksB (1 + 6 * (nr : Int) + 6 * (nl : Int)) ng), celF r9 (stl bg nr dbg SX bg1 nl dbg1 bg2 ng dbg2 ST), celF r6 (stl bw nr dbw SX bw1 nl dbw1 bw2 ng dbw2 ST), ansSF bw bw1 bw2 nr nl ng SR SL SG, celF w.heap.size (stl ra1 rn1 rc1 rx1 wa1 wn1 wc1 ga1 gn1 gc1 rt1), argSF w.heap.size ra1 rn1 wa1 wn1 ga1 gn1 R1 L1 G1, sliF w.heap.size la0 ln0 LL0]) (fun f hf => by simp only [List.mem_cons, List.not_mem_nil, or_false] at hf ⊢; rcases hf with rfl | rfl | rfl | rfl | rfl | rfl | rfl | rfl | rfl; exact .inr (.inr (.inl rfl)); exact .inl rfl; exact .inr (.inr (.inr (.inr (.inl rfl)))); exact .inr (.inr (.inr (.inr (.inr (.inl rfl))))); exact .inr (.inr (.inr (.inr (.inr (.inr (.inl rfl)))))); exact .inr (.inr (.inr (.inr (.inr (.inr (.inr (.inl rfl))))))); exact .inr (.inr (.inr (.inr (.inr (.inr (.inr (.inr (.inl rfl)))))))); exact .inr (.inr (.inr (.inr (.inr (.inr (.inr (.inr (.inr (.inl rfl))))))))); exact .inr (.inr (.inr (.inr (.inr (.inr (.inr (.inr (.inr (.inr rfl)))))))))))
              have TH : Hid (v4.there r13 0 10) := (J5.out.cel (.head _)).there
              have HS : Hid (Hold w (v4.setCells r13 0 (stl bh nr dbh SX bh1 nl dbh1 bh2 ng dbh2 ST)) [celF r13 (stl bh nr dbh SX bh1 nl dbh1 bh2 ng dbh2 ST), ansSF bh bh1 bh2 nr nl ng SR SL SG, ansSF bg bg1 bg2 nr nl ng (marksW 1 nr) (marksW (1 + 6 * (nr : Int)) nl) (marksB (1 + 6 * (nr : Int) + 6 * (nl : Int)) ng), celF r9 (stl bg nr dbg SX bg1 nl dbg1 bg2 ng dbg2 ST), celF r6 (stl bw nr dbw SX bw1 nl dbw1 bw2 ng dbw2 ST), ansSF bw bw1 bw2 nr nl ng SR SL SG, celF w.heap.size (stl ra1 rn1 rc1 rx1 wa1 wn1 wc1 ga1 gn1 gc1 rt1), argSF w.heap.size ra1 rn1 wa1 wn1 ga1 gn1 R1 L1 G1, sliF w.heap.size la0 ln0 LL0]) := J5.out.sets (stl bh nr dbh SX bh1 nl dbh1 bh2 ng dbh2 ST) (by omega) (fun f hf k hk => (List.mem_cons.1 hf).elim (fun e => by subst e; have := QN.out k hk; omega) (fun h => by have := DD.out f h k hk; omega)) rfl
              refine wpAnyH_ready (rs := [6]) (by kernel_rfl) (by simp) ?_
              refine AllReadyH.cons rfl (fun K hK => ?_) AllReadyH.nil
              refine step_stm (by rfl) 42 _ _ (by rfl) r13 0 (stl bh nr dbh SX bh1 nl dbh1 bh2 ng dbh2 ST).toArray (by rfl) (by rfl) TH.out sizeSt (stl_one _ _ _ _ _ _ _ _ _ _ _) ?_
              refine hK.out _ _ HS.out.tail.tail (fun hHeld => ?_)
              clear hK K
              refine wpAnyH_done (by kernel_rfl) ?_ _
              clear hHeld
              dsimp only
              generalize v4.setCells r13 0 (stl bh nr dbh SX bh1 nl dbh1 bh2 ng dbh2 ST) = wz at HS ⊢
              go_wp2_with fail
              go_meet
              case rel => exact ⟨_, _, _, _, _, _, _, rfl, HS.out⟩
          · go_simp
            have J1 := hid_mk (D0.out.box ([.slice none 0 0, .int .i64 0, .bool false, .int .i64 0, .int .i64 0, .int .i64 0, .int .i64 0, .slice none 0 0, .slice none 0 0, .int .i64 0] : List Value) 42 wd.heap.size rfl)
            refine hK.out _ _ J1.out.tail (fun hHeld => ?_)
            clear hK K
            (try simp only [Act.put]); (try simp only [List.setIfInBounds_toArray]); (try simp only [List.set_cons_succ]); (try simp only [List.set_cons_zero]); (try simp only [List.set_cons_succ]); (try simp only [List.set_cons_zero]); (try simp only [Nat.zero_add])
            obtain ⟨r13, hr13⟩ : ∃ r, r = wd.heap.size := ⟨_, rfl⟩
            have zy : wd.heap.size ≤ r13 ∧ wd.heap.size ≤ r13 := by omega
            rw [← hr13] at J1 ⊢
            clear hr13
            generalize wd.alloc (.cells ([.slice none 0 0, .int .i64 0, .bool false, .int .i64 0, .int .i64 0, .int .i64 0, .int .i64 0, .slice none 0 0, .slice none 0 0, .int .i64 0] : List Value).toArray 42) = v1 at J1 hHeld ⊢
            have zA : r13 < v1.heap.size := (J1.out.cel (.head _)).lt
            refine wpAnyH_ready (rs := [1]) (by kernel_rfl) (by simp) ?_
            refine AllReadyH.cons rfl (fun K hK => ?_) AllReadyH.nil
            go_simp
            refine (toInsS_own _ _ _ LL0 _ hl (J1.out.sli (.tail _ (.tail _ (.tail _ (.tail _ (.tail _ (.tail _ (.tail _ (.head _)))))))))).mono ?_
            rintro e v2 ⟨qt, rfl, hQ, _, hb⟩
            have z2 := hb.size
            have J2 := hid_mk ((J1.out.next hb).push (lstF qt ln0 LL0) hQ)
            clear hb hQ
            refine hK.out _ _ J2.out.tail.tail (fun hHeld => ?_)
            clear hK K
            (try simp only [Act.put]); (try simp only [List.setIfInBounds_toArray]); (try simp only [List.set_cons_succ]); (try simp only [List.set_cons_zero]); (try simp only [List.set_cons_succ]); (try simp only [List.set_cons_zero]); (try simp only [Nat.zero_add])
            refine wpAnyH_ready (rs := [3]) (by kernel_rfl) (by simp) ?_
            refine AllReadyH.cons rfl (fun K hK => ?_) AllReadyH.nil
            go_simp
            refine (toState_ans _ _ _ _ _ _ _ _ _ _ _ R1 L1 G1 _ hn0 hn1 hn2 (J2.out.argS (.tail _ (.tail _ (.tail _ (.tail _ (.tail _ (.tail _ (.tail _ (.head _)))))))))).mono ?_
            rintro e v3 ⟨bt, bt1, bt2, rfl, hA, _, hb⟩
            have z3 := hb.size
            have J3 := hid_mk ((J2.out.next hb).push (ansSF bt bt1 bt2 rn1 wn1 gn1 R1 L1 G1) hA)
            clear hb hA
            refine hK.out _ _ J3.out.tail.tail.tail (fun hHeld => ?_)
            clear hK K
            (try simp only [Act.put]); (try simp only [List.setIfInBounds_toArray]); (try simp only [List.set_cons_succ]); (try simp only [List.set_cons_zero]); (try simp only [List.set_cons_succ]); (try simp only [List.set_cons_zero]); (try simp only [Nat.zero_add])
            refine wpAnyH_ready (rs := [4]) (by kernel_rfl) (by simp) ?_
            refine AllReadyH.cons rfl (fun K hK => ?_) AllReadyH.nil
            go_simp
            refine (S2.out _ _ _ _ _ _ _ _ (Nat.le_refl _) _ (J3.out.lsl (.tail _ (.head _)) hl) ((J3.out.ansS (.head _)).sts hn0 hn1 hn2) (HE.out.below J3.out.bel)).mono ?_
            rintro e v4 ⟨bh, dbh, bh1, dbh1, bh2, dbh2, rfl, _, hA, hf, hb⟩
            have z4 := hb.size
            have QN := hid_mk (fun k hk => And.intro (hf k hk) (hA.lt (k := k) hk))
            have J4 := hid_mk ((J3.out.next hb).push (ansSF bh bh1 bh2 nr nl ng SR SL SG) hA)
            clear hb hA hf
            refine hK.out _ _ J4.out.tail.tail.tail.tail (fun hHeld => ?_)
            clear hK K
            (try simp only [Act.put]); (try simp only [List.setIfInBounds_toArray]); (try simp only [List.set_cons_succ]); (try simp only [List.set_cons_zero]); (try simp only [List.set_cons_succ]); (try simp only [List.set_cons_zero]); (try simp only [Nat.zero_add])
            have J5 := hid_mk (J4.out.sub (gs := [celF r13 ([.slice none 0 0, .int .i64 0, .bool false, .int .i64 0, .int .i64 0, .int .i64 0, .int .i64 0, .slice none 0 0, .slice none 0 0, .int .i64 0]), ansSF bh bh1 bh2 nr nl ng SR SL SG, ansSF bg bg1 bg2 nr nl ng (marksW 1 nr) (marksW (1 + 6 * (nr : Int)) nl) (marksB (1 + 6 * (nr : Int) + 6 * (nl : Int)) ng), celF r9 (stl bg nr dbg SX bg1 nl dbg1 bg2 ng dbg2 ST), celF r6 (stl bw nr dbw SX bw1 nl dbw1 bw2 ng dbw2 ST), ansSF bw bw1 bw2 nr nl ng SR SL SG, celF w.heap.size (stl ra1 rn1 rc1 rx1 wa1 wn1 wc1 ga1 gn1 gc1 rt1), argSF w.heap.size ra1 rn1 wa1 wn1 ga1 gn1 R1 L1 G1, sliF w.heap.size la0 ln0 LL0]) (fun f hf => by simp only [List.mem_cons, List.not_mem_nil, or_false] at hf ⊢; rcases hf with rfl | rfl | rfl | rfl | rfl | rfl | rfl | rfl | rfl; exact .inr (.inr (.inr (.inl rfl))); exact .inl rfl; exact .inr (.inr (.inr (.inr (.inl rfl)))); exact .inr (.inr (.inr (.inr (.inr (.inl rfl))))); exact .inr (.inr (.inr (.inr (.inr (.inr (.inl rfl)))))); exact .inr (.inr (.inr (.inr (.inr (.inr (.inr (.inl rfl))))))); exact .inr (.inr (.inr (.inr (.inr (.inr (.inr (.inr (.inl rfl)))))))); exact .inr (.inr (.inr (.inr (.inr (.inr (.inr (.inr (.inr (.inl rfl))))))))); exact .inr (.inr (.inr (.inr (.inr (.inr (.inr (.inr (.inr (.inr rfl)))))))))))
            have TH : Hid (v4.there r13 0 10) := (J5.out.cel (.head _)).there
            have HS : Hid (Hold w (v4.setCells r13 0 (stl bh nr dbh SX bh1 nl dbh1 bh2 ng dbh2 ST)) [celF r13 (stl bh nr dbh SX bh1 nl dbh1 bh2 ng dbh2 ST), ansSF bh bh1 bh2 nr nl ng SR SL SG, ansSF bg bg1 bg2 nr nl ng (marksW 1 nr) (marksW (1 + 6 * (nr : Int)) nl) (marksB (1 + 6 * (nr : Int) + 6 * (nl : Int)) ng), celF r9 (stl bg nr dbg SX bg1 nl dbg1 bg2 ng dbg2 ST), celF r6 (stl bw nr dbw SX bw1 nl dbw1 bw2 ng dbw2 ST), ansSF bw bw1 bw2 nr nl ng SR SL SG, celF w.heap.size (stl ra1 rn1 rc1 rx1 wa1 wn1 wc1 ga1 gn1 gc1 rt1), argSF w.heap.size ra1 rn1 wa1 wn1 ga1 gn1 R1 L1 G1, sliF w.heap.size la0 ln0 LL0]) := J5.out.sets (stl bh nr dbh SX bh1 nl dbh1 bh2 ng dbh2 ST) (by omega) (fun f hf k hk => (List.mem_cons.1 hf).elim (fun e => by subst e; have := QN.out k hk; omega) (fun h => by have := DD.out f h k hk; omega)) rfl
            refine wpAnyH_ready (rs := [6]) (by kernel_rfl) (by simp) ?_
            refine AllReadyH.cons rfl (fun K hK => ?_) AllReadyH.nil
            refine step_stm (by rfl) 42 _ _ (by rfl) r13 0 (stl bh nr dbh SX bh1 nl dbh1 bh2 ng dbh2 ST).toArray (by rfl) (by rfl) TH.out sizeSt (stl_one _ _ _ _ _ _ _ _ _ _ _) ?_
            refine hK.out _ _ HS.out.tail.tail (fun hHeld => ?_)
            clear hK K
            refine wpAnyH_done (by kernel_rfl) ?_ _
            clear hHeld
            dsimp only
            generalize v4.setCells r13 0 (stl bh nr dbh SX bh1 nl dbh1 bh2 ng dbh2 ST) = wz at HS ⊢
            go_wp2_with fail
            go_meet
            case rel => exact ⟨_, _, _, _, _, _, _, rfl, HS.out⟩
        case' rest =>
          obtain ⟨r13, bh, dbh, bh1, dbh1, bh2, dbh2, rfl, H⟩ := hcut
          obtain ⟨m0, m1, m2, m3, m4, m5, m6, m7, m8, m9⟩ := (H.out.cel (.head _)).c10
          obtain ⟨y0, y1, y2, y3, y4, y5, y6, y7, y8, y9⟩ := (H.out.cel (.tail _ (.tail _ (.tail _ (.tail _ (.head _)))))).c10
          go_wp2_with fail
          refine (eqState_same _ _ _ _ _ _ _ _ _ _ _ _ _ _ _ _ _ SR SL SG _ ((H.out.ansS (.tail _ (.head _))).sts hp0 hp1 hp2) ((H.out.ansS (.tail _ (.tail _ (.tail _ (.tail _ (.tail _ (.head _))))))).sts hp0 hp1 hp2)).mono ?_
          rintro e w25 ⟨rfl, hb⟩
          replace H := hid_mk (H.out.next hb)
          clear hb m0 m1 m2 m3 m4 m5 m6 m7 m8 m9 y0 y1 y2 y3 y4 y5 y6 y7 y8 y9
          obtain ⟨m0, m1, m2, m3, m4, m5, m6, m7, m8, m9⟩ := (H.out.cel (.tail _ (.tail _ (.tail _ (.head _))))).c10
          go_wp2_with fail
          refine (heldState_at _ _ _ _ _ _ _ _ _ _ _ 1 (by decide) hmgb hp0 hp1 hp2 _ ((H.out.ansS (.tail _ (.tail _ (.head _)))).sts hp0 hp1 hp2)).mono ?_
          rintro e w26 ⟨rfl, hb⟩
          rw [← HMG.out]
          have B := hid_mk (H.out.next hb).bel
          clear hb m0 m1 m2 m3 m4 m5 m6 m7 m8 m9 H
          go_wp2
          go_ret
          exact ⟨rfl, B.out⟩

    · simp only [if_neg hk] at sz
      have SZ := hid_mk sz
      clear sz
      have H := hid_mk (((((Hold.new w).push (sliF w.heap.size la0 ln0 LL0) ⟨hS0, Nat.le_refl _⟩).push (argSF w.heap.size ra1 rn1 wa1 wn1 ga1 gn1 R1 L1 G1) hS1.arg).alloc (.cells (stl ra1 rn1 rc1 rx1 wa1 wn1 wc1 ga1 gn1 gc1 rt1).toArray 32)).push (celF w.heap.size (stl ra1 rn1 rc1 rx1 wa1 wn1 wc1 ga1 gn1 gc1 rt1)) (Cel.new w _ _))
      clear hS0 hS1 hk hE
      generalize hw1 : w.alloc (.cells (stl ra1 rn1 rc1 rx1 wa1 wn1 wc1 ga1 gn1 gc1 rt1).toArray 32) = w1 at H
      go_enter Tryz.func3, Tryz.ntmps3
      go_upto_region 1 with fail
      clear hw1
      go_wp2_with fail
      refine (SZI.out _).mono ?_
      rintro e w2 ⟨rfl, rfl⟩
      obtain ⟨m0, m1, m2, m3, m4, m5, m6, m7, m8, m9⟩ := (H.out.cel (.head _)).c10
      go_wp2_with fail
      refine (SZ.out _).mono ?_
      rintro e w2 ⟨rfl, hb2⟩
      have B := hid_mk (H.out.next hb2).bel
      clear hb2 H m0 m1 m2 m3 m4 m5 m6 m7 m8 m9
      go_wp2
      go_ret
      exact ⟨rfl, B.out⟩
  · have szi := fun w => szInsS_any la0 ln0 lc0 w hS0.1
    simp only [if_neg hl] at szi
    have SZI := hid_mk szi
    have B := hid_mk ((Below.refl w.heap.size w).alloc (Nat.le_refl _) (.cells (stl ra1 rn1 rc1 rx1 wa1 wn1 wc1 ga1 gn1 gc1 rt1).toArray 32))
    clear szi hS0 hS1 hE
    go_enter Tryz.func3, Tryz.ntmps3
    go_wp2_with fail
    refine (SZI.out _).mono ?_
    rintro e w2 ⟨rfl, rfl⟩
    go_wp2
    go_ret
    exact ⟨rfl, B.out⟩

set_option maxRecDepth 100000 in
theorem lifted (os : Os) (started : os.Started) (H : Type) (enc : TypeId × Value → H) :
    ReturnsInHanded {} Tryz.checked os 3 .any (fun w args => (Rows.fnExactStepSpec.pre enc Tryz.prog Tryz.f3 [] false w args ∧ laidMetH Tryz.prog Rows.fnExactStepRow.laid w) ∧ sizedMet enc Tryz.prog Tryz.f3 (OpenSpec.ofChange Rows.fnExactStepSpec) false w args) (Rows.fnExactStepSpec.post enc Tryz.prog Tryz.f3 false true false false) := by
  have hp : ∀ w : World, laidMetH Tryz.prog Rows.fnExactStepRow.laid w = laidMet Tryz.prog Rows.fnExactStepRow.laid w := fun w => MakeChecks.laidMetH_plain _ _ _ (by kernel_rfl)
  refine returnsInHanded_of_change_and (C := Tryz.checked) (X := fun w _ => laidMetH Tryz.prog Rows.fnExactStepRow.laid w) (fun _ _ _ hh h => h.of_heap hh) own started (by kernel_rfl) Tryz.func3
    (ChangeSpec.witness_at (enc := enc) (C := Tryz.checked) (os := os) (X := fun w _ => laidMetH Tryz.prog Rows.fnExactStepRow.laid w) false (laidWorld os) #[.slice none 0 0, .agg #[.slice none 0 0, .int .i64 0, .bool false, .int .i64 0, .int .i64 0, .int .i64 0, .int .i64 0, .slice none 0 0, .slice none 0 0, .int .i64 0]] 8 rfl (by kernel_rfl) (by kernel_rfl) (by kernel_rfl) (by kernel_rfl) (by kernel_rfl) (by rw [hp]; exact laidWorld_met os _)) ?_
  intro W base args ds gs before hval0 hW _ _ hL _
  have hval : ∀ (j : Nat) t v, Tryz.f3.params[j]? = some t → args[j]? = some v → Value.okWide Tryz.prog W .any base t v := hval0
  have hW' := hW
  obtain ⟨p, q, hA0, hV0, rfl, hfz, hnd⟩ := hW
  have hA : DataW.TrodAll enc Tryz.prog W 0 (fun _ => true) true Tryz.f3.params.toList args.toList ds p := hA0
  have hV : DataW.TrodVars enc Tryz.prog W (fun _ => true) Rows.fnExactStepSpec.vars gs q := hV0
  rw [Tryz.params3] at hA hval
  rw [hp] at hL
  obtain ⟨a0, a1, a2, a3, hE, hr⟩ := errs_in hL
  obtain ⟨rfl, rfl⟩ := hV.unique (hr H enc W _ (Below.refl _ _))
  obtain ⟨v0, vs0, d0, ds0, p0, q0, hargs, rfl, rfl, h0, r0⟩ := trodAll_cons hA
  obtain ⟨v1, vs1, d1, ds1, p1, q1, rfl, rfl, rfl, h1, r1⟩ := trodAll_cons r0
  obtain ⟨rfl, rfl, rfl⟩ := trodAll_nil r1
  obtain rfl : args = #[v0, v1] := by cases args; simp_all
  have k0 := h0
  have lt0 : ∀ x ∈ p0, x.block < W.heap.size := by obtain ⟨m, hm⟩ := k0; exact DataW.trod_lt m _ _ _ hm
  have k1 := h1
  have lt1 : ∀ x ∈ p1, x.block < W.heap.size := by obtain ⟨m, hm⟩ := k1; exact DataW.trod_lt m _ _ _ hm
  obtain ⟨la0, ln0, lc0, rfl⟩ := okWide_slice Tryz.underlying22 (hval 0 22 v0 rfl rfl)
  obtain ⟨LL0, hS0⟩ : ∃ L, SliceI W.heap.size W la0 ln0 L := by
    obtain ⟨fuel, hf⟩ := h0
    exact came_in (by simpa [Value.cells] using hf)
  obtain ⟨ra1, rn1, rc1, rx1, wa1, wn1, wc1, ga1, gn1, gc1, rt1, R1, L1, G1, rfl, hS1⟩ := open_state (hval 1 32 v1 rfl rfl) h1
  clear hA0 hval0 hV0
  refine (walk la0 ln0 lc0 LL0 ra1 rn1 rc1 rx1 wa1 wn1 wc1 ga1 gn1 gc1 rt1 R1 L1 G1 a0 a1 a2 a3 W hS0 hS1 hE).mono fun e W' ⟨he, bel⟩ => ?_
  subst he
  exact ⟨_, rfl, _, _, _, [], _, [.cell 0 0, .cell 1 0, .cell 2 0, .cell 3 0], hW', trodAll_mk1 (shut_bool Tryz.underlying4 _), (trodAll_cons_mk (Below.trod laidOut (by kernel_rfl) (of_decide_eq_true (by kernel_rfl)) k0 bel lt0) (trodAll_cons_mk (Below.trod laidOut (by kernel_rfl) (of_decide_eq_true (by kernel_rfl)) k1 bel lt1) trodAll_mk0)), hr H enc W' _ bel, bel.frame _, fun h => by cases h⟩

theorem said : Rows.FnExactStepSaid :=
  OpenClaim.holds_of_wide 3 Tryz.f3 rfl rfl rfl rfl rfl rfl rfl ⟨rfl, rfl, rfl, rfl, rfl⟩ rfl rfl rfl rfl rfl (by kernel_rfl) Tryz.func3 (by kernel_rfl)
    (of_decide_eq_true (by kernel_rfl)) (by unfold Func.isWrapper; first | (rw [if_pos (by decide +kernel)]; kernel_rfl) | (rw [if_neg (by decide +kernel)]; exact ⟨rfl, rfl⟩))
    (fun os started H enc _ => lifted os started H enc)
theorem plain (f : FuncId) (fn : Func) (hf : Tryz.pinned.checked.prog.funcNamed Rows.fnExactStepRow.func = some f) (hfn : Tryz.pinned.checked.prog.funcs[f]? = some fn) :
    true = Tryz.pinned.checked.prog.looks [] ∧ ∀ (j : Nat) t, fn.params[j]? = some t → Tryz.pinned.checked.prog.wantsStandIn t = false := by
  obtain rfl : f = 3 := Option.some.inj ((show Tryz.prog.funcNamed Rows.fnExactStepRow.func = some 3 by kernel_rfl).symm.trans hf) |>.symm
  obtain rfl : fn = Tryz.f3 := (Option.some.inj (Tryz.func3.symm.trans hfn)).symm
  refine ⟨by kernel_rfl, fun j t ht => ?_⟩
  rw [Tryz.params3] at ht
  have hm := Array.mem_of_getElem? ht
  have hall : ∀ u ∈ Tryz.f3.params.toList, Tryz.prog.wantsStandIn u = false := by
    have h : (Tryz.f3.params.toList.all fun u => !Tryz.prog.wantsStandIn u) = true := by kernel_rfl
    intro u hu
    have := List.all_eq_true.1 h u hu
    simpa using this
  exact hall t (by rw [Tryz.params3]; simpa using hm)
theorem card : Rows.FnExactStepCardSaid :=
  Claim7.holds_tied_plain_at .later [] _ _ _ _ said (fun _ h => by cases h) (by kernel_rfl) (fun _ h => by cases h) fnExactStep_row_tie rfl ⟨rfl, rfl⟩ (by kernel_rfl) rfl plain (by kernel_rfl)
end Go.Proofs.YtpkhnajhamnggaaGreatDoor.fnExactStep

namespace Go.Proofs.YtpkhnajhamnggaaGreatDoor
/-- For every list of Ins and State Step of the program answers as the specification's Step, whole, in memory of its own, behind another call too; it leaves the list and the state as they were, and the law returns true; arguments of more than 2^20 elements the law passes by. The four errors of the program hold what its text lays. -/
theorem fnExactStep_holds : Rows.FnExactStepCardSaid := fnExactStep.card
#print axioms fnExactStep_holds
end Go.Proofs.YtpkhnajhamnggaaGreatDoor
