/- For every list of Ins and Core whose reading is of bulk at most 1048576 Pull of the program answers as the specification's Pull, whole, in memory of its own, behind another call too; it leaves the list and the core as they were, and the law returns true. The four errors of the program hold what its text lays (the card ties them). -/
import Derived.Test.YtpkhnajhamnggaaGreatDoorCards
import Derived.Test.YtpkhnajhamnggaaGreatDoorTie
import Derived.Test.YtpkhnajhamnggaaGreatDoorPulC
import Derived.Test.YtpkhnajhamnggaaGreatDoorPulD
import Derived.Test.YtpkhnajhamnggaaGreatDoorMrkC
import Derived.Test.YtpkhnajhamnggaaGreatDoorYB
import Derived.Test.YtpkhnajhamnggaaGreatDoorCorD
import Derived.Test.YtpkhnajhamnggaaGreatDoorStpL
import Derived.Test.YtpkhnajhamnggaaGreatDoorZA
import Derived.Test.YtpkhnajhamnggaaGreatDoorZF
import Derived.Test.YtpkhnajhamnggaaGreatDoorZE
import Derived.Test.YtpkhnajhamnggaaGreatDoorZI
import Derived.Test.YtpkhnajhamnggaaGreatDoorZJ
import Derived.WalkKit
import Derived.ProofKit
import Derived.OpenShut
import Derived.JoinedCond
import Derived.Lib.SmallJoins
import Derived.ChangeOld
import Derived.Below
import Derived.LaidHandle
import Derived.Stop.Joined
import Derived.SevenTiedAt
import Derived.Deep.Slices
import Derived.Deep.Strs
import Derived.Deep.DeepHandedRow
namespace Go.Proofs.YtpkhnajhamnggaaGreatDoor.fnExactPull
open Go.ChangeShapes Go.WideShapes Go.ChangeAt Go.RowKit Go.Joins Go.Deep
set_option linter.unusedVariables false

theorem own : ownKnob Tryz.prog.godebug = none := by kernel_rfl
theorem laidOut : laidOutB Tryz.prog = true := by kernel_rfl

set_option maxRecDepth 100000 in
set_option maxHeartbeats 20000000 in
theorem walk (la0 : Option Addr) (ln0 lc0 : Nat) (LL0 : List In) (v : Cv) (a : Ca) (r : Cr) (a0 a1 a2 a3 : Addr) (w : World) (hS0 : SliceI w.heap.size w la0 ln0 LL0) (hS1 : CoS w v a r) (hen1 : v.en ≤ 262144) (hE : Errs a0 a1 a2 a3 w) :
    Calls Tryz.prog 5 #[.slice la0 ln0 lc0, .agg (col v a).toArray] w fun e w' => e = .returned (.bool true) ∧ Below w.heap.size w w' := by
  by_cases hl : ln0 ≤ 1048576
  · obtain ⟨mi, hmi, hmi0, hmi1⟩ : ∃ m : Int, Hid (m = 1048576 - (ln0 : Int)) ∧ 0 ≤ m ∧ m ≤ 1048576 := ⟨_, rfl, by omega, by omega⟩
    have szi := fun w => szInsS_any la0 ln0 lc0 w hS0.1
    simp only [if_pos hl, ← hmi.out] at szi
    have SZI := hid_mk szi
    have sz := szCore_at v a mi hmi0 hmi1 hS1.st.rs.1 hS1.st.mem.ws.1 hS1.st.mem.gs.1 hS1.es.1 hS1.js.1
    clear szi
    by_cases hk : (v.rn : Int) + (v.wn : Int) + (v.gn : Int) + (v.en : Int) + (v.jn : Int) ≤ mi
    · obtain ⟨m, hm, hm0⟩ : ∃ m : Int, Hid (m = mi - (v.rn : Int) - (v.wn : Int) - (v.gn : Int) - (v.en : Int) - (v.jn : Int)) ∧ 0 ≤ m := ⟨_, rfl, by omega⟩
      simp only [if_pos hk, ← hm.out] at sz
      have SZ := hid_mk sz
      have hmo := hmi.out
      have hv : CvB v := ⟨by omega, by omega, by omega, hen1, by omega⟩
      have s1 := fun la lc a w h1 h2 h3 h4 => specPull_any la ln0 lc LL0 v a r w h1 h2 h3 h4
      have s2 := fun la lc a w h1 h2 h3 h4 h5 => implPull_any a0 a1 a2 a3 la ln0 lc LL0 v a r w h1 h2 h3 h4 h5
      have hVb : CvB (pulV LL0 v r) := pulV_b LL0 hv
      obtain ⟨V, HV⟩ : ∃ V, Hid (V = pulV LL0 v r) := ⟨_, rfl⟩
      obtain ⟨Rr, HR⟩ : ∃ R, Hid (R = pulR LL0 v r) := ⟨_, rfl⟩
      obtain ⟨Bb, HB⟩ : ∃ B, Hid (B = pulB v r) := ⟨_, rfl⟩
      simp only [← HV.out, ← HR.out, ← HB.out] at s1 s2 hVb
      have S1 := hid_mk s1
      have S2 := hid_mk s2
      have HE := hid_mk hE
      obtain ⟨mk, hmk⟩ : ∃ m : Int, m = 1 + 5 * (ln0 : Int) := ⟨_, rfl⟩
      obtain ⟨mx, hmx⟩ : ∃ m : Int, m = mk + 6 * (v.rn : Int) + 6 * (v.wn : Int) + (v.gn : Int) + 40 * (v.en : Int) + (v.jn : Int) := ⟨_, rfl⟩
      obtain ⟨mg, hmg⟩ : ∃ m : Int, m = 1 + 6 * (V.rn : Int) + 6 * (V.wn : Int) + (V.gn : Int) + 40 * (V.en : Int) + (V.jn : Int) := ⟨_, rfl⟩
      have hmk1 : 1 ≤ mk := by omega
      have hmx0 : 0 ≤ mx := by omega
      have hmg0 : 0 ≤ mg := by omega
      have hmgn : (mg != mg) = false := by simp
      have hmxb : mk + 6 * (v.rn : Int) + 6 * (v.wn : Int) ≤ 16777216 := by omega
      have hmgb : 1 + 6 * (V.rn : Int) + 6 * (V.wn : Int) ≤ 16777216 := by have := hVb.rn; have := hVb.wn; omega
      have HMK := hid_mk hmk
      have HMX := hid_mk hmx
      have HMG := hid_mk hmg
      have H := hid_mk ((((Hold.new w).push (sliF w.heap.size la0 ln0 LL0) ⟨hS0, Nat.le_refl _⟩).push (argCF w.heap.size v a r) hS1.arg).box (col v a) 60 w.heap.size rfl)
      clear sz s1 s2 HV HR HB hmk hmx hmg hmo hmi hm hS0 hS1 hk hE hen1
      generalize hw1 : w.alloc (.cells (col v a).toArray 60) = w1 at H
      go_enter Tryz.func5, Tryz.ntmps5
      go_upto_region 2 with fail
      clear hw1
      go_upto_region 5 with (go_at_call 6; refine (SZI.out _).mono ?_; rintro e w2 ⟨rfl, rfl⟩)
      have RC := hid_mk (H.out.cel (.head _)).range
      go_upto_region 8 with (first | (refine wpList_load_mid (by rfl) 60 _ (by rfl) w.heap.size 0 (by rfl) (col v a) _ RC.out Tryz.underlying60 rfl sizeCorL ?_) | (go_at_call 22; refine (SZ.out _).mono ?_; rintro e w3 ⟨rfl, hb⟩))
      replace H := hid_mk (H.out.next hb)
      clear hb RC SZ SZI
      go_upto_region 8 with fail
      go_cut [6, 7] (fun pa tv wx => ∃ r6 aw, pa = .pointer (some ⟨r6, 0, none⟩) ∧ tv = .bool Bb ∧ Hid (Hold w wx [celF r6 (col V aw), ansCF V aw Rr, celF w.heap.size (col v a), argCF w.heap.size v a r, sliF w.heap.size la0 ln0 LL0]))
      case first =>
        have D0 := hid_mk H.out.drew
        refine wp_region_held_drew (S := fun w' => Hold w w' [celF w.heap.size (col v a), argCF w.heap.size v a r, sliF w.heap.size la0 ln0 LL0]) (by kernel_rfl) D0.out (fun hHeld => ?_)
        generalize w3.drew = wd at D0 hHeld ⊢
        clear H
        have hwd : w.heap.size < wd.heap.size := (D0.out.cel (.head _)).lt
        have DD : Hid (∀ f ∈ [celF w.heap.size (col v a), argCF w.heap.size v a r, sliF w.heap.size la0 ln0 LL0], ∀ k, f.S k → k < wd.heap.size) := fun f hf k hk => by
          simp only [List.mem_cons, List.not_mem_nil, or_false] at hf
          rcases hf with rfl | rfl | rfl
          · have := (D0.out.cel (.head _)).lt; simp only [celF] at hk; omega
          · simp only [argCF] at hk; omega
          · simp only [sliF] at hk; omega
        refine take_on (i := 0) (d := 28) (v := .slice la0 ln0 lc0) rfl rfl (by kernel_rfl) (by kernel_rfl) (by kernel_rfl) (fun _ _ _ h => h) (by rfl) ?_ hHeld ?_
        · (intro w' hSw; go_simp)
        (try simp only [Act.put]); (try simp only [List.setIfInBounds_toArray]); (try simp only [List.set_cons_succ]); (try simp only [List.set_cons_zero]); (try simp only [List.set_cons_succ]); (try simp only [List.set_cons_zero]); (try simp only [Nat.zero_add])
        refine take_on (i := 2) (d := 30) (v := .agg (col v a).toArray) rfl rfl (by kernel_rfl) (by kernel_rfl) (by kernel_rfl) (fun _ _ _ h => h) (by rfl) ?_ hHeld ?_
        · exact fun w' hSw => exec_ldm (by rfl) (by rfl) ((show Hold w w' [celF w.heap.size (col v a), argCF w.heap.size v a r, sliF w.heap.size la0 ln0 LL0] from hSw).cel (.head _)).range Tryz.underlying60 rfl sizeCorL
        (try simp only [Act.put]); (try simp only [List.setIfInBounds_toArray]); (try simp only [List.set_cons_succ]); (try simp only [List.set_cons_zero]); (try simp only [List.set_cons_succ]); (try simp only [List.set_cons_zero]); (try simp only [Nat.zero_add])
        refine wpAnyH_ready (rs := [1, 8]) (by kernel_rfl) (by simp) ?_
        refine AllReadyH.cons rfl (fun K hK => ?_) (AllReadyH.cons rfl (fun K hK => ?_) AllReadyH.nil)
        · go_simp
          refine (toInsS_own _ _ _ LL0 _ hl (D0.out.sli (.tail _ (.tail _ (.head _))))).mono ?_
          rintro e v1 ⟨qt, rfl, hQ, _, hb⟩
          have z1 := hb.size
          have J1 := hid_mk ((D0.out.next hb).push (lstF qt ln0 LL0) hQ)
          clear hb hQ
          refine hK.out _ _ J1.out.tail (fun hHeld => ?_)
          clear hK K
          (try simp only [Act.put]); (try simp only [List.setIfInBounds_toArray]); (try simp only [List.set_cons_succ]); (try simp only [List.set_cons_zero]); (try simp only [List.set_cons_succ]); (try simp only [List.set_cons_zero]); (try simp only [Nat.zero_add])
          refine wpAnyH_ready (rs := [3, 8]) (by kernel_rfl) (by simp) ?_
          refine AllReadyH.cons rfl (fun K hK => ?_) (AllReadyH.cons rfl (fun K hK => ?_) AllReadyH.nil)
          · go_simp
            refine (toCore_ans v a r _ hv (J1.out.argC (.tail _ (.tail _ (.head _))))).mono ?_
            rintro e v2 ⟨at1, rfl, hA, hC, _, hb⟩
            have C3 := hid_mk hC
            have z2 := hb.size
            have J2 := hid_mk ((J1.out.next hb).push (ansCF v at1 r) hA)
            clear hb hA hC
            refine hK.out _ _ J2.out.tail.tail (fun hHeld => ?_)
            clear hK K
            (try simp only [Act.put]); (try simp only [List.setIfInBounds_toArray]); (try simp only [List.set_cons_succ]); (try simp only [List.set_cons_zero]); (try simp only [List.set_cons_succ]); (try simp only [List.set_cons_zero]); (try simp only [Nat.zero_add])
            refine wpAnyH_ready (rs := [4, 8]) (by kernel_rfl) (by simp) ?_
            refine AllReadyH.cons rfl (fun K hK => ?_) (AllReadyH.cons rfl (fun K hK => ?_) AllReadyH.nil)
            · go_simp
              refine (S1.out _ _ _ _ C3.out.s C3.out.t (J2.out.lsl (.tail _ (.head _)) hl) ((J2.out.ansC (.head _)).cos hv)).mono ?_
              rintro e v3 ⟨aw, rfl, hA, hf, hb⟩
              have z3 := hb.size
              have QN := hid_mk (fun k hk => And.intro (hf k hk) (hA.lt (k := k) hk))
              have J3 := hid_mk ((J2.out.next hb).push (ansCF V aw Rr) hA)
              clear hb hA hf
              refine hK.out _ _ J3.out.tail.tail.tail (fun hHeld => ?_)
              clear hK K
              (try simp only [Act.put]); (try simp only [List.setIfInBounds_toArray]); (try simp only [List.set_cons_succ]); (try simp only [List.set_cons_zero]); (try simp only [List.set_cons_succ]); (try simp only [List.set_cons_zero]); (try simp only [Nat.zero_add])
              refine take_on (i := 5) (d := 27) (v := .tuple #[.agg (col V aw).toArray, .bool Bb]) rfl rfl (by kernel_rfl) (by kernel_rfl) (by kernel_rfl) (fun _ _ _ h => h) (by rfl) ?_ hHeld ?_
              · (intro w' hSw; go_simp)
              (try simp only [Act.put]); (try simp only [List.setIfInBounds_toArray]); (try simp only [List.set_cons_succ]); (try simp only [List.set_cons_zero]); (try simp only [List.set_cons_succ]); (try simp only [List.set_cons_zero]); (try simp only [Nat.zero_add])
              refine take_on (i := 6) (d := 33) (v := .agg (col V aw).toArray) rfl rfl (by kernel_rfl) (by kernel_rfl) (by kernel_rfl) (fun _ _ _ h => h) (by rfl) ?_ hHeld ?_
              · (intro w' hSw; go_simp)
              (try simp only [Act.put]); (try simp only [List.setIfInBounds_toArray]); (try simp only [List.set_cons_succ]); (try simp only [List.set_cons_zero]); (try simp only [List.set_cons_succ]); (try simp only [List.set_cons_zero]); (try simp only [Nat.zero_add])
              refine take_on (i := 7) (d := 34) (v := .bool Bb) rfl rfl (by kernel_rfl) (by kernel_rfl) (by kernel_rfl) (fun _ _ _ h => h) (by rfl) ?_ hHeld ?_
              · (intro w' hSw; go_simp)
              (try simp only [Act.put]); (try simp only [List.setIfInBounds_toArray]); (try simp only [List.set_cons_succ]); (try simp only [List.set_cons_zero]); (try simp only [List.set_cons_succ]); (try simp only [List.set_cons_zero]); (try simp only [Nat.zero_add])
              refine wpAnyH_ready (rs := [8]) (by kernel_rfl) (by simp) ?_
              refine AllReadyH.cons rfl (fun K hK => ?_) AllReadyH.nil
              go_simp
              have J4 := hid_mk (J3.out.box ([.slice none 0 0, .int .i64 0, .bool false, .int .i64 0, .int .i64 0, .int .i64 0, .int .i64 0, .slice none 0 0, .slice none 0 0, .int .i64 0, .slice none 0 0, .int .i64 0, .bool false, .int .i64 0, .int .i64 0, .int .i64 0, .int .i64 0, .bool false, .slice none 0 0] : List Value) 64 v3.heap.size rfl)
              refine hK.out _ _ J4.out.tail.tail.tail.tail (fun hHeld => ?_)
              clear hK K
              (try simp only [Act.put]); (try simp only [List.setIfInBounds_toArray]); (try simp only [List.set_cons_succ]); (try simp only [List.set_cons_zero]); (try simp only [List.set_cons_succ]); (try simp only [List.set_cons_zero]); (try simp only [Nat.zero_add])
              obtain ⟨r6, hr6⟩ : ∃ r, r = v3.heap.size := ⟨_, rfl⟩
              have zy : wd.heap.size ≤ r6 ∧ v3.heap.size ≤ r6 := by omega
              rw [← hr6] at J4 ⊢
              clear hr6
              generalize v3.alloc (.cells ([.slice none 0 0, .int .i64 0, .bool false, .int .i64 0, .int .i64 0, .int .i64 0, .int .i64 0, .slice none 0 0, .slice none 0 0, .int .i64 0, .slice none 0 0, .int .i64 0, .bool false, .int .i64 0, .int .i64 0, .int .i64 0, .int .i64 0, .bool false, .slice none 0 0] : List Value).toArray 64) = v4 at J4 hHeld ⊢
              have zA : r6 < v4.heap.size := (J4.out.cel (.head _)).lt
              have J5 := hid_mk (J4.out.sub (gs := [celF r6 ([.slice none 0 0, .int .i64 0, .bool false, .int .i64 0, .int .i64 0, .int .i64 0, .int .i64 0, .slice none 0 0, .slice none 0 0, .int .i64 0, .slice none 0 0, .int .i64 0, .bool false, .int .i64 0, .int .i64 0, .int .i64 0, .int .i64 0, .bool false, .slice none 0 0] : List Value), ansCF V aw Rr, celF w.heap.size (col v a), argCF w.heap.size v a r, sliF w.heap.size la0 ln0 LL0]) (fun f hf => by simp only [List.mem_cons, List.not_mem_nil, or_false] at hf ⊢; rcases hf with rfl | rfl | rfl | rfl | rfl; exact .inl rfl; exact .inr (.inl rfl); exact .inr (.inr (.inr (.inr (.inl rfl)))); exact .inr (.inr (.inr (.inr (.inr (.inl rfl))))); exact .inr (.inr (.inr (.inr (.inr (.inr rfl)))))))
              have TH : Hid (v4.there r6 0 19) := (J5.out.cel (.head _)).there
              have HS : Hid (Hold w (v4.setCells r6 0 (col V aw)) [celF r6 (col V aw), ansCF V aw Rr, celF w.heap.size (col v a), argCF w.heap.size v a r, sliF w.heap.size la0 ln0 LL0]) := J5.out.sets (col V aw) (by omega) (fun f hf k hk => (List.mem_cons.1 hf).elim (fun e => by subst e; have := QN.out k hk; omega) (fun h => by have := DD.out f h k hk; omega)) rfl
              refine wpAnyH_ready (rs := [9]) (by kernel_rfl) (by simp) ?_
              refine AllReadyH.cons rfl (fun K hK => ?_) AllReadyH.nil
              refine step_stm (by rfl) 64 _ _ (by rfl) r6 0 (col V aw).toArray (by rfl) (by rfl) TH.out sizeCor (col_one V aw) ?_
              refine hK.out _ _ HS.out.tail.tail (fun hHeld => ?_)
              clear hK K
              (try simp only [Act.put]); (try simp only [List.setIfInBounds_toArray]); (try simp only [List.set_cons_succ]); (try simp only [List.set_cons_zero]); (try simp only [List.set_cons_succ]); (try simp only [List.set_cons_zero]); (try simp only [Nat.zero_add])
              refine take_on (i := 10) (d := 7) (v := .bool Bb) rfl rfl (by kernel_rfl) (by kernel_rfl) (by kernel_rfl) (fun _ _ _ h => h) (by rfl) ?_ hHeld ?_
              · (intro w' hSw; go_simp)
              (try simp only [Act.put]); (try simp only [List.setIfInBounds_toArray]); (try simp only [List.set_cons_succ]); (try simp only [List.set_cons_zero]); (try simp only [List.set_cons_succ]); (try simp only [List.set_cons_zero]); (try simp only [Nat.zero_add])
              refine wpAnyH_done (by kernel_rfl) ?_ _
              clear hHeld
              try dsimp only
              generalize v4.setCells r6 0 (col V aw) = wz at HS ⊢
              go_wp2_with fail
              go_meet
              case rel => exact ⟨_, _, rfl, rfl, HS.out⟩
            · go_simp
              have J3 := hid_mk (J2.out.box ([.slice none 0 0, .int .i64 0, .bool false, .int .i64 0, .int .i64 0, .int .i64 0, .int .i64 0, .slice none 0 0, .slice none 0 0, .int .i64 0, .slice none 0 0, .int .i64 0, .bool false, .int .i64 0, .int .i64 0, .int .i64 0, .int .i64 0, .bool false, .slice none 0 0] : List Value) 64 v2.heap.size rfl)
              refine hK.out _ _ J3.out.tail.tail.tail (fun hHeld => ?_)
              clear hK K
              (try simp only [Act.put]); (try simp only [List.setIfInBounds_toArray]); (try simp only [List.set_cons_succ]); (try simp only [List.set_cons_zero]); (try simp only [List.set_cons_succ]); (try simp only [List.set_cons_zero]); (try simp only [Nat.zero_add])
              obtain ⟨r6, hr6⟩ : ∃ r, r = v2.heap.size := ⟨_, rfl⟩
              have zy : wd.heap.size ≤ r6 ∧ v2.heap.size ≤ r6 := by omega
              rw [← hr6] at J3 ⊢
              clear hr6
              generalize v2.alloc (.cells ([.slice none 0 0, .int .i64 0, .bool false, .int .i64 0, .int .i64 0, .int .i64 0, .int .i64 0, .slice none 0 0, .slice none 0 0, .int .i64 0, .slice none 0 0, .int .i64 0, .bool false, .int .i64 0, .int .i64 0, .int .i64 0, .int .i64 0, .bool false, .slice none 0 0] : List Value).toArray 64) = v3 at J3 hHeld ⊢
              have zA : r6 < v3.heap.size := (J3.out.cel (.head _)).lt
              refine wpAnyH_ready (rs := [4]) (by kernel_rfl) (by simp) ?_
              refine AllReadyH.cons rfl (fun K hK => ?_) AllReadyH.nil
              go_simp
              refine (S1.out _ _ _ _ C3.out.s C3.out.t (J3.out.lsl (.tail _ (.tail _ (.head _))) hl) ((J3.out.ansC (.tail _ (.head _))).cos hv)).mono ?_
              rintro e v4 ⟨aw, rfl, hA, hf, hb⟩
              have z4 := hb.size
              have QN := hid_mk (fun k hk => And.intro (hf k hk) (hA.lt (k := k) hk))
              have J4 := hid_mk ((J3.out.next hb).push (ansCF V aw Rr) hA)
              clear hb hA hf
              refine hK.out _ _ J4.out.tail.tail.tail.tail (fun hHeld => ?_)
              clear hK K
              (try simp only [Act.put]); (try simp only [List.setIfInBounds_toArray]); (try simp only [List.set_cons_succ]); (try simp only [List.set_cons_zero]); (try simp only [List.set_cons_succ]); (try simp only [List.set_cons_zero]); (try simp only [Nat.zero_add])
              refine take_on (i := 5) (d := 27) (v := .tuple #[.agg (col V aw).toArray, .bool Bb]) rfl rfl (by kernel_rfl) (by kernel_rfl) (by kernel_rfl) (fun _ _ _ h => h) (by rfl) ?_ hHeld ?_
              · (intro w' hSw; go_simp)
              (try simp only [Act.put]); (try simp only [List.setIfInBounds_toArray]); (try simp only [List.set_cons_succ]); (try simp only [List.set_cons_zero]); (try simp only [List.set_cons_succ]); (try simp only [List.set_cons_zero]); (try simp only [Nat.zero_add])
              refine take_on (i := 6) (d := 33) (v := .agg (col V aw).toArray) rfl rfl (by kernel_rfl) (by kernel_rfl) (by kernel_rfl) (fun _ _ _ h => h) (by rfl) ?_ hHeld ?_
              · (intro w' hSw; go_simp)
              (try simp only [Act.put]); (try simp only [List.setIfInBounds_toArray]); (try simp only [List.set_cons_succ]); (try simp only [List.set_cons_zero]); (try simp only [List.set_cons_succ]); (try simp only [List.set_cons_zero]); (try simp only [Nat.zero_add])
              refine take_on (i := 7) (d := 34) (v := .bool Bb) rfl rfl (by kernel_rfl) (by kernel_rfl) (by kernel_rfl) (fun _ _ _ h => h) (by rfl) ?_ hHeld ?_
              · (intro w' hSw; go_simp)
              (try simp only [Act.put]); (try simp only [List.setIfInBounds_toArray]); (try simp only [List.set_cons_succ]); (try simp only [List.set_cons_zero]); (try simp only [List.set_cons_succ]); (try simp only [List.set_cons_zero]); (try simp only [Nat.zero_add])
              have J5 := hid_mk (J4.out.sub (gs := [celF r6 ([.slice none 0 0, .int .i64 0, .bool false, .int .i64 0, .int .i64 0, .int .i64 0, .int .i64 0, .slice none 0 0, .slice none 0 0, .int .i64 0, .slice none 0 0, .int .i64 0, .bool false, .int .i64 0, .int .i64 0, .int .i64 0, .int .i64 0, .bool false, .slice none 0 0] : List Value), ansCF V aw Rr, celF w.heap.size (col v a), argCF w.heap.size v a r, sliF w.heap.size la0 ln0 LL0]) (fun f hf => by simp only [List.mem_cons, List.not_mem_nil, or_false] at hf ⊢; rcases hf with rfl | rfl | rfl | rfl | rfl; exact .inr (.inl rfl); exact .inl rfl; exact .inr (.inr (.inr (.inr (.inl rfl)))); exact .inr (.inr (.inr (.inr (.inr (.inl rfl))))); exact .inr (.inr (.inr (.inr (.inr (.inr rfl)))))))
              have TH : Hid (v4.there r6 0 19) := (J5.out.cel (.head _)).there
              have HS : Hid (Hold w (v4.setCells r6 0 (col V aw)) [celF r6 (col V aw), ansCF V aw Rr, celF w.heap.size (col v a), argCF w.heap.size v a r, sliF w.heap.size la0 ln0 LL0]) := J5.out.sets (col V aw) (by omega) (fun f hf k hk => (List.mem_cons.1 hf).elim (fun e => by subst e; have := QN.out k hk; omega) (fun h => by have := DD.out f h k hk; omega)) rfl
              refine wpAnyH_ready (rs := [9]) (by kernel_rfl) (by simp) ?_
              refine AllReadyH.cons rfl (fun K hK => ?_) AllReadyH.nil
              refine step_stm (by rfl) 64 _ _ (by rfl) r6 0 (col V aw).toArray (by rfl) (by rfl) TH.out sizeCor (col_one V aw) ?_
              refine hK.out _ _ HS.out.tail.tail (fun hHeld => ?_)
              clear hK K
              (try simp only [Act.put]); (try simp only [List.setIfInBounds_toArray]); (try simp only [List.set_cons_succ]); (try simp only [List.set_cons_zero]); (try simp only [List.set_cons_succ]); (try simp only [List.set_cons_zero]); (try simp only [Nat.zero_add])
              refine take_on (i := 10) (d := 7) (v := .bool Bb) rfl rfl (by kernel_rfl) (by kernel_rfl) (by kernel_rfl) (fun _ _ _ h => h) (by rfl) ?_ hHeld ?_
              · (intro w' hSw; go_simp)
              (try simp only [Act.put]); (try simp only [List.setIfInBounds_toArray]); (try simp only [List.set_cons_succ]); (try simp only [List.set_cons_zero]); (try simp only [List.set_cons_succ]); (try simp only [List.set_cons_zero]); (try simp only [Nat.zero_add])
              refine wpAnyH_done (by kernel_rfl) ?_ _
              clear hHeld
              try dsimp only
              generalize v4.setCells r6 0 (col V aw) = wz at HS ⊢
              go_wp2_with fail
              go_meet
              case rel => exact ⟨_, _, rfl, rfl, HS.out⟩
          · go_simp
            have J2 := hid_mk (J1.out.box ([.slice none 0 0, .int .i64 0, .bool false, .int .i64 0, .int .i64 0, .int .i64 0, .int .i64 0, .slice none 0 0, .slice none 0 0, .int .i64 0, .slice none 0 0, .int .i64 0, .bool false, .int .i64 0, .int .i64 0, .int .i64 0, .int .i64 0, .bool false, .slice none 0 0] : List Value) 64 v1.heap.size rfl)
            refine hK.out _ _ J2.out.tail.tail (fun hHeld => ?_)
            clear hK K
            (try simp only [Act.put]); (try simp only [List.setIfInBounds_toArray]); (try simp only [List.set_cons_succ]); (try simp only [List.set_cons_zero]); (try simp only [List.set_cons_succ]); (try simp only [List.set_cons_zero]); (try simp only [Nat.zero_add])
            obtain ⟨r6, hr6⟩ : ∃ r, r = v1.heap.size := ⟨_, rfl⟩
            have zy : wd.heap.size ≤ r6 ∧ v1.heap.size ≤ r6 := by omega
            rw [← hr6] at J2 ⊢
            clear hr6
            generalize v1.alloc (.cells ([.slice none 0 0, .int .i64 0, .bool false, .int .i64 0, .int .i64 0, .int .i64 0, .int .i64 0, .slice none 0 0, .slice none 0 0, .int .i64 0, .slice none 0 0, .int .i64 0, .bool false, .int .i64 0, .int .i64 0, .int .i64 0, .int .i64 0, .bool false, .slice none 0 0] : List Value).toArray 64) = v2 at J2 hHeld ⊢
            have zA : r6 < v2.heap.size := (J2.out.cel (.head _)).lt
            refine wpAnyH_ready (rs := [3]) (by kernel_rfl) (by simp) ?_
            refine AllReadyH.cons rfl (fun K hK => ?_) AllReadyH.nil
            go_simp
            refine (toCore_ans v a r _ hv (J2.out.argC (.tail _ (.tail _ (.tail _ (.head _)))))).mono ?_
            rintro e v3 ⟨at1, rfl, hA, hC, _, hb⟩
            have C3 := hid_mk hC
            have z3 := hb.size
            have J3 := hid_mk ((J2.out.next hb).push (ansCF v at1 r) hA)
            clear hb hA hC
            refine hK.out _ _ J3.out.tail.tail.tail (fun hHeld => ?_)
            clear hK K
            (try simp only [Act.put]); (try simp only [List.setIfInBounds_toArray]); (try simp only [List.set_cons_succ]); (try simp only [List.set_cons_zero]); (try simp only [List.set_cons_succ]); (try simp only [List.set_cons_zero]); (try simp only [Nat.zero_add])
            refine wpAnyH_ready (rs := [4]) (by kernel_rfl) (by simp) ?_
            refine AllReadyH.cons rfl (fun K hK => ?_) AllReadyH.nil
            go_simp
            refine (S1.out _ _ _ _ C3.out.s C3.out.t (J3.out.lsl (.tail _ (.tail _ (.head _))) hl) ((J3.out.ansC (.head _)).cos hv)).mono ?_
            rintro e v4 ⟨aw, rfl, hA, hf, hb⟩
            have z4 := hb.size
            have QN := hid_mk (fun k hk => And.intro (hf k hk) (hA.lt (k := k) hk))
            have J4 := hid_mk ((J3.out.next hb).push (ansCF V aw Rr) hA)
            clear hb hA hf
            refine hK.out _ _ J4.out.tail.tail.tail.tail (fun hHeld => ?_)
            clear hK K
            (try simp only [Act.put]); (try simp only [List.setIfInBounds_toArray]); (try simp only [List.set_cons_succ]); (try simp only [List.set_cons_zero]); (try simp only [List.set_cons_succ]); (try simp only [List.set_cons_zero]); (try simp only [Nat.zero_add])
            refine take_on (i := 5) (d := 27) (v := .tuple #[.agg (col V aw).toArray, .bool Bb]) rfl rfl (by kernel_rfl) (by kernel_rfl) (by kernel_rfl) (fun _ _ _ h => h) (by rfl) ?_ hHeld ?_
            · (intro w' hSw; go_simp)
            (try simp only [Act.put]); (try simp only [List.setIfInBounds_toArray]); (try simp only [List.set_cons_succ]); (try simp only [List.set_cons_zero]); (try simp only [List.set_cons_succ]); (try simp only [List.set_cons_zero]); (try simp only [Nat.zero_add])
            refine take_on (i := 6) (d := 33) (v := .agg (col V aw).toArray) rfl rfl (by kernel_rfl) (by kernel_rfl) (by kernel_rfl) (fun _ _ _ h => h) (by rfl) ?_ hHeld ?_
            · (intro w' hSw; go_simp)
            (try simp only [Act.put]); (try simp only [List.setIfInBounds_toArray]); (try simp only [List.set_cons_succ]); (try simp only [List.set_cons_zero]); (try simp only [List.set_cons_succ]); (try simp only [List.set_cons_zero]); (try simp only [Nat.zero_add])
            refine take_on (i := 7) (d := 34) (v := .bool Bb) rfl rfl (by kernel_rfl) (by kernel_rfl) (by kernel_rfl) (fun _ _ _ h => h) (by rfl) ?_ hHeld ?_
            · (intro w' hSw; go_simp)
            (try simp only [Act.put]); (try simp only [List.setIfInBounds_toArray]); (try simp only [List.set_cons_succ]); (try simp only [List.set_cons_zero]); (try simp only [List.set_cons_succ]); (try simp only [List.set_cons_zero]); (try simp only [Nat.zero_add])
            have J5 := hid_mk (J4.out.sub (gs := [celF r6 ([.slice none 0 0, .int .i64 0, .bool false, .int .i64 0, .int .i64 0, .int .i64 0, .int .i64 0, .slice none 0 0, .slice none 0 0, .int .i64 0, .slice none 0 0, .int .i64 0, .bool false, .int .i64 0, .int .i64 0, .int .i64 0, .int .i64 0, .bool false, .slice none 0 0] : List Value), ansCF V aw Rr, celF w.heap.size (col v a), argCF w.heap.size v a r, sliF w.heap.size la0 ln0 LL0]) (fun f hf => by simp only [List.mem_cons, List.not_mem_nil, or_false] at hf ⊢; rcases hf with rfl | rfl | rfl | rfl | rfl; exact .inr (.inr (.inl rfl)); exact .inl rfl; exact .inr (.inr (.inr (.inr (.inl rfl)))); exact .inr (.inr (.inr (.inr (.inr (.inl rfl))))); exact .inr (.inr (.inr (.inr (.inr (.inr rfl)))))))
            have TH : Hid (v4.there r6 0 19) := (J5.out.cel (.head _)).there
            have HS : Hid (Hold w (v4.setCells r6 0 (col V aw)) [celF r6 (col V aw), ansCF V aw Rr, celF w.heap.size (col v a), argCF w.heap.size v a r, sliF w.heap.size la0 ln0 LL0]) := J5.out.sets (col V aw) (by omega) (fun f hf k hk => (List.mem_cons.1 hf).elim (fun e => by subst e; have := QN.out k hk; omega) (fun h => by have := DD.out f h k hk; omega)) rfl
            refine wpAnyH_ready (rs := [9]) (by kernel_rfl) (by simp) ?_
            refine AllReadyH.cons rfl (fun K hK => ?_) AllReadyH.nil
            refine step_stm (by rfl) 64 _ _ (by rfl) r6 0 (col V aw).toArray (by rfl) (by rfl) TH.out sizeCor (col_one V aw) ?_
            refine hK.out _ _ HS.out.tail.tail (fun hHeld => ?_)
            clear hK K
            (try simp only [Act.put]); (try simp only [List.setIfInBounds_toArray]); (try simp only [List.set_cons_succ]); (try simp only [List.set_cons_zero]); (try simp only [List.set_cons_succ]); (try simp only [List.set_cons_zero]); (try simp only [Nat.zero_add])
            refine take_on (i := 10) (d := 7) (v := .bool Bb) rfl rfl (by kernel_rfl) (by kernel_rfl) (by kernel_rfl) (fun _ _ _ h => h) (by rfl) ?_ hHeld ?_
            · (intro w' hSw; go_simp)
            (try simp only [Act.put]); (try simp only [List.setIfInBounds_toArray]); (try simp only [List.set_cons_succ]); (try simp only [List.set_cons_zero]); (try simp only [List.set_cons_succ]); (try simp only [List.set_cons_zero]); (try simp only [Nat.zero_add])
            refine wpAnyH_done (by kernel_rfl) ?_ _
            clear hHeld
            try dsimp only
            generalize v4.setCells r6 0 (col V aw) = wz at HS ⊢
            go_wp2_with fail
            go_meet
            case rel => exact ⟨_, _, rfl, rfl, HS.out⟩
        · go_simp
          have J1 := hid_mk (D0.out.box ([.slice none 0 0, .int .i64 0, .bool false, .int .i64 0, .int .i64 0, .int .i64 0, .int .i64 0, .slice none 0 0, .slice none 0 0, .int .i64 0, .slice none 0 0, .int .i64 0, .bool false, .int .i64 0, .int .i64 0, .int .i64 0, .int .i64 0, .bool false, .slice none 0 0] : List Value) 64 wd.heap.size rfl)
          refine hK.out _ _ J1.out.tail (fun hHeld => ?_)
          clear hK K
          (try simp only [Act.put]); (try simp only [List.setIfInBounds_toArray]); (try simp only [List.set_cons_succ]); (try simp only [List.set_cons_zero]); (try simp only [List.set_cons_succ]); (try simp only [List.set_cons_zero]); (try simp only [Nat.zero_add])
          obtain ⟨r6, hr6⟩ : ∃ r, r = wd.heap.size := ⟨_, rfl⟩
          have zy : wd.heap.size ≤ r6 ∧ wd.heap.size ≤ r6 := by omega
          rw [← hr6] at J1 ⊢
          clear hr6
          generalize wd.alloc (.cells ([.slice none 0 0, .int .i64 0, .bool false, .int .i64 0, .int .i64 0, .int .i64 0, .int .i64 0, .slice none 0 0, .slice none 0 0, .int .i64 0, .slice none 0 0, .int .i64 0, .bool false, .int .i64 0, .int .i64 0, .int .i64 0, .int .i64 0, .bool false, .slice none 0 0] : List Value).toArray 64) = v1 at J1 hHeld ⊢
          have zA : r6 < v1.heap.size := (J1.out.cel (.head _)).lt
          refine wpAnyH_ready (rs := [1]) (by kernel_rfl) (by simp) ?_
          refine AllReadyH.cons rfl (fun K hK => ?_) AllReadyH.nil
          go_simp
          refine (toInsS_own _ _ _ LL0 _ hl (J1.out.sli (.tail _ (.tail _ (.tail _ (.head _)))))).mono ?_
          rintro e v2 ⟨qt, rfl, hQ, _, hb⟩
          have z2 := hb.size
          have J2 := hid_mk ((J1.out.next hb).push (lstF qt ln0 LL0) hQ)
          clear hb hQ
          refine hK.out _ _ J2.out.tail.tail (fun hHeld => ?_)
          clear hK K
          (try simp only [Act.put]); (try simp only [List.setIfInBounds_toArray]); (try simp only [List.set_cons_succ]); (try simp only [List.set_cons_zero]); (try simp only [List.set_cons_succ]); (try simp only [List.set_cons_zero]); (try simp only [Nat.zero_add])
          refine wpAnyH_ready (rs := [3]) (by kernel_rfl) (by simp) ?_
          refine AllReadyH.cons rfl (fun K hK => ?_) AllReadyH.nil
          go_simp
          refine (toCore_ans v a r _ hv (J2.out.argC (.tail _ (.tail _ (.tail _ (.head _)))))).mono ?_
          rintro e v3 ⟨at1, rfl, hA, hC, _, hb⟩
          have C3 := hid_mk hC
          have z3 := hb.size
          have J3 := hid_mk ((J2.out.next hb).push (ansCF v at1 r) hA)
          clear hb hA hC
          refine hK.out _ _ J3.out.tail.tail.tail (fun hHeld => ?_)
          clear hK K
          (try simp only [Act.put]); (try simp only [List.setIfInBounds_toArray]); (try simp only [List.set_cons_succ]); (try simp only [List.set_cons_zero]); (try simp only [List.set_cons_succ]); (try simp only [List.set_cons_zero]); (try simp only [Nat.zero_add])
          refine wpAnyH_ready (rs := [4]) (by kernel_rfl) (by simp) ?_
          refine AllReadyH.cons rfl (fun K hK => ?_) AllReadyH.nil
          go_simp
          refine (S1.out _ _ _ _ C3.out.s C3.out.t (J3.out.lsl (.tail _ (.head _)) hl) ((J3.out.ansC (.head _)).cos hv)).mono ?_
          rintro e v4 ⟨aw, rfl, hA, hf, hb⟩
          have z4 := hb.size
          have QN := hid_mk (fun k hk => And.intro (hf k hk) (hA.lt (k := k) hk))
          have J4 := hid_mk ((J3.out.next hb).push (ansCF V aw Rr) hA)
          clear hb hA hf
          refine hK.out _ _ J4.out.tail.tail.tail.tail (fun hHeld => ?_)
          clear hK K
          (try simp only [Act.put]); (try simp only [List.setIfInBounds_toArray]); (try simp only [List.set_cons_succ]); (try simp only [List.set_cons_zero]); (try simp only [List.set_cons_succ]); (try simp only [List.set_cons_zero]); (try simp only [Nat.zero_add])
          refine take_on (i := 5) (d := 27) (v := .tuple #[.agg (col V aw).toArray, .bool Bb]) rfl rfl (by kernel_rfl) (by kernel_rfl) (by kernel_rfl) (fun _ _ _ h => h) (by rfl) ?_ hHeld ?_
          · (intro w' hSw; go_simp)
          (try simp only [Act.put]); (try simp only [List.setIfInBounds_toArray]); (try simp only [List.set_cons_succ]); (try simp only [List.set_cons_zero]); (try simp only [List.set_cons_succ]); (try simp only [List.set_cons_zero]); (try simp only [Nat.zero_add])
          refine take_on (i := 6) (d := 33) (v := .agg (col V aw).toArray) rfl rfl (by kernel_rfl) (by kernel_rfl) (by kernel_rfl) (fun _ _ _ h => h) (by rfl) ?_ hHeld ?_
          · (intro w' hSw; go_simp)
          (try simp only [Act.put]); (try simp only [List.setIfInBounds_toArray]); (try simp only [List.set_cons_succ]); (try simp only [List.set_cons_zero]); (try simp only [List.set_cons_succ]); (try simp only [List.set_cons_zero]); (try simp only [Nat.zero_add])
          refine take_on (i := 7) (d := 34) (v := .bool Bb) rfl rfl (by kernel_rfl) (by kernel_rfl) (by kernel_rfl) (fun _ _ _ h => h) (by rfl) ?_ hHeld ?_
          · (intro w' hSw; go_simp)
          (try simp only [Act.put]); (try simp only [List.setIfInBounds_toArray]); (try simp only [List.set_cons_succ]); (try simp only [List.set_cons_zero]); (try simp only [List.set_cons_succ]); (try simp only [List.set_cons_zero]); (try simp only [Nat.zero_add])
          have J5 := hid_mk (J4.out.sub (gs := [celF r6 ([.slice none 0 0, .int .i64 0, .bool false, .int .i64 0, .int .i64 0, .int .i64 0, .int .i64 0, .slice none 0 0, .slice none 0 0, .int .i64 0, .slice none 0 0, .int .i64 0, .bool false, .int .i64 0, .int .i64 0, .int .i64 0, .int .i64 0, .bool false, .slice none 0 0] : List Value), ansCF V aw Rr, celF w.heap.size (col v a), argCF w.heap.size v a r, sliF w.heap.size la0 ln0 LL0]) (fun f hf => by simp only [List.mem_cons, List.not_mem_nil, or_false] at hf ⊢; rcases hf with rfl | rfl | rfl | rfl | rfl; exact .inr (.inr (.inr (.inl rfl))); exact .inl rfl; exact .inr (.inr (.inr (.inr (.inl rfl)))); exact .inr (.inr (.inr (.inr (.inr (.inl rfl))))); exact .inr (.inr (.inr (.inr (.inr (.inr rfl)))))))
          have TH : Hid (v4.there r6 0 19) := (J5.out.cel (.head _)).there
          have HS : Hid (Hold w (v4.setCells r6 0 (col V aw)) [celF r6 (col V aw), ansCF V aw Rr, celF w.heap.size (col v a), argCF w.heap.size v a r, sliF w.heap.size la0 ln0 LL0]) := J5.out.sets (col V aw) (by omega) (fun f hf k hk => (List.mem_cons.1 hf).elim (fun e => by subst e; have := QN.out k hk; omega) (fun h => by have := DD.out f h k hk; omega)) rfl
          refine wpAnyH_ready (rs := [9]) (by kernel_rfl) (by simp) ?_
          refine AllReadyH.cons rfl (fun K hK => ?_) AllReadyH.nil
          refine step_stm (by rfl) 64 _ _ (by rfl) r6 0 (col V aw).toArray (by rfl) (by rfl) TH.out sizeCor (col_one V aw) ?_
          refine hK.out _ _ HS.out.tail.tail (fun hHeld => ?_)
          clear hK K
          (try simp only [Act.put]); (try simp only [List.setIfInBounds_toArray]); (try simp only [List.set_cons_succ]); (try simp only [List.set_cons_zero]); (try simp only [List.set_cons_succ]); (try simp only [List.set_cons_zero]); (try simp only [Nat.zero_add])
          refine take_on (i := 10) (d := 7) (v := .bool Bb) rfl rfl (by kernel_rfl) (by kernel_rfl) (by kernel_rfl) (fun _ _ _ h => h) (by rfl) ?_ hHeld ?_
          · (intro w' hSw; go_simp)
          (try simp only [Act.put]); (try simp only [List.setIfInBounds_toArray]); (try simp only [List.set_cons_succ]); (try simp only [List.set_cons_zero]); (try simp only [List.set_cons_succ]); (try simp only [List.set_cons_zero]); (try simp only [Nat.zero_add])
          refine wpAnyH_done (by kernel_rfl) ?_ _
          clear hHeld
          try dsimp only
          generalize v4.setCells r6 0 (col V aw) = wz at HS ⊢
          go_wp2_with fail
          go_meet
          case rel => exact ⟨_, _, rfl, rfl, HS.out⟩
      case' rest =>
        obtain ⟨r6, aw, rfl, rfl, H⟩ := hcut
        have QW0 := hid_mk (fun k hk => (H.out.ansC (.tail _ (.head _))).lt (k := k) hk)
        have hz1 : r6 < wc.heap.size := (H.out.cel (.head _)).lt
        have hz2 : w.heap.size < wc.heap.size := (H.out.cel (.tail _ (.tail _ (.head _)))).lt
        go_upto_region 10 with (go_at_call 9; refine (toInsS_own _ _ _ LL0 _ hl (H.out.sli (.tail _ (.tail _ (.tail _ (.tail _ (.head _))))))).mono ?_; rintro e w6 ⟨q0, rfl, hQ, hq, hb⟩)
        have hz3 : q0 < w6.heap.size := hQ.1.lt
        replace H := hid_mk ((H.out.next hb).push (lstF q0 ln0 LL0) hQ)
        clear hb hQ
        generalize wc.heap.size = z5 at QW0 hz1 hz2 hq
        have RC := hid_mk (H.out.cel (.tail _ (.tail _ (.tail _ (.head _))))).range
        go_upto_region 11 with (first | (refine wpList_load_mid (by rfl) 60 _ (by rfl) w.heap.size 0 (by rfl) (col v a) _ RC.out Tryz.underlying60 rfl sizeCorL ?_) | (go_at_call 24; refine (toCore_ans v a r _ hv (H.out.argC (.tail _ (.tail _ (.tail _ (.tail _ (.head _))))))).mono ?_; rintro e w7 ⟨ax, rfl, A7, C7, hg7, hb⟩; have CX := hid_mk C7; have QX0 := hid_mk (fun k hk => And.intro (hg7 k hk) (A7.lt (k := k) hk)); have hz4 := hb.size; replace H := hid_mk ((H.out.next hb).push (ansCF v ax r) A7); clear hb A7 C7 hg7; have C0 := hid_mk (Cel.new w7 ([.slice none 0 0, .int .i64 0, .bool false, .int .i64 0, .int .i64 0, .int .i64 0, .int .i64 0, .slice none 0 0, .slice none 0 0, .int .i64 0, .slice none 0 0, .int .i64 0, .bool false, .int .i64 0, .int .i64 0, .int .i64 0, .int .i64 0, .bool false, .slice none 0 0] : List Value) 64); have TH := hid_mk C0.out.there) | (refine wpList_store_mid (by rfl) 64 _ _ (by rfl) w7.heap.size 0 (col v ax).toArray (by rfl) (by rfl) TH.out sizeCor (col_one v ax) ?_))
        clear RC
        have hb0 := below_sets (col v ax) ((Below.refl _ w7).alloc (Nat.le_refl _) (.cells ([.slice none 0 0, .int .i64 0, .bool false, .int .i64 0, .int .i64 0, .int .i64 0, .int .i64 0, .slice none 0 0, .slice none 0 0, .int .i64 0, .slice none 0 0, .int .i64 0, .bool false, .int .i64 0, .int .i64 0, .int .i64 0, .int .i64 0, .bool false, .slice none 0 0] : List Value).toArray 64)) (Nat.le_refl _)
        have hs0 : ((w7.alloc (.cells ([.slice none 0 0, .int .i64 0, .bool false, .int .i64 0, .int .i64 0, .int .i64 0, .int .i64 0, .slice none 0 0, .slice none 0 0, .int .i64 0, .slice none 0 0, .int .i64 0, .bool false, .int .i64 0, .int .i64 0, .int .i64 0, .int .i64 0, .bool false, .slice none 0 0] : List Value).toArray 64)).setCells w7.heap.size 0 (col v ax)).heap.size = w7.heap.size + 1 := by rw [size_setCells]; simp
        replace H := hid_mk ((H.out.next hb0).push (celF w7.heap.size (col v ax)) (C0.out.sets (us := col v ax) rfl))
        clear hb0 C0 TH
        generalize (w7.alloc (.cells ([.slice none 0 0, .int .i64 0, .bool false, .int .i64 0, .int .i64 0, .int .i64 0, .int .i64 0, .slice none 0 0, .slice none 0 0, .int .i64 0, .slice none 0 0, .int .i64 0, .bool false, .int .i64 0, .int .i64 0, .int .i64 0, .int .i64 0, .bool false, .slice none 0 0] : List Value).toArray 64)).setCells w7.heap.size 0 (col v ax) = w8 at H hs0 ⊢
        generalize w6.heap.size = z6 at QX0 hz3 hz4
        have hz5 : w7.heap.size < w8.heap.size := by omega
        generalize w7.heap.size = r9 at H QX0 hz4 hz5 hs0 ⊢
        clear hs0
        have R9 := hid_mk (H.out.cel (.head _)).range
        go_upto_region 12 with (first | (refine wpList_load_mid (by rfl) 64 _ (by rfl) r9 0 (by rfl) (col v ax) _ R9.out Tryz.underlying64 rfl sizeCor ?_) | (go_at_call 25; refine (S2.out _ _ _ _ CX.out.s CX.out.t (H.out.lsl (.tail _ (.tail _ (.head _))) hl) ((H.out.ansC (.tail _ (.head _))).cos hv) (HE.out.below H.out.bel)).mono ?_; rintro e w9 ⟨ag, rfl, A9, hg9, hb⟩; have QG0 := hid_mk (fun k hk => And.intro (hg9 k hk) (A9.lt (k := k) hk)); have hz6 := hb.size; replace H := hid_mk ((H.out.next hb).push (ansCF V ag Rr) A9); clear hb A9 hg9; have C0 := hid_mk (Cel.new w9 ([.slice none 0 0, .int .i64 0, .bool false, .int .i64 0, .int .i64 0, .int .i64 0, .int .i64 0, .slice none 0 0, .slice none 0 0, .int .i64 0, .slice none 0 0, .int .i64 0, .bool false, .int .i64 0, .int .i64 0, .int .i64 0, .int .i64 0, .bool false, .slice none 0 0] : List Value) 64); have TH := hid_mk C0.out.there) | (refine wpList_store_mid (by rfl) 64 _ _ (by rfl) w9.heap.size 0 (col V ag).toArray (by rfl) (by rfl) TH.out sizeCor (col_one V ag) ?_; have hb0 := below_sets (col V ag) ((Below.refl _ w9).alloc (Nat.le_refl _) (.cells ([.slice none 0 0, .int .i64 0, .bool false, .int .i64 0, .int .i64 0, .int .i64 0, .int .i64 0, .slice none 0 0, .slice none 0 0, .int .i64 0, .slice none 0 0, .int .i64 0, .bool false, .int .i64 0, .int .i64 0, .int .i64 0, .int .i64 0, .bool false, .slice none 0 0] : List Value).toArray 64)) (Nat.le_refl _); replace H := hid_mk ((H.out.next hb0).push (celF w9.heap.size (col V ag)) (C0.out.sets (us := col V ag) rfl)); clear hb0 C0 TH; generalize (w9.alloc (.cells ([.slice none 0 0, .int .i64 0, .bool false, .int .i64 0, .int .i64 0, .int .i64 0, .int .i64 0, .slice none 0 0, .slice none 0 0, .int .i64 0, .slice none 0 0, .int .i64 0, .bool false, .int .i64 0, .int .i64 0, .int .i64 0, .int .i64 0, .bool false, .slice none 0 0] : List Value).toArray 64)).setCells w9.heap.size 0 (col V ag) = w10 at H ⊢))
        clear R9 CX
        generalize w8.heap.size = z8 at QG0 hz5 hz6
        generalize w9.heap.size = r10 at H QG0 hz6 ⊢
        have HZ : Hid (r6 < z5 ∧ w.heap.size < z5 ∧ z5 ≤ q0 ∧ q0 < z6 ∧ z6 ≤ r9 ∧ r9 < z8 ∧ z8 ≤ r10) := ⟨hz1, hz2, hq, hz3, hz4, hz5, hz6⟩
        have QW : Hid (∀ k, OnC aw k → k < z5) := QW0.out
        have QX : Hid (∀ k, OnC ax k → z6 ≤ k ∧ k < r9) := QX0.out
        have QG : Hid (∀ k, OnC ag k → z8 ≤ k ∧ k < r10) := QG0.out
        clear QW0 QX0 QG0 hz1 hz2 hz3 hz4 hz5 hz6 hq
        have RA := hid_mk (H.out.cel (.head _)).range
        have RB := hid_mk (H.out.cel (.tail _ (.tail _ (.tail _ (.tail _ (.tail _ (.head _))))))).range
        have hu := bne_b Bb
        go_upto_region 14 with (first | (refine wpList_load_mid (by rfl) 64 _ (by rfl) r10 0 (by rfl) (col V ag) _ RA.out Tryz.underlying64 rfl sizeCor ?_) | (refine wpList_load_mid (by rfl) 64 _ (by rfl) r6 0 (by rfl) (col V aw) _ RB.out Tryz.underlying64 rfl sizeCor ?_) | (go_at_call 26; refine (eqCore_same V ag aw Rr _ ((H.out.ansC (.tail _ (.head _))).cos hVb) ((H.out.ansC (.tail _ (.tail _ (.tail _ (.tail _ (.tail _ (.tail _ (.head _)))))))).cos hVb)).mono ?_; rintro e w11 ⟨rfl, hb⟩))
        replace H := hid_mk (H.out.next hb)
        clear hb RA RB hu
        go_upto_region 16 with (first | (go_at_call 9; refine (toInsS_own _ _ _ LL0 _ hl (H.out.sli (.tail _ (.tail _ (.tail _ (.tail _ (.tail _ (.tail _ (.tail _ (.tail _ (.tail _ (.head _)))))))))))).mono ?_; rintro e w12 ⟨qt, rfl, hQ, _, hb⟩; replace H := hid_mk (H.out.next hb); have IQ := hid_mk (hQ.1.slice hQ.2 (by unfold maxLen; omega)); clear hb hQ) | (go_at_call 13; refine (eqInsS_same _ _ _ _ _ LL0 _ (H.out.lsl (.tail _ (.tail _ (.tail _ (.tail _ (.head _))))) hl) IQ.out).mono ?_; rintro e w13 ⟨rfl, hb⟩))
        replace H := hid_mk (H.out.next hb)
        clear hb IQ
        have D0 := hid_mk H.out.drew
        refine wp_region_held_drew (S := fun w' => Hold w w' [celF r10 (col V ag), ansCF V ag Rr, celF r9 (col v ax), ansCF v ax r, lstF q0 ln0 LL0, celF r6 (col V aw), ansCF V aw Rr, celF w.heap.size (col v a), argCF w.heap.size v a r, sliF w.heap.size la0 ln0 LL0]) (by kernel_rfl) D0.out (fun hHeld => ?_)
        generalize (World.drew _) = wd at D0 hHeld ⊢
        clear H
        refine take_on (i := 0) (d := 59) (v := .agg (col v ax).toArray) rfl rfl (by kernel_rfl) (by kernel_rfl) (by kernel_rfl) (fun _ _ _ h => h) (by rfl) ?_ hHeld ?_
        · exact fun w' hSw => exec_ldm (by rfl) (by rfl) ((show Hold w w' [celF r10 (col V ag), ansCF V ag Rr, celF r9 (col v ax), ansCF v ax r, lstF q0 ln0 LL0, celF r6 (col V aw), ansCF V aw Rr, celF w.heap.size (col v a), argCF w.heap.size v a r, sliF w.heap.size la0 ln0 LL0] from hSw).cel (.tail _ (.tail _ (.head _)))).range Tryz.underlying64 rfl sizeCor
        (try simp only [Act.put]); (try simp only [List.setIfInBounds_toArray]); (try simp only [List.set_cons_succ]); (try simp only [List.set_cons_zero]); (try simp only [List.set_cons_succ]); (try simp only [List.set_cons_zero]); (try simp only [Nat.zero_add])
        refine take_on (i := 1) (d := 60) (v := .agg (col v a).toArray) rfl rfl (by kernel_rfl) (by kernel_rfl) (by kernel_rfl) (fun _ _ _ h => h) (by rfl) ?_ hHeld ?_
        · exact fun w' hSw => exec_ldm (by rfl) (by rfl) ((show Hold w w' [celF r10 (col V ag), ansCF V ag Rr, celF r9 (col v ax), ansCF v ax r, lstF q0 ln0 LL0, celF r6 (col V aw), ansCF V aw Rr, celF w.heap.size (col v a), argCF w.heap.size v a r, sliF w.heap.size la0 ln0 LL0] from hSw).cel (.tail _ (.tail _ (.tail _ (.tail _ (.tail _ (.tail _ (.tail _ (.head _))))))))).range Tryz.underlying60 rfl sizeCorL
        (try simp only [Act.put]); (try simp only [List.setIfInBounds_toArray]); (try simp only [List.set_cons_succ]); (try simp only [List.set_cons_zero]); (try simp only [List.set_cons_succ]); (try simp only [List.set_cons_zero]); (try simp only [Nat.zero_add])
        refine wpAnyH_ready (rs := [2]) (by kernel_rfl) (by simp) ?_
        refine AllReadyH.cons rfl (fun K hK => ?_) AllReadyH.nil
        go_simp
        refine (toCore_ans v a r _ hv (D0.out.argC (.tail _ (.tail _ (.tail _ (.tail _ (.tail _ (.tail _ (.tail _ (.tail _ (.head _))))))))))).mono ?_
        rintro e w14 ⟨a8, rfl, A8, _, _, hb⟩
        have H3 := hid_mk ((D0.out.next hb).push (ansCF v a8 r) A8)
        clear hb A8
        refine hK.out _ _ H3.out.tail (fun hHeld => ?_)
        clear hK K
        (try simp only [Act.put]); (try simp only [List.setIfInBounds_toArray]); (try simp only [List.set_cons_succ]); (try simp only [List.set_cons_zero]); (try simp only [List.set_cons_succ]); (try simp only [List.set_cons_zero]); (try simp only [Nat.zero_add])
        refine wpAnyH_ready (rs := [3]) (by kernel_rfl) (by simp) ?_
        refine AllReadyH.cons rfl (fun K hK => ?_) AllReadyH.nil
        go_simp
        refine (eqCore_same v ax a8 r _ ((H3.out.ansC (.tail _ (.tail _ (.tail _ (.tail _ (.head _)))))).cos hv) ((H3.out.ansC (.head _)).cos hv)).mono ?_
        rintro e w15 ⟨rfl, hb⟩
        have H := hid_mk (H3.out.next hb).tail
        clear hb
        refine hK.out _ _ H.out (fun hHeld => ?_)
        clear hK K
        (try simp only [Act.put]); (try simp only [List.setIfInBounds_toArray]); (try simp only [List.set_cons_succ]); (try simp only [List.set_cons_zero]); (try simp only [List.set_cons_succ]); (try simp only [List.set_cons_zero]); (try simp only [Nat.zero_add])
        refine take_on (i := 4) (d := 63) (v := .bool false) rfl rfl (by kernel_rfl) (by kernel_rfl) (by kernel_rfl) (fun _ _ _ h => h) (by rfl) ?_ hHeld ?_
        · (intro w' hSw; go_simp)
        (try simp only [Act.put]); (try simp only [List.setIfInBounds_toArray]); (try simp only [List.set_cons_succ]); (try simp only [List.set_cons_zero]); (try simp only [List.set_cons_succ]); (try simp only [List.set_cons_zero]); (try simp only [Nat.zero_add])
        refine wpAnyH_done (by kernel_rfl) ?_ _
        clear hHeld H3 D0
        try dsimp only
        go_upto_region 20 with (go_at_call 14; refine (markI_own _ _ _ LL0 _ hl (H.out.at (f := lstF q0 ln0 LL0) (.tail _ (.tail _ (.tail _ (.tail _ (.head _))))))).mono ?_; rintro e w17 ⟨rfl, _, hK17⟩; rw [← HMK.out])
        have hq0 : Hid (KeptS (fun k => k = q0) _ w17) := KeptS.ofBut hK17 rfl
        replace H := hid_mk ((H.out.sub (gs := [celF r10 (col V ag), ansCF V ag Rr, celF r9 (col v ax), ansCF v ax r, celF r6 (col V aw), ansCF V aw Rr, celF w.heap.size (col v a), argCF w.heap.size v a r, sliF w.heap.size la0 ln0 LL0]) (fun f hf => by simp only [List.mem_cons, List.not_mem_nil, or_false] at hf ⊢; rcases hf with rfl | rfl | rfl | rfl | rfl | rfl | rfl | rfl | rfl; exact .inl rfl; exact .inr (.inl rfl); exact .inr (.inr (.inl rfl)); exact .inr (.inr (.inr (.inl rfl))); exact .inr (.inr (.inr (.inr (.inr (.inl rfl))))); exact .inr (.inr (.inr (.inr (.inr (.inr (.inl rfl)))))); exact .inr (.inr (.inr (.inr (.inr (.inr (.inr (.inl rfl))))))); exact .inr (.inr (.inr (.inr (.inr (.inr (.inr (.inr (.inl rfl)))))))); exact .inr (.inr (.inr (.inr (.inr (.inr (.inr (.inr (.inr rfl)))))))))).wrote hq0.out (fun k hk => by have := HZ.out; omega)
            (fun f hf k hk ht => by
              have hx := HZ.out
              have hy := ht
              simp only [List.mem_cons, List.not_mem_nil, or_false] at hf
              rcases hf with rfl | rfl | rfl | rfl | rfl | rfl | rfl | rfl | rfl
              · simp only [celF] at hk; omega
              · have := QG.out k hk; omega
              · simp only [celF] at hk; omega
              · have := QX.out k hk; omega
              · simp only [celF] at hk; omega
              · have := QW.out k hk; omega
              · simp only [celF] at hk; omega
              · simp only [argCF] at hk; omega
              · simp only [sliF] at hk; omega))
        clear hK17 hq0
        have R9 := hid_mk (H.out.cel (.tail _ (.tail _ (.head _)))).range
        go_upto_region 21 with (first | (refine wpList_load_mid (by rfl) 64 _ (by rfl) r9 0 (by rfl) (col v ax) _ R9.out Tryz.underlying64 rfl sizeCor ?_) | (go_at_call 27; refine (markCore_any v ax r mk hmk1 hmxb hv _ (H.out.ansC (.tail _ (.tail _ (.tail _ (.head _)))))).mono ?_; rintro e w18 ⟨rfl, _, hK18⟩; rw [← HMX.out]))
        replace H := hid_mk ((H.out.sub (gs := [celF r10 (col V ag), ansCF V ag Rr, celF r6 (col V aw), ansCF V aw Rr, celF w.heap.size (col v a), argCF w.heap.size v a r, sliF w.heap.size la0 ln0 LL0]) (fun f hf => by simp only [List.mem_cons, List.not_mem_nil, or_false] at hf ⊢; rcases hf with rfl | rfl | rfl | rfl | rfl | rfl | rfl; exact .inl rfl; exact .inr (.inl rfl); exact .inr (.inr (.inr (.inr (.inl rfl)))); exact .inr (.inr (.inr (.inr (.inr (.inl rfl))))); exact .inr (.inr (.inr (.inr (.inr (.inr (.inl rfl)))))); exact .inr (.inr (.inr (.inr (.inr (.inr (.inr (.inl rfl))))))); exact .inr (.inr (.inr (.inr (.inr (.inr (.inr (.inr rfl))))))))).wrote hK18 (fun k hk => by have := QX.out k hk; have := HZ.out; omega)
            (fun f hf k hk ht => by
              have hx := HZ.out
              have hy := QX.out k ht
              simp only [List.mem_cons, List.not_mem_nil, or_false] at hf
              rcases hf with rfl | rfl | rfl | rfl | rfl | rfl | rfl
              · simp only [celF] at hk; omega
              · have := QG.out k hk; omega
              · simp only [celF] at hk; omega
              · have := QW.out k hk; omega
              · simp only [celF] at hk; omega
              · simp only [argCF] at hk; omega
              · simp only [sliF] at hk; omega))
        clear hK18 R9
        have RA := hid_mk (H.out.cel (.head _)).range
        have RB := hid_mk (H.out.cel (.tail _ (.tail _ (.head _)))).range
        have hu := bne_b Bb
        have hmlt : decide (mx < 0) = false := decide_eq_false (by omega)
        refine wp_region_lit ?_
        refine wpList_val (by rfl) (.int .i64 mx) (by go_simp) ?_
        (try simp only [Act.put]); (try simp only [List.setIfInBounds_toArray]); (try simp only [List.set_cons_succ]); (try simp only [List.set_cons_zero]); (try simp only [List.set_cons_succ]); (try simp only [List.set_cons_zero]); (try simp only [Nat.zero_add])
        refine wpList_val (by rfl) (.bool false) (by go_simp) ?_
        (try simp only [Act.put]); (try simp only [List.setIfInBounds_toArray]); (try simp only [List.set_cons_succ]); (try simp only [List.set_cons_zero]); (try simp only [List.set_cons_succ]); (try simp only [List.set_cons_zero]); (try simp only [Nat.zero_add])
        refine wpList_val (by rfl) (.bool false) (by go_simp) ?_
        (try simp only [Act.put]); (try simp only [List.setIfInBounds_toArray]); (try simp only [List.set_cons_succ]); (try simp only [List.set_cons_zero]); (try simp only [List.set_cons_succ]); (try simp only [List.set_cons_zero]); (try simp only [Nat.zero_add])
        refine wpList_load_on (by rfl) 64 _ (by rfl) r10 0 (by rfl) (col V ag) _ RA.out Tryz.underlying64 rfl sizeCor ?_
        (try simp only [Act.put]); (try simp only [List.setIfInBounds_toArray]); (try simp only [List.set_cons_succ]); (try simp only [List.set_cons_zero]); (try simp only [List.set_cons_succ]); (try simp only [List.set_cons_zero]); (try simp only [Nat.zero_add])
        refine wpList_load_on (by rfl) 64 _ (by rfl) r6 0 (by rfl) (col V aw) _ RB.out Tryz.underlying64 rfl sizeCor ?_
        (try simp only [Act.put]); (try simp only [List.setIfInBounds_toArray]); (try simp only [List.set_cons_succ]); (try simp only [List.set_cons_zero]); (try simp only [List.set_cons_succ]); (try simp only [List.set_cons_zero]); (try simp only [Nat.zero_add])
        go_upto_region 24 with (go_at_call 26; refine (eqCore_same V ag aw Rr _ ((H.out.ansC (.tail _ (.head _))).cos hVb) ((H.out.ansC (.tail _ (.tail _ (.tail _ (.head _))))).cos hVb)).mono ?_; rintro e w19 ⟨rfl, hb⟩)
        replace H := hid_mk (H.out.next hb)
        clear hb RA RB hu hmlt
        have RA := hid_mk (H.out.cel (.head _)).range
        go_upto_region 26 with (first | (refine wpList_load_mid (by rfl) 64 _ (by rfl) r10 0 (by rfl) (col V ag) _ RA.out Tryz.underlying64 rfl sizeCor ?_) | (go_at_call 27; refine (markCore_any V ag Rr 1 (by decide) hmgb hVb _ (H.out.ansC (.tail _ (.head _)))).mono ?_; rintro e w20 ⟨rfl, AM, hK20⟩; rw [← HMG.out]))
        replace H := hid_mk (((H.out.sub (gs := [celF r10 (col V ag), celF r6 (col V aw), ansCF V aw Rr, celF w.heap.size (col v a), argCF w.heap.size v a r, sliF w.heap.size la0 ln0 LL0]) (fun f hf => by simp only [List.mem_cons, List.not_mem_nil, or_false] at hf ⊢; rcases hf with rfl | rfl | rfl | rfl | rfl | rfl; exact .inl rfl; exact .inr (.inr (.inl rfl)); exact .inr (.inr (.inr (.inl rfl))); exact .inr (.inr (.inr (.inr (.inl rfl)))); exact .inr (.inr (.inr (.inr (.inr (.inl rfl))))); exact .inr (.inr (.inr (.inr (.inr (.inr rfl))))))).wrote hK20 (fun k hk => by have := QG.out k hk; have := HZ.out; omega)
            (fun f hf k hk ht => by
              have hx := HZ.out
              have hy := QG.out k ht
              simp only [List.mem_cons, List.not_mem_nil, or_false] at hf
              rcases hf with rfl | rfl | rfl | rfl | rfl | rfl
              · simp only [celF] at hk; omega
              · simp only [celF] at hk; omega
              · have := QW.out k hk; omega
              · simp only [celF] at hk; omega
              · simp only [argCF] at hk; omega
              · simp only [sliF] at hk; omega)).push (ansCF V ag (markG V 1)) AM)
        clear hK20 AM RA
        have RA := hid_mk (H.out.cel (.tail _ (.head _))).range
        go_upto_region 27 with (first | (refine wpList_load_mid (by rfl) 64 _ (by rfl) r10 0 (by rfl) (col V ag) _ RA.out Tryz.underlying64 rfl sizeCor ?_) | (go_at_call 28; refine (heldCore_any V ag 1 (by decide) hmgb hVb _ (H.out.ansC (.head _))).mono ?_; rintro e w21 ⟨rfl, hb⟩; rw [← HMG.out]))
        replace H := hid_mk (H.out.next hb)
        clear hb RA
        go_upto_region 31 with fail
        go_cut [15, 16] (fun pa tv wx => ∃ r15 ah, pa = .pointer (some ⟨r15, 0, none⟩) ∧ tv = .bool Bb ∧ Hid (Hold w wx [celF r15 (col V ah), ansCF V ah Rr, ansCF V ag (markG V 1), celF r10 (col V ag), celF r6 (col V aw), ansCF V aw Rr, celF w.heap.size (col v a), argCF w.heap.size v a r, sliF w.heap.size la0 ln0 LL0]))
        case first =>
          have D0 := hid_mk H.out.drew
          refine wp_region_held_drew (S := fun w' => Hold w w' [ansCF V ag (markG V 1), celF r10 (col V ag), celF r6 (col V aw), ansCF V aw Rr, celF w.heap.size (col v a), argCF w.heap.size v a r, sliF w.heap.size la0 ln0 LL0]) (by kernel_rfl) D0.out (fun hHeld => ?_)
          generalize w21.drew = wd at D0 hHeld ⊢
          clear H
          have hwd : w.heap.size < wd.heap.size := (D0.out.cel (.tail _ (.tail _ (.tail _ (.tail _ (.head _)))))).lt
          have DD : Hid (∀ f ∈ [ansCF V ag (markG V 1), celF r10 (col V ag), celF r6 (col V aw), ansCF V aw Rr, celF w.heap.size (col v a), argCF w.heap.size v a r, sliF w.heap.size la0 ln0 LL0], ∀ k, f.S k → k < wd.heap.size) := fun f hf k hk => by
            simp only [List.mem_cons, List.not_mem_nil, or_false] at hf
            rcases hf with rfl | rfl | rfl | rfl | rfl | rfl | rfl
            · exact (D0.out.ansC (.head _)).lt hk
            · have := (D0.out.cel (.tail _ (.head _))).lt; simp only [celF] at hk; omega
            · have := (D0.out.cel (.tail _ (.tail _ (.head _)))).lt; simp only [celF] at hk; omega
            · exact (D0.out.ansC (.tail _ (.tail _ (.tail _ (.head _))))).lt hk
            · have := (D0.out.cel (.tail _ (.tail _ (.tail _ (.tail _ (.head _)))))).lt; simp only [celF] at hk; omega
            · simp only [argCF] at hk; omega
            · simp only [sliF] at hk; omega
          refine take_on (i := 0) (d := 95) (v := .slice la0 ln0 lc0) rfl rfl (by kernel_rfl) (by kernel_rfl) (by kernel_rfl) (fun _ _ _ h => h) (by rfl) ?_ hHeld ?_
          · (intro w' hSw; go_simp)
          (try simp only [Act.put]); (try simp only [List.setIfInBounds_toArray]); (try simp only [List.set_cons_succ]); (try simp only [List.set_cons_zero]); (try simp only [List.set_cons_succ]); (try simp only [List.set_cons_zero]); (try simp only [Nat.zero_add])
          refine take_on (i := 2) (d := 97) (v := .agg (col v a).toArray) rfl rfl (by kernel_rfl) (by kernel_rfl) (by kernel_rfl) (fun _ _ _ h => h) (by rfl) ?_ hHeld ?_
          · exact fun w' hSw => exec_ldm (by rfl) (by rfl) ((show Hold w w' [ansCF V ag (markG V 1), celF r10 (col V ag), celF r6 (col V aw), ansCF V aw Rr, celF w.heap.size (col v a), argCF w.heap.size v a r, sliF w.heap.size la0 ln0 LL0] from hSw).cel (.tail _ (.tail _ (.tail _ (.tail _ (.head _)))))).range Tryz.underlying60 rfl sizeCorL
          (try simp only [Act.put]); (try simp only [List.setIfInBounds_toArray]); (try simp only [List.set_cons_succ]); (try simp only [List.set_cons_zero]); (try simp only [List.set_cons_succ]); (try simp only [List.set_cons_zero]); (try simp only [Nat.zero_add])
          refine wpAnyH_ready (rs := [1, 8]) (by kernel_rfl) (by simp) ?_
          refine AllReadyH.cons rfl (fun K hK => ?_) (AllReadyH.cons rfl (fun K hK => ?_) AllReadyH.nil)
          · go_simp
            refine (toInsS_own _ _ _ LL0 _ hl (D0.out.sli (.tail _ (.tail _ (.tail _ (.tail _ (.tail _ (.tail _ (.head _))))))))).mono ?_
            rintro e v1 ⟨qt, rfl, hQ, _, hb⟩
            have z1 := hb.size
            have J1 := hid_mk ((D0.out.next hb).push (lstF qt ln0 LL0) hQ)
            clear hb hQ
            refine hK.out _ _ J1.out.tail (fun hHeld => ?_)
            clear hK K
            (try simp only [Act.put]); (try simp only [List.setIfInBounds_toArray]); (try simp only [List.set_cons_succ]); (try simp only [List.set_cons_zero]); (try simp only [List.set_cons_succ]); (try simp only [List.set_cons_zero]); (try simp only [Nat.zero_add])
            refine wpAnyH_ready (rs := [3, 8]) (by kernel_rfl) (by simp) ?_
            refine AllReadyH.cons rfl (fun K hK => ?_) (AllReadyH.cons rfl (fun K hK => ?_) AllReadyH.nil)
            · go_simp
              refine (toCore_ans v a r _ hv (J1.out.argC (.tail _ (.tail _ (.tail _ (.tail _ (.tail _ (.tail _ (.head _))))))))).mono ?_
              rintro e v2 ⟨at1, rfl, hA, hC, _, hb⟩
              have C3 := hid_mk hC
              have z2 := hb.size
              have J2 := hid_mk ((J1.out.next hb).push (ansCF v at1 r) hA)
              clear hb hA hC
              refine hK.out _ _ J2.out.tail.tail (fun hHeld => ?_)
              clear hK K
              (try simp only [Act.put]); (try simp only [List.setIfInBounds_toArray]); (try simp only [List.set_cons_succ]); (try simp only [List.set_cons_zero]); (try simp only [List.set_cons_succ]); (try simp only [List.set_cons_zero]); (try simp only [Nat.zero_add])
              refine wpAnyH_ready (rs := [4, 8]) (by kernel_rfl) (by simp) ?_
              refine AllReadyH.cons rfl (fun K hK => ?_) (AllReadyH.cons rfl (fun K hK => ?_) AllReadyH.nil)
              · go_simp
                refine (S2.out _ _ _ _ C3.out.s C3.out.t (J2.out.lsl (.tail _ (.head _)) hl) ((J2.out.ansC (.head _)).cos hv) (HE.out.below J2.out.bel)).mono ?_
                rintro e v3 ⟨ah, rfl, hA, hf, hb⟩
                have z3 := hb.size
                have QN := hid_mk (fun k hk => And.intro (hf k hk) (hA.lt (k := k) hk))
                have J3 := hid_mk ((J2.out.next hb).push (ansCF V ah Rr) hA)
                clear hb hA hf
                refine hK.out _ _ J3.out.tail.tail.tail (fun hHeld => ?_)
                clear hK K
                (try simp only [Act.put]); (try simp only [List.setIfInBounds_toArray]); (try simp only [List.set_cons_succ]); (try simp only [List.set_cons_zero]); (try simp only [List.set_cons_succ]); (try simp only [List.set_cons_zero]); (try simp only [Nat.zero_add])
                refine take_on (i := 5) (d := 94) (v := .tuple #[.agg (col V ah).toArray, .bool Bb]) rfl rfl (by kernel_rfl) (by kernel_rfl) (by kernel_rfl) (fun _ _ _ h => h) (by rfl) ?_ hHeld ?_
                · (intro w' hSw; go_simp)
                (try simp only [Act.put]); (try simp only [List.setIfInBounds_toArray]); (try simp only [List.set_cons_succ]); (try simp only [List.set_cons_zero]); (try simp only [List.set_cons_succ]); (try simp only [List.set_cons_zero]); (try simp only [Nat.zero_add])
                refine take_on (i := 6) (d := 100) (v := .agg (col V ah).toArray) rfl rfl (by kernel_rfl) (by kernel_rfl) (by kernel_rfl) (fun _ _ _ h => h) (by rfl) ?_ hHeld ?_
                · (intro w' hSw; go_simp)
                (try simp only [Act.put]); (try simp only [List.setIfInBounds_toArray]); (try simp only [List.set_cons_succ]); (try simp only [List.set_cons_zero]); (try simp only [List.set_cons_succ]); (try simp only [List.set_cons_zero]); (try simp only [Nat.zero_add])
                refine take_on (i := 7) (d := 101) (v := .bool Bb) rfl rfl (by kernel_rfl) (by kernel_rfl) (by kernel_rfl) (fun _ _ _ h => h) (by rfl) ?_ hHeld ?_
                · (intro w' hSw; go_simp)
                (try simp only [Act.put]); (try simp only [List.setIfInBounds_toArray]); (try simp only [List.set_cons_succ]); (try simp only [List.set_cons_zero]); (try simp only [List.set_cons_succ]); (try simp only [List.set_cons_zero]); (try simp only [Nat.zero_add])
                refine wpAnyH_ready (rs := [8]) (by kernel_rfl) (by simp) ?_
                refine AllReadyH.cons rfl (fun K hK => ?_) AllReadyH.nil
                go_simp
                have J4 := hid_mk (J3.out.box ([.slice none 0 0, .int .i64 0, .bool false, .int .i64 0, .int .i64 0, .int .i64 0, .int .i64 0, .slice none 0 0, .slice none 0 0, .int .i64 0, .slice none 0 0, .int .i64 0, .bool false, .int .i64 0, .int .i64 0, .int .i64 0, .int .i64 0, .bool false, .slice none 0 0] : List Value) 64 v3.heap.size rfl)
                refine hK.out _ _ J4.out.tail.tail.tail.tail (fun hHeld => ?_)
                clear hK K
                (try simp only [Act.put]); (try simp only [List.setIfInBounds_toArray]); (try simp only [List.set_cons_succ]); (try simp only [List.set_cons_zero]); (try simp only [List.set_cons_succ]); (try simp only [List.set_cons_zero]); (try simp only [Nat.zero_add])
                obtain ⟨r15, hr15⟩ : ∃ r, r = v3.heap.size := ⟨_, rfl⟩
                have zy : wd.heap.size ≤ r15 ∧ v3.heap.size ≤ r15 := by omega
                rw [← hr15] at J4 ⊢
                clear hr15
                generalize v3.alloc (.cells ([.slice none 0 0, .int .i64 0, .bool false, .int .i64 0, .int .i64 0, .int .i64 0, .int .i64 0, .slice none 0 0, .slice none 0 0, .int .i64 0, .slice none 0 0, .int .i64 0, .bool false, .int .i64 0, .int .i64 0, .int .i64 0, .int .i64 0, .bool false, .slice none 0 0] : List Value).toArray 64) = v4 at J4 hHeld ⊢
                have zA : r15 < v4.heap.size := (J4.out.cel (.head _)).lt
                have J5 := hid_mk (J4.out.sub (gs := [celF r15 ([.slice none 0 0, .int .i64 0, .bool false, .int .i64 0, .int .i64 0, .int .i64 0, .int .i64 0, .slice none 0 0, .slice none 0 0, .int .i64 0, .slice none 0 0, .int .i64 0, .bool false, .int .i64 0, .int .i64 0, .int .i64 0, .int .i64 0, .bool false, .slice none 0 0] : List Value), ansCF V ah Rr, ansCF V ag (markG V 1), celF r10 (col V ag), celF r6 (col V aw), ansCF V aw Rr, celF w.heap.size (col v a), argCF w.heap.size v a r, sliF w.heap.size la0 ln0 LL0]) (fun f hf => by simp only [List.mem_cons, List.not_mem_nil, or_false] at hf ⊢; rcases hf with rfl | rfl | rfl | rfl | rfl | rfl | rfl | rfl | rfl; exact .inl rfl; exact .inr (.inl rfl); exact .inr (.inr (.inr (.inr (.inl rfl)))); exact .inr (.inr (.inr (.inr (.inr (.inl rfl))))); exact .inr (.inr (.inr (.inr (.inr (.inr (.inl rfl)))))); exact .inr (.inr (.inr (.inr (.inr (.inr (.inr (.inl rfl))))))); exact .inr (.inr (.inr (.inr (.inr (.inr (.inr (.inr (.inl rfl)))))))); exact .inr (.inr (.inr (.inr (.inr (.inr (.inr (.inr (.inr (.inl rfl))))))))); exact .inr (.inr (.inr (.inr (.inr (.inr (.inr (.inr (.inr (.inr rfl)))))))))))
                have TH : Hid (v4.there r15 0 19) := (J5.out.cel (.head _)).there
                have HS : Hid (Hold w (v4.setCells r15 0 (col V ah)) [celF r15 (col V ah), ansCF V ah Rr, ansCF V ag (markG V 1), celF r10 (col V ag), celF r6 (col V aw), ansCF V aw Rr, celF w.heap.size (col v a), argCF w.heap.size v a r, sliF w.heap.size la0 ln0 LL0]) := J5.out.sets (col V ah) (by omega) (fun f hf k hk => (List.mem_cons.1 hf).elim (fun e => by subst e; have := QN.out k hk; omega) (fun h => by have := DD.out f h k hk; omega)) rfl
                refine wpAnyH_ready (rs := [9]) (by kernel_rfl) (by simp) ?_
                refine AllReadyH.cons rfl (fun K hK => ?_) AllReadyH.nil
                refine step_stm (by rfl) 64 _ _ (by rfl) r15 0 (col V ah).toArray (by rfl) (by rfl) TH.out sizeCor (col_one V ah) ?_
                refine hK.out _ _ HS.out.tail.tail (fun hHeld => ?_)
                clear hK K
                (try simp only [Act.put]); (try simp only [List.setIfInBounds_toArray]); (try simp only [List.set_cons_succ]); (try simp only [List.set_cons_zero]); (try simp only [List.set_cons_succ]); (try simp only [List.set_cons_zero]); (try simp only [Nat.zero_add])
                refine take_on (i := 10) (d := 16) (v := .bool Bb) rfl rfl (by kernel_rfl) (by kernel_rfl) (by kernel_rfl) (fun _ _ _ h => h) (by rfl) ?_ hHeld ?_
                · (intro w' hSw; go_simp)
                (try simp only [Act.put]); (try simp only [List.setIfInBounds_toArray]); (try simp only [List.set_cons_succ]); (try simp only [List.set_cons_zero]); (try simp only [List.set_cons_succ]); (try simp only [List.set_cons_zero]); (try simp only [Nat.zero_add])
                refine wpAnyH_done (by kernel_rfl) ?_ _
                clear hHeld
                try dsimp only
                generalize v4.setCells r15 0 (col V ah) = wz at HS ⊢
                go_wp2_with fail
                go_meet
                case rel => exact ⟨_, _, rfl, rfl, HS.out⟩
              · go_simp
                have J3 := hid_mk (J2.out.box ([.slice none 0 0, .int .i64 0, .bool false, .int .i64 0, .int .i64 0, .int .i64 0, .int .i64 0, .slice none 0 0, .slice none 0 0, .int .i64 0, .slice none 0 0, .int .i64 0, .bool false, .int .i64 0, .int .i64 0, .int .i64 0, .int .i64 0, .bool false, .slice none 0 0] : List Value) 64 v2.heap.size rfl)
                refine hK.out _ _ J3.out.tail.tail.tail (fun hHeld => ?_)
                clear hK K
                (try simp only [Act.put]); (try simp only [List.setIfInBounds_toArray]); (try simp only [List.set_cons_succ]); (try simp only [List.set_cons_zero]); (try simp only [List.set_cons_succ]); (try simp only [List.set_cons_zero]); (try simp only [Nat.zero_add])
                obtain ⟨r15, hr15⟩ : ∃ r, r = v2.heap.size := ⟨_, rfl⟩
                have zy : wd.heap.size ≤ r15 ∧ v2.heap.size ≤ r15 := by omega
                rw [← hr15] at J3 ⊢
                clear hr15
                generalize v2.alloc (.cells ([.slice none 0 0, .int .i64 0, .bool false, .int .i64 0, .int .i64 0, .int .i64 0, .int .i64 0, .slice none 0 0, .slice none 0 0, .int .i64 0, .slice none 0 0, .int .i64 0, .bool false, .int .i64 0, .int .i64 0, .int .i64 0, .int .i64 0, .bool false, .slice none 0 0] : List Value).toArray 64) = v3 at J3 hHeld ⊢
                have zA : r15 < v3.heap.size := (J3.out.cel (.head _)).lt
                refine wpAnyH_ready (rs := [4]) (by kernel_rfl) (by simp) ?_
                refine AllReadyH.cons rfl (fun K hK => ?_) AllReadyH.nil
                go_simp
                refine (S2.out _ _ _ _ C3.out.s C3.out.t (J3.out.lsl (.tail _ (.tail _ (.head _))) hl) ((J3.out.ansC (.tail _ (.head _))).cos hv) (HE.out.below J3.out.bel)).mono ?_
                rintro e v4 ⟨ah, rfl, hA, hf, hb⟩
                have z4 := hb.size
                have QN := hid_mk (fun k hk => And.intro (hf k hk) (hA.lt (k := k) hk))
                have J4 := hid_mk ((J3.out.next hb).push (ansCF V ah Rr) hA)
                clear hb hA hf
                refine hK.out _ _ J4.out.tail.tail.tail.tail (fun hHeld => ?_)
                clear hK K
                (try simp only [Act.put]); (try simp only [List.setIfInBounds_toArray]); (try simp only [List.set_cons_succ]); (try simp only [List.set_cons_zero]); (try simp only [List.set_cons_succ]); (try simp only [List.set_cons_zero]); (try simp only [Nat.zero_add])
                refine take_on (i := 5) (d := 94) (v := .tuple #[.agg (col V ah).toArray, .bool Bb]) rfl rfl (by kernel_rfl) (by kernel_rfl) (by kernel_rfl) (fun _ _ _ h => h) (by rfl) ?_ hHeld ?_
                · (intro w' hSw; go_simp)
                (try simp only [Act.put]); (try simp only [List.setIfInBounds_toArray]); (try simp only [List.set_cons_succ]); (try simp only [List.set_cons_zero]); (try simp only [List.set_cons_succ]); (try simp only [List.set_cons_zero]); (try simp only [Nat.zero_add])
                refine take_on (i := 6) (d := 100) (v := .agg (col V ah).toArray) rfl rfl (by kernel_rfl) (by kernel_rfl) (by kernel_rfl) (fun _ _ _ h => h) (by rfl) ?_ hHeld ?_
                · (intro w' hSw; go_simp)
                (try simp only [Act.put]); (try simp only [List.setIfInBounds_toArray]); (try simp only [List.set_cons_succ]); (try simp only [List.set_cons_zero]); (try simp only [List.set_cons_succ]); (try simp only [List.set_cons_zero]); (try simp only [Nat.zero_add])
                refine take_on (i := 7) (d := 101) (v := .bool Bb) rfl rfl (by kernel_rfl) (by kernel_rfl) (by kernel_rfl) (fun _ _ _ h => h) (by rfl) ?_ hHeld ?_
                · (intro w' hSw; go_simp)
                (try simp only [Act.put]); (try simp only [List.setIfInBounds_toArray]); (try simp only [List.set_cons_succ]); (try simp only [List.set_cons_zero]); (try simp only [List.set_cons_succ]); (try simp only [List.set_cons_zero]); (try simp only [Nat.zero_add])
                have J5 := hid_mk (J4.out.sub (gs := [celF r15 ([.slice none 0 0, .int .i64 0, .bool false, .int .i64 0, .int .i64 0, .int .i64 0, .int .i64 0, .slice none 0 0, .slice none 0 0, .int .i64 0, .slice none 0 0, .int .i64 0, .bool false, .int .i64 0, .int .i64 0, .int .i64 0, .int .i64 0, .bool false, .slice none 0 0] : List Value), ansCF V ah Rr, ansCF V ag (markG V 1), celF r10 (col V ag), celF r6 (col V aw), ansCF V aw Rr, celF w.heap.size (col v a), argCF w.heap.size v a r, sliF w.heap.size la0 ln0 LL0]) (fun f hf => by simp only [List.mem_cons, List.not_mem_nil, or_false] at hf ⊢; rcases hf with rfl | rfl | rfl | rfl | rfl | rfl | rfl | rfl | rfl; exact .inr (.inl rfl); exact .inl rfl; exact .inr (.inr (.inr (.inr (.inl rfl)))); exact .inr (.inr (.inr (.inr (.inr (.inl rfl))))); exact .inr (.inr (.inr (.inr (.inr (.inr (.inl rfl)))))); exact .inr (.inr (.inr (.inr (.inr (.inr (.inr (.inl rfl))))))); exact .inr (.inr (.inr (.inr (.inr (.inr (.inr (.inr (.inl rfl)))))))); exact .inr (.inr (.inr (.inr (.inr (.inr (.inr (.inr (.inr (.inl rfl))))))))); exact .inr (.inr (.inr (.inr (.inr (.inr (.inr (.inr (.inr (.inr rfl)))))))))))
                have TH : Hid (v4.there r15 0 19) := (J5.out.cel (.head _)).there
                have HS : Hid (Hold w (v4.setCells r15 0 (col V ah)) [celF r15 (col V ah), ansCF V ah Rr, ansCF V ag (markG V 1), celF r10 (col V ag), celF r6 (col V aw), ansCF V aw Rr, celF w.heap.size (col v a), argCF w.heap.size v a r, sliF w.heap.size la0 ln0 LL0]) := J5.out.sets (col V ah) (by omega) (fun f hf k hk => (List.mem_cons.1 hf).elim (fun e => by subst e; have := QN.out k hk; omega) (fun h => by have := DD.out f h k hk; omega)) rfl
                refine wpAnyH_ready (rs := [9]) (by kernel_rfl) (by simp) ?_
                refine AllReadyH.cons rfl (fun K hK => ?_) AllReadyH.nil
                refine step_stm (by rfl) 64 _ _ (by rfl) r15 0 (col V ah).toArray (by rfl) (by rfl) TH.out sizeCor (col_one V ah) ?_
                refine hK.out _ _ HS.out.tail.tail (fun hHeld => ?_)
                clear hK K
                (try simp only [Act.put]); (try simp only [List.setIfInBounds_toArray]); (try simp only [List.set_cons_succ]); (try simp only [List.set_cons_zero]); (try simp only [List.set_cons_succ]); (try simp only [List.set_cons_zero]); (try simp only [Nat.zero_add])
                refine take_on (i := 10) (d := 16) (v := .bool Bb) rfl rfl (by kernel_rfl) (by kernel_rfl) (by kernel_rfl) (fun _ _ _ h => h) (by rfl) ?_ hHeld ?_
                · (intro w' hSw; go_simp)
                (try simp only [Act.put]); (try simp only [List.setIfInBounds_toArray]); (try simp only [List.set_cons_succ]); (try simp only [List.set_cons_zero]); (try simp only [List.set_cons_succ]); (try simp only [List.set_cons_zero]); (try simp only [Nat.zero_add])
                refine wpAnyH_done (by kernel_rfl) ?_ _
                clear hHeld
                try dsimp only
                generalize v4.setCells r15 0 (col V ah) = wz at HS ⊢
                go_wp2_with fail
                go_meet
                case rel => exact ⟨_, _, rfl, rfl, HS.out⟩
            · go_simp
              have J2 := hid_mk (J1.out.box ([.slice none 0 0, .int .i64 0, .bool false, .int .i64 0, .int .i64 0, .int .i64 0, .int .i64 0, .slice none 0 0, .slice none 0 0, .int .i64 0, .slice none 0 0, .int .i64 0, .bool false, .int .i64 0, .int .i64 0, .int .i64 0, .int .i64 0, .bool false, .slice none 0 0] : List Value) 64 v1.heap.size rfl)
              refine hK.out _ _ J2.out.tail.tail (fun hHeld => ?_)
              clear hK K
              (try simp only [Act.put]); (try simp only [List.setIfInBounds_toArray]); (try simp only [List.set_cons_succ]); (try simp only [List.set_cons_zero]); (try simp only [List.set_cons_succ]); (try simp only [List.set_cons_zero]); (try simp only [Nat.zero_add])
              obtain ⟨r15, hr15⟩ : ∃ r, r = v1.heap.size := ⟨_, rfl⟩
              have zy : wd.heap.size ≤ r15 ∧ v1.heap.size ≤ r15 := by omega
              rw [← hr15] at J2 ⊢
              clear hr15
              generalize v1.alloc (.cells ([.slice none 0 0, .int .i64 0, .bool false, .int .i64 0, .int .i64 0, .int .i64 0, .int .i64 0, .slice none 0 0, .slice none 0 0, .int .i64 0, .slice none 0 0, .int .i64 0, .bool false, .int .i64 0, .int .i64 0, .int .i64 0, .int .i64 0, .bool false, .slice none 0 0] : List Value).toArray 64) = v2 at J2 hHeld ⊢
              have zA : r15 < v2.heap.size := (J2.out.cel (.head _)).lt
              refine wpAnyH_ready (rs := [3]) (by kernel_rfl) (by simp) ?_
              refine AllReadyH.cons rfl (fun K hK => ?_) AllReadyH.nil
              go_simp
              refine (toCore_ans v a r _ hv (J2.out.argC (.tail _ (.tail _ (.tail _ (.tail _ (.tail _ (.tail _ (.tail _ (.head _)))))))))).mono ?_
              rintro e v3 ⟨at1, rfl, hA, hC, _, hb⟩
              have C3 := hid_mk hC
              have z3 := hb.size
              have J3 := hid_mk ((J2.out.next hb).push (ansCF v at1 r) hA)
              clear hb hA hC
              refine hK.out _ _ J3.out.tail.tail.tail (fun hHeld => ?_)
              clear hK K
              (try simp only [Act.put]); (try simp only [List.setIfInBounds_toArray]); (try simp only [List.set_cons_succ]); (try simp only [List.set_cons_zero]); (try simp only [List.set_cons_succ]); (try simp only [List.set_cons_zero]); (try simp only [Nat.zero_add])
              refine wpAnyH_ready (rs := [4]) (by kernel_rfl) (by simp) ?_
              refine AllReadyH.cons rfl (fun K hK => ?_) AllReadyH.nil
              go_simp
              refine (S2.out _ _ _ _ C3.out.s C3.out.t (J3.out.lsl (.tail _ (.tail _ (.head _))) hl) ((J3.out.ansC (.head _)).cos hv) (HE.out.below J3.out.bel)).mono ?_
              rintro e v4 ⟨ah, rfl, hA, hf, hb⟩
              have z4 := hb.size
              have QN := hid_mk (fun k hk => And.intro (hf k hk) (hA.lt (k := k) hk))
              have J4 := hid_mk ((J3.out.next hb).push (ansCF V ah Rr) hA)
              clear hb hA hf
              refine hK.out _ _ J4.out.tail.tail.tail.tail (fun hHeld => ?_)
              clear hK K
              (try simp only [Act.put]); (try simp only [List.setIfInBounds_toArray]); (try simp only [List.set_cons_succ]); (try simp only [List.set_cons_zero]); (try simp only [List.set_cons_succ]); (try simp only [List.set_cons_zero]); (try simp only [Nat.zero_add])
              refine take_on (i := 5) (d := 94) (v := .tuple #[.agg (col V ah).toArray, .bool Bb]) rfl rfl (by kernel_rfl) (by kernel_rfl) (by kernel_rfl) (fun _ _ _ h => h) (by rfl) ?_ hHeld ?_
              · (intro w' hSw; go_simp)
              (try simp only [Act.put]); (try simp only [List.setIfInBounds_toArray]); (try simp only [List.set_cons_succ]); (try simp only [List.set_cons_zero]); (try simp only [List.set_cons_succ]); (try simp only [List.set_cons_zero]); (try simp only [Nat.zero_add])
              refine take_on (i := 6) (d := 100) (v := .agg (col V ah).toArray) rfl rfl (by kernel_rfl) (by kernel_rfl) (by kernel_rfl) (fun _ _ _ h => h) (by rfl) ?_ hHeld ?_
              · (intro w' hSw; go_simp)
              (try simp only [Act.put]); (try simp only [List.setIfInBounds_toArray]); (try simp only [List.set_cons_succ]); (try simp only [List.set_cons_zero]); (try simp only [List.set_cons_succ]); (try simp only [List.set_cons_zero]); (try simp only [Nat.zero_add])
              refine take_on (i := 7) (d := 101) (v := .bool Bb) rfl rfl (by kernel_rfl) (by kernel_rfl) (by kernel_rfl) (fun _ _ _ h => h) (by rfl) ?_ hHeld ?_
              · (intro w' hSw; go_simp)
              (try simp only [Act.put]); (try simp only [List.setIfInBounds_toArray]); (try simp only [List.set_cons_succ]); (try simp only [List.set_cons_zero]); (try simp only [List.set_cons_succ]); (try simp only [List.set_cons_zero]); (try simp only [Nat.zero_add])
              have J5 := hid_mk (J4.out.sub (gs := [celF r15 ([.slice none 0 0, .int .i64 0, .bool false, .int .i64 0, .int .i64 0, .int .i64 0, .int .i64 0, .slice none 0 0, .slice none 0 0, .int .i64 0, .slice none 0 0, .int .i64 0, .bool false, .int .i64 0, .int .i64 0, .int .i64 0, .int .i64 0, .bool false, .slice none 0 0] : List Value), ansCF V ah Rr, ansCF V ag (markG V 1), celF r10 (col V ag), celF r6 (col V aw), ansCF V aw Rr, celF w.heap.size (col v a), argCF w.heap.size v a r, sliF w.heap.size la0 ln0 LL0]) (fun f hf => by simp only [List.mem_cons, List.not_mem_nil, or_false] at hf ⊢; rcases hf with rfl | rfl | rfl | rfl | rfl | rfl | rfl | rfl | rfl; exact .inr (.inr (.inl rfl)); exact .inl rfl; exact .inr (.inr (.inr (.inr (.inl rfl)))); exact .inr (.inr (.inr (.inr (.inr (.inl rfl))))); exact .inr (.inr (.inr (.inr (.inr (.inr (.inl rfl)))))); exact .inr (.inr (.inr (.inr (.inr (.inr (.inr (.inl rfl))))))); exact .inr (.inr (.inr (.inr (.inr (.inr (.inr (.inr (.inl rfl)))))))); exact .inr (.inr (.inr (.inr (.inr (.inr (.inr (.inr (.inr (.inl rfl))))))))); exact .inr (.inr (.inr (.inr (.inr (.inr (.inr (.inr (.inr (.inr rfl)))))))))))
              have TH : Hid (v4.there r15 0 19) := (J5.out.cel (.head _)).there
              have HS : Hid (Hold w (v4.setCells r15 0 (col V ah)) [celF r15 (col V ah), ansCF V ah Rr, ansCF V ag (markG V 1), celF r10 (col V ag), celF r6 (col V aw), ansCF V aw Rr, celF w.heap.size (col v a), argCF w.heap.size v a r, sliF w.heap.size la0 ln0 LL0]) := J5.out.sets (col V ah) (by omega) (fun f hf k hk => (List.mem_cons.1 hf).elim (fun e => by subst e; have := QN.out k hk; omega) (fun h => by have := DD.out f h k hk; omega)) rfl
              refine wpAnyH_ready (rs := [9]) (by kernel_rfl) (by simp) ?_
              refine AllReadyH.cons rfl (fun K hK => ?_) AllReadyH.nil
              refine step_stm (by rfl) 64 _ _ (by rfl) r15 0 (col V ah).toArray (by rfl) (by rfl) TH.out sizeCor (col_one V ah) ?_
              refine hK.out _ _ HS.out.tail.tail (fun hHeld => ?_)
              clear hK K
              (try simp only [Act.put]); (try simp only [List.setIfInBounds_toArray]); (try simp only [List.set_cons_succ]); (try simp only [List.set_cons_zero]); (try simp only [List.set_cons_succ]); (try simp only [List.set_cons_zero]); (try simp only [Nat.zero_add])
              refine take_on (i := 10) (d := 16) (v := .bool Bb) rfl rfl (by kernel_rfl) (by kernel_rfl) (by kernel_rfl) (fun _ _ _ h => h) (by rfl) ?_ hHeld ?_
              · (intro w' hSw; go_simp)
              (try simp only [Act.put]); (try simp only [List.setIfInBounds_toArray]); (try simp only [List.set_cons_succ]); (try simp only [List.set_cons_zero]); (try simp only [List.set_cons_succ]); (try simp only [List.set_cons_zero]); (try simp only [Nat.zero_add])
              refine wpAnyH_done (by kernel_rfl) ?_ _
              clear hHeld
              try dsimp only
              generalize v4.setCells r15 0 (col V ah) = wz at HS ⊢
              go_wp2_with fail
              go_meet
              case rel => exact ⟨_, _, rfl, rfl, HS.out⟩
          · go_simp
            have J1 := hid_mk (D0.out.box ([.slice none 0 0, .int .i64 0, .bool false, .int .i64 0, .int .i64 0, .int .i64 0, .int .i64 0, .slice none 0 0, .slice none 0 0, .int .i64 0, .slice none 0 0, .int .i64 0, .bool false, .int .i64 0, .int .i64 0, .int .i64 0, .int .i64 0, .bool false, .slice none 0 0] : List Value) 64 wd.heap.size rfl)
            refine hK.out _ _ J1.out.tail (fun hHeld => ?_)
            clear hK K
            (try simp only [Act.put]); (try simp only [List.setIfInBounds_toArray]); (try simp only [List.set_cons_succ]); (try simp only [List.set_cons_zero]); (try simp only [List.set_cons_succ]); (try simp only [List.set_cons_zero]); (try simp only [Nat.zero_add])
            obtain ⟨r15, hr15⟩ : ∃ r, r = wd.heap.size := ⟨_, rfl⟩
            have zy : wd.heap.size ≤ r15 ∧ wd.heap.size ≤ r15 := by omega
            rw [← hr15] at J1 ⊢
            clear hr15
            generalize wd.alloc (.cells ([.slice none 0 0, .int .i64 0, .bool false, .int .i64 0, .int .i64 0, .int .i64 0, .int .i64 0, .slice none 0 0, .slice none 0 0, .int .i64 0, .slice none 0 0, .int .i64 0, .bool false, .int .i64 0, .int .i64 0, .int .i64 0, .int .i64 0, .bool false, .slice none 0 0] : List Value).toArray 64) = v1 at J1 hHeld ⊢
            have zA : r15 < v1.heap.size := (J1.out.cel (.head _)).lt
            refine wpAnyH_ready (rs := [1]) (by kernel_rfl) (by simp) ?_
            refine AllReadyH.cons rfl (fun K hK => ?_) AllReadyH.nil
            go_simp
            refine (toInsS_own _ _ _ LL0 _ hl (J1.out.sli (.tail _ (.tail _ (.tail _ (.tail _ (.tail _ (.tail _ (.tail _ (.head _)))))))))).mono ?_
            rintro e v2 ⟨qt, rfl, hQ, _, hb⟩
            have z2 := hb.size
            have J2 := hid_mk ((J1.out.next hb).push (lstF qt ln0 LL0) hQ)
            clear hb hQ
            refine hK.out _ _ J2.out.tail.tail (fun hHeld => ?_)
            clear hK K
            (try simp only [Act.put]); (try simp only [List.setIfInBounds_toArray]); (try simp only [List.set_cons_succ]); (try simp only [List.set_cons_zero]); (try simp only [List.set_cons_succ]); (try simp only [List.set_cons_zero]); (try simp only [Nat.zero_add])
            refine wpAnyH_ready (rs := [3]) (by kernel_rfl) (by simp) ?_
            refine AllReadyH.cons rfl (fun K hK => ?_) AllReadyH.nil
            go_simp
            refine (toCore_ans v a r _ hv (J2.out.argC (.tail _ (.tail _ (.tail _ (.tail _ (.tail _ (.tail _ (.tail _ (.head _)))))))))).mono ?_
            rintro e v3 ⟨at1, rfl, hA, hC, _, hb⟩
            have C3 := hid_mk hC
            have z3 := hb.size
            have J3 := hid_mk ((J2.out.next hb).push (ansCF v at1 r) hA)
            clear hb hA hC
            refine hK.out _ _ J3.out.tail.tail.tail (fun hHeld => ?_)
            clear hK K
            (try simp only [Act.put]); (try simp only [List.setIfInBounds_toArray]); (try simp only [List.set_cons_succ]); (try simp only [List.set_cons_zero]); (try simp only [List.set_cons_succ]); (try simp only [List.set_cons_zero]); (try simp only [Nat.zero_add])
            refine wpAnyH_ready (rs := [4]) (by kernel_rfl) (by simp) ?_
            refine AllReadyH.cons rfl (fun K hK => ?_) AllReadyH.nil
            go_simp
            refine (S2.out _ _ _ _ C3.out.s C3.out.t (J3.out.lsl (.tail _ (.head _)) hl) ((J3.out.ansC (.head _)).cos hv) (HE.out.below J3.out.bel)).mono ?_
            rintro e v4 ⟨ah, rfl, hA, hf, hb⟩
            have z4 := hb.size
            have QN := hid_mk (fun k hk => And.intro (hf k hk) (hA.lt (k := k) hk))
            have J4 := hid_mk ((J3.out.next hb).push (ansCF V ah Rr) hA)
            clear hb hA hf
            refine hK.out _ _ J4.out.tail.tail.tail.tail (fun hHeld => ?_)
            clear hK K
            (try simp only [Act.put]); (try simp only [List.setIfInBounds_toArray]); (try simp only [List.set_cons_succ]); (try simp only [List.set_cons_zero]); (try simp only [List.set_cons_succ]); (try simp only [List.set_cons_zero]); (try simp only [Nat.zero_add])
            refine take_on (i := 5) (d := 94) (v := .tuple #[.agg (col V ah).toArray, .bool Bb]) rfl rfl (by kernel_rfl) (by kernel_rfl) (by kernel_rfl) (fun _ _ _ h => h) (by rfl) ?_ hHeld ?_
            · (intro w' hSw; go_simp)
            (try simp only [Act.put]); (try simp only [List.setIfInBounds_toArray]); (try simp only [List.set_cons_succ]); (try simp only [List.set_cons_zero]); (try simp only [List.set_cons_succ]); (try simp only [List.set_cons_zero]); (try simp only [Nat.zero_add])
            refine take_on (i := 6) (d := 100) (v := .agg (col V ah).toArray) rfl rfl (by kernel_rfl) (by kernel_rfl) (by kernel_rfl) (fun _ _ _ h => h) (by rfl) ?_ hHeld ?_
            · (intro w' hSw; go_simp)
            (try simp only [Act.put]); (try simp only [List.setIfInBounds_toArray]); (try simp only [List.set_cons_succ]); (try simp only [List.set_cons_zero]); (try simp only [List.set_cons_succ]); (try simp only [List.set_cons_zero]); (try simp only [Nat.zero_add])
            refine take_on (i := 7) (d := 101) (v := .bool Bb) rfl rfl (by kernel_rfl) (by kernel_rfl) (by kernel_rfl) (fun _ _ _ h => h) (by rfl) ?_ hHeld ?_
            · (intro w' hSw; go_simp)
            (try simp only [Act.put]); (try simp only [List.setIfInBounds_toArray]); (try simp only [List.set_cons_succ]); (try simp only [List.set_cons_zero]); (try simp only [List.set_cons_succ]); (try simp only [List.set_cons_zero]); (try simp only [Nat.zero_add])
            have J5 := hid_mk (J4.out.sub (gs := [celF r15 ([.slice none 0 0, .int .i64 0, .bool false, .int .i64 0, .int .i64 0, .int .i64 0, .int .i64 0, .slice none 0 0, .slice none 0 0, .int .i64 0, .slice none 0 0, .int .i64 0, .bool false, .int .i64 0, .int .i64 0, .int .i64 0, .int .i64 0, .bool false, .slice none 0 0] : List Value), ansCF V ah Rr, ansCF V ag (markG V 1), celF r10 (col V ag), celF r6 (col V aw), ansCF V aw Rr, celF w.heap.size (col v a), argCF w.heap.size v a r, sliF w.heap.size la0 ln0 LL0]) (fun f hf => by simp only [List.mem_cons, List.not_mem_nil, or_false] at hf ⊢; rcases hf with rfl | rfl | rfl | rfl | rfl | rfl | rfl | rfl | rfl; exact .inr (.inr (.inr (.inl rfl))); exact .inl rfl; exact .inr (.inr (.inr (.inr (.inl rfl)))); exact .inr (.inr (.inr (.inr (.inr (.inl rfl))))); exact .inr (.inr (.inr (.inr (.inr (.inr (.inl rfl)))))); exact .inr (.inr (.inr (.inr (.inr (.inr (.inr (.inl rfl))))))); exact .inr (.inr (.inr (.inr (.inr (.inr (.inr (.inr (.inl rfl)))))))); exact .inr (.inr (.inr (.inr (.inr (.inr (.inr (.inr (.inr (.inl rfl))))))))); exact .inr (.inr (.inr (.inr (.inr (.inr (.inr (.inr (.inr (.inr rfl)))))))))))
            have TH : Hid (v4.there r15 0 19) := (J5.out.cel (.head _)).there
            have HS : Hid (Hold w (v4.setCells r15 0 (col V ah)) [celF r15 (col V ah), ansCF V ah Rr, ansCF V ag (markG V 1), celF r10 (col V ag), celF r6 (col V aw), ansCF V aw Rr, celF w.heap.size (col v a), argCF w.heap.size v a r, sliF w.heap.size la0 ln0 LL0]) := J5.out.sets (col V ah) (by omega) (fun f hf k hk => (List.mem_cons.1 hf).elim (fun e => by subst e; have := QN.out k hk; omega) (fun h => by have := DD.out f h k hk; omega)) rfl
            refine wpAnyH_ready (rs := [9]) (by kernel_rfl) (by simp) ?_
            refine AllReadyH.cons rfl (fun K hK => ?_) AllReadyH.nil
            refine step_stm (by rfl) 64 _ _ (by rfl) r15 0 (col V ah).toArray (by rfl) (by rfl) TH.out sizeCor (col_one V ah) ?_
            refine hK.out _ _ HS.out.tail.tail (fun hHeld => ?_)
            clear hK K
            (try simp only [Act.put]); (try simp only [List.setIfInBounds_toArray]); (try simp only [List.set_cons_succ]); (try simp only [List.set_cons_zero]); (try simp only [List.set_cons_succ]); (try simp only [List.set_cons_zero]); (try simp only [Nat.zero_add])
            refine take_on (i := 10) (d := 16) (v := .bool Bb) rfl rfl (by kernel_rfl) (by kernel_rfl) (by kernel_rfl) (fun _ _ _ h => h) (by rfl) ?_ hHeld ?_
            · (intro w' hSw; go_simp)
            (try simp only [Act.put]); (try simp only [List.setIfInBounds_toArray]); (try simp only [List.set_cons_succ]); (try simp only [List.set_cons_zero]); (try simp only [List.set_cons_succ]); (try simp only [List.set_cons_zero]); (try simp only [Nat.zero_add])
            refine wpAnyH_done (by kernel_rfl) ?_ _
            clear hHeld
            try dsimp only
            generalize v4.setCells r15 0 (col V ah) = wz at HS ⊢
            go_wp2_with fail
            go_meet
            case rel => exact ⟨_, _, rfl, rfl, HS.out⟩
        case' rest =>
          obtain ⟨r15, ah, rfl, rfl, H⟩ := hcut
          have RA := hid_mk (H.out.cel (.head _)).range
          have RB := hid_mk (H.out.cel (.tail _ (.tail _ (.tail _ (.tail _ (.head _)))))).range
          have hu := bne_b Bb
          go_upto_region 34 with (first | (refine wpList_load_mid (by rfl) 64 _ (by rfl) r15 0 (by rfl) (col V ah) _ RA.out Tryz.underlying64 rfl sizeCor ?_) | (refine wpList_load_mid (by rfl) 64 _ (by rfl) r6 0 (by rfl) (col V aw) _ RB.out Tryz.underlying64 rfl sizeCor ?_) | (go_at_call 26; refine (eqCore_same V ah aw Rr _ ((H.out.ansC (.tail _ (.head _))).cos hVb) ((H.out.ansC (.tail _ (.tail _ (.tail _ (.tail _ (.tail _ (.head _))))))).cos hVb)).mono ?_; rintro e w25 ⟨rfl, hb⟩))
          replace H := hid_mk (H.out.next hb)
          clear hb RA RB hu
          have RA := hid_mk (H.out.cel (.tail _ (.tail _ (.tail _ (.head _))))).range
          go_upto_region 36 with (first | (refine wpList_load_mid (by rfl) 64 _ (by rfl) r10 0 (by rfl) (col V ag) _ RA.out Tryz.underlying64 rfl sizeCor ?_) | (go_at_call 28; refine (heldCore_any V ag 1 (by decide) hmgb hVb _ (H.out.ansC (.tail _ (.tail _ (.head _))))).mono ?_; rintro e w26 ⟨rfl, hb⟩; rw [← HMG.out]))
          have B := hid_mk (H.out.next hb).bel
          clear hb RA H
          go_wp2
          go_ret
          exact ⟨rfl, B.out⟩
    · simp only [if_neg hk] at sz
      have SZ := hid_mk sz
      have H := hid_mk ((((Hold.new w).push (sliF w.heap.size la0 ln0 LL0) ⟨hS0, Nat.le_refl _⟩).push (argCF w.heap.size v a r) hS1.arg).box (col v a) 60 w.heap.size rfl)
      clear sz hS0 hS1 hk hE
      generalize hw1 : w.alloc (.cells (col v a).toArray 60) = w1 at H
      go_enter Tryz.func5, Tryz.ntmps5
      go_upto_region 2 with fail
      clear hw1
      go_upto_region 5 with (go_at_call 6; refine (SZI.out _).mono ?_; rintro e w2 ⟨rfl, rfl⟩)
      have RC := hid_mk (H.out.cel (.head _)).range
      go_upto_region 6 with (first | (refine wpList_load_mid (by rfl) 60 _ (by rfl) w.heap.size 0 (by rfl) (col v a) _ RC.out Tryz.underlying60 rfl sizeCorL ?_) | (go_at_call 22; refine (SZ.out _).mono ?_; rintro e w3 ⟨rfl, hb⟩))
      have B := hid_mk (H.out.next hb).bel
      clear hb RC SZ SZI H
      go_wp2
      go_ret
      exact ⟨rfl, B.out⟩
  · have szi := fun w => szInsS_any la0 ln0 lc0 w hS0.1
    simp only [if_neg hl] at szi
    have SZI := hid_mk szi
    have B := hid_mk ((Below.refl w.heap.size w).alloc (Nat.le_refl _) (.cells (col v a).toArray 60))
    clear szi hS0 hS1 hE
    go_enter Tryz.func5, Tryz.ntmps5
    go_upto_region 2 with fail
    go_upto_region 3 with (go_at_call 6; refine (SZI.out _).mono ?_; rintro e w2 ⟨rfl, rfl⟩)
    go_wp2
    go_ret
    exact ⟨rfl, B.out⟩

set_option maxRecDepth 100000 in
theorem contract (H : Type) (enc : TypeId × Value → H) (W : World) (base : Nat) (args : Array Value) (ds gs : List (DataW H)) (before : List MemPlace)
    (hval0 : ∀ (j : Nat) t v, Tryz.f5.params[j]? = some t → args[j]? = some v → Value.okWide Tryz.prog W .any base t v)
    (hW : DataW.Whole enc Tryz.prog Tryz.f5.params.toList Rows.fnExactPullSpec.vars false W args.toList ds gs before) (hk : Rows.uptoSmall H (ds ++ gs) = true) (hL : laidMetH Tryz.prog Rows.fnExactPullUptoRow.laid W) :
    Calls Tryz.prog 5 args W fun e W' => ∃ v, e = .returned v ∧ Rows.fnExactPullSpec.post enc Tryz.prog Tryz.f5 false true false false W args v W' := by
  have hp : ∀ w : World, laidMetH Tryz.prog Rows.fnExactPullUptoRow.laid w = laidMet Tryz.prog Rows.fnExactStepRow.laid w := fun w => MakeChecks.laidMetH_plain _ _ _ (by kernel_rfl)
  have hval : ∀ (j : Nat) t v, Tryz.f5.params[j]? = some t → args[j]? = some v → Value.okWide Tryz.prog W .any base t v := hval0
  have hW' := hW
  obtain ⟨p, q, hA0, hV0, rfl, hfz, hnd⟩ := hW
  have hA : DataW.TrodAll enc Tryz.prog W 0 (fun _ => true) true Tryz.f5.params.toList args.toList ds p := hA0
  have hV : DataW.TrodVars enc Tryz.prog W (fun _ => true) Rows.fnExactStepSpec.vars gs q := hV0
  rw [Tryz.params5] at hA hval
  rw [hp] at hL
  obtain ⟨a0, a1, a2, a3, hE, hr⟩ := errs_in hL
  obtain ⟨rfl, rfl⟩ := hV.unique (hr H enc W _ (Below.refl _ _))
  obtain ⟨v0, vs0, d0, ds0, p0, q0, hargs, rfl, rfl, h0, r0⟩ := trodAll_cons hA
  obtain ⟨v1, vs1, d1, ds1, p1, q1, rfl, rfl, rfl, h1, r1⟩ := trodAll_cons r0
  obtain ⟨rfl, rfl, rfl⟩ := trodAll_nil r1
  obtain rfl : args = #[v0, v1] := by cases args; simp_all
  have hbulk := of_decide_eq_true hk
  have hb1 := Nat.le_trans (bulk_part (d := d1) (List.mem_append_left _ (by simp))) hbulk
  have k0 := h0
  have lt0 : ∀ x ∈ p0, x.block < W.heap.size := by obtain ⟨m, hm⟩ := k0; exact DataW.trod_lt m _ _ _ hm
  have k1 := h1
  have lt1 : ∀ x ∈ p1, x.block < W.heap.size := by obtain ⟨m, hm⟩ := k1; exact DataW.trod_lt m _ _ _ hm
  obtain ⟨la0, ln0, lc0, rfl⟩ := okWide_slice Tryz.underlying22 (hval 0 22 v0 rfl rfl)
  obtain ⟨LL0, hS0⟩ : ∃ L, SliceI W.heap.size W la0 ln0 L := by
    obtain ⟨fuel, hf⟩ := h0
    exact came_in (by simpa [Value.cells] using hf)
  obtain ⟨cv1, ca1, cr1, rfl, hS1, hbk1⟩ := open_core (hval 1 60 v1 rfl rfl) h1
  clear hA0 hval0 hV0 hbulk hk
  refine (walk la0 ln0 lc0 LL0 cv1 ca1 cr1 a0 a1 a2 a3 W hS0 hS1 (by omega) hE).mono fun e W' ⟨he, bel⟩ => ?_
  subst he
  exact ⟨_, rfl, _, _, _, [], _, [.cell 0 0, .cell 1 0, .cell 2 0, .cell 3 0], hW', trodAll_mk1 (shut_bool Tryz.underlying4 _), (trodAll_cons_mk (Below.trod laidOut (by kernel_rfl) (of_decide_eq_true (by kernel_rfl)) k0 bel lt0) (trodAll_cons_mk (Below.trod laidOut (by kernel_rfl) (of_decide_eq_true (by kernel_rfl)) k1 bel lt1) trodAll_mk0)), hr H enc W' _ bel, bel.frame _, fun h => by cases h⟩

theorem reads (os : Os) (H : Type) (enc : TypeId × Value → H) : (DataW.whole enc Tryz.prog ((laidWorld os).forCall (fun _ _ => 0) ⟨#[], #[.slice none 0 0, .agg #[.slice none 0 0, .int .i64 0, .bool false, .int .i64 0, .int .i64 0, .int .i64 0, .int .i64 0, .slice none 0 0, .slice none 0 0, .int .i64 0, .slice none 0 0, .int .i64 0, .bool false, .int .i64 0, .int .i64 0, .int .i64 0, .int .i64 0, .bool false, .slice none 0 0]], []⟩).memory Tryz.f5.params.toList (Rows.OpenSpec.upto Rows.fnExactPullSpec).vars false (#[.slice none 0 0, .agg #[.slice none 0 0, .int .i64 0, .bool false, .int .i64 0, .int .i64 0, .int .i64 0, .int .i64 0, .slice none 0 0, .slice none 0 0, .int .i64 0, .slice none 0 0, .int .i64 0, .bool false, .int .i64 0, .int .i64 0, .int .i64 0, .int .i64 0, .bool false, .slice none 0 0]] : Array Value).toList 8).map (fun x => Rows.uptoSmall H (x.1 ++ x.2.1)) = some true := by kernel_rfl
set_option maxRecDepth 100000 in
theorem lifted (os : Os) (started : os.Started) (H : Type) (enc : TypeId × Value → H) (F : Stop.Interp) :
    ReturnsInHanded {} Tryz.checked os 5 .any ((Rows.OpenSpec.upto Rows.fnExactPullSpec).preRow enc Tryz.prog Tryz.f5 Rows.fnExactPullUptoRow.domain false Rows.fnExactPullUptoRow.laid) (((Rows.OpenSpec.upto Rows.fnExactPullSpec).at F).post enc Tryz.prog Tryz.f5 false true false false) := by
  have hp : ∀ w : World, laidMetH Tryz.prog Rows.fnExactPullUptoRow.laid w = laidMet Tryz.prog Rows.fnExactStepRow.laid w := fun w => MakeChecks.laidMetH_plain _ _ _ (by kernel_rfl)
  obtain ⟨x, hx, hxk⟩ := Option.map_eq_some_iff.1 (reads os H enc)
  refine returnsInHanded_of_row (C := Tryz.checked) (s := Rows.OpenSpec.upto Rows.fnExactPullSpec) own started (by kernel_rfl) Tryz.func5
    (witness_row_at (enc := enc) (C := Tryz.checked) false (laidWorld os) #[.slice none 0 0, .agg #[.slice none 0 0, .int .i64 0, .bool false, .int .i64 0, .int .i64 0, .int .i64 0, .int .i64 0, .slice none 0 0, .slice none 0 0, .int .i64 0, .slice none 0 0, .int .i64 0, .bool false, .int .i64 0, .int .i64 0, .int .i64 0, .int .i64 0, .bool false, .slice none 0 0]] rfl (by kernel_rfl) (by kernel_rfl) (by kernel_rfl)
      (OpenSpec.preRow_of_cond 8 hx rfl (fun k hk => by cases hk; exact hxk) (by kernel_rfl) (by show laidMetH Tryz.prog _ _; rw [hp]; exact laidWorld_met os _))) ?_
  intro W base args ds gs before hval hW _ hcond _ hL _ _
  exact contract H enc W base args ds gs before hval hW (hcond _ rfl) hL

theorem said : Rows.FnExactPullUptoSaid :=
  OpenClaim.holds_of_cond 5 Tryz.f5 rfl rfl rfl rfl rfl rfl rfl ⟨rfl, rfl, rfl, rfl, rfl⟩ rfl rfl rfl rfl rfl (by kernel_rfl) Tryz.func5 (by kernel_rfl)
    (of_decide_eq_true (by kernel_rfl)) (by unfold Func.isWrapper; first | (rw [if_pos (by decide +kernel)]; kernel_rfl) | (rw [if_neg (by decide +kernel)]; exact ⟨rfl, rfl⟩))
    (fun os started H enc _ F => by rw [OpenClaim.pre_eq_preRow]; exact lifted os started H enc F)
theorem plain (f : FuncId) (fn : Func) (hf : Tryz.pinned.checked.prog.funcNamed Rows.fnExactPullUptoRow.func = some f) (hfn : Tryz.pinned.checked.prog.funcs[f]? = some fn) :
    true = Tryz.pinned.checked.prog.looks [] ∧ ∀ (j : Nat) t, fn.params[j]? = some t → Tryz.pinned.checked.prog.wantsStandIn t = false := by
  obtain rfl : f = 5 := Option.some.inj ((show Tryz.prog.funcNamed Rows.fnExactPullUptoRow.func = some 5 by kernel_rfl).symm.trans hf) |>.symm
  obtain rfl : fn = Tryz.f5 := (Option.some.inj (Tryz.func5.symm.trans hfn)).symm
  refine ⟨by kernel_rfl, fun j t ht => ?_⟩
  rw [Tryz.params5] at ht
  have hm := Array.mem_of_getElem? ht
  have hall : ∀ u ∈ Tryz.f5.params.toList, Tryz.prog.wantsStandIn u = false := by
    have h : (Tryz.f5.params.toList.all fun u => !Tryz.prog.wantsStandIn u) = true := by kernel_rfl
    intro u hu
    have := List.all_eq_true.1 h u hu
    simpa using this
  exact hall t (by rw [Tryz.params5]; simpa using hm)
theorem card : Rows.FnExactPullUptoCardSaid :=
  Claim7.holds_tied_plain_at .later [] _ _ _ _ said (fun _ h => by cases h) (by kernel_rfl) (fun _ h => by cases h) fnExactPullUpto_row_tie rfl ⟨rfl, rfl⟩ (by kernel_rfl) rfl plain (by kernel_rfl)
end Go.Proofs.YtpkhnajhamnggaaGreatDoor.fnExactPull

namespace Go.Proofs.YtpkhnajhamnggaaGreatDoor
/-- For every list of Ins and Core whose reading is of bulk at most 1048576 Pull of the program answers as the specification's Pull, whole, in memory of its own, behind another call too; it leaves the list and the core as they were, and the law returns true. The four errors of the program hold what its text lays. -/
theorem fnExactPull_holds : Rows.FnExactPullUptoCardSaid := fnExactPull.card
#print axioms fnExactPull_holds
end Go.Proofs.YtpkhnajhamnggaaGreatDoor
