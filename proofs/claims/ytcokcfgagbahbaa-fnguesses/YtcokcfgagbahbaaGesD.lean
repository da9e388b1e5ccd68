/- The list that told makes of a map. No condition but that there are no more places than a list of the laws may have. -/
import Derived.Test.YtcokcfgagbahbaaGesC
namespace Go.Proofs.Ytcokcfgagbahbaa
open Go.ChangeShapes Go.WideShapes Go.ChangeAt Go.RowKit Go.Maps Go.Sort Go.Shelf
set_option maxRecDepth 100000

theorem Hold.grow {w0 w w' : World} {g n cap n' : Nat} {L L' : List Int} {fs : List Fct} (h : Hold w0 w (roomF g n cap L :: fs)) (hg : w.grownBy w' (some g)) (hR : RoomN w' g n' cap L') (h0 : w0.heap.size ≤ g) (hd : ∀ f ∈ fs, ¬ f.S g) : Hold w0 w' (roomF g n' cap L' :: fs) :=
  (h.tail.wrote (KeptS.ofGrown hg) (fun k hk => by subst hk; exact h0) (fun f hf k hk e => by subst e; exact hd f hf hk)).push _ hR

set_option maxHeartbeats 8000000 in
theorem told_some (b nn : Nat) (D : DataW Unit) (gg : Int → Option Int) (count : Nat) (w : World) (hc : count ≤ 1048576) (hn : nn ≤ 2097152) (hown : w.ownsMap Try.prog 3 (plainElem Try.prog 3) b nn D) (hg : MapG D gg) (hk : ∀ x, (gg x).isSome = true → 0 ≤ x ∧ x < (count : Int)) :
    Calls Try.prog 34 #[.map (some b), .int .i64 (count : Int)] w fun e w' => ∃ q, e = .returned (.slice (some ⟨q, 0, none⟩) count count) ∧ w.heap.size ≤ q ∧ RoomN w' q count count (toldL gg count) ∧ Below w.heap.size w w' := by
  have hbl := hown.lt
  have O := hid_mk hown
  have G := hid_mk hg
  have HK := hid_mk hk
  clear hown hg hk
  obtain ⟨i0, hi, hz0, hz1, hz2⟩ := info_parts infoN
  go_enter Try.func34, Try.ntmps34
  go_wp2_with (at_make; refine wpList_make_own _ rfl _ _ 24 rfl 0 3 i0 _ 1 Try.underlying24 hi hz0 hz1 _ _ _ count rfl rfl (by rfl) (by rw [hz2]; omega) (by unfold maxLen; omega) (Nat.zero_le _) ?_; intro w1 hown1 hgrow1)
  obtain ⟨q, hq⟩ : ∃ q, q = w.heap.size := ⟨_, rfl⟩
  rw [← hq] at hown1 ⊢
  have H := hid_mk ((((Hold.new w).push (ownF b nn D) O.out).next (⟨hgrow1.os, hgrow1.tape, hgrow1.output, hgrow1.size, fun k hk => hgrow1.block k hk (by simp)⟩ : Below w.heap.size w w1)).push (roomF q 0 count []) ⟨hown1⟩)
  clear hown1 hgrow1 O
  have hqb : q ≠ b := by omega
  have hq1 : q < w1.heap.size := (H.out.room (.head _)).lt
  have hq0 : w.heap.size ≤ q := by omega
  clear hq hbl
  have S1 := hid_mk (sorted_some b nn D gg w1 (H.out.own (.tail _ (.head _))) G.out hn)
  go_wp2_with fail
  refine (keys_call _ _).mono ?_
  rintro e w2 ⟨rfl, rfl⟩
  go_wp2_with fail
  refine S1.out.mono ?_
  rintro e w3 ⟨a, nk, cap, K, rfl, hK, hS, hnk, hon, hb⟩
  replace H := hid_mk (((H.out.alloc (.cells #[.map (some b)] 54)).next (hb.mono (by simp))).push (sloF a nk K) hS)
  have hlK := hS.2.1
  have KG := hid_mk hK
  have hon1 : Hid (∀ k, On a k → k ≠ q) := fun k hk e => by have := hon k hk; omega
  clear hb hS hK hon S1
  generalize w3 = w4 at H
  go_wp2
  go_loopw [5, 14] (fun l c wr => ∃ j m : Nat, j ≤ nk ∧ m ≤ count ∧ l = .slice (some ⟨q, 0, none⟩) m count ∧ c = .int .i64 j ∧ Hid (∀ i u, i < j → K[i]? = some u → u < (m : Int)) ∧ Hid (∀ i u, j ≤ i → K[i]? = some u → (m : Int) ≤ u) ∧ Hid (Hold w wr [roomF q m count (toldL gg m), sloF a nk K, ownF b nn D])) (fun _ c _ => nk - (RowKit.intOf c).toNat)
  case atStart =>
    refine ⟨0, 0, Nat.zero_le _, Nat.zero_le _, rfl, rfl, fun i u hi => absurd hi (Nat.not_lt_zero _), fun i u _ hu => ?_, H.out.sub fun f hf => ?_⟩
    · have := (HK.out u ((KG.out.mem u).1 (List.mem_of_getElem? hu))).1
      omega
    · simp only [List.mem_cons, List.not_mem_nil, or_false] at hf ⊢
      rcases hf with rfl | rfl | rfl
      · exact .inr (.inl rfl)
      · exact .inl rfl
      · exact .inr (.inr rfl)
  case round =>
    clear H
    obtain ⟨j, m, hj, hm, rfl, rfl, A, B, H⟩ := hrel
    have DD : Hid (∀ f ∈ [sloF a nk K, ownF b nn D], ¬ f.S q) := fun f hf hs => by
      simp only [List.mem_cons, List.not_mem_nil, or_false] at hf
      rcases hf with rfl | rfl
      · exact hon1.out q hs rfl
      · simp only [ownF] at hs; omega
    by_cases hlt : j < nk
    · obtain ⟨kb, o, x, rfl, hkb, hx, d0⟩ := (H.out.slo (.tail _ (.head _))).at hlt
      have HX := hid_mk hx
      clear hx
      obtain ⟨v, hv⟩ := Option.isSome_iff_exists.1 ((KG.out.mem x).1 (List.mem_of_getElem? HX.out))
      have hxr := HK.out x (by rw [hv]; rfl)
      obtain ⟨p, rfl⟩ : ∃ p : Nat, x = (p : Int) := ⟨x.toNat, by omega⟩
      have hpm := B.out j _ (Nat.le_refl _) HX.out
      have hmp : m ≤ p := by omega
      have hpc : p < count := by omega
      have HV := hid_mk hv
      have hwx : (Lit.int .i64 (p : Int)).wf = true := WalkArith.wf_i64 (by omega)
      clear hv hxr hpm
      go_upto_region 5 with fail
      have D0 := hid_mk H.out.drew
      refine wp_region_held_drew (S := fun w' => w'.ownsMap Try.prog 3 (plainElem Try.prog 3) b nn D) (by kernel_rfl) (D0.out.own (.tail _ (.tail _ (.head _)))) (fun hHeld => ?_)
      generalize wr.drew = wd at D0 hHeld ⊢
      clear H
      refine take_on (i := 0) (d := 18) (v := .slice (some ⟨q, 0, none⟩) m count) rfl rfl (by kernel_rfl) (by kernel_rfl) (by kernel_rfl) (fun _ _ _ h => h) (by rfl) ?_ hHeld ?_
      · (intro w' hSw; go_simp)
      simp only [Act.put, List.setIfInBounds_toArray, List.set_cons_zero, List.set_cons_succ]
      refine take_on (i := 1) (d := 19) (v := .int .i64 (p : Int)) rfl rfl (by kernel_rfl) (by kernel_rfl) (by kernel_rfl) (fun _ _ _ h => h) (by rfl) ?_ hHeld ?_
      · (intro w' hSw; go_simp)
      simp only [Act.put, List.setIfInBounds_toArray, List.set_cons_zero, List.set_cons_succ]
      refine take_on (i := 3) (d := 21) (v := .map (some b)) rfl rfl (by kernel_rfl) (by kernel_rfl) (by kernel_rfl) (fun _ _ _ h => h) (by rfl) ?_ hHeld ?_
      · (intro w' hSw; go_simp)
      simp only [Act.put, List.setIfInBounds_toArray, List.set_cons_zero, List.set_cons_succ]
      refine take_on (i := 4) (d := 22) (v := .int .i64 (p : Int)) rfl rfl (by kernel_rfl) (by kernel_rfl) (by kernel_rfl) (fun _ _ _ h => h) (by rfl) ?_ hHeld ?_
      · (intro w' hSw; go_simp)
      simp only [Act.put, List.setIfInBounds_toArray, List.set_cons_zero, List.set_cons_succ]
      refine take_on (i := 5) (d := 23) (v := .int .i64 v) rfl rfl (by kernel_rfl) (by kernel_rfl) (by kernel_rfl) (fun _ _ _ h => h) (by rfl) ?_ hHeld ?_
      · (intro w' hSw; have e0 := look_run hSw G.out hwx HV.out; go_simp)
      simp only [Act.put, List.setIfInBounds_toArray, List.set_cons_zero, List.set_cons_succ]
      refine wpAnyH_ready (rs := [2, 6]) (by kernel_rfl) (by simp) ?_
      refine AllReadyH.cons rfl (fun K1 hK => ?_) (AllReadyH.cons rfl (fun K1 hK => ?_) AllReadyH.nil)
      · go_simp
        refine (unlearnt_any q m count p (toldL gg m) _ hmp (by omega) (by omega) (D0.out.room (.head _))).mono ?_
        rintro e v1 ⟨rfl, hR, hgr⟩
        rw [told_fill hmp (fun y h1 h2 => KG.out.gap HX.out A.out h1 h2)] at hR
        have J1 := hid_mk (D0.out.grow hgr hR hq0 DD.out)
        clear hR hgr
        refine hK.out _ _ (J1.out.own (.tail _ (.tail _ (.head _)))) (fun hHeld => ?_)
        clear hK K1
        (try simp only [Act.put]); (try simp only [List.setIfInBounds_toArray]); (try simp only [List.set_cons_succ]); (try simp only [List.set_cons_zero]); (try simp only [List.set_cons_succ]); (try simp only [List.set_cons_zero]); (try simp only [Nat.zero_add])
        refine wpAnyH_ready (rs := [6]) (by kernel_rfl) (by simp) ?_
        refine AllReadyH.cons rfl (fun K1 hK => ?_) AllReadyH.nil
        go_simp
        have JX := hid_mk (J1.out.alloc (.cells #[.int .i64 v] 3))
        have HC : Hid ((v1.alloc (.cells #[.int .i64 v] 3)).cell? ⟨v1.heap.size, 0, none⟩ = some (.int .i64 v)) := by simp [Hid]
        refine hK.out _ _ (JX.out.own (.tail _ (.tail _ (.head _)))) (fun hHeld => ?_)
        clear hK K1
        (try simp only [Act.put]); (try simp only [List.setIfInBounds_toArray]); (try simp only [List.set_cons_succ]); (try simp only [List.set_cons_zero]); (try simp only [List.set_cons_succ]); (try simp only [List.set_cons_zero]); (try simp only [Nat.zero_add])
        have RX := hid_mk (JX.out.room (.head _))
        generalize v1.heap.size = ab at HC ⊢
        generalize v1.alloc (.cells #[.int .i64 v] 3) = v2 at JX HC RX hHeld ⊢
        refine wpAnyH_ready (rs := [7]) (by kernel_rfl) (by simp) ?_
        refine AllReadyH.cons rfl (fun K1 hK => ?_) AllReadyH.nil
        refine step_appFits rfl _ _ rfl q p count (toldL gg p) rfl RX.out ⟨ab, 0, none⟩ 1 v rfl HC.out (by omega) ?_
        intro v3 hR hgr
        rw [told_one HV.out] at hR
        have J3 := hid_mk (JX.out.grow hgr hR hq0 DD.out)
        clear hR hgr
        refine hK.out _ _ (J3.out.own (.tail _ (.tail _ (.head _)))) (fun hHeld => ?_)
        clear hK K1
        (try simp only [Act.put]); (try simp only [List.setIfInBounds_toArray]); (try simp only [List.set_cons_succ]); (try simp only [List.set_cons_zero]); (try simp only [List.set_cons_succ]); (try simp only [List.set_cons_zero]); (try simp only [Nat.zero_add])
        refine take_on (i := 8) (d := 5) (v := .slice (some ⟨q, 0, none⟩) (p + 1) count) rfl rfl (by kernel_rfl) (by kernel_rfl) (by kernel_rfl) (fun _ _ _ h => h) (by rfl) ?_ hHeld ?_
        · (intro w' hSw; go_simp)
        (try simp only [Act.put]); (try simp only [List.setIfInBounds_toArray]); (try simp only [List.set_cons_succ]); (try simp only [List.set_cons_zero]); (try simp only [List.set_cons_succ]); (try simp only [List.set_cons_zero]); (try simp only [Nat.zero_add])
        refine wpAnyH_done (by kernel_rfl) ?_ _
        clear hHeld
        try dsimp only
        have A3 : Hid (∀ i u, i < j + 1 → K[i]? = some u → u < ((p + 1 : Nat) : Int)) := fun i u hi hu => by have := KG.out.next HX.out i u hi hu; omega
        have B3 : Hid (∀ i u, j + 1 ≤ i → K[i]? = some u → ((p + 1 : Nat) : Int) ≤ u) := fun i u hi hu => by have := KG.out.above HX.out (i := i) (by omega) hu; omega
        go_wp2
        go_roundw
        case rel => exact ⟨j + 1, p + 1, hlt, by omega, rfl, by go_num, A3.out, B3.out, J3.out⟩
        case measure => simp [RowKit.intOf]; omega
      · go_simp
        have J1 := hid_mk (D0.out.alloc (.cells #[.int .i64 v] 3))
        have HC1 : Hid ((wd.alloc (.cells #[.int .i64 v] 3)).cell? ⟨wd.heap.size, 0, none⟩ = some (.int .i64 v)) := by simp [Hid]
        have hab : wd.heap.size < (wd.alloc (.cells #[.int .i64 v] 3)).heap.size := by simp
        have hqw : q ≠ wd.heap.size := by have := (D0.out.room (.head _)).lt; omega
        refine hK.out _ _ (J1.out.own (.tail _ (.tail _ (.head _)))) (fun hHeld => ?_)
        clear hK K1
        (try simp only [Act.put]); (try simp only [List.setIfInBounds_toArray]); (try simp only [List.set_cons_succ]); (try simp only [List.set_cons_zero]); (try simp only [List.set_cons_succ]); (try simp only [List.set_cons_zero]); (try simp only [Nat.zero_add])
        generalize wd.heap.size = ab at HC1 hab hqw ⊢
        generalize wd.alloc (.cells #[.int .i64 v] 3) = v1 at J1 HC1 hab hHeld ⊢
        refine wpAnyH_ready (rs := [2]) (by kernel_rfl) (by simp) ?_
        refine AllReadyH.cons rfl (fun K1 hK => ?_) AllReadyH.nil
        go_simp
        refine (unlearnt_any q m count p (toldL gg m) _ hmp (by omega) (by omega) (J1.out.room (.head _))).mono ?_
        rintro e v2 ⟨rfl, hR, hgr⟩
        rw [told_fill hmp (fun y h1 h2 => KG.out.gap HX.out A.out h1 h2)] at hR
        have JX := hid_mk (J1.out.grow hgr hR hq0 DD.out)
        have HC : Hid (v2.cell? ⟨ab, 0, none⟩ = some (.int .i64 v)) := (World.cell?_of_block (hgr.block ab hab (by intro e; injection e with e; exact hqw e.symm))).trans HC1.out
        clear hR hgr
        refine hK.out _ _ (JX.out.own (.tail _ (.tail _ (.head _)))) (fun hHeld => ?_)
        clear hK K1
        (try simp only [Act.put]); (try simp only [List.setIfInBounds_toArray]); (try simp only [List.set_cons_succ]); (try simp only [List.set_cons_zero]); (try simp only [List.set_cons_succ]); (try simp only [List.set_cons_zero]); (try simp only [Nat.zero_add])
        have RX := hid_mk (JX.out.room (.head _))
        refine wpAnyH_ready (rs := [7]) (by kernel_rfl) (by simp) ?_
        refine AllReadyH.cons rfl (fun K1 hK => ?_) AllReadyH.nil
        refine step_appFits rfl _ _ rfl q p count (toldL gg p) rfl RX.out ⟨ab, 0, none⟩ 1 v rfl HC.out (by omega) ?_
        intro v3 hR hgr
        rw [told_one HV.out] at hR
        have J3 := hid_mk (JX.out.grow hgr hR hq0 DD.out)
        clear hR hgr
        refine hK.out _ _ (J3.out.own (.tail _ (.tail _ (.head _)))) (fun hHeld => ?_)
        clear hK K1
        (try simp only [Act.put]); (try simp only [List.setIfInBounds_toArray]); (try simp only [List.set_cons_succ]); (try simp only [List.set_cons_zero]); (try simp only [List.set_cons_succ]); (try simp only [List.set_cons_zero]); (try simp only [Nat.zero_add])
        refine take_on (i := 8) (d := 5) (v := .slice (some ⟨q, 0, none⟩) (p + 1) count) rfl rfl (by kernel_rfl) (by kernel_rfl) (by kernel_rfl) (fun _ _ _ h => h) (by rfl) ?_ hHeld ?_
        · (intro w' hSw; go_simp)
        (try simp only [Act.put]); (try simp only [List.setIfInBounds_toArray]); (try simp only [List.set_cons_succ]); (try simp only [List.set_cons_zero]); (try simp only [List.set_cons_succ]); (try simp only [List.set_cons_zero]); (try simp only [Nat.zero_add])
        refine wpAnyH_done (by kernel_rfl) ?_ _
        clear hHeld
        try dsimp only
        have A3 : Hid (∀ i u, i < j + 1 → K[i]? = some u → u < ((p + 1 : Nat) : Int)) := fun i u hi hu => by have := KG.out.next HX.out i u hi hu; omega
        have B3 : Hid (∀ i u, j + 1 ≤ i → K[i]? = some u → ((p + 1 : Nat) : Int) ≤ u) := fun i u hi hu => by have := KG.out.above HX.out (i := i) (by omega) hu; omega
        go_wp2
        go_roundw
        case rel => exact ⟨j + 1, p + 1, hlt, by omega, rfl, by go_num, A3.out, B3.out, J3.out⟩
        case measure => simp [RowKit.intOf]; omega
    · obtain rfl : j = nk := by omega
      have U := hid_mk (unlearnt_any q m count count (toldL gg m) wr hm (Nat.le_refl _) hc (H.out.room (.head _)))
      go_wp2_with fail
      refine U.out.mono ?_
      rintro e w5 ⟨rfl, hR, hgr⟩
      rw [told_fill hm (fun y h1 _ => KG.out.tail (fun u hu => by
        obtain ⟨i, hi⟩ := List.getElem?_of_mem hu
        have hil := (List.getElem?_eq_some_iff.1 hi).1
        exact A.out i u (by omega) hi) h1)] at hR
      have H2 := hid_mk (H.out.grow hgr hR hq0 DD.out)
      clear hR hgr
      go_wp2
      go_ret
      exact ⟨q, rfl, hq0, H2.out.room (.head _), H2.out.bel⟩
end Go.Proofs.Ytcokcfgagbahbaa
