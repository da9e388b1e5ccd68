/- Sweep of the program at all memories, with the room that its answer has. The words' room is no less than their number. -/
import Derived.Test.YtpkhnajhamnggaaGreatDoorMemB
namespace Go.Proofs.YtpkhnajhamnggaaGreatDoor
open Go.ChangeShapes Go.WideShapes Go.ChangeAt Go.RowKit
set_option maxRecDepth 100000

set_option maxHeartbeats 8000000 in
theorem implSweep_cap (a : Option Addr) (n0 c : Nat) (a' : Option Addr) (n0' c' : Nat) (L : List Wd) (G : List Bool) (m : Int) (hcap : n0 ≤ c) (w : World) (hM : MemS w a n0 a' n0' L G) :
    Calls Tryz.prog 103 #[.agg #[.slice a n0 c, .slice a' n0' c'], .int .i64 m] w fun e w' => ∃ b d b' d', e = .returned (.agg #[.slice b (swpL L G m).length d, .slice b' (keepG L G).length d']) ∧ (swpL L G m).length ≤ d ∧ AnsM b b' (swpL L G m).length (keepG L G).length (swpL L G m) (keepG L G) w' ∧ (∀ k, On b k ∨ On b' k → w.heap.size ≤ k) ∧ Below w.heap.size w w' := by
  have H := hid_mk ((((((Hold.new w).push (argF w.heap.size a n0 a' n0' L G) hM.arg).alloc (.cells #[.slice a n0 c, .slice a' n0' c'] 40)).push (duoF w.heap.size (.slice a n0 c) (.slice a' n0' c')) (Duo.new w _ _ _)).alloc (.cells #[.slice none 0 0, .slice none 0 0] 40)).push (duoF (w.heap.size + 1) (.slice none 0 0) (.slice none 0 0)) (by
    have h := Duo.new (w.alloc (.cells #[.slice a n0 c, .slice a' n0' c'] 40)) (.slice none 0 0) (.slice none 0 0) 40
    rw [World.size_alloc] at h
    exact h))
  have s1 := implMemoryOk_any a n0 c a' n0' c' L G
  have hlw := hM.ws.2.1
  have hlg := hM.gs.2.1
  clear hM
  generalize hw1 : (w.alloc (.cells #[.slice a n0 c, .slice a' n0' c'] 40)).alloc (.cells #[.slice none 0 0, .slice none 0 0] 40) = w1 at H
  cases hk : mokB L G with
  | false =>
    rw [keepG_none hk, swp_none hk, List.length_nil, List.length_nil]
    rw [hk] at s1
    have S1 := hid_mk s1
    clear s1 hk
    go_enter Tryz.func103, Tryz.ntmps103
    go_upto_region 1 with fail
    clear hw1
    obtain ⟨_, m0, m1, _, _⟩ := H.out.duo (.tail _ (.head _))
    go_wp2_with fail
    refine (S1.out _ (H.out.arg (.tail _ (.tail _ (.head _))))).mono ?_
    rintro e w2 ⟨rfl, hb2⟩
    replace H := hid_mk (H.out.next hb2)
    clear hb2 m0 m1 S1
    obtain ⟨_, r0, r1, f0, f1⟩ := H.out.duo (.head _)
    go_wp2
    refine bodyPost_ret (v := .agg #[.slice none 0 0, .slice none 0 0]) (by simp [results, Tryz.results103, go_sem, r0, r1]) rfl ⟨none, 0, none, 0, rfl, Nat.le_refl _, AnsM.nil _, fun k hk => ?_, below_two H.out.bel (by omega) _ _⟩
    rcases hk with hk | hk
    · exact absurd hk (on_none k)
    · exact absurd hk (on_none k)
  | true =>
    obtain ⟨h24, h24', _⟩ := mok_parts hk
    have e1 : n0 = 24 := by omega
    have e2 : n0' = 24 := by omega
    subst e1 e2
    rw [keepG_some hk]
    obtain ⟨D, hD⟩ : ∃ D, Hid (D = swpL L G m) := ⟨_, rfl⟩
    rw [← hD.out]
    have hDl : D.length = 24 := by
      rw [hD.out]
      by_cases hi : 0 ≤ m ∧ m ≤ 23
      · rw [swp_in hk hi, List.length_set]; exact h24
      · rw [swp_out hk hi]; exact h24
    rw [h24', hDl]
    rw [hk] at s1
    have S1 := hid_mk s1
    have s2 := isNumber_any m 24
    simp only [show (24 : Int) - 1 = 23 from rfl] at s2
    have HK := hid_mk hk
    clear s1 hk
    have hlt : w.heap.size + 1 < w1.heap.size := (H.out.duo (.head _)).lt
    have s4 := fun w hM => asItWas_c a c a' c' L G w hM
    have S4 := hid_mk s4
    clear s4
    go_enter Tryz.func103, Tryz.ntmps103
    go_upto_region 1 with fail
    clear hw1
    obtain ⟨_, m0, m1, _, _⟩ := H.out.duo (.tail _ (.head _))
    go_wp2_with fail
    refine (S1.out _ (H.out.arg (.tail _ (.tail _ (.head _))))).mono ?_
    rintro e w2 ⟨rfl, hb2⟩
    replace H := hid_mk (H.out.next hb2)
    have hlt2 : w.heap.size + 1 < w2.heap.size := Nat.lt_of_lt_of_le hlt hb2.size
    clear hb2 m0 m1 S1 hlt
    by_cases hi : 0 ≤ m ∧ m ≤ 23
    · rw [decide_eq_true hi] at s2
      have S2 := hid_mk s2
      clear s2
      have hDD := hD.out.trans (swp_in HK.out hi)
      obtain ⟨hi0, hi1⟩ := hi
      obtain ⟨k, hkm⟩ : ∃ k : Nat, m.toNat = k := ⟨_, rfl⟩
      have hk24 : k < 24 := by omega
      have hmk : m = (k : Int) := by omega
      have hq := eql_gone G h24'
      have eg := eg_gone
      have HN : Hid (noneGone G = true → D = L) := fun hg => hD.out.trans (swp_same HK.out hg m)
      generalize noneGone G = z at hq HN
      rw [hkm] at hDD
      subst hmk
      have hk24i : (k : Int) < 24 := by omega
      have HD := hid_mk hDD
      clear hDD
      go_wp2_with fail
      refine (S2.out _).mono ?_
      rintro e w' ⟨rfl, hw'⟩
      subst w'
      obtain ⟨_, m0, m1, _, _⟩ := H.out.duo (.tail _ (.head _))
      go_wp2_with fail
      refine (goneIn_any _ a' c' G _ (H.out.arg (.tail _ (.tail _ (.head _)))).gs).mono ?_
      rintro e w3 ⟨rfl, hb3⟩
      replace H := hid_mk (H.out.next hb3)
      have hlt3 : w.heap.size + 1 < w3.heap.size := Nat.lt_of_lt_of_le hlt2 hb3.size
      clear hb3 m0 m1 hlt2
      unfold zs24 at hq
      cases z with
      | true =>
        obtain rfl : D = L := HN.out rfl
        clear HN HD
        obtain ⟨_, m0, m1, _, _⟩ := H.out.duo (.tail _ (.head _))
        go_wp2_with fail
        refine (S4.out _ (H.out.arg (.tail _ (.tail _ (.head _))))).mono ?_
        rintro e w4 ⟨b, d, b', d', rfl, hd, A4, hf4, hb4⟩
        replace H := hid_mk (H.out.next hb4)
        have HF := hid_mk hf4
        clear hb4 m0 m1 hf4 hq
        obtain ⟨_, r0, r1, f0, f1⟩ := H.out.duo (.head _)
        go_wp2
        refine bodyPost_ret (v := .agg #[.slice b 24 d, .slice b' 24 d']) (by simp [results, Tryz.results103, go_sem, r0, r1]) rfl ⟨b, d, b', d', rfl, hd, ?_, fun k hk => ?_, below_two H.out.bel (by omega) _ _⟩
        · exact A4.two (fun k hk => by have := HF.out k hk; omega) _ _
        · have := HF.out k hk; omega
      | false =>
        clear HN S4
        obtain ⟨kb, o, u, rfl, hkb, hu, _⟩ := (H.out.arg (.tail _ (.tail _ (.head _)))).ws.at hk24
        have hgd : L.getD k wd0 = u := by simp [List.getD, hu]
        have HD2 := HD.out
        rw [hgd] at HD2
        clear HD
        have s3 := fun w hG => implFilter_any (.slice (some ⟨kb, o, none⟩) 24 c) a' 24 c' G u w hG
        generalize filW G u = v at HD2 s3
        have HD := hid_mk HD2
        simp only [wdV] at s3
        have S3 := hid_mk s3
        clear s3 HD2 hgd
        replace H := hid_mk (H.out.tail.push (spotF (w.heap.size + 1)) ⟨_, _, H.out.duo (.head _)⟩)
        have ALL : Hid (∀ w', Hold w w' [spotF (w.heap.size + 1), duoF w.heap.size (.slice (some ⟨kb, o, none⟩) 24 c) (.slice a' 24 c'), argF w.heap.size (some ⟨kb, o, none⟩) 24 a' 24 L G] → (w'.cell? ⟨w.heap.size, 0, none⟩ = some (.slice (some ⟨kb, o, none⟩) 24 c) ∧ w'.cell? ⟨w.heap.size, 1, none⟩ = some (.slice a' 24 c') ∧ w'.cell? ⟨kb, o + k * 6, none⟩ = some (.int .i64 u.n) ∧ w'.cell? ⟨kb, o + k * 6 + 1, none⟩ = some (.bool u.i) ∧ w'.cell? ⟨kb, o + k * 6 + 2, none⟩ = some (.int .i64 u.b) ∧ w'.cell? ⟨kb, o + k * 6 + 3, none⟩ = some (.int .i64 u.t) ∧ w'.cell? ⟨kb, o + k * 6 + 4, none⟩ = some (.int .i64 u.p) ∧ w'.cell? ⟨kb, o + k * 6 + 5, none⟩ = some (.int .i64 u.s) ∧ Hid (Hold w w' [spotF (w.heap.size + 1), duoF w.heap.size (.slice (some ⟨kb, o, none⟩) 24 c) (.slice a' 24 c'), argF w.heap.size (some ⟨kb, o, none⟩) 24 a' 24 L G]))) := fun w' h => by
          have h2 := h.duo (.tail _ (.head _))
          obtain ⟨kb2, o2, u2, e2, _, hu2, hat2⟩ := (h.arg (.tail _ (.tail _ (.head _)))).ws.at hk24
          rw [hu] at hu2
          obtain rfl := Option.some.inj hu2
          simp only [Option.some.injEq, Addr.mk.injEq, and_true] at e2
          obtain ⟨rfl, rfl⟩ := e2
          obtain ⟨d0, d1, d2, d3, d4, d5⟩ := hat2
          exact ⟨h2.c0, h2.c1, d0, d1, d2, d3, d4, d5, h⟩
        have GET : Hid (∀ w', (w'.cell? ⟨w.heap.size, 0, none⟩ = some (.slice (some ⟨kb, o, none⟩) 24 c) ∧ w'.cell? ⟨w.heap.size, 1, none⟩ = some (.slice a' 24 c') ∧ w'.cell? ⟨kb, o + k * 6, none⟩ = some (.int .i64 u.n) ∧ w'.cell? ⟨kb, o + k * 6 + 1, none⟩ = some (.bool u.i) ∧ w'.cell? ⟨kb, o + k * 6 + 2, none⟩ = some (.int .i64 u.b) ∧ w'.cell? ⟨kb, o + k * 6 + 3, none⟩ = some (.int .i64 u.t) ∧ w'.cell? ⟨kb, o + k * 6 + 4, none⟩ = some (.int .i64 u.p) ∧ w'.cell? ⟨kb, o + k * 6 + 5, none⟩ = some (.int .i64 u.s) ∧ Hid (Hold w w' [spotF (w.heap.size + 1), duoF w.heap.size (.slice (some ⟨kb, o, none⟩) 24 c) (.slice a' 24 c'), argF w.heap.size (some ⟨kb, o, none⟩) 24 a' 24 L G])) → Hold w w' [spotF (w.heap.size + 1), duoF w.heap.size (.slice (some ⟨kb, o, none⟩) 24 c) (.slice a' 24 c'), argF w.heap.size (some ⟨kb, o, none⟩) 24 a' 24 L G]) := fun w' h => h.2.2.2.2.2.2.2.2
        have ST : Hid (∀ w1 u0 u1, Hold w w1 [spotF (w.heap.size + 1), duoF w.heap.size (.slice (some ⟨kb, o, none⟩) 24 c) (.slice a' 24 c'), argF w.heap.size (some ⟨kb, o, none⟩) 24 a' 24 L G] → Hold w ((w1.setCell ⟨w.heap.size + 1, 0, none⟩ u0).setCell ⟨w.heap.size + 1, 1, none⟩ u1) [spotF (w.heap.size + 1), duoF w.heap.size (.slice (some ⟨kb, o, none⟩) 24 c) (.slice a' 24 c'), argF w.heap.size (some ⟨kb, o, none⟩) 24 a' 24 L G]) := fun w1 u0 u1 h => h.store2 (by omega) (fun f hf k hk => by
          simp only [List.mem_cons, List.not_mem_nil, or_false] at hf
          rcases hf with rfl | rfl
          · simp only [duoF] at hk; omega
          · simp only [argF] at hk; omega) u0 u1
        clear hu
        go_upto_region 5 with fail
        have F0 := hid_mk H.out.drew
        have hz3 : w3.drew.heap.size = w3.heap.size := by simp
        clear H hq
        go_region_held3 (fun w' => w'.cell? ⟨w.heap.size, 0, none⟩ = some (.slice (some ⟨kb, o, none⟩) 24 c) ∧ w'.cell? ⟨w.heap.size, 1, none⟩ = some (.slice a' 24 c') ∧ w'.cell? ⟨kb, o + k * 6, none⟩ = some (.int .i64 u.n) ∧ w'.cell? ⟨kb, o + k * 6 + 1, none⟩ = some (.bool u.i) ∧ w'.cell? ⟨kb, o + k * 6 + 2, none⟩ = some (.int .i64 u.b) ∧ w'.cell? ⟨kb, o + k * 6 + 3, none⟩ = some (.int .i64 u.t) ∧ w'.cell? ⟨kb, o + k * 6 + 4, none⟩ = some (.int .i64 u.p) ∧ w'.cell? ⟨kb, o + k * 6 + 5, none⟩ = some (.int .i64 u.s) ∧ Hid (Hold w w' [spotF (w.heap.size + 1), duoF w.heap.size (.slice (some ⟨kb, o, none⟩) 24 c) (.slice a' 24 c'), argF w.heap.size (some ⟨kb, o, none⟩) 24 a' 24 L G]))
          (first | (with_reducible assumption) | (((with_reducible refine ALL.out _ ?_); (first | (with_reducible exact F0.out) | ((with_reducible apply Hold.next ?_ KF.out); (with_reducible exact GET.out _ (by with_reducible assumption))) | ((with_reducible apply Hold.next ?_ KW.out); (with_reducible exact GET.out _ (by with_reducible assumption))) | ((with_reducible apply ST.out _ _ _ (GET.out _ (by with_reducible assumption)))) | fail))))
          (first
            | (go_at_call 135; refine (S3.out _ ((GET.out _ (by with_reducible assumption)).arg (.tail _ (.tail _ (.head _)))).gs).mono ?_; rintro e wF ⟨rfl, hbF⟩; have KF := hid_mk hbF; have zF := hbF.size; clear hbF)
            | (go_at_call 91; refine (withWord_any (some ⟨kb, o, none⟩) c a' c' L G k hk24 hcap v _ ((GET.out _ (by with_reducible assumption)).arg (.tail _ (.tail _ (.head _))))).mono ?_; rintro e wW ⟨b, d, b', rfl, hd, AW, hfW, hbW⟩; have KW := hid_mk hbW; have AW := hid_mk AW; have HF := hid_mk hfW; (obtain ⟨u0, u1, hsp, q0, q1, q2, q3⟩ := ((GET.out _ (by with_reducible assumption)).next hbW).spot (.head _)); clear hbW hfW))
        have HE := hid_mk (GET.out _ (by with_reducible assumption))
        clear ALL GET ST F0
        go_wp2
        refine bodyPost_ret (v := .agg #[.slice b 24 d, .slice b' 24 24]) (by simp [results, Tryz.results103, go_sem, q0, q1]) rfl ⟨b, d, b', 24, rfl, hd, ?_, fun k hk => ?_, HE.out.bel⟩
        · rw [HD.out]
          exact AW.out.two (fun k hk => by have := HF.out k hk; omega) _ _
        · have := HF.out k hk; omega
    · have hDD := hD.out.trans (swp_out HK.out hi)
      subst hDD
      rw [decide_eq_false hi] at s2
      have S2 := hid_mk s2
      clear s2
      go_wp2_with fail
      refine (S2.out _).mono ?_
      rintro e w' ⟨rfl, hw'⟩
      subst w'
      obtain ⟨_, m0, m1, _, _⟩ := H.out.duo (.tail _ (.head _))
      go_wp2_with fail
      refine (S4.out _ (H.out.arg (.tail _ (.tail _ (.head _))))).mono ?_
      rintro e w4 ⟨b, d, b', d', rfl, hd, A4, hf4, hb4⟩
      replace H := hid_mk (H.out.next hb4)
      have HF := hid_mk hf4
      clear hb4 m0 m1 hf4
      obtain ⟨_, r0, r1, f0, f1⟩ := H.out.duo (.head _)
      go_wp2
      refine bodyPost_ret (v := .agg #[.slice b 24 d, .slice b' 24 d']) (by simp [results, Tryz.results103, go_sem, r0, r1]) rfl ⟨b, d, b', d', rfl, hd, ?_, fun k hk => ?_, below_two H.out.bel (by omega) _ _⟩
      · exact A4.two (fun k hk => by have := HF.out k hk; omega) _ _
      · have := HF.out k hk; omega
end Go.Proofs.YtpkhnajhamnggaaGreatDoor
