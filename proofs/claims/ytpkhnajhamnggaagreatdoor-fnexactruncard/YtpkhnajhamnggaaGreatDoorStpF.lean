/- Step of the specification at all lists and states. No condition. -/
import Derived.Test.YtpkhnajhamnggaaGreatDoorStpE
namespace Go.Proofs.YtpkhnajhamnggaaGreatDoor
open Go.ChangeShapes Go.WideShapes Go.ChangeAt Go.RowKit
set_option maxRecDepth 100000

theorem reg_trp (R : List Wd) (z : Int) (x : Wd) : regA R (trpE z x).r (trpE z x).v = R := by unfold regA trpE; rw [if_neg (by simp)]
theorem mem_trp (L : List Wd) (z : Int) (x : Wd) : memA L (trpE z x).at_ (trpE z x).p = L := by unfold memA trpE; rw [if_neg (by simp)]
theorem gon_trp (G : List Bool) (z : Int) (x : Wd) : gonA G (trpE z x).d = G := by unfold gonA trpE; rw [if_neg (by simp)]
theorem wrk_trp (o r n : Int) (pc a b got : Wd) (h : (wrkE o r n pc a b got).t ≠ 0) : wrkE o r n pc a b got = trpE (wrkE o r n pc a b got).t pc := by
  unfold wrkE at h ⊢
  repeat' split
  all_goals first | rfl | (exfalso; revert h; simp_all; done)

set_option maxHeartbeats 4000000 in
theorem specStep_any (la : Option Addr) (ln lc : Nat) (Ls : List In) (a : Option Addr) (n c : Nat) (x : Wd) (a1 : Option Addr) (n1 c1 : Nat) (a2 : Option Addr) (n2 c2 : Nat) (t : Int) (R L : List Wd) (G : List Bool) (S : Sd) (hSd : S = stpS Ls ⟨R, x, L, G, t⟩) (w : World) (hL : SliceI w.heap.size w la ln Ls) (hS : StS w a n a1 n1 a2 n2 R L G) :
    Calls Tryz.prog 8 #[.slice la ln lc, .agg #[.slice a n c, .int .i64 x.n, .bool x.i, .int .i64 x.b, .int .i64 x.t, .int .i64 x.p, .int .i64 x.s, .slice a1 n1 c1, .slice a2 n2 c2, .int .i64 t]] w fun e w' => ∃ b d b1 d1 b2 d2, e = .returned (.agg #[.slice b S.R.length d, .int .i64 S.x.n, .bool S.x.i, .int .i64 S.x.b, .int .i64 S.x.t, .int .i64 S.x.p, .int .i64 S.x.s, .slice b1 S.L.length d1, .slice b2 S.G.length d2, .int .i64 S.t]) ∧ S.L.length ≤ d1 ∧ AnsS b b1 b2 S.R.length S.L.length S.G.length S.R S.L S.G w' ∧ (∀ k, On b k ∨ On b1 k ∨ On b2 k → w.heap.size ≤ k) ∧ Below w.heap.size w w' := by
  have H : Hid (Hold w ((w.alloc (.cells (stl a n c x a1 n1 c1 a2 n2 c2 t).toArray 42)).alloc (.cells ([.slice none 0 0, .int .i64 0, .bool false, .int .i64 0, .int .i64 0, .int .i64 0, .int .i64 0, .slice none 0 0, .slice none 0 0, .int .i64 0] : List Value).toArray 42)) [lenF (w.heap.size + 1) 10, celF w.heap.size (stl a n c x a1 n1 c1 a2 n2 c2 t), argSF w.heap.size a n a1 n1 a2 n2 R L G]) := by
    have h1 := (((Hold.new w).push (argSF w.heap.size a n a1 n1 a2 n2 R L G) hS.arg).alloc (.cells (stl a n c x a1 n1 c1 a2 n2 c2 t).toArray 42)).push (celF w.heap.size (stl a n c x a1 n1 c1 a2 n2 c2 t)) (Cel.new w _ _)
    have h2 := h1.box ([.slice none 0 0, .int .i64 0, .bool false, .int .i64 0, .int .i64 0, .int .i64 0, .int .i64 0, .slice none 0 0, .slice none 0 0, .int .i64 0] : List Value) 42 (w.heap.size + 1) (by simp)
    exact h2.tail.push (lenF (w.heap.size + 1) 10) ⟨_, rfl, h2.cel (.head _)⟩
  have S1 := hid_mk (fun w h => specStateOk_any a n c x a1 n1 c1 a2 n2 c2 t R L G w h)
  generalize hw1 : (w.alloc (.cells (stl a n c x a1 n1 c1 a2 n2 c2 t).toArray 42)).alloc (.cells ([.slice none 0 0, .int .i64 0, .bool false, .int .i64 0, .int .i64 0, .int .i64 0, .int .i64 0, .slice none 0 0, .slice none 0 0, .int .i64 0] : List Value).toArray 42) = w1 at H
  cases hk : sokB R x L G t with
  | false =>
    obtain rfl : S = ⟨[], wd0, [], [], 0⟩ := by rw [hSd, stpS, if_neg (by simp [hk])]
    rw [hk] at S1
    obtain ⟨Q, HQ, HQ2⟩ : ∃ Q : Ending → World → Prop, Hid (∀ w', Below w.heap.size w w' → Q (.returned (.agg ([.slice none 0 0, .int .i64 0, .bool false, .int .i64 0, .int .i64 0, .int .i64 0, .int .i64 0, .slice none 0 0, .slice none 0 0, .int .i64 0] : List Value).toArray)) w') ∧ (∀ e w', Q e w' → ∃ b d b1 d1 b2 d2, e = .returned (.agg #[.slice b (⟨[], wd0, [], [], 0⟩ : Sd).R.length d, .int .i64 (⟨[], wd0, [], [], 0⟩ : Sd).x.n, .bool (⟨[], wd0, [], [], 0⟩ : Sd).x.i, .int .i64 (⟨[], wd0, [], [], 0⟩ : Sd).x.b, .int .i64 (⟨[], wd0, [], [], 0⟩ : Sd).x.t, .int .i64 (⟨[], wd0, [], [], 0⟩ : Sd).x.p, .int .i64 (⟨[], wd0, [], [], 0⟩ : Sd).x.s, .slice b1 (⟨[], wd0, [], [], 0⟩ : Sd).L.length d1, .slice b2 (⟨[], wd0, [], [], 0⟩ : Sd).G.length d2, .int .i64 (⟨[], wd0, [], [], 0⟩ : Sd).t]) ∧ (⟨[], wd0, [], [], 0⟩ : Sd).L.length ≤ d1 ∧ AnsS b b1 b2 (⟨[], wd0, [], [], 0⟩ : Sd).R.length (⟨[], wd0, [], [], 0⟩ : Sd).L.length (⟨[], wd0, [], [], 0⟩ : Sd).G.length (⟨[], wd0, [], [], 0⟩ : Sd).R (⟨[], wd0, [], [], 0⟩ : Sd).L (⟨[], wd0, [], [], 0⟩ : Sd).G w' ∧ (∀ k, On b k ∨ On b1 k ∨ On b2 k → w.heap.size ≤ k) ∧ Below w.heap.size w w') :=
      ⟨fun e w' => ∃ b d b1 d1 b2 d2, e = .returned (.agg #[.slice b (⟨[], wd0, [], [], 0⟩ : Sd).R.length d, .int .i64 (⟨[], wd0, [], [], 0⟩ : Sd).x.n, .bool (⟨[], wd0, [], [], 0⟩ : Sd).x.i, .int .i64 (⟨[], wd0, [], [], 0⟩ : Sd).x.b, .int .i64 (⟨[], wd0, [], [], 0⟩ : Sd).x.t, .int .i64 (⟨[], wd0, [], [], 0⟩ : Sd).x.p, .int .i64 (⟨[], wd0, [], [], 0⟩ : Sd).x.s, .slice b1 (⟨[], wd0, [], [], 0⟩ : Sd).L.length d1, .slice b2 (⟨[], wd0, [], [], 0⟩ : Sd).G.length d2, .int .i64 (⟨[], wd0, [], [], 0⟩ : Sd).t]) ∧ (⟨[], wd0, [], [], 0⟩ : Sd).L.length ≤ d1 ∧ AnsS b b1 b2 (⟨[], wd0, [], [], 0⟩ : Sd).R.length (⟨[], wd0, [], [], 0⟩ : Sd).L.length (⟨[], wd0, [], [], 0⟩ : Sd).G.length (⟨[], wd0, [], [], 0⟩ : Sd).R (⟨[], wd0, [], [], 0⟩ : Sd).L (⟨[], wd0, [], [], 0⟩ : Sd).G w' ∧ (∀ k, On b k ∨ On b1 k ∨ On b2 k → w.heap.size ≤ k) ∧ Below w.heap.size w w', fun w' hb => ⟨none, 0, none, 0, none, 0, rfl, Nat.le_refl _, ⟨.inl ⟨rfl, rfl, rfl⟩, .inl ⟨rfl, rfl, rfl⟩, .inl ⟨rfl, rfl, rfl⟩, fun k h => absurd h (on_none k), fun k h => absurd h (on_none k), fun k h => absurd h (on_none k)⟩, fun k hk => (by
        rcases hk with hk | hk | hk
        · exact absurd hk (on_none k)
        · exact absurd hk (on_none k)
        · exact absurd hk (on_none k)), hb⟩, fun _ _ h => h⟩
    refine Calls.mono (R := Q) ?_ HQ2
    clear hSd hk hL hS HQ2
    go_enter Tryz.func8, Tryz.ntmps8
    go_upto_region 1 with fail
    clear hw1
    obtain ⟨m0, m1, m2, m3, m4, m5, m6, m7, m8, m9⟩ := (H.out.cel (.tail _ (.head _))).c10
    go_upto_region 2 with (go_at_call 31; refine (S1.out _ (H.out.argS (.tail _ (.tail _ (.head _))))).mono ?_; rintro e w2 ⟨rfl, hb⟩)
    replace H := hid_mk (H.out.next hb)
    clear hb m0 m1 m2 m3 m4 m5 m6 m7 m8 m9 S1
    obtain ⟨vs, hvl, CZ⟩ := H.out.len (.head _)
    have TH := hid_mk (by have h := CZ.there; rw [hvl] at h; exact h)
    have CE := hid_mk (CZ.sets (us := [.slice none 0 0, .int .i64 0, .bool false, .int .i64 0, .int .i64 0, .int .i64 0, .int .i64 0, .slice none 0 0, .slice none 0 0, .int .i64 0]) (by rw [hvl]; rfl))
    have K9 := hid_mk (KeepBut.setCells (b := w.heap.size + 1) ([.slice none 0 0, .int .i64 0, .bool false, .int .i64 0, .int .i64 0, .int .i64 0, .int .i64 0, .slice none 0 0, .slice none 0 0, .int .i64 0]) 0 w2)
    have hlv := hid_mk (lv_st CE.out rfl)
    have B9 := hid_mk (H.out.bel.trans (K9.out.below (B := w.heap.size) (by omega) H.out.bel.size))
    clear CZ H
    go_wp2_with (refine wpList_store_mid (by rfl) 42 _ _ (by rfl) (w.heap.size + 1) 0 ([.slice none 0 0, .int .i64 0, .bool false, .int .i64 0, .int .i64 0, .int .i64 0, .int .i64 0, .slice none 0 0, .slice none 0 0, .int .i64 0] : List Value).toArray (by rfl) (by rfl) TH.out sizeSt z10_one ?_)
    refine bodyPost_ret (v := .agg ([.slice none 0 0, .int .i64 0, .bool false, .int .i64 0, .int .i64 0, .int .i64 0, .int .i64 0, .slice none 0 0, .slice none 0 0, .int .i64 0] : List Value).toArray) (results_cell1 Tryz.results8 (by rfl) hlv.out) rfl (HQ.out _ B9.out)
  | true =>
    obtain ⟨h8, hra, hxo, hmk, ht0, ht5⟩ := sok_parts hk
    obtain ⟨h24, h24', _⟩ := mok_parts hmk
    obtain rfl : n = 8 := by rw [← hS.rs.2.1]; exact h8
    obtain rfl : n1 = 24 := by rw [← hS.mem.ws.2.1]; exact h24
    obtain rfl : n2 = 24 := by rw [← hS.mem.gs.2.1]; exact h24'
    obtain ⟨SR, SX, SL, SG, ST⟩ := S
    rw [stpS, if_pos hk] at hSd
    obtain ⟨E, HEE⟩ : ∃ E, Hid (E = effI Ls R x L G t) := ⟨_, rfl⟩
    rw [← HEE.out] at hSd
    injection hSd with e1 e2 e3 e4 e5
    have l8 : SR.length = 8 := by rw [e1, regA_len]; exact h8
    have l24 : SL.length = 24 := by rw [e3, memA_len]; exact h24
    have g24 : SG.length = 24 := by rw [e4, gonA_len]; exact h24'
    simp only [l8, l24, g24]
    have q1 := hid_mk e1
    have q2 := hid_mk e2
    have q3 := hid_mk e3
    have q4 := hid_mk e4
    have q5 := hid_mk e5
    have HL := hid_mk hL
    rw [hk] at S1
    have hlr := hS.rs.2.1
    obtain ⟨kb, o, _, rfl, _, _, _⟩ := hS.rs.at (j := 0) (by omega)
    clear hk hL hS h8 hra hxo hmk ht0 ht5 h24 h24' e1 e2 e3 e4 e5 l8 l24 g24
    obtain ⟨Q, HQ, HQ2⟩ : ∃ Q : Ending → World → Prop, Hid (∀ b d b1 d1 b2 d2 w', 24 ≤ d1 → AnsS b b1 b2 8 24 24 SR SL SG w' → (∀ k, On b k ∨ On b1 k ∨ On b2 k → w.heap.size ≤ k) → Below w.heap.size w w' → Q (.returned (.agg #[.slice b 8 d, .int .i64 SX.n, .bool SX.i, .int .i64 SX.b, .int .i64 SX.t, .int .i64 SX.p, .int .i64 SX.s, .slice b1 24 d1, .slice b2 24 d2, .int .i64 ST])) w') ∧ (∀ e w', Q e w' → ∃ b d b1 d1 b2 d2, e = .returned (.agg #[.slice b 8 d, .int .i64 SX.n, .bool SX.i, .int .i64 SX.b, .int .i64 SX.t, .int .i64 SX.p, .int .i64 SX.s, .slice b1 24 d1, .slice b2 24 d2, .int .i64 ST]) ∧ 24 ≤ d1 ∧ AnsS b b1 b2 8 24 24 SR SL SG w' ∧ (∀ k, On b k ∨ On b1 k ∨ On b2 k → w.heap.size ≤ k) ∧ Below w.heap.size w w') :=
      ⟨fun e w' => ∃ b d b1 d1 b2 d2, e = .returned (.agg #[.slice b 8 d, .int .i64 SX.n, .bool SX.i, .int .i64 SX.b, .int .i64 SX.t, .int .i64 SX.p, .int .i64 SX.s, .slice b1 24 d1, .slice b2 24 d2, .int .i64 ST]) ∧ 24 ≤ d1 ∧ AnsS b b1 b2 8 24 24 SR SL SG w' ∧ (∀ k, On b k ∨ On b1 k ∨ On b2 k → w.heap.size ≤ k) ∧ Below w.heap.size w w', fun b d b1 d1 b2 d2 w' h1 h2 h3 h4 => ⟨b, d, b1, d1, b2, d2, rfl, h1, h2, h3, h4⟩, fun _ _ h => h⟩
    refine Calls.mono (R := Q) ?_ HQ2
    clear HQ2
    go_enter Tryz.func8, Tryz.ntmps8
    go_upto_region 1 with fail
    clear hw1
    obtain ⟨m0, m1, m2, m3, m4, m5, m6, m7, m8, m9⟩ := (H.out.cel (.tail _ (.head _))).c10
    go_upto_region 3 with (go_at_call 31; refine (S1.out _ (H.out.argS (.tail _ (.tail _ (.head _))))).mono ?_; rintro e w2 ⟨rfl, hb⟩)
    replace H := hid_mk (H.out.next hb)
    clear hb m0 m1 m2 m3 m4 m5 m6 m7 m8 m9 S1
    obtain ⟨m0, m1, m2, m3, m4, m5, m6, m7, m8, m9⟩ := (H.out.cel (.tail _ (.head _))).c10
    have hz0 : w.heap.size + 1 < w2.heap.size := by obtain ⟨_, _, C⟩ := H.out.len (.head _); exact C.lt
    go_upto_region 4 with (go_at_call 32; refine (l9Copy_any _ c x a1 c1 a2 c2 t R L G _ (H.out.argS (.tail _ (.tail _ (.head _))))).mono ?_; rintro e w3 ⟨b, d, b1, d1, b2, d2, rfl, hd1, hA, hf, hb⟩)
    have HD1 := hid_mk hd1
    have HF := hid_mk (fun k hk => Nat.lt_of_lt_of_le hz0 (hf k hk))
    have HL5 : Hid (∀ k, On b k ∨ On b1 k ∨ On b2 k → k < w3.heap.size) := fun k hk => hA.lt hk
    have hz3 := hb.size
    replace H := hid_mk (((H.out.next hb).push (ansSF b b1 b2 8 24 24 R L G) hA).box (stl b 8 d x b1 24 d1 b2 24 d2 t) 42 w3.heap.size rfl)
    clear hb hA hf hd1 m0 m1 m2 m3 m4 m5 m6 m7 m8 m9
    generalize w3.alloc (.cells (stl b 8 d x b1 24 d1 b2 24 d2 t : List Value).toArray 42) = w4 at H ⊢
    obtain ⟨r5, hr5⟩ : ∃ r, r = w3.heap.size := ⟨_, rfl⟩
    rw [← hr5] at H HL5 hz3 ⊢
    clear hr5
    have hw5 : w.heap.size + 1 < r5 := by omega
    have h54 : r5 < w4.heap.size := (H.out.cel (.head _)).lt
    clear hz0 hz3
    obtain ⟨m0, m1, m2, m3, m4, m5, m6, m7, m8, m9⟩ := (H.out.cel (.tail _ (.tail _ (.tail _ (.head _))))).c10
    by_cases ht : t = 0
    · have htf : (t != 0) = false := by simp [ht]
      have HT0 := hid_mk ht
      clear ht
      obtain ⟨I0, HI⟩ : ∃ i, Hid (i = fetX Ls x.n x.i x.b x.t x.p x.s) := ⟨_, rfl⟩
      obtain ⟨tr, HT⟩ : ∃ i, Hid (i = fetT Ls x.n x.i x.b x.t x.p x.s) := ⟨_, rfl⟩
      have hE1 : Hid (E = if tr = 0 then effW I0 R x L G else trpE tr x) := by
        rw [HEE.out, effI, if_pos HT0.out, ← HI.out, ← HT.out]
        rfl
      have hok : Hid (tr = 0 → iokB I0.o I0.r I0.a I0.b I0.n = true) := fun h => by
        rw [HI.out]
        exact fet_ok (by rw [← HT.out]; exact h)
      have s1 := fun w h1 => specFetch_any la ln lc Ls x.n x.i x.b x.t x.p x.s w h1
      rw [← HI.out, ← HT.out] at s1
      have S1 := hid_mk s1
      clear s1 HEE HI HT
      obtain ⟨io, ir, ia, ib, inn⟩ := I0
      simp only [inVal] at S1
      go_upto_region 7 with (go_at_call 33; refine (S1.out _ ((HL.out.below H.out.bel (Nat.le_refl _)).mono H.out.bel.size)).mono ?_; rintro e w5 ⟨rfl, hb⟩)
      replace H := hid_mk ((H.out.next hb).box (il io ir ia ib inn) 76 w5.heap.size rfl)
      have hz2 := hb.size
      clear hb m0 m1 m2 m3 m4 m5 m6 m7 m8 m9 S1
      have hzI : (w5.alloc (.cells (il io ir ia ib inn : List Value).toArray 76)).heap.size = w5.heap.size + 1 := by simp
      generalize w5.alloc (.cells (il io ir ia ib inn : List Value).toArray 76) = wI at H hzI ⊢
      obtain ⟨r6, hr6⟩ : ∃ r, r = w5.heap.size := ⟨_, rfl⟩
      rw [← hr6] at H hzI hz2 ⊢
      clear hr6
      have hw6 : r5 < r6 := by omega
      have hI6 : r6 < wI.heap.size := by omega
      clear hzI hz2
      by_cases htr : tr = 0
      · subst htr
        have hr := iok_range (hok.out rfl)
        obtain ⟨ho1, ho2, hr1, hr2, ha1, ha2, hb1, hb2, _, _⟩ := hr
        obtain ⟨ka, hka⟩ : ∃ k : Nat, ia = (k : Int) := ⟨ia.toNat, by omega⟩
        obtain ⟨kc, hkc⟩ : ∃ k : Nat, ib = (k : Int) := ⟨ib.toNat, by omega⟩
        subst hka hkc
        have hka8 : ka < 8 := by omega
        have hkc8 : kc < 8 := by omega
        have hia : (ka : Int) < 8 := by omega
        have hic : (kc : Int) < 8 := by omega
        obtain ⟨A0, hA0⟩ : ∃ y, R[ka]? = some y := ⟨R[ka]'(by omega), List.getElem?_eq_getElem (by omega)⟩
        obtain ⟨B0, hB0⟩ : ∃ y, R[kc]? = some y := ⟨R[kc]'(by omega), List.getElem?_eq_getElem (by omega)⟩
        have ATA : Hid (∀ w', Hold w w' [celF r6 (il io ir (ka : Int) (kc : Int) inn), celF r5 (stl b 8 d x b1 24 d1 b2 24 d2 t), ansSF b b1 b2 8 24 24 R L G, lenF (w.heap.size + 1) 10, celF w.heap.size (stl (some ⟨kb, o, none⟩) 8 c x a1 24 c1 a2 24 c2 t), argSF w.heap.size (some ⟨kb, o, none⟩) 8 a1 24 a2 24 R L G] → WordAt w' kb (o + ka * 6) A0) := fun w' h => by
          obtain ⟨k2, o2, y, e1, _, hy, hat⟩ := (h.argS (.tail _ (.tail _ (.tail _ (.tail _ (.tail _ (.head _))))))).rs.at hka8
          cases e1
          rw [hA0] at hy
          cases hy
          exact hat
        have ATB : Hid (∀ w', Hold w w' [celF r6 (il io ir (ka : Int) (kc : Int) inn), celF r5 (stl b 8 d x b1 24 d1 b2 24 d2 t), ansSF b b1 b2 8 24 24 R L G, lenF (w.heap.size + 1) 10, celF w.heap.size (stl (some ⟨kb, o, none⟩) 8 c x a1 24 c1 a2 24 c2 t), argSF w.heap.size (some ⟨kb, o, none⟩) 8 a1 24 a2 24 R L G] → WordAt w' kb (o + kc * 6) B0) := fun w' h => by
          obtain ⟨k2, o2, y, e1, _, hy, hat⟩ := (h.argS (.tail _ (.tail _ (.tail _ (.tail _ (.tail _ (.head _))))))).rs.at hkc8
          cases e1
          rw [hB0] at hy
          cases hy
          exact hat
        have hEW0 : E = if accZ io inn L A0 B0 = 0 then wrkE io ir inn x A0 B0 (accW io inn L G A0) else trpE (accZ io inn L A0 B0) x := by
          rw [hE1.out, if_pos rfl]
          unfold effW
          simp only [Int.toNat_natCast, List.getD_eq_getElem?_getD, hA0, hB0, Option.getD_some]
        have hEW := hid_mk hEW0
        clear hEW0 hE1 hok hA0 hB0 hr2 ha1 ha2 hb1 hb2
        go_upto_region 8 with fail
        go_cut [8, 9] (fun pa pb wx => ∃ r7 r8, pa = .pointer (some ⟨r7, 0, none⟩) ∧ pb = .pointer (some ⟨r8, 0, none⟩) ∧ r5 < r7 ∧ r5 < r8 ∧ Hid (Hold w wx [celF r7 (wl A0), celF r8 (wl B0), celF r6 (il io ir (ka : Int) (kc : Int) inn), celF r5 (stl b 8 d x b1 24 d1 b2 24 d2 t), ansSF b b1 b2 8 24 24 R L G, lenF (w.heap.size + 1) 10, celF w.heap.size (stl (some ⟨kb, o, none⟩) 8 c x a1 24 c1 a2 24 c2 t), argSF w.heap.size (some ⟨kb, o, none⟩) 8 a1 24 a2 24 R L G]))
        case first =>
          have D0 := hid_mk H.out.drew
          refine wp_region_held_drew (S := fun w' => Hold w w' [celF r6 (il io ir (ka : Int) (kc : Int) inn), celF r5 (stl b 8 d x b1 24 d1 b2 24 d2 t), ansSF b b1 b2 8 24 24 R L G, lenF (w.heap.size + 1) 10, celF w.heap.size (stl (some ⟨kb, o, none⟩) 8 c x a1 24 c1 a2 24 c2 t), argSF w.heap.size (some ⟨kb, o, none⟩) 8 a1 24 a2 24 R L G]) (by kernel_rfl) D0.out (fun hHeld => ?_)
          have hzd : wI.drew.heap.size = wI.heap.size := by simp
          generalize wI.drew = wd at D0 hHeld hzd ⊢
          have hzw : w.heap.size + 1 < wd.heap.size ∧ r6 < wd.heap.size ∧ r5 < wd.heap.size := by omega
          clear hzd H
          have DD : Hid (∀ f ∈ [celF r6 (il io ir (ka : Int) (kc : Int) inn), celF r5 (stl b 8 d x b1 24 d1 b2 24 d2 t), ansSF b b1 b2 8 24 24 R L G, lenF (w.heap.size + 1) 10, celF w.heap.size (stl (some ⟨kb, o, none⟩) 8 c x a1 24 c1 a2 24 c2 t), argSF w.heap.size (some ⟨kb, o, none⟩) 8 a1 24 a2 24 R L G], ∀ k, f.S k → k < wd.heap.size) := fun f hf k hk => by
            simp only [List.mem_cons, List.not_mem_nil, or_false] at hf
            rcases hf with rfl | rfl | rfl | rfl | rfl | rfl
            · simp only [celF] at hk; omega
            · simp only [celF] at hk; omega
            · exact (D0.out.ansS (.tail _ (.tail _ (.head _)))).lt hk
            · simp only [lenF] at hk; omega
            · simp only [celF] at hk; omega
            · simp only [argSF] at hk; omega
          refine take_on (i := 0) (d := 32) (v := .pointer (some ⟨w.heap.size, 0, none⟩)) rfl rfl (by kernel_rfl) (by kernel_rfl) (by kernel_rfl) (fun _ _ _ h => h) (by rfl) ?_ hHeld ?_
          · (intro w' hSw; go_simp)
          simp only [Act.put, List.setIfInBounds_toArray, List.set_cons_zero, List.set_cons_succ]
          refine take_on (i := 1) (d := 33) (v := .slice (some ⟨kb, o, none⟩) 8 c) rfl rfl (by kernel_rfl) (by kernel_rfl) (by kernel_rfl) (fun _ _ _ h => h) (by rfl) ?_ hHeld ?_
          · (intro w' hSw; have hSx : Hold w w' [celF r6 (il io ir (ka : Int) (kc : Int) inn), celF r5 (stl b 8 d x b1 24 d1 b2 24 d2 t), ansSF b b1 b2 8 24 24 R L G, lenF (w.heap.size + 1) 10, celF w.heap.size (stl (some ⟨kb, o, none⟩) 8 c x a1 24 c1 a2 24 c2 t), argSF w.heap.size (some ⟨kb, o, none⟩) 8 a1 24 a2 24 R L G] := hSw; have c0 := (hSx.cel (.tail _ (.tail _ (.tail _ (.tail _ (.head _)))))).c 0 _ rfl; go_simp)
          simp only [Act.put, List.setIfInBounds_toArray, List.set_cons_zero, List.set_cons_succ]
          refine take_on (i := 2) (d := 34) (v := .pointer (some ⟨r6, 2, none⟩)) rfl rfl (by kernel_rfl) (by kernel_rfl) (by kernel_rfl) (fun _ _ _ h => h) (by rfl) ?_ hHeld ?_
          · (intro w' hSw; go_simp)
          simp only [Act.put, List.setIfInBounds_toArray, List.set_cons_zero, List.set_cons_succ]
          refine take_on (i := 3) (d := 35) (v := .int .i64 (ka : Int)) rfl rfl (by kernel_rfl) (by kernel_rfl) (by kernel_rfl) (fun _ _ _ h => h) (by rfl) ?_ hHeld ?_
          · (intro w' hSw; have hSx : Hold w w' [celF r6 (il io ir (ka : Int) (kc : Int) inn), celF r5 (stl b 8 d x b1 24 d1 b2 24 d2 t), ansSF b b1 b2 8 24 24 R L G, lenF (w.heap.size + 1) 10, celF w.heap.size (stl (some ⟨kb, o, none⟩) 8 c x a1 24 c1 a2 24 c2 t), argSF w.heap.size (some ⟨kb, o, none⟩) 8 a1 24 a2 24 R L G] := hSw; have c0 := (hSx.cel (.head _)).c 2 _ rfl; go_simp)
          simp only [Act.put, List.setIfInBounds_toArray, List.set_cons_zero, List.set_cons_succ]
          refine take_on (i := 4) (d := 36) (v := .pointer (some ⟨kb, o + ka * 6, none⟩)) rfl rfl (by kernel_rfl) (by kernel_rfl) (by kernel_rfl) (fun _ _ _ h => h) (by rfl) ?_ hHeld ?_
          · (intro w' hSw; go_simp)
          simp only [Act.put, List.setIfInBounds_toArray, List.set_cons_zero, List.set_cons_succ]
          refine take_on (i := 5) (d := 37) (v := .agg #[.int .i64 A0.n, .bool A0.i, .int .i64 A0.b, .int .i64 A0.t, .int .i64 A0.p, .int .i64 A0.s]) rfl rfl (by kernel_rfl) (by kernel_rfl) (by kernel_rfl) (fun _ _ _ h => h) (by rfl) ?_ hHeld ?_
          · (intro w' hSw; obtain ⟨d0, d1, d2, d3, d4, d5⟩ := ATA.out w' hSw; go_simp)
          simp only [Act.put, List.setIfInBounds_toArray, List.set_cons_zero, List.set_cons_succ]
          refine take_on (i := 6) (d := 38) (v := .pointer (some ⟨w.heap.size, 0, none⟩)) rfl rfl (by kernel_rfl) (by kernel_rfl) (by kernel_rfl) (fun _ _ _ h => h) (by rfl) ?_ hHeld ?_
          · (intro w' hSw; go_simp)
          simp only [Act.put, List.setIfInBounds_toArray, List.set_cons_zero, List.set_cons_succ]
          refine take_on (i := 7) (d := 39) (v := .slice (some ⟨kb, o, none⟩) 8 c) rfl rfl (by kernel_rfl) (by kernel_rfl) (by kernel_rfl) (fun _ _ _ h => h) (by rfl) ?_ hHeld ?_
          · (intro w' hSw; have hSx : Hold w w' [celF r6 (il io ir (ka : Int) (kc : Int) inn), celF r5 (stl b 8 d x b1 24 d1 b2 24 d2 t), ansSF b b1 b2 8 24 24 R L G, lenF (w.heap.size + 1) 10, celF w.heap.size (stl (some ⟨kb, o, none⟩) 8 c x a1 24 c1 a2 24 c2 t), argSF w.heap.size (some ⟨kb, o, none⟩) 8 a1 24 a2 24 R L G] := hSw; have c0 := (hSx.cel (.tail _ (.tail _ (.tail _ (.tail _ (.head _)))))).c 0 _ rfl; go_simp)
          simp only [Act.put, List.setIfInBounds_toArray, List.set_cons_zero, List.set_cons_succ]
          refine take_on (i := 8) (d := 40) (v := .pointer (some ⟨r6, 3, none⟩)) rfl rfl (by kernel_rfl) (by kernel_rfl) (by kernel_rfl) (fun _ _ _ h => h) (by rfl) ?_ hHeld ?_
          · (intro w' hSw; go_simp)
          simp only [Act.put, List.setIfInBounds_toArray, List.set_cons_zero, List.set_cons_succ]
          refine take_on (i := 9) (d := 41) (v := .int .i64 (kc : Int)) rfl rfl (by kernel_rfl) (by kernel_rfl) (by kernel_rfl) (fun _ _ _ h => h) (by rfl) ?_ hHeld ?_
          · (intro w' hSw; have hSx : Hold w w' [celF r6 (il io ir (ka : Int) (kc : Int) inn), celF r5 (stl b 8 d x b1 24 d1 b2 24 d2 t), ansSF b b1 b2 8 24 24 R L G, lenF (w.heap.size + 1) 10, celF w.heap.size (stl (some ⟨kb, o, none⟩) 8 c x a1 24 c1 a2 24 c2 t), argSF w.heap.size (some ⟨kb, o, none⟩) 8 a1 24 a2 24 R L G] := hSw; have c0 := (hSx.cel (.head _)).c 3 _ rfl; go_simp)
          simp only [Act.put, List.setIfInBounds_toArray, List.set_cons_zero, List.set_cons_succ]
          refine take_on (i := 10) (d := 42) (v := .pointer (some ⟨kb, o + kc * 6, none⟩)) rfl rfl (by kernel_rfl) (by kernel_rfl) (by kernel_rfl) (fun _ _ _ h => h) (by rfl) ?_ hHeld ?_
          · (intro w' hSw; go_simp)
          simp only [Act.put, List.setIfInBounds_toArray, List.set_cons_zero, List.set_cons_succ]
          refine take_on (i := 11) (d := 43) (v := .agg #[.int .i64 B0.n, .bool B0.i, .int .i64 B0.b, .int .i64 B0.t, .int .i64 B0.p, .int .i64 B0.s]) rfl rfl (by kernel_rfl) (by kernel_rfl) (by kernel_rfl) (fun _ _ _ h => h) (by rfl) ?_ hHeld ?_
          · (intro w' hSw; obtain ⟨d0, d1, d2, d3, d4, d5⟩ := ATB.out w' hSw; go_simp)
          simp only [Act.put, List.setIfInBounds_toArray, List.set_cons_zero, List.set_cons_succ]
          refine wpAnyH_ready (rs := [12, 13]) (by kernel_rfl) (by simp) ?_
          refine AllReadyH.cons rfl (fun K hK => ?_) (AllReadyH.cons rfl (fun K hK => ?_) AllReadyH.nil)
          · go_simp
            have H1 := hid_mk (D0.out.box ([.int .i64 0, .bool false, .int .i64 0, .int .i64 0, .int .i64 0, .int .i64 0] : List Value) 38 wd.heap.size rfl)
            have zr7 : wd.heap.size < (wd.alloc (.cells ([.int .i64 0, .bool false, .int .i64 0, .int .i64 0, .int .i64 0, .int .i64 0] : List Value).toArray 38)).heap.size := by simp
            refine hK.out _ _ H1.out.tail (fun hHeld => ?_)
            clear hK K
            (try simp only [Act.put]); (try simp only [List.setIfInBounds_toArray]); (try simp only [List.set_cons_succ]); (try simp only [List.set_cons_zero]); (try simp only [List.set_cons_succ]); (try simp only [List.set_cons_zero]); (try simp only [Nat.zero_add])
            obtain ⟨r7, hr7⟩ : ∃ r, r = wd.heap.size := ⟨_, rfl⟩
            have yr7 : wd.heap.size ≤ r7 := by omega
            rw [← hr7] at H1 zr7 ⊢
            generalize wd.alloc (.cells ([.int .i64 0, .bool false, .int .i64 0, .int .i64 0, .int .i64 0, .int .i64 0] : List Value).toArray 38) = vr7 at H1 hHeld zr7 ⊢
            clear hr7
            refine wpAnyH_ready (rs := [13]) (by kernel_rfl) (by simp) ?_
            refine AllReadyH.cons rfl (fun K hK => ?_) AllReadyH.nil
            go_simp
            have H2 := hid_mk (H1.out.box ([.int .i64 0, .bool false, .int .i64 0, .int .i64 0, .int .i64 0, .int .i64 0] : List Value) 38 vr7.heap.size rfl)
            have zr8 : vr7.heap.size < (vr7.alloc (.cells ([.int .i64 0, .bool false, .int .i64 0, .int .i64 0, .int .i64 0, .int .i64 0] : List Value).toArray 38)).heap.size := by simp
            refine hK.out _ _ H2.out.tail.tail (fun hHeld => ?_)
            clear hK K
            (try simp only [Act.put]); (try simp only [List.setIfInBounds_toArray]); (try simp only [List.set_cons_succ]); (try simp only [List.set_cons_zero]); (try simp only [List.set_cons_succ]); (try simp only [List.set_cons_zero]); (try simp only [Nat.zero_add])
            obtain ⟨r8, hr8⟩ : ∃ r, r = vr7.heap.size := ⟨_, rfl⟩
            have yr8 : wd.heap.size ≤ r8 ∧ r7 < r8 := by omega
            rw [← hr8] at H2 zr8 ⊢
            generalize vr7.alloc (.cells ([.int .i64 0, .bool false, .int .i64 0, .int .i64 0, .int .i64 0, .int .i64 0] : List Value).toArray 38) = vr8 at H2 hHeld zr8 ⊢
            clear hr8
            replace H2 := hid_mk H2.out.swap
            refine wpAnyH_ready (rs := [14]) (by kernel_rfl) (by simp) ?_
            refine AllReadyH.cons rfl (fun K hK => ?_) AllReadyH.nil
            have THr7 : Hid (vr8.there r7 0 6) := (H2.out.cel (.head _)).there
            have G2 : Hid (Hold w (vr8.setCells r7 0 (wl A0)) [celF r7 (wl A0), celF r8 [.int .i64 0, .bool false, .int .i64 0, .int .i64 0, .int .i64 0, .int .i64 0], celF r6 (il io ir (ka : Int) (kc : Int) inn), celF r5 (stl b 8 d x b1 24 d1 b2 24 d2 t), ansSF b b1 b2 8 24 24 R L G, lenF (w.heap.size + 1) 10, celF w.heap.size (stl (some ⟨kb, o, none⟩) 8 c x a1 24 c1 a2 24 c2 t), argSF w.heap.size (some ⟨kb, o, none⟩) 8 a1 24 a2 24 R L G]) := H2.out.sets (wl A0) (by omega) (fun f hf k hk => (List.mem_cons.1 hf).elim (fun e => by subst e; simp only [celF] at hk; omega) (fun h => by have := DD.out f h k hk; omega)) rfl
            refine step_stm (by rfl) 38 _ _ (by rfl) r7 0 (wl A0).toArray (by rfl) (by rfl) THr7.out sizeWd (wl_one _) ?_
            refine hK.out _ _ G2.out.tail.tail (fun hHeld => ?_)
            clear hK K
            clear hHeld
            dsimp only
            generalize vr8.setCells r7 0 (wl A0) = ws at G2 ⊢
            have G3 := hid_mk G2.out.swap
            refine wpAnyH_ready (rs := [15]) (by kernel_rfl) (by simp) ?_
            refine AllReadyH.cons rfl (fun K hK => ?_) AllReadyH.nil
            have THr8 : Hid (ws.there r8 0 6) := (G3.out.cel (.head _)).there
            have G4 : Hid (Hold w (ws.setCells r8 0 (wl B0)) [celF r8 (wl B0), celF r7 (wl A0), celF r6 (il io ir (ka : Int) (kc : Int) inn), celF r5 (stl b 8 d x b1 24 d1 b2 24 d2 t), ansSF b b1 b2 8 24 24 R L G, lenF (w.heap.size + 1) 10, celF w.heap.size (stl (some ⟨kb, o, none⟩) 8 c x a1 24 c1 a2 24 c2 t), argSF w.heap.size (some ⟨kb, o, none⟩) 8 a1 24 a2 24 R L G]) := G3.out.sets (wl B0) (by omega) (fun f hf k hk => (List.mem_cons.1 hf).elim (fun e => by subst e; simp only [celF] at hk; omega) (fun h => by have := DD.out f h k hk; omega)) rfl
            refine step_stm (by rfl) 38 _ _ (by rfl) r8 0 (wl B0).toArray (by rfl) (by rfl) THr8.out sizeWd (wl_one _) ?_
            refine hK.out _ _ G4.out.tail.tail (fun hHeld => ?_)
            clear hK K
            have G5 := hid_mk G4.out.swap
            refine wpAnyH_done (by kernel_rfl) ?_ _
            clear hHeld
            dsimp only
            generalize ws.setCells r8 0 (wl B0) = wz at G5 ⊢
            go_wp2_with fail
            go_meet
            case rel => exact ⟨r7, r8, rfl, rfl, by omega, by omega, G5.out⟩
          · go_simp
            have H1 := hid_mk (D0.out.box ([.int .i64 0, .bool false, .int .i64 0, .int .i64 0, .int .i64 0, .int .i64 0] : List Value) 38 wd.heap.size rfl)
            have zr8 : wd.heap.size < (wd.alloc (.cells ([.int .i64 0, .bool false, .int .i64 0, .int .i64 0, .int .i64 0, .int .i64 0] : List Value).toArray 38)).heap.size := by simp
            refine hK.out _ _ H1.out.tail (fun hHeld => ?_)
            clear hK K
            (try simp only [Act.put]); (try simp only [List.setIfInBounds_toArray]); (try simp only [List.set_cons_succ]); (try simp only [List.set_cons_zero]); (try simp only [List.set_cons_succ]); (try simp only [List.set_cons_zero]); (try simp only [Nat.zero_add])
            obtain ⟨r8, hr8⟩ : ∃ r, r = wd.heap.size := ⟨_, rfl⟩
            have yr8 : wd.heap.size ≤ r8 := by omega
            rw [← hr8] at H1 zr8 ⊢
            generalize wd.alloc (.cells ([.int .i64 0, .bool false, .int .i64 0, .int .i64 0, .int .i64 0, .int .i64 0] : List Value).toArray 38) = vr8 at H1 hHeld zr8 ⊢
            clear hr8
            refine wpAnyH_ready (rs := [12]) (by kernel_rfl) (by simp) ?_
            refine AllReadyH.cons rfl (fun K hK => ?_) AllReadyH.nil
            go_simp
            have H2 := hid_mk (H1.out.box ([.int .i64 0, .bool false, .int .i64 0, .int .i64 0, .int .i64 0, .int .i64 0] : List Value) 38 vr8.heap.size rfl)
            have zr7 : vr8.heap.size < (vr8.alloc (.cells ([.int .i64 0, .bool false, .int .i64 0, .int .i64 0, .int .i64 0, .int .i64 0] : List Value).toArray 38)).heap.size := by simp
            refine hK.out _ _ H2.out.tail.tail (fun hHeld => ?_)
            clear hK K
            (try simp only [Act.put]); (try simp only [List.setIfInBounds_toArray]); (try simp only [List.set_cons_succ]); (try simp only [List.set_cons_zero]); (try simp only [List.set_cons_succ]); (try simp only [List.set_cons_zero]); (try simp only [Nat.zero_add])
            obtain ⟨r7, hr7⟩ : ∃ r, r = vr8.heap.size := ⟨_, rfl⟩
            have yr7 : wd.heap.size ≤ r7 ∧ r8 < r7 := by omega
            rw [← hr7] at H2 zr7 ⊢
            generalize vr8.alloc (.cells ([.int .i64 0, .bool false, .int .i64 0, .int .i64 0, .int .i64 0, .int .i64 0] : List Value).toArray 38) = vr7 at H2 hHeld zr7 ⊢
            clear hr7
            refine wpAnyH_ready (rs := [14]) (by kernel_rfl) (by simp) ?_
            refine AllReadyH.cons rfl (fun K hK => ?_) AllReadyH.nil
            have THr7 : Hid (vr7.there r7 0 6) := (H2.out.cel (.head _)).there
            have G2 : Hid (Hold w (vr7.setCells r7 0 (wl A0)) [celF r7 (wl A0), celF r8 [.int .i64 0, .bool false, .int .i64 0, .int .i64 0, .int .i64 0, .int .i64 0], celF r6 (il io ir (ka : Int) (kc : Int) inn), celF r5 (stl b 8 d x b1 24 d1 b2 24 d2 t), ansSF b b1 b2 8 24 24 R L G, lenF (w.heap.size + 1) 10, celF w.heap.size (stl (some ⟨kb, o, none⟩) 8 c x a1 24 c1 a2 24 c2 t), argSF w.heap.size (some ⟨kb, o, none⟩) 8 a1 24 a2 24 R L G]) := H2.out.sets (wl A0) (by omega) (fun f hf k hk => (List.mem_cons.1 hf).elim (fun e => by subst e; simp only [celF] at hk; omega) (fun h => by have := DD.out f h k hk; omega)) rfl
            refine step_stm (by rfl) 38 _ _ (by rfl) r7 0 (wl A0).toArray (by rfl) (by rfl) THr7.out sizeWd (wl_one _) ?_
            refine hK.out _ _ G2.out.tail.tail (fun hHeld => ?_)
            clear hK K
            clear hHeld
            dsimp only
            generalize vr7.setCells r7 0 (wl A0) = ws at G2 ⊢
            have G3 := hid_mk G2.out.swap
            refine wpAnyH_ready (rs := [15]) (by kernel_rfl) (by simp) ?_
            refine AllReadyH.cons rfl (fun K hK => ?_) AllReadyH.nil
            have THr8 : Hid (ws.there r8 0 6) := (G3.out.cel (.head _)).there
            have G4 : Hid (Hold w (ws.setCells r8 0 (wl B0)) [celF r8 (wl B0), celF r7 (wl A0), celF r6 (il io ir (ka : Int) (kc : Int) inn), celF r5 (stl b 8 d x b1 24 d1 b2 24 d2 t), ansSF b b1 b2 8 24 24 R L G, lenF (w.heap.size + 1) 10, celF w.heap.size (stl (some ⟨kb, o, none⟩) 8 c x a1 24 c1 a2 24 c2 t), argSF w.heap.size (some ⟨kb, o, none⟩) 8 a1 24 a2 24 R L G]) := G3.out.sets (wl B0) (by omega) (fun f hf k hk => (List.mem_cons.1 hf).elim (fun e => by subst e; simp only [celF] at hk; omega) (fun h => by have := DD.out f h k hk; omega)) rfl
            refine step_stm (by rfl) 38 _ _ (by rfl) r8 0 (wl B0).toArray (by rfl) (by rfl) THr8.out sizeWd (wl_one _) ?_
            refine hK.out _ _ G4.out.tail.tail (fun hHeld => ?_)
            clear hK K
            have G5 := hid_mk G4.out.swap
            refine wpAnyH_done (by kernel_rfl) ?_ _
            clear hHeld
            dsimp only
            generalize ws.setCells r8 0 (wl B0) = wz at G5 ⊢
            go_wp2_with fail
            go_meet
            case rel => exact ⟨r7, r8, rfl, rfl, by omega, by omega, G5.out⟩
        case' rest =>
          obtain ⟨r7, r8, rfl, rfl, hy7, hy8, H⟩ := hcut
          clear ATA ATB hka8 hkc8 hia hic
          obtain ⟨y, Y⟩ : ∃ y, Hid (y = accW io inn L G A0) := ⟨_, rfl⟩
          obtain ⟨z, ZZ⟩ : ∃ z, Hid (z = accZ io inn L A0 B0) := ⟨_, rfl⟩
          have s7 := fun w h1 => l9Mem_any a1 24 c1 a2 24 c2 L G io ir (ka : Int) (kc : Int) inn A0 B0 w h1
          rw [← Y.out, ← ZZ.out] at s7
          rw [← Y.out, ← ZZ.out] at hEW
          have S7 := hid_mk s7
          simp only [wdV] at S7
          clear s7 Y ZZ
          obtain ⟨m0, m1, m2, m3, m4, m5, m6, m7, m8, m9⟩ := (H.out.cel (.tail _ (.tail _ (.tail _ (.tail _ (.tail _ (.tail _ (.head _)))))))).c10
          obtain ⟨i0, i1, i2, i3, i4⟩ := (H.out.cel (.tail _ (.tail _ (.head _)))).c5
          obtain ⟨p0, p1, p2, p3, p4, p5⟩ := (H.out.cel (.head _)).c6
          obtain ⟨u0, u1, u2, u3, u4, u5⟩ := (H.out.cel (.tail _ (.head _))).c6
          go_upto_region 10 with (go_at_call 34; refine (S7.out _ (H.out.argS (.tail _ (.tail _ (.tail _ (.tail _ (.tail _ (.tail _ (.tail _ (.head _))))))))).mem).mono ?_; rintro e w8 ⟨rfl, hb⟩)
          have hz8 : r5 < w8.heap.size := Nat.lt_of_lt_of_le (H.out.cel (.tail _ (.tail _ (.tail _ (.head _))))).lt hb.size
          replace H := hid_mk ((H.out.next hb).box (wl y) 38 w8.heap.size rfl)
          clear hb m0 m1 m2 m3 m4 m5 m6 m7 m8 m9 i0 i1 i2 i3 i4 p0 p1 p2 p3 p4 p5 u0 u1 u2 u3 u4 u5 S7
          generalize w8.alloc (.cells (wl y : List Value).toArray 38) = w9 at H ⊢
          obtain ⟨r9, hr9⟩ : ∃ r, r = w8.heap.size := ⟨_, rfl⟩
          rw [← hr9] at H hz8 ⊢
          clear hr9
          obtain ⟨E0, HE0⟩ : ∃ e, Hid (e = wrkE io ir inn x A0 B0 y) := ⟨_, rfl⟩
          have s9 := fun w => specWork_any io ir (ka : Int) (kc : Int) inn x A0 B0 y ⟨ho1, ho2⟩ hr1 w
          rw [← HE0.out] at s9
          rw [← HE0.out] at hEW
          have S9 := hid_mk s9
          clear s9 hr1
          obtain ⟨m0, m1, m2, m3, m4, m5, m6, m7, m8, m9⟩ := (H.out.cel (.tail _ (.tail _ (.tail _ (.tail _ (.tail _ (.tail _ (.tail _ (.head _))))))))).c10
          obtain ⟨i0, i1, i2, i3, i4⟩ := (H.out.cel (.tail _ (.tail _ (.tail _ (.head _))))).c5
          obtain ⟨p0, p1, p2, p3, p4, p5⟩ := (H.out.cel (.tail _ (.head _))).c6
          obtain ⟨u0, u1, u2, u3, u4, u5⟩ := (H.out.cel (.tail _ (.tail _ (.head _)))).c6
          obtain ⟨v0, v1, v2, v3, v4, v5⟩ := (H.out.cel (.head _)).c6
          go_upto_region 11 with (first | (go_at_call 35; refine (S9.out _).mono ?_; rintro e w10 ⟨rfl, hb⟩; have C0 := hid_mk (Cel.new w10 [.int .i64 0, .int .i64 0, .int .i64 0, .bool false, .int .i64 0, .int .i64 0, .int .i64 0, .int .i64 0, .int .i64 0, .bool false, .int .i64 0, .int .i64 0, .int .i64 0, .int .i64 0, .int .i64 0, .int .i64 0, .bool false, .int .i64 0, .int .i64 0, .int .i64 0, .int .i64 0, .int .i64 0] 82); have HB := hid_mk hb; clear hb) | (refine wpList_store_mid (by rfl) 82 _ _ (by rfl) w10.heap.size 0 (effl E0).toArray (by rfl) (by rfl) C0.out.there sizeEff (effl_one _) ?_))
          have H0 := hid_mk (H.out.next HB.out)
          have DD : Hid (∀ f ∈ [celF r9 (wl y), celF r7 (wl A0), celF r8 (wl B0), celF r6 (il io ir (ka : Int) (kc : Int) inn), celF r5 (stl b 8 d x b1 24 d1 b2 24 d2 t), ansSF b b1 b2 8 24 24 R L G, lenF (w.heap.size + 1) 10, celF w.heap.size (stl (some ⟨kb, o, none⟩) 8 c x a1 24 c1 a2 24 c2 t), argSF w.heap.size (some ⟨kb, o, none⟩) 8 a1 24 a2 24 R L G], ∀ k, f.S k → k < w10.heap.size) := fun f hf k hk => by
            simp only [List.mem_cons, List.not_mem_nil, or_false] at hf
            rcases hf with rfl | rfl | rfl | rfl | rfl | rfl | rfl | rfl | rfl
            · have := (H0.out.cel (.head _)).lt; simp only [celF] at hk; omega
            · have := (H0.out.cel (.tail _ (.head _))).lt; simp only [celF] at hk; omega
            · have := (H0.out.cel (.tail _ (.tail _ (.head _)))).lt; simp only [celF] at hk; omega
            · have := (H0.out.cel (.tail _ (.tail _ (.tail _ (.head _))))).lt; simp only [celF] at hk; omega
            · have := (H0.out.cel (.tail _ (.tail _ (.tail _ (.tail _ (.head _)))))).lt; simp only [celF] at hk; omega
            · exact (H0.out.ansS (.tail _ (.tail _ (.tail _ (.tail _ (.tail _ (.head _))))))).lt hk
            · obtain ⟨_, _, C⟩ := H0.out.len (.tail _ (.tail _ (.tail _ (.tail _ (.tail _ (.tail _ (.head _))))))); have := C.lt; simp only [lenF] at hk; omega
            · have := (H0.out.cel (.tail _ (.tail _ (.tail _ (.tail _ (.tail _ (.tail _ (.tail _ (.head _))))))))).lt; simp only [celF] at hk; omega
            · have := H0.out.bel.size; simp only [argSF] at hk; omega
          replace H := hid_mk (H0.out.box ([.int .i64 0, .int .i64 0, .int .i64 0, .bool false, .int .i64 0, .int .i64 0, .int .i64 0, .int .i64 0, .int .i64 0, .bool false, .int .i64 0, .int .i64 0, .int .i64 0, .int .i64 0, .int .i64 0, .int .i64 0, .bool false, .int .i64 0, .int .i64 0, .int .i64 0, .int .i64 0, .int .i64 0] : List Value) 82 w10.heap.size rfl)
          have h10 : w.heap.size ≤ w10.heap.size := H0.out.bel.size
          clear HB C0 H0 m0 m1 m2 m3 m4 m5 m6 m7 m8 m9 i0 i1 i2 i3 i4 p0 p1 p2 p3 p4 p5 u0 u1 u2 u3 u4 u5 v0 v1 v2 v3 v4 v5 S9
          generalize w10.alloc (.cells ([.int .i64 0, .int .i64 0, .int .i64 0, .bool false, .int .i64 0, .int .i64 0, .int .i64 0, .int .i64 0, .int .i64 0, .bool false, .int .i64 0, .int .i64 0, .int .i64 0, .int .i64 0, .int .i64 0, .int .i64 0, .bool false, .int .i64 0, .int .i64 0, .int .i64 0, .int .i64 0, .int .i64 0] : List Value).toArray 82) = w11 at H ⊢
          obtain ⟨r10, hr10⟩ : ∃ r, r = w10.heap.size := ⟨_, rfl⟩
          rw [← hr10] at H DD h10 ⊢
          clear hr10
          replace H : Hid (Hold w (w11.setCells r10 0 (effl E0)) [celF r10 (effl E0), celF r9 (wl y), celF r7 (wl A0), celF r8 (wl B0), celF r6 (il io ir (ka : Int) (kc : Int) inn), celF r5 (stl b 8 d x b1 24 d1 b2 24 d2 t), ansSF b b1 b2 8 24 24 R L G, lenF (w.heap.size + 1) 10, celF w.heap.size (stl (some ⟨kb, o, none⟩) 8 c x a1 24 c1 a2 24 c2 t), argSF w.heap.size (some ⟨kb, o, none⟩) 8 a1 24 a2 24 R L G]) := H.out.sets (effl E0) h10 (fun f hf k hk => by have := DD.out f hf k hk; omega) rfl
          clear DD
          generalize w11.setCells r10 0 (effl E0) = w12 at H ⊢
          obtain ⟨te, hte⟩ : ∃ te, Hid (te = E0.t) := ⟨_, rfl⟩
          have c0 : w12.cell? ⟨r10, 0, none⟩ = some (.int .i64 te) := by rw [hte.out]; exact (H.out.cel (.head _)).c 0 _ rfl
          by_cases hz : z = 0
          · subst hz
            have hE : E = E0 := by rw [hEW.out, if_pos rfl]
            by_cases h0 : te = 0
            · have htb : (te == 0) = true := by simp [h0]
              have HT1 := hid_mk h0
              clear h0
              go_upto_region 15 with fail
              obtain rfl : regA R E0.r E0.v = SR := by rw [← hE]; exact q1.out.symm
              obtain rfl : E0.x = SX := by rw [← hE]; exact q2.out.symm
              obtain rfl : memA L E0.at_ E0.p = SL := by rw [← hE]; exact q3.out.symm
              obtain rfl : gonA G E0.d = SG := by rw [← hE]; exact q4.out.symm
              obtain rfl : t = ST := by rw [q5.out, hE, ← hte.out, HT1.out]; exact HT0.out
              have C5 := hid_mk (H.out.cel (.tail _ (.tail _ (.tail _ (.tail _ (.tail _ (.head _)))))))
              have C10 := hid_mk (H.out.cel (.head _))
              have S12 := hid_mk (l9Apply_any b d x b1 d1 b2 d2 t E0 R L G w12 (H.out.ansS (.tail _ (.tail _ (.tail _ (.tail _ (.tail _ (.tail _ (.head _)))))))))
              clear q1 q2 q3 q4 q5 hE HE0 hEW hte HT1 HT0 c0
              go_wp2_with (first | (refine wpList_load_mid (by rfl) 42 _ (by rfl) r5 0 (by rfl) (stl b 8 d x b1 24 d1 b2 24 d2 t) _ C5.out.range Tryz.underlying42 rfl sizeSt ?_) | (refine wpList_load_mid (by rfl) 82 _ (by rfl) r10 0 (by rfl) (effl E0) _ C10.out.range Tryz.underlying82 rfl sizeEff ?_) | (go_at_call 36; refine S12.out.mono ?_; rintro e w13 ⟨rfl, hA, hK⟩; refine Hid.out ?_))
              refine Lib.hid ?_
              have HA := hid_mk hA
              have H13 := hid_mk ((H.out.sub (gs := [lenF (w.heap.size + 1) 10]) (fun f hf => by simp only [List.mem_cons, List.not_mem_nil, or_false] at hf; subst hf; exact (.tail _ (.tail _ (.tail _ (.tail _ (.tail _ (.tail _ (.tail _ (.head _)))))))))).wrote hK (fun k hk => by have := HF.out k hk; omega) (fun f hf k hk ht => by
                simp only [List.mem_cons, List.not_mem_nil, or_false] at hf
                subst hf
                have := HF.out k ht
                simp only [lenF] at hk
                omega))
              clear hA hK C5 C10 S12 H
              obtain ⟨vs, hvl, CZ⟩ := H13.out.len (.head _)
              have TH := hid_mk (by have h := CZ.there; rw [hvl] at h; exact h)
              have CE := hid_mk (CZ.sets (us := stl b 8 d E0.x b1 24 d1 b2 24 d2 t) (by rw [hvl]; rfl))
              have K9 := hid_mk (KeepBut.setCells (b := w.heap.size + 1) (stl b 8 d E0.x b1 24 d1 b2 24 d2 t) 0 w13)
              have hlv := hid_mk (lv_st CE.out rfl)
              have HB := hid_mk H13.out.bel
              clear CZ CE H13
              go_wp2_with (refine wpList_store_mid (by rfl) 42 _ _ (by rfl) (w.heap.size + 1) 0 (stl b 8 d E0.x b1 24 d1 b2 24 d2 t).toArray (by rfl) (by rfl) TH.out sizeSt (stl_one _ _ _ _ _ _ _ _ _ _ _) ?_)
              refine bodyPost_ret (v := .agg (stl b 8 d E0.x b1 24 d1 b2 24 d2 t).toArray) (results_cell1 Tryz.results8 (by rfl) hlv.out) rfl (HQ.out _ _ _ _ _ _ _ HD1.out ?_ (fun k hk => by have := HF.out k hk; omega) (HB.out.trans (K9.out.below (B := w.heap.size) (by omega) HB.out.size)))
              exact (ansSF b b1 b2 8 24 24 _ _ _).keep _ _ HA.out K9.out.size fun k hk ho => K9.out.block k hk (by have := HF.out k ho; omega)
            · have htb : (te == 0) = false := by simpa using h0
              have hE2 : E = trpE te x := by
                rw [hE, hte.out, HE0.out]
                exact wrk_trp _ _ _ _ _ _ _ (by rw [← HE0.out, ← hte.out]; exact h0)
              clear hE HE0 hEW h0
              have hE := hE2
              clear hE2 hte
              obtain rfl : R = SR := by have h := q1.out; rw [hE, reg_trp] at h; exact h.symm
              obtain rfl : x = SX := by have h := q2.out; rw [hE] at h; exact h.symm
              obtain rfl : L = SL := by have h := q3.out; rw [hE, mem_trp] at h; exact h.symm
              obtain rfl : G = SG := by have h := q4.out; rw [hE, gon_trp] at h; exact h.symm
              obtain rfl : ST = te := by have h := q5.out; rw [hE] at h; exact h
              clear q1 q2 q3 q4 q5 hE
              have H5 := hid_mk (H.out.sub (gs := [celF r5 (stl b 8 d x b1 24 d1 b2 24 d2 t), ansSF b b1 b2 8 24 24 R L G, lenF (w.heap.size + 1) 10]) (fun f hf => by simp only [List.mem_cons, List.not_mem_nil, or_false] at hf ⊢; rcases hf with rfl | rfl | rfl; exact .inr (.inr (.inr (.inr (.inr (.inl rfl))))); exact .inr (.inr (.inr (.inr (.inr (.inr (.inl rfl)))))); exact .inr (.inr (.inr (.inr (.inr (.inr (.inr (.inl rfl)))))))))
              clear H
              have c9 := (H5.out.cel (.head _)).c 9 _ rfl
              have g9 := (H5.out.cel (.head _)).f 9 (by simp)
              go_upto_region 17 with fail
              replace H5 := hid_mk (H5.out.setd (by omega) (fun f hf k hk => by
                simp only [List.mem_cons, List.not_mem_nil, or_false] at hf
                rcases hf with rfl | rfl
                · have := HF.out k hk; have := HL5.out k hk; omega
                · simp only [lenF] at hk; omega) 9 (.int .i64 ST))
              have H : Hid (Hold w (w12.setCell ⟨r5, 9, none⟩ (.int .i64 ST)) [celF r5 (stl b 8 d x b1 24 d1 b2 24 d2 ST), ansSF b b1 b2 8 24 24 R L G, lenF (w.heap.size + 1) 10]) := H5
              clear H5 c9 g9
              generalize w12.setCell ⟨r5, 9, none⟩ (.int .i64 ST) = wt at H ⊢
              obtain ⟨vs, hvl, CZ⟩ := H.out.len (.tail _ (.tail _ (.head _)))
              have TH := hid_mk (by have h := CZ.there; rw [hvl] at h; exact h)
              have CE := hid_mk (CZ.sets (us := stl b 8 d x b1 24 d1 b2 24 d2 ST) (by rw [hvl]; rfl))
              have K9 := hid_mk (KeepBut.setCells (b := w.heap.size + 1) (stl b 8 d x b1 24 d1 b2 24 d2 ST) 0 wt)
              have hlv := hid_mk (lv_st CE.out rfl)
              have C5 := hid_mk (H.out.cel (.head _))
              have HA := hid_mk (H.out.ansS (.tail _ (.head _)))
              have HB := hid_mk H.out.bel
              clear CZ CE H
              go_wp2_with (first | (refine wpList_load_mid (by rfl) 42 _ (by rfl) r5 0 (by rfl) (stl b 8 d x b1 24 d1 b2 24 d2 ST) _ C5.out.range Tryz.underlying42 rfl sizeSt ?_) | (refine wpList_store_mid (by rfl) 42 _ _ (by rfl) (w.heap.size + 1) 0 (stl b 8 d x b1 24 d1 b2 24 d2 ST).toArray (by rfl) (by rfl) TH.out sizeSt (stl_one _ _ _ _ _ _ _ _ _ _ _) ?_))
              refine bodyPost_ret (v := .agg (stl b 8 d x b1 24 d1 b2 24 d2 ST).toArray) (results_cell1 Tryz.results8 (by rfl) hlv.out) rfl (HQ.out _ _ _ _ _ _ _ HD1.out ?_ (fun k hk => by have := HF.out k hk; omega) (HB.out.trans (K9.out.below (B := w.heap.size) (by omega) HB.out.size)))
              exact (ansSF b b1 b2 8 24 24 R L G).keep _ _ HA.out K9.out.size fun k hk ho => K9.out.block k hk (by have := HF.out k ho; omega)
          · have hE : E = trpE z x := by rw [hEW.out, if_neg hz]
            have htb : (z == 0) = false := by simpa using hz
            clear hEW HE0 hte c0
            obtain rfl : R = SR := by have h := q1.out; rw [hE, reg_trp] at h; exact h.symm
            obtain rfl : x = SX := by have h := q2.out; rw [hE] at h; exact h.symm
            obtain rfl : L = SL := by have h := q3.out; rw [hE, mem_trp] at h; exact h.symm
            obtain rfl : G = SG := by have h := q4.out; rw [hE, gon_trp] at h; exact h.symm
            obtain rfl : ST = z := by have h := q5.out; rw [hE] at h; exact h
            clear q1 q2 q3 q4 q5 hE
            have H5 := hid_mk (H.out.sub (gs := [celF r5 (stl b 8 d x b1 24 d1 b2 24 d2 t), ansSF b b1 b2 8 24 24 R L G, lenF (w.heap.size + 1) 10]) (fun f hf => by simp only [List.mem_cons, List.not_mem_nil, or_false] at hf ⊢; rcases hf with rfl | rfl | rfl; exact .inr (.inr (.inr (.inr (.inr (.inl rfl))))); exact .inr (.inr (.inr (.inr (.inr (.inr (.inl rfl)))))); exact .inr (.inr (.inr (.inr (.inr (.inr (.inr (.inl rfl)))))))))
            clear H
            have c9 := (H5.out.cel (.head _)).c 9 _ rfl
            have g9 := (H5.out.cel (.head _)).f 9 (by simp)
            go_upto_region 17 with fail
            replace H5 := hid_mk (H5.out.setd (by omega) (fun f hf k hk => by
              simp only [List.mem_cons, List.not_mem_nil, or_false] at hf
              rcases hf with rfl | rfl
              · have := HF.out k hk; have := HL5.out k hk; omega
              · simp only [lenF] at hk; omega) 9 (.int .i64 ST))
            have H : Hid (Hold w (w12.setCell ⟨r5, 9, none⟩ (.int .i64 ST)) [celF r5 (stl b 8 d x b1 24 d1 b2 24 d2 ST), ansSF b b1 b2 8 24 24 R L G, lenF (w.heap.size + 1) 10]) := H5
            clear H5 c9 g9
            generalize w12.setCell ⟨r5, 9, none⟩ (.int .i64 ST) = wt at H ⊢
            obtain ⟨vs, hvl, CZ⟩ := H.out.len (.tail _ (.tail _ (.head _)))
            have TH := hid_mk (by have h := CZ.there; rw [hvl] at h; exact h)
            have CE := hid_mk (CZ.sets (us := stl b 8 d x b1 24 d1 b2 24 d2 ST) (by rw [hvl]; rfl))
            have K9 := hid_mk (KeepBut.setCells (b := w.heap.size + 1) (stl b 8 d x b1 24 d1 b2 24 d2 ST) 0 wt)
            have hlv := hid_mk (lv_st CE.out rfl)
            have C5 := hid_mk (H.out.cel (.head _))
            have HA := hid_mk (H.out.ansS (.tail _ (.head _)))
            have HB := hid_mk H.out.bel
            clear CZ CE H
            go_wp2_with (first | (refine wpList_load_mid (by rfl) 42 _ (by rfl) r5 0 (by rfl) (stl b 8 d x b1 24 d1 b2 24 d2 ST) _ C5.out.range Tryz.underlying42 rfl sizeSt ?_) | (refine wpList_store_mid (by rfl) 42 _ _ (by rfl) (w.heap.size + 1) 0 (stl b 8 d x b1 24 d1 b2 24 d2 ST).toArray (by rfl) (by rfl) TH.out sizeSt (stl_one _ _ _ _ _ _ _ _ _ _ _) ?_))
            refine bodyPost_ret (v := .agg (stl b 8 d x b1 24 d1 b2 24 d2 ST).toArray) (results_cell1 Tryz.results8 (by rfl) hlv.out) rfl (HQ.out _ _ _ _ _ _ _ HD1.out ?_ (fun k hk => by have := HF.out k hk; omega) (HB.out.trans (K9.out.below (B := w.heap.size) (by omega) HB.out.size)))
            exact (ansSF b b1 b2 8 24 24 R L G).keep _ _ HA.out K9.out.size fun k hk ho => K9.out.block k hk (by have := HF.out k ho; omega)
      · have hE : E = trpE tr x := by rw [hE1.out, if_neg htr]
        have htb : (tr == 0) = false := by simpa using htr
        clear hE1 hok
        obtain rfl : R = SR := by have h := q1.out; rw [hE, reg_trp] at h; exact h.symm
        obtain rfl : x = SX := by have h := q2.out; rw [hE] at h; exact h.symm
        obtain rfl : L = SL := by have h := q3.out; rw [hE, mem_trp] at h; exact h.symm
        obtain rfl : G = SG := by have h := q4.out; rw [hE, gon_trp] at h; exact h.symm
        obtain rfl : ST = tr := by have h := q5.out; rw [hE] at h; exact h
        clear q1 q2 q3 q4 q5 hE
        have H5 := hid_mk (H.out.sub (gs := [celF r5 (stl b 8 d x b1 24 d1 b2 24 d2 t), ansSF b b1 b2 8 24 24 R L G, lenF (w.heap.size + 1) 10]) (fun f hf => by simp only [List.mem_cons, List.not_mem_nil, or_false] at hf ⊢; rcases hf with rfl | rfl | rfl; exact .inr (.inl rfl); exact .inr (.inr (.inl rfl)); exact .inr (.inr (.inr (.inl rfl)))))
        clear H
        have c9 := (H5.out.cel (.head _)).c 9 _ rfl
        have g9 := (H5.out.cel (.head _)).f 9 (by simp)
        go_upto_region 17 with fail
        replace H5 := hid_mk (H5.out.setd (by omega) (fun f hf k hk => by
          simp only [List.mem_cons, List.not_mem_nil, or_false] at hf
          rcases hf with rfl | rfl
          · have := HF.out k hk; have := HL5.out k hk; omega
          · simp only [lenF] at hk; omega) 9 (.int .i64 ST))
        have H : Hid (Hold w (wI.setCell ⟨r5, 9, none⟩ (.int .i64 ST)) [celF r5 (stl b 8 d x b1 24 d1 b2 24 d2 ST), ansSF b b1 b2 8 24 24 R L G, lenF (w.heap.size + 1) 10]) := H5
        clear H5 c9 g9
        generalize wI.setCell ⟨r5, 9, none⟩ (.int .i64 ST) = wt at H ⊢
        obtain ⟨vs, hvl, CZ⟩ := H.out.len (.tail _ (.tail _ (.head _)))
        have TH := hid_mk (by have h := CZ.there; rw [hvl] at h; exact h)
        have CE := hid_mk (CZ.sets (us := stl b 8 d x b1 24 d1 b2 24 d2 ST) (by rw [hvl]; rfl))
        have K9 := hid_mk (KeepBut.setCells (b := w.heap.size + 1) (stl b 8 d x b1 24 d1 b2 24 d2 ST) 0 wt)
        have hlv := hid_mk (lv_st CE.out rfl)
        have C5 := hid_mk (H.out.cel (.head _))
        have HA := hid_mk (H.out.ansS (.tail _ (.head _)))
        have HB := hid_mk H.out.bel
        clear CZ CE H
        go_wp2_with (first | (refine wpList_load_mid (by rfl) 42 _ (by rfl) r5 0 (by rfl) (stl b 8 d x b1 24 d1 b2 24 d2 ST) _ C5.out.range Tryz.underlying42 rfl sizeSt ?_) | (refine wpList_store_mid (by rfl) 42 _ _ (by rfl) (w.heap.size + 1) 0 (stl b 8 d x b1 24 d1 b2 24 d2 ST).toArray (by rfl) (by rfl) TH.out sizeSt (stl_one _ _ _ _ _ _ _ _ _ _ _) ?_))
        refine bodyPost_ret (v := .agg (stl b 8 d x b1 24 d1 b2 24 d2 ST).toArray) (results_cell1 Tryz.results8 (by rfl) hlv.out) rfl (HQ.out _ _ _ _ _ _ _ HD1.out ?_ (fun k hk => by have := HF.out k hk; omega) (HB.out.trans (K9.out.below (B := w.heap.size) (by omega) HB.out.size)))
        exact (ansSF b b1 b2 8 24 24 R L G).keep _ _ HA.out K9.out.size fun k hk ho => K9.out.block k hk (by have := HF.out k ho; omega)
    · have hE : E = trpE t x := by rw [HEE.out, effI, if_neg ht]
      have htb : (t != 0) = true := by simpa using ht
      clear HEE
      go_upto_region 5 with fail
      clear m0 m1 m2 m3 m4 m5 m6 m7 m8 m9
      obtain rfl : R = SR := by have h := q1.out; rw [hE, reg_trp] at h; exact h.symm
      obtain rfl : x = SX := by have h := q2.out; rw [hE] at h; exact h.symm
      obtain rfl : L = SL := by have h := q3.out; rw [hE, mem_trp] at h; exact h.symm
      obtain rfl : G = SG := by have h := q4.out; rw [hE, gon_trp] at h; exact h.symm
      obtain rfl : t = ST := by have h := q5.out; rw [hE] at h; exact h.symm
      clear q1 q2 q3 q4 q5 hE
      obtain ⟨vs, hvl, CZ⟩ := H.out.len (.tail _ (.tail _ (.head _)))
      have TH := hid_mk (by have h := CZ.there; rw [hvl] at h; exact h)
      have CE := hid_mk (CZ.sets (us := stl b 8 d x b1 24 d1 b2 24 d2 t) (by rw [hvl]; rfl))
      have K9 := hid_mk (KeepBut.setCells (b := w.heap.size + 1) (stl b 8 d x b1 24 d1 b2 24 d2 t) 0 w4)
      have hlv := hid_mk (lv_st CE.out rfl)
      have C5 := hid_mk (H.out.cel (.head _))
      have HA := hid_mk (H.out.ansS (.tail _ (.head _)))
      have HB := hid_mk H.out.bel
      clear CZ CE H
      go_wp2_with (first | (refine wpList_load_mid (by rfl) 42 _ (by rfl) r5 0 (by rfl) (stl b 8 d x b1 24 d1 b2 24 d2 t) _ C5.out.range Tryz.underlying42 rfl sizeSt ?_) | (refine wpList_store_mid (by rfl) 42 _ _ (by rfl) (w.heap.size + 1) 0 (stl b 8 d x b1 24 d1 b2 24 d2 t).toArray (by rfl) (by rfl) TH.out sizeSt (stl_one _ _ _ _ _ _ _ _ _ _ _) ?_))
      refine bodyPost_ret (v := .agg (stl b 8 d x b1 24 d1 b2 24 d2 t).toArray) (results_cell1 Tryz.results8 (by rfl) hlv.out) rfl (HQ.out _ _ _ _ _ _ _ HD1.out ?_ (fun k hk => by have := HF.out k hk; omega) (HB.out.trans (K9.out.below (B := w.heap.size) (by omega) HB.out.size)))
      exact (ansSF b b1 b2 8 24 24 R L G).keep _ _ HA.out K9.out.size fun k hk ho => K9.out.block k hk (by have := HF.out k ho; omega)
end Go.Proofs.YtpkhnajhamnggaaGreatDoor
