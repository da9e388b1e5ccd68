/- What a sweep or a step makes of a state; steppedOrSwept of the program, at a state of rows of its own. The words' room is no less than their number; the program's errors hold what its text lays. -/
import Derived.Test.YtpkhnajhamnggaaGreatDoorStpE
import Derived.Test.YtpkhnajhamnggaaGreatDoorStpM
import Derived.Test.YtpkhnajhamnggaaGreatDoorSwpC
namespace Go.Proofs.YtpkhnajhamnggaaGreatDoor
open Go.ChangeShapes Go.WideShapes Go.ChangeAt Go.RowKit
set_option maxRecDepth 100000

/-- What one round of Run makes of a state. -/
def runS1 (Ls : List In) (s : Sd) (m : Int) : Sd := if m < 0 then stpS Ls s else ⟨s.R, s.x, swpL s.L s.G m, keepG s.L s.G, s.t⟩

set_option maxHeartbeats 2000000 in
theorem stepSwept_any (a0 a1' a2' a3 : Addr) (la : Option Addr) (ln lc : Nat) (Ls : List In) (a : Option Addr) (n c : Nat) (x : Wd) (a1 : Option Addr) (n1 c1 : Nat) (a2 : Option Addr) (n2 c2 : Nat) (t : Int) (R L : List Wd) (G : List Bool) (m : Int) (S : Sd) (hSd : S = runS1 Ls ⟨R, x, L, G, t⟩ m) (hcap : n1 ≤ c1) (hn : n ≤ 1048576) (hn1 : n1 ≤ 1048576) (hn2 : n2 ≤ 1048576) (w : World) (hL : SliceI w.heap.size w la ln Ls) (hA : AnsS a a1 a2 n n1 n2 R L G w) (hE0 : Errs a0 a1' a2' a3 w) :
    Calls Tryz.prog 54 #[.slice la ln lc, .agg #[.slice a n c, .int .i64 x.n, .bool x.i, .int .i64 x.b, .int .i64 x.t, .int .i64 x.p, .int .i64 x.s, .slice a1 n1 c1, .slice a2 n2 c2, .int .i64 t], .int .i64 m] w fun e w' => ∃ b d b1 d1 b2 d2, e = .returned (.agg #[.slice b S.R.length d, .int .i64 S.x.n, .bool S.x.i, .int .i64 S.x.b, .int .i64 S.x.t, .int .i64 S.x.p, .int .i64 S.x.s, .slice b1 S.L.length d1, .slice b2 S.G.length d2, .int .i64 S.t]) ∧ S.L.length ≤ d1 ∧ AnsS b b1 b2 S.R.length S.L.length S.G.length S.R S.L S.G w' ∧ (∀ k, On b k ∨ On b1 k ∨ On b2 k → w.heap.size ≤ k ∨ On a k ∨ On a1 k ∨ On a2 k) ∧ Below w.heap.size w w' := by
  have H : Hid (Hold w ((w.alloc (.cells (stl a n c x a1 n1 c1 a2 n2 c2 t).toArray 42)).alloc (.cells ([.slice none 0 0, .int .i64 0, .bool false, .int .i64 0, .int .i64 0, .int .i64 0, .int .i64 0, .slice none 0 0, .slice none 0 0, .int .i64 0] : List Value).toArray 42)) [lenF (w.heap.size + 1) 10, celF w.heap.size (stl a n c x a1 n1 c1 a2 n2 c2 t), ansSF a a1 a2 n n1 n2 R L G]) := by
    have h1 := (((Hold.new w).push (ansSF a a1 a2 n n1 n2 R L G) hA).alloc (.cells (stl a n c x a1 n1 c1 a2 n2 c2 t).toArray 42)).push (celF w.heap.size (stl a n c x a1 n1 c1 a2 n2 c2 t)) (Cel.new w _ _)
    have h2 := h1.box ([.slice none 0 0, .int .i64 0, .bool false, .int .i64 0, .int .i64 0, .int .i64 0, .int .i64 0, .slice none 0 0, .slice none 0 0, .int .i64 0] : List Value) 42 (w.heap.size + 1) (by simp)
    exact h2.tail.push (lenF (w.heap.size + 1) 10) ⟨_, rfl, h2.cel (.head _)⟩
  generalize hw1 : (w.alloc (.cells (stl a n c x a1 n1 c1 a2 n2 c2 t).toArray 42)).alloc (.cells ([.slice none 0 0, .int .i64 0, .bool false, .int .i64 0, .int .i64 0, .int .i64 0, .int .i64 0, .slice none 0 0, .slice none 0 0, .int .i64 0] : List Value).toArray 42) = w1 at H
  have HLT := hid_mk (fun k hk => hA.lt (k := k) hk)
  have HL := hid_mk hL
  have HE := hid_mk hE0
  by_cases hm : m < 0
  · rw [runS1, if_pos hm] at hSd
    have s2 := fun w h1 h2 h3 => implStep_any a0 a1' a2' a3 la ln lc Ls a n c x a1 n1 c1 a2 n2 c2 t R L G S hSd hcap w h1 h2 h3
    obtain ⟨SR, SX, SL, SG, ST⟩ := S
    dsimp only at s2 ⊢
    obtain ⟨nr, hnr⟩ : ∃ n, n = SR.length := ⟨_, rfl⟩
    obtain ⟨nl, hnl⟩ : ∃ n, n = SL.length := ⟨_, rfl⟩
    obtain ⟨ng, hng⟩ : ∃ n, n = SG.length := ⟨_, rfl⟩
    simp only [← hnr, ← hnl, ← hng] at s2 ⊢
    have S2 := hid_mk s2
    clear s2 hSd hnr hnl hng hL hE0 hA
    obtain ⟨Q, HQ, HQ2⟩ : ∃ Q : Ending → World → Prop, Hid (∀ b d b1 d1 b2 d2 w', nl ≤ d1 → AnsS b b1 b2 nr nl ng SR SL SG w' → (∀ k, On b k ∨ On b1 k ∨ On b2 k → w.heap.size ≤ k ∨ On a k ∨ On a1 k ∨ On a2 k) → Below w.heap.size w w' → Q (.returned (.agg #[.slice b nr d, .int .i64 SX.n, .bool SX.i, .int .i64 SX.b, .int .i64 SX.t, .int .i64 SX.p, .int .i64 SX.s, .slice b1 nl d1, .slice b2 ng d2, .int .i64 ST])) w') ∧ (∀ e w', Q e w' → ∃ b d b1 d1 b2 d2, e = .returned (.agg #[.slice b nr d, .int .i64 SX.n, .bool SX.i, .int .i64 SX.b, .int .i64 SX.t, .int .i64 SX.p, .int .i64 SX.s, .slice b1 nl d1, .slice b2 ng d2, .int .i64 ST]) ∧ nl ≤ d1 ∧ AnsS b b1 b2 nr nl ng SR SL SG w' ∧ (∀ k, On b k ∨ On b1 k ∨ On b2 k → w.heap.size ≤ k ∨ On a k ∨ On a1 k ∨ On a2 k) ∧ Below w.heap.size w w') :=
      ⟨fun e w' => ∃ b d b1 d1 b2 d2, e = .returned (.agg #[.slice b nr d, .int .i64 SX.n, .bool SX.i, .int .i64 SX.b, .int .i64 SX.t, .int .i64 SX.p, .int .i64 SX.s, .slice b1 nl d1, .slice b2 ng d2, .int .i64 ST]) ∧ nl ≤ d1 ∧ AnsS b b1 b2 nr nl ng SR SL SG w' ∧ (∀ k, On b k ∨ On b1 k ∨ On b2 k → w.heap.size ≤ k ∨ On a k ∨ On a1 k ∨ On a2 k) ∧ Below w.heap.size w w', fun b d b1 d1 b2 d2 w' h1 h2 h3 h4 => ⟨b, d, b1, d1, b2, d2, rfl, h1, h2, h3, h4⟩, fun _ _ h => h⟩
    refine Calls.mono (R := Q) ?_ HQ2
    clear HQ2
    go_enter Tryz.func54, Tryz.ntmps54
    go_upto_region 1 with fail
    clear hw1
    obtain ⟨m0, m1, m2, m3, m4, m5, m6, m7, m8, m9⟩ := (H.out.cel (.tail _ (.head _))).c10
    go_upto_region 2 with fail
    go_wp2_with (first | (go_at_call 11; refine (S2.out _ ((HL.out.below H.out.bel (Nat.le_refl _)).mono H.out.bel.size) ((H.out.ansS (.tail _ (.tail _ (.head _)))).sts hn hn1 hn2) (HE.out.below H.out.bel)).mono ?_; rintro e w2 ⟨b, d, b1, d1, b2, d2, rfl, hd1, h2, hf, hb⟩; refine Hid.out ?_))
    refine Lib.hid ?_
    have HB0 := hid_mk (H.out.next hb)
    have HD1 := hid_mk hd1
    have HF := hid_mk hf
    have HA := hid_mk h2
    have hs2 : w.heap.size + 1 < w2.heap.size := by obtain ⟨_, _, C⟩ := HB0.out.len (.head _); exact C.lt
    have hs1 : w.heap.size + 1 < w1.heap.size := by obtain ⟨_, _, C⟩ := H.out.len (.head _); exact C.lt
    clear hb hd1 hf h2 m0 m1 m2 m3 m4 m5 m6 m7 m8 m9 H
    obtain ⟨vs, hvl, CZ⟩ := HB0.out.len (.head _)
    have TH := hid_mk (by have h := CZ.there; rw [hvl] at h; exact h)
    have CE := hid_mk (CZ.sets (us := stl b nr d SX b1 nl d1 b2 ng d2 ST) (by rw [hvl]; rfl))
    have K9 := hid_mk (KeepBut.setCells (b := w.heap.size + 1) (stl b nr d SX b1 nl d1 b2 ng d2 ST) 0 w2)
    have hlv := hid_mk (lv_st CE.out rfl)
    have HB := hid_mk HB0.out.bel
    clear CZ CE HB0
    go_wp2_with (refine wpList_store_mid (by rfl) 42 _ _ (by rfl) (w.heap.size + 1) 0 (stl b nr d SX b1 nl d1 b2 ng d2 ST).toArray (by rfl) (by rfl) TH.out sizeSt (stl_one _ _ _ _ _ _ _ _ _ _ _) ?_)
    refine bodyPost_ret (v := .agg (stl b nr d SX b1 nl d1 b2 ng d2 ST).toArray) (results_cell1 Tryz.results54 (by rfl) hlv.out) rfl (HQ.out _ _ _ _ _ _ _ HD1.out ?_ (fun k hk => .inl (by have := HF.out k hk; omega)) (HB.out.trans (K9.out.below (B := w.heap.size) (by omega) HB.out.size)))
    exact (ansSF b b1 b2 nr nl ng SR SL SG).keep _ _ HA.out K9.out.size fun k hk ho => K9.out.block k hk (by have := HF.out k ho; omega)
  · rw [runS1, if_neg hm] at hSd
    have s3 := fun w h => implSweep_cap a1 n1 c1 a2 n2 c2 L G m hcap w h
    subst hSd
    dsimp only at ⊢
    obtain ⟨SL, hSL⟩ : ∃ l, l = swpL L G m := ⟨_, rfl⟩
    obtain ⟨SG, hSG⟩ : ∃ l, l = keepG L G := ⟨_, rfl⟩
    simp only [← hSL, ← hSG] at s3 ⊢
    obtain ⟨nl, hnl⟩ : ∃ n, n = SL.length := ⟨_, rfl⟩
    obtain ⟨ng, hng⟩ : ∃ n, n = SG.length := ⟨_, rfl⟩
    have hnr : R.length = n := hA.rs.len
    simp only [← hnl, ← hng, hnr] at s3 ⊢
    have S3 := hid_mk s3
    clear s3 hSL hSG hnl hng hL hE0 hA HL HE hnr
    obtain ⟨Q, HQ, HQ2⟩ : ∃ Q : Ending → World → Prop, Hid (∀ b d b1 d1 b2 d2 w', nl ≤ d1 → AnsS b b1 b2 n nl ng R SL SG w' → (∀ k, On b k ∨ On b1 k ∨ On b2 k → w.heap.size ≤ k ∨ On a k ∨ On a1 k ∨ On a2 k) → Below w.heap.size w w' → Q (.returned (.agg #[.slice b n d, .int .i64 x.n, .bool x.i, .int .i64 x.b, .int .i64 x.t, .int .i64 x.p, .int .i64 x.s, .slice b1 nl d1, .slice b2 ng d2, .int .i64 t])) w') ∧ (∀ e w', Q e w' → ∃ b d b1 d1 b2 d2, e = .returned (.agg #[.slice b n d, .int .i64 x.n, .bool x.i, .int .i64 x.b, .int .i64 x.t, .int .i64 x.p, .int .i64 x.s, .slice b1 nl d1, .slice b2 ng d2, .int .i64 t]) ∧ nl ≤ d1 ∧ AnsS b b1 b2 n nl ng R SL SG w' ∧ (∀ k, On b k ∨ On b1 k ∨ On b2 k → w.heap.size ≤ k ∨ On a k ∨ On a1 k ∨ On a2 k) ∧ Below w.heap.size w w') :=
      ⟨fun e w' => ∃ b d b1 d1 b2 d2, e = .returned (.agg #[.slice b n d, .int .i64 x.n, .bool x.i, .int .i64 x.b, .int .i64 x.t, .int .i64 x.p, .int .i64 x.s, .slice b1 nl d1, .slice b2 ng d2, .int .i64 t]) ∧ nl ≤ d1 ∧ AnsS b b1 b2 n nl ng R SL SG w' ∧ (∀ k, On b k ∨ On b1 k ∨ On b2 k → w.heap.size ≤ k ∨ On a k ∨ On a1 k ∨ On a2 k) ∧ Below w.heap.size w w', fun b d b1 d1 b2 d2 w' h1 h2 h3 h4 => ⟨b, d, b1, d1, b2, d2, rfl, h1, h2, h3, h4⟩, fun _ _ h => h⟩
    refine Calls.mono (R := Q) ?_ HQ2
    clear HQ2
    go_enter Tryz.func54, Tryz.ntmps54
    go_upto_region 1 with fail
    clear hw1
    obtain ⟨m0, m1, m2, m3, m4, m5, m6, m7, m8, m9⟩ := (H.out.cel (.tail _ (.head _))).c10
    obtain ⟨f0, f1, f2, f3, f4, f5, f6, f7, f8, f9⟩ := (H.out.cel (.tail _ (.head _))).f10
    go_upto_region 3 with fail
    go_wp2_with fail
    refine (S3.out _ ((H.out.ansS (.tail _ (.tail _ (.head _)))).memA.mem hn1 hn2)).mono ?_
    rintro e w2 ⟨b1, d1, b2, d2, rfl, hd1, h2, hf, hb⟩
    have HD1 := hid_mk hd1
    have hs1 : w.heap.size + 1 < w1.heap.size := by obtain ⟨_, _, C⟩ := H.out.len (.head _); exact C.lt
    have HF := hid_mk (fun k hk => Nat.lt_of_lt_of_le hs1 (hf k hk))
    have H0 := hid_mk (((H.out.next hb).push (ansF b1 b2 nl ng SL SG) h2).sub (gs := [celF w.heap.size (stl a n c x a1 n1 c1 a2 n2 c2 t), ansF b1 b2 nl ng SL SG, lenF (w.heap.size + 1) 10, ansSF a a1 a2 n n1 n2 R L G]) (fun f hf => by simp only [List.mem_cons, List.not_mem_nil, or_false] at hf ⊢; rcases hf with rfl | rfl | rfl | rfl; exact .inr (.inr (.inl rfl)); exact .inl rfl; exact .inr (.inl rfl); exact .inr (.inr (.inr rfl))))
    clear hb hd1 hf h2 m0 m1 m2 m3 m4 m5 m6 m7 m8 m9 f0 f1 f2 f3 f4 f5 f6 f7 f8 f9 H hs1
    obtain ⟨m0, m1, m2, m3, m4, m5, m6, m7, m8, m9⟩ := (H0.out.cel (.head _)).c10
    obtain ⟨f0, f1, f2, f3, f4, f5, f6, f7, f8, f9⟩ := (H0.out.cel (.head _)).f10
    go_upto_region 4 with fail
    have H5 := hid_mk (((H0.out.setd (by omega) (fun f hf k hk => by
      simp only [List.mem_cons, List.not_mem_nil, or_false] at hf
      rcases hf with rfl | rfl | rfl
      · have := HF.out k hk; omega
      · simp only [lenF] at hk; omega
      · have := HLT.out k hk; omega) 7 (.slice b1 nl d1))).setd (by omega) (fun f hf k hk => by
      simp only [List.mem_cons, List.not_mem_nil, or_false] at hf
      rcases hf with rfl | rfl | rfl
      · have := HF.out k hk; omega
      · simp only [lenF] at hk; omega
      · have := HLT.out k hk; omega) 8 (.slice b2 ng d2))
    have H : Hid (Hold w ((w2.setCell ⟨w.heap.size, 7, none⟩ (.slice b1 nl d1)).setCell ⟨w.heap.size, 8, none⟩ (.slice b2 ng d2)) [celF w.heap.size (stl a n c x b1 nl d1 b2 ng d2 t), ansF b1 b2 nl ng SL SG, lenF (w.heap.size + 1) 10, ansSF a a1 a2 n n1 n2 R L G]) := H5
    clear H5 H0 m0 m1 m2 m3 m4 m5 m6 m7 m8 m9 f0 f1 f2 f3 f4 f5 f6 f7 f8 f9
    generalize (w2.setCell ⟨w.heap.size, 7, none⟩ (.slice b1 nl d1)).setCell ⟨w.heap.size, 8, none⟩ (.slice b2 ng d2) = w3 at H ⊢
    obtain ⟨vs, hvl, CZ⟩ := H.out.len (.tail _ (.tail _ (.head _)))
    have TH := hid_mk (by have h := CZ.there; rw [hvl] at h; exact h)
    have CE := hid_mk (CZ.sets (us := stl a n c x b1 nl d1 b2 ng d2 t) (by rw [hvl]; rfl))
    have K9 := hid_mk (KeepBut.setCells (b := w.heap.size + 1) (stl a n c x b1 nl d1 b2 ng d2 t) 0 w3)
    have hlv := hid_mk (lv_st CE.out rfl)
    have C5 := hid_mk (H.out.cel (.head _))
    have HN := hid_mk (H.out.at (f := ansF b1 b2 nl ng SL SG) (.tail _ (.head _)))
    have HA := hid_mk (H.out.ansS (.tail _ (.tail _ (.tail _ (.head _)))))
    have HB := hid_mk H.out.bel
    clear CZ CE H
    go_wp2_with (first | (refine wpList_load_mid (by rfl) 42 _ (by rfl) w.heap.size 0 (by rfl) (stl a n c x b1 nl d1 b2 ng d2 t) _ C5.out.range Tryz.underlying42 rfl sizeSt ?_) | (refine wpList_store_mid (by rfl) 42 _ _ (by rfl) (w.heap.size + 1) 0 (stl a n c x b1 nl d1 b2 ng d2 t).toArray (by rfl) (by rfl) TH.out sizeSt (stl_one _ _ _ _ _ _ _ _ _ _ _) ?_))
    refine bodyPost_ret (v := .agg (stl a n c x b1 nl d1 b2 ng d2 t).toArray) (results_cell1 Tryz.results54 (by rfl) hlv.out) rfl (HQ.out _ _ _ _ _ _ _ HD1.out ?_ ?_ (HB.out.trans (K9.out.below (B := w.heap.size) (by omega) HB.out.size)))
    · have g := (ansSF a a1 a2 n n1 n2 R L G).keep _ _ HA.out K9.out.size fun k hk ho => K9.out.block k hk (by have := HLT.out k ho; omega)
      obtain ⟨g1, g2, g3⟩ := (ansF b1 b2 nl ng SL SG).keep _ _ HN.out K9.out.size fun k hk ho => K9.out.block k hk (by have := HF.out k ho; omega)
      exact ⟨g.rs, g1, g2, fun k h1 h2 => by have := HLT.out k (.inl h1); have := HF.out k (.inl h2); omega, fun k h1 h2 => by have := HLT.out k (.inl h1); have := HF.out k (.inr h2); omega, g3⟩
    · intro k hk
      rcases hk with hk | hk | hk
      · exact .inr (.inl hk)
      · exact .inl (by have := HF.out k (.inl hk); omega)
      · exact .inl (by have := HF.out k (.inr hk); omega)
end Go.Proofs.YtpkhnajhamnggaaGreatDoor
