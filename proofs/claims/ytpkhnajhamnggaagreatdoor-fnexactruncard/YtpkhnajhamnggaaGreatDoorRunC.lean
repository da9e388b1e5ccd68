/- What Run makes of a state, as data; Run of the program at all lists, states and sweeps. The program's errors hold what its text lays. -/
import Derived.Test.YtpkhnajhamnggaaGreatDoorRunA
import Derived.Test.YtpkhnajhamnggaaGreatDoorStC
import Derived.Test.YtpkhnajhamnggaaGreatDoorIntS
namespace Go.Proofs.YtpkhnajhamnggaaGreatDoor
open Go.ChangeShapes Go.WideShapes Go.ChangeAt Go.RowKit
set_option maxRecDepth 100000

/-- What Run makes of a state. -/
def runS (Ls : List In) (s : Sd) (ms : List Int) : Sd :=
  if sokB s.R s.x s.L s.G s.t = true then (if ms.length ≤ 600 then ms.foldl (runS1 Ls) s else s) else ⟨[], wd0, [], [], 0⟩
theorem swpL_len {L : List Wd} (G : List Bool) (m : Int) (h : L.length ≤ 24) : (swpL L G m).length ≤ 24 := by
  unfold swpL
  cases mokB L G <;> cases inB m 24 <;> simp [h]
theorem keepG_len (L : List Wd) {G : List Bool} (h : G.length ≤ 24) : (keepG L G).length ≤ 24 := by
  unfold keepG
  cases mokB L G <;> simp [h]
theorem runS1_len (Ls : List In) (s : Sd) (m : Int) (h : s.R.length ≤ 24 ∧ s.L.length ≤ 24 ∧ s.G.length ≤ 24) : (runS1 Ls s m).R.length ≤ 24 ∧ (runS1 Ls s m).L.length ≤ 24 ∧ (runS1 Ls s m).G.length ≤ 24 := by
  unfold runS1
  split
  · exact stpS_len Ls s
  · exact ⟨h.1, swpL_len _ _ h.2.1, keepG_len _ h.2.2⟩
theorem fold_take {ms : List Int} {k : Nat} {m : Int} (h : ms[k]? = some m) (Ls : List In) (s : Sd) : (ms.take (k + 1)).foldl (runS1 Ls) s = runS1 Ls ((ms.take k).foldl (runS1 Ls) s) m := by
  rw [List.take_add_one, h, List.foldl_append]
  rfl

set_option maxHeartbeats 4000000 in
theorem implRun_any (a0 a1' a2' a3 : Addr) (la : Option Addr) (ln lc : Nat) (Ls : List In) (a : Option Addr) (n c : Nat) (x : Wd) (a1 : Option Addr) (n1 c1 : Nat) (a2 : Option Addr) (n2 c2 : Nat) (t : Int) (R L : List Wd) (G : List Bool) (sa : Option Addr) (sn sc : Nat) (ms : List Int) (S : Sd) (hSd : S = runS Ls ⟨R, x, L, G, t⟩ ms) (w : World) (hL : SliceI w.heap.size w la ln Ls) (hI : SliceN w.heap.size w sa sn ms) (hS : StS w a n a1 n1 a2 n2 R L G) (hE0 : Errs a0 a1' a2' a3 w) :
    Calls Tryz.prog 19 #[.slice la ln lc, .agg #[.slice a n c, .int .i64 x.n, .bool x.i, .int .i64 x.b, .int .i64 x.t, .int .i64 x.p, .int .i64 x.s, .slice a1 n1 c1, .slice a2 n2 c2, .int .i64 t], .slice sa sn sc] w fun e w' => ∃ b d b1 d1 b2 d2, e = .returned (.agg #[.slice b S.R.length d, .int .i64 S.x.n, .bool S.x.i, .int .i64 S.x.b, .int .i64 S.x.t, .int .i64 S.x.p, .int .i64 S.x.s, .slice b1 S.L.length d1, .slice b2 S.G.length d2, .int .i64 S.t]) ∧ S.L.length ≤ d1 ∧ AnsS b b1 b2 S.R.length S.L.length S.G.length S.R S.L S.G w' ∧ (∀ k, On b k ∨ On b1 k ∨ On b2 k → w.heap.size ≤ k) ∧ Below w.heap.size w w' := by
  have H : Hid (Hold w ((w.alloc (.cells (stl a n c x a1 n1 c1 a2 n2 c2 t).toArray 42)).alloc (.cells ([.slice none 0 0, .int .i64 0, .bool false, .int .i64 0, .int .i64 0, .int .i64 0, .int .i64 0, .slice none 0 0, .slice none 0 0, .int .i64 0] : List Value).toArray 42)) [lenF (w.heap.size + 1) 10, celF w.heap.size (stl a n c x a1 n1 c1 a2 n2 c2 t), argSF w.heap.size a n a1 n1 a2 n2 R L G]) := by
    have h1 := (((Hold.new w).push (argSF w.heap.size a n a1 n1 a2 n2 R L G) hS.arg).alloc (.cells (stl a n c x a1 n1 c1 a2 n2 c2 t).toArray 42)).push (celF w.heap.size (stl a n c x a1 n1 c1 a2 n2 c2 t)) (Cel.new w _ _)
    have h2 := h1.box ([.slice none 0 0, .int .i64 0, .bool false, .int .i64 0, .int .i64 0, .int .i64 0, .int .i64 0, .slice none 0 0, .slice none 0 0, .int .i64 0] : List Value) 42 (w.heap.size + 1) (by simp)
    exact h2.tail.push (lenF (w.heap.size + 1) 10) ⟨_, rfl, h2.cel (.head _)⟩
  have S1 := hid_mk (fun w h => implStateOk_any a n c x a1 n1 c1 a2 n2 c2 t R L G w h)
  generalize hw1 : (w.alloc (.cells (stl a n c x a1 n1 c1 a2 n2 c2 t).toArray 42)).alloc (.cells ([.slice none 0 0, .int .i64 0, .bool false, .int .i64 0, .int .i64 0, .int .i64 0, .int .i64 0, .slice none 0 0, .slice none 0 0, .int .i64 0] : List Value).toArray 42) = w1 at H
  cases hk : sokB R x L G t with
  | false =>
    obtain rfl : S = ⟨[], wd0, [], [], 0⟩ := by rw [hSd, runS, if_neg (by simp [hk])]
    rw [hk] at S1
    obtain ⟨Q, HQ, HQ2⟩ : ∃ Q : Ending → World → Prop, Hid (∀ w', Below w.heap.size w w' → Q (.returned (.agg ([.slice none 0 0, .int .i64 0, .bool false, .int .i64 0, .int .i64 0, .int .i64 0, .int .i64 0, .slice none 0 0, .slice none 0 0, .int .i64 0] : List Value).toArray)) w') ∧ (∀ e w', Q e w' → ∃ b d b1 d1 b2 d2, e = .returned (.agg #[.slice b (⟨[], wd0, [], [], 0⟩ : Sd).R.length d, .int .i64 (⟨[], wd0, [], [], 0⟩ : Sd).x.n, .bool (⟨[], wd0, [], [], 0⟩ : Sd).x.i, .int .i64 (⟨[], wd0, [], [], 0⟩ : Sd).x.b, .int .i64 (⟨[], wd0, [], [], 0⟩ : Sd).x.t, .int .i64 (⟨[], wd0, [], [], 0⟩ : Sd).x.p, .int .i64 (⟨[], wd0, [], [], 0⟩ : Sd).x.s, .slice b1 (⟨[], wd0, [], [], 0⟩ : Sd).L.length d1, .slice b2 (⟨[], wd0, [], [], 0⟩ : Sd).G.length d2, .int .i64 (⟨[], wd0, [], [], 0⟩ : Sd).t]) ∧ (⟨[], wd0, [], [], 0⟩ : Sd).L.length ≤ d1 ∧ AnsS b b1 b2 (⟨[], wd0, [], [], 0⟩ : Sd).R.length (⟨[], wd0, [], [], 0⟩ : Sd).L.length (⟨[], wd0, [], [], 0⟩ : Sd).G.length (⟨[], wd0, [], [], 0⟩ : Sd).R (⟨[], wd0, [], [], 0⟩ : Sd).L (⟨[], wd0, [], [], 0⟩ : Sd).G w' ∧ (∀ k, On b k ∨ On b1 k ∨ On b2 k → w.heap.size ≤ k) ∧ Below w.heap.size w w') :=
      ⟨fun e w' => ∃ b d b1 d1 b2 d2, e = .returned (.agg #[.slice b (⟨[], wd0, [], [], 0⟩ : Sd).R.length d, .int .i64 (⟨[], wd0, [], [], 0⟩ : Sd).x.n, .bool (⟨[], wd0, [], [], 0⟩ : Sd).x.i, .int .i64 (⟨[], wd0, [], [], 0⟩ : Sd).x.b, .int .i64 (⟨[], wd0, [], [], 0⟩ : Sd).x.t, .int .i64 (⟨[], wd0, [], [], 0⟩ : Sd).x.p, .int .i64 (⟨[], wd0, [], [], 0⟩ : Sd).x.s, .slice b1 (⟨[], wd0, [], [], 0⟩ : Sd).L.length d1, .slice b2 (⟨[], wd0, [], [], 0⟩ : Sd).G.length d2, .int .i64 (⟨[], wd0, [], [], 0⟩ : Sd).t]) ∧ (⟨[], wd0, [], [], 0⟩ : Sd).L.length ≤ d1 ∧ AnsS b b1 b2 (⟨[], wd0, [], [], 0⟩ : Sd).R.length (⟨[], wd0, [], [], 0⟩ : Sd).L.length (⟨[], wd0, [], [], 0⟩ : Sd).G.length (⟨[], wd0, [], [], 0⟩ : Sd).R (⟨[], wd0, [], [], 0⟩ : Sd).L (⟨[], wd0, [], [], 0⟩ : Sd).G w' ∧ (∀ k, On b k ∨ On b1 k ∨ On b2 k → w.heap.size ≤ k) ∧ Below w.heap.size w w', fun w' hb => ⟨none, 0, none, 0, none, 0, rfl, Nat.le_refl _, ⟨.inl ⟨rfl, rfl, rfl⟩, .inl ⟨rfl, rfl, rfl⟩, .inl ⟨rfl, rfl, rfl⟩, fun k h => absurd h (on_none k), fun k h => absurd h (on_none k), fun k h => absurd h (on_none k)⟩, fun k hk => (by
        rcases hk with hk | hk | hk
        · exact absurd hk (on_none k)
        · exact absurd hk (on_none k)
        · exact absurd hk (on_none k)), hb⟩, fun _ _ h => h⟩
    refine Calls.mono (R := Q) ?_ HQ2
    clear hSd hk hL hS hI HQ2 hE0
    go_enter Tryz.func19, Tryz.ntmps19
    go_upto_region 1 with fail
    clear hw1
    obtain ⟨m0, m1, m2, m3, m4, m5, m6, m7, m8, m9⟩ := (H.out.cel (.tail _ (.head _))).c10
    go_upto_region 2 with (go_at_call 41; refine (S1.out _ (H.out.argS (.tail _ (.tail _ (.head _))))).mono ?_; rintro e w2 ⟨rfl, hb⟩)
    replace H := hid_mk (H.out.next hb)
    clear hb m0 m1 m2 m3 m4 m5 m6 m7 m8 m9 S1
    obtain ⟨vs, hvl, CZ⟩ := H.out.len (.head _)
    have TH := hid_mk (by have h := CZ.there; rw [hvl] at h; exact h)
    have CE := hid_mk (CZ.sets (us := [.slice none 0 0, .int .i64 0, .bool false, .int .i64 0, .int .i64 0, .int .i64 0, .int .i64 0, .slice none 0 0, .slice none 0 0, .int .i64 0]) (by rw [hvl]; rfl))
    have K9 := hid_mk (KeepBut.setCells (b := w.heap.size + 1) ([.slice none 0 0, .int .i64 0, .bool false, .int .i64 0, .int .i64 0, .int .i64 0, .int .i64 0, .slice none 0 0, .slice none 0 0, .int .i64 0]) 0 w2)
    have hlv := hid_mk (lv_st CE.out rfl)
    have B9 := hid_mk (H.out.bel.trans (K9.out.below (B := w.heap.size) (by omega) H.out.bel.size))
    clear CZ H
    go_wp2_with (refine wpList_store_mid (by rfl) 42 _ _ (by rfl) (w.heap.size + 1) 0 ([.slice none 0 0, .int .i64 0, .bool false, .int .i64 0, .int .i64 0, .int .i64 0, .int .i64 0, .slice none 0 0, .slice none 0 0, .int .i64 0] : List Value).toArray (by rfl) (by rfl) TH.out sizeSt z10_one ?_)
    refine bodyPost_ret (v := .agg ([.slice none 0 0, .int .i64 0, .bool false, .int .i64 0, .int .i64 0, .int .i64 0, .int .i64 0, .slice none 0 0, .slice none 0 0, .int .i64 0] : List Value).toArray) (results_cell1 Tryz.results19 (by rfl) hlv.out) rfl (HQ.out _ B9.out)
  | true =>
    obtain ⟨h8, hra, hxo, hmk, ht0, ht5⟩ := sok_parts hk
    obtain ⟨h24, h24', _⟩ := mok_parts hmk
    obtain rfl : n = 8 := by rw [← hS.rs.2.1]; exact h8
    obtain rfl : n1 = 24 := by rw [← hS.mem.ws.2.1]; exact h24
    obtain rfl : n2 = 24 := by rw [← hS.mem.gs.2.1]; exact h24'
    rw [runS, if_pos hk] at hSd
    have HL := hid_mk hL
    have HI := hid_mk hI
    have HE := hid_mk hE0
    have hml := hI.2.1
    rw [hk] at S1
    have hSn := hid_mk hSd
    have h800 : Hid (R.length ≤ 24 ∧ L.length ≤ 24 ∧ G.length ≤ 24) := ⟨by omega, by omega, by omega⟩
    have h80 : Hid (8 = R.length ∧ 24 = L.length ∧ 24 = G.length) := ⟨h8.symm, h24.symm, h24'.symm⟩
    clear hSd hk hL hI hS hE0 h8 hra hxo hmk ht0 ht5 h24 h24'
    obtain ⟨Q, HQ, HQ2⟩ : ∃ Q : Ending → World → Prop, Hid (∀ nr nl ng SR SX SL SG ST b d b1 d1 b2 d2 w', (⟨SR, SX, SL, SG, ST⟩ : Sd) = S → nr = SR.length → nl = SL.length → ng = SG.length → nl ≤ d1 → AnsS b b1 b2 nr nl ng SR SL SG w' → (∀ k, On b k ∨ On b1 k ∨ On b2 k → w.heap.size ≤ k) → Below w.heap.size w w' → Q (.returned (.agg #[.slice b nr d, .int .i64 SX.n, .bool SX.i, .int .i64 SX.b, .int .i64 SX.t, .int .i64 SX.p, .int .i64 SX.s, .slice b1 nl d1, .slice b2 ng d2, .int .i64 ST])) w') ∧ (∀ e w', Q e w' → ∃ b d b1 d1 b2 d2, e = .returned (.agg #[.slice b S.R.length d, .int .i64 S.x.n, .bool S.x.i, .int .i64 S.x.b, .int .i64 S.x.t, .int .i64 S.x.p, .int .i64 S.x.s, .slice b1 S.L.length d1, .slice b2 S.G.length d2, .int .i64 S.t]) ∧ S.L.length ≤ d1 ∧ AnsS b b1 b2 S.R.length S.L.length S.G.length S.R S.L S.G w' ∧ (∀ k, On b k ∨ On b1 k ∨ On b2 k → w.heap.size ≤ k) ∧ Below w.heap.size w w') :=
      ⟨fun e w' => ∃ b d b1 d1 b2 d2, e = .returned (.agg #[.slice b S.R.length d, .int .i64 S.x.n, .bool S.x.i, .int .i64 S.x.b, .int .i64 S.x.t, .int .i64 S.x.p, .int .i64 S.x.s, .slice b1 S.L.length d1, .slice b2 S.G.length d2, .int .i64 S.t]) ∧ S.L.length ≤ d1 ∧ AnsS b b1 b2 S.R.length S.L.length S.G.length S.R S.L S.G w' ∧ (∀ k, On b k ∨ On b1 k ∨ On b2 k → w.heap.size ≤ k) ∧ Below w.heap.size w w', fun nr nl ng SR SX SL SG ST b d b1 d1 b2 d2 w' hs h5 h6 h7 h1 h2 h3 h4 => by subst hs h5 h6 h7; exact ⟨b, d, b1, d1, b2, d2, rfl, h1, h2, h3, h4⟩, fun _ _ h => h⟩
    refine Calls.mono (R := Q) ?_ HQ2
    clear HQ2
    go_enter Tryz.func19, Tryz.ntmps19
    go_upto_region 1 with fail
    clear hw1
    obtain ⟨m0, m1, m2, m3, m4, m5, m6, m7, m8, m9⟩ := (H.out.cel (.tail _ (.head _))).c10
    go_upto_region 3 with (go_at_call 41; refine (S1.out _ (H.out.argS (.tail _ (.tail _ (.head _))))).mono ?_; rintro e w2 ⟨rfl, hb⟩)
    replace H := hid_mk (H.out.next hb)
    clear hb m0 m1 m2 m3 m4 m5 m6 m7 m8 m9 S1
    obtain ⟨m0, m1, m2, m3, m4, m5, m6, m7, m8, m9⟩ := (H.out.cel (.tail _ (.head _))).c10
    have hz0 : w.heap.size + 1 < w2.heap.size := by obtain ⟨_, _, C⟩ := H.out.len (.head _); exact C.lt
    go_upto_region 4 with (go_at_call 53; refine (stateAsItWas_any a c x a1 c1 a2 c2 t R L G _ (H.out.argS (.tail _ (.tail _ (.head _))))).mono ?_; rintro e w3 ⟨b, d, b1, d1, b2, d2, rfl, hd1, hA, hf, hb⟩)
    have HD1 := hid_mk hd1
    have HLT := hid_mk (fun k hk => hA.lt (k := k) hk)
    have hz3 := hb.size
    replace H := hid_mk (((H.out.next hb).push (ansSF b b1 b2 8 24 24 R L G) hA).box (stl b 8 d x b1 24 d1 b2 24 d2 t) 42 w3.heap.size rfl)
    have HF0 := hid_mk (fun k hk => And.intro (Nat.lt_of_lt_of_le hz0 (hf k hk)) (Nat.ne_of_lt (HLT.out k hk)))
    clear hb hA hf hd1 m0 m1 m2 m3 m4 m5 m6 m7 m8 m9 HLT
    generalize w3.alloc (.cells (stl b 8 d x b1 24 d1 b2 24 d2 t : List Value).toArray 42) = wq at H ⊢
    obtain ⟨r5, hr5⟩ : ∃ r, r = w3.heap.size := ⟨_, rfl⟩
    rw [← hr5] at H HF0 hz3 ⊢
    clear hr5
    have HF : Hid (∀ k, On b k ∨ On b1 k ∨ On b2 k → w.heap.size + 1 < k ∧ k ≠ r5) := HF0.out
    have hw5 : w.heap.size + 1 < r5 := by omega
    clear hz0 hz3 HF0
    by_cases hl : sn ≤ 600
    · have hS2 : Hid (S = ms.foldl (runS1 Ls) ⟨R, x, L, G, t⟩) := by rw [hSn.out, if_pos (by omega)]; rfl
      have hsl : Hid (ms.length = sn) := hml
      clear hSn hml
      have HS : Hid (Hold w wq [celF r5 (stl b 8 d x b1 24 d1 b2 24 d2 t), ansSF b b1 b2 8 24 24 R L G, lenF (w.heap.size + 1) 10]) := H.out.sub (fun f hf => by simp only [List.mem_cons, List.not_mem_nil, or_false] at hf ⊢; rcases hf with rfl | rfl | rfl; exact .inl rfl; exact .inr (.inl rfl); exact .inr (.inr (.inl rfl)))
      clear H
      go_upto_region 6 with fail
      go_wp2_with fail
      go_loopw [22] (fun cv wr => ∃ k : Nat, k ≤ sn ∧ cv = .int .i64 (k : Int) ∧ ∃ nr nl ng SR SX SL SG ST b d b1 d1 b2 d2, Hid ((⟨SR, SX, SL, SG, ST⟩ : Sd) = (ms.take k).foldl (runS1 Ls) ⟨R, x, L, G, t⟩) ∧ Hid (nr = SR.length ∧ nl = SL.length ∧ ng = SG.length) ∧ (nr ≤ 24 ∧ nl ≤ 24 ∧ ng ≤ 24) ∧ nl ≤ d1 ∧ Hid (∀ k, On b k ∨ On b1 k ∨ On b2 k → w.heap.size + 1 < k ∧ k ≠ r5) ∧ Hid (Hold w wr [celF r5 (stl b nr d SX b1 nl d1 b2 ng d2 ST), ansSF b b1 b2 nr nl ng SR SL SG, lenF (w.heap.size + 1) 10])) (fun cv _ => sn - (intOf cv).toNat)
      case atStart => exact ⟨0, Nat.zero_le _, rfl, 8, 24, 24, R, x, L, G, t, b, d, b1, d1, b2, d2, rfl, h80, ⟨by omega, by omega, by omega⟩, HD1.out, HF, HS⟩
      case round =>
        clear HS HF HD1 h80
        obtain ⟨k, hk, rfl, nr, nl, ng, SR, SX, SL, SG, ST, b, d, b1, d1, b2, d2, HSd, HN, hle, hd1, HF, H⟩ := hrel
        obtain ⟨hl0, hl1, hl2⟩ := hle
        by_cases hlt : k < sn
        · obtain ⟨kb, o, m, rfl, hkb, hx, dm⟩ := (HI.out.keep H.out.bel).at hlt
          have HX := hid_mk hx
          obtain ⟨P, hP⟩ : ∃ P, P = runS1 Ls ⟨SR, SX, SL, SG, ST⟩ m := ⟨_, rfl⟩
          have hpl := runS1_len Ls ⟨SR, SX, SL, SG, ST⟩ m ⟨by dsimp only; have := HN.out.1; omega, by dsimp only; have := HN.out.2.1; omega, by dsimp only; have := HN.out.2.2; omega⟩
          rw [← hP] at hpl
          have ss := fun w h1 h2 h3 => stepSwept_any a0 a1' a2' a3 la ln lc Ls b nr d SX b1 nl d1 b2 ng d2 ST SR SL SG m P hP hd1 (by omega) (by omega) (by omega) w h1 h2 h3
          obtain ⟨PR, PX, PL, PG, PT⟩ := P
          dsimp only at ss hpl
          obtain ⟨pr, hpr⟩ : ∃ n, n = PR.length := ⟨_, rfl⟩
          obtain ⟨pl, hpll⟩ : ∃ n, n = PL.length := ⟨_, rfl⟩
          obtain ⟨pg, hpg⟩ : ∃ n, n = PG.length := ⟨_, rfl⟩
          simp only [← hpr, ← hpll, ← hpg] at ss hpl
          have SS := hid_mk ss
          have HP := hid_mk hP
          have HPN := hid_mk (And.intro hpr (And.intro hpll hpg))
          obtain ⟨q0, q1, q2⟩ := hpl
          clear ss hP hpr hpll hpg hx hkb
          have h5s : r5 < wr.heap.size := (H.out.cel (.head _)).lt
          obtain ⟨m0, m1, m2, m3, m4, m5, m6, m7, m8, m9⟩ := (H.out.cel (.head _)).c10
          go_upto_region 9 with fail
          go_wp2_with (go_at_call 54; refine (SS.out _ ((HL.out.below H.out.bel (Nat.le_refl _)).mono H.out.bel.size) (H.out.ansS (.tail _ (.head _))) (HE.out.below H.out.bel)).mono ?_; rintro e w9 ⟨e, f, e1, f1, e2, f2, rfl, hf1, hA, hf, hb⟩; refine Hid.out ?_)
          refine Lib.hid ?_
          have HF2 : Hid (∀ k, On e k ∨ On e1 k ∨ On e2 k → w.heap.size + 1 < k ∧ k ≠ r5) := fun k hk => by
            rcases hf k hk with h1 | h1
            · omega
            · exact HF.out k h1
          have H9 := hid_mk (((H.out.next hb).sub (gs := [celF r5 (stl b nr d SX b1 nl d1 b2 ng d2 ST), lenF (w.heap.size + 1) 10]) (fun f hf => by simp only [List.mem_cons, List.not_mem_nil, or_false] at hf ⊢; rcases hf with rfl | rfl; exact .inl rfl; exact .inr (.inr rfl))).push (ansSF e e1 e2 pr pl pg PR PL PG) hA)
          have HT : Hid (Hold w w9 [celF r5 (stl b nr d SX b1 nl d1 b2 ng d2 ST), ansSF e e1 e2 pr pl pg PR PL PG, lenF (w.heap.size + 1) 10]) := H9.out.swap
          have T5 : Hid (w9.there r5 0 10) := (HT.out.cel (.head _)).there
          have HR : Hid (Hold w (w9.setCells r5 0 (stl e pr f PX e1 pl f1 e2 pg f2 PT)) [celF r5 (stl e pr f PX e1 pl f1 e2 pg f2 PT), ansSF e e1 e2 pr pl pg PR PL PG, lenF (w.heap.size + 1) 10]) := HT.out.sets (stl e pr f PX e1 pl f1 e2 pg f2 PT) (by omega) (fun f hf k hk => by
            simp only [List.mem_cons, List.not_mem_nil, or_false] at hf
            rcases hf with rfl | rfl
            · exact (HF2.out k hk).2
            · simp only [lenF] at hk; omega) rfl
          have HNX : Hid ((⟨PR, PX, PL, PG, PT⟩ : Sd) = (ms.take (k + 1)).foldl (runS1 Ls) ⟨R, x, L, G, t⟩) := HP.out.trans (by rw [fold_take HX.out, ← HSd.out])
          clear HF H H9 HT hb hA hf m0 m1 m2 m3 m4 m5 m6 m7 m8 m9 dm SS HX HP HSd
          go_upto_region 10 with (refine wpList_store_mid (by rfl) 42 _ _ (by rfl) r5 0 (stl e pr f PX e1 pl f1 e2 pg f2 PT).toArray (by rfl) (by rfl) T5.out sizeSt (stl_one _ _ _ _ _ _ _ _ _ _ _) ?_)
          generalize w9.setCells r5 0 (stl e pr f PX e1 pl f1 e2 pg f2 PT) = wz at HR ⊢
          go_wp2
          go_roundw
          case rel => exact ⟨k + 1, hlt, by go_num, pr, pl, pg, PR, PX, PL, PG, PT, e, f, e1, f1, e2, f2, HNX, HPN, ⟨q0, q1, q2⟩, hf1, HF2, HR⟩
          case measure => simp [intOf]; omega
        · obtain rfl : k = sn := by omega
          have hs : Hid ((⟨SR, SX, SL, SG, ST⟩ : Sd) = S) := by rw [HSd.out, hS2.out, List.take_of_length_le (by have := hsl.out; omega)]; rfl
          have HD1 := hid_mk hd1
          clear HSd hS2 hd1
          go_upto_region 11 with fail
          generalize wr = wq at H ⊢
          obtain ⟨vs, hvl, CZ⟩ := H.out.len (.tail _ (.tail _ (.head _)))
          have TH := hid_mk (by have h := CZ.there; rw [hvl] at h; exact h)
          have CE := hid_mk (CZ.sets (us := stl b nr d SX b1 nl d1 b2 ng d2 ST) (by rw [hvl]; rfl))
          have K9 := hid_mk (KeepBut.setCells (b := w.heap.size + 1) (stl b nr d SX b1 nl d1 b2 ng d2 ST) 0 wq)
          have hlv := hid_mk (lv_st CE.out rfl)
          have C5 := hid_mk (H.out.cel (.head _))
          have HA := hid_mk (H.out.ansS (.tail _ (.head _)))
          have HB := hid_mk H.out.bel
          clear CZ CE H
          go_wp2_with (first | (refine wpList_load_mid (by rfl) 42 _ (by rfl) r5 0 (by rfl) (stl b nr d SX b1 nl d1 b2 ng d2 ST) _ C5.out.range Tryz.underlying42 rfl sizeSt ?_) | (refine wpList_store_mid (by rfl) 42 _ _ (by rfl) (w.heap.size + 1) 0 (stl b nr d SX b1 nl d1 b2 ng d2 ST).toArray (by rfl) (by rfl) TH.out sizeSt (stl_one _ _ _ _ _ _ _ _ _ _ _) ?_))
          refine bodyPost_ret (v := .agg (stl b nr d SX b1 nl d1 b2 ng d2 ST).toArray) (results_cell1 Tryz.results19 (by rfl) hlv.out) rfl (HQ.out _ _ _ _ _ _ _ _ _ _ _ _ _ _ _ hs.out HN.out.1 HN.out.2.1 HN.out.2.2 HD1.out ?_ (fun k hk => by have := HF.out k hk; omega) (HB.out.trans (K9.out.below (B := w.heap.size) (by omega) HB.out.size)))
          exact (ansSF b b1 b2 nr nl ng SR SL SG).keep _ _ HA.out K9.out.size fun k hk ho => K9.out.block k hk (by have := HF.out k ho; omega)
    · have hS2 : Hid ((⟨R, x, L, G, t⟩ : Sd) = S) := by rw [hSn.out, if_neg (by omega)]; rfl
      clear hSn
      go_upto_region 5 with fail
      obtain ⟨vs, hvl, CZ⟩ := H.out.len (.tail _ (.tail _ (.head _)))
      have TH := hid_mk (by have h := CZ.there; rw [hvl] at h; exact h)
      have CE := hid_mk (CZ.sets (us := stl b 8 d x b1 24 d1 b2 24 d2 t) (by rw [hvl]; rfl))
      have K9 := hid_mk (KeepBut.setCells (b := w.heap.size + 1) (stl b 8 d x b1 24 d1 b2 24 d2 t) 0 wq)
      have hlv := hid_mk (lv_st CE.out rfl)
      have C5 := hid_mk (H.out.cel (.head _))
      have HA := hid_mk (H.out.ansS (.tail _ (.head _)))
      have HB := hid_mk H.out.bel
      clear CZ CE H
      go_wp2_with (first | (refine wpList_load_mid (by rfl) 42 _ (by rfl) r5 0 (by rfl) (stl b 8 d x b1 24 d1 b2 24 d2 t) _ C5.out.range Tryz.underlying42 rfl sizeSt ?_) | (refine wpList_store_mid (by rfl) 42 _ _ (by rfl) (w.heap.size + 1) 0 (stl b 8 d x b1 24 d1 b2 24 d2 t).toArray (by rfl) (by rfl) TH.out sizeSt (stl_one _ _ _ _ _ _ _ _ _ _ _) ?_))
      refine bodyPost_ret (v := .agg (stl b 8 d x b1 24 d1 b2 24 d2 t).toArray) (results_cell1 Tryz.results19 (by rfl) hlv.out) rfl (HQ.out _ _ _ _ _ _ _ _ _ _ _ _ _ _ _ hS2.out h80.out.1 h80.out.2.1 h80.out.2.2 HD1.out ?_ (fun k hk => by have := HF.out k hk; omega) (HB.out.trans (K9.out.below (B := w.heap.size) (by omega) HB.out.size)))
      exact (ansSF b b1 b2 8 24 24 R L G).keep _ _ HA.out K9.out.size fun k hk ho => K9.out.block k hk (by have := HF.out k ho; omega)
end Go.Proofs.YtpkhnajhamnggaaGreatDoor
