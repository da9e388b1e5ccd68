/- What a step makes of a state, as data; Step of the program at all lists and states. The memory's words have room for their number; the program's errors hold what its text lays. -/
import Derived.Test.YtpkhnajhamnggaaGreatDoorStpD
namespace Go.Proofs.YtpkhnajhamnggaaGreatDoor
open Go.ChangeShapes Go.WideShapes Go.ChangeAt Go.RowKit
set_option maxRecDepth 100000

/-- A state's data. -/
structure Sd where
  R : List Wd
  x : Wd
  L : List Wd
  G : List Bool
  t : Int
/-- What a step makes of it. -/
def stpS (Ls : List In) (s : Sd) : Sd :=
  if sokB s.R s.x s.L s.G s.t = true then ⟨regA s.R (effI Ls s.R s.x s.L s.G s.t).r (effI Ls s.R s.x s.L s.G s.t).v, (effI Ls s.R s.x s.L s.G s.t).x, memA s.L (effI Ls s.R s.x s.L s.G s.t).at_ (effI Ls s.R s.x s.L s.G s.t).p, gonA s.G (effI Ls s.R s.x s.L s.G s.t).d, (effI Ls s.R s.x s.L s.G s.t).t⟩ else ⟨[], wd0, [], [], 0⟩
theorem z10_one : (([.slice none 0 0, .int .i64 0, .bool false, .int .i64 0, .int .i64 0, .int .i64 0, .int .i64 0, .slice none 0 0, .slice none 0 0, .int .i64 0] : List Value).toArray.all (·.oneCell')) = true := all_oneCell_toArray fun v hv => by
  simp only [List.mem_cons, List.not_mem_nil, or_false] at hv
  rcases hv with rfl | rfl | rfl | rfl | rfl | rfl | rfl | rfl | rfl | rfl <;> rfl
theorem okW_wd0 : okW wd0 = true := by decide +kernel
theorem okW_getD {R : List Wd} (h : R.all okW = true) (k : Nat) : okW (R.getD k wd0) = true := by
  rw [List.getD_eq_getElem?_getD]
  cases hk : R[k]? with
  | none => exact okW_wd0
  | some y => exact List.all_eq_true.1 h y (List.mem_of_getElem? hk)
theorem okW_eff {Ls : List In} {R : List Wd} {x : Wd} {L : List Wd} {G : List Bool} {t : Int} (h : R.all okW = true) : okW (effI Ls R x L G t).p = true := by
  unfold effI
  split
  · split
    · unfold effW
      split
      · unfold wrkE
        repeat' split
        all_goals first | exact okW_wd0 | exact okW_getD h _
      · exact okW_wd0
    · exact okW_wd0
  · exact okW_wd0
theorem mok_memA {L : List Wd} {G : List Bool} (h : mokB L G = true) (m : Int) {v : Wd} (hv : okW v = true) : mokB (memA L m v) G = true := by
  unfold memA
  split
  · obtain ⟨h0, h1, h2⟩ := mok_parts h
    refine mok_mk (by rw [List.length_set]; exact h0) h1 fun y hy => ?_
    rcases List.mem_or_eq_of_mem_set hy with h4 | rfl
    · exact h2 y h4
    · exact hv
  · exact h

set_option maxHeartbeats 1000000 in
theorem implStep_any (a0 a1' a2' a3 : Addr) (la : Option Addr) (ln lc : Nat) (Ls : List In) (a : Option Addr) (n c : Nat) (x : Wd) (a1 : Option Addr) (n1 c1 : Nat) (a2 : Option Addr) (n2 c2 : Nat) (t : Int) (R L : List Wd) (G : List Bool) (S : Sd) (hSd : S = stpS Ls ⟨R, x, L, G, t⟩) (hcap : n1 ≤ c1) (w : World) (hL : SliceI w.heap.size w la ln Ls) (hS : StS w a n a1 n1 a2 n2 R L G) (hE0 : Errs a0 a1' a2' a3 w) :
    Calls Tryz.prog 11 #[.slice la ln lc, .agg #[.slice a n c, .int .i64 x.n, .bool x.i, .int .i64 x.b, .int .i64 x.t, .int .i64 x.p, .int .i64 x.s, .slice a1 n1 c1, .slice a2 n2 c2, .int .i64 t]] w fun e w' => ∃ b d b1 d1 b2 d2, e = .returned (.agg #[.slice b S.R.length d, .int .i64 S.x.n, .bool S.x.i, .int .i64 S.x.b, .int .i64 S.x.t, .int .i64 S.x.p, .int .i64 S.x.s, .slice b1 S.L.length d1, .slice b2 S.G.length d2, .int .i64 S.t]) ∧ S.L.length ≤ d1 ∧ AnsS b b1 b2 S.R.length S.L.length S.G.length S.R S.L S.G w' ∧ (∀ k, On b k ∨ On b1 k ∨ On b2 k → w.heap.size ≤ k) ∧ Below w.heap.size w w' := by
  have H : Hid (Hold w ((w.alloc (.cells (stl a n c x a1 n1 c1 a2 n2 c2 t).toArray 42)).alloc (.cells ([.slice none 0 0, .int .i64 0, .bool false, .int .i64 0, .int .i64 0, .int .i64 0, .int .i64 0, .slice none 0 0, .slice none 0 0, .int .i64 0] : List Value).toArray 42)) [lenF (w.heap.size + 1) 10, celF w.heap.size (stl a n c x a1 n1 c1 a2 n2 c2 t), argSF w.heap.size a n a1 n1 a2 n2 R L G]) := by
    have h1 := (((Hold.new w).push (argSF w.heap.size a n a1 n1 a2 n2 R L G) hS.arg).alloc (.cells (stl a n c x a1 n1 c1 a2 n2 c2 t).toArray 42)).push (celF w.heap.size (stl a n c x a1 n1 c1 a2 n2 c2 t)) (Cel.new w _ _)
    have h2 := h1.box ([.slice none 0 0, .int .i64 0, .bool false, .int .i64 0, .int .i64 0, .int .i64 0, .int .i64 0, .slice none 0 0, .slice none 0 0, .int .i64 0] : List Value) 42 (w.heap.size + 1) (by simp)
    exact h2.tail.push (lenF (w.heap.size + 1) 10) ⟨_, rfl, h2.cel (.head _)⟩
  have S1 := hid_mk (fun w h => implStateOk_any a n c x a1 n1 c1 a2 n2 c2 t R L G w h)
  generalize hw1 : (w.alloc (.cells (stl a n c x a1 n1 c1 a2 n2 c2 t).toArray 42)).alloc (.cells ([.slice none 0 0, .int .i64 0, .bool false, .int .i64 0, .int .i64 0, .int .i64 0, .int .i64 0, .slice none 0 0, .slice none 0 0, .int .i64 0] : List Value).toArray 42) = w1 at H
  cases hk : sokB R x L G t with
  | false =>
    obtain rfl : S = ⟨[], wd0, [], [], 0⟩ := by rw [hSd, stpS, if_neg (by simp [hk])]
    rw [hk] at S1
    obtain ⟨Q, HQ, HQ2⟩ : ∃ Q : Ending → World → Prop, Hid (∀ w', Below w.heap.size w w' → Q (.returned (.agg ([.slice none 0 0, .int .i64 0, .bool false, .int .i64 0, .int .i64 0, .int .i64 0, .int .i64 0, .slice none 0 0, .slice none 0 0, .int .i64 0] : List Value).toArray)) w') ∧ (∀ e w', Q e w' → ∃ b d b1 d1 b2 d2, e = .returned (.agg #[.slice b (⟨[], wd0, [], [], 0⟩ : Sd).R.length d, .int .i64 (⟨[], wd0, [], [], 0⟩ : Sd).x.n, .bool (⟨[], wd0, [], [], 0⟩ : Sd).x.i, .int .i64 (⟨[], wd0, [], [], 0⟩ : Sd).x.b, .int .i64 (⟨[], wd0, [], [], 0⟩ : Sd).x.t, .int .i64 (⟨[], wd0, [], [], 0⟩ : Sd).x.p, .int .i64 (⟨[], wd0, [], [], 0⟩ : Sd).x.s, .slice b1 (⟨[], wd0, [], [], 0⟩ : Sd).L.length d1, .slice b2 (⟨[], wd0, [], [], 0⟩ : Sd).G.length d2, .int .i64 (⟨[], wd0, [], [], 0⟩ : Sd).t]) ∧ (⟨[], wd0, [], [], 0⟩ : Sd).L.length ≤ d1 ∧ AnsS b b1 b2 (⟨[], wd0, [], [], 0⟩ : Sd).R.length (⟨[], wd0, [], [], 0⟩ : Sd).L.length (⟨[], wd0, [], [], 0⟩ : Sd).G.length (⟨[], wd0, [], [], 0⟩ : Sd).R (⟨[], wd0, [], [], 0⟩ : Sd).L (⟨[], wd0, [], [], 0⟩ : Sd).G w' ∧ (∀ k, On b k ∨ On b1 k ∨ On b2 k → w.heap.size ≤ k) ∧ Below w.heap.size w w') :=
      ⟨fun e w' => ∃ b d b1 d1 b2 d2, e = .returned (.agg #[.slice b (⟨[], wd0, [], [], 0⟩ : Sd).R.length d, .int .i64 (⟨[], wd0, [], [], 0⟩ : Sd).x.n, .bool (⟨[], wd0, [], [], 0⟩ : Sd).x.i, .int .i64 (⟨[], wd0, [], [], 0⟩ : Sd).x.b, .int .i64 (⟨[], wd0, [], [], 0⟩ : Sd).x.t, .int .i64 (⟨[], wd0, [], [], 0⟩ : Sd).x.p, .int .i64 (⟨[], wd0, [], [], 0⟩ : Sd).x.s, .slice b1 (⟨[], wd0, [], [], 0⟩ : Sd).L.length d1, .slice b2 (⟨[], wd0, [], [], 0⟩ : Sd).G.length d2, .int .i64 (⟨[], wd0, [], [], 0⟩ : Sd).t]) ∧ (⟨[], wd0, [], [], 0⟩ : Sd).L.length ≤ d1 ∧ AnsS b b1 b2 (⟨[], wd0, [], [], 0⟩ : Sd).R.length (⟨[], wd0, [], [], 0⟩ : Sd).L.length (⟨[], wd0, [], [], 0⟩ : Sd).G.length (⟨[], wd0, [], [], 0⟩ : Sd).R (⟨[], wd0, [], [], 0⟩ : Sd).L (⟨[], wd0, [], [], 0⟩ : Sd).G w' ∧ (∀ k, On b k ∨ On b1 k ∨ On b2 k → w.heap.size ≤ k) ∧ Below w.heap.size w w', fun w' hb => ⟨none, 0, none, 0, none, 0, rfl, Nat.le_refl _, ⟨.inl ⟨rfl, rfl, rfl⟩, .inl ⟨rfl, rfl, rfl⟩, .inl ⟨rfl, rfl, rfl⟩, fun k h => absurd h (on_none k), fun k h => absurd h (on_none k), fun k h => absurd h (on_none k)⟩, fun k hk => (by
        rcases hk with hk | hk | hk
        · exact absurd hk (on_none k)
        · exact absurd hk (on_none k)
        · exact absurd hk (on_none k)), hb⟩, fun _ _ h => h⟩
    refine Calls.mono (R := Q) ?_ HQ2
    clear hSd hk hL hS HQ2 hE0
    go_enter Tryz.func11, Tryz.ntmps11
    go_upto_region 1 with fail
    clear hw1
    obtain ⟨m0, m1, m2, m3, m4, m5, m6, m7, m8, m9⟩ := (H.out.cel (.tail _ (.head _))).c10
    go_upto_region 2 with (go_at_call 41; refine (S1.out _ (H.out.argS (.tail _ (.tail _ (.head _))))).mono ?_; rintro e w2 ⟨rfl, hb⟩)
    replace H := hid_mk (H.out.next hb)
    clear hb m0 m1 m2 m3 m4 m5 m6 m7 m8 m9 S1
    obtain ⟨vs, hvl, CZ⟩ := H.out.len (.head _)
    have TH := hid_mk (by have h := CZ.there; rw [hvl] at h; exact h)
    have CE := hid_mk (CZ.sets (us := [.slice none 0 0, .int .i64 0, .bool false, .int .i64 0, .int .i64 0, .int .i64 0, .int .i64 0, .slice none 0 0, .slice none 0 0, .int .i64 0]) (by rw [hvl]; rfl))
    have K9 := hid_mk (KeepBut.setCells (b := w.heap.size + 1) ([.slice none 0 0, .int .i64 0, .bool false, .int .i64 0, .int .i64 0, .int .i64 0, .int .i64 0, .slice none 0 0, .slice none 0 0, .int .i64 0]) 0 w2)
    have hlv := hid_mk (lv_st CE.out rfl)
    have B9 := hid_mk (H.out.bel.trans (K9.out.below (B := w.heap.size) (by omega) H.out.bel.size))
    clear CZ H
    go_wp2_with (refine wpList_store_mid (by rfl) 42 _ _ (by rfl) (w.heap.size + 1) 0 ([.slice none 0 0, .int .i64 0, .bool false, .int .i64 0, .int .i64 0, .int .i64 0, .int .i64 0, .slice none 0 0, .slice none 0 0, .int .i64 0] : List Value).toArray (by rfl) (by rfl) TH.out sizeSt z10_one ?_)
    refine bodyPost_ret (v := .agg ([.slice none 0 0, .int .i64 0, .bool false, .int .i64 0, .int .i64 0, .int .i64 0, .int .i64 0, .slice none 0 0, .slice none 0 0, .int .i64 0] : List Value).toArray) (results_cell1 Tryz.results11 (by rfl) hlv.out) rfl (HQ.out _ B9.out)
  | true =>
    obtain ⟨h8, hra, hxo, hmk, ht0, ht5⟩ := sok_parts hk
    obtain ⟨h24, h24', _⟩ := mok_parts hmk
    obtain rfl : n = 8 := by rw [← hS.rs.2.1]; exact h8
    obtain rfl : n1 = 24 := by rw [← hS.mem.ws.2.1]; exact h24
    obtain rfl : n2 = 24 := by rw [← hS.mem.gs.2.1]; exact h24'
    obtain ⟨SR, SX, SL, SG, ST⟩ := S
    rw [stpS, if_pos hk] at hSd
    obtain ⟨E, HEE⟩ : ∃ E, Hid (E = effI Ls R x L G t) := ⟨_, rfl⟩
    rw [← HEE.out] at hSd
    injection hSd with e1 e2 e3 e4 e5
    have l8 : SR.length = 8 := by rw [e1, regA_len]; exact h8
    have l24 : SL.length = 24 := by rw [e3, memA_len]; exact h24
    have g24 : SG.length = 24 := by rw [e4, gonA_len]; exact h24'
    simp only [l8, l24, g24]
    have s3 := fun w h1 h2 h3 => effectIn_any a0 a1' a2' a3 la ln lc Ls a c x a1 24 c1 a2 24 c2 t R L G hcap w h1 h2 h3
    rw [← HEE.out] at s3
    have s4 := fun w h => turned_any a c x a1 c1 a2 c2 t E R L G hcap (by rw [HEE.out]; exact mok_memA hmk _ (okW_eff hra)) w h
    rw [← e1, ← e2, ← e3, ← e4, ← e5] at s4
    have S3 := hid_mk s3
    have S4 := hid_mk s4
    have HL := hid_mk hL
    have HE := hid_mk hE0
    rw [hk] at S1
    clear s3 s4 hk hL hS hE0 h8 hra hxo hmk ht0 ht5 h24 h24' e1 e2 e3 e4 e5 l8 l24 g24 HEE
    obtain ⟨Q, HQ, HQ2⟩ : ∃ Q : Ending → World → Prop, Hid (∀ b d b1 d1 b2 d2 w', 24 ≤ d1 → AnsS b b1 b2 8 24 24 SR SL SG w' → (∀ k, On b k ∨ On b1 k ∨ On b2 k → w.heap.size ≤ k) → Below w.heap.size w w' → Q (.returned (.agg #[.slice b 8 d, .int .i64 SX.n, .bool SX.i, .int .i64 SX.b, .int .i64 SX.t, .int .i64 SX.p, .int .i64 SX.s, .slice b1 24 d1, .slice b2 24 d2, .int .i64 ST])) w') ∧ (∀ e w', Q e w' → ∃ b d b1 d1 b2 d2, e = .returned (.agg #[.slice b 8 d, .int .i64 SX.n, .bool SX.i, .int .i64 SX.b, .int .i64 SX.t, .int .i64 SX.p, .int .i64 SX.s, .slice b1 24 d1, .slice b2 24 d2, .int .i64 ST]) ∧ 24 ≤ d1 ∧ AnsS b b1 b2 8 24 24 SR SL SG w' ∧ (∀ k, On b k ∨ On b1 k ∨ On b2 k → w.heap.size ≤ k) ∧ Below w.heap.size w w') :=
      ⟨fun e w' => ∃ b d b1 d1 b2 d2, e = .returned (.agg #[.slice b 8 d, .int .i64 SX.n, .bool SX.i, .int .i64 SX.b, .int .i64 SX.t, .int .i64 SX.p, .int .i64 SX.s, .slice b1 24 d1, .slice b2 24 d2, .int .i64 ST]) ∧ 24 ≤ d1 ∧ AnsS b b1 b2 8 24 24 SR SL SG w' ∧ (∀ k, On b k ∨ On b1 k ∨ On b2 k → w.heap.size ≤ k) ∧ Below w.heap.size w w', fun b d b1 d1 b2 d2 w' h1 h2 h3 h4 => ⟨b, d, b1, d1, b2, d2, rfl, h1, h2, h3, h4⟩, fun _ _ h => h⟩
    refine Calls.mono (R := Q) ?_ HQ2
    clear HQ2
    go_enter Tryz.func11, Tryz.ntmps11
    go_upto_region 1 with fail
    clear hw1
    obtain ⟨m0, m1, m2, m3, m4, m5, m6, m7, m8, m9⟩ := (H.out.cel (.tail _ (.head _))).c10
    go_upto_region 3 with (go_at_call 41; refine (S1.out _ (H.out.argS (.tail _ (.tail _ (.head _))))).mono ?_; rintro e w2 ⟨rfl, hb⟩)
    replace H := hid_mk (H.out.next hb)
    clear hb m0 m1 m2 m3 m4 m5 m6 m7 m8 m9 S1
    have D0 := hid_mk H.out.drew
    refine wp_region_held_drew (S := fun w' => Hold w w' [lenF (w.heap.size + 1) 10, celF w.heap.size (stl a 8 c x a1 24 c1 a2 24 c2 t), argSF w.heap.size a 8 a1 24 a2 24 R L G]) (by kernel_rfl) D0.out (fun hHeld => ?_)
    generalize w2.drew = wd at D0 hHeld ⊢
    clear H
    refine take_on (i := 0) (d := 9) (v := .agg (stl a 8 c x a1 24 c1 a2 24 c2 t).toArray) rfl rfl (by kernel_rfl) (by kernel_rfl) (by kernel_rfl) (fun _ _ _ h => h) (by rfl) ?_ hHeld ?_
    · exact fun w' hSw => exec_ldm (by rfl) (by rfl) ((show Hold w w' [lenF (w.heap.size + 1) 10, celF w.heap.size (stl a 8 c x a1 24 c1 a2 24 c2 t), argSF w.heap.size a 8 a1 24 a2 24 R L G] from hSw).cel (.tail _ (.head _))).range Tryz.underlying42 rfl sizeSt
    simp only [Act.put, List.setIfInBounds_toArray, List.set_cons_zero, List.set_cons_succ]
    refine take_on (i := 1) (d := 10) (v := .slice la ln lc) rfl rfl (by kernel_rfl) (by kernel_rfl) (by kernel_rfl) (fun _ _ _ h => h) (by rfl) ?_ hHeld ?_
    · (intro w' hSw; go_simp)
    simp only [Act.put, List.setIfInBounds_toArray, List.set_cons_zero, List.set_cons_succ]
    refine take_on (i := 2) (d := 11) (v := .agg (stl a 8 c x a1 24 c1 a2 24 c2 t).toArray) rfl rfl (by kernel_rfl) (by kernel_rfl) (by kernel_rfl) (fun _ _ _ h => h) (by rfl) ?_ hHeld ?_
    · exact fun w' hSw => exec_ldm (by rfl) (by rfl) ((show Hold w w' [lenF (w.heap.size + 1) 10, celF w.heap.size (stl a 8 c x a1 24 c1 a2 24 c2 t), argSF w.heap.size a 8 a1 24 a2 24 R L G] from hSw).cel (.tail _ (.head _))).range Tryz.underlying42 rfl sizeSt
    simp only [Act.put, List.setIfInBounds_toArray, List.set_cons_zero, List.set_cons_succ]
    refine wpAnyH_ready (rs := [3]) (by kernel_rfl) (by simp) ?_
    refine AllReadyH.cons rfl (fun K hK => ?_) AllReadyH.nil
    go_simp
    refine (S3.out _ ((HL.out.below D0.out.bel (Nat.le_refl _)).mono D0.out.bel.size) (D0.out.argS (.tail _ (.tail _ (.head _)))) (HE.out.below D0.out.bel)).mono ?_
    rintro e w3 ⟨rfl, hb⟩
    have H3 := hid_mk (D0.out.next hb)
    clear hb
    refine hK.out _ _ H3.out (fun hHeld => ?_)
    clear hK K
    (try simp only [Act.put]); (try simp only [List.setIfInBounds_toArray]); (try simp only [List.set_cons_succ]); (try simp only [List.set_cons_zero]); (try simp only [List.set_cons_succ]); (try simp only [List.set_cons_zero]); (try simp only [Nat.zero_add])
    refine wpAnyH_ready (rs := [4]) (by kernel_rfl) (by simp) ?_
    refine AllReadyH.cons rfl (fun K hK => ?_) AllReadyH.nil
    go_simp
    refine (S4.out _ (H3.out.argS (.tail _ (.tail _ (.head _))))).mono ?_
    rintro e w4 ⟨b, d, b1, d1, b2, d2, rfl, hd1, hA, hf, hb⟩
    have HD1 := hid_mk hd1
    have HF := hid_mk hf
    have hs3 : w.heap.size + 1 < w3.heap.size := by obtain ⟨_, _, C⟩ := H3.out.len (.head _); exact C.lt
    have H4 := hid_mk ((H3.out.next hb).push (ansSF b b1 b2 8 24 24 SR SL SG) hA)
    clear hb hA hf hd1
    refine hK.out _ _ H4.out.tail (fun hHeld => ?_)
    clear hK K
    (try simp only [Act.put]); (try simp only [List.setIfInBounds_toArray]); (try simp only [List.set_cons_succ]); (try simp only [List.set_cons_zero]); (try simp only [List.set_cons_succ]); (try simp only [List.set_cons_zero]); (try simp only [Nat.zero_add])
    obtain ⟨vs, hvl, CZ⟩ := H4.out.len (.tail _ (.head _))
    have TH := hid_mk (by have h := CZ.there; rw [hvl] at h; exact h)
    have CE := hid_mk (CZ.sets (us := stl b 8 d SX b1 24 d1 b2 24 d2 ST) (by rw [hvl]; rfl))
    clear CZ
    have RZ : Hid (Hold w (w4.setCells (w.heap.size + 1) 0 (stl b 8 d SX b1 24 d1 b2 24 d2 ST)) [lenF (w.heap.size + 1) 10, celF w.heap.size (stl a 8 c x a1 24 c1 a2 24 c2 t), argSF w.heap.size a 8 a1 24 a2 24 R L G]) := H4.out.tail.sets_len (stl b 8 d SX b1 24 d1 b2 24 d2 ST) (by omega) (fun f hf k hk => by
      simp only [List.mem_cons, List.not_mem_nil, or_false] at hf
      rcases hf with rfl | rfl
      · simp only [celF] at hk; omega
      · simp only [argSF] at hk; omega) rfl
    refine wpAnyH_ready (rs := [5]) (by kernel_rfl) (by simp) ?_
    refine AllReadyH.cons rfl (fun K hK => ?_) AllReadyH.nil
    refine step_stm (by rfl) 42 _ _ (by rfl) (w.heap.size + 1) 0 (stl b 8 d SX b1 24 d1 b2 24 d2 ST).toArray (by rfl) (by rfl) TH.out sizeSt (stl_one _ _ _ _ _ _ _ _ _ _ _) ?_
    refine hK.out _ _ RZ.out (fun hHeld => ?_)
    clear hK K
    refine wpAnyH_done (by kernel_rfl) ?_ _
    have K9 := hid_mk (KeepBut.setCells (b := w.heap.size + 1) (stl b 8 d SX b1 24 d1 b2 24 d2 ST) 0 w4)
    have hlv := hid_mk (lv_st CE.out rfl)
    have HA := hid_mk (H4.out.ansS (.head _))
    have HB := hid_mk H4.out.bel
    clear H4 H3 hHeld RZ TH CE D0
    dsimp only
    generalize w4.setCells (w.heap.size + 1) 0 (stl b 8 d SX b1 24 d1 b2 24 d2 ST) = w9 at K9 hlv ⊢
    go_wp2
    refine bodyPost_ret (v := .agg (stl b 8 d SX b1 24 d1 b2 24 d2 ST).toArray) (results_cell1 Tryz.results11 (by first | rfl | (simp; done)) hlv.out) rfl (HQ.out _ _ _ _ _ _ _ HD1.out ?_ (fun k hk => by have := HF.out k hk; omega) (HB.out.trans (K9.out.below (B := w.heap.size) (by omega) HB.out.size)))
    exact (ansSF b b1 b2 8 24 24 SR SL SG).keep _ _ HA.out K9.out.size fun k hk ho => K9.out.block k hk (by have := HF.out k ho; omega)
end Go.Proofs.YtpkhnajhamnggaaGreatDoor
