/- Pull of the program at all lists and cores: what it answers, in memory of its own. The program's errors hold what its text lays; no condition but that the rows are not nil. -/
import Derived.Test.YtpkhnajhamnggaaGreatDoorPulL
import Derived.Lib.Hide
namespace Go.Proofs.YtpkhnajhamnggaaGreatDoor
open Go.ChangeShapes Go.WideShapes Go.ChangeAt Go.RowKit
set_option maxRecDepth 100000

/-- A place of a list, where it lies. -/
def insF (kb o : Nat) (x : In) : Fct where
  S := fun k => k = kb
  p := fun w => InsAt w kb o x
  keep := fun w w' h hs hb => by
    have hlt : kb < w.heap.size := World.block_lt_of_cell? _ _ h.c0
    have he := hb kb hlt rfl
    exact ⟨(World.cell?_of_block (w := w) (w' := w') (a := ⟨kb, o, none⟩) he).trans h.c0, (World.cell?_of_block (w := w) (w' := w') (a := ⟨kb, o + 1, none⟩) he).trans h.c1, (World.cell?_of_block (w := w) (w' := w') (a := ⟨kb, o + 2, none⟩) he).trans h.c2, (World.cell?_of_block (w := w) (w' := w') (a := ⟨kb, o + 3, none⟩) he).trans h.c3, (World.cell?_of_block (w := w) (w' := w') (a := ⟨kb, o + 4, none⟩) he).trans h.c4⟩

set_option maxHeartbeats 40000000 in
theorem implPull_any (a0 a1 a2 a3 : Addr) (la : Option Addr) (ln lc : Nat) (LL : List In) (v : Cv) (a : Ca) (r : Cr) (w : World) (hea : ∃ q, a.ea = some ⟨q, 0, none⟩) (hja : ∃ q, a.ja = some ⟨q, 0, none⟩) (hL : SliceI w.heap.size w la ln LL) (hS : CoS w v a r) (hE0 : Errs a0 a1 a2 a3 w) :
    Calls Tryz.prog 25 #[.slice la ln lc, .agg (col v a).toArray] w fun e w' => ∃ a', e = .returned (.tuple #[.agg (col (pulV LL v r) a').toArray, .bool (pulB v r)]) ∧ AnsC (pulV LL v r) a' (pulR LL v r) w' ∧ (∀ k, OnC a' k → w.heap.size ≤ k) ∧ Below w.heap.size w w' := by
  have H : Hid (Hold w ((w.alloc (.cells (col v a).toArray 64)).alloc (.cells ([.slice none 0 0, .int .i64 0, .bool false, .int .i64 0, .int .i64 0, .int .i64 0, .int .i64 0, .slice none 0 0, .slice none 0 0, .int .i64 0, .slice none 0 0, .int .i64 0, .bool false, .int .i64 0, .int .i64 0, .int .i64 0, .int .i64 0, .bool false, .slice none 0 0] : List Value).toArray 64)) [celF (w.heap.size + 1) ([.slice none 0 0, .int .i64 0, .bool false, .int .i64 0, .int .i64 0, .int .i64 0, .int .i64 0, .slice none 0 0, .slice none 0 0, .int .i64 0, .slice none 0 0, .int .i64 0, .bool false, .int .i64 0, .int .i64 0, .int .i64 0, .int .i64 0, .bool false, .slice none 0 0] : List Value), celF w.heap.size (col v a), argCF w.heap.size v a r, sliF w.heap.size la ln LL]) := ((((Hold.new w).push (sliF w.heap.size la ln LL) ⟨hL, Nat.le_refl _⟩).push (argCF w.heap.size v a r) hS.arg).box (col v a) 64 w.heap.size rfl).box ([.slice none 0 0, .int .i64 0, .bool false, .int .i64 0, .int .i64 0, .int .i64 0, .int .i64 0, .slice none 0 0, .slice none 0 0, .int .i64 0, .slice none 0 0, .int .i64 0, .bool false, .int .i64 0, .int .i64 0, .int .i64 0, .int .i64 0, .bool false, .slice none 0 0] : List Value) 64 (w.heap.size + 1) (by simp)
  have hlens := fun h => cok_lens (a := a) h hS
  obtain ⟨V, HV⟩ : ∃ V, Hid (V = pulV LL v r) := ⟨_, rfl⟩
  obtain ⟨Rr, HR⟩ : ∃ R, Hid (R = pulR LL v r) := ⟨_, rfl⟩
  obtain ⟨Bb, HB⟩ : ∃ B, Hid (B = pulB v r) := ⟨_, rfl⟩
  rw [← HV.out, ← HR.out, ← HB.out]
  clear hS hL
  have hE := hid_mk hE0
  obtain ⟨Q, HQ, HQ2⟩ : ∃ Q : Ending → World → Prop, Hid (∀ a' w', AnsC V a' Rr w' → (∀ k, OnC a' k → w.heap.size ≤ k) → Below w.heap.size w w' → Q (.returned (.tuple #[.agg (col V a').toArray, .bool Bb])) w') ∧ (∀ e w', Q e w' → ∃ a', e = .returned (.tuple #[.agg (col V a').toArray, .bool Bb]) ∧ AnsC V a' Rr w' ∧ (∀ k, OnC a' k → w.heap.size ≤ k) ∧ Below w.heap.size w w') :=
    ⟨fun e w' => ∃ a', e = .returned (.tuple #[.agg (col V a').toArray, .bool Bb]) ∧ AnsC V a' Rr w' ∧ (∀ k, OnC a' k → w.heap.size ≤ k) ∧ Below w.heap.size w w', fun a' w' h1 h2 h3 => ⟨a', rfl, h1, h2, h3⟩, fun _ _ h => h⟩
  refine Calls.mono (R := Q) ?_ HQ2
  clear HQ2
  have s1 := fun w h => implCoreOk_any v a r w h
  obtain ⟨z, hz⟩ : ∃ z, Hid (cokC v r = z) := ⟨_, rfl⟩
  rw [hz.out] at s1
  have S1 := hid_mk s1
  clear s1
  generalize hw1 : (w.alloc (.cells (col v a).toArray 64)).alloc (.cells ([.slice none 0 0, .int .i64 0, .bool false, .int .i64 0, .int .i64 0, .int .i64 0, .int .i64 0, .slice none 0 0, .slice none 0 0, .int .i64 0, .slice none 0 0, .int .i64 0, .bool false, .int .i64 0, .int .i64 0, .int .i64 0, .int .i64 0, .bool false, .slice none 0 0] : List Value).toArray 64) = w1 at H
  go_enter Tryz.func25, Tryz.ntmps25
  go_upto_region 1 with fail
  clear hw1
  have RC := hid_mk (H.out.cel (.tail _ (.head _))).range
  cases z
  · go_upto_region 2 with (first | (refine wpList_load_mid (by rfl) 64 _ (by rfl) w.heap.size 0 (by rfl) (col v a) _ RC.out Tryz.underlying64 rfl sizeCor ?_) | (go_at_call 62; refine (S1.out _ (H.out.argC (.tail _ (.tail _ (.head _))))).mono ?_; rintro e w2 ⟨rfl, hb⟩))
    replace H := hid_mk (H.out.next hb)
    clear hb RC S1
    have hV : V = v00 := by rw [HV.out, pulV, if_neg (by rw [hz.out]; decide)]
    have hR : Rr = ⟨[], [], [], [], []⟩ := by rw [HR.out, pulR, if_neg (by rw [hz.out]; decide)]
    have hB : Bb = false := by rw [HB.out, pulB, hz.out]; rfl
    clear HV HR HB hz
    subst hV hR hB
    have C9 := hid_mk (H.out.cel (.head _))
    have C2 := hid_mk (C9.out.sets (us := col v00 a00) rfl)
    have B2 := hid_mk (below_sets (col v00 a00) H.out.bel (r := w.heap.size + 1) (by omega))
    have hlv := hid_mk (lv_cor C2.out.range)
    clear H C2
    go_wp2_with (refine wpList_store_mid (by rfl) 64 _ _ (by rfl) (w.heap.size + 1) 0 (col v00 a00).toArray (by rfl) (by rfl) C9.out.there sizeCor (col_one v00 a00) ?_)
    refine bodyPost_ret (v := .tuple #[.agg (col v00 a00).toArray, .bool false]) (results_cellT Tryz.results25 (by rfl) hlv.out (by rfl)) rfl (HQ.out a00 _ ?_ ?_ B2.out)
    · exact ⟨⟨.inl ⟨rfl, rfl, rfl⟩, .inl ⟨rfl, rfl, rfl⟩, .inl ⟨rfl, rfl, rfl⟩, fun k h => absurd h (on_none k), fun k h => absurd h (on_none k), fun k h => absurd h (on_none k)⟩, .inl ⟨rfl, rfl, rfl⟩, .inl ⟨rfl, rfl, rfl⟩, fun k h => absurd h (on_none k), fun k h => absurd h (on_none k)⟩
    · intro k hk
      rcases hk with (hk | hk | hk) | hk | hk <;> exact absurd hk (on_none k)
  · obtain ⟨rn, pc, wn, gn, t, en, nx, st, jn⟩ := v
    obtain ⟨e0, e1, e2, h6, e3, hnx, hgk⟩ := hlens hz.out
    simp only at e0 e1 e2 h6 e3 hnx
    subst e0 e1 e2 e3
    clear hlens
    have HOK := hid_mk hnx
    have HGK := hid_mk hgk
    clear hnx hgk
    go_upto_region 3 with (first | (refine wpList_load_mid (by rfl) 64 _ (by rfl) w.heap.size 0 (by rfl) (col (⟨8, pc, 24, 24, t, en, nx, st, 48⟩ : Cv) a) _ RC.out Tryz.underlying64 rfl sizeCor ?_) | (go_at_call 62; refine (S1.out _ (H.out.argC (.tail _ (.tail _ (.head _))))).mono ?_; rintro e w2 ⟨rfl, hb⟩))
    replace H := hid_mk (H.out.next hb)
    clear hb RC S1
    have RC := hid_mk (H.out.cel (.tail _ (.head _))).range
    have hz2 := (H.out.cel (.head _)).lt
    go_upto_region 4 with (first | (refine wpList_load_mid (by rfl) 64 _ (by rfl) w.heap.size 0 (by rfl) (col (⟨8, pc, 24, 24, t, en, nx, st, 48⟩ : Cv) a) _ RC.out Tryz.underlying64 rfl sizeCor ?_) | (go_at_call 63; refine (coreAsItWas_any pc t en nx st a r _ h6 hea hja (H.out.argC (.tail _ (.tail _ (.head _))))).mono ?_; rintro e w4 ⟨b, d, b1, d1, b2, d2, g, cp, j, dj, rfl, C⟩; have CC := hid_mk C; clear C; have C0 := hid_mk (Cel.new w4 ([.slice none 0 0, .int .i64 0, .bool false, .int .i64 0, .int .i64 0, .int .i64 0, .int .i64 0, .slice none 0 0, .slice none 0 0, .int .i64 0, .slice none 0 0, .int .i64 0, .bool false, .int .i64 0, .int .i64 0, .int .i64 0, .int .i64 0, .bool false, .slice none 0 0] : List Value) 64); have TH := hid_mk C0.out.there) | (refine wpList_store_mid (by rfl) 64 _ _ (by rfl) w4.heap.size 0 (col (⟨8, pc, 24, 24, t, en, nx, st, 48⟩ : Cv) (⟨b, d, b1, d1, b2, d2, some ⟨g, 0, none⟩, cp, some ⟨j, 0, none⟩, dj⟩ : Ca)).toArray (by rfl) (by rfl) TH.out sizeCor (col_one _ _) ?_))
    have BN : Hid ((∀ k, On b k ∨ On b1 k ∨ On b2 k → w.heap.size + 1 < k ∧ k < w4.heap.size ∧ k ≠ g ∧ k ≠ j) ∧ (w.heap.size + 1 < g ∧ g < w4.heap.size) ∧ (w.heap.size + 1 < j ∧ j < w4.heap.size) ∧ g ≠ j) := by
      have c1 := CC.out.fg
      have c2 := CC.out.fj
      have c3 := CC.out.es.lt
      have c4 := CC.out.js.1.lt
      have c5 := CC.out.ne
      exact ⟨fun k hk => by have h1 := CC.out.fr k hk; have h2 := CC.out.st.lt hk; omega, by omega, by omega, c5⟩
    have hb0 := below_sets (col (⟨8, pc, 24, 24, t, en, nx, st, 48⟩ : Cv) (⟨b, d, b1, d1, b2, d2, some ⟨g, 0, none⟩, cp, some ⟨j, 0, none⟩, dj⟩ : Ca)) ((Below.refl _ w4).alloc (Nat.le_refl _) (.cells ([.slice none 0 0, .int .i64 0, .bool false, .int .i64 0, .int .i64 0, .int .i64 0, .int .i64 0, .slice none 0 0, .slice none 0 0, .int .i64 0, .slice none 0 0, .int .i64 0, .bool false, .int .i64 0, .int .i64 0, .int .i64 0, .int .i64 0, .bool false, .slice none 0 0] : List Value).toArray 64)) (Nat.le_refl _)
    replace H := hid_mk ((((((H.out.next CC.out.bel).push (intF j 48 r.J) CC.out.js).push (roomEF g en cp r.E) CC.out.es).push (ansSF b b1 b2 8 24 24 r.R r.L r.G) CC.out.st).next hb0).push (celF w4.heap.size (col (⟨8, pc, 24, 24, t, en, nx, st, 48⟩ : Cv) (⟨b, d, b1, d1, b2, d2, some ⟨g, 0, none⟩, cp, some ⟨j, 0, none⟩, dj⟩ : Ca))) (C0.out.sets (us := (col (⟨8, pc, 24, 24, t, en, nx, st, 48⟩ : Cv) (⟨b, d, b1, d1, b2, d2, some ⟨g, 0, none⟩, cp, some ⟨j, 0, none⟩, dj⟩ : Ca))) rfl))
    clear hb0 CC C0 TH RC hz2
    generalize (w4.alloc (.cells ([.slice none 0 0, .int .i64 0, .bool false, .int .i64 0, .int .i64 0, .int .i64 0, .int .i64 0, .slice none 0 0, .slice none 0 0, .int .i64 0, .slice none 0 0, .int .i64 0, .bool false, .int .i64 0, .int .i64 0, .int .i64 0, .int .i64 0, .bool false, .slice none 0 0] : List Value).toArray 64)).setCells w4.heap.size 0 (col (⟨8, pc, 24, 24, t, en, nx, st, 48⟩ : Cv) (⟨b, d, b1, d1, b2, d2, some ⟨g, 0, none⟩, cp, some ⟨j, 0, none⟩, dj⟩ : Ca)) = w5 at H ⊢
    generalize w4.heap.size = r6 at H BN ⊢
    have c9 : w5.cell? ⟨w.heap.size, 9, none⟩ = some (.int .i64 t) := (H.out.cel (.tail _ (.tail _ (.tail _ (.tail _ (.tail _ (.head _))))))).c 9 _ rfl
    have c10 : w5.cell? ⟨w.heap.size, 10, none⟩ = some (.slice a.ea en a.ec) := (H.out.cel (.tail _ (.tail _ (.tail _ (.tail _ (.tail _ (.head _))))))).c 10 _ rfl
    have c17 : w5.cell? ⟨w.heap.size, 17, none⟩ = some (.bool st) := (H.out.cel (.tail _ (.tail _ (.tail _ (.tail _ (.tail _ (.head _))))))).c 17 _ rfl
    cases st
    · by_cases h66 : en = 6
      · subst h66
        have he1 : (((6 : Nat) : Int) == 6) = true := by decide
        have hst : stpB (⟨8, pc, 24, 24, t, 6, nx, false, 48⟩ : Cv) = true := by simp [stpB]
        have hV : V = (⟨8, pc, 24, 24, t, 6, nx, false, 48⟩ : Cv) := by rw [HV.out, pulV, if_pos hz.out, if_pos hst]
        have hR : r = Rr := by rw [HR.out, pulR, if_pos hz.out, if_pos hst]
        have hB : Bb = false := by rw [HB.out, pulB, hz.out, hst]; rfl
        clear HV HR HB hz hst
        subst hV hB; subst hR
        go_upto_region 5 with fail
        clear c9 c10 c17
        have PE := hid_mk (pul_end (V := (⟨8, pc, 24, 24, t, 6, nx, false, 48⟩ : Cv)) (Rr := r) (d := d) (d1 := d1) (d2 := d2) (dj := dj) (H.out.ansS (.tail _ (.head _))) (H.out.roomE (.tail _ (.tail _ (.head _)))) (H.out.at (f := intF j 48 r.J) (.tail _ (.tail _ (.tail _ (.head _))))) (fun k hk => by have h1 := BN.out.1 k hk; omega) (by have := BN.out; omega) (H.out.cel (.tail _ (.tail _ (.tail _ (.tail _ (.head _)))))) rfl H.out.bel)
        have R6 := hid_mk (H.out.cel (.head _)).range
        have T4 := hid_mk (H.out.cel (.tail _ (.tail _ (.tail _ (.tail _ (.head _)))))).there
        clear H
        go_wp2_with (first | (refine wpList_load_mid (by rfl) 64 _ (by rfl) r6 0 (by rfl) (col (⟨8, pc, 24, 24, t, 6, nx, false, 48⟩ : Cv) (⟨b, d, b1, d1, b2, d2, some ⟨g, 0, none⟩, cp, some ⟨j, 0, none⟩, dj⟩ : Ca)) _ R6.out Tryz.underlying64 rfl sizeCor ?_) | (refine wpList_store_mid (by rfl) 64 _ _ (by rfl) (w.heap.size + 1) 0 (col (⟨8, pc, 24, 24, t, 6, nx, false, 48⟩ : Cv) (⟨b, d, b1, d1, b2, d2, some ⟨g, 0, none⟩, cp, some ⟨j, 0, none⟩, dj⟩ : Ca)).toArray (by rfl) (by rfl) T4.out sizeCor (col_one _ _) ?_))
        refine bodyPost_ret (v := .tuple #[.agg (col (⟨8, pc, 24, 24, t, 6, nx, false, 48⟩ : Cv) (⟨b, d, b1, d1, b2, d2, some ⟨g, 0, none⟩, cp, some ⟨j, 0, none⟩, dj⟩ : Ca)).toArray, .bool false]) (results_cellT Tryz.results25 (by rfl) PE.out.2.2.2 (by rfl)) rfl (HQ.out (⟨b, d, b1, d1, b2, d2, some ⟨g, 0, none⟩, cp, some ⟨j, 0, none⟩, dj⟩ : Ca) _ PE.out.1 PE.out.2.1 PE.out.2.2.1)
      by_cases ht : t = 0
      · have he1 : ((en : Int) == 6) = false := by simp; omega
        have he2 : ¬ ((en : Int) = 6) := by omega
        have ht1 : (t != 0) = false := by simp [ht]
        have hst : stpB (⟨8, pc, 24, 24, t, en, nx, false, 48⟩ : Cv) = false := by simp [stpB, ht, h66]
        go_upto_region 6 with fail
        clear c9 c10 c17 he1 he2 ht1 ht
        obtain ⟨T, HT⟩ : ∃ T, Hid (T = fetT LL nx.n nx.i nx.b nx.t nx.p nx.s) := ⟨_, rfl⟩
        obtain ⟨I0, HI⟩ : ∃ I, Hid (I = fetX LL nx.n nx.i nx.b nx.t nx.p nx.s) := ⟨_, rfl⟩
        have c11 : w5.cell? ⟨w.heap.size, 11, none⟩ = some (.int .i64 nx.n) := (H.out.cel (.tail _ (.tail _ (.tail _ (.tail _ (.tail _ (.head _))))))).c 11 _ rfl
        have c12 : w5.cell? ⟨w.heap.size, 12, none⟩ = some (.bool nx.i) := (H.out.cel (.tail _ (.tail _ (.tail _ (.tail _ (.tail _ (.head _))))))).c 12 _ rfl
        have c13 : w5.cell? ⟨w.heap.size, 13, none⟩ = some (.int .i64 nx.b) := (H.out.cel (.tail _ (.tail _ (.tail _ (.tail _ (.tail _ (.head _))))))).c 13 _ rfl
        have c14 : w5.cell? ⟨w.heap.size, 14, none⟩ = some (.int .i64 nx.t) := (H.out.cel (.tail _ (.tail _ (.tail _ (.tail _ (.tail _ (.head _))))))).c 14 _ rfl
        have c15 : w5.cell? ⟨w.heap.size, 15, none⟩ = some (.int .i64 nx.p) := (H.out.cel (.tail _ (.tail _ (.tail _ (.tail _ (.tail _ (.head _))))))).c 15 _ rfl
        have c16 : w5.cell? ⟨w.heap.size, 16, none⟩ = some (.int .i64 nx.s) := (H.out.cel (.tail _ (.tail _ (.tail _ (.tail _ (.tail _ (.head _))))))).c 16 _ rfl
        have s6 := fun (w9 : World) hB h1 h2 => placeAt_any a0 a1 a2 a3 w.heap.size la ln lc LL nx.n nx.i nx.b nx.t nx.p nx.s w9 hB h1 h2
        rw [← HT.out] at s6
        have S6 := hid_mk s6
        clear s6
        have hPl : Hid (∀ P w9, PlcA w.heap.size LL nx.n nx.i nx.b nx.t nx.p nx.s P w9 → T = 0 → ∃ kb o, P = some ⟨kb, o, none⟩ ∧ kb < w.heap.size ∧ InsAt w9 kb o I0) := fun P w9 h hT => by
          rw [HI.out]
          exact h (HT.out.symm.trans hT)
        have SL : Hid (SliceI w.heap.size w5 la ln LL) := (H.out.at (f := sliF w.heap.size la ln LL) (.tail _ (.tail _ (.tail _ (.tail _ (.tail _ (.tail _ (.tail _ (.head _))))))))).1
        have EE := hid_mk (hE.out.below H.out.bel)
        go_upto_region 7 with (go_at_call 64; refine (S6.out _ H.out.bel.size SL.out EE.out).mono ?_; rintro e w7 ⟨P, rfl, hp, hb⟩)
        replace H := hid_mk (H.out.next hb)
        have PP := hid_mk hp
        clear hb hp c11 c12 c13 c14 c15 c16 S6 SL EE
        by_cases hT : T = 0
        · obtain ⟨kb, o, rfl, hkb, hin⟩ := hPl.out _ _ PP.out hT
          have KB := hid_mk hkb
          replace H := hid_mk (H.out.push (insF kb o I0) hin)
          clear hPl PP hkb hin
          have hcm : (T != 0) = false := by simp [hT]
          obtain ⟨G6, HG⟩ : ∃ G, Hid (G = pntW nx (gueN r.J nx.n)) := ⟨_, rfl⟩
          have hfin : V = (⟨8, pc, 24, 24, t, (en + 1), G6, false, 48⟩ : Cv) ∧ Rr = (⟨r.R, r.L, r.G, r.E ++ [(enG nx I0 G6)], r.J⟩ : Cr) ∧ Bb = true := by
            have hT2 : pulT LL (⟨8, pc, 24, 24, t, en, nx, false, 48⟩ : Cv) = 0 := HT.out.symm.trans hT
            refine ⟨?_, ?_, ?_⟩
            · rw [HV.out, pulV, if_pos hz.out, if_neg (by rw [hst]; decide), if_pos hT2, HG.out]; rfl
            · rw [HR.out, pulR, if_pos hz.out, if_neg (by rw [hst]; decide), if_pos hT2, HG.out, HI.out]; rfl
            · rw [HB.out, pulB, hz.out, hst]; rfl
          obtain ⟨hV, hR, hB⟩ := hfin
          clear HV HR HB hz hst
          subst hV hR hB
          go_upto_region 11 with fail
          clear hcm
          have s7 := fun w h => implGuess_any a.ja 48 a.jc r.J nx w (by decide) h (gok_wf HGK.out) (okW_wf HOK.out)
          have S7 : Hid (∀ w, SliceN w.heap.size w a.ja 48 r.J → Calls Tryz.prog 66 #[.slice a.ja 48 a.jc, .agg #[.int .i64 nx.n, .bool nx.i, .int .i64 nx.b, .int .i64 nx.t, .int .i64 nx.p, .int .i64 nx.s]] w fun e w' => e = .returned (.agg #[.int .i64 G6.n, .bool G6.i, .int .i64 G6.b, .int .i64 G6.t, .int .i64 G6.p, .int .i64 G6.s]) ∧ Below w.heap.size w w') := by rw [HG.out]; exact s7
          clear s7 HG
          have c11 : w7.cell? ⟨w.heap.size, 11, none⟩ = some (.int .i64 nx.n) := (H.out.cel (.tail _ (.tail _ (.tail _ (.tail _ (.tail _ (.tail _ (.head _)))))))).c 11 _ rfl
          have c12 : w7.cell? ⟨w.heap.size, 12, none⟩ = some (.bool nx.i) := (H.out.cel (.tail _ (.tail _ (.tail _ (.tail _ (.tail _ (.tail _ (.head _)))))))).c 12 _ rfl
          have c13 : w7.cell? ⟨w.heap.size, 13, none⟩ = some (.int .i64 nx.b) := (H.out.cel (.tail _ (.tail _ (.tail _ (.tail _ (.tail _ (.tail _ (.head _)))))))).c 13 _ rfl
          have c14 : w7.cell? ⟨w.heap.size, 14, none⟩ = some (.int .i64 nx.t) := (H.out.cel (.tail _ (.tail _ (.tail _ (.tail _ (.tail _ (.tail _ (.head _)))))))).c 14 _ rfl
          have c15 : w7.cell? ⟨w.heap.size, 15, none⟩ = some (.int .i64 nx.p) := (H.out.cel (.tail _ (.tail _ (.tail _ (.tail _ (.tail _ (.tail _ (.head _)))))))).c 15 _ rfl
          have c16 : w7.cell? ⟨w.heap.size, 16, none⟩ = some (.int .i64 nx.s) := (H.out.cel (.tail _ (.tail _ (.tail _ (.tail _ (.tail _ (.tail _ (.head _)))))))).c 16 _ rfl
          have c18 : w7.cell? ⟨w.heap.size, 18, none⟩ = some (.slice a.ja 48 a.jc) := (H.out.cel (.tail _ (.tail _ (.tail _ (.tail _ (.tail _ (.tail _ (.head _)))))))).c 18 _ rfl
          go_upto_region 12 with (first | (go_at_call 66; refine (S7.out _ (H.out.argC (.tail _ (.tail _ (.tail _ (.tail _ (.tail _ (.tail _ (.tail _ (.head _))))))))).js).mono ?_; rintro e w8 ⟨rfl, hb⟩; replace H := hid_mk (H.out.next hb); have q11 : w8.cell? ⟨r6, 11, none⟩ = some (.int .i64 nx.n) := (H.out.cel (.tail _ (.head _))).c 11 _ rfl; have q12 : w8.cell? ⟨r6, 12, none⟩ = some (.bool nx.i) := (H.out.cel (.tail _ (.head _))).c 12 _ rfl; have q13 : w8.cell? ⟨r6, 13, none⟩ = some (.int .i64 nx.b) := (H.out.cel (.tail _ (.head _))).c 13 _ rfl; have q14 : w8.cell? ⟨r6, 14, none⟩ = some (.int .i64 nx.t) := (H.out.cel (.tail _ (.head _))).c 14 _ rfl; have q15 : w8.cell? ⟨r6, 15, none⟩ = some (.int .i64 nx.p) := (H.out.cel (.tail _ (.head _))).c 15 _ rfl; have q16 : w8.cell? ⟨r6, 16, none⟩ = some (.int .i64 nx.s) := (H.out.cel (.tail _ (.head _))).c 16 _ rfl; have z11 : w8.frozen? ⟨r6, 11, none⟩ = false := (H.out.cel (.tail _ (.head _))).f 11 (by simp [col]); have z12 : w8.frozen? ⟨r6, 12, none⟩ = false := (H.out.cel (.tail _ (.head _))).f 12 (by simp [col]); have z13 : w8.frozen? ⟨r6, 13, none⟩ = false := (H.out.cel (.tail _ (.head _))).f 13 (by simp [col]); have z14 : w8.frozen? ⟨r6, 14, none⟩ = false := (H.out.cel (.tail _ (.head _))).f 14 (by simp [col]); have z15 : w8.frozen? ⟨r6, 15, none⟩ = false := (H.out.cel (.tail _ (.head _))).f 15 (by simp [col]); have z16 : w8.frozen? ⟨r6, 16, none⟩ = false := (H.out.cel (.tail _ (.head _))).f 16 (by simp [col])))
          clear hb S7 c11 c12 c13 c14 c15 c16 c18 q11 q12 q13 q14 q15 q16 z11 z12 z13 z14 z15 z16
          have DJ : ∀ f ∈ [insF kb o I0, ansSF b b1 b2 8 24 24 r.R r.L r.G, roomEF g en cp r.E, intF j 48 r.J, celF (w.heap.size + 1) ([.slice none 0 0, .int .i64 0, .bool false, .int .i64 0, .int .i64 0, .int .i64 0, .int .i64 0, .slice none 0 0, .slice none 0 0, .int .i64 0, .slice none 0 0, .int .i64 0, .bool false, .int .i64 0, .int .i64 0, .int .i64 0, .int .i64 0, .bool false, .slice none 0 0] : List Value), celF w.heap.size (col (⟨8, pc, 24, 24, t, en, nx, false, 48⟩ : Cv) a), argCF w.heap.size (⟨8, pc, 24, 24, t, en, nx, false, 48⟩ : Cv) a r, sliF w.heap.size la ln LL], ∀ k, f.S k → k ≠ r6 :=
            (fun f hf k hk e => by
              have bn := BN.out
              simp only [List.mem_cons, List.not_mem_nil, or_false] at hf
              rcases hf with rfl | rfl | rfl | rfl | rfl | rfl | rfl | rfl
              · simp only [insF] at hk; have := KB.out; omega
              · have h1 := bn.1 k hk; omega
              · simp only [roomEF] at hk; omega
              · simp only [intF] at hk; omega
              · simp only [celF] at hk; omega
              · simp only [celF] at hk; omega
              · simp only [argCF] at hk; omega
              · simp only [sliF] at hk; omega)
          replace H : Hid (Hold w ((((((w8.setCell ⟨r6, 11, none⟩ (.int .i64 G6.n)).setCell ⟨r6, 12, none⟩ (.bool G6.i)).setCell ⟨r6, 13, none⟩ (.int .i64 G6.b)).setCell ⟨r6, 14, none⟩ (.int .i64 G6.t)).setCell ⟨r6, 15, none⟩ (.int .i64 G6.p)).setCell ⟨r6, 16, none⟩ (.int .i64 G6.s)) [celF r6 (col (⟨8, pc, 24, 24, t, en, G6, false, 48⟩ : Cv) (⟨b, d, b1, d1, b2, d2, some ⟨g, 0, none⟩, cp, some ⟨j, 0, none⟩, dj⟩ : Ca)), insF kb o I0, ansSF b b1 b2 8 24 24 r.R r.L r.G, roomEF g en cp r.E, intF j 48 r.J, celF (w.heap.size + 1) ([.slice none 0 0, .int .i64 0, .bool false, .int .i64 0, .int .i64 0, .int .i64 0, .int .i64 0, .slice none 0 0, .slice none 0 0, .int .i64 0, .slice none 0 0, .int .i64 0, .bool false, .int .i64 0, .int .i64 0, .int .i64 0, .int .i64 0, .bool false, .slice none 0 0] : List Value), celF w.heap.size (col (⟨8, pc, 24, 24, t, en, nx, false, 48⟩ : Cv) a), argCF w.heap.size (⟨8, pc, 24, 24, t, en, nx, false, 48⟩ : Cv) a r, sliF w.heap.size la ln LL]) := ((((((H.out.sub (gs := [celF r6 (col (⟨8, pc, 24, 24, t, en, nx, false, 48⟩ : Cv) (⟨b, d, b1, d1, b2, d2, some ⟨g, 0, none⟩, cp, some ⟨j, 0, none⟩, dj⟩ : Ca)), insF kb o I0, ansSF b b1 b2 8 24 24 r.R r.L r.G, roomEF g en cp r.E, intF j 48 r.J, celF (w.heap.size + 1) ([.slice none 0 0, .int .i64 0, .bool false, .int .i64 0, .int .i64 0, .int .i64 0, .int .i64 0, .slice none 0 0, .slice none 0 0, .int .i64 0, .slice none 0 0, .int .i64 0, .bool false, .int .i64 0, .int .i64 0, .int .i64 0, .int .i64 0, .bool false, .slice none 0 0] : List Value), celF w.heap.size (col (⟨8, pc, 24, 24, t, en, nx, false, 48⟩ : Cv) a), argCF w.heap.size (⟨8, pc, 24, 24, t, en, nx, false, 48⟩ : Cv) a r, sliF w.heap.size la ln LL]) (fun f hf => by simp only [List.mem_cons, List.not_mem_nil, or_false] at hf ⊢; rcases hf with rfl | rfl | rfl | rfl | rfl | rfl | rfl | rfl | rfl; exact .inr (.inl rfl); exact .inl rfl; exact .inr (.inr (.inl rfl)); exact .inr (.inr (.inr (.inl rfl))); exact .inr (.inr (.inr (.inr (.inl rfl)))); exact .inr (.inr (.inr (.inr (.inr (.inl rfl))))); exact .inr (.inr (.inr (.inr (.inr (.inr (.inl rfl)))))); exact .inr (.inr (.inr (.inr (.inr (.inr (.inr (.inl rfl))))))); exact .inr (.inr (.inr (.inr (.inr (.inr (.inr (.inr rfl))))))))).setc (by have := BN.out; omega) DJ 11 _).setc (by have := BN.out; omega) DJ 12 _).setc (by have := BN.out; omega) DJ 13 _).setc (by have := BN.out; omega) DJ 14 _).setc (by have := BN.out; omega) DJ 15 _).setc (by have := BN.out; omega) DJ 16 _
          clear DJ
          generalize (((((w8.setCell ⟨r6, 11, none⟩ (.int .i64 G6.n)).setCell ⟨r6, 12, none⟩ (.bool G6.i)).setCell ⟨r6, 13, none⟩ (.int .i64 G6.b)).setCell ⟨r6, 14, none⟩ (.int .i64 G6.t)).setCell ⟨r6, 15, none⟩ (.int .i64 G6.p)).setCell ⟨r6, 16, none⟩ (.int .i64 G6.s) = w9 at H ⊢
          have D0 := hid_mk H.out.drew
          have SU : Hid (∀ w', Hold w w' [celF r6 (col (⟨8, pc, 24, 24, t, en, G6, false, 48⟩ : Cv) (⟨b, d, b1, d1, b2, d2, some ⟨g, 0, none⟩, cp, some ⟨j, 0, none⟩, dj⟩ : Ca)), celF w.heap.size (col (⟨8, pc, 24, 24, t, en, nx, false, 48⟩ : Cv) a), insF kb o I0] → ∃ u, Hold w w' [celF r6 ((col (⟨8, pc, 24, 24, t, en, G6, false, 48⟩ : Cv) (⟨b, d, b1, d1, b2, d2, some ⟨g, 0, none⟩, cp, some ⟨j, 0, none⟩, dj⟩ : Ca)).set 10 u), celF w.heap.size (col (⟨8, pc, 24, 24, t, en, nx, false, 48⟩ : Cv) a), insF kb o I0]) := fun w' h => ⟨.slice (some ⟨g, 0, none⟩) en cp, h⟩
          refine wp_region_held_drew (S := fun w' => ∃ u, Hold w w' [celF r6 ((col (⟨8, pc, 24, 24, t, en, G6, false, 48⟩ : Cv) (⟨b, d, b1, d1, b2, d2, some ⟨g, 0, none⟩, cp, some ⟨j, 0, none⟩, dj⟩ : Ca)).set 10 u), celF w.heap.size (col (⟨8, pc, 24, 24, t, en, nx, false, 48⟩ : Cv) a), insF kb o I0]) (by kernel_rfl) (SU.out _ (D0.out.sub (gs := [celF r6 (col (⟨8, pc, 24, 24, t, en, G6, false, 48⟩ : Cv) (⟨b, d, b1, d1, b2, d2, some ⟨g, 0, none⟩, cp, some ⟨j, 0, none⟩, dj⟩ : Ca)), celF w.heap.size (col (⟨8, pc, 24, 24, t, en, nx, false, 48⟩ : Cv) a), insF kb o I0]) (fun f hf => by simp only [List.mem_cons, List.not_mem_nil, or_false] at hf ⊢; rcases hf with rfl | rfl | rfl; exact .inl rfl; exact .inr (.inr (.inr (.inr (.inr (.inr (.inl rfl)))))); exact .inr (.inl rfl)))) (fun hHeld => ?_)
          generalize w9.drew = wd at D0 hHeld ⊢
          clear H
          refine take_on (i := 0) (d := 61) (v := .pointer (some ⟨r6, 10, none⟩)) rfl rfl (by kernel_rfl) (by kernel_rfl) (by kernel_rfl) (fun _ _ _ h => h) (by rfl) ?_ hHeld ?_
          · (intro w' hSw; go_simp)
          simp only [Act.put, List.setIfInBounds_toArray, List.set_cons_zero, List.set_cons_succ]
          refine take_on (i := 2) (d := 63) (v := .pointer (some ⟨w.heap.size, 11, none⟩)) rfl rfl (by kernel_rfl) (by kernel_rfl) (by kernel_rfl) (fun _ _ _ h => h) (by rfl) ?_ hHeld ?_
          · (intro w' hSw; go_simp)
          simp only [Act.put, List.setIfInBounds_toArray, List.set_cons_zero, List.set_cons_succ]
          refine take_on (i := 3) (d := 64) (v := .agg #[.int .i64 nx.n, .bool nx.i, .int .i64 nx.b, .int .i64 nx.t, .int .i64 nx.p, .int .i64 nx.s]) rfl rfl (by kernel_rfl) (by kernel_rfl) (by kernel_rfl) (fun _ _ _ h => h) (by rfl) ?_ hHeld ?_
          · (intro w' hSw; obtain ⟨u, hSx⟩ : ∃ u, Hold w w' [celF r6 ((col (⟨8, pc, 24, 24, t, en, G6, false, 48⟩ : Cv) (⟨b, d, b1, d1, b2, d2, some ⟨g, 0, none⟩, cp, some ⟨j, 0, none⟩, dj⟩ : Ca)).set 10 u), celF w.heap.size (col (⟨8, pc, 24, 24, t, en, nx, false, 48⟩ : Cv) a), insF kb o I0] := hSw; have c11 : w'.cell? ⟨w.heap.size, 11, none⟩ = some (.int .i64 nx.n) := (hSx.cel (.tail _ (.head _))).c 11 _ rfl; have c12 : w'.cell? ⟨w.heap.size, 12, none⟩ = some (.bool nx.i) := (hSx.cel (.tail _ (.head _))).c 12 _ rfl; have c13 : w'.cell? ⟨w.heap.size, 13, none⟩ = some (.int .i64 nx.b) := (hSx.cel (.tail _ (.head _))).c 13 _ rfl; have c14 : w'.cell? ⟨w.heap.size, 14, none⟩ = some (.int .i64 nx.t) := (hSx.cel (.tail _ (.head _))).c 14 _ rfl; have c15 : w'.cell? ⟨w.heap.size, 15, none⟩ = some (.int .i64 nx.p) := (hSx.cel (.tail _ (.head _))).c 15 _ rfl; have c16 : w'.cell? ⟨w.heap.size, 16, none⟩ = some (.int .i64 nx.s) := (hSx.cel (.tail _ (.head _))).c 16 _ rfl; go_simp)
          simp only [Act.put, List.setIfInBounds_toArray, List.set_cons_zero, List.set_cons_succ]
          refine take_on (i := 4) (d := 65) (v := .pointer (some ⟨kb, o, none⟩)) rfl rfl (by kernel_rfl) (by kernel_rfl) (by kernel_rfl) (fun _ _ _ h => h) (by rfl) ?_ hHeld ?_
          · (intro w' hSw; go_simp)
          simp only [Act.put, List.setIfInBounds_toArray, List.set_cons_zero, List.set_cons_succ]
          refine take_on (i := 5) (d := 66) (v := .pointer (some ⟨kb, o, none⟩)) rfl rfl (by kernel_rfl) (by kernel_rfl) (by kernel_rfl) (fun _ _ _ h => h) (by rfl) ?_ hHeld ?_
          · (intro w' hSw; go_simp)
          simp only [Act.put, List.setIfInBounds_toArray, List.set_cons_zero, List.set_cons_succ]
          refine take_on (i := 6) (d := 67) (v := .agg #[.int .i64 I0.o, .int .i64 I0.r, .int .i64 I0.a, .int .i64 I0.b, .int .i64 I0.n]) rfl rfl (by kernel_rfl) (by kernel_rfl) (by kernel_rfl) (fun _ _ _ h => h) (by rfl) ?_ hHeld ?_
          · (intro w' hSw; obtain ⟨u, hSx⟩ : ∃ u, Hold w w' [celF r6 ((col (⟨8, pc, 24, 24, t, en, G6, false, 48⟩ : Cv) (⟨b, d, b1, d1, b2, d2, some ⟨g, 0, none⟩, cp, some ⟨j, 0, none⟩, dj⟩ : Ca)).set 10 u), celF w.heap.size (col (⟨8, pc, 24, 24, t, en, nx, false, 48⟩ : Cv) a), insF kb o I0] := hSw; have hi : InsAt w' kb o I0 := hSx.at (f := insF kb o I0) (.tail _ (.tail _ (.head _))); obtain ⟨y0, y1, y2, y3, y4⟩ := hi; go_simp)
          simp only [Act.put, List.setIfInBounds_toArray, List.set_cons_zero, List.set_cons_succ]
          refine take_on (i := 7) (d := 68) (v := .pointer (some ⟨r6, 11, none⟩)) rfl rfl (by kernel_rfl) (by kernel_rfl) (by kernel_rfl) (fun _ _ _ h => h) (by rfl) ?_ hHeld ?_
          · (intro w' hSw; go_simp)
          simp only [Act.put, List.setIfInBounds_toArray, List.set_cons_zero, List.set_cons_succ]
          refine take_on (i := 8) (d := 69) (v := .agg #[.int .i64 G6.n, .bool G6.i, .int .i64 G6.b, .int .i64 G6.t, .int .i64 G6.p, .int .i64 G6.s]) rfl rfl (by kernel_rfl) (by kernel_rfl) (by kernel_rfl) (fun _ _ _ h => h) (by rfl) ?_ hHeld ?_
          · (intro w' hSw; obtain ⟨u, hSx⟩ : ∃ u, Hold w w' [celF r6 ((col (⟨8, pc, 24, 24, t, en, G6, false, 48⟩ : Cv) (⟨b, d, b1, d1, b2, d2, some ⟨g, 0, none⟩, cp, some ⟨j, 0, none⟩, dj⟩ : Ca)).set 10 u), celF w.heap.size (col (⟨8, pc, 24, 24, t, en, nx, false, 48⟩ : Cv) a), insF kb o I0] := hSw; have q11 : w'.cell? ⟨r6, 11, none⟩ = some (.int .i64 G6.n) := (hSx.cel (.head _)).c 11 _ rfl; have q12 : w'.cell? ⟨r6, 12, none⟩ = some (.bool G6.i) := (hSx.cel (.head _)).c 12 _ rfl; have q13 : w'.cell? ⟨r6, 13, none⟩ = some (.int .i64 G6.b) := (hSx.cel (.head _)).c 13 _ rfl; have q14 : w'.cell? ⟨r6, 14, none⟩ = some (.int .i64 G6.t) := (hSx.cel (.head _)).c 14 _ rfl; have q15 : w'.cell? ⟨r6, 15, none⟩ = some (.int .i64 G6.p) := (hSx.cel (.head _)).c 15 _ rfl; have q16 : w'.cell? ⟨r6, 16, none⟩ = some (.int .i64 G6.s) := (hSx.cel (.head _)).c 16 _ rfl; go_simp)
          simp only [Act.put, List.setIfInBounds_toArray, List.set_cons_zero, List.set_cons_succ]
          refine take_on (i := 9) (d := 70) (v := .agg (enl (enG nx I0 G6)).toArray) rfl rfl (by kernel_rfl) (by kernel_rfl) (by kernel_rfl) (fun _ _ _ h => h) (by rfl) ?_ hHeld ?_
          · exact fun w' _ => exec_build (by rfl) (#[(0, .agg #[.int .i64 nx.n, .bool nx.i, .int .i64 nx.b, .int .i64 nx.t, .int .i64 nx.p, .int .i64 nx.s]), (1, .agg #[.int .i64 I0.o, .int .i64 I0.r, .int .i64 I0.a, .int .i64 I0.b, .int .i64 I0.n]), (4, .agg #[.int .i64 G6.n, .bool G6.i, .int .i64 G6.b, .int .i64 G6.t, .int .i64 G6.p, .int .i64 G6.s])]) (by kernel_rfl) (run_entG nx I0 G6 w')
          simp only [Act.put, List.setIfInBounds_toArray, List.set_cons_zero, List.set_cons_succ]
          (try simp only [Act.put]); (try simp only [List.setIfInBounds_toArray]); (try simp only [List.set_cons_succ]); (try simp only [List.set_cons_zero]); (try simp only [List.set_cons_succ]); (try simp only [List.set_cons_zero]); (try simp only [Nat.zero_add])
          refine wpAnyH_ready (rs := [1, 10]) (by kernel_rfl) (by simp) ?_
          refine AllReadyH.cons rfl (fun K hK => ?_) (AllReadyH.cons rfl (fun K hK => ?_) AllReadyH.nil)
          · have q10 : wd.cell? ⟨r6, 10, none⟩ = some (.slice (some ⟨g, 0, none⟩) en cp) := (D0.out.cel (.head _)).c 10 _ rfl
            go_simp
            clear q10
            refine hK.out _ _ (SU.out _ (D0.out.sub (gs := [celF r6 (col (⟨8, pc, 24, 24, t, en, G6, false, 48⟩ : Cv) (⟨b, d, b1, d1, b2, d2, some ⟨g, 0, none⟩, cp, some ⟨j, 0, none⟩, dj⟩ : Ca)), celF w.heap.size (col (⟨8, pc, 24, 24, t, en, nx, false, 48⟩ : Cv) a), insF kb o I0]) (fun f hf => by simp only [List.mem_cons, List.not_mem_nil, or_false] at hf ⊢; rcases hf with rfl | rfl | rfl; exact .inl rfl; exact .inr (.inr (.inr (.inr (.inr (.inr (.inl rfl)))))); exact .inr (.inl rfl)))) (fun hHeld => ?_)
            clear hK K
            (try simp only [Act.put]); (try simp only [List.setIfInBounds_toArray]); (try simp only [List.set_cons_succ]); (try simp only [List.set_cons_zero]); (try simp only [List.set_cons_succ]); (try simp only [List.set_cons_zero]); (try simp only [Nat.zero_add])
            refine wpAnyH_ready (rs := [10]) (by kernel_rfl) (by simp) ?_
            refine AllReadyH.cons rfl (fun K hK => ?_) AllReadyH.nil
            refine step_entS (by rfl) _ (by rfl) (enG nx I0 G6) (by rfl) ?_
            have J2 := hid_mk (D0.out.box (enl (enG nx I0 G6)) 104 wd.heap.size rfl)
            refine hK.out _ _ (SU.out _ (J2.out.sub (gs := [celF r6 (col (⟨8, pc, 24, 24, t, en, G6, false, 48⟩ : Cv) (⟨b, d, b1, d1, b2, d2, some ⟨g, 0, none⟩, cp, some ⟨j, 0, none⟩, dj⟩ : Ca)), celF w.heap.size (col (⟨8, pc, 24, 24, t, en, nx, false, 48⟩ : Cv) a), insF kb o I0]) (fun f hf => by simp only [List.mem_cons, List.not_mem_nil, or_false] at hf ⊢; rcases hf with rfl | rfl | rfl; exact .inr (.inl rfl); exact .inr (.inr (.inr (.inr (.inr (.inr (.inr (.inl rfl))))))); exact .inr (.inr (.inl rfl))))) (fun hHeld => ?_)
            clear hK K
            (try simp only [Act.put]); (try simp only [List.setIfInBounds_toArray]); (try simp only [List.set_cons_succ]); (try simp only [List.set_cons_zero]); (try simp only [List.set_cons_succ]); (try simp only [List.set_cons_zero]); (try simp only [Nat.zero_add])
            have hrx : r6 < wd.heap.size := (D0.out.cel (.head _)).lt
            generalize wd.alloc (.cells (enl (enG nx I0 G6)).toArray 104) = v2 at J2 hHeld ⊢
            generalize wd.heap.size = rx at J2 hrx hHeld ⊢
            refine wpAnyH_ready (rs := [11]) (by kernel_rfl) (by simp) ?_
            refine AllReadyH.cons rfl (fun K hK => ?_) AllReadyH.nil
            refine step_appEr (by rfl) _ _ (by rfl) g en cp r.E (by rfl) (J2.out.roomE (.tail _ (.tail _ (.tail _ (.tail _ (.head _)))))) (some ⟨rx, 0, none⟩) 1 1 [(enG nx I0 G6)] (by rfl) rfl (fun h => by cases h) (ent_src (J2.out.cel (.head _)).range) (en + 1) rfl (by omega) ?_
            intro g2 cp2 v3 hO hg2 hcp2 hk9
            have J3 := hid_mk (((J2.out.sub (gs := [celF r6 (col (⟨8, pc, 24, 24, t, en, G6, false, 48⟩ : Cv) (⟨b, d, b1, d1, b2, d2, some ⟨g, 0, none⟩, cp, some ⟨j, 0, none⟩, dj⟩ : Ca)), insF kb o I0, ansSF b b1 b2 8 24 24 r.R r.L r.G, intF j 48 r.J, celF (w.heap.size + 1) ([.slice none 0 0, .int .i64 0, .bool false, .int .i64 0, .int .i64 0, .int .i64 0, .int .i64 0, .slice none 0 0, .slice none 0 0, .int .i64 0, .slice none 0 0, .int .i64 0, .bool false, .int .i64 0, .int .i64 0, .int .i64 0, .int .i64 0, .bool false, .slice none 0 0] : List Value), celF w.heap.size (col (⟨8, pc, 24, 24, t, en, nx, false, 48⟩ : Cv) a), argCF w.heap.size (⟨8, pc, 24, 24, t, en, nx, false, 48⟩ : Cv) a r, sliF w.heap.size la ln LL]) (fun f hf => by simp only [List.mem_cons, List.not_mem_nil, or_false] at hf ⊢; rcases hf with rfl | rfl | rfl | rfl | rfl | rfl | rfl | rfl; exact .inr (.inl rfl); exact .inr (.inr (.inl rfl)); exact .inr (.inr (.inr (.inl rfl))); exact .inr (.inr (.inr (.inr (.inr (.inl rfl))))); exact .inr (.inr (.inr (.inr (.inr (.inr (.inl rfl)))))); exact .inr (.inr (.inr (.inr (.inr (.inr (.inr (.inl rfl))))))); exact .inr (.inr (.inr (.inr (.inr (.inr (.inr (.inr (.inl rfl)))))))); exact .inr (.inr (.inr (.inr (.inr (.inr (.inr (.inr (.inr rfl)))))))))).wrote (T := fun k => k = g) (KeptS.ofBut hk9 rfl) (fun k e => by have := BN.out; omega)
              (fun f hf k hk e => by
                have bn := BN.out
                simp only [List.mem_cons, List.not_mem_nil, or_false] at hf
                rcases hf with rfl | rfl | rfl | rfl | rfl | rfl | rfl | rfl
                · simp only [celF] at hk; omega
                · simp only [insF] at hk; have := KB.out; omega
                · have h1 := bn.1 k hk; omega
                · simp only [intF] at hk; omega
                · simp only [celF] at hk; omega
                · simp only [celF] at hk; omega
                · simp only [argCF] at hk; omega
                · simp only [sliF] at hk; omega
                )).push (roomEF g2 (en + 1) cp2 (r.E ++ [(enG nx I0 G6)])) hO)
            have hlx := (J2.out.cel (.tail _ (.head _))).lt
            have BM : Hid (g2 = g ∨ r6 < g2) := by rcases hg2 with h | h; exact .inl h; exact .inr (by omega)
            clear hk9 hO hg2 hlx
            refine hK.out _ _ (SU.out _ (J3.out.sub (gs := [celF r6 (col (⟨8, pc, 24, 24, t, en, G6, false, 48⟩ : Cv) (⟨b, d, b1, d1, b2, d2, some ⟨g, 0, none⟩, cp, some ⟨j, 0, none⟩, dj⟩ : Ca)), celF w.heap.size (col (⟨8, pc, 24, 24, t, en, nx, false, 48⟩ : Cv) a), insF kb o I0]) (fun f hf => by simp only [List.mem_cons, List.not_mem_nil, or_false] at hf ⊢; rcases hf with rfl | rfl | rfl; exact .inr (.inl rfl); exact .inr (.inr (.inr (.inr (.inr (.inr (.inl rfl)))))); exact .inr (.inr (.inl rfl))))) (fun hHeld => ?_)
            clear hK K
            (try simp only [Act.put]); (try simp only [List.setIfInBounds_toArray]); (try simp only [List.set_cons_succ]); (try simp only [List.set_cons_zero]); (try simp only [List.set_cons_succ]); (try simp only [List.set_cons_zero]); (try simp only [Nat.zero_add])
            refine take_on (i := 12) (d := 73) (v := .pointer (some ⟨r6, 10, none⟩)) rfl rfl (by kernel_rfl) (by kernel_rfl) (by kernel_rfl) (fun _ _ _ h => h) (by rfl) ?_ hHeld ?_
            · (intro w' hSw; go_simp)
            (try simp only [Act.put]); (try simp only [List.setIfInBounds_toArray]); (try simp only [List.set_cons_succ]); (try simp only [List.set_cons_zero]); (try simp only [List.set_cons_succ]); (try simp only [List.set_cons_zero]); (try simp only [Nat.zero_add])
            refine wpAnyH_ready (rs := [13]) (by kernel_rfl) (by simp) ?_
            refine AllReadyH.cons rfl (fun K hK => ?_) AllReadyH.nil
            have q10 : v3.cell? ⟨r6, 10, none⟩ = some (.slice (some ⟨g, 0, none⟩) en cp) := (J3.out.cel (.tail _ (.head _))).c 10 _ rfl
            have z10 : v3.frozen? ⟨r6, 10, none⟩ = false := (J3.out.cel (.tail _ (.head _))).f 10 (by simp [col])
            go_simp
            clear q10 z10
            have BO : Hid ((∀ k, On b k ∨ On b1 k ∨ On b2 k → w.heap.size + 1 < k ∧ k < r6 ∧ k ≠ g2 ∧ k ≠ j) ∧ w.heap.size + 1 < g2 ∧ g2 ≠ r6 ∧ (w.heap.size + 1 < j ∧ j < r6) ∧ g2 ≠ j) := by
              have b0 := BN.out
              have b1 := BM.out
              exact ⟨fun k hk => by have := b0.1 k hk; omega, by omega, by omega, by omega, by omega⟩
            have BP := hid_mk BN.out.2.1
            clear BM
            have J4 : Hid (Hold w (v3.setCell ⟨r6, 10, none⟩ (.slice (some ⟨g2, 0, none⟩) (en + 1) cp2)) [celF r6 (col (⟨8, pc, 24, 24, t, (en + 1), G6, false, 48⟩ : Cv) (⟨b, d, b1, d1, b2, d2, some ⟨g2, 0, none⟩, cp2, some ⟨j, 0, none⟩, dj⟩ : Ca)), roomEF g2 (en + 1) cp2 (r.E ++ [(enG nx I0 G6)]), insF kb o I0, ansSF b b1 b2 8 24 24 r.R r.L r.G, intF j 48 r.J, celF (w.heap.size + 1) ([.slice none 0 0, .int .i64 0, .bool false, .int .i64 0, .int .i64 0, .int .i64 0, .int .i64 0, .slice none 0 0, .slice none 0 0, .int .i64 0, .slice none 0 0, .int .i64 0, .bool false, .int .i64 0, .int .i64 0, .int .i64 0, .int .i64 0, .bool false, .slice none 0 0] : List Value), celF w.heap.size (col (⟨8, pc, 24, 24, t, en, nx, false, 48⟩ : Cv) a), argCF w.heap.size (⟨8, pc, 24, 24, t, en, nx, false, 48⟩ : Cv) a r, sliF w.heap.size la ln LL]) := (J3.out.sub (gs := [celF r6 (col (⟨8, pc, 24, 24, t, en, G6, false, 48⟩ : Cv) (⟨b, d, b1, d1, b2, d2, some ⟨g, 0, none⟩, cp, some ⟨j, 0, none⟩, dj⟩ : Ca)), roomEF g2 (en + 1) cp2 (r.E ++ [(enG nx I0 G6)]), insF kb o I0, ansSF b b1 b2 8 24 24 r.R r.L r.G, intF j 48 r.J, celF (w.heap.size + 1) ([.slice none 0 0, .int .i64 0, .bool false, .int .i64 0, .int .i64 0, .int .i64 0, .int .i64 0, .slice none 0 0, .slice none 0 0, .int .i64 0, .slice none 0 0, .int .i64 0, .bool false, .int .i64 0, .int .i64 0, .int .i64 0, .int .i64 0, .bool false, .slice none 0 0] : List Value), celF w.heap.size (col (⟨8, pc, 24, 24, t, en, nx, false, 48⟩ : Cv) a), argCF w.heap.size (⟨8, pc, 24, 24, t, en, nx, false, 48⟩ : Cv) a r, sliF w.heap.size la ln LL]) (fun f hf => by simp only [List.mem_cons, List.not_mem_nil, or_false] at hf ⊢; rcases hf with rfl | rfl | rfl | rfl | rfl | rfl | rfl | rfl | rfl; exact .inr (.inl rfl); exact .inl rfl; exact .inr (.inr (.inl rfl)); exact .inr (.inr (.inr (.inl rfl))); exact .inr (.inr (.inr (.inr (.inl rfl)))); exact .inr (.inr (.inr (.inr (.inr (.inl rfl))))); exact .inr (.inr (.inr (.inr (.inr (.inr (.inl rfl)))))); exact .inr (.inr (.inr (.inr (.inr (.inr (.inr (.inl rfl))))))); exact .inr (.inr (.inr (.inr (.inr (.inr (.inr (.inr rfl))))))))).setc (by have := BP.out; omega) (fun f hf k hk e => by
              have bn := BO.out
              have bp := BP.out
              simp only [List.mem_cons, List.not_mem_nil, or_false] at hf
              rcases hf with rfl | rfl | rfl | rfl | rfl | rfl | rfl | rfl
              · simp only [roomEF] at hk; omega
              · simp only [insF] at hk; have := KB.out; omega
              · have h1 := bn.1 k hk; omega
              · simp only [intF] at hk; omega
              · simp only [celF] at hk; omega
              · simp only [celF] at hk; omega
              · simp only [argCF] at hk; omega
              · simp only [sliF] at hk; omega) 10 _
            refine hK.out _ _ ⟨.slice (some ⟨g2, 0, none⟩) (en + 1) cp2, J4.out.sub (gs := [celF r6 (col (⟨8, pc, 24, 24, t, (en + 1), G6, false, 48⟩ : Cv) (⟨b, d, b1, d1, b2, d2, some ⟨g2, 0, none⟩, cp2, some ⟨j, 0, none⟩, dj⟩ : Ca)), celF w.heap.size (col (⟨8, pc, 24, 24, t, en, nx, false, 48⟩ : Cv) a), insF kb o I0]) (fun f hf => by simp only [List.mem_cons, List.not_mem_nil, or_false] at hf ⊢; rcases hf with rfl | rfl | rfl; exact .inl rfl; exact .inr (.inr (.inr (.inr (.inr (.inr (.inl rfl)))))); exact .inr (.inr (.inl rfl)))⟩ (fun hHeld => ?_)
            clear hK K
            refine wpAnyH_done (by kernel_rfl) ?_ _
            clear hHeld SU D0 BP
            try dsimp only
            generalize v3.setCell ⟨r6, 10, none⟩ (.slice (some ⟨g2, 0, none⟩) (en + 1) cp2) = w10 at J4 ⊢
            go_upto_region 13 with fail
            have H := J4
            clear J4
            have PE := hid_mk (pul_end (V := (⟨8, pc, 24, 24, t, (en + 1), G6, false, 48⟩ : Cv)) (Rr := (Cr.mk r.R r.L r.G (r.E ++ [(enG nx I0 G6)]) r.J)) (d := d) (d1 := d1) (d2 := d2) (dj := dj) (H.out.ansS (.tail _ (.tail _ (.tail _ (.head _))))) (H.out.roomE (.tail _ (.head _))) (H.out.at (f := intF j 48 r.J) (.tail _ (.tail _ (.tail _ (.tail _ (.head _)))))) (fun k hk => by have h1 := BO.out.1 k hk; omega) (by have := BO.out; omega) (H.out.cel (.tail _ (.tail _ (.tail _ (.tail _ (.tail _ (.head _))))))) rfl H.out.bel)
            have R6 := hid_mk (H.out.cel (.head _)).range
            have T4 := hid_mk (H.out.cel (.tail _ (.tail _ (.tail _ (.tail _ (.tail _ (.head _))))))).there
            clear H
            go_wp2_with (first | (refine wpList_load_mid (by rfl) 64 _ (by rfl) r6 0 (by rfl) (col (⟨8, pc, 24, 24, t, (en + 1), G6, false, 48⟩ : Cv) (⟨b, d, b1, d1, b2, d2, some ⟨g2, 0, none⟩, cp2, some ⟨j, 0, none⟩, dj⟩ : Ca)) _ R6.out Tryz.underlying64 rfl sizeCor ?_) | (refine wpList_store_mid (by rfl) 64 _ _ (by rfl) (w.heap.size + 1) 0 (col (⟨8, pc, 24, 24, t, (en + 1), G6, false, 48⟩ : Cv) (⟨b, d, b1, d1, b2, d2, some ⟨g2, 0, none⟩, cp2, some ⟨j, 0, none⟩, dj⟩ : Ca)).toArray (by rfl) (by rfl) T4.out sizeCor (col_one _ _) ?_))
            refine bodyPost_ret (v := .tuple #[.agg (col (⟨8, pc, 24, 24, t, (en + 1), G6, false, 48⟩ : Cv) (⟨b, d, b1, d1, b2, d2, some ⟨g2, 0, none⟩, cp2, some ⟨j, 0, none⟩, dj⟩ : Ca)).toArray, .bool true]) (results_cellT Tryz.results25 (by rfl) PE.out.2.2.2 (by rfl)) rfl (HQ.out (⟨b, d, b1, d1, b2, d2, some ⟨g2, 0, none⟩, cp2, some ⟨j, 0, none⟩, dj⟩ : Ca) _ PE.out.1 PE.out.2.1 PE.out.2.2.1)
          · refine step_entS (by rfl) _ (by rfl) (enG nx I0 G6) (by rfl) ?_
            have J1 := hid_mk (D0.out.box (enl (enG nx I0 G6)) 104 wd.heap.size rfl)
            refine hK.out _ _ (SU.out _ (J1.out.sub (gs := [celF r6 (col (⟨8, pc, 24, 24, t, en, G6, false, 48⟩ : Cv) (⟨b, d, b1, d1, b2, d2, some ⟨g, 0, none⟩, cp, some ⟨j, 0, none⟩, dj⟩ : Ca)), celF w.heap.size (col (⟨8, pc, 24, 24, t, en, nx, false, 48⟩ : Cv) a), insF kb o I0]) (fun f hf => by simp only [List.mem_cons, List.not_mem_nil, or_false] at hf ⊢; rcases hf with rfl | rfl | rfl; exact .inr (.inl rfl); exact .inr (.inr (.inr (.inr (.inr (.inr (.inr (.inl rfl))))))); exact .inr (.inr (.inl rfl))))) (fun hHeld => ?_)
            clear hK K
            (try simp only [Act.put]); (try simp only [List.setIfInBounds_toArray]); (try simp only [List.set_cons_succ]); (try simp only [List.set_cons_zero]); (try simp only [List.set_cons_succ]); (try simp only [List.set_cons_zero]); (try simp only [Nat.zero_add])
            have hrx : r6 < wd.heap.size := (D0.out.cel (.head _)).lt
            generalize wd.alloc (.cells (enl (enG nx I0 G6)).toArray 104) = v1 at J1 hHeld ⊢
            generalize wd.heap.size = rx at J1 hrx hHeld ⊢
            refine wpAnyH_ready (rs := [1]) (by kernel_rfl) (by simp) ?_
            refine AllReadyH.cons rfl (fun K hK => ?_) AllReadyH.nil
            have q10 : v1.cell? ⟨r6, 10, none⟩ = some (.slice (some ⟨g, 0, none⟩) en cp) := (J1.out.cel (.tail _ (.head _))).c 10 _ rfl
            go_simp
            clear q10
            refine hK.out _ _ (SU.out _ (J1.out.sub (gs := [celF r6 (col (⟨8, pc, 24, 24, t, en, G6, false, 48⟩ : Cv) (⟨b, d, b1, d1, b2, d2, some ⟨g, 0, none⟩, cp, some ⟨j, 0, none⟩, dj⟩ : Ca)), celF w.heap.size (col (⟨8, pc, 24, 24, t, en, nx, false, 48⟩ : Cv) a), insF kb o I0]) (fun f hf => by simp only [List.mem_cons, List.not_mem_nil, or_false] at hf ⊢; rcases hf with rfl | rfl | rfl; exact .inr (.inl rfl); exact .inr (.inr (.inr (.inr (.inr (.inr (.inr (.inl rfl))))))); exact .inr (.inr (.inl rfl))))) (fun hHeld => ?_)
            clear hK K
            (try simp only [Act.put]); (try simp only [List.setIfInBounds_toArray]); (try simp only [List.set_cons_succ]); (try simp only [List.set_cons_zero]); (try simp only [List.set_cons_succ]); (try simp only [List.set_cons_zero]); (try simp only [Nat.zero_add])
            refine wpAnyH_ready (rs := [11]) (by kernel_rfl) (by simp) ?_
            refine AllReadyH.cons rfl (fun K hK => ?_) AllReadyH.nil
            refine step_appEr (by rfl) _ _ (by rfl) g en cp r.E (by rfl) (J1.out.roomE (.tail _ (.tail _ (.tail _ (.tail _ (.head _)))))) (some ⟨rx, 0, none⟩) 1 1 [(enG nx I0 G6)] (by rfl) rfl (fun h => by cases h) (ent_src (J1.out.cel (.head _)).range) (en + 1) rfl (by omega) ?_
            intro g2 cp2 v3 hO hg2 hcp2 hk9
            have J3 := hid_mk (((J1.out.sub (gs := [celF r6 (col (⟨8, pc, 24, 24, t, en, G6, false, 48⟩ : Cv) (⟨b, d, b1, d1, b2, d2, some ⟨g, 0, none⟩, cp, some ⟨j, 0, none⟩, dj⟩ : Ca)), insF kb o I0, ansSF b b1 b2 8 24 24 r.R r.L r.G, intF j 48 r.J, celF (w.heap.size + 1) ([.slice none 0 0, .int .i64 0, .bool false, .int .i64 0, .int .i64 0, .int .i64 0, .int .i64 0, .slice none 0 0, .slice none 0 0, .int .i64 0, .slice none 0 0, .int .i64 0, .bool false, .int .i64 0, .int .i64 0, .int .i64 0, .int .i64 0, .bool false, .slice none 0 0] : List Value), celF w.heap.size (col (⟨8, pc, 24, 24, t, en, nx, false, 48⟩ : Cv) a), argCF w.heap.size (⟨8, pc, 24, 24, t, en, nx, false, 48⟩ : Cv) a r, sliF w.heap.size la ln LL]) (fun f hf => by simp only [List.mem_cons, List.not_mem_nil, or_false] at hf ⊢; rcases hf with rfl | rfl | rfl | rfl | rfl | rfl | rfl | rfl; exact .inr (.inl rfl); exact .inr (.inr (.inl rfl)); exact .inr (.inr (.inr (.inl rfl))); exact .inr (.inr (.inr (.inr (.inr (.inl rfl))))); exact .inr (.inr (.inr (.inr (.inr (.inr (.inl rfl)))))); exact .inr (.inr (.inr (.inr (.inr (.inr (.inr (.inl rfl))))))); exact .inr (.inr (.inr (.inr (.inr (.inr (.inr (.inr (.inl rfl)))))))); exact .inr (.inr (.inr (.inr (.inr (.inr (.inr (.inr (.inr rfl)))))))))).wrote (T := fun k => k = g) (KeptS.ofBut hk9 rfl) (fun k e => by have := BN.out; omega)
              (fun f hf k hk e => by
                have bn := BN.out
                simp only [List.mem_cons, List.not_mem_nil, or_false] at hf
                rcases hf with rfl | rfl | rfl | rfl | rfl | rfl | rfl | rfl
                · simp only [celF] at hk; omega
                · simp only [insF] at hk; have := KB.out; omega
                · have h1 := bn.1 k hk; omega
                · simp only [intF] at hk; omega
                · simp only [celF] at hk; omega
                · simp only [celF] at hk; omega
                · simp only [argCF] at hk; omega
                · simp only [sliF] at hk; omega
                )).push (roomEF g2 (en + 1) cp2 (r.E ++ [(enG nx I0 G6)])) hO)
            have hlx := (J1.out.cel (.tail _ (.head _))).lt
            have BM : Hid (g2 = g ∨ r6 < g2) := by rcases hg2 with h | h; exact .inl h; exact .inr (by omega)
            clear hk9 hO hg2 hlx
            refine hK.out _ _ (SU.out _ (J3.out.sub (gs := [celF r6 (col (⟨8, pc, 24, 24, t, en, G6, false, 48⟩ : Cv) (⟨b, d, b1, d1, b2, d2, some ⟨g, 0, none⟩, cp, some ⟨j, 0, none⟩, dj⟩ : Ca)), celF w.heap.size (col (⟨8, pc, 24, 24, t, en, nx, false, 48⟩ : Cv) a), insF kb o I0]) (fun f hf => by simp only [List.mem_cons, List.not_mem_nil, or_false] at hf ⊢; rcases hf with rfl | rfl | rfl; exact .inr (.inl rfl); exact .inr (.inr (.inr (.inr (.inr (.inr (.inl rfl)))))); exact .inr (.inr (.inl rfl))))) (fun hHeld => ?_)
            clear hK K
            (try simp only [Act.put]); (try simp only [List.setIfInBounds_toArray]); (try simp only [List.set_cons_succ]); (try simp only [List.set_cons_zero]); (try simp only [List.set_cons_succ]); (try simp only [List.set_cons_zero]); (try simp only [Nat.zero_add])
            refine take_on (i := 12) (d := 73) (v := .pointer (some ⟨r6, 10, none⟩)) rfl rfl (by kernel_rfl) (by kernel_rfl) (by kernel_rfl) (fun _ _ _ h => h) (by rfl) ?_ hHeld ?_
            · (intro w' hSw; go_simp)
            (try simp only [Act.put]); (try simp only [List.setIfInBounds_toArray]); (try simp only [List.set_cons_succ]); (try simp only [List.set_cons_zero]); (try simp only [List.set_cons_succ]); (try simp only [List.set_cons_zero]); (try simp only [Nat.zero_add])
            refine wpAnyH_ready (rs := [13]) (by kernel_rfl) (by simp) ?_
            refine AllReadyH.cons rfl (fun K hK => ?_) AllReadyH.nil
            have q10 : v3.cell? ⟨r6, 10, none⟩ = some (.slice (some ⟨g, 0, none⟩) en cp) := (J3.out.cel (.tail _ (.head _))).c 10 _ rfl
            have z10 : v3.frozen? ⟨r6, 10, none⟩ = false := (J3.out.cel (.tail _ (.head _))).f 10 (by simp [col])
            go_simp
            clear q10 z10
            have BO : Hid ((∀ k, On b k ∨ On b1 k ∨ On b2 k → w.heap.size + 1 < k ∧ k < r6 ∧ k ≠ g2 ∧ k ≠ j) ∧ w.heap.size + 1 < g2 ∧ g2 ≠ r6 ∧ (w.heap.size + 1 < j ∧ j < r6) ∧ g2 ≠ j) := by
              have b0 := BN.out
              have b1 := BM.out
              exact ⟨fun k hk => by have := b0.1 k hk; omega, by omega, by omega, by omega, by omega⟩
            have BP := hid_mk BN.out.2.1
            clear BM
            have J4 : Hid (Hold w (v3.setCell ⟨r6, 10, none⟩ (.slice (some ⟨g2, 0, none⟩) (en + 1) cp2)) [celF r6 (col (⟨8, pc, 24, 24, t, (en + 1), G6, false, 48⟩ : Cv) (⟨b, d, b1, d1, b2, d2, some ⟨g2, 0, none⟩, cp2, some ⟨j, 0, none⟩, dj⟩ : Ca)), roomEF g2 (en + 1) cp2 (r.E ++ [(enG nx I0 G6)]), insF kb o I0, ansSF b b1 b2 8 24 24 r.R r.L r.G, intF j 48 r.J, celF (w.heap.size + 1) ([.slice none 0 0, .int .i64 0, .bool false, .int .i64 0, .int .i64 0, .int .i64 0, .int .i64 0, .slice none 0 0, .slice none 0 0, .int .i64 0, .slice none 0 0, .int .i64 0, .bool false, .int .i64 0, .int .i64 0, .int .i64 0, .int .i64 0, .bool false, .slice none 0 0] : List Value), celF w.heap.size (col (⟨8, pc, 24, 24, t, en, nx, false, 48⟩ : Cv) a), argCF w.heap.size (⟨8, pc, 24, 24, t, en, nx, false, 48⟩ : Cv) a r, sliF w.heap.size la ln LL]) := (J3.out.sub (gs := [celF r6 (col (⟨8, pc, 24, 24, t, en, G6, false, 48⟩ : Cv) (⟨b, d, b1, d1, b2, d2, some ⟨g, 0, none⟩, cp, some ⟨j, 0, none⟩, dj⟩ : Ca)), roomEF g2 (en + 1) cp2 (r.E ++ [(enG nx I0 G6)]), insF kb o I0, ansSF b b1 b2 8 24 24 r.R r.L r.G, intF j 48 r.J, celF (w.heap.size + 1) ([.slice none 0 0, .int .i64 0, .bool false, .int .i64 0, .int .i64 0, .int .i64 0, .int .i64 0, .slice none 0 0, .slice none 0 0, .int .i64 0, .slice none 0 0, .int .i64 0, .bool false, .int .i64 0, .int .i64 0, .int .i64 0, .int .i64 0, .bool false, .slice none 0 0] : List Value), celF w.heap.size (col (⟨8, pc, 24, 24, t, en, nx, false, 48⟩ : Cv) a), argCF w.heap.size (⟨8, pc, 24, 24, t, en, nx, false, 48⟩ : Cv) a r, sliF w.heap.size la ln LL]) (fun f hf => by simp only [List.mem_cons, List.not_mem_nil, or_false] at hf ⊢; rcases hf with rfl | rfl | rfl | rfl | rfl | rfl | rfl | rfl | rfl; exact .inr (.inl rfl); exact .inl rfl; exact .inr (.inr (.inl rfl)); exact .inr (.inr (.inr (.inl rfl))); exact .inr (.inr (.inr (.inr (.inl rfl)))); exact .inr (.inr (.inr (.inr (.inr (.inl rfl))))); exact .inr (.inr (.inr (.inr (.inr (.inr (.inl rfl)))))); exact .inr (.inr (.inr (.inr (.inr (.inr (.inr (.inl rfl))))))); exact .inr (.inr (.inr (.inr (.inr (.inr (.inr (.inr rfl))))))))).setc (by have := BP.out; omega) (fun f hf k hk e => by
              have bn := BO.out
              have bp := BP.out
              simp only [List.mem_cons, List.not_mem_nil, or_false] at hf
              rcases hf with rfl | rfl | rfl | rfl | rfl | rfl | rfl | rfl
              · simp only [roomEF] at hk; omega
              · simp only [insF] at hk; have := KB.out; omega
              · have h1 := bn.1 k hk; omega
              · simp only [intF] at hk; omega
              · simp only [celF] at hk; omega
              · simp only [celF] at hk; omega
              · simp only [argCF] at hk; omega
              · simp only [sliF] at hk; omega) 10 _
            refine hK.out _ _ ⟨.slice (some ⟨g2, 0, none⟩) (en + 1) cp2, J4.out.sub (gs := [celF r6 (col (⟨8, pc, 24, 24, t, (en + 1), G6, false, 48⟩ : Cv) (⟨b, d, b1, d1, b2, d2, some ⟨g2, 0, none⟩, cp2, some ⟨j, 0, none⟩, dj⟩ : Ca)), celF w.heap.size (col (⟨8, pc, 24, 24, t, en, nx, false, 48⟩ : Cv) a), insF kb o I0]) (fun f hf => by simp only [List.mem_cons, List.not_mem_nil, or_false] at hf ⊢; rcases hf with rfl | rfl | rfl; exact .inl rfl; exact .inr (.inr (.inr (.inr (.inr (.inr (.inl rfl)))))); exact .inr (.inr (.inl rfl)))⟩ (fun hHeld => ?_)
            clear hK K
            refine wpAnyH_done (by kernel_rfl) ?_ _
            clear hHeld SU D0 BP
            try dsimp only
            generalize v3.setCell ⟨r6, 10, none⟩ (.slice (some ⟨g2, 0, none⟩) (en + 1) cp2) = w10 at J4 ⊢
            go_upto_region 13 with fail
            have H := J4
            clear J4
            have PE := hid_mk (pul_end (V := (⟨8, pc, 24, 24, t, (en + 1), G6, false, 48⟩ : Cv)) (Rr := (Cr.mk r.R r.L r.G (r.E ++ [(enG nx I0 G6)]) r.J)) (d := d) (d1 := d1) (d2 := d2) (dj := dj) (H.out.ansS (.tail _ (.tail _ (.tail _ (.head _))))) (H.out.roomE (.tail _ (.head _))) (H.out.at (f := intF j 48 r.J) (.tail _ (.tail _ (.tail _ (.tail _ (.head _)))))) (fun k hk => by have h1 := BO.out.1 k hk; omega) (by have := BO.out; omega) (H.out.cel (.tail _ (.tail _ (.tail _ (.tail _ (.tail _ (.head _))))))) rfl H.out.bel)
            have R6 := hid_mk (H.out.cel (.head _)).range
            have T4 := hid_mk (H.out.cel (.tail _ (.tail _ (.tail _ (.tail _ (.tail _ (.head _))))))).there
            clear H
            go_wp2_with (first | (refine wpList_load_mid (by rfl) 64 _ (by rfl) r6 0 (by rfl) (col (⟨8, pc, 24, 24, t, (en + 1), G6, false, 48⟩ : Cv) (⟨b, d, b1, d1, b2, d2, some ⟨g2, 0, none⟩, cp2, some ⟨j, 0, none⟩, dj⟩ : Ca)) _ R6.out Tryz.underlying64 rfl sizeCor ?_) | (refine wpList_store_mid (by rfl) 64 _ _ (by rfl) (w.heap.size + 1) 0 (col (⟨8, pc, 24, 24, t, (en + 1), G6, false, 48⟩ : Cv) (⟨b, d, b1, d1, b2, d2, some ⟨g2, 0, none⟩, cp2, some ⟨j, 0, none⟩, dj⟩ : Ca)).toArray (by rfl) (by rfl) T4.out sizeCor (col_one _ _) ?_))
            refine bodyPost_ret (v := .tuple #[.agg (col (⟨8, pc, 24, 24, t, (en + 1), G6, false, 48⟩ : Cv) (⟨b, d, b1, d1, b2, d2, some ⟨g2, 0, none⟩, cp2, some ⟨j, 0, none⟩, dj⟩ : Ca)).toArray, .bool true]) (results_cellT Tryz.results25 (by rfl) PE.out.2.2.2 (by rfl)) rfl (HQ.out (⟨b, d, b1, d1, b2, d2, some ⟨g2, 0, none⟩, cp2, some ⟨j, 0, none⟩, dj⟩ : Ca) _ PE.out.1 PE.out.2.1 PE.out.2.2.1)
        · have hfin : V = (⟨8, pc, 24, 24, t, (en + 1), nx, true, 48⟩ : Cv) ∧ Rr = (⟨r.R, r.L, r.G, r.E ++ [(enT nx (trpE T nx))], r.J⟩ : Cr) ∧ Bb = true := by
            have hT2 : ¬ pulT LL (⟨8, pc, 24, 24, t, en, nx, false, 48⟩ : Cv) = 0 := fun h => hT (HT.out.trans h)
            refine ⟨?_, ?_, ?_⟩
            · rw [HV.out, pulV, if_pos hz.out, if_neg (by rw [hst]; decide), if_neg hT2]
            · rw [HR.out, pulR, if_pos hz.out, if_neg (by rw [hst]; decide), if_neg hT2, HT.out]; rfl
            · rw [HB.out, pulB, hz.out, hst]; rfl
          obtain ⟨hV, hR, hB⟩ := hfin
          clear HV HR HB hz hst
          subst hV hR hB
          have hcm : (T != 0) = true := by simp [hT]
          go_upto_region 8 with fail
          clear hcm
          have q17 : w7.cell? ⟨r6, 17, none⟩ = some (.bool false) := (H.out.cel (.head _)).c 17 _ rfl
          have z17 : w7.frozen? ⟨r6, 17, none⟩ = false := (H.out.cel (.head _)).f 17 (by simp [col])
          go_upto_region 9 with fail
          clear q17 z17
          replace H : Hid (Hold w (w7.setCell ⟨r6, 17, none⟩ (.bool true)) [celF r6 (col (⟨8, pc, 24, 24, t, en, nx, true, 48⟩ : Cv) (⟨b, d, b1, d1, b2, d2, some ⟨g, 0, none⟩, cp, some ⟨j, 0, none⟩, dj⟩ : Ca)), ansSF b b1 b2 8 24 24 r.R r.L r.G, roomEF g en cp r.E, intF j 48 r.J, celF (w.heap.size + 1) ([.slice none 0 0, .int .i64 0, .bool false, .int .i64 0, .int .i64 0, .int .i64 0, .int .i64 0, .slice none 0 0, .slice none 0 0, .int .i64 0, .slice none 0 0, .int .i64 0, .bool false, .int .i64 0, .int .i64 0, .int .i64 0, .int .i64 0, .bool false, .slice none 0 0] : List Value), celF w.heap.size (col (⟨8, pc, 24, 24, t, en, nx, false, 48⟩ : Cv) a), argCF w.heap.size (⟨8, pc, 24, 24, t, en, nx, false, 48⟩ : Cv) a r, sliF w.heap.size la ln LL]) := H.out.setc (by have := BN.out; omega)
            (fun f hf k hk e => by
              have bn := BN.out
              simp only [List.mem_cons, List.not_mem_nil, or_false] at hf
              rcases hf with rfl | rfl | rfl | rfl | rfl | rfl | rfl
              · have h1 := bn.1 k hk; omega
              · simp only [roomEF] at hk; omega
              · simp only [intF] at hk; omega
              · simp only [celF] at hk; omega
              · simp only [celF] at hk; omega
              · simp only [argCF] at hk; omega
              · simp only [sliF] at hk; omega) 17 _
          generalize w7.setCell ⟨r6, 17, none⟩ (.bool true) = w8 at H ⊢
          have D0 := hid_mk H.out.drew
          have SU : Hid (∀ w', Hold w w' [celF r6 (col (⟨8, pc, 24, 24, t, en, nx, true, 48⟩ : Cv) (⟨b, d, b1, d1, b2, d2, some ⟨g, 0, none⟩, cp, some ⟨j, 0, none⟩, dj⟩ : Ca)), celF w.heap.size (col (⟨8, pc, 24, 24, t, en, nx, false, 48⟩ : Cv) a)] → ∃ u, Hold w w' [celF r6 ((col (⟨8, pc, 24, 24, t, en, nx, true, 48⟩ : Cv) (⟨b, d, b1, d1, b2, d2, some ⟨g, 0, none⟩, cp, some ⟨j, 0, none⟩, dj⟩ : Ca)).set 10 u), celF w.heap.size (col (⟨8, pc, 24, 24, t, en, nx, false, 48⟩ : Cv) a)]) := fun w' h => ⟨.slice (some ⟨g, 0, none⟩) en cp, h⟩
          refine wp_region_held_drew (S := fun w' => ∃ u, Hold w w' [celF r6 ((col (⟨8, pc, 24, 24, t, en, nx, true, 48⟩ : Cv) (⟨b, d, b1, d1, b2, d2, some ⟨g, 0, none⟩, cp, some ⟨j, 0, none⟩, dj⟩ : Ca)).set 10 u), celF w.heap.size (col (⟨8, pc, 24, 24, t, en, nx, false, 48⟩ : Cv) a)]) (by kernel_rfl) (SU.out _ (D0.out.sub (gs := [celF r6 (col (⟨8, pc, 24, 24, t, en, nx, true, 48⟩ : Cv) (⟨b, d, b1, d1, b2, d2, some ⟨g, 0, none⟩, cp, some ⟨j, 0, none⟩, dj⟩ : Ca)), celF w.heap.size (col (⟨8, pc, 24, 24, t, en, nx, false, 48⟩ : Cv) a)]) (fun f hf => by simp only [List.mem_cons, List.not_mem_nil, or_false] at hf ⊢; rcases hf with rfl | rfl; exact .inl rfl; exact .inr (.inr (.inr (.inr (.inr (.inl rfl)))))))) (fun hHeld => ?_)
          generalize w8.drew = wd at D0 hHeld ⊢
          clear H
          refine take_on (i := 0) (d := 40) (v := .pointer (some ⟨r6, 10, none⟩)) rfl rfl (by kernel_rfl) (by kernel_rfl) (by kernel_rfl) (fun _ _ _ h => h) (by rfl) ?_ hHeld ?_
          · (intro w' hSw; go_simp)
          simp only [Act.put, List.setIfInBounds_toArray, List.set_cons_zero, List.set_cons_succ]
          refine take_on (i := 2) (d := 42) (v := .pointer (some ⟨w.heap.size, 11, none⟩)) rfl rfl (by kernel_rfl) (by kernel_rfl) (by kernel_rfl) (fun _ _ _ h => h) (by rfl) ?_ hHeld ?_
          · (intro w' hSw; go_simp)
          simp only [Act.put, List.setIfInBounds_toArray, List.set_cons_zero, List.set_cons_succ]
          refine take_on (i := 3) (d := 43) (v := .agg #[.int .i64 nx.n, .bool nx.i, .int .i64 nx.b, .int .i64 nx.t, .int .i64 nx.p, .int .i64 nx.s]) rfl rfl (by kernel_rfl) (by kernel_rfl) (by kernel_rfl) (fun _ _ _ h => h) (by rfl) ?_ hHeld ?_
          · (intro w' hSw; obtain ⟨u, hSx⟩ : ∃ u, Hold w w' [celF r6 ((col (⟨8, pc, 24, 24, t, en, nx, true, 48⟩ : Cv) (⟨b, d, b1, d1, b2, d2, some ⟨g, 0, none⟩, cp, some ⟨j, 0, none⟩, dj⟩ : Ca)).set 10 u), celF w.heap.size (col (⟨8, pc, 24, 24, t, en, nx, false, 48⟩ : Cv) a)] := hSw; have c11 : w'.cell? ⟨w.heap.size, 11, none⟩ = some (.int .i64 nx.n) := (hSx.cel (.tail _ (.head _))).c 11 _ rfl; have c12 : w'.cell? ⟨w.heap.size, 12, none⟩ = some (.bool nx.i) := (hSx.cel (.tail _ (.head _))).c 12 _ rfl; have c13 : w'.cell? ⟨w.heap.size, 13, none⟩ = some (.int .i64 nx.b) := (hSx.cel (.tail _ (.head _))).c 13 _ rfl; have c14 : w'.cell? ⟨w.heap.size, 14, none⟩ = some (.int .i64 nx.t) := (hSx.cel (.tail _ (.head _))).c 14 _ rfl; have c15 : w'.cell? ⟨w.heap.size, 15, none⟩ = some (.int .i64 nx.p) := (hSx.cel (.tail _ (.head _))).c 15 _ rfl; have c16 : w'.cell? ⟨w.heap.size, 16, none⟩ = some (.int .i64 nx.s) := (hSx.cel (.tail _ (.head _))).c 16 _ rfl; go_simp)
          simp only [Act.put, List.setIfInBounds_toArray, List.set_cons_zero, List.set_cons_succ]
          refine take_on (i := 4) (d := 44) (v := .int .i64 T) rfl rfl (by kernel_rfl) (by kernel_rfl) (by kernel_rfl) (fun _ _ _ h => h) (by rfl) ?_ hHeld ?_
          · (intro w' hSw; go_simp)
          simp only [Act.put, List.setIfInBounds_toArray, List.set_cons_zero, List.set_cons_succ]
          refine take_on (i := 5) (d := 45) (v := .pointer (some ⟨w.heap.size, 11, none⟩)) rfl rfl (by kernel_rfl) (by kernel_rfl) (by kernel_rfl) (fun _ _ _ h => h) (by rfl) ?_ hHeld ?_
          · (intro w' hSw; go_simp)
          simp only [Act.put, List.setIfInBounds_toArray, List.set_cons_zero, List.set_cons_succ]
          refine take_on (i := 6) (d := 46) (v := .agg #[.int .i64 nx.n, .bool nx.i, .int .i64 nx.b, .int .i64 nx.t, .int .i64 nx.p, .int .i64 nx.s]) rfl rfl (by kernel_rfl) (by kernel_rfl) (by kernel_rfl) (fun _ _ _ h => h) (by rfl) ?_ hHeld ?_
          · (intro w' hSw; obtain ⟨u, hSx⟩ : ∃ u, Hold w w' [celF r6 ((col (⟨8, pc, 24, 24, t, en, nx, true, 48⟩ : Cv) (⟨b, d, b1, d1, b2, d2, some ⟨g, 0, none⟩, cp, some ⟨j, 0, none⟩, dj⟩ : Ca)).set 10 u), celF w.heap.size (col (⟨8, pc, 24, 24, t, en, nx, false, 48⟩ : Cv) a)] := hSw; have c11 : w'.cell? ⟨w.heap.size, 11, none⟩ = some (.int .i64 nx.n) := (hSx.cel (.tail _ (.head _))).c 11 _ rfl; have c12 : w'.cell? ⟨w.heap.size, 12, none⟩ = some (.bool nx.i) := (hSx.cel (.tail _ (.head _))).c 12 _ rfl; have c13 : w'.cell? ⟨w.heap.size, 13, none⟩ = some (.int .i64 nx.b) := (hSx.cel (.tail _ (.head _))).c 13 _ rfl; have c14 : w'.cell? ⟨w.heap.size, 14, none⟩ = some (.int .i64 nx.t) := (hSx.cel (.tail _ (.head _))).c 14 _ rfl; have c15 : w'.cell? ⟨w.heap.size, 15, none⟩ = some (.int .i64 nx.p) := (hSx.cel (.tail _ (.head _))).c 15 _ rfl; have c16 : w'.cell? ⟨w.heap.size, 16, none⟩ = some (.int .i64 nx.s) := (hSx.cel (.tail _ (.head _))).c 16 _ rfl; go_simp)
          simp only [Act.put, List.setIfInBounds_toArray, List.set_cons_zero, List.set_cons_succ]
          refine take_on (i := 8) (d := 48) (v := .pointer (some ⟨w.heap.size, 11, none⟩)) rfl rfl (by kernel_rfl) (by kernel_rfl) (by kernel_rfl) (fun _ _ _ h => h) (by rfl) ?_ hHeld ?_
          · (intro w' hSw; go_simp)
          simp only [Act.put, List.setIfInBounds_toArray, List.set_cons_zero, List.set_cons_succ]
          refine take_on (i := 9) (d := 49) (v := .agg #[.int .i64 nx.n, .bool nx.i, .int .i64 nx.b, .int .i64 nx.t, .int .i64 nx.p, .int .i64 nx.s]) rfl rfl (by kernel_rfl) (by kernel_rfl) (by kernel_rfl) (fun _ _ _ h => h) (by rfl) ?_ hHeld ?_
          · (intro w' hSw; obtain ⟨u, hSx⟩ : ∃ u, Hold w w' [celF r6 ((col (⟨8, pc, 24, 24, t, en, nx, true, 48⟩ : Cv) (⟨b, d, b1, d1, b2, d2, some ⟨g, 0, none⟩, cp, some ⟨j, 0, none⟩, dj⟩ : Ca)).set 10 u), celF w.heap.size (col (⟨8, pc, 24, 24, t, en, nx, false, 48⟩ : Cv) a)] := hSw; have c11 : w'.cell? ⟨w.heap.size, 11, none⟩ = some (.int .i64 nx.n) := (hSx.cel (.tail _ (.head _))).c 11 _ rfl; have c12 : w'.cell? ⟨w.heap.size, 12, none⟩ = some (.bool nx.i) := (hSx.cel (.tail _ (.head _))).c 12 _ rfl; have c13 : w'.cell? ⟨w.heap.size, 13, none⟩ = some (.int .i64 nx.b) := (hSx.cel (.tail _ (.head _))).c 13 _ rfl; have c14 : w'.cell? ⟨w.heap.size, 14, none⟩ = some (.int .i64 nx.t) := (hSx.cel (.tail _ (.head _))).c 14 _ rfl; have c15 : w'.cell? ⟨w.heap.size, 15, none⟩ = some (.int .i64 nx.p) := (hSx.cel (.tail _ (.head _))).c 15 _ rfl; have c16 : w'.cell? ⟨w.heap.size, 16, none⟩ = some (.int .i64 nx.s) := (hSx.cel (.tail _ (.head _))).c 16 _ rfl; go_simp)
          simp only [Act.put, List.setIfInBounds_toArray, List.set_cons_zero, List.set_cons_succ]
          refine wpAnyH_ready (rs := [1, 7]) (by kernel_rfl) (by simp) ?_
          refine AllReadyH.cons rfl (fun K hK => ?_) (AllReadyH.cons rfl (fun K hK => ?_) AllReadyH.nil)
          · have q10 : wd.cell? ⟨r6, 10, none⟩ = some (.slice (some ⟨g, 0, none⟩) en cp) := (D0.out.cel (.head _)).c 10 _ rfl
            go_simp
            clear q10
            refine hK.out _ _ (SU.out _ (D0.out.sub (gs := [celF r6 (col (⟨8, pc, 24, 24, t, en, nx, true, 48⟩ : Cv) (⟨b, d, b1, d1, b2, d2, some ⟨g, 0, none⟩, cp, some ⟨j, 0, none⟩, dj⟩ : Ca)), celF w.heap.size (col (⟨8, pc, 24, 24, t, en, nx, false, 48⟩ : Cv) a)]) (fun f hf => by simp only [List.mem_cons, List.not_mem_nil, or_false] at hf ⊢; rcases hf with rfl | rfl; exact .inl rfl; exact .inr (.inr (.inr (.inr (.inr (.inl rfl)))))))) (fun hHeld => ?_)
            clear hK K
            (try simp only [Act.put]); (try simp only [List.setIfInBounds_toArray]); (try simp only [List.set_cons_succ]); (try simp only [List.set_cons_zero]); (try simp only [List.set_cons_succ]); (try simp only [List.set_cons_zero]); (try simp only [Nat.zero_add])
            refine wpAnyH_ready (rs := [7]) (by kernel_rfl) (by simp) ?_
            refine AllReadyH.cons rfl (fun K hK => ?_) AllReadyH.nil
            go_simp
            refine (trapped_any T nx _).mono ?_
            rintro e v2 ⟨rfl, hb⟩
            have J2 := hid_mk (D0.out.next hb)
            clear hb
            refine hK.out _ _ (SU.out _ (J2.out.sub (gs := [celF r6 (col (⟨8, pc, 24, 24, t, en, nx, true, 48⟩ : Cv) (⟨b, d, b1, d1, b2, d2, some ⟨g, 0, none⟩, cp, some ⟨j, 0, none⟩, dj⟩ : Ca)), celF w.heap.size (col (⟨8, pc, 24, 24, t, en, nx, false, 48⟩ : Cv) a)]) (fun f hf => by simp only [List.mem_cons, List.not_mem_nil, or_false] at hf ⊢; rcases hf with rfl | rfl; exact .inl rfl; exact .inr (.inr (.inr (.inr (.inr (.inl rfl)))))))) (fun hHeld => ?_)
            clear hK K
            (try simp only [Act.put]); (try simp only [List.setIfInBounds_toArray]); (try simp only [List.set_cons_succ]); (try simp only [List.set_cons_zero]); (try simp only [List.set_cons_succ]); (try simp only [List.set_cons_zero]); (try simp only [Nat.zero_add])
            refine take_on (i := 10) (d := 50) (v := .agg (enl (enT nx (trpE T nx))).toArray) rfl rfl (by kernel_rfl) (by kernel_rfl) (by kernel_rfl) (fun _ _ _ h => h) (by rfl) ?_ hHeld ?_
            · exact fun w' _ => exec_build (by rfl) (#[(0, .agg #[.int .i64 nx.n, .bool nx.i, .int .i64 nx.b, .int .i64 nx.t, .int .i64 nx.p, .int .i64 nx.s]), (2, .bool true), (3, .agg (effl (trpE T nx)).toArray), (4, .agg #[.int .i64 nx.n, .bool nx.i, .int .i64 nx.b, .int .i64 nx.t, .int .i64 nx.p, .int .i64 nx.s])]) (by kernel_rfl) (run_entT nx (trpE T nx) w')
            simp only [Act.put, List.setIfInBounds_toArray, List.set_cons_zero, List.set_cons_succ]
            (try simp only [Act.put]); (try simp only [List.setIfInBounds_toArray]); (try simp only [List.set_cons_succ]); (try simp only [List.set_cons_zero]); (try simp only [List.set_cons_succ]); (try simp only [List.set_cons_zero]); (try simp only [Nat.zero_add])
            refine wpAnyH_ready (rs := [11]) (by kernel_rfl) (by simp) ?_
            refine AllReadyH.cons rfl (fun K hK => ?_) AllReadyH.nil
            refine step_entS (by rfl) _ (by rfl) (enT nx (trpE T nx)) (by rfl) ?_
            have J3 := hid_mk (J2.out.box (enl (enT nx (trpE T nx))) 104 v2.heap.size rfl)
            refine hK.out _ _ (SU.out _ (J3.out.sub (gs := [celF r6 (col (⟨8, pc, 24, 24, t, en, nx, true, 48⟩ : Cv) (⟨b, d, b1, d1, b2, d2, some ⟨g, 0, none⟩, cp, some ⟨j, 0, none⟩, dj⟩ : Ca)), celF w.heap.size (col (⟨8, pc, 24, 24, t, en, nx, false, 48⟩ : Cv) a)]) (fun f hf => by simp only [List.mem_cons, List.not_mem_nil, or_false] at hf ⊢; rcases hf with rfl | rfl; exact .inr (.inl rfl); exact .inr (.inr (.inr (.inr (.inr (.inr (.inl rfl))))))))) (fun hHeld => ?_)
            clear hK K
            (try simp only [Act.put]); (try simp only [List.setIfInBounds_toArray]); (try simp only [List.set_cons_succ]); (try simp only [List.set_cons_zero]); (try simp only [List.set_cons_succ]); (try simp only [List.set_cons_zero]); (try simp only [Nat.zero_add])
            have hrx : r6 < v2.heap.size := (J2.out.cel (.head _)).lt
            generalize v2.alloc (.cells (enl (enT nx (trpE T nx))).toArray 104) = v3 at J3 hHeld ⊢
            generalize v2.heap.size = rx at J3 hrx hHeld ⊢
            refine wpAnyH_ready (rs := [12]) (by kernel_rfl) (by simp) ?_
            refine AllReadyH.cons rfl (fun K hK => ?_) AllReadyH.nil
            refine step_appEr (by rfl) _ _ (by rfl) g en cp r.E (by rfl) (J3.out.roomE (.tail _ (.tail _ (.tail _ (.head _))))) (some ⟨rx, 0, none⟩) 1 1 [(enT nx (trpE T nx))] (by rfl) rfl (fun h => by cases h) (ent_src (J3.out.cel (.head _)).range) (en + 1) rfl (by omega) ?_
            intro g2 cp2 v4 hO hg2 hcp2 hk9
            have J4 := hid_mk (((J3.out.sub (gs := [celF r6 (col (⟨8, pc, 24, 24, t, en, nx, true, 48⟩ : Cv) (⟨b, d, b1, d1, b2, d2, some ⟨g, 0, none⟩, cp, some ⟨j, 0, none⟩, dj⟩ : Ca)), ansSF b b1 b2 8 24 24 r.R r.L r.G, intF j 48 r.J, celF (w.heap.size + 1) ([.slice none 0 0, .int .i64 0, .bool false, .int .i64 0, .int .i64 0, .int .i64 0, .int .i64 0, .slice none 0 0, .slice none 0 0, .int .i64 0, .slice none 0 0, .int .i64 0, .bool false, .int .i64 0, .int .i64 0, .int .i64 0, .int .i64 0, .bool false, .slice none 0 0] : List Value), celF w.heap.size (col (⟨8, pc, 24, 24, t, en, nx, false, 48⟩ : Cv) a), argCF w.heap.size (⟨8, pc, 24, 24, t, en, nx, false, 48⟩ : Cv) a r, sliF w.heap.size la ln LL]) (fun f hf => by simp only [List.mem_cons, List.not_mem_nil, or_false] at hf ⊢; rcases hf with rfl | rfl | rfl | rfl | rfl | rfl | rfl; exact .inr (.inl rfl); exact .inr (.inr (.inl rfl)); exact .inr (.inr (.inr (.inr (.inl rfl)))); exact .inr (.inr (.inr (.inr (.inr (.inl rfl))))); exact .inr (.inr (.inr (.inr (.inr (.inr (.inl rfl)))))); exact .inr (.inr (.inr (.inr (.inr (.inr (.inr (.inl rfl))))))); exact .inr (.inr (.inr (.inr (.inr (.inr (.inr (.inr rfl))))))))).wrote (T := fun k => k = g) (KeptS.ofBut hk9 rfl) (fun k e => by have := BN.out; omega)
              (fun f hf k hk e => by
                have bn := BN.out
                simp only [List.mem_cons, List.not_mem_nil, or_false] at hf
                rcases hf with rfl | rfl | rfl | rfl | rfl | rfl | rfl
                · simp only [celF] at hk; omega
                · have h1 := bn.1 k hk; omega
                · simp only [intF] at hk; omega
                · simp only [celF] at hk; omega
                · simp only [celF] at hk; omega
                · simp only [argCF] at hk; omega
                · simp only [sliF] at hk; omega
                )).push (roomEF g2 (en + 1) cp2 (r.E ++ [(enT nx (trpE T nx))])) hO)
            have hlx := (J3.out.cel (.tail _ (.head _))).lt
            have BM : Hid (g2 = g ∨ r6 < g2) := by rcases hg2 with h | h; exact .inl h; exact .inr (by omega)
            clear hk9 hO hg2 hlx
            refine hK.out _ _ (SU.out _ (J4.out.sub (gs := [celF r6 (col (⟨8, pc, 24, 24, t, en, nx, true, 48⟩ : Cv) (⟨b, d, b1, d1, b2, d2, some ⟨g, 0, none⟩, cp, some ⟨j, 0, none⟩, dj⟩ : Ca)), celF w.heap.size (col (⟨8, pc, 24, 24, t, en, nx, false, 48⟩ : Cv) a)]) (fun f hf => by simp only [List.mem_cons, List.not_mem_nil, or_false] at hf ⊢; rcases hf with rfl | rfl; exact .inr (.inl rfl); exact .inr (.inr (.inr (.inr (.inr (.inl rfl)))))))) (fun hHeld => ?_)
            clear hK K
            (try simp only [Act.put]); (try simp only [List.setIfInBounds_toArray]); (try simp only [List.set_cons_succ]); (try simp only [List.set_cons_zero]); (try simp only [List.set_cons_succ]); (try simp only [List.set_cons_zero]); (try simp only [Nat.zero_add])
            refine take_on (i := 13) (d := 53) (v := .pointer (some ⟨r6, 10, none⟩)) rfl rfl (by kernel_rfl) (by kernel_rfl) (by kernel_rfl) (fun _ _ _ h => h) (by rfl) ?_ hHeld ?_
            · (intro w' hSw; go_simp)
            (try simp only [Act.put]); (try simp only [List.setIfInBounds_toArray]); (try simp only [List.set_cons_succ]); (try simp only [List.set_cons_zero]); (try simp only [List.set_cons_succ]); (try simp only [List.set_cons_zero]); (try simp only [Nat.zero_add])
            refine wpAnyH_ready (rs := [14]) (by kernel_rfl) (by simp) ?_
            refine AllReadyH.cons rfl (fun K hK => ?_) AllReadyH.nil
            have q10 : v4.cell? ⟨r6, 10, none⟩ = some (.slice (some ⟨g, 0, none⟩) en cp) := (J4.out.cel (.tail _ (.head _))).c 10 _ rfl
            have z10 : v4.frozen? ⟨r6, 10, none⟩ = false := (J4.out.cel (.tail _ (.head _))).f 10 (by simp [col])
            go_simp
            clear q10 z10
            have BO : Hid ((∀ k, On b k ∨ On b1 k ∨ On b2 k → w.heap.size + 1 < k ∧ k < r6 ∧ k ≠ g2 ∧ k ≠ j) ∧ w.heap.size + 1 < g2 ∧ g2 ≠ r6 ∧ (w.heap.size + 1 < j ∧ j < r6) ∧ g2 ≠ j) := by
              have b0 := BN.out
              have b1 := BM.out
              exact ⟨fun k hk => by have := b0.1 k hk; omega, by omega, by omega, by omega, by omega⟩
            have BP := hid_mk BN.out.2.1
            clear BM
            have J5 : Hid (Hold w (v4.setCell ⟨r6, 10, none⟩ (.slice (some ⟨g2, 0, none⟩) (en + 1) cp2)) [celF r6 (col (⟨8, pc, 24, 24, t, (en + 1), nx, true, 48⟩ : Cv) (⟨b, d, b1, d1, b2, d2, some ⟨g2, 0, none⟩, cp2, some ⟨j, 0, none⟩, dj⟩ : Ca)), roomEF g2 (en + 1) cp2 (r.E ++ [(enT nx (trpE T nx))]), ansSF b b1 b2 8 24 24 r.R r.L r.G, intF j 48 r.J, celF (w.heap.size + 1) ([.slice none 0 0, .int .i64 0, .bool false, .int .i64 0, .int .i64 0, .int .i64 0, .int .i64 0, .slice none 0 0, .slice none 0 0, .int .i64 0, .slice none 0 0, .int .i64 0, .bool false, .int .i64 0, .int .i64 0, .int .i64 0, .int .i64 0, .bool false, .slice none 0 0] : List Value), celF w.heap.size (col (⟨8, pc, 24, 24, t, en, nx, false, 48⟩ : Cv) a), argCF w.heap.size (⟨8, pc, 24, 24, t, en, nx, false, 48⟩ : Cv) a r, sliF w.heap.size la ln LL]) := (J4.out.sub (gs := [celF r6 (col (⟨8, pc, 24, 24, t, en, nx, true, 48⟩ : Cv) (⟨b, d, b1, d1, b2, d2, some ⟨g, 0, none⟩, cp, some ⟨j, 0, none⟩, dj⟩ : Ca)), roomEF g2 (en + 1) cp2 (r.E ++ [(enT nx (trpE T nx))]), ansSF b b1 b2 8 24 24 r.R r.L r.G, intF j 48 r.J, celF (w.heap.size + 1) ([.slice none 0 0, .int .i64 0, .bool false, .int .i64 0, .int .i64 0, .int .i64 0, .int .i64 0, .slice none 0 0, .slice none 0 0, .int .i64 0, .slice none 0 0, .int .i64 0, .bool false, .int .i64 0, .int .i64 0, .int .i64 0, .int .i64 0, .bool false, .slice none 0 0] : List Value), celF w.heap.size (col (⟨8, pc, 24, 24, t, en, nx, false, 48⟩ : Cv) a), argCF w.heap.size (⟨8, pc, 24, 24, t, en, nx, false, 48⟩ : Cv) a r, sliF w.heap.size la ln LL]) (fun f hf => by simp only [List.mem_cons, List.not_mem_nil, or_false] at hf ⊢; rcases hf with rfl | rfl | rfl | rfl | rfl | rfl | rfl | rfl; exact .inr (.inl rfl); exact .inl rfl; exact .inr (.inr (.inl rfl)); exact .inr (.inr (.inr (.inl rfl))); exact .inr (.inr (.inr (.inr (.inl rfl)))); exact .inr (.inr (.inr (.inr (.inr (.inl rfl))))); exact .inr (.inr (.inr (.inr (.inr (.inr (.inl rfl)))))); exact .inr (.inr (.inr (.inr (.inr (.inr (.inr rfl)))))))).setc (by have := BP.out; omega) (fun f hf k hk e => by
              have bn := BO.out
              have bp := BP.out
              simp only [List.mem_cons, List.not_mem_nil, or_false] at hf
              rcases hf with rfl | rfl | rfl | rfl | rfl | rfl | rfl
              · simp only [roomEF] at hk; omega
              · have h1 := bn.1 k hk; omega
              · simp only [intF] at hk; omega
              · simp only [celF] at hk; omega
              · simp only [celF] at hk; omega
              · simp only [argCF] at hk; omega
              · simp only [sliF] at hk; omega) 10 _
            refine hK.out _ _ ⟨.slice (some ⟨g2, 0, none⟩) (en + 1) cp2, J5.out.sub (gs := [celF r6 (col (⟨8, pc, 24, 24, t, (en + 1), nx, true, 48⟩ : Cv) (⟨b, d, b1, d1, b2, d2, some ⟨g2, 0, none⟩, cp2, some ⟨j, 0, none⟩, dj⟩ : Ca)), celF w.heap.size (col (⟨8, pc, 24, 24, t, en, nx, false, 48⟩ : Cv) a)]) (fun f hf => by simp only [List.mem_cons, List.not_mem_nil, or_false] at hf ⊢; rcases hf with rfl | rfl; exact .inl rfl; exact .inr (.inr (.inr (.inr (.inr (.inl rfl))))))⟩ (fun hHeld => ?_)
            clear hK K
            refine wpAnyH_done (by kernel_rfl) ?_ _
            clear hHeld SU D0 BP
            try dsimp only
            generalize v4.setCell ⟨r6, 10, none⟩ (.slice (some ⟨g2, 0, none⟩) (en + 1) cp2) = w10 at J5 ⊢
            go_upto_region 10 with fail
            have H := J5
            clear J5
            have PE := hid_mk (pul_end (V := (⟨8, pc, 24, 24, t, (en + 1), nx, true, 48⟩ : Cv)) (Rr := (Cr.mk r.R r.L r.G (r.E ++ [(enT nx (trpE T nx))]) r.J)) (d := d) (d1 := d1) (d2 := d2) (dj := dj) (H.out.ansS (.tail _ (.tail _ (.head _)))) (H.out.roomE (.tail _ (.head _))) (H.out.at (f := intF j 48 r.J) (.tail _ (.tail _ (.tail _ (.head _))))) (fun k hk => by have h1 := BO.out.1 k hk; omega) (by have := BO.out; omega) (H.out.cel (.tail _ (.tail _ (.tail _ (.tail _ (.head _)))))) rfl H.out.bel)
            have R6 := hid_mk (H.out.cel (.head _)).range
            have T4 := hid_mk (H.out.cel (.tail _ (.tail _ (.tail _ (.tail _ (.head _)))))).there
            clear H
            go_wp2_with (first | (refine wpList_load_mid (by rfl) 64 _ (by rfl) r6 0 (by rfl) (col (⟨8, pc, 24, 24, t, (en + 1), nx, true, 48⟩ : Cv) (⟨b, d, b1, d1, b2, d2, some ⟨g2, 0, none⟩, cp2, some ⟨j, 0, none⟩, dj⟩ : Ca)) _ R6.out Tryz.underlying64 rfl sizeCor ?_) | (refine wpList_store_mid (by rfl) 64 _ _ (by rfl) (w.heap.size + 1) 0 (col (⟨8, pc, 24, 24, t, (en + 1), nx, true, 48⟩ : Cv) (⟨b, d, b1, d1, b2, d2, some ⟨g2, 0, none⟩, cp2, some ⟨j, 0, none⟩, dj⟩ : Ca)).toArray (by rfl) (by rfl) T4.out sizeCor (col_one _ _) ?_))
            refine bodyPost_ret (v := .tuple #[.agg (col (⟨8, pc, 24, 24, t, (en + 1), nx, true, 48⟩ : Cv) (⟨b, d, b1, d1, b2, d2, some ⟨g2, 0, none⟩, cp2, some ⟨j, 0, none⟩, dj⟩ : Ca)).toArray, .bool true]) (results_cellT Tryz.results25 (by rfl) PE.out.2.2.2 (by rfl)) rfl (HQ.out (⟨b, d, b1, d1, b2, d2, some ⟨g2, 0, none⟩, cp2, some ⟨j, 0, none⟩, dj⟩ : Ca) _ PE.out.1 PE.out.2.1 PE.out.2.2.1)
          · go_simp
            refine (trapped_any T nx _).mono ?_
            rintro e v1 ⟨rfl, hb⟩
            have J1 := hid_mk (D0.out.next hb)
            clear hb
            refine hK.out _ _ (SU.out _ (J1.out.sub (gs := [celF r6 (col (⟨8, pc, 24, 24, t, en, nx, true, 48⟩ : Cv) (⟨b, d, b1, d1, b2, d2, some ⟨g, 0, none⟩, cp, some ⟨j, 0, none⟩, dj⟩ : Ca)), celF w.heap.size (col (⟨8, pc, 24, 24, t, en, nx, false, 48⟩ : Cv) a)]) (fun f hf => by simp only [List.mem_cons, List.not_mem_nil, or_false] at hf ⊢; rcases hf with rfl | rfl; exact .inl rfl; exact .inr (.inr (.inr (.inr (.inr (.inl rfl)))))))) (fun hHeld => ?_)
            clear hK K
            (try simp only [Act.put]); (try simp only [List.setIfInBounds_toArray]); (try simp only [List.set_cons_succ]); (try simp only [List.set_cons_zero]); (try simp only [List.set_cons_succ]); (try simp only [List.set_cons_zero]); (try simp only [Nat.zero_add])
            refine take_on (i := 10) (d := 50) (v := .agg (enl (enT nx (trpE T nx))).toArray) rfl rfl (by kernel_rfl) (by kernel_rfl) (by kernel_rfl) (fun _ _ _ h => h) (by rfl) ?_ hHeld ?_
            · exact fun w' _ => exec_build (by rfl) (#[(0, .agg #[.int .i64 nx.n, .bool nx.i, .int .i64 nx.b, .int .i64 nx.t, .int .i64 nx.p, .int .i64 nx.s]), (2, .bool true), (3, .agg (effl (trpE T nx)).toArray), (4, .agg #[.int .i64 nx.n, .bool nx.i, .int .i64 nx.b, .int .i64 nx.t, .int .i64 nx.p, .int .i64 nx.s])]) (by kernel_rfl) (run_entT nx (trpE T nx) w')
            simp only [Act.put, List.setIfInBounds_toArray, List.set_cons_zero, List.set_cons_succ]
            (try simp only [Act.put]); (try simp only [List.setIfInBounds_toArray]); (try simp only [List.set_cons_succ]); (try simp only [List.set_cons_zero]); (try simp only [List.set_cons_succ]); (try simp only [List.set_cons_zero]); (try simp only [Nat.zero_add])
            refine wpAnyH_ready (rs := [1, 11]) (by kernel_rfl) (by simp) ?_
            refine AllReadyH.cons rfl (fun K hK => ?_) (AllReadyH.cons rfl (fun K hK => ?_) AllReadyH.nil)
            · have q10 : v1.cell? ⟨r6, 10, none⟩ = some (.slice (some ⟨g, 0, none⟩) en cp) := (J1.out.cel (.head _)).c 10 _ rfl
              go_simp
              clear q10
              refine hK.out _ _ (SU.out _ (J1.out.sub (gs := [celF r6 (col (⟨8, pc, 24, 24, t, en, nx, true, 48⟩ : Cv) (⟨b, d, b1, d1, b2, d2, some ⟨g, 0, none⟩, cp, some ⟨j, 0, none⟩, dj⟩ : Ca)), celF w.heap.size (col (⟨8, pc, 24, 24, t, en, nx, false, 48⟩ : Cv) a)]) (fun f hf => by simp only [List.mem_cons, List.not_mem_nil, or_false] at hf ⊢; rcases hf with rfl | rfl; exact .inl rfl; exact .inr (.inr (.inr (.inr (.inr (.inl rfl)))))))) (fun hHeld => ?_)
              clear hK K
              (try simp only [Act.put]); (try simp only [List.setIfInBounds_toArray]); (try simp only [List.set_cons_succ]); (try simp only [List.set_cons_zero]); (try simp only [List.set_cons_succ]); (try simp only [List.set_cons_zero]); (try simp only [Nat.zero_add])
              refine wpAnyH_ready (rs := [11]) (by kernel_rfl) (by simp) ?_
              refine AllReadyH.cons rfl (fun K hK => ?_) AllReadyH.nil
              refine step_entS (by rfl) _ (by rfl) (enT nx (trpE T nx)) (by rfl) ?_
              have J3 := hid_mk (J1.out.box (enl (enT nx (trpE T nx))) 104 v1.heap.size rfl)
              refine hK.out _ _ (SU.out _ (J3.out.sub (gs := [celF r6 (col (⟨8, pc, 24, 24, t, en, nx, true, 48⟩ : Cv) (⟨b, d, b1, d1, b2, d2, some ⟨g, 0, none⟩, cp, some ⟨j, 0, none⟩, dj⟩ : Ca)), celF w.heap.size (col (⟨8, pc, 24, 24, t, en, nx, false, 48⟩ : Cv) a)]) (fun f hf => by simp only [List.mem_cons, List.not_mem_nil, or_false] at hf ⊢; rcases hf with rfl | rfl; exact .inr (.inl rfl); exact .inr (.inr (.inr (.inr (.inr (.inr (.inl rfl))))))))) (fun hHeld => ?_)
              clear hK K
              (try simp only [Act.put]); (try simp only [List.setIfInBounds_toArray]); (try simp only [List.set_cons_succ]); (try simp only [List.set_cons_zero]); (try simp only [List.set_cons_succ]); (try simp only [List.set_cons_zero]); (try simp only [Nat.zero_add])
              have hrx : r6 < v1.heap.size := (J1.out.cel (.head _)).lt
              generalize v1.alloc (.cells (enl (enT nx (trpE T nx))).toArray 104) = v3 at J3 hHeld ⊢
              generalize v1.heap.size = rx at J3 hrx hHeld ⊢
              refine wpAnyH_ready (rs := [12]) (by kernel_rfl) (by simp) ?_
              refine AllReadyH.cons rfl (fun K hK => ?_) AllReadyH.nil
              refine step_appEr (by rfl) _ _ (by rfl) g en cp r.E (by rfl) (J3.out.roomE (.tail _ (.tail _ (.tail _ (.head _))))) (some ⟨rx, 0, none⟩) 1 1 [(enT nx (trpE T nx))] (by rfl) rfl (fun h => by cases h) (ent_src (J3.out.cel (.head _)).range) (en + 1) rfl (by omega) ?_
              intro g2 cp2 v4 hO hg2 hcp2 hk9
              have J4 := hid_mk (((J3.out.sub (gs := [celF r6 (col (⟨8, pc, 24, 24, t, en, nx, true, 48⟩ : Cv) (⟨b, d, b1, d1, b2, d2, some ⟨g, 0, none⟩, cp, some ⟨j, 0, none⟩, dj⟩ : Ca)), ansSF b b1 b2 8 24 24 r.R r.L r.G, intF j 48 r.J, celF (w.heap.size + 1) ([.slice none 0 0, .int .i64 0, .bool false, .int .i64 0, .int .i64 0, .int .i64 0, .int .i64 0, .slice none 0 0, .slice none 0 0, .int .i64 0, .slice none 0 0, .int .i64 0, .bool false, .int .i64 0, .int .i64 0, .int .i64 0, .int .i64 0, .bool false, .slice none 0 0] : List Value), celF w.heap.size (col (⟨8, pc, 24, 24, t, en, nx, false, 48⟩ : Cv) a), argCF w.heap.size (⟨8, pc, 24, 24, t, en, nx, false, 48⟩ : Cv) a r, sliF w.heap.size la ln LL]) (fun f hf => by simp only [List.mem_cons, List.not_mem_nil, or_false] at hf ⊢; rcases hf with rfl | rfl | rfl | rfl | rfl | rfl | rfl; exact .inr (.inl rfl); exact .inr (.inr (.inl rfl)); exact .inr (.inr (.inr (.inr (.inl rfl)))); exact .inr (.inr (.inr (.inr (.inr (.inl rfl))))); exact .inr (.inr (.inr (.inr (.inr (.inr (.inl rfl)))))); exact .inr (.inr (.inr (.inr (.inr (.inr (.inr (.inl rfl))))))); exact .inr (.inr (.inr (.inr (.inr (.inr (.inr (.inr rfl))))))))).wrote (T := fun k => k = g) (KeptS.ofBut hk9 rfl) (fun k e => by have := BN.out; omega)
                (fun f hf k hk e => by
                  have bn := BN.out
                  simp only [List.mem_cons, List.not_mem_nil, or_false] at hf
                  rcases hf with rfl | rfl | rfl | rfl | rfl | rfl | rfl
                  · simp only [celF] at hk; omega
                  · have h1 := bn.1 k hk; omega
                  · simp only [intF] at hk; omega
                  · simp only [celF] at hk; omega
                  · simp only [celF] at hk; omega
                  · simp only [argCF] at hk; omega
                  · simp only [sliF] at hk; omega
                  )).push (roomEF g2 (en + 1) cp2 (r.E ++ [(enT nx (trpE T nx))])) hO)
              have hlx := (J3.out.cel (.tail _ (.head _))).lt
              have BM : Hid (g2 = g ∨ r6 < g2) := by rcases hg2 with h | h; exact .inl h; exact .inr (by omega)
              clear hk9 hO hg2 hlx
              refine hK.out _ _ (SU.out _ (J4.out.sub (gs := [celF r6 (col (⟨8, pc, 24, 24, t, en, nx, true, 48⟩ : Cv) (⟨b, d, b1, d1, b2, d2, some ⟨g, 0, none⟩, cp, some ⟨j, 0, none⟩, dj⟩ : Ca)), celF w.heap.size (col (⟨8, pc, 24, 24, t, en, nx, false, 48⟩ : Cv) a)]) (fun f hf => by simp only [List.mem_cons, List.not_mem_nil, or_false] at hf ⊢; rcases hf with rfl | rfl; exact .inr (.inl rfl); exact .inr (.inr (.inr (.inr (.inr (.inl rfl)))))))) (fun hHeld => ?_)
              clear hK K
              (try simp only [Act.put]); (try simp only [List.setIfInBounds_toArray]); (try simp only [List.set_cons_succ]); (try simp only [List.set_cons_zero]); (try simp only [List.set_cons_succ]); (try simp only [List.set_cons_zero]); (try simp only [Nat.zero_add])
              refine take_on (i := 13) (d := 53) (v := .pointer (some ⟨r6, 10, none⟩)) rfl rfl (by kernel_rfl) (by kernel_rfl) (by kernel_rfl) (fun _ _ _ h => h) (by rfl) ?_ hHeld ?_
              · (intro w' hSw; go_simp)
              (try simp only [Act.put]); (try simp only [List.setIfInBounds_toArray]); (try simp only [List.set_cons_succ]); (try simp only [List.set_cons_zero]); (try simp only [List.set_cons_succ]); (try simp only [List.set_cons_zero]); (try simp only [Nat.zero_add])
              refine wpAnyH_ready (rs := [14]) (by kernel_rfl) (by simp) ?_
              refine AllReadyH.cons rfl (fun K hK => ?_) AllReadyH.nil
              have q10 : v4.cell? ⟨r6, 10, none⟩ = some (.slice (some ⟨g, 0, none⟩) en cp) := (J4.out.cel (.tail _ (.head _))).c 10 _ rfl
              have z10 : v4.frozen? ⟨r6, 10, none⟩ = false := (J4.out.cel (.tail _ (.head _))).f 10 (by simp [col])
              go_simp
              clear q10 z10
              have BO : Hid ((∀ k, On b k ∨ On b1 k ∨ On b2 k → w.heap.size + 1 < k ∧ k < r6 ∧ k ≠ g2 ∧ k ≠ j) ∧ w.heap.size + 1 < g2 ∧ g2 ≠ r6 ∧ (w.heap.size + 1 < j ∧ j < r6) ∧ g2 ≠ j) := by
                have b0 := BN.out
                have b1 := BM.out
                exact ⟨fun k hk => by have := b0.1 k hk; omega, by omega, by omega, by omega, by omega⟩
              have BP := hid_mk BN.out.2.1
              clear BM
              have J5 : Hid (Hold w (v4.setCell ⟨r6, 10, none⟩ (.slice (some ⟨g2, 0, none⟩) (en + 1) cp2)) [celF r6 (col (⟨8, pc, 24, 24, t, (en + 1), nx, true, 48⟩ : Cv) (⟨b, d, b1, d1, b2, d2, some ⟨g2, 0, none⟩, cp2, some ⟨j, 0, none⟩, dj⟩ : Ca)), roomEF g2 (en + 1) cp2 (r.E ++ [(enT nx (trpE T nx))]), ansSF b b1 b2 8 24 24 r.R r.L r.G, intF j 48 r.J, celF (w.heap.size + 1) ([.slice none 0 0, .int .i64 0, .bool false, .int .i64 0, .int .i64 0, .int .i64 0, .int .i64 0, .slice none 0 0, .slice none 0 0, .int .i64 0, .slice none 0 0, .int .i64 0, .bool false, .int .i64 0, .int .i64 0, .int .i64 0, .int .i64 0, .bool false, .slice none 0 0] : List Value), celF w.heap.size (col (⟨8, pc, 24, 24, t, en, nx, false, 48⟩ : Cv) a), argCF w.heap.size (⟨8, pc, 24, 24, t, en, nx, false, 48⟩ : Cv) a r, sliF w.heap.size la ln LL]) := (J4.out.sub (gs := [celF r6 (col (⟨8, pc, 24, 24, t, en, nx, true, 48⟩ : Cv) (⟨b, d, b1, d1, b2, d2, some ⟨g, 0, none⟩, cp, some ⟨j, 0, none⟩, dj⟩ : Ca)), roomEF g2 (en + 1) cp2 (r.E ++ [(enT nx (trpE T nx))]), ansSF b b1 b2 8 24 24 r.R r.L r.G, intF j 48 r.J, celF (w.heap.size + 1) ([.slice none 0 0, .int .i64 0, .bool false, .int .i64 0, .int .i64 0, .int .i64 0, .int .i64 0, .slice none 0 0, .slice none 0 0, .int .i64 0, .slice none 0 0, .int .i64 0, .bool false, .int .i64 0, .int .i64 0, .int .i64 0, .int .i64 0, .bool false, .slice none 0 0] : List Value), celF w.heap.size (col (⟨8, pc, 24, 24, t, en, nx, false, 48⟩ : Cv) a), argCF w.heap.size (⟨8, pc, 24, 24, t, en, nx, false, 48⟩ : Cv) a r, sliF w.heap.size la ln LL]) (fun f hf => by simp only [List.mem_cons, List.not_mem_nil, or_false] at hf ⊢; rcases hf with rfl | rfl | rfl | rfl | rfl | rfl | rfl | rfl; exact .inr (.inl rfl); exact .inl rfl; exact .inr (.inr (.inl rfl)); exact .inr (.inr (.inr (.inl rfl))); exact .inr (.inr (.inr (.inr (.inl rfl)))); exact .inr (.inr (.inr (.inr (.inr (.inl rfl))))); exact .inr (.inr (.inr (.inr (.inr (.inr (.inl rfl)))))); exact .inr (.inr (.inr (.inr (.inr (.inr (.inr rfl)))))))).setc (by have := BP.out; omega) (fun f hf k hk e => by
                have bn := BO.out
                have bp := BP.out
                simp only [List.mem_cons, List.not_mem_nil, or_false] at hf
                rcases hf with rfl | rfl | rfl | rfl | rfl | rfl | rfl
                · simp only [roomEF] at hk; omega
                · have h1 := bn.1 k hk; omega
                · simp only [intF] at hk; omega
                · simp only [celF] at hk; omega
                · simp only [celF] at hk; omega
                · simp only [argCF] at hk; omega
                · simp only [sliF] at hk; omega) 10 _
              refine hK.out _ _ ⟨.slice (some ⟨g2, 0, none⟩) (en + 1) cp2, J5.out.sub (gs := [celF r6 (col (⟨8, pc, 24, 24, t, (en + 1), nx, true, 48⟩ : Cv) (⟨b, d, b1, d1, b2, d2, some ⟨g2, 0, none⟩, cp2, some ⟨j, 0, none⟩, dj⟩ : Ca)), celF w.heap.size (col (⟨8, pc, 24, 24, t, en, nx, false, 48⟩ : Cv) a)]) (fun f hf => by simp only [List.mem_cons, List.not_mem_nil, or_false] at hf ⊢; rcases hf with rfl | rfl; exact .inl rfl; exact .inr (.inr (.inr (.inr (.inr (.inl rfl))))))⟩ (fun hHeld => ?_)
              clear hK K
              refine wpAnyH_done (by kernel_rfl) ?_ _
              clear hHeld SU D0 BP
              try dsimp only
              generalize v4.setCell ⟨r6, 10, none⟩ (.slice (some ⟨g2, 0, none⟩) (en + 1) cp2) = w10 at J5 ⊢
              go_upto_region 10 with fail
              have H := J5
              clear J5
              have PE := hid_mk (pul_end (V := (⟨8, pc, 24, 24, t, (en + 1), nx, true, 48⟩ : Cv)) (Rr := (Cr.mk r.R r.L r.G (r.E ++ [(enT nx (trpE T nx))]) r.J)) (d := d) (d1 := d1) (d2 := d2) (dj := dj) (H.out.ansS (.tail _ (.tail _ (.head _)))) (H.out.roomE (.tail _ (.head _))) (H.out.at (f := intF j 48 r.J) (.tail _ (.tail _ (.tail _ (.head _))))) (fun k hk => by have h1 := BO.out.1 k hk; omega) (by have := BO.out; omega) (H.out.cel (.tail _ (.tail _ (.tail _ (.tail _ (.head _)))))) rfl H.out.bel)
              have R6 := hid_mk (H.out.cel (.head _)).range
              have T4 := hid_mk (H.out.cel (.tail _ (.tail _ (.tail _ (.tail _ (.head _)))))).there
              clear H
              go_wp2_with (first | (refine wpList_load_mid (by rfl) 64 _ (by rfl) r6 0 (by rfl) (col (⟨8, pc, 24, 24, t, (en + 1), nx, true, 48⟩ : Cv) (⟨b, d, b1, d1, b2, d2, some ⟨g2, 0, none⟩, cp2, some ⟨j, 0, none⟩, dj⟩ : Ca)) _ R6.out Tryz.underlying64 rfl sizeCor ?_) | (refine wpList_store_mid (by rfl) 64 _ _ (by rfl) (w.heap.size + 1) 0 (col (⟨8, pc, 24, 24, t, (en + 1), nx, true, 48⟩ : Cv) (⟨b, d, b1, d1, b2, d2, some ⟨g2, 0, none⟩, cp2, some ⟨j, 0, none⟩, dj⟩ : Ca)).toArray (by rfl) (by rfl) T4.out sizeCor (col_one _ _) ?_))
              refine bodyPost_ret (v := .tuple #[.agg (col (⟨8, pc, 24, 24, t, (en + 1), nx, true, 48⟩ : Cv) (⟨b, d, b1, d1, b2, d2, some ⟨g2, 0, none⟩, cp2, some ⟨j, 0, none⟩, dj⟩ : Ca)).toArray, .bool true]) (results_cellT Tryz.results25 (by rfl) PE.out.2.2.2 (by rfl)) rfl (HQ.out (⟨b, d, b1, d1, b2, d2, some ⟨g2, 0, none⟩, cp2, some ⟨j, 0, none⟩, dj⟩ : Ca) _ PE.out.1 PE.out.2.1 PE.out.2.2.1)
            · refine step_entS (by rfl) _ (by rfl) (enT nx (trpE T nx)) (by rfl) ?_
              have J2 := hid_mk (J1.out.box (enl (enT nx (trpE T nx))) 104 v1.heap.size rfl)
              refine hK.out _ _ (SU.out _ (J2.out.sub (gs := [celF r6 (col (⟨8, pc, 24, 24, t, en, nx, true, 48⟩ : Cv) (⟨b, d, b1, d1, b2, d2, some ⟨g, 0, none⟩, cp, some ⟨j, 0, none⟩, dj⟩ : Ca)), celF w.heap.size (col (⟨8, pc, 24, 24, t, en, nx, false, 48⟩ : Cv) a)]) (fun f hf => by simp only [List.mem_cons, List.not_mem_nil, or_false] at hf ⊢; rcases hf with rfl | rfl; exact .inr (.inl rfl); exact .inr (.inr (.inr (.inr (.inr (.inr (.inl rfl))))))))) (fun hHeld => ?_)
              clear hK K
              (try simp only [Act.put]); (try simp only [List.setIfInBounds_toArray]); (try simp only [List.set_cons_succ]); (try simp only [List.set_cons_zero]); (try simp only [List.set_cons_succ]); (try simp only [List.set_cons_zero]); (try simp only [Nat.zero_add])
              have hrx : r6 < v1.heap.size := (J1.out.cel (.head _)).lt
              generalize v1.alloc (.cells (enl (enT nx (trpE T nx))).toArray 104) = v2 at J2 hHeld ⊢
              generalize v1.heap.size = rx at J2 hrx hHeld ⊢
              refine wpAnyH_ready (rs := [1]) (by kernel_rfl) (by simp) ?_
              refine AllReadyH.cons rfl (fun K hK => ?_) AllReadyH.nil
              have q10 : v2.cell? ⟨r6, 10, none⟩ = some (.slice (some ⟨g, 0, none⟩) en cp) := (J2.out.cel (.tail _ (.head _))).c 10 _ rfl
              go_simp
              clear q10
              refine hK.out _ _ (SU.out _ (J2.out.sub (gs := [celF r6 (col (⟨8, pc, 24, 24, t, en, nx, true, 48⟩ : Cv) (⟨b, d, b1, d1, b2, d2, some ⟨g, 0, none⟩, cp, some ⟨j, 0, none⟩, dj⟩ : Ca)), celF w.heap.size (col (⟨8, pc, 24, 24, t, en, nx, false, 48⟩ : Cv) a)]) (fun f hf => by simp only [List.mem_cons, List.not_mem_nil, or_false] at hf ⊢; rcases hf with rfl | rfl; exact .inr (.inl rfl); exact .inr (.inr (.inr (.inr (.inr (.inr (.inl rfl))))))))) (fun hHeld => ?_)
              clear hK K
              (try simp only [Act.put]); (try simp only [List.setIfInBounds_toArray]); (try simp only [List.set_cons_succ]); (try simp only [List.set_cons_zero]); (try simp only [List.set_cons_succ]); (try simp only [List.set_cons_zero]); (try simp only [Nat.zero_add])
              refine wpAnyH_ready (rs := [12]) (by kernel_rfl) (by simp) ?_
              refine AllReadyH.cons rfl (fun K hK => ?_) AllReadyH.nil
              refine step_appEr (by rfl) _ _ (by rfl) g en cp r.E (by rfl) (J2.out.roomE (.tail _ (.tail _ (.tail _ (.head _))))) (some ⟨rx, 0, none⟩) 1 1 [(enT nx (trpE T nx))] (by rfl) rfl (fun h => by cases h) (ent_src (J2.out.cel (.head _)).range) (en + 1) rfl (by omega) ?_
              intro g2 cp2 v4 hO hg2 hcp2 hk9
              have J4 := hid_mk (((J2.out.sub (gs := [celF r6 (col (⟨8, pc, 24, 24, t, en, nx, true, 48⟩ : Cv) (⟨b, d, b1, d1, b2, d2, some ⟨g, 0, none⟩, cp, some ⟨j, 0, none⟩, dj⟩ : Ca)), ansSF b b1 b2 8 24 24 r.R r.L r.G, intF j 48 r.J, celF (w.heap.size + 1) ([.slice none 0 0, .int .i64 0, .bool false, .int .i64 0, .int .i64 0, .int .i64 0, .int .i64 0, .slice none 0 0, .slice none 0 0, .int .i64 0, .slice none 0 0, .int .i64 0, .bool false, .int .i64 0, .int .i64 0, .int .i64 0, .int .i64 0, .bool false, .slice none 0 0] : List Value), celF w.heap.size (col (⟨8, pc, 24, 24, t, en, nx, false, 48⟩ : Cv) a), argCF w.heap.size (⟨8, pc, 24, 24, t, en, nx, false, 48⟩ : Cv) a r, sliF w.heap.size la ln LL]) (fun f hf => by simp only [List.mem_cons, List.not_mem_nil, or_false] at hf ⊢; rcases hf with rfl | rfl | rfl | rfl | rfl | rfl | rfl; exact .inr (.inl rfl); exact .inr (.inr (.inl rfl)); exact .inr (.inr (.inr (.inr (.inl rfl)))); exact .inr (.inr (.inr (.inr (.inr (.inl rfl))))); exact .inr (.inr (.inr (.inr (.inr (.inr (.inl rfl)))))); exact .inr (.inr (.inr (.inr (.inr (.inr (.inr (.inl rfl))))))); exact .inr (.inr (.inr (.inr (.inr (.inr (.inr (.inr rfl))))))))).wrote (T := fun k => k = g) (KeptS.ofBut hk9 rfl) (fun k e => by have := BN.out; omega)
                (fun f hf k hk e => by
                  have bn := BN.out
                  simp only [List.mem_cons, List.not_mem_nil, or_false] at hf
                  rcases hf with rfl | rfl | rfl | rfl | rfl | rfl | rfl
                  · simp only [celF] at hk; omega
                  · have h1 := bn.1 k hk; omega
                  · simp only [intF] at hk; omega
                  · simp only [celF] at hk; omega
                  · simp only [celF] at hk; omega
                  · simp only [argCF] at hk; omega
                  · simp only [sliF] at hk; omega
                  )).push (roomEF g2 (en + 1) cp2 (r.E ++ [(enT nx (trpE T nx))])) hO)
              have hlx := (J2.out.cel (.tail _ (.head _))).lt
              have BM : Hid (g2 = g ∨ r6 < g2) := by rcases hg2 with h | h; exact .inl h; exact .inr (by omega)
              clear hk9 hO hg2 hlx
              refine hK.out _ _ (SU.out _ (J4.out.sub (gs := [celF r6 (col (⟨8, pc, 24, 24, t, en, nx, true, 48⟩ : Cv) (⟨b, d, b1, d1, b2, d2, some ⟨g, 0, none⟩, cp, some ⟨j, 0, none⟩, dj⟩ : Ca)), celF w.heap.size (col (⟨8, pc, 24, 24, t, en, nx, false, 48⟩ : Cv) a)]) (fun f hf => by simp only [List.mem_cons, List.not_mem_nil, or_false] at hf ⊢; rcases hf with rfl | rfl; exact .inr (.inl rfl); exact .inr (.inr (.inr (.inr (.inr (.inl rfl)))))))) (fun hHeld => ?_)
              clear hK K
              (try simp only [Act.put]); (try simp only [List.setIfInBounds_toArray]); (try simp only [List.set_cons_succ]); (try simp only [List.set_cons_zero]); (try simp only [List.set_cons_succ]); (try simp only [List.set_cons_zero]); (try simp only [Nat.zero_add])
              refine take_on (i := 13) (d := 53) (v := .pointer (some ⟨r6, 10, none⟩)) rfl rfl (by kernel_rfl) (by kernel_rfl) (by kernel_rfl) (fun _ _ _ h => h) (by rfl) ?_ hHeld ?_
              · (intro w' hSw; go_simp)
              (try simp only [Act.put]); (try simp only [List.setIfInBounds_toArray]); (try simp only [List.set_cons_succ]); (try simp only [List.set_cons_zero]); (try simp only [List.set_cons_succ]); (try simp only [List.set_cons_zero]); (try simp only [Nat.zero_add])
              refine wpAnyH_ready (rs := [14]) (by kernel_rfl) (by simp) ?_
              refine AllReadyH.cons rfl (fun K hK => ?_) AllReadyH.nil
              have q10 : v4.cell? ⟨r6, 10, none⟩ = some (.slice (some ⟨g, 0, none⟩) en cp) := (J4.out.cel (.tail _ (.head _))).c 10 _ rfl
              have z10 : v4.frozen? ⟨r6, 10, none⟩ = false := (J4.out.cel (.tail _ (.head _))).f 10 (by simp [col])
              go_simp
              clear q10 z10
              have BO : Hid ((∀ k, On b k ∨ On b1 k ∨ On b2 k → w.heap.size + 1 < k ∧ k < r6 ∧ k ≠ g2 ∧ k ≠ j) ∧ w.heap.size + 1 < g2 ∧ g2 ≠ r6 ∧ (w.heap.size + 1 < j ∧ j < r6) ∧ g2 ≠ j) := by
                have b0 := BN.out
                have b1 := BM.out
                exact ⟨fun k hk => by have := b0.1 k hk; omega, by omega, by omega, by omega, by omega⟩
              have BP := hid_mk BN.out.2.1
              clear BM
              have J5 : Hid (Hold w (v4.setCell ⟨r6, 10, none⟩ (.slice (some ⟨g2, 0, none⟩) (en + 1) cp2)) [celF r6 (col (⟨8, pc, 24, 24, t, (en + 1), nx, true, 48⟩ : Cv) (⟨b, d, b1, d1, b2, d2, some ⟨g2, 0, none⟩, cp2, some ⟨j, 0, none⟩, dj⟩ : Ca)), roomEF g2 (en + 1) cp2 (r.E ++ [(enT nx (trpE T nx))]), ansSF b b1 b2 8 24 24 r.R r.L r.G, intF j 48 r.J, celF (w.heap.size + 1) ([.slice none 0 0, .int .i64 0, .bool false, .int .i64 0, .int .i64 0, .int .i64 0, .int .i64 0, .slice none 0 0, .slice none 0 0, .int .i64 0, .slice none 0 0, .int .i64 0, .bool false, .int .i64 0, .int .i64 0, .int .i64 0, .int .i64 0, .bool false, .slice none 0 0] : List Value), celF w.heap.size (col (⟨8, pc, 24, 24, t, en, nx, false, 48⟩ : Cv) a), argCF w.heap.size (⟨8, pc, 24, 24, t, en, nx, false, 48⟩ : Cv) a r, sliF w.heap.size la ln LL]) := (J4.out.sub (gs := [celF r6 (col (⟨8, pc, 24, 24, t, en, nx, true, 48⟩ : Cv) (⟨b, d, b1, d1, b2, d2, some ⟨g, 0, none⟩, cp, some ⟨j, 0, none⟩, dj⟩ : Ca)), roomEF g2 (en + 1) cp2 (r.E ++ [(enT nx (trpE T nx))]), ansSF b b1 b2 8 24 24 r.R r.L r.G, intF j 48 r.J, celF (w.heap.size + 1) ([.slice none 0 0, .int .i64 0, .bool false, .int .i64 0, .int .i64 0, .int .i64 0, .int .i64 0, .slice none 0 0, .slice none 0 0, .int .i64 0, .slice none 0 0, .int .i64 0, .bool false, .int .i64 0, .int .i64 0, .int .i64 0, .int .i64 0, .bool false, .slice none 0 0] : List Value), celF w.heap.size (col (⟨8, pc, 24, 24, t, en, nx, false, 48⟩ : Cv) a), argCF w.heap.size (⟨8, pc, 24, 24, t, en, nx, false, 48⟩ : Cv) a r, sliF w.heap.size la ln LL]) (fun f hf => by simp only [List.mem_cons, List.not_mem_nil, or_false] at hf ⊢; rcases hf with rfl | rfl | rfl | rfl | rfl | rfl | rfl | rfl; exact .inr (.inl rfl); exact .inl rfl; exact .inr (.inr (.inl rfl)); exact .inr (.inr (.inr (.inl rfl))); exact .inr (.inr (.inr (.inr (.inl rfl)))); exact .inr (.inr (.inr (.inr (.inr (.inl rfl))))); exact .inr (.inr (.inr (.inr (.inr (.inr (.inl rfl)))))); exact .inr (.inr (.inr (.inr (.inr (.inr (.inr rfl)))))))).setc (by have := BP.out; omega) (fun f hf k hk e => by
                have bn := BO.out
                have bp := BP.out
                simp only [List.mem_cons, List.not_mem_nil, or_false] at hf
                rcases hf with rfl | rfl | rfl | rfl | rfl | rfl | rfl
                · simp only [roomEF] at hk; omega
                · have h1 := bn.1 k hk; omega
                · simp only [intF] at hk; omega
                · simp only [celF] at hk; omega
                · simp only [celF] at hk; omega
                · simp only [argCF] at hk; omega
                · simp only [sliF] at hk; omega) 10 _
              refine hK.out _ _ ⟨.slice (some ⟨g2, 0, none⟩) (en + 1) cp2, J5.out.sub (gs := [celF r6 (col (⟨8, pc, 24, 24, t, (en + 1), nx, true, 48⟩ : Cv) (⟨b, d, b1, d1, b2, d2, some ⟨g2, 0, none⟩, cp2, some ⟨j, 0, none⟩, dj⟩ : Ca)), celF w.heap.size (col (⟨8, pc, 24, 24, t, en, nx, false, 48⟩ : Cv) a)]) (fun f hf => by simp only [List.mem_cons, List.not_mem_nil, or_false] at hf ⊢; rcases hf with rfl | rfl; exact .inl rfl; exact .inr (.inr (.inr (.inr (.inr (.inl rfl))))))⟩ (fun hHeld => ?_)
              clear hK K
              refine wpAnyH_done (by kernel_rfl) ?_ _
              clear hHeld SU D0 BP
              try dsimp only
              generalize v4.setCell ⟨r6, 10, none⟩ (.slice (some ⟨g2, 0, none⟩) (en + 1) cp2) = w10 at J5 ⊢
              go_upto_region 10 with fail
              have H := J5
              clear J5
              have PE := hid_mk (pul_end (V := (⟨8, pc, 24, 24, t, (en + 1), nx, true, 48⟩ : Cv)) (Rr := (Cr.mk r.R r.L r.G (r.E ++ [(enT nx (trpE T nx))]) r.J)) (d := d) (d1 := d1) (d2 := d2) (dj := dj) (H.out.ansS (.tail _ (.tail _ (.head _)))) (H.out.roomE (.tail _ (.head _))) (H.out.at (f := intF j 48 r.J) (.tail _ (.tail _ (.tail _ (.head _))))) (fun k hk => by have h1 := BO.out.1 k hk; omega) (by have := BO.out; omega) (H.out.cel (.tail _ (.tail _ (.tail _ (.tail _ (.head _)))))) rfl H.out.bel)
              have R6 := hid_mk (H.out.cel (.head _)).range
              have T4 := hid_mk (H.out.cel (.tail _ (.tail _ (.tail _ (.tail _ (.head _)))))).there
              clear H
              go_wp2_with (first | (refine wpList_load_mid (by rfl) 64 _ (by rfl) r6 0 (by rfl) (col (⟨8, pc, 24, 24, t, (en + 1), nx, true, 48⟩ : Cv) (⟨b, d, b1, d1, b2, d2, some ⟨g2, 0, none⟩, cp2, some ⟨j, 0, none⟩, dj⟩ : Ca)) _ R6.out Tryz.underlying64 rfl sizeCor ?_) | (refine wpList_store_mid (by rfl) 64 _ _ (by rfl) (w.heap.size + 1) 0 (col (⟨8, pc, 24, 24, t, (en + 1), nx, true, 48⟩ : Cv) (⟨b, d, b1, d1, b2, d2, some ⟨g2, 0, none⟩, cp2, some ⟨j, 0, none⟩, dj⟩ : Ca)).toArray (by rfl) (by rfl) T4.out sizeCor (col_one _ _) ?_))
              refine bodyPost_ret (v := .tuple #[.agg (col (⟨8, pc, 24, 24, t, (en + 1), nx, true, 48⟩ : Cv) (⟨b, d, b1, d1, b2, d2, some ⟨g2, 0, none⟩, cp2, some ⟨j, 0, none⟩, dj⟩ : Ca)).toArray, .bool true]) (results_cellT Tryz.results25 (by rfl) PE.out.2.2.2 (by rfl)) rfl (HQ.out (⟨b, d, b1, d1, b2, d2, some ⟨g2, 0, none⟩, cp2, some ⟨j, 0, none⟩, dj⟩ : Ca) _ PE.out.1 PE.out.2.1 PE.out.2.2.1)
      · have he1 : ((en : Int) == 6) = false := by simp; omega
        have he2 : ¬ ((en : Int) = 6) := by omega
        have ht1 : (t != 0) = true := by simp [ht]
        have hst : stpB (⟨8, pc, 24, 24, t, en, nx, false, 48⟩ : Cv) = true := by simp [stpB, ht]
        have hV : V = (⟨8, pc, 24, 24, t, en, nx, false, 48⟩ : Cv) := by rw [HV.out, pulV, if_pos hz.out, if_pos hst]
        have hR : r = Rr := by rw [HR.out, pulR, if_pos hz.out, if_pos hst]
        have hB : Bb = false := by rw [HB.out, pulB, hz.out, hst]; rfl
        clear HV HR HB hz hst
        subst hV hB; subst hR
        go_upto_region 5 with fail
        clear c9 c10 c17
        have PE := hid_mk (pul_end (V := (⟨8, pc, 24, 24, t, en, nx, false, 48⟩ : Cv)) (Rr := r) (d := d) (d1 := d1) (d2 := d2) (dj := dj) (H.out.ansS (.tail _ (.head _))) (H.out.roomE (.tail _ (.tail _ (.head _)))) (H.out.at (f := intF j 48 r.J) (.tail _ (.tail _ (.tail _ (.head _))))) (fun k hk => by have h1 := BN.out.1 k hk; omega) (by have := BN.out; omega) (H.out.cel (.tail _ (.tail _ (.tail _ (.tail _ (.head _)))))) rfl H.out.bel)
        have R6 := hid_mk (H.out.cel (.head _)).range
        have T4 := hid_mk (H.out.cel (.tail _ (.tail _ (.tail _ (.tail _ (.head _)))))).there
        clear H
        go_wp2_with (first | (refine wpList_load_mid (by rfl) 64 _ (by rfl) r6 0 (by rfl) (col (⟨8, pc, 24, 24, t, en, nx, false, 48⟩ : Cv) (⟨b, d, b1, d1, b2, d2, some ⟨g, 0, none⟩, cp, some ⟨j, 0, none⟩, dj⟩ : Ca)) _ R6.out Tryz.underlying64 rfl sizeCor ?_) | (refine wpList_store_mid (by rfl) 64 _ _ (by rfl) (w.heap.size + 1) 0 (col (⟨8, pc, 24, 24, t, en, nx, false, 48⟩ : Cv) (⟨b, d, b1, d1, b2, d2, some ⟨g, 0, none⟩, cp, some ⟨j, 0, none⟩, dj⟩ : Ca)).toArray (by rfl) (by rfl) T4.out sizeCor (col_one _ _) ?_))
        refine bodyPost_ret (v := .tuple #[.agg (col (⟨8, pc, 24, 24, t, en, nx, false, 48⟩ : Cv) (⟨b, d, b1, d1, b2, d2, some ⟨g, 0, none⟩, cp, some ⟨j, 0, none⟩, dj⟩ : Ca)).toArray, .bool false]) (results_cellT Tryz.results25 (by rfl) PE.out.2.2.2 (by rfl)) rfl (HQ.out (⟨b, d, b1, d1, b2, d2, some ⟨g, 0, none⟩, cp, some ⟨j, 0, none⟩, dj⟩ : Ca) _ PE.out.1 PE.out.2.1 PE.out.2.2.1)
    · have hst : stpB (⟨8, pc, 24, 24, t, en, nx, true, 48⟩ : Cv) = true := rfl
      have hV : V = (⟨8, pc, 24, 24, t, en, nx, true, 48⟩ : Cv) := by rw [HV.out, pulV, if_pos hz.out, if_pos hst]
      have hR : r = Rr := by rw [HR.out, pulR, if_pos hz.out, if_pos hst]
      have hB : Bb = false := by rw [HB.out, pulB, hz.out, hst]; rfl
      clear HV HR HB hz hst
      subst hV hB; subst hR
      go_upto_region 5 with fail
      clear c9 c10 c17
      have PE := hid_mk (pul_end (V := (⟨8, pc, 24, 24, t, en, nx, true, 48⟩ : Cv)) (Rr := r) (d := d) (d1 := d1) (d2 := d2) (dj := dj) (H.out.ansS (.tail _ (.head _))) (H.out.roomE (.tail _ (.tail _ (.head _)))) (H.out.at (f := intF j 48 r.J) (.tail _ (.tail _ (.tail _ (.head _))))) (fun k hk => by have h1 := BN.out.1 k hk; omega) (by have := BN.out; omega) (H.out.cel (.tail _ (.tail _ (.tail _ (.tail _ (.head _)))))) rfl H.out.bel)
      have R6 := hid_mk (H.out.cel (.head _)).range
      have T4 := hid_mk (H.out.cel (.tail _ (.tail _ (.tail _ (.tail _ (.head _)))))).there
      clear H
      go_wp2_with (first | (refine wpList_load_mid (by rfl) 64 _ (by rfl) r6 0 (by rfl) (col (⟨8, pc, 24, 24, t, en, nx, true, 48⟩ : Cv) (⟨b, d, b1, d1, b2, d2, some ⟨g, 0, none⟩, cp, some ⟨j, 0, none⟩, dj⟩ : Ca)) _ R6.out Tryz.underlying64 rfl sizeCor ?_) | (refine wpList_store_mid (by rfl) 64 _ _ (by rfl) (w.heap.size + 1) 0 (col (⟨8, pc, 24, 24, t, en, nx, true, 48⟩ : Cv) (⟨b, d, b1, d1, b2, d2, some ⟨g, 0, none⟩, cp, some ⟨j, 0, none⟩, dj⟩ : Ca)).toArray (by rfl) (by rfl) T4.out sizeCor (col_one _ _) ?_))
      refine bodyPost_ret (v := .tuple #[.agg (col (⟨8, pc, 24, 24, t, en, nx, true, 48⟩ : Cv) (⟨b, d, b1, d1, b2, d2, some ⟨g, 0, none⟩, cp, some ⟨j, 0, none⟩, dj⟩ : Ca)).toArray, .bool false]) (results_cellT Tryz.results25 (by rfl) PE.out.2.2.2 (by rfl)) rfl (HQ.out (⟨b, d, b1, d1, b2, d2, some ⟨g, 0, none⟩, cp, some ⟨j, 0, none⟩, dj⟩ : Ca) _ PE.out.1 PE.out.2.1 PE.out.2.2.1)
end Go.Proofs.YtpkhnajhamnggaaGreatDoor
