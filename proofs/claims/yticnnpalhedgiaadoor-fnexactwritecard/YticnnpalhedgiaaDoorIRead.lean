/- Read of the program at all memories: what it answers, in a world that holds its four errors. -/
import Derived.Test.YticnnpalhedgiaaDoorMemR
import Derived.Test.YticnnpalhedgiaaDoorIMem
import Derived.Test.YticnnpalhedgiaaDoorTryX
import Derived.Test.YticnnpalhedgiaaDoorHoldW
import Derived.Test.YticnnpalhedgiaaDoorCpy2
namespace Go.Proofs.YticnnpalhedgiaaDoor
open Go.ChangeShapes Go.WideShapes Go.ChangeAt Go.RowKit
set_option maxRecDepth 100000

/-- The trap of an access. -/
def trpZ (n : Nat) (y : Wd) (m q : Int) : Int :=
  bif tryZ y.n y.i y.b y.t y.p y.s m q == 0 then (bif inB m n then 0 else 4) else tryZ y.n y.i y.b y.t y.p y.s m q
theorem trp_in {n : Nat} {y : Wd} {m q : Int} (h : trpZ n y m q = 0) : 0 ≤ m ∧ m ≤ (n : Int) - 1 := by
  unfold trpZ inB at h
  by_cases hi : 0 ≤ m ∧ m ≤ (n : Int) - 1
  · exact hi
  · rw [decide_eq_false hi] at h
    cases ht : (tryZ y.n y.i y.b y.t y.p y.s m q == 0) with
    | true => rw [ht] at h; simp at h
    | false =>
      rw [ht] at h
      have h2 : tryZ y.n y.i y.b y.t y.p y.s m q = 0 := h
      rw [h2] at ht
      simp at ht

set_option maxHeartbeats 4000000 in
theorem trapAt_any (a0 a1 a2 a3 : Addr) (a : Option Addr) (n c : Nat) (v1 : Value) (y : Wd) (m q : Int) (w : World) (hE : Errs a0 a1 a2 a3 w) :
    Calls Tryd.prog 52 #[.agg #[.slice a n c, v1], .agg #[.int .i64 y.n, .bool y.i, .int .i64 y.b, .int .i64 y.t, .int .i64 y.p, .int .i64 y.s], .int .i64 m, .int .i64 q] w fun e w' => e = .returned (.int .i64 (trpZ n y m q)) ∧ Below w.heap.size w w' := by
  have H := hid_mk ((((Hold.new w).alloc (.cells #[.slice a n c, v1] 27)).push (duoF w.heap.size (.slice a n c) v1) (Duo.new w _ _ _)).alloc (.cells #[.int .i64 y.n, .bool y.i, .int .i64 y.b, .int .i64 y.t, .int .i64 y.p, .int .i64 y.s] 36) |>.push (sixF (w.heap.size + 1) y) (Six.second w _ _ _ _ _ _ _ _))
  have E0 := hid_mk hE
  have s1 := implTry_any a0 a1 a2 a3 y.n y.i y.b y.t y.p y.s m q
  unfold trpZ
  generalize tryZ y.n y.i y.b y.t y.p y.s m q = t at s1 ⊢
  have S1 := hid_mk s1
  clear hE s1
  generalize hw1 : (w.alloc (.cells #[.slice a n c, v1] 27)).alloc (.cells #[.int .i64 y.n, .bool y.i, .int .i64 y.b, .int .i64 y.t, .int .i64 y.p, .int .i64 y.s] 36) = w1 at H
  by_cases ht : t = 0
  · subst ht
    have s2 := isNumber_any m (n : Int)
    unfold inB
    generalize decide (0 ≤ m ∧ m ≤ (n : Int) - 1) = z at s2 ⊢
    have S2 := hid_mk s2
    clear s2
    go_enter Tryd.func52, Tryd.ntmps52
    go_upto_region 1 with fail
    clear hw1
    obtain ⟨_, x0, x1, x2, x3, x4, x5, _, _, _, _, _, _⟩ := H.out.six (.head _)
    go_wp2_with fail
    refine (S1.out _ (E0.out.below H.out.bel)).mono ?_
    rintro e w2 ⟨rfl, hb2⟩
    replace H := hid_mk (H.out.next hb2)
    clear hb2 x0 x1 x2 x3 x4 x5
    obtain ⟨_, m0, m1, _, _⟩ := H.out.duo (.tail _ (.head _))
    go_wp2_with fail
    refine (S2.out _).mono ?_
    rintro e w' ⟨rfl, hw'⟩
    subst w'
    cases z
    · go_wp2
      go_ret
      exact ⟨rfl, H.out.bel⟩
    · go_wp2
      go_ret
      exact ⟨rfl, H.out.bel⟩
  · have htb : (t == 0) = false := by simpa using ht
    rw [htb]
    go_enter Tryd.func52, Tryd.ntmps52
    go_upto_region 1 with fail
    clear hw1
    obtain ⟨_, x0, x1, x2, x3, x4, x5, _, _, _, _, _, _⟩ := H.out.six (.head _)
    go_wp2_with fail
    refine (S1.out _ (E0.out.below H.out.bel)).mono ?_
    rintro e w2 ⟨rfl, hb2⟩
    replace H := hid_mk (H.out.next hb2)
    clear hb2 x0 x1 x2 x3 x4 x5
    go_wp2
    go_ret
    exact ⟨rfl, H.out.bel⟩

/-- A word's six cells that may be written, whatever they hold. -/
def spot6F (r : Nat) : Fct where
  S := fun k => k = r
  p := fun w => ∃ x : Wd, Six w r x.n x.i x.b x.t x.p x.s
  keep := fun w w' ⟨x, h⟩ hs hb => ⟨x, (sixF r x).keep w w' h hs hb⟩
theorem Hold.spot6 {w0 w : World} {fs : List Fct} {r : Nat} (h : Hold w0 w fs) (hm : spot6F r ∈ fs) : ∃ x : Wd, Six w r x.n x.i x.b x.t x.p x.s := h.at hm
theorem Six.put {w : World} {r : Nat} {n : Int} {i : Bool} {b t p s : Int} (h : Six w r n i b t p s) (x : Wd) : Six ((((((w.setCell ⟨r, 0, none⟩ (.int .i64 x.n)).setCell ⟨r, 1, none⟩ (.bool x.i)).setCell ⟨r, 2, none⟩ (.int .i64 x.b)).setCell ⟨r, 3, none⟩ (.int .i64 x.t)).setCell ⟨r, 4, none⟩ (.int .i64 x.p)).setCell ⟨r, 5, none⟩ (.int .i64 x.s)) r x.n x.i x.b x.t x.p x.s := by
  obtain ⟨l, c0, c1, c2, c3, c4, c5, f0, f1, f2, f3, f4, f5⟩ := h
  exact ⟨by simpa [World.size_setCell] using l, by go_simp, by go_simp, by go_simp, by go_simp, by go_simp, by go_simp, by go_simp, by go_simp, by go_simp, by go_simp, by go_simp, by go_simp⟩
theorem Hold.store6 {w0 w : World} {fs : List Fct} {r : Nat} (h : Hold w0 w (spot6F r :: fs)) (h0 : w0.heap.size ≤ r) (hd : ∀ f ∈ fs, ∀ k, f.S k → k ≠ r) (x : Wd) :
    Hold w0 ((((((w.setCell ⟨r, 0, none⟩ (.int .i64 x.n)).setCell ⟨r, 1, none⟩ (.bool x.i)).setCell ⟨r, 2, none⟩ (.int .i64 x.b)).setCell ⟨r, 3, none⟩ (.int .i64 x.t)).setCell ⟨r, 4, none⟩ (.int .i64 x.p)).setCell ⟨r, 5, none⟩ (.int .i64 x.s)) (spot6F r :: fs) := by
  obtain ⟨x', D⟩ := h.spot6 (.head _)
  exact (h.tail.six6 h0 hd _ _ _ _ _ _).push (spot6F r) ⟨x, D.put x⟩

set_option maxHeartbeats 8000000 in
theorem implRead_any (a0 a1 a2 a3 : Addr) (a : Option Addr) (n c : Nat) (a' : Option Addr) (n' c' : Nat) (L : List Wd) (G : List Bool) (y : Wd) (m : Int) (w : World) (hM : MemS w a n a' n' L G) (hE : Errs a0 a1 a2 a3 w) :
    Calls Tryd.prog 22 #[.agg #[.slice a n c, .slice a' n' c'], .agg #[.int .i64 y.n, .bool y.i, .int .i64 y.b, .int .i64 y.t, .int .i64 y.p, .int .i64 y.s], .int .i64 m] w fun e w' => e = .returned (.tuple #[wdV (rdW L G y m), .int .i64 (rdZ L y m)]) ∧ Below w.heap.size w w' := by
  have H := hid_mk (((((Hold.new w).push (argF w.heap.size a n a' n' L G) hM.arg).alloc (.cells #[.slice a n c, .slice a' n' c'] 27)).push (duoF w.heap.size (.slice a n c) (.slice a' n' c')) (Duo.new w _ _ _)).alloc (.cells #[.int .i64 y.n, .bool y.i, .int .i64 y.b, .int .i64 y.t, .int .i64 y.p, .int .i64 y.s] 36) |>.push (sixF (w.heap.size + 1) y) (Six.second w _ _ _ _ _ _ _ _) |>.alloc (.cells #[.int .i64 0, .bool false, .int .i64 0, .int .i64 0, .int .i64 0, .int .i64 0] 36) |>.push (spot6F (w.heap.size + 1 + 1)) ⟨wd0, Six.third w _ _ 0 false 0 0 0 0 _⟩)
  have E0 := hid_mk hE
  have hn := hM.ws.2.1
  have hm := hM.ws.1
  have s1 := fun w hE => trapAt_any a0 a1 a2 a3 a n c (.slice a' n' c') y m 1 w hE
  obtain ⟨z, Z⟩ : ∃ z, Hid (z = rdZ L y m) := ⟨_, rfl⟩
  obtain ⟨x, X⟩ : ∃ x, Hid (x = rdW L G y m) := ⟨_, rfl⟩
  rw [← Z.out, ← X.out]
  have XZ : Hid (x = bif z == 0 then filW G (takW y (L.getD m.toNat wd0)) else wd0) := by rw [X.out, Z.out]; exact hid_mk rfl
  have hZT : trpZ n y m 1 = z := by rw [Z.out, rdZ, hn]; rfl
  have HIN : Hid (z = 0 → 0 ≤ m ∧ m ≤ (n : Int) - 1) := fun h => trp_in (hZT.trans h)
  simp only [hZT] at s1
  have S1 := hid_mk s1
  unfold maxLen at hm
  clear s1 X Z hZT hM hE
  generalize hw1 : ((w.alloc (.cells #[.slice a n c, .slice a' n' c'] 27)).alloc (.cells #[.int .i64 y.n, .bool y.i, .int .i64 y.b, .int .i64 y.t, .int .i64 y.p, .int .i64 y.s] 36)).alloc (.cells #[.int .i64 0, .bool false, .int .i64 0, .int .i64 0, .int .i64 0, .int .i64 0] 36) = w1 at H
  by_cases hz : z = 0
  · subst hz
    obtain ⟨hi0, hi1⟩ := HIN.out rfl
    have XX : Hid (x = filW G (takW y (L.getD m.toNat wd0))) := XZ.out
    obtain ⟨k, hk⟩ : ∃ k : Nat, m.toNat = k := ⟨_, rfl⟩
    have hkn : k < n := by omega
    have hmk : m = (k : Int) := by omega
    obtain ⟨kb, o, u, rfl, hkb, hu, _⟩ := (H.out.arg (.tail _ (.tail _ (.tail _ (.head _))))).ws.at hkn
    have hgu : L.getD m.toNat wd0 = u := by rw [hk]; simp [List.getD, hu]
    rw [hgu] at XX
    have s3 := implTaken_any y.n y.i y.b y.t y.p y.s u.n u.i u.b u.t u.p u.s
    rw [takW_V] at s3
    generalize takW y u = v at s3 XX
    have s4 := fun w hG => implFilter_any (.slice (some ⟨kb, o, none⟩) n c) a' n' c' G v w hG
    rw [← XX.out] at s4
    simp only [wdV] at s3 s4
    have S3 := hid_mk s3
    have S4 := hid_mk s4
    subst hmk
    have hi2 : (k : Int) < (n : Int) := by omega
    clear s3 s4 hgu XZ HIN XX hi1 hk
    go_enter Tryd.func22, Tryd.ntmps22
    go_upto_region 1 with fail
    clear hw1
    obtain ⟨_, m0, m1, _, _⟩ := H.out.duo (.tail _ (.tail _ (.head _)))
    obtain ⟨_, x0, x1, x2, x3, x4, x5, _, _, _, _, _, _⟩ := H.out.six (.tail _ (.head _))
    go_wp2_with fail
    refine (S1.out _ (E0.out.below H.out.bel)).mono ?_
    rintro e w2 ⟨rfl, hb2⟩
    replace H := hid_mk (H.out.next hb2)
    clear hb2 m0 m1 x0 x1 x2 x3 x4 x5
    have ALL : Hid (∀ w', Hold w w' [spot6F (w.heap.size + 1 + 1), sixF (w.heap.size + 1) y, duoF w.heap.size (.slice (some ⟨kb, o, none⟩) n c) (.slice a' n' c'), argF w.heap.size (some ⟨kb, o, none⟩) n a' n' L G] → (w'.cell? ⟨w.heap.size, 0, none⟩ = some (.slice (some ⟨kb, o, none⟩) n c) ∧ w'.cell? ⟨w.heap.size, 1, none⟩ = some (.slice a' n' c') ∧ w'.cell? ⟨w.heap.size + 1, 0, none⟩ = some (.int .i64 y.n) ∧ w'.cell? ⟨w.heap.size + 1, 1, none⟩ = some (.bool y.i) ∧ w'.cell? ⟨w.heap.size + 1, 2, none⟩ = some (.int .i64 y.b) ∧ w'.cell? ⟨w.heap.size + 1, 3, none⟩ = some (.int .i64 y.t) ∧ w'.cell? ⟨w.heap.size + 1, 4, none⟩ = some (.int .i64 y.p) ∧ w'.cell? ⟨w.heap.size + 1, 5, none⟩ = some (.int .i64 y.s) ∧ w'.cell? ⟨kb, o + k * 6, none⟩ = some (.int .i64 u.n) ∧ w'.cell? ⟨kb, o + k * 6 + 1, none⟩ = some (.bool u.i) ∧ w'.cell? ⟨kb, o + k * 6 + 2, none⟩ = some (.int .i64 u.b) ∧ w'.cell? ⟨kb, o + k * 6 + 3, none⟩ = some (.int .i64 u.t) ∧ w'.cell? ⟨kb, o + k * 6 + 4, none⟩ = some (.int .i64 u.p) ∧ w'.cell? ⟨kb, o + k * 6 + 5, none⟩ = some (.int .i64 u.s) ∧ Hid (Hold w w' [spot6F (w.heap.size + 1 + 1), sixF (w.heap.size + 1) y, duoF w.heap.size (.slice (some ⟨kb, o, none⟩) n c) (.slice a' n' c'), argF w.heap.size (some ⟨kb, o, none⟩) n a' n' L G]))) := fun w' h => by
      have h1 := h.duo (.tail _ (.tail _ (.head _)))
      have h2 := h.six (.tail _ (.head _))
      obtain ⟨kb2, o2, u2, e2, _, hu2, hat2⟩ := (h.arg (.tail _ (.tail _ (.tail _ (.head _))))).ws.at hkn
      rw [hu] at hu2
      obtain rfl := Option.some.inj hu2
      simp only [Option.some.injEq, Addr.mk.injEq, and_true] at e2
      obtain ⟨rfl, rfl⟩ := e2
      obtain ⟨d0, d1, d2, d3, d4, d5⟩ := hat2
      exact ⟨h1.c0, h1.c1, h2.c0, h2.c1, h2.c2, h2.c3, h2.c4, h2.c5, d0, d1, d2, d3, d4, d5, h⟩
    have GET : Hid (∀ w', (w'.cell? ⟨w.heap.size, 0, none⟩ = some (.slice (some ⟨kb, o, none⟩) n c) ∧ w'.cell? ⟨w.heap.size, 1, none⟩ = some (.slice a' n' c') ∧ w'.cell? ⟨w.heap.size + 1, 0, none⟩ = some (.int .i64 y.n) ∧ w'.cell? ⟨w.heap.size + 1, 1, none⟩ = some (.bool y.i) ∧ w'.cell? ⟨w.heap.size + 1, 2, none⟩ = some (.int .i64 y.b) ∧ w'.cell? ⟨w.heap.size + 1, 3, none⟩ = some (.int .i64 y.t) ∧ w'.cell? ⟨w.heap.size + 1, 4, none⟩ = some (.int .i64 y.p) ∧ w'.cell? ⟨w.heap.size + 1, 5, none⟩ = some (.int .i64 y.s) ∧ w'.cell? ⟨kb, o + k * 6, none⟩ = some (.int .i64 u.n) ∧ w'.cell? ⟨kb, o + k * 6 + 1, none⟩ = some (.bool u.i) ∧ w'.cell? ⟨kb, o + k * 6 + 2, none⟩ = some (.int .i64 u.b) ∧ w'.cell? ⟨kb, o + k * 6 + 3, none⟩ = some (.int .i64 u.t) ∧ w'.cell? ⟨kb, o + k * 6 + 4, none⟩ = some (.int .i64 u.p) ∧ w'.cell? ⟨kb, o + k * 6 + 5, none⟩ = some (.int .i64 u.s) ∧ Hid (Hold w w' [spot6F (w.heap.size + 1 + 1), sixF (w.heap.size + 1) y, duoF w.heap.size (.slice (some ⟨kb, o, none⟩) n c) (.slice a' n' c'), argF w.heap.size (some ⟨kb, o, none⟩) n a' n' L G])) → Hold w w' [spot6F (w.heap.size + 1 + 1), sixF (w.heap.size + 1) y, duoF w.heap.size (.slice (some ⟨kb, o, none⟩) n c) (.slice a' n' c'), argF w.heap.size (some ⟨kb, o, none⟩) n a' n' L G]) := fun w' h => h.2.2.2.2.2.2.2.2.2.2.2.2.2.2
    have ST : Hid (∀ (w1 : World) (x : Wd), Hold w w1 [spot6F (w.heap.size + 1 + 1), sixF (w.heap.size + 1) y, duoF w.heap.size (.slice (some ⟨kb, o, none⟩) n c) (.slice a' n' c'), argF w.heap.size (some ⟨kb, o, none⟩) n a' n' L G] → Hold w ((((((w1.setCell ⟨w.heap.size + 1 + 1, 0, none⟩ (.int .i64 x.n)).setCell ⟨w.heap.size + 1 + 1, 1, none⟩ (.bool x.i)).setCell ⟨w.heap.size + 1 + 1, 2, none⟩ (.int .i64 x.b)).setCell ⟨w.heap.size + 1 + 1, 3, none⟩ (.int .i64 x.t)).setCell ⟨w.heap.size + 1 + 1, 4, none⟩ (.int .i64 x.p)).setCell ⟨w.heap.size + 1 + 1, 5, none⟩ (.int .i64 x.s)) [spot6F (w.heap.size + 1 + 1), sixF (w.heap.size + 1) y, duoF w.heap.size (.slice (some ⟨kb, o, none⟩) n c) (.slice a' n' c'), argF w.heap.size (some ⟨kb, o, none⟩) n a' n' L G]) := fun w1 x h => h.store6 (by omega) (fun f hf k hk => by
      simp only [List.mem_cons, List.not_mem_nil, or_false] at hf
      rcases hf with rfl | rfl | rfl
      · simp only [sixF] at hk; omega
      · simp only [duoF] at hk; omega
      · simp only [argF] at hk; omega) x
    clear hu
    go_upto_region 4 with fail
    have F0 := hid_mk H.out.drew
    clear H S1
    go_region_held3 (fun w' => w'.cell? ⟨w.heap.size, 0, none⟩ = some (.slice (some ⟨kb, o, none⟩) n c) ∧ w'.cell? ⟨w.heap.size, 1, none⟩ = some (.slice a' n' c') ∧ w'.cell? ⟨w.heap.size + 1, 0, none⟩ = some (.int .i64 y.n) ∧ w'.cell? ⟨w.heap.size + 1, 1, none⟩ = some (.bool y.i) ∧ w'.cell? ⟨w.heap.size + 1, 2, none⟩ = some (.int .i64 y.b) ∧ w'.cell? ⟨w.heap.size + 1, 3, none⟩ = some (.int .i64 y.t) ∧ w'.cell? ⟨w.heap.size + 1, 4, none⟩ = some (.int .i64 y.p) ∧ w'.cell? ⟨w.heap.size + 1, 5, none⟩ = some (.int .i64 y.s) ∧ w'.cell? ⟨kb, o + k * 6, none⟩ = some (.int .i64 u.n) ∧ w'.cell? ⟨kb, o + k * 6 + 1, none⟩ = some (.bool u.i) ∧ w'.cell? ⟨kb, o + k * 6 + 2, none⟩ = some (.int .i64 u.b) ∧ w'.cell? ⟨kb, o + k * 6 + 3, none⟩ = some (.int .i64 u.t) ∧ w'.cell? ⟨kb, o + k * 6 + 4, none⟩ = some (.int .i64 u.p) ∧ w'.cell? ⟨kb, o + k * 6 + 5, none⟩ = some (.int .i64 u.s) ∧ Hid (Hold w w' [spot6F (w.heap.size + 1 + 1), sixF (w.heap.size + 1) y, duoF w.heap.size (.slice (some ⟨kb, o, none⟩) n c) (.slice a' n' c'), argF w.heap.size (some ⟨kb, o, none⟩) n a' n' L G]))
      (first | (with_reducible assumption) | (((with_reducible refine ALL.out _ ?_); (first | (with_reducible exact F0.out) | ((with_reducible apply Hold.next ?_ KT.out); (with_reducible exact GET.out _ (by with_reducible assumption))) | ((with_reducible apply Hold.next ?_ KF.out); (with_reducible exact GET.out _ (by with_reducible assumption))) | (with_reducible exact ST.out _ _ (GET.out _ (by with_reducible assumption))) | fail))))
      (first
        | (go_at_call 53; refine (S3.out _).mono ?_; rintro e wT ⟨rfl, hbT⟩; have KT := hid_mk hbT; clear hbT)
        | (go_at_call 18; refine (S4.out _ ((GET.out _ (by with_reducible assumption)).arg (.tail _ (.tail _ (.tail _ (.head _))))).gs).mono ?_; rintro e wF ⟨rfl, hbF⟩; have KF := hid_mk hbF; (obtain ⟨xs, _, z0, z1, z2, z3, z4, z5, f0, f1, f2, f3, f4, f5⟩ := ((GET.out _ (by with_reducible assumption)).next hbF).spot6 (.head _)); clear hbF))
    have HE := hid_mk (GET.out _ (by with_reducible assumption))
    clear ALL GET ST F0
    go_wp2
    refine bodyPost_ret (v := .tuple #[wdV x, .int .i64 0]) (by simp [results, Tryd.results22, go_sem, z0, z1, z2, z3, z4, z5, wdV]) rfl ⟨rfl, HE.out.bel⟩
  · have hx : x = wd0 := by
      rw [XZ.out, show (z == 0) = false by simpa using hz]; rfl
    subst hx
    have htn : (z != 0) = true := by simpa using hz
    clear XZ HIN
    go_enter Tryd.func22, Tryd.ntmps22
    go_upto_region 1 with fail
    clear hw1
    obtain ⟨_, m0, m1, _, _⟩ := H.out.duo (.tail _ (.tail _ (.head _)))
    obtain ⟨_, x0, x1, x2, x3, x4, x5, _, _, _, _, _, _⟩ := H.out.six (.tail _ (.head _))
    go_wp2_with fail
    refine (S1.out _ (E0.out.below H.out.bel)).mono ?_
    rintro e w2 ⟨rfl, hb2⟩
    replace H := hid_mk (H.out.next hb2)
    clear hb2 m0 m1 x0 x1 x2 x3 x4 x5
    obtain ⟨xs, _, z0, z1, z2, z3, z4, z5, f0, f1, f2, f3, f4, f5⟩ := H.out.spot6 (.head _)
    go_wp2
    refine bodyPost_ret (v := .tuple #[wdV wd0, .int .i64 z]) (by simp [results, Tryd.results22, go_sem, z0, z1, z2, z3, z4, z5, wdV, wd0]) rfl ⟨rfl, six_done H.out.bel _ (by omega) _ _ _ _ _ _⟩
end Go.Proofs.YticnnpalhedgiaaDoor
