/- Read of the specification at all memories: what it answers. No condition. -/
import Derived.Test.YtfeoaegkhbjaeaaDoorMemR
import Derived.Test.YtfeoaegkhbjaeaaDoorMemF
namespace Go.Proofs.YtfeoaegkhbjaeaaDoor
open Go.ChangeShapes Go.WideShapes Go.ChangeAt Go.RowKit
set_option maxRecDepth 100000

theorem Fl.drew {w0 w : World} {v0 v1 : Value} {x : Wd} (h : Fl w0 v0 v1 x w) : Fl w0 v0 v1 x w.drew := h.next (Below.refl _ _).drew

set_option maxHeartbeats 8000000 in
theorem specRead_any (a : Option Addr) (n c : Nat) (a' : Option Addr) (n' c' : Nat) (L : List Wd) (G : List Bool) (y : Wd) (m : Int) (w : World) (hM : MemS w a n a' n' L G) :
    Calls Tryd.prog 26 #[.agg #[.slice a n c, .slice a' n' c'], .agg #[.int .i64 y.n, .bool y.i, .int .i64 y.b, .int .i64 y.t, .int .i64 y.p, .int .i64 y.s], .int .i64 m] w fun e w' => e = .returned (.tuple #[wdV (rdW L G y m), .int .i64 (rdZ L y m)]) ∧ Below w.heap.size w w' := by
  have F0 := hid_mk (Fl.new w (.slice a n c) (.slice a' n' c') y)
  have SW := hid_mk hM.ws
  have SG := hid_mk hM.gs
  have hn := hM.ws.2.1
  have hm := hM.ws.1
  unfold maxLen at hm
  clear hM
  have s1 := specTry_any y.n y.i y.b y.t y.p y.s m 1
  obtain ⟨z, Z⟩ : ∃ z, Hid (z = rdZ L y m) := ⟨_, rfl⟩
  obtain ⟨x, X⟩ : ∃ x, Hid (x = rdW L G y m) := ⟨_, rfl⟩
  rw [← Z.out, ← X.out]
  have XZ : Hid (x = bif z == 0 then filW G (takW y (L.getD m.toNat wd0)) else wd0) := by rw [X.out, Z.out]; exact hid_mk rfl
  have ZT : Hid (z = bif tryZ y.n y.i y.b y.t y.p y.s m 1 == 0 then (bif inB m n then 0 else 4) else tryZ y.n y.i y.b y.t y.p y.s m 1) := by rw [Z.out, rdZ, hn]; exact hid_mk rfl
  generalize tryZ y.n y.i y.b y.t y.p y.s m 1 = t at s1 ZT
  have S1 := hid_mk s1
  clear s1 X Z
  generalize hw1 : ((w.alloc (.cells #[.slice a n c, .slice a' n' c'] 27)).alloc (.cells #[.int .i64 y.n, .bool y.i, .int .i64 y.b, .int .i64 y.t, .int .i64 y.p, .int .i64 y.s] 36)).alloc (.cells #[.int .i64 0, .bool false, .int .i64 0, .int .i64 0, .int .i64 0, .int .i64 0] 36) = w1 at F0
  go_enter Tryd.func26, Tryd.ntmps26
  go_upto_region 1 with fail
  clear hw1
  obtain ⟨_, x0, x1, x2, x3, x4, x5, _, _, _, _, _, _⟩ := F0.out.x
  go_wp2_with (go_at_call 56; refine (S1.out _).mono ?_; rintro e w2 ⟨rfl, hb2⟩; refine Hid.out ?_)
  refine Lib.hid ?_
  have F2 := hid_mk (F0.out.next hb2)
  clear hb2 x0 x1 x2 x3 x4 x5 F0 S1
  obtain ⟨_, m0, m1, _, _⟩ := F2.out.m
  obtain ⟨_, z0, z1, z2, z3, z4, z5, f0, f1, f2, f3, f4, f5⟩ := F2.out.z
  by_cases ht : t = 0
  · subst ht
    have s2 := in_any m 0 ((n : Int) - 1)
    by_cases hi : 0 ≤ m ∧ m ≤ (n : Int) - 1
    · have hz : z = 0 := by rw [ZT.out, inB, decide_eq_true hi]; rfl
      subst hz
      have XX : Hid (x = filW G (takW y (L.getD m.toNat wd0))) := XZ.out
      rw [decide_eq_true hi] at s2
      have S2 := hid_mk s2
      obtain ⟨hi0, hi1⟩ := hi
      have hi2 : m < (n : Int) := by omega
      obtain ⟨k, hk⟩ : ∃ k : Nat, m.toNat = k := ⟨_, rfl⟩
      have hkn : k < n := by omega
      obtain ⟨kb, o, u, rfl, hkb, hu, hat⟩ := (SW.out.keep F2.out.bel).at hkn
      have hgu : L.getD m.toNat wd0 = u := by rw [hk]; simp [List.getD, hu]
      rw [hgu] at XX
      have s3 := specTaken_any y.n y.i y.b y.t y.p y.s u.n u.i u.b u.t u.p u.s
      rw [takW_V] at s3
      generalize takW y u = g at s3 XX
      have s4 := fun w hG => specFilter_any (.slice (some ⟨kb, o, none⟩) n c) a' n' c' G g w hG
      rw [← XX.out] at s4
      simp only [wdV] at s3 s4
      have S3 := hid_mk s3
      have S4 := hid_mk s4
      clear s2 s3 s4 hgu hu XZ ZT
      obtain ⟨d0, d1, d2, d3, d4, d5⟩ := hat
      obtain ⟨_, x0, x1, x2, x3, x4, x5, _, _, _, _, _, _⟩ := F2.out.x
      go_upto_region 6 with (go_at_call 38; refine (S2.out _).mono ?_; rintro e w' ⟨rfl, rfl⟩)
      have F3 := hid_mk F2.out.drew
      go_region_with (first
        | (go_at_call 57; refine (S3.out _).mono ?_; rintro e w5 ⟨rfl, hb5⟩; have F5 := hid_mk (F3.out.next hb5); clear hb5 m0 m1 z0 z1 z2 z3 z4 z5 f0 f1 f2 f3 f4 f5; obtain ⟨_, m0, m1, _, _⟩ := F5.out.m; obtain ⟨_, z0, z1, z2, z3, z4, z5, f0, f1, f2, f3, f4, f5⟩ := F5.out.z)
        | (go_at_call 18; refine (S4.out _ ((SG.out.keep F5.out.bel).mono F5.out.bel.size)).mono ?_; rintro e w6 ⟨rfl, hb6⟩; have F6 := hid_mk (F5.out.next hb6); clear hb6 m0 m1 z0 z1 z2 z3 z4 z5 f0 f1 f2 f3 f4 f5; obtain ⟨_, m0, m1, _, _⟩ := F6.out.m; obtain ⟨_, z0, z1, z2, z3, z4, z5, f0, f1, f2, f3, f4, f5⟩ := F6.out.z))
      all_goals
        go_wp2
        refine bodyPost_ret (v := .tuple #[wdV x, .int .i64 0]) (by simp [results, Tryd.results26, go_sem, z0, z1, z2, z3, z4, z5, wdV]) rfl ⟨rfl, ?_⟩
        exact six_done F6.out.bel _ (by omega) _ _ _ _ _ _
    · have hz : z = 4 := by rw [ZT.out, inB, decide_eq_false hi]; rfl
      subst hz
      have hx : x = wd0 := XZ.out
      subst hx
      rw [decide_eq_false hi] at s2
      have S2 := hid_mk s2
      clear s2 hi XZ ZT
      go_wp2_with (go_at_call 38; refine (S2.out _).mono ?_; rintro e w' ⟨rfl, rfl⟩)
      go_wp2
      refine bodyPost_ret (v := .tuple #[wdV wd0, .int .i64 4]) (by simp [results, Tryd.results26, go_sem, z0, z1, z2, z3, z4, z5, wdV, wd0]) rfl ⟨rfl, ?_⟩
      exact six_done F2.out.bel _ (by omega) _ _ _ _ _ _
  · have htb : (t == 0) = false := by simpa using ht
    have hz : z = t := by rw [ZT.out, htb]; rfl
    subst hz
    have hx : x = wd0 := by rw [XZ.out, htb]; rfl
    subst hx
    have htn : (z != 0) = true := by simpa using ht
    clear XZ ZT
    go_wp2
    refine bodyPost_ret (v := .tuple #[wdV wd0, .int .i64 z]) (by simp [results, Tryd.results26, go_sem, z0, z1, z2, z3, z4, z5, wdV, wd0]) rfl ⟨rfl, ?_⟩
    exact six_done F2.out.bel _ (by omega) _ _ _ _ _ _
end Go.Proofs.YtfeoaegkhbjaeaaDoor
