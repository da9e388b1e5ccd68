/- StateOk of the specification and of the program at all states: what they answer. No condition but that a memory that is not right is no longer than a law lets it be. -/
import Derived.Test.YtfeoaegkhbjaeaaCel
import Derived.Test.YtfeoaegkhbjaeaaMemF
import Derived.Test.YtfeoaegkhbjaeaaIMem
namespace Go.Proofs.Ytfeoaegkhbjaeaa
open Go.ChangeShapes Go.WideShapes Go.ChangeAt Go.RowKit
set_option maxRecDepth 100000

/-- What StateOk answers. -/
def sokB (R : List Wd) (x : Wd) (L : List Wd) (G : List Bool) (t : Int) : Bool := decide (R.length = 8) && R.all okW && okW x && mokB L G && decide (0 ≤ t ∧ t ≤ 5)
theorem sok_parts {R : List Wd} {x : Wd} {L : List Wd} {G : List Bool} {t : Int} (h : sokB R x L G t = true) : R.length = 8 ∧ R.all okW = true ∧ okW x = true ∧ mokB L G = true ∧ 0 ≤ t ∧ t ≤ 5 := by
  unfold sokB at h
  simp only [Bool.and_eq_true, decide_eq_true_eq] at h
  exact ⟨h.1.1.1.1, h.1.1.1.2, h.1.1.2, h.1.2, h.2.1, h.2.2⟩
theorem cel_new' (w : World) (vs : List Value) (T : TypeId) : Hid (Hold w (w.alloc (.cells vs.toArray T)) [celF w.heap.size vs]) := ((Hold.new w).alloc _).push (celF w.heap.size vs) (Cel.new w vs T)


set_option maxHeartbeats 8000000 in
theorem specStateOk_any (a : Option Addr) (n c : Nat) (x : Wd) (a1 : Option Addr) (n1 c1 : Nat) (a2 : Option Addr) (n2 c2 : Nat) (t : Int) (R L : List Wd) (G : List Bool) (w : World) (hS : StS w a n a1 n1 a2 n2 R L G) :
    Calls Try.prog 20 #[.agg #[.slice a n c, .int .i64 x.n, .bool x.i, .int .i64 x.b, .int .i64 x.t, .int .i64 x.p, .int .i64 x.s, .slice a1 n1 c1, .slice a2 n2 c2, .int .i64 t]] w fun e w' => e = .returned (.bool (sokB R x L G t)) ∧ Below w.heap.size w w' := by
  have H := cel_new' w (stl a n c x a1 n1 c1 a2 n2 c2 t) 49
  have S := hid_mk hS
  have hn := hS.rs.2.1
  have hm := hS.rs.1
  unfold maxLen at hm
  clear hS
  obtain ⟨z, Z⟩ : ∃ z, Hid (z = sokB R x L G t) := ⟨_, rfl⟩
  rw [← Z.out]
  generalize hw1 : w.alloc (.cells (stl a n c x a1 n1 c1 a2 n2 c2 t).toArray 49) = w1 at H
  go_enter Try.func20, Try.ntmps20
  go_upto_region 1 with fail
  clear hw1
  go_wp2
  go_loopw [3] (fun cc wr => ∃ k : Nat, k ≤ n ∧ cc = .int .i64 (k : Int) ∧ Hid ((R.take k).all okW = true) ∧ Hid (Hold w wr [celF w.heap.size (stl a n c x a1 n1 c1 a2 n2 c2 t)])) (fun cc _ => n - (intOf cc).toNat)
  case atStart => exact ⟨0, Nat.zero_le _, rfl, by simp [Hid], H.out⟩
  case round =>
    clear H
    obtain ⟨k, hk, rfl, AA, H⟩ := hrel
    by_cases hlt : k < n
    · obtain ⟨kb, o, y, rfl, hkb, hy, hat⟩ := (S.out.below H.out.bel).rs.at hlt
      obtain ⟨d0, d1, d2, d3, d4, d5⟩ := hat
      obtain ⟨m0, m1, m2, m3, m4, m5, m6, m7, m8, m9⟩ := (H.out.cel (.head _)).c10
      have s2 := specWordOk_any y.n y.i y.b y.t y.p y.s
      have hO : Hid (okW y = wokB y.n y.i y.b y.t y.p y.s) := rfl
      generalize wokB y.n y.i y.b y.t y.p y.s = v at s2 hO
      have S2 := hid_mk s2
      have HY := hid_mk hy
      clear hy s2
      go_wp2_with (go_at_call 28; refine (S2.out _).mono ?_; rintro e w2 ⟨rfl, hb⟩; refine Hid.out ?_)
      refine Lib.hid ?_
      replace H := hid_mk (H.out.next hb)
      clear hb d0 d1 d2 d3 d4 d5 m0 m1 m2 m3 m4 m5 m6 m7 m8 m9
      cases v
      · have hz : z = false := by
          rw [Z.out, sokB, allW_at HY.out hO.out]; simp
        subst hz
        have B := hid_mk H.out.bel
        go_wp2
        go_ret
        exact ⟨rfl, B.out⟩
      · go_wp2
        go_roundw
        case rel => exact ⟨k + 1, hlt, by go_num, allW_take HY.out AA.out hO.out, H.out⟩
        case measure => simp [intOf]; omega
    · obtain rfl : k = n := by omega
      have ha : R.all okW = true := by
        have h := AA.out
        rwa [List.take_of_length_le (by omega)] at h
      have Z1 : Hid (z = (decide (R.length = 8) && okW x && mokB L G && decide (0 ≤ t ∧ t ≤ 5))) := by rw [Z.out, sokB, ha]; simp [Hid]
      clear Z ha AA
      obtain ⟨m0, m1, m2, m3, m4, m5, m6, m7, m8, m9⟩ := (H.out.cel (.head _)).c10
      by_cases h8 : k = 8
      · have hc8 : ((k : Int) == 8) = true := by simp; omega
        have Z2 : Hid (z = (okW x && mokB L G && decide (0 ≤ t ∧ t ≤ 5))) := by rw [Z1.out, hn, h8]; simp [Hid]
        have s3 := specWordOk_any x.n x.i x.b x.t x.p x.s
        have hX : Hid (okW x = wokB x.n x.i x.b x.t x.p x.s) := rfl
        generalize wokB x.n x.i x.b x.t x.p x.s = v at s3 hX
        rw [hX.out] at Z2
        have S3 := hid_mk s3
        clear s3 hX Z1
        cases v
        · have hz : z = false := by rw [Z2.out]; rfl
          subst hz
          go_wp2_with (go_at_call 28; refine (S3.out _).mono ?_; rintro e w2 ⟨rfl, hb⟩; refine Hid.out ?_)
          refine Lib.hid ?_
          have B := hid_mk (H.out.next hb).bel
          clear hb m0 m1 m2 m3 m4 m5 m6 m7 m8 m9
          go_wp2
          go_ret
          exact ⟨rfl, B.out⟩
        · go_wp2_with (go_at_call 28; refine (S3.out _).mono ?_; rintro e w2 ⟨rfl, hb⟩; refine Hid.out ?_)
          refine Lib.hid ?_
          replace H := hid_mk (H.out.next hb)
          clear hb m0 m1 m2 m3 m4 m5 m6 m7 m8 m9
          obtain ⟨m0, m1, m2, m3, m4, m5, m6, m7, m8, m9⟩ := (H.out.cel (.head _)).c10
          have s4 := specMemoryOk_any a1 n1 c1 a2 n2 c2 L G w2 (S.out.below H.out.bel).mem
          generalize mokB L G = v at s4 Z2
          have S4 := hid_mk s4
          clear s4
          cases v
          · have hz : z = false := by rw [Z2.out]; rfl
            subst hz
            go_wp2_with (go_at_call 9; refine S4.out.mono ?_; rintro e w3 ⟨rfl, hb⟩; refine Hid.out ?_)
            refine Lib.hid ?_
            have B := hid_mk (H.out.next hb).bel
            clear hb m0 m1 m2 m3 m4 m5 m6 m7 m8 m9
            go_wp2
            go_ret
            exact ⟨rfl, B.out⟩
          · go_wp2_with (go_at_call 9; refine S4.out.mono ?_; rintro e w3 ⟨rfl, hb⟩; refine Hid.out ?_)
            refine Lib.hid ?_
            replace H := hid_mk (H.out.next hb)
            clear hb m0 m1 m2 m3 m4 m5 m6 m7 m8 m9
            obtain ⟨m0, m1, m2, m3, m4, m5, m6, m7, m8, m9⟩ := (H.out.cel (.head _)).c10
            have s5 := in_any t 0 5
            have hz : z = decide (0 ≤ t ∧ t ≤ 5) := by rw [Z2.out]; simp
            rw [← hz] at s5
            have S5 := hid_mk s5
            clear s5 hz
            have B := hid_mk H.out.bel
            clear H
            go_wp2_with (go_at_call 35; refine (S5.out _).mono ?_; rintro e w' ⟨rfl, rfl⟩)
            go_wp2
            go_ret
            exact ⟨rfl, B.out⟩
      · have hc8 : ((k : Int) == 8) = false := by simp; omega
        have hz : z = false := by rw [Z1.out, hn]; simp [h8]
        subst hz
        have B := hid_mk H.out.bel
        clear H
        go_wp2
        go_ret
        exact ⟨rfl, B.out⟩


set_option maxHeartbeats 8000000 in
theorem implStateOk_any (a : Option Addr) (n c : Nat) (x : Wd) (a1 : Option Addr) (n1 c1 : Nat) (a2 : Option Addr) (n2 c2 : Nat) (t : Int) (R L : List Wd) (G : List Bool) (w : World) (hS : StS w a n a1 n1 a2 n2 R L G) :
    Calls Try.prog 22 #[.agg #[.slice a n c, .int .i64 x.n, .bool x.i, .int .i64 x.b, .int .i64 x.t, .int .i64 x.p, .int .i64 x.s, .slice a1 n1 c1, .slice a2 n2 c2, .int .i64 t]] w fun e w' => e = .returned (.bool (sokB R x L G t)) ∧ Below w.heap.size w w' := by
  have H := cel_new' w (stl a n c x a1 n1 c1 a2 n2 c2 t) 49
  have S := hid_mk hS
  have hn := hS.rs.2.1
  have hm := hS.rs.1
  unfold maxLen at hm
  clear hS
  obtain ⟨z, Z⟩ : ∃ z, Hid (z = sokB R x L G t) := ⟨_, rfl⟩
  rw [← Z.out]
  generalize hw1 : w.alloc (.cells (stl a n c x a1 n1 c1 a2 n2 c2 t).toArray 49) = w1 at H
  go_enter Try.func22, Try.ntmps22
  go_upto_region 1 with fail
  clear hw1
  obtain ⟨m0, m1, m2, m3, m4, m5, m6, m7, m8, m9⟩ := (H.out.cel (.head _)).c10
  by_cases h8 : n = 8
  · have Z1 : Hid (z = (R.all okW && okW x && mokB L G && decide (0 ≤ t ∧ t ≤ 5))) := by rw [Z.out, sokB, hn, h8]; simp [Hid]
    subst h8
    clear Z
    have s1 := implWordsOk_any a 8 c R w1 (S.out.below H.out.bel).rs
    generalize R.all okW = v at s1 Z1
    have S1 := hid_mk s1
    clear s1
    cases v
    · have hz : z = false := by rw [Z1.out]; simp
      subst hz
      go_wp2_with (go_at_call 31; refine S1.out.mono ?_; rintro e w2 ⟨rfl, hb⟩; refine Hid.out ?_)
      refine Lib.hid ?_
      have B := hid_mk (H.out.next hb).bel
      clear hb m0 m1 m2 m3 m4 m5 m6 m7 m8 m9 S1
      go_wp2
      go_ret
      exact ⟨rfl, B.out⟩
    · go_wp2_with (go_at_call 31; refine S1.out.mono ?_; rintro e w2 ⟨rfl, hb⟩; refine Hid.out ?_)
      refine Lib.hid ?_
      replace H := hid_mk (H.out.next hb)
      clear hb m0 m1 m2 m3 m4 m5 m6 m7 m8 m9 S1
      obtain ⟨m0, m1, m2, m3, m4, m5, m6, m7, m8, m9⟩ := (H.out.cel (.head _)).c10
      have Z9 := Z1
      clear Z1
      have Z1 := Z9
      clear Z9
      generalize w2 = wv at H m0 m1 m2 m3 m4 m5 m6 m7 m8 m9 ⊢
      have s1 := implWordOk_any x.n x.i x.b x.t x.p x.s wv
      have hX : Hid (okW x = wokB x.n x.i x.b x.t x.p x.s) := rfl
      generalize wokB x.n x.i x.b x.t x.p x.s = v at s1 hX
      rw [hX.out] at Z1
      have S1 := hid_mk s1
      clear s1 hX
      cases v
      · have hz : z = false := by rw [Z1.out]; simp
        subst hz
        go_wp2_with (go_at_call 47; refine S1.out.mono ?_; rintro e w2 ⟨rfl, hb⟩; refine Hid.out ?_)
        refine Lib.hid ?_
        have B := hid_mk (H.out.next hb).bel
        clear hb m0 m1 m2 m3 m4 m5 m6 m7 m8 m9 S1
        go_wp2
        go_ret
        exact ⟨rfl, B.out⟩
      · go_wp2_with (go_at_call 47; refine S1.out.mono ?_; rintro e w2 ⟨rfl, hb⟩; refine Hid.out ?_)
        refine Lib.hid ?_
        replace H := hid_mk (H.out.next hb)
        clear hb m0 m1 m2 m3 m4 m5 m6 m7 m8 m9 S1
        obtain ⟨m0, m1, m2, m3, m4, m5, m6, m7, m8, m9⟩ := (H.out.cel (.head _)).c10
        have Z9 := Z1
        clear Z1
        have Z1 := Z9
        clear Z9
        generalize w2 = wv at H m0 m1 m2 m3 m4 m5 m6 m7 m8 m9 ⊢
        have s1 := implMemoryOk_any a1 n1 c1 a2 n2 c2 L G _ (S.out.below H.out.bel).mem
        generalize mokB L G = v at s1 Z1
        have S1 := hid_mk s1
        clear s1
        cases v
        · have hz : z = false := by rw [Z1.out]; simp
          subst hz
          go_wp2_with (go_at_call 11; refine S1.out.mono ?_; rintro e w2 ⟨rfl, hb⟩; refine Hid.out ?_)
          refine Lib.hid ?_
          have B := hid_mk (H.out.next hb).bel
          clear hb m0 m1 m2 m3 m4 m5 m6 m7 m8 m9 S1
          go_wp2
          go_ret
          exact ⟨rfl, B.out⟩
        · go_wp2_with (go_at_call 11; refine S1.out.mono ?_; rintro e w2 ⟨rfl, hb⟩; refine Hid.out ?_)
          refine Lib.hid ?_
          replace H := hid_mk (H.out.next hb)
          clear hb m0 m1 m2 m3 m4 m5 m6 m7 m8 m9 S1
          obtain ⟨m0, m1, m2, m3, m4, m5, m6, m7, m8, m9⟩ := (H.out.cel (.head _)).c10
          have Z9 := Z1
          clear Z1
          have Z1 := Z9
          clear Z9
          generalize w2 = wv at H m0 m1 m2 m3 m4 m5 m6 m7 m8 m9 ⊢
          have s5 := isTrap_any t
          have hz : z = decide (0 ≤ t ∧ t ≤ 5) := by rw [Z1.out]; simp
          rw [← hz] at s5
          have S5 := hid_mk s5
          have B := hid_mk H.out.bel
          clear s5 hz H Z1
          go_wp2_with (go_at_call 48; refine (S5.out _).mono ?_; rintro e w' ⟨rfl, rfl⟩)
          go_wp2
          go_ret
          exact ⟨rfl, B.out⟩
  · have hz : z = false := by rw [Z.out, sokB, hn]; simp [h8]
    subst hz
    have hc8 : ((n : Int) == 8) = false := by simp; omega
    have B := hid_mk H.out.bel
    clear H
    go_wp2
    go_ret
    exact ⟨rfl, B.out⟩
end Go.Proofs.Ytfeoaegkhbjaeaa
