/- A list of guesses that is drawn, and a place. No condition. -/
import Derived.Test.YtcokcfgagbahbaaDrawX
import Derived.Test.YtcokcfgagbahbaaGesK
namespace Go.Proofs.Ytcokcfgagbahbaa
open Go.ChangeShapes Go.WideShapes Go.ChangeAt Go.RowKit Go.Maps Go.Sort Go.Shelf
set_option maxRecDepth 100000

set_option maxHeartbeats 2000000 in
theorem specGuessNew_room (w : World) :
    Calls Try.prog 23 #[] w fun e w' => ∃ g cap, e = .returned (.slice (some ⟨g, 0, none⟩) 48 cap) ∧ w.heap.size ≤ g ∧ 48 ≤ cap ∧ (intF g 48 (List.replicate 48 (-1))).p w' ∧ Below w.heap.size w w' := by
  go_enter Try.func23, Try.ntmps23
  go_wp2
  go_loopw [1, 2] (fun v c wr => ∃ k g cap : Nat, k ≤ 48 ∧ v = .slice (some ⟨g, 0, none⟩) k cap ∧ c = .int .i64 k ∧ w.heap.size ≤ g ∧ Hid (wr.ownsRow w.heap.size 3 1 (.slice (some ⟨g, 0, none⟩) k cap) k (ixs (List.replicate k (-1)))) ∧ Hid (Below w.heap.size w wr)) (fun _ c _ => 48 - (RowKit.intOf c).toNat)
  case atStart => exact ⟨0, w.heap.size, 0, Nat.zero_le _, rfl, rfl, Nat.le_refl _, own_empty w _ (Nat.le_refl _) _ _, (Below.refl _ _).alloc (Nat.le_refl _) _⟩
  case round =>
    obtain ⟨k, g, cap, hk, rfl, rfl, hg, O, B⟩ := hrel
    have hsz := B.out.size
    by_cases hlt : k < 48
    · go_wp2_with (at_builtin; refine wpList_appN rfl _ _ rfl w.heap.size g k cap _ rfl (O.out.alloc _) ⟨wr.heap.size, 0, none⟩ 1 1 [-1] rfl rfl (fun j y hj => by match j, hj with | 0, hj => (simp at hj; subst hj; simp [Addr.add])) (by omega) (by simp; omega) ?_; intro g' cap' w1 hO1 hg1)
      have hg' : w.heap.size ≤ g' := by
        rcases hO1.2 with ⟨hv, _⟩ | ⟨g2, cap2, cur, hv, hb2, _⟩
        · cases hv
        · cases hv; exact hb2
      go_roundw
      case rel =>
        refine ⟨k + 1, g', cap', hlt, rfl, by go_num, hg', ?_, ?_⟩
        · rw [List.replicate_succ']
          exact hO1
        · exact (B.out.alloc hsz _).grown hg1 (by simp; omega) (fun j hj => by cases hj; exact hg)
      case measure => simp [RowKit.intOf]; omega
    · obtain rfl : k = 48 := by omega
      have hc : 48 ≤ cap := by
        rcases O.out.2 with ⟨hv, _⟩ | ⟨g2, cap2, cur, hv, _, _, hn, _⟩
        · cases hv
        · cases hv; exact hn
      go_wp2
      go_ret
      exact ⟨g, cap, rfl, hg, hc, ⟨own_outN O.out (by simp), by simp⟩, B.out⟩

/-- A list that is being drawn, beside the cursor. -/
structure LstN (w0 : World) (B q g : Nat) (a : Option Addr) (len cap : Nat) (L : List Int) (w : World) : Prop where
  row : OutN w g 48 48 L
  n48 : L.length = 48
  bd : ∀ x ∈ L, -2 ≤ x ∧ x ≤ 65536
  d : Drawn B q w a len cap
  kb : KeepBut q w0 w
  ge : w0.heap.size ≤ g
  ne : g ≠ q
section
variable {w0 w w' : World} {B q g : Nat} {a : Option Addr} {len cap : Nat} {L : List Int}
theorem LstN.moved (h : LstN w0 B q g a len cap L w) (d : Drawn B q w' a len cap) (k : KeepBut q w w') : LstN w0 B q g a len cap L w' :=
  ⟨h.row.keepB k h.ne, h.n48, h.bd, d, h.kb.trans k, h.ge, h.ne⟩
theorem LstN.alloc (h : LstN w0 B q g a len cap L w) (o : Obj) : LstN w0 B q g a len cap L (w.alloc o) := h.moved (h.d.alloc o) ((KeepBut.refl _ _).alloc o)
theorem LstN.put (h : LstN w0 B q g a len cap L w) (hB : B ≤ w0.heap.size) (k : Nat) (hk : k < 48) (x : Int) (hx : -2 ≤ x ∧ x ≤ 65536) : LstN w0 B q g a len cap (L.set k x) (w.setCell ⟨g, k, none⟩ (.int .i64 x)) :=
  ⟨h.row.put hk, by rw [List.length_set]; exact h.n48, fun y hy => by
    rcases List.mem_or_eq_of_mem_set hy with hy | rfl
    · exact h.bd y hy
    · exact hx, h.d.setNew h.ne (Nat.le_trans hB h.ge) k _, h.kb.setNew h.ge k _, h.ge, h.ne⟩
end

set_option maxHeartbeats 1000000 in
theorem d_guesses {B q : Nat} {w : World} {a : Option Addr} {len cap : Nat} (d : Drawn B q w a len cap) :
    Calls Try.prog 29 #[.pointer (some ⟨q, 0, none⟩)] w fun e w' => ∃ (g o n c : Nat) (L : List Int), e = .returned (.slice (some ⟨g, o, none⟩) n c) ∧ w.heap.size ≤ g ∧ g < w'.heap.size ∧ n ≤ 48 ∧ (sloF (some ⟨g, o, none⟩) n L).p w' ∧ (∀ x ∈ L, -2 ≤ x ∧ x ≤ 65536) ∧ Drawn B q w' a len cap ∧ KeepBut q w w' := by
  have D := hid_mk d
  have lq := d.lt
  have lB := d.base
  clear d
  go_enter Try.func29, Try.ntmps29
  go_wp2_with fail
  refine (specGuessNew_room _).mono ?_
  rintro e w1 ⟨g, cp, rfl, hg, hcp, hQ, hb⟩
  obtain ⟨L, hL⟩ : ∃ L, L = List.replicate 48 (-1 : Int) := ⟨_, rfl⟩
  have LN : Hid (LstN w B q g a len cap L w1) := ⟨by rw [hL]; exact (show OutN w1 g 48 48 _ ∧ _ from hQ).1, by rw [hL]; simp, fun x hx => by rw [hL] at hx; rw [List.eq_of_mem_replicate hx]; omega, D.out.below hb, KeepBut.ofBelow hb, hg, by omega⟩
  clear hQ hb hL D
  go_wp2
  go_loopw [4] (fun c wr => ∃ (k : Nat) (M : List Int), k ≤ 6 ∧ c = .int .i64 k ∧ Hid (LstN w B q g a len cap M wr)) (fun c _ => 6 - (RowKit.intOf c).toNat)
  case atStart => exact ⟨0, L, by omega, rfl, LN.out⟩
  case round =>
    clear LN
    obtain ⟨k, M, hk, rfl, LM⟩ := hrel
    go_wp2_with fail
    refine (d_below 6 LM.out.d).mono ?_
    rintro e w3 ⟨y, rfl, _, hy, d3, k3⟩
    obtain ⟨y0, y1⟩ := hy (by omega)
    have L3 := hid_mk (LM.out.moved d3 k3)
    clear d3 k3 hy LM
    by_cases hlt : (k : Int) < y
    · go_wp2_with fail
      refine (d_below 48 L3.out.d).mono ?_
      rintro e w4 ⟨x, rfl, _, hx, d4, k4⟩
      obtain ⟨x0, x1⟩ := hx (by omega)
      obtain ⟨j, rfl⟩ : ∃ j : Nat, x = (j : Int) := ⟨x.toNat, by omega⟩
      have L4 := hid_mk (L3.out.moved d4 k4)
      clear d4 k4 hx L3
      go_wp2_with fail
      refine (d_below 20 L4.out.d).mono ?_
      rintro e w5 ⟨z, rfl, _, hz, d5, k5⟩
      obtain ⟨z0, z1⟩ := hz (by omega)
      have L5 := hid_mk (L4.out.moved d5 k5)
      clear d5 k5 hz L4
      have hj : j < 48 := by omega
      obtain ⟨v0, e0⟩ := Option.isSome_iff_exists.1 (L5.out.row.has j hj)
      have f0 := L5.out.row.fr j hj
      have L6 := hid_mk (L5.out.put lB j hj z (by omega))
      go_wp2
      go_roundw
      case rel => exact ⟨k + 1, _, by omega, by go_num, L6.out⟩
      case measure => simp [RowKit.intOf]; omega
    · go_wp2_with fail
      refine (d_below 12 L3.out.d).mono ?_
      rintro e w4 ⟨o, rfl, _, _, d4, k4⟩
      have L4 := hid_mk (L3.out.moved d4 k4)
      clear d4 k4 L3
      have lg := L4.out.row.lt
      cases g0 : (o == 0)
      · cases g1 : (o == 1)
        · go_wp2
          go_ret
          exact ⟨g, 0, 48, cp, M, rfl, hg, lg, by omega, L4.out.row.slice L4.out.n48 (by unfold maxLen; omega), L4.out.bd, L4.out.d, L4.out.kb⟩
        · go_wp2_with fail
          refine (d_pick [-2, 65536] 3 _ _ rfl (by decide) (by decide) L4.out.d).mono ?_
          rintro e w5 ⟨y2, rfl, hy2, d5, k5⟩
          have hy3 : -2 ≤ y2 ∧ y2 ≤ 65536 := by
            simp only [List.mem_cons, List.not_mem_nil, or_false] at hy2
            omega
          have L5 := hid_mk (L4.out.moved d5 k5)
          clear d5 k5 L4 hy2
          obtain ⟨v0, e0⟩ := Option.isSome_iff_exists.1 (L5.out.row.has 3 (by omega))
          have f0 := L5.out.row.fr 3 (by omega)
          have L6 := hid_mk (L5.out.put lB 3 (by omega) y2 hy3)
          have lg6 := L6.out.row.lt
          go_wp2
          go_ret
          exact ⟨g, 0, 48, cp, _, rfl, hg, lg6, by omega, L6.out.row.slice L6.out.n48 (by unfold maxLen; omega), L6.out.bd, L6.out.d, L6.out.kb⟩
      · have hc1 : ¬ (cp = 1) := by omega
        go_wp2
        go_ret
        refine ⟨g, 1, 47, cp - 1, M.drop 1, rfl, hg, lg, by omega, ⟨by unfold maxLen; omega, by rw [List.length_drop, L4.out.n48], .inr ⟨g, 1, rfl, lg, fun j x hj => ?_⟩⟩, fun x hx => L4.out.bd x (List.mem_of_mem_drop hx), L4.out.d, L4.out.kb⟩
        rw [List.getElem?_drop] at hj
        exact L4.out.row.wd (1 + j) x (by have := (List.getElem?_eq_some_iff.1 hj).1; rw [L4.out.n48] at this; exact this) hj

set_option maxHeartbeats 1000000 in
theorem d_place {B q : Nat} {w : World} {a : Option Addr} {len cap : Nat} (d : Drawn B q w a len cap) :
    Calls Try.prog 30 #[.pointer (some ⟨q, 0, none⟩)] w fun e w' => ∃ (n : Int) (i : Bool) (b t p s : Int), e = .returned (.agg #[.int .i64 n, .bool i, .int .i64 b, .int .i64 t, .int .i64 p, .int .i64 s]) ∧ Drawn B q w' a len cap ∧ KeepBut q w w' ∧ -9223372036854775808 ≤ n ∧ n ≤ 9223372036854775807 := by
  have D := hid_mk d
  have lq := d.lt
  have lB := d.base
  clear d
  go_enter Try.func30, Try.ntmps30
  go_wp2_with fail
  refine (d_once 4 (D.out.alloc _)).mono ?_
  rintro e w1 ⟨o, rfl, d1, k1⟩
  have Z1 : Hid (Six w1 w.heap.size 0 false 0 0 0 0) := (Six.new w 0 false 0 0 0 0 28).keep k1 (by omega)
  have D1 := hid_mk d1
  have K1 : Hid (KeepBut q w w1) := ((KeepBut.refl _ _).alloc _).trans k1
  clear d1 k1 D
  cases o
  · go_wp2_with fail
    refine (d_below 50 D1.out).mono ?_
    rintro e w2 ⟨x, rfl, _, _, d2, k2⟩
    have Z2 := hid_mk (Z1.out.keep k2 (by omega))
    have D2 := hid_mk d2
    have K2 := hid_mk (K1.out.trans k2)
    clear d2 k2 D1 Z1 K1
    go_wp2_with fail
    refine (kw_someB 0 48 4 0 x _).mono ?_
    rintro e w3 ⟨n, i, b, t, p, s, rfl, hb3, hn1, hn2⟩
    have D3 := hid_mk (D2.out.below hb3)
    have K3 := hid_mk (K2.out.trans (KeepBut.ofBelow hb3))
    obtain ⟨_, c0, c1, c2, c3, c4, c5, f0, f1, f2, f3, f4, f5⟩ := Z2.out.below hb3
    clear hb3 D2 K2 Z2
    go_wp2
    refine bodyPost_ret (v := .agg #[.int .i64 n, .bool i, .int .i64 b, .int .i64 t, .int .i64 p, .int .i64 s]) (by simp [results, Try.results30, go_sem, c0, c1, c2, c3, c4, c5]) rfl ⟨_, _, _, _, _, _, rfl, ?_, ?_, hn1, hn2⟩
    · repeat' (first | (with_reducible exact D3.out) | (refine Drawn.setNew ?_ (by omega) lB _ _))
    · repeat' (first | (with_reducible exact K3.out) | (refine KeepBut.setNew ?_ (Nat.le_refl _) _ _))
  · go_wp2_with fail
    refine (d_wordB D1.out).mono ?_
    rintro e w2 ⟨n, i, b, t, p, s, rfl, d2, k2, hn1, hn2⟩
    have Z2 := hid_mk (Z1.out.keep k2 (by omega))
    have D3 := hid_mk d2
    have K3 := hid_mk (K1.out.trans k2)
    clear d2 k2 D1 Z1 K1
    obtain ⟨_, c0, c1, c2, c3, c4, c5, f0, f1, f2, f3, f4, f5⟩ := Z2.out
    clear Z2
    go_wp2
    refine bodyPost_ret (v := .agg #[.int .i64 n, .bool i, .int .i64 b, .int .i64 t, .int .i64 p, .int .i64 s]) (by simp [results, Try.results30, go_sem, c0, c1, c2, c3, c4, c5]) rfl ⟨_, _, _, _, _, _, rfl, ?_, ?_, hn1, hn2⟩
    · repeat' (first | (with_reducible exact D3.out) | (refine Drawn.setNew ?_ (by omega) lB _ _))
    · repeat' (first | (with_reducible exact K3.out) | (refine KeepBut.setNew ?_ (Nat.le_refl _) _ _))
end Go.Proofs.Ytcokcfgagbahbaa
