/- Keys of the specification: a new list of the words that are keys. No condition but that there are no more words than a list of the laws may have, and that a slice that is nil has no room. -/
import Derived.Test.YtfeoaegkhbjaeaaKysB
import Derived.Laws.AppendOwnNone
namespace Go.Proofs.Ytfeoaegkhbjaeaa
open Go.ChangeShapes Go.WideShapes Go.ChangeAt Go.RowKit
set_option maxRecDepth 100000

theorem wpList_appS {w : World} {ops : Array Oper} {rest : List Oper} {o : Oper} {a : Act} {Q : Exit → Act → World → Prop} (hgd : o.guard = none) (s x : Operand)
    (ho : o.op = .call { callee := .builtin .append, args := #[s, x], argTypes := #[28, 28] })
    (base : Nat) (X : List Wd) (v : Value) (hs : a.eval s = v) (hown : w.ownsRow base 47 6 v X.length (X.flatMap Wd.vs))
    (ad : Option Addr) (m c : Nat) (M : List Wd) (hx : a.eval x = .slice ad m c) (hM : SliceW w.heap.size w ad m M) (hnil : ad = none → c = 0) (hlen : X.length + m ≤ 2097154) (hbase : base ≤ w.heap.size)
    (h : ∀ v' w', w'.ownsRow base 47 6 v' (X ++ M).length ((X ++ M).flatMap Wd.vs) → Below base w w' → wpList Try.prog ops Q rest (a.put o.dst v') w') : wpList Try.prog ops Q (o :: rest) a w := by
  obtain ⟨i0, hi, hz0, hz1, hz2⟩ := info_parts infoW
  have hml := hM.2.1
  have hmx : 2097154 ≤ maxLen := by unfold maxLen; omega
  cases ad with
  | none =>
    have hm0 : m = 0 := by
      rcases hM.2.2 with h0 | ⟨k, o, ha, _⟩
      · exact h0
      · cases ha
    subst hm0
    obtain rfl := hnil rfl
    have hM0 : M = [] := List.eq_nil_of_length_eq_zero hml
    subst hM0
    refine wpList_append_own_none hgd s x _ ho base 47 i0 6 Try.underlying28 hi v X.length (X.flatMap Wd.vs) hs hown hx ?_
    exact h v w (by simpa using hown) (Below.refl _ _)
  | some ad =>
    have hnews : ∀ j u, (M.flatMap Wd.vs)[j]? = some u → w.cell? (ad.add j) = some u := by
      rcases hM.2.2 with h0 | ⟨k, o, ha, _⟩
      · have hM0 : M = [] := List.eq_nil_of_length_eq_zero (by omega)
        subst hM0
        intro j u hj
        simp at hj
      · cases ha
        exact hM.flat
    refine wpList_append_own _ hgd s x _ ho base 47 i0 _ 6 48 Try.underlying28 hi hz0 hz1 hz2 rfl (by decide) v X.length _ hs hown ad m c (M.flatMap Wd.vs) hx (by rw [flatW_len, hml]) hnews (flatW_one M) (by omega) (by omega) hbase ?_
    intro v' w' hown' hgrow _
    exact h v' w' (by rw [List.length_append, hml, List.flatMap_append]; exact hown') ((Below.refl base w).grown hgrow hbase fun k hk => (hown.lt k hk).1)

theorem sliceW_one (w : World) (x : Wd) : SliceW (w.alloc (.cells (wl x).toArray 47)).heap.size (w.alloc (.cells (wl x).toArray 47)) (some ⟨w.heap.size, 0, none⟩) 1 [x] := by
  refine ⟨by unfold maxLen; omega, rfl, .inr ⟨w.heap.size, 0, rfl, by simp, fun j y hj => WordAt.of_vs fun m v hv => ?_⟩⟩
  have e : j = 0 ∧ x = y := by
    cases j with
    | zero => simpa using hj
    | succ j => simp at hj
  obtain ⟨rfl, rfl⟩ := e
  have h := (Cel.new w (wl x) 47).c m v hv
  rw [Nat.zero_mul, Nat.zero_add]
  try rw [Nat.zero_add]
  exact h
theorem RowWA.sliceX {w : World} {a : Option Addr} {n : Nat} {L : List Wd} (h : RowWA w a n L) (hn : n ≤ 2097154) : SliceW w.heap.size w a n L := by
  rcases h with ⟨rfl, rfl, rfl⟩ | ⟨q, rfl, hl, hO⟩
  · exact ⟨by unfold maxLen; omega, rfl, .inl rfl⟩
  · exact hO.slice hl (by unfold maxLen; omega)
theorem own_nextW {w : World} {base : Nat} {v : Value} {L : List Wd} (h : w.ownsRow base 47 6 v L.length (L.flatMap Wd.vs)) (o : Obj) : (w.alloc o).ownsRow base 47 6 v L.length (L.flatMap Wd.vs) := h.alloc o

set_option maxHeartbeats 8000000 in
theorem specKeys_any (a : Option Addr) (n c : Nat) (x : Wd) (a1 : Option Addr) (n1 c1 : Nat) (a2 : Option Addr) (n2 c2 : Nat) (t : Int) (R L : List Wd) (G : List Bool) (w : World) (hc : a = none → c = 0) (hc1 : a1 = none → c1 = 0) (hlen : n + 1 + n1 ≤ 2097153) (hS : StS w a n a1 n1 a2 n2 R L G) :
    Calls Try.prog 51 #[.agg #[.slice a n c, .int .i64 x.n, .bool x.i, .int .i64 x.b, .int .i64 x.t, .int .i64 x.p, .int .i64 x.s, .slice a1 n1 c1, .slice a2 n2 c2, .int .i64 t]] w fun e w' => ∃ b d, e = .returned (.slice b (keyL R x L).length d) ∧ RowWA w' b (keyL R x L).length (keyL R x L) ∧ (∀ k, On b k → w.heap.size ≤ k) ∧ Below w.heap.size w w' := by
  have H := hid_mk (((Hold.new w).alloc (.cells (stl a n c x a1 n1 c1 a2 n2 c2 t).toArray 49)).push (celF w.heap.size (stl a n c x a1 n1 c1 a2 n2 c2 t)) (Cel.new w _ _))
  have S := hid_mk hS
  have hlr := hS.rs.2.1
  have hll := hS.mem.ws.2.1
  clear hS
  obtain ⟨M, hM⟩ : ∃ M, Hid (M = R ++ [x] ++ L) := ⟨_, rfl⟩
  have hMl : M.length = n + 1 + n1 := by rw [hM.out]; simp; omega
  have hkl : keyL R x L = M.filter (·.i) := by rw [hM.out]; rfl
  rw [hkl]
  clear hkl
  generalize hw1 : w.alloc (.cells (stl a n c x a1 n1 c1 a2 n2 c2 t).toArray 49) = w1 at H
  have hsz : w.heap.size < w1.heap.size := by rw [← hw1]; simp
  go_enter Try.func51, Try.ntmps51
  go_upto_region 1 with fail
  clear hw1
  obtain ⟨B, hB⟩ : ∃ B, B = w1.heap.size := ⟨_, rfl⟩
  have O0 : Hid ((w1.alloc (.cells #[] 47)).ownsRow B 47 6 (.slice (some ⟨w1.heap.size, 0, none⟩) 0 0) ([] : List Wd).length (([] : List Wd).flatMap Wd.vs)) := World.ownsRow_made w1 #[] 0 (by omega) (Nat.zero_le _) rfl
  have B0 : Hid (Below B w1 (w1.alloc (.cells #[] 47))) := (Below.refl _ _).alloc (by omega) _
  obtain ⟨m0, m1, m2, m3, m4, m5, m6, m7, m8, m9⟩ := (H.out.cel (.head _)).c10
  have S1 := hid_mk (S.out.below (H.out.alloc (.cells #[] 47)).bel).rs
  go_upto_region 2 with (at_builtin; refine wpList_appS rfl _ _ rfl B [] _ rfl O0.out a n c R rfl S1.out hc (by simp; omega) (by simp; omega) ?_; intro v1 w2 ho1 hb1)
  have K2 := hid_mk (B0.out.trans hb1)
  have O2 := hid_mk ho1
  clear hb1 ho1 O0 B0 S1 m0 m1 m2 m3 m4 m5 m6 m7 m8 m9
  have H2 := hid_mk (H.out.next (by rw [← hB]; exact K2.out))
  obtain ⟨m0, m1, m2, m3, m4, m5, m6, m7, m8, m9⟩ := (H2.out.cel (.head _)).c10
  have hs2 := K2.out.size
  go_upto_region 3 with (at_builtin; refine wpList_appS rfl _ _ rfl B ([] ++ R) _ rfl (O2.out.alloc _) _ 1 1 [x] rfl (sliceW_one w2 x) (fun h => by cases h) (by simp; omega) (by simp; omega) ?_; intro v2 w3 ho2 hb2)
  have K3 : Hid (Below B w1 w3) := (K2.out.alloc (by omega) _).trans hb2
  have O3 := hid_mk ho2
  clear hb2 ho2 O2 m0 m1 m2 m3 m4 m5 m6 m7 m8 m9 K2 H2 hs2
  have H3 := hid_mk (H.out.next (by rw [← hB]; exact K3.out))
  obtain ⟨m0, m1, m2, m3, m4, m5, m6, m7, m8, m9⟩ := (H3.out.cel (.head _)).c10
  have hs3 := K3.out.size
  have S3 := hid_mk (S.out.below H3.out.bel).mem.ws
  go_upto_region 4 with (at_builtin; refine wpList_appS rfl _ _ rfl B ([] ++ R ++ [x]) _ rfl O3.out a1 n1 c1 L rfl S3.out hc1 (by simp; omega) (by omega) ?_; intro v3 w4 ho3 hb3)
  have K4 := hid_mk (K3.out.trans hb3)
  obtain ⟨b3, d3, hv3, hr3, hf3⟩ := own_any ho3
  subst hv3
  have hs4 := K4.out.size
  rw [List.nil_append] at hr3
  rw [← hM.out, hMl] at hr3
  have e0 : (([] : List Wd) ++ R ++ [x] ++ L).length = n + 1 + n1 := by
    simp
    omega
  rw [e0]
  clear e0
  have AL := hid_mk (hr3.sliceX (by omega))
  obtain ⟨ln, hln⟩ : ∃ ln, ln = n + 1 + n1 := ⟨_, rfl⟩
  rw [← hln] at AL hMl ⊢
  have hlnb : ln ≤ 2097153 := by omega
  clear hln
  clear hb3 ho3 O3 m0 m1 m2 m3 m4 m5 m6 m7 m8 m9 K3 H3 hs3 S3 S hr3 hf3 hM hlr hll hc hc1
  have H4 := hid_mk (H.out.next (by rw [← hB]; exact K4.out)).bel
  clear H K4
  go_upto_region 5 with fail
  obtain ⟨B2, hB2⟩ : ∃ B2, B2 = w4.heap.size := ⟨_, rfl⟩
  have O5 : Hid ((w4.alloc (.cells #[] 47)).ownsRow B2 47 6 (.slice (some ⟨w4.heap.size, 0, none⟩) 0 0) ([] : List Wd).length (([] : List Wd).flatMap Wd.vs)) := World.ownsRow_made w4 #[] 0 (by omega) (Nat.zero_le _) rfl
  have K5 : Hid (Below B2 w4 (w4.alloc (.cells #[] 47))) := (Below.refl _ _).alloc (by omega) _
  have hb2 : w.heap.size ≤ B2 := by omega
  go_wp2
  go_loopw [4, 5] (fun ov iv wr => ∃ k : Nat, k ≤ ln ∧ iv = .int .i64 (k : Int) ∧ Hid (wr.ownsRow B2 47 6 ov ((M.take k).filter (·.i)).length (((M.take k).filter (·.i)).flatMap Wd.vs)) ∧ Hid (Below B2 w4 wr)) (fun _ iv _ => ln - (intOf iv).toNat)
  case atStart => exact ⟨0, Nat.zero_le _, rfl, O5, K5⟩
  case round =>
    clear O5 K5
    obtain ⟨k, hk, rfl, OO, KK⟩ := hrel
    have hsr := KK.out.size
    by_cases hlt : k < ln
    · obtain ⟨kb, o, y, rfl, hkb, hy, hat⟩ := ((AL.out.keep (by rw [← hB2]; exact KK.out)).mono (by omega : w4.heap.size ≤ wr.heap.size)).at hlt
      obtain ⟨d0, d1, d2, d3, d4, d5⟩ := hat
      have hft := filt_take hy
      have hfl : ((M.take k).filter (·.i)).length ≤ ln := Nat.le_trans (List.length_filter_le _ _) (by rw [List.length_take]; omega)
      cases hyi : y.i with
      | true =>
        rw [hyi, if_pos rfl] at hft
        have Z : Hid (SliceW (wr.alloc (.cells #[.int .i64 y.n, .bool y.i, .int .i64 y.b, .int .i64 y.t, .int .i64 y.p, .int .i64 y.s] 47)).heap.size (wr.alloc (.cells #[.int .i64 y.n, .bool y.i, .int .i64 y.b, .int .i64 y.t, .int .i64 y.p, .int .i64 y.s] 47)) (some ⟨wr.heap.size, 0, none⟩) 1 [y]) := sliceW_one wr y
        rw [hyi] at d1 Z
        have HFT := hid_mk hft
        clear hft hy
        go_wp2_with (at_builtin; refine wpList_appS rfl _ _ rfl B2 ((M.take k).filter (·.i)) _ rfl (OO.out.alloc _) _ 1 1 [y] rfl Z.out (fun h => by cases h) (by omega) (by simp; omega) ?_; intro v5 w5 ho5 hb5)
        have O6 : Hid (w5.ownsRow B2 47 6 v5 ((M.take (k + 1)).filter (·.i)).length (((M.take (k + 1)).filter (·.i)).flatMap Wd.vs)) := by
          rw [HFT.out]
          exact ho5
        have K6 := hid_mk ((KK.out.alloc (by omega) _).trans hb5)
        clear ho5 hb5 OO KK
        go_roundw
        case rel => exact ⟨k + 1, hlt, by simp, O6, K6⟩
        case measure => simp [intOf]; omega
      | false =>
        rw [hyi, if_neg (by simp), List.append_nil] at hft
        rw [hyi] at d1
        rw [← hft] at OO
        clear hft hy
        go_wp2
        go_roundw
        case rel => exact ⟨k + 1, hlt, by simp, OO, KK⟩
        case measure => simp [intOf]; omega
    · obtain rfl : k = ln := by omega
      rw [List.take_of_length_le (by omega)] at OO
      obtain ⟨b, d, hv, hr, hf⟩ := own_any OO.out
      subst hv
      have HR := hid_mk hr
      have HF := hid_mk hf
      have HB := hid_mk (H4.out.trans (KK.out.mono hb2))
      clear hr hf OO KK AL H4
      go_wp2
      go_ret
      exact ⟨b, d, rfl, HR.out, fun k hk => by have := HF.out k hk; omega, HB.out⟩
end Go.Proofs.Ytfeoaegkhbjaeaa
