/- markCore and heldCore of the laws at a core with no entries that a call has answered: what is marked is held. No condition but that the lists are no longer than the law lets them be. -/
import Derived.Test.YtneohabkoighcaaGreatNewA
import Derived.Test.YtneohabkoighcaaGreatIntH
import Derived.Test.YtneohabkoighcaaGreatNewE
import Derived.Test.YtneohabkoighcaaGreatNewH
namespace Go.Proofs.YtneohabkoighcaaGreat
open Go.ChangeShapes Go.WideShapes Go.ChangeAt Go.RowKit
set_option maxRecDepth 100000

theorem markN_nil (c : Nat) (k0 : Int) (w : World) : Calls Tryz.prog 66 #[.slice none 0 c, .int .i64 k0] w fun e w' => e = .returned (.int .i64 k0) ∧ w' = w := by
  go_enter Tryz.func66, Tryz.ntmps66
  go_wp2
  go_loopw [1, 5] (fun kk c wr => kk = .int .i64 k0 ∧ c = .int .i64 0 ∧ wr = w) (fun _ _ _ => 0)
  case atStart => exact ⟨rfl, rfl, rfl⟩
  case round =>
    obtain ⟨rfl, rfl, rfl⟩ := hrel
    go_wp2
    go_ret
    exact ⟨rfl, rfl⟩
theorem heldN_nil (c : Nat) (k0 : Int) (w : World) : Calls Tryz.prog 69 #[.slice none 0 c, .int .i64 k0] w fun e w' => e = .returned (.int .i64 k0) ∧ w' = w := by
  go_enter Tryz.func69, Tryz.ntmps69
  go_wp2
  go_loopw [1, 5] (fun kk c wr => kk = .int .i64 k0 ∧ c = .int .i64 0 ∧ wr = w) (fun _ _ _ => 0)
  case atStart => exact ⟨rfl, rfl, rfl⟩
  case round =>
    obtain ⟨rfl, rfl, rfl⟩ := hrel
    go_wp2
    go_ret
    exact ⟨rfl, rfl⟩
theorem markN_row (a : Option Addr) (n c : Nat) (L : List Int) (k0 : Int) (h0 : 1 ≤ k0) (h1 : k0 ≤ 33554432) (w : World) (hn : n ≤ 1048576) (h : RowNA w a n L) :
    Calls Tryz.prog 66 #[.slice a n c, .int .i64 k0] w fun e w' => e = .returned (.int .i64 (k0 + (n : Int))) ∧ RowNA w' a n (marksN k0 n) ∧ KeptS (On a) w w' := by
  rcases h with ⟨rfl, rfl, rfl⟩ | ⟨q, rfl, hl, hO⟩
  · refine (markN_nil c k0 w).mono ?_
    rintro e w' ⟨rfl, rfl⟩
    exact ⟨by simp, .inl ⟨rfl, rfl, rfl⟩, KeptS.ofBelow (Below.refl _ _)⟩
  · refine (markN_own q n c L k0 h0 h1 w hn ⟨hO, hl⟩).mono ?_
    rintro e w' ⟨rfl, hW, hK⟩
    exact ⟨rfl, .inr ⟨q, rfl, marksN_len _ _, hW.1⟩, KeptS.ofBut hK ((on_some q q).2 rfl)⟩
theorem heldN_row (a : Option Addr) (n c : Nat) (k0 : Int) (h0 : 1 ≤ k0) (h1 : k0 ≤ 33554432) (w : World) (hn : n ≤ 1048576) (h : RowNA w a n (marksN k0 n)) :
    Calls Tryz.prog 69 #[.slice a n c, .int .i64 k0] w fun e w' => e = .returned (.int .i64 (k0 + (n : Int))) ∧ Below w.heap.size w w' := by
  rcases h with ⟨rfl, rfl, _⟩ | ⟨q, rfl, hl, hO⟩
  · refine (heldN_nil c k0 w).mono ?_
    rintro e w' ⟨rfl, rfl⟩
    exact ⟨by simp, Below.refl _ _⟩
  · exact heldN_own q n c k0 h0 h1 w hn ⟨hO, hl⟩

/-- A core's rows, marked from k0 on; no entries. -/
def markR (v : Cv) (k0 : Int) : Cr := ⟨marksW k0 v.rn, marksW (k0 + 6 * (v.rn : Int)) v.wn, marksB (k0 + 6 * (v.rn : Int) + 6 * (v.wn : Int)) v.gn, [], marksN (k0 + 6 * (v.rn : Int) + 6 * (v.wn : Int) + (v.gn : Int)) v.jn⟩
set_option maxHeartbeats 4000000 in
theorem markCore_nil (v : Cv) (a : Ca) (r : Cr) (k0 : Int) (h0 : 1 ≤ k0) (h1 : k0 + 6 * (v.rn : Int) + 6 * (v.wn : Int) ≤ 16777216) (hv : CvB v) (he : v.en = 0) (hea : a.ea = none) (w : World) (h : AnsC v a r w) :
    Calls Tryz.prog 24 #[.agg (col v a).toArray, .int .i64 k0] w fun e w' => e = .returned (.int .i64 (k0 + 6 * (v.rn : Int) + 6 * (v.wn : Int) + (v.gn : Int) + (v.jn : Int))) ∧ AnsC v a (markR v k0) w' ∧ KeptS (OnC a) w w' := by
  have HEA := hid_mk hea
  clear hea
  have hn0 := hv.rn
  have hn1 := hv.wn
  have hn2 := hv.gn
  have hn4 := hv.jn
  have hlt := hid_mk (fun k hk => h.lt (k := k) hk)
  have d1 := hid_mk h.d1
  have d2 := hid_mk h.d2
  obtain ⟨m, hm⟩ : ∃ m : Int, m = k0 + 6 * (v.rn : Int) + 6 * (v.wn : Int) + (v.gn : Int) := ⟨_, rfl⟩
  have hm0 : 1 ≤ m := by omega
  have hm1 : m ≤ 33554432 := by omega
  have s1 := fun w h => markState_at a.ra v.rn a.rc v.pc a.wa v.wn a.wc a.ga v.gn a.gc v.t r.R r.L r.G k0 h0 h1 hn0 hn1 hn2 w h
  rw [← hm] at s1 ⊢
  have S1 := hid_mk s1
  have HM := hid_mk hm
  have H1 := hid_mk h1
  have w1s : Hid (AnsS a.ra a.wa a.ga v.rn v.wn v.gn r.R r.L r.G (w.alloc (.cells (col v a).toArray 37))) := h.st.below ((Below.refl _ w).alloc (Nat.le_refl _) _)
  have JS : Hid (RowNA (w.alloc (.cells (col v a).toArray 37)) a.ja v.jn r.J) := h.js.ofBlock (by simp) fun k hk _ => ((Below.refl w.heap.size w).alloc (Nat.le_refl _) _).block k hk
  have K0 := hid_mk (KeptS.ofBelow (T := OnC a) ((Below.refl w.heap.size w).alloc (Nat.le_refl _) (.cells (col v a).toArray 37)))
  have D0 := hid_mk (Cel.new w (col v a) 37)
  clear s1 hm h1 h hv
  generalize hw1 : w.alloc (.cells (col v a).toArray 37) = w1 at w1s JS K0 D0
  go_enter Tryz.func24, Tryz.ntmps24
  go_upto_region 1 with fail
  clear hw1
  have c0 := D0.out.c 0 _ rfl
  have c1 := D0.out.c 1 _ rfl
  have c2 := D0.out.c 2 _ rfl
  have c3 := D0.out.c 3 _ rfl
  have c4 := D0.out.c 4 _ rfl
  have c5 := D0.out.c 5 _ rfl
  have c6 := D0.out.c 6 _ rfl
  have c7 := D0.out.c 7 _ rfl
  have c8 := D0.out.c 8 _ rfl
  have c9 := D0.out.c 9 _ rfl
  go_wp2_with fail
  refine (S1.out _ w1s.out).mono ?_
  rintro e w2 ⟨rfl, hA, hK⟩
  have A2 := hid_mk hA
  have J2 : Hid (RowNA w2 a.ja v.jn r.J) := JS.out.ofBlock hK.size fun k hk ho => hK.block k hk fun h2 => (d2.out k ho).1 h2
  have D2 : Hid (Cel w2 w.heap.size (col v a)) := D0.out.ofBlock hK.size (hK.block _ D0.out.lt fun h2 => by have := hlt.out _ (.inl h2); omega)
  have K2 := hid_mk (K0.out.trans (hK.mono fun k hk => .inl hk))
  clear hA hK c0 c1 c2 c3 c4 c5 c6 c7 c8 c9 w1s JS K0 D0 S1
  have c10 := D2.out.c 10 _ rfl
  rw [he] at c10
  have s2 := fun w => markE_nil a.ea a.ec m w
  have S2 := hid_mk s2
  clear s2
  go_wp2_with fail
  refine (S2.out _).mono ?_
  rintro e w9 ⟨rfl, rfl⟩
  clear c10 S2
  have c18 := D2.out.c 18 _ rfl
  have s3 := markN_row a.ja v.jn a.jc r.J m hm0 hm1 _ hn4 J2.out
  have S3 := hid_mk s3
  clear s3
  go_wp2_with fail
  refine S3.out.mono ?_
  rintro e w3 ⟨rfl, hJ, hK⟩
  have A3 : Hid (AnsS a.ra a.wa a.ga v.rn v.wn v.gn (marksW k0 v.rn) (marksW (k0 + 6 * (v.rn : Int)) v.wn) (marksB (k0 + 6 * (v.rn : Int) + 6 * (v.wn : Int)) v.gn) w3) := (ansSF _ _ _ _ _ _ _ _ _).keep _ _ A2.out hK.size fun k hk ho => hK.block k hk fun h2 => (d2.out k h2).1 ho
  have K3 := hid_mk (K2.out.trans (hK.mono fun k hk => .inr (.inr hk)))
  have J3 := hid_mk hJ
  clear hK hJ c18 S3 A2 K2 J2 D2
  go_wp2
  go_ret
  exact ⟨rfl, ⟨A3.out, .inl ⟨HEA.out, he, rfl⟩, by rw [markR, ← HM.out]; exact J3.out, d1.out, d2.out⟩, K3.out⟩

set_option maxHeartbeats 4000000 in
theorem heldCore_nil (v : Cv) (a : Ca) (k0 : Int) (h0 : 1 ≤ k0) (h1 : k0 + 6 * (v.rn : Int) + 6 * (v.wn : Int) ≤ 16777216) (hv : CvB v) (he : v.en = 0) (w : World) (h : AnsC v a (markR v k0) w) :
    Calls Tryz.prog 25 #[.agg (col v a).toArray, .int .i64 k0] w fun e w' => e = .returned (.int .i64 (k0 + 6 * (v.rn : Int) + 6 * (v.wn : Int) + (v.gn : Int) + (v.jn : Int))) ∧ Below w.heap.size w w' := by
  have H : Hid (Hold w (w.alloc (.cells (col v a).toArray 37)) [celF w.heap.size (col v a), ansCF v a (markR v k0)]) := ((Hold.new w).push (ansCF v a (markR v k0)) h).box (col v a) 37 w.heap.size rfl
  have hn0 := hv.rn
  have hn1 := hv.wn
  have hn2 := hv.gn
  have hn4 := hv.jn
  obtain ⟨m, hm⟩ : ∃ m : Int, m = k0 + 6 * (v.rn : Int) + 6 * (v.wn : Int) + (v.gn : Int) := ⟨_, rfl⟩
  have hm0 : 1 ≤ m := by omega
  have hm1 : m ≤ 33554432 := by omega
  have s1 := fun w h => heldState_at a.ra v.rn a.rc v.pc a.wa v.wn a.wc a.ga v.gn a.gc v.t k0 h0 h1 hn0 hn1 hn2 w h
  rw [← hm] at s1 ⊢
  have S1 := hid_mk s1
  have HM := hid_mk hm
  have hj : Hid (∀ w, AnsC v a (markR v k0) w → RowNA w a.ja v.jn (marksN m v.jn)) := fun w h => by
    have := h.js
    rwa [markR, ← HM.out] at this
  clear s1 hm h1 h
  generalize hw1 : w.alloc (.cells (col v a).toArray 37) = w1 at H
  go_enter Tryz.func25, Tryz.ntmps25
  go_upto_region 1 with fail
  clear hw1
  have c0 := (H.out.cel (.head _)).c 0 _ rfl
  have c1 := (H.out.cel (.head _)).c 1 _ rfl
  have c2 := (H.out.cel (.head _)).c 2 _ rfl
  have c3 := (H.out.cel (.head _)).c 3 _ rfl
  have c4 := (H.out.cel (.head _)).c 4 _ rfl
  have c5 := (H.out.cel (.head _)).c 5 _ rfl
  have c6 := (H.out.cel (.head _)).c 6 _ rfl
  have c7 := (H.out.cel (.head _)).c 7 _ rfl
  have c8 := (H.out.cel (.head _)).c 8 _ rfl
  have c9 := (H.out.cel (.head _)).c 9 _ rfl
  go_wp2_with fail
  refine (S1.out _ ((H.out.ansC (.tail _ (.head _))).st.sts hn0 hn1 hn2)).mono ?_
  rintro e w2 ⟨rfl, hb⟩
  replace H := hid_mk (H.out.next hb)
  clear hb S1 c0 c1 c2 c3 c4 c5 c6 c7 c8 c9
  have c10 := (H.out.cel (.head _)).c 10 _ rfl
  rw [he] at c10
  have S2 := hid_mk (fun w => heldE_nil a.ea a.ec m w)
  go_wp2_with fail
  refine (S2.out _).mono ?_
  rintro e w9 ⟨rfl, rfl⟩
  clear c10 S2
  have c18 := (H.out.cel (.head _)).c 18 _ rfl
  have S3 := hid_mk (heldN_row a.ja v.jn a.jc m hm0 hm1 _ hn4 (hj.out _ (H.out.ansC (.tail _ (.head _)))))
  have hz0 : 0 ≤ m + (v.jn : Int) := by omega
  go_wp2_with fail
  refine S3.out.mono ?_
  rintro e w3 ⟨rfl, hb⟩
  have B := hid_mk (H.out.next hb).bel
  clear hb c18 S3 H hj
  go_wp2
  go_ret
  exact ⟨rfl, B.out⟩
end Go.Proofs.YtneohabkoighcaaGreat
