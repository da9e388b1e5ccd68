/- markCore and heldCore of the laws at a core that a call has answered, whatever its rows: what is marked is held. No condition but that the lists are no longer than the law lets them be. -/
import Derived.Test.YtpkhnajhamnggaaGreatDoorYE
import Derived.Test.YtpkhnajhamnggaaGreatDoorMrkH
namespace Go.Proofs.YtpkhnajhamnggaaGreatDoor
open Go.ChangeShapes Go.WideShapes Go.ChangeAt Go.RowKit
set_option maxRecDepth 100000

theorem markE_row (a : Option Addr) (n c : Nat) (E : List En) (k0 : Int) (h0 : 1 ≤ k0) (h1 : k0 ≤ 33554432) (w : World) (hn : n ≤ 262144) (h : RowVA w a n E) :
    Calls Tryz.prog 68 #[.slice a n c, .int .i64 k0] w fun e w' => e = .returned (.int .i64 (k0 + 40 * (n : Int))) ∧ RowVA w' a n (marksE k0 n) ∧ KeptS (On a) w w' := by
  rcases h with ⟨rfl, rfl, rfl⟩ | ⟨q, rfl, hl, hO⟩
  · refine (markE_nil none c k0 w).mono ?_
    rintro e w' ⟨rfl, rfl⟩
    exact ⟨by simp, .inl ⟨rfl, rfl, rfl⟩, KeptS.ofBelow (Below.refl _ _)⟩
  · refine (markE_own q n c k0 h0 h1 w (by omega) ⟨hO.lt, hO.has, hO.fr, fun _ _ hj => absurd hj (Nat.not_lt_zero _)⟩).mono ?_
    rintro e w' ⟨rfl, hW, hK⟩
    exact ⟨rfl, .inr ⟨q, rfl, marksE_len _ _, hW⟩, KeptS.ofBut hK ((on_some q q).2 rfl)⟩
theorem heldE_row (a : Option Addr) (n c : Nat) (k0 : Int) (h0 : 1 ≤ k0) (h1 : k0 ≤ 33554432) (w : World) (hn : n ≤ 262144) (h : RowVA w a n (marksE k0 n)) :
    Calls Tryz.prog 69 #[.slice a n c, .int .i64 k0] w fun e w' => e = .returned (.int .i64 (k0 + 40 * (n : Int))) ∧ Below w.heap.size w w' :=
  heldE_own a n c k0 h0 h1 w (by omega) (h.slice (by omega))

/-- A core's rows, marked from k0 on. -/
def markG (v : Cv) (k0 : Int) : Cr := ⟨marksW k0 v.rn, marksW (k0 + 6 * (v.rn : Int)) v.wn, marksB (k0 + 6 * (v.rn : Int) + 6 * (v.wn : Int)) v.gn, marksE (k0 + 6 * (v.rn : Int) + 6 * (v.wn : Int) + (v.gn : Int)) v.en, marksN (k0 + 6 * (v.rn : Int) + 6 * (v.wn : Int) + (v.gn : Int) + 40 * (v.en : Int)) v.jn⟩
set_option maxHeartbeats 4000000 in
theorem markCore_any (v : Cv) (a : Ca) (r : Cr) (k0 : Int) (h0 : 1 ≤ k0) (h1 : k0 + 6 * (v.rn : Int) + 6 * (v.wn : Int) ≤ 16777216) (hv : CvB v) (w : World) (h : AnsC v a r w) :
    Calls Tryz.prog 27 #[.agg (col v a).toArray, .int .i64 k0] w fun e w' => e = .returned (.int .i64 (k0 + 6 * (v.rn : Int) + 6 * (v.wn : Int) + (v.gn : Int) + 40 * (v.en : Int) + (v.jn : Int))) ∧ AnsC v a (markG v k0) w' ∧ KeptS (OnC a) w w' := by
  have hn0 := hv.rn
  have hn1 := hv.wn
  have hn2 := hv.gn
  have hn3 := hv.en
  have hn4 := hv.jn
  have hlt := hid_mk (fun k hk => h.lt (k := k) hk)
  have d1 := hid_mk h.d1
  have d2 := hid_mk h.d2
  obtain ⟨m, hm⟩ : ∃ m : Int, m = k0 + 6 * (v.rn : Int) + 6 * (v.wn : Int) + (v.gn : Int) := ⟨_, rfl⟩
  have hm0 : 1 ≤ m := by omega
  have hm1 : m ≤ 18874368 := by omega
  obtain ⟨m2, hm2⟩ : ∃ m2 : Int, m2 = m + 40 * (v.en : Int) := ⟨_, rfl⟩
  have hp0 : 1 ≤ m2 := by omega
  have hp1 : m2 ≤ 33554432 := by omega
  have s1 := fun w h => markState_at a.ra v.rn a.rc v.pc a.wa v.wn a.wc a.ga v.gn a.gc v.t r.R r.L r.G k0 h0 h1 hn0 hn1 hn2 w h
  rw [← hm] at s1 ⊢
  rw [← hm2]
  have HM2 := hid_mk hm2
  have S1 := hid_mk s1
  have HM := hid_mk hm
  have H1 := hid_mk h1
  have w1s : Hid (AnsS a.ra a.wa a.ga v.rn v.wn v.gn r.R r.L r.G (w.alloc (.cells (col v a).toArray 64))) := h.st.below ((Below.refl _ w).alloc (Nat.le_refl _) _)
  have JS : Hid (RowNA (w.alloc (.cells (col v a).toArray 64)) a.ja v.jn r.J) := h.js.ofBlock (by simp) fun k hk _ => ((Below.refl w.heap.size w).alloc (Nat.le_refl _) _).block k hk
  have VS : Hid (RowVA (w.alloc (.cells (col v a).toArray 64)) a.ea v.en r.E) := h.es.ofBlock (by simp) fun k hk _ => ((Below.refl w.heap.size w).alloc (Nat.le_refl _) _).block k hk
  have K0 := hid_mk (KeptS.ofBelow (T := OnC a) ((Below.refl w.heap.size w).alloc (Nat.le_refl _) (.cells (col v a).toArray 64)))
  have D0 := hid_mk (Cel.new w (col v a) 64)
  clear s1 hm hm2 h1 h hv
  generalize hw1 : w.alloc (.cells (col v a).toArray 64) = w1 at w1s JS VS K0 D0
  go_enter Tryz.func27, Tryz.ntmps27
  go_upto_region 1 with fail
  clear hw1
  have c0 := D0.out.c 0 _ rfl
  have c1 := D0.out.c 1 _ rfl
  have c2 := D0.out.c 2 _ rfl
  have c3 := D0.out.c 3 _ rfl
  have c4 := D0.out.c 4 _ rfl
  have c5 := D0.out.c 5 _ rfl
  have c6 := D0.out.c 6 _ rfl
  have c7 := D0.out.c 7 _ rfl
  have c8 := D0.out.c 8 _ rfl
  have c9 := D0.out.c 9 _ rfl
  go_wp2_with fail
  refine (S1.out _ w1s.out).mono ?_
  rintro e w2 ⟨rfl, hA, hK⟩
  have A2 := hid_mk hA
  have J2 : Hid (RowNA w2 a.ja v.jn r.J) := JS.out.ofBlock hK.size fun k hk ho => hK.block k hk fun h2 => (d2.out k ho).1 h2
  have V2 : Hid (RowVA w2 a.ea v.en r.E) := VS.out.ofBlock hK.size fun k hk ho => hK.block k hk fun h2 => d1.out k ho h2
  have D2 : Hid (Cel w2 w.heap.size (col v a)) := D0.out.ofBlock hK.size (hK.block _ D0.out.lt fun h2 => by have := hlt.out _ (.inl h2); omega)
  have K2 := hid_mk (K0.out.trans (hK.mono fun k hk => .inl hk))
  clear hA hK c0 c1 c2 c3 c4 c5 c6 c7 c8 c9 w1s JS VS K0 D0 S1
  have c10 := D2.out.c 10 _ rfl
  have s2 := markE_row a.ea v.en a.ec r.E m hm0 (Int.le_trans hm1 (by decide)) _ hn3 V2.out
  rw [← HM2.out] at s2
  have S2 := hid_mk s2
  clear s2
  go_wp2_with fail
  refine S2.out.mono ?_
  rintro e w4 ⟨rfl, hV, hK⟩
  have V4 := hid_mk hV
  have A4 : Hid (AnsS a.ra a.wa a.ga v.rn v.wn v.gn (marksW k0 v.rn) (marksW (k0 + 6 * (v.rn : Int)) v.wn) (marksB (k0 + 6 * (v.rn : Int) + 6 * (v.wn : Int)) v.gn) w4) := (ansSF _ _ _ _ _ _ _ _ _).keep _ _ A2.out hK.size fun k hk ho => hK.block k hk fun h2 => d1.out k h2 ho
  have J4 : Hid (RowNA w4 a.ja v.jn r.J) := J2.out.ofBlock hK.size fun k hk ho => hK.block k hk fun h2 => (d2.out k ho).2 h2
  have D4 : Hid (Cel w4 w.heap.size (col v a)) := D2.out.ofBlock hK.size (hK.block _ D2.out.lt fun h2 => by have := hlt.out _ (.inr (.inl h2)); omega)
  have K4 := hid_mk (K2.out.trans (hK.mono fun k hk => .inr (.inl hk)))
  clear hV hK c10 S2 A2 J2 V2 D2 K2
  have c18 := D4.out.c 18 _ rfl
  have s3 := markN_row a.ja v.jn a.jc r.J m2 hp0 hp1 _ hn4 J4.out
  have S3 := hid_mk s3
  clear s3
  go_wp2_with fail
  refine S3.out.mono ?_
  rintro e w3 ⟨rfl, hJ, hK⟩
  have A3 : Hid (AnsS a.ra a.wa a.ga v.rn v.wn v.gn (marksW k0 v.rn) (marksW (k0 + 6 * (v.rn : Int)) v.wn) (marksB (k0 + 6 * (v.rn : Int) + 6 * (v.wn : Int)) v.gn) w3) := (ansSF _ _ _ _ _ _ _ _ _).keep _ _ A4.out hK.size fun k hk ho => hK.block k hk fun h2 => (d2.out k h2).1 ho
  have V3 : Hid (RowVA w3 a.ea v.en (marksE m v.en)) := V4.out.ofBlock hK.size fun k hk ho => hK.block k hk fun h2 => (d2.out k h2).2 ho
  have K3 := hid_mk (K4.out.trans (hK.mono fun k hk => .inr (.inr hk)))
  have J3 := hid_mk hJ
  clear hK hJ c18 S3 A4 K4 J4 D4 V4
  go_wp2
  go_ret
  exact ⟨rfl, ⟨A3.out, by rw [markG, ← HM.out]; exact V3.out, by rw [markG, ← HM.out, ← HM2.out]; exact J3.out, d1.out, d2.out⟩, K3.out⟩

set_option maxHeartbeats 4000000 in
theorem heldCore_any (v : Cv) (a : Ca) (k0 : Int) (h0 : 1 ≤ k0) (h1 : k0 + 6 * (v.rn : Int) + 6 * (v.wn : Int) ≤ 16777216) (hv : CvB v) (w : World) (h : AnsC v a (markG v k0) w) :
    Calls Tryz.prog 28 #[.agg (col v a).toArray, .int .i64 k0] w fun e w' => e = .returned (.int .i64 (k0 + 6 * (v.rn : Int) + 6 * (v.wn : Int) + (v.gn : Int) + 40 * (v.en : Int) + (v.jn : Int))) ∧ Below w.heap.size w w' := by
  have H : Hid (Hold w (w.alloc (.cells (col v a).toArray 64)) [celF w.heap.size (col v a), ansCF v a (markG v k0)]) := ((Hold.new w).push (ansCF v a (markG v k0)) h).box (col v a) 64 w.heap.size rfl
  have hn0 := hv.rn
  have hn1 := hv.wn
  have hn2 := hv.gn
  have hn3 := hv.en
  have hn4 := hv.jn
  obtain ⟨m, hm⟩ : ∃ m : Int, m = k0 + 6 * (v.rn : Int) + 6 * (v.wn : Int) + (v.gn : Int) := ⟨_, rfl⟩
  have hm0 : 1 ≤ m := by omega
  have hm1 : m ≤ 18874368 := by omega
  obtain ⟨m2, hm2⟩ : ∃ m2 : Int, m2 = m + 40 * (v.en : Int) := ⟨_, rfl⟩
  have hp0 : 1 ≤ m2 := by omega
  have hp1 : m2 ≤ 33554432 := by omega
  have s1 := fun w h => heldState_at a.ra v.rn a.rc v.pc a.wa v.wn a.wc a.ga v.gn a.gc v.t k0 h0 h1 hn0 hn1 hn2 w h
  rw [← hm] at s1 ⊢
  rw [← hm2]
  have HM2 := hid_mk hm2
  have S1 := hid_mk s1
  have HM := hid_mk hm
  have hj : Hid (∀ w, AnsC v a (markG v k0) w → RowNA w a.ja v.jn (marksN m2 v.jn)) := fun w h => by
    have := h.js
    rwa [markG, ← HM.out, ← HM2.out] at this
  have hj2 : Hid (∀ w, AnsC v a (markG v k0) w → RowVA w a.ea v.en (marksE m v.en)) := fun w h => by
    have := h.es
    rwa [markG, ← HM.out] at this
  clear s1 hm hm2 h1 h
  generalize hw1 : w.alloc (.cells (col v a).toArray 64) = w1 at H
  go_enter Tryz.func28, Tryz.ntmps28
  go_upto_region 1 with fail
  clear hw1
  have c0 := (H.out.cel (.head _)).c 0 _ rfl
  have c1 := (H.out.cel (.head _)).c 1 _ rfl
  have c2 := (H.out.cel (.head _)).c 2 _ rfl
  have c3 := (H.out.cel (.head _)).c 3 _ rfl
  have c4 := (H.out.cel (.head _)).c 4 _ rfl
  have c5 := (H.out.cel (.head _)).c 5 _ rfl
  have c6 := (H.out.cel (.head _)).c 6 _ rfl
  have c7 := (H.out.cel (.head _)).c 7 _ rfl
  have c8 := (H.out.cel (.head _)).c 8 _ rfl
  have c9 := (H.out.cel (.head _)).c 9 _ rfl
  go_wp2_with fail
  refine (S1.out _ ((H.out.ansC (.tail _ (.head _))).st.sts hn0 hn1 hn2)).mono ?_
  rintro e w2 ⟨rfl, hb⟩
  replace H := hid_mk (H.out.next hb)
  clear hb S1 c0 c1 c2 c3 c4 c5 c6 c7 c8 c9
  have c10 := (H.out.cel (.head _)).c 10 _ rfl
  have s2 := heldE_row a.ea v.en a.ec m hm0 (Int.le_trans hm1 (by decide)) _ hn3 (hj2.out _ (H.out.ansC (.tail _ (.head _))))
  rw [← HM2.out] at s2
  have S2 := hid_mk s2
  clear s2
  have hz1 : 0 ≤ m2 := by omega
  go_wp2_with fail
  refine S2.out.mono ?_
  rintro e w9 ⟨rfl, hb⟩
  replace H := hid_mk (H.out.next hb)
  clear hb c10 S2
  have c18 := (H.out.cel (.head _)).c 18 _ rfl
  have S3 := hid_mk (heldN_row a.ja v.jn a.jc m2 hp0 hp1 _ hn4 (hj.out _ (H.out.ansC (.tail _ (.head _)))))
  have hz0 : 0 ≤ m2 + (v.jn : Int) := by omega
  go_wp2_with fail
  refine S3.out.mono ?_
  rintro e w3 ⟨rfl, hb⟩
  have B := hid_mk (H.out.next hb).bel
  clear hb c18 S3 H hj
  go_wp2
  go_ret
  exact ⟨rfl, B.out⟩
end Go.Proofs.YtpkhnajhamnggaaGreatDoor
