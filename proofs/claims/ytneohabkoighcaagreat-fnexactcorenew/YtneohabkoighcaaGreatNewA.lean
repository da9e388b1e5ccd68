/- CoreNew of the specification and of the program at all states: what they answer. No condition but that the lists are no longer than a law lets them be. -/
import Derived.Test.YtneohabkoighcaaGreatQE
import Derived.Test.YtneohabkoighcaaGreatQH
import Derived.Test.YtneohabkoighcaaGreatQI
namespace Go.Proofs.YtneohabkoighcaaGreat
open Go.ChangeShapes Go.WideShapes Go.ChangeAt Go.RowKit
set_option maxRecDepth 100000

/-- A new core's plain values, its rows. -/
def newV (g : Bool) (x : Wd) (t : Int) : Cv := match g with
  | true => ⟨8, x, 24, 24, t, 0, x, false, 48⟩
  | false => ⟨0, wd0, 0, 0, 0, 0, wd0, false, 0⟩
def newRr (g : Bool) (R L : List Wd) (G : List Bool) : Cr := match g with
  | true => ⟨R, L, G, [], List.replicate 48 (-1)⟩
  | false => ⟨[], [], [], [], []⟩
theorem newV_b (g : Bool) (x : Wd) (t : Int) : CvB (newV g x t) := by cases g <;> exact ⟨by simp [newV], by simp [newV], by simp [newV], by simp [newV], by simp [newV]⟩
theorem sok_lens {R : List Wd} {x : Wd} {L : List Wd} {G : List Bool} {t : Int} (h : sokB R x L G t = true) : R.length = 8 ∧ L.length = 24 ∧ G.length = 24 := by
  have h1 := sok_parts h
  have h2 := mok_parts h1.2.2.2.1
  exact ⟨h1.1, h2.1, h2.2.1⟩

set_option maxHeartbeats 4000000 in
theorem specCoreNew_any (a : Option Addr) (n c : Nat) (x : Wd) (a1 : Option Addr) (n1 c1 : Nat) (a2 : Option Addr) (n2 c2 : Nat) (t : Int) (R L : List Wd) (G : List Bool) (w : World) (hS : StS w a n a1 n1 a2 n2 R L G) :
    Calls Tryz.prog 19 #[.agg #[.slice a n c, .int .i64 x.n, .bool x.i, .int .i64 x.b, .int .i64 x.t, .int .i64 x.p, .int .i64 x.s, .slice a1 n1 c1, .slice a2 n2 c2, .int .i64 t]] w fun e w' => ∃ a', e = .returned (.agg (col (newV (sokB R x L G t) x t) a').toArray) ∧ AnsC (newV (sokB R x L G t) x t) a' (newRr (sokB R x L G t) R L G) w' ∧ a'.ea = none ∧ (∀ k, OnC a' k → w.heap.size ≤ k) ∧ Below w.heap.size w w' := by
  have H : Hid (Hold w ((w.alloc (.cells (stl a n c x a1 n1 c1 a2 n2 c2 t).toArray 33)).alloc (.cells ([.slice none 0 0, .int .i64 0, .bool false, .int .i64 0, .int .i64 0, .int .i64 0, .int .i64 0, .slice none 0 0, .slice none 0 0, .int .i64 0, .slice none 0 0, .int .i64 0, .bool false, .int .i64 0, .int .i64 0, .int .i64 0, .int .i64 0, .bool false, .slice none 0 0] : List Value).toArray 37)) [celF (w.heap.size + 1) [.slice none 0 0, .int .i64 0, .bool false, .int .i64 0, .int .i64 0, .int .i64 0, .int .i64 0, .slice none 0 0, .slice none 0 0, .int .i64 0, .slice none 0 0, .int .i64 0, .bool false, .int .i64 0, .int .i64 0, .int .i64 0, .int .i64 0, .bool false, .slice none 0 0], celF w.heap.size (stl a n c x a1 n1 c1 a2 n2 c2 t), argSF w.heap.size a n a1 n1 a2 n2 R L G]) := (((Hold.new w).push (argSF w.heap.size a n a1 n1 a2 n2 R L G) hS.arg).box (stl a n c x a1 n1 c1 a2 n2 c2 t) 33 w.heap.size rfl).box [.slice none 0 0, .int .i64 0, .bool false, .int .i64 0, .int .i64 0, .int .i64 0, .int .i64 0, .slice none 0 0, .slice none 0 0, .int .i64 0, .slice none 0 0, .int .i64 0, .bool false, .int .i64 0, .int .i64 0, .int .i64 0, .int .i64 0, .bool false, .slice none 0 0] 37 (w.heap.size + 1) (by simp)
  have l0 := hS.rs.2.1
  have l1 := hS.mem.ws.2.1
  have l2 := hS.mem.gs.2.1
  have s1 := fun w h => specStateOk_any a n c x a1 n1 c1 a2 n2 c2 t R L G w h
  have hg0 := @sok_lens R x L G t
  obtain ⟨g, hg⟩ : ∃ g, Hid (sokB R x L G t = g) := ⟨_, rfl⟩
  rw [hg.out] at s1 hg0 ⊢
  have S1 := hid_mk s1
  clear hS s1 hg
  obtain ⟨Q, HQ, HQ2⟩ : ∃ Q : Ending → World → Prop, Hid (∀ a' w', AnsC (newV g x t) a' (newRr g R L G) w' → a'.ea = none → (∀ k, OnC a' k → w.heap.size ≤ k) → Below w.heap.size w w' → Q (.returned (.agg (col (newV g x t) a').toArray)) w') ∧ (∀ e w', Q e w' → ∃ a', e = .returned (.agg (col (newV g x t) a').toArray) ∧ AnsC (newV g x t) a' (newRr g R L G) w' ∧ a'.ea = none ∧ (∀ k, OnC a' k → w.heap.size ≤ k) ∧ Below w.heap.size w w') :=
    ⟨fun e w' => ∃ a', e = .returned (.agg (col (newV g x t) a').toArray) ∧ AnsC (newV g x t) a' (newRr g R L G) w' ∧ a'.ea = none ∧ (∀ k, OnC a' k → w.heap.size ≤ k) ∧ Below w.heap.size w w', fun a' w' h1 h0 h2 h3 => ⟨a', rfl, h1, h0, h2, h3⟩, fun _ _ h => h⟩
  refine Calls.mono (R := Q) ?_ HQ2
  clear HQ2
  generalize hw1 : (w.alloc (.cells (stl a n c x a1 n1 c1 a2 n2 c2 t).toArray 33)).alloc (.cells ([.slice none 0 0, .int .i64 0, .bool false, .int .i64 0, .int .i64 0, .int .i64 0, .int .i64 0, .slice none 0 0, .slice none 0 0, .int .i64 0, .slice none 0 0, .int .i64 0, .bool false, .int .i64 0, .int .i64 0, .int .i64 0, .int .i64 0, .bool false, .slice none 0 0] : List Value).toArray 37) = w1 at H
  go_enter Tryz.func19, Tryz.ntmps19
  go_upto_region 1 with fail
  clear hw1
  obtain ⟨m0, m1, m2, m3, m4, m5, m6, m7, m8, m9⟩ := (H.out.cel (.tail _ (.head _))).c10
  cases g
  · go_upto_region 2 with (go_at_call 45; refine (S1.out _ (H.out.argS (.tail _ (.tail _ (.head _))))).mono ?_; rintro e w2 ⟨rfl, hb⟩)
    replace H := hid_mk (H.out.next hb)
    clear hb S1 m0 m1 m2 m3 m4 m5 m6 m7 m8 m9
    have C9 := hid_mk (H.out.cel (.head _))
    have C2 := hid_mk (C9.out.sets (us := [.slice none 0 0, .int .i64 0, .bool false, .int .i64 0, .int .i64 0, .int .i64 0, .int .i64 0, .slice none 0 0, .slice none 0 0, .int .i64 0, .slice none 0 0, .int .i64 0, .bool false, .int .i64 0, .int .i64 0, .int .i64 0, .int .i64 0, .bool false, .slice none 0 0]) rfl)
    have B2 := hid_mk (below_sets [.slice none 0 0, .int .i64 0, .bool false, .int .i64 0, .int .i64 0, .int .i64 0, .int .i64 0, .slice none 0 0, .slice none 0 0, .int .i64 0, .slice none 0 0, .int .i64 0, .bool false, .int .i64 0, .int .i64 0, .int .i64 0, .int .i64 0, .bool false, .slice none 0 0] H.out.bel (r := w.heap.size + 1) (by omega))
    have hlv : Hid ((loadVar 37 ⟨w.heap.size + 1, 0, none⟩).run Tryz.prog (w2.setCells (w.heap.size + 1) 0 [.slice none 0 0, .int .i64 0, .bool false, .int .i64 0, .int .i64 0, .int .i64 0, .int .i64 0, .slice none 0 0, .slice none 0 0, .int .i64 0, .slice none 0 0, .int .i64 0, .bool false, .int .i64 0, .int .i64 0, .int .i64 0, .int .i64 0, .bool false, .slice none 0 0]) = .ok (.agg (col (newV false x t) ⟨none, 0, none, 0, none, 0, none, 0, none, 0⟩).toArray) (w2.setCells (w.heap.size + 1) 0 [.slice none 0 0, .int .i64 0, .bool false, .int .i64 0, .int .i64 0, .int .i64 0, .int .i64 0, .slice none 0 0, .slice none 0 0, .int .i64 0, .slice none 0 0, .int .i64 0, .bool false, .int .i64 0, .int .i64 0, .int .i64 0, .int .i64 0, .bool false, .slice none 0 0])) := lv_cor C2.out.range
    clear H
    go_wp2_with (refine wpList_store_mid (by rfl) 37 _ _ (by rfl) (w.heap.size + 1) 0 ([.slice none 0 0, .int .i64 0, .bool false, .int .i64 0, .int .i64 0, .int .i64 0, .int .i64 0, .slice none 0 0, .slice none 0 0, .int .i64 0, .slice none 0 0, .int .i64 0, .bool false, .int .i64 0, .int .i64 0, .int .i64 0, .int .i64 0, .bool false, .slice none 0 0] : List Value).toArray (by rfl) (by rfl) C9.out.there sizeCor (col_one (newV false x t) ⟨none, 0, none, 0, none, 0, none, 0, none, 0⟩) ?_)
    refine bodyPost_ret (v := .agg (col (newV false x t) ⟨none, 0, none, 0, none, 0, none, 0, none, 0⟩).toArray) (results_cell1 Tryz.results19 (by rfl) hlv.out) rfl (HQ.out ⟨none, 0, none, 0, none, 0, none, 0, none, 0⟩ _ ?_ rfl ?_ B2.out)
    · exact ⟨⟨.inl ⟨rfl, rfl, rfl⟩, .inl ⟨rfl, rfl, rfl⟩, .inl ⟨rfl, rfl, rfl⟩, fun k h => absurd h (on_none k), fun k h => absurd h (on_none k), fun k h => absurd h (on_none k)⟩, .inl ⟨rfl, rfl, rfl⟩, .inl ⟨rfl, rfl, rfl⟩, fun k h => absurd h (on_none k), fun k h => absurd h (on_none k)⟩
    · intro k hk
      rcases hk with (hk | hk | hk) | hk | hk <;> exact absurd hk (on_none k)
  · obtain ⟨e0, e1, e2⟩ := hg0 rfl
    obtain rfl : n = 8 := l0.symm.trans e0
    obtain rfl : n1 = 24 := l1.symm.trans e1
    obtain rfl : n2 = 24 := l2.symm.trans e2
    clear l0 l1 l2 e0 e1 e2 hg0
    go_upto_region 3 with (go_at_call 45; refine (S1.out _ (H.out.argS (.tail _ (.tail _ (.head _))))).mono ?_; rintro e w2 ⟨rfl, hb⟩)
    replace H := hid_mk (H.out.next hb)
    clear hb S1 m0 m1 m2 m3 m4 m5 m6 m7 m8 m9
    have D0 := hid_mk H.out.drew
    refine wp_region_held_drew (S := fun w' => Hold w w' [celF w.heap.size (stl a 8 c x a1 24 c1 a2 24 c2 t), argSF w.heap.size a 8 a1 24 a2 24 R L G]) (by kernel_rfl) D0.out.tail (fun hHeld => ?_)
    generalize (World.drew _) = wd at D0 hHeld ⊢
    clear H
    refine take_on (i := 0) (d := 7) (v := .agg #[.slice a 8 c, .int .i64 x.n, .bool x.i, .int .i64 x.b, .int .i64 x.t, .int .i64 x.p, .int .i64 x.s, .slice a1 24 c1, .slice a2 24 c2, .int .i64 t]) rfl rfl (by kernel_rfl) (by kernel_rfl) (by kernel_rfl) (fun _ _ _ h => h) (by rfl) ?_ hHeld ?_
    · (intro w' hSw; have cc0 := ((show Hold w w' [celF w.heap.size (stl a 8 c x a1 24 c1 a2 24 c2 t), argSF w.heap.size a 8 a1 24 a2 24 R L G] from hSw).cel (.head _)).c 0 _ rfl; have cc1 := ((show Hold w w' [celF w.heap.size (stl a 8 c x a1 24 c1 a2 24 c2 t), argSF w.heap.size a 8 a1 24 a2 24 R L G] from hSw).cel (.head _)).c 1 _ rfl; have cc2 := ((show Hold w w' [celF w.heap.size (stl a 8 c x a1 24 c1 a2 24 c2 t), argSF w.heap.size a 8 a1 24 a2 24 R L G] from hSw).cel (.head _)).c 2 _ rfl; have cc3 := ((show Hold w w' [celF w.heap.size (stl a 8 c x a1 24 c1 a2 24 c2 t), argSF w.heap.size a 8 a1 24 a2 24 R L G] from hSw).cel (.head _)).c 3 _ rfl; have cc4 := ((show Hold w w' [celF w.heap.size (stl a 8 c x a1 24 c1 a2 24 c2 t), argSF w.heap.size a 8 a1 24 a2 24 R L G] from hSw).cel (.head _)).c 4 _ rfl; have cc5 := ((show Hold w w' [celF w.heap.size (stl a 8 c x a1 24 c1 a2 24 c2 t), argSF w.heap.size a 8 a1 24 a2 24 R L G] from hSw).cel (.head _)).c 5 _ rfl; have cc6 := ((show Hold w w' [celF w.heap.size (stl a 8 c x a1 24 c1 a2 24 c2 t), argSF w.heap.size a 8 a1 24 a2 24 R L G] from hSw).cel (.head _)).c 6 _ rfl; have cc7 := ((show Hold w w' [celF w.heap.size (stl a 8 c x a1 24 c1 a2 24 c2 t), argSF w.heap.size a 8 a1 24 a2 24 R L G] from hSw).cel (.head _)).c 7 _ rfl; have cc8 := ((show Hold w w' [celF w.heap.size (stl a 8 c x a1 24 c1 a2 24 c2 t), argSF w.heap.size a 8 a1 24 a2 24 R L G] from hSw).cel (.head _)).c 8 _ rfl; have cc9 := ((show Hold w w' [celF w.heap.size (stl a 8 c x a1 24 c1 a2 24 c2 t), argSF w.heap.size a 8 a1 24 a2 24 R L G] from hSw).cel (.head _)).c 9 _ rfl; go_simp)
    (try simp only [Act.put]); (try simp only [List.setIfInBounds_toArray]); (try simp only [List.set_cons_succ]); (try simp only [List.set_cons_zero]); (try simp only [List.set_cons_succ]); (try simp only [List.set_cons_zero]); (try simp only [Nat.zero_add])
    refine take_on (i := 2) (d := 9) (v := .pointer (some ⟨w.heap.size, 1, none⟩)) rfl rfl (by kernel_rfl) (by kernel_rfl) (by kernel_rfl) (fun _ _ _ h => h) (by rfl) ?_ hHeld ?_
    · (intro w' hSw; go_simp)
    (try simp only [Act.put]); (try simp only [List.setIfInBounds_toArray]); (try simp only [List.set_cons_succ]); (try simp only [List.set_cons_zero]); (try simp only [List.set_cons_succ]); (try simp only [List.set_cons_zero]); (try simp only [Nat.zero_add])
    refine take_on (i := 3) (d := 10) (v := .agg #[.int .i64 x.n, .bool x.i, .int .i64 x.b, .int .i64 x.t, .int .i64 x.p, .int .i64 x.s]) rfl rfl (by kernel_rfl) (by kernel_rfl) (by kernel_rfl) (fun _ _ _ h => h) (by rfl) ?_ hHeld ?_
    · (intro w' hSw; have cc0 := ((show Hold w w' [celF w.heap.size (stl a 8 c x a1 24 c1 a2 24 c2 t), argSF w.heap.size a 8 a1 24 a2 24 R L G] from hSw).cel (.head _)).c 1 _ rfl; have cc1 := ((show Hold w w' [celF w.heap.size (stl a 8 c x a1 24 c1 a2 24 c2 t), argSF w.heap.size a 8 a1 24 a2 24 R L G] from hSw).cel (.head _)).c 2 _ rfl; have cc2 := ((show Hold w w' [celF w.heap.size (stl a 8 c x a1 24 c1 a2 24 c2 t), argSF w.heap.size a 8 a1 24 a2 24 R L G] from hSw).cel (.head _)).c 3 _ rfl; have cc3 := ((show Hold w w' [celF w.heap.size (stl a 8 c x a1 24 c1 a2 24 c2 t), argSF w.heap.size a 8 a1 24 a2 24 R L G] from hSw).cel (.head _)).c 4 _ rfl; have cc4 := ((show Hold w w' [celF w.heap.size (stl a 8 c x a1 24 c1 a2 24 c2 t), argSF w.heap.size a 8 a1 24 a2 24 R L G] from hSw).cel (.head _)).c 5 _ rfl; have cc5 := ((show Hold w w' [celF w.heap.size (stl a 8 c x a1 24 c1 a2 24 c2 t), argSF w.heap.size a 8 a1 24 a2 24 R L G] from hSw).cel (.head _)).c 6 _ rfl; go_simp)
    (try simp only [Act.put]); (try simp only [List.setIfInBounds_toArray]); (try simp only [List.set_cons_succ]); (try simp only [List.set_cons_zero]); (try simp only [List.set_cons_succ]); (try simp only [List.set_cons_zero]); (try simp only [Nat.zero_add])
    refine wpAnyH_ready (rs := [1]) (by kernel_rfl) (by simp) ?_
    refine AllReadyH.cons rfl (fun K hK => ?_) AllReadyH.nil
    go_simp
    refine (l9Copy_any a c x a1 c1 a2 c2 t R L G _ (D0.out.argS (.tail _ (.tail _ (.head _))))).mono ?_
    rintro e w3 ⟨b, d, b1, d1, b2, d2, rfl, _, hA, hF, hb⟩
    have lA := hid_mk (fun k hk => hA.lt (k := k) hk)
    have fA := hid_mk hF
    have zr := (D0.out.cel (.head _)).lt
    have z3 := hb.size
    have H3 := hid_mk ((D0.out.next hb).push (ansSF b b1 b2 8 24 24 R L G) hA)
    clear hb hA hF
    refine hK.out _ _ H3.out.tail.tail (fun hHeld => ?_)
    clear hK K
    (try simp only [Act.put]); (try simp only [List.setIfInBounds_toArray]); (try simp only [List.set_cons_succ]); (try simp only [List.set_cons_zero]); (try simp only [List.set_cons_succ]); (try simp only [List.set_cons_zero]); (try simp only [Nat.zero_add])
    refine wpAnyH_ready (rs := [4]) (by kernel_rfl) (by simp) ?_
    refine AllReadyH.cons rfl (fun K hK => ?_) AllReadyH.nil
    go_simp
    refine (specGuessNew_any _).mono ?_
    rintro e w4 ⟨q, cq, rfl, hq, hI, hb⟩
    have H4 := hid_mk ((H3.out.next hb).push (intF q 48 (List.replicate 48 (-1))) hI)
    have z4 := hb.size
    clear hb hI
    refine hK.out _ _ H4.out.tail.tail.tail (fun hHeld => ?_)
    clear hK K
    (try simp only [Act.put]); (try simp only [List.setIfInBounds_toArray]); (try simp only [List.set_cons_succ]); (try simp only [List.set_cons_zero]); (try simp only [List.set_cons_succ]); (try simp only [List.set_cons_zero]); (try simp only [Nat.zero_add])
    refine take_on (i := 5) (d := 12) (v := .agg #[.slice b 8 d, .int .i64 x.n, .bool x.i, .int .i64 x.b, .int .i64 x.t, .int .i64 x.p, .int .i64 x.s, .slice b1 24 d1, .slice b2 24 d2, .int .i64 t, .slice none 0 0, .int .i64 x.n, .bool x.i, .int .i64 x.b, .int .i64 x.t, .int .i64 x.p, .int .i64 x.s, .bool false, .slice (some ⟨q, 0, none⟩) 48 cq]) rfl rfl (by kernel_rfl) (by kernel_rfl) (by kernel_rfl) (fun _ _ _ h => h) (by rfl) ?_ hHeld ?_
    · (intro w' hSw; go_simp)
    (try simp only [Act.put]); (try simp only [List.setIfInBounds_toArray]); (try simp only [List.set_cons_succ]); (try simp only [List.set_cons_zero]); (try simp only [List.set_cons_succ]); (try simp only [List.set_cons_zero]); (try simp only [Nat.zero_add])
    obtain ⟨a', HA⟩ : ∃ a' : Ca, Hid (a' = ⟨b, d, b1, d1, b2, d2, none, 0, some ⟨q, 0, none⟩, cq⟩) := ⟨_, rfl⟩
    have hco : (.agg #[.slice b 8 d, .int .i64 x.n, .bool x.i, .int .i64 x.b, .int .i64 x.t, .int .i64 x.p, .int .i64 x.s, .slice b1 24 d1, .slice b2 24 d2, .int .i64 t, .slice none 0 0, .int .i64 x.n, .bool x.i, .int .i64 x.b, .int .i64 x.t, .int .i64 x.p, .int .i64 x.s, .bool false, .slice (some ⟨q, 0, none⟩) 48 cq] : Value) = .agg (col (newV true x t) a').toArray := by rw [HA.out]; rfl
    rw [hco]
    have C9 := hid_mk (H4.out.cel (.tail _ (.tail _ (.head _))))
    have C2 := hid_mk (C9.out.sets (us := col (newV true x t) a') rfl)
    have B2 := hid_mk (below_sets (col (newV true x t) a') H4.out.bel (r := w.heap.size + 1) (by omega))
    have hlv := hid_mk (lv_cor C2.out.range)
    have hRS := (KeptS.ofBut (T := fun k => k = w.heap.size + 1) (KeepBut.setCells (b := w.heap.size + 1) (col (newV true x t) a') 0 w4) rfl)
    have G8 : Hid (Hold w (w4.setCells (w.heap.size + 1) 0 (col (newV true x t) a')) [intF q 48 (List.replicate 48 (-1)), ansSF b b1 b2 8 24 24 R L G, celF w.heap.size (stl a 8 c x a1 24 c1 a2 24 c2 t), argSF w.heap.size a 8 a1 24 a2 24 R L G]) :=
      (H4.out.sub (fun f hf => by
        simp only [List.mem_cons, List.not_mem_nil, or_false] at hf ⊢
        rcases hf with rfl | rfl | rfl | rfl
        · exact .inl rfl
        · exact .inr (.inl rfl)
        · exact .inr (.inr (.inr (.inl rfl)))
        · exact .inr (.inr (.inr (.inr rfl))))).wrote hRS (fun k e => by omega) (fun f hf k hk e => by
        simp only [List.mem_cons, List.not_mem_nil, or_false] at hf
        rcases hf with rfl | rfl | rfl | rfl
        · simp only [intF] at hk; omega
        · have := fA.out k hk; omega
        · simp only [celF] at hk; omega
        · simp only [argSF] at hk; omega)
    clear hRS
    have hI : (intF q 48 (List.replicate 48 (-1))).p (w4.setCells (w.heap.size + 1) 0 (col (newV true x t) a')) := G8.out.at (.head _)
    have hAs : (ansSF b b1 b2 8 24 24 R L G).p (w4.setCells (w.heap.size + 1) 0 (col (newV true x t) a')) := G8.out.at (.tail _ (.head _))
    have ANS : Hid (AnsC (newV true x t) a' (newRr true R L G) (w4.setCells (w.heap.size + 1) 0 (col (newV true x t) a'))) := by
      generalize w4.setCells (w.heap.size + 1) 0 (col (newV true x t) a') = w9 at hI hAs ⊢
      rw [HA.out]
      exact ⟨hAs, .inl ⟨rfl, rfl, rfl⟩, .inr ⟨q, rfl, hI.2, hI.1⟩, fun k hk => absurd hk (on_none k),
        fun k hk => ⟨fun h2 => by have := (on_some q k).1 hk; have := lA.out k h2; omega, fun h2 => on_none k h2⟩⟩
    have EA : Hid (a'.ea = none) := by rw [HA.out]; exact hid_mk rfl
    have FR : Hid (∀ k, OnC a' k → w.heap.size ≤ k) := fun k hk => by
      rw [HA.out] at hk
      rcases hk with hk | hk | hk
      · have := fA.out k hk; omega
      · exact absurd hk (on_none k)
      · have := (on_some q k).1 hk; omega
    refine wpAnyH_ready (rs := [6]) (by kernel_rfl) (by simp) ?_
    refine AllReadyH.cons rfl (fun K hK => ?_) AllReadyH.nil
    refine step_stm (by rfl) 37 _ _ (by rfl) (w.heap.size + 1) 0 (col (newV true x t) a').toArray (by rfl) (by rfl) C9.out.there sizeCor (col_one _ _) ?_
    refine hK.out _ _ G8.out.tail.tail (fun hHeld => ?_)
    clear hK K
    refine wpAnyH_done (by kernel_rfl) ?_ _
    clear hHeld G8 H4 H3 D0 HA hco hI hAs lA fA C9 C2
    go_wp2
    refine bodyPost_ret (v := .agg (col (newV true x t) a').toArray) (results_cell1 Tryz.results19 (by rfl) hlv.out) rfl (HQ.out a' _ ANS.out EA.out FR.out B2.out)

set_option maxHeartbeats 4000000 in
theorem implCoreNew_any (a : Option Addr) (n c : Nat) (x : Wd) (a1 : Option Addr) (n1 c1 : Nat) (a2 : Option Addr) (n2 c2 : Nat) (t : Int) (R L : List Wd) (G : List Bool) (w : World) (hS : StS w a n a1 n1 a2 n2 R L G) :
    Calls Tryz.prog 14 #[.agg #[.slice a n c, .int .i64 x.n, .bool x.i, .int .i64 x.b, .int .i64 x.t, .int .i64 x.p, .int .i64 x.s, .slice a1 n1 c1, .slice a2 n2 c2, .int .i64 t]] w fun e w' => ∃ a', e = .returned (.agg (col (newV (sokB R x L G t) x t) a').toArray) ∧ AnsC (newV (sokB R x L G t) x t) a' (newRr (sokB R x L G t) R L G) w' ∧ a'.ea = none ∧ (∀ k, OnC a' k → w.heap.size ≤ k) ∧ Below w.heap.size w w' := by
  have H : Hid (Hold w ((w.alloc (.cells (stl a n c x a1 n1 c1 a2 n2 c2 t).toArray 33)).alloc (.cells ([.slice none 0 0, .int .i64 0, .bool false, .int .i64 0, .int .i64 0, .int .i64 0, .int .i64 0, .slice none 0 0, .slice none 0 0, .int .i64 0, .slice none 0 0, .int .i64 0, .bool false, .int .i64 0, .int .i64 0, .int .i64 0, .int .i64 0, .bool false, .slice none 0 0] : List Value).toArray 37)) [celF (w.heap.size + 1) [.slice none 0 0, .int .i64 0, .bool false, .int .i64 0, .int .i64 0, .int .i64 0, .int .i64 0, .slice none 0 0, .slice none 0 0, .int .i64 0, .slice none 0 0, .int .i64 0, .bool false, .int .i64 0, .int .i64 0, .int .i64 0, .int .i64 0, .bool false, .slice none 0 0], celF w.heap.size (stl a n c x a1 n1 c1 a2 n2 c2 t), argSF w.heap.size a n a1 n1 a2 n2 R L G]) := (((Hold.new w).push (argSF w.heap.size a n a1 n1 a2 n2 R L G) hS.arg).box (stl a n c x a1 n1 c1 a2 n2 c2 t) 33 w.heap.size rfl).box [.slice none 0 0, .int .i64 0, .bool false, .int .i64 0, .int .i64 0, .int .i64 0, .int .i64 0, .slice none 0 0, .slice none 0 0, .int .i64 0, .slice none 0 0, .int .i64 0, .bool false, .int .i64 0, .int .i64 0, .int .i64 0, .int .i64 0, .bool false, .slice none 0 0] 37 (w.heap.size + 1) (by simp)
  have l0 := hS.rs.2.1
  have l1 := hS.mem.ws.2.1
  have l2 := hS.mem.gs.2.1
  have s1 := fun w h => implStateOk_any a n c x a1 n1 c1 a2 n2 c2 t R L G w h
  have hg0 := @sok_lens R x L G t
  obtain ⟨g, hg⟩ : ∃ g, Hid (sokB R x L G t = g) := ⟨_, rfl⟩
  rw [hg.out] at s1 hg0 ⊢
  have S1 := hid_mk s1
  clear hS s1 hg
  obtain ⟨Q, HQ, HQ2⟩ : ∃ Q : Ending → World → Prop, Hid (∀ a' w', AnsC (newV g x t) a' (newRr g R L G) w' → a'.ea = none → (∀ k, OnC a' k → w.heap.size ≤ k) → Below w.heap.size w w' → Q (.returned (.agg (col (newV g x t) a').toArray)) w') ∧ (∀ e w', Q e w' → ∃ a', e = .returned (.agg (col (newV g x t) a').toArray) ∧ AnsC (newV g x t) a' (newRr g R L G) w' ∧ a'.ea = none ∧ (∀ k, OnC a' k → w.heap.size ≤ k) ∧ Below w.heap.size w w') :=
    ⟨fun e w' => ∃ a', e = .returned (.agg (col (newV g x t) a').toArray) ∧ AnsC (newV g x t) a' (newRr g R L G) w' ∧ a'.ea = none ∧ (∀ k, OnC a' k → w.heap.size ≤ k) ∧ Below w.heap.size w w', fun a' w' h1 h0 h2 h3 => ⟨a', rfl, h1, h0, h2, h3⟩, fun _ _ h => h⟩
  refine Calls.mono (R := Q) ?_ HQ2
  clear HQ2
  generalize hw1 : (w.alloc (.cells (stl a n c x a1 n1 c1 a2 n2 c2 t).toArray 33)).alloc (.cells ([.slice none 0 0, .int .i64 0, .bool false, .int .i64 0, .int .i64 0, .int .i64 0, .int .i64 0, .slice none 0 0, .slice none 0 0, .int .i64 0, .slice none 0 0, .int .i64 0, .bool false, .int .i64 0, .int .i64 0, .int .i64 0, .int .i64 0, .bool false, .slice none 0 0] : List Value).toArray 37) = w1 at H
  go_enter Tryz.func14, Tryz.ntmps14
  go_upto_region 1 with fail
  clear hw1
  obtain ⟨m0, m1, m2, m3, m4, m5, m6, m7, m8, m9⟩ := (H.out.cel (.tail _ (.head _))).c10
  cases g
  · go_upto_region 2 with (go_at_call 17; refine (S1.out _ (H.out.argS (.tail _ (.tail _ (.head _))))).mono ?_; rintro e w2 ⟨rfl, hb⟩)
    replace H := hid_mk (H.out.next hb)
    clear hb S1 m0 m1 m2 m3 m4 m5 m6 m7 m8 m9
    have C9 := hid_mk (H.out.cel (.head _))
    have C2 := hid_mk (C9.out.sets (us := [.slice none 0 0, .int .i64 0, .bool false, .int .i64 0, .int .i64 0, .int .i64 0, .int .i64 0, .slice none 0 0, .slice none 0 0, .int .i64 0, .slice none 0 0, .int .i64 0, .bool false, .int .i64 0, .int .i64 0, .int .i64 0, .int .i64 0, .bool false, .slice none 0 0]) rfl)
    have B2 := hid_mk (below_sets [.slice none 0 0, .int .i64 0, .bool false, .int .i64 0, .int .i64 0, .int .i64 0, .int .i64 0, .slice none 0 0, .slice none 0 0, .int .i64 0, .slice none 0 0, .int .i64 0, .bool false, .int .i64 0, .int .i64 0, .int .i64 0, .int .i64 0, .bool false, .slice none 0 0] H.out.bel (r := w.heap.size + 1) (by omega))
    have hlv : Hid ((loadVar 37 ⟨w.heap.size + 1, 0, none⟩).run Tryz.prog (w2.setCells (w.heap.size + 1) 0 [.slice none 0 0, .int .i64 0, .bool false, .int .i64 0, .int .i64 0, .int .i64 0, .int .i64 0, .slice none 0 0, .slice none 0 0, .int .i64 0, .slice none 0 0, .int .i64 0, .bool false, .int .i64 0, .int .i64 0, .int .i64 0, .int .i64 0, .bool false, .slice none 0 0]) = .ok (.agg (col (newV false x t) ⟨none, 0, none, 0, none, 0, none, 0, none, 0⟩).toArray) (w2.setCells (w.heap.size + 1) 0 [.slice none 0 0, .int .i64 0, .bool false, .int .i64 0, .int .i64 0, .int .i64 0, .int .i64 0, .slice none 0 0, .slice none 0 0, .int .i64 0, .slice none 0 0, .int .i64 0, .bool false, .int .i64 0, .int .i64 0, .int .i64 0, .int .i64 0, .bool false, .slice none 0 0])) := lv_cor C2.out.range
    clear H
    go_wp2_with (refine wpList_store_mid (by rfl) 37 _ _ (by rfl) (w.heap.size + 1) 0 ([.slice none 0 0, .int .i64 0, .bool false, .int .i64 0, .int .i64 0, .int .i64 0, .int .i64 0, .slice none 0 0, .slice none 0 0, .int .i64 0, .slice none 0 0, .int .i64 0, .bool false, .int .i64 0, .int .i64 0, .int .i64 0, .int .i64 0, .bool false, .slice none 0 0] : List Value).toArray (by rfl) (by rfl) C9.out.there sizeCor (col_one (newV false x t) ⟨none, 0, none, 0, none, 0, none, 0, none, 0⟩) ?_)
    refine bodyPost_ret (v := .agg (col (newV false x t) ⟨none, 0, none, 0, none, 0, none, 0, none, 0⟩).toArray) (results_cell1 Tryz.results14 (by rfl) hlv.out) rfl (HQ.out ⟨none, 0, none, 0, none, 0, none, 0, none, 0⟩ _ ?_ rfl ?_ B2.out)
    · exact ⟨⟨.inl ⟨rfl, rfl, rfl⟩, .inl ⟨rfl, rfl, rfl⟩, .inl ⟨rfl, rfl, rfl⟩, fun k h => absurd h (on_none k), fun k h => absurd h (on_none k), fun k h => absurd h (on_none k)⟩, .inl ⟨rfl, rfl, rfl⟩, .inl ⟨rfl, rfl, rfl⟩, fun k h => absurd h (on_none k), fun k h => absurd h (on_none k)⟩
    · intro k hk
      rcases hk with (hk | hk | hk) | hk | hk <;> exact absurd hk (on_none k)
  · obtain ⟨e0, e1, e2⟩ := hg0 rfl
    obtain rfl : n = 8 := l0.symm.trans e0
    obtain rfl : n1 = 24 := l1.symm.trans e1
    obtain rfl : n2 = 24 := l2.symm.trans e2
    clear l0 l1 l2 e0 e1 e2 hg0
    go_upto_region 3 with (go_at_call 17; refine (S1.out _ (H.out.argS (.tail _ (.tail _ (.head _))))).mono ?_; rintro e w2 ⟨rfl, hb⟩)
    replace H := hid_mk (H.out.next hb)
    clear hb S1 m0 m1 m2 m3 m4 m5 m6 m7 m8 m9
    have D0 := hid_mk H.out.drew
    refine wp_region_held_drew (S := fun w' => Hold w w' [celF w.heap.size (stl a 8 c x a1 24 c1 a2 24 c2 t), argSF w.heap.size a 8 a1 24 a2 24 R L G]) (by kernel_rfl) D0.out.tail (fun hHeld => ?_)
    generalize (World.drew _) = wd at D0 hHeld ⊢
    clear H
    refine take_on (i := 0) (d := 7) (v := .agg #[.slice a 8 c, .int .i64 x.n, .bool x.i, .int .i64 x.b, .int .i64 x.t, .int .i64 x.p, .int .i64 x.s, .slice a1 24 c1, .slice a2 24 c2, .int .i64 t]) rfl rfl (by kernel_rfl) (by kernel_rfl) (by kernel_rfl) (fun _ _ _ h => h) (by rfl) ?_ hHeld ?_
    · (intro w' hSw; have cc0 := ((show Hold w w' [celF w.heap.size (stl a 8 c x a1 24 c1 a2 24 c2 t), argSF w.heap.size a 8 a1 24 a2 24 R L G] from hSw).cel (.head _)).c 0 _ rfl; have cc1 := ((show Hold w w' [celF w.heap.size (stl a 8 c x a1 24 c1 a2 24 c2 t), argSF w.heap.size a 8 a1 24 a2 24 R L G] from hSw).cel (.head _)).c 1 _ rfl; have cc2 := ((show Hold w w' [celF w.heap.size (stl a 8 c x a1 24 c1 a2 24 c2 t), argSF w.heap.size a 8 a1 24 a2 24 R L G] from hSw).cel (.head _)).c 2 _ rfl; have cc3 := ((show Hold w w' [celF w.heap.size (stl a 8 c x a1 24 c1 a2 24 c2 t), argSF w.heap.size a 8 a1 24 a2 24 R L G] from hSw).cel (.head _)).c 3 _ rfl; have cc4 := ((show Hold w w' [celF w.heap.size (stl a 8 c x a1 24 c1 a2 24 c2 t), argSF w.heap.size a 8 a1 24 a2 24 R L G] from hSw).cel (.head _)).c 4 _ rfl; have cc5 := ((show Hold w w' [celF w.heap.size (stl a 8 c x a1 24 c1 a2 24 c2 t), argSF w.heap.size a 8 a1 24 a2 24 R L G] from hSw).cel (.head _)).c 5 _ rfl; have cc6 := ((show Hold w w' [celF w.heap.size (stl a 8 c x a1 24 c1 a2 24 c2 t), argSF w.heap.size a 8 a1 24 a2 24 R L G] from hSw).cel (.head _)).c 6 _ rfl; have cc7 := ((show Hold w w' [celF w.heap.size (stl a 8 c x a1 24 c1 a2 24 c2 t), argSF w.heap.size a 8 a1 24 a2 24 R L G] from hSw).cel (.head _)).c 7 _ rfl; have cc8 := ((show Hold w w' [celF w.heap.size (stl a 8 c x a1 24 c1 a2 24 c2 t), argSF w.heap.size a 8 a1 24 a2 24 R L G] from hSw).cel (.head _)).c 8 _ rfl; have cc9 := ((show Hold w w' [celF w.heap.size (stl a 8 c x a1 24 c1 a2 24 c2 t), argSF w.heap.size a 8 a1 24 a2 24 R L G] from hSw).cel (.head _)).c 9 _ rfl; go_simp)
    (try simp only [Act.put]); (try simp only [List.setIfInBounds_toArray]); (try simp only [List.set_cons_succ]); (try simp only [List.set_cons_zero]); (try simp only [List.set_cons_succ]); (try simp only [List.set_cons_zero]); (try simp only [Nat.zero_add])
    refine take_on (i := 2) (d := 9) (v := .pointer (some ⟨w.heap.size, 1, none⟩)) rfl rfl (by kernel_rfl) (by kernel_rfl) (by kernel_rfl) (fun _ _ _ h => h) (by rfl) ?_ hHeld ?_
    · (intro w' hSw; go_simp)
    (try simp only [Act.put]); (try simp only [List.setIfInBounds_toArray]); (try simp only [List.set_cons_succ]); (try simp only [List.set_cons_zero]); (try simp only [List.set_cons_succ]); (try simp only [List.set_cons_zero]); (try simp only [Nat.zero_add])
    refine take_on (i := 3) (d := 10) (v := .agg #[.int .i64 x.n, .bool x.i, .int .i64 x.b, .int .i64 x.t, .int .i64 x.p, .int .i64 x.s]) rfl rfl (by kernel_rfl) (by kernel_rfl) (by kernel_rfl) (fun _ _ _ h => h) (by rfl) ?_ hHeld ?_
    · (intro w' hSw; have cc0 := ((show Hold w w' [celF w.heap.size (stl a 8 c x a1 24 c1 a2 24 c2 t), argSF w.heap.size a 8 a1 24 a2 24 R L G] from hSw).cel (.head _)).c 1 _ rfl; have cc1 := ((show Hold w w' [celF w.heap.size (stl a 8 c x a1 24 c1 a2 24 c2 t), argSF w.heap.size a 8 a1 24 a2 24 R L G] from hSw).cel (.head _)).c 2 _ rfl; have cc2 := ((show Hold w w' [celF w.heap.size (stl a 8 c x a1 24 c1 a2 24 c2 t), argSF w.heap.size a 8 a1 24 a2 24 R L G] from hSw).cel (.head _)).c 3 _ rfl; have cc3 := ((show Hold w w' [celF w.heap.size (stl a 8 c x a1 24 c1 a2 24 c2 t), argSF w.heap.size a 8 a1 24 a2 24 R L G] from hSw).cel (.head _)).c 4 _ rfl; have cc4 := ((show Hold w w' [celF w.heap.size (stl a 8 c x a1 24 c1 a2 24 c2 t), argSF w.heap.size a 8 a1 24 a2 24 R L G] from hSw).cel (.head _)).c 5 _ rfl; have cc5 := ((show Hold w w' [celF w.heap.size (stl a 8 c x a1 24 c1 a2 24 c2 t), argSF w.heap.size a 8 a1 24 a2 24 R L G] from hSw).cel (.head _)).c 6 _ rfl; go_simp)
    (try simp only [Act.put]); (try simp only [List.setIfInBounds_toArray]); (try simp only [List.set_cons_succ]); (try simp only [List.set_cons_zero]); (try simp only [List.set_cons_succ]); (try simp only [List.set_cons_zero]); (try simp only [Nat.zero_add])
    refine wpAnyH_ready (rs := [1]) (by kernel_rfl) (by simp) ?_
    refine AllReadyH.cons rfl (fun K hK => ?_) AllReadyH.nil
    go_simp
    refine (stateAsItWas_any a c x a1 c1 a2 c2 t R L G _ (D0.out.argS (.tail _ (.tail _ (.head _))))).mono ?_
    rintro e w3 ⟨b, d, b1, d1, b2, d2, rfl, _, hA, hF, hb⟩
    have lA := hid_mk (fun k hk => hA.lt (k := k) hk)
    have fA := hid_mk hF
    have zr := (D0.out.cel (.head _)).lt
    have z3 := hb.size
    have H3 := hid_mk ((D0.out.next hb).push (ansSF b b1 b2 8 24 24 R L G) hA)
    clear hb hA hF
    refine hK.out _ _ H3.out.tail.tail (fun hHeld => ?_)
    clear hK K
    (try simp only [Act.put]); (try simp only [List.setIfInBounds_toArray]); (try simp only [List.set_cons_succ]); (try simp only [List.set_cons_zero]); (try simp only [List.set_cons_succ]); (try simp only [List.set_cons_zero]); (try simp only [Nat.zero_add])
    refine wpAnyH_ready (rs := [4]) (by kernel_rfl) (by simp) ?_
    refine AllReadyH.cons rfl (fun K hK => ?_) AllReadyH.nil
    go_simp
    refine (implGuessNew_any _).mono ?_
    rintro e w4 ⟨q, rfl, hq, hR, hb⟩
    have hI : (intF q 48 (List.replicate 48 (-1))).p w4 := ⟨hR.out, by simp⟩
    clear hR
    have H4 := hid_mk ((H3.out.next hb).push (intF q 48 (List.replicate 48 (-1))) hI)
    have z4 := hb.size
    clear hb hI
    refine hK.out _ _ H4.out.tail.tail.tail (fun hHeld => ?_)
    clear hK K
    (try simp only [Act.put]); (try simp only [List.setIfInBounds_toArray]); (try simp only [List.set_cons_succ]); (try simp only [List.set_cons_zero]); (try simp only [List.set_cons_succ]); (try simp only [List.set_cons_zero]); (try simp only [Nat.zero_add])
    refine take_on (i := 5) (d := 12) (v := .agg #[.slice b 8 d, .int .i64 x.n, .bool x.i, .int .i64 x.b, .int .i64 x.t, .int .i64 x.p, .int .i64 x.s, .slice b1 24 d1, .slice b2 24 d2, .int .i64 t, .slice none 0 0, .int .i64 x.n, .bool x.i, .int .i64 x.b, .int .i64 x.t, .int .i64 x.p, .int .i64 x.s, .bool false, .slice (some ⟨q, 0, none⟩) 48 48]) rfl rfl (by kernel_rfl) (by kernel_rfl) (by kernel_rfl) (fun _ _ _ h => h) (by rfl) ?_ hHeld ?_
    · (intro w' hSw; go_simp)
    (try simp only [Act.put]); (try simp only [List.setIfInBounds_toArray]); (try simp only [List.set_cons_succ]); (try simp only [List.set_cons_zero]); (try simp only [List.set_cons_succ]); (try simp only [List.set_cons_zero]); (try simp only [Nat.zero_add])
    obtain ⟨a', HA⟩ : ∃ a' : Ca, Hid (a' = ⟨b, d, b1, d1, b2, d2, none, 0, some ⟨q, 0, none⟩, 48⟩) := ⟨_, rfl⟩
    have hco : (.agg #[.slice b 8 d, .int .i64 x.n, .bool x.i, .int .i64 x.b, .int .i64 x.t, .int .i64 x.p, .int .i64 x.s, .slice b1 24 d1, .slice b2 24 d2, .int .i64 t, .slice none 0 0, .int .i64 x.n, .bool x.i, .int .i64 x.b, .int .i64 x.t, .int .i64 x.p, .int .i64 x.s, .bool false, .slice (some ⟨q, 0, none⟩) 48 48] : Value) = .agg (col (newV true x t) a').toArray := by rw [HA.out]; rfl
    rw [hco]
    have C9 := hid_mk (H4.out.cel (.tail _ (.tail _ (.head _))))
    have C2 := hid_mk (C9.out.sets (us := col (newV true x t) a') rfl)
    have B2 := hid_mk (below_sets (col (newV true x t) a') H4.out.bel (r := w.heap.size + 1) (by omega))
    have hlv := hid_mk (lv_cor C2.out.range)
    have hRS := (KeptS.ofBut (T := fun k => k = w.heap.size + 1) (KeepBut.setCells (b := w.heap.size + 1) (col (newV true x t) a') 0 w4) rfl)
    have G8 : Hid (Hold w (w4.setCells (w.heap.size + 1) 0 (col (newV true x t) a')) [intF q 48 (List.replicate 48 (-1)), ansSF b b1 b2 8 24 24 R L G, celF w.heap.size (stl a 8 c x a1 24 c1 a2 24 c2 t), argSF w.heap.size a 8 a1 24 a2 24 R L G]) :=
      (H4.out.sub (fun f hf => by
        simp only [List.mem_cons, List.not_mem_nil, or_false] at hf ⊢
        rcases hf with rfl | rfl | rfl | rfl
        · exact .inl rfl
        · exact .inr (.inl rfl)
        · exact .inr (.inr (.inr (.inl rfl)))
        · exact .inr (.inr (.inr (.inr rfl))))).wrote hRS (fun k e => by omega) (fun f hf k hk e => by
        simp only [List.mem_cons, List.not_mem_nil, or_false] at hf
        rcases hf with rfl | rfl | rfl | rfl
        · simp only [intF] at hk; omega
        · have := fA.out k hk; omega
        · simp only [celF] at hk; omega
        · simp only [argSF] at hk; omega)
    clear hRS
    have hI : (intF q 48 (List.replicate 48 (-1))).p (w4.setCells (w.heap.size + 1) 0 (col (newV true x t) a')) := G8.out.at (.head _)
    have hAs : (ansSF b b1 b2 8 24 24 R L G).p (w4.setCells (w.heap.size + 1) 0 (col (newV true x t) a')) := G8.out.at (.tail _ (.head _))
    have ANS : Hid (AnsC (newV true x t) a' (newRr true R L G) (w4.setCells (w.heap.size + 1) 0 (col (newV true x t) a'))) := by
      generalize w4.setCells (w.heap.size + 1) 0 (col (newV true x t) a') = w9 at hI hAs ⊢
      rw [HA.out]
      exact ⟨hAs, .inl ⟨rfl, rfl, rfl⟩, .inr ⟨q, rfl, hI.2, hI.1⟩, fun k hk => absurd hk (on_none k),
        fun k hk => ⟨fun h2 => by have := (on_some q k).1 hk; have := lA.out k h2; omega, fun h2 => on_none k h2⟩⟩
    have EA : Hid (a'.ea = none) := by rw [HA.out]; exact hid_mk rfl
    have FR : Hid (∀ k, OnC a' k → w.heap.size ≤ k) := fun k hk => by
      rw [HA.out] at hk
      rcases hk with hk | hk | hk
      · have := fA.out k hk; omega
      · exact absurd hk (on_none k)
      · have := (on_some q k).1 hk; omega
    refine wpAnyH_ready (rs := [6]) (by kernel_rfl) (by simp) ?_
    refine AllReadyH.cons rfl (fun K hK => ?_) AllReadyH.nil
    refine step_stm (by rfl) 37 _ _ (by rfl) (w.heap.size + 1) 0 (col (newV true x t) a').toArray (by rfl) (by rfl) C9.out.there sizeCor (col_one _ _) ?_
    refine hK.out _ _ G8.out.tail.tail (fun hHeld => ?_)
    clear hK K
    refine wpAnyH_done (by kernel_rfl) ?_ _
    clear hHeld G8 H4 H3 D0 HA hco hI hAs lA fA C9 C2
    go_wp2
    refine bodyPost_ret (v := .agg (col (newV true x t) a').toArray) (results_cell1 Tryz.results14 (by rfl) hlv.out) rfl (HQ.out a' _ ANS.out EA.out FR.out B2.out)
end Go.Proofs.YtneohabkoighcaaGreat
