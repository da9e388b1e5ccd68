/- slices.Collect and slices.AppendSeq over keysOf, and Keys of the program: a new list of the words that are keys. No condition but that there are no more words than a list of the laws may have. -/
import Derived.Test.YtfeoaegkhbjaeaaKysA
import Derived.Maps.OwnIn
import Derived.Deep.AppendLies
namespace Go.Proofs.Ytfeoaegkhbjaeaa
open Go.ChangeShapes Go.WideShapes Go.ChangeAt Go.RowKit
set_option maxRecDepth 100000
attribute [local go_sem] Oper.semAt_some

theorem own_any {w : World} {base : Nat} {v : Value} {L : List Wd} (h : w.ownsRow base 47 6 v L.length (L.flatMap Wd.vs)) :
    ∃ a cap, v = .slice a L.length cap ∧ RowWA w a L.length L ∧ (∀ k, On a k → base ≤ k) := by
  by_cases h0 : 0 < L.length
  · obtain ⟨g, cap, hv, hb, _, hO⟩ := own_outW h h0
    exact ⟨_, cap, hv, .inr ⟨g, rfl, rfl, hO⟩, fun k hk => by rw [← (on_some g k).1 hk]; exact hb⟩
  · have hl : L = [] := List.eq_nil_of_length_eq_zero (by omega)
    subst hl
    rcases h.2 with ⟨hv, _⟩ | ⟨g, cap, cur, hv, hb, hg, _⟩
    · exact ⟨none, 0, hv, .inl ⟨rfl, rfl, rfl⟩, fun k hk => absurd hk (on_none k)⟩
    · exact ⟨_, cap, hv, .inr ⟨g, rfl, rfl, ⟨(Array.getElem?_eq_some_iff.1 hg).1, fun i hi => by simp at hi, fun i hi => by simp at hi, fun j y _ hy => by simp at hy⟩⟩, fun k hk => by rw [← (on_some g k).1 hk]; exact hb⟩
theorem vs_one (y : Wd) : ∀ u ∈ y.vs, u.oneCell' = true := by
  intro u hu
  simp only [Wd.vs, List.mem_cons, List.not_mem_nil, or_false] at hu
  rcases hu with rfl | rfl | rfl | rfl | rfl | rfl <;> rfl

theorem keys_stops (F : Fence) (n : Nat) (h34 : F.fn 64) (hro : F.round = none) (hn : 1 ≤ n) (Bs B0 : Nat) (ow : Option Obj → Nat → Prop) (a : Option Addr) (nr c : Nat) (x : Wd) (a1 : Option Addr) (n1 c1 : Nat) (a2 : Option Addr) (n2 c2 : Nat) (t : Int) (R L : List Wd) (w : World)
    (hBs : Bs < w.heap.size) (hB0 : B0 < w.heap.size) (hown : ∀ k, ow (w.heap[B0]?) k → k < w.heap.size) (hc : ∀ i v, (stl a nr c x a1 n1 c1 a2 n2 c2 t)[i]? = some v → w.cell? ⟨Bs, i, none⟩ = some v)
    (hR : SlK w (ow (w.heap[B0]?)) a nr R) (hL : SlK w (ow (w.heap[B0]?)) a1 n1 L) :
    SeqStopsK F n Try.prog 64 #[.pointer (some ⟨Bs, 0, none⟩)] (fun y : Wd => #[.agg #[.int .i64 y.n, .bool y.i, .int .i64 y.b, .int .i64 y.t, .int .i64 y.p, .int .i64 y.s]]) (KpB B0 ow) (fun ys => ys = keyL R x L) (fun pre => pre <+: keyL R x L) (keyL R x L).length w := fun l J Jx W hW hJ _ hY h0 => by
  have e : W.heap[B0]? = w.heap[B0]? := hW.block B0 hB0
  exact keys1_in F n h34 hro hn l Bs B0 ow a nr c x a1 n1 c1 a2 n2 c2 t R L J Jx hY W hJ (Nat.lt_of_lt_of_le hB0 hW.size) (fun k hk => by rw [e] at hk; have := hown k hk; have := hW.size; omega) (fun i v hv => (hW.cell (p := ⟨Bs, i, none⟩) hBs).trans (hc i v hv)) (by rw [e]; exact hR.ofBelow hW) (by rw [e]; exact hL.ofBelow hW) h0

/-- What the box of a list that is being filled tells of its own. -/
def owS (B0 : Nat) (o : Option Obj) (k : Nat) : Prop := k = B0 ∨ ∃ v T fr, o = some (.cells #[v] T fr) ∧ v.ownBlock = some k
/-- A word in a block. -/
def BoxW (W : World) (B : Nat) (y : Wd) : Prop := W.heap[B]? = some (.cells #[.int .i64 y.n, .bool y.i, .int .i64 y.b, .int .i64 y.t, .int .i64 y.p, .int .i64 y.s] 47 (0, 0))
theorem BoxW.cells {W : World} {B : Nat} {y : Wd} (h : BoxW W B y) : W.cell? ⟨B, 0, none⟩ = some (.int .i64 y.n) ∧ W.cell? ⟨B, 1, none⟩ = some (.bool y.i) ∧ W.cell? ⟨B, 2, none⟩ = some (.int .i64 y.b) ∧ W.cell? ⟨B, 3, none⟩ = some (.int .i64 y.t) ∧ W.cell? ⟨B, 4, none⟩ = some (.int .i64 y.p) ∧ W.cell? ⟨B, 5, none⟩ = some (.int .i64 y.s) := by
  refine ⟨?_, ?_, ?_, ?_, ?_, ?_⟩ <;> simp [World.cell?, show W.heap[B]? = _ from h]
theorem boxW_own (B : Nat) (y : Wd) : Own (fun (_ : Unit) W => BoxW W B y) := fun s X Y row h hg hr => by
  have h1 : X.heap[B]? = some (.cells #[.int .i64 y.n, .bool y.i, .int .i64 y.b, .int .i64 y.t, .int .i64 y.p, .int .i64 y.s] 47 (0, 0)) := h
  refine (hg.block B (Array.getElem?_eq_some_iff.1 h1).1 (fun e' => ?_)).trans h1
  obtain ⟨o, ho, hc⟩ := hr B e'.symm
  rw [h1] at ho
  cases ho
  cases hc

set_option maxHeartbeats 8000000 in
theorem appendSeq_in (F : Fence) (n : Nat) (h33 : F.fn 71) (h34 : F.fn 64) (hro : F.round = none) (hn : 3 ≤ n) (Bs : Nat) (a : Option Addr) (nr c : Nat) (x : Wd) (a1 : Option Addr) (n1 c1 : Nat) (a2 : Option Addr) (n2 c2 : Nat) (t : Int) (R L : List Wd) (w : World) (hk : (keyL R x L).length ≤ 2097153)
    (hBs : Bs < w.heap.size) (hc : ∀ i v, (stl a nr c x a1 n1 c1 a2 n2 c2 t)[i]? = some v → w.cell? ⟨Bs, i, none⟩ = some v) (hR : SliceW w.heap.size w a nr R) (hL : SliceW w.heap.size w a1 n1 L) :
    CallsIn F n Try.prog 71 #[.slice none 0 0, .func (.func 64) #[] #[.pointer (some ⟨Bs, 0, none⟩)]] w fun e W' => ∃ v, e = .returned v ∧ W'.ownsRow w.heap.size 47 6 v (keyL R x L).length ((keyL R x L).flatMap Wd.vs) ∧ Below w.heap.size w W' := by
  have h1 : 1 ≤ n := by omega
  obtain ⟨i0, hi, hz0, hz1, hz2⟩ := info_parts infoW
  have hm : 2097154 ≤ maxLen := by unfold maxLen; omega
  refine callsIn_of_wp_marks Try.func71 rfl h33 ?_ hro
  simp only [Try.ntmps71, List.size_toArray, List.length_cons, List.length_nil, Nat.reduceAdd, Nat.reduceSub, Array.replicate_succ, Array.replicate_zero, List.push_toArray, List.append_toArray, List.nil_append, List.cons_append]
  gi_wp2
  have bS := Boxed.new w 28 (.slice none 0 0)
  have hB0 : Below w.heap.size w (w.alloc (.cells #[.slice none 0 0] 28)) := (Below.refl _ w).alloc (Nat.le_refl _) _
  have hsz : (w.alloc (.cells #[.slice none 0 0] 28)).heap.size = w.heap.size + 1 := by simp
  obtain ⟨W0, hW0⟩ : ∃ W0, w.alloc (.cells #[.slice none 0 0] 28) = W0 := ⟨_, rfl⟩
  rw [hW0] at bS hB0 hsz ⊢
  clear hW0
  have hob : W0.heap[w.heap.size]? = some (.cells #[.slice none 0 0] 28 (0, 0)) := bS
  have hown0 : ∀ k, owS w.heap.size (W0.heap[w.heap.size]?) k → k = w.heap.size := fun k hk => by
    rcases hk with h | ⟨v, T, fr, h, hv⟩
    · exact h
    · rw [hob] at h
      cases h
      simp [Value.ownBlock] at hv
  have sl : ∀ (a : Option Addr) (n : Nat) (M : List Wd), SliceW w.heap.size w a n M → SlK W0 (owS w.heap.size (W0.heap[w.heap.size]?)) a n M := fun a n M h => by
    refine ⟨h.1, h.2.1, ?_⟩
    rcases h.2.2 with h0 | ⟨k, o, ha, hk, hc⟩
    · exact .inl h0
    · exact .inr ⟨k, o, ha, fun hk' => by have := hown0 k hk'; omega, fun j y hj => (hc j y hj).keep hB0 hk⟩
  refine wpIn_rangeFunc_ownH hro h1 (gf := 64) (lb := #[.pointer (some ⟨Bs, 0, none⟩)]) rfl h34 (enters_of Try.func64 (by kernel_rfl) rfl)
    (keys_stops F (n - 1) h34 hro (by omega) Bs w.heap.size (owS w.heap.size) a nr c x a1 n1 c1 a2 n2 c2 t R L W0 (by omega) (by omega) (fun k hk => by have := hown0 k hk; omega) (fun i v hv => (hB0.cell (p := ⟨Bs, i, none⟩) hBs).trans (hc i v hv)) (sl _ _ _ hR) (sl _ _ _ hL))
    KpB.trans (fun W l o o' hl h h2 _ => KpB.putObj (by omega) W l o o' hl h h2) (Below.refl _ _) (fun _ => rfl)
    (fun pre W => (∃ v, Boxed W w.heap.size 28 v ∧ W.ownsRow w.heap.size 47 6 v pre.length (pre.flatMap Wd.vs) ∧ True) ∧ Below w.heap.size w W)
    (fun _ _ _ => False)
    (OwnFrom.and (Own.from (holdsRow_own w.heap.size w.heap.size 28 47 6 (fun pre : List Wd => pre.length) (fun pre => pre.flatMap Wd.vs) (fun _ _ => True)) _) (ownFrom_below (Nat.le_refl _) (by omega)))
    (fun _ _ _ _ _ hs _ _ => hs)
    ⟨⟨_, bS, World.ownsRow_nil _ _ _ _, trivial⟩, hB0⟩
    (fun y a' W => ∃ Bx, w.heap.size < Bx ∧ BoxW W Bx y ∧ a' = { tmps := #[.slice none 0 0, .func (.func 64) #[] #[.pointer (some ⟨Bs, 0, none⟩)], .pointer (some ⟨w.heap.size, 0, none⟩), undef, .slice none 0 0, .pointer (some ⟨Bx, 0, none⟩), .func (.func 64) #[] #[.pointer (some ⟨Bs, 0, none⟩)], .agg #[.int .i64 y.n, .bool y.i, .int .i64 y.b, .int .i64 y.t, .int .i64 y.p, .int .i64 y.s], undef, undef, undef, undef, undef], defers := [] })
    (fun y a' _ X Y row hs hg hr => by obtain ⟨Bx, h1, h2, h3⟩ := hs; exact ⟨Bx, h1, boxW_own Bx y () X Y row h2 hg (fun r e => (hr r e).2), h3⟩)
    ?assign ?body ?done ?stop
  case assign =>
    rintro l pre y W K ⟨⟨v, hv, hrow, _⟩, hB⟩ hK
    have hsB := hB.size
    gi_wp2
    exact hK _ _ ((KeepsOthers.alloc _ _).from _) (KpB.ofBelow (by have := hv.lt; omega) ((Below.refl _ W).alloc (Nat.le_refl _) _)) ⟨⟨v, hv.alloc _, hrow.alloc _, trivial⟩, hB.alloc hsB _⟩ ⟨W.heap.size, hv.lt, World.alloc_heap_new W _, rfl⟩
  case body =>
    rintro l pre y a' W hl ⟨r, hr⟩ ⟨⟨v, hv, hrow, _⟩, hB⟩ ⟨Bx, hBx, bX, rfl⟩ hlt
    have hc := hv.cell
    obtain ⟨x0, x1, x2, x3, x4, x5⟩ := bX.cells
    have hsB := hB.size
    gi_wp2_with (gi_at_builtin; refine wpListIn_append_own_at _ rfl _ _ 28 rfl w.heap.size 47 i0 _ 6 48 Try.underlying28 hi hz0 hz1 hz2 rfl (by decide) _ _ _ rfl (hrow.alloc _) ⟨W.heap.size, 0, none⟩ 1 1 y.vs rfl rfl (World.news_of_block (cs := #[.int .i64 y.n, .bool y.i, .int .i64 y.b, .int .i64 y.t, .int .i64 y.p, .int .i64 y.s]) (t := 47) (fr := (0, 0)) (World.alloc_heap_new W _)) (vs_one y) (by omega) (by omega) (by simp; omega) ?_; intro v' w1 hown' hgrow _ hat; obtain ⟨g', cap', rfl⟩ := ownsRow_succ hown'; obtain ⟨hv1, hv2, hr2, hk2, hb2⟩ := hv.appended (by decide) hrow hB.size (Nat.le_refl _) hown' hgrow; have hc1 := hv1.cell; have hf1 := hv1.frozen)
    refine ⟨hk2.from _, ⟨hb2.size, fun k hk => ?_, fun k o ho hoc hn => ?_⟩, ⟨⟨_, hv2, by rw [List.length_append, List.flatMap_append, show [y].flatMap Wd.vs = y.vs from by simp]; exact hr2, trivial⟩, hB.trans hb2⟩⟩
    · rcases hk with rfl | ⟨u, T, fr, h, hu⟩
      · exact .inl (.inl rfl)
      · rw [show _ = _ from hv2] at h
        cases h
        rw [hu] at hat
        rcases hat with e | e
        · exact .inl (.inr ⟨v, _, _, hv, e.symm⟩)
        · right
          simp at e
          omega
    · have hne : k ≠ w.heap.size := fun e => hn (.inl e)
      have hlt2 := (Array.getElem?_eq_some_iff.1 ho).1
      have e1 := hgrow.block k (by simp; omega) (fun e => hn (.inr ⟨v, _, _, hv, e.symm⟩))
      have e2 := Below.heap_setCell w1 ⟨w.heap.size, 0, none⟩ (.slice (some ⟨g', 0, none⟩) (pre.length + 1) cap') k hne
      rw [e2, e1, Below.heap_alloc W _ k hlt2]
      exact ho
  case done =>
    rintro D ys W hD rfl ⟨⟨v, hv, hrow, _⟩, hB⟩ hK
    have hc := hv.cell
    gi_wp2
    refine ⟨by simp, .inl ⟨_, _, rfl, run_takeDeferred hK, ?_⟩⟩
    exact ⟨_, results_tmp rfl _ _ _, v, rfl, ownsRow_putObj hrow _ hK rfl, hB.trans (belowK_b (w := w) (Nat.le_refl _) W D _ _ (by omega) hK rfl rfl)⟩
  case stop =>
    rintro D c pre W _ _ h _
    exact h.elim

set_option maxHeartbeats 2000000 in
theorem collect_any (Bs : Nat) (a : Option Addr) (nr c : Nat) (x : Wd) (a1 : Option Addr) (n1 c1 : Nat) (a2 : Option Addr) (n2 c2 : Nat) (t : Int) (R L : List Wd) (w : World) (hk : (keyL R x L).length ≤ 2097153)
    (hBs : Bs < w.heap.size) (hc : ∀ i v, (stl a nr c x a1 n1 c1 a2 n2 c2 t)[i]? = some v → w.cell? ⟨Bs, i, none⟩ = some v) (hR : SliceW w.heap.size w a nr R) (hL : SliceW w.heap.size w a1 n1 L) :
    Calls Try.prog 63 #[.func (.func 64) #[] #[.pointer (some ⟨Bs, 0, none⟩)]] w fun e W' => ∃ v, e = .returned v ∧ W'.ownsRow w.heap.size 47 6 v (keyL R x L).length ((keyL R x L).flatMap Wd.vs) ∧ Below w.heap.size w W' := by
  have S1 := hid_mk (callsIn_wide.1 (appendSeq_in Fence.wide 3 trivial trivial rfl (Nat.le_refl _) Bs a nr c x a1 n1 c1 a2 n2 c2 t R L w hk hBs hc hR hL))
  generalize (keyL R x L).flatMap Wd.vs = Vs at S1 ⊢
  generalize (keyL R x L).length = ln at S1 ⊢
  clear hc hR hL hk
  go_enter Try.func63, Try.ntmps63
  go_wp2_with (go_at_call 71; refine S1.out.mono ?_; rintro e W1 ⟨v, rfl, hO, hB⟩; refine Hid.out ?_)
  refine Lib.hid ?_
  go_wp2
  go_ret
  exact ⟨v, rfl, hO, hB⟩

set_option maxHeartbeats 4000000 in
theorem implKeys_any (a : Option Addr) (n c : Nat) (x : Wd) (a1 : Option Addr) (n1 c1 : Nat) (a2 : Option Addr) (n2 c2 : Nat) (t : Int) (R L : List Wd) (G : List Bool) (w : World) (hk : (keyL R x L).length ≤ 2097153) (hS : StS w a n a1 n1 a2 n2 R L G) :
    Calls Try.prog 52 #[.agg #[.slice a n c, .int .i64 x.n, .bool x.i, .int .i64 x.b, .int .i64 x.t, .int .i64 x.p, .int .i64 x.s, .slice a1 n1 c1, .slice a2 n2 c2, .int .i64 t]] w fun e w' => ∃ b d, e = .returned (.slice b (keyL R x L).length d) ∧ RowWA w' b (keyL R x L).length (keyL R x L) ∧ (∀ k, On b k → w.heap.size ≤ k) ∧ Below w.heap.size w w' := by
  have H := hid_mk (((Hold.new w).alloc (.cells (stl a n c x a1 n1 c1 a2 n2 c2 t).toArray 49)).push (celF w.heap.size (stl a n c x a1 n1 c1 a2 n2 c2 t)) (Cel.new w _ _))
  have s1 := keysOf_any a n c x a1 n1 c1 a2 n2 c2 t
  have s2 : ∀ w2, Below w.heap.size w w2 → Cel w2 (w.heap.size + 1) (stl a n c x a1 n1 c1 a2 n2 c2 t) → Calls Try.prog 63 #[.func (.func 64) #[] #[.pointer (some ⟨w.heap.size + 1, 0, none⟩)]] w2 fun e W' => ∃ b d, e = .returned (.slice b (keyL R x L).length d) ∧ RowWA W' b (keyL R x L).length (keyL R x L) ∧ (∀ k, On b k → w2.heap.size ≤ k) ∧ Below w2.heap.size w2 W' := fun w2 hb hC => by
    refine (collect_any (w.heap.size + 1) a n c x a1 n1 c1 a2 n2 c2 t R L w2 hk hC.lt hC.c ((hS.below hb).rs) ((hS.below hb).mem.ws)).mono ?_
    rintro e W' ⟨v, rfl, hO, hB⟩
    obtain ⟨b, d, rfl, hr, hf⟩ := own_any hO
    exact ⟨b, d, rfl, hr, hf, hB⟩
  have S1 := hid_mk s1
  have S2 := hid_mk s2
  clear s1 s2 hS hk
  generalize keyL R x L = M at S2 ⊢
  generalize hw1 : w.alloc (.cells (stl a n c x a1 n1 c1 a2 n2 c2 t).toArray 49) = w1 at H
  have hsz : w1.heap.size = w.heap.size + 1 := by rw [← hw1]; simp
  go_enter Try.func52, Try.ntmps52
  go_upto_region 1 with fail
  clear hw1
  obtain ⟨m0, m1, m2, m3, m4, m5, m6, m7, m8, m9⟩ := (H.out.cel (.head _)).c10
  have C2 := hid_mk (Cel.new w1 (stl a n c x a1 n1 c1 a2 n2 c2 t) 49)
  have B2 := hid_mk (H.out.alloc (.cells (stl a n c x a1 n1 c1 a2 n2 c2 t).toArray 49)).bel
  rw [hsz] at C2
  go_wp2_with (first | (go_at_call 53; refine (S1.out _).mono ?_; rintro e w2 ⟨rfl, hw2⟩; subst hw2; rw [hsz]; refine Hid.out ?_) | (go_at_call 63; refine (S2.out _ B2.out C2.out).mono ?_; rintro e w3 ⟨b, d, rfl, hr, hf, hb⟩; refine Hid.out ?_))
  refine Lib.hid ?_
  go_wp2_with (first | (go_at_call 63; refine (S2.out _ B2.out C2.out).mono ?_; rintro e w3 ⟨b, d, rfl, hr, hf, hb⟩; refine Hid.out ?_))
  refine Lib.hid ?_
  go_wp2
  go_ret
  refine ⟨b, d, rfl, hr, fun k hk => ?_, B2.out.trans (hb.mono B2.out.size)⟩
  have := hf k hk
  have := B2.out.size
  omega
end Go.Proofs.Ytfeoaegkhbjaeaa
