/- keysOf of the program: the words of a state that are keys, told one by one to whatever loop goes over them; what a loop must leave as it was. No condition but that the lists are no longer than a list may be. -/
import Derived.Test.YtfeoaegkhbjaeaaStO
import Derived.RangeFuncNested
import Derived.RangeFuncBound
import Derived.RangeFuncCalls
import Derived.RangeFuncLeaves
import Derived.RangeFuncBox
import Derived.Shelf.Abstract
import Derived.Shelf.RegionOpen
import Derived.OwnWalkIn
import Derived.TacticsInMore
import Derived.LoopNIn
import Derived.LoopIn
namespace Go.Proofs.Ytfeoaegkhbjaeaa
open Go.ChangeShapes Go.WideShapes Go.ChangeAt Go.RowKit
set_option maxRecDepth 100000
attribute [local go_sem] Oper.semAt_some

/-- The words of a state that are keys, in their order. -/
def keyL (R : List Wd) (x : Wd) (L : List Wd) : List Wd := (R ++ [x] ++ L).filter (·.i)
def lstK (R : List Wd) (x : Wd) (L : List Wd) (j : Nat) : List Wd := if j = 0 then R else if j = 1 then [x] else L
def preK (R : List Wd) (x : Wd) (L : List Wd) (j : Nat) : List Wd := (if j = 0 then [] else if j = 1 then R else if j = 2 then R ++ [x] else R ++ [x] ++ L).filter (·.i)
theorem preK_succ (R : List Wd) (x : Wd) (L : List Wd) {j : Nat} (h : j < 3) : preK R x L (j + 1) = preK R x L j ++ (lstK R x L j).filter (·.i) := by
  match j, h with
  | 0, _ => simp [preK, lstK]
  | 1, _ => simp [preK, lstK, List.filter_append]
  | 2, _ => simp [preK, lstK, ← List.filter_append]
theorem preK_three (R : List Wd) (x : Wd) (L : List Wd) : preK R x L 3 = keyL R x L := by simp [preK, keyL]
theorem preK_le (R : List Wd) (x : Wd) (L : List Wd) {j : Nat} (h : j ≤ 3) : preK R x L j <+: keyL R x L := by
  match j, h with
  | 0, _ => exact ⟨keyL R x L, by simp [preK]⟩
  | 1, _ => exact ⟨([x] ++ L).filter (·.i), by simp [preK, keyL, List.filter_append]⟩
  | 2, _ => exact ⟨L.filter (·.i), by simp [preK, keyL, ← List.filter_append]⟩
  | 3, _ => exact ⟨[], by simp [preK_three]⟩
theorem filt_take {M : List Wd} {m : Nat} {y : Wd} (h : M[m]? = some y) : (M.take (m + 1)).filter (·.i) = (M.take m).filter (·.i) ++ (if y.i then [y] else []) := by
  obtain ⟨hm, rfl⟩ := List.getElem?_eq_some_iff.1 h
  rw [List.take_succ_eq_append_getElem hm, List.filter_append]
  congr 1
  cases hy : M[m].i <;> simp [hy]
theorem pre_part {R : List Wd} {x : Wd} {L : List Wd} {j m : Nat} (hj : j < 3) {y : Wd} (hm : (lstK R x L j)[m]? = some y) (hy : y.i = true) : preK R x L j ++ ((lstK R x L j).take m).filter (·.i) ++ [y] <+: keyL R x L := by
  have h1 := filt_take hm
  rw [hy, if_pos rfl] at h1
  rw [List.append_assoc, ← h1]
  refine List.IsPrefix.trans ?_ (preK_le R x L (show j + 1 ≤ 3 by omega))
  rw [preK_succ R x L hj, List.prefix_append_right_inj]
  exact (List.take_prefix _ _).filter _

/-- What a round leaves as it was: all cells but those that are the caller's own, which are told by the caller's box. -/
def KpB (B0 : Nat) (ow : Option Obj → Nat → Prop) (A B : World) : Prop :=
  A.heap.size ≤ B.heap.size ∧ (∀ k, ow (B.heap[B0]?) k → ow (A.heap[B0]?) k ∨ A.heap.size ≤ k) ∧ (∀ k o, A.heap[k]? = some o → o.isCells = true → ¬ ow (A.heap[B0]?) k → B.heap[k]? = some o)
section
variable {B0 : Nat} {ow : Option Obj → Nat → Prop} {A B C w : World}
theorem KpB.refl (A : World) : KpB B0 ow A A := ⟨Nat.le_refl _, fun _ h => .inl h, fun _ _ h _ _ => h⟩
theorem KpB.trans (h : KpB B0 ow A B) (g : KpB B0 ow B C) : KpB B0 ow A C := by
  refine ⟨Nat.le_trans h.1 g.1, fun k hk => ?_, fun k o ho hc hn => ?_⟩
  · rcases g.2.1 k hk with h1 | h1
    · exact h.2.1 k h1
    · exact .inr (Nat.le_trans h.1 h1)
  · refine g.2.2 k o (h.2.2 k o ho hc hn) hc fun hk => ?_
    have hlt := (Array.getElem?_eq_some_iff.1 ho).1
    rcases h.2.1 k hk with h1 | h1
    · exact hn h1
    · omega
theorem KpB.putObj (hB : B0 < w.heap.size) (W : World) (l : Nat) (o o' : Obj) (hl : w.heap.size ≤ l) (h : W.heap[l]? = some o) (hc : o.isCells = false) : KpB B0 ow W (W.putObj l o') := by
  have e : ∀ k, k ≠ l → (W.putObj l o').heap[k]? = W.heap[k]? := fun k hk => World.putObj_heap_other hk
  refine ⟨(grownBy_putObj' W l o').size, fun k hk => ?_, fun k o2 ho h2 _ => ?_⟩
  · rw [e B0 (by omega)] at hk; exact .inl hk
  · by_cases hk : k = l
    · subst hk
      rw [h] at ho
      cases ho
      rw [hc] at h2
      cases h2
    · rw [e k hk]; exact ho
theorem KpB.ofBelow (hB : B0 < A.heap.size) (h : Below A.heap.size A B) : KpB B0 ow A B :=
  ⟨h.size, fun k hk => by rw [h.block B0 hB] at hk; exact .inl hk, fun k o ho _ _ => (h.block k (Array.getElem?_eq_some_iff.1 ho).1).trans ho⟩
theorem cell_obj {p : Addr} {v : Value} (h : A.cell? p = some v) : ∃ o, A.heap[p.block]? = some o ∧ o.isCells = true := by
  unfold World.cell? at h
  split at h
  · rename_i c e f he
    exact ⟨_, he, rfl⟩
  · cases h
theorem KpB.cell (h : KpB B0 ow A B) {k i : Nat} {v : Value} (hn : ¬ ow (A.heap[B0]?) k) (hc : A.cell? ⟨k, i, none⟩ = some v) : B.cell? ⟨k, i, none⟩ = some v := by
  obtain ⟨o, ho, h1⟩ := cell_obj hc
  rw [World.cell?_of_block (w := A) (w' := B) (a := ⟨k, i, none⟩) ((h.2.2 k o ho h1 hn).trans ho.symm)]
  exact hc
theorem KpB.word (h : KpB B0 ow A B) {k o : Nat} {x : Wd} (hn : ¬ ow (A.heap[B0]?) k) (hc : WordAt A k o x) : WordAt B k o x :=
  WordAt.of_vs fun j v hv => h.cell hn (hc.vs j v hv)
end
/-- A slice of words whose cells are none of the caller's own. -/
def SlK (W : World) (own : Nat → Prop) (a : Option Addr) (n : Nat) (M : List Wd) : Prop :=
  n ≤ maxLen ∧ M.length = n ∧ (n = 0 ∨ ∃ k o, a = some ⟨k, o, none⟩ ∧ ¬ own k ∧ ∀ j y, M[j]? = some y → WordAt W k (o + j * 6) y)
theorem SlK.ofBelow {A B : World} {own : Nat → Prop} {a : Option Addr} {n : Nat} {M : List Wd} (h : SlK A own a n M) (hb : Below A.heap.size A B) : SlK B own a n M := by
  refine ⟨h.1, h.2.1, ?_⟩
  rcases h.2.2 with h0 | ⟨k, o, ha, hn, hc⟩
  · exact .inl h0
  · refine .inr ⟨k, o, ha, hn, fun j y hj => WordAt.of_vs fun m v hv => ?_⟩
    have h1 := (hc j y hj).vs m v hv
    obtain ⟨ob, ho, _⟩ := cell_obj h1
    exact (World.cell?_of_block (w := A) (w' := B) (a := ⟨k, o + j * 6 + m, none⟩) (hb.block k (Array.getElem?_eq_some_iff.1 ho).1)).trans h1
theorem SlK.at {A B : World} {B0 : Nat} {ow : Option Obj → Nat → Prop} {a : Option Addr} {n : Nat} {M : List Wd} (h : SlK A (ow (A.heap[B0]?)) a n M) (hk : KpB B0 ow A B) {j : Nat} (hj : j < n) :
    ∃ k o y, a = some ⟨k, o, none⟩ ∧ M[j]? = some y ∧ WordAt B k (o + j * 6) y := by
  rcases h.2.2 with h0 | ⟨k, o, ha, hn, hc⟩
  · omega
  · have hl : j < M.length := by rw [h.2.1]; exact hj
    exact ⟨k, o, M[j], ha, List.getElem?_eq_getElem hl, hk.word hn (hc j _ (List.getElem?_eq_getElem hl))⟩
theorem abides_alloc {β : Type} {B : Nat} {J : β → World → Prop} (h : AbidesFrom B J) {s : β} {W : World} (o : Obj) (hs : J s W) : J s (W.alloc o) :=
  h s W _ none hs (World.grownBy_alloc W o none) (fun r e => by cases e)

set_option maxHeartbeats 4000000 in
theorem keysOf_any (a : Option Addr) (n c : Nat) (x : Wd) (a1 : Option Addr) (n1 c1 : Nat) (a2 : Option Addr) (n2 c2 : Nat) (t : Int) (w : World) :
    Calls Try.prog 53 #[.agg (stl a n c x a1 n1 c1 a2 n2 c2 t).toArray] w fun e w' => e = .returned (.func (.func 64) #[] #[.pointer (some ⟨w.heap.size, 0, none⟩)]) ∧ w' = w.alloc (.cells (stl a n c x a1 n1 c1 a2 n2 c2 t).toArray 49) := by
  go_enter Try.func53, Try.ntmps53
  go_wp2
  go_ret
  exact ⟨rfl, rfl⟩

set_option maxHeartbeats 8000000 in
/-- Whatever loop goes over them, if its rounds leave all cells but its own as they were. -/
theorem keys1_in (F : Fence) (n : Nat) (h34 : F.fn 64) (hro : F.round = none) (hn : 1 ≤ n) (l Bs B0 : Nat) (ow : Option Obj → Nat → Prop) (a : Option Addr) (nr c : Nat) (x : Wd) (a1 : Option Addr) (n1 c1 : Nat) (a2 : Option Addr) (n2 c2 : Nat) (t : Int) (R L : List Wd) (J Jx : List Wd → World → Prop)
    (hY : ∀ pre y W, J pre W → pre.length < (keyL R x L).length → YieldAt F (n - 1) Try.prog l #[.agg #[.int .i64 y.n, .bool y.i, .int .i64 y.b, .int .i64 y.t, .int .i64 y.p, .int .i64 y.s]] W fun e W' =>
      (e = .returned (.bool true) ∧ J (pre ++ [y]) W' ∧ KpB B0 ow W W') ∨ (e = .returned (.bool false) ∧ Jx (pre ++ [y]) W'))
    (W : World) (hJ : AbidesFrom W.heap.size J) (hB0 : B0 < W.heap.size) (hown : ∀ k, ow (W.heap[B0]?) k → k < W.heap.size) (hBs : ∀ i v, (stl a nr c x a1 n1 c1 a2 n2 c2 t)[i]? = some v → W.cell? ⟨Bs, i, none⟩ = some v)
    (hR : SlK W (ow (W.heap[B0]?)) a nr R) (hL : SlK W (ow (W.heap[B0]?)) a1 n1 L) (h0 : J [] W) :
    CallsIn F n Try.prog 64 #[.func (.yield l) #[] #[], .pointer (some ⟨Bs, 0, none⟩)] W fun e W' => (∃ v, e = .returned v) ∧
      ((∃ ys, ys = keyL R x L ∧ J ys W') ∨ (∃ pre, pre <+: keyL R x L ∧ Jx pre W')) := by
  have A2 : Hid (∃ W2, W2 = (W.alloc (.cells #[.int .i64 x.n, .bool x.i, .int .i64 x.b, .int .i64 x.t, .int .i64 x.p, .int .i64 x.s] 47)).alloc (.cells #[.slice a nr c, .slice (some ⟨W.heap.size, 0, none⟩) 1 1, .slice a1 n1 c1] 28)) := ⟨_, rfl⟩
  obtain ⟨W2, hW2⟩ := A2.out
  have b2 : Below W.heap.size W W2 := by rw [hW2]; exact ((Below.refl _ W).alloc (Nat.le_refl _) _).alloc (by simp) _
  have sz2 : W2.heap.size = W.heap.size + 1 + 1 := by rw [hW2]; simp
  have ob2 : W2.heap[B0]? = W.heap[B0]? := b2.block B0 hB0
  have JJ : Hid (J (preK R x L 0) W2) := by
    rw [hW2, show preK R x L 0 = [] by simp [preK]]
    exact abides_alloc hJ _ (abides_alloc hJ _ h0)
  have SL : Hid (∀ j, j < 3 → ∃ a n c, W2.cell? ⟨W.heap.size + 1, j, none⟩ = some (.slice a n c) ∧ SlK W2 (ow (W2.heap[B0]?)) a n (lstK R x L j)) := by
    intro j hj
    have hcell : ∀ j v, ([.slice a nr c, .slice (some ⟨W.heap.size, 0, none⟩) 1 1, .slice a1 n1 c1] : List Value)[j]? = some v → W2.cell? ⟨W.heap.size + 1, j, none⟩ = some v := fun j v hv => by
      have h := Cel.new (W.alloc (.cells #[.int .i64 x.n, .bool x.i, .int .i64 x.b, .int .i64 x.t, .int .i64 x.p, .int .i64 x.s] 47)) [.slice a nr c, .slice (some ⟨W.heap.size, 0, none⟩) 1 1, .slice a1 n1 c1] 28
      rw [World.size_alloc] at h
      rw [hW2]
      exact h.c j v hv
    rw [ob2]
    match j, hj with
    | 0, _ => exact ⟨a, nr, c, hcell 0 _ rfl, by simpa [lstK] using hR.ofBelow b2⟩
    | 1, _ =>
      refine ⟨some ⟨W.heap.size, 0, none⟩, 1, 1, hcell 1 _ rfl, by unfold maxLen; omega, by simp [lstK], .inr ⟨W.heap.size, 0, rfl, fun hk => by have := hown _ hk; omega, fun j y hj => WordAt.of_vs fun m v hv => ?_⟩⟩
      have h := (Cel.new W (wl x) 47).alloc (.cells #[.slice a nr c, .slice (some ⟨W.heap.size, 0, none⟩) 1 1, .slice a1 n1 c1] 28)
      have e : j = 0 ∧ x = y := by
        cases j with
        | zero => simpa [lstK] using hj
        | succ j => simp [lstK] at hj
      obtain ⟨rfl, rfl⟩ := e
      rw [hW2, Nat.zero_mul, Nat.zero_add]
      try rw [Nat.zero_add]
      exact h.c m v hv
    | 2, _ => exact ⟨a1, n1, c1, hcell 2 _ rfl, by simpa [lstK] using hL.ofBelow b2⟩
  have hn2 : ¬ ow (W2.heap[B0]?) (W.heap.size + 1) := fun hk => by rw [ob2] at hk; have := hown _ hk; omega
  have hJ2 : AbidesFrom W.heap.size J := hJ
  obtain ⟨ob, hob, _⟩ := cell_obj (hBs 0 _ rfl)
  have hBl : Bs < W.heap.size := (Array.getElem?_eq_some_iff.1 hob).1
  have e7 : (W.alloc (.cells #[.int .i64 x.n, .bool x.i, .int .i64 x.b, .int .i64 x.t, .int .i64 x.p, .int .i64 x.s] 47)).cell? ⟨Bs, 7, none⟩ = some (.slice a1 n1 c1) :=
    (((Below.refl W.heap.size W).alloc (Nat.le_refl _) _).cell (p := ⟨Bs, 7, none⟩) hBl).trans (hBs 7 _ rfl)
  have HY := hid_mk hY
  have HJ := hid_mk hJ
  have HN := hid_mk hn2
  obtain ⟨c0, c1', c2', c3, c4, c5, c6, c7, c8, c9⟩ : W.cell? ⟨Bs, 0, none⟩ = some (.slice a nr c) ∧ W.cell? ⟨Bs, 1, none⟩ = some (.int .i64 x.n) ∧ W.cell? ⟨Bs, 2, none⟩ = some (.bool x.i) ∧ W.cell? ⟨Bs, 3, none⟩ = some (.int .i64 x.b) ∧ W.cell? ⟨Bs, 4, none⟩ = some (.int .i64 x.t) ∧ W.cell? ⟨Bs, 5, none⟩ = some (.int .i64 x.p) ∧ W.cell? ⟨Bs, 6, none⟩ = some (.int .i64 x.s) ∧ W.cell? ⟨Bs, 7, none⟩ = some (.slice a1 n1 c1) ∧ W.cell? ⟨Bs, 8, none⟩ = some (.slice a2 n2 c2) ∧ W.cell? ⟨Bs, 9, none⟩ = some (.int .i64 t) :=
    ⟨hBs 0 _ rfl, hBs 1 _ rfl, hBs 2 _ rfl, hBs 3 _ rfl, hBs 4 _ rfl, hBs 5 _ rfl, hBs 6 _ rfl, hBs 7 _ rfl, hBs 8 _ rfl, hBs 9 _ rfl⟩
  clear A2 b2 hob hBl hY hJ hJ2 hown hR hL h0 hn2 hBs
  refine callsIn_of_wp Try.func64 rfl h34 ?_ hro
  simp only [Try.ntmps64, List.size_toArray, List.length_cons, List.length_nil, Nat.reduceAdd, Nat.reduceSub, Array.replicate_succ, Array.replicate_zero, List.push_toArray, List.append_toArray, List.nil_append, List.cons_append]
  gi_wp2
  rw [← hW2]
  clear c0 c1' c2' c3 c4 c5 c6 c7 c8 c9 e7 hW2
  gi_loopw [17] (fun i wr => ∃ j : Nat, j ≤ 3 ∧ i = .int .i64 (j : Int) ∧ Hid (J (preK R x L j) wr) ∧ Hid (KpB B0 ow W2 wr)) (fun i _ => 3 - (intOf i).toNat)
  case atStart => exact ⟨0, by omega, rfl, JJ, KpB.refl _⟩
  case round =>
    clear JJ
    obtain ⟨j, hj, rfl, JJ, KK⟩ := hrel
    by_cases hlt : j < 3
    · obtain ⟨aj, nj, cj, hcj, Sj⟩ := SL.out j hlt
      have cj0 := KK.out.cell HN.out hcj
      have SJ := hid_mk Sj
      have hnj := Sj.1
      have hlj := Sj.2.1
      unfold maxLen at hnj
      clear hcj Sj
      gi_wp2
      clear cj0
      rw [show decide ((j : Int) < 3) = true from decide_eq_true (by omega)]
      gi_loopw [23] (fun i wr => ∃ m : Nat, m ≤ nj ∧ i = .int .i64 (m : Int) ∧ Hid (J (preK R x L j ++ ((lstK R x L j).take m).filter (·.i)) wr) ∧ Hid (KpB B0 ow W2 wr)) (fun i _ => nj - (intOf i).toNat)
      case atStart => exact ⟨0, by omega, rfl, by simpa [Hid] using JJ.out, KK⟩
      case round =>
        clear JJ KK
        obtain ⟨m, hm, rfl, JJ, KK⟩ := hrel
        by_cases hmt : m < nj
        · obtain ⟨kb, o, y, rfl, hy, hat⟩ := SJ.out.at KK.out hmt
          obtain ⟨d0, d1, d2, d3, d4, d5⟩ := hat
          have hft := filt_take hy
          have KA : Hid (KpB B0 ow W2 (wr.alloc (.cells #[.int .i64 y.n, .bool y.i, .int .i64 y.b, .int .i64 y.t, .int .i64 y.p, .int .i64 y.s] 47))) := KK.out.trans (KpB.ofBelow (by have := KK.out.1; omega) ((Below.refl _ _).alloc (Nat.le_refl _) _))
          cases hyi : y.i with
          | true =>
            rw [hyi, if_pos rfl] at hft
            have HP := hid_mk (pre_part hlt hy hyi)
            obtain ⟨fn, tmps, assign, body, hyd, hRd⟩ := HY.out _ y (wr.alloc (.cells #[.int .i64 y.n, .bool y.i, .int .i64 y.b, .int .i64 y.t, .int .i64 y.p, .int .i64 y.s] 47)) (abides_alloc HJ.out _ JJ.out) (by have := (pre_part hlt hy hyi).length_le; rw [List.length_append] at this; simp at this ⊢; omega)
            rw [hyi] at hyd hRd d1 KA
            have HFT := hid_mk hft
            have HYI := hid_mk hyi
            clear hft hy hyi
            gi_wp2
            refine hRd.mono ?_
            rintro e W3 (⟨rfl, hJ3, hk3⟩ | ⟨rfl, hJx3⟩)
            · have J3 : Hid (J (preK R x L j ++ ((lstK R x L j).take (m + 1)).filter (·.i)) W3) := by
                rw [HFT.out, ← List.append_assoc]
                exact hJ3
              have K3 := hid_mk (KA.out.trans hk3)
              clear hJ3 hk3 KA
              gi_wp2
              go_roundw
              case rel => exact ⟨m + 1, by omega, by simp, J3, K3⟩
              case measure => simp [intOf]; omega
            · have JX := hid_mk hJx3
              clear hJx3
              gi_wp2
              refine bodyPost_ret (results_none rfl _ _ _) rfl ?_
              exact ⟨⟨_, rfl⟩, .inr ⟨_, HP.out, JX.out⟩⟩
          | false =>
            rw [hyi, if_neg (by simp), List.append_nil] at hft
            have J3 : Hid (J (preK R x L j ++ ((lstK R x L j).take (m + 1)).filter (·.i)) (wr.alloc (.cells #[.int .i64 y.n, .bool y.i, .int .i64 y.b, .int .i64 y.t, .int .i64 y.p, .int .i64 y.s] 47))) := by
              rw [hft]
              exact abides_alloc HJ.out _ JJ.out
            rw [hyi] at d1 KA J3
            clear hft hy hyi JJ KK
            gi_wp2
            refine ⟨fun _ h => (by cases h), ?_⟩
            gi_wp2
            go_roundw
            case rel => exact ⟨m + 1, by omega, by simp, J3, KA⟩
            case measure => simp [intOf]; omega
        · obtain rfl : m = nj := by omega
          have J3 : Hid (J (preK R x L (j + 1)) wr) := by
            have h := JJ.out
            rw [List.take_of_length_le (by omega), ← preK_succ R x L hlt] at h
            exact h
          clear JJ
          gi_wp2
          go_roundw
          case rel => exact ⟨j + 1, by omega, by simp, J3, KK⟩
          case measure => simp [intOf]; omega
    · obtain rfl : j = 3 := by omega
      have J3 : Hid (J (keyL R x L) wr) := by
        have h := JJ.out
        rw [preK_three] at h
        exact h
      clear JJ
      gi_wp2
      go_end0
      exact ⟨⟨_, rfl⟩, .inl ⟨_, rfl, J3.out⟩⟩
end Go.Proofs.Ytfeoaegkhbjaeaa
