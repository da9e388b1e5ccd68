/- Rows of ints that a call owns; GuessOk of both sides; unlearntUpTo and learntIn of the program. No condition but that the list is no longer than the law lets it be, and of ints. · GuessNew of the specification; append of ints to a row that is not nil. No condition. · append of entries onto a row that is owned, as one step of a region that draws; rows of structs as rows that are owned. No condition but the numbers that stand there. · append of ints onto a row that is owned, as one step of a region that draws, whatever is appended. No condition but the numbers that stand there. · Rows of entries that a call owns, as facts; append of entries outside a region that draws; slices.Clone at entries and at ints. No condition but that the lists are no longer than the numbers that stand there. -/
import Derived.Test.YtpkhnajhamnggaaGreatDoorYB
import Derived.Test.YtpkhnajhamnggaaGreatDoorGesM
import Derived.Maps.RangeWalk
import Derived.Maps.AppendAt
import Derived.OwnWalk
import Derived.RangeFuncRecord
import Derived.Test.YtpkhnajhamnggaaGreatDoorYA
import Derived.Laws.AppendOwnNone
import Derived.Lib.BufferMore
namespace Go.Proofs.YtpkhnajhamnggaaGreatDoor
open Go.ChangeShapes Go.WideShapes Go.ChangeAt Go.RowKit Go.Maps
set_option maxRecDepth 100000

theorem lawI : Keyed Tryz.prog 3 := int_keyed Tryz.underlying3

def lnV : Value → Nat
  | .slice _ n _ => n
  | _ => 0

/-- Ints as values. -/
def ixs (L : List Int) : List Value := L.map (Value.int .i64)
theorem ixs_len (L : List Int) : (ixs L).length = L.length := by simp [ixs]
theorem ixs_one (L : List Int) : ∀ u ∈ ixs L, u.oneCell' = true := by
  intro u hu
  obtain ⟨x, _, rfl⟩ := List.mem_map.1 hu
  rfl
theorem ixs_app (L M : List Int) : ixs (L ++ M) = ixs L ++ ixs M := by simp [ixs]
theorem ixs_at {L : List Int} {j : Nat} {u : Value} (h : (ixs L)[j]? = some u) : ∃ x, L[j]? = some x ∧ u = .int .i64 x := by
  simp only [ixs, List.getElem?_map, Option.map_eq_some_iff] at h
  obtain ⟨x, hx, rfl⟩ := h
  exact ⟨x, hx, rfl⟩
theorem ixs_get {L : List Int} {j : Nat} {x : Int} (h : L[j]? = some x) : (ixs L)[j]? = some (.int .i64 x) := by simp [ixs, h]
theorem own_outN {w : World} {base g n cap : Nat} {L : List Int} (h : w.ownsRow base 3 1 (.slice (some ⟨g, 0, none⟩) n cap) n (ixs L)) (hl : L.length = n) : OutN w g n n L := by
  rcases h.2 with ⟨hv, _⟩ | ⟨g', cap', cur, hv, hb, hg, hn, hm, hs, ht⟩
  · cases hv
  · cases hv
    have hc : ∀ j x, L[j]? = some x → w.cell? ⟨g, j, none⟩ = some (.int .i64 x) := fun j x hj => by
      have := h.cells (g := g) rfl j (.int .i64 x) (ixs_get hj)
      rwa [Go.WideShapes.add_plain, Nat.zero_add] at this
    refine ⟨(Array.getElem?_eq_some_iff.1 hg).1, fun i hi => ?_, fun i _ => by simp [World.frozen?, hg], fun j x _ hx => hc j x hx⟩
    have hi' : i < L.length := by omega
    rw [hc i _ (List.getElem?_eq_getElem hi')]
    rfl
theorem own_lt {w : World} {base g n m cap : Nat} {T : TypeId} {s : Nat} {xs : List Value} (h : w.ownsRow base T s (.slice (some ⟨g, 0, none⟩) n cap) m xs) : g < w.heap.size := by
  rcases h.2 with ⟨hv, _⟩ | ⟨g', cap', cur, hv, hb, hg, _⟩
  · cases hv
  · cases hv
    exact (Array.getElem?_eq_some_iff.1 hg).1

/-- The list may be lengthened by what is not learnt, as far as it has room. -/
structure RoomN (w : World) (g n cap : Nat) (L : List Int) : Prop where
  own : w.ownsRow 0 3 1 (.slice (some ⟨g, 0, none⟩) n cap) n (ixs L)
theorem RoomN.lt {w : World} {g n cap : Nat} {L : List Int} (h : RoomN w g n cap L) : g < w.heap.size := own_lt h.own
theorem RoomN.kept {w w' : World} {g n cap : Nat} {L : List Int} {row : Option Nat} (h : RoomN w g n cap L) (hg : w.grownBy w' row) (hne : some g ≠ row) : RoomN w' g n cap L := ⟨h.own.kept hg (.inr hne)⟩
theorem RoomN.below {w w' : World} {g n cap : Nat} {L : List Int} (h : RoomN w g n cap L) (hb : Below w.heap.size w w') : RoomN w' g n cap L :=
  ⟨h.own.kept (row := none) ⟨hb.os, hb.tape, hb.output, hb.size, fun k hk _ => hb.block k hk⟩ (.inr (by simp [Value.ownBlock]))⟩
theorem RoomN.alloc {w : World} {g n cap : Nat} {L : List Int} (h : RoomN w g n cap L) (o : Obj) : RoomN (w.alloc o) g n cap L := ⟨h.own.alloc o⟩
theorem RoomN.len {w : World} {g n cap : Nat} {L : List Int} (h : RoomN w g n cap L) : L.length = n := by have := h.own.1; rw [ixs_len] at this; omega
theorem RoomN.cap {w : World} {g n cap : Nat} {L : List Int} (h : RoomN w g n cap L) : n ≤ cap := by
  rcases h.own.2 with ⟨hv, _⟩ | ⟨g', cap', cur, hv, hb, hg, hn, _⟩
  · cases hv
  · cases hv; exact hn
theorem RoomN.out {w : World} {g n cap : Nat} {L : List Int} (h : RoomN w g n cap L) : OutN w g n n L := own_outN h.own h.len

theorem wpList_appFits {ops : Array Oper} {rest : List Oper} {o : Oper} {a : Act} {w : World} {Q : Exit → Act → World → Prop} (hgd : o.guard = none) (s x : Operand)
    (ho : o.op = .call { callee := .builtin .append, args := #[s, x], argTypes := #[52, 52] })
    (g n cap : Nat) (L : List Int) (hs : a.eval s = .slice (some ⟨g, 0, none⟩) n cap) (hR : RoomN w g n cap L) (ad : Addr) (c : Nat) (y : Int) (hx : a.eval x = .slice (some ad) 1 c) (hc : w.cell? ad = some (.int .i64 y)) (hroom : n + 1 ≤ cap)
    (h : ∀ w', RoomN w' g (n + 1) cap (L ++ [y]) → w.grownBy w' (some g) → wpList Tryz.prog ops Q rest (a.put o.dst (.slice (some ⟨g, 0, none⟩) (n + 1) cap)) w') :
    wpList Tryz.prog ops Q (o :: rest) a w := by
  obtain ⟨i, hi, hz0, hz1, hz2⟩ := info_parts infoN
  refine wpList_append_fits w hgd s x _ ho 0 3 i 1 Tryz.underlying52 hi hz1 g n cap _ hs hR.own ad 1 c [.int .i64 y] hx rfl (fun j u hj => ?_) (fun u hu => by simp at hu; subst hu; rfl) hroom ?_
  · match j, hj with
    | 0, hj =>
      simp at hj
      subst hj
      have e : ad.add 0 = ad := by simp [Addr.add]
      rw [e]
      exact hc
  · intro w' hown hgrow
    exact h w' ⟨by rw [ixs_app]; exact hown⟩ hgrow

end Go.Proofs.YtpkhnajhamnggaaGreatDoor

namespace Go.Proofs.YtpkhnajhamnggaaGreatDoor
open Go.ChangeShapes Go.WideShapes Go.ChangeAt Go.RowKit Go.Maps
set_option maxRecDepth 100000

theorem own_empty (w : World) (base : Nat) (hb : base ≤ w.heap.size) (T : TypeId) (s : Nat) : (w.alloc (.cells #[] T)).ownsRow base T s (.slice (some ⟨w.heap.size, 0, none⟩) 0 0) 0 [] :=
  ⟨by simp, .inr ⟨w.heap.size, 0, #[], rfl, hb, World.alloc_heap_new w _, Nat.le_refl _, by unfold maxLen; omega, by simp, by simp⟩⟩

/-- append of ints to a row that is not nil. -/
theorem wpList_appN {ops : Array Oper} {rest : List Oper} {o : Oper} {a : Act} {w : World} {Q : Exit → Act → World → Prop} (hgd : o.guard = none) (s x : Operand)
    (ho : o.op = .call { callee := .builtin .append, args := #[s, x], argTypes := #[52, 52] })
    (base g n cap : Nat) (L : List Int) (hs : a.eval s = .slice (some ⟨g, 0, none⟩) n cap) (hown : w.ownsRow base 3 1 (.slice (some ⟨g, 0, none⟩) n cap) n (ixs L)) (ad : Addr) (m c : Nat) (M : List Int) (hx : a.eval x = .slice (some ad) m c) (hM : M.length = m) (hc : ∀ j y, M[j]? = some y → w.cell? (ad.add j) = some (.int .i64 y)) (hb : n + m ≤ 2097152) (hbase : base ≤ w.heap.size)
    (h : ∀ g' cap' w', w'.ownsRow base 3 1 (.slice (some ⟨g', 0, none⟩) (n + m) cap') (n + m) (ixs (L ++ M)) → w.grownBy w' (some g) → wpList Tryz.prog ops Q rest (a.put o.dst (.slice (some ⟨g', 0, none⟩) (n + m) cap')) w') :
    wpList Tryz.prog ops Q (o :: rest) a w := by
  obtain ⟨i, hi, hz0, hz1, hz2⟩ := info_parts infoN
  refine wpList_append_own_at w hgd s x _ ho base 3 i _ 1 8 Tryz.underlying52 hi hz0 hz1 hz2 rfl (by decide) _ n (ixs L) hs hown ad m c (ixs M) hx (by rw [ixs_len, hM, Nat.mul_one]) (fun j u hj => ?_) (ixs_one M) (by unfold maxLen; omega) (by omega) hbase ?_
  · obtain ⟨y, hy, rfl⟩ := ixs_at hj
    exact hc j y hy
  · intro v' w' hown' hgrow hnil _
    rw [← ixs_app] at hown'
    rcases hown'.2 with ⟨hv, _⟩ | ⟨g', cap', cur, hv, _⟩
    · have := hnil.1 hv
      cases this.1
    · subst hv
      exact h g' cap' w' hown' hgrow

end Go.Proofs.YtpkhnajhamnggaaGreatDoor

namespace Go.Proofs.YtpkhnajhamnggaaGreatDoor
open Go.ChangeShapes Go.WideShapes Go.ChangeAt Go.RowKit
set_option maxRecDepth 100000

section
variable {α : Type} {s : Nat} {f : α → List Value}
theorem flatV_len (hf : ∀ y, (f y).length = s) : ∀ L : List α, (L.flatMap f).length = L.length * s
  | [] => by simp
  | y :: L => by
    rw [List.flatMap_cons, List.length_append, hf y, flatV_len hf L, List.length_cons, Nat.add_mul]
    omega
theorem flatV_get (hf : ∀ y, (f y).length = s) : ∀ {L : List α} {j m : Nat} {x : α} {u : Value}, L[j]? = some x → (f x)[m]? = some u → (L.flatMap f)[j * s + m]? = some u
  | [], j, m, x, u, hj, _ => by simp at hj
  | y :: L, 0, m, x, u, hj, hm => by
    obtain rfl : y = x := by simpa using hj
    have hl := (List.getElem?_eq_some_iff.1 hm).1
    rw [List.flatMap_cons, Nat.zero_mul, Nat.zero_add, List.getElem?_append_left hl]
    exact hm
  | y :: L, j + 1, m, x, u, hj, hm => by
    have h1 := flatV_get hf (L := L) (j := j) (m := m) (x := x) (u := u) (by simpa using hj) hm
    rw [List.flatMap_cons, List.getElem?_append_right (by rw [hf y, Nat.add_mul]; omega), hf y]
    rw [show (j + 1) * s + m - s = j * s + m by rw [Nat.add_mul]; omega]
    exact h1
theorem SliceV.flat {B : Nat} {w : World} {k o len : Nat} {L : List α} (hf : ∀ y, (f y).length = s) (h0 : 0 < s) (h : SliceV s f B w (some ⟨k, o, none⟩) len L) : ∀ j u, (L.flatMap f)[j]? = some u → w.cell? ((⟨k, o, none⟩ : Addr).add j) = some u := by
  intro j u hj
  rw [Go.WideShapes.add_plain]
  have hlen := (List.getElem?_eq_some_iff.1 hj).1
  rw [flatV_len hf, h.2.1] at hlen
  have hd := Nat.div_add_mod j s
  have hm := Nat.mod_lt j h0
  have hq : j / s < len := Nat.div_lt_of_lt_mul (by rw [Nat.mul_comm]; exact hlen)
  obtain ⟨k', o', x, ha, _, hx, hat⟩ := h.at hq
  simp only [Option.some.injEq, Addr.mk.injEq, and_true] at ha
  obtain ⟨rfl, rfl⟩ := ha
  obtain ⟨u', hu'⟩ : ∃ u', (f x)[j % s]? = some u' := ⟨_, List.getElem?_eq_getElem (by rw [hf x]; exact hm)⟩
  have h1 := flatV_get hf hx hu'
  rw [Nat.mul_comm] at hd
  rw [hd, hj] at h1
  obtain rfl := Option.some.inj h1
  have := hat (j % s) u hu'
  rwa [Nat.add_assoc, hd] at this
theorem own_outV {w : World} {base g cp n : Nat} {T : TypeId} {L : List α} (hf : ∀ y, (f y).length = s) (h : w.ownsRow base T s (.slice (some ⟨g, 0, none⟩) n cp) n (L.flatMap f)) (hl : L.length = n) : base ≤ g ∧ n ≤ cp ∧ OutV s f w g n n L := by
  subst hl
  rcases h.2 with ⟨hv, _⟩ | ⟨g', cap, cur, hv, hb, hg, hn, hm, hs, ht⟩
  · cases hv
  · simp only [Value.slice.injEq, Option.some.injEq, Addr.mk.injEq, and_true, true_and] at hv
    obtain ⟨rfl, rfl⟩ := hv
    have hc : ∀ j u, (L.flatMap f)[j]? = some u → w.cell? ⟨g, j, none⟩ = some u := fun j u hj => by
      have := h.cells (g := g) rfl j u hj
      rwa [Go.WideShapes.add_plain, Nat.zero_add] at this
    refine ⟨hb, hn, (Array.getElem?_eq_some_iff.1 hg).1, fun i hi => ?_, fun i _ => by simp [World.frozen?, hg], fun j x _ hx m u hm => hc _ _ (flatV_get hf hx hm)⟩
    have hl : i < (L.flatMap f).length := by rw [flatV_len hf]; exact hi
    rw [hc i _ (List.getElem?_eq_getElem hl)]
    rfl
end
theorem flatE_one (L : List En) : ∀ u ∈ L.flatMap enl, u.oneCell' = true := by
  intro u hu
  obtain ⟨x, _, hx⟩ := List.mem_flatMap.1 hu
  simp only [enl, List.mem_cons, List.not_mem_nil, or_false] at hx
  rcases hx with rfl | rfl | rfl | rfl | rfl | rfl | rfl | rfl | rfl | rfl | rfl | rfl | rfl | rfl | rfl | rfl | rfl | rfl | rfl | rfl | rfl | rfl | rfl | rfl | rfl | rfl | rfl | rfl | rfl | rfl | rfl | rfl | rfl | rfl | rfl | rfl | rfl | rfl | rfl | rfl <;> rfl
theorem infoE : (Tryz.prog.info? 104).map (fun i => (i.zero.map (·.cells.size), i.size, i.bytes)) = some (some 40, 40, 320) := by kernel_rfl
theorem infoE_parts : ∃ i z, Tryz.prog.info? 104 = some i ∧ i.zero = some z ∧ i.size = 40 ∧ i.bytes = 320 ∧ z.cells.size = 40 := by
  have h := infoE
  cases hi : Tryz.prog.info? 104 with
  | none => rw [hi] at h; cases h
  | some i =>
    rw [hi] at h
    simp only [Option.map_some, Option.some.injEq, Prod.mk.injEq] at h
    obtain ⟨h1, h2, h3⟩ := h
    cases hz : i.zero with
    | none => rw [hz] at h1; cases h1
    | some z =>
      rw [hz] at h1
      exact ⟨i, z, rfl, hz, h2, h3, by simpa using h1⟩
set_option maxHeartbeats 1000000 in
/-- append of entries onto a row that is owned, whatever is appended. -/
theorem step_appE {ops : Array Oper} {o : Oper} {a : Act} {w : World} {K : Act → World → Prop} {Q : Exit → Act → World → Prop} {E : Prop} (hgd : o.guard = none) (s x : Operand)
    (ho : o.op = .call { callee := .builtin .append, args := #[s, x], argTypes := #[62, 62] })
    (base g0 n cap : Nat) (X : List En) (hs : a.eval s = .slice (some ⟨g0, 0, none⟩) n cap) (hX : X.length = n) (hown : w.ownsRow base 104 40 (.slice (some ⟨g0, 0, none⟩) n cap) n (X.flatMap enl))
    (ad : Option Addr) (m c : Nat) (Y : List En) (hx : a.eval x = .slice ad m c) (hY : Y.length = m) (hnil : ad = none → m = 0 ∧ c = 0) (hc : ∀ b, ad = some b → ∀ j u, (Y.flatMap enl)[j]? = some u → w.cell? (b.add j) = some u) (t : Nat) (ht : n + m = t) (hb : t ≤ 419430) (hbase : base ≤ w.heap.size)
    (h : ∀ g cp w', w'.ownsRow base 104 40 (.slice (some ⟨g, 0, none⟩) t cp) t ((X ++ Y).flatMap enl) → OutV 40 enl w' g t t (X ++ Y) → base ≤ g → g = g0 ∨ w.heap.size ≤ g → t ≤ cp → KeepBut g0 w w' → K (a.put o.dst (.slice (some ⟨g, 0, none⟩) t cp)) w') :
    if Region.wanted o (yielded ops a.tmps) = true then Oper.wp Tryz.prog o a w K Q else E := by
  have hw : Region.wanted o (yielded ops a.tmps) = true := by simp [Region.wanted, hgd]
  rw [if_pos hw]
  subst ht
  obtain ⟨i, z, hi, hz0, hz1, hz2, hz3⟩ := infoE_parts
  have hl : (X ++ Y).length = n + m := by rw [List.length_append, hX, hY]
  cases ad with
  | none =>
    obtain ⟨rfl, rfl⟩ := hnil rfl
    obtain rfl := List.eq_nil_of_length_eq_zero hY
    have hrun := run_append_owned_none (P := Tryz.prog) (w := w) base 62 o.type 104 i 40 Tryz.underlying62 hi _ n _ hown
    unfold Oper.wp
    simp [execOp, ho, resolve, invoke, builtin, hs, hx, hrun, Result.andThen]
    have hown2 : w.ownsRow base 104 40 (.slice (some ⟨g0, 0, none⟩) (n + 0) cap) (n + 0) ((X ++ []).flatMap enl) := by simpa using hown
    obtain ⟨h1, h2, h3⟩ := own_outV enl_len hown2 hl
    exact h g0 cap w hown2 h3 h1 (.inl rfl) h2 (KeepBut.refl _ _)
  | some ad =>
    obtain ⟨v', w', hrun, hown', hgrow, hnz, hlies⟩ := run_append_own_at (P := Tryz.prog) w base 62 o.type 104 i z 40 320 Tryz.underlying62 hi hz0 hz1 hz2 hz3 (by decide) _ n (X.flatMap enl) hown ad m c (Y.flatMap enl) (by rw [flatV_len enl_len, hY]) (hc ad rfl) (flatE_one Y) (by unfold maxLen; omega) (by omega) hbase
    rw [← List.flatMap_append] at hown'
    obtain ⟨g, cp, rfl⟩ : ∃ g cp, v' = .slice (some ⟨g, 0, none⟩) (n + m) cp := by
      rcases hown'.2 with ⟨hv, _⟩ | ⟨g', cap', cur, hv, _⟩
      · have := hnz.1 hv
        cases this.1
      · exact ⟨g', cap', hv⟩
    obtain ⟨h1, h2, h3⟩ := own_outV enl_len hown' hl
    unfold Oper.wp
    simp [execOp, ho, resolve, invoke, builtin, hs, hx, hrun, Result.andThen]
    have hk := h g cp w' hown' h3 h1 (by
      rcases hlies with e | e
      · left; simpa [Value.ownBlock] using e
      · right; have : g = w.heap.size := by simpa [Value.ownBlock] using e
        omega) h2 ⟨hgrow.os, hgrow.tape, hgrow.output, hgrow.size, fun k hk hne => hgrow.block k hk (by simp [Value.ownBlock]; exact hne)⟩
    exact hk
end Go.Proofs.YtpkhnajhamnggaaGreatDoor

namespace Go.Proofs.YtpkhnajhamnggaaGreatDoor
open Go.ChangeShapes Go.WideShapes Go.ChangeAt Go.RowKit
set_option maxRecDepth 100000

set_option maxHeartbeats 1000000 in
theorem step_appNd {ops : Array Oper} {o : Oper} {a : Act} {w : World} {K : Act → World → Prop} {Q : Exit → Act → World → Prop} {E : Prop} (hgd : o.guard = none) (s x : Operand)
    (ho : o.op = .call { callee := .builtin .append, args := #[s, x], argTypes := #[52, 52] })
    (base g0 n cap : Nat) (X : List Int) (hs : a.eval s = .slice (some ⟨g0, 0, none⟩) n cap) (hX : X.length = n) (hown : w.ownsRow base 3 1 (.slice (some ⟨g0, 0, none⟩) n cap) n (ixs X))
    (ad : Option Addr) (m c : Nat) (Y : List Int) (hx : a.eval x = .slice ad m c) (hY : Y.length = m) (hnil : ad = none → m = 0 ∧ c = 0) (hc : ∀ b, ad = some b → ∀ j y, Y[j]? = some y → w.cell? (b.add j) = some (.int .i64 y)) (t : Nat) (ht : n + m = t) (hb : t ≤ 2097152) (hbase : base ≤ w.heap.size)
    (h : ∀ g cp w', w'.ownsRow base 3 1 (.slice (some ⟨g, 0, none⟩) t cp) t (ixs (X ++ Y)) → OutN w' g t t (X ++ Y) → base ≤ g → g = g0 ∨ w.heap.size ≤ g → KeepBut g0 w w' → K (a.put o.dst (.slice (some ⟨g, 0, none⟩) t cp)) w') :
    if Region.wanted o (yielded ops a.tmps) = true then Oper.wp Tryz.prog o a w K Q else E := by
  have hw : Region.wanted o (yielded ops a.tmps) = true := by simp [Region.wanted, hgd]
  rw [if_pos hw]
  subst ht
  obtain ⟨i, hi, hz0, hz1, hz2⟩ := info_parts infoN
  have hl : (X ++ Y).length = n + m := by rw [List.length_append, hX, hY]
  have hbs : ∀ {w : World} {g cp k : Nat} {L : List Int}, w.ownsRow base 3 1 (.slice (some ⟨g, 0, none⟩) k cp) k (ixs L) → base ≤ g := fun h => by
    rcases h.2 with ⟨hv, _⟩ | ⟨g', cap', cur, hv, hb, _⟩
    · cases hv
    · cases hv
      exact hb
  cases ad with
  | none =>
    obtain ⟨rfl, rfl⟩ := hnil rfl
    obtain rfl := List.eq_nil_of_length_eq_zero hY
    have hrun := run_append_owned_none (P := Tryz.prog) (w := w) base 52 o.type 3 i 1 Tryz.underlying52 hi _ n _ hown
    unfold Oper.wp
    simp [execOp, ho, resolve, invoke, builtin, hs, hx, hrun, Result.andThen]
    have hown2 : w.ownsRow base 3 1 (.slice (some ⟨g0, 0, none⟩) (n + 0) cap) (n + 0) (ixs (X ++ [])) := by simpa using hown
    exact h g0 cap w hown2 (own_outN hown2 hl) (hbs hown2) (.inl rfl) (KeepBut.refl _ _)
  | some ad =>
    obtain ⟨v', w', hrun, hown', hgrow, hnz, hlies⟩ := run_append_own_at (P := Tryz.prog) w base 52 o.type 3 i _ 1 8 Tryz.underlying52 hi hz0 hz1 hz2 rfl (by decide) _ n (ixs X) hown ad m c (ixs Y) (by rw [ixs_len, hY, Nat.mul_one]) (fun j u hj => by
      obtain ⟨y, hy, rfl⟩ := ixs_at hj
      exact hc ad rfl j y hy) (ixs_one Y) (by unfold maxLen; omega) (by omega) hbase
    rw [← ixs_app] at hown'
    obtain ⟨g, cp, rfl⟩ : ∃ g cp, v' = .slice (some ⟨g, 0, none⟩) (n + m) cp := by
      rcases hown'.2 with ⟨hv, _⟩ | ⟨g', cap', cur, hv, _⟩
      · have := hnz.1 hv
        cases this.1
      · exact ⟨g', cap', hv⟩
    unfold Oper.wp
    simp [execOp, ho, resolve, invoke, builtin, hs, hx, hrun, Result.andThen]
    have hk := h g cp w' hown' (own_outN hown' hl) (hbs hown') (by
      rcases hlies with e | e
      · left; simpa [Value.ownBlock] using e
      · right; have : g = w.heap.size := by simpa [Value.ownBlock] using e
        omega) ⟨hgrow.os, hgrow.tape, hgrow.output, hgrow.size, fun k hk hne => hgrow.block k hk (by simp [Value.ownBlock]; exact hne)⟩
    exact hk
end Go.Proofs.YtpkhnajhamnggaaGreatDoor

namespace Go.Proofs.YtpkhnajhamnggaaGreatDoor
open Go.ChangeShapes Go.WideShapes Go.ChangeAt Go.RowKit
set_option maxRecDepth 100000

/-- A row of entries of a call's own, which may be lengthened. -/
structure RoomE (w : World) (g n cap : Nat) (E : List En) : Prop where
  own : w.ownsRow 0 104 40 (.slice (some ⟨g, 0, none⟩) n cap) n (E.flatMap enl)
  len : E.length = n
theorem RoomE.lt {w : World} {g n cap : Nat} {E : List En} (h : RoomE w g n cap E) : g < w.heap.size := own_lt h.own
theorem RoomE.ofBlock {w w' : World} {g n cap : Nat} {E : List En} (h : RoomE w g n cap E) (e : w'.heap[g]? = w.heap[g]?) : RoomE w' g n cap E := by
  refine ⟨⟨h.own.1, ?_⟩, h.len⟩
  rcases h.own.2 with ⟨hv, _⟩ | ⟨g', cap', cur, hv, hb, hg, r⟩
  · cases hv
  · cases hv
    exact .inr ⟨g, cap, cur, rfl, hb, e.trans hg, r⟩
theorem RoomE.out {w : World} {g n cap : Nat} {E : List En} (h : RoomE w g n cap E) : OutV 40 enl w g n n E := (own_outV enl_len h.own h.len).2.2
def roomEF (g n cap : Nat) (E : List En) : Fct where
  S := fun k => k = g
  p := fun w => RoomE w g n cap E
  keep := fun _ _ h _ hb => h.ofBlock (hb g h.lt rfl)
theorem Hold.roomE {w0 w : World} {fs : List Fct} (h : Hold w0 w fs) {g n cap : Nat} {E : List En} (hm : roomEF g n cap E ∈ fs) : RoomE w g n cap E := h.at hm

/-- append of entries, outside a region that draws. -/
theorem wpList_appE {ops : Array Oper} {rest : List Oper} {o : Oper} {a : Act} {w : World} {Q : Exit → Act → World → Prop} (hgd : o.guard = none) (s x : Operand)
    (ho : o.op = .call { callee := .builtin .append, args := #[s, x], argTypes := #[62, 62] })
    (g0 n cap : Nat) (X : List En) (hs : a.eval s = .slice (some ⟨g0, 0, none⟩) n cap) (hR : RoomE w g0 n cap X)
    (ad : Option Addr) (m c : Nat) (Y : List En) (hx : a.eval x = .slice ad m c) (hY : Y.length = m) (hnil : ad = none → m = 0 ∧ c = 0) (hc : ∀ b, ad = some b → ∀ j u, (Y.flatMap enl)[j]? = some u → w.cell? (b.add j) = some u) (t : Nat) (ht : n + m = t) (hb : t ≤ 419430)
    (h : ∀ g cp w', RoomE w' g t cp (X ++ Y) → g = g0 ∨ w.heap.size ≤ g → t ≤ cp → KeepBut g0 w w' → wpList Tryz.prog ops Q rest (a.put o.dst (.slice (some ⟨g, 0, none⟩) t cp)) w') :
    wpList Tryz.prog ops Q (o :: rest) a w := by
  refine wpList_plain hgd fun K hK => ?_
  have hk := step_appE (ops := ops) (K := K) (Q := Q) (E := True) hgd s x ho 0 g0 n cap X hs hR.len hR.own ad m c Y hx hY hnil hc t ht hb (Nat.zero_le _) (fun g cp w' h1 _ _ h3 h4 h5 => hK _ _ (h g cp w' ⟨h1, by rw [List.length_append, hR.len, hY, ht]⟩ h3 h4 h5))
  rwa [if_pos (by simp [Region.wanted, hgd])] at hk
theorem step_appEr {ops : Array Oper} {o : Oper} {a : Act} {w : World} {K : Act → World → Prop} {Q : Exit → Act → World → Prop} {E : Prop} (hgd : o.guard = none) (s x : Operand)
    (ho : o.op = .call { callee := .builtin .append, args := #[s, x], argTypes := #[62, 62] })
    (g0 n cap : Nat) (X : List En) (hs : a.eval s = .slice (some ⟨g0, 0, none⟩) n cap) (hR : RoomE w g0 n cap X)
    (ad : Option Addr) (m c : Nat) (Y : List En) (hx : a.eval x = .slice ad m c) (hY : Y.length = m) (hnil : ad = none → m = 0 ∧ c = 0) (hc : ∀ b, ad = some b → ∀ j u, (Y.flatMap enl)[j]? = some u → w.cell? (b.add j) = some u) (t : Nat) (ht : n + m = t) (hb : t ≤ 419430)
    (h : ∀ g cp w', RoomE w' g t cp (X ++ Y) → g = g0 ∨ w.heap.size ≤ g → t ≤ cp → KeepBut g0 w w' → K (a.put o.dst (.slice (some ⟨g, 0, none⟩) t cp)) w') :
    if Region.wanted o (yielded ops a.tmps) = true then Oper.wp Tryz.prog o a w K Q else E :=
  step_appE hgd s x ho 0 g0 n cap X hs hR.len hR.own ad m c Y hx hY hnil hc t ht hb (Nat.zero_le _) (fun g cp w' h1 _ _ h3 h4 h5 => h g cp w' ⟨h1, by rw [List.length_append, hR.len, hY, ht]⟩ h3 h4 h5)
theorem roomE_new (w : World) : RoomE (w.alloc (.cells #[] 104)) w.heap.size 0 0 [] := ⟨own_empty w 0 (Nat.zero_le _) _ _, rfl⟩

/-- append of ints, outside a region that draws, whatever is appended. -/
theorem wpList_appNr {ops : Array Oper} {rest : List Oper} {o : Oper} {a : Act} {w : World} {Q : Exit → Act → World → Prop} (hgd : o.guard = none) (s x : Operand)
    (ho : o.op = .call { callee := .builtin .append, args := #[s, x], argTypes := #[52, 52] })
    (g0 n cap : Nat) (X : List Int) (hs : a.eval s = .slice (some ⟨g0, 0, none⟩) n cap) (hX : X.length = n) (hown : w.ownsRow 0 3 1 (.slice (some ⟨g0, 0, none⟩) n cap) n (ixs X))
    (ad : Option Addr) (m c : Nat) (Y : List Int) (hx : a.eval x = .slice ad m c) (hY : Y.length = m) (hnil : ad = none → m = 0 ∧ c = 0) (hc : ∀ b, ad = some b → ∀ j y, Y[j]? = some y → w.cell? (b.add j) = some (.int .i64 y)) (t : Nat) (ht : n + m = t) (hb : t ≤ 2097152)
    (h : ∀ g cp w', OutN w' g t t (X ++ Y) → g = g0 ∨ w.heap.size ≤ g → KeepBut g0 w w' → wpList Tryz.prog ops Q rest (a.put o.dst (.slice (some ⟨g, 0, none⟩) t cp)) w') :
    wpList Tryz.prog ops Q (o :: rest) a w := by
  refine wpList_plain hgd fun K hK => ?_
  have hk := step_appNd (ops := ops) (K := K) (Q := Q) (E := True) hgd s x ho 0 g0 n cap X hs hX hown ad m c Y hx hY hnil hc t ht hb (Nat.zero_le _) (fun g cp w' _ h2 _ h4 h5 => hK _ _ (h g cp w' h2 h4 h5))
  rwa [if_pos (by simp [Region.wanted, hgd])] at hk

theorem RoomN.ofBlk {w w' : World} {g n cap : Nat} {L : List Int} (h : RoomN w g n cap L) (e : w'.heap[g]? = w.heap[g]?) : RoomN w' g n cap L := by
  refine ⟨h.own.1, ?_⟩
  rcases h.own.2 with ⟨hv, _⟩ | ⟨g', cap', cur, hv, hb, hg, r⟩
  · cases hv
  · cases hv
    exact .inr ⟨g, cap, cur, rfl, hb, e.trans hg, r⟩
def rmNF (g n cap : Nat) (L : List Int) : Fct where
  S := fun k => k = g
  p := fun w => RoomN w g n cap L
  keep := fun _ _ h _ hb => h.ofBlk (hb g h.lt rfl)
theorem Hold.rmN {w0 w : World} {fs : List Fct} (h : Hold w0 w fs) {g n cap : Nat} {L : List Int} (hm : rmNF g n cap L ∈ fs) : RoomN w g n cap L := h.at hm
theorem rmN_new (w : World) : RoomN (w.alloc (.cells #[] 3)) w.heap.size 0 0 [] := ⟨own_empty w 0 (Nat.zero_le _) _ _⟩
theorem SliceN.flat {B : Nat} {w : World} {k o n : Nat} {J : List Int} (h : SliceN B w (some ⟨k, o, none⟩) n J) : ∀ j y, J[j]? = some y → w.cell? ((⟨k, o, none⟩ : Addr).add j) = some (.int .i64 y) := fun j y hj => by
  have hjl := (List.getElem?_eq_some_iff.1 hj).1
  rw [h.2.1] at hjl
  obtain ⟨k', o', x, ha, _, hx, hat⟩ := h.at hjl
  cases ha
  rw [hj] at hx
  cases hx
  rw [Go.WideShapes.add_plain]
  exact hat

theorem KeepBut.low {w w' w0 : World} {g : Nat} (h : KeepBut g w w') (hg : w0.heap.size ≤ g) (hb : Below w0.heap.size w0 w) : Below w0.heap.size w0 w' := hb.trans (h.below hg hb.size)

theorem cloneE_any (kb o n c : Nat) (E : List En) (hn : n ≤ 262144) (w : World) (hS : SliceV 40 enl w.heap.size w (some ⟨kb, o, none⟩) n E) :
    Calls Tryz.prog 109 #[.slice (some ⟨kb, o, none⟩) n c] w fun e w' => ∃ g cp, e = .returned (.slice (some ⟨g, 0, none⟩) n cp) ∧ RoomE w' g n cp E ∧ n ≤ cp ∧ w.heap.size ≤ g ∧ Below w.heap.size w w' := by
  have hlr := hid_mk hS.2.1
  have S := hid_mk hS
  clear hS
  have hnil : ∀ W, (binOp .eql 62 (.slice (some ⟨kb, o, none⟩) n c) (.slice none 0 0)).run Tryz.prog W = .ok (.bool false) W := fun W => Lib.run_eql_slice_some_nil W _ _ _ Tryz.underlying62
  go_enter Tryz.func109, Tryz.ntmps109
  go_upto_region 3 with fail
  have S2 := hid_mk (((S.out.keep ((Below.refl w.heap.size w).alloc (Nat.le_refl _) (.cells #[] 104))).mono (show w.heap.size ≤ (w.alloc (.cells #[] 104)).heap.size by simp)).flat enl_len (by decide))
  have R2 := hid_mk (roomE_new w)
  have B2 := hid_mk ((Below.refl w.heap.size w).alloc (Nat.le_refl _) (.cells #[] 104))
  go_wp2_with (at_builtin; refine wpList_appE rfl _ _ rfl w.heap.size 0 0 [] rfl R2.out (some ⟨kb, o, none⟩) n c E rfl hlr.out (fun h => by cases h) (fun b hb => by cases hb; exact S2.out) n (Nat.zero_add n) (by omega) ?_; intro g cp w' hO hg hcp hk)
  go_wp2
  go_ret
  refine ⟨g, cp, rfl, by simpa using hO, hcp, ?_, hk.low (Nat.le_refl _) B2.out⟩
  rcases hg with rfl | hg
  · exact Nat.le_refl _
  · rw [World.size_alloc] at hg
    omega

theorem cloneN_any (kb o n c : Nat) (J : List Int) (hn : n ≤ 1048576) (w : World) (hS : SliceN w.heap.size w (some ⟨kb, o, none⟩) n J) :
    Calls Tryz.prog 110 #[.slice (some ⟨kb, o, none⟩) n c] w fun e w' => ∃ g cp, e = .returned (.slice (some ⟨g, 0, none⟩) n cp) ∧ OutN w' g n n J ∧ w.heap.size ≤ g ∧ Below w.heap.size w w' := by
  have hlr := hid_mk hS.2.1
  have S := hid_mk hS
  clear hS
  have hnil : ∀ W, (binOp .eql 52 (.slice (some ⟨kb, o, none⟩) n c) (.slice none 0 0)).run Tryz.prog W = .ok (.bool false) W := fun W => Lib.run_eql_slice_some_nil W _ _ _ Tryz.underlying52
  go_enter Tryz.func110, Tryz.ntmps110
  go_upto_region 3 with fail
  have S2 : Hid (∀ b : Addr, (some ⟨kb, o, none⟩ : Option Addr) = some b → ∀ j y, J[j]? = some y → (w.alloc (.cells #[] 3)).cell? (b.add j) = some (.int .i64 y)) := fun b hb j y hj => by
    cases hb
    exact (S.out.keep ((Below.refl w.heap.size w).alloc (Nat.le_refl _) (.cells #[] 3))).flat j y hj
  have R2 := hid_mk (own_empty w 0 (Nat.zero_le _) 3 1)
  have B2 := hid_mk ((Below.refl w.heap.size w).alloc (Nat.le_refl _) (.cells #[] 3))
  go_wp2_with (at_builtin; refine wpList_appNr rfl _ _ rfl w.heap.size 0 0 [] rfl rfl R2.out (some ⟨kb, o, none⟩) n c J rfl hlr.out (fun h => by cases h) S2.out n (Nat.zero_add n) (by omega) ?_; intro g cp w' hO hg hk)
  go_wp2
  go_ret
  refine ⟨g, cp, rfl, by simpa using hO, ?_, hk.low (Nat.le_refl _) B2.out⟩
  rcases hg with rfl | hg
  · exact Nat.le_refl _
  · rw [World.size_alloc] at hg
    omega
end Go.Proofs.YtpkhnajhamnggaaGreatDoor
