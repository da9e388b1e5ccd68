/- Slices of places; toInsS, eqInsS and szInsS of the laws. No condition but that the list is no longer than the law lets it be. -/
import Derived.Test.YtpkhnajhamnggaaDoorInsO
import Derived.Laws.MakeOwn
import Derived.Laws.IdiomCopy
import Derived.OwnWalk
namespace Go.Proofs.YtpkhnajhamnggaaDoor
open Go.ChangeShapes Go.WideShapes Go.ChangeAt Go.RowKit

/-- A place. -/
structure In where
  o : Int
  r : Int
  a : Int
  b : Int
  n : Int

/-- A place lies in block k from cell o on. -/
structure InsAt (w : World) (k o : Nat) (x : In) : Prop where
  c0 : w.cell? ⟨k, o, none⟩ = some (.int .i64 x.o)
  c1 : w.cell? ⟨k, o + 1, none⟩ = some (.int .i64 x.r)
  c2 : w.cell? ⟨k, o + 2, none⟩ = some (.int .i64 x.a)
  c3 : w.cell? ⟨k, o + 3, none⟩ = some (.int .i64 x.b)
  c4 : w.cell? ⟨k, o + 4, none⟩ = some (.int .i64 x.n)
theorem InsAt.keep {B : Nat} {w w' : World} {k o : Nat} {x : In} (h : InsAt w k o x) (hb : Below B w w') (hk : k < B) : InsAt w' k o x :=
  ⟨(hb.cell (p := ⟨k, o, none⟩) hk).trans h.c0, (hb.cell (p := ⟨k, o + 1, none⟩) hk).trans h.c1, (hb.cell (p := ⟨k, o + 2, none⟩) hk).trans h.c2, (hb.cell (p := ⟨k, o + 3, none⟩) hk).trans h.c3, (hb.cell (p := ⟨k, o + 4, none⟩) hk).trans h.c4⟩

/-- A slice of the places L, in a block below B. -/
def SliceI (B : Nat) (w : World) (a : Option Addr) (len : Nat) (L : List In) : Prop :=
  len ≤ maxLen ∧ L.length = len ∧ (len = 0 ∨ ∃ k o, a = some ⟨k, o, none⟩ ∧ k < B ∧ ∀ j x, L[j]? = some x → InsAt w k (o + j * 5) x)
theorem SliceI.keep {B : Nat} {w w' : World} {a : Option Addr} {len : Nat} {L : List In} (h : SliceI B w a len L) (hb : Below B w w') : SliceI B w' a len L := by
  refine ⟨h.1, h.2.1, ?_⟩
  rcases h.2.2 with h0 | ⟨k, o, ha, hk, hc⟩
  · exact .inl h0
  · exact .inr ⟨k, o, ha, hk, fun j x hj => (hc j x hj).keep hb hk⟩
theorem SliceI.mono {B C : Nat} {w : World} {a : Option Addr} {len : Nat} {L : List In} (h : SliceI B w a len L) (hB : B ≤ C) : SliceI C w a len L := by
  refine ⟨h.1, h.2.1, ?_⟩
  rcases h.2.2 with h0 | ⟨k, o, ha, hk, hc⟩
  · exact .inl h0
  · exact .inr ⟨k, o, ha, by omega, hc⟩
theorem SliceI.below {B : Nat} {w w' : World} {a : Option Addr} {len : Nat} {L : List In} (h : SliceI B w a len L) (hb : Below w.heap.size w w') (hB : B ≤ w.heap.size) : SliceI B w' a len L := h.keep (hb.mono hB)
theorem SliceI.at {B : Nat} {w : World} {a : Option Addr} {len : Nat} {L : List In} (h : SliceI B w a len L) {j : Nat} (hj : j < len) :
    ∃ k o x, a = some ⟨k, o, none⟩ ∧ k < B ∧ L[j]? = some x ∧ InsAt w k (o + j * 5) x := by
  rcases h.2.2 with h0 | ⟨k, o, ha, hk, hc⟩
  · omega
  · have hl : j < L.length := by rw [h.2.1]; exact hj
    exact ⟨k, o, L[j], ha, hk, List.getElem?_eq_getElem hl, hc j _ (List.getElem?_eq_getElem hl)⟩

/-- The cells of a place. -/
def In.vs (x : In) : List Value := [.int .i64 x.o, .int .i64 x.r, .int .i64 x.a, .int .i64 x.b, .int .i64 x.n]

/-- A row of len places in block q, which may be written; the first k are those of L. -/
structure OutI (w : World) (q len k : Nat) (L : List In) : Prop where
  lt : q < w.heap.size
  has : ∀ i, i < len * 5 → (w.cell? ⟨q, i, none⟩).isSome = true
  fr : ∀ i, i < len * 5 → w.frozen? ⟨q, i, none⟩ = false
  wd : ∀ j x, j < k → L[j]? = some x → InsAt w q (j * 5) x

theorem OutI.below {w w' : World} {q len k : Nat} {L : List In} (h : OutI w q len k L) (hb : Below w.heap.size w w') : OutI w' q len k L :=
  ⟨Nat.lt_of_lt_of_le h.lt hb.size, fun i hi => by rw [hb.cell (p := ⟨q, i, none⟩) h.lt]; exact h.has i hi,
    fun i hi => by rw [(KeepBut.ofBelow (q := w.heap.size) hb).frozen (p := ⟨q, i, none⟩) h.lt (Nat.ne_of_lt h.lt)]; exact h.fr i hi, fun j x hj hx => (h.wd j x hj hx).keep hb h.lt⟩

theorem InsAt.of_vs {w : World} {q o : Nat} {x : In} (h : ∀ j v, x.vs[j]? = some v → w.cell? ⟨q, o + j, none⟩ = some v) : InsAt w q o x :=
  ⟨h 0 _ rfl, h 1 _ rfl, h 2 _ rfl, h 3 _ rfl, h 4 _ rfl⟩
theorem InsAt.vs {w : World} {q o : Nat} {x : In} (h : InsAt w q o x) : ∀ j v, x.vs[j]? = some v → w.cell? ⟨q, o + j, none⟩ = some v := by
  intro j v hj
  match j, hj with
  | 0, hj => cases hj; exact h.c0
  | 1, hj => cases hj; exact h.c1
  | 2, hj => cases hj; exact h.c2
  | 3, hj => cases hj; exact h.c3
  | 4, hj => cases hj; exact h.c4
  | j + 5, hj => simp [In.vs] at hj

theorem OutI.set {w : World} {q len k : Nat} {L : List In} {x : In} (h : OutI w q len k L) (hk : k < len) (hx : L[k]? = some x) : OutI (w.setCells q (k * 5) x.vs) q len (k + 1) L := by
  have hl : x.vs.length = 5 := rfl
  have out : ∀ i, (i < k * 5 ∨ k * 5 + 5 ≤ i) → (w.setCells q (k * 5) x.vs).cell? ⟨q, i, none⟩ = w.cell? ⟨q, i, none⟩ := fun i hi =>
    World.cell?_setCells_out q x.vs (k * 5) w ⟨q, i, none⟩ (fun _ _ => by rw [hl]; exact hi)
  have inn : ∀ j (hj : j < x.vs.length), (w.setCells q (k * 5) x.vs).cell? ⟨q, k * 5 + j, none⟩ = some x.vs[j] :=
    World.cell?_setCells_in q x.vs (k * 5) w (fun j hj => h.has _ (by rw [hl] at hj; omega))
  refine ⟨?_, fun i hi => ?_, fun i hi => ?_, fun j y hj hy => ?_⟩
  · have := h.lt
    simp only [In.vs, World.setCells, World.size_setCell]
    exact this
  · by_cases hio : i < k * 5 ∨ k * 5 + 5 ≤ i
    · rw [out i hio]; exact h.has i hi
    · have := inn (i - k * 5) (by rw [hl]; omega)
      rw [show k * 5 + (i - k * 5) = i by omega] at this
      rw [this]; rfl
  · rw [World.frozen?_setCells]; exact h.fr i hi
  · by_cases hjk : j < k
    · refine InsAt.of_vs fun m v hm => ?_
      have hm6 : m < 5 := (List.getElem?_eq_some_iff.1 hm).1
      rw [out _ (by omega)]
      exact (h.wd j y hjk hy).vs m v hm
    · obtain rfl : j = k := by omega
      obtain rfl : x = y := by rw [hx] at hy; exact Option.some.inj hy
      refine InsAt.of_vs fun m v hm => ?_
      obtain ⟨hm6, rfl⟩ := List.getElem?_eq_some_iff.1 hm
      exact inn m hm6

theorem OutI.slice {w : World} {q len : Nat} {L : List In} (h : OutI w q len len L) (hl : L.length = len) (hm : len ≤ maxLen) : SliceI w.heap.size w (some ⟨q, 0, none⟩) len L :=
  ⟨hm, hl, .inr ⟨q, 0, rfl, h.lt, fun j x hj => by
    have hj' := (List.getElem?_eq_some_iff.1 hj).1
    rw [Nat.zero_add]
    exact h.wd j x (by omega) hj⟩⟩

theorem infoI : (Tryd.prog.info? 29).map (fun i => (i.zero, i.size, i.bytes)) = some (some (.agg #[.int .i64 0, .int .i64 0, .int .i64 0, .int .i64 0, .int .i64 0]), 5, 40) := by kernel_rfl

theorem made_outI (w : World) (len : Nat) (z : Array Value) (T : TypeId) (L : List In) : OutI (w.alloc (.cells (madeCells z (len * 5)) T)) w.heap.size len 0 L :=
  ⟨by simp, fun i hi => by rw [World.cell?_alloc_new]; simp [madeCells, hi], fun i _ => by simp, fun j _ hj => absurd hj (Nat.not_lt_zero _)⟩

theorem run_makeInss (len : Nat) (hl : len ≤ 1048576) (w : World) :
    (Instr.makeSlice 32 (.int .i64 (len : Int)) (.int .i64 (len : Int))).run Tryd.prog w = .ok (.slice (some ⟨w.heap.size, 0, none⟩) len len) (w.alloc (.cells (madeCells #[.int .i64 0, .int .i64 0, .int .i64 0, .int .i64 0, .int .i64 0] (len * 5)) 29)) := by
  obtain ⟨i, hi, h0, h1, h2⟩ := info_parts infoI
  have := run_makeSlice (w := w) 32 29 i _ Tryd.underlying32 hi h0 .i64 .i64 (len : Int) (len : Int) (by omega) (by omega) (by rw [h1]; simp; omega) (by rw [h2]; omega) (by omega)
  rw [this, h1]
  simp [Value.cells]

set_option maxRecDepth 100000 in
set_option maxHeartbeats 2000000 in
theorem toInsS_any (a : Option Addr) (len cap : Nat) (L : List In) (w : World) (hl : len ≤ 1048576) (hS : SliceI w.heap.size w a len L) :
    Calls Tryd.prog 6 #[.slice a len cap] w fun e w' => ∃ q, e = .returned (.slice (some ⟨q, 0, none⟩) len len) ∧ SliceI w'.heap.size w' (some ⟨q, 0, none⟩) len L ∧ Below w.heap.size w w' := by
  have S : Hid (SliceI w.heap.size w a len L) := hS
  have hmk := run_makeInss len hl
  have hL := hS.2.1
  clear hS
  go_enter Tryd.func6, Tryd.ntmps6
  go_wp2
  go_loopw [4] (fun c wr => ∃ k : Nat, k ≤ len ∧ c = .int .i64 k ∧ Hid (OutI wr w.heap.size len k L) ∧ Hid (Below w.heap.size w wr)) (fun c _ => len - (intOf c).toNat)
  case atStart => exact ⟨0, Nat.zero_le _, rfl, made_outI _ _ _ _ _, (Below.refl _ _).alloc (Nat.le_refl _) _⟩
  case round =>
    clear hmk
    obtain ⟨k, hk, rfl, hO, hB⟩ := hrel
    by_cases hlt : k < len
    · obtain ⟨kb, o, x, rfl, hkb, hx, hat⟩ := (S.out.keep hB.out).at hlt
      have zB := hB.out.size
      have hX' : Hid _ := hx
      obtain ⟨d0, d1, d2, d3, d4⟩ := hat
      clear hx
      go_wp2_with fail
      refine (toIns_any x.o x.r x.a x.b x.n _).mono ?_
      rintro e w1 ⟨rfl, hb1⟩
      have O1 : Hid (OutI w1 w.heap.size len k L) := hO.out.below hb1
      have K1 : Hid (Below w.heap.size w w1) := hB.out.trans (hb1.mono zB)
      clear hb1 d0 d1 d2 d3 d4
      obtain ⟨v0, e0⟩ := Option.isSome_iff_exists.1 (O1.out.has (k * 5) (by omega))
      obtain ⟨v1, e1⟩ := Option.isSome_iff_exists.1 (O1.out.has (k * 5 + 1) (by omega))
      obtain ⟨v2, e2⟩ := Option.isSome_iff_exists.1 (O1.out.has (k * 5 + 2) (by omega))
      obtain ⟨v3, e3⟩ := Option.isSome_iff_exists.1 (O1.out.has (k * 5 + 3) (by omega))
      obtain ⟨v4, e4⟩ := Option.isSome_iff_exists.1 (O1.out.has (k * 5 + 4) (by omega))
      have f0 := O1.out.fr (k * 5) (by omega)
      have f1 := O1.out.fr (k * 5 + 1) (by omega)
      have f2 := O1.out.fr (k * 5 + 2) (by omega)
      have f3 := O1.out.fr (k * 5 + 3) (by omega)
      have f4 := O1.out.fr (k * 5 + 4) (by omega)
      go_wp2
      go_roundw
      case rel =>
        refine ⟨k + 1, hlt, by go_num, O1.out.set hlt hX'.out, hid_mk ?_⟩
        repeat' (first | (with_reducible exact K1.out) | (refine Below.setCell ?_ (by show w.heap.size ≤ w.heap.size; exact Nat.le_refl _) _))
      case measure => simp [intOf]; omega
    · obtain rfl : k = len := by omega
      go_wp2
      go_ret
      exact ⟨_, rfl, hO.out.slice hL (by unfold maxLen; omega), hB.out⟩

/-- A place in two places, beside what was there at first. -/
structure Two5 (w0 w : World) (k o k' o' : Nat) (x : In) : Prop where
  a : InsAt w k o x
  b : InsAt w k' o' x
  bel : Below w0.heap.size w0 w
  lt : k < w.heap.size
  lt' : k' < w.heap.size
section
variable {w0 w w' : World} {k o k' o' : Nat} {x : In}
theorem Two5.next (h : Two5 w0 w k o k' o' x) (hb : Below w.heap.size w w') : Two5 w0 w' k o k' o' x :=
  ⟨h.a.keep hb h.lt, h.b.keep hb h.lt', h.bel.trans (hb.mono h.bel.size), Nat.lt_of_lt_of_le h.lt hb.size, Nat.lt_of_lt_of_le h.lt' hb.size⟩
theorem Two5.drew (h : Two5 w0 w k o k' o' x) : Two5 w0 w.drew k o k' o' x := h.next ((Below.refl _ _).drew)
theorem Two5.all (h : Two5 w0 w k o k' o' x) :
    w.cell? ⟨k, o, none⟩ = some (.int .i64 x.o) ∧ w.cell? ⟨k, o + 1, none⟩ = some (.int .i64 x.r) ∧ w.cell? ⟨k, o + 2, none⟩ = some (.int .i64 x.a) ∧ w.cell? ⟨k, o + 3, none⟩ = some (.int .i64 x.b) ∧ w.cell? ⟨k, o + 4, none⟩ = some (.int .i64 x.n) ∧ w.cell? ⟨k', o', none⟩ = some (.int .i64 x.o) ∧ w.cell? ⟨k', o' + 1, none⟩ = some (.int .i64 x.r) ∧ w.cell? ⟨k', o' + 2, none⟩ = some (.int .i64 x.a) ∧ w.cell? ⟨k', o' + 3, none⟩ = some (.int .i64 x.b) ∧ w.cell? ⟨k', o' + 4, none⟩ = some (.int .i64 x.n) :=
  ⟨h.a.c0, h.a.c1, h.a.c2, h.a.c3, h.a.c4, h.b.c0, h.b.c1, h.b.c2, h.b.c3, h.b.c4⟩
end

set_option maxRecDepth 100000 in
set_option maxHeartbeats 2000000 in
theorem eqInsS_same (a a' : Option Addr) (len cap cap' : Nat) (L : List In) (w : World) (hS : SliceI w.heap.size w a len L) (hS' : SliceI w.heap.size w a' len L) :
    Calls Tryd.prog 10 #[.slice a len cap, .slice a' len cap'] w fun e w' => e = .returned (.bool true) ∧ Below w.heap.size w w' := by
  have S : Hid (SliceI w.heap.size w a len L) := hS
  have S' : Hid (SliceI w.heap.size w a' len L) := hS'
  have hlen := hS.1
  unfold maxLen at hlen
  clear hS hS'
  go_enter Tryd.func10, Tryd.ntmps10
  go_wp2
  go_loopw [5] (fun c wr => ∃ k : Nat, k ≤ len ∧ c = .int .i64 k ∧ Hid (Below w.heap.size w wr)) (fun c _ => len - (intOf c).toNat)
  case atStart => exact ⟨0, Nat.zero_le _, rfl, Below.refl _ _⟩
  case round =>
    obtain ⟨k, hk, rfl, hB⟩ := hrel
    by_cases hlt : k < len
    · obtain ⟨kb, o, x, rfl, hkb, hx, hat⟩ := (S.out.keep hB.out).at hlt
      obtain ⟨kb', o', x', rfl, hkb', hx', hat'⟩ := (S'.out.keep hB.out).at hlt
      obtain rfl : x = x' := by rw [hx] at hx'; exact Option.some.inj hx'
      have zB := hB.out.size
      have P0 : Hid (Two5 w wr kb (o + k * 5) kb' (o' + k * 5) x) := ⟨hat, hat', hB.out, by omega, by omega⟩
      obtain ⟨d0, d1, d2, d3, d4⟩ := hat
      obtain ⟨e0, e1, e2, e3, e4⟩ := hat'
      clear hx hx'
      go_wp2_with fail
      have D0 : Hid _ := P0.out.drew
      go_region_held3 (fun w' => w'.cell? ⟨kb, o + k * 5, none⟩ = some (.int .i64 x.o) ∧ w'.cell? ⟨kb, o + k * 5 + 1, none⟩ = some (.int .i64 x.r) ∧ w'.cell? ⟨kb, o + k * 5 + 2, none⟩ = some (.int .i64 x.a) ∧ w'.cell? ⟨kb, o + k * 5 + 3, none⟩ = some (.int .i64 x.b) ∧ w'.cell? ⟨kb, o + k * 5 + 4, none⟩ = some (.int .i64 x.n) ∧ w'.cell? ⟨kb', o' + k * 5, none⟩ = some (.int .i64 x.o) ∧ w'.cell? ⟨kb', o' + k * 5 + 1, none⟩ = some (.int .i64 x.r) ∧ w'.cell? ⟨kb', o' + k * 5 + 2, none⟩ = some (.int .i64 x.a) ∧ w'.cell? ⟨kb', o' + k * 5 + 3, none⟩ = some (.int .i64 x.b) ∧ w'.cell? ⟨kb', o' + k * 5 + 4, none⟩ = some (.int .i64 x.n)) (first | (with_reducible exact D0.out.all) | (with_reducible exact P1.out.all) | fail)
        (first
          | (go_at_call 9; refine (eqIns_same x.o x.r x.a x.b x.n _).mono ?_; rintro e w1 ⟨rfl, hb1⟩; have P1 : Hid _ := D0.out.next hb1; clear hb1))
      clear d0 d1 d2 d3 d4 e0 e1 e2 e3 e4 P0 D0 hB
      go_wp2
      go_roundw
      case rel => exact ⟨k + 1, hlt, by go_num, P1.out.bel⟩
      case measure => simp [intOf]; omega
    · go_wp2
      go_ret
      exact ⟨rfl, hB.out⟩

set_option maxHeartbeats 400000 in
theorem szInsS_any (a : Option Addr) (len cap : Nat) (w : World) (hl : len ≤ maxLen) :
    Calls Tryd.prog 4 #[.slice a len cap, .int .i64 1048576] w fun e w' => e = .returned (.int .i64 (if len ≤ 1048576 then 1048576 - (len : Int) else -1)) ∧ w' = w := by
  unfold maxLen at hl
  by_cases h : len ≤ 1048576
  · rw [if_pos h]
    go_enter Tryd.func4, Tryd.ntmps4
    go_wp2
    go_ret
    exact ⟨rfl, rfl⟩
  · rw [if_neg h]
    go_enter Tryd.func4, Tryd.ntmps4
    go_wp2
    go_ret
    exact ⟨rfl, rfl⟩
end Go.Proofs.YtpkhnajhamnggaaDoor
