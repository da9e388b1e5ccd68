/- toWordS, eqWordS and szWordS of the laws. No condition but that the list is no longer than the law lets it be. -/
import Derived.Test.YtneohabkoighcaaGreatWordL
import Derived.Laws.MakeOwn
import Derived.Laws.IdiomCopy
import Derived.OwnWalk
namespace Go.Proofs.YtneohabkoighcaaGreat
open Go.ChangeShapes Go.WideShapes Go.ChangeAt Go.RowKit

/-- The cells of a word. -/
def Wd.vs (x : Wd) : List Value := [.int .i64 x.n, .bool x.i, .int .i64 x.b, .int .i64 x.t, .int .i64 x.p, .int .i64 x.s]

/-- A row of len words in block q, which may be written; the first k are those of L. -/
structure OutW (w : World) (q len k : Nat) (L : List Wd) : Prop where
  lt : q < w.heap.size
  has : ∀ i, i < len * 6 → (w.cell? ⟨q, i, none⟩).isSome = true
  fr : ∀ i, i < len * 6 → w.frozen? ⟨q, i, none⟩ = false
  wd : ∀ j x, j < k → L[j]? = some x → WordAt w q (j * 6) x

theorem OutW.below {w w' : World} {q len k : Nat} {L : List Wd} (h : OutW w q len k L) (hb : Below w.heap.size w w') : OutW w' q len k L :=
  ⟨Nat.lt_of_lt_of_le h.lt hb.size, fun i hi => by rw [hb.cell (p := ⟨q, i, none⟩) h.lt]; exact h.has i hi,
    fun i hi => by rw [(KeepBut.ofBelow (q := w.heap.size) hb).frozen (p := ⟨q, i, none⟩) h.lt (Nat.ne_of_lt h.lt)]; exact h.fr i hi, fun j x hj hx => (h.wd j x hj hx).keep hb h.lt⟩

theorem WordAt.of_vs {w : World} {q o : Nat} {x : Wd} (h : ∀ j v, x.vs[j]? = some v → w.cell? ⟨q, o + j, none⟩ = some v) : WordAt w q o x :=
  ⟨h 0 _ rfl, h 1 _ rfl, h 2 _ rfl, h 3 _ rfl, h 4 _ rfl, h 5 _ rfl⟩
theorem WordAt.vs {w : World} {q o : Nat} {x : Wd} (h : WordAt w q o x) : ∀ j v, x.vs[j]? = some v → w.cell? ⟨q, o + j, none⟩ = some v := by
  intro j v hj
  match j, hj with
  | 0, hj => cases hj; exact h.c0
  | 1, hj => cases hj; exact h.c1
  | 2, hj => cases hj; exact h.c2
  | 3, hj => cases hj; exact h.c3
  | 4, hj => cases hj; exact h.c4
  | 5, hj => cases hj; exact h.c5
  | j + 6, hj => simp [Wd.vs] at hj

theorem OutW.set {w : World} {q len k : Nat} {L : List Wd} {x : Wd} (h : OutW w q len k L) (hk : k < len) (hx : L[k]? = some x) : OutW (w.setCells q (k * 6) x.vs) q len (k + 1) L := by
  have hl : x.vs.length = 6 := rfl
  have out : ∀ i, (i < k * 6 ∨ k * 6 + 6 ≤ i) → (w.setCells q (k * 6) x.vs).cell? ⟨q, i, none⟩ = w.cell? ⟨q, i, none⟩ := fun i hi =>
    World.cell?_setCells_out q x.vs (k * 6) w ⟨q, i, none⟩ (fun _ _ => by rw [hl]; exact hi)
  have inn : ∀ j (hj : j < x.vs.length), (w.setCells q (k * 6) x.vs).cell? ⟨q, k * 6 + j, none⟩ = some x.vs[j] :=
    World.cell?_setCells_in q x.vs (k * 6) w (fun j hj => h.has _ (by rw [hl] at hj; omega))
  refine ⟨?_, fun i hi => ?_, fun i hi => ?_, fun j y hj hy => ?_⟩
  · have := h.lt
    simp only [Wd.vs, World.setCells, World.size_setCell]
    exact this
  · by_cases hio : i < k * 6 ∨ k * 6 + 6 ≤ i
    · rw [out i hio]; exact h.has i hi
    · have := inn (i - k * 6) (by rw [hl]; omega)
      rw [show k * 6 + (i - k * 6) = i by omega] at this
      rw [this]; rfl
  · rw [World.frozen?_setCells]; exact h.fr i hi
  · by_cases hjk : j < k
    · refine WordAt.of_vs fun m v hm => ?_
      have hm6 : m < 6 := (List.getElem?_eq_some_iff.1 hm).1
      rw [out _ (by omega)]
      exact (h.wd j y hjk hy).vs m v hm
    · obtain rfl : j = k := by omega
      obtain rfl : x = y := by rw [hx] at hy; exact Option.some.inj hy
      refine WordAt.of_vs fun m v hm => ?_
      obtain ⟨hm6, rfl⟩ := List.getElem?_eq_some_iff.1 hm
      exact inn m hm6

theorem OutW.slice {w : World} {q len : Nat} {L : List Wd} (h : OutW w q len len L) (hl : L.length = len) (hm : len ≤ maxLen) : SliceW w.heap.size w (some ⟨q, 0, none⟩) len L :=
  ⟨hm, hl, .inr ⟨q, 0, rfl, h.lt, fun j x hj => by
    have hj' := (List.getElem?_eq_some_iff.1 hj).1
    rw [Nat.zero_add]
    exact h.wd j x (by omega) hj⟩⟩

/-- A word in block r, a slice of words that was there at first, and nothing that was there turned. -/
structure Une (w0 : World) (r : Nat) (n : Int) (i : Bool) (b t p s : Int) (a : Option Addr) (len : Nat) (L : List Wd) (w : World) : Prop where
  six : Six w r n i b t p s
  sl : SliceW w0.heap.size w a len L
  bel : Below w0.heap.size w0 w
theorem Une.next {w0 w w' : World} {r : Nat} {n : Int} {i : Bool} {b t p s : Int} {a : Option Addr} {len : Nat} {L : List Wd} (h : Une w0 r n i b t p s a len L w) (hb : Below w.heap.size w w') : Une w0 r n i b t p s a len L w' :=
  ⟨h.six.below hb, h.sl.keep (hb.mono h.bel.size), h.bel.trans (hb.mono h.bel.size)⟩

theorem infoW : (Tryz.prog.info? 28).map (fun i => (i.zero, i.size, i.bytes)) = some (some (.agg #[.int .i64 0, .bool false, .int .i64 0, .int .i64 0, .int .i64 0, .int .i64 0]), 6, 48) := by kernel_rfl

theorem made_out (w : World) (len : Nat) (z : Array Value) (T : TypeId) (L : List Wd) : OutW (w.alloc (.cells (madeCells z (len * 6)) T)) w.heap.size len 0 L :=
  ⟨by simp, fun i hi => by rw [World.cell?_alloc_new]; simp [madeCells, hi], fun i _ => by simp, fun j _ hj => absurd hj (Nat.not_lt_zero _)⟩

theorem run_makeWords (len : Nat) (hl : len ≤ 1048576) (w : World) :
    (Instr.makeSlice 24 (.int .i64 (len : Int)) (.int .i64 (len : Int))).run Tryz.prog w = .ok (.slice (some ⟨w.heap.size, 0, none⟩) len len) (w.alloc (.cells (madeCells #[.int .i64 0, .bool false, .int .i64 0, .int .i64 0, .int .i64 0, .int .i64 0] (len * 6)) 28)) := by
  obtain ⟨i, hi, h0, h1, h2⟩ := info_parts infoW
  have := run_makeSlice (w := w) 24 28 i _ Tryz.underlying24 hi h0 .i64 .i64 (len : Int) (len : Int) (by omega) (by omega) (by rw [h1]; simp; omega) (by rw [h2]; omega) (by omega)
  rw [this, h1]
  simp [Value.cells]

set_option maxRecDepth 100000 in
set_option maxHeartbeats 2000000 in
theorem toWordS_own (a : Option Addr) (len cap : Nat) (L : List Wd) (w : World) (hl : len ≤ 1048576) (hS : SliceW w.heap.size w a len L) :
    Calls Tryz.prog 55 #[.slice a len cap] w fun e w' => ∃ q, e = .returned (.slice (some ⟨q, 0, none⟩) len len) ∧ w.heap.size ≤ q ∧ OutW w' q len len L ∧ Below w.heap.size w w' := by
  have S : Hid (SliceW w.heap.size w a len L) := hS
  have hmk := run_makeWords len hl
  have hL := hS.2.1
  clear hS
  go_enter Tryz.func55, Tryz.ntmps55
  go_wp2
  go_loopw [4] (fun c wr => ∃ k : Nat, k ≤ len ∧ c = .int .i64 k ∧ Hid (OutW wr w.heap.size len k L) ∧ Hid (Below w.heap.size w wr)) (fun c _ => len - (intOf c).toNat)
  case atStart => exact ⟨0, Nat.zero_le _, rfl, made_out _ _ _ _ _, (Below.refl _ _).alloc (Nat.le_refl _) _⟩
  case round =>
    clear hmk
    obtain ⟨k, hk, rfl, hO, hB⟩ := hrel
    by_cases hlt : k < len
    · obtain ⟨kb, o, x, rfl, hkb, hx, hat⟩ := (S.out.keep hB.out).at hlt
      have zB := hB.out.size
      have hX' : Hid _ := hx
      obtain ⟨d0, d1, d2, d3, d4, d5⟩ := hat
      clear hx
      go_wp2_with fail
      refine (toWord_any x.n x.i x.b x.t x.p x.s _).mono ?_
      rintro e w1 ⟨rfl, hb1⟩
      have O1 : Hid (OutW w1 w.heap.size len k L) := hO.out.below hb1
      have K1 : Hid (Below w.heap.size w w1) := hB.out.trans (hb1.mono zB)
      clear hb1 d0 d1 d2 d3 d4 d5
      obtain ⟨v0, e0⟩ := Option.isSome_iff_exists.1 (O1.out.has (k * 6) (by omega))
      obtain ⟨v1, e1⟩ := Option.isSome_iff_exists.1 (O1.out.has (k * 6 + 1) (by omega))
      obtain ⟨v2, e2⟩ := Option.isSome_iff_exists.1 (O1.out.has (k * 6 + 2) (by omega))
      obtain ⟨v3, e3⟩ := Option.isSome_iff_exists.1 (O1.out.has (k * 6 + 3) (by omega))
      obtain ⟨v4, e4⟩ := Option.isSome_iff_exists.1 (O1.out.has (k * 6 + 4) (by omega))
      obtain ⟨v5, e5⟩ := Option.isSome_iff_exists.1 (O1.out.has (k * 6 + 5) (by omega))
      have f0 := O1.out.fr (k * 6) (by omega)
      have f1 := O1.out.fr (k * 6 + 1) (by omega)
      have f2 := O1.out.fr (k * 6 + 2) (by omega)
      have f3 := O1.out.fr (k * 6 + 3) (by omega)
      have f4 := O1.out.fr (k * 6 + 4) (by omega)
      have f5 := O1.out.fr (k * 6 + 5) (by omega)
      go_wp2
      go_roundw
      case rel =>
        refine ⟨k + 1, hlt, by go_num, O1.out.set hlt hX'.out, hid_mk ?_⟩
        repeat' (first | (with_reducible exact K1.out) | (refine Below.setCell ?_ (by show w.heap.size ≤ w.heap.size; exact Nat.le_refl _) _))
      case measure => simp [intOf]; omega
    · obtain rfl : k = len := by omega
      go_wp2
      go_ret
      exact ⟨_, rfl, Nat.le_refl _, hO.out, hB.out⟩
theorem toWordS_any (a : Option Addr) (len cap : Nat) (L : List Wd) (w : World) (hl : len ≤ 1048576) (hS : SliceW w.heap.size w a len L) :
    Calls Tryz.prog 55 #[.slice a len cap] w fun e w' => ∃ q, e = .returned (.slice (some ⟨q, 0, none⟩) len len) ∧ SliceW w'.heap.size w' (some ⟨q, 0, none⟩) len L ∧ Below w.heap.size w w' :=
  (toWordS_own a len cap L w hl hS).mono fun _ _ ⟨q, he, _, ho, hb⟩ => ⟨q, he, ho.slice hS.2.1 (by unfold maxLen; omega), hb⟩

/-- A word in two places, beside what was there at first. -/
structure Two6 (w0 w : World) (k o k' o' : Nat) (x : Wd) : Prop where
  a : WordAt w k o x
  b : WordAt w k' o' x
  bel : Below w0.heap.size w0 w
  lt : k < w.heap.size
  lt' : k' < w.heap.size
section
variable {w0 w w' : World} {k o k' o' : Nat} {x : Wd}
theorem Two6.next (h : Two6 w0 w k o k' o' x) (hb : Below w.heap.size w w') : Two6 w0 w' k o k' o' x :=
  ⟨h.a.keep hb h.lt, h.b.keep hb h.lt', h.bel.trans (hb.mono h.bel.size), Nat.lt_of_lt_of_le h.lt hb.size, Nat.lt_of_lt_of_le h.lt' hb.size⟩
theorem Two6.drew (h : Two6 w0 w k o k' o' x) : Two6 w0 w.drew k o k' o' x := h.next ((Below.refl _ _).drew)
theorem Two6.all (h : Two6 w0 w k o k' o' x) :
    w.cell? ⟨k, o, none⟩ = some (.int .i64 x.n) ∧ w.cell? ⟨k, o + 1, none⟩ = some (.bool x.i) ∧ w.cell? ⟨k, o + 2, none⟩ = some (.int .i64 x.b) ∧ w.cell? ⟨k, o + 3, none⟩ = some (.int .i64 x.t) ∧ w.cell? ⟨k, o + 4, none⟩ = some (.int .i64 x.p) ∧ w.cell? ⟨k, o + 5, none⟩ = some (.int .i64 x.s) ∧ w.cell? ⟨k', o', none⟩ = some (.int .i64 x.n) ∧ w.cell? ⟨k', o' + 1, none⟩ = some (.bool x.i) ∧ w.cell? ⟨k', o' + 2, none⟩ = some (.int .i64 x.b) ∧ w.cell? ⟨k', o' + 3, none⟩ = some (.int .i64 x.t) ∧ w.cell? ⟨k', o' + 4, none⟩ = some (.int .i64 x.p) ∧ w.cell? ⟨k', o' + 5, none⟩ = some (.int .i64 x.s) :=
  ⟨h.a.c0, h.a.c1, h.a.c2, h.a.c3, h.a.c4, h.a.c5, h.b.c0, h.b.c1, h.b.c2, h.b.c3, h.b.c4, h.b.c5⟩
end

set_option maxRecDepth 100000 in
set_option maxHeartbeats 2000000 in
theorem eqWordS_same (a a' : Option Addr) (len cap cap' : Nat) (L : List Wd) (w : World) (hS : SliceW w.heap.size w a len L) (hS' : SliceW w.heap.size w a' len L) :
    Calls Tryz.prog 61 #[.slice a len cap, .slice a' len cap'] w fun e w' => e = .returned (.bool true) ∧ Below w.heap.size w w' := by
  have S : Hid (SliceW w.heap.size w a len L) := hS
  have S' : Hid (SliceW w.heap.size w a' len L) := hS'
  have hlen := hS.1
  unfold maxLen at hlen
  clear hS hS'
  go_enter Tryz.func61, Tryz.ntmps61
  go_wp2
  go_loopw [5] (fun c wr => ∃ k : Nat, k ≤ len ∧ c = .int .i64 k ∧ Hid (Below w.heap.size w wr)) (fun c _ => len - (intOf c).toNat)
  case atStart => exact ⟨0, Nat.zero_le _, rfl, Below.refl _ _⟩
  case round =>
    obtain ⟨k, hk, rfl, hB⟩ := hrel
    by_cases hlt : k < len
    · obtain ⟨kb, o, x, rfl, hkb, hx, hat⟩ := (S.out.keep hB.out).at hlt
      obtain ⟨kb', o', x', rfl, hkb', hx', hat'⟩ := (S'.out.keep hB.out).at hlt
      obtain rfl : x = x' := by rw [hx] at hx'; exact Option.some.inj hx'
      have zB := hB.out.size
      have P0 : Hid (Two6 w wr kb (o + k * 6) kb' (o' + k * 6) x) := ⟨hat, hat', hB.out, by omega, by omega⟩
      obtain ⟨d0, d1, d2, d3, d4, d5⟩ := hat
      obtain ⟨e0, e1, e2, e3, e4, e5⟩ := hat'
      clear hx hx'
      go_wp2_with fail
      have D0 : Hid _ := P0.out.drew
      go_region_held3 (fun w' => w'.cell? ⟨kb, o + k * 6, none⟩ = some (.int .i64 x.n) ∧ w'.cell? ⟨kb, o + k * 6 + 1, none⟩ = some (.bool x.i) ∧ w'.cell? ⟨kb, o + k * 6 + 2, none⟩ = some (.int .i64 x.b) ∧ w'.cell? ⟨kb, o + k * 6 + 3, none⟩ = some (.int .i64 x.t) ∧ w'.cell? ⟨kb, o + k * 6 + 4, none⟩ = some (.int .i64 x.p) ∧ w'.cell? ⟨kb, o + k * 6 + 5, none⟩ = some (.int .i64 x.s) ∧ w'.cell? ⟨kb', o' + k * 6, none⟩ = some (.int .i64 x.n) ∧ w'.cell? ⟨kb', o' + k * 6 + 1, none⟩ = some (.bool x.i) ∧ w'.cell? ⟨kb', o' + k * 6 + 2, none⟩ = some (.int .i64 x.b) ∧ w'.cell? ⟨kb', o' + k * 6 + 3, none⟩ = some (.int .i64 x.t) ∧ w'.cell? ⟨kb', o' + k * 6 + 4, none⟩ = some (.int .i64 x.p) ∧ w'.cell? ⟨kb', o' + k * 6 + 5, none⟩ = some (.int .i64 x.s)) (first | (with_reducible exact D0.out.all) | (with_reducible exact P1.out.all) | fail)
        (first
          | (go_at_call 59; refine (eqWord_same x.n x.i x.b x.t x.p x.s _).mono ?_; rintro e w1 ⟨rfl, hb1⟩; have P1 : Hid _ := D0.out.next hb1; clear hb1))
      clear d0 d1 d2 d3 d4 d5 e0 e1 e2 e3 e4 e5 P0 D0 hB
      go_wp2
      go_roundw
      case rel => exact ⟨k + 1, hlt, by go_num, P1.out.bel⟩
      case measure => simp [intOf]; omega
    · go_wp2
      go_ret
      exact ⟨rfl, hB.out⟩

set_option maxHeartbeats 400000 in
theorem szWordS_any (a : Option Addr) (len cap : Nat) (w : World) (hl : len ≤ maxLen) :
    Calls Tryz.prog 51 #[.slice a len cap, .int .i64 1048576] w fun e w' => e = .returned (.int .i64 (if len ≤ 1048576 then 1048576 - (len : Int) else -1)) ∧ w' = w := by
  unfold maxLen at hl
  by_cases h : len ≤ 1048576
  · rw [if_pos h]
    go_enter Tryz.func51, Tryz.ntmps51
    go_wp2
    go_ret
    exact ⟨rfl, rfl⟩
  · rw [if_neg h]
    go_enter Tryz.func51, Tryz.ntmps51
    go_wp2
    go_ret
    exact ⟨rfl, rfl⟩
end Go.Proofs.YtneohabkoighcaaGreat
