/- Slices of words; Unders of the program at all words and lists. No condition. -/
import Derived.Test.YtfeoaegkhbjaeaaWordK
namespace Go.Proofs.Ytfeoaegkhbjaeaa
open Go.ChangeShapes Go.WideShapes Go.ChangeAt Go.RowKit

/-- A word. -/
structure Wd where
  n : Int
  i : Bool
  b : Int
  t : Int
  p : Int
  s : Int

/-- A word lies in block k from cell o on. -/
structure WordAt (w : World) (k o : Nat) (x : Wd) : Prop where
  c0 : w.cell? ⟨k, o, none⟩ = some (.int .i64 x.n)
  c1 : w.cell? ⟨k, o + 1, none⟩ = some (.bool x.i)
  c2 : w.cell? ⟨k, o + 2, none⟩ = some (.int .i64 x.b)
  c3 : w.cell? ⟨k, o + 3, none⟩ = some (.int .i64 x.t)
  c4 : w.cell? ⟨k, o + 4, none⟩ = some (.int .i64 x.p)
  c5 : w.cell? ⟨k, o + 5, none⟩ = some (.int .i64 x.s)
theorem WordAt.keep {B : Nat} {w w' : World} {k o : Nat} {x : Wd} (h : WordAt w k o x) (hb : Below B w w') (hk : k < B) : WordAt w' k o x :=
  ⟨(hb.cell (p := ⟨k, o, none⟩) hk).trans h.c0, (hb.cell (p := ⟨k, o + 1, none⟩) hk).trans h.c1, (hb.cell (p := ⟨k, o + 2, none⟩) hk).trans h.c2, (hb.cell (p := ⟨k, o + 3, none⟩) hk).trans h.c3, (hb.cell (p := ⟨k, o + 4, none⟩) hk).trans h.c4, (hb.cell (p := ⟨k, o + 5, none⟩) hk).trans h.c5⟩

/-- A slice of the words L, in a block below B. -/
def SliceW (B : Nat) (w : World) (a : Option Addr) (len : Nat) (L : List Wd) : Prop :=
  len ≤ maxLen ∧ L.length = len ∧ (len = 0 ∨ ∃ k o, a = some ⟨k, o, none⟩ ∧ k < B ∧ ∀ j x, L[j]? = some x → WordAt w k (o + j * 6) x)
theorem SliceW.keep {B : Nat} {w w' : World} {a : Option Addr} {len : Nat} {L : List Wd} (h : SliceW B w a len L) (hb : Below B w w') : SliceW B w' a len L := by
  refine ⟨h.1, h.2.1, ?_⟩
  rcases h.2.2 with h0 | ⟨k, o, ha, hk, hc⟩
  · exact .inl h0
  · exact .inr ⟨k, o, ha, hk, fun j x hj => (hc j x hj).keep hb hk⟩
theorem SliceW.mono {B C : Nat} {w : World} {a : Option Addr} {len : Nat} {L : List Wd} (h : SliceW B w a len L) (hB : B ≤ C) : SliceW C w a len L := by
  refine ⟨h.1, h.2.1, ?_⟩
  rcases h.2.2 with h0 | ⟨k, o, ha, hk, hc⟩
  · exact .inl h0
  · exact .inr ⟨k, o, ha, by omega, hc⟩
theorem SliceW.below {B : Nat} {w w' : World} {a : Option Addr} {len : Nat} {L : List Wd} (h : SliceW B w a len L) (hb : Below w.heap.size w w') (hB : B ≤ w.heap.size) : SliceW B w' a len L := h.keep (hb.mono hB)
theorem SliceW.at {B : Nat} {w : World} {a : Option Addr} {len : Nat} {L : List Wd} (h : SliceW B w a len L) {j : Nat} (hj : j < len) :
    ∃ k o x, a = some ⟨k, o, none⟩ ∧ k < B ∧ L[j]? = some x ∧ WordAt w k (o + j * 6) x := by
  rcases h.2.2 with h0 | ⟨k, o, ha, hk, hc⟩
  · omega
  · have hl : j < L.length := by rw [h.2.1]; exact hj
    exact ⟨k, o, L[j], ha, hk, List.getElem?_eq_getElem hl, hc j _ (List.getElem?_eq_getElem hl)⟩

/-- A word of the list and the word that is asked for, beside what was there at first. -/
structure Pair (w0 w : World) (k o : Nat) (x : Wd) (r : Nat) (n : Int) (i : Bool) (b t p s : Int) : Prop where
  wd : WordAt w k o x
  six : Six w r n i b t p s
  bel : Below w0.heap.size w0 w
  lt : k < w.heap.size
section
variable {w0 w w' : World} {k o : Nat} {x : Wd} {r : Nat} {n : Int} {i : Bool} {b t p s : Int}
theorem Pair.next (h : Pair w0 w k o x r n i b t p s) (hb : Below w.heap.size w w') : Pair w0 w' k o x r n i b t p s :=
  ⟨h.wd.keep hb h.lt, h.six.below hb, h.bel.trans (hb.mono h.bel.size), Nat.lt_of_lt_of_le h.lt hb.size⟩
theorem Pair.drew (h : Pair w0 w k o x r n i b t p s) : Pair w0 w.drew k o x r n i b t p s := h.next ((Below.refl _ _).drew)
theorem Pair.all (h : Pair w0 w k o x r n i b t p s) (hi : x.i = true) :
    w.cell? ⟨k, o + 1, none⟩ = some (.bool true) ∧ w.cell? ⟨k, o + 2, none⟩ = some (.int .i64 x.b) ∧ w.cell? ⟨k, o + 3, none⟩ = some (.int .i64 x.t) ∧ w.cell? ⟨k, o + 4, none⟩ = some (.int .i64 x.p) ∧ w.cell? ⟨k, o + 5, none⟩ = some (.int .i64 x.s) ∧
    w.cell? ⟨r, 2, none⟩ = some (.int .i64 b) ∧ w.cell? ⟨r, 3, none⟩ = some (.int .i64 t) ∧ w.cell? ⟨r, 4, none⟩ = some (.int .i64 p) ∧ w.cell? ⟨r, 5, none⟩ = some (.int .i64 s) :=
  ⟨h.wd.c1.trans (by rw [hi]), h.wd.c2, h.wd.c3, h.wd.c4, h.wd.c5, h.six.c2, h.six.c3, h.six.c4, h.six.c5⟩
end

/-- What Unders asks of one word of the list. -/
def ovB (b t p s : Int) (y : Wd) : Bool := y.i && covB y.b y.t y.p y.s b t p s
/-- What Unders answers. -/
def undB (i : Bool) (b t p s : Int) (L : List Wd) : Bool := !i || L.any (ovB b t p s)

theorem any_take {α : Type} (f : α → Bool) {L : List α} {k : Nat} {x : α} (h : L[k]? = some x) (h0 : (L.take k).any f = false) (h1 : f x = false) : (L.take (k + 1)).any f = false := by
  rw [List.take_add_one, h]; simp [h0, h1]
theorem any_at {α : Type} (f : α → Bool) {L : List α} {k : Nat} {x : α} (h : L[k]? = some x) (h1 : f x = true) : L.any f = true :=
  List.any_eq_true.2 ⟨x, List.mem_of_getElem? h, h1⟩
theorem any_all {α : Type} (f : α → Bool) {L : List α} {k : Nat} (h : L.length ≤ k) (h0 : (L.take k).any f = false) : L.any f = false := by
  rwa [List.take_of_length_le h] at h0

set_option maxRecDepth 100000 in
set_option maxHeartbeats 2000000 in
theorem implUnders_any (n : Int) (i : Bool) (b t p s : Int) (a : Option Addr) (len cap : Nat) (L : List Wd) (w : World) (hS : SliceW w.heap.size w a len L) :
    Calls Try.prog 54 #[.agg #[.int .i64 n, .bool i, .int .i64 b, .int .i64 t, .int .i64 p, .int .i64 s], .slice a len cap] w fun e w' => e = .returned (.bool (undB i b t p s L)) ∧ Below w.heap.size w w' := by
  have S : Hid (SliceW w.heap.size w a len L) := hS
  have hlen := hS.1
  unfold maxLen at hlen
  have hL := hS.2.1
  clear hS
  cases i
  · go_enter Try.func54, Try.ntmps54
    go_wp2
    go_ret
    exact ⟨rfl, (Below.refl _ _).alloc (Nat.le_refl _) _⟩
  · have hu : undB true b t p s L = L.any (ovB b t p s) := rfl
    rw [hu]
    clear hu
    obtain ⟨z, hz⟩ : ∃ z, Hid (z = L.any (ovB b t p s)) := ⟨_, rfl⟩
    rw [← hz.out]
    go_enter Try.func54, Try.ntmps54
    go_wp2
    go_loopw [12] (fun c wr => ∃ k : Nat, k ≤ len ∧ c = .int .i64 k ∧ Hid ((L.take k).any (ovB b t p s) = false) ∧ Hid (Six wr w.heap.size n true b t p s) ∧ Hid (Below w.heap.size w wr)) (fun c _ => len - (intOf c).toNat)
    case atStart => exact ⟨0, Nat.zero_le _, rfl, by simp [Hid], Six.new w n true b t p s 47, (Below.refl _ _).alloc (Nat.le_refl _) _⟩
    case round =>
      obtain ⟨k, hk, rfl, hA, hX, hB⟩ := hrel
      by_cases hlt : k < len
      · obtain ⟨kb, o, x, rfl, hkb, hx, hat⟩ := (S.out.keep hB.out).at hlt
        obtain ⟨d0, d1, d2, d3, d4, d5⟩ := hat
        obtain ⟨_, c0, c1, c2, c3, c4, c5, _, _, _, _, _, _⟩ := hX.out
        have zB := hB.out.size
        have hX' : Hid _ := hx
        clear hx
        cases hi : x.i
        · have hO : Hid (ovB b t p s x = false) := by simp [Hid, ovB, hi]
          go_wp2
          go_roundw
          case rel => exact ⟨k + 1, hlt, by go_num, any_take _ hX'.out hA.out hO.out, hX.out.alloc _, hB.out.alloc zB _⟩
          case measure => simp [intOf]; omega
        · have hO : Hid (ovB b t p s x = covB x.b x.t x.p x.s b t p s) := by simp [Hid, ovB, hi]
          have s1 := covers_any x.b x.t x.p x.s b t p s
          generalize covB x.b x.t x.p x.s b t p s = y at s1 hO
          have S1 : Hid _ := s1
          clear s1
          go_wp2_with fail
          refine (S1.out _).mono ?_
          rintro e w1 ⟨rfl, hb1⟩
          have X1 : Hid (Six w1 w.heap.size n true b t p s) := (hX.out.alloc _).below hb1
          have K1 : Hid (Below w.heap.size w w1) := (hB.out.alloc zB _).trans (hb1.mono (by rw [World.size_alloc]; omega))
          clear hb1 c0 c1 c2 c3 c4 c5 d0 d1 d2 d3 d4 d5
          cases y
          · go_wp2
            go_roundw
            case rel => exact ⟨k + 1, hlt, by go_num, any_take _ hX'.out hA.out hO.out, X1.out, K1.out⟩
            case measure => simp [intOf]; omega
          · have hz' : z = true := hz.out.trans (any_at _ hX'.out hO.out)
            subst hz'
            go_wp2
            go_ret
            exact ⟨rfl, K1.out⟩
      · have hz' : z = false := hz.out.trans (any_all _ (k := k) (by omega) hA.out)
        subst hz'
        go_wp2
        go_ret
        exact ⟨rfl, hB.out⟩

set_option maxRecDepth 100000 in
set_option maxHeartbeats 2000000 in
theorem specUnders_any (n : Int) (i : Bool) (b t p s : Int) (a : Option Addr) (len cap : Nat) (L : List Wd) (w : World) (hS : SliceW w.heap.size w a len L) :
    Calls Try.prog 62 #[.agg #[.int .i64 n, .bool i, .int .i64 b, .int .i64 t, .int .i64 p, .int .i64 s], .slice a len cap] w fun e w' => e = .returned (.bool (undB i b t p s L)) ∧ Below w.heap.size w w' := by
  have S : Hid (SliceW w.heap.size w a len L) := hS
  have hlen := hS.1
  unfold maxLen at hlen
  have hL := hS.2.1
  clear hS
  cases i
  · go_enter Try.func62, Try.ntmps62
    go_wp2
    go_ret
    exact ⟨rfl, (Below.refl _ _).alloc (Nat.le_refl _) _⟩
  · have hu : undB true b t p s L = L.any (ovB b t p s) := rfl
    rw [hu]
    clear hu
    obtain ⟨z, hz⟩ : ∃ z, Hid (z = L.any (ovB b t p s)) := ⟨_, rfl⟩
    rw [← hz.out]
    go_enter Try.func62, Try.ntmps62
    go_wp2
    go_loopw [5] (fun c wr => ∃ k : Nat, k ≤ len ∧ c = .int .i64 k ∧ Hid ((L.take k).any (ovB b t p s) = false) ∧ Hid (Six wr w.heap.size n true b t p s) ∧ Hid (Below w.heap.size w wr)) (fun c _ => len - (intOf c).toNat)
    case atStart => exact ⟨0, Nat.zero_le _, rfl, by simp [Hid], Six.new w n true b t p s 47, (Below.refl _ _).alloc (Nat.le_refl _) _⟩
    case round =>
      obtain ⟨k, hk, rfl, hA, hX, hB⟩ := hrel
      by_cases hlt : k < len
      · obtain ⟨kb, o, x, rfl, hkb, hx, hat⟩ := (S.out.keep hB.out).at hlt
        have zB := hB.out.size
        have AT : Hid _ := hat
        have hX' : Hid _ := hx
        obtain ⟨d0, d1, d2, d3, d4, d5⟩ := hat
        obtain ⟨_, c0, c1, c2, c3, c4, c5, _, _, _, _, _, _⟩ := hX.out
        clear hx
        cases hi : x.i
        · have hu : undef = Value.tuple #[] := rfl
          have hO : Hid (ovB b t p s x = false) := by simp [Hid, ovB, hi]
          rw [hi] at d1
          go_wp2
          go_quiet (fail)
          go_wp2
          go_roundw
          case rel => exact ⟨k + 1, hlt, by go_num, any_take _ hX'.out hA.out hO.out, hX.out.below (below_drewN (Below.refl _ _) _), below_drewN hB.out _⟩
          case measure => simp [intOf]; omega
        · have hO : Hid (ovB b t p s x = covB x.b x.t x.p x.s b t p s) := by simp [Hid, ovB, hi]
          have s1 := specCovers_any x.b x.t x.p x.s b t p s
          generalize covB x.b x.t x.p x.s b t p s = y at s1 hO
          have S1 : Hid _ := s1
          have P0 : Hid (Pair w wr kb (o + k * 6) x w.heap.size n true b t p s) := ⟨AT.out, hX.out, hB.out, by omega⟩
          rw [hi] at d1
          clear s1
          go_wp2_with fail
          have D0 : Hid _ := P0.out.drew
          go_region_held3 (fun w' => w'.cell? ⟨kb, o + k * 6 + 1, none⟩ = some (.bool true) ∧ w'.cell? ⟨kb, o + k * 6 + 2, none⟩ = some (.int .i64 x.b) ∧ w'.cell? ⟨kb, o + k * 6 + 3, none⟩ = some (.int .i64 x.t) ∧ w'.cell? ⟨kb, o + k * 6 + 4, none⟩ = some (.int .i64 x.p) ∧ w'.cell? ⟨kb, o + k * 6 + 5, none⟩ = some (.int .i64 x.s) ∧ w'.cell? ⟨w.heap.size, 2, none⟩ = some (.int .i64 b) ∧ w'.cell? ⟨w.heap.size, 3, none⟩ = some (.int .i64 t) ∧ w'.cell? ⟨w.heap.size, 4, none⟩ = some (.int .i64 p) ∧ w'.cell? ⟨w.heap.size, 5, none⟩ = some (.int .i64 s)) (first | (with_reducible exact D0.out.all hi) | (with_reducible exact P1.out.all hi) | fail)
            (first
              | (go_at_call 70; refine (S1.out _).mono ?_; rintro e w1 ⟨rfl, hb1⟩; have P1 : Hid _ := D0.out.next hb1; clear hb1))
          clear c0 c1 c2 c3 c4 c5 d0 d1 d2 d3 d4 d5 P0 D0 hX hB AT
          cases y
          · go_wp2
            go_roundw
            case rel => exact ⟨k + 1, hlt, by go_num, any_take _ hX'.out hA.out hO.out, P1.out.six, P1.out.bel⟩
            case measure => simp [intOf]; omega
          · have hz' : z = true := hz.out.trans (any_at _ hX'.out hO.out)
            subst hz'
            go_wp2
            go_ret
            exact ⟨rfl, P1.out.bel⟩
      · have hz' : z = false := hz.out.trans (any_all _ (k := k) (by omega) hA.out)
        subst hz'
        go_wp2
        go_ret
        exact ⟨rfl, hB.out⟩
end Go.Proofs.Ytfeoaegkhbjaeaa
