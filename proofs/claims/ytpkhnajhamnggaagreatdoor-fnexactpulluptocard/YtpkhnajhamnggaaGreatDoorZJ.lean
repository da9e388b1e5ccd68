/- Cells of a block kept as a list of values, whatever the struct; a slice of words that came in, that a call has answered, as facts. No condition. · szState, eqState, markState and heldState of the laws, and what they ask: what is marked is held. No condition but that the lists are no longer than the law lets them be. · toState of the laws: a state of the call's own. No condition but that the lists are no longer than the law lets them be. · StateOk of the specification and of the program at all states: what they answer. No condition but that a memory that is not right is no longer than a law lets it be. · A state of the laws as data: its three slices, its word and its trap are opened. No condition. -/
import Derived.Test.YtpkhnajhamnggaaGreatDoorMemA
import Derived.Test.YtpkhnajhamnggaaGreatDoorZE
namespace Go.Proofs.YtpkhnajhamnggaaGreatDoor
open Go.ChangeShapes Go.WideShapes Go.ChangeAt Go.RowKit
set_option maxRecDepth 100000

/-- A word's six values. -/
abbrev wl (x : Wd) : List Value := [.int .i64 x.n, .bool x.i, .int .i64 x.b, .int .i64 x.t, .int .i64 x.p, .int .i64 x.s]
theorem Cel.c10 {w : World} {r : Nat} {v0 v1 v2 v3 v4 v5 v6 v7 v8 v9 : Value} (h : Cel w r [v0, v1, v2, v3, v4, v5, v6, v7, v8, v9]) :
    w.cell? ⟨r, 0, none⟩ = some v0 ∧ w.cell? ⟨r, 1, none⟩ = some v1 ∧ w.cell? ⟨r, 2, none⟩ = some v2 ∧ w.cell? ⟨r, 3, none⟩ = some v3 ∧ w.cell? ⟨r, 4, none⟩ = some v4 ∧ w.cell? ⟨r, 5, none⟩ = some v5 ∧ w.cell? ⟨r, 6, none⟩ = some v6 ∧ w.cell? ⟨r, 7, none⟩ = some v7 ∧ w.cell? ⟨r, 8, none⟩ = some v8 ∧ w.cell? ⟨r, 9, none⟩ = some v9 :=
  ⟨h.c 0 _ rfl, h.c 1 _ rfl, h.c 2 _ rfl, h.c 3 _ rfl, h.c 4 _ rfl, h.c 5 _ rfl, h.c 6 _ rfl, h.c 7 _ rfl, h.c 8 _ rfl, h.c 9 _ rfl⟩
theorem Cel.f10 {w : World} {r : Nat} {v0 v1 v2 v3 v4 v5 v6 v7 v8 v9 : Value} (h : Cel w r [v0, v1, v2, v3, v4, v5, v6, v7, v8, v9]) :
    w.frozen? ⟨r, 0, none⟩ = false ∧ w.frozen? ⟨r, 1, none⟩ = false ∧ w.frozen? ⟨r, 2, none⟩ = false ∧ w.frozen? ⟨r, 3, none⟩ = false ∧ w.frozen? ⟨r, 4, none⟩ = false ∧ w.frozen? ⟨r, 5, none⟩ = false ∧ w.frozen? ⟨r, 6, none⟩ = false ∧ w.frozen? ⟨r, 7, none⟩ = false ∧ w.frozen? ⟨r, 8, none⟩ = false ∧ w.frozen? ⟨r, 9, none⟩ = false :=
  ⟨h.f 0 (by simp), h.f 1 (by simp), h.f 2 (by simp), h.f 3 (by simp), h.f 4 (by simp), h.f 5 (by simp), h.f 6 (by simp), h.f 7 (by simp), h.f 8 (by simp), h.f 9 (by simp)⟩

/-- A slice of words that came in, below B. -/
structure ArgW (B : Nat) (a : Option Addr) (n : Nat) (L : List Wd) (w : World) : Prop where
  ws : SliceW B w a n L
  lt : B ≤ w.heap.size
theorem SliceW.ofBlocks {B : Nat} {w w' : World} {a : Option Addr} {n : Nat} {L : List Wd} (h : SliceW B w a n L) (hlt : B ≤ w.heap.size) (hb : ∀ k, k < w.heap.size → k < B → w'.heap[k]? = w.heap[k]?) : SliceW B w' a n L := by
  refine ⟨h.1, h.2.1, ?_⟩
  rcases h.2.2 with h0 | ⟨k, o, ha, hk, hc⟩
  · exact .inl h0
  · refine .inr ⟨k, o, ha, hk, fun j x hj => WordAt.of_vs fun m v hm => ?_⟩
    exact (World.cell?_of_block (hb k (Nat.lt_of_lt_of_le hk hlt) hk)).trans ((hc j x hj).vs m v hm)
def wrdF (B : Nat) (a : Option Addr) (n : Nat) (L : List Wd) : Fct where
  S := fun k => k < B
  p := ArgW B a n L
  keep := fun _ _ h hs hb => ⟨h.ws.ofBlocks h.lt hb, Nat.le_trans h.lt hs⟩
theorem ArgW.slice {B : Nat} {a : Option Addr} {n : Nat} {L : List Wd} {w : World} (h : ArgW B a n L w) : SliceW w.heap.size w a n L := h.ws.mono h.lt
theorem Hold.wrd {w0 w : World} {fs : List Fct} (h : Hold w0 w fs) {B : Nat} {a : Option Addr} {n : Nat} {L : List Wd} (hm : wrdF B a n L ∈ fs) : SliceW w.heap.size w a n L := ArgW.slice (h.at hm)

/-- A state's values: its registers, the word by which it is run, its memory, its trap. -/
abbrev stl (a : Option Addr) (n c : Nat) (x : Wd) (a1 : Option Addr) (n1 c1 : Nat) (a2 : Option Addr) (n2 c2 : Nat) (t : Int) : List Value :=
  [.slice a n c, .int .i64 x.n, .bool x.i, .int .i64 x.b, .int .i64 x.t, .int .i64 x.p, .int .i64 x.s, .slice a1 n1 c1, .slice a2 n2 c2, .int .i64 t]

/-- The rows of a state that came in. -/
structure StS (w : World) (a : Option Addr) (n : Nat) (a1 : Option Addr) (n1 : Nat) (a2 : Option Addr) (n2 : Nat) (R L : List Wd) (G : List Bool) : Prop where
  rs : SliceW w.heap.size w a n R
  mem : MemS w a1 n1 a2 n2 L G
theorem StS.below {w w' : World} {a : Option Addr} {n : Nat} {a1 : Option Addr} {n1 : Nat} {a2 : Option Addr} {n2 : Nat} {R L : List Wd} {G : List Bool} (h : StS w a n a1 n1 a2 n2 R L G) (hb : Below w.heap.size w w') : StS w' a n a1 n1 a2 n2 R L G :=
  ⟨(h.rs.keep hb).mono hb.size, h.mem.below hb⟩

/-- A state that came in: its rows lie below B. -/
structure ArgS (B : Nat) (a : Option Addr) (n : Nat) (a1 : Option Addr) (n1 : Nat) (a2 : Option Addr) (n2 : Nat) (R L : List Wd) (G : List Bool) (w : World) : Prop where
  rs : SliceW B w a n R
  mem : ArgM B a1 n1 a2 n2 L G w
def argSF (B : Nat) (a : Option Addr) (n : Nat) (a1 : Option Addr) (n1 : Nat) (a2 : Option Addr) (n2 : Nat) (R L : List Wd) (G : List Bool) : Fct where
  S := fun k => k < B
  p := ArgS B a n a1 n1 a2 n2 R L G
  keep := fun w w' h hs hb => ⟨h.rs.ofBlocks h.mem.lt hb, (argF B a1 n1 a2 n2 L G).keep w w' h.mem hs hb⟩
theorem StS.arg {w : World} {a : Option Addr} {n : Nat} {a1 : Option Addr} {n1 : Nat} {a2 : Option Addr} {n2 : Nat} {R L : List Wd} {G : List Bool} (h : StS w a n a1 n1 a2 n2 R L G) : ArgS w.heap.size a n a1 n1 a2 n2 R L G w := ⟨h.rs, h.mem.arg⟩
theorem Hold.argS {w0 w : World} {fs : List Fct} (h : Hold w0 w fs) {B : Nat} {a : Option Addr} {n : Nat} {a1 : Option Addr} {n1 : Nat} {a2 : Option Addr} {n2 : Nat} {R L : List Wd} {G : List Bool} (hm : argSF B a n a1 n1 a2 n2 R L G ∈ fs) : StS w a n a1 n1 a2 n2 R L G := by
  have g : ArgS B a n a1 n1 a2 n2 R L G w := h.at hm
  exact ⟨g.rs.mono g.mem.lt, g.mem.mem⟩

/-- A state that a call has answered: it owns its three rows. -/
structure AnsS (a a1 a2 : Option Addr) (n n1 n2 : Nat) (R L : List Wd) (G : List Bool) (w : World) : Prop where
  rs : RowWA w a n R
  ws : RowWA w a1 n1 L
  gs : RowBA w a2 n2 G
  n01 : ∀ k, On a k → ¬ On a1 k
  n02 : ∀ k, On a k → ¬ On a2 k
  n12 : ∀ k, On a1 k → ¬ On a2 k
def ansSF (a a1 a2 : Option Addr) (n n1 n2 : Nat) (R L : List Wd) (G : List Bool) : Fct where
  S := fun k => On a k ∨ On a1 k ∨ On a2 k
  p := AnsS a a1 a2 n n1 n2 R L G
  keep := fun _ _ h hs hb => ⟨h.rs.ofBlock hs fun k hk ho => hb k hk (.inl ho), h.ws.ofBlock hs fun k hk ho => hb k hk (.inr (.inl ho)), h.gs.ofBlock hs fun k hk ho => hb k hk (.inr (.inr ho)), h.n01, h.n02, h.n12⟩
section
variable {w w' : World} {a a1 a2 : Option Addr} {n n1 n2 : Nat} {R L : List Wd} {G : List Bool}
theorem RowWA.slice (h : RowWA w a n L) (hn : n ≤ 1048576) : SliceW w.heap.size w a n L := by
  rcases h with ⟨rfl, rfl, rfl⟩ | ⟨q, rfl, hl, hO⟩
  · exact ⟨by unfold maxLen; omega, rfl, .inl rfl⟩
  · exact hO.slice hl (by unfold maxLen; omega)
theorem RowWA.lt (h : RowWA w a n L) {k : Nat} (hk : On a k) : k < w.heap.size := by
  rcases h with ⟨rfl, _, _⟩ | ⟨q, rfl, _, hO⟩
  · exact absurd hk (on_none k)
  · rw [← (on_some q k).1 hk]; exact hO.lt
theorem RowBA.lt (h : RowBA w a n G) {k : Nat} (hk : On a k) : k < w.heap.size := by
  rcases h with ⟨rfl, _, _⟩ | ⟨q, rfl, _, hO⟩
  · exact absurd hk (on_none k)
  · rw [← (on_some q k).1 hk]; exact hO.lt
theorem RowWA.len (h : RowWA w a n L) : L.length = n := by
  rcases h with ⟨_, rfl, rfl⟩ | ⟨_, _, hl, _⟩
  · rfl
  · exact hl
theorem AnsS.memA (h : AnsS a a1 a2 n n1 n2 R L G w) : AnsM a1 a2 n1 n2 L G w := ⟨h.ws, h.gs, h.n12⟩
theorem AnsS.sts (h : AnsS a a1 a2 n n1 n2 R L G w) (hn : n ≤ 1048576) (hn1 : n1 ≤ 1048576) (hn2 : n2 ≤ 1048576) : StS w a n a1 n1 a2 n2 R L G := ⟨h.rs.slice hn, h.memA.mem hn1 hn2⟩
theorem AnsS.lt (h : AnsS a a1 a2 n n1 n2 R L G w) {k : Nat} (hk : On a k ∨ On a1 k ∨ On a2 k) : k < w.heap.size := by
  rcases hk with hk | hk | hk
  · exact h.rs.lt hk
  · exact h.ws.lt hk
  · exact h.gs.lt hk
theorem AnsS.below (h : AnsS a a1 a2 n n1 n2 R L G w) (hb : Below w.heap.size w w') : AnsS a a1 a2 n n1 n2 R L G w' := (ansSF a a1 a2 n n1 n2 R L G).keep w w' h hb.size fun k hk _ => hb.block k hk
end
theorem Hold.ansS {w0 w : World} {fs : List Fct} (h : Hold w0 w fs) {a a1 a2 : Option Addr} {n n1 n2 : Nat} {R L : List Wd} {G : List Bool} (hm : ansSF a a1 a2 n n1 n2 R L G ∈ fs) : AnsS a a1 a2 n n1 n2 R L G w := h.at hm
end Go.Proofs.YtpkhnajhamnggaaGreatDoor

namespace Go.Proofs.YtpkhnajhamnggaaGreatDoor
open Go.ChangeShapes Go.WideShapes Go.ChangeAt Go.RowKit
set_option maxRecDepth 100000

set_option maxHeartbeats 400000 in
theorem szWordS_at (a : Option Addr) (len cap : Nat) (m : Int) (hm0 : 0 ≤ m) (hm1 : m ≤ 1048576) (w : World) (hl : len ≤ maxLen) :
    Calls Tryz.prog 29 #[.slice a len cap, .int .i64 m] w fun e w' => e = .returned (.int .i64 (if (len : Int) ≤ m then m - (len : Int) else -1)) ∧ w' = w := by
  unfold maxLen at hl
  by_cases h : (len : Int) ≤ m
  · rw [if_pos h]
    go_enter Tryz.func29, Tryz.ntmps29
    go_wp2
    go_ret
    exact ⟨rfl, rfl⟩
  · rw [if_neg h]
    go_enter Tryz.func29, Tryz.ntmps29
    go_wp2
    go_ret
    exact ⟨rfl, rfl⟩

set_option maxHeartbeats 2000000 in
theorem szMemory_at (a : Option Addr) (n c : Nat) (a' : Option Addr) (n' c' : Nat) (m : Int) (hm0 : 0 ≤ m) (hm1 : m ≤ 1048576) (hn : n ≤ maxLen) (hn' : n' ≤ maxLen) (w : World) :
    Calls Tryz.prog 30 #[.agg #[.slice a n c, .slice a' n' c'], .int .i64 m] w fun e w' => e = .returned (.int .i64 (if (n : Int) + (n' : Int) ≤ m then m - (n : Int) - (n' : Int) else -1)) ∧ Below w.heap.size w w' := by
  have M0 := hid_mk (Mb.new w (.slice a n c) (.slice a' n' c') 30)
  have s1 := fun w => szWordS_at a n c m hm0 hm1 w hn
  by_cases h1 : (n : Int) ≤ m
  · have s2 := fun w => szBoolS_any a' n' c' (m - (n : Int)) (by omega) (by omega) w hn'
    simp only [if_pos h1] at s1
    obtain ⟨l, hl⟩ : ∃ l : Int, l = m - (n : Int) := ⟨_, rfl⟩
    rw [← hl] at s1 s2
    have hl0 : 0 ≤ l := by omega
    have hl1 : l ≤ 1048576 := by omega
    by_cases h2 : (n : Int) + (n' : Int) ≤ m
    · have h3 : (n' : Int) ≤ l := by omega
      rw [if_pos h2, show m - (n : Int) - (n' : Int) = l - (n' : Int) by omega]
      simp only [if_pos h3] at s2
      have S1 := hid_mk s1
      have S2 := hid_mk s2
      obtain ⟨u, hu⟩ : ∃ u : Int, u = l - (n' : Int) := ⟨_, rfl⟩
      rw [← hu] at S2 ⊢
      have hu0 : 0 ≤ u := by omega
      clear s1 s2 hl hu hn hn' h1 h2 h3
      go_enter Tryz.func30, Tryz.ntmps30
      go_wp2_with (go_at_call 29; refine (S1.out _).mono ?_; rintro e w1 ⟨rfl, rfl⟩)
      go_wp2_with (go_at_call 71; refine (S2.out _).mono ?_; rintro e w1 ⟨rfl, rfl⟩)
      go_wp2
      go_ret
      exact ⟨rfl, M0.out.bel⟩
    · have h3 : ¬ (n' : Int) ≤ l := by omega
      rw [if_neg h2]
      simp only [if_neg h3] at s2
      have S1 := hid_mk s1
      have S2 := hid_mk s2
      clear s1 s2 hl hn hn' h1 h2 h3
      go_enter Tryz.func30, Tryz.ntmps30
      go_wp2_with (go_at_call 29; refine (S1.out _).mono ?_; rintro e w1 ⟨rfl, rfl⟩)
      go_wp2_with (go_at_call 71; refine (S2.out _).mono ?_; rintro e w1 ⟨rfl, rfl⟩)
      go_wp2
      go_ret
      exact ⟨rfl, M0.out.bel⟩
  · rw [if_neg (by omega)]
    simp only [if_neg h1] at s1
    have S1 := hid_mk s1
    clear s1
    go_enter Tryz.func30, Tryz.ntmps30
    go_wp2_with (go_at_call 29; refine (S1.out _).mono ?_; rintro e w1 ⟨rfl, rfl⟩)
    go_wp2
    go_ret
    exact ⟨rfl, M0.out.bel⟩

/-- A state's block beside what was there at first. -/
theorem cel_new (w : World) (vs : List Value) (T : TypeId) : Hid (Hold w (w.alloc (.cells vs.toArray T)) [celF w.heap.size vs]) := ((Hold.new w).alloc _).push (celF w.heap.size vs) (Cel.new w vs T)

set_option maxHeartbeats 4000000 in
theorem szState_at (a : Option Addr) (n c : Nat) (x : Wd) (a1 : Option Addr) (n1 c1 : Nat) (a2 : Option Addr) (n2 c2 : Nat) (t : Int) (m : Int) (hm0 : 0 ≤ m) (hm1 : m ≤ 1048576) (hn : n ≤ maxLen) (hn1 : n1 ≤ maxLen) (hn2 : n2 ≤ maxLen) (w : World) :
    Calls Tryz.prog 7 #[.agg #[.slice a n c, .int .i64 x.n, .bool x.i, .int .i64 x.b, .int .i64 x.t, .int .i64 x.p, .int .i64 x.s, .slice a1 n1 c1, .slice a2 n2 c2, .int .i64 t], .int .i64 m] w fun e w' => e = .returned (.int .i64 (if (n : Int) + (n1 : Int) + (n2 : Int) ≤ m then m - (n : Int) - (n1 : Int) - (n2 : Int) else -1)) ∧ Below w.heap.size w w' := by
  have H := cel_new w (stl a n c x a1 n1 c1 a2 n2 c2 t) 32
  have s1 := fun w => szWordS_at a n c m hm0 hm1 w hn
  obtain ⟨z, Z⟩ : ∃ z : Int, Hid (z = if (n : Int) + (n1 : Int) + (n2 : Int) ≤ m then m - (n : Int) - (n1 : Int) - (n2 : Int) else -1) := ⟨_, rfl⟩
  rw [← Z.out]
  generalize hw1 : w.alloc (.cells (stl a n c x a1 n1 c1 a2 n2 c2 t).toArray 32) = w1 at H
  by_cases h1 : (n : Int) ≤ m
  · simp only [if_pos h1] at s1
    obtain ⟨l, hl⟩ : ∃ l : Int, l = m - (n : Int) := ⟨_, rfl⟩
    rw [← hl] at s1
    have hl0 : 0 ≤ l := by omega
    have hl1 : l ≤ 1048576 := by omega
    have s2 := fun w => szMemory_at a1 n1 c1 a2 n2 c2 l hl0 hl1 hn1 hn2 w
    obtain ⟨y, hy⟩ : ∃ y : Int, y = if (n1 : Int) + (n2 : Int) ≤ l then l - (n1 : Int) - (n2 : Int) else -1 := ⟨_, rfl⟩
    simp only [← hy] at s2
    have hzy : z = y := by
      rw [Z.out, hy]
      by_cases h : (n : Int) + (n1 : Int) + (n2 : Int) ≤ m
      · rw [if_pos h, if_pos (by omega)]; omega
      · rw [if_neg h, if_neg (by omega)]
    subst hzy
    have hz1 : -1 ≤ z ∧ z ≤ 1048576 := by
      rw [hy]; split <;> omega
    obtain ⟨hz1, hz2⟩ := hz1
    have S1 := hid_mk s1
    have S2 := hid_mk s2
    clear s1 s2 hl hn hn1 hn2 h1 hy Z
    by_cases hz : z < 0
    · obtain rfl : z = -1 := by omega
      clear hz hz1 hz2
      go_enter Tryz.func7, Tryz.ntmps7
      go_upto_region 1 with fail
      clear hw1
      obtain ⟨m0, m1, m2, m3, m4, m5, m6, m7, m8, m9⟩ := (H.out.cel (.head _)).c10
      go_wp2_with (go_at_call 29; refine (S1.out _).mono ?_; rintro e w1 ⟨rfl, rfl⟩)
      go_wp2_with (go_at_call 30; refine (S2.out _).mono ?_; rintro e w2 ⟨rfl, hb⟩)
      have B := hid_mk (H.out.next hb).bel
      clear m0 m1 m2 m3 m4 m5 m6 m7 m8 m9 hb H
      go_wp2
      go_ret
      exact ⟨rfl, B.out⟩
    · have hz0 : 0 ≤ z := by omega
      go_enter Tryz.func7, Tryz.ntmps7
      go_upto_region 1 with fail
      clear hw1
      obtain ⟨m0, m1, m2, m3, m4, m5, m6, m7, m8, m9⟩ := (H.out.cel (.head _)).c10
      go_wp2_with (go_at_call 29; refine (S1.out _).mono ?_; rintro e w1 ⟨rfl, rfl⟩)
      go_wp2_with (go_at_call 30; refine (S2.out _).mono ?_; rintro e w2 ⟨rfl, hb⟩)
      have B := hid_mk (H.out.next hb).bel
      clear m0 m1 m2 m3 m4 m5 m6 m7 m8 m9 hb H
      go_wp2
      go_ret
      exact ⟨rfl, B.out⟩
  · have hzy : z = -1 := by rw [Z.out, if_neg (by omega)]
    subst hzy
    simp only [if_neg h1] at s1
    have S1 := hid_mk s1
    clear s1 Z
    go_enter Tryz.func7, Tryz.ntmps7
    go_upto_region 1 with fail
    clear hw1
    obtain ⟨m0, m1, m2, m3, m4, m5, m6, m7, m8, m9⟩ := (H.out.cel (.head _)).c10
    go_wp2_with (go_at_call 29; refine (S1.out _).mono ?_; rintro e w1 ⟨rfl, rfl⟩)
    have B := hid_mk H.out.bel
    clear m0 m1 m2 m3 m4 m5 m6 m7 m8 m9 H
    go_wp2
    go_ret
    exact ⟨rfl, B.out⟩

set_option maxHeartbeats 8000000 in
theorem eqState_same (a b : Option Addr) (n c d : Nat) (x : Wd) (a1 b1 : Option Addr) (n1 c1 d1 : Nat) (a2 b2 : Option Addr) (n2 c2 d2 : Nat) (t : Int) (R L : List Wd) (G : List Bool) (w : World) (hM : StS w a n a1 n1 a2 n2 R L G) (hN : StS w b n b1 n1 b2 n2 R L G) :
    Calls Tryz.prog 12 #[.agg #[.slice a n c, .int .i64 x.n, .bool x.i, .int .i64 x.b, .int .i64 x.t, .int .i64 x.p, .int .i64 x.s, .slice a1 n1 c1, .slice a2 n2 c2, .int .i64 t], .agg #[.slice b n d, .int .i64 x.n, .bool x.i, .int .i64 x.b, .int .i64 x.t, .int .i64 x.p, .int .i64 x.s, .slice b1 n1 d1, .slice b2 n2 d2, .int .i64 t]] w fun e w' => e = .returned (.bool true) ∧ Below w.heap.size w w' := by
  have H : Hid (Hold w ((w.alloc (.cells (stl a n c x a1 n1 c1 a2 n2 c2 t).toArray 42)).alloc (.cells (stl b n d x b1 n1 d1 b2 n2 d2 t).toArray 42)) [celF (w.heap.size + 1) (stl b n d x b1 n1 d1 b2 n2 d2 t), celF w.heap.size (stl a n c x a1 n1 c1 a2 n2 c2 t)]) := by
    have h := ((cel_new w (stl a n c x a1 n1 c1 a2 n2 c2 t) 42).out.alloc (.cells (stl b n d x b1 n1 d1 b2 n2 d2 t).toArray 42)).push (celF (w.heap.size + 1) (stl b n d x b1 n1 d1 b2 n2 d2 t)) (by
      have g := Cel.new (w.alloc (.cells (stl a n c x a1 n1 c1 a2 n2 c2 t).toArray 42)) (stl b n d x b1 n1 d1 b2 n2 d2 t) 42
      rw [World.size_alloc] at g
      exact g)
    exact h
  have SA := hid_mk hM
  have SB := hid_mk hN
  clear hM hN
  generalize hw1 : (w.alloc (.cells (stl a n c x a1 n1 c1 a2 n2 c2 t).toArray 42)).alloc (.cells (stl b n d x b1 n1 d1 b2 n2 d2 t).toArray 42) = w1 at H
  go_enter Tryz.func12, Tryz.ntmps12
  go_upto_region 1 with fail
  clear hw1
  obtain ⟨m0, m1, m2, m3, m4, m5, m6, m7, m8, m9⟩ := (H.out.cel (.tail _ (.head _))).c10
  obtain ⟨e0, e1, e2, e3, e4, e5, e6, e7, e8, e9⟩ := (H.out.cel (.head _)).c10
  go_wp2_with fail
  refine (eqWordS_same a b n c d R _ (SA.out.below H.out.bel).rs (SB.out.below H.out.bel).rs).mono ?_
  rintro e w2 ⟨rfl, hb2⟩
  replace H := hid_mk (H.out.next hb2)
  clear hb2 m0 m1 m2 m3 m4 m5 m6 m7 m8 m9 e0 e1 e2 e3 e4 e5 e6 e7 e8 e9
  obtain ⟨m0, m1, m2, m3, m4, m5, m6, m7, m8, m9⟩ := (H.out.cel (.tail _ (.head _))).c10
  obtain ⟨e0, e1, e2, e3, e4, e5, e6, e7, e8, e9⟩ := (H.out.cel (.head _)).c10
  go_wp2_with fail
  refine (eqWord_same x.n x.i x.b x.t x.p x.s _).mono ?_
  rintro e w3 ⟨rfl, hb2⟩
  replace H := hid_mk (H.out.next hb2)
  clear hb2 m0 m1 m2 m3 m4 m5 m6 m7 m8 m9 e0 e1 e2 e3 e4 e5 e6 e7 e8 e9
  obtain ⟨m0, m1, m2, m3, m4, m5, m6, m7, m8, m9⟩ := (H.out.cel (.tail _ (.head _))).c10
  obtain ⟨e0, e1, e2, e3, e4, e5, e6, e7, e8, e9⟩ := (H.out.cel (.head _)).c10
  go_wp2_with fail
  refine (eqMemory_same _ _ _ _ _ _ _ _ _ _ L G _ (SA.out.below H.out.bel).mem (SB.out.below H.out.bel).mem).mono ?_
  rintro e w4 ⟨rfl, hb2⟩
  replace H := hid_mk (H.out.next hb2)
  clear hb2 m0 m1 m2 m3 m4 m5 m6 m7 m8 m9 e0 e1 e2 e3 e4 e5 e6 e7 e8 e9
  obtain ⟨m0, m1, m2, m3, m4, m5, m6, m7, m8, m9⟩ := (H.out.cel (.tail _ (.head _))).c10
  obtain ⟨e0, e1, e2, e3, e4, e5, e6, e7, e8, e9⟩ := (H.out.cel (.head _)).c10
  have htt : (t != t) = false := by simp
  have B := hid_mk H.out.bel
  clear H
  go_wp2
  go_ret
  exact ⟨rfl, B.out⟩

set_option maxHeartbeats 4000000 in
theorem markMem_at (a : Option Addr) (n c : Nat) (a' : Option Addr) (n' c' : Nat) (L : List Wd) (G : List Bool) (k0 : Int) (h0 : 1 ≤ k0) (h1 : k0 + 6 * (n : Int) ≤ 16777216) (hn : n ≤ 1048576) (hn' : n' ≤ 1048576) (w : World) (h : AnsM a a' n n' L G w) :
    Calls Tryz.prog 49 #[.agg #[.slice a n c, .slice a' n' c'], .int .i64 k0] w fun e w' => e = .returned (.int .i64 (k0 + 6 * (n : Int) + (n' : Int))) ∧ AnsM a a' n n' (marksW k0 n) (marksB (k0 + 6 * (n : Int)) n') w' ∧ KeptS (fun k => On a k ∨ On a' k) w w' := by
  have H := hid_mk ((((Hold.new w).push (ansF a a' n n' L G) h).alloc (.cells #[.slice a n c, .slice a' n' c'] 40)).push (duoF w.heap.size (.slice a n c) (.slice a' n' c')) (Duo.new w _ _ _))
  have hlt := hid_mk (fun k hk => h.lt (k := k) hk)
  have hne := hid_mk h.ne
  clear h
  obtain ⟨m, hm⟩ : ∃ m : Int, m = k0 + 6 * (n : Int) := ⟨_, rfl⟩
  rw [← hm]
  have hm0 : 1 ≤ m := by omega
  have hm1 : m ≤ 16777216 := by omega
  have HM := hid_mk hm
  clear hm
  generalize hw1 : w.alloc (.cells #[.slice a n c, .slice a' n' c'] 40) = w1 at H
  go_enter Tryz.func49, Tryz.ntmps49
  go_upto_region 1 with fail
  clear hw1
  obtain ⟨_, m0, m1, _, _⟩ := H.out.duo (.head _)
  have A := hid_mk (H.out.ans (.tail _ (.head _)))
  have D := hid_mk (H.out.duo (.head _))
  have B := hid_mk H.out.bel
  have K := hid_mk (KeptS.ofBelow (T := fun k => On a k ∨ On a' k) H.out.bel)
  clear H
  go_wp2_with fail
  refine (markW_ans a n c L k0 h0 (by omega) _ hn A.out.ws).mono ?_
  rintro e w2 ⟨rfl, hW2, hK2⟩
  rw [← HM.out]
  have W2 := hid_mk hW2
  have G2 := hid_mk (A.out.gs.ofBlock hK2.size fun k hk ho => hK2.block k hk fun hk2 => hne.out k hk2 ho)
  have D2 : Hid (Duo w2 w.heap.size (.slice a n c) (.slice a' n' c')) := (duoF w.heap.size (.slice a n c) (.slice a' n' c')).keep _ _ D.out hK2.size fun k hk hr => hK2.block k hk fun ho => by
    have h1 := hlt.out k (.inl ho)
    have h2 : k = w.heap.size := hr
    omega
  have K2 := hid_mk (K.out.trans (hK2.mono fun k hk => .inl hk))
  clear hW2 hK2 m0 m1 A B K D
  obtain ⟨_, m0, m1, _, _⟩ := D2.out
  go_wp2_with fail
  refine (markB_ans a' n' c' G m hm0 hm1 _ hn' G2.out).mono ?_
  rintro e w3 ⟨rfl, hG3, hK3⟩
  have W3 := hid_mk (W2.out.ofBlock hK3.size fun k hk ho => hK3.block k hk fun hk2 => hne.out k ho hk2)
  have G3 := hid_mk hG3
  have K3 := hid_mk (K2.out.trans (hK3.mono fun k hk => .inr hk))
  clear hG3 hK3 m0 m1 D2 G2 W2 K2
  go_wp2
  go_ret
  exact ⟨rfl, ⟨W3.out, G3.out, hne.out⟩, K3.out⟩

set_option maxHeartbeats 4000000 in
theorem heldMem_at (a : Option Addr) (n c : Nat) (a' : Option Addr) (n' c' : Nat) (k0 : Int) (h0 : 1 ≤ k0) (h1 : k0 + 6 * (n : Int) ≤ 16777216) (hn : n ≤ 1048576) (hn' : n' ≤ 1048576) (w : World) (hM : MemS w a n a' n' (marksW k0 n) (marksB (k0 + 6 * (n : Int)) n')) :
    Calls Tryz.prog 51 #[.agg #[.slice a n c, .slice a' n' c'], .int .i64 k0] w fun e w' => e = .returned (.int .i64 (k0 + 6 * (n : Int) + (n' : Int))) ∧ Below w.heap.size w w' := by
  have M0 := hid_mk (Mb.new w (.slice a n c) (.slice a' n' c') 40)
  have S := hid_mk hM
  clear hM
  obtain ⟨m, hm⟩ : ∃ m : Int, m = k0 + 6 * (n : Int) := ⟨_, rfl⟩
  rw [← hm] at S ⊢
  have hm0 : 1 ≤ m := by omega
  have hm1 : m ≤ 16777216 := by omega
  have HM := hid_mk hm
  clear hm
  generalize hw1 : w.alloc (.cells #[.slice a n c, .slice a' n' c'] 40) = w1 at M0
  go_enter Tryz.func51, Tryz.ntmps51
  go_upto_region 1 with fail
  clear hw1
  obtain ⟨_, m0, m1, _, _⟩ := M0.out.d
  go_wp2_with fail
  refine (heldW_any a n c k0 h0 (by omega) _ hn ((S.out.ws.keep M0.out.bel).mono M0.out.bel.size)).mono ?_
  rintro e w2 ⟨rfl, hb2⟩
  rw [← HM.out]
  have M2 := hid_mk (M0.out.next hb2)
  clear hb2 m0 m1 M0
  obtain ⟨_, m0, m1, _, _⟩ := M2.out.d
  go_wp2_with fail
  refine (heldB_any a' n' c' m hm0 hm1 _ hn' ((S.out.gs.keep M2.out.bel).mono M2.out.bel.size)).mono ?_
  rintro e w3 ⟨rfl, hb3⟩
  have M3 := hid_mk (M2.out.next hb3)
  clear hb3 m0 m1 M2
  go_wp2
  go_ret
  exact ⟨rfl, M3.out.bel⟩

set_option maxHeartbeats 4000000 in
theorem markState_at (a : Option Addr) (n c : Nat) (x : Wd) (a1 : Option Addr) (n1 c1 : Nat) (a2 : Option Addr) (n2 c2 : Nat) (t : Int) (R L : List Wd) (G : List Bool) (k0 : Int) (h0 : 1 ≤ k0) (h1 : k0 + 6 * (n : Int) + 6 * (n1 : Int) ≤ 16777216) (hn : n ≤ 1048576) (hn1 : n1 ≤ 1048576) (hn2 : n2 ≤ 1048576) (w : World) (h : AnsS a a1 a2 n n1 n2 R L G w) :
    Calls Tryz.prog 15 #[.agg #[.slice a n c, .int .i64 x.n, .bool x.i, .int .i64 x.b, .int .i64 x.t, .int .i64 x.p, .int .i64 x.s, .slice a1 n1 c1, .slice a2 n2 c2, .int .i64 t], .int .i64 k0] w fun e w' => e = .returned (.int .i64 (k0 + 6 * (n : Int) + 6 * (n1 : Int) + (n2 : Int))) ∧ AnsS a a1 a2 n n1 n2 (marksW k0 n) (marksW (k0 + 6 * (n : Int)) n1) (marksB (k0 + 6 * (n : Int) + 6 * (n1 : Int)) n2) w' ∧ KeptS (fun k => On a k ∨ On a1 k ∨ On a2 k) w w' := by
  have H := hid_mk (((((Hold.new w).push (ansSF a a1 a2 n n1 n2 R L G) h).alloc (.cells (stl a n c x a1 n1 c1 a2 n2 c2 t).toArray 42))).push (celF w.heap.size (stl a n c x a1 n1 c1 a2 n2 c2 t)) (Cel.new w _ _))
  have hlt := hid_mk (fun k hk => h.lt (k := k) hk)
  have n01 := hid_mk h.n01
  have n02 := hid_mk h.n02
  have n12 := hid_mk h.n12
  clear h
  obtain ⟨m, hm⟩ : ∃ m : Int, m = k0 + 6 * (n : Int) := ⟨_, rfl⟩
  rw [← hm]
  have hm0 : 1 ≤ m := by omega
  have hm1 : m + 6 * (n1 : Int) ≤ 16777216 := by omega
  have HM := hid_mk hm
  have h1' : k0 ≤ 16777216 := by omega
  clear hm h1
  generalize hw1 : w.alloc (.cells (stl a n c x a1 n1 c1 a2 n2 c2 t).toArray 42) = w1 at H
  go_enter Tryz.func15, Tryz.ntmps15
  go_upto_region 1 with fail
  clear hw1
  obtain ⟨m0, m1, m2, m3, m4, m5, m6, m7, m8, m9⟩ := (H.out.cel (.head _)).c10
  have A := hid_mk (H.out.ansS (.tail _ (.head _)))
  have D := hid_mk (H.out.cel (.head _))
  have K := hid_mk (KeptS.ofBelow (T := fun k => On a k ∨ On a1 k ∨ On a2 k) H.out.bel)
  clear H
  go_wp2_with fail
  refine (markW_ans a n c R k0 h0 h1' _ hn A.out.rs).mono ?_
  rintro e w2 ⟨rfl, hW2, hK2⟩
  rw [← HM.out]
  have R2 := hid_mk hW2
  have A2 : Hid (AnsM a1 a2 n1 n2 L G w2) := ⟨A.out.ws.ofBlock hK2.size fun k hk ho => hK2.block k hk fun hk2 => n01.out k hk2 ho, A.out.gs.ofBlock hK2.size fun k hk ho => hK2.block k hk fun hk2 => n02.out k hk2 ho, n12.out⟩
  have D2 : Hid (Cel w2 w.heap.size (stl a n c x a1 n1 c1 a2 n2 c2 t)) := (celF w.heap.size (stl a n c x a1 n1 c1 a2 n2 c2 t)).keep _ _ D.out hK2.size fun k hk hr => hK2.block k hk fun ho => by
    have h1 := hlt.out k (.inl ho)
    have h2 : k = w.heap.size := hr
    omega
  have K2 := hid_mk (K.out.trans (hK2.mono fun k hk => .inl hk))
  clear hW2 hK2 m0 m1 m2 m3 m4 m5 m6 m7 m8 m9 A D K
  obtain ⟨m0, m1, m2, m3, m4, m5, m6, m7, m8, m9⟩ := D2.out.c10
  go_wp2_with fail
  refine (markMem_at a1 n1 c1 a2 n2 c2 L G m hm0 hm1 hn1 hn2 _ A2.out).mono ?_
  rintro e w3 ⟨rfl, A3, hK3⟩
  have R3 := hid_mk (R2.out.ofBlock hK3.size fun k hk ho => hK3.block k hk fun hk2 => hk2.elim (fun h => n01.out k ho h) fun h => n02.out k ho h)
  have A3 := hid_mk A3
  have K3 := hid_mk (K2.out.trans (hK3.mono fun k hk => .inr hk))
  clear hK3 m0 m1 m2 m3 m4 m5 m6 m7 m8 m9 D2 R2 A2 K2
  go_wp2
  go_ret
  exact ⟨rfl, ⟨R3.out, A3.out.ws, A3.out.gs, n01.out, n02.out, n12.out⟩, K3.out⟩

set_option maxHeartbeats 4000000 in
theorem heldState_at (a : Option Addr) (n c : Nat) (x : Wd) (a1 : Option Addr) (n1 c1 : Nat) (a2 : Option Addr) (n2 c2 : Nat) (t : Int) (k0 : Int) (h0 : 1 ≤ k0) (h1 : k0 + 6 * (n : Int) + 6 * (n1 : Int) ≤ 16777216) (hn : n ≤ 1048576) (hn1 : n1 ≤ 1048576) (hn2 : n2 ≤ 1048576) (w : World) (hS : StS w a n a1 n1 a2 n2 (marksW k0 n) (marksW (k0 + 6 * (n : Int)) n1) (marksB (k0 + 6 * (n : Int) + 6 * (n1 : Int)) n2)) :
    Calls Tryz.prog 16 #[.agg #[.slice a n c, .int .i64 x.n, .bool x.i, .int .i64 x.b, .int .i64 x.t, .int .i64 x.p, .int .i64 x.s, .slice a1 n1 c1, .slice a2 n2 c2, .int .i64 t], .int .i64 k0] w fun e w' => e = .returned (.int .i64 (k0 + 6 * (n : Int) + 6 * (n1 : Int) + (n2 : Int))) ∧ Below w.heap.size w w' := by
  have H := cel_new w (stl a n c x a1 n1 c1 a2 n2 c2 t) 42
  have S := hid_mk hS
  clear hS
  obtain ⟨m, hm⟩ : ∃ m : Int, m = k0 + 6 * (n : Int) := ⟨_, rfl⟩
  rw [← hm] at S ⊢
  have hm0 : 1 ≤ m := by omega
  have hm1 : m + 6 * (n1 : Int) ≤ 16777216 := by omega
  have HM := hid_mk hm
  have h1' : k0 ≤ 16777216 := by omega
  clear hm h1
  generalize hw1 : w.alloc (.cells (stl a n c x a1 n1 c1 a2 n2 c2 t).toArray 42) = w1 at H
  go_enter Tryz.func16, Tryz.ntmps16
  go_upto_region 1 with fail
  clear hw1
  obtain ⟨m0, m1, m2, m3, m4, m5, m6, m7, m8, m9⟩ := (H.out.cel (.head _)).c10
  go_wp2_with fail
  refine (heldW_any a n c k0 h0 h1' _ hn (S.out.below H.out.bel).rs).mono ?_
  rintro e w2 ⟨rfl, hb2⟩
  rw [← HM.out]
  replace H := hid_mk (H.out.next hb2)
  clear hb2 m0 m1 m2 m3 m4 m5 m6 m7 m8 m9
  obtain ⟨m0, m1, m2, m3, m4, m5, m6, m7, m8, m9⟩ := (H.out.cel (.head _)).c10
  go_wp2_with fail
  refine (heldMem_at a1 n1 c1 a2 n2 c2 m hm0 hm1 hn1 hn2 _ (S.out.below H.out.bel).mem).mono ?_
  rintro e w3 ⟨rfl, hb3⟩
  replace H := hid_mk (H.out.next hb3)
  have hu0 : 0 ≤ m + 6 * (n1 : Int) + (n2 : Int) := by omega
  clear hb3 m0 m1 m2 m3 m4 m5 m6 m7 m8 m9
  have B := hid_mk H.out.bel
  clear H
  go_wp2
  go_ret
  exact ⟨rfl, B.out⟩
end Go.Proofs.YtpkhnajhamnggaaGreatDoor

namespace Go.Proofs.YtpkhnajhamnggaaGreatDoor
open Go.ChangeShapes Go.WideShapes Go.ChangeAt Go.RowKit
set_option maxRecDepth 100000

theorem Hold.setc {w0 w : World} {fs : List Fct} {r : Nat} {vs : List Value} (h : Hold w0 w (celF r vs :: fs)) (h0 : w0.heap.size ≤ r) (hd : ∀ f ∈ fs, ∀ k, f.S k → k ≠ r) (i : Nat) (v : Value) : Hold w0 (w.setCell ⟨r, i, none⟩ v) (celF r (vs.set i v) :: fs) :=
  ((h.tail).wrote (T := fun k => k = r) (KeptS.ofBut ((KeepBut.refl r w).setCell i v) rfl) (fun k e => by omega) hd).push (celF r (vs.set i v)) ((h.cel (.head _)).set i v)
/-- The words' row of a call, as a fact. -/
def rowWF (a : Option Addr) (n : Nat) (L : List Wd) : Fct where
  S := On a
  p := fun w => RowWA w a n L
  keep := fun _ _ h hs hb => h.ofBlock hs hb
theorem rowW_mk {w : World} {q n : Nat} {L : List Wd} (h : OutW w q n n L) (hl : L.length = n) : RowWA w (some ⟨q, 0, none⟩) n L := .inr ⟨q, rfl, hl, h⟩

set_option maxHeartbeats 8000000 in
theorem toState_ans (a : Option Addr) (n c : Nat) (x : Wd) (a1 : Option Addr) (n1 c1 : Nat) (a2 : Option Addr) (n2 c2 : Nat) (t : Int) (R L : List Wd) (G : List Bool) (w : World) (hn : n ≤ 1048576) (hn1 : n1 ≤ 1048576) (hn2 : n2 ≤ 1048576) (hS : StS w a n a1 n1 a2 n2 R L G) :
    Calls Tryz.prog 10 #[.agg #[.slice a n c, .int .i64 x.n, .bool x.i, .int .i64 x.b, .int .i64 x.t, .int .i64 x.p, .int .i64 x.s, .slice a1 n1 c1, .slice a2 n2 c2, .int .i64 t]] w fun e w' => ∃ b b1 b2, e = .returned (.agg #[.slice b n n, .int .i64 x.n, .bool x.i, .int .i64 x.b, .int .i64 x.t, .int .i64 x.p, .int .i64 x.s, .slice b1 n1 n1, .slice b2 n2 n2, .int .i64 t]) ∧ AnsS b b1 b2 n n1 n2 R L G w' ∧ (∀ k, On b k ∨ On b1 k ∨ On b2 k → w.heap.size ≤ k) ∧ Below w.heap.size w w' := by
  have H : Hid (Hold w (((w.alloc (.cells (stl a n c x a1 n1 c1 a2 n2 c2 t).toArray 32)).alloc (.cells ([.slice none 0 0, .int .i64 0, .bool false, .int .i64 0, .int .i64 0, .int .i64 0, .int .i64 0, .slice none 0 0, .slice none 0 0, .int .i64 0]).toArray 42)).alloc (.cells ([.slice none 0 0, .int .i64 0, .bool false, .int .i64 0, .int .i64 0, .int .i64 0, .int .i64 0, .slice none 0 0, .slice none 0 0, .int .i64 0]).toArray 42)) [celF (w.heap.size + 1 + 1) ([.slice none 0 0, .int .i64 0, .bool false, .int .i64 0, .int .i64 0, .int .i64 0, .int .i64 0, .slice none 0 0, .slice none 0 0, .int .i64 0]), celF (w.heap.size + 1) ([.slice none 0 0, .int .i64 0, .bool false, .int .i64 0, .int .i64 0, .int .i64 0, .int .i64 0, .slice none 0 0, .slice none 0 0, .int .i64 0]), celF w.heap.size (stl a n c x a1 n1 c1 a2 n2 c2 t)]) := by
    have h1 := (((Hold.new w).alloc (.cells (stl a n c x a1 n1 c1 a2 n2 c2 t).toArray 32)).push (celF w.heap.size (stl a n c x a1 n1 c1 a2 n2 c2 t)) (Cel.new w _ _))
    have g2 := Cel.new (w.alloc (.cells (stl a n c x a1 n1 c1 a2 n2 c2 t).toArray 32)) ([.slice none 0 0, .int .i64 0, .bool false, .int .i64 0, .int .i64 0, .int .i64 0, .int .i64 0, .slice none 0 0, .slice none 0 0, .int .i64 0]) 42
    rw [World.size_alloc] at g2
    have h2 := (h1.alloc (.cells ([.slice none 0 0, .int .i64 0, .bool false, .int .i64 0, .int .i64 0, .int .i64 0, .int .i64 0, .slice none 0 0, .slice none 0 0, .int .i64 0]).toArray 42)).push (celF (w.heap.size + 1) ([.slice none 0 0, .int .i64 0, .bool false, .int .i64 0, .int .i64 0, .int .i64 0, .int .i64 0, .slice none 0 0, .slice none 0 0, .int .i64 0])) g2
    have g3 := Cel.new ((w.alloc (.cells (stl a n c x a1 n1 c1 a2 n2 c2 t).toArray 32)).alloc (.cells ([.slice none 0 0, .int .i64 0, .bool false, .int .i64 0, .int .i64 0, .int .i64 0, .int .i64 0, .slice none 0 0, .slice none 0 0, .int .i64 0]).toArray 42)) ([.slice none 0 0, .int .i64 0, .bool false, .int .i64 0, .int .i64 0, .int .i64 0, .int .i64 0, .slice none 0 0, .slice none 0 0, .int .i64 0]) 42
    rw [World.size_alloc, World.size_alloc] at g3
    exact (h2.alloc (.cells ([.slice none 0 0, .int .i64 0, .bool false, .int .i64 0, .int .i64 0, .int .i64 0, .int .i64 0, .slice none 0 0, .slice none 0 0, .int .i64 0]).toArray 42)).push (celF (w.heap.size + 1 + 1) ([.slice none 0 0, .int .i64 0, .bool false, .int .i64 0, .int .i64 0, .int .i64 0, .int .i64 0, .slice none 0 0, .slice none 0 0, .int .i64 0])) g3
  have S := hid_mk hS
  have hlr := hS.rs.2.1
  have hlw := hS.mem.ws.2.1
  have hlg := hS.mem.gs.2.1
  clear hS
  have hs := w.heap.size
  generalize hw1 : (((w.alloc (.cells (stl a n c x a1 n1 c1 a2 n2 c2 t).toArray 32)).alloc (.cells ([.slice none 0 0, .int .i64 0, .bool false, .int .i64 0, .int .i64 0, .int .i64 0, .int .i64 0, .slice none 0 0, .slice none 0 0, .int .i64 0]).toArray 42)).alloc (.cells ([.slice none 0 0, .int .i64 0, .bool false, .int .i64 0, .int .i64 0, .int .i64 0, .int .i64 0, .slice none 0 0, .slice none 0 0, .int .i64 0]).toArray 42)) = w1 at H
  go_enter Tryz.func10, Tryz.ntmps10
  go_upto_region 2 with fail
  clear hw1
  obtain ⟨hz1, _⟩ : w.heap.size + 1 + 1 < w1.heap.size ∧ True := ⟨(H.out.cel (.head _)).lt, trivial⟩
  obtain ⟨m0, m1, m2, m3, m4, m5, m6, m7, m8, m9⟩ := (H.out.cel (.tail _ (.tail _ (.head _)))).c10
  go_wp2_with fail
  refine (toWordS_own a n c R _ hn (S.out.below H.out.bel).rs).mono ?_
  rintro e w2 ⟨q, rfl, hq, hO, hb2⟩
  have Q0 := hid_mk (fun k (hk : On (some ⟨q, 0, none⟩) k) => show w.heap.size + 1 + 1 < k by have := (on_some q k).1 hk; omega)
  replace H : Hid (Hold w w2 [celF (w.heap.size + 1 + 1) ([.slice none 0 0, .int .i64 0, .bool false, .int .i64 0, .int .i64 0, .int .i64 0, .int .i64 0, .slice none 0 0, .slice none 0 0, .int .i64 0]), rowWF (some ⟨q, 0, none⟩) n R, celF (w.heap.size + 1) ([.slice none 0 0, .int .i64 0, .bool false, .int .i64 0, .int .i64 0, .int .i64 0, .int .i64 0, .slice none 0 0, .slice none 0 0, .int .i64 0]), celF w.heap.size (stl a n c x a1 n1 c1 a2 n2 c2 t)]) := by
    have h := (H.out.next hb2)
    exact (h.tail.push (rowWF (some ⟨q, 0, none⟩) n R) (rowW_mk hO hlr)).push (celF (w.heap.size + 1 + 1) ([.slice none 0 0, .int .i64 0, .bool false, .int .i64 0, .int .i64 0, .int .i64 0, .int .i64 0, .slice none 0 0, .slice none 0 0, .int .i64 0])) (h.cel (.head _))
  have hq2 := hO.lt
  have hs2 := hb2.size
  clear m0 m1 m2 m3 m4 m5 m6 m7 m8 m9 hb2 hO
  obtain ⟨o0, o1, o2, o3, o4, o5, o6, o7, o8, o9⟩ := (H.out.cel (.head _)).c10
  obtain ⟨g0, g1, g2, g3, g4, g5, g6, g7, g8, g9⟩ := (H.out.cel (.head _)).f10
  go_upto_region 3 with fail
  clear o0 o1 o2 o3 o4 o5 o6 o7 o8 o9 g0 g1 g2 g3 g4 g5 g6 g7 g8 g9
  replace H : Hid (Hold w (w2.setCell ⟨w.heap.size + 1 + 1, 0, none⟩ (.slice (some ⟨q, 0, none⟩) n n)) [celF (w.heap.size + 1 + 1) ([.slice (some ⟨q, 0, none⟩) n n, .int .i64 0, .bool false, .int .i64 0, .int .i64 0, .int .i64 0, .int .i64 0, .slice none 0 0, .slice none 0 0, .int .i64 0]), rowWF (some ⟨q, 0, none⟩) n R, celF (w.heap.size + 1) ([.slice none 0 0, .int .i64 0, .bool false, .int .i64 0, .int .i64 0, .int .i64 0, .int .i64 0, .slice none 0 0, .slice none 0 0, .int .i64 0]), celF w.heap.size (stl a n c x a1 n1 c1 a2 n2 c2 t)]) := by
    exact H.out.setc (by omega) (fun f hf k hk => by
    simp only [List.mem_cons, List.not_mem_nil, or_false] at hf
    rcases hf with rfl | rfl | rfl
    all_goals first | (simp only [celF] at hk; omega) | (simp only [rowWF] at hk; have := Q0.out k hk; omega)) 0 _
  have hs3 : (w2.setCell ⟨w.heap.size + 1 + 1, 0, none⟩ (.slice (some ⟨q, 0, none⟩) n n)).heap.size = w2.heap.size := by simp
  generalize w2.setCell ⟨w.heap.size + 1 + 1, 0, none⟩ (.slice (some ⟨q, 0, none⟩) n n) = w3 at H hs3 ⊢
  obtain ⟨m0, m1, m2, m3, m4, m5, m6, m7, m8, m9⟩ := (H.out.cel (.tail _ (.tail _ (.tail _ (.head _))))).c10
  go_wp2_with fail
  refine (toWord_any x.n x.i x.b x.t x.p x.s _).mono ?_
  rintro e w4 ⟨rfl, hb2⟩
  replace H := hid_mk (H.out.next hb2)
  have hs4 := hb2.size
  clear m0 m1 m2 m3 m4 m5 m6 m7 m8 m9 hb2
  obtain ⟨o0, o1, o2, o3, o4, o5, o6, o7, o8, o9⟩ := (H.out.cel (.head _)).c10
  obtain ⟨g0, g1, g2, g3, g4, g5, g6, g7, g8, g9⟩ := (H.out.cel (.head _)).f10
  go_upto_region 4 with fail
  clear o0 o1 o2 o3 o4 o5 o6 o7 o8 o9 g0 g1 g2 g3 g4 g5 g6 g7 g8 g9
  have DD : Hid (∀ f ∈ [rowWF (some ⟨q, 0, none⟩) n R, celF (w.heap.size + 1) ([.slice none 0 0, .int .i64 0, .bool false, .int .i64 0, .int .i64 0, .int .i64 0, .int .i64 0, .slice none 0 0, .slice none 0 0, .int .i64 0]), celF w.heap.size (stl a n c x a1 n1 c1 a2 n2 c2 t)], ∀ k, f.S k → k ≠ w.heap.size + 1 + 1) := (fun f hf k hk => by
    simp only [List.mem_cons, List.not_mem_nil, or_false] at hf
    rcases hf with rfl | rfl | rfl
    all_goals first | (simp only [celF] at hk; omega) | (simp only [rowWF] at hk; have := Q0.out k hk; omega))
  replace H : Hid (Hold w ((((((w4.setCell ⟨w.heap.size + 1 + 1, 1, none⟩ (.int .i64 x.n)).setCell ⟨w.heap.size + 1 + 1, 2, none⟩ (.bool x.i)).setCell ⟨w.heap.size + 1 + 1, 3, none⟩ (.int .i64 x.b)).setCell ⟨w.heap.size + 1 + 1, 4, none⟩ (.int .i64 x.t)).setCell ⟨w.heap.size + 1 + 1, 5, none⟩ (.int .i64 x.p)).setCell ⟨w.heap.size + 1 + 1, 6, none⟩ (.int .i64 x.s)) [celF (w.heap.size + 1 + 1) (stl (some ⟨q, 0, none⟩) n n x none 0 0 none 0 0 0), rowWF (some ⟨q, 0, none⟩) n R, celF (w.heap.size + 1) ([.slice none 0 0, .int .i64 0, .bool false, .int .i64 0, .int .i64 0, .int .i64 0, .int .i64 0, .slice none 0 0, .slice none 0 0, .int .i64 0]), celF w.heap.size (stl a n c x a1 n1 c1 a2 n2 c2 t)]) := by
    exact (((((H.out.setc (by omega) DD.out 1 _).setc (by omega) DD.out 2 _).setc (by omega) DD.out 3 _).setc (by omega) DD.out 4 _).setc (by omega) DD.out 5 _).setc (by omega) DD.out 6 _
  have hs5 : ((((((w4.setCell ⟨w.heap.size + 1 + 1, 1, none⟩ (.int .i64 x.n)).setCell ⟨w.heap.size + 1 + 1, 2, none⟩ (.bool x.i)).setCell ⟨w.heap.size + 1 + 1, 3, none⟩ (.int .i64 x.b)).setCell ⟨w.heap.size + 1 + 1, 4, none⟩ (.int .i64 x.t)).setCell ⟨w.heap.size + 1 + 1, 5, none⟩ (.int .i64 x.p)).setCell ⟨w.heap.size + 1 + 1, 6, none⟩ (.int .i64 x.s)).heap.size = w4.heap.size := by simp
  generalize ((((((w4.setCell ⟨w.heap.size + 1 + 1, 1, none⟩ (.int .i64 x.n)).setCell ⟨w.heap.size + 1 + 1, 2, none⟩ (.bool x.i)).setCell ⟨w.heap.size + 1 + 1, 3, none⟩ (.int .i64 x.b)).setCell ⟨w.heap.size + 1 + 1, 4, none⟩ (.int .i64 x.t)).setCell ⟨w.heap.size + 1 + 1, 5, none⟩ (.int .i64 x.p)).setCell ⟨w.heap.size + 1 + 1, 6, none⟩ (.int .i64 x.s)) = w5 at H hs5 ⊢
  obtain ⟨m0, m1, m2, m3, m4, m5, m6, m7, m8, m9⟩ := (H.out.cel (.tail _ (.tail _ (.tail _ (.head _))))).c10
  go_wp2_with fail
  refine (toMemory_ans a1 n1 c1 a2 n2 c2 L G _ hn1 hn2 (S.out.below H.out.bel).mem).mono ?_
  rintro e w6 ⟨b1, b2, rfl, A6, hg6, hb6⟩
  have Q6 := hid_mk (fun k hk => show w.heap.size + 1 + 1 < k ∧ q < k from ⟨by have := hg6 k hk; omega, by have := hg6 k hk; omega⟩)
  replace H : Hid (Hold w w6 [celF (w.heap.size + 1 + 1) (stl (some ⟨q, 0, none⟩) n n x none 0 0 none 0 0 0), rowWF (some ⟨q, 0, none⟩) n R, celF (w.heap.size + 1) ([.slice none 0 0, .int .i64 0, .bool false, .int .i64 0, .int .i64 0, .int .i64 0, .int .i64 0, .slice none 0 0, .slice none 0 0, .int .i64 0]), celF w.heap.size (stl a n c x a1 n1 c1 a2 n2 c2 t), ansF b1 b2 n1 n2 L G]) := by
    have h := (H.out.next hb6).push (ansF b1 b2 n1 n2 L G) A6
    exact h.sub (fun f hf => by
      simp only [List.mem_cons, List.not_mem_nil, or_false] at hf ⊢
      rcases hf with rfl | rfl | rfl | rfl | rfl
      · exact .inr (.inl rfl)
      · exact .inr (.inr (.inl rfl))
      · exact .inr (.inr (.inr (.inl rfl)))
      · exact .inr (.inr (.inr (.inr rfl)))
      · exact .inl rfl)
  have hs6 := hb6.size
  have DE : Hid (∀ f ∈ [rowWF (some ⟨q, 0, none⟩) n R, celF (w.heap.size + 1) ([.slice none 0 0, .int .i64 0, .bool false, .int .i64 0, .int .i64 0, .int .i64 0, .int .i64 0, .slice none 0 0, .slice none 0 0, .int .i64 0]), celF w.heap.size (stl a n c x a1 n1 c1 a2 n2 c2 t), ansF b1 b2 n1 n2 L G], ∀ k, f.S k → k ≠ w.heap.size + 1 + 1) := (fun f hf k hk => by
    simp only [List.mem_cons, List.not_mem_nil, or_false] at hf
    rcases hf with rfl | rfl | rfl | rfl
    · have := Q0.out k hk; omega
    · simp only [celF] at hk; omega
    · simp only [celF] at hk; omega
    · have := Q6.out k hk; omega)
  clear m0 m1 m2 m3 m4 m5 m6 m7 m8 m9 hb6 A6 hg6
  obtain ⟨o0, o1, o2, o3, o4, o5, o6, o7, o8, o9⟩ := (H.out.cel (.head _)).c10
  obtain ⟨g0, g1, g2, g3, g4, g5, g6, g7, g8, g9⟩ := (H.out.cel (.head _)).f10
  go_upto_region 5 with fail
  clear o0 o1 o2 o3 o4 o5 o6 o7 o8 o9 g0 g1 g2 g3 g4 g5 g6 g7 g8 g9
  replace H : Hid (Hold w ((w6.setCell ⟨w.heap.size + 1 + 1, 7, none⟩ (.slice b1 n1 n1)).setCell ⟨w.heap.size + 1 + 1, 8, none⟩ (.slice b2 n2 n2)) [celF (w.heap.size + 1 + 1) (stl (some ⟨q, 0, none⟩) n n x b1 n1 n1 b2 n2 n2 0), rowWF (some ⟨q, 0, none⟩) n R, celF (w.heap.size + 1) ([.slice none 0 0, .int .i64 0, .bool false, .int .i64 0, .int .i64 0, .int .i64 0, .int .i64 0, .slice none 0 0, .slice none 0 0, .int .i64 0]), celF w.heap.size (stl a n c x a1 n1 c1 a2 n2 c2 t), ansF b1 b2 n1 n2 L G]) := by
    exact (H.out.setc (by omega) DE.out 7 _).setc (by omega) DE.out 8 _
  generalize ((w6.setCell ⟨w.heap.size + 1 + 1, 7, none⟩ (.slice b1 n1 n1)).setCell ⟨w.heap.size + 1 + 1, 8, none⟩ (.slice b2 n2 n2)) = w7 at H ⊢
  obtain ⟨m0, m1, m2, m3, m4, m5, m6, m7, m8, m9⟩ := (H.out.cel (.tail _ (.tail _ (.tail _ (.head _))))).c10
  obtain ⟨o0, o1, o2, o3, o4, o5, o6, o7, o8, o9⟩ := (H.out.cel (.head _)).c10
  obtain ⟨g0, g1, g2, g3, g4, g5, g6, g7, g8, g9⟩ := (H.out.cel (.head _)).f10
  go_upto_region 6 with fail
  clear m0 m1 m2 m3 m4 m5 m6 m7 m8 m9 o0 o1 o2 o3 o4 o5 o6 o7 o8 o9 g0 g1 g2 g3 g4 g5 g6 g7 g8 g9
  replace H : Hid (Hold w (w7.setCell ⟨w.heap.size + 1 + 1, 9, none⟩ (.int .i64 t)) [celF (w.heap.size + 1 + 1) (stl (some ⟨q, 0, none⟩) n n x b1 n1 n1 b2 n2 n2 t), rowWF (some ⟨q, 0, none⟩) n R, celF (w.heap.size + 1) ([.slice none 0 0, .int .i64 0, .bool false, .int .i64 0, .int .i64 0, .int .i64 0, .int .i64 0, .slice none 0 0, .slice none 0 0, .int .i64 0]), celF w.heap.size (stl a n c x a1 n1 c1 a2 n2 c2 t), ansF b1 b2 n1 n2 L G]) := by
    exact H.out.setc (by omega) DE.out 9 _
  generalize w7.setCell ⟨w.heap.size + 1 + 1, 9, none⟩ (.int .i64 t) = w8 at H ⊢
  obtain ⟨o0, o1, o2, o3, o4, o5, o6, o7, o8, o9⟩ := (H.out.cel (.head _)).c10
  obtain ⟨r0, r1, r2, r3, r4, r5, r6, r7, r8, r9⟩ := (H.out.cel (.tail _ (.tail _ (.head _)))).c10
  obtain ⟨h0, h1, h2, h3, h4, h5, h6, h7, h8, h9⟩ := (H.out.cel (.tail _ (.tail _ (.head _)))).f10
  go_wp2
  refine bodyPost_ret (v := .agg #[.slice (some ⟨q, 0, none⟩) n n, .int .i64 x.n, .bool x.i, .int .i64 x.b, .int .i64 x.t, .int .i64 x.p, .int .i64 x.s, .slice b1 n1 n1, .slice b2 n2 n2, .int .i64 t]) (by simp [results, Tryz.results10, go_sem, r0, r1, r2, r3, r4, r5, r6, r7, r8, r9]) rfl ⟨some ⟨q, 0, none⟩, b1, b2, rfl, ?_⟩
  have k := (((((((((((KeepBut.refl (w.heap.size + 1) w8).setCell 0 (.slice (some ⟨q, 0, none⟩) n n)).setCell 1 (.int .i64 x.n)).setCell 2 (.bool x.i)).setCell 3 (.int .i64 x.b)).setCell 4 (.int .i64 x.t)).setCell 5 (.int .i64 x.p)).setCell 6 (.int .i64 x.s)).setCell 7 (.slice b1 n1 n1)).setCell 8 (.slice b2 n2 n2)).setCell 9 (.int .i64 t))
  have g : Hold w _ [rowWF (some ⟨q, 0, none⟩) n R, ansF b1 b2 n1 n2 L G] := (H.out.sub (gs := [rowWF (some ⟨q, 0, none⟩) n R, ansF b1 b2 n1 n2 L G]) (fun f hf => by
      simp only [List.mem_cons, List.not_mem_nil, or_false] at hf ⊢
      rcases hf with rfl | rfl
      · exact .inr (.inl rfl)
      · exact .inr (.inr (.inr (.inr rfl))))).wrote (T := fun k => k = w.heap.size + 1) (KeptS.ofBut k rfl) (fun k e => by omega) (fun f hf k hk e => by
      simp only [List.mem_cons, List.not_mem_nil, or_false] at hf
      rcases hf with rfl | rfl
      · have := Q0.out k hk; omega
      · have := Q6.out k hk; omega)
  have hR : RowWA _ (some ⟨q, 0, none⟩) n R := g.at (.head _)
  have hA : AnsM b1 b2 n1 n2 L G _ := g.at (.tail _ (.head _))
  exact ⟨⟨hR, hA.ws, hA.gs, fun k h1 h2 => by have := (Q6.out k (.inl h2)).2; have := (on_some q k).1 h1; omega, fun k h1 h2 => by have := (Q6.out k (.inr h2)).2; have := (on_some q k).1 h1; omega, hA.ne⟩, fun k hk => by
    rcases hk with hk | hk
    · have := Q0.out k hk; omega
    · have := Q6.out k hk; omega, g.bel⟩
end Go.Proofs.YtpkhnajhamnggaaGreatDoor

namespace Go.Proofs.YtpkhnajhamnggaaGreatDoor
open Go.ChangeShapes Go.WideShapes Go.ChangeAt Go.RowKit
set_option maxRecDepth 100000

/-- What StateOk answers. -/
def sokB (R : List Wd) (x : Wd) (L : List Wd) (G : List Bool) (t : Int) : Bool := decide (R.length = 8) && R.all okW && okW x && mokB L G && decide (0 ≤ t ∧ t ≤ 5)
theorem sok_parts {R : List Wd} {x : Wd} {L : List Wd} {G : List Bool} {t : Int} (h : sokB R x L G t = true) : R.length = 8 ∧ R.all okW = true ∧ okW x = true ∧ mokB L G = true ∧ 0 ≤ t ∧ t ≤ 5 := by
  unfold sokB at h
  simp only [Bool.and_eq_true, decide_eq_true_eq] at h
  exact ⟨h.1.1.1.1, h.1.1.1.2, h.1.1.2, h.1.2, h.2.1, h.2.2⟩
theorem cel_new' (w : World) (vs : List Value) (T : TypeId) : Hid (Hold w (w.alloc (.cells vs.toArray T)) [celF w.heap.size vs]) := ((Hold.new w).alloc _).push (celF w.heap.size vs) (Cel.new w vs T)

set_option maxHeartbeats 8000000 in
theorem specStateOk_any (a : Option Addr) (n c : Nat) (x : Wd) (a1 : Option Addr) (n1 c1 : Nat) (a2 : Option Addr) (n2 c2 : Nat) (t : Int) (R L : List Wd) (G : List Bool) (w : World) (hS : StS w a n a1 n1 a2 n2 R L G) :
    Calls Tryz.prog 31 #[.agg #[.slice a n c, .int .i64 x.n, .bool x.i, .int .i64 x.b, .int .i64 x.t, .int .i64 x.p, .int .i64 x.s, .slice a1 n1 c1, .slice a2 n2 c2, .int .i64 t]] w fun e w' => e = .returned (.bool (sokB R x L G t)) ∧ Below w.heap.size w w' := by
  have H := cel_new' w (stl a n c x a1 n1 c1 a2 n2 c2 t) 42
  have S := hid_mk hS
  have hn := hS.rs.2.1
  have hm := hS.rs.1
  unfold maxLen at hm
  clear hS
  obtain ⟨z, Z⟩ : ∃ z, Hid (z = sokB R x L G t) := ⟨_, rfl⟩
  rw [← Z.out]
  generalize hw1 : w.alloc (.cells (stl a n c x a1 n1 c1 a2 n2 c2 t).toArray 42) = w1 at H
  go_enter Tryz.func31, Tryz.ntmps31
  go_upto_region 1 with fail
  clear hw1
  go_wp2
  go_loopw [3] (fun cc wr => ∃ k : Nat, k ≤ n ∧ cc = .int .i64 (k : Int) ∧ Hid ((R.take k).all okW = true) ∧ Hid (Hold w wr [celF w.heap.size (stl a n c x a1 n1 c1 a2 n2 c2 t)])) (fun cc _ => n - (intOf cc).toNat)
  case atStart => exact ⟨0, Nat.zero_le _, rfl, by simp [Hid], H.out⟩
  case round =>
    clear H
    obtain ⟨k, hk, rfl, AA, H⟩ := hrel
    by_cases hlt : k < n
    · obtain ⟨kb, o, y, rfl, hkb, hy, hat⟩ := (S.out.below H.out.bel).rs.at hlt
      obtain ⟨d0, d1, d2, d3, d4, d5⟩ := hat
      obtain ⟨m0, m1, m2, m3, m4, m5, m6, m7, m8, m9⟩ := (H.out.cel (.head _)).c10
      have s2 := specWordOk_any y.n y.i y.b y.t y.p y.s
      have hO : Hid (okW y = wokB y.n y.i y.b y.t y.p y.s) := rfl
      generalize wokB y.n y.i y.b y.t y.p y.s = v at s2 hO
      have S2 := hid_mk s2
      have HY := hid_mk hy
      clear hy s2
      go_wp2_with (go_at_call 72; refine (S2.out _).mono ?_; rintro e w2 ⟨rfl, hb⟩; refine Hid.out ?_)
      refine Lib.hid ?_
      replace H := hid_mk (H.out.next hb)
      clear hb d0 d1 d2 d3 d4 d5 m0 m1 m2 m3 m4 m5 m6 m7 m8 m9
      cases v
      · have hz : z = false := by
          rw [Z.out, sokB, allW_at HY.out hO.out]; simp
        subst hz
        have B := hid_mk H.out.bel
        go_wp2
        go_ret
        exact ⟨rfl, B.out⟩
      · go_wp2
        go_roundw
        case rel => exact ⟨k + 1, hlt, by go_num, allW_take HY.out AA.out hO.out, H.out⟩
        case measure => simp [intOf]; omega
    · obtain rfl : k = n := by omega
      have ha : R.all okW = true := by
        have h := AA.out
        rwa [List.take_of_length_le (by omega)] at h
      have Z1 : Hid (z = (decide (R.length = 8) && okW x && mokB L G && decide (0 ≤ t ∧ t ≤ 5))) := by rw [Z.out, sokB, ha]; simp [Hid]
      clear Z ha AA
      obtain ⟨m0, m1, m2, m3, m4, m5, m6, m7, m8, m9⟩ := (H.out.cel (.head _)).c10
      by_cases h8 : k = 8
      · have hc8 : ((k : Int) == 8) = true := by simp; omega
        have Z2 : Hid (z = (okW x && mokB L G && decide (0 ≤ t ∧ t ≤ 5))) := by rw [Z1.out, hn, h8]; simp [Hid]
        have s3 := specWordOk_any x.n x.i x.b x.t x.p x.s
        have hX : Hid (okW x = wokB x.n x.i x.b x.t x.p x.s) := rfl
        generalize wokB x.n x.i x.b x.t x.p x.s = v at s3 hX
        rw [hX.out] at Z2
        have S3 := hid_mk s3
        clear s3 hX Z1
        cases v
        · have hz : z = false := by rw [Z2.out]; rfl
          subst hz
          go_wp2_with (go_at_call 72; refine (S3.out _).mono ?_; rintro e w2 ⟨rfl, hb⟩; refine Hid.out ?_)
          refine Lib.hid ?_
          have B := hid_mk (H.out.next hb).bel
          clear hb m0 m1 m2 m3 m4 m5 m6 m7 m8 m9
          go_wp2
          go_ret
          exact ⟨rfl, B.out⟩
        · go_wp2_with (go_at_call 72; refine (S3.out _).mono ?_; rintro e w2 ⟨rfl, hb⟩; refine Hid.out ?_)
          refine Lib.hid ?_
          replace H := hid_mk (H.out.next hb)
          clear hb m0 m1 m2 m3 m4 m5 m6 m7 m8 m9
          obtain ⟨m0, m1, m2, m3, m4, m5, m6, m7, m8, m9⟩ := (H.out.cel (.head _)).c10
          have s4 := specMemoryOk_any a1 n1 c1 a2 n2 c2 L G w2 (S.out.below H.out.bel).mem
          generalize mokB L G = v at s4 Z2
          have S4 := hid_mk s4
          clear s4
          cases v
          · have hz : z = false := by rw [Z2.out]; rfl
            subst hz
            go_wp2_with (go_at_call 73; refine S4.out.mono ?_; rintro e w3 ⟨rfl, hb⟩; refine Hid.out ?_)
            refine Lib.hid ?_
            have B := hid_mk (H.out.next hb).bel
            clear hb m0 m1 m2 m3 m4 m5 m6 m7 m8 m9
            go_wp2
            go_ret
            exact ⟨rfl, B.out⟩
          · go_wp2_with (go_at_call 73; refine S4.out.mono ?_; rintro e w3 ⟨rfl, hb⟩; refine Hid.out ?_)
            refine Lib.hid ?_
            replace H := hid_mk (H.out.next hb)
            clear hb m0 m1 m2 m3 m4 m5 m6 m7 m8 m9
            obtain ⟨m0, m1, m2, m3, m4, m5, m6, m7, m8, m9⟩ := (H.out.cel (.head _)).c10
            have s5 := in_any t 0 5
            have hz : z = decide (0 ≤ t ∧ t ≤ 5) := by rw [Z2.out]; simp
            rw [← hz] at s5
            have S5 := hid_mk s5
            clear s5 hz
            have B := hid_mk H.out.bel
            clear H
            go_wp2_with (go_at_call 74; refine (S5.out _).mono ?_; rintro e w' ⟨rfl, rfl⟩)
            go_wp2
            go_ret
            exact ⟨rfl, B.out⟩
      · have hc8 : ((k : Int) == 8) = false := by simp; omega
        have hz : z = false := by rw [Z1.out, hn]; simp [h8]
        subst hz
        have B := hid_mk H.out.bel
        clear H
        go_wp2
        go_ret
        exact ⟨rfl, B.out⟩

set_option maxHeartbeats 8000000 in
theorem implStateOk_any (a : Option Addr) (n c : Nat) (x : Wd) (a1 : Option Addr) (n1 c1 : Nat) (a2 : Option Addr) (n2 c2 : Nat) (t : Int) (R L : List Wd) (G : List Bool) (w : World) (hS : StS w a n a1 n1 a2 n2 R L G) :
    Calls Tryz.prog 41 #[.agg #[.slice a n c, .int .i64 x.n, .bool x.i, .int .i64 x.b, .int .i64 x.t, .int .i64 x.p, .int .i64 x.s, .slice a1 n1 c1, .slice a2 n2 c2, .int .i64 t]] w fun e w' => e = .returned (.bool (sokB R x L G t)) ∧ Below w.heap.size w w' := by
  have H := cel_new' w (stl a n c x a1 n1 c1 a2 n2 c2 t) 42
  have S := hid_mk hS
  have hn := hS.rs.2.1
  have hm := hS.rs.1
  unfold maxLen at hm
  clear hS
  obtain ⟨z, Z⟩ : ∃ z, Hid (z = sokB R x L G t) := ⟨_, rfl⟩
  rw [← Z.out]
  generalize hw1 : w.alloc (.cells (stl a n c x a1 n1 c1 a2 n2 c2 t).toArray 42) = w1 at H
  go_enter Tryz.func41, Tryz.ntmps41
  go_upto_region 1 with fail
  clear hw1
  obtain ⟨m0, m1, m2, m3, m4, m5, m6, m7, m8, m9⟩ := (H.out.cel (.head _)).c10
  by_cases h8 : n = 8
  · have Z1 : Hid (z = (R.all okW && okW x && mokB L G && decide (0 ≤ t ∧ t ≤ 5))) := by rw [Z.out, sokB, hn, h8]; simp [Hid]
    subst h8
    clear Z
    have s1 := implWordsOk_any a 8 c R w1 (S.out.below H.out.bel).rs
    generalize R.all okW = v at s1 Z1
    have S1 := hid_mk s1
    clear s1
    cases v
    · have hz : z = false := by rw [Z1.out]; simp
      subst hz
      go_wp2_with (go_at_call 85; refine S1.out.mono ?_; rintro e w2 ⟨rfl, hb⟩; refine Hid.out ?_)
      refine Lib.hid ?_
      have B := hid_mk (H.out.next hb).bel
      clear hb m0 m1 m2 m3 m4 m5 m6 m7 m8 m9 S1
      go_wp2
      go_ret
      exact ⟨rfl, B.out⟩
    · go_wp2_with (go_at_call 85; refine S1.out.mono ?_; rintro e w2 ⟨rfl, hb⟩; refine Hid.out ?_)
      refine Lib.hid ?_
      replace H := hid_mk (H.out.next hb)
      clear hb m0 m1 m2 m3 m4 m5 m6 m7 m8 m9 S1
      obtain ⟨m0, m1, m2, m3, m4, m5, m6, m7, m8, m9⟩ := (H.out.cel (.head _)).c10
      have Z9 := Z1
      clear Z1
      have Z1 := Z9
      clear Z9
      generalize w2 = wv at H m0 m1 m2 m3 m4 m5 m6 m7 m8 m9 ⊢
      have s1 := implWordOk_any x.n x.i x.b x.t x.p x.s wv
      have hX : Hid (okW x = wokB x.n x.i x.b x.t x.p x.s) := rfl
      generalize wokB x.n x.i x.b x.t x.p x.s = v at s1 hX
      rw [hX.out] at Z1
      have S1 := hid_mk s1
      clear s1 hX
      cases v
      · have hz : z = false := by rw [Z1.out]; simp
        subst hz
        go_wp2_with (go_at_call 86; refine S1.out.mono ?_; rintro e w2 ⟨rfl, hb⟩; refine Hid.out ?_)
        refine Lib.hid ?_
        have B := hid_mk (H.out.next hb).bel
        clear hb m0 m1 m2 m3 m4 m5 m6 m7 m8 m9 S1
        go_wp2
        go_ret
        exact ⟨rfl, B.out⟩
      · go_wp2_with (go_at_call 86; refine S1.out.mono ?_; rintro e w2 ⟨rfl, hb⟩; refine Hid.out ?_)
        refine Lib.hid ?_
        replace H := hid_mk (H.out.next hb)
        clear hb m0 m1 m2 m3 m4 m5 m6 m7 m8 m9 S1
        obtain ⟨m0, m1, m2, m3, m4, m5, m6, m7, m8, m9⟩ := (H.out.cel (.head _)).c10
        have Z9 := Z1
        clear Z1
        have Z1 := Z9
        clear Z9
        generalize w2 = wv at H m0 m1 m2 m3 m4 m5 m6 m7 m8 m9 ⊢
        have s1 := implMemoryOk_any a1 n1 c1 a2 n2 c2 L G _ (S.out.below H.out.bel).mem
        generalize mokB L G = v at s1 Z1
        have S1 := hid_mk s1
        clear s1
        cases v
        · have hz : z = false := by rw [Z1.out]; simp
          subst hz
          go_wp2_with (go_at_call 87; refine S1.out.mono ?_; rintro e w2 ⟨rfl, hb⟩; refine Hid.out ?_)
          refine Lib.hid ?_
          have B := hid_mk (H.out.next hb).bel
          clear hb m0 m1 m2 m3 m4 m5 m6 m7 m8 m9 S1
          go_wp2
          go_ret
          exact ⟨rfl, B.out⟩
        · go_wp2_with (go_at_call 87; refine S1.out.mono ?_; rintro e w2 ⟨rfl, hb⟩; refine Hid.out ?_)
          refine Lib.hid ?_
          replace H := hid_mk (H.out.next hb)
          clear hb m0 m1 m2 m3 m4 m5 m6 m7 m8 m9 S1
          obtain ⟨m0, m1, m2, m3, m4, m5, m6, m7, m8, m9⟩ := (H.out.cel (.head _)).c10
          have Z9 := Z1
          clear Z1
          have Z1 := Z9
          clear Z9
          generalize w2 = wv at H m0 m1 m2 m3 m4 m5 m6 m7 m8 m9 ⊢
          have s5 := isTrap_any t
          have hz : z = decide (0 ≤ t ∧ t ≤ 5) := by rw [Z1.out]; simp
          rw [← hz] at s5
          have S5 := hid_mk s5
          have B := hid_mk H.out.bel
          clear s5 hz H Z1
          go_wp2_with (go_at_call 88; refine (S5.out _).mono ?_; rintro e w' ⟨rfl, rfl⟩)
          go_wp2
          go_ret
          exact ⟨rfl, B.out⟩
  · have hz : z = false := by rw [Z.out, sokB, hn]; simp [h8]
    subst hz
    have hc8 : ((n : Int) == 8) = false := by simp; omega
    have B := hid_mk H.out.bel
    clear H
    go_wp2
    go_ret
    exact ⟨rfl, B.out⟩
end Go.Proofs.YtpkhnajhamnggaaGreatDoor

namespace Go.Proofs.YtpkhnajhamnggaaGreatDoor
open Go.ChangeShapes Go.WideShapes Go.ChangeAt Go.RowKit Go.Joins Go.Deep
set_option maxRecDepth 100000

theorem cellsSt : Tryz.prog.cellsOf 32 = 10 := by kernel_rfl
section
variable {H : Type} {enc : TypeId × Value → H} {W : World} {sp : Nat → Bool} {held : Bool}
/-- A memory's two cells, opened. -/
theorem mem_in {fuel : Nat} {cs : List Value} {x : DataW H × List MemPlace}
    (hf : DataW.trod enc Tryz.prog W 0 sp held fuel 30 cs = some x) : ∃ a n c a' n' c' L G, cs = [.slice a n c, .slice a' n' c'] ∧ MemS W a n a' n' L G := by
  obtain ⟨y0, y1, n, _, hl, h0, h1⟩ := trod_struct2 Tryz.underlying30 hf
  rw [cellsMem] at hl
  match cs, hl with
  | [v0, v1], _ =>
    simp only [cellsWS, cellsBS, List.drop, List.take] at h0 h1
    obtain ⟨a, k, c, L, e0, hL⟩ := words_in h0
    obtain ⟨a', k', c', G, e1, hG⟩ := bools_in h1
    simp at e0 e1
    subst e0 e1
    exact ⟨a, k, c, a', k', c', L, G, rfl, hL, hG⟩
/-- A state by value, opened. -/
theorem open_state {r : Reach} {b0 : Nat} {v : Value} {d : DataW H} {p : List MemPlace} (hv : Value.okWide Tryz.prog W r b0 32 v) (h : DataW.Trod enc Tryz.prog W 0 sp held 32 v d p) :
    ∃ a n c x a1 n1 c1 a2 n2 c2 t R L G, v = .agg (stl a n c x a1 n1 c1 a2 n2 c2 t).toArray ∧ StS W a n a1 n1 a2 n2 R L G := by
  obtain ⟨cs, rfl, hsz⟩ := okWide_struct Tryz.underlying32 hv
  obtain ⟨fuel, hf⟩ := h
  obtain ⟨y0, y1, y2, y3, n, _, hl, h0, h1, h2, h3⟩ := trod_struct4 Tryz.underlying32 hf
  rw [cellsSt] at hl
  obtain ⟨l⟩ := cs
  simp only [Value.cells] at hl h0 h1 h2 h3
  match l, hl with
  | [v0, v1, v2, v3, v4, v5, v6, v7, v8, v9], _ =>
    simp only [cellsWS, cellsW, cellsMem, cellsWI, List.drop, List.take] at h0 h1 h2 h3
    obtain ⟨a, k, c, R, e0, hR⟩ := words_in h0
    obtain ⟨n, i, b, t, q, s, e1, _⟩ := open_word6 h1
    obtain ⟨a1, n1, c1, a2, n2, c2, L, G, e2, hM⟩ := mem_in h2
    obtain ⟨tr, e3, _⟩ := DataW.trod_int Tryz.underlying3 h3
    simp at e0 e1 e2 e3
    obtain ⟨rfl, rfl, rfl, rfl, rfl, rfl⟩ := e1
    obtain ⟨rfl, rfl⟩ := e2
    subst e0 e3
    exact ⟨a, k, c, ⟨n, i, b, t, q, s⟩, a1, n1, c1, a2, n2, c2, tr, R, L, G, rfl, hR, hM⟩
end
end Go.Proofs.YtpkhnajhamnggaaGreatDoor
