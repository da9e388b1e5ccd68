/- Cells of a block kept as a list of values, whatever the struct; a slice of words that came in, that a call has answered, as facts. No condition. -/
import Derived.Test.YtfeoaegkhbjaeaaHold
namespace Go.Proofs.Ytfeoaegkhbjaeaa
open Go.ChangeShapes Go.WideShapes Go.ChangeAt Go.RowKit
set_option maxRecDepth 100000

/-- A word's six values. -/
abbrev wl (x : Wd) : List Value := [.int .i64 x.n, .bool x.i, .int .i64 x.b, .int .i64 x.t, .int .i64 x.p, .int .i64 x.s]
theorem Cel.c10 {w : World} {r : Nat} {v0 v1 v2 v3 v4 v5 v6 v7 v8 v9 : Value} (h : Cel w r [v0, v1, v2, v3, v4, v5, v6, v7, v8, v9]) :
    w.cell? ⟨r, 0, none⟩ = some v0 ∧ w.cell? ⟨r, 1, none⟩ = some v1 ∧ w.cell? ⟨r, 2, none⟩ = some v2 ∧ w.cell? ⟨r, 3, none⟩ = some v3 ∧ w.cell? ⟨r, 4, none⟩ = some v4 ∧ w.cell? ⟨r, 5, none⟩ = some v5 ∧ w.cell? ⟨r, 6, none⟩ = some v6 ∧ w.cell? ⟨r, 7, none⟩ = some v7 ∧ w.cell? ⟨r, 8, none⟩ = some v8 ∧ w.cell? ⟨r, 9, none⟩ = some v9 :=
  ⟨h.c 0 _ rfl, h.c 1 _ rfl, h.c 2 _ rfl, h.c 3 _ rfl, h.c 4 _ rfl, h.c 5 _ rfl, h.c 6 _ rfl, h.c 7 _ rfl, h.c 8 _ rfl, h.c 9 _ rfl⟩
theorem Cel.f10 {w : World} {r : Nat} {v0 v1 v2 v3 v4 v5 v6 v7 v8 v9 : Value} (h : Cel w r [v0, v1, v2, v3, v4, v5, v6, v7, v8, v9]) :
    w.frozen? ⟨r, 0, none⟩ = false ∧ w.frozen? ⟨r, 1, none⟩ = false ∧ w.frozen? ⟨r, 2, none⟩ = false ∧ w.frozen? ⟨r, 3, none⟩ = false ∧ w.frozen? ⟨r, 4, none⟩ = false ∧ w.frozen? ⟨r, 5, none⟩ = false ∧ w.frozen? ⟨r, 6, none⟩ = false ∧ w.frozen? ⟨r, 7, none⟩ = false ∧ w.frozen? ⟨r, 8, none⟩ = false ∧ w.frozen? ⟨r, 9, none⟩ = false :=
  ⟨h.f 0 (by simp), h.f 1 (by simp), h.f 2 (by simp), h.f 3 (by simp), h.f 4 (by simp), h.f 5 (by simp), h.f 6 (by simp), h.f 7 (by simp), h.f 8 (by simp), h.f 9 (by simp)⟩

/-- A slice of words that came in, below B. -/
structure ArgW (B : Nat) (a : Option Addr) (n : Nat) (L : List Wd) (w : World) : Prop where
  ws : SliceW B w a n L
  lt : B ≤ w.heap.size
theorem SliceW.ofBlocks {B : Nat} {w w' : World} {a : Option Addr} {n : Nat} {L : List Wd} (h : SliceW B w a n L) (hlt : B ≤ w.heap.size) (hb : ∀ k, k < w.heap.size → k < B → w'.heap[k]? = w.heap[k]?) : SliceW B w' a n L := by
  refine ⟨h.1, h.2.1, ?_⟩
  rcases h.2.2 with h0 | ⟨k, o, ha, hk, hc⟩
  · exact .inl h0
  · refine .inr ⟨k, o, ha, hk, fun j x hj => WordAt.of_vs fun m v hm => ?_⟩
    exact (World.cell?_of_block (hb k (Nat.lt_of_lt_of_le hk hlt) hk)).trans ((hc j x hj).vs m v hm)
def wrdF (B : Nat) (a : Option Addr) (n : Nat) (L : List Wd) : Fct where
  S := fun k => k < B
  p := ArgW B a n L
  keep := fun _ _ h hs hb => ⟨h.ws.ofBlocks h.lt hb, Nat.le_trans h.lt hs⟩
theorem ArgW.slice {B : Nat} {a : Option Addr} {n : Nat} {L : List Wd} {w : World} (h : ArgW B a n L w) : SliceW w.heap.size w a n L := h.ws.mono h.lt
theorem Hold.wrd {w0 w : World} {fs : List Fct} (h : Hold w0 w fs) {B : Nat} {a : Option Addr} {n : Nat} {L : List Wd} (hm : wrdF B a n L ∈ fs) : SliceW w.heap.size w a n L := ArgW.slice (h.at hm)

/-- A state's values: its registers, the word by which it is run, its memory, its trap. -/
abbrev stl (a : Option Addr) (n c : Nat) (x : Wd) (a1 : Option Addr) (n1 c1 : Nat) (a2 : Option Addr) (n2 c2 : Nat) (t : Int) : List Value :=
  [.slice a n c, .int .i64 x.n, .bool x.i, .int .i64 x.b, .int .i64 x.t, .int .i64 x.p, .int .i64 x.s, .slice a1 n1 c1, .slice a2 n2 c2, .int .i64 t]

/-- The rows of a state that came in. -/
structure StS (w : World) (a : Option Addr) (n : Nat) (a1 : Option Addr) (n1 : Nat) (a2 : Option Addr) (n2 : Nat) (R L : List Wd) (G : List Bool) : Prop where
  rs : SliceW w.heap.size w a n R
  mem : MemS w a1 n1 a2 n2 L G
theorem StS.below {w w' : World} {a : Option Addr} {n : Nat} {a1 : Option Addr} {n1 : Nat} {a2 : Option Addr} {n2 : Nat} {R L : List Wd} {G : List Bool} (h : StS w a n a1 n1 a2 n2 R L G) (hb : Below w.heap.size w w') : StS w' a n a1 n1 a2 n2 R L G :=
  ⟨(h.rs.keep hb).mono hb.size, h.mem.below hb⟩

/-- A state that came in: its rows lie below B. -/
structure ArgS (B : Nat) (a : Option Addr) (n : Nat) (a1 : Option Addr) (n1 : Nat) (a2 : Option Addr) (n2 : Nat) (R L : List Wd) (G : List Bool) (w : World) : Prop where
  rs : SliceW B w a n R
  mem : ArgM B a1 n1 a2 n2 L G w
def argSF (B : Nat) (a : Option Addr) (n : Nat) (a1 : Option Addr) (n1 : Nat) (a2 : Option Addr) (n2 : Nat) (R L : List Wd) (G : List Bool) : Fct where
  S := fun k => k < B
  p := ArgS B a n a1 n1 a2 n2 R L G
  keep := fun w w' h hs hb => ⟨h.rs.ofBlocks h.mem.lt hb, (argF B a1 n1 a2 n2 L G).keep w w' h.mem hs hb⟩
theorem StS.arg {w : World} {a : Option Addr} {n : Nat} {a1 : Option Addr} {n1 : Nat} {a2 : Option Addr} {n2 : Nat} {R L : List Wd} {G : List Bool} (h : StS w a n a1 n1 a2 n2 R L G) : ArgS w.heap.size a n a1 n1 a2 n2 R L G w := ⟨h.rs, h.mem.arg⟩
theorem Hold.argS {w0 w : World} {fs : List Fct} (h : Hold w0 w fs) {B : Nat} {a : Option Addr} {n : Nat} {a1 : Option Addr} {n1 : Nat} {a2 : Option Addr} {n2 : Nat} {R L : List Wd} {G : List Bool} (hm : argSF B a n a1 n1 a2 n2 R L G ∈ fs) : StS w a n a1 n1 a2 n2 R L G := by
  have g : ArgS B a n a1 n1 a2 n2 R L G w := h.at hm
  exact ⟨g.rs.mono g.mem.lt, g.mem.mem⟩

/-- A state that a call has answered: it owns its three rows. -/
structure AnsS (a a1 a2 : Option Addr) (n n1 n2 : Nat) (R L : List Wd) (G : List Bool) (w : World) : Prop where
  rs : RowWA w a n R
  ws : RowWA w a1 n1 L
  gs : RowBA w a2 n2 G
  n01 : ∀ k, On a k → ¬ On a1 k
  n02 : ∀ k, On a k → ¬ On a2 k
  n12 : ∀ k, On a1 k → ¬ On a2 k
def ansSF (a a1 a2 : Option Addr) (n n1 n2 : Nat) (R L : List Wd) (G : List Bool) : Fct where
  S := fun k => On a k ∨ On a1 k ∨ On a2 k
  p := AnsS a a1 a2 n n1 n2 R L G
  keep := fun _ _ h hs hb => ⟨h.rs.ofBlock hs fun k hk ho => hb k hk (.inl ho), h.ws.ofBlock hs fun k hk ho => hb k hk (.inr (.inl ho)), h.gs.ofBlock hs fun k hk ho => hb k hk (.inr (.inr ho)), h.n01, h.n02, h.n12⟩
section
variable {w w' : World} {a a1 a2 : Option Addr} {n n1 n2 : Nat} {R L : List Wd} {G : List Bool}
theorem RowWA.slice (h : RowWA w a n L) (hn : n ≤ 1048576) : SliceW w.heap.size w a n L := by
  rcases h with ⟨rfl, rfl, rfl⟩ | ⟨q, rfl, hl, hO⟩
  · exact ⟨by unfold maxLen; omega, rfl, .inl rfl⟩
  · exact hO.slice hl (by unfold maxLen; omega)
theorem RowWA.lt (h : RowWA w a n L) {k : Nat} (hk : On a k) : k < w.heap.size := by
  rcases h with ⟨rfl, _, _⟩ | ⟨q, rfl, _, hO⟩
  · exact absurd hk (on_none k)
  · rw [← (on_some q k).1 hk]; exact hO.lt
theorem RowBA.lt (h : RowBA w a n G) {k : Nat} (hk : On a k) : k < w.heap.size := by
  rcases h with ⟨rfl, _, _⟩ | ⟨q, rfl, _, hO⟩
  · exact absurd hk (on_none k)
  · rw [← (on_some q k).1 hk]; exact hO.lt
theorem RowWA.len (h : RowWA w a n L) : L.length = n := by
  rcases h with ⟨_, rfl, rfl⟩ | ⟨_, _, hl, _⟩
  · rfl
  · exact hl
theorem AnsS.memA (h : AnsS a a1 a2 n n1 n2 R L G w) : AnsM a1 a2 n1 n2 L G w := ⟨h.ws, h.gs, h.n12⟩
theorem AnsS.sts (h : AnsS a a1 a2 n n1 n2 R L G w) (hn : n ≤ 1048576) (hn1 : n1 ≤ 1048576) (hn2 : n2 ≤ 1048576) : StS w a n a1 n1 a2 n2 R L G := ⟨h.rs.slice hn, h.memA.mem hn1 hn2⟩
theorem AnsS.lt (h : AnsS a a1 a2 n n1 n2 R L G w) {k : Nat} (hk : On a k ∨ On a1 k ∨ On a2 k) : k < w.heap.size := by
  rcases hk with hk | hk | hk
  · exact h.rs.lt hk
  · exact h.ws.lt hk
  · exact h.gs.lt hk
theorem AnsS.below (h : AnsS a a1 a2 n n1 n2 R L G w) (hb : Below w.heap.size w w') : AnsS a a1 a2 n n1 n2 R L G w' := (ansSF a a1 a2 n n1 n2 R L G).keep w w' h hb.size fun k hk _ => hb.block k hk
end
theorem Hold.ansS {w0 w : World} {fs : List Fct} (h : Hold w0 w fs) {a a1 a2 : Option Addr} {n n1 n2 : Nat} {R L : List Wd} {G : List Bool} (hm : ansSF a a1 a2 n n1 n2 R L G ∈ fs) : AnsS a a1 a2 n n1 n2 R L G w := h.at hm
end Go.Proofs.Ytfeoaegkhbjaeaa
