/- Facts on a world, each of which hangs on some blocks alone, kept as a list over what turns; memories that a call has answered. No condition. -/
import Derived.Test.YtfeoaegkhbjaeaaFct
import Derived.Test.YtfeoaegkhbjaeaaMemP
import Derived.Test.YtfeoaegkhbjaeaaMemO
namespace Go.Proofs.Ytfeoaegkhbjaeaa
open Go.ChangeShapes Go.WideShapes Go.ChangeAt Go.RowKit
set_option maxRecDepth 100000

/-- Two cells. -/
def duoF (r : Nat) (v0 v1 : Value) : Fct where
  S := fun k => k = r
  p := fun w => Duo w r v0 v1
  keep := fun w w' h hs hb => by
    have e := hb r h.lt rfl
    exact ⟨Nat.lt_of_lt_of_le h.lt hs, (World.cell?_of_block e).trans h.c0, (World.cell?_of_block e).trans h.c1, (World.frozen?_of_block e).trans h.f0, (World.frozen?_of_block e).trans h.f1⟩
/-- A memory that came in: its slices lie below B. -/
structure ArgM (B : Nat) (a : Option Addr) (n : Nat) (a' : Option Addr) (n' : Nat) (L : List Wd) (G : List Bool) (w : World) : Prop where
  ws : SliceW B w a n L
  gs : SliceB B w a' n' G
  lt : B ≤ w.heap.size
theorem ArgM.mem {B : Nat} {a : Option Addr} {n : Nat} {a' : Option Addr} {n' : Nat} {L : List Wd} {G : List Bool} {w : World} (h : ArgM B a n a' n' L G w) : MemS w a n a' n' L G := ⟨h.ws.mono h.lt, h.gs.mono h.lt⟩
theorem MemS.arg {a : Option Addr} {n : Nat} {a' : Option Addr} {n' : Nat} {L : List Wd} {G : List Bool} {w : World} (h : MemS w a n a' n' L G) : ArgM w.heap.size a n a' n' L G w := ⟨h.ws, h.gs, Nat.le_refl _⟩
def argF (B : Nat) (a : Option Addr) (n : Nat) (a' : Option Addr) (n' : Nat) (L : List Wd) (G : List Bool) : Fct where
  S := fun k => k < B
  p := ArgM B a n a' n' L G
  keep := fun w w' h hs hb => by
    refine ⟨⟨h.ws.1, h.ws.2.1, ?_⟩, ⟨h.gs.1, h.gs.2.1, ?_⟩, Nat.le_trans h.lt hs⟩
    · rcases h.ws.2.2 with h0 | ⟨k, o, ha, hk, hc⟩
      · exact .inl h0
      · refine .inr ⟨k, o, ha, hk, fun j x hj => WordAt.of_vs fun m v hm => ?_⟩
        exact (World.cell?_of_block (hb k (Nat.lt_of_lt_of_le hk h.lt) hk)).trans ((hc j x hj).vs m v hm)
    · rcases h.gs.2.2 with h0 | ⟨k, o, ha, hk, hc⟩
      · exact .inl h0
      · exact .inr ⟨k, o, ha, hk, fun j x hj => (World.cell?_of_block (hb k (Nat.lt_of_lt_of_le hk h.lt) hk)).trans (hc j x hj)⟩

/-- A row of words of a call's own, or nil. -/
def RowWA (w : World) (a : Option Addr) (n : Nat) (L : List Wd) : Prop := (a = none ∧ n = 0 ∧ L = []) ∨ ∃ q, a = some ⟨q, 0, none⟩ ∧ L.length = n ∧ OutW w q n n L
def RowBA (w : World) (a : Option Addr) (n : Nat) (G : List Bool) : Prop := (a = none ∧ n = 0 ∧ G = []) ∨ ∃ q, a = some ⟨q, 0, none⟩ ∧ G.length = n ∧ OutB w q n n G
theorem OutW.ofBlock {w w' : World} {q n k : Nat} {L : List Wd} (h : OutW w q n k L) (hs : w.heap.size ≤ w'.heap.size) (e : w'.heap[q]? = w.heap[q]?) : OutW w' q n k L :=
  ⟨Nat.lt_of_lt_of_le h.lt hs, fun i hi => by rw [World.cell?_of_block (w := w) (w' := w') (a := ⟨q, i, none⟩) e]; exact h.has i hi, fun i hi => by rw [World.frozen?_of_block (w := w) (w' := w') (a := ⟨q, i, none⟩) e]; exact h.fr i hi, fun j x hj hx => by
    refine WordAt.of_vs fun m v hm => ?_
    exact (World.cell?_of_block (w := w) (w' := w') (a := ⟨q, j * 6 + m, none⟩) e).trans ((h.wd j x hj hx).vs m v hm)⟩
theorem OutB.ofBlock {w w' : World} {q n k : Nat} {L : List Bool} (h : OutB w q n k L) (hs : w.heap.size ≤ w'.heap.size) (e : w'.heap[q]? = w.heap[q]?) : OutB w' q n k L :=
  ⟨Nat.lt_of_lt_of_le h.lt hs, fun i hi => by rw [World.cell?_of_block (w := w) (w' := w') (a := ⟨q, i, none⟩) e]; exact h.has i hi, fun i hi => by rw [World.frozen?_of_block (w := w) (w' := w') (a := ⟨q, i, none⟩) e]; exact h.fr i hi, fun j x hj hx => (World.cell?_of_block (w := w) (w' := w') (a := ⟨q, j, none⟩) e).trans (h.wd j x hj hx)⟩
theorem RowWA.ofBlock {w w' : World} {a : Option Addr} {n : Nat} {L : List Wd} (h : RowWA w a n L) (hs : w.heap.size ≤ w'.heap.size) (hb : ∀ k, k < w.heap.size → On a k → w'.heap[k]? = w.heap[k]?) : RowWA w' a n L := by
  rcases h with h | ⟨q, rfl, hl, hO⟩
  · exact .inl h
  · exact .inr ⟨q, rfl, hl, hO.ofBlock hs (hb q hO.lt ((on_some q q).2 rfl))⟩
theorem RowBA.ofBlock {w w' : World} {a : Option Addr} {n : Nat} {L : List Bool} (h : RowBA w a n L) (hs : w.heap.size ≤ w'.heap.size) (hb : ∀ k, k < w.heap.size → On a k → w'.heap[k]? = w.heap[k]?) : RowBA w' a n L := by
  rcases h with h | ⟨q, rfl, hl, hO⟩
  · exact .inl h
  · exact .inr ⟨q, rfl, hl, hO.ofBlock hs (hb q hO.lt ((on_some q q).2 rfl))⟩

/-- A memory that a call has answered: it owns its rows. -/
structure AnsM (a a' : Option Addr) (n n' : Nat) (L : List Wd) (G : List Bool) (w : World) : Prop where
  ws : RowWA w a n L
  gs : RowBA w a' n' G
  ne : ∀ k, On a k → ¬ On a' k
def ansF (a a' : Option Addr) (n n' : Nat) (L : List Wd) (G : List Bool) : Fct where
  S := fun k => On a k ∨ On a' k
  p := AnsM a a' n n' L G
  keep := fun _ _ h hs hb => ⟨h.ws.ofBlock hs fun k hk ho => hb k hk (.inl ho), h.gs.ofBlock hs fun k hk ho => hb k hk (.inr ho), h.ne⟩
section
variable {w w' : World} {a a' : Option Addr} {n n' : Nat} {L : List Wd} {G : List Bool}
theorem AnsM.below (h : AnsM a a' n n' L G w) (hb : Below w.heap.size w w') : AnsM a a' n n' L G w' := (ansF a a' n n' L G).keep w w' h hb.size fun k hk _ => hb.block k hk
theorem AnsM.lw (h : AnsM a a' n n' L G w) : L.length = n := by
  rcases h.ws with ⟨_, rfl, rfl⟩ | ⟨_, _, hl, _⟩
  · rfl
  · exact hl
theorem AnsM.lg (h : AnsM a a' n n' L G w) : G.length = n' := by
  rcases h.gs with ⟨_, rfl, rfl⟩ | ⟨_, _, hl, _⟩
  · rfl
  · exact hl
theorem AnsM.mem (h : AnsM a a' n n' L G w) (hn : n ≤ 1048576) (hn' : n' ≤ 1048576) : MemS w a n a' n' L G := by
  constructor
  · rcases h.ws with ⟨rfl, rfl, rfl⟩ | ⟨q, rfl, hl, hO⟩
    · exact ⟨by unfold maxLen; omega, rfl, .inl rfl⟩
    · exact hO.slice hl (by unfold maxLen; omega)
  · rcases h.gs with ⟨rfl, rfl, rfl⟩ | ⟨q, rfl, hl, hO⟩
    · exact ⟨by unfold maxLen; omega, rfl, .inl rfl⟩
    · exact hO.slice hl (by unfold maxLen; omega)
theorem AnsM.lt (h : AnsM a a' n n' L G w) {k : Nat} (hk : On a k ∨ On a' k) : k < w.heap.size := by
  rcases hk with hk | hk
  · rcases h.ws with ⟨rfl, _, _⟩ | ⟨q, rfl, _, hO⟩
    · exact absurd hk (on_none k)
    · rw [← (on_some q k).1 hk]; exact hO.lt
  · rcases h.gs with ⟨rfl, _, _⟩ | ⟨q, rfl, _, hO⟩
    · exact absurd hk (on_none k)
    · rw [← (on_some q k).1 hk]; exact hO.lt
theorem AnsM.nil (w : World) : AnsM none none 0 0 [] [] w := ⟨.inl ⟨rfl, rfl, rfl⟩, .inl ⟨rfl, rfl, rfl⟩, fun k h => absurd h (on_none k)⟩
theorem OwnM.ans {w0 : World} {q q' : Nat} (h : OwnM w0 q q' n n' L G w) : AnsM (some ⟨q, 0, none⟩) (some ⟨q', 0, none⟩) n n' L G w :=
  ⟨.inr ⟨q, rfl, h.lw, h.ws⟩, .inr ⟨q', rfl, h.lg, h.gs⟩, fun k h1 h2 => h.ne (((on_some q k).1 h1).trans ((on_some q' k).1 h2).symm)⟩
theorem OwnM.from {w0 : World} {q q' : Nat} (h : OwnM w0 q q' n n' L G w) : ∀ k, On (some ⟨q, 0, none⟩) k ∨ On (some ⟨q', 0, none⟩) k → w0.heap.size ≤ k := fun k hk => by
  rcases hk with hk | hk
  · rw [← (on_some q k).1 hk]; exact h.nq
  · rw [← (on_some q' k).1 hk]; exact h.nq'
end

section
variable {w0 w : World} {fs : List Fct}
theorem Hold.duo (h : Hold w0 w fs) {r : Nat} {v0 v1 : Value} (hm : duoF r v0 v1 ∈ fs) : Duo w r v0 v1 := h.at hm
theorem Hold.arg (h : Hold w0 w fs) {B : Nat} {a : Option Addr} {n : Nat} {a' : Option Addr} {n' : Nat} {L : List Wd} {G : List Bool} (hm : argF B a n a' n' L G ∈ fs) : MemS w a n a' n' L G := ArgM.mem (h.at hm)
theorem Hold.ans (h : Hold w0 w fs) {a a' : Option Addr} {n n' : Nat} {L : List Wd} {G : List Bool} (hm : ansF a a' n n' L G ∈ fs) : AnsM a a' n n' L G w := h.at hm
end

set_option maxHeartbeats 1000000 in
theorem toMemory_ans (a : Option Addr) (n c : Nat) (a' : Option Addr) (n' c' : Nat) (L : List Wd) (G : List Bool) (w : World) (hn : n ≤ 1048576) (hn' : n' ≤ 1048576) (hM : MemS w a n a' n' L G) :
    Calls Try.prog 10 #[.agg #[.slice a n c, .slice a' n' c']] w fun e w' => ∃ b b', e = .returned (.agg #[.slice b n n, .slice b' n' n']) ∧ AnsM b b' n n' L G w' ∧ (∀ k, On b k ∨ On b' k → w.heap.size ≤ k) ∧ Below w.heap.size w w' := by
  refine (toMemory_any a n c a' n' c' L G w hn hn' hM).mono ?_
  rintro e w' ⟨q, q', rfl, hO⟩
  exact ⟨_, _, rfl, hO.ans, hO.from, hO.bel⟩
end Go.Proofs.Ytfeoaegkhbjaeaa
