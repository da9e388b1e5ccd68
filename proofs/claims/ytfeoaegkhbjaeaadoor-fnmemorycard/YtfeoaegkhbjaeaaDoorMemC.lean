/- Facts held beside a cursor; l8DrawRight and l8Draw: each returns a memory in new memory, and turns nothing that was there but the cursor. · l8DrawRight: it returns a memory in new memory, and turns nothing that was there but the cursor. · l8Draw: it returns a memory in new memory, and turns nothing that was there but the cursor. · DrawDrop, DrawSweep, DrawFilter, DrawRead and DrawWrite: each returns a memory in new memory, and some words and ints, and turns nothing that was there. · DrawFilter and DrawRead: each returns a memory in new memory, and words and ints, and turns nothing that was there. · l8DrawBy, DrawRead and DrawWrite: each returns words, ints and a memory in new memory, and turns nothing that was there but the cursor. · DrawWrite: it returns a memory, two words and an int, and turns nothing that was there. -/
import Derived.Test.YtfeoaegkhbjaeaaDoorMemA
import Derived.Test.YtfeoaegkhbjaeaaDoorMemB
import Derived.Test.YtfeoaegkhbjaeaaDoorDrawW2
import Derived.Deep.RegionHeld3
import Derived.Test.YtfeoaegkhbjaeaaDoorWordK
namespace Go.Proofs.YtfeoaegkhbjaeaaDoor
open Go.ChangeShapes Go.WideShapes Go.ChangeAt Go.RowKit
set_option maxRecDepth 100000

/-- A cursor in block q, and facts that do not hang on it; of what was there at first only the cursor has turned. -/
structure Hq (w0 : World) (B q : Nat) (a : Option Addr) (len cap : Nat) (w : World) (fs : List Fct) : Prop where
  d : Drawn B q w a len cap
  k : KeepBut q w0 w
  q0 : q < w0.heap.size
  all : ∀ f ∈ fs, f.p w
  off : ∀ f ∈ fs, ¬ f.S q
section
variable {w0 w w' : World} {B q : Nat} {a : Option Addr} {len cap : Nat} {fs : List Fct}
theorem Hq.new (d : Drawn B q w a len cap) : Hq w B q a len cap w [] := ⟨d, KeepBut.refl _ _, d.lt, fun _ h => by (cases h), fun _ h => by (cases h)⟩
theorem Hq.moved (h : Hq w0 B q a len cap w fs) (d : Drawn B q w' a len cap) (k : KeepBut q w w') : Hq w0 B q a len cap w' fs :=
  ⟨d, h.k.trans k, h.q0, fun f hf => f.keep w w' (h.all f hf) k.size fun i hi hs => k.block i hi fun e => h.off f hf (e ▸ hs), h.off⟩
theorem Hq.next (h : Hq w0 B q a len cap w fs) (hb : Below w.heap.size w w') : Hq w0 B q a len cap w' fs := h.moved (h.d.below hb) (KeepBut.ofBelow hb)
theorem Hq.alloc (h : Hq w0 B q a len cap w fs) (o : Obj) : Hq w0 B q a len cap (w.alloc o) fs := h.next ((Below.refl _ _).alloc (Nat.le_refl _) _)
theorem Hq.drew (h : Hq w0 B q a len cap w fs) : Hq w0 B q a len cap w.drew fs := h.next (Below.refl _ _).drew
theorem Hq.push (h : Hq w0 B q a len cap w fs) (f : Fct) (hf : f.p w) (hq : ¬ f.S q) : Hq w0 B q a len cap w (f :: fs) := ⟨h.d, h.k, h.q0, fun g hg => by
  rcases List.mem_cons.1 hg with rfl | hg
  · exact hf
  · exact h.all g hg, fun g hg => by
  rcases List.mem_cons.1 hg with rfl | hg
  · exact hq
  · exact h.off g hg⟩
theorem Hq.sub (h : Hq w0 B q a len cap w fs) {gs : List Fct} (hs : ∀ f ∈ gs, f ∈ fs) : Hq w0 B q a len cap w gs := ⟨h.d, h.k, h.q0, fun f hf => h.all f (hs f hf), fun f hf => h.off f (hs f hf)⟩
theorem Hq.tail {f : Fct} (h : Hq w0 B q a len cap w (f :: fs)) : Hq w0 B q a len cap w fs := h.sub fun _ hg => .tail _ hg
theorem Hq.wrote (h : Hq w0 B q a len cap w fs) {T : Nat → Prop} (k : KeptS T w w') (h0 : ∀ i, T i → w0.heap.size ≤ i) (hd : ∀ f ∈ fs, ∀ i, f.S i → ¬ T i) : Hq w0 B q a len cap w' fs := by
  have hq : ¬ T q := fun ht => by have := h0 q ht; have := h.q0; omega
  have kq : KeepBut q w0 w' := ⟨k.os.trans h.k.os, k.tape.trans h.k.tape, k.output.trans h.k.output, Nat.le_trans h.k.size k.size, fun i hi hn => (k.block i (Nat.lt_of_lt_of_le hi h.k.size) fun ht => by have := h0 i ht; omega).trans (h.k.block i hi hn)⟩
  refine ⟨⟨h.d.code.keep (k.below (fun i ht => ?_) (Nat.le_of_lt (Nat.lt_of_le_of_lt h.d.hq h.d.lt))), h.d.hq, Nat.lt_of_lt_of_le h.d.lt k.size, h.d.cur.keep (k.block q h.d.lt hq)⟩, kq, h.q0, fun f hf => f.keep w w' (h.all f hf) k.size fun i hi hs => k.block i hi (hd f hf i hs), h.off⟩
  have h1 := h0 i ht
  have h2 := h.d.hq
  have h3 := h.q0
  omega
theorem Hq.duo (h : Hq w0 B q a len cap w fs) {r : Nat} {v0 v1 : Value} (hm : duoF r v0 v1 ∈ fs) : Duo w r v0 v1 := h.all _ hm
theorem Hq.ans (h : Hq w0 B q a len cap w fs) {b b' : Option Addr} {n n' : Nat} {L : List Wd} {G : List Bool} (hm : ansF b b' n n' L G ∈ fs) : AnsM b b' n n' L G w := h.all _ hm
theorem Hq.six (h : Hq w0 B q a len cap w fs) {r : Nat} {x : Wd} (hm : sixF r x ∈ fs) : Six w r x.n x.i x.b x.t x.p x.s := h.all _ hm
end
theorem AnsM.moved {w w' : World} {q : Nat} {b b' : Option Addr} {n n' : Nat} {L : List Wd} {G : List Bool} (h : AnsM b b' n n' L G w) (hq : ∀ k, On b k ∨ On b' k → k ≠ q) (k : KeepBut q w w') : AnsM b b' n n' L G w' :=
  (ansF b b' n n' L G).keep w w' h k.size fun i hi hs => k.block i hi (hq i hs)
end Go.Proofs.YtfeoaegkhbjaeaaDoor

namespace Go.Proofs.YtfeoaegkhbjaeaaDoor
open Go.ChangeShapes Go.WideShapes Go.ChangeAt Go.RowKit
set_option maxRecDepth 100000

/-- An answered memory with a word anew, with a flag anew. -/
theorem AnsM.putW {w : World} {q1 q2 : Nat} {L : List Wd} {G : List Bool} (h : AnsM (some ⟨q1, 0, none⟩) (some ⟨q2, 0, none⟩) 24 24 L G w) {k : Nat} (hk : k < 24) (x : Wd) : AnsM (some ⟨q1, 0, none⟩) (some ⟨q2, 0, none⟩) 24 24 (L.set k x) G (w.setCells q1 (k * 6) x.vs) := by
  have hne : q1 ≠ q2 := fun e => h.ne q1 ((on_some q1 q1).2 rfl) ((on_some q2 q1).2 e.symm)
  refine ⟨.inr ⟨q1, rfl, by rw [List.length_set]; exact h.lw, (ans_row h).put h.lw hk x⟩, ?_, h.ne⟩
  exact h.gs.ofBlock (by rw [size_setCells]; exact Nat.le_refl _) fun i hi ho => (KeepBut.setCells x.vs (k * 6) w).block i hi fun e => hne (e.symm.trans ((on_some q2 i).1 ho).symm)
theorem ans_rowB {w : World} {q : Nat} {a : Option Addr} {n : Nat} {L : List Wd} {G : List Bool} (h : AnsM a (some ⟨q, 0, none⟩) n 24 L G w) : OutB w q 24 24 G := by
  rcases h.gs with ⟨h0, _, _⟩ | ⟨q2, h1, _, hO⟩
  · cases h0
  · cases h1; exact hO
theorem AnsM.putB {w : World} {q1 q2 : Nat} {L : List Wd} {G : List Bool} (h : AnsM (some ⟨q1, 0, none⟩) (some ⟨q2, 0, none⟩) 24 24 L G w) {k : Nat} (hk : k < 24) (x : Bool) : AnsM (some ⟨q1, 0, none⟩) (some ⟨q2, 0, none⟩) 24 24 L (G.set k x) (w.setCell ⟨q2, k, none⟩ (.bool x)) := by
  have hne : q1 ≠ q2 := fun e => h.ne q1 ((on_some q1 q1).2 rfl) ((on_some q2 q1).2 e.symm)
  refine ⟨?_, .inr ⟨q2, rfl, by rw [List.length_set]; exact h.lg, (ans_rowB h).put h.lg hk x⟩, h.ne⟩
  exact h.ws.ofBlock (by rw [World.size_setCell]; exact Nat.le_refl _) fun i hi ho => ((KeepBut.refl q2 w).setCell k (.bool x)).block i hi fun e => hne ((((on_some q1 i).1 ho).trans e))

set_option maxHeartbeats 8000000 in
theorem d_mright {B q : Nat} {w : World} {a : Option Addr} {len cap : Nat} (d : Drawn B q w a len cap) :
    Calls Tryd.prog 70 #[.pointer (some ⟨q, 0, none⟩)] w fun e w' => ∃ q1 q2 L G, e = .returned (.agg #[.slice (some ⟨q1, 0, none⟩) 24 24, .slice (some ⟨q2, 0, none⟩) 24 24]) ∧ AnsM (some ⟨q1, 0, none⟩) (some ⟨q2, 0, none⟩) 24 24 L G w' ∧ w.heap.size ≤ q1 ∧ w.heap.size ≤ q2 ∧ Drawn B q w' a len cap ∧ KeepBut q w w' := by
  have M := hid_mk (((Hq.new d).alloc (.cells #[.slice none 0 0, .slice none 0 0] 27)).push (duoF w.heap.size (.slice none 0 0) (.slice none 0 0)) (Duo.new w _ _ _) (by have := d.lt; show ¬ q = w.heap.size; omega))
  have hq := d.lt
  clear d
  go_enter Tryd.func70, Tryd.ntmps70
  go_wp2_with fail
  refine (specMemoryNew_any _).mono ?_
  rintro e w1 ⟨q1, q2, rfl, OW⟩
  have hO1 := OW.nq
  have hO2 := OW.nq'
  have hu1 := OW.ws.lt
  have hu2 := OW.gs.lt
  have hs0 : (w.alloc (.cells #[.slice none 0 0, .slice none 0 0] 27)).heap.size = w.heap.size + 1 := World.size_alloc ..
  rw [hs0] at hO1 hO2
  have hz1 : w.heap.size + 1 ≤ w1.heap.size := by have := OW.bel.size; omega
  replace M := hid_mk ((((M.out.next OW.bel).alloc (.cells #[.slice (some ⟨q1, 0, none⟩) 24 24, .slice (some ⟨q2, 0, none⟩) 24 24] 27)).push (duoF w1.heap.size (.slice (some ⟨q1, 0, none⟩) 24 24) (.slice (some ⟨q2, 0, none⟩) 24 24)) (Duo.new _ _ _ _) (by show ¬ q = w1.heap.size; omega)).push (ansF (some ⟨q1, 0, none⟩) (some ⟨q2, 0, none⟩) 24 24 (List.replicate 24 wd0) (List.replicate 24 false)) (OW.ans.below ((Below.refl _ _).alloc (Nat.le_refl _) _)) (by
    rintro (h | h)
    · have := (on_some q1 q).1 h; omega
    · have := (on_some q2 q).1 h; omega))
  clear OW hs0
  go_upto_region 2 with fail
  generalize w1.alloc (.cells #[.slice (some ⟨q1, 0, none⟩) 24 24, .slice (some ⟨q2, 0, none⟩) 24 24] 27) = w2 at M ⊢
  obtain ⟨rm, hrm⟩ : ∃ r, r = w1.heap.size := ⟨_, rfl⟩
  rw [← hrm] at M hu1 hu2 hz1 ⊢
  clear hrm
  obtain ⟨ru, hru⟩ : ∃ r, r = w.heap.size := ⟨_, rfl⟩
  rw [← hru] at M hq hO1 hO2 hz1 ⊢
  have HRU := hid_mk hru
  have hqw : q < w.heap.size := hru ▸ hq
  clear hru
  obtain ⟨L, hL⟩ : ∃ L, Hid (L = List.replicate 24 wd0) := ⟨_, rfl⟩
  obtain ⟨G, hG⟩ : ∃ G, Hid (G = List.replicate 24 false) := ⟨_, rfl⟩
  rw [← hL.out, ← hG.out] at M
  clear hL hG
  go_wp2_with fail
  go_loopw [4] (fun c wr => ∃ (k : Nat) (L : List Wd) (G : List Bool), k ≤ 12 ∧ c = .int .i64 k ∧ Hid (Hq w B q a len cap wr [ansF (some ⟨q1, 0, none⟩) (some ⟨q2, 0, none⟩) 24 24 L G, duoF rm (.slice (some ⟨q1, 0, none⟩) 24 24) (.slice (some ⟨q2, 0, none⟩) 24 24), duoF ru (.slice none 0 0) (.slice none 0 0)])) (fun c _ => 12 - (intOf c).toNat)
  case atStart => exact ⟨0, L, G, by omega, rfl, M.out⟩
  case round =>
    clear M L G
    obtain ⟨j, L, G, hj, rfl, M⟩ := hrel
    go_wp2_with fail
    refine (d_below 12 M.out.d).mono ?_
    rintro e w3 ⟨x, rfl, _, hx, d3, k3⟩
    obtain ⟨hx0, hx1⟩ := hx (by omega)
    replace M := hid_mk (M.out.moved d3 k3)
    clear d3 k3 hx
    have hqn : ∀ i, On (some ⟨q1, 0, none⟩) i ∨ On (some ⟨q2, 0, none⟩) i → i ≠ q := by
      rintro i (h | h)
      · have := (on_some q1 i).1 h; omega
      · have := (on_some q2 i).1 h; omega
    by_cases hlt : (j : Int) < x
    · go_upto_region 5 with fail
      have ALL : Hid (∀ w', Hq w B q a len cap w' [duoF rm (.slice (some ⟨q1, 0, none⟩) 24 24) (.slice (some ⟨q2, 0, none⟩) 24 24), duoF ru (.slice none 0 0) (.slice none 0 0)] → (w'.cell? ⟨rm, 0, none⟩ = some (.slice (some ⟨q1, 0, none⟩) 24 24) ∧ w'.cell? ⟨rm, 1, none⟩ = some (.slice (some ⟨q2, 0, none⟩) 24 24) ∧ Hid (Hq w B q a len cap w' [duoF rm (.slice (some ⟨q1, 0, none⟩) 24 24) (.slice (some ⟨q2, 0, none⟩) 24 24), duoF ru (.slice none 0 0) (.slice none 0 0)]))) := fun w' h => by
        have h1 := h.duo (.head _)
        exact ⟨h1.c0, h1.c1, h⟩
      have GET : Hid (∀ w', (w'.cell? ⟨rm, 0, none⟩ = some (.slice (some ⟨q1, 0, none⟩) 24 24) ∧ w'.cell? ⟨rm, 1, none⟩ = some (.slice (some ⟨q2, 0, none⟩) 24 24) ∧ Hid (Hq w B q a len cap w' [duoF rm (.slice (some ⟨q1, 0, none⟩) 24 24) (.slice (some ⟨q2, 0, none⟩) 24 24), duoF ru (.slice none 0 0) (.slice none 0 0)])) → Hq w B q a len cap w' [duoF rm (.slice (some ⟨q1, 0, none⟩) 24 24) (.slice (some ⟨q2, 0, none⟩) 24 24), duoF ru (.slice none 0 0) (.slice none 0 0)]) := fun w' h => h.2.2
      have WS : Hid (∀ (w1 : World) (k : Nat) (v0 v1 v2 v3 v4 v5 : Value), Hq w B q a len cap w1 [duoF rm (.slice (some ⟨q1, 0, none⟩) 24 24) (.slice (some ⟨q2, 0, none⟩) 24 24), duoF ru (.slice none 0 0) (.slice none 0 0)] → Hq w B q a len cap ((((((w1.setCell ⟨q1, k * 6, none⟩ v0).setCell ⟨q1, k * 6 + 1, none⟩ v1).setCell ⟨q1, k * 6 + 2, none⟩ v2).setCell ⟨q1, k * 6 + 3, none⟩ v3).setCell ⟨q1, k * 6 + 4, none⟩ v4).setCell ⟨q1, k * 6 + 5, none⟩ v5) [duoF rm (.slice (some ⟨q1, 0, none⟩) 24 24) (.slice (some ⟨q2, 0, none⟩) 24 24), duoF ru (.slice none 0 0) (.slice none 0 0)]) := fun w1 k v0 v1 v2 v3 v4 v5 h =>
        h.wrote (T := fun i => i = q1) (KeptS.ofBut (((((((KeepBut.refl q1 w1).setCell _ v0).setCell _ v1).setCell _ v2).setCell _ v3).setCell _ v4).setCell _ v5) rfl) (fun i e => by have := HRU.out; omega) (fun f hf i hi e => by
          simp only [List.mem_cons, List.not_mem_nil, or_false] at hf
          rcases hf with rfl | rfl
          · simp only [duoF] at hi; omega
          · simp only [duoF] at hi; omega)
      have F0 := hid_mk (M.out.tail.drew)
      have A0 := hid_mk (M.out.drew.ans (.head _))
      clear M
      go_region_held3 (fun w' => w'.cell? ⟨rm, 0, none⟩ = some (.slice (some ⟨q1, 0, none⟩) 24 24) ∧ w'.cell? ⟨rm, 1, none⟩ = some (.slice (some ⟨q2, 0, none⟩) 24 24) ∧ Hid (Hq w B q a len cap w' [duoF rm (.slice (some ⟨q1, 0, none⟩) 24 24) (.slice (some ⟨q2, 0, none⟩) 24 24), duoF ru (.slice none 0 0) (.slice none 0 0)]))
        (first | (with_reducible assumption) | (((with_reducible refine ALL.out _ ?_); (first | (with_reducible exact F0.out) | ((with_reducible apply Hq.moved ?_ D5.out K5.out); (with_reducible exact GET.out _ (by with_reducible assumption))) | ((with_reducible apply Hq.moved ?_ D6.out K6.out); (with_reducible exact GET.out _ (by with_reducible assumption))) | (with_reducible exact WS.out _ _ _ _ _ _ _ _ (GET.out _ (by with_reducible assumption))) | fail))))
        (first
          | (go_at_call 41; refine (d_below 24 (GET.out _ (by with_reducible assumption)).d).mono ?_; rintro e w5 ⟨y, rfl, _, hy, d5, k5⟩; have D5 := hid_mk d5; have K5 := hid_mk k5; obtain ⟨hy0, hy1⟩ := hy (by omega); obtain ⟨k, hk⟩ : ∃ k : Nat, y = k := ⟨y.toNat, by omega⟩; subst hk; have hk24 : k < 24 := (by omega); have A5 := hid_mk (A0.out.moved hqn k5); clear d5 k5 hy)
          | (go_at_call 74; refine (d_wright (GET.out _ (by with_reducible assumption)).d).mono ?_; rintro e w6 ⟨vn, vi, vb, vt, vp, vs, rfl, d6, k6⟩; have D6 := hid_mk d6; have K6 := hid_mk k6; have A6 := hid_mk (A5.out.moved hqn k6); have O6 := hid_mk (ans_row A6.out); (obtain ⟨x0, e0⟩ := Option.isSome_iff_exists.1 (O6.out.has (k * 6) (by omega))); (obtain ⟨x1, e1⟩ := Option.isSome_iff_exists.1 (O6.out.has (k * 6 + 1) (by omega))); (obtain ⟨x2, e2⟩ := Option.isSome_iff_exists.1 (O6.out.has (k * 6 + 2) (by omega))); (obtain ⟨x3, e3⟩ := Option.isSome_iff_exists.1 (O6.out.has (k * 6 + 3) (by omega))); (obtain ⟨x4, e4⟩ := Option.isSome_iff_exists.1 (O6.out.has (k * 6 + 4) (by omega))); (obtain ⟨x5, e5⟩ := Option.isSome_iff_exists.1 (O6.out.has (k * 6 + 5) (by omega))); have y0 := O6.out.fr (k * 6) (by omega); have y1 := O6.out.fr (k * 6 + 1) (by omega); have y2 := O6.out.fr (k * 6 + 2) (by omega); have y3 := O6.out.fr (k * 6 + 3) (by omega); have y4 := O6.out.fr (k * 6 + 4) (by omega); have y5 := O6.out.fr (k * 6 + 5) (by omega); clear d6 k6))
      have A7 := hid_mk (A6.out.putW hk24 ⟨vn, vi, vb, vt, vp, vs⟩)
      rw [sixCells] at A7
      have M7 := hid_mk ((GET.out _ (by with_reducible assumption)).push (ansF (some ⟨q1, 0, none⟩) (some ⟨q2, 0, none⟩) 24 24 (L.set k ⟨vn, vi, vb, vt, vp, vs⟩) G) A7.out (by
        rintro (h | h)
        · have := (on_some q1 q).1 h; omega
        · have := (on_some q2 q).1 h; omega))
      clear ALL GET WS F0 A0 A5 A6 A7 O6 e0 e1 e2 e3 e4 e5 y0 y1 y2 y3 y4 y5
      go_wp2
      go_roundw
      case rel => exact ⟨j + 1, L.set k ⟨vn, vi, vb, vt, vp, vs⟩, G, by omega, by go_num, M7.out⟩
      case measure => simp [intOf]; omega
    · go_wp2_with fail
      go_loopw [5] (fun c wr => ∃ (k : Nat) (L : List Wd) (G : List Bool), k ≤ 4 ∧ c = .int .i64 k ∧ Hid (Hq w B q a len cap wr [ansF (some ⟨q1, 0, none⟩) (some ⟨q2, 0, none⟩) 24 24 L G, duoF rm (.slice (some ⟨q1, 0, none⟩) 24 24) (.slice (some ⟨q2, 0, none⟩) 24 24), duoF ru (.slice none 0 0) (.slice none 0 0)])) (fun c _ => 4 - (intOf c).toNat)
      case atStart => exact ⟨0, L, G, by omega, rfl, M.out⟩
      case round =>
        clear M L G hlt hx0 hx1 hj
        obtain ⟨j, L, G, hj, rfl, M⟩ := hrel
        go_wp2_with fail
        refine (d_below 4 M.out.d).mono ?_
        rintro e w4 ⟨x, rfl, _, hx, d3, k3⟩
        obtain ⟨hx0, hx1⟩ := hx (by omega)
        replace M := hid_mk (M.out.moved d3 k3)
        clear d3 k3 hx
        by_cases hlt : (j : Int) < x
        · go_upto_region 9 with fail
          have ALL : Hid (∀ w', Hq w B q a len cap w' [duoF rm (.slice (some ⟨q1, 0, none⟩) 24 24) (.slice (some ⟨q2, 0, none⟩) 24 24), duoF ru (.slice none 0 0) (.slice none 0 0)] → (w'.cell? ⟨rm, 0, none⟩ = some (.slice (some ⟨q1, 0, none⟩) 24 24) ∧ w'.cell? ⟨rm, 1, none⟩ = some (.slice (some ⟨q2, 0, none⟩) 24 24) ∧ Hid (Hq w B q a len cap w' [duoF rm (.slice (some ⟨q1, 0, none⟩) 24 24) (.slice (some ⟨q2, 0, none⟩) 24 24), duoF ru (.slice none 0 0) (.slice none 0 0)]))) := fun w' h => by
            have h1 := h.duo (.head _)
            exact ⟨h1.c0, h1.c1, h⟩
          have GET : Hid (∀ w', (w'.cell? ⟨rm, 0, none⟩ = some (.slice (some ⟨q1, 0, none⟩) 24 24) ∧ w'.cell? ⟨rm, 1, none⟩ = some (.slice (some ⟨q2, 0, none⟩) 24 24) ∧ Hid (Hq w B q a len cap w' [duoF rm (.slice (some ⟨q1, 0, none⟩) 24 24) (.slice (some ⟨q2, 0, none⟩) 24 24), duoF ru (.slice none 0 0) (.slice none 0 0)])) → Hq w B q a len cap w' [duoF rm (.slice (some ⟨q1, 0, none⟩) 24 24) (.slice (some ⟨q2, 0, none⟩) 24 24), duoF ru (.slice none 0 0) (.slice none 0 0)]) := fun w' h => h.2.2
          have WS : Hid (∀ (w1 : World) (k : Nat) (v0 : Value), Hq w B q a len cap w1 [duoF rm (.slice (some ⟨q1, 0, none⟩) 24 24) (.slice (some ⟨q2, 0, none⟩) 24 24), duoF ru (.slice none 0 0) (.slice none 0 0)] → Hq w B q a len cap (w1.setCell ⟨q2, k, none⟩ v0) [duoF rm (.slice (some ⟨q1, 0, none⟩) 24 24) (.slice (some ⟨q2, 0, none⟩) 24 24), duoF ru (.slice none 0 0) (.slice none 0 0)]) := fun w1 k v0 h =>
            h.wrote (T := fun i => i = q2) (KeptS.ofBut ((KeepBut.refl q2 w1).setCell _ v0) rfl) (fun i e => by have := HRU.out; omega) (fun f hf i hi e => by
              simp only [List.mem_cons, List.not_mem_nil, or_false] at hf
              rcases hf with rfl | rfl
              · simp only [duoF] at hi; omega
              · simp only [duoF] at hi; omega)
          have F0 := hid_mk (M.out.tail.drew)
          have A0 := hid_mk (M.out.drew.ans (.head _))
          clear M
          go_region_held3 (fun w' => w'.cell? ⟨rm, 0, none⟩ = some (.slice (some ⟨q1, 0, none⟩) 24 24) ∧ w'.cell? ⟨rm, 1, none⟩ = some (.slice (some ⟨q2, 0, none⟩) 24 24) ∧ Hid (Hq w B q a len cap w' [duoF rm (.slice (some ⟨q1, 0, none⟩) 24 24) (.slice (some ⟨q2, 0, none⟩) 24 24), duoF ru (.slice none 0 0) (.slice none 0 0)]))
            (first | (with_reducible assumption) | (((with_reducible refine ALL.out _ ?_); (first | (with_reducible exact F0.out) | ((with_reducible apply Hq.moved ?_ D5.out K5.out); (with_reducible exact GET.out _ (by with_reducible assumption))) | (with_reducible exact WS.out _ _ _ (GET.out _ (by with_reducible assumption))) | fail))))
            (first
              | (go_at_call 41; refine (d_below 24 (GET.out _ (by with_reducible assumption)).d).mono ?_; rintro e w5 ⟨y, rfl, _, hy, d5, k5⟩; have D5 := hid_mk d5; have K5 := hid_mk k5; obtain ⟨hy0, hy1⟩ := hy (by omega); obtain ⟨k, hk⟩ : ∃ k : Nat, y = k := ⟨y.toNat, by omega⟩; subst hk; have hk24 : k < 24 := (by omega); have A5 := hid_mk (A0.out.moved hqn k5); have O5 := hid_mk (ans_rowB A5.out); (obtain ⟨x0, e0⟩ := Option.isSome_iff_exists.1 (O5.out.has k hk24)); have y0 := O5.out.fr k hk24; clear d5 k5 hy))
          have A7 := hid_mk (A5.out.putB hk24 true)
          have M7 := hid_mk ((GET.out _ (by with_reducible assumption)).push (ansF (some ⟨q1, 0, none⟩) (some ⟨q2, 0, none⟩) 24 24 L (G.set k true)) A7.out (by
            rintro (h | h)
            · have := (on_some q1 q).1 h; omega
            · have := (on_some q2 q).1 h; omega))
          clear ALL GET WS F0 A0 A5 A7 O5 e0 y0
          go_wp2
          go_roundw
          case rel => exact ⟨j + 1, L, G.set k true, by omega, by go_num, M7.out⟩
          case measure => simp [intOf]; omega
        · obtain ⟨_, m0, m1, _, _⟩ := M.out.duo (.tail _ (.head _))
          obtain ⟨_, r0, r1, f0, f1⟩ := M.out.duo (.tail _ (.tail _ (.head _)))
          go_wp2
          have M9 := hid_mk (M.out.sub (gs := [ansF (some ⟨q1, 0, none⟩) (some ⟨q2, 0, none⟩) 24 24 L G]) (fun f hf => by
            simp only [List.mem_cons, List.not_mem_nil, or_false] at hf
            subst hf
            exact .head _) |>.wrote (T := fun i => i = ru) (KeptS.ofBut (((KeepBut.refl ru w4).setCell 0 (.slice (some ⟨q1, 0, none⟩) 24 24)).setCell 1 (.slice (some ⟨q2, 0, none⟩) 24 24)) rfl) (fun i e => by have := HRU.out; omega) (fun f hf i hi e => by
            simp only [List.mem_cons, List.not_mem_nil, or_false] at hf
            subst hf
            rcases hi with hi | hi
            · have := (on_some q1 i).1 hi; omega
            · have := (on_some q2 i).1 hi; omega))
          refine bodyPost_ret (v := .agg #[.slice (some ⟨q1, 0, none⟩) 24 24, .slice (some ⟨q2, 0, none⟩) 24 24]) (by simp [results, Tryd.results70, go_sem, r0, r1]) rfl ⟨q1, q2, L, G, rfl, M9.out.ans (.head _), by have := HRU.out; omega, by have := HRU.out; omega, M9.out.d, M9.out.k⟩
end Go.Proofs.YtfeoaegkhbjaeaaDoor

namespace Go.Proofs.YtfeoaegkhbjaeaaDoor
open Go.ChangeShapes Go.WideShapes Go.ChangeAt Go.RowKit
set_option maxRecDepth 100000

/-- A memory whose rows lie in blocks from N on. -/
structure FarM (N : Nat) (a : Option Addr) (n : Nat) (a' : Option Addr) (n' : Nat) (L : List Wd) (G : List Bool) (w : World) : Prop where
  ws : n ≤ maxLen ∧ L.length = n ∧ (n = 0 ∨ ∃ k o, a = some ⟨k, o, none⟩ ∧ N ≤ k ∧ k < w.heap.size ∧ ∀ j x, L[j]? = some x → WordAt w k (o + j * 6) x)
  gs : n' ≤ maxLen ∧ G.length = n' ∧ (n' = 0 ∨ ∃ k o, a' = some ⟨k, o, none⟩ ∧ N ≤ k ∧ k < w.heap.size ∧ ∀ j x, G[j]? = some x → w.cell? ⟨k, o + j, none⟩ = some (.bool x))
def farF (N : Nat) (a : Option Addr) (n : Nat) (a' : Option Addr) (n' : Nat) (L : List Wd) (G : List Bool) : Fct where
  S := fun k => N ≤ k
  p := FarM N a n a' n' L G
  keep := fun w w' h hs hb => by
    refine ⟨⟨h.ws.1, h.ws.2.1, ?_⟩, ⟨h.gs.1, h.gs.2.1, ?_⟩⟩
    · rcases h.ws.2.2 with h0 | ⟨k, o, ha, hN, hk, hc⟩
      · exact .inl h0
      · exact .inr ⟨k, o, ha, hN, by omega, fun j x hj => WordAt.of_vs fun m v hm => (World.cell?_of_block (hb k hk hN)).trans ((hc j x hj).vs m v hm)⟩
    · rcases h.gs.2.2 with h0 | ⟨k, o, ha, hN, hk, hc⟩
      · exact .inl h0
      · exact .inr ⟨k, o, ha, hN, by omega, fun j x hj => (World.cell?_of_block (hb k hk hN)).trans (hc j x hj)⟩
theorem FarM.mem {N : Nat} {a : Option Addr} {n : Nat} {a' : Option Addr} {n' : Nat} {L : List Wd} {G : List Bool} {w : World} (h : FarM N a n a' n' L G w) : MemS w a n a' n' L G := by
  refine ⟨⟨h.ws.1, h.ws.2.1, ?_⟩, ⟨h.gs.1, h.gs.2.1, ?_⟩⟩
  · rcases h.ws.2.2 with h0 | ⟨k, o, ha, hN, hk, hc⟩
    · exact .inl h0
    · exact .inr ⟨k, o, ha, hk, hc⟩
  · rcases h.gs.2.2 with h0 | ⟨k, o, ha, hN, hk, hc⟩
    · exact .inl h0
    · exact .inr ⟨k, o, ha, hk, hc⟩
theorem FarM.mono {N N' : Nat} {a : Option Addr} {n : Nat} {a' : Option Addr} {n' : Nat} {L : List Wd} {G : List Bool} {w : World} (h : FarM N a n a' n' L G w) (hN : N' ≤ N) : FarM N' a n a' n' L G w := by
  refine ⟨⟨h.ws.1, h.ws.2.1, ?_⟩, ⟨h.gs.1, h.gs.2.1, ?_⟩⟩
  · rcases h.ws.2.2 with h0 | ⟨k, o, ha, h1, hk, hc⟩
    · exact .inl h0
    · exact .inr ⟨k, o, ha, by omega, hk, hc⟩
  · rcases h.gs.2.2 with h0 | ⟨k, o, ha, h1, hk, hc⟩
    · exact .inl h0
    · exact .inr ⟨k, o, ha, by omega, hk, hc⟩
section
variable {w : World} {N q1 q2 : Nat} {L : List Wd} {G : List Bool}
theorem far_ws (h : AnsM (some ⟨q1, 0, none⟩) (some ⟨q2, 0, none⟩) 24 24 L G w) (h1 : N ≤ q1) : (24 : Nat) ≤ maxLen ∧ L.length = 24 ∧ ((24 : Nat) = 0 ∨ ∃ k o, (some ⟨q1, 0, none⟩ : Option Addr) = some ⟨k, o, none⟩ ∧ N ≤ k ∧ k < w.heap.size ∧ ∀ j x, L[j]? = some x → WordAt w k (o + j * 6) x) :=
  ⟨by unfold maxLen; omega, h.lw, .inr ⟨q1, 0, rfl, h1, (ans_row h).lt, fun j x hj => by
    have hl := (List.getElem?_eq_some_iff.1 hj).1
    rw [h.lw] at hl
    rw [Nat.zero_add]
    exact (ans_row h).wd j x hl hj⟩⟩
theorem far_gs (h : AnsM (some ⟨q1, 0, none⟩) (some ⟨q2, 0, none⟩) 24 24 L G w) (h2 : N ≤ q2) : (24 : Nat) ≤ maxLen ∧ G.length = 24 ∧ ((24 : Nat) = 0 ∨ ∃ k o, (some ⟨q2, 0, none⟩ : Option Addr) = some ⟨k, o, none⟩ ∧ N ≤ k ∧ k < w.heap.size ∧ ∀ j x, G[j]? = some x → w.cell? ⟨k, o + j, none⟩ = some (.bool x)) :=
  ⟨by unfold maxLen; omega, h.lg, .inr ⟨q2, 0, rfl, h2, (ans_rowB h).lt, fun j x hj => by
    have hl := (List.getElem?_eq_some_iff.1 hj).1
    rw [h.lg] at hl
    rw [Nat.zero_add]
    exact (ans_rowB h).wd j x hl hj⟩⟩
theorem far_all (h : AnsM (some ⟨q1, 0, none⟩) (some ⟨q2, 0, none⟩) 24 24 L G w) (h1 : N ≤ q1) (h2 : N ≤ q2) : FarM N (some ⟨q1, 0, none⟩) 24 (some ⟨q2, 0, none⟩) 24 L G w := ⟨far_ws h h1, far_gs h h2⟩
theorem far_nil (h : AnsM (some ⟨q1, 0, none⟩) (some ⟨q2, 0, none⟩) 24 24 L G w) (h1 : N ≤ q1) : FarM N (some ⟨q1, 0, none⟩) 24 none 0 L [] w := ⟨far_ws h h1, by unfold maxLen; omega, rfl, .inl rfl⟩
theorem far_cut (h : AnsM (some ⟨q1, 0, none⟩) (some ⟨q2, 0, none⟩) 24 24 L G w) (h1 : N ≤ q1) (h2 : N ≤ q2) : FarM N (some ⟨q1, 6, none⟩) 23 (some ⟨q2, 0, none⟩) 24 (L.drop 1) G w :=
  ⟨⟨by unfold maxLen; omega, by rw [List.length_drop, h.lw], .inr ⟨q1, 6, rfl, h1, (ans_row h).lt, fun j x hj => by
    rw [List.getElem?_drop] at hj
    have hl := (List.getElem?_eq_some_iff.1 hj).1
    rw [h.lw] at hl
    rw [show 6 + j * 6 = (1 + j) * 6 by omega]
    exact (ans_row h).wd (1 + j) x hl hj⟩⟩, far_gs h h2⟩
end

set_option maxHeartbeats 8000000 in
theorem d_mem {B q : Nat} {w : World} {a : Option Addr} {len cap : Nat} (d : Drawn B q w a len cap) :
    Calls Tryd.prog 40 #[.pointer (some ⟨q, 0, none⟩)] w fun e w' => ∃ a1 n c a2 n' c' L G, e = .returned (.agg #[.slice a1 n c, .slice a2 n' c']) ∧ FarM w.heap.size a1 n a2 n' L G w' ∧ n ≤ c ∧ n ≤ 24 ∧ n' ≤ 24 ∧ Drawn B q w' a len cap ∧ KeepBut q w w' := by
  have M := hid_mk (((Hq.new d).alloc (.cells #[.slice none 0 0, .slice none 0 0] 27)).push (duoF w.heap.size (.slice none 0 0) (.slice none 0 0)) (Duo.new w _ _ _) (by have := d.lt; show ¬ q = w.heap.size; omega))
  have hqw := d.lt
  clear d
  go_enter Tryd.func40, Tryd.ntmps40
  go_wp2_with fail
  refine (d_mright M.out.d).mono ?_
  rintro e w1 ⟨q1, q2, L, G, rfl, A1, hO1, hO2, d1, k1⟩
  have hs0 : (w.alloc (.cells #[.slice none 0 0, .slice none 0 0] 27)).heap.size = w.heap.size + 1 := World.size_alloc ..
  rw [hs0] at hO1 hO2
  have hu1 : q1 < w1.heap.size := A1.lt (.inl ((on_some q1 q1).2 rfl))
  have hu2 : q2 < w1.heap.size := A1.lt (.inr ((on_some q2 q2).2 rfl))
  replace M := hid_mk ((((M.out.moved d1 k1).alloc (.cells #[.slice (some ⟨q1, 0, none⟩) 24 24, .slice (some ⟨q2, 0, none⟩) 24 24] 27)).push (duoF w1.heap.size (.slice (some ⟨q1, 0, none⟩) 24 24) (.slice (some ⟨q2, 0, none⟩) 24 24)) (Duo.new _ _ _ _) (by show ¬ q = w1.heap.size; omega)).push (ansF (some ⟨q1, 0, none⟩) (some ⟨q2, 0, none⟩) 24 24 L G) (A1.below ((Below.refl _ _).alloc (Nat.le_refl _) _)) (by
    rintro (h | h)
    · have := (on_some q1 q).1 h; omega
    · have := (on_some q2 q).1 h; omega))
  clear hs0 d1 k1 A1
  go_upto_region 2 with fail
  generalize w1.alloc (.cells #[.slice (some ⟨q1, 0, none⟩) 24 24, .slice (some ⟨q2, 0, none⟩) 24 24] 27) = w2 at M ⊢
  obtain ⟨rm, hrm⟩ : ∃ r, r = w1.heap.size := ⟨_, rfl⟩
  rw [← hrm] at M hu1 hu2 ⊢
  clear hrm
  obtain ⟨ru, hru⟩ : ∃ r, r = w.heap.size := ⟨_, rfl⟩
  have hq : q < ru := by omega
  rw [← hru] at M hO1 hO2 ⊢
  have HRU := hid_mk hru
  clear hru
  go_wp2_with fail
  refine (d_below 15 M.out.d).mono ?_
  rintro e w3 ⟨x, rfl, _, _, d3, k3⟩
  replace M := hid_mk (M.out.moved d3 k3)
  clear d3 k3
  have hqn : ∀ i, On (some ⟨q1, 0, none⟩) i ∨ On (some ⟨q2, 0, none⟩) i → i ≠ q := by
    rintro i (h | h)
    · have := (on_some q1 i).1 h; omega
    · have := (on_some q2 i).1 h; omega
  have WM : Hid (∀ (w1 : World) (j : Nat) (v0 : Value), Hq w B q a len cap w1 [ansF (some ⟨q1, 0, none⟩) (some ⟨q2, 0, none⟩) 24 24 L G, duoF ru (.slice none 0 0) (.slice none 0 0)] → Hq w B q a len cap (w1.setCell ⟨rm, j, none⟩ v0) [ansF (some ⟨q1, 0, none⟩) (some ⟨q2, 0, none⟩) 24 24 L G, duoF ru (.slice none 0 0) (.slice none 0 0)]) := fun w1 j v0 h =>
    h.wrote (T := fun i => i = rm) (KeptS.ofBut ((KeepBut.refl rm w1).setCell j v0) rfl) (fun i e => by have := HRU.out; omega) (fun f hf i hi e => by
      simp only [List.mem_cons, List.not_mem_nil, or_false] at hf
      rcases hf with rfl | rfl
      · rcases hi with hi | hi
        · have := (on_some q1 i).1 hi; omega
        · have := (on_some q2 i).1 hi; omega
      · simp only [duoF] at hi; omega)
  have SUB : Hid (∀ (w1 : World), Hq w B q a len cap w1 [ansF (some ⟨q1, 0, none⟩) (some ⟨q2, 0, none⟩) 24 24 L G, duoF rm (.slice (some ⟨q1, 0, none⟩) 24 24) (.slice (some ⟨q2, 0, none⟩) 24 24), duoF ru (.slice none 0 0) (.slice none 0 0)] → Hq w B q a len cap w1 [ansF (some ⟨q1, 0, none⟩) (some ⟨q2, 0, none⟩) 24 24 L G, duoF ru (.slice none 0 0) (.slice none 0 0)]) := fun w1 h => h.sub fun f hf => by
    simp only [List.mem_cons, List.not_mem_nil, or_false] at hf ⊢
    rcases hf with rfl | rfl
    · exact .inl rfl
    · exact .inr (.inr rfl)
  have FIN : Hid (∀ (w1 : World) (b1 : Option Addr) (n c : Nat) (b2 : Option Addr) (n' c' : Nat) (L' : List Wd) (G' : List Bool), Hq w B q a len cap w1 [ansF (some ⟨q1, 0, none⟩) (some ⟨q2, 0, none⟩) 24 24 L G, duoF ru (.slice none 0 0) (.slice none 0 0)] → Duo w1 rm (.slice b1 n c) (.slice b2 n' c') → FarM (ru + 1) b1 n b2 n' L' G' w1 → Hq w B q a len cap w1 [farF (ru + 1) b1 n b2 n' L' G', duoF rm (.slice b1 n c) (.slice b2 n' c'), duoF ru (.slice none 0 0) (.slice none 0 0)]) := fun w1 b1 n c b2 n' c' L' G' h hd hf =>
    (h.tail.push (duoF rm (.slice b1 n c) (.slice b2 n' c')) hd (by show ¬ q = rm; omega)).push (farF (ru + 1) b1 n b2 n' L' G') hf (by show ¬ ru + 1 ≤ q; omega)
  go_upto_block 0 with fail
  go_cut [] (fun wx => ∃ (b1 : Option Addr) (n c : Nat) (b2 : Option Addr) (n' c' : Nat) (L' : List Wd) (G' : List Bool), n ≤ c ∧ n ≤ 24 ∧ n' ≤ 24 ∧ Hid (Hq w B q a len cap wx [farF (ru + 1) b1 n b2 n' L' G', duoF rm (.slice b1 n c) (.slice b2 n' c'), duoF ru (.slice none 0 0) (.slice none 0 0)]))
  case first =>
    cases g0 : (x == 0)
    · cases g1 : (x == 1)
      · cases g2 : (x == 2)
        · go_wp2
          go_meet
          case rel => exact ⟨_, _, _, _, _, _, _, _, by omega, by omega, by omega, FIN.out _ _ _ _ _ _ _ _ _ (SUB.out _ M.out) (M.out.duo (.tail _ (.head _))) (far_all (M.out.ans (.head _)) (by omega) (by omega))⟩
        · obtain ⟨_, m0, m1, f0, f1⟩ := M.out.duo (.tail _ (.head _))
          have M7 := hid_mk (WM.out _ 1 (.slice none 0 0) (SUB.out _ M.out))
          have D7 := hid_mk ((M.out.duo (.tail _ (.head _))).set1 (.slice none 0 0))
          go_wp2
          go_meet
          case rel => exact ⟨_, _, _, _, _, _, _, _, by omega, by omega, by omega, FIN.out _ _ _ _ _ _ _ _ _ M7.out D7.out (far_nil (M7.out.ans (.head _)) (by omega))⟩
      · go_upto_region 6 with fail
        have ALL : Hid (∀ w', Hq w B q a len cap w' [duoF rm (.slice (some ⟨q1, 0, none⟩) 24 24) (.slice (some ⟨q2, 0, none⟩) 24 24), duoF ru (.slice none 0 0) (.slice none 0 0)] → (w'.cell? ⟨rm, 0, none⟩ = some (.slice (some ⟨q1, 0, none⟩) 24 24) ∧ w'.cell? ⟨rm, 1, none⟩ = some (.slice (some ⟨q2, 0, none⟩) 24 24) ∧ Hid (Hq w B q a len cap w' [duoF rm (.slice (some ⟨q1, 0, none⟩) 24 24) (.slice (some ⟨q2, 0, none⟩) 24 24), duoF ru (.slice none 0 0) (.slice none 0 0)]))) := fun w' h => by
          have h1 := h.duo (.head _)
          exact ⟨h1.c0, h1.c1, h⟩
        have GET : Hid (∀ w', (w'.cell? ⟨rm, 0, none⟩ = some (.slice (some ⟨q1, 0, none⟩) 24 24) ∧ w'.cell? ⟨rm, 1, none⟩ = some (.slice (some ⟨q2, 0, none⟩) 24 24) ∧ Hid (Hq w B q a len cap w' [duoF rm (.slice (some ⟨q1, 0, none⟩) 24 24) (.slice (some ⟨q2, 0, none⟩) 24 24), duoF ru (.slice none 0 0) (.slice none 0 0)])) → Hq w B q a len cap w' [duoF rm (.slice (some ⟨q1, 0, none⟩) 24 24) (.slice (some ⟨q2, 0, none⟩) 24 24), duoF ru (.slice none 0 0) (.slice none 0 0)]) := fun w' h => h.2.2
        have WS : Hid (∀ (w1 : World) (k : Nat) (v0 v1 v2 v3 v4 v5 : Value), Hq w B q a len cap w1 [duoF rm (.slice (some ⟨q1, 0, none⟩) 24 24) (.slice (some ⟨q2, 0, none⟩) 24 24), duoF ru (.slice none 0 0) (.slice none 0 0)] → Hq w B q a len cap ((((((w1.setCell ⟨q1, k * 6, none⟩ v0).setCell ⟨q1, k * 6 + 1, none⟩ v1).setCell ⟨q1, k * 6 + 2, none⟩ v2).setCell ⟨q1, k * 6 + 3, none⟩ v3).setCell ⟨q1, k * 6 + 4, none⟩ v4).setCell ⟨q1, k * 6 + 5, none⟩ v5) [duoF rm (.slice (some ⟨q1, 0, none⟩) 24 24) (.slice (some ⟨q2, 0, none⟩) 24 24), duoF ru (.slice none 0 0) (.slice none 0 0)]) := fun w1 k v0 v1 v2 v3 v4 v5 h =>
          h.wrote (T := fun i => i = q1) (KeptS.ofBut (((((((KeepBut.refl q1 w1).setCell _ v0).setCell _ v1).setCell _ v2).setCell _ v3).setCell _ v4).setCell _ v5) rfl) (fun i e => by have := HRU.out; omega) (fun f hf i hi e => by
            simp only [List.mem_cons, List.not_mem_nil, or_false] at hf
            rcases hf with rfl | rfl
            · simp only [duoF] at hi; omega
            · simp only [duoF] at hi; omega)
        have F0 := hid_mk (M.out.tail.drew)
        have A0 := hid_mk (M.out.drew.ans (.head _))
        clear M WM SUB FIN
        go_region_held3 (fun w' => w'.cell? ⟨rm, 0, none⟩ = some (.slice (some ⟨q1, 0, none⟩) 24 24) ∧ w'.cell? ⟨rm, 1, none⟩ = some (.slice (some ⟨q2, 0, none⟩) 24 24) ∧ Hid (Hq w B q a len cap w' [duoF rm (.slice (some ⟨q1, 0, none⟩) 24 24) (.slice (some ⟨q2, 0, none⟩) 24 24), duoF ru (.slice none 0 0) (.slice none 0 0)]))
          (first | (with_reducible assumption) | (((with_reducible refine ALL.out _ ?_); (first | (with_reducible exact F0.out) | ((with_reducible apply Hq.moved ?_ D5.out K5.out); (with_reducible exact GET.out _ (by with_reducible assumption))) | ((with_reducible apply Hq.moved ?_ D6.out K6.out); (with_reducible exact GET.out _ (by with_reducible assumption))) | (with_reducible exact WS.out _ _ _ _ _ _ _ _ (GET.out _ (by with_reducible assumption))) | fail))))
          (first
            | (go_at_call 41; refine (d_below 24 (GET.out _ (by with_reducible assumption)).d).mono ?_; rintro e w5 ⟨y, rfl, _, hy, d5, k5⟩; have D5 := hid_mk d5; have K5 := hid_mk k5; obtain ⟨hy0, hy1⟩ := hy (by omega); obtain ⟨k, hk⟩ : ∃ k : Nat, y = k := ⟨y.toNat, by omega⟩; subst hk; have hk24 : k < 24 := (by omega); have A5 := hid_mk (A0.out.moved hqn k5); clear d5 k5 hy)
            | (go_at_call 44; refine (d_word (GET.out _ (by with_reducible assumption)).d).mono ?_; rintro e w6 ⟨vn, vi, vb, vt, vp, vs, rfl, d6, k6⟩; have D6 := hid_mk d6; have K6 := hid_mk k6; have A6 := hid_mk (A5.out.moved hqn k6); have O6 := hid_mk (ans_row A6.out); (obtain ⟨x0, e0⟩ := Option.isSome_iff_exists.1 (O6.out.has (k * 6) (by omega))); (obtain ⟨x1, e1⟩ := Option.isSome_iff_exists.1 (O6.out.has (k * 6 + 1) (by omega))); (obtain ⟨x2, e2⟩ := Option.isSome_iff_exists.1 (O6.out.has (k * 6 + 2) (by omega))); (obtain ⟨x3, e3⟩ := Option.isSome_iff_exists.1 (O6.out.has (k * 6 + 3) (by omega))); (obtain ⟨x4, e4⟩ := Option.isSome_iff_exists.1 (O6.out.has (k * 6 + 4) (by omega))); (obtain ⟨x5, e5⟩ := Option.isSome_iff_exists.1 (O6.out.has (k * 6 + 5) (by omega))); have y0 := O6.out.fr (k * 6) (by omega); have y1 := O6.out.fr (k * 6 + 1) (by omega); have y2 := O6.out.fr (k * 6 + 2) (by omega); have y3 := O6.out.fr (k * 6 + 3) (by omega); have y4 := O6.out.fr (k * 6 + 4) (by omega); have y5 := O6.out.fr (k * 6 + 5) (by omega); clear d6 k6))
        have A7 := hid_mk (A6.out.putW hk24 ⟨vn, vi, vb, vt, vp, vs⟩)
        rw [sixCells] at A7
        have M7 := hid_mk ((GET.out _ (by with_reducible assumption)).push (farF (ru + 1) (some ⟨q1, 0, none⟩) 24 (some ⟨q2, 0, none⟩) 24 (L.set k ⟨vn, vi, vb, vt, vp, vs⟩) G) (far_all A7.out (by omega) (by omega)) (by show ¬ ru + 1 ≤ q; omega))
        clear ALL GET WS F0 A0 A5 A6 A7 O6 e0 e1 e2 e3 e4 e5 y0 y1 y2 y3 y4 y5
        go_wp2
        go_meet
        case rel => exact ⟨_, _, _, _, _, _, _, _, by omega, by omega, by omega, M7.out⟩
    · obtain ⟨_, m0, m1, f0, f1⟩ := M.out.duo (.tail _ (.head _))
      have M7 := hid_mk (WM.out _ 0 (.slice (some ⟨q1, 6, none⟩) 23 23) (SUB.out _ M.out))
      have D7 := hid_mk ((M.out.duo (.tail _ (.head _))).set0 (.slice (some ⟨q1, 6, none⟩) 23 23))
      go_wp2
      go_meet
      case rel => exact ⟨_, _, _, _, _, _, _, _, by omega, by omega, by omega, FIN.out _ _ _ _ _ _ _ _ _ M7.out D7.out (far_cut (M7.out.ans (.head _)) (by omega) (by omega))⟩
  case' rest =>
    obtain ⟨b1, n, c, b2, n', c', L', G', h1, h2, h3, M9⟩ := hcut
  clear M WM SUB FIN
  generalize wc = w9 at M9 ⊢
  obtain ⟨_, m0, m1, _, _⟩ := M9.out.duo (.tail _ (.head _))
  obtain ⟨_, r0, r1, f0, f1⟩ := M9.out.duo (.tail _ (.tail _ (.head _)))
  have MZ := hid_mk (M9.out.sub (gs := [farF (ru + 1) b1 n b2 n' L' G']) (fun f hf => by
    simp only [List.mem_cons, List.not_mem_nil, or_false] at hf
    subst hf
    exact .head _) |>.wrote (T := fun i => i = ru) (KeptS.ofBut (((KeepBut.refl ru w9).setCell 0 (.slice b1 n c)).setCell 1 (.slice b2 n' c')) rfl) (fun i e => by have := HRU.out; omega) (fun f hf i hi e => by
    simp only [List.mem_cons, List.not_mem_nil, or_false] at hf
    subst hf
    have : ru + 1 ≤ i := hi
    omega))
  go_wp2
  have hfar : FarM (ru + 1) b1 n b2 n' L' G' _ := MZ.out.all _ (.head _)
  refine bodyPost_ret (v := .agg #[.slice b1 n c, .slice b2 n' c']) (by simp [results, Tryd.results40, go_sem, r0, r1]) rfl ⟨b1, n, c, b2, n', c', L', G', rfl, hfar.mono (by have := HRU.out; omega), h1, h2, h3, MZ.out.d, MZ.out.k⟩
end Go.Proofs.YtfeoaegkhbjaeaaDoor

namespace Go.Proofs.YtfeoaegkhbjaeaaDoor
open Go.ChangeShapes Go.WideShapes Go.ChangeAt Go.RowKit
set_option maxRecDepth 100000

theorem Hold.far {w0 w : World} {fs : List Fct} {N : Nat} {a : Option Addr} {n : Nat} {a' : Option Addr} {n' : Nat} {L : List Wd} {G : List Bool} (h : Hold w0 w fs) (hm : farF N a n a' n' L G ∈ fs) : FarM N a n a' n' L G w := h.at hm
theorem Hold.cur {w0 w w' : World} {fs : List Fct} {q : Nat} (h : Hold w0 w fs) (h0 : w0.heap.size ≤ q) (hd : ∀ f ∈ fs, ¬ f.S q) (k : KeepBut q w w') : Hold w0 w' fs :=
  h.wrote (T := fun i => i = q) (KeptS.ofBut k rfl) (fun i e => by omega) fun f hf i hi e => hd f hf (e ▸ hi)

set_option maxHeartbeats 8000000 in
theorem drawDrop_any {w : World} {a : Option Addr} {len cap : Nat} (hc : Code8 w.heap.size w a len) :
    Calls Tryd.prog 10 #[.slice a len cap] w fun e w' => ∃ (a1 : Option Addr) (n c : Nat) (a2 : Option Addr) (n' c' : Nat) (L : List Wd) (G : List Bool) (m : Int), e = .returned (.tuple #[.agg #[.slice a1 n c, .slice a2 n' c'], .int .i64 m]) ∧ FarM w.heap.size a1 n a2 n' L G w' ∧ n ≤ c ∧ n ≤ 24 ∧ n' ≤ 24 ∧ Below w.heap.size w w' := by
  have bz : Below w.heap.size w (w.alloc (.cells #[.slice none 0 0, .slice none 0 0] 27)) := (Below.refl _ _).alloc (Nat.le_refl _) _
  have hs : (w.alloc (.cells #[.slice none 0 0, .slice none 0 0] 27)).heap.size = w.heap.size + 1 := World.size_alloc ..
  have C := hid_mk (hs ▸ hc.later bz : Code8 (w.heap.size + 1) (w.alloc (.cells #[.slice none 0 0, .slice none 0 0] 27)) a len)
  have H := hid_mk (((Hold.new w).alloc (.cells #[.slice none 0 0, .slice none 0 0] 27)).push (spotF w.heap.size) ⟨_, _, Duo.new w (.slice none 0 0) (.slice none 0 0) _⟩)
  clear hc bz
  go_enter Tryd.func10, Tryd.ntmps10
  go_wp2_with fail
  refine (d_new (by rw [hs]; exact C.out)).mono ?_
  rw [hs]
  rintro e w1 ⟨rfl, d1, b1⟩
  replace H := hid_mk (H.out.next (by rw [hs]; exact b1))
  have hq1 : w.heap.size + 1 < w1.heap.size := d1.lt
  clear C hs b1
  go_wp2_with fail
  refine (d_mem d1).mono ?_
  rintro e w2 ⟨a1, n, c, a2, n', c', L, G, rfl, hF, h1, h2, h3, d2, k2⟩
  replace H := hid_mk ((((H.out.cur (by omega) (fun f hf hq => by
    simp only [List.mem_singleton] at hf
    subst hf
    simp only [spotF] at hq
    omega) k2).push (farF w1.heap.size a1 n a2 n' L G) hF).alloc (.cells #[.slice a1 n c, .slice a2 n' c'] 27)).push (duoF w2.heap.size (.slice a1 n c) (.slice a2 n' c')) (Duo.new _ _ _ _))
  have D := hid_mk (d2.alloc (.cells #[.slice a1 n c, .slice a2 n' c'] 27))
  have hq2 : w1.heap.size ≤ w2.heap.size := k2.size
  clear d1 d2 k2 hF
  go_upto_region 3 with fail
  generalize w2.alloc (.cells #[.slice a1 n c, .slice a2 n' c'] 27) = w3 at H D ⊢
  generalize w2.heap.size = rm at H hq2 ⊢
  have D0 := hid_mk (D.out.below (Below.refl _ _).drew)
  have F0 := hid_mk H.out.drew
  have ALL : Hid (∀ w', Hold w w' [duoF rm (.slice a1 n c) (.slice a2 n' c'), farF w1.heap.size a1 n a2 n' L G, spotF w.heap.size] → (w'.cell? ⟨rm, 0, none⟩ = some (.slice a1 n c) ∧ w'.cell? ⟨rm, 1, none⟩ = some (.slice a2 n' c') ∧ Hid (Hold w w' [duoF rm (.slice a1 n c) (.slice a2 n' c'), farF w1.heap.size a1 n a2 n' L G, spotF w.heap.size]))) := fun w' h => by
    have h1 := h.duo (.head _)
    exact ⟨h1.c0, h1.c1, h⟩
  have GET : Hid (∀ w', (w'.cell? ⟨rm, 0, none⟩ = some (.slice a1 n c) ∧ w'.cell? ⟨rm, 1, none⟩ = some (.slice a2 n' c') ∧ Hid (Hold w w' [duoF rm (.slice a1 n c) (.slice a2 n' c'), farF w1.heap.size a1 n a2 n' L G, spotF w.heap.size])) → Hold w w' [duoF rm (.slice a1 n c) (.slice a2 n' c'), farF w1.heap.size a1 n a2 n' L G, spotF w.heap.size]) := fun w' h => h.2.2
  have MV : Hid (∀ y1 y2, Hold w y1 [duoF rm (.slice a1 n c) (.slice a2 n' c'), farF w1.heap.size a1 n a2 n' L G, spotF w.heap.size] → KeepBut (w.heap.size + 1) y1 y2 → Hold w y2 [duoF rm (.slice a1 n c) (.slice a2 n' c'), farF w1.heap.size a1 n a2 n' L G, spotF w.heap.size]) := fun y1 y2 h k => h.cur (by omega) (fun f hf hq => by
    simp only [List.mem_cons, List.not_mem_nil, or_false] at hf
    rcases hf with rfl | rfl | rfl
    · simp only [duoF] at hq; omega
    · have : w1.heap.size ≤ w.heap.size + 1 := hq
      omega
    · simp only [spotF] at hq; omega) k
  have ST : Hid (∀ (y1 : World) (u0 u1 : Value), Hold w y1 [duoF rm (.slice a1 n c) (.slice a2 n' c'), farF w1.heap.size a1 n a2 n' L G, spotF w.heap.size] → Hold w ((y1.setCell ⟨w.heap.size, 0, none⟩ u0).setCell ⟨w.heap.size, 1, none⟩ u1) [duoF rm (.slice a1 n c) (.slice a2 n' c'), farF w1.heap.size a1 n a2 n' L G, spotF w.heap.size]) := fun y1 u0 u1 h => by
    obtain ⟨v0, v1, Dx⟩ := h.spot (.tail _ (.tail _ (.head _)))
    have h2 := (h.sub (gs := [duoF rm (.slice a1 n c) (.slice a2 n' c'), farF w1.heap.size a1 n a2 n' L G]) (fun f hf => by
      simp only [List.mem_cons, List.not_mem_nil, or_false] at hf ⊢
      rcases hf with rfl | rfl
      · exact .inl rfl
      · exact .inr (.inl rfl))).set2 (r := w.heap.size) (Nat.le_refl _) (fun f hf i hi e => by
      simp only [List.mem_cons, List.not_mem_nil, or_false] at hf
      rcases hf with rfl | rfl
      · simp only [duoF] at hi; omega
      · have : w1.heap.size ≤ i := hi
        omega) u0 u1
    refine ⟨h2.bel, fun f hf => ?_⟩
    simp only [List.mem_cons, List.not_mem_nil, or_false] at hf
    rcases hf with rfl | rfl | rfl
    · exact h2.at (.head _)
    · exact h2.at (.tail _ (.head _))
    · exact ⟨_, _, (Dx.set0 u0).set1 u1⟩
  clear H D
  go_region_held3 (fun w' => w'.cell? ⟨rm, 0, none⟩ = some (.slice a1 n c) ∧ w'.cell? ⟨rm, 1, none⟩ = some (.slice a2 n' c') ∧ Hid (Hold w w' [duoF rm (.slice a1 n c) (.slice a2 n' c'), farF w1.heap.size a1 n a2 n' L G, spotF w.heap.size]))
    (first | (with_reducible assumption) | (((with_reducible refine ALL.out _ ?_); (first | (with_reducible exact F0.out) | ((with_reducible apply MV.out _ _ ?_ K5.out); (with_reducible exact GET.out _ (by with_reducible assumption))) | ((with_reducible apply ST.out _ _ _ (GET.out _ (by with_reducible assumption)))) | fail))))
    (first
      | (go_at_call 41; refine (d_below 26 D0.out).mono ?_; rintro e w5 ⟨y, rfl, _, _, d5, k5⟩; have K5 := hid_mk k5; (obtain ⟨u0, u1, hsp, q0, q1, q2, q3⟩ := (MV.out _ _ (GET.out _ (by with_reducible assumption)) k5).spot (.tail _ (.tail _ (.head _)))); clear d5 k5))
  have HE := hid_mk (GET.out _ (by with_reducible assumption))
  clear ALL GET MV ST F0 D0
  go_wp2
  have hfar := HE.out.far (.tail _ (.head _))
  refine bodyPost_ret (v := .tuple #[.agg #[.slice a1 n c, .slice a2 n' c'], .int .i64 (IntKind.i64.wrap (y - 1))]) (by simp [results, Tryd.results10, go_sem, q0, q1]) rfl ⟨a1, n, c, a2, n', c', L, G, _, rfl, hfar.mono (by omega), h1, h2, h3, HE.out.bel⟩

set_option maxHeartbeats 4000000 in
theorem drawSweep_any {w : World} {a : Option Addr} {len cap : Nat} (hc : Code8 w.heap.size w a len) :
    Calls Tryd.prog 7 #[.slice a len cap] w fun e w' => ∃ (a1 : Option Addr) (n c : Nat) (a2 : Option Addr) (n' c' : Nat) (L : List Wd) (G : List Bool) (m : Int), e = .returned (.tuple #[.agg #[.slice a1 n c, .slice a2 n' c'], .int .i64 m]) ∧ FarM w.heap.size a1 n a2 n' L G w' ∧ n ≤ c ∧ n ≤ 24 ∧ n' ≤ 24 ∧ Below w.heap.size w w' := by
  have bz : Below w.heap.size w (w.alloc (.cells #[.slice none 0 0, .slice none 0 0] 27)) := (Below.refl _ _).alloc (Nat.le_refl _) _
  have hs : (w.alloc (.cells #[.slice none 0 0, .slice none 0 0] 27)).heap.size = w.heap.size + 1 := World.size_alloc ..
  have C := hid_mk (hc.later bz)
  have H := hid_mk (((Hold.new w).alloc (.cells #[.slice none 0 0, .slice none 0 0] 27)).push (duoF w.heap.size (.slice none 0 0) (.slice none 0 0)) (Duo.new w _ _ _))
  clear hc bz
  go_enter Tryd.func7, Tryd.ntmps7
  go_wp2_with fail
  refine (drawDrop_any C.out).mono ?_
  rintro e w2 ⟨a1, n, c, a2, n', c', L, G, m, rfl, hF, h1, h2, h3, hb⟩
  rw [hs] at hF
  have hq : w.heap.size + 1 ≤ w2.heap.size := by have := hb.size; omega
  replace H := hid_mk ((((H.out.next hb).push (farF (w.heap.size + 1) a1 n a2 n' L G) hF).alloc (.cells #[.slice a1 n c, .slice a2 n' c'] 27)).push (duoF w2.heap.size (.slice a1 n c) (.slice a2 n' c')) (Duo.new _ _ _ _))
  clear hb hF C hs
  go_upto_region 2 with fail
  generalize w2.alloc (.cells #[.slice a1 n c, .slice a2 n' c'] 27) = w3 at H ⊢
  generalize w2.heap.size = rm at H hq ⊢
  obtain ⟨_, m0, m1, _, _⟩ := H.out.duo (.head _)
  obtain ⟨_, r0, r1, f0, f1⟩ := H.out.duo (.tail _ (.tail _ (.head _)))
  have HE := hid_mk ((H.out.sub (gs := [farF (w.heap.size + 1) a1 n a2 n' L G]) (fun f hf => by
    simp only [List.mem_singleton] at hf
    subst hf
    exact .tail _ (.head _))).set2 (r := w.heap.size) (Nat.le_refl _) (fun f hf i hi e => by
    simp only [List.mem_singleton] at hf
    subst hf
    have : w.heap.size + 1 ≤ i := hi
    omega) (.slice a1 n c) (.slice a2 n' c'))
  go_wp2
  have hfar := HE.out.far (.head _)
  refine bodyPost_ret (v := .tuple #[.agg #[.slice a1 n c, .slice a2 n' c'], .int .i64 m]) (by simp [results, Tryd.results7, go_sem, r0, r1]) rfl ⟨a1, n, c, a2, n', c', L, G, m, rfl, hfar.mono (by omega), h1, h2, h3, HE.out.bel⟩
end Go.Proofs.YtfeoaegkhbjaeaaDoor

namespace Go.Proofs.YtfeoaegkhbjaeaaDoor
open Go.ChangeShapes Go.WideShapes Go.ChangeAt Go.RowKit
set_option maxRecDepth 100000

theorem Hold.put2 {w0 w : World} {fs : List Fct} {r : Nat} (h : Hold w0 w fs) (hm : spotF r ∈ fs) (h0 : w0.heap.size ≤ r) (hd : ∀ f ∈ fs, f = spotF r ∨ ∀ k, f.S k → k ≠ r) (u0 u1 : Value) : Hold w0 ((w.setCell ⟨r, 0, none⟩ u0).setCell ⟨r, 1, none⟩ u1) fs := by
  obtain ⟨v0, v1, D⟩ := h.spot hm
  refine ⟨below_two h.bel h0 u0 u1, fun f hf => ?_⟩
  rcases hd f hf with rfl | hk
  · exact ⟨_, _, (D.set0 u0).set1 u1⟩
  · have K := ((KeepBut.refl r w).setCell 0 u0).setCell 1 u1
    exact f.keep w _ (h.all f hf) K.size fun i hi hs => K.block i hi (hk i hs)
theorem Hold.put6 {w0 w : World} {fs : List Fct} {r : Nat} (h : Hold w0 w fs) (hm : spot6F r ∈ fs) (h0 : w0.heap.size ≤ r) (hd : ∀ f ∈ fs, f = spot6F r ∨ ∀ k, f.S k → k ≠ r) (x : Wd) : Hold w0 ((((((w.setCell ⟨r, 0, none⟩ (.int .i64 x.n)).setCell ⟨r, 1, none⟩ (.bool x.i)).setCell ⟨r, 2, none⟩ (.int .i64 x.b)).setCell ⟨r, 3, none⟩ (.int .i64 x.t)).setCell ⟨r, 4, none⟩ (.int .i64 x.p)).setCell ⟨r, 5, none⟩ (.int .i64 x.s)) fs := by
  obtain ⟨y, D⟩ := h.spot6 hm
  refine ⟨six_done h.bel r h0 _ _ _ _ _ _, fun f hf => ?_⟩
  rcases hd f hf with rfl | hk
  · exact ⟨x, D.put x⟩
  · have K := (((((((KeepBut.refl r w).setCell 0 (.int .i64 x.n)).setCell 1 (.bool x.i)).setCell 2 (.int .i64 x.b)).setCell 3 (.int .i64 x.t)).setCell 4 (.int .i64 x.p)).setCell 5 (.int .i64 x.s))
    exact f.keep w _ (h.all f hf) K.size fun i hi hs => K.block i hi (hk i hs)

set_option maxHeartbeats 8000000 in
theorem drawFilter_any {w : World} {a : Option Addr} {len cap : Nat} (hc : Code8 w.heap.size w a len) :
    Calls Tryd.prog 16 #[.slice a len cap] w fun e w' => ∃ (a1 : Option Addr) (n c : Nat) (a2 : Option Addr) (n' c' : Nat) (L : List Wd) (G : List Bool) (x : Wd), e = .returned (.tuple #[.agg #[.slice a1 n c, .slice a2 n' c'], wdV x]) ∧ FarM w.heap.size a1 n a2 n' L G w' ∧ n ≤ c ∧ n ≤ 24 ∧ n' ≤ 24 ∧ Below w.heap.size w w' := by
  have bz : Below w.heap.size w ((w.alloc (.cells #[.slice none 0 0, .slice none 0 0] 27)).alloc (.cells #[.int .i64 0, .bool false, .int .i64 0, .int .i64 0, .int .i64 0, .int .i64 0] 36)) := ((Below.refl _ _).alloc (Nat.le_refl _) _).alloc (by simp) _
  have hs : ((w.alloc (.cells #[.slice none 0 0, .slice none 0 0] 27)).alloc (.cells #[.int .i64 0, .bool false, .int .i64 0, .int .i64 0, .int .i64 0, .int .i64 0] 36)).heap.size = w.heap.size + 1 + 1 := by simp
  have C := hid_mk (hs ▸ hc.later bz : Code8 (w.heap.size + 1 + 1) ((w.alloc (.cells #[.slice none 0 0, .slice none 0 0] 27)).alloc (.cells #[.int .i64 0, .bool false, .int .i64 0, .int .i64 0, .int .i64 0, .int .i64 0] 36)) a len)
  have H := hid_mk (((((Hold.new w).alloc (.cells #[.slice none 0 0, .slice none 0 0] 27)).push (spotF w.heap.size) ⟨_, _, Duo.new w (.slice none 0 0) (.slice none 0 0) _⟩).alloc (.cells #[.int .i64 0, .bool false, .int .i64 0, .int .i64 0, .int .i64 0, .int .i64 0] 36)).push (spot6F (w.heap.size + 1)) ⟨wd0, Six.second w _ 0 false 0 0 0 0 _⟩)
  clear hc bz
  go_enter Tryd.func16, Tryd.ntmps16
  go_wp2_with fail
  refine (d_new (by rw [hs]; exact C.out)).mono ?_
  rw [hs]
  rintro e w1 ⟨rfl, d1, b1⟩
  replace H := hid_mk (H.out.next (by rw [hs]; exact b1))
  have hq1 : w.heap.size + 1 + 1 < w1.heap.size := d1.lt
  clear C hs b1
  go_wp2_with fail
  refine (d_mem d1).mono ?_
  rintro e w2 ⟨a1, n, c, a2, n', c', L, G, rfl, hF, h1, h2, h3, d2, k2⟩
  obtain ⟨N, hN⟩ : ∃ N, N = w1.heap.size := ⟨_, rfl⟩
  rw [← hN] at hF hq1
  replace H := hid_mk ((((H.out.cur (by omega) (fun f hf hq => by
    simp only [List.mem_cons, List.not_mem_nil, or_false] at hf
    rcases hf with rfl | rfl
    · simp only [spot6F] at hq
      omega
    · simp only [spotF] at hq
      omega) k2).push (farF N a1 n a2 n' L G) hF).alloc (.cells #[.slice a1 n c, .slice a2 n' c'] 27)).push (duoF w2.heap.size (.slice a1 n c) (.slice a2 n' c')) (Duo.new _ _ _ _))
  have D := hid_mk (d2.alloc (.cells #[.slice a1 n c, .slice a2 n' c'] 27))
  have hq2 : N ≤ w2.heap.size := hN ▸ k2.size
  clear d1 d2 k2 hF hN
  go_upto_region 3 with fail
  generalize w2.alloc (.cells #[.slice a1 n c, .slice a2 n' c'] 27) = w3 at H D ⊢
  generalize w2.heap.size = rm at H hq2 ⊢
  have D0 := hid_mk (D.out.below (Below.refl _ _).drew)
  have F0 := hid_mk H.out.drew
  have ALL : Hid (∀ w', Hold w w' [duoF rm (.slice a1 n c) (.slice a2 n' c'), farF N a1 n a2 n' L G, spot6F (w.heap.size + 1), spotF w.heap.size] → (w'.cell? ⟨rm, 0, none⟩ = some (.slice a1 n c) ∧ w'.cell? ⟨rm, 1, none⟩ = some (.slice a2 n' c') ∧ Hid (Hold w w' [duoF rm (.slice a1 n c) (.slice a2 n' c'), farF N a1 n a2 n' L G, spot6F (w.heap.size + 1), spotF w.heap.size]))) := fun w' h => by
    have h1 := h.duo (.head _)
    exact ⟨h1.c0, h1.c1, h⟩
  have GET : Hid (∀ w', (w'.cell? ⟨rm, 0, none⟩ = some (.slice a1 n c) ∧ w'.cell? ⟨rm, 1, none⟩ = some (.slice a2 n' c') ∧ Hid (Hold w w' [duoF rm (.slice a1 n c) (.slice a2 n' c'), farF N a1 n a2 n' L G, spot6F (w.heap.size + 1), spotF w.heap.size])) → Hold w w' [duoF rm (.slice a1 n c) (.slice a2 n' c'), farF N a1 n a2 n' L G, spot6F (w.heap.size + 1), spotF w.heap.size]) := fun w' h => h.2.2
  have MV : Hid (∀ y1 y2, Hold w y1 [duoF rm (.slice a1 n c) (.slice a2 n' c'), farF N a1 n a2 n' L G, spot6F (w.heap.size + 1), spotF w.heap.size] → KeepBut (w.heap.size + 1 + 1) y1 y2 → Hold w y2 [duoF rm (.slice a1 n c) (.slice a2 n' c'), farF N a1 n a2 n' L G, spot6F (w.heap.size + 1), spotF w.heap.size]) := fun y1 y2 h k => h.cur (by omega) (fun f hf hq => by
    simp only [List.mem_cons, List.not_mem_nil, or_false] at hf
    rcases hf with rfl | rfl | rfl | rfl
    · simp only [duoF] at hq; omega
    · have : N ≤ w.heap.size + 1 + 1 := hq
      omega
    · simp only [spot6F] at hq; omega
    · simp only [spotF] at hq; omega) k
  have ST : Hid (∀ (y1 : World) (u0 u1 : Value), Hold w y1 [duoF rm (.slice a1 n c) (.slice a2 n' c'), farF N a1 n a2 n' L G, spot6F (w.heap.size + 1), spotF w.heap.size] → Hold w ((y1.setCell ⟨w.heap.size, 0, none⟩ u0).setCell ⟨w.heap.size, 1, none⟩ u1) [duoF rm (.slice a1 n c) (.slice a2 n' c'), farF N a1 n a2 n' L G, spot6F (w.heap.size + 1), spotF w.heap.size]) := fun y1 u0 u1 h => h.put2 (.tail _ (.tail _ (.tail _ (.head _)))) (Nat.le_refl _) (fun f hf => by
    simp only [List.mem_cons, List.not_mem_nil, or_false] at hf
    rcases hf with rfl | rfl | rfl | rfl
    · right; intro k hk; simp only [duoF] at hk; omega
    · right; intro k hk; have : N ≤ k := hk; omega
    · right; intro k hk; simp only [spot6F] at hk; omega
    · left; rfl) u0 u1
  have S6 : Hid (∀ (y1 : World) (x : Wd), Hold w y1 [duoF rm (.slice a1 n c) (.slice a2 n' c'), farF N a1 n a2 n' L G, spot6F (w.heap.size + 1), spotF w.heap.size] → Hold w ((((((y1.setCell ⟨w.heap.size + 1, 0, none⟩ (.int .i64 x.n)).setCell ⟨w.heap.size + 1, 1, none⟩ (.bool x.i)).setCell ⟨w.heap.size + 1, 2, none⟩ (.int .i64 x.b)).setCell ⟨w.heap.size + 1, 3, none⟩ (.int .i64 x.t)).setCell ⟨w.heap.size + 1, 4, none⟩ (.int .i64 x.p)).setCell ⟨w.heap.size + 1, 5, none⟩ (.int .i64 x.s)) [duoF rm (.slice a1 n c) (.slice a2 n' c'), farF N a1 n a2 n' L G, spot6F (w.heap.size + 1), spotF w.heap.size]) := fun y1 x h => h.put6 (.tail _ (.tail _ (.head _))) (by omega) (fun f hf => by
    simp only [List.mem_cons, List.not_mem_nil, or_false] at hf
    rcases hf with rfl | rfl | rfl | rfl
    · right; intro k hk; simp only [duoF] at hk; omega
    · right; intro k hk; have : N ≤ k := hk; omega
    · left; rfl
    · right; intro k hk; simp only [spotF] at hk; omega) x
  clear H D
  go_region_held3 (fun w' => w'.cell? ⟨rm, 0, none⟩ = some (.slice a1 n c) ∧ w'.cell? ⟨rm, 1, none⟩ = some (.slice a2 n' c') ∧ Hid (Hold w w' [duoF rm (.slice a1 n c) (.slice a2 n' c'), farF N a1 n a2 n' L G, spot6F (w.heap.size + 1), spotF w.heap.size]))
    (first | (with_reducible assumption) | (((with_reducible refine ALL.out _ ?_); (first | (with_reducible exact F0.out) | ((with_reducible apply MV.out _ _ ?_ K5.out); (with_reducible exact GET.out _ (by with_reducible assumption))) | ((with_reducible apply ST.out _ _ _ (GET.out _ (by with_reducible assumption)))) | ((with_reducible exact S6.out _ ⟨xn, xi, xb, xt, xp, xs⟩ (GET.out _ (by with_reducible assumption)))) | fail))))
    (first
      | (go_at_call 44; refine (d_word D0.out).mono ?_; rintro e w5 ⟨xn, xi, xb, xt, xp, xs, rfl, d5, k5⟩; have K5 := hid_mk k5; have H5 := hid_mk (MV.out _ _ (GET.out _ (by with_reducible assumption)) k5); (obtain ⟨u0, u1, hsp, q0, q1, q2, q3⟩ := H5.out.spot (.tail _ (.tail _ (.tail _ (.head _))))); (obtain ⟨xx, hsq, z0, z1, z2, z3, z4, z5, f0, f1, f2, f3, f4, f5⟩ := H5.out.spot6 (.tail _ (.tail _ (.head _)))); clear d5 k5))
  have HE := hid_mk (GET.out _ (by with_reducible assumption))
  clear ALL GET MV ST S6 F0 D0 H5
  go_wp2
  have hfar := HE.out.far (.tail _ (.head _))
  refine bodyPost_ret (v := .tuple #[.agg #[.slice a1 n c, .slice a2 n' c'], wdV ⟨xn, xi, xb, xt, xp, xs⟩]) (by simp [results, Tryd.results16, go_sem, wdV, q0, q1, z0, z1, z2, z3, z4, z5]) rfl ⟨a1, n, c, a2, n', c', L, G, ⟨xn, xi, xb, xt, xp, xs⟩, rfl, hfar.mono (by omega), h1, h2, h3, HE.out.bel⟩
end Go.Proofs.YtfeoaegkhbjaeaaDoor

namespace Go.Proofs.YtfeoaegkhbjaeaaDoor
open Go.ChangeShapes Go.WideShapes Go.ChangeAt Go.RowKit
set_option maxRecDepth 100000

theorem Hq.put6 {w0 w : World} {B q : Nat} {a : Option Addr} {len cap r : Nat} {z : Wd} (h : Hq w0 B q a len cap w [sixF r z]) (h0 : w0.heap.size ≤ r) (x : Wd) : Hq w0 B q a len cap ((((((w.setCell ⟨r, 0, none⟩ (.int .i64 x.n)).setCell ⟨r, 1, none⟩ (.bool x.i)).setCell ⟨r, 2, none⟩ (.int .i64 x.b)).setCell ⟨r, 3, none⟩ (.int .i64 x.t)).setCell ⟨r, 4, none⟩ (.int .i64 x.p)).setCell ⟨r, 5, none⟩ (.int .i64 x.s)) [] :=
  (h.sub (gs := []) (fun _ hf => by cases hf)).wrote (T := fun i => i = r) (KeptS.ofBut (((((((KeepBut.refl r w).setCell 0 (.int .i64 x.n)).setCell 1 (.bool x.i)).setCell 2 (.int .i64 x.b)).setCell 3 (.int .i64 x.t)).setCell 4 (.int .i64 x.p)).setCell 5 (.int .i64 x.s)) rfl) (fun i e => by omega) (fun f hf => by cases hf)

set_option maxHeartbeats 8000000 in
theorem d_by8 {B q : Nat} {w : World} {a : Option Addr} {len cap : Nat} (d : Drawn B q w a len cap) :
    Calls Tryd.prog 54 #[.pointer (some ⟨q, 0, none⟩)] w fun e w' => ∃ y : Wd, e = .returned (wdV y) ∧ Drawn B q w' a len cap ∧ KeepBut q w w' := by
  have M := hid_mk (((Hq.new d).alloc (.cells #[.int .i64 0, .bool false, .int .i64 0, .int .i64 0, .int .i64 0, .int .i64 0] 36)).push (sixF w.heap.size wd0) (Six.new w 0 false 0 0 0 0 _) (by have := d.lt; show ¬ q = w.heap.size; omega))
  have hqw := d.lt
  clear d
  go_enter Tryd.func54, Tryd.ntmps54
  go_wp2_with fail
  refine (d_once 3 M.out.d).mono ?_
  rintro e w1 ⟨z, rfl, d1, k1⟩
  replace M := hid_mk (M.out.moved d1 k1)
  clear d1 k1
  cases z
  · go_wp2_with fail
    refine (d_pick [0, 0, 1, 2, 8, 16] 3 6 6 rfl (by decide) (by decide) M.out.d).mono ?_
    rintro e w2 ⟨x, rfl, hx, d2, k2⟩
    replace M := hid_mk (M.out.moved d2 k2)
    clear d2 k2
    have hx0 : 0 ≤ x ∧ x ≤ 16 := by
      simp only [List.mem_cons, List.not_mem_nil, or_false] at hx
      omega
    obtain ⟨hx1, hx2⟩ := hx0
    clear hx
    go_wp2_with fail
    refine (d_below 24 M.out.d).mono ?_
    rintro e w3 ⟨y, rfl, _, _, d3, k3⟩
    replace M := hid_mk (M.out.moved d3 k3)
    clear d3 k3
    go_wp2_with fail
    refine (specKeyWord_any _ _ _ _ _ _).mono ?_
    rintro e w4 ⟨rfl, hb4⟩
    replace M := hid_mk (M.out.next hb4)
    clear hb4
    generalize kokB _ _ _ _ = v1
    generalize (bif v1 then (0 : Int) else 0) = v2
    generalize (bif v1 then (24 : Int) else 0) = v3
    generalize (bif v1 then _ else (0 : Int)) = v4
    generalize y % 65536 = v0
    obtain ⟨_, c0, c1, c2, c3, c4, c5, f0, f1, f2, f3, f4, f5⟩ := M.out.six (.head _)
    have ME := hid_mk (M.out.put6 (Nat.le_refl _) ⟨v0, v1, v2, v3, v4, v2⟩)
    go_wp2
    refine bodyPost_ret (v := wdV ⟨v0, v1, v2, v3, v4, v2⟩) (by simp [results, Tryd.results54, go_sem, wdV, c0, c1, c2, c3, c4, c5]) rfl ⟨_, rfl, ME.out.d, ME.out.k⟩
  · go_wp2_with fail
    refine (d_word M.out.d).mono ?_
    rintro e w2 ⟨xn, xi, xb, xt, xp, xs, rfl, d2, k2⟩
    replace M := hid_mk (M.out.moved d2 k2)
    clear d2 k2
    obtain ⟨_, c0, c1, c2, c3, c4, c5, f0, f1, f2, f3, f4, f5⟩ := M.out.six (.head _)
    have ME := hid_mk (M.out.put6 (Nat.le_refl _) ⟨xn, xi, xb, xt, xp, xs⟩)
    go_wp2
    refine bodyPost_ret (v := wdV ⟨xn, xi, xb, xt, xp, xs⟩) (by simp [results, Tryd.results54, go_sem, wdV, c0, c1, c2, c3, c4, c5]) rfl ⟨_, rfl, ME.out.d, ME.out.k⟩
set_option maxHeartbeats 8000000 in
theorem drawRead_any {w : World} {a : Option Addr} {len cap : Nat} (hc : Code8 w.heap.size w a len) :
    Calls Tryd.prog 25 #[.slice a len cap] w fun e w' => ∃ (a1 : Option Addr) (n c : Nat) (a2 : Option Addr) (n' c' : Nat) (L : List Wd) (G : List Bool) (y : Wd) (m : Int), e = .returned (.tuple #[.agg #[.slice a1 n c, .slice a2 n' c'], wdV y, .int .i64 m]) ∧ FarM w.heap.size a1 n a2 n' L G w' ∧ n ≤ c ∧ n ≤ 24 ∧ n' ≤ 24 ∧ Below w.heap.size w w' := by
  have bz : Below w.heap.size w ((w.alloc (.cells #[.slice none 0 0, .slice none 0 0] 27)).alloc (.cells #[.int .i64 0, .bool false, .int .i64 0, .int .i64 0, .int .i64 0, .int .i64 0] 36)) := ((Below.refl _ _).alloc (Nat.le_refl _) _).alloc (by simp) _
  have hs : ((w.alloc (.cells #[.slice none 0 0, .slice none 0 0] 27)).alloc (.cells #[.int .i64 0, .bool false, .int .i64 0, .int .i64 0, .int .i64 0, .int .i64 0] 36)).heap.size = w.heap.size + 1 + 1 := by simp
  have C := hid_mk (hs ▸ hc.later bz : Code8 (w.heap.size + 1 + 1) ((w.alloc (.cells #[.slice none 0 0, .slice none 0 0] 27)).alloc (.cells #[.int .i64 0, .bool false, .int .i64 0, .int .i64 0, .int .i64 0, .int .i64 0] 36)) a len)
  have H := hid_mk (((((Hold.new w).alloc (.cells #[.slice none 0 0, .slice none 0 0] 27)).push (spotF w.heap.size) ⟨_, _, Duo.new w (.slice none 0 0) (.slice none 0 0) _⟩).alloc (.cells #[.int .i64 0, .bool false, .int .i64 0, .int .i64 0, .int .i64 0, .int .i64 0] 36)).push (spot6F (w.heap.size + 1)) ⟨wd0, Six.second w _ 0 false 0 0 0 0 _⟩)
  clear hc bz
  go_enter Tryd.func25, Tryd.ntmps25
  go_wp2_with fail
  refine (d_new (by rw [hs]; exact C.out)).mono ?_
  rw [hs]
  rintro e w1 ⟨rfl, d1, b1⟩
  replace H := hid_mk (H.out.next (by rw [hs]; exact b1))
  have hq1 : w.heap.size + 1 + 1 < w1.heap.size := d1.lt
  clear C hs b1
  go_wp2_with fail
  refine (d_mem d1).mono ?_
  rintro e w2 ⟨a1, n, c, a2, n', c', L, G, rfl, hF, h1, h2, h3, d2, k2⟩
  obtain ⟨N, hN⟩ : ∃ N, N = w1.heap.size := ⟨_, rfl⟩
  rw [← hN] at hF hq1
  replace H := hid_mk ((((H.out.cur (by omega) (fun f hf hq => by
    simp only [List.mem_cons, List.not_mem_nil, or_false] at hf
    rcases hf with rfl | rfl
    · simp only [spot6F] at hq
      omega
    · simp only [spotF] at hq
      omega) k2).push (farF N a1 n a2 n' L G) hF).alloc (.cells #[.slice a1 n c, .slice a2 n' c'] 27)).push (duoF w2.heap.size (.slice a1 n c) (.slice a2 n' c')) (Duo.new _ _ _ _))
  have D := hid_mk (d2.alloc (.cells #[.slice a1 n c, .slice a2 n' c'] 27))
  have hq2 : N ≤ w2.heap.size := hN ▸ k2.size
  clear d1 d2 k2 hF hN
  go_upto_region 3 with fail
  generalize w2.alloc (.cells #[.slice a1 n c, .slice a2 n' c'] 27) = w3 at H D ⊢
  generalize w2.heap.size = rm at H hq2 ⊢
  have hrm : rm < w3.heap.size := (H.out.duo (.head _)).lt
  go_wp2_with fail
  refine (d_by8 D.out).mono ?_
  rintro e w4 ⟨y, rfl, d4, k4⟩
  have hq4 : rm < w4.heap.size := Nat.lt_of_lt_of_le hrm k4.size
  replace H := hid_mk (((H.out.cur (by omega) (fun f hf hq => by
    simp only [List.mem_cons, List.not_mem_nil, or_false] at hf
    rcases hf with rfl | rfl | rfl | rfl
    · simp only [duoF] at hq; omega
    · have : N ≤ w.heap.size + 1 + 1 := hq
      omega
    · simp only [spot6F] at hq; omega
    · simp only [spotF] at hq; omega) k4).alloc (.cells #[.int .i64 y.n, .bool y.i, .int .i64 y.b, .int .i64 y.t, .int .i64 y.p, .int .i64 y.s] 36)).push (sixF w4.heap.size y) (Six.new _ _ _ _ _ _ _ _))
  replace D := hid_mk (d4.alloc (.cells #[.int .i64 y.n, .bool y.i, .int .i64 y.b, .int .i64 y.t, .int .i64 y.p, .int .i64 y.s] 36))
  clear d4 k4 hrm
  simp only [wdV]
  go_upto_region 4 with fail
  generalize w4.alloc (.cells #[.int .i64 y.n, .bool y.i, .int .i64 y.b, .int .i64 y.t, .int .i64 y.p, .int .i64 y.s] 36) = w5 at H D ⊢
  generalize w4.heap.size = rb at H hq4 ⊢
  have D0 := hid_mk (D.out.below (Below.refl _ _).drew)
  have F0 := hid_mk H.out.drew
  have ALL : Hid (∀ w', Hold w w' [sixF rb y, duoF rm (.slice a1 n c) (.slice a2 n' c'), farF N a1 n a2 n' L G, spot6F (w.heap.size + 1), spotF w.heap.size] → (w'.cell? ⟨rm, 0, none⟩ = some (.slice a1 n c) ∧ w'.cell? ⟨rm, 1, none⟩ = some (.slice a2 n' c') ∧ w'.cell? ⟨rb, 0, none⟩ = some (.int .i64 y.n) ∧ w'.cell? ⟨rb, 1, none⟩ = some (.bool y.i) ∧ w'.cell? ⟨rb, 2, none⟩ = some (.int .i64 y.b) ∧ w'.cell? ⟨rb, 3, none⟩ = some (.int .i64 y.t) ∧ w'.cell? ⟨rb, 4, none⟩ = some (.int .i64 y.p) ∧ w'.cell? ⟨rb, 5, none⟩ = some (.int .i64 y.s) ∧ Hid (Hold w w' [sixF rb y, duoF rm (.slice a1 n c) (.slice a2 n' c'), farF N a1 n a2 n' L G, spot6F (w.heap.size + 1), spotF w.heap.size]))) := fun w' h => by
    have h1 := h.duo (.tail _ (.head _))
    have h2 := h.six (.head _)
    exact ⟨h1.c0, h1.c1, h2.c0, h2.c1, h2.c2, h2.c3, h2.c4, h2.c5, h⟩
  have GET : Hid (∀ w', (w'.cell? ⟨rm, 0, none⟩ = some (.slice a1 n c) ∧ w'.cell? ⟨rm, 1, none⟩ = some (.slice a2 n' c') ∧ w'.cell? ⟨rb, 0, none⟩ = some (.int .i64 y.n) ∧ w'.cell? ⟨rb, 1, none⟩ = some (.bool y.i) ∧ w'.cell? ⟨rb, 2, none⟩ = some (.int .i64 y.b) ∧ w'.cell? ⟨rb, 3, none⟩ = some (.int .i64 y.t) ∧ w'.cell? ⟨rb, 4, none⟩ = some (.int .i64 y.p) ∧ w'.cell? ⟨rb, 5, none⟩ = some (.int .i64 y.s) ∧ Hid (Hold w w' [sixF rb y, duoF rm (.slice a1 n c) (.slice a2 n' c'), farF N a1 n a2 n' L G, spot6F (w.heap.size + 1), spotF w.heap.size])) → Hold w w' [sixF rb y, duoF rm (.slice a1 n c) (.slice a2 n' c'), farF N a1 n a2 n' L G, spot6F (w.heap.size + 1), spotF w.heap.size]) := fun w' h => h.2.2.2.2.2.2.2.2
  have MV : Hid (∀ y1 y2, Hold w y1 [sixF rb y, duoF rm (.slice a1 n c) (.slice a2 n' c'), farF N a1 n a2 n' L G, spot6F (w.heap.size + 1), spotF w.heap.size] → KeepBut (w.heap.size + 1 + 1) y1 y2 → Hold w y2 [sixF rb y, duoF rm (.slice a1 n c) (.slice a2 n' c'), farF N a1 n a2 n' L G, spot6F (w.heap.size + 1), spotF w.heap.size]) := fun y1 y2 h k => h.cur (by omega) (fun f hf hq => by
    simp only [List.mem_cons, List.not_mem_nil, or_false] at hf
    rcases hf with rfl | rfl | rfl | rfl | rfl
    · simp only [sixF] at hq; omega
    · simp only [duoF] at hq; omega
    · have : N ≤ w.heap.size + 1 + 1 := hq
      omega
    · simp only [spot6F] at hq; omega
    · simp only [spotF] at hq; omega) k
  have ST : Hid (∀ (y1 : World) (u0 u1 : Value), Hold w y1 [sixF rb y, duoF rm (.slice a1 n c) (.slice a2 n' c'), farF N a1 n a2 n' L G, spot6F (w.heap.size + 1), spotF w.heap.size] → Hold w ((y1.setCell ⟨w.heap.size, 0, none⟩ u0).setCell ⟨w.heap.size, 1, none⟩ u1) [sixF rb y, duoF rm (.slice a1 n c) (.slice a2 n' c'), farF N a1 n a2 n' L G, spot6F (w.heap.size + 1), spotF w.heap.size]) := fun y1 u0 u1 h => h.put2 (.tail _ (.tail _ (.tail _ (.tail _ (.head _))))) (Nat.le_refl _) (fun f hf => by
    simp only [List.mem_cons, List.not_mem_nil, or_false] at hf
    rcases hf with rfl | rfl | rfl | rfl | rfl
    · right; intro k hk; simp only [sixF] at hk; omega
    · right; intro k hk; simp only [duoF] at hk; omega
    · right; intro k hk; have : N ≤ k := hk; omega
    · right; intro k hk; simp only [spot6F] at hk; omega
    · left; rfl) u0 u1
  have S6 : Hid (∀ (y1 : World) (x : Wd), Hold w y1 [sixF rb y, duoF rm (.slice a1 n c) (.slice a2 n' c'), farF N a1 n a2 n' L G, spot6F (w.heap.size + 1), spotF w.heap.size] → Hold w ((((((y1.setCell ⟨w.heap.size + 1, 0, none⟩ (.int .i64 x.n)).setCell ⟨w.heap.size + 1, 1, none⟩ (.bool x.i)).setCell ⟨w.heap.size + 1, 2, none⟩ (.int .i64 x.b)).setCell ⟨w.heap.size + 1, 3, none⟩ (.int .i64 x.t)).setCell ⟨w.heap.size + 1, 4, none⟩ (.int .i64 x.p)).setCell ⟨w.heap.size + 1, 5, none⟩ (.int .i64 x.s)) [sixF rb y, duoF rm (.slice a1 n c) (.slice a2 n' c'), farF N a1 n a2 n' L G, spot6F (w.heap.size + 1), spotF w.heap.size]) := fun y1 x h => h.put6 (.tail _ (.tail _ (.tail _ (.head _)))) (by omega) (fun f hf => by
    simp only [List.mem_cons, List.not_mem_nil, or_false] at hf
    rcases hf with rfl | rfl | rfl | rfl | rfl
    · right; intro k hk; simp only [sixF] at hk; omega
    · right; intro k hk; simp only [duoF] at hk; omega
    · right; intro k hk; have : N ≤ k := hk; omega
    · left; rfl
    · right; intro k hk; simp only [spotF] at hk; omega) x
  clear H D
  go_region_held3 (fun w' => w'.cell? ⟨rm, 0, none⟩ = some (.slice a1 n c) ∧ w'.cell? ⟨rm, 1, none⟩ = some (.slice a2 n' c') ∧ w'.cell? ⟨rb, 0, none⟩ = some (.int .i64 y.n) ∧ w'.cell? ⟨rb, 1, none⟩ = some (.bool y.i) ∧ w'.cell? ⟨rb, 2, none⟩ = some (.int .i64 y.b) ∧ w'.cell? ⟨rb, 3, none⟩ = some (.int .i64 y.t) ∧ w'.cell? ⟨rb, 4, none⟩ = some (.int .i64 y.p) ∧ w'.cell? ⟨rb, 5, none⟩ = some (.int .i64 y.s) ∧ Hid (Hold w w' [sixF rb y, duoF rm (.slice a1 n c) (.slice a2 n' c'), farF N a1 n a2 n' L G, spot6F (w.heap.size + 1), spotF w.heap.size]))
    (first | (with_reducible assumption) | (((with_reducible refine ALL.out _ ?_); (first | (with_reducible exact F0.out) | (with_reducible exact H6.out) | (with_reducible exact H7.out) | ((with_reducible apply Hold.alloc); (with_reducible exact H6.out)) | ((with_reducible apply ST.out _ _ _ (GET.out _ (by with_reducible assumption)))) | ((with_reducible exact S6.out _ y (GET.out _ (by with_reducible assumption)))) | fail))))
    (first
      | (go_at_call 41; refine (d_below 24 D0.out).mono ?_; rintro e w6 ⟨x6, rfl, _, _, d6, k6⟩; have H6 := hid_mk (MV.out _ _ (GET.out _ (by with_reducible assumption)) k6); have D6 := hid_mk d6; clear d6 k6)
      | (go_at_call 55; refine (d_pick [0, 1, 5, 23, 24, -1, x6] 3 7 7 rfl (by simp) (by simp) D6.out).mono ?_; rintro e w7 ⟨x7, rfl, _, d7, k7⟩; have H7 := hid_mk (MV.out _ _ H6.out k7); (obtain ⟨u0, u1, hsp, q0, q1, q2, q3⟩ := H7.out.spot (.tail _ (.tail _ (.tail _ (.tail _ (.head _)))))); (obtain ⟨xx, hsq, z0, z1, z2, z3, z4, z5, f0, f1, f2, f3, f4, f5⟩ := H7.out.spot6 (.tail _ (.tail _ (.tail _ (.head _))))); clear d7 k7))
  have HE := hid_mk (GET.out _ (by with_reducible assumption))
  clear ALL GET MV ST S6 F0 D0 H6 H7 D6
  go_wp2
  have hfar := HE.out.far (.tail _ (.tail _ (.head _)))
  refine bodyPost_ret (v := .tuple #[.agg #[.slice a1 n c, .slice a2 n' c'], wdV y, .int .i64 x7]) (by simp [results, Tryd.results25, go_sem, wdV, q0, q1, z0, z1, z2, z3, z4, z5]) rfl ⟨a1, n, c, a2, n', c', L, G, y, x7, rfl, hfar.mono (by omega), h1, h2, h3, HE.out.bel⟩
end Go.Proofs.YtfeoaegkhbjaeaaDoor

namespace Go.Proofs.YtfeoaegkhbjaeaaDoor
open Go.ChangeShapes Go.WideShapes Go.ChangeAt Go.RowKit
set_option maxRecDepth 100000

/-- A memory whose rows lie in blocks from N on, below M. -/
structure RngM (N M : Nat) (a : Option Addr) (n : Nat) (a' : Option Addr) (n' : Nat) (L : List Wd) (G : List Bool) (w : World) : Prop where
  ws : n ≤ maxLen ∧ L.length = n ∧ (n = 0 ∨ ∃ k o, a = some ⟨k, o, none⟩ ∧ (N ≤ k ∧ k < M) ∧ ∀ j x, L[j]? = some x → WordAt w k (o + j * 6) x)
  gs : n' ≤ maxLen ∧ G.length = n' ∧ (n' = 0 ∨ ∃ k o, a' = some ⟨k, o, none⟩ ∧ (N ≤ k ∧ k < M) ∧ ∀ j x, G[j]? = some x → w.cell? ⟨k, o + j, none⟩ = some (.bool x))
  lt : M ≤ w.heap.size
def rngF (N M : Nat) (a : Option Addr) (n : Nat) (a' : Option Addr) (n' : Nat) (L : List Wd) (G : List Bool) : Fct where
  S := fun k => N ≤ k ∧ k < M
  p := RngM N M a n a' n' L G
  keep := fun w w' h hs hb => by
    have hlt := h.lt
    refine ⟨⟨h.ws.1, h.ws.2.1, ?_⟩, ⟨h.gs.1, h.gs.2.1, ?_⟩, by omega⟩
    · rcases h.ws.2.2 with h0 | ⟨k, o, ha, hN, hc⟩
      · exact .inl h0
      · exact .inr ⟨k, o, ha, hN, fun j x hj => WordAt.of_vs fun m v hm => (World.cell?_of_block (hb k (by omega) hN)).trans ((hc j x hj).vs m v hm)⟩
    · rcases h.gs.2.2 with h0 | ⟨k, o, ha, hN, hc⟩
      · exact .inl h0
      · exact .inr ⟨k, o, ha, hN, fun j x hj => (World.cell?_of_block (hb k (by omega) hN)).trans (hc j x hj)⟩
theorem RngM.mem {N M : Nat} {a : Option Addr} {n : Nat} {a' : Option Addr} {n' : Nat} {L : List Wd} {G : List Bool} {w : World} (h : RngM N M a n a' n' L G w) : MemS w a n a' n' L G := by
  have hlt := h.lt
  refine ⟨⟨h.ws.1, h.ws.2.1, ?_⟩, ⟨h.gs.1, h.gs.2.1, ?_⟩⟩
  · rcases h.ws.2.2 with h0 | ⟨k, o, ha, hN, hc⟩
    · exact .inl h0
    · exact .inr ⟨k, o, ha, by omega, hc⟩
  · rcases h.gs.2.2 with h0 | ⟨k, o, ha, hN, hc⟩
    · exact .inl h0
    · exact .inr ⟨k, o, ha, by omega, hc⟩
theorem FarM.rng {N : Nat} {a : Option Addr} {n : Nat} {a' : Option Addr} {n' : Nat} {L : List Wd} {G : List Bool} {w : World} (h : FarM N a n a' n' L G w) : RngM N w.heap.size a n a' n' L G w := by
  refine ⟨⟨h.ws.1, h.ws.2.1, ?_⟩, ⟨h.gs.1, h.gs.2.1, ?_⟩, Nat.le_refl _⟩
  · rcases h.ws.2.2 with h0 | ⟨k, o, ha, hN, hk, hc⟩
    · exact .inl h0
    · exact .inr ⟨k, o, ha, ⟨hN, hk⟩, hc⟩
  · rcases h.gs.2.2 with h0 | ⟨k, o, ha, hN, hk, hc⟩
    · exact .inl h0
    · exact .inr ⟨k, o, ha, ⟨hN, hk⟩, hc⟩
theorem Hold.rng {w0 w : World} {fs : List Fct} {N M : Nat} {a : Option Addr} {n : Nat} {a' : Option Addr} {n' : Nat} {L : List Wd} {G : List Bool} (h : Hold w0 w fs) (hm : rngF N M a n a' n' L G ∈ fs) : RngM N M a n a' n' L G w := h.at hm

set_option maxHeartbeats 8000000 in
theorem drawWrite_any {w : World} {a : Option Addr} {len cap : Nat} (hc : Code8 w.heap.size w a len) :
    Calls Tryd.prog 22 #[.slice a len cap] w fun e w' => ∃ (a1 : Option Addr) (n c : Nat) (a2 : Option Addr) (n' c' : Nat) (L : List Wd) (G : List Bool) (y : Wd) (m : Int) (x : Wd), e = .returned (.tuple #[.agg #[.slice a1 n c, .slice a2 n' c'], wdV y, .int .i64 m, wdV x]) ∧ MemS w' a1 n a2 n' L G ∧ n ≤ c ∧ n ≤ 24 ∧ n' ≤ 24 ∧ Below w.heap.size w w' := by
  have bz : Below w.heap.size w (((w.alloc (.cells #[.slice none 0 0, .slice none 0 0] 27)).alloc (.cells #[.int .i64 0, .bool false, .int .i64 0, .int .i64 0, .int .i64 0, .int .i64 0] 36)).alloc (.cells #[.int .i64 0, .bool false, .int .i64 0, .int .i64 0, .int .i64 0, .int .i64 0] 36)) := (((Below.refl _ _).alloc (Nat.le_refl _) _).alloc (by simp) _).alloc (by simp; omega) _
  have hs : (((w.alloc (.cells #[.slice none 0 0, .slice none 0 0] 27)).alloc (.cells #[.int .i64 0, .bool false, .int .i64 0, .int .i64 0, .int .i64 0, .int .i64 0] 36)).alloc (.cells #[.int .i64 0, .bool false, .int .i64 0, .int .i64 0, .int .i64 0, .int .i64 0] 36)).heap.size = w.heap.size + 1 + 1 + 1 := by simp
  have C := hid_mk (hc.later bz)
  have H := hid_mk (((((Hold.new w).alloc (.cells #[.slice none 0 0, .slice none 0 0] 27)).push (spotF w.heap.size) ⟨_, _, Duo.new w (.slice none 0 0) (.slice none 0 0) _⟩).alloc (.cells #[.int .i64 0, .bool false, .int .i64 0, .int .i64 0, .int .i64 0, .int .i64 0] 36)).push (spot6F (w.heap.size + 1)) ⟨wd0, Six.second w _ 0 false 0 0 0 0 _⟩ |>.alloc (.cells #[.int .i64 0, .bool false, .int .i64 0, .int .i64 0, .int .i64 0, .int .i64 0] 36) |>.push (spot6F (w.heap.size + 1 + 1)) ⟨wd0, Six.third w _ _ 0 false 0 0 0 0 _⟩)
  clear hc bz
  go_enter Tryd.func22, Tryd.ntmps22
  go_wp2_with fail
  refine (drawRead_any C.out).mono ?_
  rintro e w2 ⟨a1, n, c, a2, n', c', L, G, y, m, rfl, hF, h1, h2, h3, hb⟩
  rw [hs] at hF
  have C2 := hid_mk (C.out.later hb)
  have hz2 : w.heap.size + 1 + 1 + 1 ≤ w2.heap.size := by have := hb.size; omega
  obtain ⟨M, hM⟩ : ∃ M, M = w2.heap.size := ⟨_, rfl⟩
  have hR := hF.rng
  rw [← hM] at hR
  have hz3 : w.heap.size + 1 + 1 + 1 ≤ M := by omega
  replace H := hid_mk (((((H.out.next hb).push (rngF (w.heap.size + 1 + 1 + 1) M a1 n a2 n' L G) hR).alloc (.cells #[.slice a1 n c, .slice a2 n' c'] 27)).push (duoF w2.heap.size (.slice a1 n c) (.slice a2 n' c')) (Duo.new _ _ _ _)).alloc (.cells #[.int .i64 y.n, .bool y.i, .int .i64 y.b, .int .i64 y.t, .int .i64 y.p, .int .i64 y.s] 36) |>.push (sixF (w2.heap.size + 1) y) (Six.second w2 _ y.n y.i y.b y.t y.p y.s _))
  rw [← hM] at H
  have C3 := hid_mk ((C2.out.later ((Below.refl _ _).alloc (Nat.le_refl _) (.cells #[.slice a1 n c, .slice a2 n' c'] 27))).later ((Below.refl _ _).alloc (Nat.le_refl _) (.cells #[.int .i64 y.n, .bool y.i, .int .i64 y.b, .int .i64 y.t, .int .i64 y.p, .int .i64 y.s] 36)))
  clear hb hF hR C C2 hs hz2
  simp only [wdV]
  go_upto_region 2 with fail
  rw [← hM]
  generalize (w2.alloc (.cells #[.slice a1 n c, .slice a2 n' c'] 27)).alloc (.cells #[.int .i64 y.n, .bool y.i, .int .i64 y.b, .int .i64 y.t, .int .i64 y.p, .int .i64 y.s] 36) = w3 at H C3 ⊢
  have hw3 : M + 1 < w3.heap.size := (H.out.six (.head _)).lt
  clear hM
  have C4 := hid_mk (C3.out.later (Below.refl _ _).drew)
  have F0 := hid_mk H.out.drew
  have hzd : w3.drew.heap.size = w3.heap.size := by simp
  have ALL : Hid (∀ w', Hold w w' [sixF (M + 1) y, duoF M (.slice a1 n c) (.slice a2 n' c'), rngF (w.heap.size + 1 + 1 + 1) M a1 n a2 n' L G, spot6F (w.heap.size + 1 + 1), spot6F (w.heap.size + 1), spotF w.heap.size] → (w'.cell? ⟨M, 0, none⟩ = some (.slice a1 n c) ∧ w'.cell? ⟨M, 1, none⟩ = some (.slice a2 n' c') ∧ w'.cell? ⟨M + 1, 0, none⟩ = some (.int .i64 y.n) ∧ w'.cell? ⟨M + 1, 1, none⟩ = some (.bool y.i) ∧ w'.cell? ⟨M + 1, 2, none⟩ = some (.int .i64 y.b) ∧ w'.cell? ⟨M + 1, 3, none⟩ = some (.int .i64 y.t) ∧ w'.cell? ⟨M + 1, 4, none⟩ = some (.int .i64 y.p) ∧ w'.cell? ⟨M + 1, 5, none⟩ = some (.int .i64 y.s) ∧ Hid (Hold w w' [sixF (M + 1) y, duoF M (.slice a1 n c) (.slice a2 n' c'), rngF (w.heap.size + 1 + 1 + 1) M a1 n a2 n' L G, spot6F (w.heap.size + 1 + 1), spot6F (w.heap.size + 1), spotF w.heap.size]))) := fun w' h => by
    have h1 := h.duo (.tail _ (.head _))
    have h2 := h.six (.head _)
    exact ⟨h1.c0, h1.c1, h2.c0, h2.c1, h2.c2, h2.c3, h2.c4, h2.c5, h⟩
  have GET : Hid (∀ w', (w'.cell? ⟨M, 0, none⟩ = some (.slice a1 n c) ∧ w'.cell? ⟨M, 1, none⟩ = some (.slice a2 n' c') ∧ w'.cell? ⟨M + 1, 0, none⟩ = some (.int .i64 y.n) ∧ w'.cell? ⟨M + 1, 1, none⟩ = some (.bool y.i) ∧ w'.cell? ⟨M + 1, 2, none⟩ = some (.int .i64 y.b) ∧ w'.cell? ⟨M + 1, 3, none⟩ = some (.int .i64 y.t) ∧ w'.cell? ⟨M + 1, 4, none⟩ = some (.int .i64 y.p) ∧ w'.cell? ⟨M + 1, 5, none⟩ = some (.int .i64 y.s) ∧ Hid (Hold w w' [sixF (M + 1) y, duoF M (.slice a1 n c) (.slice a2 n' c'), rngF (w.heap.size + 1 + 1 + 1) M a1 n a2 n' L G, spot6F (w.heap.size + 1 + 1), spot6F (w.heap.size + 1), spotF w.heap.size])) → Hold w w' [sixF (M + 1) y, duoF M (.slice a1 n c) (.slice a2 n' c'), rngF (w.heap.size + 1 + 1 + 1) M a1 n a2 n' L G, spot6F (w.heap.size + 1 + 1), spot6F (w.heap.size + 1), spotF w.heap.size]) := fun w' h => h.2.2.2.2.2.2.2.2
  have MV : Hid (∀ y1 y2, Hold w y1 [sixF (M + 1) y, duoF M (.slice a1 n c) (.slice a2 n' c'), rngF (w.heap.size + 1 + 1 + 1) M a1 n a2 n' L G, spot6F (w.heap.size + 1 + 1), spot6F (w.heap.size + 1), spotF w.heap.size] → KeepBut w3.drew.heap.size y1 y2 → Hold w y2 [sixF (M + 1) y, duoF M (.slice a1 n c) (.slice a2 n' c'), rngF (w.heap.size + 1 + 1 + 1) M a1 n a2 n' L G, spot6F (w.heap.size + 1 + 1), spot6F (w.heap.size + 1), spotF w.heap.size]) := fun y1 y2 h k => h.cur (by omega) (fun f hf hq => by
    simp only [List.mem_cons, List.not_mem_nil, or_false] at hf
    rcases hf with rfl | rfl | rfl | rfl | rfl | rfl
    · simp only [sixF] at hq; omega
    · simp only [duoF] at hq; omega
    · simp only [rngF] at hq; omega
    · simp only [spot6F] at hq; omega
    · simp only [spot6F] at hq; omega
    · simp only [spotF] at hq; omega) k
  have ST : Hid (∀ (y1 : World) (u0 u1 : Value), Hold w y1 [sixF (M + 1) y, duoF M (.slice a1 n c) (.slice a2 n' c'), rngF (w.heap.size + 1 + 1 + 1) M a1 n a2 n' L G, spot6F (w.heap.size + 1 + 1), spot6F (w.heap.size + 1), spotF w.heap.size] → Hold w ((y1.setCell ⟨w.heap.size, 0, none⟩ u0).setCell ⟨w.heap.size, 1, none⟩ u1) [sixF (M + 1) y, duoF M (.slice a1 n c) (.slice a2 n' c'), rngF (w.heap.size + 1 + 1 + 1) M a1 n a2 n' L G, spot6F (w.heap.size + 1 + 1), spot6F (w.heap.size + 1), spotF w.heap.size]) := fun y1 u0 u1 h => h.put2 (.tail _ (.tail _ (.tail _ (.tail _ (.tail _ (.head _)))))) (Nat.le_refl _) (fun f hf => by
    simp only [List.mem_cons, List.not_mem_nil, or_false] at hf
    rcases hf with rfl | rfl | rfl | rfl | rfl | rfl
    · right; intro k hk; simp only [sixF] at hk; omega
    · right; intro k hk; simp only [duoF] at hk; omega
    · right; intro k hk; simp only [rngF] at hk; omega
    · right; intro k hk; simp only [spot6F] at hk; omega
    · right; intro k hk; simp only [spot6F] at hk; omega
    · left; rfl) u0 u1
  have S6 : Hid (∀ (y1 : World) (x : Wd), Hold w y1 [sixF (M + 1) y, duoF M (.slice a1 n c) (.slice a2 n' c'), rngF (w.heap.size + 1 + 1 + 1) M a1 n a2 n' L G, spot6F (w.heap.size + 1 + 1), spot6F (w.heap.size + 1), spotF w.heap.size] → Hold w ((((((y1.setCell ⟨w.heap.size + 1, 0, none⟩ (.int .i64 x.n)).setCell ⟨w.heap.size + 1, 1, none⟩ (.bool x.i)).setCell ⟨w.heap.size + 1, 2, none⟩ (.int .i64 x.b)).setCell ⟨w.heap.size + 1, 3, none⟩ (.int .i64 x.t)).setCell ⟨w.heap.size + 1, 4, none⟩ (.int .i64 x.p)).setCell ⟨w.heap.size + 1, 5, none⟩ (.int .i64 x.s)) [sixF (M + 1) y, duoF M (.slice a1 n c) (.slice a2 n' c'), rngF (w.heap.size + 1 + 1 + 1) M a1 n a2 n' L G, spot6F (w.heap.size + 1 + 1), spot6F (w.heap.size + 1), spotF w.heap.size]) := fun y1 x h => h.put6 (.tail _ (.tail _ (.tail _ (.tail _ (.head _))))) (by omega) (fun f hf => by
    simp only [List.mem_cons, List.not_mem_nil, or_false] at hf
    rcases hf with rfl | rfl | rfl | rfl | rfl | rfl
    · right; intro k hk; simp only [sixF] at hk; omega
    · right; intro k hk; simp only [duoF] at hk; omega
    · right; intro k hk; simp only [rngF] at hk; omega
    · right; intro k hk; simp only [spot6F] at hk; omega
    · left; rfl
    · right; intro k hk; simp only [spotF] at hk; omega) x
  have S7 : Hid (∀ (y1 : World) (x : Wd), Hold w y1 [sixF (M + 1) y, duoF M (.slice a1 n c) (.slice a2 n' c'), rngF (w.heap.size + 1 + 1 + 1) M a1 n a2 n' L G, spot6F (w.heap.size + 1 + 1), spot6F (w.heap.size + 1), spotF w.heap.size] → Hold w ((((((y1.setCell ⟨w.heap.size + 1 + 1, 0, none⟩ (.int .i64 x.n)).setCell ⟨w.heap.size + 1 + 1, 1, none⟩ (.bool x.i)).setCell ⟨w.heap.size + 1 + 1, 2, none⟩ (.int .i64 x.b)).setCell ⟨w.heap.size + 1 + 1, 3, none⟩ (.int .i64 x.t)).setCell ⟨w.heap.size + 1 + 1, 4, none⟩ (.int .i64 x.p)).setCell ⟨w.heap.size + 1 + 1, 5, none⟩ (.int .i64 x.s)) [sixF (M + 1) y, duoF M (.slice a1 n c) (.slice a2 n' c'), rngF (w.heap.size + 1 + 1 + 1) M a1 n a2 n' L G, spot6F (w.heap.size + 1 + 1), spot6F (w.heap.size + 1), spotF w.heap.size]) := fun y1 x h => h.put6 (.tail _ (.tail _ (.tail _ (.head _)))) (by omega) (fun f hf => by
    simp only [List.mem_cons, List.not_mem_nil, or_false] at hf
    rcases hf with rfl | rfl | rfl | rfl | rfl | rfl
    · right; intro k hk; simp only [sixF] at hk; omega
    · right; intro k hk; simp only [duoF] at hk; omega
    · right; intro k hk; simp only [rngF] at hk; omega
    · left; rfl
    · right; intro k hk; simp only [spot6F] at hk; omega
    · right; intro k hk; simp only [spotF] at hk; omega) x
  clear H C3
  go_region_held3 (fun w' => w'.cell? ⟨M, 0, none⟩ = some (.slice a1 n c) ∧ w'.cell? ⟨M, 1, none⟩ = some (.slice a2 n' c') ∧ w'.cell? ⟨M + 1, 0, none⟩ = some (.int .i64 y.n) ∧ w'.cell? ⟨M + 1, 1, none⟩ = some (.bool y.i) ∧ w'.cell? ⟨M + 1, 2, none⟩ = some (.int .i64 y.b) ∧ w'.cell? ⟨M + 1, 3, none⟩ = some (.int .i64 y.t) ∧ w'.cell? ⟨M + 1, 4, none⟩ = some (.int .i64 y.p) ∧ w'.cell? ⟨M + 1, 5, none⟩ = some (.int .i64 y.s) ∧ Hid (Hold w w' [sixF (M + 1) y, duoF M (.slice a1 n c) (.slice a2 n' c'), rngF (w.heap.size + 1 + 1 + 1) M a1 n a2 n' L G, spot6F (w.heap.size + 1 + 1), spot6F (w.heap.size + 1), spotF w.heap.size]))
    (first | (with_reducible assumption) | (((with_reducible refine ALL.out _ ?_); (first | (with_reducible exact F0.out) | (with_reducible exact H6.out) | (with_reducible exact H7.out) | ((with_reducible apply ST.out _ _ _ (GET.out _ (by with_reducible assumption)))) | ((with_reducible exact S6.out _ y (GET.out _ (by with_reducible assumption)))) | ((with_reducible exact S7.out _ ⟨xn, xi, xb, xt, xp, xs⟩ (GET.out _ (by with_reducible assumption)))) | fail))))
    (first
      | (go_at_call 39; refine (d_new C4.out).mono ?_; rintro e w6 ⟨rfl, d6, b6⟩; have H6 := hid_mk ((GET.out _ (by with_reducible assumption)).next b6); have D6 := hid_mk d6; clear d6 b6)
      | (go_at_call 44; refine (d_word D6.out).mono ?_; rintro e w7 ⟨xn, xi, xb, xt, xp, xs, rfl, d7, k7⟩; have H7 := hid_mk (MV.out _ _ H6.out k7); (obtain ⟨u0, u1, hsp, q0, q1, q2, q3⟩ := H7.out.spot (.tail _ (.tail _ (.tail _ (.tail _ (.tail _ (.head _))))))); (obtain ⟨xx, hsq, z0, z1, z2, z3, z4, z5, f0, f1, f2, f3, f4, f5⟩ := H7.out.spot6 (.tail _ (.tail _ (.tail _ (.tail _ (.head _)))))); (obtain ⟨xy, hsr, p0, p1, p2, p3, p4, p5, g0, g1, g2, g3, g4, g5⟩ := H7.out.spot6 (.tail _ (.tail _ (.tail _ (.head _))))); clear d7 k7))
  have HE := hid_mk (GET.out _ (by with_reducible assumption))
  clear ALL GET MV ST S6 S7 F0 C4 H6 H7 D6
  go_wp2
  have hrng := HE.out.rng (.tail _ (.tail _ (.head _)))
  refine bodyPost_ret (v := .tuple #[.agg #[.slice a1 n c, .slice a2 n' c'], wdV y, .int .i64 m, wdV ⟨xn, xi, xb, xt, xp, xs⟩]) (by simp [results, Tryd.results22, go_sem, wdV, q0, q1, z0, z1, z2, z3, z4, z5, p0, p1, p2, p3, p4, p5]) rfl ⟨a1, n, c, a2, n', c', L, G, y, m, _, rfl, hrng.mem, h1, h2, h3, HE.out.bel⟩
end Go.Proofs.YtfeoaegkhbjaeaaDoor
