/- Rows of words and bools that may be written: one element anew; rows that 'append' has made. No condition. -/
import Derived.Test.YtneohabkoighcaaGreatMarkW
import Derived.Laws.AppendOwn
namespace Go.Proofs.YtneohabkoighcaaGreat
open Go.ChangeShapes Go.WideShapes Go.ChangeAt Go.RowKit
set_option maxRecDepth 100000

theorem RowW.put {w : World} {q o len : Nat} {L : List Wd} (h : RowW w q o len len L) (hl : L.length = len) {i : Nat} (hi : i < len) (x : Wd) : RowW (w.setCells q (o + i * 6) x.vs) q o len len (L.set i x) := by
  have hv : x.vs.length = 6 := rfl
  have out : ∀ c, (c < o + i * 6 ∨ o + i * 6 + 6 ≤ c) → (w.setCells q (o + i * 6) x.vs).cell? ⟨q, c, none⟩ = w.cell? ⟨q, c, none⟩ := fun c hc =>
    World.cell?_setCells_out q x.vs (o + i * 6) w ⟨q, c, none⟩ (fun _ _ => by rw [hv]; exact hc)
  have inn : ∀ j (hj : j < x.vs.length), (w.setCells q (o + i * 6) x.vs).cell? ⟨q, o + i * 6 + j, none⟩ = some x.vs[j] :=
    World.cell?_setCells_in q x.vs (o + i * 6) w (fun j hj => by
      have := h.has (i * 6 + j) (by rw [hv] at hj; omega)
      rwa [← Nat.add_assoc] at this)
  refine ⟨?_, fun c hc => ?_, fun c hc => ?_, fun j y hj hy => ?_⟩
  · have := h.lt
    simp only [Wd.vs, World.setCells, World.size_setCell]
    exact this
  · by_cases hio : o + c < o + i * 6 ∨ o + i * 6 + 6 ≤ o + c
    · rw [out _ hio]; exact h.has c hc
    · have := inn (c - i * 6) (by rw [hv]; omega)
      rw [show o + i * 6 + (c - i * 6) = o + c by omega] at this
      rw [this]; rfl
  · rw [World.frozen?_setCells]; exact h.fr c hc
  · by_cases hji : j = i
    · subst hji
      rw [List.getElem?_set_self (by omega)] at hy
      obtain rfl : x = y := Option.some.inj hy
      refine WordAt.of_vs fun m v hm => ?_
      obtain ⟨hm6, rfl⟩ := List.getElem?_eq_some_iff.1 hm
      exact inn m hm6
    · rw [List.getElem?_set_ne (fun e => hji e.symm)] at hy
      refine WordAt.of_vs fun m v hm => ?_
      have hm6 : m < 6 := (List.getElem?_eq_some_iff.1 hm).1
      rw [out _ (by omega)]
      exact (h.wd j y hj hy).vs m v hm
theorem OutB.put {w : World} {q len : Nat} {L : List Bool} (h : OutB w q len len L) (hl : L.length = len) {i : Nat} (hi : i < len) (x : Bool) : OutB (w.setCell ⟨q, i, none⟩ (.bool x)) q len len (L.set i x) := by
  have inn : (w.setCell ⟨q, i, none⟩ (.bool x)).cell? ⟨q, i, none⟩ = some (.bool x) := World.cell?_setCells_in q [.bool x] i w (fun j hj => by
    simp at hj
    subst hj
    exact h.has i hi) 0 (by simp)
  have out : ∀ c, c ≠ i → (w.setCell ⟨q, i, none⟩ (.bool x)).cell? ⟨q, c, none⟩ = w.cell? ⟨q, c, none⟩ := fun c hc =>
    World.cell?_setCells_out q [.bool x] i w ⟨q, c, none⟩ (fun _ _ => by simp; omega)
  refine ⟨by rw [World.size_setCell]; exact h.lt, fun c hc => ?_, fun c hc => ?_, fun j y hj hy => ?_⟩
  · by_cases hci : c = i
    · subst hci; rw [inn]; rfl
    · rw [out c hci]; exact h.has c hc
  · have := World.frozen?_setCells (w := w) q [.bool x] i ⟨q, c, none⟩
    exact this.trans (h.fr c hc)
  · by_cases hji : j = i
    · subst hji
      rw [List.getElem?_set_self (by omega)] at hy
      obtain rfl : x = y := Option.some.inj hy
      exact inn
    · rw [List.getElem?_set_ne (fun e => hji e.symm)] at hy
      rw [out j hji]; exact h.wd j y hj hy

theorem flatW_get : ∀ {L : List Wd} {j m : Nat} {x : Wd} {u : Value}, L[j]? = some x → x.vs[m]? = some u → (L.flatMap Wd.vs)[j * 6 + m]? = some u
  | [], j, m, x, u, h, _ => by simp at h
  | y :: L, 0, m, x, u, h, hm => by
    simp at h
    subst h
    have h6 : m < y.vs.length := (List.getElem?_eq_some_iff.1 hm).1
    rw [List.flatMap_cons, Nat.zero_mul, Nat.zero_add, List.getElem?_append_left h6]
    exact hm
  | y :: L, j + 1, m, x, u, h, hm => by
    have ih := flatW_get (L := L) (j := j) (by simpa using h) hm
    have hl : y.vs.length = 6 := rfl
    rw [List.flatMap_cons, List.getElem?_append_right (by rw [hl]; omega), hl, show (j + 1) * 6 + m - 6 = j * 6 + m by omega]
    exact ih
theorem flatW_len : ∀ L : List Wd, (L.flatMap Wd.vs).length = L.length * 6
  | [] => rfl
  | y :: L => by
    have hl : y.vs.length = 6 := rfl
    rw [List.flatMap_cons, List.length_append, hl, flatW_len L, List.length_cons]
    omega
theorem flatW_one (L : List Wd) : ∀ u ∈ L.flatMap Wd.vs, u.oneCell' = true := by
  intro u hu
  obtain ⟨x, _, hx⟩ := List.mem_flatMap.1 hu
  simp only [Wd.vs, List.mem_cons, List.not_mem_nil, or_false] at hx
  rcases hx with rfl | rfl | rfl | rfl | rfl | rfl <;> rfl
/-- Bools as values. -/
def bls (G : List Bool) : List Value := G.map .bool
theorem bls_one (G : List Bool) : ∀ u ∈ bls G, u.oneCell' = true := by
  intro u hu
  obtain ⟨x, _, rfl⟩ := List.mem_map.1 hu
  rfl
/-- The cells of a slice of words, one by one. -/
theorem SliceW.flat {B : Nat} {w : World} {k o len : Nat} {L : List Wd} (h : SliceW B w (some ⟨k, o, none⟩) len L) : ∀ j u, (L.flatMap Wd.vs)[j]? = some u → w.cell? ((⟨k, o, none⟩ : Addr).add j) = some u := by
  intro j u hj
  rw [Go.WideShapes.add_plain]
  have hlen := (List.getElem?_eq_some_iff.1 hj).1
  rw [flatW_len, h.2.1] at hlen
  obtain ⟨k', o', x, ha, _, hx, hat⟩ := h.at (j := j / 6) (by omega)
  simp only [Option.some.injEq, Addr.mk.injEq, and_true] at ha
  obtain ⟨rfl, rfl⟩ := ha
  have hm : ∃ u', x.vs[j % 6]? = some u' := ⟨x.vs[j % 6]'(by show j % 6 < 6; omega), List.getElem?_eq_getElem _⟩
  obtain ⟨u', hu'⟩ := hm
  have h1 := flatW_get hx hu'
  rw [show j / 6 * 6 + j % 6 = j by omega, hj] at h1
  obtain rfl := Option.some.inj h1
  have := hat.vs (j % 6) u hu'
  rwa [show o + j / 6 * 6 + j % 6 = o + j by omega] at this
theorem SliceB.flat {B : Nat} {w : World} {k o len : Nat} {L : List Bool} (h : SliceB B w (some ⟨k, o, none⟩) len L) : ∀ j u, (bls L)[j]? = some u → w.cell? ((⟨k, o, none⟩ : Addr).add j) = some u := by
  intro j u hj
  rw [Go.WideShapes.add_plain]
  simp only [bls, List.getElem?_map, Option.map_eq_some_iff] at hj
  obtain ⟨x, hx, rfl⟩ := hj
  have hlt := (List.getElem?_eq_some_iff.1 hx).1
  rw [h.2.1] at hlt
  obtain ⟨k', o', y, ha, _, hy, hc⟩ := h.at hlt
  simp only [Option.some.injEq, Addr.mk.injEq, and_true] at ha
  obtain ⟨rfl, rfl⟩ := ha
  rw [hx] at hy
  obtain rfl := Option.some.inj hy
  exact hc
/-- A row of words that is owned may be written. -/
theorem own_outW {w : World} {base : Nat} {v : Value} {L : List Wd} (h : w.ownsRow base 28 6 v L.length (L.flatMap Wd.vs)) (h0 : 0 < L.length) :
    ∃ g cap, v = .slice (some ⟨g, 0, none⟩) L.length cap ∧ base ≤ g ∧ L.length ≤ cap ∧ OutW w g L.length L.length L := by
  rcases h.2 with ⟨_, hz⟩ | ⟨g, cap, cur, hv, hb, hg, hn, hm, hs, ht⟩
  · omega
  · have hc : ∀ j u, (L.flatMap Wd.vs)[j]? = some u → w.cell? ⟨g, j, none⟩ = some u := fun j u hj => by
      have := h.cells (g := g) (by rw [hv]; rfl) j u hj
      rwa [Go.WideShapes.add_plain, Nat.zero_add] at this
    refine ⟨g, cap, hv, hb, hn, (Array.getElem?_eq_some_iff.1 hg).1, fun i hi => ?_, fun i _ => by simp [World.frozen?, hg], fun j x _ hx => WordAt.of_vs fun m u hm => hc _ _ (flatW_get hx hm)⟩
    have hl : i < (L.flatMap Wd.vs).length := by rw [flatW_len]; exact hi
    rw [hc i _ (List.getElem?_eq_getElem hl)]
    rfl
theorem own_outB {w : World} {base : Nat} {v : Value} {L : List Bool} (h : w.ownsRow base 4 1 v L.length (bls L)) (h0 : 0 < L.length) :
    ∃ g cap, v = .slice (some ⟨g, 0, none⟩) L.length cap ∧ base ≤ g ∧ L.length ≤ cap ∧ OutB w g L.length L.length L := by
  rcases h.2 with ⟨_, hz⟩ | ⟨g, cap, cur, hv, hb, hg, hn, hm, hs, ht⟩
  · omega
  · have hc : ∀ j x, L[j]? = some x → w.cell? ⟨g, j, none⟩ = some (.bool x) := fun j x hj => by
      have := h.cells (g := g) (by rw [hv]; rfl) j (.bool x) (by simp [bls, hj])
      rwa [Go.WideShapes.add_plain, Nat.zero_add] at this
    refine ⟨g, cap, hv, hb, hn, (Array.getElem?_eq_some_iff.1 hg).1, fun i hi => ?_, fun i _ => by simp [World.frozen?, hg], fun j x _ hx => hc j x hx⟩
    rw [hc i _ (List.getElem?_eq_getElem hi)]
    rfl
end Go.Proofs.YtneohabkoighcaaGreat
