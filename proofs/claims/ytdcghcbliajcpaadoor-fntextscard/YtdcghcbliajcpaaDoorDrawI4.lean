/- DrawCodeOk: it returns a list of places, in new memory, and turns nothing that was there. -/
import Derived.Test.YtdcghcbliajcpaaDoorDrawI3
namespace Go.Proofs.YtdcghcbliajcpaaDoor
open Go.ChangeShapes Go.WideShapes Go.ChangeAt Go.RowKit

/-- How long a slice is. -/
def lenV : Value → Nat
  | .slice _ n _ => n
  | _ => 0

/-- Places in a block from its first cell on, of which one is written anew. -/
theorem row_set {w : World} {g : Nat} {L : List In} (h : ∀ j x, L[j]? = some x → InsAt w g (j * 5) x) {i : Nat} (hi : i < L.length) (y : In) :
    ∀ j x, (L.set i y)[j]? = some x → InsAt (w.setCells g (i * 5) y.vs) g (j * 5) x := by
  have hl : y.vs.length = 5 := rfl
  have h0 := (h i L[i] (List.getElem?_eq_getElem hi)).vs
  have out : ∀ c, (c < i * 5 ∨ i * 5 + 5 ≤ c) → (w.setCells g (i * 5) y.vs).cell? ⟨g, c, none⟩ = w.cell? ⟨g, c, none⟩ := fun c hc =>
    World.cell?_setCells_out g y.vs (i * 5) w ⟨g, c, none⟩ (fun _ _ => by rw [hl]; exact hc)
  have inn : ∀ m (hm : m < y.vs.length), (w.setCells g (i * 5) y.vs).cell? ⟨g, i * 5 + m, none⟩ = some y.vs[m] :=
    World.cell?_setCells_in g y.vs (i * 5) w (fun m hm => by
      rw [hl] at hm
      have hv : L[i].vs[m]? = some L[i].vs[m] := List.getElem?_eq_getElem hm
      rw [h0 m _ hv]; rfl)
  intro j x hj
  by_cases hji : j = i
  · subst hji
    rw [List.getElem?_set_self hi] at hj
    obtain rfl : y = x := Option.some.inj hj
    refine InsAt.of_vs fun m v hm => ?_
    obtain ⟨hm5, rfl⟩ := List.getElem?_eq_some_iff.1 hm
    exact inn m hm5
  · rw [List.getElem?_set_ne (fun he => hji he.symm)] at hj
    refine InsAt.of_vs fun m v hm => ?_
    have hm5 : m < 5 := (List.getElem?_eq_some_iff.1 hm).1
    rw [out _ (by omega)]
    exact (h j x hj).vs m v hm

/-- A list that is owned lies in one block, from its first cell on, and may be written. -/
theorem own_row {w : World} {base g cp : Nat} {L : List In} (h : w.ownsRow base 25 5 (.slice (some ⟨g, 0, none⟩) L.length cp) L.length (L.flatMap In.vs)) :
    g < w.heap.size ∧ base ≤ g ∧ L.length ≤ cp ∧ (∀ j x, L[j]? = some x → InsAt w g (j * 5) x) ∧ (∀ i, w.frozen? ⟨g, i, none⟩ = false) := by
  rcases h.2 with ⟨h0, _⟩ | ⟨g', cap, cur, hv, hb, hg, hn, hm, hs, ht⟩
  · cases h0
  · simp only [Value.slice.injEq, Option.some.injEq, Addr.mk.injEq] at hv
    obtain ⟨⟨rfl, _, _⟩, _, rfl⟩ := hv
    refine ⟨(Array.getElem?_eq_some_iff.1 hg).1, hb, hn, fun j x hj => InsAt.of_vs fun m u hm => ?_, fun i => ?_⟩
    · have hc := h.cells (g := g) rfl (j * 5 + m) u (flat_getI hj hm)
      rw [Go.WideShapes.add_plain, Nat.zero_add] at hc
      exact hc
    · simp [World.frozen?, hg]

/-- The same, as a slice of its first k. -/
theorem row_slice {w : World} {g k : Nat} {L : List In} (h : ∀ j x, L[j]? = some x → InsAt w g (j * 5) x) (hg : g < w.heap.size) (hk : k ≤ L.length) (hl : L.length ≤ 1000) : SliceI w.heap.size w (some ⟨g, 0, none⟩) k (L.take k) :=
  ⟨by unfold maxLen; omega, by rw [List.length_take]; omega, .inr ⟨g, 0, rfl, hg, fun j x hj => by
    rw [Nat.zero_add]
    rw [List.getElem?_take] at hj
    split at hj
    · exact h j x hj
    · cases hj⟩⟩

set_option maxRecDepth 100000 in
set_option maxHeartbeats 4000000 in
theorem drawCodeOk_any {w : World} {ad : Option Addr} {len cap : Nat} (hc : Code8 w.heap.size w ad len) :
    Calls Tryd.prog 47 #[.slice ad len cap] w fun e w' => ∃ (a : Option Addr) (m c : Nat) (L : List In), e = .returned (.slice a m c) ∧ SliceI w'.heap.size w' a m L ∧ Below w.heap.size w w' := by
  have C := hid_mk hc
  clear hc
  go_enter Tryd.func47, Tryd.ntmps47
  go_wp2_with fail
  refine (d_new C.out).mono ?_
  rintro e w1 ⟨rfl, d1, b1⟩
  have D1 := hid_mk d1
  have B1 := hid_mk b1
  clear d1 b1 C
  go_wp2_with fail
  refine (d_code D1.out).mono ?_
  rintro e w2 ⟨v, L, rfl, l2, hL1, hL2⟩
  obtain ⟨g, cp, rfl, hg1, hg2, hcp⟩ : ∃ g cp, v = .slice (some ⟨g, 0, none⟩) L.length cp ∧ w1.heap.size ≤ g ∧ (∃ cur, w2.heap[g]? = some (.cells cur 25 (0, 0))) ∧ L.length ≤ cp := by
    rcases l2.own.2 with ⟨_, h0⟩ | ⟨g, cp, cur, rfl, hb, hg, hn, hm, hs, ht⟩
    · omega
    · exact ⟨g, cp, rfl, hb, ⟨cur, hg⟩, hn⟩
  have L2 := hid_mk l2
  clear l2 D1 hg2
  go_wp2_with fail
  refine (d_below L.length L2.out.d).mono ?_
  rintro e w3 ⟨i, rfl, _, hi, d3, k3⟩
  obtain ⟨i0, i1⟩ := hi (by omega)
  have L3 := hid_mk (L2.out.moved d3 k3)
  clear d3 k3 L2 hi
  obtain ⟨k, rfl⟩ : ∃ k : Nat, i = k := ⟨i.toNat, by omega⟩
  go_wp2_with fail
  refine (d_below 6 L3.out.d).mono ?_
  rintro e w4 ⟨x, rfl, _, _, d4, k4⟩
  have L4 := hid_mk (L3.out.moved d4 k4)
  clear d4 k4 L3
  go_upto_block 0 with fail
  go_cut [4] (fun v wx => ∃ (a : Option Addr) (m c : Nat) (L : List In), v = .slice a m c ∧ Hid (SliceI wx.heap.size wx a m L) ∧ Hid (Below w.heap.size w wx))
  case first =>
    cases g0 : (x == 0)
    · cases g1 : (x == 1)
      · cases g2 : (x == 2)
        · obtain ⟨hgl, _, _, hrow, _⟩ := own_row L4.out.own
          have S4 := hid_mk (row_slice hrow hgl (Nat.le_refl _) (by omega))
          clear hgl hrow
          go_wp2
          go_meet
          case rel => exact ⟨_, _, _, _, rfl, S4.out, B1.out.trans (L4.out.kb.below (Nat.le_refl _) B1.out.size)⟩
        · obtain ⟨i0, hi, hz0, hz1, hz2⟩ := info_parts infoI
          have HI : Hid _ := hi
          have HZ0 : Hid _ := hz0
          have HZ1 : Hid _ := hz1
          have HZ2 : Hid _ := hz2
          clear hi hz0 hz1 hz2
          go_wp2
          go_loopw [4] (fun v wr => ∃ L : List In, L.length ≤ 49 ∧ Hid (LstI w1 w.heap.size w.heap.size ad len cap v L wr)) (fun v _ => 49 - lenV v)
          case atStart => exact ⟨L, by omega, L4.out⟩
          case round =>
            clear L4
            obtain ⟨L, hL, l4⟩ := hrel
            obtain ⟨ad', cp', hv', _⟩ := owns_sliceI l4.out.own
            subst hv'
            go_wp2_with fail
            refine (d_below 2 l4.out.d).mono ?_
            rintro e w5 ⟨y, rfl, _, hy, d5, k5⟩
            obtain ⟨y0, y1⟩ := hy (by omega)
            have l5 := hid_mk (l4.out.moved d5 k5)
            clear d5 k5 l4 hy
            by_cases hlt : (L.length : Int) < 48 + y
            · have la := hid_mk (l5.out.alloc (.cells #[.int .i64 15, .int .i64 0, .int .i64 0, .int .i64 0, .int .i64 0] 25))
              go_wp2_with (first
                | (at_builtin; refine wpList_append_own _ rfl _ _ 32 rfl w1.heap.size 25 i0 _ 5 40 Tryd.underlying32 HI.out HZ0.out HZ1.out HZ2.out rfl (by decide) _ _ _ rfl la.out.own ⟨w5.heap.size, 0, none⟩ 1 1 (List.flatMap In.vs [⟨15, 0, 0, 0, 0⟩]) rfl (flat_lenI _) ?c1 (flat_one _) ?c3 ?c4 ?c5 ?_))
              case c1 => exact fun j u hj => new_cells _ _ _ j u hj
              case c3 => unfold maxLen; omega
              case c4 => omega
              case c5 => exact la.out.kb.size
              intro v' w6 own6 grow6 _
              have l9 := hid_mk (la.out.appended (X := [⟨15, 0, 0, 0, 0⟩]) own6 grow6)
              clear own6 grow6 la
              obtain ⟨ad2, cp2, hv2, _⟩ := owns_sliceI l9.out.own
              subst hv2
              go_wp2
              go_roundw
              case rel => exact ⟨_, by rw [List.length_append, List.length_singleton]; omega, l9.out⟩
              case measure => simp [lenV]; omega
            · obtain ⟨_, _, hv2, hS⟩ := owns_sliceI l5.out.own
              have S5 := hid_mk hS
              have HV := hid_mk hv2
              clear hS hv2
              go_wp2
              go_meet
              case rel =>
                have h2 := HV.out
                simp only [Value.slice.injEq] at h2
                exact ⟨_, _, _, _, rfl, by rw [h2.1]; exact S5.out, B1.out.trans (l5.out.kb.below (Nat.le_refl _) B1.out.size)⟩
      · obtain ⟨hgl, _, _, hrow, _⟩ := own_row L4.out.own
        have S4 := hid_mk (row_slice hrow hgl (k := k) (by omega) (by omega))
        clear hgl hrow
        go_wp2
        go_meet
        case rel => exact ⟨_, _, _, _, rfl, S4.out, B1.out.trans (L4.out.kb.below (Nat.le_refl _) B1.out.size)⟩
    · obtain ⟨hgl, _, _, hrow, _⟩ := own_row L4.out.own
      have hkl : k < L.length := by omega
      have hat := hrow k L[k] (List.getElem?_eq_getElem hkl)
      generalize L[k] = p at hat
      obtain ⟨d0, d1, d2, d3, d4⟩ := hat
      clear hrow
      go_wp2_with fail
      refine (d_spoil p.o p.r p.a p.b p.n L4.out.d).mono ?_
      rintro e w5 ⟨o', r', a', b', n', rfl, d5, k5⟩
      have L5 := hid_mk (L4.out.moved d5 k5)
      clear d5 k5 L4 d0 d1 d2 d3 d4 hgl
      obtain ⟨hgl, _, _, hrow, hfr⟩ := own_row L5.out.own
      have R5 := hid_mk (row_set hrow hkl ⟨o', r', a', b', n'⟩)
      have hat := hrow k L[k] (List.getElem?_eq_getElem hkl)
      generalize L[k] = p at hat
      obtain ⟨d0, d1, d2, d3, d4⟩ := hat
      have f0 := hfr (k * 5)
      have f1 := hfr (k * 5 + 1)
      have f2 := hfr (k * 5 + 2)
      have f3 := hfr (k * 5 + 3)
      have f4 := hfr (k * 5 + 4)
      clear hrow hfr
      go_wp2
      go_meet
      case rel =>
        have hwg : w.heap.size ≤ g := Nat.le_trans B1.out.size hg1
        have hlk : L.length = (L.set k ⟨o', r', a', b', n'⟩).length := by simp
        have hsz : g < (w5.setCells g (k * 5) (In.vs ⟨o', r', a', b', n'⟩)).heap.size := by simp only [In.vs, World.setCells, World.size_setCell]; exact hgl
        refine ⟨some ⟨g, 0, none⟩, L.length, cp, (L.set k ⟨o', r', a', b', n'⟩).take L.length, rfl, ?_, ?_⟩
        · exact row_slice R5.out hsz (by rw [← hlk]; exact Nat.le_refl _) (by rw [← hlk]; omega)
        · have K5 : Below w.heap.size w w5 := B1.out.trans (L5.out.kb.below (Nat.le_refl _) B1.out.size)
          exact ((((K5.setCell (p := ⟨g, k * 5, none⟩) hwg _).setCell (p := ⟨g, k * 5 + 1, none⟩) hwg _).setCell (p := ⟨g, k * 5 + 2, none⟩) hwg _).setCell (p := ⟨g, k * 5 + 3, none⟩) hwg _).setCell (p := ⟨g, k * 5 + 4, none⟩) hwg _
  case rest =>
    clear L4
    obtain ⟨a, m, c, L', rfl, S5, B5⟩ := hcut
    go_wp2
    go_ret
    exact ⟨_, _, _, _, rfl, S5.out, B5.out⟩
end Go.Proofs.YtdcghcbliajcpaaDoor
