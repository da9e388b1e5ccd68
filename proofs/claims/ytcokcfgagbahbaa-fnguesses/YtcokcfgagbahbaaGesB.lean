/- The map that learntIn makes; the keys of a map, sorted, by the library's contracts; the list that told makes of a map. No condition but that there are no more places than a list of the laws may have. -/
import Derived.Test.YtcokcfgagbahbaaGesA
import Derived.Test.YtcokcfgagbahbaaLaysg
import Derived.Test.YtcokcfgagbahbaaTakeOn
namespace Go.Proofs.Ytcokcfgagbahbaa
open Go.ChangeShapes Go.WideShapes Go.ChangeAt Go.RowKit Go.Maps Go.Sort Go.Shelf
set_option maxRecDepth 100000

/-- A map in a block. -/
def ownF (b n : Nat) (D : DataW Unit) : Fct where
  S := fun k => k = b
  p := fun w => w.ownsMap Try.prog 3 (plainElem Try.prog 3) b n D
  keep := fun w w' h _ hb => by
    have hlt := h.lt
    obtain ⟨es, clock, hm, r⟩ := h
    exact ⟨es, clock, (hb b hlt rfl).trans hm, r⟩
theorem Hold.own {w0 w : World} {fs : List Fct} (h : Hold w0 w fs) {b n : Nat} {D : DataW Unit} (hm : ownF b n D ∈ fs) : w.ownsMap Try.prog 3 (plainElem Try.prog 3) b n D := h.at hm
theorem RoomN.ofBlock {w w' : World} {g n cap : Nat} {L : List Int} (h : RoomN w g n cap L) (e : w'.heap[g]? = w.heap[g]?) : RoomN w' g n cap L := by
  refine ⟨h.own.1, ?_⟩
  rcases h.own.2 with ⟨hv, _⟩ | ⟨g', cap', cur, hv, hb, hg, r⟩
  · cases hv
  · cases hv
    exact .inr ⟨g, cap, cur, rfl, hb, e.trans hg, r⟩
/-- A list of ints of a call's own, with room. -/
def roomF (g n cap : Nat) (L : List Int) : Fct where
  S := fun k => k = g
  p := fun w => RoomN w g n cap L
  keep := fun _ _ h _ hb => h.ofBlock (hb g h.lt rfl)
theorem Hold.room {w0 w : World} {fs : List Fct} (h : Hold w0 w fs) {g n cap : Nat} {L : List Int} (hm : roomF g n cap L ∈ fs) : RoomN w g n cap L := h.at hm
/-- A list of ints that is read alone. -/
def sloF (a : Option Addr) (n : Nat) (L : List Int) : Fct where
  S := fun k => On a k
  p := fun w => SliceN w.heap.size w a n L
  keep := fun w w' h hs hb => by
    refine ⟨h.1, h.2.1, ?_⟩
    rcases h.2.2 with h0 | ⟨k, o, ha, hk, hc⟩
    · exact .inl h0
    · exact .inr ⟨k, o, ha, by omega, fun j x hj => (World.cell?_of_block (hb k hk ⟨_, ha, rfl⟩)).trans (hc j x hj)⟩
theorem Hold.slo {w0 w : World} {fs : List Fct} (h : Hold w0 w fs) {a : Option Addr} {n : Nat} {L : List Int} (hm : sloF a n L ∈ fs) : SliceN w.heap.size w a n L := h.at hm
theorem KeptS.ofGrown {q : Nat} {w w' : World} (h : w.grownBy w' (some q)) : KeptS (fun k => k = q) w w' := ⟨h.os, h.tape, h.output, h.size, fun k hk ht => h.block k hk fun e => ht (by injection e)⟩

theorem makeMap_hint (w : World) (n : Int) : (Instr.makeMap 54 (some (.int .i64 n))).run Try.prog w = .ok (.map (some w.heap.size)) (w.alloc (.map #[] 0)) := by
  simp [Instr.makeMap, run_underlying Try.underlying54, asInt, asIntOf, Result.andThen]

set_option maxHeartbeats 4000000 in
theorem learntIn_any (a : Option Addr) (len cap : Nat) (L : List Int) (w : World) (hl : len ≤ 1048576) (hS : SliceN w.heap.size w a len L) (hW : ∀ x ∈ L, (Lit.int .i64 x).wf = true) :
    Calls Try.prog 31 #[.slice a len cap] w fun e w' => ∃ b D, e = .returned (.map (some b)) ∧ w.heap.size ≤ b ∧ w'.ownsMap Try.prog 3 (plainElem Try.prog 3) b len D ∧ MapG D (gE L) ∧ Below w.heap.size w w' := by
  have S : Hid (SliceN w.heap.size w a len L) := hS
  have hL := hid_mk hS.2.1
  have HW := hid_mk hW
  have hmm := makeMap_hint w (len : Int)
  clear hS hW
  go_enter Try.func31, Try.ntmps31
  go_wp2
  clear hmm
  go_loopw [13] (fun c wr => ∃ k : Nat, k ≤ len ∧ c = .int .i64 k ∧ ∃ D : DataW Unit, Hid (wr.ownsMap Try.prog 3 (plainElem Try.prog 3) w.heap.size k D) ∧ Hid (MapG D (gK L k)) ∧ Hid (Below w.heap.size w wr)) (fun c _ => len - (RowKit.intOf c).toNat)
  case atStart => exact ⟨0, Nat.zero_le _, rfl, .map [], World.ownsMap_made _ _ _ _, MapG.empty.congr fun x => by unfold gK; rw [if_neg (by omega)], (Below.refl _ _).alloc (Nat.le_refl _) _⟩
  case round =>
    obtain ⟨k, hk, rfl, D, O, G, B⟩ := hrel
    by_cases hlt : k < len
    · obtain ⟨kb, o, x, rfl, hkb, hx, d0⟩ := (S.out.keep B.out).at hlt
      have hwx := HW.out x (List.mem_of_getElem? hx)
      have hwk : (Lit.int .i64 (k : Int)).wf = true := WalkArith.wf_i64 (by omega)
      have G2 := hid_mk ((G.out.put (k : Int) x).congr (gK_step hx))
      clear hx
      go_wp2_with (at_mapUpdate; refine wpList_mapUpdate_own _ rfl _ _ _ 54 rfl 3 3 lawI Try.underlying54 (plainElem Try.prog 3) w.heap.size k D rfl O.out (by unfold maxLen; omega) _ _ _ rfl rfl (keyOf_int_mk Try.underlying3 hwk) _ [] (plainElem_int Try.underlying3 hwx) ?_; intro w1 hO1 hg1)
      go_roundw
      case rel => exact ⟨k + 1, hlt, by go_num, _, hO1, G2.out, B.out.grown hg1 B.out.size (fun j hj => by cases hj; exact Nat.le_refl _)⟩
      case measure => simp [RowKit.intOf]; omega
    · obtain rfl : k = len := by omega
      have G1 : Hid (MapG D (gK L L.length)) := by rw [hL.out]; exact G.out
      clear G S HW
      go_wp2_with (at_range; refine wpList_range_own _ rfl _ 54 rfl 3 3 lawI Try.underlying54 (plainElem Try.prog 3) w.heap.size k D rfl O.out ?_; intro w0 hrg0 hg0 hs0)
      go_frame
      have B0 := hid_mk (B.out.grown hg0 B.out.size (fun j hj => by cases hj))
      have zr := B.out.size
      obtain ⟨r, hr⟩ : ∃ r, r = wr.heap.size := ⟨_, rfl⟩
      rw [← hr] at hrg0 ⊢
      have hr1 : w.heap.size ≤ r := by omega
      have RG := hid_mk hrg0
      clear hrg0 hg0 hs0 hr B O zr
      go_loopw [24] (fun _ wx => ∃ (left : Lit → Bool) (cnt : Nat) (D1 : DataW Unit), Hid (wx.ranges Try.prog 3 (plainElem Try.prog 3) w.heap.size r k D1 left cnt) ∧ Hid (MapG D1 (gS L left)) ∧ Hid (∀ x, left (kI x) = true → (gK L L.length x).isSome = true) ∧ Hid (Below w.heap.size w wx)) (fun _ wx => wx.rangeLeft w.heap.size r)
      case atStart => exact ⟨_, _, D, RG.out, G1.out.congr (gS_start G1.out), fun x hx => by rw [← G1.out.has x]; exact hx, B0.out⟩
      case round =>
        clear RG B0
        obtain ⟨left, cnt, D1, RG, G2, HL, B⟩ := hrel
        have hrg := RG.out
        go_wp2_with (at_next; refine wpList_next_ranges_ii _ rfl _ rfl 3 3 .i64 .i64 lawI Try.underlying3 Try.underlying3 w.heap.size r k _ _ _ rfl hrg ?_ ?_)
        · intro _ hl0
          have O := hid_mk RG.out.owns
          have G3 := hid_mk (G2.out.congr (gS_end hl0))
          clear hrg RG hl0
          go_wp2
          go_ret
          exact ⟨_, _, rfl, Nat.le_refl _, O.out, G3.out, B.out⟩
        · intro x c w1 cnt1 hwx hwc hlx hat hrg1 hlt2 hg1 hs1 hen
          have hgx := gS_at G2.out HL.out hlx hat
          have B1 := hid_mk (B.out.grown hg1 B.out.size (fun j hj => by cases hj; exact hr1))
          have HL1 : Hid (∀ y, (fun z => left z && !z.sameKey (kI x)) (kI y) = true → (gK L L.length y).isSome = true) := fun y hy => HL.out y (by simp only [Bool.and_eq_true] at hy; exact hy.1)
          have RG1 := hid_mk hrg1
          have e0 := hid_mk hrg.left_eq
          have hgx := hid_mk hgx
          clear hrg RG hat hlx hg1 hs1 hrg1
          by_cases hc : c = -1
          · subst hc
            have G3 := hid_mk ((G2.out.del x).congr (gS_struck hgx.out))
            have hrg1 := RG1.out
            go_wp2_with (at_delete; refine wpList_delete_ranges _ rfl _ _ 54 3 rfl 3 lawI Try.underlying54 (plainElem Try.prog 3) w.heap.size r k _ _ _ rfl hrg1 _ _ rfl (keyOf_int_mk Try.underlying3 hwx) ?_; intro w2 cnt2 hrg2 hle hturn; go_frame)
            rw [strike_twice] at hrg2
            go_roundw
            case rel => exact ⟨_, cnt2, _, hrg2, G3.out, HL1.out, B1.out.grown hturn.grown B1.out.size (fun j hj => by cases hj; exact Nat.le_refl _)⟩
            case measure => rw [hrg2.left_eq, e0.out]; omega
          · have G3 := hid_mk (G2.out.congr (gS_stays hgx.out hc))
            have hcb : (c == -1) = false := by simpa using hc
            go_wp2
            go_roundw
            case rel => exact ⟨_, cnt1, _, RG1.out, G3.out, HL1.out, B1.out⟩
            case measure => rw [RG1.out.left_eq, e0.out]; exact hlt2
end Go.Proofs.Ytcokcfgagbahbaa
