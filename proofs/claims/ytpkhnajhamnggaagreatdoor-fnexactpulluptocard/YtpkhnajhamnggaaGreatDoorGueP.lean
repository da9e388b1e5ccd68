/- Guess of the program and of the specification: what they answer, in a seat that has no told. No condition but that there are no more places than a list of the laws may have, and that the numbers are ints. -/
import Derived.Test.YtpkhnajhamnggaaGreatDoorYD
import Derived.Test.YtpkhnajhamnggaaGreatDoorZA
import Derived.Test.YtpkhnajhamnggaaGreatDoorIFive
import Derived.Test.YtpkhnajhamnggaaGreatDoorZG
namespace Go.Proofs.YtpkhnajhamnggaaGreatDoor
open Go.ChangeShapes Go.WideShapes Go.ChangeAt Go.RowKit Go.Maps
set_option maxRecDepth 100000

/-- A map in a block. -/
def ownF (b n : Nat) (D : DataW Unit) : Fct where
  S := fun k => k = b
  p := fun w => w.ownsMap Tryz.prog 3 (plainElem Tryz.prog 3) b n D
  keep := fun w w' h _ hb => by
    have hlt := h.lt
    obtain ⟨es, clock, hm, r⟩ := h
    exact ⟨es, clock, (hb b hlt rfl).trans hm, r⟩
theorem Hold.own {w0 w : World} {fs : List Fct} (h : Hold w0 w fs) {b n : Nat} {D : DataW Unit} (hm : ownF b n D ∈ fs) : w.ownsMap Tryz.prog 3 (plainElem Tryz.prog 3) b n D := h.at hm
theorem RoomN.ofBlock {w w' : World} {g n cap : Nat} {L : List Int} (h : RoomN w g n cap L) (e : w'.heap[g]? = w.heap[g]?) : RoomN w' g n cap L := by
  refine ⟨h.own.1, ?_⟩
  rcases h.own.2 with ⟨hv, _⟩ | ⟨g', cap', cur, hv, hb, hg, r⟩
  · cases hv
  · cases hv
    exact .inr ⟨g, cap, cur, rfl, hb, e.trans hg, r⟩
/-- A list of ints of a call's own, with room. -/
def roomF (g n cap : Nat) (L : List Int) : Fct where
  S := fun k => k = g
  p := fun w => RoomN w g n cap L
  keep := fun _ _ h _ hb => h.ofBlock (hb g h.lt rfl)
theorem Hold.room {w0 w : World} {fs : List Fct} (h : Hold w0 w fs) {g n cap : Nat} {L : List Int} (hm : roomF g n cap L ∈ fs) : RoomN w g n cap L := h.at hm
/-- A list of ints that is read alone. -/
def sloF (a : Option Addr) (n : Nat) (L : List Int) : Fct where
  S := fun k => On a k
  p := fun w => SliceN w.heap.size w a n L
  keep := fun w w' h hs hb => by
    refine ⟨h.1, h.2.1, ?_⟩
    rcases h.2.2 with h0 | ⟨k, o, ha, hk, hc⟩
    · exact .inl h0
    · exact .inr ⟨k, o, ha, by omega, fun j x hj => (World.cell?_of_block (hb k hk ⟨_, ha, rfl⟩)).trans (hc j x hj)⟩
theorem Hold.slo {w0 w : World} {fs : List Fct} (h : Hold w0 w fs) {a : Option Addr} {n : Nat} {L : List Int} (hm : sloF a n L ∈ fs) : SliceN w.heap.size w a n L := h.at hm
theorem KeptS.ofGrown {q : Nat} {w w' : World} (h : w.grownBy w' (some q)) : KeptS (fun k => k = q) w w' := ⟨h.os, h.tape, h.output, h.size, fun k hk ht => h.block k hk fun e => ht (by injection e)⟩

theorem makeMap_hint (w : World) (n : Int) : (Instr.makeMap 143 (some (.int .i64 n))).run Tryz.prog w = .ok (.map (some w.heap.size)) (w.alloc (.map #[] 0)) := by
  simp [Instr.makeMap, run_underlying Tryz.underlying143, asInt, asIntOf, Result.andThen]

set_option maxHeartbeats 4000000 in
theorem learntIn_any (a : Option Addr) (len cap : Nat) (L : List Int) (w : World) (hl : len ≤ 1048576) (hS : SliceN w.heap.size w a len L) (hW : ∀ x ∈ L, (Lit.int .i64 x).wf = true) :
    Calls Tryz.prog 113 #[.slice a len cap] w fun e w' => ∃ b D, e = .returned (.map (some b)) ∧ w.heap.size ≤ b ∧ w'.ownsMap Tryz.prog 3 (plainElem Tryz.prog 3) b len D ∧ MapG D (gE L) ∧ Below w.heap.size w w' := by
  have S : Hid (SliceN w.heap.size w a len L) := hS
  have hL := hid_mk hS.2.1
  have HW := hid_mk hW
  have hmm := makeMap_hint w (len : Int)
  clear hS hW
  go_enter Tryz.func113, Tryz.ntmps113
  go_wp2
  clear hmm
  go_loopw [13] (fun c wr => ∃ k : Nat, k ≤ len ∧ c = .int .i64 k ∧ ∃ D : DataW Unit, Hid (wr.ownsMap Tryz.prog 3 (plainElem Tryz.prog 3) w.heap.size k D) ∧ Hid (MapG D (gK L k)) ∧ Hid (Below w.heap.size w wr)) (fun c _ => len - (RowKit.intOf c).toNat)
  case atStart => exact ⟨0, Nat.zero_le _, rfl, .map [], World.ownsMap_made _ _ _ _, MapG.empty.congr fun x => by unfold gK; rw [if_neg (by omega)], (Below.refl _ _).alloc (Nat.le_refl _) _⟩
  case round =>
    obtain ⟨k, hk, rfl, D, O, G, B⟩ := hrel
    by_cases hlt : k < len
    · obtain ⟨kb, o, x, rfl, hkb, hx, d0⟩ := (S.out.keep B.out).at hlt
      have hwx := HW.out x (List.mem_of_getElem? hx)
      have hwk : (Lit.int .i64 (k : Int)).wf = true := WalkArith.wf_i64 (by omega)
      have G2 := hid_mk ((G.out.put (k : Int) x).congr (gK_step hx))
      clear hx
      go_wp2_with (at_mapUpdate; refine wpList_mapUpdate_own _ rfl _ _ _ 143 rfl 3 3 lawI Tryz.underlying143 (plainElem Tryz.prog 3) w.heap.size k D rfl O.out (by unfold maxLen; omega) _ _ _ rfl rfl (keyOf_int_mk Tryz.underlying3 hwk) _ [] (plainElem_int Tryz.underlying3 hwx) ?_; intro w1 hO1 hg1)
      go_roundw
      case rel => exact ⟨k + 1, hlt, by go_num, _, hO1, G2.out, B.out.grown hg1 B.out.size (fun j hj => by cases hj; exact Nat.le_refl _)⟩
      case measure => simp [RowKit.intOf]; omega
    · obtain rfl : k = len := by omega
      have G1 : Hid (MapG D (gK L L.length)) := by rw [hL.out]; exact G.out
      clear G S HW
      go_wp2_with (at_range; refine wpList_range_own _ rfl _ 143 rfl 3 3 lawI Tryz.underlying143 (plainElem Tryz.prog 3) w.heap.size k D rfl O.out ?_; intro w0 hrg0 hg0 hs0)
      go_frame
      have B0 := hid_mk (B.out.grown hg0 B.out.size (fun j hj => by cases hj))
      have zr := B.out.size
      obtain ⟨r, hr⟩ : ∃ r, r = wr.heap.size := ⟨_, rfl⟩
      rw [← hr] at hrg0 ⊢
      have hr1 : w.heap.size ≤ r := by omega
      have RG := hid_mk hrg0
      clear hrg0 hg0 hs0 hr B O zr
      go_loopw [24] (fun _ wx => ∃ (left : Lit → Bool) (cnt : Nat) (D1 : DataW Unit), Hid (wx.ranges Tryz.prog 3 (plainElem Tryz.prog 3) w.heap.size r k D1 left cnt) ∧ Hid (MapG D1 (gS L left)) ∧ Hid (∀ x, left (kI x) = true → (gK L L.length x).isSome = true) ∧ Hid (Below w.heap.size w wx)) (fun _ wx => wx.rangeLeft w.heap.size r)
      case atStart => exact ⟨_, _, D, RG.out, G1.out.congr (gS_start G1.out), fun x hx => by rw [← G1.out.has x]; exact hx, B0.out⟩
      case round =>
        clear RG B0
        obtain ⟨left, cnt, D1, RG, G2, HL, B⟩ := hrel
        have hrg := RG.out
        go_wp2_with (at_next; refine wpList_next_ranges_ii _ rfl _ rfl 3 3 .i64 .i64 lawI Tryz.underlying3 Tryz.underlying3 w.heap.size r k _ _ _ rfl hrg ?_ ?_)
        · intro _ hl0
          have O := hid_mk RG.out.owns
          have G3 := hid_mk (G2.out.congr (gS_end hl0))
          clear hrg RG hl0
          go_wp2
          go_ret
          exact ⟨_, _, rfl, Nat.le_refl _, O.out, G3.out, B.out⟩
        · intro x c w1 cnt1 hwx hwc hlx hat hrg1 hlt2 hg1 hs1 hen
          have hgx := gS_at G2.out HL.out hlx hat
          have B1 := hid_mk (B.out.grown hg1 B.out.size (fun j hj => by cases hj; exact hr1))
          have HL1 : Hid (∀ y, (fun z => left z && !z.sameKey (kI x)) (kI y) = true → (gK L L.length y).isSome = true) := fun y hy => HL.out y (by simp only [Bool.and_eq_true] at hy; exact hy.1)
          have RG1 := hid_mk hrg1
          have e0 := hid_mk hrg.left_eq
          have hgx := hid_mk hgx
          clear hrg RG hat hlx hg1 hs1 hrg1
          by_cases hc : c = -1
          · subst hc
            have G3 := hid_mk ((G2.out.del x).congr (gS_struck hgx.out))
            have hrg1 := RG1.out
            go_wp2_with (at_delete; refine wpList_delete_ranges _ rfl _ _ 143 3 rfl 3 lawI Tryz.underlying143 (plainElem Tryz.prog 3) w.heap.size r k _ _ _ rfl hrg1 _ _ rfl (keyOf_int_mk Tryz.underlying3 hwx) ?_; intro w2 cnt2 hrg2 hle hturn; go_frame)
            rw [strike_twice] at hrg2
            go_roundw
            case rel => exact ⟨_, cnt2, _, hrg2, G3.out, HL1.out, B1.out.grown hturn.grown B1.out.size (fun j hj => by cases hj; exact Nat.le_refl _)⟩
            case measure => rw [hrg2.left_eq, e0.out]; omega
          · have G3 := hid_mk (G2.out.congr (gS_stays hgx.out hc))
            have hcb : (c == -1) = false := by simpa using hc
            go_wp2
            go_roundw
            case rel => exact ⟨_, cnt1, _, RG1.out, G3.out, HL1.out, B1.out⟩
            case measure => rw [RG1.out.left_eq, e0.out]; exact hlt2
theorem look_run {W : World} {b n : Nat} {D : DataW Unit} {g : Int → Option Int} {x v : Int} (hown : W.ownsMap Tryz.prog 3 (plainElem Tryz.prog 3) b n D) (hg : MapG D g) (hx : (Lit.int .i64 x).wf = true) (hv : g x = some v) :
    (Instr.lookup 143 (.map (some b)) (.int .i64 x) false).run Tryz.prog W = .ok (.int .i64 v) W := by
  obtain ⟨c, hrun, hat, _⟩ := hown.lookup_int lawI Tryz.underlying143 Tryz.underlying3 (by kernel_rfl) (keyOf_int_mk Tryz.underlying3 hx)
  rw [hg.at_ x v hv] at hat
  have : kI v = kI c := by injection hat
  have : v = c := by injection this
  rw [this]
  exact hrun
/-- What Guess has for a place: what was learnt, else one more. -/
def gueN (L : List Int) (n : Int) : Int := match gE L n with
  | some v => v
  | none => wrap64 (n + 1)

theorem look_ok {W : World} {b n : Nat} {D : DataW Unit} {g : Int → Option Int} {x v : Int} (hown : W.ownsMap Tryz.prog 3 (plainElem Tryz.prog 3) b n D) (hg : MapG D g) (hx : (Lit.int .i64 x).wf = true) (hv : g x = some v) :
    (Instr.lookup 143 (.map (some b)) (.int .i64 x) true).run Tryz.prog W = .ok (.tuple #[.int .i64 v, .bool true]) W := by
  obtain ⟨c, ps, hrun, hat⟩ := hown.look_ok lawI Tryz.underlying143 (z := .int .i64 0) (by kernel_rfl) (plainElem_int Tryz.underlying3 (by decide)) (keyOf_int_mk Tryz.underlying3 hx)
  rw [hg.at_ x v hv] at hat
  obtain ⟨c', rfl, hc, _⟩ := plainElem_int_inv Tryz.underlying3 hat
  simp only [Prod.mk.injEq] at hc
  have h1 : kI v = kI c' := by have := hc.1; injection this
  have h2 : v = c' := by injection h1
  rw [hrun, hg.has x, hv, h2]
  rfl
theorem look_no {W : World} {b n : Nat} {D : DataW Unit} {g : Int → Option Int} {x : Int} (hown : W.ownsMap Tryz.prog 3 (plainElem Tryz.prog 3) b n D) (hg : MapG D g) (hx : (Lit.int .i64 x).wf = true) (hv : g x = none) :
    (Instr.lookup 143 (.map (some b)) (.int .i64 x) true).run Tryz.prog W = .ok (.tuple #[.int .i64 0, .bool false]) W := by
  obtain ⟨c, ps, hrun, hat⟩ := hown.look_ok lawI Tryz.underlying143 (z := .int .i64 0) (by kernel_rfl) (plainElem_int Tryz.underlying3 (by decide)) (keyOf_int_mk Tryz.underlying3 hx)
  have hh : Maps.has D (kI x) = false := by rw [hg.has x, hv]; rfl
  rw [atKey_of_not_has hh] at hat
  obtain ⟨c', rfl, hc, _⟩ := plainElem_int_inv Tryz.underlying3 hat
  simp only [Prod.mk.injEq] at hc
  have h1 : kI 0 = kI c' := by have := hc.1; injection this
  have h2 : 0 = c' := by injection h1
  rw [hrun, hh, h2]

set_option maxHeartbeats 8000000 in
theorem implGuess_any (a : Option Addr) (len cap : Nat) (L : List Int) (x : Wd) (w : World) (hl : len ≤ 1048576) (hS : SliceN w.heap.size w a len L) (hW : ∀ x ∈ L, (Lit.int .i64 x).wf = true) (hwx : (Lit.int .i64 x.n).wf = true) :
    Calls Tryz.prog 66 #[.slice a len cap, .agg #[.int .i64 x.n, .bool x.i, .int .i64 x.b, .int .i64 x.t, .int .i64 x.p, .int .i64 x.s]] w fun e w' => e = .returned (madeV (gueN L x.n % 65536) (openB x.n x.i x.b x.t x.p x.s) x.b x.t x.p x.s) ∧ Below w.heap.size w w' := by
  have HW := hid_mk hW
  have H := hid_mk (((((Hold.new w).push (sinF w.heap.size a len L) ⟨hS, Nat.le_refl _⟩).alloc (.cells #[.int .i64 x.n, .bool x.i, .int .i64 x.b, .int .i64 x.t, .int .i64 x.p, .int .i64 x.s] 38)).push (celF w.heap.size [.int .i64 x.n, .bool x.i, .int .i64 x.b, .int .i64 x.t, .int .i64 x.p, .int .i64 x.s]) (Cel.new w _ _)).alloc (.cells #[.int .i64 0, .bool false, .int .i64 0, .int .i64 0, .int .i64 0, .int .i64 0] 38))
  have HC := Cel.new (w.alloc (.cells #[.int .i64 x.n, .bool x.i, .int .i64 x.b, .int .i64 x.t, .int .i64 x.p, .int .i64 x.s] 38)) [.int .i64 0, .bool false, .int .i64 0, .int .i64 0, .int .i64 0, .int .i64 0] 38
  rw [World.size_alloc] at HC
  replace H := hid_mk (H.out.push (celF (w.heap.size + 1) [.int .i64 0, .bool false, .int .i64 0, .int .i64 0, .int .i64 0, .int .i64 0]) HC)
  have s2 := fun w => implPoint_any x.n x.i x.b x.t x.p x.s (gueN L x.n) w
  obtain ⟨u0, u1, u2, u3, u4, u5, hV⟩ : ∃ (u0 : Int) (u1 : Bool) (u2 u3 u4 u5 : Int), madeV (gueN L x.n % 65536) (openB x.n x.i x.b x.t x.p x.s) x.b x.t x.p x.s = .agg #[.int .i64 u0, .bool u1, .int .i64 u2, .int .i64 u3, .int .i64 u4, .int .i64 u5] := ⟨_, _, _, _, _, _, rfl⟩
  rw [hV] at s2 ⊢
  clear hS hW HC hV
  generalize hw1 : (w.alloc (.cells #[.int .i64 x.n, .bool x.i, .int .i64 x.b, .int .i64 x.t, .int .i64 x.p, .int .i64 x.s] 38)).alloc (.cells #[.int .i64 0, .bool false, .int .i64 0, .int .i64 0, .int .i64 0, .int .i64 0] 38) = w1 at H
  cases hv : gE L x.n with
  | some v =>
    have HV := hid_mk hv
    have hgu : gueN L x.n = v := by unfold gueN; rw [hv]
    rw [hgu] at s2
    have S2 := hid_mk s2
    clear s2 hgu hv
    go_enter Tryz.func66, Tryz.ntmps66
    go_upto_region 1 with fail
    clear hw1
    have D0 := hid_mk H.out.drew
    refine wp_region_held_drew (S := fun w' => Hold w w' [celF (w.heap.size + 1) [.int .i64 0, .bool false, .int .i64 0, .int .i64 0, .int .i64 0, .int .i64 0], celF w.heap.size [.int .i64 x.n, .bool x.i, .int .i64 x.b, .int .i64 x.t, .int .i64 x.p, .int .i64 x.s]]) (by kernel_rfl) (D0.out.sub (fun f hf => by simp only [List.mem_cons, List.not_mem_nil, or_false] at hf ⊢; rcases hf with rfl | rfl; exact .inl rfl; exact .inr (.inl rfl))) (fun hHeld => ?_)
    generalize w1.drew = wd at D0 hHeld ⊢
    clear H
    refine take_on (i := 0) (d := 8) (v := .slice a len cap) rfl rfl (by kernel_rfl) (by kernel_rfl) (by kernel_rfl) (fun _ _ _ h => h) (by rfl) ?_ hHeld ?_
    · (intro w' hSw; go_simp)
    (try simp only [Act.put]); (try simp only [List.setIfInBounds_toArray]); (try simp only [List.set_cons_succ]); (try simp only [List.set_cons_zero]); (try simp only [List.set_cons_succ]); (try simp only [List.set_cons_zero]); (try simp only [Nat.zero_add])
    refine take_on (i := 2) (d := 10) (v := .pointer (some ⟨w.heap.size, 0, none⟩)) rfl rfl (by kernel_rfl) (by kernel_rfl) (by kernel_rfl) (fun _ _ _ h => h) (by rfl) ?_ hHeld ?_
    · (intro w' hSw; go_simp)
    (try simp only [Act.put]); (try simp only [List.setIfInBounds_toArray]); (try simp only [List.set_cons_succ]); (try simp only [List.set_cons_zero]); (try simp only [List.set_cons_succ]); (try simp only [List.set_cons_zero]); (try simp only [Nat.zero_add])
    refine take_on (i := 3) (d := 11) (v := .int .i64 x.n) rfl rfl (by kernel_rfl) (by kernel_rfl) (by kernel_rfl) (fun _ _ _ h => h) (by rfl) ?_ hHeld ?_
    · (intro w' hSw; have hSx : Hold w w' [celF (w.heap.size + 1) [.int .i64 0, .bool false, .int .i64 0, .int .i64 0, .int .i64 0, .int .i64 0], celF w.heap.size [.int .i64 x.n, .bool x.i, .int .i64 x.b, .int .i64 x.t, .int .i64 x.p, .int .i64 x.s]] := hSw; have c0 := (hSx.cel (.tail _ (.head _))).c 0 _ rfl; go_simp)
    (try simp only [Act.put]); (try simp only [List.setIfInBounds_toArray]); (try simp only [List.set_cons_succ]); (try simp only [List.set_cons_zero]); (try simp only [List.set_cons_succ]); (try simp only [List.set_cons_zero]); (try simp only [Nat.zero_add])
    refine wpAnyH_ready (rs := [1]) (by kernel_rfl) (by simp) ?_
    refine AllReadyH.cons rfl (fun K1 hK => ?_) AllReadyH.nil
    go_simp
    refine (learntIn_any a len cap L _ hl (D0.out.sin (.tail _ (.tail _ (.head _)))) HW.out).mono ?_
    rintro e w2 ⟨b, D, rfl, hb0, hO, hG, hb⟩
    have J := hid_mk ((D0.out.next hb).push (ownF b len D) hO)
    clear hO hb
    refine hK.out _ _ J.out.mid2 (fun hHeld => ?_)
    clear hK K1
    (try simp only [Act.put]); (try simp only [List.setIfInBounds_toArray]); (try simp only [List.set_cons_succ]); (try simp only [List.set_cons_zero]); (try simp only [List.set_cons_succ]); (try simp only [List.set_cons_zero]); (try simp only [Nat.zero_add])
    refine wpAnyH_ready (rs := [4]) (by kernel_rfl) (by simp) ?_
    refine AllReadyH.cons rfl (fun K1 hK => ?_) AllReadyH.nil
    have e0 := look_ok (J.out.own (.head _)) hG hwx HV.out
    go_simp
    clear e0 hG
    refine hK.out _ _ J.out.mid2 (fun hHeld => ?_)
    clear hK K1
    (try simp only [Act.put]); (try simp only [List.setIfInBounds_toArray]); (try simp only [List.set_cons_succ]); (try simp only [List.set_cons_zero]); (try simp only [List.set_cons_succ]); (try simp only [List.set_cons_zero]); (try simp only [Nat.zero_add])
    refine take_on (i := 5) (d := 7) (v := .tuple #[.int .i64 v, .bool true]) rfl rfl (by kernel_rfl) (by kernel_rfl) (by kernel_rfl) (fun _ _ _ h => h) (by rfl) ?_ hHeld ?_
    · (intro w' hSw; go_simp)
    (try simp only [Act.put]); (try simp only [List.setIfInBounds_toArray]); (try simp only [List.set_cons_succ]); (try simp only [List.set_cons_zero]); (try simp only [List.set_cons_succ]); (try simp only [List.set_cons_zero]); (try simp only [Nat.zero_add])
    refine take_on (i := 6) (d := 13) (v := .int .i64 v) rfl rfl (by kernel_rfl) (by kernel_rfl) (by kernel_rfl) (fun _ _ _ h => h) (by rfl) ?_ hHeld ?_
    · (intro w' hSw; go_simp)
    (try simp only [Act.put]); (try simp only [List.setIfInBounds_toArray]); (try simp only [List.set_cons_succ]); (try simp only [List.set_cons_zero]); (try simp only [List.set_cons_succ]); (try simp only [List.set_cons_zero]); (try simp only [Nat.zero_add])
    refine take_on (i := 7) (d := 14) (v := .bool true) rfl rfl (by kernel_rfl) (by kernel_rfl) (by kernel_rfl) (fun _ _ _ h => h) (by rfl) ?_ hHeld ?_
    · (intro w' hSw; go_simp)
    (try simp only [Act.put]); (try simp only [List.setIfInBounds_toArray]); (try simp only [List.set_cons_succ]); (try simp only [List.set_cons_zero]); (try simp only [List.set_cons_succ]); (try simp only [List.set_cons_zero]); (try simp only [Nat.zero_add])
    refine take_on (i := 8) (d := 5) (v := .int .i64 v) rfl rfl (by kernel_rfl) (by kernel_rfl) (by kernel_rfl) (fun _ _ _ h => h) (by rfl) ?_ hHeld ?_
    · (intro w' hSw; go_simp)
    (try simp only [Act.put]); (try simp only [List.setIfInBounds_toArray]); (try simp only [List.set_cons_succ]); (try simp only [List.set_cons_zero]); (try simp only [List.set_cons_succ]); (try simp only [List.set_cons_zero]); (try simp only [Nat.zero_add])
    refine take_on (i := 9) (d := 6) (v := .bool true) rfl rfl (by kernel_rfl) (by kernel_rfl) (by kernel_rfl) (fun _ _ _ h => h) (by rfl) ?_ hHeld ?_
    · (intro w' hSw; go_simp)
    (try simp only [Act.put]); (try simp only [List.setIfInBounds_toArray]); (try simp only [List.set_cons_succ]); (try simp only [List.set_cons_zero]); (try simp only [List.set_cons_succ]); (try simp only [List.set_cons_zero]); (try simp only [Nat.zero_add])
    refine wpAnyH_done (by kernel_rfl) ?_ _
    clear hHeld
    try dsimp only
    have Y := hid_mk J.out.mid2
    clear J D0
    obtain ⟨c0, c1, c2, c3, c4, c5⟩ := (Y.out.cel (.tail _ (.head _))).c6
    go_wp2_with fail
    refine (S2.out _).mono ?_
    rintro e w5 ⟨rfl, hb⟩
    have Y2 := hid_mk (Y.out.next hb)
    clear hb c0 c1 c2 c3 c4 c5
    obtain ⟨d0, d1, d2, d3, d4, d5⟩ := (Y2.out.cel (.head _)).c6
    obtain ⟨f0, f1, f2, f3, f4, f5⟩ := (Y2.out.cel (.head _)).f6
    go_wp2
    refine bodyPost_ret (v := .agg #[.int .i64 u0, .bool u1, .int .i64 u2, .int .i64 u3, .int .i64 u4, .int .i64 u5]) (by simp [results, Tryz.results66, go_sem, d0, d1, d2, d3, d4, d5]) rfl ⟨rfl, ?_⟩
    have hz := Y2.out.bel
    repeat' (first | (with_reducible exact hz) | (with_reducible apply Below.drew) | (with_reducible apply below_drewN) | (refine Below.setCell ?_ (by show w.heap.size ≤ _; dsimp only; omega) _))
  | none =>
    have HV := hid_mk hv
    have hgu : gueN L x.n = wrap64 (x.n + 1) := by unfold gueN; rw [hv]
    rw [hgu] at s2
    have S2 := hid_mk s2
    clear s2 hgu hv
    go_enter Tryz.func66, Tryz.ntmps66
    go_upto_region 1 with fail
    clear hw1
    have D0 := hid_mk H.out.drew
    refine wp_region_held_drew (S := fun w' => Hold w w' [celF (w.heap.size + 1) [.int .i64 0, .bool false, .int .i64 0, .int .i64 0, .int .i64 0, .int .i64 0], celF w.heap.size [.int .i64 x.n, .bool x.i, .int .i64 x.b, .int .i64 x.t, .int .i64 x.p, .int .i64 x.s]]) (by kernel_rfl) (D0.out.sub (fun f hf => by simp only [List.mem_cons, List.not_mem_nil, or_false] at hf ⊢; rcases hf with rfl | rfl; exact .inl rfl; exact .inr (.inl rfl))) (fun hHeld => ?_)
    generalize w1.drew = wd at D0 hHeld ⊢
    clear H
    refine take_on (i := 0) (d := 8) (v := .slice a len cap) rfl rfl (by kernel_rfl) (by kernel_rfl) (by kernel_rfl) (fun _ _ _ h => h) (by rfl) ?_ hHeld ?_
    · (intro w' hSw; go_simp)
    (try simp only [Act.put]); (try simp only [List.setIfInBounds_toArray]); (try simp only [List.set_cons_succ]); (try simp only [List.set_cons_zero]); (try simp only [List.set_cons_succ]); (try simp only [List.set_cons_zero]); (try simp only [Nat.zero_add])
    refine take_on (i := 2) (d := 10) (v := .pointer (some ⟨w.heap.size, 0, none⟩)) rfl rfl (by kernel_rfl) (by kernel_rfl) (by kernel_rfl) (fun _ _ _ h => h) (by rfl) ?_ hHeld ?_
    · (intro w' hSw; go_simp)
    (try simp only [Act.put]); (try simp only [List.setIfInBounds_toArray]); (try simp only [List.set_cons_succ]); (try simp only [List.set_cons_zero]); (try simp only [List.set_cons_succ]); (try simp only [List.set_cons_zero]); (try simp only [Nat.zero_add])
    refine take_on (i := 3) (d := 11) (v := .int .i64 x.n) rfl rfl (by kernel_rfl) (by kernel_rfl) (by kernel_rfl) (fun _ _ _ h => h) (by rfl) ?_ hHeld ?_
    · (intro w' hSw; have hSx : Hold w w' [celF (w.heap.size + 1) [.int .i64 0, .bool false, .int .i64 0, .int .i64 0, .int .i64 0, .int .i64 0], celF w.heap.size [.int .i64 x.n, .bool x.i, .int .i64 x.b, .int .i64 x.t, .int .i64 x.p, .int .i64 x.s]] := hSw; have c0 := (hSx.cel (.tail _ (.head _))).c 0 _ rfl; go_simp)
    (try simp only [Act.put]); (try simp only [List.setIfInBounds_toArray]); (try simp only [List.set_cons_succ]); (try simp only [List.set_cons_zero]); (try simp only [List.set_cons_succ]); (try simp only [List.set_cons_zero]); (try simp only [Nat.zero_add])
    refine wpAnyH_ready (rs := [1]) (by kernel_rfl) (by simp) ?_
    refine AllReadyH.cons rfl (fun K1 hK => ?_) AllReadyH.nil
    go_simp
    refine (learntIn_any a len cap L _ hl (D0.out.sin (.tail _ (.tail _ (.head _)))) HW.out).mono ?_
    rintro e w2 ⟨b, D, rfl, hb0, hO, hG, hb⟩
    have J := hid_mk ((D0.out.next hb).push (ownF b len D) hO)
    clear hO hb
    refine hK.out _ _ J.out.mid2 (fun hHeld => ?_)
    clear hK K1
    (try simp only [Act.put]); (try simp only [List.setIfInBounds_toArray]); (try simp only [List.set_cons_succ]); (try simp only [List.set_cons_zero]); (try simp only [List.set_cons_succ]); (try simp only [List.set_cons_zero]); (try simp only [Nat.zero_add])
    refine wpAnyH_ready (rs := [4]) (by kernel_rfl) (by simp) ?_
    refine AllReadyH.cons rfl (fun K1 hK => ?_) AllReadyH.nil
    have e0 := look_no (J.out.own (.head _)) hG hwx HV.out
    go_simp
    clear e0 hG
    refine hK.out _ _ J.out.mid2 (fun hHeld => ?_)
    clear hK K1
    (try simp only [Act.put]); (try simp only [List.setIfInBounds_toArray]); (try simp only [List.set_cons_succ]); (try simp only [List.set_cons_zero]); (try simp only [List.set_cons_succ]); (try simp only [List.set_cons_zero]); (try simp only [Nat.zero_add])
    refine take_on (i := 5) (d := 7) (v := .tuple #[.int .i64 0, .bool false]) rfl rfl (by kernel_rfl) (by kernel_rfl) (by kernel_rfl) (fun _ _ _ h => h) (by rfl) ?_ hHeld ?_
    · (intro w' hSw; go_simp)
    (try simp only [Act.put]); (try simp only [List.setIfInBounds_toArray]); (try simp only [List.set_cons_succ]); (try simp only [List.set_cons_zero]); (try simp only [List.set_cons_succ]); (try simp only [List.set_cons_zero]); (try simp only [Nat.zero_add])
    refine take_on (i := 6) (d := 13) (v := .int .i64 0) rfl rfl (by kernel_rfl) (by kernel_rfl) (by kernel_rfl) (fun _ _ _ h => h) (by rfl) ?_ hHeld ?_
    · (intro w' hSw; go_simp)
    (try simp only [Act.put]); (try simp only [List.setIfInBounds_toArray]); (try simp only [List.set_cons_succ]); (try simp only [List.set_cons_zero]); (try simp only [List.set_cons_succ]); (try simp only [List.set_cons_zero]); (try simp only [Nat.zero_add])
    refine take_on (i := 7) (d := 14) (v := .bool false) rfl rfl (by kernel_rfl) (by kernel_rfl) (by kernel_rfl) (fun _ _ _ h => h) (by rfl) ?_ hHeld ?_
    · (intro w' hSw; go_simp)
    (try simp only [Act.put]); (try simp only [List.setIfInBounds_toArray]); (try simp only [List.set_cons_succ]); (try simp only [List.set_cons_zero]); (try simp only [List.set_cons_succ]); (try simp only [List.set_cons_zero]); (try simp only [Nat.zero_add])
    refine take_on (i := 8) (d := 5) (v := .int .i64 0) rfl rfl (by kernel_rfl) (by kernel_rfl) (by kernel_rfl) (fun _ _ _ h => h) (by rfl) ?_ hHeld ?_
    · (intro w' hSw; go_simp)
    (try simp only [Act.put]); (try simp only [List.setIfInBounds_toArray]); (try simp only [List.set_cons_succ]); (try simp only [List.set_cons_zero]); (try simp only [List.set_cons_succ]); (try simp only [List.set_cons_zero]); (try simp only [Nat.zero_add])
    refine take_on (i := 9) (d := 6) (v := .bool false) rfl rfl (by kernel_rfl) (by kernel_rfl) (by kernel_rfl) (fun _ _ _ h => h) (by rfl) ?_ hHeld ?_
    · (intro w' hSw; go_simp)
    (try simp only [Act.put]); (try simp only [List.setIfInBounds_toArray]); (try simp only [List.set_cons_succ]); (try simp only [List.set_cons_zero]); (try simp only [List.set_cons_succ]); (try simp only [List.set_cons_zero]); (try simp only [Nat.zero_add])
    refine wpAnyH_done (by kernel_rfl) ?_ _
    clear hHeld
    try dsimp only
    have Y := hid_mk J.out.mid2
    clear J D0
    obtain ⟨c0, c1, c2, c3, c4, c5⟩ := (Y.out.cel (.tail _ (.head _))).c6
    go_wp2_with fail
    refine (S2.out _).mono ?_
    rintro e w5 ⟨rfl, hb⟩
    have Y2 := hid_mk (Y.out.next hb)
    clear hb c0 c1 c2 c3 c4 c5
    obtain ⟨d0, d1, d2, d3, d4, d5⟩ := (Y2.out.cel (.head _)).c6
    obtain ⟨f0, f1, f2, f3, f4, f5⟩ := (Y2.out.cel (.head _)).f6
    go_wp2
    refine bodyPost_ret (v := .agg #[.int .i64 u0, .bool u1, .int .i64 u2, .int .i64 u3, .int .i64 u4, .int .i64 u5]) (by simp [results, Tryz.results66, go_sem, d0, d1, d2, d3, d4, d5]) rfl ⟨rfl, ?_⟩
    have hz := Y2.out.bel
    repeat' (first | (with_reducible exact hz) | (with_reducible apply Below.drew) | (with_reducible apply below_drewN) | (refine Below.setCell ?_ (by show w.heap.size ≤ _; dsimp only; omega) _))
theorem Hold.putJ {w0 w : World} {fs : List Fct} (h : Hold w0 w fs) (r o : Nat) (v : Value) (h0 : w0.heap.size ≤ r) (hd : ∀ f ∈ fs, ¬ f.S r) : Hold w0 (w.setCell ⟨r, o, none⟩ v) fs :=
  h.wrote (T := fun k => k = r) (KeptS.ofBut ((KeepBut.refl r w).setCell o v) rfl) (fun k hk => by subst hk; exact h0) (fun f hf k hk e => by subst e; exact hd f hf hk)

set_option maxHeartbeats 1000000 in
theorem specGuess_any (a : Option Addr) (len cap : Nat) (L : List Int) (n : Int) (i : Bool) (b t p s : Int) (w : World) (hl : len ≤ 1048576) (hS : SliceN w.heap.size w a len L) :
    Calls Tryz.prog 60 #[.slice a len cap, .agg #[.int .i64 n, .bool i, .int .i64 b, .int .i64 t, .int .i64 p, .int .i64 s]] w fun e w' => e = .returned (madeV (gueN L n % 65536) (openB n i b t p s) b t p s) ∧ Below w.heap.size w w' := by
  have hlL := hS.2.1
  have H := hid_mk (((((Hold.new w).push (sinF w.heap.size a len L) ⟨hS, Nat.le_refl _⟩).alloc (.cells #[.int .i64 n, .bool i, .int .i64 b, .int .i64 t, .int .i64 p, .int .i64 s] 38)).push (celF w.heap.size [.int .i64 n, .bool i, .int .i64 b, .int .i64 t, .int .i64 p, .int .i64 s]) (Cel.new w _ _)).alloc (.cells #[.int .i64 0, .bool false, .int .i64 0, .int .i64 0, .int .i64 0, .int .i64 0] 38))
  have HC := Cel.new (w.alloc (.cells #[.int .i64 n, .bool i, .int .i64 b, .int .i64 t, .int .i64 p, .int .i64 s] 38)) [.int .i64 0, .bool false, .int .i64 0, .int .i64 0, .int .i64 0, .int .i64 0] 38
  rw [World.size_alloc] at HC
  replace H := hid_mk (H.out.push (celF (w.heap.size + 1) [.int .i64 0, .bool false, .int .i64 0, .int .i64 0, .int .i64 0, .int .i64 0]) HC)
  have s2 := fun w => specPoint_any n i b t p s (gueN L n) w
  obtain ⟨u0, u1, u2, u3, u4, u5, hV⟩ : ∃ (u0 : Int) (u1 : Bool) (u2 u3 u4 u5 : Int), madeV (gueN L n % 65536) (openB n i b t p s) b t p s = .agg #[.int .i64 u0, .bool u1, .int .i64 u2, .int .i64 u3, .int .i64 u4, .int .i64 u5] := ⟨_, _, _, _, _, _, rfl⟩
  rw [hV] at s2 ⊢
  have hgo := gE_out (L := L) (x := n)
  have hat := fun j (hj : j < len) => hS.at hj
  clear hS HC hV
  have I := hid_mk (in_any n 0 ((len : Int) - 1))
  by_cases hin : 0 ≤ n ∧ n ≤ (len : Int) - 1
  · obtain ⟨k, rfl⟩ : ∃ k : Nat, n = (k : Int) := ⟨n.toNat, by omega⟩
    have hk : k < len := by omega
    obtain ⟨kb, o, v, rfl, hkb, hx, d0⟩ := hat k hk
    have DAT : Hid (∀ w', Hold w w' [celF w.heap.size [.int .i64 (k : Int), .bool i, .int .i64 b, .int .i64 t, .int .i64 p, .int .i64 s], sinF w.heap.size (some ⟨kb, o, none⟩) len L] → w'.cell? ⟨kb, o + k, none⟩ = some (.int .i64 v)) := fun w' h => by
      obtain ⟨kb', o', v', e, _, hx', d0'⟩ := (h.sin (.tail _ (.head _))).at hk
      cases e
      rw [hx] at hx'
      cases hx'
      exact d0'
    have hd : decide (0 ≤ (k : Int) ∧ (k : Int) ≤ (len : Int) - 1) = true := by simp; omega
    rw [hd] at I
    have hgv := gE_at hx
    clear hd d0 hat hgo
    generalize hw1 : (w.alloc (.cells #[.int .i64 (k : Int), .bool i, .int .i64 b, .int .i64 t, .int .i64 p, .int .i64 s] 38)).alloc (.cells #[.int .i64 0, .bool false, .int .i64 0, .int .i64 0, .int .i64 0, .int .i64 0] 38) = w1 at H
    by_cases hv : v = -1
    · subst hv
      have hgu : gueN L (k : Int) = (k : Int) + 1 := by
        have e : gE L (k : Int) = none := by rw [hgv]; simp
        unfold gueN
        rw [e]
        show wrap64 ((k : Int) + 1) = _
        unfold wrap64; omega
      rw [hgu] at s2
      have S2 := hid_mk s2
      clear s2 hgu hgv
      go_enter Tryz.func60, Tryz.ntmps60
      go_upto_region 1 with fail
      clear hw1
      have d0 := DAT.out w1 H.out.tail
      obtain ⟨c0, c1, c2, c3, c4, c5⟩ := (H.out.cel (.tail _ (.head _))).c6
      have Y := hid_mk H.out
      clear H
      go_wp2_with (go_at_call 74; refine (I.out _).mono ?_; rintro e w' ⟨rfl, rfl⟩)
      refine (S2.out _).mono ?_
      rintro e w5 ⟨rfl, hb⟩
      have Y2 := hid_mk (Y.out.next hb)
      clear hb c0 c1 c2 c3 c4 c5
      obtain ⟨y0, y1, y2, y3, y4, y5⟩ := (Y2.out.cel (.head _)).c6
      obtain ⟨f0, f1, f2, f3, f4, f5⟩ := (Y2.out.cel (.head _)).f6
      go_wp2
      refine bodyPost_ret (v := .agg #[.int .i64 u0, .bool u1, .int .i64 u2, .int .i64 u3, .int .i64 u4, .int .i64 u5]) (by simp [results, Tryz.results60, go_sem, y0, y1, y2, y3, y4, y5]) rfl ⟨rfl, ?_⟩
      have hz := Y2.out.bel
      repeat' (first | (with_reducible exact hz) | (with_reducible apply Below.drew) | (with_reducible apply below_drewN) | (refine Below.setCell ?_ (by show w.heap.size ≤ _; dsimp only; omega) _))
    · have hgu : gueN L (k : Int) = v := by unfold gueN; rw [hgv, if_neg hv]
      rw [hgu] at s2
      have S2 := hid_mk s2
      have hvn : (v != -1) = true := by simpa using hv
      clear s2 hgu hgv
      go_enter Tryz.func60, Tryz.ntmps60
      go_upto_region 1 with fail
      clear hw1
      have d0 := DAT.out w1 H.out.tail
      obtain ⟨c0, c1, c2, c3, c4, c5⟩ := (H.out.cel (.tail _ (.head _))).c6
      go_upto_region 2 with (go_at_call 74; refine (I.out _).mono ?_; rintro e w9 ⟨rfl, rfl⟩)
      have Y := hid_mk H.out
      clear H c0 c1 c2 c3 c4 c5 d0
      have D0 := hid_mk Y.out.drew
      refine wp_region_held_drew (S := fun w' => Hold w w' [celF w.heap.size [.int .i64 (k : Int), .bool i, .int .i64 b, .int .i64 t, .int .i64 p, .int .i64 s], sinF w.heap.size (some ⟨kb, o, none⟩) len L]) (by kernel_rfl) D0.out.tail (fun hHeld => ?_)
      generalize w9.drew = wd at D0 hHeld ⊢
      clear Y
      refine take_on (i := 0) (d := 19) (v := .agg #[.int .i64 (k : Int), .bool i, .int .i64 b, .int .i64 t, .int .i64 p, .int .i64 s]) rfl rfl (by kernel_rfl) (by kernel_rfl) (by kernel_rfl) (fun _ _ _ h => h) (by rfl) ?_ hHeld ?_
      · (intro w' hSw; have hSx : Hold w w' [celF w.heap.size [.int .i64 (k : Int), .bool i, .int .i64 b, .int .i64 t, .int .i64 p, .int .i64 s], sinF w.heap.size (some ⟨kb, o, none⟩) len L] := hSw; obtain ⟨c0, c1, c2, c3, c4, c5⟩ := (hSx.cel (.head _)).c6; go_simp)
      (try simp only [Act.put]); (try simp only [List.setIfInBounds_toArray]); (try simp only [List.set_cons_succ]); (try simp only [List.set_cons_zero]); (try simp only [List.set_cons_succ]); (try simp only [List.set_cons_zero]); (try simp only [Nat.zero_add])
      refine take_on (i := 1) (d := 20) (v := .slice (some ⟨kb, o, none⟩) len cap) rfl rfl (by kernel_rfl) (by kernel_rfl) (by kernel_rfl) (fun _ _ _ h => h) (by rfl) ?_ hHeld ?_
      · (intro w' hSw; go_simp)
      (try simp only [Act.put]); (try simp only [List.setIfInBounds_toArray]); (try simp only [List.set_cons_succ]); (try simp only [List.set_cons_zero]); (try simp only [List.set_cons_succ]); (try simp only [List.set_cons_zero]); (try simp only [Nat.zero_add])
      refine take_on (i := 2) (d := 21) (v := .pointer (some ⟨w.heap.size, 0, none⟩)) rfl rfl (by kernel_rfl) (by kernel_rfl) (by kernel_rfl) (fun _ _ _ h => h) (by rfl) ?_ hHeld ?_
      · (intro w' hSw; go_simp)
      (try simp only [Act.put]); (try simp only [List.setIfInBounds_toArray]); (try simp only [List.set_cons_succ]); (try simp only [List.set_cons_zero]); (try simp only [List.set_cons_succ]); (try simp only [List.set_cons_zero]); (try simp only [Nat.zero_add])
      refine take_on (i := 3) (d := 22) (v := .int .i64 (k : Int)) rfl rfl (by kernel_rfl) (by kernel_rfl) (by kernel_rfl) (fun _ _ _ h => h) (by rfl) ?_ hHeld ?_
      · (intro w' hSw; have hSx : Hold w w' [celF w.heap.size [.int .i64 (k : Int), .bool i, .int .i64 b, .int .i64 t, .int .i64 p, .int .i64 s], sinF w.heap.size (some ⟨kb, o, none⟩) len L] := hSw; obtain ⟨c0, c1, c2, c3, c4, c5⟩ := (hSx.cel (.head _)).c6; go_simp)
      (try simp only [Act.put]); (try simp only [List.setIfInBounds_toArray]); (try simp only [List.set_cons_succ]); (try simp only [List.set_cons_zero]); (try simp only [List.set_cons_succ]); (try simp only [List.set_cons_zero]); (try simp only [Nat.zero_add])
      refine take_on (i := 4) (d := 23) (v := .pointer (some ⟨kb, o + k, none⟩)) rfl rfl (by kernel_rfl) (by kernel_rfl) (by kernel_rfl) (fun _ _ _ h => h) (by rfl) ?_ hHeld ?_
      · (intro w' hSw; go_simp)
      (try simp only [Act.put]); (try simp only [List.setIfInBounds_toArray]); (try simp only [List.set_cons_succ]); (try simp only [List.set_cons_zero]); (try simp only [List.set_cons_succ]); (try simp only [List.set_cons_zero]); (try simp only [Nat.zero_add])
      refine take_on (i := 5) (d := 24) (v := .int .i64 v) rfl rfl (by kernel_rfl) (by kernel_rfl) (by kernel_rfl) (fun _ _ _ h => h) (by rfl) ?_ hHeld ?_
      · (intro w' hSw; have d0 := DAT.out w' hSw; go_simp)
      (try simp only [Act.put]); (try simp only [List.setIfInBounds_toArray]); (try simp only [List.set_cons_succ]); (try simp only [List.set_cons_zero]); (try simp only [List.set_cons_succ]); (try simp only [List.set_cons_zero]); (try simp only [Nat.zero_add])
      refine wpAnyH_ready (rs := [6]) (by kernel_rfl) (by simp) ?_
      refine AllReadyH.cons rfl (fun K1 hK => ?_) AllReadyH.nil
      go_simp
      refine (S2.out _).mono ?_
      rintro e w5 ⟨rfl, hb⟩
      have Y2 := hid_mk (D0.out.next hb)
      clear hb D0
      refine hK.out _ _ Y2.out.tail (fun hHeld => ?_)
      clear hK K1
      (try simp only [Act.put]); (try simp only [List.setIfInBounds_toArray]); (try simp only [List.set_cons_succ]); (try simp only [List.set_cons_zero]); (try simp only [List.set_cons_succ]); (try simp only [List.set_cons_zero]); (try simp only [Nat.zero_add])
      refine wpAnyH_ready (rs := [7]) (by kernel_rfl) (by simp) ?_
      refine AllReadyH.cons rfl (fun K1 hK => ?_) AllReadyH.nil
      obtain ⟨d0, d1, d2, d3, d4, d5⟩ := (Y2.out.cel (.head _)).c6
      obtain ⟨f0, f1, f2, f3, f4, f5⟩ := (Y2.out.cel (.head _)).f6
      go_simp
      have hd : ∀ f ∈ [celF w.heap.size [.int .i64 (k : Int), .bool i, .int .i64 b, .int .i64 t, .int .i64 p, .int .i64 s], sinF w.heap.size (some ⟨kb, o, none⟩) len L], ¬ f.S (w.heap.size + 1) := fun f hf hs => by
        simp only [List.mem_cons, List.not_mem_nil, or_false] at hf
        rcases hf with rfl | rfl
        · simp only [celF] at hs; omega
        · simp only [sinF] at hs; omega
      have h1 : w.heap.size ≤ w.heap.size + 1 := by omega
      refine hK.out _ _ ((((((Y2.out.tail.putJ _ _ _ h1 hd).putJ _ _ _ h1 hd).putJ _ _ _ h1 hd).putJ _ _ _ h1 hd).putJ _ _ _ h1 hd).putJ _ _ _ h1 hd) (fun hHeld => ?_)
      clear hK K1 hd
      (try simp only [Act.put]); (try simp only [List.setIfInBounds_toArray]); (try simp only [List.set_cons_succ]); (try simp only [List.set_cons_zero]); (try simp only [List.set_cons_succ]); (try simp only [List.set_cons_zero]); (try simp only [Nat.zero_add])
      refine wpAnyH_done (by kernel_rfl) ?_ _
      clear hHeld
      try dsimp only
      go_wp2
      refine bodyPost_ret (v := .agg #[.int .i64 u0, .bool u1, .int .i64 u2, .int .i64 u3, .int .i64 u4, .int .i64 u5]) (by simp [results, Tryz.results60, go_sem, d0, d1, d2, d3, d4, d5]) rfl ⟨rfl, ?_⟩
      have hz := Y2.out.bel
      repeat' (first | (with_reducible exact hz) | (with_reducible apply Below.drew) | (with_reducible apply below_drewN) | (refine Below.setCell ?_ (by show w.heap.size ≤ _; dsimp only; omega) _))
  · have hd : decide (0 ≤ n ∧ n ≤ (len : Int) - 1) = false := by simp; omega
    rw [hd] at I
    have hgv := hgo (by omega)
    clear hd hat hgo
    generalize hw1 : (w.alloc (.cells #[.int .i64 n, .bool i, .int .i64 b, .int .i64 t, .int .i64 p, .int .i64 s] 38)).alloc (.cells #[.int .i64 0, .bool false, .int .i64 0, .int .i64 0, .int .i64 0, .int .i64 0] 38) = w1 at H
    have hgu : gueN L n = wrap64 (n + 1) := by unfold gueN; rw [hgv]
    rw [hgu] at s2
    have S2 := hid_mk s2
    clear s2 hgu hgv
    go_enter Tryz.func60, Tryz.ntmps60
    go_upto_region 1 with fail
    clear hw1
    obtain ⟨c0, c1, c2, c3, c4, c5⟩ := (H.out.cel (.tail _ (.head _))).c6
    have Y := hid_mk H.out
    clear H
    go_wp2_with (go_at_call 74; refine (I.out _).mono ?_; rintro e w' ⟨rfl, rfl⟩)
    refine (S2.out _).mono ?_
    rintro e w5 ⟨rfl, hb⟩
    have Y2 := hid_mk (Y.out.next hb)
    clear hb c0 c1 c2 c3 c4 c5
    obtain ⟨y0, y1, y2, y3, y4, y5⟩ := (Y2.out.cel (.head _)).c6
    obtain ⟨f0, f1, f2, f3, f4, f5⟩ := (Y2.out.cel (.head _)).f6
    go_wp2
    refine bodyPost_ret (v := .agg #[.int .i64 u0, .bool u1, .int .i64 u2, .int .i64 u3, .int .i64 u4, .int .i64 u5]) (by simp [results, Tryz.results60, go_sem, y0, y1, y2, y3, y4, y5]) rfl ⟨rfl, ?_⟩
    have hz := Y2.out.bel
    repeat' (first | (with_reducible exact hz) | (with_reducible apply Below.drew) | (with_reducible apply below_drewN) | (refine Below.setCell ?_ (by show w.heap.size ≤ _; dsimp only; omega) _))
end Go.Proofs.YtpkhnajhamnggaaGreatDoor
