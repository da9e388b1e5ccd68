/- codeOfText and CodeRead of the program at all texts: the places that are read and true, or none and false. The tables and errors hold what the texts lay. -/
import Derived.Test.YtdcghcbliajcpaaDoorTxtV
import Derived.Test.YtdcghcbliajcpaaDoorTxtC
namespace Go.Proofs.YtdcghcbliajcpaaDoor
open Go.ChangeShapes Go.WideShapes Go.ChangeAt Go.RowKit
set_option maxRecDepth 100000

theorem own_row9 {w : World} {base : Nat} {v : Value} {P : List (List UInt8)} (h : w.ownsRow base 9 1 v P.length (strs P)) (hP : 0 < P.length) :
    ∃ g cap, v = .slice (some ⟨g, 0, none⟩) P.length cap ∧ P.length ≤ cap ∧ cap ≤ maxLen ∧ g < w.heap.size ∧ ∀ j p, P[j]? = some p → w.cell? ⟨g, j, none⟩ = some (.string (bs p)) := by
  rcases h.2 with ⟨_, h0⟩ | ⟨g, cap, cur, hv, hb, hg, hn, hm, hs, ht⟩
  · omega
  · refine ⟨g, cap, hv, hn, hm, (Array.getElem?_eq_some_iff.1 hg).1, fun j p hj => ?_⟩
    have hc := h.cells (g := g) (by rw [hv]; rfl) j (.string (bs p)) (by simp [strs, hj])
    rw [Go.WideShapes.add_plain, Nat.zero_add] at hc
    exact hc
theorem mapR_append : ∀ (A B : List (List UInt8)), mapR (A ++ B) = (mapR A).bind fun X => (mapR B).map (X ++ ·)
  | [], B => by simp [mapR]
  | l :: r, B => by
    have ih := mapR_append r B
    simp only [List.cons_append, mapR, ih]
    cases readL l with
    | none => rfl
    | some x =>
      simp only [Option.bind_some]
      cases mapR r with
      | none => rfl
      | some X => cases mapR B <;> simp
theorem mapR_one (p : List UInt8) : mapR [p] = (readL p).map fun x => [x] := by
  cases h : readL p <;> simp [mapR, h]
theorem mapR_next {P : List (List UInt8)} {k : Nat} {p : List UInt8} {X : List In} {x : In} (h : P[k]? = some p) (hX : mapR (P.take k) = some X) (hr : readL p = some x) : mapR (P.take (k + 1)) = some (X ++ [x]) := by
  rw [List.take_add_one, h]
  simp [mapR_append, hX, mapR_one, hr]
theorem mapR_bad {P : List (List UInt8)} {k : Nat} {p : List UInt8} (h : P[k]? = some p) (hr : readL p = none) : mapR P = none := by
  obtain ⟨h1, h2⟩ := List.getElem?_eq_some_iff.1 h
  rw [← List.take_append_drop k P, List.drop_eq_getElem_cons h1, h2, mapR_append]
  cases mapR (P.take k) with
  | none => rfl
  | some X => simp [mapR, hr]
theorem OutI.more {w : World} {q len k : Nat} {X : List In} (h : OutI w q len k X) (hX : X.length = k) (x : In) : OutI w q len k (X ++ [x]) :=
  ⟨h.lt, h.has, h.fr, fun j y hj hy => h.wd j y hj (by rwa [List.getElem?_append_left (by omega)] at hy)⟩

theorem OutI.keepB {w w' : World} {q len k b : Nat} {L : List In} (h : OutI w q len k L) (g : KeepBut b w w') (hb : q ≠ b) : OutI w' q len k L :=
  ⟨Nat.lt_of_lt_of_le h.lt g.size, fun i hi => by rw [g.cell (p := ⟨q, i, none⟩) h.lt hb]; exact h.has i hi, fun i hi => by rw [g.frozen (p := ⟨q, i, none⟩) h.lt hb]; exact h.fr i hi, fun j x hj hx => by
    have a := h.wd j x hj hx
    exact ⟨(g.cell (p := ⟨q, j * 5, none⟩) h.lt hb).trans a.c0, (g.cell (p := ⟨q, j * 5 + 1, none⟩) h.lt hb).trans a.c1, (g.cell (p := ⟨q, j * 5 + 2, none⟩) h.lt hb).trans a.c2, (g.cell (p := ⟨q, j * 5 + 3, none⟩) h.lt hb).trans a.c3, (g.cell (p := ⟨q, j * 5 + 4, none⟩) h.lt hb).trans a.c4⟩⟩
theorem OutI.other {w : World} {q len k b : Nat} {L : List In} (h : OutI w q len k L) (hb : q ≠ b) (o : Nat) (v : Value) : OutI (w.setCell ⟨b, o, none⟩ v) q len k L := h.keepB ((KeepBut.refl b w).setCell o v) hb

/-- The answer, or the panic. -/
def CQ (ae : Addr) (l : List UInt8) (w : World) (e : Ending) (w' : World) : Prop :=
  (match progC l with | none => e = .panicked [{ v := .iface 138 (.pointer (some ae)), recovered := false }] | some L => ∃ q, e = .returned (.slice (some ⟨q, 0, none⟩) L.length L.length) ∧ w.heap.size ≤ q ∧ OutI w' q L.length L.length L) ∧ Below w.heap.size w w'
theorem CQ.bad {ae : Addr} {l : List UInt8} {w w' : World} (h : progC l = none) (hb : Below w.heap.size w w') : CQ ae l w (.panicked [{ v := .iface 138 (.pointer (some ae)), recovered := false }]) w' := by
  unfold CQ
  rw [h]
  exact ⟨rfl, hb⟩
theorem CQ.good {ae : Addr} {l : List UInt8} {w w' : World} {L : List In} {q len : Nat} (h : progC l = some L) (hq : w.heap.size ≤ q) (hl : L.length = len) (ho : OutI w' q len len L) (hb : Below w.heap.size w w') : CQ ae l w (.returned (.slice (some ⟨q, 0, none⟩) len len)) w' := by
  unfold CQ
  rw [h]
  subst hl
  exact ⟨⟨q, rfl, hq, ho⟩, hb⟩

set_option maxHeartbeats 8000000 in
theorem codeOfText_any (l : List UInt8) (hl : l.length ≤ 1048576) (ae : Addr) (w : World) (hL : LayE ae w) :
    Calls Tryd.prog 50 #[.string (bs l)] w fun e w' => CQ ae l w e w' := by
  obtain ⟨Q, HQ⟩ : ∃ Q : Ending → World → Prop, Hid (∀ e w', CQ ae l w e w' → Q e w') ∧ (∀ e w', Q e w' → CQ ae l w e w') := ⟨CQ ae l w, fun _ _ h => h, fun _ _ h => h⟩
  refine Calls.mono (R := Q) ?_ HQ.2
  have HQ := HQ.1
  have c0 : (ByteArray.mk #[]) = bs [] := rfl
  have L0 := hid_mk hL
  have s0 := partsOf_any 10 (by decide) 49 (by decide) (by decide) l hl ae w hL
  clear hL
  by_cases h9 : 49 ≤ l.count 10
  · have e9 : partsZ 10 49 l = none := by rw [partsZ, if_pos h9]
    simp only [e9] at s0
    have S0 : Hid (Calls Tryd.prog 59 #[.string (bs l), .int .i32 10, .int .i64 49] w _) := s0
    have PN : Hid (progC l = none) := by rw [progC, if_pos h9]; exact hid_mk rfl
    clear s0 h9 e9
    go_enter Tryd.func50, Tryd.ntmps50
    go_wp2_with (go_at_call 59; refine S0.out.mono ?_; rintro e w1 ⟨rfl, hb⟩)
    go_wp2
    exact ⟨rfl, HQ.out _ _ (CQ.bad PN.out hb)⟩
  have e9 : partsZ 10 49 l = some (splitL 10 l) := by rw [partsZ, if_neg h9]
  simp only [e9] at s0
  have S0 : Hid (Calls Tryd.prog 59 #[.string (bs l), .int .i32 10, .int .i64 49] w _) := s0
  have PG : Hid (progC l = if (splitL 10 l).length = 1 ∨ (splitL 10 l).getLastD [] ≠ [] then none else mapR (splitL 10 l).dropLast) := by
    rw [progC, if_neg h9]; exact hid_mk rfl
  have hsl := last_split (splitL_ne 10 l)
  have hlen := splitL_length 10 l
  have HPL : Hid (∀ p ∈ (splitL 10 l).dropLast, p.length ≤ 1048576) := fun p hp => by
    have := part_len (c := 10) (l := l) (p := p) (List.dropLast_subset _ hp)
    omega
  generalize (splitL 10 l).dropLast = P at hsl PG HPL
  generalize (splitL 10 l).getLastD [] = p at hsl PG
  rw [hsl] at S0 hlen PG
  rw [List.length_append, List.length_singleton] at hlen PG
  have hm : P.length ≤ 48 := by omega
  clear s0 h9 e9 hsl hlen
  go_enter Tryd.func50, Tryd.ntmps50
  go_wp2_with (go_at_call 59; refine S0.out.mono ?_; rintro e w1 ⟨⟨v, rfl, own⟩, hb⟩; refine Hid.out ?_)
  refine Lib.hid ?_
  obtain ⟨g, cap, rfl, hcap, hcm, hg1, hrow⟩ := own_row9 own (by simp)
  rw [List.length_append, List.length_singleton] at hcap ⊢
  have HR := hid_mk hrow
  have B1 := hid_mk hb
  have hb1 := hb.size
  unfold maxLen at hcm
  have cl := HR.out P.length p (by simp)
  have hge := (L0.out.below B1.out).err
  clear hb own hrow S0
  by_cases h0 : P.length = 0
  · have hq : Q (.panicked [{ v := .iface 138 (.pointer (some ae)), recovered := false }]) w1 := HQ.out _ _ (CQ.bad (by rw [PG.out, if_pos (.inl (by omega))]) B1.out)
    have hz : (P.length : Int) = 0 := by omega
    have hz2 : ((P.length : Int) == 0) = true := by simp [h0]
    go_wp2
    exact ⟨rfl, hq⟩
  have hz2 : ((P.length : Int) == 0) = false := by simpa using h0
  by_cases hp : p = []
  · subst hp
    have hpe : ((bs ([] : List UInt8)).toList == (bs []).toList) = true := by simp
    have PM : Hid (progC l = mapR P) := by
      rw [PG.out, if_neg (by simpa using h0)]; exact hid_mk rfl
    have hmk := run_makeInss P.length (by omega)
    clear PG hge
    have hci : (P.length : Int) ≤ (cap : Int) := by omega
    go_wp2
    have O1 := hid_mk (made_outI w1 P.length #[.int .i64 0, .int .i64 0, .int .i64 0, .int .i64 0, .int .i64 0] 25 [])
    have B2 : Hid (Below w1.heap.size w1 (w1.alloc (.cells (madeCells #[.int .i64 0, .int .i64 0, .int .i64 0, .int .i64 0, .int .i64 0] (P.length * 5)) 25))) := (Below.refl _ _).alloc (Nat.le_refl _) _
    generalize w1.alloc (.cells (madeCells #[.int .i64 0, .int .i64 0, .int .i64 0, .int .i64 0, .int .i64 0] (P.length * 5)) 25) = w2 at O1 B2
    clear hmk
    go_loopw [29] (fun c wr => ∃ (k : Nat) (X : List In), k ≤ P.length ∧ X.length = k ∧ c = .int .i64 (k : Int) ∧ Hid (mapR (P.take k) = some X) ∧ Hid (OutI wr w1.heap.size P.length k X) ∧ Hid (Below w1.heap.size w1 wr)) (fun c _ => P.length - (intOf c).toNat)
    case atStart => exact ⟨0, [], Nat.zero_le _, rfl, rfl, by simp [Hid, mapR], O1.out, B2.out⟩
    case round =>
      clear O1 B2
      obtain ⟨k, X, hk, hX, rfl, MM, O, B⟩ := hrel
      by_cases hlt : k < P.length
      · obtain ⟨y, hy⟩ : ∃ y, P[k]? = some y := ⟨P[k], List.getElem?_eq_getElem hlt⟩
        have hyl := HPL.out y (List.mem_of_getElem? hy)
        have ck := (B.out.cell (p := ⟨g, k, none⟩) hg1).trans (HR.out k y (by rw [List.getElem?_append_left hlt]; exact hy))
        have BW : Hid (Below w.heap.size w wr) := B1.out.trans (B.out.mono hb1)
        have s5 := insOfLine_any y hyl ae wr (L0.out.below BW.out)
        cases hr : readL y with
        | none =>
          simp only [hr, endI_none] at s5
          have S5 := hid_mk s5
          have PN : Hid (progC l = none) := by rw [PM.out, mapR_bad hy hr]; exact hid_mk rfl
          clear s5 hr hy
          go_wp2_with (go_at_call 41; refine S5.out.mono ?_; rintro e w6 ⟨rfl, hb⟩)
          go_wp2
          exact ⟨rfl, HQ.out _ _ (CQ.bad PN.out (BW.out.trans (hb.mono BW.out.size)))⟩
        | some x =>
          simp only [hr, endI_some, insV] at s5
          have S5 := hid_mk s5
          have M2 := hid_mk (mapR_next hy MM.out hr)
          clear s5 hr hy
          go_wp2_with (go_at_call 41; refine S5.out.mono ?_; rintro e w6 ⟨rfl, hb⟩; refine Hid.out ?_)
          refine Lib.hid ?_
          have O6 : Hid (OutI w6 w1.heap.size P.length k (X ++ [x])) := (O.out.below hb).more hX x
          have B6 : Hid (Below w1.heap.size w1 w6) := B.out.trans (hb.mono B.out.size)
          clear hb ck
          obtain ⟨v0, e0⟩ := Option.isSome_iff_exists.1 (O6.out.has (k * 5) (by omega))
          obtain ⟨v1, e1⟩ := Option.isSome_iff_exists.1 (O6.out.has (k * 5 + 1) (by omega))
          obtain ⟨v2, e2⟩ := Option.isSome_iff_exists.1 (O6.out.has (k * 5 + 2) (by omega))
          obtain ⟨v3, e3⟩ := Option.isSome_iff_exists.1 (O6.out.has (k * 5 + 3) (by omega))
          obtain ⟨v4, e4⟩ := Option.isSome_iff_exists.1 (O6.out.has (k * 5 + 4) (by omega))
          have f0 := O6.out.fr (k * 5) (by omega)
          have f1 := O6.out.fr (k * 5 + 1) (by omega)
          have f2 := O6.out.fr (k * 5 + 2) (by omega)
          have f3 := O6.out.fr (k * 5 + 3) (by omega)
          have f4 := O6.out.fr (k * 5 + 4) (by omega)
          go_wp2
          go_roundw
          case rel =>
            refine ⟨k + 1, X ++ [x], hlt, by simp [hX], by go_num, M2.out, O6.out.set hlt (by rw [List.getElem?_append_right (by omega), hX]; simp), hid_mk ?_⟩
            repeat' (first | (with_reducible exact B6.out) | (refine Below.setCell ?_ (by show w1.heap.size ≤ w1.heap.size; exact Nat.le_refl _) _))
          case measure => simp [intOf]; omega
      · obtain rfl : k = P.length := by omega
        have hM : mapR P = some X := by
          have := MM.out
          rwa [List.take_of_length_le (Nat.le_refl _)] at this
        have hq : Q (.returned (.slice (some ⟨w1.heap.size, 0, none⟩) P.length P.length)) wr := HQ.out _ _ (CQ.good (PM.out.trans hM) hb1 hX O.out (B1.out.trans (B.out.mono hb1)))
        go_wp2
        exact hq
  · have hpe : ((bs p).toList == (bs []).toList) = false := ne_bs hp
    have hq : Q (.panicked [{ v := .iface 138 (.pointer (some ae)), recovered := false }]) w1 := HQ.out _ _ (CQ.bad (by rw [PG.out, if_pos (.inr (by simpa using hp))]) B1.out)
    go_wp2
    exact ⟨rfl, hq⟩

theorem catchC_panicking (k q : Nat) (hne : k ≠ q) (v0 : Value) (t : Bool) (u : TypeId) (pv : Value) (older : List PanicEntry) (w : World) (c0 : w.cell? ⟨k, 0, none⟩ = some v0) (f0 : w.frozen? ⟨k, 0, none⟩ = false) (hc : w.cell? ⟨q, 0, none⟩ = some (.bool t)) (hz : w.frozen? ⟨q, 0, none⟩ = false) :
    CallsD Tryd.prog 49 #[.pointer (some ⟨k, 0, none⟩), .pointer (some ⟨q, 0, none⟩)] (.panicking ({ v := .iface u pv, recovered := false } :: older)) w fun e u' w' =>
      e = .returned (.tuple #[]) ∧ u' = .panicking ({ v := .iface u pv, recovered := true } :: older) ∧ w' = (w.setCell ⟨k, 0, none⟩ (.slice none 0 0)).setCell ⟨q, 0, none⟩ (.bool false) := by
  refine callsD_of_wpS Tryd.func49 rfl fun c₀ cs hu => ?_
  apply wpS_seq
  apply wpS_region
  simp [wpOpsS, go_sem, recoverD, hu, Tryd.ntmps49, Exit.thenS]
  refine wpS_cond (t := true) (by simp [Act.eval, Array.replicate]) ?_
  simp only [if_true]
  apply wpS_region
  simp [wpOpsS, go_sem, c0, f0, hc, hz, bodyPostS, results, Tryd.results49]

theorem catchC_idle (p q : Addr) (w : World) :
    CallsD Tryd.prog 49 #[.pointer (some p), .pointer (some q)] .returning w fun e u' w' => e = .returned (.tuple #[]) ∧ u' = .returning ∧ w' = w := by
  refine callsD_of_wpS Tryd.func49 rfl fun c₀ cs hu => ?_
  apply wpS_seq
  apply wpS_region
  simp [wpOpsS, go_sem, recoverD, hu, Tryd.ntmps49, Exit.thenS]
  refine wpS_cond (t := false) (by simp [Act.eval, Array.replicate]) ?_
  simp only [Bool.false_eq_true, if_false]
  refine wpS_of_wp (wp_skip ?_)
  cases c₀
  simp_all [bodyPostS, results, Tryd.results49]

/-- A list in new memory that may be written, or none. -/
def Ans (w0 w : World) (v : Value) (L : List In) : Prop := (v = .slice none 0 0 ∧ L = []) ∨ ∃ q, v = .slice (some ⟨q, 0, none⟩) L.length L.length ∧ w0.heap.size ≤ q ∧ OutI w q L.length L.length L

set_option maxHeartbeats 2000000 in
theorem implCodeRead_any (l : List UInt8) (hl : l.length ≤ 1048576) (ae : Addr) (w : World) (hL : LayE ae w) :
    Calls Tryd.prog 20 #[.string (bs l)] w fun e w' => ∃ v, e = .returned (.tuple #[v, .bool (readC l).isSome]) ∧ Ans w w' v ((readC l).getD []) ∧ Below w.heap.size w w' := by
  have hmf : ∀ (fn : Fn) (first cap : Array Value) (w : World), (Instr.makeFunc fn first cap).run Tryd.prog w = .ok (.func fn first cap) w := fun _ _ _ _ => rfl
  have B0 : Hid (Below w.heap.size w ((w.alloc (.cells #[.slice none 0 0] 32)).alloc (.cells #[.bool false] 4))) := ((Below.refl _ _).alloc (Nat.le_refl _) _).alloc (by simp) _
  have A0 : Hid (((w.alloc (.cells #[.slice none 0 0] 32)).alloc (.cells #[.bool false] 4)).cell? ⟨w.heap.size, 0, none⟩ = some (.slice none 0 0)) := by simp [Hid]
  have A1 : Hid (((w.alloc (.cells #[.slice none 0 0] 32)).alloc (.cells #[.bool false] 4)).frozen? ⟨w.heap.size, 0, none⟩ = false) := by simp [Hid]
  have C0 : Hid (((w.alloc (.cells #[.slice none 0 0] 32)).alloc (.cells #[.bool false] 4)).cell? ⟨w.heap.size + 1, 0, none⟩ = some (.bool false)) := by simp [Hid]
  have C1 : Hid (((w.alloc (.cells #[.slice none 0 0] 32)).alloc (.cells #[.bool false] 4)).frozen? ⟨w.heap.size + 1, 0, none⟩ = false) := by simp [Hid]
  have C2 : Hid (w.heap.size + 1 < ((w.alloc (.cells #[.slice none 0 0] 32)).alloc (.cells #[.bool false] 4)).heap.size) := by simp [Hid]
  have C3 : Hid (w.heap.size < ((w.alloc (.cells #[.slice none 0 0] 32)).alloc (.cells #[.bool false] 4)).heap.size) := by simp [Hid]; omega
  have s := codeOfText_any l hl ae _ (hL.below B0.out)
  simp only [CQ, prog_read] at s
  cases hr : readC l with
  | none =>
    simp only [hr] at s
    have S := hid_mk s
    simp only [Option.isSome_none, Option.getD_none]
    clear s hr hL hl
    go_enter_defers Tryd.func20, Tryd.ntmps20
    go_wp2_with (go_at_call 50; refine S.out.mono ?_; rintro e w1 ⟨rfl, hb⟩)
    have c4 := (hb.cell C3.out).trans A0.out
    have f4 := (hb.frozen C3.out).trans A1.out
    have c5 := (hb.cell C2.out).trans C0.out
    have f5 := (hb.frozen C2.out).trans C1.out
    have B1 := B0.out.trans (hb.mono B0.out.size)
    refine leaves_cons (f := 49) (args := #[.pointer (some ⟨w.heap.size, 0, none⟩), .pointer (some ⟨w.heap.size + 1, 0, none⟩)]) (by simp) (by simp [go_sem]) ?_
    refine (catchC_panicking w.heap.size (w.heap.size + 1) (by omega) _ false _ _ [] _ c4 f4 c5 f5).mono ?_
    rintro e u' w2 ⟨rfl, rfl, rfl⟩
    simp [Leaves, settle, results, Tryd.results20, go_sem, c4, c5]
    exact ⟨.inl ⟨rfl, rfl⟩, Below.setCell (Below.setCell B1 (Nat.le_refl _) _) (Nat.le_succ _) _⟩
  | some L =>
    simp only [hr] at s
    have S := hid_mk s
    simp only [Option.isSome_some, Option.getD_some]
    clear s hr hL hl
    go_enter_defers Tryd.func20, Tryd.ntmps20
    go_wp2_with (go_at_call 50; refine S.out.mono ?_; rintro e w1 ⟨⟨q, rfl, hq, hO⟩, hb⟩; refine Hid.out ?_)
    refine Lib.hid ?_
    have c4 := (hb.cell C3.out).trans A0.out
    have f4 := (hb.frozen C3.out).trans A1.out
    have c5 := (hb.cell C2.out).trans C0.out
    have f5 := (hb.frozen C2.out).trans C1.out
    have B1 := hid_mk (B0.out.trans (hb.mono B0.out.size))
    have OO := hid_mk hO
    have hq1 : w.heap.size + 1 < q := Nat.lt_of_lt_of_le C2.out hq
    clear hb hO hq
    go_wp2
    refine leaves_cons (f := 49) (args := #[.pointer (some ⟨w.heap.size, 0, none⟩), .pointer (some ⟨w.heap.size + 1, 0, none⟩)]) (by simp) (by simp [go_sem]) ?_
    refine (catchC_idle ⟨w.heap.size, 0, none⟩ ⟨w.heap.size + 1, 0, none⟩ _).mono ?_
    rintro e u' w2 ⟨rfl, rfl, rfl⟩
    simp [Leaves, settle, results, Tryd.results20, go_sem, c4, c5]
    refine ⟨.inr ⟨q, rfl, by omega, ?_⟩, Below.setCell (Below.setCell B1.out (Nat.le_refl _) _) (Nat.le_succ _) _⟩
    exact (OO.out.other (b := w.heap.size) (by omega) 0 _).other (by omega) 0 _
end Go.Proofs.YtdcghcbliajcpaaDoor
