/- MemoryNew of the specification: what it answers. No condition. · szMemory, toMemory, eqMemory, markMemory, heldMemory and sameWords of the laws. No condition but that the lists are no longer than the law lets them be. · markMemory and heldMemory of the laws: what is marked is held. No condition but that the lists are no longer than the law lets them be. · toMemory, markMemory and heldMemory of the laws: memories of the call's own; what is marked is held. No condition but that the lists are no longer than the law lets them be. · Facts on a world, each of which hangs on some blocks alone, kept as a list over what turns; memories that a call has answered. No condition. · Cells of a block kept as a list of values, whatever the struct; a slice of words that came in, that a call has answered, as facts. No condition. · markMemory and heldMemory of the laws at a memory that a call has answered, nil rows too: what is marked is held. No condition but that the lists are no longer than the law lets them be. -/
import Derived.Test.YtneohabkoighcaaGreatMem
import Derived.Test.YtneohabkoighcaaGreatMarkB
import Derived.Test.YtneohabkoighcaaGreatWMath
import Derived.Lib.Hide
import Derived.Test.YtneohabkoighcaaGreatFct
namespace Go.Proofs.YtneohabkoighcaaGreat
open Go.ChangeShapes Go.WideShapes Go.ChangeAt Go.RowKit
set_option maxRecDepth 100000

theorem made_cell (z : Array Value) (n i : Nat) (h : i < n) (T : TypeId) (w : World) : (w.alloc (.cells (madeCells z n) T)).cell? ⟨w.heap.size, i, none⟩ = some z[i % z.size]! := by
  rw [World.cell?_alloc_new]
  simp [madeCells, h]
theorem made_fullW (w : World) (len : Nat) (T : TypeId) : OutW (w.alloc (.cells (madeCells #[.int .i64 0, .bool false, .int .i64 0, .int .i64 0, .int .i64 0, .int .i64 0] (len * 6)) T)) w.heap.size len len (List.replicate len wd0) := by
  have h0 := made_out w len #[.int .i64 0, .bool false, .int .i64 0, .int .i64 0, .int .i64 0, .int .i64 0] T (List.replicate len wd0)
  refine ⟨h0.lt, h0.has, h0.fr, fun j x hj hx => ?_⟩
  obtain rfl : wd0 = x := by
    rw [List.getElem?_replicate_of_lt hj] at hx
    exact Option.some.inj hx
  have c := fun i (hi : i < 6) => made_cell #[.int .i64 0, .bool false, .int .i64 0, .int .i64 0, .int .i64 0, .int .i64 0] (len * 6) (j * 6 + i) (by omega) T w
  have e : ∀ i, i < 6 → (j * 6 + i) % 6 = i := fun i hi => by omega
  refine ⟨?_, ?_, ?_, ?_, ?_, ?_⟩
  · have := c 0 (by omega); rw [show (#[Value.int .i64 0, .bool false, .int .i64 0, .int .i64 0, .int .i64 0, .int .i64 0] : Array Value).size = 6 from rfl, e 0 (by omega)] at this; exact this
  · have := c 1 (by omega); rw [show (#[Value.int .i64 0, .bool false, .int .i64 0, .int .i64 0, .int .i64 0, .int .i64 0] : Array Value).size = 6 from rfl, e 1 (by omega)] at this; exact this
  · have := c 2 (by omega); rw [show (#[Value.int .i64 0, .bool false, .int .i64 0, .int .i64 0, .int .i64 0, .int .i64 0] : Array Value).size = 6 from rfl, e 2 (by omega)] at this; exact this
  · have := c 3 (by omega); rw [show (#[Value.int .i64 0, .bool false, .int .i64 0, .int .i64 0, .int .i64 0, .int .i64 0] : Array Value).size = 6 from rfl, e 3 (by omega)] at this; exact this
  · have := c 4 (by omega); rw [show (#[Value.int .i64 0, .bool false, .int .i64 0, .int .i64 0, .int .i64 0, .int .i64 0] : Array Value).size = 6 from rfl, e 4 (by omega)] at this; exact this
  · have := c 5 (by omega); rw [show (#[Value.int .i64 0, .bool false, .int .i64 0, .int .i64 0, .int .i64 0, .int .i64 0] : Array Value).size = 6 from rfl, e 5 (by omega)] at this; exact this
theorem made_fullB (w : World) (len : Nat) (T : TypeId) : OutB (w.alloc (.cells (madeCells #[.bool false] len) T)) w.heap.size len len (List.replicate len false) := by
  have h0 := made_outB w len #[.bool false] T (List.replicate len false)
  refine ⟨h0.lt, h0.has, h0.fr, fun j x hj hx => ?_⟩
  obtain rfl : false = x := by
    rw [List.getElem?_replicate_of_lt hj] at hx
    exact Option.some.inj hx
  have := made_cell #[.bool false] len j hj T w
  rw [show (#[Value.bool false] : Array Value).size = 1 from rfl, Nat.mod_one] at this
  exact this
theorem OutW.keepB {w w' : World} {q len k b : Nat} {L : List Wd} (h : OutW w q len k L) (g : KeepBut b w w') (hb : q ≠ b) : OutW w' q len k L :=
  ⟨Nat.lt_of_lt_of_le h.lt g.size, fun i hi => by rw [g.cell (p := ⟨q, i, none⟩) h.lt hb]; exact h.has i hi, fun i hi => by rw [g.frozen (p := ⟨q, i, none⟩) h.lt hb]; exact h.fr i hi, fun j x hj hx => by
    refine WordAt.of_vs fun m v hm => ?_
    exact (g.cell (p := ⟨q, j * 6 + m, none⟩) h.lt hb).trans ((h.wd j x hj hx).vs m v hm)⟩

/-- A memory of the call's own: its two rows may be written. -/
structure OwnM (w0 : World) (q q' n n' : Nat) (L : List Wd) (G : List Bool) (w : World) : Prop where
  ws : OutW w q n n L
  gs : OutB w q' n' n' G
  lw : L.length = n
  lg : G.length = n'
  ne : q ≠ q'
  nq : w0.heap.size ≤ q
  nq' : w0.heap.size ≤ q'
  bel : Below w0.heap.size w0 w
section
variable {w0 w w' : World} {q q' n n' : Nat} {L : List Wd} {G : List Bool}
theorem OwnM.next (h : OwnM w0 q q' n n' L G w) (hb : Below w.heap.size w w') : OwnM w0 q q' n n' L G w' :=
  ⟨h.ws.below hb, h.gs.below hb, h.lw, h.lg, h.ne, h.nq, h.nq', h.bel.trans (hb.mono h.bel.size)⟩
theorem OwnM.keep {b : Nat} (h : OwnM w0 q q' n n' L G w) (k : KeepBut b w w') (h1 : q ≠ b) (h2 : q' ≠ b) (h0 : w0.heap.size ≤ b) : OwnM w0 q q' n n' L G w' :=
  ⟨h.ws.keepB k h1, h.gs.keepB k h2, h.lw, h.lg, h.ne, h.nq, h.nq', h.bel.trans (k.below h0 h.bel.size)⟩
theorem OwnM.mem (h : OwnM w0 q q' n n' L G w) (hn : n ≤ 1048576) (hn' : n' ≤ 1048576) : MemS w (some ⟨q, 0, none⟩) n (some ⟨q', 0, none⟩) n' L G :=
  ⟨h.ws.slice h.lw (by unfold maxLen; omega), h.gs.slice h.lg (by unfold maxLen; omega)⟩
end

theorem new_two (w : World) (o : Obj) (T U : TypeId) : OwnM w (w.heap.size + 1) (w.heap.size + 1 + 1) 24 24 (List.replicate 24 wd0) (List.replicate 24 false)
    (((w.alloc o).alloc (.cells (madeCells #[.int .i64 0, .bool false, .int .i64 0, .int .i64 0, .int .i64 0, .int .i64 0] 144) T)).alloc (.cells (madeCells #[.bool false] 24) U)) := by
  have e1 : (w.alloc o).heap.size = w.heap.size + 1 := World.size_alloc ..
  have h1 := made_fullW (w.alloc o) 24 T
  have e2 : ((w.alloc o).alloc (.cells (madeCells #[.int .i64 0, .bool false, .int .i64 0, .int .i64 0, .int .i64 0, .int .i64 0] (24 * 6)) T)).heap.size = w.heap.size + 1 + 1 := by rw [World.size_alloc, e1]
  have h2 := made_fullB ((w.alloc o).alloc (.cells (madeCells #[.int .i64 0, .bool false, .int .i64 0, .int .i64 0, .int .i64 0, .int .i64 0] (24 * 6)) T)) 24 U
  have b : Below w.heap.size w (((w.alloc o).alloc (.cells (madeCells #[.int .i64 0, .bool false, .int .i64 0, .int .i64 0, .int .i64 0, .int .i64 0] (24 * 6)) T)).alloc (.cells (madeCells #[.bool false] 24) U)) := (((Below.refl _ w).alloc (Nat.le_refl _) _).alloc (by rw [e1]; omega) _).alloc (by rw [e2]; omega) _
  rw [e1] at h1
  rw [e2] at h2
  exact ⟨h1.below ((Below.refl _ _).alloc (Nat.le_refl _) _), h2, by simp, by simp, by omega, by omega, by omega, b⟩
theorem new_two' (w : World) (o : Obj) (T U : TypeId) : OwnM w (w.heap.size + 1 + 1) (w.heap.size + 1) 24 24 (List.replicate 24 wd0) (List.replicate 24 false)
    (((w.alloc o).alloc (.cells (madeCells #[.bool false] 24) U)).alloc (.cells (madeCells #[.int .i64 0, .bool false, .int .i64 0, .int .i64 0, .int .i64 0, .int .i64 0] 144) T)) := by
  have e1 : (w.alloc o).heap.size = w.heap.size + 1 := World.size_alloc ..
  have h1 := made_fullB (w.alloc o) 24 U
  have e2 : ((w.alloc o).alloc (.cells (madeCells #[.bool false] 24) U)).heap.size = w.heap.size + 1 + 1 := by rw [World.size_alloc, e1]
  have h2 := made_fullW ((w.alloc o).alloc (.cells (madeCells #[.bool false] 24) U)) 24 T
  have b : Below w.heap.size w (((w.alloc o).alloc (.cells (madeCells #[.bool false] 24) U)).alloc (.cells (madeCells #[.int .i64 0, .bool false, .int .i64 0, .int .i64 0, .int .i64 0, .int .i64 0] (24 * 6)) T)) := (((Below.refl _ w).alloc (Nat.le_refl _) _).alloc (by rw [e1]; omega) _).alloc (by rw [e2]; omega) _
  rw [e1] at h1
  rw [e2] at h2
  exact ⟨h2, h1.below ((Below.refl _ _).alloc (Nat.le_refl _) _), by simp, by simp, by omega, by omega, by omega, b⟩

set_option maxHeartbeats 2000000 in
theorem specMemoryNew_any (w : World) :
    Calls Tryz.prog 133 #[] w fun e w' => ∃ q q', e = .returned (.agg #[.slice (some ⟨q, 0, none⟩) 24 24, .slice (some ⟨q', 0, none⟩) 24 24]) ∧ OwnM w q q' 24 24 (List.replicate 24 wd0) (List.replicate 24 false) w' := by
  have hw : ∀ w : World, (Instr.makeSlice 24 (.int .i64 24) (.int .i64 24)).run Tryz.prog w = .ok (.slice (some ⟨w.heap.size, 0, none⟩) 24 24) (w.alloc (.cells (madeCells #[.int .i64 0, .bool false, .int .i64 0, .int .i64 0, .int .i64 0, .int .i64 0] (24 * 6)) 28)) := fun w => run_makeWords 24 (by decide) w
  have hb : ∀ w : World, (Instr.makeSlice 29 (.int .i64 24) (.int .i64 24)).run Tryz.prog w = .ok (.slice (some ⟨w.heap.size, 0, none⟩) 24 24) (w.alloc (.cells (madeCells #[.bool false] 24) 4)) := fun w => run_makeBools 24 (by decide) w
  go_enter Tryz.func133, Tryz.ntmps133
  go_wp2_with fail
  go_region
  · go_wp2
    refine bodyPost_ret (v := .agg #[.slice (some ⟨w.heap.size + 1, 0, none⟩) 24 24, .slice (some ⟨w.heap.size + 1 + 1, 0, none⟩) 24 24]) (by simp [results, Tryz.results133, go_sem]) rfl ⟨_, _, rfl, ?_⟩
    have h := new_two w (.cells #[.slice (some ⟨w.heap.size + 1, 0, none⟩) 24 24, .slice (some ⟨w.heap.size + 1 + 1, 0, none⟩) 24 24] 31) 28 4
    exact h.next (Below.refl _ _).drew
  · go_wp2
    refine bodyPost_ret (v := .agg #[.slice (some ⟨w.heap.size + 1 + 1, 0, none⟩) 24 24, .slice (some ⟨w.heap.size + 1, 0, none⟩) 24 24]) (by simp [results, Tryz.results133, go_sem]) rfl ⟨_, _, rfl, ?_⟩
    have h := new_two' w (.cells #[.slice (some ⟨w.heap.size + 1 + 1, 0, none⟩) 24 24, .slice (some ⟨w.heap.size + 1, 0, none⟩) 24 24] 31) 28 4
    exact h.next (Below.refl _ _).drew
end Go.Proofs.YtneohabkoighcaaGreat

namespace Go.Proofs.YtneohabkoighcaaGreat
open Go.ChangeShapes Go.WideShapes Go.ChangeAt Go.RowKit
set_option maxRecDepth 100000

/-- A memory's block beside what was there at first. -/
structure Mb (w0 : World) (r : Nat) (v0 v1 : Value) (w : World) : Prop where
  d : Duo w r v0 v1
  bel : Below w0.heap.size w0 w
theorem Mb.new (w : World) (v0 v1 : Value) (T : TypeId) : Mb w w.heap.size v0 v1 (w.alloc (.cells #[v0, v1] T)) := ⟨Duo.new w v0 v1 T, (Below.refl _ _).alloc (Nat.le_refl _) _⟩
theorem Mb.next {w0 w w' : World} {r : Nat} {v0 v1 : Value} (h : Mb w0 r v0 v1 w) (hb : Below w.heap.size w w') : Mb w0 r v0 v1 w' := ⟨h.d.below hb, h.bel.trans (hb.mono h.bel.size)⟩

set_option maxHeartbeats 2000000 in
theorem szMemory_any (a : Option Addr) (n c : Nat) (a' : Option Addr) (n' c' : Nat) (hn : n ≤ maxLen) (hn' : n' ≤ maxLen) (w : World) :
    Calls Tryz.prog 52 #[.agg #[.slice a n c, .slice a' n' c'], .int .i64 1048576] w fun e w' => e = .returned (.int .i64 (if n + n' ≤ 1048576 then 1048576 - (n : Int) - (n' : Int) else -1)) ∧ Below w.heap.size w w' := by
  have M0 := hid_mk (Mb.new w (.slice a n c) (.slice a' n' c') 59)
  have s1 := fun w => szWordS_any a n c w hn
  by_cases h1 : n ≤ 1048576
  · have s2 := fun w => szBoolS_any a' n' c' (1048576 - (n : Int)) (by omega) (by omega) w hn'
    simp only [if_pos h1] at s1
    obtain ⟨m, hm⟩ : ∃ m : Int, m = 1048576 - (n : Int) := ⟨_, rfl⟩
    rw [← hm] at s1 s2
    have hm0 : 0 ≤ m := by omega
    have hm1 : m ≤ 1048576 := by omega
    by_cases h2 : n + n' ≤ 1048576
    · have h3 : (n' : Int) ≤ m := by omega
      rw [if_pos h2, show 1048576 - (n : Int) - (n' : Int) = m - (n' : Int) by omega]
      simp only [if_pos h3] at s2
      have S1 := hid_mk s1
      have S2 := hid_mk s2
      obtain ⟨u, hu⟩ : ∃ u : Int, u = m - (n' : Int) := ⟨_, rfl⟩
      rw [← hu] at S2 ⊢
      have hu0 : 0 ≤ u := by omega
      clear s1 s2 hm hu hn hn' h1 h2 h3
      go_enter Tryz.func52, Tryz.ntmps52
      go_wp2_with (go_at_call 51; refine (S1.out _).mono ?_; rintro e w1 ⟨rfl, rfl⟩)
      go_wp2_with (go_at_call 89; refine (S2.out _).mono ?_; rintro e w1 ⟨rfl, rfl⟩)
      go_wp2
      go_ret
      exact ⟨rfl, M0.out.bel⟩
    · have h3 : ¬ (n' : Int) ≤ m := by omega
      rw [if_neg h2]
      simp only [if_neg h3] at s2
      have S1 := hid_mk s1
      have S2 := hid_mk s2
      clear s1 s2 hm hn hn' h1 h2 h3
      go_enter Tryz.func52, Tryz.ntmps52
      go_wp2_with (go_at_call 51; refine (S1.out _).mono ?_; rintro e w1 ⟨rfl, rfl⟩)
      go_wp2_with (go_at_call 89; refine (S2.out _).mono ?_; rintro e w1 ⟨rfl, rfl⟩)
      go_wp2
      go_ret
      exact ⟨rfl, M0.out.bel⟩
  · rw [if_neg (by omega)]
    simp only [if_neg h1] at s1
    have S1 := hid_mk s1
    clear s1
    go_enter Tryz.func52, Tryz.ntmps52
    go_wp2_with (go_at_call 51; refine (S1.out _).mono ?_; rintro e w1 ⟨rfl, rfl⟩)
    go_wp2
    go_ret
    exact ⟨rfl, M0.out.bel⟩

set_option maxHeartbeats 4000000 in
theorem eqMemory_same (a b : Option Addr) (n c d : Nat) (a' b' : Option Addr) (n' c' d' : Nat) (L : List Wd) (G : List Bool) (w : World) (hM : MemS w a n a' n' L G) (hN : MemS w b n b' n' L G) :
    Calls Tryz.prog 62 #[.agg #[.slice a n c, .slice a' n' c'], .agg #[.slice b n d, .slice b' n' d']] w fun e w' => e = .returned (.bool true) ∧ Below w.heap.size w w' := by
  have B0 : Hid (Below w.heap.size w ((w.alloc (.cells #[.slice a n c, .slice a' n' c'] 31)).alloc (.cells #[.slice b n d, .slice b' n' d'] 31))) := ((Below.refl _ _).alloc (Nat.le_refl _) _).alloc (by simp) _
  have D0 := hid_mk ((Duo.new w (.slice a n c) (.slice a' n' c') 31).alloc (.cells #[.slice b n d, .slice b' n' d'] 31))
  have E0 : Hid (Duo ((w.alloc (.cells #[.slice a n c, .slice a' n' c'] 31)).alloc (.cells #[.slice b n d, .slice b' n' d'] 31)) (w.heap.size + 1) (.slice b n d) (.slice b' n' d')) := by
    have h := Duo.new (w.alloc (.cells #[.slice a n c, .slice a' n' c'] 31)) (.slice b n d) (.slice b' n' d') 31
    rw [World.size_alloc] at h
    exact h
  have SA := hid_mk hM
  have SB := hid_mk hN
  clear hM hN
  generalize hw1 : (w.alloc (.cells #[.slice a n c, .slice a' n' c'] 31)).alloc (.cells #[.slice b n d, .slice b' n' d'] 31) = w1 at B0 D0 E0
  go_enter Tryz.func62, Tryz.ntmps62
  go_upto_region 1 with fail
  clear hw1
  obtain ⟨_, m0, m1, _, _⟩ := D0.out
  obtain ⟨_, e0, e1, _, _⟩ := E0.out
  go_wp2_with fail
  refine (eqWordS_same a b n c d L _ ((SA.out.ws.keep B0.out).mono B0.out.size) ((SB.out.ws.keep B0.out).mono B0.out.size)).mono ?_
  rintro e w2 ⟨rfl, hb2⟩
  have B2 := hid_mk (B0.out.trans (hb2.mono B0.out.size))
  have D2 := hid_mk (D0.out.below hb2)
  have E2 := hid_mk (E0.out.below hb2)
  clear hb2 m0 m1 e0 e1 B0 D0 E0
  obtain ⟨_, m0, m1, _, _⟩ := D2.out
  obtain ⟨_, e0, e1, _, _⟩ := E2.out
  go_wp2_with fail
  refine (eqBoolS_same a' b' n' c' d' G _ ((SA.out.gs.keep B2.out).mono B2.out.size) ((SB.out.gs.keep B2.out).mono B2.out.size)).mono ?_
  rintro e w3 ⟨rfl, hb3⟩
  have B3 := hid_mk (B2.out.trans (hb3.mono B2.out.size))
  clear hb3 B2 D2 E2 m0 m1 e0 e1
  go_wp2
  go_ret
  exact ⟨rfl, B3.out⟩

end Go.Proofs.YtneohabkoighcaaGreat

namespace Go.Proofs.YtneohabkoighcaaGreat
open Go.ChangeShapes Go.WideShapes Go.ChangeAt Go.RowKit
set_option maxRecDepth 100000

/-- Of what was there nothing has turned but two blocks. -/
structure Keep2 (q q' : Nat) (w w' : World) : Prop where
  os : w'.os = w.os
  tape : w'.tape = w.tape
  output : w'.output = w.output
  size : w.heap.size ≤ w'.heap.size
  block : ∀ k, k < w.heap.size → k ≠ q → k ≠ q' → w'.heap[k]? = w.heap[k]?
theorem Keep2.below {q q' B : Nat} {w w' : World} (h : Keep2 q q' w w') (hq : B ≤ q) (hq' : B ≤ q') (hB : B ≤ w.heap.size) : Below B w w' :=
  ⟨h.os, h.tape, h.output, h.size, fun k hk => h.block k (by omega) (by omega) (by omega)⟩
theorem KeepBut.two {q q' : Nat} {w w1 w' : World} (h : KeepBut q w w1) (g : KeepBut q' w1 w') : Keep2 q q' w w' :=
  ⟨g.os.trans h.os, g.tape.trans h.tape, g.output.trans h.output, Nat.le_trans h.size g.size, fun k hk h1 h2 => (g.block k (Nat.lt_of_lt_of_le hk h.size) h2).trans (h.block k hk h1)⟩

set_option maxHeartbeats 4000000 in
theorem markMem_any (q o n c q' o' n' c' : Nat) (L : List Wd) (G : List Bool) (hn : n ≤ 1048576) (hn' : n' ≤ 1048576) (hne : q ≠ q') (w : World) (hW : RowW w q o n n L) (hB : RowB w q' o' n' n' G) :
    Calls Tryz.prog 64 #[.agg #[.slice (some ⟨q, o, none⟩) n c, .slice (some ⟨q', o', none⟩) n' c'], .int .i64 1] w fun e w' => e = .returned (.int .i64 (1 + 6 * (n : Int) + (n' : Int))) ∧ RowW w' q o n n (marksW 1 n) ∧ RowB w' q' o' n' n' (marksB (1 + 6 * (n : Int)) n') ∧ Keep2 q q' w w' := by
  have M0 := hid_mk (Mb.new w (.slice (some ⟨q, o, none⟩) n c) (.slice (some ⟨q', o', none⟩) n' c') 31)
  have W0 := hid_mk ((hW.below M0.out.bel).first (marksW 1 n))
  have G0 := hid_mk ((hB.below M0.out.bel).first (marksB (1 + 6 * (n : Int)) n'))
  have K0 : Hid (KeepBut q w (w.alloc (.cells #[.slice (some ⟨q, o, none⟩) n c, .slice (some ⟨q', o', none⟩) n' c'] 31))) := (KeepBut.refl _ _).alloc _
  have hq := hW.lt
  have hq' := hB.lt
  clear hW hB
  obtain ⟨m, hm⟩ : ∃ m : Int, m = 1 + 6 * (n : Int) := ⟨_, rfl⟩
  rw [← hm] at G0 ⊢
  have hm0 : 1 ≤ m := by omega
  have hm1 : m ≤ 16777216 := by omega
  have HM := hid_mk hm
  clear hm
  generalize hw1 : w.alloc (.cells #[.slice (some ⟨q, o, none⟩) n c, .slice (some ⟨q', o', none⟩) n' c'] 31) = w1 at M0 W0 G0 K0
  go_enter Tryz.func64, Tryz.ntmps64
  go_upto_region 1 with fail
  clear hw1
  obtain ⟨_, m0, m1, _, _⟩ := M0.out.d
  go_wp2_with fail
  refine (markW_any q o n c 1 (by decide) (by decide) _ hn W0.out).mono ?_
  rintro e w2 ⟨rfl, hW2, hK2⟩
  rw [← HM.out]
  have M2 : Hid (Duo w2 w.heap.size (.slice (some ⟨q, o, none⟩) n c) (.slice (some ⟨q', o', none⟩) n' c')) := M0.out.d.keep hK2 (by omega)
  have G2 := hid_mk (G0.out.keepB hK2 (Ne.symm hne))
  have W2 := hid_mk hW2
  have K2 := hid_mk (K0.out.trans hK2)
  clear hW2 hK2 m0 m1 M0 W0 G0 K0
  obtain ⟨_, m0, m1, _, _⟩ := M2.out
  go_wp2_with fail
  refine (markB_any q' o' n' c' m hm0 hm1 _ hn' G2.out).mono ?_
  rintro e w3 ⟨rfl, hG3, hK3⟩
  have W3 := hid_mk (W2.out.keepB hK3 hne)
  have G3 := hid_mk hG3
  have K3 := hid_mk (K2.out.two hK3)
  clear hG3 hK3 m0 m1 M2 G2 W2 K2
  go_wp2
  go_ret
  exact ⟨rfl, W3.out, G3.out, K3.out⟩

set_option maxHeartbeats 4000000 in
theorem heldMem_any (a : Option Addr) (n c : Nat) (a' : Option Addr) (n' c' : Nat) (hn : n ≤ 1048576) (hn' : n' ≤ 1048576) (w : World) (hM : MemS w a n a' n' (marksW 1 n) (marksB (1 + 6 * (n : Int)) n')) :
    Calls Tryz.prog 98 #[.agg #[.slice a n c, .slice a' n' c'], .int .i64 1] w fun e w' => e = .returned (.int .i64 (1 + 6 * (n : Int) + (n' : Int))) ∧ Below w.heap.size w w' := by
  have M0 := hid_mk (Mb.new w (.slice a n c) (.slice a' n' c') 31)
  have S := hid_mk hM
  clear hM
  obtain ⟨m, hm⟩ : ∃ m : Int, m = 1 + 6 * (n : Int) := ⟨_, rfl⟩
  rw [← hm] at S ⊢
  have hm0 : 1 ≤ m := by omega
  have hm1 : m ≤ 16777216 := by omega
  have HM := hid_mk hm
  clear hm
  generalize hw1 : w.alloc (.cells #[.slice a n c, .slice a' n' c'] 31) = w1 at M0
  go_enter Tryz.func98, Tryz.ntmps98
  go_upto_region 1 with fail
  clear hw1
  obtain ⟨_, m0, m1, _, _⟩ := M0.out.d
  go_wp2_with fail
  refine (heldW_any a n c 1 (by decide) (by decide) _ hn ((S.out.ws.keep M0.out.bel).mono M0.out.bel.size)).mono ?_
  rintro e w2 ⟨rfl, hb2⟩
  rw [← HM.out]
  have M2 := hid_mk (M0.out.next hb2)
  clear hb2 m0 m1 M0
  obtain ⟨_, m0, m1, _, _⟩ := M2.out.d
  go_wp2_with fail
  refine (heldB_any a' n' c' m hm0 hm1 _ hn' ((S.out.gs.keep M2.out.bel).mono M2.out.bel.size)).mono ?_
  rintro e w3 ⟨rfl, hb3⟩
  have M3 := hid_mk (M2.out.next hb3)
  clear hb3 m0 m1 M2
  go_wp2
  go_ret
  exact ⟨rfl, M3.out.bel⟩
end Go.Proofs.YtneohabkoighcaaGreat

namespace Go.Proofs.YtneohabkoighcaaGreat
open Go.ChangeShapes Go.WideShapes Go.ChangeAt Go.RowKit
set_option maxRecDepth 100000

/-- Three memories' blocks, one behind the other, beside what was there at first. -/
structure Mt (w0 : World) (v0 v1 u0 u1 x0 x1 : Value) (w : World) : Prop where
  a : Duo w w0.heap.size v0 v1
  r : Duo w (w0.heap.size + 1) u0 u1
  o : Duo w (w0.heap.size + 1 + 1) x0 x1
  bel : Below w0.heap.size w0 w
section
variable {w0 w w' : World} {v0 v1 u0 u1 x0 x1 : Value}
theorem Mt.new (w : World) (v0 v1 u0 u1 x0 x1 : Value) (T U V : TypeId) : Mt w v0 v1 u0 u1 x0 x1 (((w.alloc (.cells #[v0, v1] T)).alloc (.cells #[u0, u1] U)).alloc (.cells #[x0, x1] V)) := by
  have h1 := Duo.new (w.alloc (.cells #[v0, v1] T)) u0 u1 U
  have h2 := Duo.new ((w.alloc (.cells #[v0, v1] T)).alloc (.cells #[u0, u1] U)) x0 x1 V
  rw [World.size_alloc] at h1
  rw [World.size_alloc, World.size_alloc] at h2
  exact ⟨((Duo.new w v0 v1 T).alloc _).alloc _, h1.alloc _, h2, (((Below.refl _ w).alloc (Nat.le_refl _) _).alloc (by simp) _).alloc (by simp; omega) _⟩
theorem Mt.next (h : Mt w0 v0 v1 u0 u1 x0 x1 w) (hb : Below w.heap.size w w') : Mt w0 v0 v1 u0 u1 x0 x1 w' := ⟨h.a.below hb, h.r.below hb, h.o.below hb, h.bel.trans (hb.mono h.bel.size)⟩
theorem Mt.set0 (h : Mt w0 v0 v1 u0 u1 x0 x1 w) (v : Value) : Mt w0 v0 v1 u0 u1 v x1 (w.setCell ⟨w0.heap.size + 1 + 1, 0, none⟩ v) :=
  ⟨h.a.other (by omega) 0 v, h.r.other (by omega) 0 v, h.o.set0 v, h.bel.setCell (p := ⟨w0.heap.size + 1 + 1, 0, none⟩) (by show w0.heap.size ≤ w0.heap.size + 1 + 1; omega) v⟩
theorem Mt.set1 (h : Mt w0 v0 v1 u0 u1 x0 x1 w) (v : Value) : Mt w0 v0 v1 u0 u1 x0 v (w.setCell ⟨w0.heap.size + 1 + 1, 1, none⟩ v) :=
  ⟨h.a.other (by omega) 1 v, h.r.other (by omega) 1 v, h.o.set1 v, h.bel.setCell (p := ⟨w0.heap.size + 1 + 1, 1, none⟩) (by show w0.heap.size ≤ w0.heap.size + 1 + 1; omega) v⟩
end

set_option maxHeartbeats 4000000 in
theorem toMemory_any (a : Option Addr) (n c : Nat) (a' : Option Addr) (n' c' : Nat) (L : List Wd) (G : List Bool) (w : World) (hn : n ≤ 1048576) (hn' : n' ≤ 1048576) (hM : MemS w a n a' n' L G) :
    Calls Tryz.prog 57 #[.agg #[.slice a n c, .slice a' n' c']] w fun e w' => ∃ q q', e = .returned (.agg #[.slice (some ⟨q, 0, none⟩) n n, .slice (some ⟨q', 0, none⟩) n' n']) ∧ OwnM w q q' n n' L G w' := by
  have T0 := hid_mk (Mt.new w (.slice a n c) (.slice a' n' c') (.slice none 0 0) (.slice none 0 0) (.slice none 0 0) (.slice none 0 0) 59 31 31)
  have S := hid_mk hM
  have hlw := hM.ws.2.1
  have hlg := hM.gs.2.1
  clear hM
  have hz1 : w.heap.size + 1 + 1 < (((w.alloc (.cells #[.slice a n c, .slice a' n' c'] 59)).alloc (.cells #[.slice none 0 0, .slice none 0 0] 31)).alloc (.cells #[.slice none 0 0, .slice none 0 0] 31)).heap.size := by simp
  generalize hw1 : ((w.alloc (.cells #[.slice a n c, .slice a' n' c'] 59)).alloc (.cells #[.slice none 0 0, .slice none 0 0] 31)).alloc (.cells #[.slice none 0 0, .slice none 0 0] 31) = w1 at T0 hz1
  go_enter Tryz.func57, Tryz.ntmps57
  go_upto_region 2 with fail
  clear hw1
  obtain ⟨_, m0, m1, _, _⟩ := T0.out.a
  obtain ⟨_, o0, o1, g0, g1⟩ := T0.out.o
  go_wp2_with fail
  refine (toWordS_own a n c L _ hn ((S.out.ws.keep T0.out.bel).mono T0.out.bel.size)).mono ?_
  rintro e w2 ⟨q, rfl, hq, hO, hb2⟩
  have T2 := hid_mk ((T0.out.next hb2).set0 (.slice (some ⟨q, 0, none⟩) n n))
  have O2 := hid_mk (hO.keepB ((KeepBut.refl (w.heap.size + 1 + 1) w2).setCell 0 (.slice (some ⟨q, 0, none⟩) n n)) (by omega))
  have hq2 := hO.lt
  obtain ⟨_, o0', o1', g0', g1'⟩ := T0.out.o.below hb2
  clear m0 m1 o0 o1 g0 g1 hO hb2 T0
  go_upto_region 3 with fail
  clear o0' o1' g0' g1'
  generalize hw3 : w2.setCell ⟨w.heap.size + 1 + 1, 0, none⟩ (.slice (some ⟨q, 0, none⟩) n n) = w3 at T2 O2 ⊢
  have hs3 : w3.heap.size = w2.heap.size := by rw [← hw3, World.size_setCell]
  clear hw3
  obtain ⟨_, m0, m1, _, _⟩ := T2.out.a
  go_wp2_with fail
  refine (toBoolS_own a' n' c' G _ hn' ((S.out.gs.keep T2.out.bel).mono T2.out.bel.size)).mono ?_
  rintro e w4 ⟨q', rfl, hq', hO', hb4⟩
  have T4 := hid_mk ((T2.out.next hb4).set1 (.slice (some ⟨q', 0, none⟩) n' n'))
  have P4 := hid_mk ((O2.out.below hb4).keepB ((KeepBut.refl (w.heap.size + 1 + 1) w4).setCell 1 (.slice (some ⟨q', 0, none⟩) n' n')) (by omega))
  have Q4 := hid_mk (hO'.keepB ((KeepBut.refl (w.heap.size + 1 + 1) w4).setCell 1 (.slice (some ⟨q', 0, none⟩) n' n')) (by omega))
  obtain ⟨_, o0', o1', g0', g1'⟩ := T2.out.o.below hb4
  clear m0 m1 hO' hb4 T2 O2
  go_upto_region 4 with fail
  clear o0' o1' g0' g1'
  generalize w4.setCell ⟨w.heap.size + 1 + 1, 1, none⟩ (.slice (some ⟨q', 0, none⟩) n' n') = w5 at T4 P4 Q4 ⊢
  obtain ⟨_, o0, o1, g0, g1⟩ := T4.out.o
  obtain ⟨_, r0, r1, h0, h1⟩ := T4.out.r
  go_wp2
  refine bodyPost_ret (v := .agg #[.slice (some ⟨q, 0, none⟩) n n, .slice (some ⟨q', 0, none⟩) n' n']) (by simp [results, Tryz.results57, go_sem, r0, r1]) rfl ⟨q, q', rfl, ?_⟩
  have k : KeepBut (w.heap.size + 1) w5 ((w5.setCell ⟨w.heap.size + 1, 0, none⟩ (.slice (some ⟨q, 0, none⟩) n n)).setCell ⟨w.heap.size + 1, 1, none⟩ (.slice (some ⟨q', 0, none⟩) n' n')) := ((KeepBut.refl _ _).setCell 0 _).setCell 1 _
  exact ⟨P4.out.keepB k (by omega), Q4.out.keepB k (by omega), hlw, hlg, by omega, by omega, by omega, T4.out.bel.trans (k.below (by omega) T4.out.bel.size)⟩
end Go.Proofs.YtneohabkoighcaaGreat

namespace Go.Proofs.YtneohabkoighcaaGreat
open Go.ChangeShapes Go.WideShapes Go.ChangeAt Go.RowKit
set_option maxRecDepth 100000

/-- Two cells. -/
def duoF (r : Nat) (v0 v1 : Value) : Fct where
  S := fun k => k = r
  p := fun w => Duo w r v0 v1
  keep := fun w w' h hs hb => by
    have e := hb r h.lt rfl
    exact ⟨Nat.lt_of_lt_of_le h.lt hs, (World.cell?_of_block e).trans h.c0, (World.cell?_of_block e).trans h.c1, (World.frozen?_of_block e).trans h.f0, (World.frozen?_of_block e).trans h.f1⟩
/-- A memory that came in: its slices lie below B. -/
structure ArgM (B : Nat) (a : Option Addr) (n : Nat) (a' : Option Addr) (n' : Nat) (L : List Wd) (G : List Bool) (w : World) : Prop where
  ws : SliceW B w a n L
  gs : SliceB B w a' n' G
  lt : B ≤ w.heap.size
theorem ArgM.mem {B : Nat} {a : Option Addr} {n : Nat} {a' : Option Addr} {n' : Nat} {L : List Wd} {G : List Bool} {w : World} (h : ArgM B a n a' n' L G w) : MemS w a n a' n' L G := ⟨h.ws.mono h.lt, h.gs.mono h.lt⟩
theorem MemS.arg {a : Option Addr} {n : Nat} {a' : Option Addr} {n' : Nat} {L : List Wd} {G : List Bool} {w : World} (h : MemS w a n a' n' L G) : ArgM w.heap.size a n a' n' L G w := ⟨h.ws, h.gs, Nat.le_refl _⟩
def argF (B : Nat) (a : Option Addr) (n : Nat) (a' : Option Addr) (n' : Nat) (L : List Wd) (G : List Bool) : Fct where
  S := fun k => k < B
  p := ArgM B a n a' n' L G
  keep := fun w w' h hs hb => by
    refine ⟨⟨h.ws.1, h.ws.2.1, ?_⟩, ⟨h.gs.1, h.gs.2.1, ?_⟩, Nat.le_trans h.lt hs⟩
    · rcases h.ws.2.2 with h0 | ⟨k, o, ha, hk, hc⟩
      · exact .inl h0
      · refine .inr ⟨k, o, ha, hk, fun j x hj => WordAt.of_vs fun m v hm => ?_⟩
        exact (World.cell?_of_block (hb k (Nat.lt_of_lt_of_le hk h.lt) hk)).trans ((hc j x hj).vs m v hm)
    · rcases h.gs.2.2 with h0 | ⟨k, o, ha, hk, hc⟩
      · exact .inl h0
      · exact .inr ⟨k, o, ha, hk, fun j x hj => (World.cell?_of_block (hb k (Nat.lt_of_lt_of_le hk h.lt) hk)).trans (hc j x hj)⟩

/-- A row of words of a call's own, or nil. -/
def RowWA (w : World) (a : Option Addr) (n : Nat) (L : List Wd) : Prop := (a = none ∧ n = 0 ∧ L = []) ∨ ∃ q, a = some ⟨q, 0, none⟩ ∧ L.length = n ∧ OutW w q n n L
def RowBA (w : World) (a : Option Addr) (n : Nat) (G : List Bool) : Prop := (a = none ∧ n = 0 ∧ G = []) ∨ ∃ q, a = some ⟨q, 0, none⟩ ∧ G.length = n ∧ OutB w q n n G
theorem OutW.ofBlock {w w' : World} {q n k : Nat} {L : List Wd} (h : OutW w q n k L) (hs : w.heap.size ≤ w'.heap.size) (e : w'.heap[q]? = w.heap[q]?) : OutW w' q n k L :=
  ⟨Nat.lt_of_lt_of_le h.lt hs, fun i hi => by rw [World.cell?_of_block (w := w) (w' := w') (a := ⟨q, i, none⟩) e]; exact h.has i hi, fun i hi => by rw [World.frozen?_of_block (w := w) (w' := w') (a := ⟨q, i, none⟩) e]; exact h.fr i hi, fun j x hj hx => by
    refine WordAt.of_vs fun m v hm => ?_
    exact (World.cell?_of_block (w := w) (w' := w') (a := ⟨q, j * 6 + m, none⟩) e).trans ((h.wd j x hj hx).vs m v hm)⟩
theorem OutB.ofBlock {w w' : World} {q n k : Nat} {L : List Bool} (h : OutB w q n k L) (hs : w.heap.size ≤ w'.heap.size) (e : w'.heap[q]? = w.heap[q]?) : OutB w' q n k L :=
  ⟨Nat.lt_of_lt_of_le h.lt hs, fun i hi => by rw [World.cell?_of_block (w := w) (w' := w') (a := ⟨q, i, none⟩) e]; exact h.has i hi, fun i hi => by rw [World.frozen?_of_block (w := w) (w' := w') (a := ⟨q, i, none⟩) e]; exact h.fr i hi, fun j x hj hx => (World.cell?_of_block (w := w) (w' := w') (a := ⟨q, j, none⟩) e).trans (h.wd j x hj hx)⟩
theorem RowWA.ofBlock {w w' : World} {a : Option Addr} {n : Nat} {L : List Wd} (h : RowWA w a n L) (hs : w.heap.size ≤ w'.heap.size) (hb : ∀ k, k < w.heap.size → On a k → w'.heap[k]? = w.heap[k]?) : RowWA w' a n L := by
  rcases h with h | ⟨q, rfl, hl, hO⟩
  · exact .inl h
  · exact .inr ⟨q, rfl, hl, hO.ofBlock hs (hb q hO.lt ((on_some q q).2 rfl))⟩
theorem RowBA.ofBlock {w w' : World} {a : Option Addr} {n : Nat} {L : List Bool} (h : RowBA w a n L) (hs : w.heap.size ≤ w'.heap.size) (hb : ∀ k, k < w.heap.size → On a k → w'.heap[k]? = w.heap[k]?) : RowBA w' a n L := by
  rcases h with h | ⟨q, rfl, hl, hO⟩
  · exact .inl h
  · exact .inr ⟨q, rfl, hl, hO.ofBlock hs (hb q hO.lt ((on_some q q).2 rfl))⟩

/-- A memory that a call has answered: it owns its rows. -/
structure AnsM (a a' : Option Addr) (n n' : Nat) (L : List Wd) (G : List Bool) (w : World) : Prop where
  ws : RowWA w a n L
  gs : RowBA w a' n' G
  ne : ∀ k, On a k → ¬ On a' k
def ansF (a a' : Option Addr) (n n' : Nat) (L : List Wd) (G : List Bool) : Fct where
  S := fun k => On a k ∨ On a' k
  p := AnsM a a' n n' L G
  keep := fun _ _ h hs hb => ⟨h.ws.ofBlock hs fun k hk ho => hb k hk (.inl ho), h.gs.ofBlock hs fun k hk ho => hb k hk (.inr ho), h.ne⟩
section
variable {w w' : World} {a a' : Option Addr} {n n' : Nat} {L : List Wd} {G : List Bool}
theorem AnsM.below (h : AnsM a a' n n' L G w) (hb : Below w.heap.size w w') : AnsM a a' n n' L G w' := (ansF a a' n n' L G).keep w w' h hb.size fun k hk _ => hb.block k hk
theorem AnsM.lw (h : AnsM a a' n n' L G w) : L.length = n := by
  rcases h.ws with ⟨_, rfl, rfl⟩ | ⟨_, _, hl, _⟩
  · rfl
  · exact hl
theorem AnsM.lg (h : AnsM a a' n n' L G w) : G.length = n' := by
  rcases h.gs with ⟨_, rfl, rfl⟩ | ⟨_, _, hl, _⟩
  · rfl
  · exact hl
theorem AnsM.mem (h : AnsM a a' n n' L G w) (hn : n ≤ 1048576) (hn' : n' ≤ 1048576) : MemS w a n a' n' L G := by
  constructor
  · rcases h.ws with ⟨rfl, rfl, rfl⟩ | ⟨q, rfl, hl, hO⟩
    · exact ⟨by unfold maxLen; omega, rfl, .inl rfl⟩
    · exact hO.slice hl (by unfold maxLen; omega)
  · rcases h.gs with ⟨rfl, rfl, rfl⟩ | ⟨q, rfl, hl, hO⟩
    · exact ⟨by unfold maxLen; omega, rfl, .inl rfl⟩
    · exact hO.slice hl (by unfold maxLen; omega)
theorem AnsM.lt (h : AnsM a a' n n' L G w) {k : Nat} (hk : On a k ∨ On a' k) : k < w.heap.size := by
  rcases hk with hk | hk
  · rcases h.ws with ⟨rfl, _, _⟩ | ⟨q, rfl, _, hO⟩
    · exact absurd hk (on_none k)
    · rw [← (on_some q k).1 hk]; exact hO.lt
  · rcases h.gs with ⟨rfl, _, _⟩ | ⟨q, rfl, _, hO⟩
    · exact absurd hk (on_none k)
    · rw [← (on_some q k).1 hk]; exact hO.lt
theorem AnsM.nil (w : World) : AnsM none none 0 0 [] [] w := ⟨.inl ⟨rfl, rfl, rfl⟩, .inl ⟨rfl, rfl, rfl⟩, fun k h => absurd h (on_none k)⟩
theorem OwnM.ans {w0 : World} {q q' : Nat} (h : OwnM w0 q q' n n' L G w) : AnsM (some ⟨q, 0, none⟩) (some ⟨q', 0, none⟩) n n' L G w :=
  ⟨.inr ⟨q, rfl, h.lw, h.ws⟩, .inr ⟨q', rfl, h.lg, h.gs⟩, fun k h1 h2 => h.ne (((on_some q k).1 h1).trans ((on_some q' k).1 h2).symm)⟩
theorem OwnM.from {w0 : World} {q q' : Nat} (h : OwnM w0 q q' n n' L G w) : ∀ k, On (some ⟨q, 0, none⟩) k ∨ On (some ⟨q', 0, none⟩) k → w0.heap.size ≤ k := fun k hk => by
  rcases hk with hk | hk
  · rw [← (on_some q k).1 hk]; exact h.nq
  · rw [← (on_some q' k).1 hk]; exact h.nq'
end

section
variable {w0 w : World} {fs : List Fct}
theorem Hold.duo (h : Hold w0 w fs) {r : Nat} {v0 v1 : Value} (hm : duoF r v0 v1 ∈ fs) : Duo w r v0 v1 := h.at hm
theorem Hold.arg (h : Hold w0 w fs) {B : Nat} {a : Option Addr} {n : Nat} {a' : Option Addr} {n' : Nat} {L : List Wd} {G : List Bool} (hm : argF B a n a' n' L G ∈ fs) : MemS w a n a' n' L G := ArgM.mem (h.at hm)
theorem Hold.ans (h : Hold w0 w fs) {a a' : Option Addr} {n n' : Nat} {L : List Wd} {G : List Bool} (hm : ansF a a' n n' L G ∈ fs) : AnsM a a' n n' L G w := h.at hm
end

set_option maxHeartbeats 1000000 in
theorem toMemory_ans (a : Option Addr) (n c : Nat) (a' : Option Addr) (n' c' : Nat) (L : List Wd) (G : List Bool) (w : World) (hn : n ≤ 1048576) (hn' : n' ≤ 1048576) (hM : MemS w a n a' n' L G) :
    Calls Tryz.prog 57 #[.agg #[.slice a n c, .slice a' n' c']] w fun e w' => ∃ b b', e = .returned (.agg #[.slice b n n, .slice b' n' n']) ∧ AnsM b b' n n' L G w' ∧ (∀ k, On b k ∨ On b' k → w.heap.size ≤ k) ∧ Below w.heap.size w w' := by
  refine (toMemory_any a n c a' n' c' L G w hn hn' hM).mono ?_
  rintro e w' ⟨q, q', rfl, hO⟩
  exact ⟨_, _, rfl, hO.ans, hO.from, hO.bel⟩
end Go.Proofs.YtneohabkoighcaaGreat

namespace Go.Proofs.YtneohabkoighcaaGreat
open Go.ChangeShapes Go.WideShapes Go.ChangeAt Go.RowKit
set_option maxRecDepth 100000

/-- A word's six values. -/
abbrev wl (x : Wd) : List Value := [.int .i64 x.n, .bool x.i, .int .i64 x.b, .int .i64 x.t, .int .i64 x.p, .int .i64 x.s]
theorem Cel.c10 {w : World} {r : Nat} {v0 v1 v2 v3 v4 v5 v6 v7 v8 v9 : Value} (h : Cel w r [v0, v1, v2, v3, v4, v5, v6, v7, v8, v9]) :
    w.cell? ⟨r, 0, none⟩ = some v0 ∧ w.cell? ⟨r, 1, none⟩ = some v1 ∧ w.cell? ⟨r, 2, none⟩ = some v2 ∧ w.cell? ⟨r, 3, none⟩ = some v3 ∧ w.cell? ⟨r, 4, none⟩ = some v4 ∧ w.cell? ⟨r, 5, none⟩ = some v5 ∧ w.cell? ⟨r, 6, none⟩ = some v6 ∧ w.cell? ⟨r, 7, none⟩ = some v7 ∧ w.cell? ⟨r, 8, none⟩ = some v8 ∧ w.cell? ⟨r, 9, none⟩ = some v9 :=
  ⟨h.c 0 _ rfl, h.c 1 _ rfl, h.c 2 _ rfl, h.c 3 _ rfl, h.c 4 _ rfl, h.c 5 _ rfl, h.c 6 _ rfl, h.c 7 _ rfl, h.c 8 _ rfl, h.c 9 _ rfl⟩
theorem Cel.f10 {w : World} {r : Nat} {v0 v1 v2 v3 v4 v5 v6 v7 v8 v9 : Value} (h : Cel w r [v0, v1, v2, v3, v4, v5, v6, v7, v8, v9]) :
    w.frozen? ⟨r, 0, none⟩ = false ∧ w.frozen? ⟨r, 1, none⟩ = false ∧ w.frozen? ⟨r, 2, none⟩ = false ∧ w.frozen? ⟨r, 3, none⟩ = false ∧ w.frozen? ⟨r, 4, none⟩ = false ∧ w.frozen? ⟨r, 5, none⟩ = false ∧ w.frozen? ⟨r, 6, none⟩ = false ∧ w.frozen? ⟨r, 7, none⟩ = false ∧ w.frozen? ⟨r, 8, none⟩ = false ∧ w.frozen? ⟨r, 9, none⟩ = false :=
  ⟨h.f 0 (by simp), h.f 1 (by simp), h.f 2 (by simp), h.f 3 (by simp), h.f 4 (by simp), h.f 5 (by simp), h.f 6 (by simp), h.f 7 (by simp), h.f 8 (by simp), h.f 9 (by simp)⟩

/-- A slice of words that came in, below B. -/
structure ArgW (B : Nat) (a : Option Addr) (n : Nat) (L : List Wd) (w : World) : Prop where
  ws : SliceW B w a n L
  lt : B ≤ w.heap.size
theorem SliceW.ofBlocks {B : Nat} {w w' : World} {a : Option Addr} {n : Nat} {L : List Wd} (h : SliceW B w a n L) (hlt : B ≤ w.heap.size) (hb : ∀ k, k < w.heap.size → k < B → w'.heap[k]? = w.heap[k]?) : SliceW B w' a n L := by
  refine ⟨h.1, h.2.1, ?_⟩
  rcases h.2.2 with h0 | ⟨k, o, ha, hk, hc⟩
  · exact .inl h0
  · refine .inr ⟨k, o, ha, hk, fun j x hj => WordAt.of_vs fun m v hm => ?_⟩
    exact (World.cell?_of_block (hb k (Nat.lt_of_lt_of_le hk hlt) hk)).trans ((hc j x hj).vs m v hm)
def wrdF (B : Nat) (a : Option Addr) (n : Nat) (L : List Wd) : Fct where
  S := fun k => k < B
  p := ArgW B a n L
  keep := fun _ _ h hs hb => ⟨h.ws.ofBlocks h.lt hb, Nat.le_trans h.lt hs⟩
theorem ArgW.slice {B : Nat} {a : Option Addr} {n : Nat} {L : List Wd} {w : World} (h : ArgW B a n L w) : SliceW w.heap.size w a n L := h.ws.mono h.lt
theorem Hold.wrd {w0 w : World} {fs : List Fct} (h : Hold w0 w fs) {B : Nat} {a : Option Addr} {n : Nat} {L : List Wd} (hm : wrdF B a n L ∈ fs) : SliceW w.heap.size w a n L := ArgW.slice (h.at hm)

/-- A state's values: its registers, the word by which it is run, its memory, its trap. -/
abbrev stl (a : Option Addr) (n c : Nat) (x : Wd) (a1 : Option Addr) (n1 c1 : Nat) (a2 : Option Addr) (n2 c2 : Nat) (t : Int) : List Value :=
  [.slice a n c, .int .i64 x.n, .bool x.i, .int .i64 x.b, .int .i64 x.t, .int .i64 x.p, .int .i64 x.s, .slice a1 n1 c1, .slice a2 n2 c2, .int .i64 t]

/-- The rows of a state that came in. -/
structure StS (w : World) (a : Option Addr) (n : Nat) (a1 : Option Addr) (n1 : Nat) (a2 : Option Addr) (n2 : Nat) (R L : List Wd) (G : List Bool) : Prop where
  rs : SliceW w.heap.size w a n R
  mem : MemS w a1 n1 a2 n2 L G
theorem StS.below {w w' : World} {a : Option Addr} {n : Nat} {a1 : Option Addr} {n1 : Nat} {a2 : Option Addr} {n2 : Nat} {R L : List Wd} {G : List Bool} (h : StS w a n a1 n1 a2 n2 R L G) (hb : Below w.heap.size w w') : StS w' a n a1 n1 a2 n2 R L G :=
  ⟨(h.rs.keep hb).mono hb.size, h.mem.below hb⟩

/-- A state that came in: its rows lie below B. -/
structure ArgS (B : Nat) (a : Option Addr) (n : Nat) (a1 : Option Addr) (n1 : Nat) (a2 : Option Addr) (n2 : Nat) (R L : List Wd) (G : List Bool) (w : World) : Prop where
  rs : SliceW B w a n R
  mem : ArgM B a1 n1 a2 n2 L G w
def argSF (B : Nat) (a : Option Addr) (n : Nat) (a1 : Option Addr) (n1 : Nat) (a2 : Option Addr) (n2 : Nat) (R L : List Wd) (G : List Bool) : Fct where
  S := fun k => k < B
  p := ArgS B a n a1 n1 a2 n2 R L G
  keep := fun w w' h hs hb => ⟨h.rs.ofBlocks h.mem.lt hb, (argF B a1 n1 a2 n2 L G).keep w w' h.mem hs hb⟩
theorem StS.arg {w : World} {a : Option Addr} {n : Nat} {a1 : Option Addr} {n1 : Nat} {a2 : Option Addr} {n2 : Nat} {R L : List Wd} {G : List Bool} (h : StS w a n a1 n1 a2 n2 R L G) : ArgS w.heap.size a n a1 n1 a2 n2 R L G w := ⟨h.rs, h.mem.arg⟩
theorem Hold.argS {w0 w : World} {fs : List Fct} (h : Hold w0 w fs) {B : Nat} {a : Option Addr} {n : Nat} {a1 : Option Addr} {n1 : Nat} {a2 : Option Addr} {n2 : Nat} {R L : List Wd} {G : List Bool} (hm : argSF B a n a1 n1 a2 n2 R L G ∈ fs) : StS w a n a1 n1 a2 n2 R L G := by
  have g : ArgS B a n a1 n1 a2 n2 R L G w := h.at hm
  exact ⟨g.rs.mono g.mem.lt, g.mem.mem⟩

/-- A state that a call has answered: it owns its three rows. -/
structure AnsS (a a1 a2 : Option Addr) (n n1 n2 : Nat) (R L : List Wd) (G : List Bool) (w : World) : Prop where
  rs : RowWA w a n R
  ws : RowWA w a1 n1 L
  gs : RowBA w a2 n2 G
  n01 : ∀ k, On a k → ¬ On a1 k
  n02 : ∀ k, On a k → ¬ On a2 k
  n12 : ∀ k, On a1 k → ¬ On a2 k
def ansSF (a a1 a2 : Option Addr) (n n1 n2 : Nat) (R L : List Wd) (G : List Bool) : Fct where
  S := fun k => On a k ∨ On a1 k ∨ On a2 k
  p := AnsS a a1 a2 n n1 n2 R L G
  keep := fun _ _ h hs hb => ⟨h.rs.ofBlock hs fun k hk ho => hb k hk (.inl ho), h.ws.ofBlock hs fun k hk ho => hb k hk (.inr (.inl ho)), h.gs.ofBlock hs fun k hk ho => hb k hk (.inr (.inr ho)), h.n01, h.n02, h.n12⟩
section
variable {w w' : World} {a a1 a2 : Option Addr} {n n1 n2 : Nat} {R L : List Wd} {G : List Bool}
theorem RowWA.slice (h : RowWA w a n L) (hn : n ≤ 1048576) : SliceW w.heap.size w a n L := by
  rcases h with ⟨rfl, rfl, rfl⟩ | ⟨q, rfl, hl, hO⟩
  · exact ⟨by unfold maxLen; omega, rfl, .inl rfl⟩
  · exact hO.slice hl (by unfold maxLen; omega)
theorem RowWA.lt (h : RowWA w a n L) {k : Nat} (hk : On a k) : k < w.heap.size := by
  rcases h with ⟨rfl, _, _⟩ | ⟨q, rfl, _, hO⟩
  · exact absurd hk (on_none k)
  · rw [← (on_some q k).1 hk]; exact hO.lt
theorem RowBA.lt (h : RowBA w a n G) {k : Nat} (hk : On a k) : k < w.heap.size := by
  rcases h with ⟨rfl, _, _⟩ | ⟨q, rfl, _, hO⟩
  · exact absurd hk (on_none k)
  · rw [← (on_some q k).1 hk]; exact hO.lt
theorem RowWA.len (h : RowWA w a n L) : L.length = n := by
  rcases h with ⟨_, rfl, rfl⟩ | ⟨_, _, hl, _⟩
  · rfl
  · exact hl
theorem AnsS.memA (h : AnsS a a1 a2 n n1 n2 R L G w) : AnsM a1 a2 n1 n2 L G w := ⟨h.ws, h.gs, h.n12⟩
theorem AnsS.sts (h : AnsS a a1 a2 n n1 n2 R L G w) (hn : n ≤ 1048576) (hn1 : n1 ≤ 1048576) (hn2 : n2 ≤ 1048576) : StS w a n a1 n1 a2 n2 R L G := ⟨h.rs.slice hn, h.memA.mem hn1 hn2⟩
theorem AnsS.lt (h : AnsS a a1 a2 n n1 n2 R L G w) {k : Nat} (hk : On a k ∨ On a1 k ∨ On a2 k) : k < w.heap.size := by
  rcases hk with hk | hk | hk
  · exact h.rs.lt hk
  · exact h.ws.lt hk
  · exact h.gs.lt hk
theorem AnsS.below (h : AnsS a a1 a2 n n1 n2 R L G w) (hb : Below w.heap.size w w') : AnsS a a1 a2 n n1 n2 R L G w' := (ansSF a a1 a2 n n1 n2 R L G).keep w w' h hb.size fun k hk _ => hb.block k hk
end
theorem Hold.ansS {w0 w : World} {fs : List Fct} (h : Hold w0 w fs) {a a1 a2 : Option Addr} {n n1 n2 : Nat} {R L : List Wd} {G : List Bool} (hm : ansSF a a1 a2 n n1 n2 R L G ∈ fs) : AnsS a a1 a2 n n1 n2 R L G w := h.at hm
end Go.Proofs.YtneohabkoighcaaGreat

namespace Go.Proofs.YtneohabkoighcaaGreat
open Go.ChangeShapes Go.WideShapes Go.ChangeAt Go.RowKit
set_option maxRecDepth 100000

theorem markW_nil (c : Nat) (k0 : Int) (w : World) : Calls Tryz.prog 63 #[.slice none 0 c, .int .i64 k0] w fun e w' => e = .returned (.int .i64 k0) ∧ w' = w := by
  go_enter Tryz.func63, Tryz.ntmps63
  go_wp2
  go_loopw [1, 5] (fun kk c wr => kk = .int .i64 k0 ∧ c = .int .i64 0 ∧ wr = w) (fun _ _ _ => 0)
  case atStart => exact ⟨rfl, rfl, rfl⟩
  case round =>
    obtain ⟨rfl, rfl, rfl⟩ := hrel
    go_wp2
    go_ret
    exact ⟨rfl, rfl⟩
theorem markB_nil (c : Nat) (k0 : Int) (w : World) : Calls Tryz.prog 96 #[.slice none 0 c, .int .i64 k0] w fun e w' => e = .returned (.int .i64 k0) ∧ w' = w := by
  go_enter Tryz.func96, Tryz.ntmps96
  go_wp2
  go_loopw [1, 5] (fun kk c wr => kk = .int .i64 k0 ∧ c = .int .i64 0 ∧ wr = w) (fun _ _ _ => 0)
  case atStart => exact ⟨rfl, rfl, rfl⟩
  case round =>
    obtain ⟨rfl, rfl, rfl⟩ := hrel
    go_wp2
    go_ret
    exact ⟨rfl, rfl⟩
theorem RowW.out {w : World} {q len k : Nat} {L : List Wd} (h : RowW w q 0 len k L) : OutW w q len k L :=
  ⟨h.lt, fun i hi => by have := h.has i hi; rwa [Nat.zero_add] at this, fun i hi => by have := h.fr i hi; rwa [Nat.zero_add] at this, fun j x hj hx => by have := h.wd j x hj hx; rwa [Nat.zero_add] at this⟩
theorem RowB.out {w : World} {q len k : Nat} {L : List Bool} (h : RowB w q 0 len k L) : OutB w q len k L :=
  ⟨h.lt, fun i hi => by have := h.has i hi; rwa [Nat.zero_add] at this, fun i hi => by have := h.fr i hi; rwa [Nat.zero_add] at this, fun j x hj hx => by have := h.wd j x hj hx; rwa [Nat.zero_add] at this⟩
theorem markW_ans (a : Option Addr) (n c : Nat) (L : List Wd) (k0 : Int) (h0 : 1 ≤ k0) (h1 : k0 ≤ 16777216) (w : World) (hn : n ≤ 1048576) (h : RowWA w a n L) :
    Calls Tryz.prog 63 #[.slice a n c, .int .i64 k0] w fun e w' => e = .returned (.int .i64 (k0 + 6 * (n : Int))) ∧ RowWA w' a n (marksW k0 n) ∧ KeptS (On a) w w' := by
  rcases h with ⟨rfl, rfl, rfl⟩ | ⟨q, rfl, hl, hO⟩
  · refine (markW_nil c k0 w).mono ?_
    rintro e w' ⟨rfl, rfl⟩
    exact ⟨by simp, .inl ⟨rfl, rfl, rfl⟩, KeptS.ofBelow (Below.refl _ _)⟩
  · refine (markW_any q 0 n c k0 h0 h1 w hn (hO.row.first _)).mono ?_
    rintro e w' ⟨rfl, hW, hK⟩
    exact ⟨rfl, .inr ⟨q, rfl, marksW_len _ _, hW.out⟩, KeptS.ofBut hK ((on_some q q).2 rfl)⟩
theorem markB_ans (a : Option Addr) (n c : Nat) (L : List Bool) (k0 : Int) (h0 : 1 ≤ k0) (h1 : k0 ≤ 16777216) (w : World) (hn : n ≤ 1048576) (h : RowBA w a n L) :
    Calls Tryz.prog 96 #[.slice a n c, .int .i64 k0] w fun e w' => e = .returned (.int .i64 (k0 + (n : Int))) ∧ RowBA w' a n (marksB k0 n) ∧ KeptS (On a) w w' := by
  rcases h with ⟨rfl, rfl, rfl⟩ | ⟨q, rfl, hl, hO⟩
  · refine (markB_nil c k0 w).mono ?_
    rintro e w' ⟨rfl, rfl⟩
    exact ⟨by simp, .inl ⟨rfl, rfl, rfl⟩, KeptS.ofBelow (Below.refl _ _)⟩
  · refine (markB_any q 0 n c k0 h0 h1 w hn (hO.row.first _)).mono ?_
    rintro e w' ⟨rfl, hW, hK⟩
    exact ⟨rfl, .inr ⟨q, rfl, marksB_len _ _, hW.out⟩, KeptS.ofBut hK ((on_some q q).2 rfl)⟩

set_option maxHeartbeats 4000000 in
theorem markMem_ans (a : Option Addr) (n c : Nat) (a' : Option Addr) (n' c' : Nat) (L : List Wd) (G : List Bool) (hn : n ≤ 1048576) (hn' : n' ≤ 1048576) (w : World) (h : AnsM a a' n n' L G w) :
    Calls Tryz.prog 64 #[.agg #[.slice a n c, .slice a' n' c'], .int .i64 1] w fun e w' => e = .returned (.int .i64 (1 + 6 * (n : Int) + (n' : Int))) ∧ AnsM a a' n n' (marksW 1 n) (marksB (1 + 6 * (n : Int)) n') w' ∧ KeptS (fun k => On a k ∨ On a' k) w w' := by
  have H := hid_mk ((((Hold.new w).push (ansF a a' n n' L G) h).alloc (.cells #[.slice a n c, .slice a' n' c'] 31)).push (duoF w.heap.size (.slice a n c) (.slice a' n' c')) (Duo.new w _ _ _))
  have hlt := hid_mk (fun k hk => h.lt (k := k) hk)
  have hne := hid_mk h.ne
  clear h
  obtain ⟨m, hm⟩ : ∃ m : Int, m = 1 + 6 * (n : Int) := ⟨_, rfl⟩
  rw [← hm]
  have hm0 : 1 ≤ m := by omega
  have hm1 : m ≤ 16777216 := by omega
  have HM := hid_mk hm
  clear hm
  generalize hw1 : w.alloc (.cells #[.slice a n c, .slice a' n' c'] 31) = w1 at H
  go_enter Tryz.func64, Tryz.ntmps64
  go_upto_region 1 with fail
  clear hw1
  obtain ⟨_, m0, m1, _, _⟩ := H.out.duo (.head _)
  have A := hid_mk (H.out.ans (.tail _ (.head _)))
  have D := hid_mk (H.out.duo (.head _))
  have B := hid_mk H.out.bel
  have K := hid_mk (KeptS.ofBelow (T := fun k => On a k ∨ On a' k) H.out.bel)
  clear H
  go_wp2_with fail
  refine (markW_ans a n c L 1 (by decide) (by decide) _ hn A.out.ws).mono ?_
  rintro e w2 ⟨rfl, hW2, hK2⟩
  rw [← HM.out]
  have W2 := hid_mk hW2
  have G2 := hid_mk (A.out.gs.ofBlock hK2.size fun k hk ho => hK2.block k hk fun hk2 => hne.out k hk2 ho)
  have D2 : Hid (Duo w2 w.heap.size (.slice a n c) (.slice a' n' c')) := (duoF w.heap.size (.slice a n c) (.slice a' n' c')).keep _ _ D.out hK2.size fun k hk hr => hK2.block k hk fun ho => by
    have h1 := hlt.out k (.inl ho)
    have h2 : k = w.heap.size := hr
    omega
  have K2 := hid_mk (K.out.trans (hK2.mono fun k hk => .inl hk))
  clear hW2 hK2 m0 m1 A B K D
  obtain ⟨_, m0, m1, _, _⟩ := D2.out
  go_wp2_with fail
  refine (markB_ans a' n' c' G m hm0 hm1 _ hn' G2.out).mono ?_
  rintro e w3 ⟨rfl, hG3, hK3⟩
  have W3 := hid_mk (W2.out.ofBlock hK3.size fun k hk ho => hK3.block k hk fun hk2 => hne.out k ho hk2)
  have G3 := hid_mk hG3
  have K3 := hid_mk (K2.out.trans (hK3.mono fun k hk => .inr hk))
  clear hG3 hK3 m0 m1 D2 G2 W2 K2
  go_wp2
  go_ret
  exact ⟨rfl, ⟨W3.out, G3.out, hne.out⟩, K3.out⟩
end Go.Proofs.YtneohabkoighcaaGreat
