/- MemoryNew of the specification: what it answers. No condition. -/
import Derived.Test.YtfeoaegkhbjaeaaDoorMem
namespace Go.Proofs.YtfeoaegkhbjaeaaDoor
open Go.ChangeShapes Go.WideShapes Go.ChangeAt Go.RowKit
set_option maxRecDepth 100000

theorem made_cell (z : Array Value) (n i : Nat) (h : i < n) (T : TypeId) (w : World) : (w.alloc (.cells (madeCells z n) T)).cell? ⟨w.heap.size, i, none⟩ = some z[i % z.size]! := by
  rw [World.cell?_alloc_new]
  simp [madeCells, h]
theorem made_fullW (w : World) (len : Nat) (T : TypeId) : OutW (w.alloc (.cells (madeCells #[.int .i64 0, .bool false, .int .i64 0, .int .i64 0, .int .i64 0, .int .i64 0] (len * 6)) T)) w.heap.size len len (List.replicate len wd0) := by
  have h0 := made_out w len #[.int .i64 0, .bool false, .int .i64 0, .int .i64 0, .int .i64 0, .int .i64 0] T (List.replicate len wd0)
  refine ⟨h0.lt, h0.has, h0.fr, fun j x hj hx => ?_⟩
  obtain rfl : wd0 = x := by
    rw [List.getElem?_replicate_of_lt hj] at hx
    exact Option.some.inj hx
  have c := fun i (hi : i < 6) => made_cell #[.int .i64 0, .bool false, .int .i64 0, .int .i64 0, .int .i64 0, .int .i64 0] (len * 6) (j * 6 + i) (by omega) T w
  have e : ∀ i, i < 6 → (j * 6 + i) % 6 = i := fun i hi => by omega
  refine ⟨?_, ?_, ?_, ?_, ?_, ?_⟩
  · have := c 0 (by omega); rw [show (#[Value.int .i64 0, .bool false, .int .i64 0, .int .i64 0, .int .i64 0, .int .i64 0] : Array Value).size = 6 from rfl, e 0 (by omega)] at this; exact this
  · have := c 1 (by omega); rw [show (#[Value.int .i64 0, .bool false, .int .i64 0, .int .i64 0, .int .i64 0, .int .i64 0] : Array Value).size = 6 from rfl, e 1 (by omega)] at this; exact this
  · have := c 2 (by omega); rw [show (#[Value.int .i64 0, .bool false, .int .i64 0, .int .i64 0, .int .i64 0, .int .i64 0] : Array Value).size = 6 from rfl, e 2 (by omega)] at this; exact this
  · have := c 3 (by omega); rw [show (#[Value.int .i64 0, .bool false, .int .i64 0, .int .i64 0, .int .i64 0, .int .i64 0] : Array Value).size = 6 from rfl, e 3 (by omega)] at this; exact this
  · have := c 4 (by omega); rw [show (#[Value.int .i64 0, .bool false, .int .i64 0, .int .i64 0, .int .i64 0, .int .i64 0] : Array Value).size = 6 from rfl, e 4 (by omega)] at this; exact this
  · have := c 5 (by omega); rw [show (#[Value.int .i64 0, .bool false, .int .i64 0, .int .i64 0, .int .i64 0, .int .i64 0] : Array Value).size = 6 from rfl, e 5 (by omega)] at this; exact this
theorem made_fullB (w : World) (len : Nat) (T : TypeId) : OutB (w.alloc (.cells (madeCells #[.bool false] len) T)) w.heap.size len len (List.replicate len false) := by
  have h0 := made_outB w len #[.bool false] T (List.replicate len false)
  refine ⟨h0.lt, h0.has, h0.fr, fun j x hj hx => ?_⟩
  obtain rfl : false = x := by
    rw [List.getElem?_replicate_of_lt hj] at hx
    exact Option.some.inj hx
  have := made_cell #[.bool false] len j hj T w
  rw [show (#[Value.bool false] : Array Value).size = 1 from rfl, Nat.mod_one] at this
  exact this
theorem OutW.keepB {w w' : World} {q len k b : Nat} {L : List Wd} (h : OutW w q len k L) (g : KeepBut b w w') (hb : q ≠ b) : OutW w' q len k L :=
  ⟨Nat.lt_of_lt_of_le h.lt g.size, fun i hi => by rw [g.cell (p := ⟨q, i, none⟩) h.lt hb]; exact h.has i hi, fun i hi => by rw [g.frozen (p := ⟨q, i, none⟩) h.lt hb]; exact h.fr i hi, fun j x hj hx => by
    refine WordAt.of_vs fun m v hm => ?_
    exact (g.cell (p := ⟨q, j * 6 + m, none⟩) h.lt hb).trans ((h.wd j x hj hx).vs m v hm)⟩

/-- A memory of the call's own: its two rows may be written. -/
structure OwnM (w0 : World) (q q' n n' : Nat) (L : List Wd) (G : List Bool) (w : World) : Prop where
  ws : OutW w q n n L
  gs : OutB w q' n' n' G
  lw : L.length = n
  lg : G.length = n'
  ne : q ≠ q'
  nq : w0.heap.size ≤ q
  nq' : w0.heap.size ≤ q'
  bel : Below w0.heap.size w0 w
section
variable {w0 w w' : World} {q q' n n' : Nat} {L : List Wd} {G : List Bool}
theorem OwnM.next (h : OwnM w0 q q' n n' L G w) (hb : Below w.heap.size w w') : OwnM w0 q q' n n' L G w' :=
  ⟨h.ws.below hb, h.gs.below hb, h.lw, h.lg, h.ne, h.nq, h.nq', h.bel.trans (hb.mono h.bel.size)⟩
theorem OwnM.keep {b : Nat} (h : OwnM w0 q q' n n' L G w) (k : KeepBut b w w') (h1 : q ≠ b) (h2 : q' ≠ b) (h0 : w0.heap.size ≤ b) : OwnM w0 q q' n n' L G w' :=
  ⟨h.ws.keepB k h1, h.gs.keepB k h2, h.lw, h.lg, h.ne, h.nq, h.nq', h.bel.trans (k.below h0 h.bel.size)⟩
theorem OwnM.mem (h : OwnM w0 q q' n n' L G w) (hn : n ≤ 1048576) (hn' : n' ≤ 1048576) : MemS w (some ⟨q, 0, none⟩) n (some ⟨q', 0, none⟩) n' L G :=
  ⟨h.ws.slice h.lw (by unfold maxLen; omega), h.gs.slice h.lg (by unfold maxLen; omega)⟩
end

theorem new_two (w : World) (o : Obj) (T U : TypeId) : OwnM w (w.heap.size + 1) (w.heap.size + 1 + 1) 24 24 (List.replicate 24 wd0) (List.replicate 24 false)
    (((w.alloc o).alloc (.cells (madeCells #[.int .i64 0, .bool false, .int .i64 0, .int .i64 0, .int .i64 0, .int .i64 0] 144) T)).alloc (.cells (madeCells #[.bool false] 24) U)) := by
  have e1 : (w.alloc o).heap.size = w.heap.size + 1 := World.size_alloc ..
  have h1 := made_fullW (w.alloc o) 24 T
  have e2 : ((w.alloc o).alloc (.cells (madeCells #[.int .i64 0, .bool false, .int .i64 0, .int .i64 0, .int .i64 0, .int .i64 0] (24 * 6)) T)).heap.size = w.heap.size + 1 + 1 := by rw [World.size_alloc, e1]
  have h2 := made_fullB ((w.alloc o).alloc (.cells (madeCells #[.int .i64 0, .bool false, .int .i64 0, .int .i64 0, .int .i64 0, .int .i64 0] (24 * 6)) T)) 24 U
  have b : Below w.heap.size w (((w.alloc o).alloc (.cells (madeCells #[.int .i64 0, .bool false, .int .i64 0, .int .i64 0, .int .i64 0, .int .i64 0] (24 * 6)) T)).alloc (.cells (madeCells #[.bool false] 24) U)) := (((Below.refl _ w).alloc (Nat.le_refl _) _).alloc (by rw [e1]; omega) _).alloc (by rw [e2]; omega) _
  rw [e1] at h1
  rw [e2] at h2
  exact ⟨h1.below ((Below.refl _ _).alloc (Nat.le_refl _) _), h2, by simp, by simp, by omega, by omega, by omega, b⟩
theorem new_two' (w : World) (o : Obj) (T U : TypeId) : OwnM w (w.heap.size + 1 + 1) (w.heap.size + 1) 24 24 (List.replicate 24 wd0) (List.replicate 24 false)
    (((w.alloc o).alloc (.cells (madeCells #[.bool false] 24) U)).alloc (.cells (madeCells #[.int .i64 0, .bool false, .int .i64 0, .int .i64 0, .int .i64 0, .int .i64 0] 144) T)) := by
  have e1 : (w.alloc o).heap.size = w.heap.size + 1 := World.size_alloc ..
  have h1 := made_fullB (w.alloc o) 24 U
  have e2 : ((w.alloc o).alloc (.cells (madeCells #[.bool false] 24) U)).heap.size = w.heap.size + 1 + 1 := by rw [World.size_alloc, e1]
  have h2 := made_fullW ((w.alloc o).alloc (.cells (madeCells #[.bool false] 24) U)) 24 T
  have b : Below w.heap.size w (((w.alloc o).alloc (.cells (madeCells #[.bool false] 24) U)).alloc (.cells (madeCells #[.int .i64 0, .bool false, .int .i64 0, .int .i64 0, .int .i64 0, .int .i64 0] (24 * 6)) T)) := (((Below.refl _ w).alloc (Nat.le_refl _) _).alloc (by rw [e1]; omega) _).alloc (by rw [e2]; omega) _
  rw [e1] at h1
  rw [e2] at h2
  exact ⟨h2, h1.below ((Below.refl _ _).alloc (Nat.le_refl _) _), by simp, by simp, by omega, by omega, by omega, b⟩

set_option maxHeartbeats 2000000 in
theorem specMemoryNew_any (w : World) :
    Calls Tryd.prog 84 #[] w fun e w' => ∃ q q', e = .returned (.agg #[.slice (some ⟨q, 0, none⟩) 24 24, .slice (some ⟨q', 0, none⟩) 24 24]) ∧ OwnM w q q' 24 24 (List.replicate 24 wd0) (List.replicate 24 false) w' := by
  have hw : ∀ w : World, (Instr.makeSlice 24 (.int .i64 24) (.int .i64 24)).run Tryd.prog w = .ok (.slice (some ⟨w.heap.size, 0, none⟩) 24 24) (w.alloc (.cells (madeCells #[.int .i64 0, .bool false, .int .i64 0, .int .i64 0, .int .i64 0, .int .i64 0] (24 * 6)) 36)) := fun w => run_makeWords 24 (by decide) w
  have hb : ∀ w : World, (Instr.makeSlice 25 (.int .i64 24) (.int .i64 24)).run Tryd.prog w = .ok (.slice (some ⟨w.heap.size, 0, none⟩) 24 24) (w.alloc (.cells (madeCells #[.bool false] 24) 4)) := fun w => run_makeBools 24 (by decide) w
  go_enter Tryd.func84, Tryd.ntmps84
  go_wp2_with fail
  go_region
  · go_wp2
    refine bodyPost_ret (v := .agg #[.slice (some ⟨w.heap.size + 1, 0, none⟩) 24 24, .slice (some ⟨w.heap.size + 1 + 1, 0, none⟩) 24 24]) (by simp [results, Tryd.results84, go_sem]) rfl ⟨_, _, rfl, ?_⟩
    have h := new_two w (.cells #[.slice (some ⟨w.heap.size + 1, 0, none⟩) 24 24, .slice (some ⟨w.heap.size + 1 + 1, 0, none⟩) 24 24] 27) 36 4
    exact h.next (Below.refl _ _).drew
  · go_wp2
    refine bodyPost_ret (v := .agg #[.slice (some ⟨w.heap.size + 1 + 1, 0, none⟩) 24 24, .slice (some ⟨w.heap.size + 1, 0, none⟩) 24 24]) (by simp [results, Tryd.results84, go_sem]) rfl ⟨_, _, rfl, ?_⟩
    have h := new_two' w (.cells #[.slice (some ⟨w.heap.size + 1 + 1, 0, none⟩) 24 24, .slice (some ⟨w.heap.size + 1, 0, none⟩) 24 24] 27) 36 4
    exact h.next (Below.refl _ _).drew
end Go.Proofs.YtfeoaegkhbjaeaaDoor
