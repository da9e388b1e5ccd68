/- The four named errors of the program: what a row's list of them gives a walk, a world that holds them, and that nothing of them turns where nothing that was there turns. -/
import Derived.Test.YtpkhnajhamnggaaDoorRows
import Derived.Test.YtpkhnajhamnggaaDoorAft
import Derived.ChangeSame
import Derived.ChangeVars
import Derived.JoinedOf
import Derived.RowKit
import Derived.RowKitTokens
import Derived.LaidLaws
import Derived.Stop.ErrReads
import Derived.MakeChecks
namespace Go.Proofs.YtpkhnajhamnggaaDoor
open Go.ChangeShapes Go.WideShapes Go.ChangeAt Go.RowKit
set_option maxRecDepth 100000

theorem cellsE : Tryd.prog.cellsOf 139 = 1 := by kernel_rfl
theorem cellsS : Tryd.prog.cellsOf 9 = 1 := by kernel_rfl

/-- The four errors, each its own pointer. -/
structure Errs (a0 a1 a2 a3 : Addr) (w : World) : Prop where
  g0 : w.cell? ⟨0, 0, none⟩ = some (.iface 113 (.pointer (some a0)))
  g1 : w.cell? ⟨1, 0, none⟩ = some (.iface 113 (.pointer (some a1)))
  g2 : w.cell? ⟨2, 0, none⟩ = some (.iface 113 (.pointer (some a2)))
  g3 : w.cell? ⟨3, 0, none⟩ = some (.iface 113 (.pointer (some a3)))
  n01 : a0 ≠ a1
  n02 : a0 ≠ a2
  n03 : a0 ≠ a3
  n12 : a1 ≠ a2
  n13 : a1 ≠ a3
  n23 : a2 ≠ a3
  r0 : ∃ c t, w.heap[a0.block]? = some (.cells c t (0, 0))
  r1 : ∃ c t, w.heap[a1.block]? = some (.cells c t (0, 0))
  r2 : ∃ c t, w.heap[a2.block]? = some (.cells c t (0, 0))
  r3 : ∃ c t, w.heap[a3.block]? = some (.cells c t (0, 0))
theorem lt_of_row {w : World} {k : Nat} {o : Obj} (h : w.heap[k]? = some o) : k < w.heap.size := by
  rcases Nat.lt_or_ge k w.heap.size with h' | h'
  · exact h'
  · simp [Array.getElem?_eq_none h'] at h
theorem row_below {w w' : World} {k : Nat} (hb : Below w.heap.size w w') (h : ∃ c t, w.heap[k]? = some (.cells c t (0, 0))) : ∃ c t, w'.heap[k]? = some (.cells c t (0, 0)) := by
  obtain ⟨c, t, h⟩ := h
  exact ⟨c, t, (hb.block _ (lt_of_row h)).trans h⟩
theorem Errs.below {a0 a1 a2 a3 : Addr} {w w' : World} (h : Errs a0 a1 a2 a3 w) (hb : Below w.heap.size w w') : Errs a0 a1 a2 a3 w' :=
  ⟨(hb.cell (World.block_lt_of_cell? _ _ h.g0)).trans h.g0, (hb.cell (World.block_lt_of_cell? _ _ h.g1)).trans h.g1, (hb.cell (World.block_lt_of_cell? _ _ h.g2)).trans h.g2, (hb.cell (World.block_lt_of_cell? _ _ h.g3)).trans h.g3,
    h.n01, h.n02, h.n03, h.n12, h.n13, h.n23, row_below hb h.r0, row_below hb h.r1, row_below hb h.r2, row_below hb h.r3⟩

/-- What a row's list gives a walk. -/
theorem errs_of_laid {n0 n1 n2 n3 nm : String} {x0 x1 x2 x3 : List UInt8} {W : World}
    (h : laidMet Tryd.prog [(n0, .iface nm (.ptr (.agg [.lit (.string x0)]))), (n1, .iface nm (.ptr (.agg [.lit (.string x1)]))), (n2, .iface nm (.ptr (.agg [.lit (.string x2)]))), (n3, .iface nm (.ptr (.agg [.lit (.string x3)])))] W)
    (k0 : Tryd.prog.globalNamed n0 = some 0) (k1 : Tryd.prog.globalNamed n1 = some 1) (k2 : Tryd.prog.globalNamed n2 = some 2) (k3 : Tryd.prog.globalNamed n3 = some 3)
    (j0 : (Tryd.prog.globals[0]?).map (·.type) = some 58) (j1 : (Tryd.prog.globals[1]?).map (·.type) = some 58) (j2 : (Tryd.prog.globals[2]?).map (·.type) = some 58) (j3 : (Tryd.prog.globals[3]?).map (·.type) = some 58)
    (hrow : ∀ u, Tryd.prog.typeName? 3 u = some nm → u = 113) :
    ∃ (a0 a1 a2 a3 : Addr), W.var? Tryd.prog n0 = some #[.iface 113 (.pointer (some a0))] ∧ W.var? Tryd.prog n1 = some #[.iface 113 (.pointer (some a1))] ∧ W.var? Tryd.prog n2 = some #[.iface 113 (.pointer (some a2))] ∧ W.var? Tryd.prog n3 = some #[.iface 113 (.pointer (some a3))] ∧ Errs a0 a1 a2 a3 W := by
  obtain ⟨ps, ⟨g0, t0, cs0, f0, p0, q0, hg0, ht0, hv0, hd0, ⟨g1, t1, cs1, f1, p1, q1, hg1, ht1, hv1, hd1, ⟨g2, t2, cs2, f2, p2, q2, hg2, ht2, hv2, hd2, ⟨g3, t3, cs3, f3, p3, q3, hg3, ht3, hv3, hd3, hq3, e3⟩, e2⟩, e1⟩, e0⟩, hnd, hrows⟩ := h
  obtain rfl := Option.some.inj (k0.symm.trans hg0)
  obtain rfl := Option.some.inj (k1.symm.trans hg1)
  obtain rfl := Option.some.inj (k2.symm.trans hg2)
  obtain rfl := Option.some.inj (k3.symm.trans hg3)
  obtain rfl := Option.some.inj (j0.symm.trans ht0)
  obtain rfl := Option.some.inj (j1.symm.trans ht1)
  obtain rfl := Option.some.inj (j2.symm.trans ht2)
  obtain rfl := Option.some.inj (j3.symm.trans ht3)
  have hq3' : q3 = [] := hq3
  subst hq3'
  subst e3
  subst e2
  subst e1
  subst e0
  obtain ⟨l0⟩ := cs0
  obtain ⟨l1⟩ := cs1
  obtain ⟨l2⟩ := cs2
  obtain ⟨l3⟩ := cs3
  have ok0 : ∀ u v, l0 = [.iface u v] → Value.okWide Tryd.prog W .any 0 u v := fun u v e => by
    subst e
    exact (hrows 0 0 (by simp [MemPlace.row])).2 u v (by simpa using World.var?_cell hg0 hv0 0)
  have ok1 : ∀ u v, l1 = [.iface u v] → Value.okWide Tryd.prog W .any 0 u v := fun u v e => by
    subst e
    exact (hrows 1 0 (by simp [MemPlace.row])).2 u v (by simpa using World.var?_cell hg1 hv1 0)
  have ok2 : ∀ u v, l2 = [.iface u v] → Value.okWide Tryd.prog W .any 0 u v := fun u v e => by
    subst e
    exact (hrows 2 0 (by simp [MemPlace.row])).2 u v (by simpa using World.var?_cell hg2 hv2 0)
  have ok3 : ∀ u v, l3 = [.iface u v] → Value.okWide Tryd.prog W .any 0 u v := fun u v e => by
    subst e
    exact (hrows 3 0 (by simp [MemPlace.row])).2 u v (by simpa using World.var?_cell hg3 hv3 0)
  obtain ⟨a0, s0, rfl, hc0, hs0, hz0, rfl⟩ := errorString_of_trod Tryd.underlying58 hrow Tryd.underlying113 Tryd.underlying139 rfl rfl Tryd.underlying9 cellsE cellsS hd0 ok0
  obtain ⟨a1, s1, rfl, hc1, hs1, hz1, rfl⟩ := errorString_of_trod Tryd.underlying58 hrow Tryd.underlying113 Tryd.underlying139 rfl rfl Tryd.underlying9 cellsE cellsS hd1 ok1
  obtain ⟨a2, s2, rfl, hc2, hs2, hz2, rfl⟩ := errorString_of_trod Tryd.underlying58 hrow Tryd.underlying113 Tryd.underlying139 rfl rfl Tryd.underlying9 cellsE cellsS hd2 ok2
  obtain ⟨a3, s3, rfl, hc3, hs3, hz3, rfl⟩ := errorString_of_trod Tryd.underlying58 hrow Tryd.underlying113 Tryd.underlying139 rfl rfl Tryd.underlying9 cellsE cellsS hd3 ok3
  have b0 := (hrows a0.block a0.off (by simp [MemPlace.row])).1
  have b1 := (hrows a1.block a1.off (by simp [MemPlace.row])).1
  have b2 := (hrows a2.block a2.off (by simp [MemPlace.row])).1
  have b3 := (hrows a3.block a3.off (by simp [MemPlace.row])).1
  refine ⟨a0, a1, a2, a3, hv0, hv1, hv2, hv3, by simpa using World.var?_cell hg0 hv0 0, by simpa using World.var?_cell hg1 hv1 0, by simpa using World.var?_cell hg2 hv2 0, by simpa using World.var?_cell hg3 hv3 0, ?_, ?_, ?_, ?_, ?_, ?_, b0, b1, b2, b3⟩
  all_goals
    rintro rfl
    simp [MemPlace.row] at hnd

theorem var_below {W W' : World} {n : String} {cs : Array Value} (hb : Below W.heap.size W W') (h : W.var? Tryd.prog n = some cs) : W'.var? Tryd.prog n = some cs := by
  unfold World.var? at h ⊢
  cases hg : Tryd.prog.globalNamed n with
  | none => simp [hg] at h
  | some g =>
    simp only [hg, Option.bind_some] at h ⊢
    have hlt : g < W.heap.size := by
      rcases Nat.lt_or_ge g W.heap.size with h' | h'
      · exact h'
      · simp [Array.getElem?_eq_none h'] at h
    rw [hb.block g hlt]
    exact h

/-- The four variables read as tokens. -/
theorem vars_read {n0 n1 n2 n3 : String} {H : Type} (enc : TypeId × Value → H) {W : World} {x0 x1 x2 x3 : Value}
    (k0 : Tryd.prog.globalNamed n0 = some 0) (k1 : Tryd.prog.globalNamed n1 = some 1) (k2 : Tryd.prog.globalNamed n2 = some 2) (k3 : Tryd.prog.globalNamed n3 = some 3)
    (j0 : (Tryd.prog.globals[0]?).map (·.type) = some 58) (j1 : (Tryd.prog.globals[1]?).map (·.type) = some 58) (j2 : (Tryd.prog.globals[2]?).map (·.type) = some 58) (j3 : (Tryd.prog.globals[3]?).map (·.type) = some 58)
    (h0 : W.var? Tryd.prog n0 = some #[x0]) (h1 : W.var? Tryd.prog n1 = some #[x1]) (h2 : W.var? Tryd.prog n2 = some #[x2]) (h3 : W.var? Tryd.prog n3 = some #[x3]) (i0 : IsIface x0) (i1 : IsIface x1) (i2 : IsIface x2) (i3 : IsIface x3) (sp : Nat → Bool) :
    DataW.TrodVars enc Tryd.prog W sp [n0, n1, n2, n3] [tok enc x0, tok enc x1, tok enc x2, tok enc x3] [.cell 0 0, .cell 1 0, .cell 2 0, .cell 3 0] :=
  ⟨0, 58, #[x0], 1, [], _, k0, j0, h0, trod_held Tryd.underlying58 i0 0, ⟨1, 58, #[x1], 1, [], _, k1, j1, h1, trod_held Tryd.underlying58 i1 0, ⟨2, 58, #[x2], 1, [], _, k2, j2, h2, trod_held Tryd.underlying58 i2 0, ⟨3, 58, #[x3], 1, [], [], k3, j3, h3, trod_held Tryd.underlying58 i3 0, rfl, rfl⟩, rfl⟩, rfl⟩, rfl⟩

/-- Where new blocks begin. -/
noncomputable def low : Nat := (World.holding Tryd.prog default ⟨#[], #[], []⟩).heap.size
/-- A world that holds the four errors. -/
noncomputable def laidWorld (os : Os) : World :=
  let w0 := World.holding Tryd.prog os ⟨#[.cells #[.string { data := #[110, 111, 32, 107, 101, 121] }] 139, .cells #[.string { data := #[115, 101, 97, 108, 101, 100] }] 139, .cells #[.string { data := #[110, 111, 116, 32, 97, 108, 108, 32, 112, 101, 114, 109, 115] }] 139, .cells #[.string { data := #[111, 117, 116, 32, 111, 102, 32, 98, 111, 117, 110, 100, 115] }] 139], #[], []⟩
  { w0 with heap := (((w0.heap.modify 0 fun
      | .cells _ t frozen => .cells #[.iface 113 (.pointer (some ⟨low, 0, none⟩))] t frozen
      | o => o).modify 1 fun
      | .cells _ t frozen => .cells #[.iface 113 (.pointer (some ⟨low + 1, 0, none⟩))] t frozen
      | o => o).modify 2 fun
      | .cells _ t frozen => .cells #[.iface 113 (.pointer (some ⟨low + 2, 0, none⟩))] t frozen
      | o => o).modify 3 fun
      | .cells _ t frozen => .cells #[.iface 113 (.pointer (some ⟨low + 3, 0, none⟩))] t frozen
      | o => o }
theorem laidWorld_met (os : Os) (args : Array Value) : laidMet Tryd.prog Rows.fnExactFetchRow.laid ((laidWorld os).forCall (fun _ _ => 0) ⟨#[], args, []⟩).memory :=
  laidMet_of_run (ps := [.cell 0 0, .cell low 0, .cell 1 0, .cell (low + 1) 0, .cell 2 0, .cell (low + 2) 0, .cell 3 0, .cell (low + 3) 0]) 8 (by kernel_rfl) (by kernel_rfl) (by kernel_rfl)

/-- What the list of these rows gives. -/
theorem errs_in {W : World} (h : laidMet Tryd.prog Rows.fnExactFetchRow.laid W) :
    ∃ (a0 a1 a2 a3 : Addr), Errs a0 a1 a2 a3 W ∧ ∀ (H : Type) (enc : TypeId × Value → H) (W' : World) (sp : Nat → Bool), Below W.heap.size W W' → DataW.TrodVars enc Tryd.prog W' sp Rows.fnExactFetchSpec.vars [tok enc (.iface 113 (.pointer (some a0))), tok enc (.iface 113 (.pointer (some a1))), tok enc (.iface 113 (.pointer (some a2))), tok enc (.iface 113 (.pointer (some a3)))] [.cell 0 0, .cell 1 0, .cell 2 0, .cell 3 0] := by
  obtain ⟨a0, a1, a2, a3, v0, v1, v2, v3, he⟩ := errs_of_laid h (by kernel_rfl) (by kernel_rfl) (by kernel_rfl) (by kernel_rfl) (by kernel_rfl) (by kernel_rfl) (by kernel_rfl) (by kernel_rfl) (fun u hu => typeName_ptr_named (nm := "errors.errorString") (by kernel_rfl) (by kernel_rfl) (by decide) u (hu.trans (congrArg some (by decide))))
  exact ⟨a0, a1, a2, a3, he, fun H enc W' sp hb => vars_read enc (by kernel_rfl) (by kernel_rfl) (by kernel_rfl) (by kernel_rfl) (by kernel_rfl) (by kernel_rfl) (by kernel_rfl) (by kernel_rfl) (var_below hb v0) (var_below hb v1) (var_below hb v2) (var_below hb v3) trivial trivial trivial trivial sp⟩
end Go.Proofs.YtpkhnajhamnggaaDoor
