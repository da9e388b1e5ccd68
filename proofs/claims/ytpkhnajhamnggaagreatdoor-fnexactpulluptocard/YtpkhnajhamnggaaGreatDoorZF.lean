/- The four named errors of the program: what a row's list of them gives a walk, a world that holds them, and that nothing of them turns where nothing that was there turns. · errors.Is of two errors that errors.New made: true where they are one pointer, false where they are two, false for nil; nothing turns. After the guide's worked example of errors.Is over sentinels. · Try of the specification and of the program, at all words and ints: what it answers. The program's in a world that holds its four errors. -/
import Derived.Test.YtpkhnajhamnggaaGreatDoorRows
import Derived.Test.YtpkhnajhamnggaaGreatDoorZB
import Derived.ChangeSame
import Derived.ChangeVars
import Derived.JoinedOf
import Derived.RowKit
import Derived.RowKitTokens
import Derived.LaidLaws
import Derived.Stop.ErrReads
import Derived.MakeChecks
import Derived.Test.YtpkhnajhamnggaaGreatDoorChecked
import Derived.WalkKit
import Derived.LaidEql
import Derived.Stop.Asserts
import Derived.Test.YtpkhnajhamnggaaGreatDoorZE
namespace Go.Proofs.YtpkhnajhamnggaaGreatDoor
open Go.ChangeShapes Go.WideShapes Go.ChangeAt Go.RowKit
set_option maxRecDepth 100000

theorem cellsE : Tryz.prog.cellsOf 258 = 1 := by kernel_rfl
theorem cellsS : Tryz.prog.cellsOf 9 = 1 := by kernel_rfl

/-- The four errors, each its own pointer. -/
structure Errs (a0 a1 a2 a3 : Addr) (w : World) : Prop where
  g0 : w.cell? ⟨0, 0, none⟩ = some (.iface 232 (.pointer (some a0)))
  g1 : w.cell? ⟨1, 0, none⟩ = some (.iface 232 (.pointer (some a1)))
  g2 : w.cell? ⟨2, 0, none⟩ = some (.iface 232 (.pointer (some a2)))
  g3 : w.cell? ⟨3, 0, none⟩ = some (.iface 232 (.pointer (some a3)))
  n01 : a0 ≠ a1
  n02 : a0 ≠ a2
  n03 : a0 ≠ a3
  n12 : a1 ≠ a2
  n13 : a1 ≠ a3
  n23 : a2 ≠ a3
  r0 : ∃ c t, w.heap[a0.block]? = some (.cells c t (0, 0))
  r1 : ∃ c t, w.heap[a1.block]? = some (.cells c t (0, 0))
  r2 : ∃ c t, w.heap[a2.block]? = some (.cells c t (0, 0))
  r3 : ∃ c t, w.heap[a3.block]? = some (.cells c t (0, 0))
theorem lt_of_row {w : World} {k : Nat} {o : Obj} (h : w.heap[k]? = some o) : k < w.heap.size := by
  rcases Nat.lt_or_ge k w.heap.size with h' | h'
  · exact h'
  · simp [Array.getElem?_eq_none h'] at h
theorem row_below {w w' : World} {k : Nat} (hb : Below w.heap.size w w') (h : ∃ c t, w.heap[k]? = some (.cells c t (0, 0))) : ∃ c t, w'.heap[k]? = some (.cells c t (0, 0)) := by
  obtain ⟨c, t, h⟩ := h
  exact ⟨c, t, (hb.block _ (lt_of_row h)).trans h⟩
theorem Errs.below {a0 a1 a2 a3 : Addr} {w w' : World} (h : Errs a0 a1 a2 a3 w) (hb : Below w.heap.size w w') : Errs a0 a1 a2 a3 w' :=
  ⟨(hb.cell (World.block_lt_of_cell? _ _ h.g0)).trans h.g0, (hb.cell (World.block_lt_of_cell? _ _ h.g1)).trans h.g1, (hb.cell (World.block_lt_of_cell? _ _ h.g2)).trans h.g2, (hb.cell (World.block_lt_of_cell? _ _ h.g3)).trans h.g3,
    h.n01, h.n02, h.n03, h.n12, h.n13, h.n23, row_below hb h.r0, row_below hb h.r1, row_below hb h.r2, row_below hb h.r3⟩

/-- What a row's list gives a walk. -/
theorem errs_of_laid {n0 n1 n2 n3 nm : String} {x0 x1 x2 x3 : List UInt8} {W : World}
    (h : laidMet Tryz.prog [(n0, .iface nm (.ptr (.agg [.lit (.string x0)]))), (n1, .iface nm (.ptr (.agg [.lit (.string x1)]))), (n2, .iface nm (.ptr (.agg [.lit (.string x2)]))), (n3, .iface nm (.ptr (.agg [.lit (.string x3)])))] W)
    (k0 : Tryz.prog.globalNamed n0 = some 0) (k1 : Tryz.prog.globalNamed n1 = some 1) (k2 : Tryz.prog.globalNamed n2 = some 2) (k3 : Tryz.prog.globalNamed n3 = some 3)
    (j0 : (Tryz.prog.globals[0]?).map (·.type) = some 165) (j1 : (Tryz.prog.globals[1]?).map (·.type) = some 165) (j2 : (Tryz.prog.globals[2]?).map (·.type) = some 165) (j3 : (Tryz.prog.globals[3]?).map (·.type) = some 165)
    (hrow : ∀ u, Tryz.prog.typeName? 3 u = some nm → u = 232) :
    ∃ (a0 a1 a2 a3 : Addr), W.var? Tryz.prog n0 = some #[.iface 232 (.pointer (some a0))] ∧ W.var? Tryz.prog n1 = some #[.iface 232 (.pointer (some a1))] ∧ W.var? Tryz.prog n2 = some #[.iface 232 (.pointer (some a2))] ∧ W.var? Tryz.prog n3 = some #[.iface 232 (.pointer (some a3))] ∧ Errs a0 a1 a2 a3 W := by
  obtain ⟨ps, ⟨g0, t0, cs0, f0, p0, q0, hg0, ht0, hv0, hd0, ⟨g1, t1, cs1, f1, p1, q1, hg1, ht1, hv1, hd1, ⟨g2, t2, cs2, f2, p2, q2, hg2, ht2, hv2, hd2, ⟨g3, t3, cs3, f3, p3, q3, hg3, ht3, hv3, hd3, hq3, e3⟩, e2⟩, e1⟩, e0⟩, hnd, hrows⟩ := h
  obtain rfl := Option.some.inj (k0.symm.trans hg0)
  obtain rfl := Option.some.inj (k1.symm.trans hg1)
  obtain rfl := Option.some.inj (k2.symm.trans hg2)
  obtain rfl := Option.some.inj (k3.symm.trans hg3)
  obtain rfl := Option.some.inj (j0.symm.trans ht0)
  obtain rfl := Option.some.inj (j1.symm.trans ht1)
  obtain rfl := Option.some.inj (j2.symm.trans ht2)
  obtain rfl := Option.some.inj (j3.symm.trans ht3)
  have hq3' : q3 = [] := hq3
  subst hq3'
  subst e3
  subst e2
  subst e1
  subst e0
  obtain ⟨l0⟩ := cs0
  obtain ⟨l1⟩ := cs1
  obtain ⟨l2⟩ := cs2
  obtain ⟨l3⟩ := cs3
  have ok0 : ∀ u v, l0 = [.iface u v] → Value.okWide Tryz.prog W .any 0 u v := fun u v e => by
    subst e
    exact (hrows 0 0 (by simp [MemPlace.row])).2 u v (by simpa using World.var?_cell hg0 hv0 0)
  have ok1 : ∀ u v, l1 = [.iface u v] → Value.okWide Tryz.prog W .any 0 u v := fun u v e => by
    subst e
    exact (hrows 1 0 (by simp [MemPlace.row])).2 u v (by simpa using World.var?_cell hg1 hv1 0)
  have ok2 : ∀ u v, l2 = [.iface u v] → Value.okWide Tryz.prog W .any 0 u v := fun u v e => by
    subst e
    exact (hrows 2 0 (by simp [MemPlace.row])).2 u v (by simpa using World.var?_cell hg2 hv2 0)
  have ok3 : ∀ u v, l3 = [.iface u v] → Value.okWide Tryz.prog W .any 0 u v := fun u v e => by
    subst e
    exact (hrows 3 0 (by simp [MemPlace.row])).2 u v (by simpa using World.var?_cell hg3 hv3 0)
  obtain ⟨a0, s0, rfl, hc0, hs0, hz0, rfl⟩ := errorString_of_trod Tryz.underlying165 hrow Tryz.underlying232 Tryz.underlying258 rfl rfl Tryz.underlying9 cellsE cellsS hd0 ok0
  obtain ⟨a1, s1, rfl, hc1, hs1, hz1, rfl⟩ := errorString_of_trod Tryz.underlying165 hrow Tryz.underlying232 Tryz.underlying258 rfl rfl Tryz.underlying9 cellsE cellsS hd1 ok1
  obtain ⟨a2, s2, rfl, hc2, hs2, hz2, rfl⟩ := errorString_of_trod Tryz.underlying165 hrow Tryz.underlying232 Tryz.underlying258 rfl rfl Tryz.underlying9 cellsE cellsS hd2 ok2
  obtain ⟨a3, s3, rfl, hc3, hs3, hz3, rfl⟩ := errorString_of_trod Tryz.underlying165 hrow Tryz.underlying232 Tryz.underlying258 rfl rfl Tryz.underlying9 cellsE cellsS hd3 ok3
  have b0 := (hrows a0.block a0.off (by simp [MemPlace.row])).1
  have b1 := (hrows a1.block a1.off (by simp [MemPlace.row])).1
  have b2 := (hrows a2.block a2.off (by simp [MemPlace.row])).1
  have b3 := (hrows a3.block a3.off (by simp [MemPlace.row])).1
  refine ⟨a0, a1, a2, a3, hv0, hv1, hv2, hv3, by simpa using World.var?_cell hg0 hv0 0, by simpa using World.var?_cell hg1 hv1 0, by simpa using World.var?_cell hg2 hv2 0, by simpa using World.var?_cell hg3 hv3 0, ?_, ?_, ?_, ?_, ?_, ?_, b0, b1, b2, b3⟩
  all_goals
    rintro rfl
    simp [MemPlace.row] at hnd

theorem var_below {W W' : World} {n : String} {cs : Array Value} (hb : Below W.heap.size W W') (h : W.var? Tryz.prog n = some cs) : W'.var? Tryz.prog n = some cs := by
  unfold World.var? at h ⊢
  cases hg : Tryz.prog.globalNamed n with
  | none => simp [hg] at h
  | some g =>
    simp only [hg, Option.bind_some] at h ⊢
    have hlt : g < W.heap.size := by
      rcases Nat.lt_or_ge g W.heap.size with h' | h'
      · exact h'
      · simp [Array.getElem?_eq_none h'] at h
    rw [hb.block g hlt]
    exact h

/-- The four variables read as tokens. -/
theorem vars_read {n0 n1 n2 n3 : String} {H : Type} (enc : TypeId × Value → H) {W : World} {x0 x1 x2 x3 : Value}
    (k0 : Tryz.prog.globalNamed n0 = some 0) (k1 : Tryz.prog.globalNamed n1 = some 1) (k2 : Tryz.prog.globalNamed n2 = some 2) (k3 : Tryz.prog.globalNamed n3 = some 3)
    (j0 : (Tryz.prog.globals[0]?).map (·.type) = some 165) (j1 : (Tryz.prog.globals[1]?).map (·.type) = some 165) (j2 : (Tryz.prog.globals[2]?).map (·.type) = some 165) (j3 : (Tryz.prog.globals[3]?).map (·.type) = some 165)
    (h0 : W.var? Tryz.prog n0 = some #[x0]) (h1 : W.var? Tryz.prog n1 = some #[x1]) (h2 : W.var? Tryz.prog n2 = some #[x2]) (h3 : W.var? Tryz.prog n3 = some #[x3]) (i0 : IsIface x0) (i1 : IsIface x1) (i2 : IsIface x2) (i3 : IsIface x3) (sp : Nat → Bool) :
    DataW.TrodVars enc Tryz.prog W sp [n0, n1, n2, n3] [tok enc x0, tok enc x1, tok enc x2, tok enc x3] [.cell 0 0, .cell 1 0, .cell 2 0, .cell 3 0] :=
  ⟨0, 165, #[x0], 1, [], _, k0, j0, h0, trod_held Tryz.underlying165 i0 0, ⟨1, 165, #[x1], 1, [], _, k1, j1, h1, trod_held Tryz.underlying165 i1 0, ⟨2, 165, #[x2], 1, [], _, k2, j2, h2, trod_held Tryz.underlying165 i2 0, ⟨3, 165, #[x3], 1, [], [], k3, j3, h3, trod_held Tryz.underlying165 i3 0, rfl, rfl⟩, rfl⟩, rfl⟩, rfl⟩

/-- Where new blocks begin. -/
noncomputable def low : Nat := (World.holding Tryz.prog default ⟨#[], #[], []⟩).heap.size
/-- A world that holds the four errors. -/
noncomputable def laidWorld (os : Os) : World :=
  let w0 := World.holding Tryz.prog os ⟨#[.cells #[.string { data := #[110, 111, 32, 107, 101, 121] }] 258, .cells #[.string { data := #[115, 101, 97, 108, 101, 100] }] 258, .cells #[.string { data := #[110, 111, 116, 32, 97, 108, 108, 32, 112, 101, 114, 109, 115] }] 258, .cells #[.string { data := #[111, 117, 116, 32, 111, 102, 32, 98, 111, 117, 110, 100, 115] }] 258], #[], []⟩
  { w0 with heap := (((w0.heap.modify 0 fun
      | .cells _ t frozen => .cells #[.iface 232 (.pointer (some ⟨low, 0, none⟩))] t frozen
      | o => o).modify 1 fun
      | .cells _ t frozen => .cells #[.iface 232 (.pointer (some ⟨low + 1, 0, none⟩))] t frozen
      | o => o).modify 2 fun
      | .cells _ t frozen => .cells #[.iface 232 (.pointer (some ⟨low + 2, 0, none⟩))] t frozen
      | o => o).modify 3 fun
      | .cells _ t frozen => .cells #[.iface 232 (.pointer (some ⟨low + 3, 0, none⟩))] t frozen
      | o => o }
theorem laidWorld_met (os : Os) (args : Array Value) : laidMet Tryz.prog Rows.fnExactStepRow.laid ((laidWorld os).forCall (fun _ _ => 0) ⟨#[], args, []⟩).memory :=
  laidMet_of_run (ps := [.cell 0 0, .cell low 0, .cell 1 0, .cell (low + 1) 0, .cell 2 0, .cell (low + 2) 0, .cell 3 0, .cell (low + 3) 0]) 8 (by kernel_rfl) (by kernel_rfl) (by kernel_rfl)

/-- What the list of these rows gives. -/
theorem errs_in {W : World} (h : laidMet Tryz.prog Rows.fnExactStepRow.laid W) :
    ∃ (a0 a1 a2 a3 : Addr), Errs a0 a1 a2 a3 W ∧ ∀ (H : Type) (enc : TypeId × Value → H) (W' : World) (sp : Nat → Bool), Below W.heap.size W W' → DataW.TrodVars enc Tryz.prog W' sp Rows.fnExactStepSpec.vars [tok enc (.iface 232 (.pointer (some a0))), tok enc (.iface 232 (.pointer (some a1))), tok enc (.iface 232 (.pointer (some a2))), tok enc (.iface 232 (.pointer (some a3)))] [.cell 0 0, .cell 1 0, .cell 2 0, .cell 3 0] := by
  obtain ⟨a0, a1, a2, a3, v0, v1, v2, v3, he⟩ := errs_of_laid h (by kernel_rfl) (by kernel_rfl) (by kernel_rfl) (by kernel_rfl) (by kernel_rfl) (by kernel_rfl) (by kernel_rfl) (by kernel_rfl) (fun u hu => typeName_ptr_named (nm := "errors.errorString") (by kernel_rfl) (by kernel_rfl) (by decide) u (hu.trans (congrArg some (by decide))))
  exact ⟨a0, a1, a2, a3, he, fun H enc W' sp hb => vars_read enc (by kernel_rfl) (by kernel_rfl) (by kernel_rfl) (by kernel_rfl) (by kernel_rfl) (by kernel_rfl) (by kernel_rfl) (by kernel_rfl) (var_below hb v0) (var_below hb v1) (var_below hb v2) (var_below hb v3) trivial trivial trivial trivial sp⟩
end Go.Proofs.YtpkhnajhamnggaaGreatDoor

namespace Go.Proofs.YtpkhnajhamnggaaGreatDoor
open Go.RowKit Go.Stop Go.Extern

theorem isTypeOf (v : Value) (w : World) : (Extern.ReflectliteType.typeOf #[.iface 232 v]).run Tryz.prog w = .ok (.iface 219 (.agg #[.pointer (some ⟨4, 232, none⟩)])) w := by kernel_rfl
theorem isEntry : (Extern.find Tryz.f229).isSome = true := by kernel_rfl
theorem isComparable (w : World) : (((Extern.find Tryz.f229).get isEntry) #[.agg #[.pointer (some ⟨4, 232, none⟩)]]).run Tryz.prog w = .ok (.bool true) w := by kernel_rfl
theorem isComparable_at : ∃ g, Extern.find Tryz.f229 = some g ∧ ∀ w, (g #[.agg #[.pointer (some ⟨4, 232, none⟩)]]).run Tryz.prog w = .ok (.bool true) w :=
  ⟨_, (Option.some_get isEntry).symm, isComparable⟩
theorem isMethodComparable (v : Value) (w : World) : (Go.method 370 219 v "Comparable").run Tryz.prog w = .ok (229, v) w := by kernel_rfl
theorem isComp : (Tryz.prog.info? 232).map (·.comparable) = some true := by kernel_rfl
theorem isSize : (Tryz.prog.info? 258).map (·.size) = some 1 := by kernel_rfl
theorem noIsE (v : Value) (xT : TypeId) (w : World) : (Instr.typeAssert (.iface 232 v) xT 221 true).run Tryz.prog w = .ok (.tuple #[.nilIface, .bool false]) w := run_typeAssert_lacksB Tryz.underlying221 (by kernel_rfl) (by kernel_rfl) v xT w
theorem noUnwrapE (v : Value) (xT : TypeId) (w : World) : (Instr.typeAssert (.iface 232 v) xT 224 true).run Tryz.prog w = .ok (.tuple #[.nilIface, .bool false]) w := run_typeAssert_lacksB Tryz.underlying224 (by kernel_rfl) (by kernel_rfl) v xT w
theorem noUnwrapsE (v : Value) (xT : TypeId) (w : World) : (Instr.typeAssert (.iface 232 v) xT 226 true).run Tryz.prog w = .ok (.tuple #[.nilIface, .bool false]) w := run_typeAssert_lacksB Tryz.underlying226 (by kernel_rfl) (by kernel_rfl) v xT w

/-- errors.Is(x, x), x a pointer to an errors.errorString. -/
theorem is_same (a : Addr) (w : World) :
    Calls Tryz.prog 169 #[.iface 232 (.pointer (some a)), .iface 232 (.pointer (some a))] w fun e w' => e = .returned (.bool true) ∧ w' = w := by
  obtain ⟨i, hi, hcmp⟩ := Option.map_eq_some_iff.1 isComp
  obtain ⟨j, hj, hjs⟩ := Option.map_eq_some_iff.1 isSize
  have h8 := @run_callFunc_extern Tryz.prog 186 _ Extern.ReflectliteType.typeOf Tryz.func186 (by kernel_rfl) (by kernel_rfl) (by kernel_rfl) (by kernel_rfl)
  obtain ⟨g, hg, cT⟩ := isComparable_at
  have h32 := @run_callFunc_extern Tryz.prog 229 _ g Tryz.func229 (by kernel_rfl) (by kernel_rfl) (by kernel_rfl) hg
  clear hg
  have tT := isTypeOf
  have mR := isMethodComparable
  have heq := run_eql_iface_ptr_same (P := Tryz.prog) w a Tryz.underlying165 Tryz.underlying232 hi hcmp hj
  go_enter Tryz.func169, Tryz.ntmps169
  go_wp2
  refine wp_loop_rounds 1 ?_
  rw [rounds_succ]
  go_wp2
  go_ret
  exact ⟨rfl, rfl⟩

/-- errors.Is(nil, x). -/
theorem is_nil (b : Addr) (w : World) :
    Calls Tryz.prog 169 #[.nilIface, .iface 232 (.pointer (some b))] w fun e w' => e = .returned (.bool false) ∧ w' = w := by
  have hn := run_eql_iface_nil_left (P := Tryz.prog) w 232 (.pointer (some b)) Tryz.underlying165
  go_enter Tryz.func169, Tryz.ntmps169
  go_wp2
  go_ret
  exact ⟨rfl, rfl⟩

/-- errors.Is(x, y), two different pointers to errors.errorString: neither has Is nor Unwrap: false. -/
theorem is_other (a b : Addr) (ca cb : Array Value) (ta tb : TypeId) (w : World) (hne : a ≠ b) (ha : w.heap[a.block]? = some (.cells ca ta (0, 0))) (hb : w.heap[b.block]? = some (.cells cb tb (0, 0))) :
    Calls Tryz.prog 169 #[.iface 232 (.pointer (some a)), .iface 232 (.pointer (some b))] w fun e w' => e = .returned (.bool false) ∧ w' = w := by
  obtain ⟨i, hi, hcmp⟩ := Option.map_eq_some_iff.1 isComp
  obtain ⟨j, hj, hjs⟩ := Option.map_eq_some_iff.1 isSize
  have h8 := @run_callFunc_extern Tryz.prog 186 _ Extern.ReflectliteType.typeOf Tryz.func186 (by kernel_rfl) (by kernel_rfl) (by kernel_rfl) (by kernel_rfl)
  obtain ⟨g, hg, cT⟩ := isComparable_at
  have h32 := @run_callFunc_extern Tryz.prog 229 _ g Tryz.func229 (by kernel_rfl) (by kernel_rfl) (by kernel_rfl) hg
  clear hg
  have tT := isTypeOf
  have mR := isMethodComparable
  have nE := noIsE
  have uE := noUnwrapE
  have vE := noUnwrapsE
  have heq := run_eql_iface_ptr_other (P := Tryz.prog) w Tryz.underlying165 Tryz.underlying232 hi hcmp hj (by rw [hjs]; decide) hne ha hb
  go_enter Tryz.func169, Tryz.ntmps169
  go_wp2
  refine wp_loop_rounds 1 ?_
  rw [rounds_succ]
  go_wp2
  go_ret
  exact ⟨rfl, rfl⟩
end Go.Proofs.YtpkhnajhamnggaaGreatDoor

namespace Go.Proofs.YtpkhnajhamnggaaGreatDoor
open Go.ChangeShapes Go.WideShapes Go.ChangeAt Go.RowKit

/-- The error that tried answers. -/
def errV (a0 a1 a2 a3 : Addr) (c0 c1 c2 c3 : Bool) : Value :=
  bif c0 then (bif c1 then .iface 232 (.pointer (some a1)) else bif c2 then (bif c3 then .nilIface else .iface 232 (.pointer (some a3))) else .iface 232 (.pointer (some a2))) else .iface 232 (.pointer (some a0))

set_option maxHeartbeats 1000000 in
theorem trapOf_0 (a0 a1 a2 a3 : Addr) (w : World) (h : Errs a0 a1 a2 a3 w) :
    Calls Tryz.prog 137 #[.iface 232 (.pointer (some a0))] w fun e w' => e = .returned (.int .i64 1) ∧ w' = w := by
  obtain ⟨g0, g1, g2, g3, n01, n02, n03, n12, n13, n23, ⟨x0, t0, r0⟩, ⟨x1, t1, r1⟩, ⟨x2, t2, r2⟩, ⟨x3, t3, r3⟩⟩ := h
  go_enter Tryz.func137, Tryz.ntmps137
  go_wp2_with fail
  refine (is_same a0 _).mono ?_
  rintro e w' ⟨rfl, rfl⟩
  go_wp2
  go_ret
  exact ⟨rfl, rfl⟩
set_option maxHeartbeats 1000000 in
theorem trapOf_1 (a0 a1 a2 a3 : Addr) (w : World) (h : Errs a0 a1 a2 a3 w) :
    Calls Tryz.prog 137 #[.iface 232 (.pointer (some a1))] w fun e w' => e = .returned (.int .i64 2) ∧ w' = w := by
  obtain ⟨g0, g1, g2, g3, n01, n02, n03, n12, n13, n23, ⟨x0, t0, r0⟩, ⟨x1, t1, r1⟩, ⟨x2, t2, r2⟩, ⟨x3, t3, r3⟩⟩ := h
  go_enter Tryz.func137, Tryz.ntmps137
  go_wp2_with fail
  refine (is_other a1 a0 _ _ _ _ _ n01.symm r1 r0).mono ?_
  rintro e w' ⟨rfl, rfl⟩
  go_wp2_with fail
  refine (is_same a1 _).mono ?_
  rintro e w' ⟨rfl, rfl⟩
  go_wp2
  go_ret
  exact ⟨rfl, rfl⟩
set_option maxHeartbeats 1000000 in
theorem trapOf_2 (a0 a1 a2 a3 : Addr) (w : World) (h : Errs a0 a1 a2 a3 w) :
    Calls Tryz.prog 137 #[.iface 232 (.pointer (some a2))] w fun e w' => e = .returned (.int .i64 3) ∧ w' = w := by
  obtain ⟨g0, g1, g2, g3, n01, n02, n03, n12, n13, n23, ⟨x0, t0, r0⟩, ⟨x1, t1, r1⟩, ⟨x2, t2, r2⟩, ⟨x3, t3, r3⟩⟩ := h
  go_enter Tryz.func137, Tryz.ntmps137
  go_wp2_with fail
  refine (is_other a2 a0 _ _ _ _ _ n02.symm r2 r0).mono ?_
  rintro e w' ⟨rfl, rfl⟩
  go_wp2_with fail
  refine (is_other a2 a1 _ _ _ _ _ n12.symm r2 r1).mono ?_
  rintro e w' ⟨rfl, rfl⟩
  go_wp2_with fail
  refine (is_same a2 _).mono ?_
  rintro e w' ⟨rfl, rfl⟩
  go_wp2
  go_ret
  exact ⟨rfl, rfl⟩
set_option maxHeartbeats 1000000 in
theorem trapOf_3 (a0 a1 a2 a3 : Addr) (w : World) (h : Errs a0 a1 a2 a3 w) :
    Calls Tryz.prog 137 #[.iface 232 (.pointer (some a3))] w fun e w' => e = .returned (.int .i64 4) ∧ w' = w := by
  obtain ⟨g0, g1, g2, g3, n01, n02, n03, n12, n13, n23, ⟨x0, t0, r0⟩, ⟨x1, t1, r1⟩, ⟨x2, t2, r2⟩, ⟨x3, t3, r3⟩⟩ := h
  go_enter Tryz.func137, Tryz.ntmps137
  go_wp2_with fail
  refine (is_other a3 a0 _ _ _ _ _ n03.symm r3 r0).mono ?_
  rintro e w' ⟨rfl, rfl⟩
  go_wp2_with fail
  refine (is_other a3 a1 _ _ _ _ _ n13.symm r3 r1).mono ?_
  rintro e w' ⟨rfl, rfl⟩
  go_wp2_with fail
  refine (is_other a3 a2 _ _ _ _ _ n23.symm r3 r2).mono ?_
  rintro e w' ⟨rfl, rfl⟩
  go_wp2_with fail
  refine (is_same a3 _).mono ?_
  rintro e w' ⟨rfl, rfl⟩
  go_wp2
  go_ret
  exact ⟨rfl, rfl⟩
set_option maxHeartbeats 1000000 in
theorem trapOf_4 (a0 a1 a2 a3 : Addr) (w : World) (h : Errs a0 a1 a2 a3 w) :
    Calls Tryz.prog 137 #[.nilIface] w fun e w' => e = .returned (.int .i64 0) ∧ w' = w := by
  obtain ⟨g0, g1, g2, g3, n01, n02, n03, n12, n13, n23, ⟨x0, t0, r0⟩, ⟨x1, t1, r1⟩, ⟨x2, t2, r2⟩, ⟨x3, t3, r3⟩⟩ := h
  go_enter Tryz.func137, Tryz.ntmps137
  go_wp2_with fail
  refine (is_nil a0 _).mono ?_
  rintro e w' ⟨rfl, rfl⟩
  go_wp2_with fail
  refine (is_nil a1 _).mono ?_
  rintro e w' ⟨rfl, rfl⟩
  go_wp2_with fail
  refine (is_nil a2 _).mono ?_
  rintro e w' ⟨rfl, rfl⟩
  go_wp2_with fail
  refine (is_nil a3 _).mono ?_
  rintro e w' ⟨rfl, rfl⟩
  go_wp2
  go_ret
  exact ⟨rfl, rfl⟩

theorem trapOf_any (a0 a1 a2 a3 : Addr) (c0 c1 c2 c3 : Bool) (w : World) (h : Errs a0 a1 a2 a3 w) :
    Calls Tryz.prog 137 #[errV a0 a1 a2 a3 c0 c1 c2 c3] w fun e w' => e = .returned (.int .i64 (trapZ c0 c1 c2 c3)) ∧ w' = w := by
  cases c0
  · exact trapOf_0 a0 a1 a2 a3 w h
  cases c1
  case true => exact trapOf_1 a0 a1 a2 a3 w h
  cases c2
  · exact trapOf_2 a0 a1 a2 a3 w h
  cases c3
  · exact trapOf_3 a0 a1 a2 a3 w h
  · exact trapOf_4 a0 a1 a2 a3 w h

set_option maxRecDepth 100000 in
set_option maxHeartbeats 2000000 in
theorem tried_any (a0 a1 a2 a3 : Addr) (n : Int) (i : Bool) (b t p s m q : Int) (w : World) (h : Errs a0 a1 a2 a3 w) :
    Calls Tryz.prog 138 #[.agg #[.int .i64 n, .bool i, .int .i64 b, .int .i64 t, .int .i64 p, .int .i64 s], .int .i64 m, .int .i64 q] w fun e w' => e = .returned (errV a0 a1 a2 a3 (rkB n i b t p s) (s != 0) (bits .and .i64 p q == q) (decide (b ≤ m ∧ m < t))) ∧ Below w.heap.size w w' := by
  have s1 := rightKey_any n i b t p s
  have s2 := sealed_any b t p s
  have s3 := has_any b t p s q
  have s4 := opens_any b t p s m
  generalize rkB n i b t p s = x at s1 ⊢
  generalize (s != 0) = y at s2 ⊢
  generalize (bits .and .i64 p q == q) = z at s3 ⊢
  generalize decide (b ≤ m ∧ m < t) = v at s4 ⊢
  have S1 : Hid _ := s1
  have S2 : Hid _ := s2
  have S3 : Hid _ := s3
  have S4 : Hid _ := s4
  have E0 : Hid _ := h.below ((Below.refl _ w).alloc (Nat.le_refl _) (.cells #[.int .i64 n, .bool i, .int .i64 b, .int .i64 t, .int .i64 p, .int .i64 s] 38))
  clear s1 s2 s3 s4 h
  go_enter Tryz.func138, Tryz.ntmps138
  go_wp2_with fail
  refine (S1.out _).mono ?_
  rintro e w1 ⟨rfl, hb1⟩
  have A1 : Hid _ := (Six.new w n i b t p s 38).below hb1
  have E1 : Hid _ := E0.out.below hb1
  have K1 : Hid (Below w.heap.size w w1) := ((Below.refl _ w).alloc (Nat.le_refl _) _).trans (hb1.mono (by simp))
  clear hb1 S1 E0
  cases x
  · have g := E1.out.g0
    go_wp2
    go_ret
    exact ⟨rfl, K1.out⟩
  obtain ⟨_, c0, c1, c2, c3, c4, c5, _, _, _, _, _, _⟩ := A1.out
  go_wp2_with fail
  refine (S2.out _).mono ?_
  rintro e w2 ⟨rfl, hb2⟩
  have A2 : Hid _ := A1.out.below hb2
  have E2 : Hid _ := E1.out.below hb2
  have K2 : Hid (Below w.heap.size w w2) := K1.out.trans (hb2.mono K1.out.size)
  clear hb2 A1 E1 K1 S2 c0 c1 c2 c3 c4 c5
  cases y
  case true =>
    have g := E2.out.g1
    go_wp2
    go_ret
    exact ⟨rfl, K2.out⟩
  obtain ⟨_, c0, c1, c2, c3, c4, c5, _, _, _, _, _, _⟩ := A2.out
  go_wp2_with fail
  refine (S3.out _).mono ?_
  rintro e w3 ⟨rfl, hb3⟩
  have A3 : Hid _ := A2.out.below hb3
  have E3 : Hid _ := E2.out.below hb3
  have K3 : Hid (Below w.heap.size w w3) := K2.out.trans (hb3.mono K2.out.size)
  clear hb3 A2 E2 K2 S3 c0 c1 c2 c3 c4 c5
  cases z
  case false =>
    have g := E3.out.g2
    go_wp2
    go_ret
    exact ⟨rfl, K3.out⟩
  obtain ⟨_, c0, c1, c2, c3, c4, c5, _, _, _, _, _, _⟩ := A3.out
  go_wp2_with fail
  refine (S4.out _).mono ?_
  rintro e w4 ⟨rfl, hb4⟩
  have A4 : Hid _ := A3.out.below hb4
  have E4 : Hid _ := E3.out.below hb4
  have K4 : Hid (Below w.heap.size w w4) := K3.out.trans (hb4.mono K3.out.size)
  clear hb4 A3 E3 K3 S4 c0 c1 c2 c3 c4 c5
  cases v
  case false =>
    have g := E4.out.g3
    go_wp2
    go_ret
    exact ⟨rfl, K4.out⟩
  go_wp2
  go_ret
  exact ⟨rfl, K4.out⟩

set_option maxRecDepth 100000 in
set_option maxHeartbeats 1000000 in
theorem implTry_any (a0 a1 a2 a3 : Addr) (n : Int) (i : Bool) (b t p s m q : Int) (w : World) (h : Errs a0 a1 a2 a3 w) :
    Calls Tryz.prog 111 #[.agg #[.int .i64 n, .bool i, .int .i64 b, .int .i64 t, .int .i64 p, .int .i64 s], .int .i64 m, .int .i64 q] w fun e w' => e = .returned (.int .i64 (tryZ n i b t p s m q)) ∧ Below w.heap.size w w' := by
  have s1 := tried_any a0 a1 a2 a3 n i b t p s m q
  have s2 := trapOf_any a0 a1 a2 a3 (rkB n i b t p s) (s != 0) (bits .and .i64 p q == q) (decide (b ≤ m ∧ m < t))
  obtain ⟨z, hz⟩ : ∃ z, Hid (z = tryZ n i b t p s m q) := ⟨_, rfl⟩
  rw [show trapZ (rkB n i b t p s) (s != 0) (bits .and .i64 p q == q) (decide (b ≤ m ∧ m < t)) = z from hz.out.symm] at s2
  rw [← hz.out]
  generalize errV a0 a1 a2 a3 (rkB n i b t p s) (s != 0) (bits .and .i64 p q == q) (decide (b ≤ m ∧ m < t)) = e at s1 s2
  have S1 : Hid _ := s1
  have S2 : Hid _ := s2
  have E0 : Hid _ := h.below ((Below.refl _ w).alloc (Nat.le_refl _) (.cells #[.int .i64 n, .bool i, .int .i64 b, .int .i64 t, .int .i64 p, .int .i64 s] 38))
  clear s1 s2 h hz
  go_enter Tryz.func111, Tryz.ntmps111
  go_wp2_with fail
  refine (S1.out _ E0.out).mono ?_
  rintro e1 w1 ⟨rfl, hb1⟩
  have E1 : Hid _ := E0.out.below hb1
  have K1 : Hid (Below w.heap.size w w1) := ((Below.refl _ w).alloc (Nat.le_refl _) _).trans (hb1.mono (by simp))
  clear hb1 S1 E0
  go_wp2_with fail
  refine (S2.out _ E1.out).mono ?_
  rintro e2 w2 ⟨rfl, rfl⟩
  go_wp2
  go_ret
  exact ⟨rfl, K1.out⟩
end Go.Proofs.YtpkhnajhamnggaaGreatDoor
