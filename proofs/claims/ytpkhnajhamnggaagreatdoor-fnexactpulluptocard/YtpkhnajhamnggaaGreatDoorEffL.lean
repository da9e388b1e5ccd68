/- Effects and places as lists of values; cells of a block loaded, stored, answered as wholes. No condition. -/
import Derived.Test.YtpkhnajhamnggaaGreatDoorMemA
import Derived.Test.YtpkhnajhamnggaaGreatDoorRegL
import Derived.Deep.MidRow
namespace Go.Proofs.YtpkhnajhamnggaaGreatDoor
open Go.ChangeShapes Go.WideShapes Go.ChangeAt Go.RowKit
set_option maxRecDepth 100000

theorem Cel.c5 {w : World} {r : Nat} {v0 v1 v2 v3 v4 : Value} (h : Cel w r [v0, v1, v2, v3, v4]) : w.cell? ⟨r, 0, none⟩ = some v0 ∧ w.cell? ⟨r, 1, none⟩ = some v1 ∧ w.cell? ⟨r, 2, none⟩ = some v2 ∧ w.cell? ⟨r, 3, none⟩ = some v3 ∧ w.cell? ⟨r, 4, none⟩ = some v4 :=
  ⟨h.c 0 _ rfl, h.c 1 _ rfl, h.c 2 _ rfl, h.c 3 _ rfl, h.c 4 _ rfl⟩
theorem Cel.f5 {w : World} {r : Nat} {v0 v1 v2 v3 v4 : Value} (h : Cel w r [v0, v1, v2, v3, v4]) : w.frozen? ⟨r, 0, none⟩ = false ∧ w.frozen? ⟨r, 1, none⟩ = false ∧ w.frozen? ⟨r, 2, none⟩ = false ∧ w.frozen? ⟨r, 3, none⟩ = false ∧ w.frozen? ⟨r, 4, none⟩ = false :=
  ⟨h.f 0 (by simp), h.f 1 (by simp), h.f 2 (by simp), h.f 3 (by simp), h.f 4 (by simp)⟩
theorem Cel.c22 {w : World} {r : Nat} {v0 v1 v2 v3 v4 v5 v6 v7 v8 v9 v10 v11 v12 v13 v14 v15 v16 v17 v18 v19 v20 v21 : Value} (h : Cel w r [v0, v1, v2, v3, v4, v5, v6, v7, v8, v9, v10, v11, v12, v13, v14, v15, v16, v17, v18, v19, v20, v21]) : w.cell? ⟨r, 0, none⟩ = some v0 ∧ w.cell? ⟨r, 1, none⟩ = some v1 ∧ w.cell? ⟨r, 2, none⟩ = some v2 ∧ w.cell? ⟨r, 3, none⟩ = some v3 ∧ w.cell? ⟨r, 4, none⟩ = some v4 ∧ w.cell? ⟨r, 5, none⟩ = some v5 ∧ w.cell? ⟨r, 6, none⟩ = some v6 ∧ w.cell? ⟨r, 7, none⟩ = some v7 ∧ w.cell? ⟨r, 8, none⟩ = some v8 ∧ w.cell? ⟨r, 9, none⟩ = some v9 ∧ w.cell? ⟨r, 10, none⟩ = some v10 ∧ w.cell? ⟨r, 11, none⟩ = some v11 ∧ w.cell? ⟨r, 12, none⟩ = some v12 ∧ w.cell? ⟨r, 13, none⟩ = some v13 ∧ w.cell? ⟨r, 14, none⟩ = some v14 ∧ w.cell? ⟨r, 15, none⟩ = some v15 ∧ w.cell? ⟨r, 16, none⟩ = some v16 ∧ w.cell? ⟨r, 17, none⟩ = some v17 ∧ w.cell? ⟨r, 18, none⟩ = some v18 ∧ w.cell? ⟨r, 19, none⟩ = some v19 ∧ w.cell? ⟨r, 20, none⟩ = some v20 ∧ w.cell? ⟨r, 21, none⟩ = some v21 :=
  ⟨h.c 0 _ rfl, h.c 1 _ rfl, h.c 2 _ rfl, h.c 3 _ rfl, h.c 4 _ rfl, h.c 5 _ rfl, h.c 6 _ rfl, h.c 7 _ rfl, h.c 8 _ rfl, h.c 9 _ rfl, h.c 10 _ rfl, h.c 11 _ rfl, h.c 12 _ rfl, h.c 13 _ rfl, h.c 14 _ rfl, h.c 15 _ rfl, h.c 16 _ rfl, h.c 17 _ rfl, h.c 18 _ rfl, h.c 19 _ rfl, h.c 20 _ rfl, h.c 21 _ rfl⟩
theorem Cel.f22 {w : World} {r : Nat} {v0 v1 v2 v3 v4 v5 v6 v7 v8 v9 v10 v11 v12 v13 v14 v15 v16 v17 v18 v19 v20 v21 : Value} (h : Cel w r [v0, v1, v2, v3, v4, v5, v6, v7, v8, v9, v10, v11, v12, v13, v14, v15, v16, v17, v18, v19, v20, v21]) : w.frozen? ⟨r, 0, none⟩ = false ∧ w.frozen? ⟨r, 1, none⟩ = false ∧ w.frozen? ⟨r, 2, none⟩ = false ∧ w.frozen? ⟨r, 3, none⟩ = false ∧ w.frozen? ⟨r, 4, none⟩ = false ∧ w.frozen? ⟨r, 5, none⟩ = false ∧ w.frozen? ⟨r, 6, none⟩ = false ∧ w.frozen? ⟨r, 7, none⟩ = false ∧ w.frozen? ⟨r, 8, none⟩ = false ∧ w.frozen? ⟨r, 9, none⟩ = false ∧ w.frozen? ⟨r, 10, none⟩ = false ∧ w.frozen? ⟨r, 11, none⟩ = false ∧ w.frozen? ⟨r, 12, none⟩ = false ∧ w.frozen? ⟨r, 13, none⟩ = false ∧ w.frozen? ⟨r, 14, none⟩ = false ∧ w.frozen? ⟨r, 15, none⟩ = false ∧ w.frozen? ⟨r, 16, none⟩ = false ∧ w.frozen? ⟨r, 17, none⟩ = false ∧ w.frozen? ⟨r, 18, none⟩ = false ∧ w.frozen? ⟨r, 19, none⟩ = false ∧ w.frozen? ⟨r, 20, none⟩ = false ∧ w.frozen? ⟨r, 21, none⟩ = false :=
  ⟨h.f 0 (by simp), h.f 1 (by simp), h.f 2 (by simp), h.f 3 (by simp), h.f 4 (by simp), h.f 5 (by simp), h.f 6 (by simp), h.f 7 (by simp), h.f 8 (by simp), h.f 9 (by simp), h.f 10 (by simp), h.f 11 (by simp), h.f 12 (by simp), h.f 13 (by simp), h.f 14 (by simp), h.f 15 (by simp), h.f 16 (by simp), h.f 17 (by simp), h.f 18 (by simp), h.f 19 (by simp), h.f 20 (by simp), h.f 21 (by simp)⟩
/-- An effect. -/
structure Eff where
  t : Int
  r : Int
  v : Wd
  x : Wd
  at_ : Int
  p : Wd
  d : Int
abbrev effl (e : Eff) : List Value := [.int .i64 e.t, .int .i64 e.r, .int .i64 e.v.n, .bool e.v.i, .int .i64 e.v.b, .int .i64 e.v.t, .int .i64 e.v.p, .int .i64 e.v.s, .int .i64 e.x.n, .bool e.x.i, .int .i64 e.x.b, .int .i64 e.x.t, .int .i64 e.x.p, .int .i64 e.x.s, .int .i64 e.at_, .int .i64 e.p.n, .bool e.p.i, .int .i64 e.p.b, .int .i64 e.p.t, .int .i64 e.p.p, .int .i64 e.p.s, .int .i64 e.d]
/-- The cells of a place. -/
abbrev il (o r a b n : Int) : List Value := [.int .i64 o, .int .i64 r, .int .i64 a, .int .i64 b, .int .i64 n]
theorem Hold.box {w0 w : World} {fs : List Fct} (h : Hold w0 w fs) (vs : List Value) (T : TypeId) (r : Nat) (hr : r = w.heap.size) : Hold w0 (w.alloc (.cells vs.toArray T)) (celF r vs :: fs) := by
  subst hr
  exact (h.alloc _).push (celF w.heap.size vs) (Cel.new w vs T)
/-- A result that lies in a variable, read by a law. -/
theorem results_cell1 {P : Program} {fn : Func} {t : Tmp} {ty : TypeId} {tmps : Array Value} {w : World} {a : Addr} {v : Value} (h : fn.results = #[.cell t ty]) (ht : tmps.getD t undef = .pointer (some a)) (hl : (loadVar ty a).run P w = .ok v w) : (results fn tmps).run P w = .ok v w := by
  unfold results
  rw [h]
  simp only [List.mapM_toArray, List.mapM_cons, List.mapM_nil, ht, asAddr, Sem.run_bind, Sem.run_pure, Result.andThen_ok, hl, Sem.run_map]
  simp
theorem size_setCells (b : Nat) : ∀ (vs : List Value) (o : Nat) (w : World), (w.setCells b o vs).heap.size = w.heap.size
  | [], _, _ => rfl
  | v :: r, o, w => by rw [World.setCells, size_setCells b r (o + 1), World.size_setCell]
theorem KeepBut.setCells {b : Nat} : ∀ (vs : List Value) (o : Nat) (w : World), KeepBut b w (w.setCells b o vs)
  | [], _, _ => KeepBut.refl _ _
  | v :: r, o, w => ((KeepBut.refl b w).setCell o v).trans (KeepBut.setCells r (o + 1) _)
theorem sizeEff : (Tryz.prog.info? 82).map (·.size) = some 22 := by kernel_rfl
theorem effl_len (e : Eff) : (effl e).length = 22 := rfl
theorem effl_one (e : Eff) : ((effl e).toArray.all (·.oneCell')) = true := all_oneCell_toArray fun v hv => by
  simp only [effl, List.mem_cons, List.not_mem_nil, or_false] at hv
  rcases hv with rfl | rfl | rfl | rfl | rfl | rfl | rfl | rfl | rfl | rfl | rfl | rfl | rfl | rfl | rfl | rfl | rfl | rfl | rfl | rfl | rfl | rfl <;> rfl
/-- The cells of a block that are there. -/
theorem Cel.there {w : World} {r : Nat} {vs : List Value} (h : Cel w r vs) : w.there r 0 vs.length := fun j hj => by
  rw [Nat.zero_add]
  exact ⟨by rw [h.c j vs[j] (List.getElem?_eq_getElem hj)]; rfl, h.f j hj⟩
theorem Cel.range {w : World} {r : Nat} {vs : List Value} (h : Cel w r vs) : w.rangeAt r 0 vs := fun j v hv => by
  rw [Nat.zero_add]
  exact h.c j v hv
theorem Cel.sets {w : World} {r : Nat} {vs us : List Value} (h : Cel w r vs) (hl : us.length = vs.length) : Cel (w.setCells r 0 us) r us := by
  refine ⟨Nat.lt_of_lt_of_le h.lt (Nat.le_of_eq ?_), fun i v hv => ?_, fun i hi => ?_⟩
  · have : ∀ (us : List Value) (o : Nat) (w : World), (w.setCells r o us).heap.size = w.heap.size := fun us => by
      induction us with
      | nil => intro o w; rfl
      | cons u us ih => intro o w; rw [World.setCells, ih, World.size_setCell]
    exact (this us 0 w).symm
  · have := World.rangeAt_setCells_same w r 0 us (by rw [hl]; exact h.there) i v hv
    rwa [Nat.zero_add] at this
  · rw [World.frozen?_setCells]
    exact h.f i (by omega)
/-- A whole effect is loaded, stored, answered. -/
theorem ld_eff {w : World} {r : Nat} {e : Eff} (h : Cel w r (effl e)) : (Instr.loadAt 82 (.pointer (some ⟨r, 0, none⟩))).run Tryz.prog w = .ok (.agg (effl e).toArray) w :=
  run_loadAt_mid w r 0 _ _ _ h.range Tryz.underlying82 rfl sizeEff
theorem st_eff {w : World} {r : Nat} {vs : List Value} (e : Eff) (h : Cel w r vs) (hl : vs.length = 22) : (Instr.storeAt 82 (.pointer (some ⟨r, 0, none⟩)) (.agg (effl e).toArray)).run Tryz.prog w = .ok () (w.setCells r 0 (effl e)) :=
  run_storeAt_mid w r 0 _ _ (by have := h.there; rwa [hl] at this) sizeEff (effl_one e)
theorem lv_eff {w : World} {r : Nat} {e : Eff} (h : Cel w r (effl e)) : (loadVar 82 ⟨r, 0, none⟩).run Tryz.prog w = .ok (.agg (effl e).toArray) w :=
  run_loadVar_mid w r 0 _ _ _ h.range Tryz.underlying82 rfl sizeEff
theorem below_sets {w0 w : World} {r : Nat} (us : List Value) (hb : Below w0.heap.size w0 w) (hr : w0.heap.size ≤ r) : Below w0.heap.size w0 (w.setCells r 0 us) := by
  have : ∀ (us : List Value) (o : Nat) (w : World), Below w0.heap.size w0 w → Below w0.heap.size w0 (w.setCells r o us) := fun us => by
    induction us with
    | nil => intro o w h; exact h
    | cons u us ih => intro o w h; rw [World.setCells]; exact ih _ _ (h.setCell (p := ⟨r, o, none⟩) hr u)
  exact this us 0 w hb
/-- A whole is loaded, stored, in a drawn region. -/
theorem exec_ldm {P : Program} {a : Act} {w : World} {o : Oper} {ty : TypeId} {x : Operand} {b f : Nat} {cs : List Value} {d : TypeDesc} (ho : o.op = .load ty x) (hx : a.eval x = .pointer (some ⟨b, f, none⟩)) (hc : w.rangeAt b f cs)
    (hu : P.underlying ty = some d) (hd : d.isRow = true) (hi : (P.info? ty).map (·.size) = some cs.length) : (execOp a.eval o).run P w = .ok (.value (.agg cs.toArray)) w := by
  unfold execOp
  simp only [ho, hx, Instr.loadAt, Instr.sureAddr, Sem.run_bind, Sem.run_pure, Result.andThen_ok, run_loadVar_mid w b f ty cs d hc hu hd hi]
theorem step_ldm {P : Program} {ops : Array Oper} {o : Oper} {a : Act} {w : World} {K : Act → World → Prop} {Q : Exit → Act → World → Prop} {E : Prop} (hgd : o.guard = none) (ty : TypeId) (x : Operand) (ho : o.op = .load ty x)
    (b f : Nat) (hx : a.eval x = .pointer (some ⟨b, f, none⟩)) (cs : List Value) (d : TypeDesc) (hc : w.rangeAt b f cs) (hu : P.underlying ty = some d) (hd : d.isRow = true) (hi : (P.info? ty).map (·.size) = some cs.length)
    (h : K (a.put o.dst (.agg cs.toArray)) w) : if Region.wanted o (yielded ops a.tmps) = true then Oper.wp P o a w K Q else E := by
  rw [if_pos (by simp [Region.wanted, hgd])]
  exact wp_load_mid ty x ho b f hx cs d hc hu hd hi h
theorem step_stm {P : Program} {ops : Array Oper} {o : Oper} {a : Act} {w : World} {K : Act → World → Prop} {Q : Exit → Act → World → Prop} {E : Prop} (hgd : o.guard = none) (ty : TypeId) (x y : Operand) (ho : o.op = .store ty x y)
    (b f : Nat) (cells : Array Value) (hx : a.eval x = .pointer (some ⟨b, f, none⟩)) (hy : a.eval y = .agg cells) (ht : w.there b f cells.size) (hi : (P.info? ty).map (·.size) = some cells.size) (h1 : cells.all (·.oneCell') = true)
    (h : K (a.put o.dst undef) (w.setCells b f cells.toList)) : if Region.wanted o (yielded ops a.tmps) = true then Oper.wp P o a w K Q else E := by
  rw [if_pos (by simp [Region.wanted, hgd])]
  exact wp_store_mid ty x y ho b f cells hx hy ht hi h1 h
end Go.Proofs.YtpkhnajhamnggaaGreatDoor
