/- What Pull answers: an entry more, or a core as it was, or none; an entry that is built, laid and appended; how Pull ends. No condition. -/
import Derived.Test.YtpkhnajhamnggaaGreatDoorPulA
import Derived.Test.YtpkhnajhamnggaaGreatDoorFetA
import Derived.Test.YtpkhnajhamnggaaGreatDoorGueP
import Derived.Test.YtpkhnajhamnggaaGreatDoorZK
import Derived.Test.YtpkhnajhamnggaaGreatDoorStpL
namespace Go.Proofs.YtpkhnajhamnggaaGreatDoor
open Go.ChangeShapes Go.WideShapes Go.ChangeAt Go.RowKit
set_option maxRecDepth 100000

/-- The trap of Fetch at a core's Next, its place, its guess. -/
def pulT (LL : List In) (v : Cv) : Int := fetT LL v.nx.n v.nx.i v.nx.b v.nx.t v.nx.p v.nx.s
def pulX (LL : List In) (v : Cv) : In := fetX LL v.nx.n v.nx.i v.nx.b v.nx.t v.nx.p v.nx.s
def pulG (v : Cv) (J : List Int) : Wd := pntW v.nx (gueN J v.nx.n)
def eff0 : Eff := ⟨0, 0, wd0, wd0, 0, wd0, 0⟩
/-- The entry that is begun, where nothing traps and where something does. -/
def enG (pc : Wd) (x : In) (g : Wd) : En := ⟨pc, x, false, eff0, g⟩
def enT (pc : Wd) (e : Eff) : En := ⟨pc, in0, true, e, pc⟩
def stpB (v : Cv) : Bool := v.st || (decide (v.en = 6) || !decide (v.t = 0))
def v00 : Cv := ⟨0, wd0, 0, 0, 0, 0, wd0, false, 0⟩
def a00 : Ca := ⟨none, 0, none, 0, none, 0, none, 0, none, 0⟩
def pulV (LL : List In) (v : Cv) (r : Cr) : Cv :=
  if cokC v r = true then (if stpB v = true then v else if pulT LL v = 0 then ⟨v.rn, v.pc, v.wn, v.gn, v.t, v.en + 1, pulG v r.J, v.st, v.jn⟩ else ⟨v.rn, v.pc, v.wn, v.gn, v.t, v.en + 1, v.nx, true, v.jn⟩) else v00
def pulR (LL : List In) (v : Cv) (r : Cr) : Cr :=
  if cokC v r = true then (if stpB v = true then r else ⟨r.R, r.L, r.G, r.E ++ [if pulT LL v = 0 then enG v.nx (pulX LL v) (pulG v r.J) else enT v.nx (trpE (pulT LL v) v.nx)], r.J⟩) else ⟨[], [], [], [], []⟩
def pulB (v : Cv) (r : Cr) : Bool := cokC v r && !stpB v

theorem cok_lens {w : World} {v : Cv} {a : Ca} {r : Cr} (h : cokC v r = true) (hS : CoS w v a r) : v.rn = 8 ∧ v.wn = 24 ∧ v.gn = 24 ∧ v.en ≤ 6 ∧ v.jn = 48 ∧ okW v.nx = true ∧ gokB r.J = true := by
  unfold cokC at h
  simp only [Bool.and_eq_true, decide_eq_true_eq] at h
  obtain ⟨_, hs, h6, hx, hg⟩ := h
  have h1 := sok_parts hs
  have h2 := mok_parts h1.2.2.2.1
  have hg' := hg
  unfold gokB at hg'
  simp only [Bool.and_eq_true, decide_eq_true_eq] at hg'
  exact ⟨hS.st.rs.2.1.symm.trans h1.1, hS.st.mem.ws.2.1.symm.trans h2.1, hS.st.mem.gs.2.1.symm.trans h2.2.1, h6, hS.js.2.1.symm.trans hg'.2, hx, hg⟩
theorem gok_wf {J : List Int} (h : gokB J = true) : ∀ x ∈ J, (Lit.int .i64 x).wf = true := fun x hx => by
  unfold gokB at h
  simp only [Bool.and_eq_true, decide_eq_true_eq] at h
  have := of_decide_eq_true (List.all_eq_true.1 h.1 x hx)
  exact WalkArith.wf_i64 (by omega)
theorem okW_wf {x : Wd} (h : okW x = true) : (Lit.int .i64 x.n).wf = true := by
  unfold okW wokB at h
  simp only [Bool.and_eq_true, decide_eq_true_eq] at h
  exact WalkArith.wf_i64 (by omega)
theorem pntW_val (x : Wd) (m : Int) : madeV (m % 65536) (openB x.n x.i x.b x.t x.p x.s) x.b x.t x.p x.s = .agg #[.int .i64 (pntW x m).n, .bool (pntW x m).i, .int .i64 (pntW x m).b, .int .i64 (pntW x m).t, .int .i64 (pntW x m).p, .int .i64 (pntW x m).s] := rfl
/-- A list of no more than these bounds, for the laws. -/
theorem pulV_b (LL : List In) {v : Cv} {r : Cr} (hv : CvB v) : CvB (pulV LL v r) := by
  unfold pulV
  have h1 := hv.rn; have h2 := hv.wn; have h3 := hv.gn; have h4 := hv.en; have h5 := hv.jn
  by_cases hc : cokC v r = true
  · rw [if_pos hc]
    have h6 : v.en ≤ 6 := by
      unfold cokC at hc
      simp only [Bool.and_eq_true, decide_eq_true_eq] at hc
      exact hc.2.2.1
    split
    · exact hv
    · split
      · exact ⟨h1, h2, h3, by show v.en + 1 ≤ 262144; omega, h5⟩
      · exact ⟨h1, h2, h3, by show v.en + 1 ≤ 262144; omega, h5⟩
  · rw [if_neg hc]
    exact ⟨by simp [v00], by simp [v00], by simp [v00], by simp [v00], by simp [v00]⟩

/-- An entry, built of its parts. -/
theorem run_entG (pc : Wd) (x : In) (g : Wd) (w : World) :
    (Instr.build 104 #[(0, .agg #[.int .i64 pc.n, .bool pc.i, .int .i64 pc.b, .int .i64 pc.t, .int .i64 pc.p, .int .i64 pc.s]), (1, .agg #[.int .i64 x.o, .int .i64 x.r, .int .i64 x.a, .int .i64 x.b, .int .i64 x.n]), (4, .agg #[.int .i64 g.n, .bool g.i, .int .i64 g.b, .int .i64 g.t, .int .i64 g.p, .int .i64 g.s])]).run Tryz.prog w = .ok (.agg (enl (enG pc x g)).toArray) w := by kernel_rfl
theorem run_entT (pc : Wd) (e : Eff) (w : World) :
    (Instr.build 104 #[(0, .agg #[.int .i64 pc.n, .bool pc.i, .int .i64 pc.b, .int .i64 pc.t, .int .i64 pc.p, .int .i64 pc.s]), (2, .bool true), (3, .agg (effl e).toArray), (4, .agg #[.int .i64 pc.n, .bool pc.i, .int .i64 pc.b, .int .i64 pc.t, .int .i64 pc.p, .int .i64 pc.s])]).run Tryz.prog w = .ok (.agg (enl (enT pc e)).toArray) w := by kernel_rfl
theorem run_entS (X : En) (w : World) : (Instr.buildSlice 62 1 #[(0, .agg (enl X).toArray)]).run Tryz.prog w = .ok (.slice (some ⟨w.heap.size, 0, none⟩) 1 1) (w.alloc (.cells (enl X).toArray 104)) := by kernel_rfl
theorem exec_build {P : Program} {a : Act} {w : World} {o : Oper} {t : TypeId} {parts : Array (Nat × Operand)} (ho : o.op = .build t parts) (vs : Array (Nat × Value)) (hv : (parts.map fun p => (p.1, a.eval p.2)) = vs) {u : Value} (hr : (Instr.build t vs).run P w = .ok u w) : (execOp a.eval o).run P w = .ok (.value u) w := by
  subst hv
  unfold execOp
  simp only [ho, Sem.run_bind, Sem.run_pure, Result.andThen_ok, hr]
  try rfl
theorem step_entS {ops : Array Oper} {o : Oper} {a : Act} {w : World} {K : Act → World → Prop} {Q : Exit → Act → World → Prop} {E : Prop} (hgd : o.guard = none) (x : Operand) (ho : o.op = .buildSlice 62 1 #[(0, x)]) (X : En) (hx : a.eval x = .agg (enl X).toArray)
    (h : K (a.put o.dst (.slice (some ⟨w.heap.size, 0, none⟩) 1 1)) (w.alloc (.cells (enl X).toArray 104))) : if Region.wanted o (yielded ops a.tmps) = true then Oper.wp Tryz.prog o a w K Q else E := by
  rw [if_pos (by simp [Region.wanted, hgd])]
  unfold Oper.wp execOp
  simp only [ho, List.map_toArray, List.map_cons, List.map_nil, hx, Sem.run_bind, Sem.run_pure, Result.andThen_ok, run_entS X w]
  exact h
theorem wpList_entS {ops : Array Oper} {rest : List Oper} {o : Oper} {a : Act} {w : World} {Q : Exit → Act → World → Prop} (hgd : o.guard = none) (x : Operand) (ho : o.op = .buildSlice 62 1 #[(0, x)]) (X : En) (hx : a.eval x = .agg (enl X).toArray)
    (h : wpList Tryz.prog ops Q rest (a.put o.dst (.slice (some ⟨w.heap.size, 0, none⟩) 1 1)) (w.alloc (.cells (enl X).toArray 104))) : wpList Tryz.prog ops Q (o :: rest) a w := by
  refine wpList_plain hgd fun K hK => ?_
  have hk := step_entS (ops := ops) (K := K) (Q := Q) (E := True) hgd x ho X hx (hK _ _ h)
  rwa [if_pos (by simp [Region.wanted, hgd])] at hk
theorem wpList_build {ops : Array Oper} {rest : List Oper} {o : Oper} {a : Act} {w : World} {Q : Exit → Act → World → Prop} (hgd : o.guard = none) {t : TypeId} {parts : Array (Nat × Operand)} (ho : o.op = .build t parts) (vs : Array (Nat × Value)) (hv : (parts.map fun p => (p.1, a.eval p.2)) = vs) {u : Value} (hr : (Instr.build t vs).run Tryz.prog w = .ok u w)
    (h : wpList Tryz.prog ops Q rest (a.put o.dst u) w) : wpList Tryz.prog ops Q (o :: rest) a w := by
  refine wpList_plain hgd fun K hK => ?_
  unfold Oper.wp
  rw [exec_build ho vs hv hr]
  exact hK _ _ h
/-- One entry in a block of its own, as what is appended. -/
theorem ent_src {w : World} {k : Nat} {X : En} (h : w.rangeAt k 0 (enl X)) : ∀ b, (some ⟨k, 0, none⟩ : Option Addr) = some b → ∀ j u, ([X].flatMap enl)[j]? = some u → w.cell? (b.add j) = some u := fun b hb j u hj => by
  cases hb
  rw [Go.WideShapes.add_plain]
  refine h j u ?_
  simpa using hj

/-- Results of which the first lies in a variable. -/
theorem results_cellT {P : Program} {fn : Func} {t t2 : Tmp} {ty : TypeId} {tmps : Array Value} {w : World} {a : Addr} {v v2 : Value} (h : fn.results = #[.cell t ty, .tmp t2]) (ht : tmps.getD t undef = .pointer (some a)) (hl : (loadVar ty a).run P w = .ok v w) (h2 : tmps.getD t2 undef = v2) : (results fn tmps).run P w = .ok (.tuple #[v, v2]) w := by
  unfold results
  rw [h]
  simp only [List.mapM_toArray, List.mapM_cons, List.mapM_nil, ht, h2, asAddr, Sem.run_bind, Sem.run_pure, Result.andThen_ok, hl, Sem.run_map]
  simp

/-- How Pull ends: a core whose rows are its own is stored into the answer's block. -/
theorem pul_end {w0 w : World} {V : Cv} {Rr : Cr} {b b1 b2 : Option Addr} {d d1 d2 g cp j dj : Nat} {vs : List Value} (hs : AnsS b b1 b2 V.rn V.wn V.gn Rr.R Rr.L Rr.G w) (he : RoomE w g V.en cp Rr.E) (hj : (intF j V.jn Rr.J).p w)
    (hf : ∀ k, On b k ∨ On b1 k ∨ On b2 k → w0.heap.size + 1 < k ∧ k ≠ g ∧ k ≠ j) (hg : w0.heap.size + 1 < g ∧ w0.heap.size + 1 < j ∧ g ≠ j) (hc : Cel w (w0.heap.size + 1) vs) (hl : vs.length = 19) (hb : Below w0.heap.size w0 w) :
    AnsC V ⟨b, d, b1, d1, b2, d2, some ⟨g, 0, none⟩, cp, some ⟨j, 0, none⟩, dj⟩ Rr (w.setCells (w0.heap.size + 1) 0 (col V ⟨b, d, b1, d1, b2, d2, some ⟨g, 0, none⟩, cp, some ⟨j, 0, none⟩, dj⟩)) ∧
      (∀ k, OnC ⟨b, d, b1, d1, b2, d2, some ⟨g, 0, none⟩, cp, some ⟨j, 0, none⟩, dj⟩ k → w0.heap.size ≤ k) ∧
      Below w0.heap.size w0 (w.setCells (w0.heap.size + 1) 0 (col V ⟨b, d, b1, d1, b2, d2, some ⟨g, 0, none⟩, cp, some ⟨j, 0, none⟩, dj⟩)) ∧
      (loadVar 64 ⟨w0.heap.size + 1, 0, none⟩).run Tryz.prog (w.setCells (w0.heap.size + 1) 0 (col V ⟨b, d, b1, d1, b2, d2, some ⟨g, 0, none⟩, cp, some ⟨j, 0, none⟩, dj⟩)) = .ok (.agg (col V ⟨b, d, b1, d1, b2, d2, some ⟨g, 0, none⟩, cp, some ⟨j, 0, none⟩, dj⟩).toArray) (w.setCells (w0.heap.size + 1) 0 (col V ⟨b, d, b1, d1, b2, d2, some ⟨g, 0, none⟩, cp, some ⟨j, 0, none⟩, dj⟩)) := by
  have hz := he.lt
  have hO := he.out
  have hlen := he.len
  obtain ⟨A, hA⟩ : ∃ A : Ca, A = ⟨b, d, b1, d1, b2, d2, some ⟨g, 0, none⟩, cp, some ⟨j, 0, none⟩, dj⟩ := ⟨_, rfl⟩
  rw [← hA]
  have K := KeepBut.setCells (b := w0.heap.size + 1) (col V A) 0 w
  have C := hc.sets (us := col V A) (by rw [hl]; rfl)
  refine ⟨?_, ?_, hb.trans (K.below (B := w0.heap.size) (by omega) hb.size), lv_cor C.range⟩
  · generalize w.setCells (w0.heap.size + 1) 0 (col V A) = w9 at K ⊢
    rw [hA]
    refine ⟨(ansSF b b1 b2 V.rn V.wn V.gn Rr.R Rr.L Rr.G).keep _ _ hs K.size fun k hk ho => K.block k hk (by have := hf k ho; omega), .inr ⟨g, rfl, hlen, hO.ofBlock K.size (K.block g hz (by omega))⟩, .inr ⟨j, rfl, hj.2, hj.1.ofBlock K.size (K.block j hj.1.lt (by omega))⟩, ?_, ?_⟩
    · intro k hk h2
      have := (on_some g k).1 hk
      have := hf k h2
      omega
    · intro k hk
      have hk' := (on_some j k).1 hk
      exact ⟨fun h2 => by have := hf k h2; omega, fun h2 => by have := (on_some g k).1 h2; omega⟩
  · intro k hk
    rw [hA] at hk
    rcases hk with hk | hk | hk
    · have := hf k hk; omega
    · have := (on_some g k).1 hk; omega
    · have := (on_some j k).1 hk; omega
end Go.Proofs.YtpkhnajhamnggaaGreatDoor
