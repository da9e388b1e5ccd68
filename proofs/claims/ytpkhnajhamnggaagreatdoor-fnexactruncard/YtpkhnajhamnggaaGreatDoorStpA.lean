/- A step as data; states as wholes of ten cells; l9Apply of the specification, which writes into the rows that it is given: what they hold, and that nothing else turns. No condition but that the rows are the caller's own. -/
import Derived.Test.YtpkhnajhamnggaaGreatDoorZK
import Derived.Test.YtpkhnajhamnggaaGreatDoorWrkG
import Derived.Test.YtpkhnajhamnggaaGreatDoorZJ
import Derived.Test.YtpkhnajhamnggaaGreatDoorStC
import Derived.Test.YtpkhnajhamnggaaGreatDoorMemB
namespace Go.Proofs.YtpkhnajhamnggaaGreatDoor
open Go.ChangeShapes Go.WideShapes Go.ChangeAt Go.RowKit
set_option maxRecDepth 100000

/-- What an effect does to registers, to words of memory, to what is gone. -/
def regA (R : List Wd) (r : Int) (v : Wd) : List Wd := if 0 ≤ r ∧ r ≤ 7 then R.set r.toNat v else R
def memA (L : List Wd) (n : Int) (v : Wd) : List Wd := if 0 ≤ n ∧ n ≤ 23 then L.set n.toNat v else L
def gonA (G : List Bool) (n : Int) : List Bool := if 0 ≤ n ∧ n ≤ 23 then G.set n.toNat true else G
theorem regA_len (R : List Wd) (r : Int) (v : Wd) : (regA R r v).length = R.length := by
  unfold regA
  split
  · rw [List.length_set]
  · rfl
theorem memA_len (R : List Wd) (r : Int) (v : Wd) : (memA R r v).length = R.length := by
  unfold memA
  split
  · rw [List.length_set]
  · rfl
theorem gonA_len (G : List Bool) (r : Int) : (gonA G r).length = G.length := by
  unfold gonA
  split
  · rw [List.length_set]
  · rfl
/-- Where l9Apply stands: its three blocks, the rows that it was given, and that nothing else has turned. -/
structure Ap (w0 : World) (vs es : List Value) (b b1 b2 : Option Addr) (R L : List Wd) (G : List Bool) (w : World) : Prop where
  k : KeptS (fun k => (On b k ∨ On b1 k ∨ On b2 k) ∨ w0.heap.size ≤ k) w0 w
  s : Cel w w0.heap.size vs
  e : Cel w (w0.heap.size + 1) es
  z : Cel w (w0.heap.size + 1 + 1) [.slice none 0 0, .int .i64 0, .bool false, .int .i64 0, .int .i64 0, .int .i64 0, .int .i64 0, .slice none 0 0, .slice none 0 0, .int .i64 0]
  a : AnsS b b1 b2 8 24 24 R L G w
section
variable {w0 w w' : World} {vs es : List Value} {b b1 b2 : Option Addr} {R L : List Wd} {G : List Bool}
theorem RowWA.block {a : Option Addr} {n : Nat} (h : RowWA w a n L) (hn : 0 < n) : ∃ q, a = some ⟨q, 0, none⟩ ∧ L.length = n ∧ OutW w q n n L := by
  rcases h with ⟨_, h0, _⟩ | h
  · omega
  · exact h
theorem RowBA.block {a : Option Addr} {n : Nat} (h : RowBA w a n G) (hn : 0 < n) : ∃ q, a = some ⟨q, 0, none⟩ ∧ G.length = n ∧ OutB w q n n G := by
  rcases h with ⟨_, h0, _⟩ | h
  · omega
  · exact h
theorem Ap.reg (h : Ap w0 vs es b b1 b2 R L G w) (hf : ∀ k, On b k ∨ On b1 k ∨ On b2 k → k < w0.heap.size) {q k : Nat} (hb : b = some ⟨q, 0, none⟩) (hk : k < 8) (v : Wd) : Ap w0 vs es b b1 b2 (R.set k v) L G (w.setCells q (k * 6) v.vs) := by
  subst hb
  have hq := hf q (.inl ((on_some q q).2 rfl))
  have K := KeepBut.setCells (b := q) v.vs (k * 6) w
  obtain ⟨q', hq', hl, hO⟩ := h.a.rs.block (by omega)
  cases hq'
  refine ⟨h.k.trans (KeptS.ofBut K (.inl (.inl ((on_some q q).2 rfl)))), h.s.keep K (by omega), h.e.keep K (by omega), h.z.keep K (by omega), ⟨.inr ⟨q, rfl, by rw [List.length_set]; exact hl, hO.put hl hk v⟩, ?_, ?_, h.a.n01, h.a.n02, h.a.n12⟩⟩
  · exact h.a.ws.ofBlock K.size fun i hi ho => K.block i hi fun e => h.a.n01 i ((on_some q i).2 e.symm) ho
  · exact h.a.gs.ofBlock K.size fun i hi ho => K.block i hi fun e => h.a.n02 i ((on_some q i).2 e.symm) ho
theorem Ap.mem (h : Ap w0 vs es b b1 b2 R L G w) (hf : ∀ k, On b k ∨ On b1 k ∨ On b2 k → k < w0.heap.size) {q k : Nat} (hb : b1 = some ⟨q, 0, none⟩) (hk : k < 24) (v : Wd) : Ap w0 vs es b b1 b2 R (L.set k v) G (w.setCells q (k * 6) v.vs) := by
  subst hb
  have hq := hf q (.inr (.inl ((on_some q q).2 rfl)))
  have K := KeepBut.setCells (b := q) v.vs (k * 6) w
  obtain ⟨q', hq', hl, hO⟩ := h.a.ws.block (by omega)
  cases hq'
  refine ⟨h.k.trans (KeptS.ofBut K (.inl (.inr (.inl ((on_some q q).2 rfl))))), h.s.keep K (by omega), h.e.keep K (by omega), h.z.keep K (by omega), ⟨?_, .inr ⟨q, rfl, by rw [List.length_set]; exact hl, hO.put hl hk v⟩, ?_, h.a.n01, h.a.n02, h.a.n12⟩⟩
  · exact h.a.rs.ofBlock K.size fun i hi ho => K.block i hi fun e => h.a.n01 i ho ((on_some q i).2 e.symm)
  · exact h.a.gs.ofBlock K.size fun i hi ho => K.block i hi fun e => h.a.n12 i ((on_some q i).2 e.symm) ho
theorem Ap.gon (h : Ap w0 vs es b b1 b2 R L G w) (hf : ∀ k, On b k ∨ On b1 k ∨ On b2 k → k < w0.heap.size) {q k : Nat} (hb : b2 = some ⟨q, 0, none⟩) (hk : k < 24) (v : Bool) : Ap w0 vs es b b1 b2 R L (G.set k v) (w.setCell ⟨q, k, none⟩ (.bool v)) := by
  subst hb
  have hq := hf q (.inr (.inr ((on_some q q).2 rfl)))
  have K := (KeepBut.refl q w).setCell k (.bool v)
  obtain ⟨q', hq', hl, hO⟩ := h.a.gs.block (by omega)
  cases hq'
  refine ⟨h.k.trans (KeptS.ofBut K (.inl (.inr (.inr ((on_some q q).2 rfl))))), h.s.keep K (by omega), h.e.keep K (by omega), h.z.keep K (by omega), ⟨?_, ?_, .inr ⟨q, rfl, by rw [List.length_set]; exact hl, hO.put hl hk v⟩, h.a.n01, h.a.n02, h.a.n12⟩⟩
  · exact h.a.rs.ofBlock K.size fun i hi ho => K.block i hi fun e => h.a.n02 i ho ((on_some q i).2 e.symm)
  · exact h.a.ws.ofBlock K.size fun i hi ho => K.block i hi fun e => h.a.n12 i ho ((on_some q i).2 e.symm)
theorem Ap.own (h : Ap w0 vs es b b1 b2 R L G w) (hf : ∀ k, On b k ∨ On b1 k ∨ On b2 k → k < w0.heap.size) {us : List Value} (hl : us.length = vs.length) : Ap w0 us es b b1 b2 R L G (w.setCells w0.heap.size 0 us) := by
  have K := KeepBut.setCells (b := w0.heap.size) us 0 w
  refine ⟨h.k.trans (KeptS.ofBut K (.inr (Nat.le_refl _))), h.s.sets hl, h.e.keep K (by omega), h.z.keep K (by omega), ?_⟩
  exact (ansSF b b1 b2 8 24 24 R L G).keep _ _ h.a K.size fun k hk ho => K.block k hk (by have := hf k ho; omega)
theorem Ap.cell (h : Ap w0 vs es b b1 b2 R L G w) (hf : ∀ k, On b k ∨ On b1 k ∨ On b2 k → k < w0.heap.size) (i : Nat) (v : Value) : Ap w0 (vs.set i v) es b b1 b2 R L G (w.setCell ⟨w0.heap.size, i, none⟩ v) := by
  have K := (KeepBut.refl w0.heap.size w).setCell i v
  refine ⟨h.k.trans (KeptS.ofBut K (.inr (Nat.le_refl _))), h.s.set i v, h.e.keep K (by omega), h.z.keep K (by omega), ?_⟩
  exact (ansSF b b1 b2 8 24 24 R L G).keep _ _ h.a K.size fun k hk ho => K.block k hk (by have := hf k ho; omega)
end

set_option maxHeartbeats 8000000 in
theorem l9Apply_any (b : Option Addr) (d : Nat) (x : Wd) (b1 : Option Addr) (d1 : Nat) (b2 : Option Addr) (d2 : Nat) (t : Int) (E : Eff) (R L : List Wd) (G : List Bool) (w : World) (hA : AnsS b b1 b2 8 24 24 R L G w) :
    Calls Tryz.prog 36 #[.agg #[.slice b 8 d, .int .i64 x.n, .bool x.i, .int .i64 x.b, .int .i64 x.t, .int .i64 x.p, .int .i64 x.s, .slice b1 24 d1, .slice b2 24 d2, .int .i64 t], .agg (effl E).toArray] w fun e w' => e = .returned (.agg #[.slice b 8 d, .int .i64 E.x.n, .bool E.x.i, .int .i64 E.x.b, .int .i64 E.x.t, .int .i64 E.x.p, .int .i64 E.x.s, .slice b1 24 d1, .slice b2 24 d2, .int .i64 t]) ∧ AnsS b b1 b2 8 24 24 (regA R E.r E.v) (memA L E.at_ E.p) (gonA G E.d) w' ∧ KeptS (fun k => On b k ∨ On b1 k ∨ On b2 k) w w' := by
  obtain ⟨et, er, ev, ex, ea, ep, ed⟩ := E
  obtain ⟨q, rfl, _, _⟩ := hA.rs.block (by omega)
  obtain ⟨q1, rfl, _, _⟩ := hA.ws.block (by omega)
  obtain ⟨q2, rfl, _, _⟩ := hA.gs.block (by omega)
  have hf : ∀ k, On (some ⟨q, 0, none⟩) k ∨ On (some ⟨q1, 0, none⟩) k ∨ On (some ⟨q2, 0, none⟩) k → k < w.heap.size := fun k hk => hA.lt hk
  have HF := hid_mk hf
  have P : Hid (Ap w (stl (some ⟨q, 0, none⟩) 8 d x (some ⟨q1, 0, none⟩) 24 d1 (some ⟨q2, 0, none⟩) 24 d2 t) (effl ⟨et, er, ev, ex, ea, ep, ed⟩) (some ⟨q, 0, none⟩) (some ⟨q1, 0, none⟩) (some ⟨q2, 0, none⟩) R L G (((w.alloc (.cells (stl (some ⟨q, 0, none⟩) 8 d x (some ⟨q1, 0, none⟩) 24 d1 (some ⟨q2, 0, none⟩) 24 d2 t).toArray 42)).alloc (.cells (effl ⟨et, er, ev, ex, ea, ep, ed⟩).toArray 82)).alloc (.cells ([.slice none 0 0, .int .i64 0, .bool false, .int .i64 0, .int .i64 0, .int .i64 0, .int .i64 0, .slice none 0 0, .slice none 0 0, .int .i64 0] : List Value).toArray 42))) := by
    have hb : Below w.heap.size w (((w.alloc (.cells (stl (some ⟨q, 0, none⟩) 8 d x (some ⟨q1, 0, none⟩) 24 d1 (some ⟨q2, 0, none⟩) 24 d2 t).toArray 42)).alloc (.cells (effl ⟨et, er, ev, ex, ea, ep, ed⟩).toArray 82)).alloc (.cells ([.slice none 0 0, .int .i64 0, .bool false, .int .i64 0, .int .i64 0, .int .i64 0, .int .i64 0, .slice none 0 0, .slice none 0 0, .int .i64 0] : List Value).toArray 42)) := (((Below.refl _ w).alloc (Nat.le_refl _) _).alloc (by simp) _).alloc (by simp; omega) _
    have g1 := Cel.new (w.alloc (.cells (stl (some ⟨q, 0, none⟩) 8 d x (some ⟨q1, 0, none⟩) 24 d1 (some ⟨q2, 0, none⟩) 24 d2 t).toArray 42)) (effl ⟨et, er, ev, ex, ea, ep, ed⟩) 82
    rw [World.size_alloc] at g1
    have g2 := Cel.new ((w.alloc (.cells (stl (some ⟨q, 0, none⟩) 8 d x (some ⟨q1, 0, none⟩) 24 d1 (some ⟨q2, 0, none⟩) 24 d2 t).toArray 42)).alloc (.cells (effl ⟨et, er, ev, ex, ea, ep, ed⟩).toArray 82)) [.slice none 0 0, .int .i64 0, .bool false, .int .i64 0, .int .i64 0, .int .i64 0, .int .i64 0, .slice none 0 0, .slice none 0 0, .int .i64 0] 42
    rw [World.size_alloc, World.size_alloc] at g2
    exact ⟨KeptS.ofBelow hb, ((Cel.new w _ _).alloc _).alloc _, g1.alloc _, g2, hA.below hb⟩
  have s1 := in_any er 0 7
  obtain ⟨z1, Z1⟩ : ∃ z, Hid (z = decide (0 ≤ er ∧ er ≤ 7)) := ⟨_, rfl⟩
  rw [← Z1.out] at s1
  have s2 := in_any ea 0 23
  obtain ⟨z2, Z2⟩ : ∃ z, Hid (z = decide (0 ≤ ea ∧ ea ≤ 23)) := ⟨_, rfl⟩
  rw [← Z2.out] at s2
  have s3 := in_any ed 0 23
  obtain ⟨z3, Z3⟩ : ∃ z, Hid (z = decide (0 ≤ ed ∧ ed ≤ 23)) := ⟨_, rfl⟩
  rw [← Z3.out] at s3
  have S1 := hid_mk s1
  have S2 := hid_mk s2
  have S3 := hid_mk s3
  obtain ⟨R2, hR2⟩ : ∃ R2, Hid (R2 = regA R er ev) := ⟨_, rfl⟩
  obtain ⟨L2, hL2⟩ : ∃ L2, Hid (L2 = memA L ea ep) := ⟨_, rfl⟩
  obtain ⟨G2, hG2⟩ : ∃ G2, Hid (G2 = gonA G ed) := ⟨_, rfl⟩
  rw [← hR2.out, ← hL2.out, ← hG2.out]
  clear hA hf s1 s2 s3
  obtain ⟨rb, hrb⟩ : ∃ r, r = w.heap.size := ⟨_, rfl⟩
  generalize hw1 : (((w.alloc (.cells (stl (some ⟨q, 0, none⟩) 8 d x (some ⟨q1, 0, none⟩) 24 d1 (some ⟨q2, 0, none⟩) 24 d2 t).toArray 42)).alloc (.cells (effl ⟨et, er, ev, ex, ea, ep, ed⟩).toArray 82)).alloc (.cells ([.slice none 0 0, .int .i64 0, .bool false, .int .i64 0, .int .i64 0, .int .i64 0, .int .i64 0, .slice none 0 0, .slice none 0 0, .int .i64 0] : List Value).toArray 42)) = w1 at P
  go_enter Tryz.func36, Tryz.ntmps36
  go_upto_region 1 with fail
  clear hw1 hrb
  have c1 := P.out.e.c 1 _ rfl
  go_wp2_with fail
  refine (S1.out _).mono ?_
  rintro e w' ⟨rfl, hw'⟩
  subst w'
  clear c1
  go_upto_if 7 with fail
  go_cut [] (fun wx => Hid (Ap w (stl (some ⟨q, 0, none⟩) 8 d x (some ⟨q1, 0, none⟩) 24 d1 (some ⟨q2, 0, none⟩) 24 d2 t) (effl ⟨et, er, ev, ex, ea, ep, ed⟩) (some ⟨q, 0, none⟩) (some ⟨q1, 0, none⟩) (some ⟨q2, 0, none⟩) R2 L G wx))
  case first =>
    by_cases hi : 0 ≤ er ∧ er ≤ 7
    · have hz : z1 = true := by rw [Z1.out]; exact decide_eq_true hi
      subst hz
      obtain ⟨k, hkm⟩ : ∃ k : Nat, er.toNat = k := ⟨_, rfl⟩
      have hR : Hid (R2 = R.set k ev) := by
        have h := hR2.out
        rw [regA, if_pos hi, hkm] at h
        exact h
      obtain ⟨hi0, hi1⟩ := hi
      have hk8 : k < 8 := by omega
      have hmk : er = (k : Int) := by omega
      subst hmk
      obtain ⟨_, hq, _, hO⟩ := P.out.a.rs.block (by omega)
      cases hq
      have P2 := hid_mk (P.out.reg HF.out rfl hk8 ev)
      rw [← hR.out, sixCells] at P2
      have cs := P.out.s.c 0 _ rfl
      have c1 := P.out.e.c 1 _ rfl
      have c2 := P.out.e.c 2 _ rfl
      have c3 := P.out.e.c 3 _ rfl
      have c4 := P.out.e.c 4 _ rfl
      have c5 := P.out.e.c 5 _ rfl
      have c6 := P.out.e.c 6 _ rfl
      have c7 := P.out.e.c 7 _ rfl
      obtain ⟨u0, e0⟩ := Option.isSome_iff_exists.1 (hO.has (k * 6) (by omega))
      obtain ⟨u1, e1⟩ := Option.isSome_iff_exists.1 (hO.has (k * 6 + 1) (by omega))
      obtain ⟨u2, e2⟩ := Option.isSome_iff_exists.1 (hO.has (k * 6 + 2) (by omega))
      obtain ⟨u3, e3⟩ := Option.isSome_iff_exists.1 (hO.has (k * 6 + 3) (by omega))
      obtain ⟨u4, e4⟩ := Option.isSome_iff_exists.1 (hO.has (k * 6 + 4) (by omega))
      obtain ⟨u5, e5⟩ := Option.isSome_iff_exists.1 (hO.has (k * 6 + 5) (by omega))
      have g0 := hO.fr (k * 6) (by omega)
      have g1 := hO.fr (k * 6 + 1) (by omega)
      have g2 := hO.fr (k * 6 + 2) (by omega)
      have g3 := hO.fr (k * 6 + 3) (by omega)
      have g4 := hO.fr (k * 6 + 4) (by omega)
      have g5 := hO.fr (k * 6 + 5) (by omega)
      clear hR2 P hO hkm
      go_wp2
      go_meet
      case rel => exact P2
    · have hz : z1 = false := by rw [Z1.out]; exact decide_eq_false hi
      subst hz
      have hR : R2 = R := by
        have h := hR2.out
        rw [regA, if_neg hi] at h
        exact h
      subst hR
      go_wp2
      go_meet
      case rel => exact P
  case' rest =>
    clear P
    have P := hcut
    clear hcut
  have c1 := P.out.e.c 14 _ rfl
  go_wp2_with fail
  refine (S2.out _).mono ?_
  rintro e w' ⟨rfl, hw'⟩
  subst w'
  clear c1
  go_upto_if 17 with fail
  go_cut [] (fun wx => Hid (Ap w (stl (some ⟨q, 0, none⟩) 8 d x (some ⟨q1, 0, none⟩) 24 d1 (some ⟨q2, 0, none⟩) 24 d2 t) (effl ⟨et, er, ev, ex, ea, ep, ed⟩) (some ⟨q, 0, none⟩) (some ⟨q1, 0, none⟩) (some ⟨q2, 0, none⟩) R2 L2 G wx))
  case first =>
    by_cases hi : 0 ≤ ea ∧ ea ≤ 23
    · have hz : z2 = true := by rw [Z2.out]; exact decide_eq_true hi
      subst hz
      obtain ⟨k, hkm⟩ : ∃ k : Nat, ea.toNat = k := ⟨_, rfl⟩
      have hR : Hid (L2 = L.set k ep) := by
        have h := hL2.out
        rw [memA, if_pos hi, hkm] at h
        exact h
      obtain ⟨hi0, hi1⟩ := hi
      have hk8 : k < 24 := by omega
      have hmk : ea = (k : Int) := by omega
      subst hmk
      obtain ⟨_, hq, _, hO⟩ := P.out.a.ws.block (by omega)
      cases hq
      have P2 := hid_mk (P.out.mem HF.out rfl hk8 ep)
      rw [← hR.out, sixCells] at P2
      have cs := P.out.s.c 7 _ rfl
      have c1 := P.out.e.c 14 _ rfl
      have c15 := P.out.e.c 15 _ rfl
      have c16 := P.out.e.c 16 _ rfl
      have c17 := P.out.e.c 17 _ rfl
      have c18 := P.out.e.c 18 _ rfl
      have c19 := P.out.e.c 19 _ rfl
      have c20 := P.out.e.c 20 _ rfl
      obtain ⟨u0, e0⟩ := Option.isSome_iff_exists.1 (hO.has (k * 6) (by omega))
      obtain ⟨u1, e1⟩ := Option.isSome_iff_exists.1 (hO.has (k * 6 + 1) (by omega))
      obtain ⟨u2, e2⟩ := Option.isSome_iff_exists.1 (hO.has (k * 6 + 2) (by omega))
      obtain ⟨u3, e3⟩ := Option.isSome_iff_exists.1 (hO.has (k * 6 + 3) (by omega))
      obtain ⟨u4, e4⟩ := Option.isSome_iff_exists.1 (hO.has (k * 6 + 4) (by omega))
      obtain ⟨u5, e5⟩ := Option.isSome_iff_exists.1 (hO.has (k * 6 + 5) (by omega))
      have g0 := hO.fr (k * 6) (by omega)
      have g1 := hO.fr (k * 6 + 1) (by omega)
      have g2 := hO.fr (k * 6 + 2) (by omega)
      have g3 := hO.fr (k * 6 + 3) (by omega)
      have g4 := hO.fr (k * 6 + 4) (by omega)
      have g5 := hO.fr (k * 6 + 5) (by omega)
      clear hL2 P hO hkm
      go_wp2
      go_meet
      case rel => exact P2
    · have hz : z2 = false := by rw [Z2.out]; exact decide_eq_false hi
      subst hz
      have hR : L2 = L := by
        have h := hL2.out
        rw [memA, if_neg hi] at h
        exact h
      subst hR
      go_wp2
      go_meet
      case rel => exact P
  case' rest =>
    clear P
    have P := hcut
    clear hcut
  have c1 := P.out.e.c 21 _ rfl
  go_wp2_with fail
  refine (S3.out _).mono ?_
  rintro e w' ⟨rfl, hw'⟩
  subst w'
  clear c1
  go_upto_if 28 with fail
  go_cut [] (fun wx => Hid (Ap w (stl (some ⟨q, 0, none⟩) 8 d x (some ⟨q1, 0, none⟩) 24 d1 (some ⟨q2, 0, none⟩) 24 d2 t) (effl ⟨et, er, ev, ex, ea, ep, ed⟩) (some ⟨q, 0, none⟩) (some ⟨q1, 0, none⟩) (some ⟨q2, 0, none⟩) R2 L2 G2 wx))
  case first =>
    by_cases hi : 0 ≤ ed ∧ ed ≤ 23
    · have hz : z3 = true := by rw [Z3.out]; exact decide_eq_true hi
      subst hz
      obtain ⟨k, hkm⟩ : ∃ k : Nat, ed.toNat = k := ⟨_, rfl⟩
      have hR : Hid (G2 = G.set k true) := by
        have h := hG2.out
        rw [gonA, if_pos hi, hkm] at h
        exact h
      obtain ⟨hi0, hi1⟩ := hi
      have hk8 : k < 24 := by omega
      have hmk : ed = (k : Int) := by omega
      subst hmk
      obtain ⟨_, hq, _, hO⟩ := P.out.a.gs.block (by omega)
      cases hq
      have P2 := hid_mk (P.out.gon HF.out rfl hk8 true)
      rw [← hR.out] at P2
      have cs := P.out.s.c 8 _ rfl
      have c1 := P.out.e.c 21 _ rfl
      obtain ⟨u0, e0⟩ := Option.isSome_iff_exists.1 (hO.has k (by omega))
      have g0 := hO.fr k (by omega)
      clear hG2 P hO hkm
      go_wp2
      go_meet
      case rel => exact P2
    · have hz : z3 = false := by rw [Z3.out]; exact decide_eq_false hi
      subst hz
      have hR : G2 = G := by
        have h := hG2.out
        rw [gonA, if_neg hi] at h
        exact h
      subst hR
      go_wp2
      go_meet
      case rel => exact P
  case' rest =>
    clear P
    have P := hcut
    clear hcut
  clear hR2 hL2 hG2 S1 S2 S3
  go_upto_region 7 with fail
  have c0 := P.out.e.c 8 _ rfl
  have c1 := P.out.e.c 9 _ rfl
  have c2 := P.out.e.c 10 _ rfl
  have c3 := P.out.e.c 11 _ rfl
  have c4 := P.out.e.c 12 _ rfl
  have c5 := P.out.e.c 13 _ rfl
  obtain ⟨o0, o1, o2, o3, o4, o5, o6, o7, o8, o9⟩ := P.out.s.c10
  obtain ⟨g0, g1, g2, g3, g4, g5, g6, g7, g8, g9⟩ := P.out.s.f10
  have P2 : Hid (Ap w (stl (some ⟨q, 0, none⟩) 8 d ex (some ⟨q1, 0, none⟩) 24 d1 (some ⟨q2, 0, none⟩) 24 d2 t) (effl ⟨et, er, ev, ex, ea, ep, ed⟩) (some ⟨q, 0, none⟩) (some ⟨q1, 0, none⟩) (some ⟨q2, 0, none⟩) R2 L2 G2 ((((((wc.setCell ⟨w.heap.size, 1, none⟩ (.int .i64 ex.n)).setCell ⟨w.heap.size, 2, none⟩ (.bool ex.i)).setCell ⟨w.heap.size, 3, none⟩ (.int .i64 ex.b)).setCell ⟨w.heap.size, 4, none⟩ (.int .i64 ex.t)).setCell ⟨w.heap.size, 5, none⟩ (.int .i64 ex.p)).setCell ⟨w.heap.size, 6, none⟩ (.int .i64 ex.s))) := (((((P.out.cell HF.out 1 _).cell HF.out 2 _).cell HF.out 3 _).cell HF.out 4 _).cell HF.out 5 _).cell HF.out 6 _
  clear P
  go_upto_region 8 with fail
  clear c0 c1 c2 c3 c4 c5 o0 o1 o2 o3 o4 o5 o6 o7 o8 o9 g0 g1 g2 g3 g4 g5 g6 g7 g8 g9
  generalize ((((((wc.setCell ⟨w.heap.size, 1, none⟩ (.int .i64 ex.n)).setCell ⟨w.heap.size, 2, none⟩ (.bool ex.i)).setCell ⟨w.heap.size, 3, none⟩ (.int .i64 ex.b)).setCell ⟨w.heap.size, 4, none⟩ (.int .i64 ex.t)).setCell ⟨w.heap.size, 5, none⟩ (.int .i64 ex.p)).setCell ⟨w.heap.size, 6, none⟩ (.int .i64 ex.s)) = w9 at P2 ⊢
  have CS := hid_mk P2.out.s
  have CZ := hid_mk P2.out.z
  have C3 := hid_mk (CZ.out.sets (us := stl (some ⟨q, 0, none⟩) 8 d ex (some ⟨q1, 0, none⟩) 24 d1 (some ⟨q2, 0, none⟩) 24 d2 t) rfl)
  have K3 := hid_mk (KeepBut.setCells (b := w.heap.size + 1 + 1) (stl (some ⟨q, 0, none⟩) 8 d ex (some ⟨q1, 0, none⟩) 24 d1 (some ⟨q2, 0, none⟩) 24 d2 t) 0 w9)
  have hlv := hid_mk (lv_st C3.out rfl)
  go_wp2_with (first | (refine wpList_load_mid (by rfl) 42 _ (by rfl) w.heap.size 0 (by rfl) (stl (some ⟨q, 0, none⟩) 8 d ex (some ⟨q1, 0, none⟩) 24 d1 (some ⟨q2, 0, none⟩) 24 d2 t) _ CS.out.range Tryz.underlying42 rfl sizeSt ?_) | (refine wpList_store_mid (by rfl) 42 _ _ (by rfl) (w.heap.size + 1 + 1) 0 (stl (some ⟨q, 0, none⟩) 8 d ex (some ⟨q1, 0, none⟩) 24 d1 (some ⟨q2, 0, none⟩) 24 d2 t).toArray (by rfl) (by rfl) CZ.out.there sizeSt (stl_one _ _ _ _ _ _ _ _ _ _ _) ?_))
  refine bodyPost_ret (v := .agg (stl (some ⟨q, 0, none⟩) 8 d ex (some ⟨q1, 0, none⟩) 24 d1 (some ⟨q2, 0, none⟩) 24 d2 t).toArray) (results_cell1 Tryz.results36 (by rfl) hlv.out) rfl ⟨rfl, ?_, ?_⟩
  · exact (ansSF _ _ _ 8 24 24 R2 L2 G2).keep _ _ P2.out.a K3.out.size fun k hk ho => K3.out.block k hk (by have := HF.out k ho; omega)
  · have k9 := P2.out.k.trans (KeptS.ofBut K3.out (.inr (by omega)))
    exact ⟨k9.os, k9.tape, k9.output, k9.size, fun k hk ht => k9.block k hk fun h => h.elim ht (fun h => by omega)⟩
end Go.Proofs.YtpkhnajhamnggaaGreatDoor
