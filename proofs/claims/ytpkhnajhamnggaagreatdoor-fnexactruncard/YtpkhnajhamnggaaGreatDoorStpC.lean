/- What a step does, as an effect; effectIn of the program: it answers just that. The memory's words have room for their number, and the program's errors hold what its text lays. -/
import Derived.Test.YtpkhnajhamnggaaGreatDoorStpA
import Derived.Test.YtpkhnajhamnggaaGreatDoorZN
namespace Go.Proofs.YtpkhnajhamnggaaGreatDoor
open Go.ChangeShapes Go.WideShapes Go.ChangeAt Go.RowKit
set_option maxRecDepth 100000

/-- The effect of a place that was fetched; of a step. -/
def effW (i : In) (R : List Wd) (x : Wd) (L : List Wd) (G : List Bool) : Eff :=
  if accZ i.o i.n L (R.getD i.a.toNat wd0) (R.getD i.b.toNat wd0) = 0 then wrkE i.o i.r i.n x (R.getD i.a.toNat wd0) (R.getD i.b.toNat wd0) (accW i.o i.n L G (R.getD i.a.toNat wd0)) else trpE (accZ i.o i.n L (R.getD i.a.toNat wd0) (R.getD i.b.toNat wd0)) x
def effI (Ls : List In) (R : List Wd) (x : Wd) (L : List Wd) (G : List Bool) (t : Int) : Eff :=
  if t = 0 then (if fetT Ls x.n x.i x.b x.t x.p x.s = 0 then effW (fetX Ls x.n x.i x.b x.t x.p x.s) R x L G else trpE (fetT Ls x.n x.i x.b x.t x.p x.s) x) else trpE t x
theorem fet_ok {Ls : List In} {n : Int} {i : Bool} {b t p s : Int} (h : fetT Ls n i b t p s = 0) : iokB (fetX Ls n i b t p s).o (fetX Ls n i b t p s).r (fetX Ls n i b t p s).a (fetX Ls n i b t p s).b (fetX Ls n i b t p s).n = true := by
  unfold fetT at h
  unfold fetX
  split at h
  · rename_i hz
    rw [if_pos hz]
    cases hp : plcB Ls n with
    | false => rw [hp] at h; simp at h
    | true =>
      rw [cond_true]
      unfold plcB at hp
      rw [Bool.and_eq_true] at hp
      exact hp.2
  · rename_i hz
    exact absurd h hz
theorem Hold.swap {w0 w : World} {f g : Fct} {fs : List Fct} (h : Hold w0 w (f :: g :: fs)) : Hold w0 w (g :: f :: fs) := h.sub fun x hx => by
  rcases List.mem_cons.1 hx with rfl | hx
  · exact .tail _ (.head _)
  · rcases List.mem_cons.1 hx with rfl | hx
    · exact .head _
    · exact .tail _ (.tail _ hx)
theorem sizeWd : (Tryz.prog.info? 38).map (·.size) = some 6 := by kernel_rfl
theorem wl_one (x : Wd) : ((wl x).toArray.all (·.oneCell')) = true := all_oneCell_toArray fun v hv => by
  simp only [wl, List.mem_cons, List.not_mem_nil, or_false] at hv
  rcases hv with rfl | rfl | rfl | rfl | rfl | rfl <;> rfl

set_option maxHeartbeats 2000000 in
theorem effectIn_any (a0 a1' a2' a3 : Addr) (la : Option Addr) (ln lc : Nat) (Ls : List In) (a : Option Addr) (c : Nat) (x : Wd) (a1 : Option Addr) (n1 c1 : Nat) (a2 : Option Addr) (n2 c2 : Nat) (t : Int) (R L : List Wd) (G : List Bool) (hcap : n1 ≤ c1) (w : World) (hL : SliceI w.heap.size w la ln Ls) (hS : StS w a 8 a1 n1 a2 n2 R L G) (hE0 : Errs a0 a1' a2' a3 w) :
    Calls Tryz.prog 43 #[.slice la ln lc, .agg #[.slice a 8 c, .int .i64 x.n, .bool x.i, .int .i64 x.b, .int .i64 x.t, .int .i64 x.p, .int .i64 x.s, .slice a1 n1 c1, .slice a2 n2 c2, .int .i64 t]] w fun e w' => e = .returned (.agg (effl (effI Ls R x L G t)).toArray) ∧ Below w.heap.size w w' := by
  have hlr := hS.rs.2.1
  obtain ⟨kb, o, _, rfl, _, _, _⟩ := hS.rs.at (j := 0) (by omega)
  have H : Hid (Hold w ((w.alloc (.cells (stl (some ⟨kb, o, none⟩) 8 c x a1 n1 c1 a2 n2 c2 t).toArray 42)).alloc (.cells ([.int .i64 0, .int .i64 0, .int .i64 0, .bool false, .int .i64 0, .int .i64 0, .int .i64 0, .int .i64 0, .int .i64 0, .bool false, .int .i64 0, .int .i64 0, .int .i64 0, .int .i64 0, .int .i64 0, .int .i64 0, .bool false, .int .i64 0, .int .i64 0, .int .i64 0, .int .i64 0, .int .i64 0] : List Value).toArray 82)) [celF (w.heap.size + 1) [.int .i64 0, .int .i64 0, .int .i64 0, .bool false, .int .i64 0, .int .i64 0, .int .i64 0, .int .i64 0, .int .i64 0, .bool false, .int .i64 0, .int .i64 0, .int .i64 0, .int .i64 0, .int .i64 0, .int .i64 0, .bool false, .int .i64 0, .int .i64 0, .int .i64 0, .int .i64 0, .int .i64 0], celF w.heap.size (stl (some ⟨kb, o, none⟩) 8 c x a1 n1 c1 a2 n2 c2 t), argSF w.heap.size (some ⟨kb, o, none⟩) 8 a1 n1 a2 n2 R L G]) := by
    have h1 := (((Hold.new w).push (argSF w.heap.size (some ⟨kb, o, none⟩) 8 a1 n1 a2 n2 R L G) hS.arg).alloc (.cells (stl (some ⟨kb, o, none⟩) 8 c x a1 n1 c1 a2 n2 c2 t).toArray 42)).push (celF w.heap.size (stl (some ⟨kb, o, none⟩) 8 c x a1 n1 c1 a2 n2 c2 t)) (Cel.new w _ _)
    exact h1.box ([.int .i64 0, .int .i64 0, .int .i64 0, .bool false, .int .i64 0, .int .i64 0, .int .i64 0, .int .i64 0, .int .i64 0, .bool false, .int .i64 0, .int .i64 0, .int .i64 0, .int .i64 0, .int .i64 0, .int .i64 0, .bool false, .int .i64 0, .int .i64 0, .int .i64 0, .int .i64 0, .int .i64 0] : List Value) 82 (w.heap.size + 1) (by simp)
  have HL := hid_mk hL
  have HE := hid_mk hE0
  obtain ⟨E, HEE⟩ : ∃ E, Hid (E = effI Ls R x L G t) := ⟨_, rfl⟩
  rw [← HEE.out]
  clear hL hS hE0
  generalize hw1 : (w.alloc (.cells (stl (some ⟨kb, o, none⟩) 8 c x a1 n1 c1 a2 n2 c2 t).toArray 42)).alloc (.cells ([.int .i64 0, .int .i64 0, .int .i64 0, .bool false, .int .i64 0, .int .i64 0, .int .i64 0, .int .i64 0, .int .i64 0, .bool false, .int .i64 0, .int .i64 0, .int .i64 0, .int .i64 0, .int .i64 0, .int .i64 0, .bool false, .int .i64 0, .int .i64 0, .int .i64 0, .int .i64 0, .int .i64 0] : List Value).toArray 82) = w1 at H
  go_enter Tryz.func43, Tryz.ntmps43
  go_upto_region 1 with fail
  clear hw1
  have hz1 : w.heap.size + 1 < w1.heap.size := (H.out.cel (.head _)).lt
  by_cases ht : t = 0
  · have htf : (t != 0) = false := by simp [ht]
    have HT0 := hid_mk ht
    clear ht
    obtain ⟨I0, HI⟩ : ∃ i, Hid (i = fetX Ls x.n x.i x.b x.t x.p x.s) := ⟨_, rfl⟩
    obtain ⟨tr, HT⟩ : ∃ i, Hid (i = fetT Ls x.n x.i x.b x.t x.p x.s) := ⟨_, rfl⟩
    have hE1 : Hid (E = if tr = 0 then effW I0 R x L G else trpE tr x) := by
      rw [HEE.out, effI, if_pos HT0.out, ← HI.out, ← HT.out]
      rfl
    have hok : Hid (tr = 0 → iokB I0.o I0.r I0.a I0.b I0.n = true) := fun h => by
      rw [HI.out]
      exact fet_ok (by rw [← HT.out]; exact h)
    have s1 := fun w h1 h2 => implFetch_any a0 a1' a2' a3 la ln lc Ls x.n x.i x.b x.t x.p x.s w h1 h2
    rw [← HI.out, ← HT.out] at s1
    have S1 := hid_mk s1
    clear s1 HEE HI HT
    obtain ⟨io, ir, ia, ib, inn⟩ := I0
    simp only [inVal] at S1
    obtain ⟨m0, m1, m2, m3, m4, m5, m6, m7, m8, m9⟩ := (H.out.cel (.tail _ (.head _))).c10
    go_upto_region 4 with (go_at_call 93; refine (S1.out _ ((HL.out.below H.out.bel (Nat.le_refl _)).mono H.out.bel.size) (HE.out.below H.out.bel)).mono ?_; rintro e w2 ⟨rfl, hb⟩)
    replace H := hid_mk ((H.out.next hb).box (il io ir ia ib inn) 76 w2.heap.size rfl)
    have hz2 := hb.size
    clear hb m0 m1 m2 m3 m4 m5 m6 m7 m8 m9 S1
    have hzI : (w2.alloc (.cells (il io ir ia ib inn : List Value).toArray 76)).heap.size = w2.heap.size + 1 := by simp
    generalize w2.alloc (.cells (il io ir ia ib inn : List Value).toArray 76) = wI at H hzI ⊢
    obtain ⟨r5, hr5⟩ : ∃ r, r = w2.heap.size := ⟨_, rfl⟩
    rw [← hr5] at H hzI hz2 ⊢
    clear hr5
    have hw5 : w.heap.size + 1 < r5 := by omega
    have hI5 : r5 < wI.heap.size := by omega
    clear hzI hz2
    by_cases htr : tr = 0
    · subst htr
      have hr := iok_range (hok.out rfl)
      obtain ⟨ho1, ho2, hr1, hr2, ha1, ha2, hb1, hb2, _, _⟩ := hr
      obtain ⟨ka, hka⟩ : ∃ k : Nat, ia = (k : Int) := ⟨ia.toNat, by omega⟩
      obtain ⟨kc, hkc⟩ : ∃ k : Nat, ib = (k : Int) := ⟨ib.toNat, by omega⟩
      subst hka hkc
      have hka8 : ka < 8 := by omega
      have hkc8 : kc < 8 := by omega
      have hia : (ka : Int) < 8 := by omega
      have hic : (kc : Int) < 8 := by omega
      obtain ⟨A0, hA0⟩ : ∃ y, R[ka]? = some y := ⟨R[ka]'(by omega), List.getElem?_eq_getElem (by omega)⟩
      obtain ⟨B0, hB0⟩ : ∃ y, R[kc]? = some y := ⟨R[kc]'(by omega), List.getElem?_eq_getElem (by omega)⟩
      have ATA : Hid (∀ w', Hold w w' [celF r5 (il io ir (ka : Int) (kc : Int) inn), celF (w.heap.size + 1) [.int .i64 0, .int .i64 0, .int .i64 0, .bool false, .int .i64 0, .int .i64 0, .int .i64 0, .int .i64 0, .int .i64 0, .bool false, .int .i64 0, .int .i64 0, .int .i64 0, .int .i64 0, .int .i64 0, .int .i64 0, .bool false, .int .i64 0, .int .i64 0, .int .i64 0, .int .i64 0, .int .i64 0], celF w.heap.size (stl (some ⟨kb, o, none⟩) 8 c x a1 n1 c1 a2 n2 c2 t), argSF w.heap.size (some ⟨kb, o, none⟩) 8 a1 n1 a2 n2 R L G] → WordAt w' kb (o + ka * 6) A0) := fun w' h => by
        obtain ⟨k2, o2, y, e1, _, hy, hat⟩ := (h.argS (.tail _ (.tail _ (.tail _ (.head _))))).rs.at hka8
        cases e1
        rw [hA0] at hy
        cases hy
        exact hat
      have ATB : Hid (∀ w', Hold w w' [celF r5 (il io ir (ka : Int) (kc : Int) inn), celF (w.heap.size + 1) [.int .i64 0, .int .i64 0, .int .i64 0, .bool false, .int .i64 0, .int .i64 0, .int .i64 0, .int .i64 0, .int .i64 0, .bool false, .int .i64 0, .int .i64 0, .int .i64 0, .int .i64 0, .int .i64 0, .int .i64 0, .bool false, .int .i64 0, .int .i64 0, .int .i64 0, .int .i64 0, .int .i64 0], celF w.heap.size (stl (some ⟨kb, o, none⟩) 8 c x a1 n1 c1 a2 n2 c2 t), argSF w.heap.size (some ⟨kb, o, none⟩) 8 a1 n1 a2 n2 R L G] → WordAt w' kb (o + kc * 6) B0) := fun w' h => by
        obtain ⟨k2, o2, y, e1, _, hy, hat⟩ := (h.argS (.tail _ (.tail _ (.tail _ (.head _))))).rs.at hkc8
        cases e1
        rw [hB0] at hy
        cases hy
        exact hat
      have hEW0 : E = if accZ io inn L A0 B0 = 0 then wrkE io ir inn x A0 B0 (accW io inn L G A0) else trpE (accZ io inn L A0 B0) x := by
        rw [hE1.out, if_pos rfl]
        unfold effW
        simp only [Int.toNat_natCast, List.getD_eq_getElem?_getD, hA0, hB0, Option.getD_some]
      have hEW := hid_mk hEW0
      clear hEW0
      clear hE1 hok hA0 hB0 hr1 hr2 ha1 ha2 hb1 hb2
      go_upto_region 6 with fail
      go_cut [7, 8] (fun pa pb wx => ∃ r7 r8, pa = .pointer (some ⟨r7, 0, none⟩) ∧ pb = .pointer (some ⟨r8, 0, none⟩) ∧ w.heap.size + 1 < r7 ∧ w.heap.size + 1 < r8 ∧ Hid (Hold w wx [celF r7 (wl A0), celF r8 (wl B0), celF r5 (il io ir (ka : Int) (kc : Int) inn), celF (w.heap.size + 1) [.int .i64 0, .int .i64 0, .int .i64 0, .bool false, .int .i64 0, .int .i64 0, .int .i64 0, .int .i64 0, .int .i64 0, .bool false, .int .i64 0, .int .i64 0, .int .i64 0, .int .i64 0, .int .i64 0, .int .i64 0, .bool false, .int .i64 0, .int .i64 0, .int .i64 0, .int .i64 0, .int .i64 0], celF w.heap.size (stl (some ⟨kb, o, none⟩) 8 c x a1 n1 c1 a2 n2 c2 t), argSF w.heap.size (some ⟨kb, o, none⟩) 8 a1 n1 a2 n2 R L G]))
      case first =>
        have D0 := hid_mk H.out.drew
        refine wp_region_held_drew (S := fun w' => Hold w w' [celF r5 (il io ir (ka : Int) (kc : Int) inn), celF (w.heap.size + 1) [.int .i64 0, .int .i64 0, .int .i64 0, .bool false, .int .i64 0, .int .i64 0, .int .i64 0, .int .i64 0, .int .i64 0, .bool false, .int .i64 0, .int .i64 0, .int .i64 0, .int .i64 0, .int .i64 0, .int .i64 0, .bool false, .int .i64 0, .int .i64 0, .int .i64 0, .int .i64 0, .int .i64 0], celF w.heap.size (stl (some ⟨kb, o, none⟩) 8 c x a1 n1 c1 a2 n2 c2 t), argSF w.heap.size (some ⟨kb, o, none⟩) 8 a1 n1 a2 n2 R L G]) (by kernel_rfl) D0.out (fun hHeld => ?_)
        have hzd : wI.drew.heap.size = wI.heap.size := by simp
        generalize wI.drew = wd at D0 hHeld hzd ⊢
        have hzw : w.heap.size + 1 < wd.heap.size ∧ r5 < wd.heap.size := by omega
        clear hzd H
        have DD : Hid (∀ f ∈ [celF r5 (il io ir (ka : Int) (kc : Int) inn), celF (w.heap.size + 1) [.int .i64 0, .int .i64 0, .int .i64 0, .bool false, .int .i64 0, .int .i64 0, .int .i64 0, .int .i64 0, .int .i64 0, .bool false, .int .i64 0, .int .i64 0, .int .i64 0, .int .i64 0, .int .i64 0, .int .i64 0, .bool false, .int .i64 0, .int .i64 0, .int .i64 0, .int .i64 0, .int .i64 0], celF w.heap.size (stl (some ⟨kb, o, none⟩) 8 c x a1 n1 c1 a2 n2 c2 t), argSF w.heap.size (some ⟨kb, o, none⟩) 8 a1 n1 a2 n2 R L G], ∀ k, f.S k → k < wd.heap.size) := fun f hf k hk => by
          simp only [List.mem_cons, List.not_mem_nil, or_false] at hf
          rcases hf with rfl | rfl | rfl | rfl
          · simp only [celF] at hk; omega
          · simp only [celF] at hk; omega
          · simp only [celF] at hk; omega
          · simp only [argSF] at hk; omega
        refine take_on (i := 0) (d := 31) (v := .pointer (some ⟨w.heap.size, 0, none⟩)) rfl rfl (by kernel_rfl) (by kernel_rfl) (by kernel_rfl) (fun _ _ _ h => h) (by rfl) ?_ hHeld ?_
        · (intro w' hSw; go_simp)
        simp only [Act.put, List.setIfInBounds_toArray, List.set_cons_zero, List.set_cons_succ]
        refine take_on (i := 1) (d := 32) (v := .slice (some ⟨kb, o, none⟩) 8 c) rfl rfl (by kernel_rfl) (by kernel_rfl) (by kernel_rfl) (fun _ _ _ h => h) (by rfl) ?_ hHeld ?_
        · (intro w' hSw; have hSx : Hold w w' [celF r5 (il io ir (ka : Int) (kc : Int) inn), celF (w.heap.size + 1) [.int .i64 0, .int .i64 0, .int .i64 0, .bool false, .int .i64 0, .int .i64 0, .int .i64 0, .int .i64 0, .int .i64 0, .bool false, .int .i64 0, .int .i64 0, .int .i64 0, .int .i64 0, .int .i64 0, .int .i64 0, .bool false, .int .i64 0, .int .i64 0, .int .i64 0, .int .i64 0, .int .i64 0], celF w.heap.size (stl (some ⟨kb, o, none⟩) 8 c x a1 n1 c1 a2 n2 c2 t), argSF w.heap.size (some ⟨kb, o, none⟩) 8 a1 n1 a2 n2 R L G] := hSw; have c0 := (hSx.cel (.tail _ (.tail _ (.head _)))).c 0 _ rfl; go_simp)
        simp only [Act.put, List.setIfInBounds_toArray, List.set_cons_zero, List.set_cons_succ]
        refine take_on (i := 2) (d := 33) (v := .pointer (some ⟨r5, 2, none⟩)) rfl rfl (by kernel_rfl) (by kernel_rfl) (by kernel_rfl) (fun _ _ _ h => h) (by rfl) ?_ hHeld ?_
        · (intro w' hSw; go_simp)
        simp only [Act.put, List.setIfInBounds_toArray, List.set_cons_zero, List.set_cons_succ]
        refine take_on (i := 3) (d := 34) (v := .int .i64 (ka : Int)) rfl rfl (by kernel_rfl) (by kernel_rfl) (by kernel_rfl) (fun _ _ _ h => h) (by rfl) ?_ hHeld ?_
        · (intro w' hSw; have hSx : Hold w w' [celF r5 (il io ir (ka : Int) (kc : Int) inn), celF (w.heap.size + 1) [.int .i64 0, .int .i64 0, .int .i64 0, .bool false, .int .i64 0, .int .i64 0, .int .i64 0, .int .i64 0, .int .i64 0, .bool false, .int .i64 0, .int .i64 0, .int .i64 0, .int .i64 0, .int .i64 0, .int .i64 0, .bool false, .int .i64 0, .int .i64 0, .int .i64 0, .int .i64 0, .int .i64 0], celF w.heap.size (stl (some ⟨kb, o, none⟩) 8 c x a1 n1 c1 a2 n2 c2 t), argSF w.heap.size (some ⟨kb, o, none⟩) 8 a1 n1 a2 n2 R L G] := hSw; have c0 := (hSx.cel (.head _)).c 2 _ rfl; go_simp)
        simp only [Act.put, List.setIfInBounds_toArray, List.set_cons_zero, List.set_cons_succ]
        refine take_on (i := 4) (d := 35) (v := .pointer (some ⟨kb, o + ka * 6, none⟩)) rfl rfl (by kernel_rfl) (by kernel_rfl) (by kernel_rfl) (fun _ _ _ h => h) (by rfl) ?_ hHeld ?_
        · (intro w' hSw; go_simp)
        simp only [Act.put, List.setIfInBounds_toArray, List.set_cons_zero, List.set_cons_succ]
        refine take_on (i := 5) (d := 36) (v := .agg #[.int .i64 A0.n, .bool A0.i, .int .i64 A0.b, .int .i64 A0.t, .int .i64 A0.p, .int .i64 A0.s]) rfl rfl (by kernel_rfl) (by kernel_rfl) (by kernel_rfl) (fun _ _ _ h => h) (by rfl) ?_ hHeld ?_
        · (intro w' hSw; obtain ⟨d0, d1, d2, d3, d4, d5⟩ := ATA.out w' hSw; go_simp)
        simp only [Act.put, List.setIfInBounds_toArray, List.set_cons_zero, List.set_cons_succ]
        refine take_on (i := 6) (d := 37) (v := .pointer (some ⟨w.heap.size, 0, none⟩)) rfl rfl (by kernel_rfl) (by kernel_rfl) (by kernel_rfl) (fun _ _ _ h => h) (by rfl) ?_ hHeld ?_
        · (intro w' hSw; go_simp)
        simp only [Act.put, List.setIfInBounds_toArray, List.set_cons_zero, List.set_cons_succ]
        refine take_on (i := 7) (d := 38) (v := .slice (some ⟨kb, o, none⟩) 8 c) rfl rfl (by kernel_rfl) (by kernel_rfl) (by kernel_rfl) (fun _ _ _ h => h) (by rfl) ?_ hHeld ?_
        · (intro w' hSw; have hSx : Hold w w' [celF r5 (il io ir (ka : Int) (kc : Int) inn), celF (w.heap.size + 1) [.int .i64 0, .int .i64 0, .int .i64 0, .bool false, .int .i64 0, .int .i64 0, .int .i64 0, .int .i64 0, .int .i64 0, .bool false, .int .i64 0, .int .i64 0, .int .i64 0, .int .i64 0, .int .i64 0, .int .i64 0, .bool false, .int .i64 0, .int .i64 0, .int .i64 0, .int .i64 0, .int .i64 0], celF w.heap.size (stl (some ⟨kb, o, none⟩) 8 c x a1 n1 c1 a2 n2 c2 t), argSF w.heap.size (some ⟨kb, o, none⟩) 8 a1 n1 a2 n2 R L G] := hSw; have c0 := (hSx.cel (.tail _ (.tail _ (.head _)))).c 0 _ rfl; go_simp)
        simp only [Act.put, List.setIfInBounds_toArray, List.set_cons_zero, List.set_cons_succ]
        refine take_on (i := 8) (d := 39) (v := .pointer (some ⟨r5, 3, none⟩)) rfl rfl (by kernel_rfl) (by kernel_rfl) (by kernel_rfl) (fun _ _ _ h => h) (by rfl) ?_ hHeld ?_
        · (intro w' hSw; go_simp)
        simp only [Act.put, List.setIfInBounds_toArray, List.set_cons_zero, List.set_cons_succ]
        refine take_on (i := 9) (d := 40) (v := .int .i64 (kc : Int)) rfl rfl (by kernel_rfl) (by kernel_rfl) (by kernel_rfl) (fun _ _ _ h => h) (by rfl) ?_ hHeld ?_
        · (intro w' hSw; have hSx : Hold w w' [celF r5 (il io ir (ka : Int) (kc : Int) inn), celF (w.heap.size + 1) [.int .i64 0, .int .i64 0, .int .i64 0, .bool false, .int .i64 0, .int .i64 0, .int .i64 0, .int .i64 0, .int .i64 0, .bool false, .int .i64 0, .int .i64 0, .int .i64 0, .int .i64 0, .int .i64 0, .int .i64 0, .bool false, .int .i64 0, .int .i64 0, .int .i64 0, .int .i64 0, .int .i64 0], celF w.heap.size (stl (some ⟨kb, o, none⟩) 8 c x a1 n1 c1 a2 n2 c2 t), argSF w.heap.size (some ⟨kb, o, none⟩) 8 a1 n1 a2 n2 R L G] := hSw; have c0 := (hSx.cel (.head _)).c 3 _ rfl; go_simp)
        simp only [Act.put, List.setIfInBounds_toArray, List.set_cons_zero, List.set_cons_succ]
        refine take_on (i := 10) (d := 41) (v := .pointer (some ⟨kb, o + kc * 6, none⟩)) rfl rfl (by kernel_rfl) (by kernel_rfl) (by kernel_rfl) (fun _ _ _ h => h) (by rfl) ?_ hHeld ?_
        · (intro w' hSw; go_simp)
        simp only [Act.put, List.setIfInBounds_toArray, List.set_cons_zero, List.set_cons_succ]
        refine take_on (i := 11) (d := 42) (v := .agg #[.int .i64 B0.n, .bool B0.i, .int .i64 B0.b, .int .i64 B0.t, .int .i64 B0.p, .int .i64 B0.s]) rfl rfl (by kernel_rfl) (by kernel_rfl) (by kernel_rfl) (fun _ _ _ h => h) (by rfl) ?_ hHeld ?_
        · (intro w' hSw; obtain ⟨d0, d1, d2, d3, d4, d5⟩ := ATB.out w' hSw; go_simp)
        simp only [Act.put, List.setIfInBounds_toArray, List.set_cons_zero, List.set_cons_succ]
        refine wpAnyH_ready (rs := [12, 13]) (by kernel_rfl) (by simp) ?_
        refine AllReadyH.cons rfl (fun K hK => ?_) (AllReadyH.cons rfl (fun K hK => ?_) AllReadyH.nil)
        · go_simp
          have H1 := hid_mk (D0.out.box ([.int .i64 0, .bool false, .int .i64 0, .int .i64 0, .int .i64 0, .int .i64 0] : List Value) 38 wd.heap.size rfl)
          have zr7 : wd.heap.size < (wd.alloc (.cells ([.int .i64 0, .bool false, .int .i64 0, .int .i64 0, .int .i64 0, .int .i64 0] : List Value).toArray 38)).heap.size := by simp
          refine hK.out _ _ H1.out.tail (fun hHeld => ?_)
          clear hK K
          (try simp only [Act.put]); (try simp only [List.setIfInBounds_toArray]); (try simp only [List.set_cons_succ]); (try simp only [List.set_cons_zero]); (try simp only [List.set_cons_succ]); (try simp only [List.set_cons_zero]); (try simp only [Nat.zero_add])
          obtain ⟨r7, hr7⟩ : ∃ r, r = wd.heap.size := ⟨_, rfl⟩
          have yr7 : wd.heap.size ≤ r7 := by omega
          rw [← hr7] at H1 zr7 ⊢
          generalize wd.alloc (.cells ([.int .i64 0, .bool false, .int .i64 0, .int .i64 0, .int .i64 0, .int .i64 0] : List Value).toArray 38) = vr7 at H1 hHeld zr7 ⊢
          clear hr7
          refine wpAnyH_ready (rs := [13]) (by kernel_rfl) (by simp) ?_
          refine AllReadyH.cons rfl (fun K hK => ?_) AllReadyH.nil
          go_simp
          have H2 := hid_mk (H1.out.box ([.int .i64 0, .bool false, .int .i64 0, .int .i64 0, .int .i64 0, .int .i64 0] : List Value) 38 vr7.heap.size rfl)
          have zr8 : vr7.heap.size < (vr7.alloc (.cells ([.int .i64 0, .bool false, .int .i64 0, .int .i64 0, .int .i64 0, .int .i64 0] : List Value).toArray 38)).heap.size := by simp
          refine hK.out _ _ H2.out.tail.tail (fun hHeld => ?_)
          clear hK K
          (try simp only [Act.put]); (try simp only [List.setIfInBounds_toArray]); (try simp only [List.set_cons_succ]); (try simp only [List.set_cons_zero]); (try simp only [List.set_cons_succ]); (try simp only [List.set_cons_zero]); (try simp only [Nat.zero_add])
          obtain ⟨r8, hr8⟩ : ∃ r, r = vr7.heap.size := ⟨_, rfl⟩
          have yr8 : wd.heap.size ≤ r8 ∧ r7 < r8 := by omega
          rw [← hr8] at H2 zr8 ⊢
          generalize vr7.alloc (.cells ([.int .i64 0, .bool false, .int .i64 0, .int .i64 0, .int .i64 0, .int .i64 0] : List Value).toArray 38) = vr8 at H2 hHeld zr8 ⊢
          clear hr8
          replace H2 := hid_mk H2.out.swap
          refine wpAnyH_ready (rs := [14]) (by kernel_rfl) (by simp) ?_
          refine AllReadyH.cons rfl (fun K hK => ?_) AllReadyH.nil
          have THr7 : Hid (vr8.there r7 0 6) := (H2.out.cel (.head _)).there
          have G2 : Hid (Hold w (vr8.setCells r7 0 (wl A0)) [celF r7 (wl A0), celF r8 [.int .i64 0, .bool false, .int .i64 0, .int .i64 0, .int .i64 0, .int .i64 0], celF r5 (il io ir (ka : Int) (kc : Int) inn), celF (w.heap.size + 1) [.int .i64 0, .int .i64 0, .int .i64 0, .bool false, .int .i64 0, .int .i64 0, .int .i64 0, .int .i64 0, .int .i64 0, .bool false, .int .i64 0, .int .i64 0, .int .i64 0, .int .i64 0, .int .i64 0, .int .i64 0, .bool false, .int .i64 0, .int .i64 0, .int .i64 0, .int .i64 0, .int .i64 0], celF w.heap.size (stl (some ⟨kb, o, none⟩) 8 c x a1 n1 c1 a2 n2 c2 t), argSF w.heap.size (some ⟨kb, o, none⟩) 8 a1 n1 a2 n2 R L G]) := H2.out.sets (wl A0) (by omega) (fun f hf k hk => (List.mem_cons.1 hf).elim (fun e => by subst e; simp only [celF] at hk; omega) (fun h => by have := DD.out f h k hk; omega)) rfl
          refine step_stm (by rfl) 38 _ _ (by rfl) r7 0 (wl A0).toArray (by rfl) (by rfl) THr7.out sizeWd (wl_one _) ?_
          refine hK.out _ _ G2.out.tail.tail (fun hHeld => ?_)
          clear hK K
          clear hHeld
          dsimp only
          generalize vr8.setCells r7 0 (wl A0) = ws at G2 ⊢
          have G3 := hid_mk G2.out.swap
          refine wpAnyH_ready (rs := [15]) (by kernel_rfl) (by simp) ?_
          refine AllReadyH.cons rfl (fun K hK => ?_) AllReadyH.nil
          have THr8 : Hid (ws.there r8 0 6) := (G3.out.cel (.head _)).there
          have G4 : Hid (Hold w (ws.setCells r8 0 (wl B0)) [celF r8 (wl B0), celF r7 (wl A0), celF r5 (il io ir (ka : Int) (kc : Int) inn), celF (w.heap.size + 1) [.int .i64 0, .int .i64 0, .int .i64 0, .bool false, .int .i64 0, .int .i64 0, .int .i64 0, .int .i64 0, .int .i64 0, .bool false, .int .i64 0, .int .i64 0, .int .i64 0, .int .i64 0, .int .i64 0, .int .i64 0, .bool false, .int .i64 0, .int .i64 0, .int .i64 0, .int .i64 0, .int .i64 0], celF w.heap.size (stl (some ⟨kb, o, none⟩) 8 c x a1 n1 c1 a2 n2 c2 t), argSF w.heap.size (some ⟨kb, o, none⟩) 8 a1 n1 a2 n2 R L G]) := G3.out.sets (wl B0) (by omega) (fun f hf k hk => (List.mem_cons.1 hf).elim (fun e => by subst e; simp only [celF] at hk; omega) (fun h => by have := DD.out f h k hk; omega)) rfl
          refine step_stm (by rfl) 38 _ _ (by rfl) r8 0 (wl B0).toArray (by rfl) (by rfl) THr8.out sizeWd (wl_one _) ?_
          refine hK.out _ _ G4.out.tail.tail (fun hHeld => ?_)
          clear hK K
          have G5 := hid_mk G4.out.swap
          refine wpAnyH_done (by kernel_rfl) ?_ _
          clear hHeld
          dsimp only
          generalize ws.setCells r8 0 (wl B0) = wz at G5 ⊢
          go_wp2_with fail
          go_meet
          case rel => exact ⟨r7, r8, rfl, rfl, by omega, by omega, G5.out⟩
        · go_simp
          have H1 := hid_mk (D0.out.box ([.int .i64 0, .bool false, .int .i64 0, .int .i64 0, .int .i64 0, .int .i64 0] : List Value) 38 wd.heap.size rfl)
          have zr8 : wd.heap.size < (wd.alloc (.cells ([.int .i64 0, .bool false, .int .i64 0, .int .i64 0, .int .i64 0, .int .i64 0] : List Value).toArray 38)).heap.size := by simp
          refine hK.out _ _ H1.out.tail (fun hHeld => ?_)
          clear hK K
          (try simp only [Act.put]); (try simp only [List.setIfInBounds_toArray]); (try simp only [List.set_cons_succ]); (try simp only [List.set_cons_zero]); (try simp only [List.set_cons_succ]); (try simp only [List.set_cons_zero]); (try simp only [Nat.zero_add])
          obtain ⟨r8, hr8⟩ : ∃ r, r = wd.heap.size := ⟨_, rfl⟩
          have yr8 : wd.heap.size ≤ r8 := by omega
          rw [← hr8] at H1 zr8 ⊢
          generalize wd.alloc (.cells ([.int .i64 0, .bool false, .int .i64 0, .int .i64 0, .int .i64 0, .int .i64 0] : List Value).toArray 38) = vr8 at H1 hHeld zr8 ⊢
          clear hr8
          refine wpAnyH_ready (rs := [12]) (by kernel_rfl) (by simp) ?_
          refine AllReadyH.cons rfl (fun K hK => ?_) AllReadyH.nil
          go_simp
          have H2 := hid_mk (H1.out.box ([.int .i64 0, .bool false, .int .i64 0, .int .i64 0, .int .i64 0, .int .i64 0] : List Value) 38 vr8.heap.size rfl)
          have zr7 : vr8.heap.size < (vr8.alloc (.cells ([.int .i64 0, .bool false, .int .i64 0, .int .i64 0, .int .i64 0, .int .i64 0] : List Value).toArray 38)).heap.size := by simp
          refine hK.out _ _ H2.out.tail.tail (fun hHeld => ?_)
          clear hK K
          (try simp only [Act.put]); (try simp only [List.setIfInBounds_toArray]); (try simp only [List.set_cons_succ]); (try simp only [List.set_cons_zero]); (try simp only [List.set_cons_succ]); (try simp only [List.set_cons_zero]); (try simp only [Nat.zero_add])
          obtain ⟨r7, hr7⟩ : ∃ r, r = vr8.heap.size := ⟨_, rfl⟩
          have yr7 : wd.heap.size ≤ r7 ∧ r8 < r7 := by omega
          rw [← hr7] at H2 zr7 ⊢
          generalize vr8.alloc (.cells ([.int .i64 0, .bool false, .int .i64 0, .int .i64 0, .int .i64 0, .int .i64 0] : List Value).toArray 38) = vr7 at H2 hHeld zr7 ⊢
          clear hr7
          refine wpAnyH_ready (rs := [14]) (by kernel_rfl) (by simp) ?_
          refine AllReadyH.cons rfl (fun K hK => ?_) AllReadyH.nil
          have THr7 : Hid (vr7.there r7 0 6) := (H2.out.cel (.head _)).there
          have G2 : Hid (Hold w (vr7.setCells r7 0 (wl A0)) [celF r7 (wl A0), celF r8 [.int .i64 0, .bool false, .int .i64 0, .int .i64 0, .int .i64 0, .int .i64 0], celF r5 (il io ir (ka : Int) (kc : Int) inn), celF (w.heap.size + 1) [.int .i64 0, .int .i64 0, .int .i64 0, .bool false, .int .i64 0, .int .i64 0, .int .i64 0, .int .i64 0, .int .i64 0, .bool false, .int .i64 0, .int .i64 0, .int .i64 0, .int .i64 0, .int .i64 0, .int .i64 0, .bool false, .int .i64 0, .int .i64 0, .int .i64 0, .int .i64 0, .int .i64 0], celF w.heap.size (stl (some ⟨kb, o, none⟩) 8 c x a1 n1 c1 a2 n2 c2 t), argSF w.heap.size (some ⟨kb, o, none⟩) 8 a1 n1 a2 n2 R L G]) := H2.out.sets (wl A0) (by omega) (fun f hf k hk => (List.mem_cons.1 hf).elim (fun e => by subst e; simp only [celF] at hk; omega) (fun h => by have := DD.out f h k hk; omega)) rfl
          refine step_stm (by rfl) 38 _ _ (by rfl) r7 0 (wl A0).toArray (by rfl) (by rfl) THr7.out sizeWd (wl_one _) ?_
          refine hK.out _ _ G2.out.tail.tail (fun hHeld => ?_)
          clear hK K
          clear hHeld
          dsimp only
          generalize vr7.setCells r7 0 (wl A0) = ws at G2 ⊢
          have G3 := hid_mk G2.out.swap
          refine wpAnyH_ready (rs := [15]) (by kernel_rfl) (by simp) ?_
          refine AllReadyH.cons rfl (fun K hK => ?_) AllReadyH.nil
          have THr8 : Hid (ws.there r8 0 6) := (G3.out.cel (.head _)).there
          have G4 : Hid (Hold w (ws.setCells r8 0 (wl B0)) [celF r8 (wl B0), celF r7 (wl A0), celF r5 (il io ir (ka : Int) (kc : Int) inn), celF (w.heap.size + 1) [.int .i64 0, .int .i64 0, .int .i64 0, .bool false, .int .i64 0, .int .i64 0, .int .i64 0, .int .i64 0, .int .i64 0, .bool false, .int .i64 0, .int .i64 0, .int .i64 0, .int .i64 0, .int .i64 0, .int .i64 0, .bool false, .int .i64 0, .int .i64 0, .int .i64 0, .int .i64 0, .int .i64 0], celF w.heap.size (stl (some ⟨kb, o, none⟩) 8 c x a1 n1 c1 a2 n2 c2 t), argSF w.heap.size (some ⟨kb, o, none⟩) 8 a1 n1 a2 n2 R L G]) := G3.out.sets (wl B0) (by omega) (fun f hf k hk => (List.mem_cons.1 hf).elim (fun e => by subst e; simp only [celF] at hk; omega) (fun h => by have := DD.out f h k hk; omega)) rfl
          refine step_stm (by rfl) 38 _ _ (by rfl) r8 0 (wl B0).toArray (by rfl) (by rfl) THr8.out sizeWd (wl_one _) ?_
          refine hK.out _ _ G4.out.tail.tail (fun hHeld => ?_)
          clear hK K
          have G5 := hid_mk G4.out.swap
          refine wpAnyH_done (by kernel_rfl) ?_ _
          clear hHeld
          dsimp only
          generalize ws.setCells r8 0 (wl B0) = wz at G5 ⊢
          go_wp2_with fail
          go_meet
          case rel => exact ⟨r7, r8, rfl, rfl, by omega, by omega, G5.out⟩
      case' rest =>
        obtain ⟨r7, r8, rfl, rfl, hy7, hy8, H⟩ := hcut
        clear ATA ATB hka8 hkc8 hia hic
        obtain ⟨y, Y⟩ : ∃ y, Hid (y = accW io inn L G A0) := ⟨_, rfl⟩
        obtain ⟨z, ZZ⟩ : ∃ z, Hid (z = accZ io inn L A0 B0) := ⟨_, rfl⟩
        have s7 := fun w h1 h2 => accessed_any a0 a1' a2' a3 a1 n1 c1 a2 n2 c2 L G io ir (ka : Int) (kc : Int) inn A0 B0 hcap w h1 h2
        rw [← Y.out, ← ZZ.out] at s7
        rw [← Y.out, ← ZZ.out] at hEW
        have S7 := hid_mk s7
        simp only [wdV] at S7
        clear s7 Y ZZ
        obtain ⟨m0, m1, m2, m3, m4, m5, m6, m7, m8, m9⟩ := (H.out.cel (.tail _ (.tail _ (.tail _ (.tail _ (.head _)))))).c10
        obtain ⟨i0, i1, i2, i3, i4⟩ := (H.out.cel (.tail _ (.tail _ (.head _)))).c5
        obtain ⟨p0, p1, p2, p3, p4, p5⟩ := (H.out.cel (.head _)).c6
        obtain ⟨q0, q1, q2, q3, q4, q5⟩ := (H.out.cel (.tail _ (.head _))).c6
        go_upto_region 8 with (go_at_call 94; refine (S7.out _ (H.out.argS (.tail _ (.tail _ (.tail _ (.tail _ (.tail _ (.head _))))))).mem (HE.out.below H.out.bel)).mono ?_; rintro e w2 ⟨rfl, hb⟩)
        replace H := hid_mk ((H.out.next hb).box (wl y) 38 w2.heap.size rfl)
        clear hb m0 m1 m2 m3 m4 m5 m6 m7 m8 m9 i0 i1 i2 i3 i4 p0 p1 p2 p3 p4 p5 q0 q1 q2 q3 q4 q5 S7
        generalize w2.alloc (.cells (wl y : List Value).toArray 38) = w3 at H ⊢
        generalize w2.heap.size = r9 at H ⊢
        by_cases hz : z = 0
        · subst hz
          have hE : E = wrkE io ir inn x A0 B0 y := by rw [hEW.out, if_pos rfl]
          have s9 := fun w h => implWork_any a0 a1' a2' a3 io ir (ka : Int) (kc : Int) inn x A0 B0 y ⟨ho1, ho2⟩ w h
          rw [← hE] at s9
          have S9 := hid_mk s9
          clear s9 hE hEW
          obtain ⟨m0, m1, m2, m3, m4, m5, m6, m7, m8, m9⟩ := (H.out.cel (.tail _ (.tail _ (.tail _ (.tail _ (.tail _ (.head _))))))).c10
          obtain ⟨i0, i1, i2, i3, i4⟩ := (H.out.cel (.tail _ (.tail _ (.tail _ (.head _))))).c5
          obtain ⟨p0, p1, p2, p3, p4, p5⟩ := (H.out.cel (.tail _ (.head _))).c6
          obtain ⟨q0, q1, q2, q3, q4, q5⟩ := (H.out.cel (.tail _ (.tail _ (.head _)))).c6
          obtain ⟨o0, o1, o2, o3, o4, o5⟩ := (H.out.cel (.head _)).c6
          go_wp2_with (go_at_call 95; refine (S9.out _ (HE.out.below H.out.bel)).mono ?_; rintro e w4 ⟨rfl, hb⟩; refine Hid.out ?_)
          refine Lib.hid ?_
          replace H := hid_mk (H.out.next hb)
          clear hb m0 m1 m2 m3 m4 m5 m6 m7 m8 m9 i0 i1 i2 i3 i4 p0 p1 p2 p3 p4 p5 q0 q1 q2 q3 q4 q5 o0 o1 o2 o3 o4 o5
          have CZ := hid_mk (H.out.cel (.tail _ (.tail _ (.tail _ (.tail _ (.head _))))))
          have C2 := hid_mk (CZ.out.sets (us := effl E) rfl)
          have B2 := hid_mk (below_sets (effl E) H.out.bel (r := w.heap.size + 1) (by omega))
          have hlv := hid_mk (lv_eff C2.out)
          go_wp2_with (refine wpList_store_mid (by rfl) 82 _ _ (by rfl) (w.heap.size + 1) 0 (effl E).toArray (by rfl) (by rfl) CZ.out.there sizeEff (effl_one _) ?_)
          refine bodyPost_ret (v := .agg (effl E).toArray) (results_cell1 Tryz.results43 (by rfl) hlv.out) rfl ⟨rfl, B2.out⟩
        · have hE : E = trpE z x := by rw [hEW.out, if_neg hz]
          have htb : (z != 0) = true := by simpa using hz
          clear hEW
          have s := fun w => trapped_any z x w
          rw [← hE] at s
          have SS := hid_mk s
          clear s hE
          obtain ⟨m0, m1, m2, m3, m4, m5, m6, m7, m8, m9⟩ := (H.out.cel (.tail _ (.tail _ (.tail _ (.tail _ (.tail _ (.head _))))))).c10
          go_wp2_with (go_at_call 65; refine (SS.out _).mono ?_; rintro e w2 ⟨rfl, hb⟩; refine Hid.out ?_)
          refine Lib.hid ?_
          replace H := hid_mk (H.out.next hb)
          clear hb m0 m1 m2 m3 m4 m5 m6 m7 m8 m9
          have CZ := hid_mk (H.out.cel (.tail _ (.tail _ (.tail _ (.tail _ (.head _))))))
          have C2 := hid_mk (CZ.out.sets (us := effl E) rfl)
          have B2 := hid_mk (below_sets (effl E) H.out.bel (r := w.heap.size + 1) (by omega))
          have hlv := hid_mk (lv_eff C2.out)
          go_wp2_with (refine wpList_store_mid (by rfl) 82 _ _ (by rfl) (w.heap.size + 1) 0 (effl E).toArray (by rfl) (by rfl) CZ.out.there sizeEff (effl_one _) ?_)
          refine bodyPost_ret (v := .agg (effl E).toArray) (results_cell1 Tryz.results43 (by rfl) hlv.out) rfl ⟨rfl, B2.out⟩
    · have hE : E = trpE tr x := by rw [hE1.out, if_neg htr]
      have htb : (tr != 0) = true := by simpa using htr
      clear hE1 hok
      have s := fun w => trapped_any tr x w
      rw [← hE] at s
      have SS := hid_mk s
      clear s hE
      obtain ⟨m0, m1, m2, m3, m4, m5, m6, m7, m8, m9⟩ := (H.out.cel (.tail _ (.tail _ (.head _)))).c10
      go_wp2_with (go_at_call 65; refine (SS.out _).mono ?_; rintro e w2 ⟨rfl, hb⟩; refine Hid.out ?_)
      refine Lib.hid ?_
      replace H := hid_mk (H.out.next hb)
      clear hb m0 m1 m2 m3 m4 m5 m6 m7 m8 m9
      have CZ := hid_mk (H.out.cel (.tail _ (.head _)))
      have C2 := hid_mk (CZ.out.sets (us := effl E) rfl)
      have B2 := hid_mk (below_sets (effl E) H.out.bel (r := w.heap.size + 1) (by omega))
      have hlv := hid_mk (lv_eff C2.out)
      go_wp2_with (refine wpList_store_mid (by rfl) 82 _ _ (by rfl) (w.heap.size + 1) 0 (effl E).toArray (by rfl) (by rfl) CZ.out.there sizeEff (effl_one _) ?_)
      refine bodyPost_ret (v := .agg (effl E).toArray) (results_cell1 Tryz.results43 (by rfl) hlv.out) rfl ⟨rfl, B2.out⟩
  · have hE : E = trpE t x := by rw [HEE.out, effI, if_neg ht]
    have htb : (t != 0) = true := by simpa using ht
    clear HEE
    have s := fun w => trapped_any t x w
    rw [← hE] at s
    have SS := hid_mk s
    clear s hE
    obtain ⟨m0, m1, m2, m3, m4, m5, m6, m7, m8, m9⟩ := (H.out.cel (.tail _ (.head _))).c10
    go_wp2_with (go_at_call 65; refine (SS.out _).mono ?_; rintro e w2 ⟨rfl, hb⟩; refine Hid.out ?_)
    refine Lib.hid ?_
    replace H := hid_mk (H.out.next hb)
    clear hb m0 m1 m2 m3 m4 m5 m6 m7 m8 m9
    have CZ := hid_mk (H.out.cel (.head _))
    have C2 := hid_mk (CZ.out.sets (us := effl E) rfl)
    have B2 := hid_mk (below_sets (effl E) H.out.bel (r := w.heap.size + 1) (by omega))
    have hlv := hid_mk (lv_eff C2.out)
    go_wp2_with (refine wpList_store_mid (by rfl) 82 _ _ (by rfl) (w.heap.size + 1) 0 (effl E).toArray (by rfl) (by rfl) CZ.out.there sizeEff (effl_one _) ?_)
    refine bodyPost_ret (v := .agg (effl E).toArray) (results_cell1 Tryz.results43 (by rfl) hlv.out) rfl ⟨rfl, B2.out⟩
end Go.Proofs.YtpkhnajhamnggaaGreatDoor
