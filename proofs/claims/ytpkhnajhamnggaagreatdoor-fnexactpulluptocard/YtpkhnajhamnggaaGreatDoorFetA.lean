/- Fetch of the specification and of the program at all lists and words: what they answer. The program's errors hold what its text lays. -/
import Derived.Test.YtpkhnajhamnggaaGreatDoorZF
import Derived.Test.YtpkhnajhamnggaaGreatDoorZI
import Derived.Test.YtpkhnajhamnggaaGreatDoorZC
import Derived.Lib.Hide
namespace Go.Proofs.YtpkhnajhamnggaaGreatDoor
open Go.ChangeShapes Go.WideShapes Go.ChangeAt Go.RowKit
set_option maxRecDepth 100000

def in0 : In := ⟨0, 0, 0, 0, 0⟩
def inVal (x : In) : Value := .agg #[.int .i64 x.o, .int .i64 x.r, .int .i64 x.a, .int .i64 x.b, .int .i64 x.n]
/-- Whether there is a right place at n. -/
def plcB (L : List In) (n : Int) : Bool := decide (0 ≤ n ∧ n ≤ (L.length : Int) - 1) && (fun y : In => iokB y.o y.r y.a y.b y.n) (L.getD n.toNat in0)
/-- The trap of Try at a word's own place. -/
def runZ (n : Int) (i : Bool) (b t p s : Int) : Int := tryZ n i b t p s n 4
/-- What Fetch answers. -/
def fetX (L : List In) (n : Int) (i : Bool) (b t p s : Int) : In := if runZ n i b t p s = 0 then (bif plcB L n then L.getD n.toNat in0 else in0) else in0
def fetT (L : List In) (n : Int) (i : Bool) (b t p s : Int) : Int := if runZ n i b t p s = 0 then (bif plcB L n then 0 else 4) else runZ n i b t p s

theorem isNum_any (n c : Int) (w : World) :
    Calls Tryz.prog 90 #[.int .i64 n, .int .i64 c] w fun e w' => e = .returned (.bool (decide (0 ≤ n ∧ n ≤ c - 1))) ∧ w' = w := by
  have hn : decide (0 ≤ n ∧ n ≤ c - 1) = (decide (0 ≤ n) && decide (n < c)) := by
    by_cases h0 : 0 ≤ n <;> by_cases h1 : n < c <;> simp [h0, h1] <;> omega
  rw [hn]
  clear hn
  by_cases h0 : 0 ≤ n <;> by_cases h1 : n < c
  all_goals
    simp only [h0, h1, decide_true, decide_false, Bool.and_false, Bool.and_true]
    go_enter Tryz.func90, Tryz.ntmps90
    go_wp2
    go_ret
    exact ⟨rfl, rfl⟩

/-- A word's block and the answer's behind it; nothing that was there has turned. -/
structure Fe (w0 : World) (n : Int) (i : Bool) (b t p s : Int) (w : World) : Prop where
  x : Six w w0.heap.size n i b t p s
  z : Five w (w0.heap.size + 1) 0 0 0 0 0
  bel : Below w0.heap.size w0 w
theorem Fe.new (w : World) (n : Int) (i : Bool) (b t p s : Int) (T U : TypeId) : Fe w n i b t p s ((w.alloc (.cells #[.int .i64 n, .bool i, .int .i64 b, .int .i64 t, .int .i64 p, .int .i64 s] T)).alloc (.cells #[.int .i64 0, .int .i64 0, .int .i64 0, .int .i64 0, .int .i64 0] U)) := by
  have h1 := Five.new (w.alloc (.cells #[.int .i64 n, .bool i, .int .i64 b, .int .i64 t, .int .i64 p, .int .i64 s] T)) 0 0 0 0 0 U
  rw [World.size_alloc] at h1
  exact ⟨(Six.new w n i b t p s T).alloc _, h1, ((Below.refl _ w).alloc (Nat.le_refl _) _).alloc (by simp) _⟩
theorem Fe.next {w0 w w' : World} {n : Int} {i : Bool} {b t p s : Int} (h : Fe w0 n i b t p s w) (hb : Below w.heap.size w w') : Fe w0 n i b t p s w' :=
  ⟨h.x.below hb, h.z.below hb, h.bel.trans (hb.mono h.bel.size)⟩
theorem five_done {w0 w : World} (hb : Below w0.heap.size w0 w) (r : Nat) (hr : w0.heap.size ≤ r) (v0 v1 v2 v3 v4 : Value) :
    Below w0.heap.size w0 (((((w.setCell ⟨r, 0, none⟩ v0).setCell ⟨r, 1, none⟩ v1).setCell ⟨r, 2, none⟩ v2).setCell ⟨r, 3, none⟩ v3).setCell ⟨r, 4, none⟩ v4) :=
  Below.setCell (Below.setCell (Below.setCell (Below.setCell (Below.setCell hb hr _) hr _) hr _) hr _) hr _


set_option maxHeartbeats 4000000 in
theorem specFetch_any (a : Option Addr) (len cap : Nat) (L : List In) (n : Int) (i : Bool) (b t p s : Int) (w : World) (hS : SliceI w.heap.size w a len L) :
    Calls Tryz.prog 33 #[.slice a len cap, .agg #[.int .i64 n, .bool i, .int .i64 b, .int .i64 t, .int .i64 p, .int .i64 s]] w fun e w' => e = .returned (.tuple #[inVal (fetX L n i b t p s), .int .i64 (fetT L n i b t p s)]) ∧ Below w.heap.size w w' := by
  have F0 := hid_mk (Fe.new w n i b t p s 38 76)
  have S := hid_mk hS
  have hlen := hS.2.1
  have hm := hS.1
  unfold maxLen at hm
  clear hS
  obtain ⟨y, Y⟩ : ∃ y, Hid (y = fetX L n i b t p s) := ⟨_, rfl⟩
  obtain ⟨u, U⟩ : ∃ u, Hid (u = fetT L n i b t p s) := ⟨_, rfl⟩
  rw [← Y.out, ← U.out]
  have s1 := specTry_any n i b t p s n 4
  obtain ⟨z, hz⟩ : ∃ z, Hid (z = runZ n i b t p s) := ⟨_, rfl⟩
  rw [show tryZ n i b t p s n 4 = z from hz.out.symm] at s1
  have S1 := hid_mk s1
  clear s1
  generalize hw1 : (w.alloc (.cells #[.int .i64 n, .bool i, .int .i64 b, .int .i64 t, .int .i64 p, .int .i64 s] 38)).alloc (.cells #[.int .i64 0, .int .i64 0, .int .i64 0, .int .i64 0, .int .i64 0] 76) = w1 at F0
  go_enter Tryz.func33, Tryz.ntmps33
  go_upto_region 1 with fail
  clear hw1
  obtain ⟨_, x0, x1, x2, x3, x4, x5, _, _, _, _, _, _⟩ := F0.out.x
  by_cases hz0 : z = 0
  · subst hz0
    have hcm : ((0 : Int) != 0) = false := by decide
    have YG : Hid (y = bif plcB L n then L.getD n.toNat in0 else in0) := by rw [Y.out, fetX, if_pos hz.out.symm]; exact hid_mk rfl
    have UG : Hid (u = bif plcB L n then 0 else 4) := by rw [U.out, fetT, if_pos hz.out.symm]; exact hid_mk rfl
    clear Y U
    go_wp2_with (go_at_call 76; refine (S1.out _).mono ?_; rintro e w2 ⟨rfl, hb⟩; refine Hid.out ?_)
    refine Lib.hid ?_
    have F2 := hid_mk (F0.out.next hb)
    clear hb x0 x1 x2 x3 x4 x5
    obtain ⟨_, x0, x1, x2, x3, x4, x5, _, _, _, _, _, _⟩ := F2.out.x
    by_cases hi : 0 ≤ n ∧ n ≤ (len : Int) - 1
    · have s2 := in_any n 0 ((len : Int) - 1)
      rw [decide_eq_true hi] at s2
      have S2 := hid_mk s2
      clear s2
      obtain ⟨k, hk⟩ : ∃ k : Nat, n = k := ⟨n.toNat, by omega⟩
      have hkn : k < len := by omega
      obtain ⟨kb, o, g, rfl, hkb, hg, hc⟩ := (S.out.keep F2.out.bel).at hkn
      have hgd : L.getD n.toNat in0 = g := by
        rw [hk]; simp [List.getD, hg]
      have hp : plcB L n = iokB g.o g.r g.a g.b g.n := by
        rw [plcB, hlen, decide_eq_true hi, hgd]; simp
      rw [hgd, hp] at YG
      rw [hp] at UG
      have s3 := specInsOk_any g.o g.r g.a g.b g.n
      generalize iokB g.o g.r g.a g.b g.n = v at s3 YG UG
      have S3 := hid_mk s3
      have hb0 : 0 ≤ n := hi.1
      have hb1 : n < (len : Int) := by omega
      have hbt : n.toNat = k := by omega
      obtain ⟨d0, d1, d2, d3, d4⟩ := hc
      have HC := hid_mk (⟨d0, d1, d2, d3, d4⟩ : InsAt w2 kb (o + k * 5) g)
      clear s3 hgd hp hg hk hi
      go_wp2_with (go_at_call 74; refine (S2.out _).mono ?_; rintro e w' ⟨rfl, rfl⟩)
      go_wp2_with (go_at_call 77; refine (S3.out _).mono ?_; rintro e w3 ⟨rfl, hb⟩; refine Hid.out ?_)
      refine Lib.hid ?_
      have F3 := hid_mk (F2.out.next hb)
      have hlt := World.block_lt_of_cell? _ _ HC.out.c0
      have HD := hid_mk (HC.out.keep hb hlt)
      clear hb d0 d1 d2 d3 d4 x0 x1 x2 x3 x4 x5 F2 HC
      obtain ⟨_, x0, x1, x2, x3, x4, x5, _, _, _, _, _, _⟩ := F3.out.x
      obtain ⟨_, z0, z1, z2, z3, z4, f0, f1, f2, f3, f4⟩ := F3.out.z
      cases v
      · have hy : y = in0 := YG.out
        have hu : u = 4 := UG.out
        subst hy hu
        go_wp2
        refine bodyPost_ret (v := .tuple #[.agg #[.int .i64 0, .int .i64 0, .int .i64 0, .int .i64 0, .int .i64 0], .int .i64 4]) (by simp [results, Tryz.results33, go_sem, z0, z1, z2, z3, z4]) rfl ⟨rfl, ?_⟩
        exact five_done F3.out.bel _ (by omega) _ _ _ _ _
      · have hy : y = g := YG.out
        have hu : u = 0 := UG.out
        subst hy hu
        obtain ⟨d0, d1, d2, d3, d4⟩ := HD.out
        go_wp2
        refine bodyPost_ret (v := .tuple #[.agg #[.int .i64 y.o, .int .i64 y.r, .int .i64 y.a, .int .i64 y.b, .int .i64 y.n], .int .i64 0]) (by simp [results, Tryz.results33, go_sem, z0, z1, z2, z3, z4]) rfl ⟨rfl, ?_⟩
        exact five_done F3.out.bel _ (by omega) _ _ _ _ _
    · have s2 := in_any n 0 ((len : Int) - 1)
      rw [decide_eq_false hi] at s2
      have S2 := hid_mk s2
      have hp : plcB L n = false := by
        rw [plcB, hlen, decide_eq_false hi]; rfl
      rw [hp] at YG UG
      have hy : y = in0 := YG.out
      have hu : u = 4 := UG.out
      subst hy hu
      have F3 := F2
      obtain ⟨_, z0, z1, z2, z3, z4, f0, f1, f2, f3, f4⟩ := F3.out.z
      clear s2 hi hp
      go_wp2_with (go_at_call 74; refine (S2.out _).mono ?_; rintro e w' ⟨rfl, rfl⟩)
      go_wp2
      refine bodyPost_ret (v := .tuple #[.agg #[.int .i64 0, .int .i64 0, .int .i64 0, .int .i64 0, .int .i64 0], .int .i64 4]) (by simp [results, Tryz.results33, go_sem, z0, z1, z2, z3, z4]) rfl ⟨rfl, ?_⟩
      exact five_done F3.out.bel _ (by omega) _ _ _ _ _
  · have hcm : (z != 0) = true := by simp [hz0]
    have hy : y = in0 := by rw [Y.out, fetX, if_neg (fun h => hz0 (hz.out.trans h))]
    have hu : u = z := by rw [U.out, fetT, if_neg (fun h => hz0 (hz.out.trans h))]; exact hz.out.symm
    subst hy hu
    clear Y U
    go_wp2_with (go_at_call 76; refine (S1.out _).mono ?_; rintro e w2 ⟨rfl, hb⟩; refine Hid.out ?_)
    refine Lib.hid ?_
    have F3 := hid_mk (F0.out.next hb)
    clear hb x0 x1 x2 x3 x4 x5
    obtain ⟨_, z0, z1, z2, z3, z4, f0, f1, f2, f3, f4⟩ := F3.out.z
    go_wp2
    refine bodyPost_ret (v := .tuple #[.agg #[.int .i64 0, .int .i64 0, .int .i64 0, .int .i64 0, .int .i64 0], .int .i64 u]) (by simp [results, Tryz.results33, go_sem, z0, z1, z2, z3, z4]) rfl ⟨rfl, ?_⟩
    exact five_done F3.out.bel _ (by omega) _ _ _ _ _


/-- A word's block; nothing that was there has turned. -/
structure Fp (w0 : World) (n : Int) (i : Bool) (b t p s : Int) (w : World) : Prop where
  x : Six w w0.heap.size n i b t p s
  bel : Below w0.heap.size w0 w
theorem Fp.new (w : World) (n : Int) (i : Bool) (b t p s : Int) (T : TypeId) : Fp w n i b t p s (w.alloc (.cells #[.int .i64 n, .bool i, .int .i64 b, .int .i64 t, .int .i64 p, .int .i64 s] T)) :=
  ⟨Six.new w n i b t p s T, (Below.refl _ w).alloc (Nat.le_refl _) _⟩
theorem Fp.next {w0 w w' : World} {n : Int} {i : Bool} {b t p s : Int} (h : Fp w0 n i b t p s w) (hb : Below w.heap.size w w') : Fp w0 n i b t p s w' :=
  ⟨h.x.below hb, h.bel.trans (hb.mono h.bel.size)⟩

/-- What placeAt tells: a pointer to the place of the list itself, or to none. -/
def PlcA (B : Nat) (L : List In) (n : Int) (i : Bool) (b t p s : Int) (P : Option Addr) (w' : World) : Prop :=
  fetT L n i b t p s = 0 → ∃ kb o, P = some ⟨kb, o, none⟩ ∧ kb < B ∧ InsAt w' kb o (fetX L n i b t p s)

set_option maxHeartbeats 4000000 in
theorem placeAt_any (a0 a1 a2 a3 : Addr) (B : Nat) (a : Option Addr) (len cap : Nat) (L : List In) (n : Int) (i : Bool) (b t p s : Int) (w : World) (hB : B ≤ w.heap.size) (hS : SliceI B w a len L) (hE0 : Errs a0 a1 a2 a3 w) :
    Calls Tryz.prog 64 #[.slice a len cap, .agg #[.int .i64 n, .bool i, .int .i64 b, .int .i64 t, .int .i64 p, .int .i64 s]] w fun e w' => ∃ P, e = .returned (.tuple #[.pointer P, .int .i64 (fetT L n i b t p s)]) ∧ PlcA B L n i b t p s P w' ∧ Below w.heap.size w w' := by
  have F0 := hid_mk (Fp.new w n i b t p s 38)
  have S := hid_mk hS
  have hlen := hS.2.1
  have hm := hS.1
  unfold maxLen at hm
  have hE := hid_mk hE0
  clear hS
  obtain ⟨u, U⟩ : ∃ u, Hid (u = fetT L n i b t p s) := ⟨_, rfl⟩
  obtain ⟨PA, HPA⟩ : ∃ PA, Hid (PA = PlcA B L n i b t p s) := ⟨_, rfl⟩
  rw [← U.out, ← HPA.out]
  have s1 := implTry_any a0 a1 a2 a3 n i b t p s n 4
  obtain ⟨z, hz⟩ : ∃ z, Hid (z = runZ n i b t p s) := ⟨_, rfl⟩
  rw [show tryZ n i b t p s n 4 = z from hz.out.symm] at s1
  have S1 := hid_mk s1
  clear s1
  generalize hw1 : w.alloc (.cells #[.int .i64 n, .bool i, .int .i64 b, .int .i64 t, .int .i64 p, .int .i64 s] 38) = w1 at F0
  go_enter Tryz.func64, Tryz.ntmps64
  go_upto_region 1 with fail
  clear hw1
  obtain ⟨_, x0, x1, x2, x3, x4, x5, _, _, _, _, _, _⟩ := F0.out.x
  by_cases hz0 : z = 0
  · subst hz0
    have hcm : ((0 : Int) != 0) = false := by decide
    have YG : Hid (fetX L n i b t p s = bif plcB L n then L.getD n.toNat in0 else in0) := by rw [fetX, if_pos hz.out.symm]; exact hid_mk rfl
    have UG : Hid (u = bif plcB L n then 0 else 4) := by rw [U.out, fetT, if_pos hz.out.symm]; exact hid_mk rfl
    go_wp2_with (go_at_call 111; refine (S1.out _ (hE.out.below F0.out.bel)).mono ?_; rintro e w2 ⟨rfl, hb⟩; refine Hid.out ?_)
    refine Lib.hid ?_
    have F2 := hid_mk (F0.out.next hb)
    clear hb x0 x1 x2 x3 x4 x5
    obtain ⟨_, x0, x1, x2, x3, x4, x5, _, _, _, _, _, _⟩ := F2.out.x
    by_cases hi : 0 ≤ n ∧ n ≤ (len : Int) - 1
    · have s2 := isNum_any n (len : Int)
      rw [decide_eq_true hi] at s2
      have S2 := hid_mk s2
      clear s2
      obtain ⟨k, hk⟩ : ∃ k : Nat, n = k := ⟨n.toNat, by omega⟩
      have hkn : k < len := by omega
      obtain ⟨kb, o, g, rfl, hkb, hg, hc⟩ := (S.out.keep (F2.out.bel.mono hB)).at hkn
      have hgd : L.getD n.toNat in0 = g := by
        rw [hk]; simp [List.getD, hg]
      have hp : plcB L n = iokB g.o g.r g.a g.b g.n := by
        rw [plcB, hlen, decide_eq_true hi, hgd]; simp
      rw [hgd, hp] at YG
      rw [hp] at UG
      have s3 := implInsOk_any g.o g.r g.a g.b g.n
      generalize iokB g.o g.r g.a g.b g.n = v at s3 YG UG
      have S3 := hid_mk s3
      have hb0 : 0 ≤ n := hi.1
      have hb1 : n < (len : Int) := by omega
      have hbt : n.toNat = k := by omega
      obtain ⟨d0, d1, d2, d3, d4⟩ := hc
      have HC := hid_mk (⟨d0, d1, d2, d3, d4⟩ : InsAt w2 kb (o + k * 5) g)
      clear s3 hgd hp hg hk hi
      go_wp2_with (go_at_call 90; refine (S2.out _).mono ?_; rintro e w' ⟨rfl, rfl⟩)
      go_wp2_with (go_at_call 112; refine (S3.out _).mono ?_; rintro e w3 ⟨rfl, hb⟩; refine Hid.out ?_)
      refine Lib.hid ?_
      have F3 := hid_mk (F2.out.next hb)
      have hlt := World.block_lt_of_cell? _ _ HC.out.c0
      have HD := hid_mk (HC.out.keep hb hlt)
      have HKB := hid_mk hkb
      clear hb d0 d1 d2 d3 d4 x0 x1 x2 x3 x4 x5 F2 HC hkb
      obtain ⟨_, x0, x1, x2, x3, x4, x5, _, _, _, _, _, _⟩ := F3.out.x
      cases v
      · have hu : u = 4 := UG.out
        have hP : Hid (∀ P w', PA P w') := by rw [HPA.out]; intro P w' h0; exact absurd (hu.symm.trans (U.out.trans h0)) (by decide)
        subst hu
        have B3 := hid_mk F3.out.bel
        go_wp2
        refine bodyPost_ret (v := .tuple #[.pointer none, .int .i64 4]) (by simp [results, Tryz.results64, go_sem]) rfl ⟨_, rfl, hP.out _ _, B3.out⟩
      · have hy : fetX L n i b t p s = g := YG.out
        have hu : u = 0 := UG.out
        have hP : Hid (PA (some ⟨kb, o + k * 5, none⟩) w3) := by rw [HPA.out]; intro _; exact ⟨kb, o + k * 5, rfl, HKB.out, by rw [hy]; exact HD.out⟩
        subst hu
        have B3 := hid_mk F3.out.bel
        clear hy
        go_wp2
        refine bodyPost_ret (v := .tuple #[.pointer (some ⟨kb, o + k * 5, none⟩), .int .i64 0]) (by simp [results, Tryz.results64, go_sem]) rfl ⟨_, rfl, hP.out, B3.out⟩
    · have s2 := isNum_any n (len : Int)
      rw [decide_eq_false hi] at s2
      have S2 := hid_mk s2
      have hp : plcB L n = false := by
        rw [plcB, hlen, decide_eq_false hi]; rfl
      rw [hp] at YG UG
      have hu : u = 4 := UG.out
      have hP : Hid (∀ P w', PA P w') := by rw [HPA.out]; intro P w' h0; exact absurd (hu.symm.trans (U.out.trans h0)) (by decide)
      subst hu
      have B2 := hid_mk F2.out.bel
      clear s2 hi hp
      go_wp2_with (go_at_call 90; refine (S2.out _).mono ?_; rintro e w' ⟨rfl, rfl⟩)
      go_wp2
      refine bodyPost_ret (v := .tuple #[.pointer none, .int .i64 4]) (by simp [results, Tryz.results64, go_sem]) rfl ⟨_, rfl, hP.out _ _, B2.out⟩
  · have hcm : (z != 0) = true := by simp [hz0]
    have hu : u = z := by rw [U.out, fetT, if_neg (fun h => hz0 (hz.out.trans h))]; exact hz.out.symm
    have hP : Hid (∀ P w', PA P w') := by rw [HPA.out]; intro P w' h0; exact absurd (hu.symm.trans (U.out.trans h0)) hz0
    subst hu
    go_wp2_with (go_at_call 111; refine (S1.out _ (hE.out.below F0.out.bel)).mono ?_; rintro e w2 ⟨rfl, hb⟩; refine Hid.out ?_)
    refine Lib.hid ?_
    have B2 := hid_mk (F0.out.next hb).bel
    clear hb x0 x1 x2 x3 x4 x5
    go_wp2
    refine bodyPost_ret (v := .tuple #[.pointer none, .int .i64 u]) (by simp [results, Tryz.results64, go_sem]) rfl ⟨_, rfl, hP.out _ _, B2.out⟩

theorem fetX_trap {L : List In} {n : Int} {i : Bool} {b t p s : Int} (h : fetT L n i b t p s ≠ 0) : fetX L n i b t p s = in0 := by
  unfold fetX fetT at *
  by_cases hz : runZ n i b t p s = 0
  · rw [if_pos hz] at h ⊢
    cases hb : plcB L n
    · rfl
    · rw [hb] at h; exact absurd rfl h
  · rw [if_neg hz]

set_option maxHeartbeats 4000000 in
theorem implFetch_any (a0 a1 a2 a3 : Addr) (a : Option Addr) (len cap : Nat) (L : List In) (n : Int) (i : Bool) (b t p s : Int) (w : World) (hS : SliceI w.heap.size w a len L) (hE0 : Errs a0 a1 a2 a3 w) :
    Calls Tryz.prog 93 #[.slice a len cap, .agg #[.int .i64 n, .bool i, .int .i64 b, .int .i64 t, .int .i64 p, .int .i64 s]] w fun e w' => e = .returned (.tuple #[inVal (fetX L n i b t p s), .int .i64 (fetT L n i b t p s)]) ∧ Below w.heap.size w w' := by
  have F0 := hid_mk (Fe.new w n i b t p s 38 76)
  have S := hid_mk hS
  have hE := hid_mk hE0
  clear hS
  have s1 := fun (w : World) hS hE => placeAt_any a0 a1 a2 a3 w.heap.size a len cap L n i b t p s w (Nat.le_refl _) hS hE
  have hX := @fetX_trap L n i b t p s
  obtain ⟨y, Y⟩ : ∃ y, Hid (y = fetX L n i b t p s) := ⟨_, rfl⟩
  obtain ⟨u, U⟩ : ∃ u, Hid (u = fetT L n i b t p s) := ⟨_, rfl⟩
  have hPl : Hid (∀ B P w', PlcA B L n i b t p s P w' → u = 0 → ∃ kb o, P = some ⟨kb, o, none⟩ ∧ InsAt w' kb o y) := fun B P w' h hu => by
    obtain ⟨kb, o, h1, _, h2⟩ := h (U.out.symm.trans hu)
    exact ⟨kb, o, h1, by rw [Y.out]; exact h2⟩
  rw [← U.out, ← Y.out] at hX ⊢
  simp only [← U.out] at s1
  have S1 := hid_mk s1
  clear s1
  generalize hw1 : (w.alloc (.cells #[.int .i64 n, .bool i, .int .i64 b, .int .i64 t, .int .i64 p, .int .i64 s] 38)).alloc (.cells #[.int .i64 0, .int .i64 0, .int .i64 0, .int .i64 0, .int .i64 0] 76) = w1 at F0
  go_enter Tryz.func93, Tryz.ntmps93
  go_upto_region 1 with fail
  clear hw1
  obtain ⟨_, x0, x1, x2, x3, x4, x5, _, _, _, _, _, _⟩ := F0.out.x
  have S0 := hid_mk ((S.out.keep F0.out.bel).mono F0.out.bel.size)
  by_cases hz0 : u = 0
  · subst hz0
    have hcm : ((0 : Int) != 0) = false := by decide
    go_upto_region 2 with (go_at_call 64; refine (S1.out _ S0.out (hE.out.below F0.out.bel)).mono ?_; rintro e w2 ⟨P, rfl, hp, hb⟩)
    obtain ⟨kb, o, rfl, hc⟩ := hPl.out _ _ _ hp (by trivial)
    have F2 := hid_mk (F0.out.next hb)
    clear hb x0 x1 x2 x3 x4 x5 hp
    obtain ⟨d0, d1, d2, d3, d4⟩ := hc
    obtain ⟨_, z0, z1, z2, z3, z4, f0, f1, f2, f3, f4⟩ := F2.out.z
    go_wp2
    refine bodyPost_ret (v := .tuple #[.agg #[.int .i64 y.o, .int .i64 y.r, .int .i64 y.a, .int .i64 y.b, .int .i64 y.n], .int .i64 0]) (by simp [results, Tryz.results93, go_sem, z0, z1, z2, z3, z4]) rfl ⟨rfl, ?_⟩
    exact five_done F2.out.bel _ (by omega) _ _ _ _ _
  · have hcm : (u != 0) = true := by simp [hz0]
    have hy : y = in0 := hX hz0
    subst hy
    go_upto_region 2 with (go_at_call 64; refine (S1.out _ S0.out (hE.out.below F0.out.bel)).mono ?_; rintro e w2 ⟨P, rfl, hp, hb⟩)
    have F2 := hid_mk (F0.out.next hb)
    clear hb x0 x1 x2 x3 x4 x5 hp
    obtain ⟨_, z0, z1, z2, z3, z4, f0, f1, f2, f3, f4⟩ := F2.out.z
    go_wp2
    refine bodyPost_ret (v := .tuple #[.agg #[.int .i64 0, .int .i64 0, .int .i64 0, .int .i64 0, .int .i64 0], .int .i64 u]) (by simp [results, Tryz.results93, go_sem, z0, z1, z2, z3, z4]) rfl ⟨rfl, ?_⟩
    exact five_done F2.out.bel _ (by omega) _ _ _ _ _

end Go.Proofs.YtpkhnajhamnggaaGreatDoor
