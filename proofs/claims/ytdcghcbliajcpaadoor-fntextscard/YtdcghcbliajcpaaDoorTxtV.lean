/- InsRead of the program at all lines: the place that is read and true, or the empty place and false. The tables and errors hold what the texts lay. -/
import Derived.Test.YtdcghcbliajcpaaDoorTxtQ
import Derived.Defers
import Derived.Recover
import Derived.Laws.Pointers
namespace Go.Proofs.YtdcghcbliajcpaaDoor
open Go.ChangeShapes Go.WideShapes Go.ChangeAt Go.RowKit
set_option maxRecDepth 100000

theorem catchI_panicking (k q : Nat) (hne : k ≠ q) (o r a b n : Int) (t : Bool) (u : TypeId) (pv : Value) (older : List PanicEntry) (w : World) (h : Five w k o r a b n) (hc : w.cell? ⟨q, 0, none⟩ = some (.bool t)) (hz : w.frozen? ⟨q, 0, none⟩ = false) :
    CallsD Tryd.prog 40 #[.pointer (some ⟨k, 0, none⟩), .pointer (some ⟨q, 0, none⟩)] (.panicking ({ v := .iface u pv, recovered := false } :: older)) w fun e u' w' =>
      e = .returned (.tuple #[]) ∧ u' = .panicking ({ v := .iface u pv, recovered := true } :: older) ∧ w' = (put5 w k ⟨0, 0, 0, 0, 0⟩).setCell ⟨q, 0, none⟩ (.bool false) := by
  obtain ⟨l0, c0, c1, c2, c3, c4, f0, f1, f2, f3, f4⟩ := h
  refine callsD_of_wpS Tryd.func40 rfl fun c₀ cs hu => ?_
  apply wpS_seq
  apply wpS_region
  simp [wpOpsS, go_sem, recoverD, hu, Tryd.ntmps40, Exit.thenS]
  refine wpS_cond (t := true) (by simp [Act.eval, Array.replicate]) ?_
  simp only [if_true]
  apply wpS_region
  simp [wpOpsS, go_sem, c0, c1, c2, c3, c4, f0, f1, f2, f3, f4, hc, hz, bodyPostS, results, Tryd.results40, put5]

theorem catchI_idle (p q : Addr) (w : World) :
    CallsD Tryd.prog 40 #[.pointer (some p), .pointer (some q)] .returning w fun e u' w' => e = .returned (.tuple #[]) ∧ u' = .returning ∧ w' = w := by
  refine callsD_of_wpS Tryd.func40 rfl fun c₀ cs hu => ?_
  apply wpS_seq
  apply wpS_region
  simp [wpOpsS, go_sem, recoverD, hu, Tryd.ntmps40, Exit.thenS]
  refine wpS_cond (t := false) (by simp [Act.eval, Array.replicate]) ?_
  simp only [Bool.false_eq_true, if_false]
  refine wpS_of_wp (wp_skip ?_)
  cases c₀
  simp_all [bodyPostS, results, Tryd.results40]

def rdX (l : List UInt8) : In := (readL l).getD ⟨0, 0, 0, 0, 0⟩
set_option maxHeartbeats 2000000 in
theorem implInsRead_any (l : List UInt8) (hl : l.length ≤ 1048576) (ae : Addr) (w : World) (hL : LayE ae w) :
    Calls Tryd.prog 13 #[.string (bs l)] w fun e w' => e = .returned (.tuple #[insV (rdX l), .bool (readL l).isSome]) ∧ Below w.heap.size w w' := by
  have hmf : ∀ (fn : Fn) (first cap : Array Value) (w : World), (Instr.makeFunc fn first cap).run Tryd.prog w = .ok (.func fn first cap) w := fun _ _ _ _ => rfl
  have B0 : Hid (Below w.heap.size w ((w.alloc (.cells #[.int .i64 0, .int .i64 0, .int .i64 0, .int .i64 0, .int .i64 0] 25)).alloc (.cells #[.bool false] 4))) := ((Below.refl _ _).alloc (Nat.le_refl _) _).alloc (by simp) _
  have F0 : Hid (Five ((w.alloc (.cells #[.int .i64 0, .int .i64 0, .int .i64 0, .int .i64 0, .int .i64 0] 25)).alloc (.cells #[.bool false] 4)) w.heap.size 0 0 0 0 0) := (Five.new _ _ _ _ _ _ _).alloc _
  have C0 : Hid (((w.alloc (.cells #[.int .i64 0, .int .i64 0, .int .i64 0, .int .i64 0, .int .i64 0] 25)).alloc (.cells #[.bool false] 4)).cell? ⟨w.heap.size + 1, 0, none⟩ = some (.bool false)) := by simp [Hid]
  have C1 : Hid (((w.alloc (.cells #[.int .i64 0, .int .i64 0, .int .i64 0, .int .i64 0, .int .i64 0] 25)).alloc (.cells #[.bool false] 4)).frozen? ⟨w.heap.size + 1, 0, none⟩ = false) := by simp [Hid]
  have C2 : Hid (w.heap.size + 1 < ((w.alloc (.cells #[.int .i64 0, .int .i64 0, .int .i64 0, .int .i64 0, .int .i64 0] 25)).alloc (.cells #[.bool false] 4)).heap.size) := by simp [Hid]
  have s := insOfLine_any l hl ae _ (hL.below B0.out)
  cases hr : readL l with
  | none =>
    simp only [hr, endI_none] at s
    have S := hid_mk s
    have hx : rdX l = ⟨0, 0, 0, 0, 0⟩ := by rw [rdX, hr]; rfl
    rw [hx]
    simp only [insV, Option.isSome_none]
    clear s hr hL hl hx
    go_enter_defers Tryd.func13, Tryd.ntmps13
    go_wp2_with (go_at_call 41; refine S.out.mono ?_; rintro e w1 ⟨rfl, hb⟩)
    have F1 := F0.out.below hb
    have c5 := (hb.cell C2.out).trans C0.out
    have f5 := (hb.frozen C2.out).trans C1.out
    have B1 := B0.out.trans (hb.mono B0.out.size)
    refine leaves_cons (f := 40) (args := #[.pointer (some ⟨w.heap.size, 0, none⟩), .pointer (some ⟨w.heap.size + 1, 0, none⟩)]) (by simp) (by simp [go_sem]) ?_
    refine (catchI_panicking w.heap.size (w.heap.size + 1) (by omega) 0 0 0 0 0 false _ _ [] _ F1 c5 f5).mono ?_
    rintro e u' w2 ⟨rfl, rfl, rfl⟩
    obtain ⟨l0, c0, c1, c2, c3, c4, f0, f1, f2, f3, f4⟩ := F1
    simp [Leaves, settle, results, Tryd.results13, go_sem, put5, c0, c1, c2, c3, c4, c5]
    exact Below.setCell (Below.setCell (Below.setCell (Below.setCell (Below.setCell (Below.setCell B1 (Nat.le_refl _) _) (Nat.le_refl _) _) (Nat.le_refl _) _) (Nat.le_refl _) _) (Nat.le_refl _) _) (Nat.le_succ _) _
  | some x =>
    simp only [hr, endI_some, insV] at s
    have S := hid_mk s
    have hx : rdX l = x := by rw [rdX, hr]; rfl
    rw [hx]
    simp only [insV, Option.isSome_some]
    clear s hr hL hl hx
    go_enter_defers Tryd.func13, Tryd.ntmps13
    go_wp2_with (go_at_call 41; refine S.out.mono ?_; rintro e w1 ⟨rfl, hb⟩; refine Hid.out ?_)
    refine Lib.hid ?_
    have F1 := hid_mk (F0.out.below hb)
    have c5 := (hb.cell C2.out).trans C0.out
    have f5 := (hb.frozen C2.out).trans C1.out
    have B1 := hid_mk (B0.out.trans (hb.mono B0.out.size))
    obtain ⟨l0, c0, c1, c2, c3, c4, f0, f1, f2, f3, f4⟩ := F1.out
    clear hb
    go_wp2
    refine leaves_cons (f := 40) (args := #[.pointer (some ⟨w.heap.size, 0, none⟩), .pointer (some ⟨w.heap.size + 1, 0, none⟩)]) (by simp) (by simp [go_sem]) ?_
    refine (catchI_idle ⟨w.heap.size, 0, none⟩ ⟨w.heap.size + 1, 0, none⟩ _).mono ?_
    rintro e u' w2 ⟨rfl, rfl, rfl⟩
    simp [Leaves, settle, results, Tryd.results13, go_sem, c0, c1, c2, c3, c4, c5]
    exact Below.setCell (Below.setCell (Below.setCell (Below.setCell (Below.setCell (Below.setCell B1.out (Nat.le_refl _) _) (Nat.le_refl _) _) (Nat.le_refl _) _) (Nat.le_refl _) _) (Nat.le_refl _) _) (Nat.le_succ _) _
end Go.Proofs.YtdcghcbliajcpaaDoor
