/- DrawKeyWord: it returns a Key of some four ints and an int, and turns nothing that was there. -/
import Derived.Test.YtejpeikfibaapaaDrawW2
namespace Go.Proofs.Ytejpeikfibaapaa
open Go.ChangeShapes Go.WideShapes Go.ChangeAt Go.RowKit

section
variable {w0 w w' : World} {B q r u : Nat} {a : Option Addr} {len cap : Nat} {b t p s : Int}
theorem Make.all (h : Make w0 B q r u a len cap b t p s w) : w.cell? ⟨r, 0, none⟩ = some (.int .i64 b) ∧ w.cell? ⟨r, 1, none⟩ = some (.int .i64 t) ∧ w.cell? ⟨r, 2, none⟩ = some (.int .i64 p) ∧ w.cell? ⟨r, 3, none⟩ = some (.int .i64 s) := ⟨h.k.c0, h.k.c1, h.k.c2, h.k.c3⟩
theorem Make.alloc (h : Make w0 B q r u a len cap b t p s w) (o : Obj) : Make w0 B q r u a len cap b t p s (w.alloc o) :=
  ⟨h.k.alloc o, h.z.alloc o, h.d.alloc o, h.kb.alloc o, h.ru, h.rq, h.uq, h.rB, h.nr, h.nu⟩
theorem Make.stored (h : Make w0 B q r u a len cap b t p s w) (v0 v1 v2 v3 : Value) :
    ((((w.setCell ⟨u, 0, none⟩ v0).setCell ⟨u, 1, none⟩ v1).setCell ⟨u, 2, none⟩ v2).setCell ⟨u, 3, none⟩ v3).cell? ⟨r, 0, none⟩ = some (.int .i64 b) ∧
    ((((w.setCell ⟨u, 0, none⟩ v0).setCell ⟨u, 1, none⟩ v1).setCell ⟨u, 2, none⟩ v2).setCell ⟨u, 3, none⟩ v3).cell? ⟨r, 1, none⟩ = some (.int .i64 t) ∧
    ((((w.setCell ⟨u, 0, none⟩ v0).setCell ⟨u, 1, none⟩ v1).setCell ⟨u, 2, none⟩ v2).setCell ⟨u, 3, none⟩ v3).cell? ⟨r, 2, none⟩ = some (.int .i64 p) ∧
    ((((w.setCell ⟨u, 0, none⟩ v0).setCell ⟨u, 1, none⟩ v1).setCell ⟨u, 2, none⟩ v2).setCell ⟨u, 3, none⟩ v3).cell? ⟨r, 3, none⟩ = some (.int .i64 s) := by
  have g := (((h.k.other h.ru 0 v0).other h.ru 1 v1).other h.ru 2 v2).other h.ru 3 v3
  exact ⟨g.c0, g.c1, g.c2, g.c3⟩
end

set_option maxRecDepth 100000 in
set_option maxHeartbeats 2000000 in
theorem drawKeyWord_any {w : World} {a : Option Addr} {len cap : Nat} (hc : Code8 w.heap.size w a len) :
    Calls Try.prog 15 #[.slice a len cap] w fun e w' => ∃ b t p s n : Int, e = .returned (.tuple #[.agg #[.int .i64 b, .int .i64 t, .int .i64 p, .int .i64 s], .int .i64 n]) ∧ Below w.heap.size w w' := by
  have bz : Below w.heap.size w (w.alloc (.cells #[.int .i64 0, .int .i64 0, .int .i64 0, .int .i64 0] 25)) := (Below.refl _ _).alloc (Nat.le_refl _) _
  have hs : (w.alloc (.cells #[.int .i64 0, .int .i64 0, .int .i64 0, .int .i64 0] 25)).heap.size = w.heap.size + 1 := by simp
  have C : Hid (Code8 (w.heap.size + 1) (w.alloc (.cells #[.int .i64 0, .int .i64 0, .int .i64 0, .int .i64 0] 25)) a len) := hs ▸ hc.later bz
  clear hc bz
  go_enter Try.func15, Try.ntmps15
  go_wp2_with fail
  refine (d_new (by rw [hs]; exact C.out)).mono ?_
  rw [hs]
  rintro e w1 ⟨rfl, d1, b1⟩
  have D1 : Hid _ := d1
  have F1 : Hid (Four w1 w.heap.size 0 0 0 0) := (Four.new w 0 0 0 0 25).below (by rw [hs]; exact b1)
  have K1 : Hid (Below w.heap.size w w1) := ((Below.refl _ w).alloc (Nat.le_refl _) _).trans (b1.mono (by omega))
  have z1 := b1.size
  clear d1 b1 C hs
  go_wp2_with fail
  refine (d_key D1.out).mono ?_
  rintro e w2 ⟨b, t, p, s, rfl, d2, k2⟩
  have z2 := k2.size
  have l2 := d2.lt
  have M2 : Hid (Make w (w.heap.size + 1) (w.heap.size + 1) w2.heap.size w.heap.size a len cap b t p s (w2.alloc (.cells #[.int .i64 b, .int .i64 t, .int .i64 p, .int .i64 s] 25))) :=
    ⟨Four.new _ _ _ _ _ _, (F1.out.keep k2 (by omega)).alloc _, d2.alloc _, ((KeepBut.ofBelow K1.out).trans k2).alloc _, by omega, by omega, by omega, by omega, by omega, by omega⟩
  clear d2 k2 D1 F1 K1
  obtain ⟨r, hr⟩ : ∃ r, r = w2.heap.size := ⟨_, rfl⟩
  obtain ⟨w3, hw3⟩ : ∃ w3, w3 = w2.alloc (.cells #[.int .i64 b, .int .i64 t, .int .i64 p, .int .i64 s] 25) := ⟨_, rfl⟩
  go_upto_region 3 with fail
  rw [← hr] at M2 ⊢
  rw [← hw3] at M2 ⊢
  clear hr hw3
  have M4 : Hid _ := M2.out.drew
  obtain ⟨_, c0, c1, c2, c3, f0, f1, f2, f3⟩ := M2.out.z
  have hru := M2.out.ru
  go_region_held3 (fun w' => w'.cell? ⟨r, 0, none⟩ = some (.int .i64 b) ∧ w'.cell? ⟨r, 1, none⟩ = some (.int .i64 t) ∧ w'.cell? ⟨r, 2, none⟩ = some (.int .i64 p) ∧ w'.cell? ⟨r, 3, none⟩ = some (.int .i64 s)) (first | (with_reducible exact M4.out.all) | (with_reducible exact (M2.out.alloc _).drew.all) | (with_reducible exact M5.out.all) | (with_reducible exact M5.out.stored _ _ _ _) | fail)
    (first
      | (go_at_call 37; refine (d_pick_drew [0, 5, 65535, 65536, -1] 3 _ _ rfl (by decide) (by decide) M2.out.d).mono ?_; rintro e w5 ⟨y, rfl, _, d5, k5⟩; have M5 : Hid _ := M2.out.moved d5 k5; clear d5 k5; clear c0 c1 c2 c3 f0 f1 f2 f3; obtain ⟨_, c0, c1, c2, c3, f0, f1, f2, f3⟩ := M5.out.z))
  go_wp2
  refine bodyPost_ret (v := .tuple #[.agg #[.int .i64 b, .int .i64 t, .int .i64 p, .int .i64 s], .int .i64 y]) (by simp [results, Try.results15, go_sem, c0, c1, c2, c3]) rfl ⟨_, _, _, _, _, rfl, ?_⟩
  have K5 : Hid (Below w.heap.size w w5) := M5.out.kb.below (by omega) (Nat.le_refl _)
  repeat' (first | (with_reducible exact K5.out) | (refine Below.setCell ?_ (by show w.heap.size ≤ w.heap.size; exact Nat.le_refl _) _))
end Go.Proofs.Ytejpeikfibaapaa
