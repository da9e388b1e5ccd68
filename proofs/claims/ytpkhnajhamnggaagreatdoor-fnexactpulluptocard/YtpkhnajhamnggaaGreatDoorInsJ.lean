/- InsOk of the program at all places: it answers as the specification's. No condition. -/
import Derived.Test.YtpkhnajhamnggaaGreatDoorZH
namespace Go.Proofs.YtpkhnajhamnggaaGreatDoor
open Go.ChangeShapes Go.WideShapes Go.ChangeAt Go.RowKit

/-- A place in its block, beside what was there at first. -/
structure Pl (w0 : World) (k : Nat) (o r a b n : Int) (w : World) : Prop where
  five : Five w k o r a b n
  bel : Below w0.heap.size w0 w
section
variable {w0 w w' : World} {k : Nat} {o r a b n : Int}
theorem Pl.next (h : Pl w0 k o r a b n w) (hb : Below w.heap.size w w') : Pl w0 k o r a b n w' := ⟨h.five.below hb, h.bel.trans (hb.mono h.bel.size)⟩
theorem Pl.drew (h : Pl w0 k o r a b n w) : Pl w0 k o r a b n w.drew := h.next (Below.refl _ _).drew
theorem Pl.alloc (h : Pl w0 k o r a b n w) (x : Obj) : Pl w0 k o r a b n (w.alloc x) := h.next ((Below.refl _ _).alloc (Nat.le_refl _) _)
theorem Pl.all (h : Pl w0 k o r a b n w) : w.cell? ⟨k, 0, none⟩ = some (.int .i64 o) ∧ w.cell? ⟨k, 1, none⟩ = some (.int .i64 r) ∧ w.cell? ⟨k, 2, none⟩ = some (.int .i64 a) ∧ w.cell? ⟨k, 3, none⟩ = some (.int .i64 b) ∧ w.cell? ⟨k, 4, none⟩ = some (.int .i64 n) :=
  ⟨h.five.c0, h.five.c1, h.five.c2, h.five.c3, h.five.c4⟩
end
theorem Pl.new (w : World) (o r a b n : Int) (T : TypeId) : Pl w w.heap.size o r a b n (w.alloc (.cells #[.int .i64 o, .int .i64 r, .int .i64 a, .int .i64 b, .int .i64 n] T)) :=
  ⟨Five.new _ _ _ _ _ _ _, (Below.refl _ _).alloc (Nat.le_refl _) _⟩

set_option maxRecDepth 100000 in
set_option maxHeartbeats 2000000 in
theorem insOk_number (o r a b n : Int) (hp : ∀ w, Calls Tryz.prog 139 #[.agg #[.int .i64 o, .int .i64 r, .int .i64 a, .int .i64 b, .int .i64 n]] w fun e w' => e = .returned (.tuple #[.iface 184 (.agg #[.int .i64 r, .int .i64 n]), .bool true]) ∧ Below w.heap.size w w') (w : World) :
    Calls Tryz.prog 112 #[.agg #[.int .i64 o, .int .i64 r, .int .i64 a, .int .i64 b, .int .i64 n]] w fun e w' => e = .returned (.bool (eqB 1 r 0 0 n o r a b n && fitB r a b n)) ∧ Below w.heap.size w w' := by
  have hm := meth_number (.agg #[.int .i64 r, .int .i64 n])
  have s1 := ins_number r n
  have s2 := fits_any o r a b n
  have qe := eql_ins 1 r 0 0 n o r a b n
  have eg := eg_ins
  generalize eqB 1 r 0 0 n o r a b n = y at qe ⊢
  generalize fitB r a b n = z at s2 ⊢
  have HP : Hid _ := hp
  have S1 : Hid _ := s1
  have S2 : Hid _ := s2
  clear hp s1 s2
  go_enter Tryz.func112, Tryz.ntmps112
  go_wp2_with fail
  refine (HP.out _).mono ?_
  rintro e w1 ⟨rfl, hb1⟩
  have P1 := hid_mk ((Pl.new w o r a b n 76).next hb1)
  clear hb1 HP
  have D1 := hid_mk P1.out.drew
  obtain ⟨_, c0, c1, c2, c3, c4, _, _, _, _, _⟩ := P1.out.five
  cases y
  · have hu : undef = Value.tuple #[] := rfl
    go_wp2_with fail
    first | (go_region_with (first
      | (go_at_call 217; refine (S1.out _).mono ?_; rintro e w2 ⟨rfl, hb2⟩; have P2 := hid_mk (D1.out.next hb2); clear hb2 c0 c1 c2 c3 c4; obtain ⟨_, c0, c1, c2, c3, c4, _, _, _, _, _⟩ := P2.out.five))) | fail
    all_goals
      go_wp2
      go_ret
      exact ⟨rfl, P2.out.bel⟩
  · go_wp2_with fail
    go_region_held3 (fun w' => w'.cell? ⟨w.heap.size, 0, none⟩ = some (.int .i64 o) ∧ w'.cell? ⟨w.heap.size, 1, none⟩ = some (.int .i64 r) ∧ w'.cell? ⟨w.heap.size, 2, none⟩ = some (.int .i64 a) ∧ w'.cell? ⟨w.heap.size, 3, none⟩ = some (.int .i64 b) ∧ w'.cell? ⟨w.heap.size, 4, none⟩ = some (.int .i64 n)) (first | (with_reducible exact D1.out.all) | (with_reducible exact P2.out.all) | (with_reducible exact P3.out.all) | fail)
      (first
        | (go_at_call 217; refine (S1.out _).mono ?_; rintro e w2 ⟨rfl, hb2⟩; have P2 := hid_mk (D1.out.next hb2); clear hb2)
        | (go_at_call 140; refine (S2.out _).mono ?_; rintro e w3 ⟨rfl, hb3⟩; have P3 := hid_mk (P2.out.next hb3); clear hb3))
    go_wp2
    go_ret
    exact ⟨rfl, P3.out.bel⟩

set_option maxRecDepth 100000 in
set_option maxHeartbeats 2000000 in
theorem insOk_one (o r a b n : Int) (hp : ∀ w, Calls Tryz.prog 139 #[.agg #[.int .i64 o, .int .i64 r, .int .i64 a, .int .i64 b, .int .i64 n]] w fun e w' => e = .returned (.tuple #[.iface 186 (.agg #[.int .i64 o, .int .i64 r, .int .i64 a]), .bool true]) ∧ Below w.heap.size w w') (w : World) :
    Calls Tryz.prog 112 #[.agg #[.int .i64 o, .int .i64 r, .int .i64 a, .int .i64 b, .int .i64 n]] w fun e w' => e = .returned (.bool (eqB o r a 0 0 o r a b n && fitB r a b n)) ∧ Below w.heap.size w w' := by
  have hm := meth_one (.agg #[.int .i64 o, .int .i64 r, .int .i64 a])
  have s1 := ins_one o r a
  have s2 := fits_any o r a b n
  have qe := eql_ins o r a 0 0 o r a b n
  have eg := eg_ins
  generalize eqB o r a 0 0 o r a b n = y at qe ⊢
  generalize fitB r a b n = z at s2 ⊢
  have HP : Hid _ := hp
  have S1 : Hid _ := s1
  have S2 : Hid _ := s2
  clear hp s1 s2
  go_enter Tryz.func112, Tryz.ntmps112
  go_wp2_with fail
  refine (HP.out _).mono ?_
  rintro e w1 ⟨rfl, hb1⟩
  have P1 := hid_mk ((Pl.new w o r a b n 76).next hb1)
  clear hb1 HP
  have D1 := hid_mk P1.out.drew
  obtain ⟨_, c0, c1, c2, c3, c4, _, _, _, _, _⟩ := P1.out.five
  cases y
  · have hu : undef = Value.tuple #[] := rfl
    go_wp2_with fail
    first | (go_region_with (first
      | (go_at_call 218; refine (S1.out _).mono ?_; rintro e w2 ⟨rfl, hb2⟩; have P2 := hid_mk (D1.out.next hb2); clear hb2 c0 c1 c2 c3 c4; obtain ⟨_, c0, c1, c2, c3, c4, _, _, _, _, _⟩ := P2.out.five))) | fail
    all_goals
      go_wp2
      go_ret
      exact ⟨rfl, P2.out.bel⟩
  · go_wp2_with fail
    go_region_held3 (fun w' => w'.cell? ⟨w.heap.size, 0, none⟩ = some (.int .i64 o) ∧ w'.cell? ⟨w.heap.size, 1, none⟩ = some (.int .i64 r) ∧ w'.cell? ⟨w.heap.size, 2, none⟩ = some (.int .i64 a) ∧ w'.cell? ⟨w.heap.size, 3, none⟩ = some (.int .i64 b) ∧ w'.cell? ⟨w.heap.size, 4, none⟩ = some (.int .i64 n)) (first | (with_reducible exact D1.out.all) | (with_reducible exact P2.out.all) | (with_reducible exact P3.out.all) | fail)
      (first
        | (go_at_call 218; refine (S1.out _).mono ?_; rintro e w2 ⟨rfl, hb2⟩; have P2 := hid_mk (D1.out.next hb2); clear hb2)
        | (go_at_call 140; refine (S2.out _).mono ?_; rintro e w3 ⟨rfl, hb3⟩; have P3 := hid_mk (P2.out.next hb3); clear hb3))
    go_wp2
    go_ret
    exact ⟨rfl, P3.out.bel⟩

set_option maxRecDepth 100000 in
set_option maxHeartbeats 2000000 in
theorem insOk_two (o r a b n : Int) (hp : ∀ w, Calls Tryz.prog 139 #[.agg #[.int .i64 o, .int .i64 r, .int .i64 a, .int .i64 b, .int .i64 n]] w fun e w' => e = .returned (.tuple #[.iface 188 (.agg #[.int .i64 o, .int .i64 r, .int .i64 a, .int .i64 b]), .bool true]) ∧ Below w.heap.size w w') (w : World) :
    Calls Tryz.prog 112 #[.agg #[.int .i64 o, .int .i64 r, .int .i64 a, .int .i64 b, .int .i64 n]] w fun e w' => e = .returned (.bool (eqB o r a b 0 o r a b n && fitB r a b n)) ∧ Below w.heap.size w w' := by
  have hm := meth_two (.agg #[.int .i64 o, .int .i64 r, .int .i64 a, .int .i64 b])
  have s1 := ins_two o r a b
  have s2 := fits_any o r a b n
  have qe := eql_ins o r a b 0 o r a b n
  have eg := eg_ins
  generalize eqB o r a b 0 o r a b n = y at qe ⊢
  generalize fitB r a b n = z at s2 ⊢
  have HP : Hid _ := hp
  have S1 : Hid _ := s1
  have S2 : Hid _ := s2
  clear hp s1 s2
  go_enter Tryz.func112, Tryz.ntmps112
  go_wp2_with fail
  refine (HP.out _).mono ?_
  rintro e w1 ⟨rfl, hb1⟩
  have P1 := hid_mk ((Pl.new w o r a b n 76).next hb1)
  clear hb1 HP
  have D1 := hid_mk P1.out.drew
  obtain ⟨_, c0, c1, c2, c3, c4, _, _, _, _, _⟩ := P1.out.five
  cases y
  · have hu : undef = Value.tuple #[] := rfl
    go_wp2_with fail
    first | (go_region_with (first
      | (go_at_call 219; refine (S1.out _).mono ?_; rintro e w2 ⟨rfl, hb2⟩; have P2 := hid_mk (D1.out.next hb2); clear hb2 c0 c1 c2 c3 c4; obtain ⟨_, c0, c1, c2, c3, c4, _, _, _, _, _⟩ := P2.out.five))) | fail
    all_goals
      go_wp2
      go_ret
      exact ⟨rfl, P2.out.bel⟩
  · go_wp2_with fail
    go_region_held3 (fun w' => w'.cell? ⟨w.heap.size, 0, none⟩ = some (.int .i64 o) ∧ w'.cell? ⟨w.heap.size, 1, none⟩ = some (.int .i64 r) ∧ w'.cell? ⟨w.heap.size, 2, none⟩ = some (.int .i64 a) ∧ w'.cell? ⟨w.heap.size, 3, none⟩ = some (.int .i64 b) ∧ w'.cell? ⟨w.heap.size, 4, none⟩ = some (.int .i64 n)) (first | (with_reducible exact D1.out.all) | (with_reducible exact P2.out.all) | (with_reducible exact P3.out.all) | fail)
      (first
        | (go_at_call 219; refine (S1.out _).mono ?_; rintro e w2 ⟨rfl, hb2⟩; have P2 := hid_mk (D1.out.next hb2); clear hb2)
        | (go_at_call 140; refine (S2.out _).mono ?_; rintro e w3 ⟨rfl, hb3⟩; have P3 := hid_mk (P2.out.next hb3); clear hb3))
    go_wp2
    go_ret
    exact ⟨rfl, P3.out.bel⟩

set_option maxRecDepth 100000 in
set_option maxHeartbeats 2000000 in
theorem insOk_point (o r a b n : Int) (hp : ∀ w, Calls Tryz.prog 139 #[.agg #[.int .i64 o, .int .i64 r, .int .i64 a, .int .i64 b, .int .i64 n]] w fun e w' => e = .returned (.tuple #[.iface 190 (.agg #[.int .i64 r, .int .i64 a, .int .i64 b, .int .i64 n]), .bool true]) ∧ Below w.heap.size w w') (w : World) :
    Calls Tryz.prog 112 #[.agg #[.int .i64 o, .int .i64 r, .int .i64 a, .int .i64 b, .int .i64 n]] w fun e w' => e = .returned (.bool (eqB 6 r a b n o r a b n && fitB r a b n)) ∧ Below w.heap.size w w' := by
  have hm := meth_point (.agg #[.int .i64 r, .int .i64 a, .int .i64 b, .int .i64 n])
  have s1 := ins_point r a b n
  have s2 := fits_any o r a b n
  have qe := eql_ins 6 r a b n o r a b n
  have eg := eg_ins
  generalize eqB 6 r a b n o r a b n = y at qe ⊢
  generalize fitB r a b n = z at s2 ⊢
  have HP : Hid _ := hp
  have S1 : Hid _ := s1
  have S2 : Hid _ := s2
  clear hp s1 s2
  go_enter Tryz.func112, Tryz.ntmps112
  go_wp2_with fail
  refine (HP.out _).mono ?_
  rintro e w1 ⟨rfl, hb1⟩
  have P1 := hid_mk ((Pl.new w o r a b n 76).next hb1)
  clear hb1 HP
  have D1 := hid_mk P1.out.drew
  obtain ⟨_, c0, c1, c2, c3, c4, _, _, _, _, _⟩ := P1.out.five
  cases y
  · have hu : undef = Value.tuple #[] := rfl
    go_wp2_with fail
    first | (go_region_with (first
      | (go_at_call 220; refine (S1.out _).mono ?_; rintro e w2 ⟨rfl, hb2⟩; have P2 := hid_mk (D1.out.next hb2); clear hb2 c0 c1 c2 c3 c4; obtain ⟨_, c0, c1, c2, c3, c4, _, _, _, _, _⟩ := P2.out.five))) | fail
    all_goals
      go_wp2
      go_ret
      exact ⟨rfl, P2.out.bel⟩
  · go_wp2_with fail
    go_region_held3 (fun w' => w'.cell? ⟨w.heap.size, 0, none⟩ = some (.int .i64 o) ∧ w'.cell? ⟨w.heap.size, 1, none⟩ = some (.int .i64 r) ∧ w'.cell? ⟨w.heap.size, 2, none⟩ = some (.int .i64 a) ∧ w'.cell? ⟨w.heap.size, 3, none⟩ = some (.int .i64 b) ∧ w'.cell? ⟨w.heap.size, 4, none⟩ = some (.int .i64 n)) (first | (with_reducible exact D1.out.all) | (with_reducible exact P2.out.all) | (with_reducible exact P3.out.all) | fail)
      (first
        | (go_at_call 220; refine (S1.out _).mono ?_; rintro e w2 ⟨rfl, hb2⟩; have P2 := hid_mk (D1.out.next hb2); clear hb2)
        | (go_at_call 140; refine (S2.out _).mono ?_; rintro e w3 ⟨rfl, hb3⟩; have P3 := hid_mk (P2.out.next hb3); clear hb3))
    go_wp2
    go_ret
    exact ⟨rfl, P3.out.bel⟩

set_option maxRecDepth 100000 in
set_option maxHeartbeats 2000000 in
theorem insOk_load (o r a b n : Int) (hp : ∀ w, Calls Tryz.prog 139 #[.agg #[.int .i64 o, .int .i64 r, .int .i64 a, .int .i64 b, .int .i64 n]] w fun e w' => e = .returned (.tuple #[.iface 192 (.agg #[.int .i64 r, .int .i64 a, .int .i64 n]), .bool true]) ∧ Below w.heap.size w w') (w : World) :
    Calls Tryz.prog 112 #[.agg #[.int .i64 o, .int .i64 r, .int .i64 a, .int .i64 b, .int .i64 n]] w fun e w' => e = .returned (.bool (eqB 10 r a 0 n o r a b n && fitB r a b n)) ∧ Below w.heap.size w w' := by
  have hm := meth_load (.agg #[.int .i64 r, .int .i64 a, .int .i64 n])
  have s1 := ins_load r a n
  have s2 := fits_any o r a b n
  have qe := eql_ins 10 r a 0 n o r a b n
  have eg := eg_ins
  generalize eqB 10 r a 0 n o r a b n = y at qe ⊢
  generalize fitB r a b n = z at s2 ⊢
  have HP : Hid _ := hp
  have S1 : Hid _ := s1
  have S2 : Hid _ := s2
  clear hp s1 s2
  go_enter Tryz.func112, Tryz.ntmps112
  go_wp2_with fail
  refine (HP.out _).mono ?_
  rintro e w1 ⟨rfl, hb1⟩
  have P1 := hid_mk ((Pl.new w o r a b n 76).next hb1)
  clear hb1 HP
  have D1 := hid_mk P1.out.drew
  obtain ⟨_, c0, c1, c2, c3, c4, _, _, _, _, _⟩ := P1.out.five
  cases y
  · have hu : undef = Value.tuple #[] := rfl
    go_wp2_with fail
    first | (go_region_with (first
      | (go_at_call 221; refine (S1.out _).mono ?_; rintro e w2 ⟨rfl, hb2⟩; have P2 := hid_mk (D1.out.next hb2); clear hb2 c0 c1 c2 c3 c4; obtain ⟨_, c0, c1, c2, c3, c4, _, _, _, _, _⟩ := P2.out.five))) | fail
    all_goals
      go_wp2
      go_ret
      exact ⟨rfl, P2.out.bel⟩
  · go_wp2_with fail
    go_region_held3 (fun w' => w'.cell? ⟨w.heap.size, 0, none⟩ = some (.int .i64 o) ∧ w'.cell? ⟨w.heap.size, 1, none⟩ = some (.int .i64 r) ∧ w'.cell? ⟨w.heap.size, 2, none⟩ = some (.int .i64 a) ∧ w'.cell? ⟨w.heap.size, 3, none⟩ = some (.int .i64 b) ∧ w'.cell? ⟨w.heap.size, 4, none⟩ = some (.int .i64 n)) (first | (with_reducible exact D1.out.all) | (with_reducible exact P2.out.all) | (with_reducible exact P3.out.all) | fail)
      (first
        | (go_at_call 221; refine (S1.out _).mono ?_; rintro e w2 ⟨rfl, hb2⟩; have P2 := hid_mk (D1.out.next hb2); clear hb2)
        | (go_at_call 140; refine (S2.out _).mono ?_; rintro e w3 ⟨rfl, hb3⟩; have P3 := hid_mk (P2.out.next hb3); clear hb3))
    go_wp2
    go_ret
    exact ⟨rfl, P3.out.bel⟩

set_option maxRecDepth 100000 in
set_option maxHeartbeats 2000000 in
theorem insOk_store (o r a b n : Int) (hp : ∀ w, Calls Tryz.prog 139 #[.agg #[.int .i64 o, .int .i64 r, .int .i64 a, .int .i64 b, .int .i64 n]] w fun e w' => e = .returned (.tuple #[.iface 194 (.agg #[.int .i64 a, .int .i64 b, .int .i64 n]), .bool true]) ∧ Below w.heap.size w w') (w : World) :
    Calls Tryz.prog 112 #[.agg #[.int .i64 o, .int .i64 r, .int .i64 a, .int .i64 b, .int .i64 n]] w fun e w' => e = .returned (.bool (eqB 11 0 a b n o r a b n && fitB r a b n)) ∧ Below w.heap.size w w' := by
  have hm := meth_store (.agg #[.int .i64 a, .int .i64 b, .int .i64 n])
  have s1 := ins_store a b n
  have s2 := fits_any o r a b n
  have qe := eql_ins 11 0 a b n o r a b n
  have eg := eg_ins
  generalize eqB 11 0 a b n o r a b n = y at qe ⊢
  generalize fitB r a b n = z at s2 ⊢
  have HP : Hid _ := hp
  have S1 : Hid _ := s1
  have S2 : Hid _ := s2
  clear hp s1 s2
  go_enter Tryz.func112, Tryz.ntmps112
  go_wp2_with fail
  refine (HP.out _).mono ?_
  rintro e w1 ⟨rfl, hb1⟩
  have P1 := hid_mk ((Pl.new w o r a b n 76).next hb1)
  clear hb1 HP
  have D1 := hid_mk P1.out.drew
  obtain ⟨_, c0, c1, c2, c3, c4, _, _, _, _, _⟩ := P1.out.five
  cases y
  · have hu : undef = Value.tuple #[] := rfl
    go_wp2_with fail
    first | (go_region_with (first
      | (go_at_call 222; refine (S1.out _).mono ?_; rintro e w2 ⟨rfl, hb2⟩; have P2 := hid_mk (D1.out.next hb2); clear hb2 c0 c1 c2 c3 c4; obtain ⟨_, c0, c1, c2, c3, c4, _, _, _, _, _⟩ := P2.out.five))) | fail
    all_goals
      go_wp2
      go_ret
      exact ⟨rfl, P2.out.bel⟩
  · go_wp2_with fail
    go_region_held3 (fun w' => w'.cell? ⟨w.heap.size, 0, none⟩ = some (.int .i64 o) ∧ w'.cell? ⟨w.heap.size, 1, none⟩ = some (.int .i64 r) ∧ w'.cell? ⟨w.heap.size, 2, none⟩ = some (.int .i64 a) ∧ w'.cell? ⟨w.heap.size, 3, none⟩ = some (.int .i64 b) ∧ w'.cell? ⟨w.heap.size, 4, none⟩ = some (.int .i64 n)) (first | (with_reducible exact D1.out.all) | (with_reducible exact P2.out.all) | (with_reducible exact P3.out.all) | fail)
      (first
        | (go_at_call 222; refine (S1.out _).mono ?_; rintro e w2 ⟨rfl, hb2⟩; have P2 := hid_mk (D1.out.next hb2); clear hb2)
        | (go_at_call 140; refine (S2.out _).mono ?_; rintro e w3 ⟨rfl, hb3⟩; have P3 := hid_mk (P2.out.next hb3); clear hb3))
    go_wp2
    go_ret
    exact ⟨rfl, P3.out.bel⟩

set_option maxRecDepth 100000 in
set_option maxHeartbeats 2000000 in
theorem insOk_zero (o r a b n : Int) (hp : ∀ w, Calls Tryz.prog 139 #[.agg #[.int .i64 o, .int .i64 r, .int .i64 a, .int .i64 b, .int .i64 n]] w fun e w' => e = .returned (.tuple #[.iface 196 (.agg #[.int .i64 a, .int .i64 n]), .bool true]) ∧ Below w.heap.size w w') (w : World) :
    Calls Tryz.prog 112 #[.agg #[.int .i64 o, .int .i64 r, .int .i64 a, .int .i64 b, .int .i64 n]] w fun e w' => e = .returned (.bool (eqB 13 0 a 0 n o r a b n && fitB r a b n)) ∧ Below w.heap.size w w' := by
  have hm := meth_zero (.agg #[.int .i64 a, .int .i64 n])
  have s1 := ins_zero a n
  have s2 := fits_any o r a b n
  have qe := eql_ins 13 0 a 0 n o r a b n
  have eg := eg_ins
  generalize eqB 13 0 a 0 n o r a b n = y at qe ⊢
  generalize fitB r a b n = z at s2 ⊢
  have HP : Hid _ := hp
  have S1 : Hid _ := s1
  have S2 : Hid _ := s2
  clear hp s1 s2
  go_enter Tryz.func112, Tryz.ntmps112
  go_wp2_with fail
  refine (HP.out _).mono ?_
  rintro e w1 ⟨rfl, hb1⟩
  have P1 := hid_mk ((Pl.new w o r a b n 76).next hb1)
  clear hb1 HP
  have D1 := hid_mk P1.out.drew
  obtain ⟨_, c0, c1, c2, c3, c4, _, _, _, _, _⟩ := P1.out.five
  cases y
  · have hu : undef = Value.tuple #[] := rfl
    go_wp2_with fail
    first | (go_region_with (first
      | (go_at_call 223; refine (S1.out _).mono ?_; rintro e w2 ⟨rfl, hb2⟩; have P2 := hid_mk (D1.out.next hb2); clear hb2 c0 c1 c2 c3 c4; obtain ⟨_, c0, c1, c2, c3, c4, _, _, _, _, _⟩ := P2.out.five))) | fail
    all_goals
      go_wp2
      go_ret
      exact ⟨rfl, P2.out.bel⟩
  · go_wp2_with fail
    go_region_held3 (fun w' => w'.cell? ⟨w.heap.size, 0, none⟩ = some (.int .i64 o) ∧ w'.cell? ⟨w.heap.size, 1, none⟩ = some (.int .i64 r) ∧ w'.cell? ⟨w.heap.size, 2, none⟩ = some (.int .i64 a) ∧ w'.cell? ⟨w.heap.size, 3, none⟩ = some (.int .i64 b) ∧ w'.cell? ⟨w.heap.size, 4, none⟩ = some (.int .i64 n)) (first | (with_reducible exact D1.out.all) | (with_reducible exact P2.out.all) | (with_reducible exact P3.out.all) | fail)
      (first
        | (go_at_call 223; refine (S1.out _).mono ?_; rintro e w2 ⟨rfl, hb2⟩; have P2 := hid_mk (D1.out.next hb2); clear hb2)
        | (go_at_call 140; refine (S2.out _).mono ?_; rintro e w3 ⟨rfl, hb3⟩; have P3 := hid_mk (P2.out.next hb3); clear hb3))
    go_wp2
    go_ret
    exact ⟨rfl, P3.out.bel⟩

set_option maxRecDepth 100000 in
set_option maxHeartbeats 2000000 in
theorem insOk_gone (o r a b n : Int) (hp : ∀ w, Calls Tryz.prog 139 #[.agg #[.int .i64 o, .int .i64 r, .int .i64 a, .int .i64 b, .int .i64 n]] w fun e w' => e = .returned (.tuple #[.iface 198 (.agg #[.int .i64 a]), .bool true]) ∧ Below w.heap.size w w') (w : World) :
    Calls Tryz.prog 112 #[.agg #[.int .i64 o, .int .i64 r, .int .i64 a, .int .i64 b, .int .i64 n]] w fun e w' => e = .returned (.bool (eqB 14 0 a 0 0 o r a b n && fitB r a b n)) ∧ Below w.heap.size w w' := by
  have hm := meth_gone (.agg #[.int .i64 a])
  have s1 := ins_gone a
  have s2 := fits_any o r a b n
  have qe := eql_ins 14 0 a 0 0 o r a b n
  have eg := eg_ins
  generalize eqB 14 0 a 0 0 o r a b n = y at qe ⊢
  generalize fitB r a b n = z at s2 ⊢
  have HP : Hid _ := hp
  have S1 : Hid _ := s1
  have S2 : Hid _ := s2
  clear hp s1 s2
  go_enter Tryz.func112, Tryz.ntmps112
  go_wp2_with fail
  refine (HP.out _).mono ?_
  rintro e w1 ⟨rfl, hb1⟩
  have P1 := hid_mk ((Pl.new w o r a b n 76).next hb1)
  clear hb1 HP
  have D1 := hid_mk P1.out.drew
  obtain ⟨_, c0, c1, c2, c3, c4, _, _, _, _, _⟩ := P1.out.five
  cases y
  · have hu : undef = Value.tuple #[] := rfl
    go_wp2_with fail
    first | (go_region_with (first
      | (go_at_call 224; refine (S1.out _).mono ?_; rintro e w2 ⟨rfl, hb2⟩; have P2 := hid_mk (D1.out.next hb2); clear hb2 c0 c1 c2 c3 c4; obtain ⟨_, c0, c1, c2, c3, c4, _, _, _, _, _⟩ := P2.out.five))) | fail
    all_goals
      go_wp2
      go_ret
      exact ⟨rfl, P2.out.bel⟩
  · go_wp2_with fail
    go_region_held3 (fun w' => w'.cell? ⟨w.heap.size, 0, none⟩ = some (.int .i64 o) ∧ w'.cell? ⟨w.heap.size, 1, none⟩ = some (.int .i64 r) ∧ w'.cell? ⟨w.heap.size, 2, none⟩ = some (.int .i64 a) ∧ w'.cell? ⟨w.heap.size, 3, none⟩ = some (.int .i64 b) ∧ w'.cell? ⟨w.heap.size, 4, none⟩ = some (.int .i64 n)) (first | (with_reducible exact D1.out.all) | (with_reducible exact P2.out.all) | (with_reducible exact P3.out.all) | fail)
      (first
        | (go_at_call 224; refine (S1.out _).mono ?_; rintro e w2 ⟨rfl, hb2⟩; have P2 := hid_mk (D1.out.next hb2); clear hb2)
        | (go_at_call 140; refine (S2.out _).mono ?_; rintro e w3 ⟨rfl, hb3⟩; have P3 := hid_mk (P2.out.next hb3); clear hb3))
    go_wp2
    go_ret
    exact ⟨rfl, P3.out.bel⟩

set_option maxRecDepth 100000 in
set_option maxHeartbeats 2000000 in
theorem insOk_halt (o r a b n : Int) (hp : ∀ w, Calls Tryz.prog 139 #[.agg #[.int .i64 o, .int .i64 r, .int .i64 a, .int .i64 b, .int .i64 n]] w fun e w' => e = .returned (.tuple #[.iface 200 (.agg #[]), .bool true]) ∧ Below w.heap.size w w') (w : World) :
    Calls Tryz.prog 112 #[.agg #[.int .i64 o, .int .i64 r, .int .i64 a, .int .i64 b, .int .i64 n]] w fun e w' => e = .returned (.bool (eqB 15 0 0 0 0 o r a b n && fitB r a b n)) ∧ Below w.heap.size w w' := by
  have hm := meth_halt (.agg #[])
  have s1 := ins_halt 
  have s2 := fits_any o r a b n
  have qe := eql_ins 15 0 0 0 0 o r a b n
  have eg := eg_ins
  generalize eqB 15 0 0 0 0 o r a b n = y at qe ⊢
  generalize fitB r a b n = z at s2 ⊢
  have HP : Hid _ := hp
  have S1 : Hid _ := s1
  have S2 : Hid _ := s2
  clear hp s1 s2
  go_enter Tryz.func112, Tryz.ntmps112
  go_wp2_with fail
  refine (HP.out _).mono ?_
  rintro e w1 ⟨rfl, hb1⟩
  have P1 := hid_mk ((Pl.new w o r a b n 76).next hb1)
  clear hb1 HP
  have D1 := hid_mk P1.out.drew
  obtain ⟨_, c0, c1, c2, c3, c4, _, _, _, _, _⟩ := P1.out.five
  cases y
  · have hu : undef = Value.tuple #[] := rfl
    go_wp2_with fail
    first | (go_region_with (first
      | (go_at_call 225; refine (S1.out _).mono ?_; rintro e w2 ⟨rfl, hb2⟩; have P2 := hid_mk (D1.out.next hb2); clear hb2 c0 c1 c2 c3 c4; obtain ⟨_, c0, c1, c2, c3, c4, _, _, _, _, _⟩ := P2.out.five))) | fail
    all_goals
      go_wp2
      go_ret
      exact ⟨rfl, P2.out.bel⟩
  · go_wp2_with fail
    go_region_held3 (fun w' => w'.cell? ⟨w.heap.size, 0, none⟩ = some (.int .i64 o) ∧ w'.cell? ⟨w.heap.size, 1, none⟩ = some (.int .i64 r) ∧ w'.cell? ⟨w.heap.size, 2, none⟩ = some (.int .i64 a) ∧ w'.cell? ⟨w.heap.size, 3, none⟩ = some (.int .i64 b) ∧ w'.cell? ⟨w.heap.size, 4, none⟩ = some (.int .i64 n)) (first | (with_reducible exact D1.out.all) | (with_reducible exact P2.out.all) | (with_reducible exact P3.out.all) | fail)
      (first
        | (go_at_call 225; refine (S1.out _).mono ?_; rintro e w2 ⟨rfl, hb2⟩; have P2 := hid_mk (D1.out.next hb2); clear hb2)
        | (go_at_call 140; refine (S2.out _).mono ?_; rintro e w3 ⟨rfl, hb3⟩; have P3 := hid_mk (P2.out.next hb3); clear hb3))
    go_wp2
    go_ret
    exact ⟨rfl, P3.out.bel⟩

end Go.Proofs.YtpkhnajhamnggaaGreatDoor
