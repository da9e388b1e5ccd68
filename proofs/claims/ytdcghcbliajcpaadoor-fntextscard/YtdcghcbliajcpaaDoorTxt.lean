/- Texts of places as lists of bytes: what is written, what is read; what is read is what was written. No condition. -/
import Derived.Test.YtdcghcbliajcpaaDoorInsC
import Derived.Test.YtdcghcbliajcpaaDoorInsK
import Derived.Lib.ItoaNum
import Derived.Lib.AtoiAll
import Derived.Lib.Strings
namespace Go.Proofs.YtdcghcbliajcpaaDoor
set_option maxRecDepth 100000

/-- An op's name. -/
def nmL (o : Int) : List UInt8 :=
  if o = 1 then [115, 101, 116] else if o = 2 then [97, 100, 100] else if o = 3 then [109, 111, 118, 101] else if o = 4 then [119, 101, 97, 107] else if o = 5 then [98, 111, 117, 110, 100] else if o = 6 then [112, 111, 105, 110, 116] else if o = 7 then [115, 101, 97, 108] else if o = 8 then [111, 112, 101, 110] else if o = 9 then [105, 115] else if o = 10 then [108, 111, 97, 100] else if o = 11 then [115, 116, 111, 114, 101] else if o = 12 then [106, 117, 109, 112] else if o = 13 then [122, 101, 114, 111] else if o = 14 then [103, 111, 110, 101] else if o = 15 then [104, 97, 108, 116] else []
/-- The letters of an op's fields. -/
def flL (o : Int) : List UInt8 :=
  if o = 1 then [82, 78] else if o = 3 ∨ o = 9 ∨ o = 12 then [82, 65] else if o = 2 ∨ o = 4 ∨ o = 5 ∨ o = 7 ∨ o = 8 then [82, 65, 66] else if o = 6 then [82, 65, 66, 78] else if o = 10 then [82, 65, 78] else if o = 11 then [65, 66, 78] else if o = 13 then [65, 78] else if o = 14 then [65] else []
/-- A field's text. -/
def fdL (x : In) (c : UInt8) : List UInt8 := if c = 82 then 114 :: Lib.itoa x.r else if c = 65 then 114 :: Lib.itoa x.a else if c = 66 then 114 :: Lib.itoa x.b else Lib.itoa x.n
/-- A place's text. -/
def inL (x : In) : List UInt8 := bif okI x then nmL x.o ++ (flL x.o).flatMap (fun c => 32 :: fdL x c) else []

/-- Digits, the last first. -/
def digF : Nat → Int → List UInt8 → List UInt8
  | 0, _, acc => acc
  | f + 1, n, acc => if n = 0 then acc else digF f (n.tdiv 10) (UInt8.ofNat (48 + (n.tmod 10).natAbs) :: acc)
/-- What l7Digits answers. -/
def digL (n : Int) : List UInt8 := if n = 0 then [48] else (if n < 0 then [45] else []) ++ digF 3 n []
/-- Three digits at most. -/
def numF : Int → List UInt8 → Option Int
  | acc, [] => some acc
  | acc, c :: r => if c < 48 ∨ 57 < c then none else numF (10 * acc + (c.toNat : Int) - 48) r
/-- What l7Num answers. -/
def numL (s : List UInt8) : Int :=
  match numF 0 ((s.drop (if s.head? = some 45 ∨ s.head? = some 114 then 1 else 0)).take 3) with
  | none => 0
  | some x => if s.head? = some 45 then 0 - x else x

/-- What is needed of a number in digits. -/
def fine (n : Int) : Bool := decide (digL n = Lib.itoa n) && decide ((32 : UInt8) ∉ Lib.itoa n) && decide ((10 : UInt8) ∉ Lib.itoa n) && decide (Lib.atoiAll (Lib.itoa n) = .ok n) && decide (numL (Lib.itoa n) = n) && decide ((Lib.itoa n).length ≤ 4)
theorem fine_all : ∀ k : Fin 256, fine ((k.val : Int) - 128) = true := by decide +kernel
theorem fine_in {n : Int} (h0 : -128 ≤ n) (h1 : n ≤ 127) : fine n = true := by
  have h := fine_all ⟨(n + 128).toNat, by omega⟩
  have e : (((⟨(n + 128).toNat, by omega⟩ : Fin 256).val : Int) - 128) = n := by
    simp only
    omega
  rwa [e] at h
/-- What is needed of a register. -/
def fineR (n : Int) : Bool := decide (digL n = Lib.itoa n) && decide ((32 : UInt8) ∉ (114 : UInt8) :: Lib.itoa n) && decide ((10 : UInt8) ∉ (114 : UInt8) :: Lib.itoa n) && decide (Lib.atoiAll (Lib.trimPrefix (114 :: Lib.itoa n) [114]) = .ok n) && decide (numL (114 :: Lib.itoa n) = n) && decide ((Lib.itoa n).length ≤ 4)
theorem fineR_all : ∀ k : Fin 8, fineR (k.val : Int) = true := by decide +kernel
theorem fineR_in {n : Int} (h0 : 0 ≤ n) (h1 : n ≤ 7) : fineR n = true := by
  have h := fineR_all ⟨n.toNat, by omega⟩
  have e : ((⟨n.toNat, by omega⟩ : Fin 8).val : Int) = n := by
    simp only
    omega
  rwa [e] at h

/-- A text cut at each c. -/
def splitL (c : UInt8) : List UInt8 → List (List UInt8)
  | [] => [[]]
  | x :: r => if x = c then [] :: splitL c r else match splitL c r with | [] => [[x]] | h :: t => (x :: h) :: t
theorem splitL_ne (c : UInt8) : ∀ l, splitL c l ≠ []
  | [] => by simp [splitL]
  | x :: r => by
    unfold splitL
    split
    · simp
    · split <;> simp
theorem splitL_plain {c : UInt8} : ∀ {a : List UInt8}, c ∉ a → splitL c a = [a]
  | [], _ => rfl
  | x :: r, h => by
    have hx : ¬ x = c := fun e => h (e ▸ List.mem_cons_self ..)
    have hr := splitL_plain (a := r) (fun e => h (List.mem_cons_of_mem _ e))
    simp [splitL, hx, hr]
theorem splitL_cut {c : UInt8} : ∀ {a : List UInt8} (l : List UInt8), c ∉ a → splitL c (a ++ c :: l) = a :: splitL c l
  | [], l, _ => by simp [splitL]
  | x :: r, l, h => by
    have hx : ¬ x = c := fun e => h (e ▸ List.mem_cons_self ..)
    have hr := splitL_cut (a := r) l (fun e => h (List.mem_cons_of_mem _ e))
    simp [splitL, hx, hr]
theorem splitL_length (c : UInt8) : ∀ l, (splitL c l).length = l.count c + 1
  | [] => by simp [splitL]
  | x :: r => by
    have h := splitL_length c r
    unfold splitL
    by_cases hx : x = c
    · simp [hx, h]
    · rw [if_neg hx]
      have hn := splitL_ne c r
      cases hs : splitL c r with
      | nil => exact absurd hs hn
      | cons y t => rw [hs] at h; simp at h; simp [hx, h]
/-- The parts, each behind the other. -/
def partsL (c : UInt8) (P : List (List UInt8)) : List UInt8 := P.flatMap (fun p => c :: p)
theorem splitL_parts {c : UInt8} : ∀ {P : List (List UInt8)} {a : List UInt8}, c ∉ a → (∀ p ∈ P, c ∉ p) → splitL c (a ++ partsL c P) = a :: P
  | [], a, ha, _ => by simpa [partsL] using splitL_plain ha
  | p :: P, a, ha, hP => by
    have h := splitL_parts (P := P) (a := p) (hP p (List.mem_cons_self ..)) (fun q hq => hP q (List.mem_cons_of_mem _ hq))
    have e : a ++ partsL c (p :: P) = a ++ c :: (p ++ partsL c P) := by simp [partsL]
    rw [e, splitL_cut _ ha, h]
theorem count_parts {c : UInt8} : ∀ {P : List (List UInt8)} {a : List UInt8}, c ∉ a → (∀ p ∈ P, c ∉ p) → (a ++ partsL c P).count c = P.length := by
  intro P a ha hP
  have h := splitL_length c (a ++ partsL c P)
  rw [splitL_parts ha hP] at h
  simpa using h.symm

/-- What opNamed answers. -/
def opL (nm : List UInt8) : Option Int := ([1, 2, 3, 4, 5, 6, 7, 8, 9, 10, 11, 12, 13, 14, 15] : List Int).find? (fun o => nmL o == nm)
/-- What numberIn answers. -/
def numI (p : List UInt8) : Option Int := match Lib.atoiAll p with | .ok v => some v | _ => none
/-- What registerIn answers. -/
def regI (p : List UInt8) : Option Int := numI (Lib.trimPrefix p [114])
/-- What withField answers. -/
def withL (x : In) (c : UInt8) (p : List UInt8) : Option In :=
  if c = 82 then (regI p).map (fun v => ⟨x.o, v, x.a, x.b, x.n⟩) else if c = 65 then (regI p).map (fun v => ⟨x.o, x.r, v, x.b, x.n⟩) else if c = 66 then (regI p).map (fun v => ⟨x.o, x.r, x.a, v, x.n⟩) else (numI p).map (fun v => ⟨x.o, x.r, x.a, x.b, v⟩)
/-- All fields. -/
def foldL : List UInt8 → List (List UInt8) → In → Option In
  | c :: fs, p :: ps, x => (withL x c p).bind (foldL fs ps)
  | _, _, x => some x
/-- A line that is read. -/
def readL (line : List UInt8) : Option In :=
  if 5 ≤ line.count 32 then none else
  (opL ((splitL 32 line).headD [])).bind fun o => if (splitL 32 line).length ≠ 1 + (flL o).length then none else
    (foldL (flL o) (splitL 32 line).tail ⟨o, 0, 0, 0, 0⟩).bind fun x => if inL x = line then some x else none

theorem opL_nil : opL [] = none := by decide
theorem opL_nm : ∀ {o : Int}, 1 ≤ o ∧ o ≤ 15 → opL (nmL o) = some o := by
  intro o h
  rcases op_cases h with rfl | rfl | rfl | rfl | rfl | rfl | rfl | rfl | rfl | rfl | rfl | rfl | rfl | rfl | rfl <;> decide
theorem nm_ne : ∀ {o : Int}, 1 ≤ o ∧ o ≤ 15 → nmL o ≠ [] ∧ (32 : UInt8) ∉ nmL o ∧ (10 : UInt8) ∉ nmL o := by
  intro o h
  rcases op_cases h with rfl | rfl | rfl | rfl | rfl | rfl | rfl | rfl | rfl | rfl | rfl | rfl | rfl | rfl | rfl <;> decide

theorem inL_off {x : In} (h : okI x = false) : inL x = [] := by simp [inL, h]
theorem inL_on {x : In} (h : okI x = true) : inL x = nmL x.o ++ partsL 32 ((flL x.o).map (fdL x)) := by
  rw [inL, h]
  simp [partsL, List.flatMap_map]
theorem ok_range {x : In} (h : okI x = true) : 1 ≤ x.o ∧ x.o ≤ 15 ∧ 0 ≤ x.r ∧ x.r ≤ 7 ∧ 0 ≤ x.a ∧ x.a ≤ 7 ∧ 0 ≤ x.b ∧ x.b ≤ 7 ∧ -128 ≤ x.n ∧ x.n ≤ 127 := iok_range h
theorem inL_ne {x : In} (h : okI x = true) : inL x ≠ [] := by
  obtain ⟨h1, h2, _⟩ := ok_range h
  rw [inL_on h]
  have := (nm_ne ⟨h1, h2⟩).1
  simp [this]

/-- What a field's text is. -/
theorem fd_fine {x : In} (h : okI x = true) (c : UInt8) : (32 : UInt8) ∉ fdL x c ∧ (10 : UInt8) ∉ fdL x c ∧ (fdL x c).length ≤ 5 := by
  obtain ⟨_, _, r0, r1, a0, a1, b0, b1, n0, n1⟩ := ok_range h
  have R := fineR_in r0 r1
  have A := fineR_in a0 a1
  have B := fineR_in b0 b1
  have N := fine_in n0 n1
  simp only [fineR, fine, Bool.and_eq_true, decide_eq_true_eq] at R A B N
  unfold fdL
  split
  · exact ⟨R.1.1.1.1.2, R.1.1.1.2, by simp; omega⟩
  split
  · exact ⟨A.1.1.1.1.2, A.1.1.1.2, by simp; omega⟩
  split
  · exact ⟨B.1.1.1.1.2, B.1.1.1.2, by simp; omega⟩
  · exact ⟨N.1.1.1.1.2, N.1.1.1.2, by omega⟩
theorem fd_read {x : In} (h : okI x = true) (c : UInt8) : (if c = 82 ∨ c = 65 ∨ c = 66 then regI (fdL x c) else numI (fdL x c)) = some (if c = 82 then x.r else if c = 65 then x.a else if c = 66 then x.b else x.n) ∧ numL (fdL x c) = (if c = 82 then x.r else if c = 65 then x.a else if c = 66 then x.b else x.n) := by
  obtain ⟨_, _, r0, r1, a0, a1, b0, b1, n0, n1⟩ := ok_range h
  have R := fineR_in r0 r1
  have A := fineR_in a0 a1
  have B := fineR_in b0 b1
  have N := fine_in n0 n1
  simp only [fineR, fine, Bool.and_eq_true, decide_eq_true_eq] at R A B N
  unfold fdL
  by_cases h1 : c = 82
  · simp [h1, regI, numI, R.1.1.2, R.1.2]
  by_cases h2 : c = 65
  · simp [h2, regI, numI, A.1.1.2, A.1.2]
  by_cases h3 : c = 66
  · simp [h3, regI, numI, B.1.1.2, B.1.2]
  · simp [h1, h2, h3, numI, N.1.1.2, N.1.2]

theorem line_parts {x : In} (h : okI x = true) : splitL 32 (inL x) = nmL x.o :: (flL x.o).map (fdL x) := by
  obtain ⟨h1, h2, _⟩ := ok_range h
  rw [inL_on h]
  refine splitL_parts (nm_ne ⟨h1, h2⟩).2.1 fun p hp => ?_
  obtain ⟨c, _, rfl⟩ := List.mem_map.1 hp
  exact (fd_fine h c).1
theorem line_ten {x : In} (h : okI x = true) : (10 : UInt8) ∉ inL x := by
  obtain ⟨h1, h2, _⟩ := ok_range h
  rw [inL_on h]
  simp only [partsL, List.mem_append, List.mem_flatMap, List.mem_cons, not_or, not_exists, not_and]
  refine ⟨(nm_ne ⟨h1, h2⟩).2.2, fun p hp => ⟨by decide, ?_⟩⟩
  obtain ⟨c, _, rfl⟩ := List.mem_map.1 hp
  exact (fd_fine h c).2.1
theorem fl_length (o : Int) : (flL o).length ≤ 4 := by
  unfold flL
  repeat' split
  all_goals simp
theorem line_count {x : In} (h : okI x = true) : (inL x).count 32 = (flL x.o).length := by
  have h1 := splitL_length 32 (inL x)
  rw [line_parts h] at h1
  simpa using h1.symm
theorem in_length {x : In} (h : okI x = true) : (inL x).length ≤ 29 := by
  obtain ⟨h1, h2, _⟩ := ok_range h
  have f := fun c => (fd_fine h c).2.2
  rw [inL_on h]
  have hn : (nmL x.o).length ≤ 5 := by
    rcases op_cases ⟨h1, h2⟩ with e | e | e | e | e | e | e | e | e | e | e | e | e | e | e <;> rw [e] <;> decide
  have hp : ∀ l : List UInt8, (partsL 32 (l.map (fdL x))).length ≤ 6 * l.length := by
    intro l
    induction l with
    | nil => simp [partsL]
    | cons c r ih =>
      have := f c
      simp only [partsL, List.map_cons, List.flatMap_cons, List.length_append, List.length_cons] at ih ⊢
      omega
  have := hp (flL x.o)
  have := fl_length x.o
  simp only [List.length_append]
  omega

theorem fold_back {x : In} (h : okI x = true) : foldL (flL x.o) ((flL x.o).map (fdL x)) ⟨x.o, 0, 0, 0, 0⟩ = some x := by
  have F := fun c => (fd_read h c).1
  have F82 := F 82
  have F65 := F 65
  have F66 := F 66
  have F78 := F 78
  simp at F82 F65 F66 F78
  obtain ⟨o, r, a, b, n⟩ := x
  have hk : iokB o r a b n = true := h
  obtain ⟨h1, h2, _⟩ := ok_range h
  simp only at h1 h2 F82 F65 F66 F78 ⊢
  rcases op_cases ⟨h1, h2⟩ with rfl | rfl | rfl | rfl | rfl | rfl | rfl | rfl | rfl | rfl | rfl | rfl | rfl | rfl | rfl
  all_goals
    simp only [iok_1, iok_2, iok_3, iok_4, iok_5, iok_6, iok_7, iok_8, iok_9, iok_10, iok_11, iok_12, iok_13, iok_14, iok_15, eqB, Bool.and_eq_true, beq_iff_eq] at hk
    simp [flL, foldL, withL, F82, F65, F66, F78]
    try omega
theorem read_back7 {x : In} (h : okI x = true) : readL (inL x) = some x := by
  obtain ⟨h1, h2, _⟩ := ok_range h
  unfold readL
  rw [if_neg (by have := line_count h; have := fl_length x.o; omega), line_parts h]
  simp [opL_nm ⟨h1, h2⟩, fold_back h]
  omega
theorem split_nil (c : UInt8) : splitL c [] = [[]] := rfl
theorem readL_nil : readL [] = none := by simp [readL, split_nil, opL_nil]
theorem read_some {line : List UInt8} {x : In} (h : readL line = some x) : okI x = true ∧ inL x = line := by
  have hne : line ≠ [] := by
    rintro rfl
    rw [readL_nil] at h
    cases h
  unfold readL at h
  split at h
  · cases h
  obtain ⟨o, _, h⟩ := Option.bind_eq_some_iff.1 h
  split at h
  · cases h
  obtain ⟨y, _, h⟩ := Option.bind_eq_some_iff.1 h
  split at h
  · rename_i e
    obtain rfl := Option.some.inj h
    refine ⟨?_, e⟩
    cases hk : okI y with
    | true => rfl
    | false => exact absurd (e.symm.trans (inL_off hk)) hne
  · cases h
theorem read_inj {x y : In} (hx : okI x = true) (hy : okI y = true) (h : inL x = inL y) : x = y := by
  have h1 := read_back7 hx
  rw [h, read_back7 hy] at h1
  exact (Option.some.inj h1).symm
end Go.Proofs.YtdcghcbliajcpaaDoor
