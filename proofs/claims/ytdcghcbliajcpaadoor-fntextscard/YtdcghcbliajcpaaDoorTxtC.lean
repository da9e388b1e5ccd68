/- Texts of programs as lists of bytes: what is written, what is read; what is read is what was written. No condition. -/
import Derived.Test.YtdcghcbliajcpaaDoorTxt
namespace Go.Proofs.YtdcghcbliajcpaaDoor
set_option maxRecDepth 100000

/-- A line. -/
def lnL (x : In) : List UInt8 := inL x ++ [10]
/-- A program's text. -/
def codeL (L : List In) : List UInt8 := bif cokB L then L.flatMap lnL else []
/-- The lines, each read. -/
def mapR : List (List UInt8) → Option (List In)
  | [] => some []
  | l :: r => (readL l).bind fun x => (mapR r).map (x :: ·)
/-- What the specification answers. -/
def readC (s : List UInt8) : Option (List In) := (mapR (splitL 10 s).dropLast).bind fun L => if s = [] ∨ codeL L ≠ s then none else some L
/-- What the program answers. -/
def progC (s : List UInt8) : Option (List In) :=
  if 49 ≤ s.count 10 then none else if (splitL 10 s).length = 1 ∨ (splitL 10 s).getLastD [] ≠ [] then none else mapR (splitL 10 s).dropLast

theorem codeL_on {L : List In} (h : cokB L = true) : codeL L = L.flatMap lnL := by rw [codeL, h]; rfl
theorem codeL_off {L : List In} (h : cokB L = false) : codeL L = [] := by rw [codeL, h]; rfl
theorem cok_parts {L : List In} (h : cokB L = true) : 1 ≤ L.length ∧ L.length ≤ 48 ∧ ∀ x ∈ L, okI x = true := by
  unfold cokB at h
  simp only [Bool.and_eq_true, decide_eq_true_eq] at h
  exact ⟨by omega, by omega, List.all_eq_true.1 h.2⟩
theorem cok_mk {L : List In} (h0 : 1 ≤ L.length) (h1 : L.length ≤ 48) (h2 : ∀ x ∈ L, okI x = true) : cokB L = true := by
  unfold cokB
  simp only [Bool.and_eq_true, decide_eq_true_eq]
  exact ⟨⟨by omega, by omega⟩, List.all_eq_true.2 h2⟩
theorem codeL_ne {L : List In} (h : cokB L = true) : codeL L ≠ [] := by
  rw [codeL_on h]
  obtain ⟨h0, _, _⟩ := cok_parts h
  cases L with
  | nil => simp at h0
  | cons x r => simp [lnL]
theorem lines_of : ∀ {L : List In}, (∀ x ∈ L, okI x = true) → splitL 10 (L.flatMap lnL) = L.map inL ++ [[]]
  | [], _ => rfl
  | x :: r, h => by
    have ih := lines_of (L := r) (fun y hy => h y (List.mem_cons_of_mem _ hy))
    have e : (x :: r).flatMap lnL = inL x ++ 10 :: r.flatMap lnL := by simp [lnL]
    rw [e, splitL_cut _ (line_ten (h x (List.mem_cons_self ..))), ih]
    rfl
theorem mapR_of : ∀ {L : List In}, (∀ x ∈ L, okI x = true) → mapR (L.map inL) = some L
  | [], _ => rfl
  | x :: r, h => by
    have ih := mapR_of (L := r) (fun y hy => h y (List.mem_cons_of_mem _ hy))
    simp only [List.map_cons, mapR, read_back7 (h x (List.mem_cons_self ..)), ih]
    rfl
theorem mapR_some : ∀ {P : List (List UInt8)} {L : List In}, mapR P = some L → P = L.map inL ∧ ∀ x ∈ L, okI x = true
  | [], L, h => by
    obtain rfl : [] = L := Option.some.inj h
    exact ⟨rfl, by simp⟩
  | l :: r, L, h => by
    obtain ⟨x, hx, h⟩ := Option.bind_eq_some_iff.1 h
    obtain ⟨L', hL, rfl⟩ := Option.map_eq_some_iff.1 h
    obtain ⟨h1, h2⟩ := mapR_some hL
    obtain ⟨h3, h4⟩ := read_some hx
    refine ⟨by rw [List.map_cons, h4, ← h1], fun y hy => ?_⟩
    rcases List.mem_cons.1 hy with rfl | hy
    · exact h3
    · exact h2 y hy
theorem join_back (c : UInt8) : ∀ s, s = (splitL c s).dropLast.flatMap (fun p => p ++ [c]) ++ (splitL c s).getLastD []
  | [] => by simp [splitL]
  | x :: r => by
    have ih := join_back c r
    have hn := splitL_ne c r
    unfold splitL
    by_cases hx : x = c
    · rw [if_pos hx]
      cases hs : splitL c r with
      | nil => exact absurd hs hn
      | cons h t =>
        rw [hs] at ih
        rw [List.dropLast_cons_of_ne_nil (by simp), List.flatMap_cons]
        simp only [List.nil_append, List.cons_append, List.getLastD_cons] at ih ⊢
        rw [← ih, hx]
    · rw [if_neg hx]
      cases hs : splitL c r with
      | nil => exact absurd hs hn
      | cons h t =>
        rw [hs] at ih
        cases t with
        | nil => simpa using ih
        | cons h2 t2 =>
          rw [List.dropLast_cons_of_ne_nil (by simp), List.flatMap_cons] at ih ⊢
          simp only [List.cons_append, List.getLastD_cons] at ih ⊢
          rw [← ih]
theorem last_split {P : List (List UInt8)} (h : P ≠ []) : P = P.dropLast ++ [P.getLastD []] := by
  have := List.dropLast_concat_getLast h
  rw [List.getLastD_eq_getLast?, List.getLast?_eq_some_getLast h]
  exact this.symm

theorem read_code {L : List In} (h : cokB L = true) : readC (codeL L) = some L := by
  have hne := codeL_ne h
  obtain ⟨_, _, h2⟩ := cok_parts h
  unfold readC
  have e : splitL 10 (codeL L) = L.map inL ++ [[]] := by rw [codeL_on h]; exact lines_of h2
  rw [e, List.dropLast_concat, mapR_of h2]
  simp [hne]
theorem readC_some {s : List UInt8} {L : List In} (h : readC s = some L) : cokB L = true ∧ codeL L = s := by
  unfold readC at h
  obtain ⟨M, _, h⟩ := Option.bind_eq_some_iff.1 h
  split at h
  · cases h
  · rename_i hn
    obtain rfl := Option.some.inj h
    have h1 : s ≠ [] := fun e => hn (.inl e)
    have h2 : codeL M = s := Classical.byContradiction fun e => hn (.inr e)
    refine ⟨?_, h2⟩
    cases hk : cokB M with
    | true => rfl
    | false => exact absurd (h2.symm.trans (codeL_off hk)) h1
theorem prog_read (s : List UInt8) : progC s = readC s := by
  have hlen := splitL_length 10 s
  have hne := splitL_ne 10 s
  cases hr : readC s with
  | some L =>
    obtain ⟨h1, h2⟩ := readC_some hr
    obtain ⟨h3, h4, h5⟩ := cok_parts h1
    have e : splitL 10 s = L.map inL ++ [[]] := by rw [← h2, codeL_on h1]; exact lines_of h5
    have hc : s.count 10 = L.length := by rw [e] at hlen; simpa using hlen.symm
    unfold progC
    rw [if_neg (by omega), if_neg, e, List.dropLast_concat, mapR_of h5]
    rw [hlen, e]
    simp
    omega
  | none =>
    cases hp : progC s with
    | none => rfl
    | some L =>
      exfalso
      unfold progC at hp
      split at hp
      · cases hp
      rename_i hc
      split at hp
      · cases hp
      rename_i hl
      obtain ⟨h1, h2⟩ := mapR_some hp
      have hl1 : ¬ (splitL 10 s).length = 1 := fun e => hl (.inl e)
      have hl2 : (splitL 10 s).getLastD [] = [] := Classical.byContradiction fun e => hl (.inr e)
      have hd : (splitL 10 s).dropLast.length = L.length := by rw [h1]; simp
      rw [List.length_dropLast] at hd
      have hk : cokB L = true := cok_mk (by omega) (by omega) h2
      have hs := join_back 10 s
      rw [hl2, h1, List.append_nil, List.flatMap_map] at hs
      have hcode : codeL L = s := by rw [codeL_on hk]; exact hs.symm
      have := read_code hk
      rw [hcode, hr] at this
      cases this
theorem code_len {L : List In} (h : cokB L = true) : (codeL L).length ≤ 1440 := by
  obtain ⟨_, h1, h2⟩ := cok_parts h
  rw [codeL_on h]
  have hp : ∀ M : List In, (∀ x ∈ M, okI x = true) → (M.flatMap lnL).length ≤ 30 * M.length := by
    intro M
    induction M with
    | nil => simp
    | cons x r ih =>
      intro hM
      have := in_length (hM x (List.mem_cons_self ..))
      have := ih (fun y hy => hM y (List.mem_cons_of_mem _ hy))
      simp only [List.flatMap_cons, List.length_append, lnL, List.length_nil, List.length_cons] at this ⊢
      omega
  have := hp L h2
  omega
end Go.Proofs.YtdcghcbliajcpaaDoor
