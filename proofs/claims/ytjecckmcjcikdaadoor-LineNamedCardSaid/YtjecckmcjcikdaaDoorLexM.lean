/- What package lex comes to, as plain functions over the numbers of bytes. No statement of the seat is proved here. -/
import Derived.Test.YtjecckmcjcikdaaDoorStr
namespace Go.Proofs.YtjecckmcjcikdaaDoor
set_option linter.unusedVariables false
set_option linter.unusedSimpArgs false

/-! ### Letters -/
def digitZ (r : Int) : Bool := decide (48 ≤ r) && decide (r ≤ 57)
def letterZ (r : Int) : Bool := (decide (65 ≤ r) && decide (r ≤ 90)) || (decide (97 ≤ r) && decide (r ≤ 122))
def readZ (r : Int) : Bool := ((decide (32 ≤ r) && decide (r ≤ 126)) || decide (r = 9)) || decide (r = 13)
def countZ (r : Int) : Bool := digitZ r || letterZ r
def marksZ : List Int := [95, 64, 63, 36]
def signsZ : List Int := [43, 45, 42, 47, 40, 41, 91, 93, 44, 58, 46, 61]
def blankZ (c : Int) : Bool := decide (c = 32) || (decide (c = 9) || decide (c = 13))
/-- Where a byte stands first; -1: nowhere. -/
def idxB : List Int → Int → Int
  | [], _ => -1
  | b :: l, c => if b = c then 0 else if idxB l c = -1 then -1 else idxB l c + 1
def hasB (l : List Int) (c : Int) : Bool := decide (0 ≤ idxB l c)
def namedZ (r : Int) : Bool := countZ r || hasB marksZ r
theorem idxB_ge (l : List Int) (c : Int) : -1 ≤ idxB l c := by
  induction l with
  | nil => exact Int.le_refl _
  | cons b l ih =>
    unfold idxB
    split
    · decide
    · split
      · exact Int.le_refl _
      · omega
theorem idxB_lt (l : List Int) (c : Int) : idxB l c < l.length := by
  induction l with
  | nil => show (-1 : Int) < 0; decide
  | cons b l ih =>
    unfold idxB
    rw [List.length_cons]
    split
    · omega
    · split
      · omega
      · omega
theorem idxB_none {l : List Int} {c : Int} (h : c ∉ l) : idxB l c = -1 := by
  induction l with
  | nil => rfl
  | cons b l ih =>
    unfold idxB
    rw [if_neg fun e => h (by rw [e]; exact .head _), if_pos (ih fun hm => h (.tail _ hm))]
theorem idxB_app {l : List Int} {c : Int} (h : c ∉ l) (r : List Int) : idxB (l ++ c :: r) c = l.length := by
  induction l with
  | nil => unfold idxB; rw [List.nil_append]; simp
  | cons b l ih =>
    have hi := ih fun hm => h (.tail _ hm)
    rw [List.cons_append]
    unfold idxB
    rw [if_neg fun e => h (by rw [e]; exact .head _), hi, if_neg (by omega), List.length_cons]
    omega
/-- Great letters. -/
def upC (c : Int) : Int := if 97 ≤ c ∧ c ≤ 122 then c - 32 else c
def upS (s : List Int) : List Int := s.map upC
theorem upS_len (s : List Int) : (upS s).length = s.length := List.length_map _
theorem upC_in {c : Int} (h : 0 ≤ c ∧ c ≤ 127) : 0 ≤ upC c ∧ upC c ≤ 127 := by unfold upC; split <;> omega
theorem z_le {a b : Int} (h : decide (a ≤ b) = true) : a ≤ b := of_decide_eq_true h
/-- Bytes below 128. -/
def ascii (s : List Int) : Prop := ∀ c ∈ s, 0 ≤ c ∧ c ≤ 127
theorem ascii_of {s : List Int} (h : s.all (fun c => decide (0 ≤ c) && decide (c ≤ 127)) = true) : ascii s := by
  intro c hc
  have := List.all_eq_true.1 h c hc
  simp at this
  exact this
theorem ascii.ok {s : List Int} (h : ascii s) : bytesOk s := fun c hc => ⟨(h c hc).1, by have := (h c hc).2; omega⟩
theorem ascii.take {s : List Int} (h : ascii s) (k : Nat) : ascii (s.take k) := fun c hc => h c (List.mem_of_mem_take hc)
theorem ascii.drop {s : List Int} (h : ascii s) (k : Nat) : ascii (s.drop k) := fun c hc => h c (List.mem_of_mem_drop hc)
theorem ascii.up {s : List Int} (h : ascii s) : ascii (upS s) := by
  intro c hc
  obtain ⟨a, ha, rfl⟩ := List.mem_map.1 hc
  exact upC_in (h a ha)
theorem ascii.at {s : List Int} (h : ascii s) {k : Nat} {c : Int} (hk : s[k]? = some c) : 0 ≤ c ∧ c ≤ 127 := h c (List.mem_of_getElem? hk)
/-! ### Numbers -/
def digitsZ : List Int := [48, 49, 50, 51, 52, 53, 54, 55, 56, 57, 65, 66, 67, 68, 69, 70]
def mostZ : Nat := 9007199254740992
def basedZ (s : List Int) : List Int × Nat :=
  if s.getLast? = some 72 then (s.dropLast, 16) else if s.getLast? = some 66 then (s.dropLast, 2) else (s, 10)
def numGo (base : Nat) : Nat → List Int → Option Nat
  | n, [] => some n
  | n, c :: r => if idxB (digitsZ.take base) c < 0 then none else
      if mostZ < n * base + (idxB (digitsZ.take base) c).toNat then none else numGo base (n * base + (idxB (digitsZ.take base) c).toNat) r
def numberC (c : Int) (s : List Int) : Option Nat := if digitZ c then numGo (basedZ (upS s)).2 0 (basedZ (upS s)).1 else none
def numberZ : List Int → Option Nat
  | [] => none
  | c :: r => numberC c (c :: r)
theorem numGo_le {base : Nat} : ∀ (l : List Int) (n m : Nat), n ≤ mostZ → numGo base n l = some m → m ≤ mostZ
  | [], n, m, hn, h => by obtain rfl := Option.some.inj h; exact hn
  | c :: r, n, m, hn, h => by
    unfold numGo at h
    split at h
    · exact nomatch h
    · split at h
      · exact nomatch h
      · exact numGo_le r _ _ (by omega) h
theorem numberZ_le {s : List Int} {m : Nat} (h : numberZ s = some m) : m ≤ mostZ := by
  cases s with
  | nil => exact nomatch h
  | cons c r =>
    replace h : numberC c (c :: r) = some m := h
    unfold numberC at h
    split at h
    · exact numGo_le _ 0 _ (Nat.zero_le _) h
    · exact nomatch h
/-! ### Pieces -/
def runZ (m : Int → Bool) (s : List Int) : Nat := (s.takeWhile m).length
theorem runZ_le (m : Int → Bool) (s : List Int) : runZ m s ≤ s.length := (List.takeWhile_sublist m).length_le
theorem runZ_cons (m : Int → Bool) (c : Int) (s : List Int) : runZ m (c :: s) = if m c then runZ m s + 1 else 0 := by
  unfold runZ
  rw [List.takeWhile_cons]
  split
  · rw [List.length_cons]
  · rfl
structure TokZ where
  k : Int
  s : List Int
  n : Nat
  d : Nat
deriving DecidableEq
def noTok : TokZ := ⟨0, [], 0, 0⟩
/-- A token that may be: its text is bytes, its numbers fit. -/
structure TokZ.ok (t : TokZ) : Prop where
  k : 0 ≤ t.k ∧ t.k ≤ 255
  s : bytesOk t.s
  n : t.n ≤ mostZ
  d : t.d ≤ mostZ
def numPieceZ (s : List Int) : TokZ × Nat :=
  match numberZ (s.take (runZ countZ s)) with
  | none => (noTok, 0)
  | some a =>
    if s[runZ countZ s]? = some 37 then
      match numberZ ((s.drop (runZ countZ s + 1)).take (runZ countZ (s.drop (runZ countZ s + 1)))) with
      | none => (noTok, 0)
      | some d => (⟨5, [], a, d⟩, runZ countZ s + 1 + runZ countZ (s.drop (runZ countZ s + 1)))
    else (⟨2, [], a, 0⟩, runZ countZ s)
def quoteZ (c : Int) (r : List Int) : TokZ × Nat :=
  if idxB r c < 0 then (noTok, 0) else (⟨3, r.take (idxB r c).toNat, 0, 0⟩, (idxB r c).toNat + 2)
def pieceC (c : Int) (r : List Int) : TokZ × Nat :=
  if digitZ c then numPieceZ (c :: r)
  else if namedZ c then (⟨1, upS ((c :: r).take (runZ namedZ (c :: r))), 0, 0⟩, runZ namedZ (c :: r))
  else if c = 39 ∨ c = 34 then quoteZ c r
  else if hasB signsZ c then (⟨4, [c], 0, 0⟩, 1) else (noTok, 0)
def pieceZ : List Int → TokZ × Nat
  | [] => (noTok, 0)
  | c :: r => pieceC c r
/-- The pieces of a line: so many at most. -/
def scanZ : Nat → List Int → Option (List TokZ)
  | 0, _ => none
  | f + 1, s =>
    match s.dropWhile blankZ with
    | [] => some []
    | c :: r => if c = 59 then some [] else
      if (pieceZ (c :: r)).2 = 0 then none else
        match scanZ f ((c :: r).drop (pieceZ (c :: r)).2) with
        | none => none
        | some l => some ((pieceZ (c :: r)).1 :: l)
def endK : Option (List TokZ) → List TokZ × Int
  | none => ([], 3)
  | some l => (l, 0)
def lineZ (s : List Int) : List TokZ × Int :=
  if 200 < s.length then ([], 8) else if runZ readZ s < s.length then ([], 3) else endK (scanZ (s.length + 1) s)
theorem numPieceZ_le (s : List Int) : (numPieceZ s).2 ≤ s.length := by
  unfold numPieceZ
  have h1 := runZ_le countZ s
  split
  · exact Nat.zero_le _
  · split
    · rename_i h
      have h2 := (List.getElem?_eq_some_iff.1 h).1
      have h3 := runZ_le countZ (s.drop (runZ countZ s + 1))
      rw [List.length_drop] at h3
      split
      · exact Nat.zero_le _
      · dsimp only; omega
    · exact h1
theorem pieceZ_le (s : List Int) : (pieceZ s).2 ≤ s.length := by
  cases s with
  | nil => exact Nat.le_refl _
  | cons c r =>
    show (pieceC c r).2 ≤ _
    unfold pieceC
    split
    · exact numPieceZ_le _
    · split
      · exact runZ_le _ _
      · split
        · unfold quoteZ
          have := idxB_lt r c
          have := idxB_ge r c
          split
          · exact Nat.zero_le _
          · dsimp only; rw [List.length_cons]; omega
        · split
          · dsimp only; rw [List.length_cons]; omega
          · exact Nat.zero_le _
theorem numPieceZ_ok (s : List Int) : (numPieceZ s).1.ok := by
  have h0 : noTok.ok := ⟨by decide, bytesOk.nil, Nat.zero_le _, Nat.zero_le _⟩
  unfold numPieceZ
  split
  · exact h0
  · rename_i a ha
    have := numberZ_le ha
    split
    · split
      · exact h0
      · rename_i d hd
        exact ⟨⟨z_le rfl, z_le rfl⟩, bytesOk.nil, this, numberZ_le hd⟩
    · exact ⟨⟨z_le rfl, z_le rfl⟩, bytesOk.nil, this, Nat.zero_le _⟩
theorem pieceZ_ok {s : List Int} (hs : ascii s) : (pieceZ s).1.ok := by
  have h0 : noTok.ok := ⟨by decide, bytesOk.nil, Nat.zero_le _, Nat.zero_le _⟩
  cases s with
  | nil => exact h0
  | cons c r =>
    show (pieceC c r).1.ok
    unfold pieceC
    split
    · exact numPieceZ_ok _
    · split
      · exact ⟨⟨z_le rfl, z_le rfl⟩, ((hs.take _).up).ok, Nat.zero_le _, Nat.zero_le _⟩
      · split
        · unfold quoteZ
          split
          · exact h0
          · exact ⟨⟨z_le rfl, z_le rfl⟩, (bytesOk.take (fun x hx => hs.ok x (.tail _ hx)) _), Nat.zero_le _, Nat.zero_le _⟩
        · split
          · exact ⟨⟨z_le rfl, z_le rfl⟩, bytesOk.cons (hs.ok c (.head _)) .nil, Nat.zero_le _, Nat.zero_le _⟩
          · exact h0
theorem scan_awake : lineZ [109, 111, 118, 32, 97, 120, 44, 49, 50, 104, 32, 59, 32, 120] = ([⟨1, [77, 79, 86], 0, 0⟩, ⟨1, [65, 88], 0, 0⟩, ⟨4, [44], 0, 0⟩, ⟨2, [], 18, 0⟩], 0) := by decide +kernel
end Go.Proofs.YtjecckmcjcikdaaDoor
