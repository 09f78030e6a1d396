/- What the functions of package names come to: plain mathematics over a source as a state. No statement of the seat is proved here. -/
import Derived.Test.YtlnicbjnphineaaIdxM
namespace Go.Proofs.Ytlnicbjnphineaa
open Go.ChangeShapes Go.WideShapes Go.ChangeAt Go.RowKit
set_option linter.unusedVariables false
set_option linter.unusedSimpArgs false

/-- A module's name. -/
def hdrR (bs : List Int) : List Int × Int := if (endZ (nameZ ⟨bs, 0⟩).2).e = 0 then ((nameZ ⟨bs, 0⟩).1, 0) else ([], (endZ (nameZ ⟨bs, 0⟩).2).e)
theorem hdr_nil : hdrR [] = ([], 2) := by decide
theorem nam18_is {ts : List Int} (h : ts.length ≤ 255) : nam18 ts = (ts.length : Int) :: ts := by
  unfold nam18; rw [List.take_of_length_le h]
theorem hdr_back {ts : List Int} (h : ts.length ≤ 255) : hdrR (nam18 ts) = (ts, 0) := by
  have h1 := name_back h [] 0
  rw [List.append_nil] at h1
  unfold hdrR
  rw [h1]
  rfl
theorem hdr_more {ts : List Int} (h : ts.length ≤ 255) (x : Int) : hdrR (nam18 ts ++ [x]) = ([], 3) := by
  unfold hdrR
  rw [name_back h [x] 0]
  rfl
theorem name_short {ts : List Int} (h : ts.length ≤ 255) {k : Nat} (h0 : 0 < k) (hk : k < (nam18 ts).length) : nameZ ⟨(nam18 ts).take k, 0⟩ = ([], ⟨[], 2⟩) := by
  rw [nam18_is h] at hk ⊢
  obtain ⟨j, rfl⟩ : ∃ j, k = j + 1 := ⟨k - 1, by omega⟩
  rw [List.take_succ_cons]
  unfold nameZ
  rw [num_one]
  dsimp only
  rw [take_short (.inr (by simp only [List.length_take, List.length_cons] at hk ⊢; omega))]
  rfl
theorem hdr_less {ts : List Int} (h : ts.length ≤ 255) : hdrR ((nam18 ts).take (ts.length + 1 - min ts.length 1)) = ([], if 0 < ts.length then 2 else 0) := by
  cases ts with
  | nil => rfl
  | cons t ts =>
    unfold hdrR
    rw [name_short h (by simp) (by rw [nam18_is h]; simp)]
    simp [endZ]
/-! ### Names, one behind the other -/
def namsZ : Nat → SrcZ → List (List Int) × Int
  | 0, s => ([], s.e)
  | n + 1, s => if s.b = [] then ([], s.e) else ((nameZ s).1 :: (namsZ n (nameZ s).2).1, (namsZ n (nameZ s).2).2)
def namsR (bs : List Int) : List (List Int) × Int := if (namsZ bs.length ⟨bs, 0⟩).2 = 0 then ((namsZ bs.length ⟨bs, 0⟩).1, 0) else ([], (namsZ bs.length ⟨bs, 0⟩).2)
theorem namsZ_nil (n : Nat) (e : Int) : namsZ n ⟨[], e⟩ = ([], e) := by cases n <;> rfl
theorem nam18_ne (ts : List Int) : nam18 ts ≠ [] := by unfold nam18; simp
theorem namsZ_back : ∀ {ls : List (List Int)} (n : Nat), (∀ t ∈ ls, t.length ≤ 255) → (ls.flatMap nam18).length ≤ n → namsZ n ⟨ls.flatMap nam18, 0⟩ = (ls, 0)
  | [], n, _, _ => namsZ_nil n 0
  | t :: ls, n, h, hn => by
    have h1 := nam18_len t
    rw [List.flatMap_cons, List.length_append] at hn
    obtain ⟨m, rfl⟩ : ∃ m, n = m + 1 := ⟨n - 1, by omega⟩
    rw [List.flatMap_cons]
    unfold namsZ
    rw [if_neg (by simp [nam18]), name_back (h t (.head _))]
    dsimp only
    rw [namsZ_back m (fun x hx => h x (.tail _ hx)) (by omega)]
theorem nams_back {ls : List (List Int)} (h : ∀ t ∈ ls, t.length ≤ 255) : namsR (ls.flatMap nam18) = (ls, 0) := by
  unfold namsR
  rw [namsZ_back _ h (Nat.le_refl _)]
  rfl
theorem namsZ_cut : ∀ {ls : List (List Int)} (n k : Nat), (∀ t ∈ ls, t.length ≤ 255) → k ≤ n →
    ((namsZ n ⟨(ls.flatMap nam18).take k, 0⟩).2 = 0 ∧ (namsZ n ⟨(ls.flatMap nam18).take k, 0⟩).1.length ≤ ls.length) ∨ (namsZ n ⟨(ls.flatMap nam18).take k, 0⟩).2 = 2
  | [], n, k, _, _ => by rw [List.flatMap_nil, List.take_nil, namsZ_nil]; exact .inl ⟨rfl, Nat.le_refl _⟩
  | t :: ls, n, k, h, hn => by
    have h1 := nam18_len t
    have ht := h t (.head _)
    rcases Nat.eq_zero_or_pos k with rfl | h0
    · rw [List.take_zero, namsZ_nil]; exact .inl ⟨rfl, Nat.zero_le _⟩
    obtain ⟨m, rfl⟩ : ∃ m, n = m + 1 := ⟨n - 1, by omega⟩
    rw [List.flatMap_cons]
    by_cases hk : k < (nam18 t).length
    · rw [List.take_append_of_le_length (by omega)]
      have h2 : ((nam18 t).take k) ≠ [] := by
        intro hc
        have := congrArg List.length hc
        rw [List.length_take, List.length_nil] at this
        omega
      unfold namsZ
      rw [if_neg h2, name_short ht h0 hk]
      dsimp only
      rw [namsZ_nil]
      exact .inr rfl
    · obtain ⟨j, rfl⟩ : ∃ j, k = (nam18 t).length + j := ⟨k - (nam18 t).length, by omega⟩
      rw [List.take_length_add_append]
      have h2 : nam18 t ++ (ls.flatMap nam18).take j ≠ [] := by simp [nam18]
      unfold namsZ
      rw [if_neg h2, name_back ht]
      dsimp only
      rcases namsZ_cut (ls := ls) m j (fun x hx => h x (.tail _ hx)) (by omega) with ⟨a, b⟩ | a
      · exact .inl ⟨a, by simp only [List.length_cons]; omega⟩
      · exact .inr a
theorem nams_cut {ls : List (List Int)} (k : Nat) (h : ∀ t ∈ ls, t.length ≤ 255) (hk : k ≤ (ls.flatMap nam18).length) :
    ((namsR ((ls.flatMap nam18).take k)).2 = 0 ∧ (namsR ((ls.flatMap nam18).take k)).1.length ≤ ls.length) ∨ ((namsR ((ls.flatMap nam18).take k)).2 = 2 ∧ (namsR ((ls.flatMap nam18).take k)).1 = []) := by
  have h1 : ((ls.flatMap nam18).take k).length = k := by rw [List.length_take]; omega
  unfold namsR
  rw [h1]
  rcases namsZ_cut k k h (Nat.le_refl _) with ⟨a, b⟩ | a
  · rw [if_pos a]; exact .inl ⟨rfl, b⟩
  · rw [if_neg (by rw [a]; decide)]; exact .inr ⟨a, rfl⟩
/-! ### Remarks -/
structure ComZ where
  a : Int
  b : Int
  t : List Int
def ComZ.ok (c : ComZ) : Prop := (0 ≤ c.a ∧ c.a ≤ 255) ∧ (0 ≤ c.b ∧ c.b ≤ 255) ∧ bytesOk c.t
def encCom (c : ComZ) : Array Value := #[.int .u8 c.a, .int .u8 c.b, .string (strOfNums c.t)]
def comR : List Int → ComZ × Int
  | a :: b :: t => (⟨a, b, t⟩, 0)
  | _ => (⟨0, 0, []⟩, 2)
def comB (c : ComZ) : List Int := c.a :: c.b :: c.t
theorem com_back (c : ComZ) : comR (comB c) = (c, 0) := rfl
theorem com_less {bs : List Int} (h : bs.length < 2) : comR bs = (⟨0, 0, []⟩, 2) := by
  match bs, h with
  | [], _ => rfl
  | [_], _ => rfl
theorem com_more {bs : List Int} (h : 2 ≤ bs.length) : ∃ c, comR bs = (c, 0) ∧ comB c = bs := by
  match bs, h with
  | a :: b :: t, _ => exact ⟨_, rfl, rfl⟩
theorem comB_ok {c : ComZ} (h : c.ok) : bytesOk (comB c) := .cons h.1 (.cons h.2.1 h.2.2)
end Go.Proofs.Ytlnicbjnphineaa
