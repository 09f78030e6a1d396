/- From one state of a source to a later one: what is left, whether it is well, within what bounds a number lies. Plain mathematics: no statement of the seat is proved here. -/
import Derived.Test.YtimciiaajlfkoaaIdx
namespace Go.Proofs.Ytimciiaajlfkoaa
open Go.ChangeShapes Go.WideShapes Go.ChangeAt Go.RowKit
set_option linter.unusedVariables false
set_option linter.unusedSimpArgs false

theorem index_len (s : SrcZ) : (indexZ s).2.b.length ≤ s.b.length := by
  have h1 := take_len1 s 1
  have h2 := take_len1 (numZ s 1).2 1
  have h3 : ((numZ s 1).2).b.length ≤ s.b.length := h1
  unfold indexZ
  split
  · exact h1
  · split
    · exact Nat.le_trans h2 h3
    · exact Nat.le_trans h2 h3
theorem index_ok {s : SrcZ} (h : s.ok) : (indexZ s).2.ok := by
  have h1 : ((numZ s 1).2).ok := (take_ok h 1).2
  have h2 := (take_ok h1 1).2
  unfold indexZ
  split
  · exact h1
  · split
    · exact h2
    · exact h2
theorem index_range {s : SrcZ} (h : s.ok) : 0 ≤ (indexZ s).1 ∧ (indexZ s).1 ≤ 32767 := by
  have hb := byte_bd h
  have h1 : ((numZ s 1).2).ok := (take_ok h 1).2
  have h2 : bytesOk (takeZ (numZ s 1).2 1).1 := (take_ok h1 1).1
  unfold indexZ
  split
  · omega
  · generalize takeZ (numZ s 1).2 1 = p at h2
    obtain ⟨b, q⟩ := p
    match b, h2 with
    | [], _ => dsimp only; omega
    | [x], h2 => have := h2 x (.head _); dsimp only; omega
    | x :: y :: r, h2 => have := h2 x (.head _); dsimp only; omega
/-! ### From one state of a source to a later one -/
structure Eats (s s' : SrcZ) : Prop where
  ok : s.ok → s'.ok
  len : s'.b.length ≤ s.b.length
  e : (s.e = 0 ∨ s.e = 2) → (s'.e = 0 ∨ s'.e = 2)
theorem Eats.refl (s : SrcZ) : Eats s s := ⟨id, Nat.le_refl _, id⟩
theorem Eats.trans {a b c : SrcZ} (h : Eats a b) (k : Eats b c) : Eats a c := ⟨fun x => k.ok (h.ok x), Nat.le_trans k.len h.len, fun x => k.e (h.e x)⟩
theorem take_eat (s : SrcZ) (n : Int) : Eats s (takeZ s n).2 := by
  refine ⟨fun h => (take_ok h n).2, take_len1 s n, fun h => ?_⟩
  unfold takeZ
  split
  · exact h
  · unfold wrongZ; split
    · exact .inr rfl
    · exact h
theorem num_eat {s s' : SrcZ} {k : Nat} {x : Int} (h : numZ s k = (x, s')) : Eats s s' := by
  have := take_eat s k
  rwa [show (takeZ s k).2 = s' from congrArg Prod.snd h] at this
theorem index_eat {s s' : SrcZ} {x : Int} (h : indexZ s = (x, s')) : Eats s s' := by
  have h1 : Eats s (numZ s 1).2 := take_eat s _
  have h2 := h1.trans (take_eat (numZ s 1).2 1)
  have h3 : Eats s (indexZ s).2 := by
    unfold indexZ
    split
    · exact h1
    · split
      · exact h2
      · exact h2
  rwa [h] at h3
theorem num_bdZ {s s' : SrcZ} {k : Nat} {x : Int} (hok : s.ok) (h : numZ s k = (x, s')) : 0 ≤ x ∧ x < 256 ^ k := by have := num_lt hok k; rwa [h] at this
theorem index_bdZ {s s' : SrcZ} {x : Int} (hok : s.ok) (h : indexZ s = (x, s')) : 0 ≤ x ∧ x ≤ 32767 := by have := index_range hok; rwa [h] at this

theorem wrong_eat (s : SrcZ) (x : Int) (h : x = 2) : Eats s (wrongZ s x) := by
  subst h
  refine ⟨fun h => ?_, ?_, fun h => ?_⟩
  · unfold wrongZ; split
    · exact ⟨(fun _ h => nomatch h), fun _ => rfl⟩
    · exact h
  · unfold wrongZ; split
    · exact Nat.zero_le _
    · exact Nat.le_refl _
  · unfold wrongZ; split
    · exact .inr rfl
    · exact h
/-- A later state: well, no longer. -/
structure Goes (s s' : SrcZ) : Prop where
  ok : s.ok → s'.ok
  len : s'.b.length ≤ s.b.length
theorem Goes.refl (s : SrcZ) : Goes s s := ⟨id, Nat.le_refl _⟩
theorem Goes.trans {a b c : SrcZ} (h : Goes a b) (k : Goes b c) : Goes a c := ⟨fun x => k.ok (h.ok x), Nat.le_trans k.len h.len⟩
theorem Eats.goes {a b : SrcZ} (h : Eats a b) : Goes a b := ⟨h.ok, h.len⟩
theorem wrong_goes (s : SrcZ) (x : Int) : Goes s (wrongZ s x) := by
  refine ⟨fun h => ?_, ?_⟩
  · unfold wrongZ; split
    · exact ⟨(fun _ h => nomatch h), fun _ => rfl⟩
    · exact h
  · unfold wrongZ; split
    · exact Nat.zero_le _
    · exact Nat.le_refl _
theorem take_goes (s : SrcZ) (n : Int) : Goes s (takeZ s n).2 := (take_eat s n).goes
theorem num_goes (s : SrcZ) (k : Nat) : Goes s (numZ s k).2 := take_goes s k
theorem name_goes (s : SrcZ) : Goes s (nameZ s).2 := (num_goes s 1).trans (take_goes _ _)
theorem index_goes (s : SrcZ) : Goes s (indexZ s).2 := (index_eat (x := (indexZ s).1) (s' := (indexZ s).2) rfl).goes
theorem long_goes (s : SrcZ) : Goes s (longZ s).2 := by
  unfold longZ
  split
  · exact num_goes s 1
  split
  · exact (num_goes s 1).trans (num_goes _ 2)
  split
  · exact (num_goes s 1).trans (num_goes _ 3)
  split
  · exact (num_goes s 1).trans (num_goes _ 4)
  · exact (num_goes s 1).trans (wrong_goes _ 3)
theorem long_range {s : SrcZ} (h : s.ok) : 0 ≤ (longZ s).1 ∧ (longZ s).1 ≤ 4294967295 := by
  have h0 := num_lt h 1
  have hk := (num_goes s 1).ok h
  have h2 := num_lt hk 2
  have h3 := num_lt hk 3
  have h4 := num_lt hk 4
  unfold longZ
  split
  · omega
  split
  · omega
  split
  · omega
  split
  · omega
  · dsimp only; omega
theorem name_bytes {s : SrcZ} (h : s.ok) : bytesOk (nameZ s).1 := (take_ok ((num_goes s 1).ok h) _).1
theorem name_eats {s : SrcZ} (h : s.b ≠ []) : (nameZ s).2.b.length < s.b.length := by
  obtain ⟨b, e⟩ := s
  cases b with
  | nil => exact absurd rfl h
  | cons a r =>
    have h1 := take_len1 (numZ ⟨a :: r, e⟩ 1).2 (numZ ⟨a :: r, e⟩ 1).1
    rw [num_one] at h1
    exact Nat.lt_of_le_of_lt (by unfold nameZ; rw [num_one]; exact h1) (Nat.lt_succ_self _)
/-- Of what is wrong nothing is read, and it stays. -/
theorem num_wrong {e : Int} (h : e ≠ 0) {k : Nat} (hk : 0 < k) : numZ ⟨[], e⟩ k = (0, ⟨[], e⟩) := by
  unfold numZ
  rw [take_short (.inr (by simp; omega))]
  unfold wrongZ
  rw [if_neg h]
  rfl
theorem long_wrong {e : Int} (h : e ≠ 0) : longZ ⟨[], e⟩ = (0, ⟨[], e⟩) := by
  unfold longZ
  rw [num_wrong h (by decide)]
  rfl
theorem wrong_is {s : SrcZ} (hok : s.ok) {x : Int} (hx : x ≠ 0) : ∃ e, e ≠ 0 ∧ wrongZ s x = ⟨[], e⟩ := by
  obtain ⟨b, e⟩ := s
  unfold wrongZ
  dsimp only
  split
  · exact ⟨x, hx, rfl⟩
  · rename_i h
    have hb : b = [] := hok.2 h
    subst hb
    exact ⟨e, h, rfl⟩
end Go.Proofs.Ytimciiaajlfkoaa
