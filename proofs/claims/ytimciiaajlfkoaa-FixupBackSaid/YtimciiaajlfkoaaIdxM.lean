/- A source of bytes, as a state: what each of index.Source's functions tells and leaves; what was written is read as it was. Plain mathematics: no walk, no statement of the seat is proved here. -/
import Derived.Test.YtimciiaajlfkoaaR18
namespace Go.Proofs.Ytimciiaajlfkoaa
open Go.ChangeShapes Go.WideShapes Go.ChangeAt Go.RowKit
set_option linter.unusedVariables false
set_option linter.unusedSimpArgs false

/-- What is left, and what was wrong first (0: nothing). -/
structure SrcZ where
  b : List Int
  e : Int
def SrcZ.ok (s : SrcZ) : Prop := bytesOk s.b ∧ (s.e ≠ 0 → s.b = [])
def wrongZ (s : SrcZ) (e : Int) : SrcZ := if s.e = 0 then ⟨[], e⟩ else s
def takeZ (s : SrcZ) (n : Int) : List Int × SrcZ := if 0 ≤ n ∧ n ≤ (s.b.length : Int) then (s.b.take n.toNat, ⟨s.b.drop n.toNat, s.e⟩) else ([], wrongZ s 2)
def leZ : List Int → Int
  | [] => 0
  | n :: l => n + 256 * leZ l
def numZ (s : SrcZ) (k : Nat) : Int × SrcZ := (leZ (takeZ s k).1, (takeZ s k).2)
def indexZ (s : SrcZ) : Int × SrcZ :=
  if (numZ s 1).1 < 128 then numZ s 1
  else match (takeZ (numZ s 1).2 1).1 with
    | [] => (0, (takeZ (numZ s 1).2 1).2)
    | n :: _ => (((numZ s 1).1 - 128) * 256 + n, (takeZ (numZ s 1).2 1).2)
def nameZ (s : SrcZ) : List Int × SrcZ := takeZ (numZ s 1).2 (numZ s 1).1
def longZ (s : SrcZ) : Int × SrcZ :=
  if (numZ s 1).1 ≤ 128 then numZ s 1
  else if (numZ s 1).1 = 129 then numZ (numZ s 1).2 2
  else if (numZ s 1).1 = 132 then numZ (numZ s 1).2 3
  else if (numZ s 1).1 = 136 then numZ (numZ s 1).2 4
  else (0, wrongZ (numZ s 1).2 3)
def endZ (s : SrcZ) : SrcZ := if s.b = [] then s else wrongZ s 3
theorem take_in {a r : List Int} {e : Int} {n : Int} (h : n = a.length) : takeZ ⟨a ++ r, e⟩ n = (a, ⟨r, e⟩) := by
  subst h
  unfold takeZ
  rw [if_pos ⟨by omega, by simp; omega⟩]
  simp
theorem take_short {s : SrcZ} {n : Int} (h : n < 0 ∨ (s.b.length : Int) < n) : takeZ s n = ([], wrongZ s 2) := by
  unfold takeZ; rw [if_neg (by omega)]
theorem le_bytes : ∀ (k n : Nat), leZ (bytesN n k) = ((n % 256 ^ k : Nat) : Int)
  | 0, n => by simp [bytesN, leZ, Nat.mod_one]
  | k + 1, n => by
    simp only [bytesN, leZ, le_bytes k]
    have h : n % 256 ^ (k + 1) = n % 256 + 256 * (n / 256 % 256 ^ k) := by rw [Nat.pow_succ, Nat.mul_comm (256 ^ k) 256, Nat.mod_mul]
    rw [h]; omega
theorem num_back (n k : Nat) (r : List Int) (e : Int) : numZ ⟨bytesN n k ++ r, e⟩ k = (((n % 256 ^ k : Nat) : Int), ⟨r, e⟩) := by
  unfold numZ
  rw [take_in (by rw [bytesN_len])]
  rw [le_bytes]
theorem num_one {a : Int} {r : List Int} {e : Int} : numZ ⟨a :: r, e⟩ 1 = (a, ⟨r, e⟩) := by
  unfold numZ
  have := take_in (a := [a]) (r := r) (e := e) (n := 1) rfl
  rw [show ((1 : Nat) : Int) = 1 from rfl, show a :: r = [a] ++ r from rfl, this]
  simp [leZ]
theorem index_back {n : Int} (h : 0 ≤ n ∧ n ≤ 32767) (r : List Int) (e : Int) : indexZ ⟨idxN n ++ r, e⟩ = (n, ⟨r, e⟩) := by
  have hc : clipI n = n := if_neg (by omega)
  unfold idxN
  rw [hc]
  unfold idxK
  by_cases hs : n < 128
  · rw [if_pos hs]
    unfold indexZ
    rw [show [n] ++ r = n :: r from rfl, num_one]
    dsimp only
    rw [if_pos hs]
  · rw [if_neg hs]
    unfold indexZ
    rw [show [n / 256 + 128, n % 256] ++ r = (n / 256 + 128) :: ([n % 256] ++ r) from rfl, num_one]
    dsimp only
    rw [if_neg (by omega), take_in (a := [n % 256]) (n := 1) rfl]
    dsimp only
    congr 1
    omega
theorem name_back {ts : List Int} (h : ts.length ≤ 255) (r : List Int) (e : Int) : nameZ ⟨nam18 ts ++ r, e⟩ = (ts, ⟨r, e⟩) := by
  have ht : ts.take 255 = ts := List.take_of_length_le (by omega)
  unfold nameZ nam18
  rw [ht, List.cons_append, num_one]
  dsimp only
  exact take_in rfl
theorem long_back {n : Nat} (h : n < 4294967296) (r : List Int) (e : Int) : longZ ⟨longN n ++ r, e⟩ = ((n : Int), ⟨r, e⟩) := by
  unfold longN
  by_cases h1 : n ≤ 128
  · rw [if_pos h1]
    unfold longZ
    have : bytesN n 1 ++ r = (n : Int) :: r := by simp [bytesN]; omega
    rw [this, num_one]
    dsimp only
    rw [if_pos (by omega)]
  · rw [if_neg h1]
    by_cases h2 : n < 65536
    · rw [if_pos h2]
      unfold longZ
      rw [List.cons_append, num_one]
      dsimp only
      rw [if_neg (by decide), if_pos rfl, num_back, show n % 256 ^ 2 = n by omega]
    · rw [if_neg h2]
      by_cases h3 : n < 16777216
      · rw [if_pos h3]
        unfold longZ
        rw [List.cons_append, num_one]
        dsimp only
        rw [if_neg (by decide), if_neg (by decide), if_pos rfl, num_back, show n % 256 ^ 3 = n by omega]
      · rw [if_neg h3]
        unfold longZ
        rw [List.cons_append, num_one]
        dsimp only
        rw [if_neg (by decide), if_neg (by decide), if_neg (by decide), if_pos rfl, num_back, show n % 256 ^ 4 = n by omega]
/-! ### Where nothing is left -/
theorem num_none {e : Int} {k : Nat} (h : 0 < k) : numZ ⟨[], e⟩ k = (0, wrongZ ⟨[], e⟩ 2) := by
  unfold numZ
  rw [take_short (.inr (by simp; omega))]
  rfl
theorem wrong_nil (e x : Int) (h : e ≠ 0) : wrongZ ⟨[], e⟩ x = ⟨[], e⟩ := if_neg h
theorem take_ok {s : SrcZ} (h : s.ok) (n : Int) : bytesOk (takeZ s n).1 ∧ (takeZ s n).2.ok := by
  unfold takeZ
  split
  · refine ⟨h.1.take _, h.1.drop _, fun he => ?_⟩
    show s.b.drop _ = []
    rw [h.2 he]; simp
  · refine ⟨.nil, ?_⟩
    unfold wrongZ
    split
    · exact ⟨.nil, fun _ => rfl⟩
    · exact h
end Go.Proofs.Ytimciiaajlfkoaa
