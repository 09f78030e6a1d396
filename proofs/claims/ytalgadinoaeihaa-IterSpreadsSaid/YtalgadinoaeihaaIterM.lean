/- Blocks that stand many times: what they spread to, their bytes, how they are read. Plain mathematics over a source as a state. No statement of the seat is proved here. -/
import Derived.Test.YtalgadinoaeihaaIdxM
import Derived.Test.YtalgadinoaeihaaSegM
namespace Go.Proofs.Ytalgadinoaeihaa
open Go.ChangeShapes Go.WideShapes Go.ChangeAt Go.RowKit
set_option linter.unusedVariables false
set_option linter.unusedSimpArgs false

inductive BlkZ where
  | mk (t : Int) (b : List Int) (l : List BlkZ)
def BlkZ.t : BlkZ → Int | .mk t _ _ => t
def BlkZ.b : BlkZ → List Int | .mk _ b _ => b
def BlkZ.l : BlkZ → List BlkZ | .mk _ _ l => l
mutual
def spreadB : BlkZ → List Int
  | .mk t b l => (List.replicate t.toNat (b ++ spreadL l)).flatten
def spreadL : List BlkZ → List Int
  | [] => []
  | z :: l => spreadB z ++ spreadL l
end
mutual
def putB : BlkZ → List Int
  | .mk t b [] => bytesN t.toNat 2 ++ (bytesN 0 2 ++ nam18 b)
  | .mk t _ (z :: l) => bytesN t.toNat 2 ++ (bytesN (l.length + 1) 2 ++ (putB z ++ putL l))
def putL : List BlkZ → List Int
  | [] => []
  | z :: l => putB z ++ putL l
end
/-- May a block be, so deep? -/
def mayB : Nat → BlkZ → Bool
  | 0, _ => false
  | n + 1, .mk t b l => decide (1 ≤ t) && decide (t ≤ 65535) && match l with
    | [] => decide (1 ≤ b.length) && decide (b.length ≤ 255)
    | z :: m => decide (b = []) && decide (m.length + 1 ≤ 65535) && (mayB n z && m.all (mayB n))
theorem may_leaf {n : Nat} {t : Int} {b : List Int} (h : mayB (n + 1) (.mk t b []) = true) : (1 ≤ t ∧ t ≤ 65535) ∧ 1 ≤ b.length ∧ b.length ≤ 255 := by
  simp only [mayB, Bool.and_eq_true, decide_eq_true_eq] at h
  exact h
theorem may_node {n : Nat} {t : Int} {b : List Int} {z : BlkZ} {l : List BlkZ} (h : mayB (n + 1) (.mk t b (z :: l)) = true) :
    (1 ≤ t ∧ t ≤ 65535) ∧ b = [] ∧ l.length + 1 ≤ 65535 ∧ mayB n z = true ∧ ∀ x ∈ l, mayB n x = true := by
  simp only [mayB, Bool.and_eq_true, decide_eq_true_eq, List.all_eq_true] at h
  obtain ⟨h1, ⟨h2, h3⟩, h4, h5⟩ := h
  exact ⟨h1, h2, h3, h4, h5⟩
/-! ### Small ones -/
theorem spreadL_append : ∀ (a b : List BlkZ), spreadL (a ++ b) = spreadL a ++ spreadL b
  | [], b => by simp [spreadL]
  | z :: a, b => by simp only [List.cons_append, spreadL, spreadL_append a b, List.append_assoc]
theorem putL_append : ∀ (a b : List BlkZ), putL (a ++ b) = putL a ++ putL b
  | [], b => by simp [putL]
  | z :: a, b => by simp only [List.cons_append, putL, putL_append a b, List.append_assoc]
theorem spreadL_more {l : List BlkZ} {k : Nat} {z : BlkZ} (h : l[k]? = some z) : spreadL (l.take (k + 1)) = spreadL (l.take k) ++ spreadB z := by
  rw [List.take_add_one, h, spreadL_append]; simp [spreadL]
theorem putL_more {l : List BlkZ} {k : Nat} {z : BlkZ} (h : l[k]? = some z) : putL (l.take (k + 1)) = putL (l.take k) ++ putB z := by
  rw [List.take_add_one, h, putL_append]; simp [putL]
/-- So deep, and small. -/
def smB : Nat → BlkZ → Prop
  | 0, _ => False
  | n + 1, .mk t b l => (1 ≤ t ∧ t ≤ 4) ∧ bytesOk b ∧ b.length ≤ 6 ∧ l.length ≤ 3 ∧ ∀ z ∈ l, smB n z
/-- .. so many bytes at most. -/
def capB : Nat → Nat
  | 0 => 0
  | n + 1 => 24 + 12 * capB n
theorem flat_rep (n : Nat) (a : List Int) : (List.replicate n a).flatten.length = n * a.length := by simp
theorem spreadL_len {c : Nat} : ∀ {l : List BlkZ}, (∀ z ∈ l, (spreadB z).length ≤ c) → (spreadL l).length ≤ l.length * c
  | [], _ => by simp [spreadL]
  | z :: l, h => by
    have h1 := h z (.head _)
    have h2 := spreadL_len (l := l) fun x hx => h x (.tail _ hx)
    simp only [spreadL, List.length_append, List.length_cons, Nat.add_mul]
    omega
theorem sm_once {n : Nat} {t : Int} {b : List Int} {l : List BlkZ} (h : smB (n + 1) (.mk t b l)) (hc : ∀ z ∈ l, (spreadB z).length ≤ capB n) : (b ++ spreadL l).length ≤ 6 + 3 * capB n := by
  obtain ⟨_, _, h3, h4, _⟩ := h
  have h5 := spreadL_len hc
  have h6 : l.length * capB n ≤ 3 * capB n := Nat.mul_le_mul_right _ h4
  rw [List.length_append]; omega
theorem sm_len : ∀ (n : Nat) (z : BlkZ), smB n z → (spreadB z).length ≤ capB n
  | 0, _, h => h.elim
  | n + 1, .mk t b l, h => by
    have h1 := sm_once h fun z hz => sm_len n z (h.2.2.2.2 z hz)
    have h2 : t.toNat ≤ 4 := by have := h.1; omega
    simp only [spreadB, flat_rep, capB]
    have h3 := Nat.mul_le_mul h2 h1
    omega
/-! ### What is read -/
def manyR (f : SrcZ → BlkZ × SrcZ) : Nat → SrcZ → List BlkZ × SrcZ
  | 0, s => ([], s)
  | k + 1, s => if s.e ≠ 0 then ([], s) else ((f s).1 :: (manyR f k (f s).2).1, (manyR f k (f s).2).2)
def zeroB : BlkZ := .mk 0 [] []
def blkR : Nat → SrcZ → BlkZ × SrcZ
  | 0, s => (zeroB, wrongZ s 8)
  | n + 1, s =>
    if (numZ (numZ s 2).2 2).1 = 0 then (.mk (numZ s 2).1 (nameZ (numZ (numZ s 2).2 2).2).1 [], (nameZ (numZ (numZ s 2).2 2).2).2)
    else (.mk (numZ s 2).1 [] (manyR (blkR n) (numZ (numZ s 2).2 2).1.toNat (numZ (numZ s 2).2 2).2).1, (manyR (blkR n) (numZ (numZ s 2).2 2).1.toNat (numZ (numZ s 2).2 2).2).2)
theorem many_back {f : SrcZ → BlkZ × SrcZ} : ∀ {l : List BlkZ} (r : List Int), (∀ z ∈ l, ∀ r, f ⟨putB z ++ r, 0⟩ = (z, ⟨r, 0⟩)) → manyR f l.length ⟨putL l ++ r, 0⟩ = (l, ⟨r, 0⟩)
  | [], r, _ => by simp [putL, manyR]
  | z :: l, r, h => by
    have h1 := h z (.head _) (putL l ++ r)
    have h2 := many_back (l := l) r fun x hx => h x (.tail _ hx)
    rw [List.length_cons]
    unfold manyR
    rw [if_neg (by simp)]
    simp only [putL, List.append_assoc]
    rw [h1]
    dsimp only
    rw [h2]
theorem blk_back : ∀ (n : Nat) (z : BlkZ), mayB n z = true → ∀ r, blkR n ⟨putB z ++ r, 0⟩ = (z, ⟨r, 0⟩)
  | 0, z, h, _ => by simp [mayB] at h
  | n + 1, .mk t b [], h, r => by
    obtain ⟨h1, h2, h3⟩ := may_leaf h
    have e1 : numZ ⟨putB (.mk t b []) ++ r, 0⟩ 2 = (t, ⟨bytesN 0 2 ++ (nam18 b ++ r), 0⟩) := by
      simp only [putB, List.append_assoc]
      rw [num_back]
      congr 1
      omega
    have e2 : numZ ⟨bytesN 0 2 ++ (nam18 b ++ r), 0⟩ 2 = (0, ⟨nam18 b ++ r, 0⟩) := by
      rw [num_back]; rfl
    unfold blkR
    rw [e1]
    dsimp only
    rw [e2]
    dsimp only
    rw [if_pos rfl, name_back h3]
  | n + 1, .mk t b (z :: l), h, r => by
    obtain ⟨h1, rfl, h3, h4, h5⟩ := may_node h
    have e1 : numZ ⟨putB (.mk t [] (z :: l)) ++ r, 0⟩ 2 = (t, ⟨bytesN (l.length + 1) 2 ++ (putL (z :: l) ++ r), 0⟩) := by
      simp only [putB, putL, List.append_assoc]
      rw [num_back]
      congr 1
      omega
    have e2 : numZ ⟨bytesN (l.length + 1) 2 ++ (putL (z :: l) ++ r), 0⟩ 2 = (((l.length + 1 : Nat) : Int), ⟨putL (z :: l) ++ r, 0⟩) := by
      rw [num_back]
      congr 1
      omega
    have e3 := many_back (f := blkR n) (l := z :: l) r fun x hx => by
      rcases List.mem_cons.1 hx with rfl | hx
      · exact blk_back n x h4
      · exact blk_back n x (h5 x hx)
    unfold blkR
    rw [e1]
    dsimp only
    rw [e2]
    dsimp only
    rw [if_neg (by omega), Int.toNat_natCast]
    rw [List.length_cons] at e3
    rw [e3]
end Go.Proofs.Ytalgadinoaeihaa
