/- Records of blocks that are cut, or longer; blocks that are too deep, or too great. Plain mathematics. No statement of the seat is proved here. -/
import Derived.Test.YtalgadinoaeihaaNearM
namespace Go.Proofs.Ytalgadinoaeihaa
open Go.ChangeShapes Go.WideShapes Go.ChangeAt Go.RowKit
set_option linter.unusedVariables false
set_option linter.unusedSimpArgs false

theorem dropLast_app {a b : List Int} (h : b ≠ []) : (a ++ b).dropLast = a ++ b.dropLast := List.dropLast_append_of_ne_nil h
theorem ne_of_len {b : List Int} (h : 0 < b.length) : b ≠ [] := List.length_pos_iff.1 h
theorem putL_ne {z : BlkZ} {l : List BlkZ} : putL (z :: l) ≠ [] := ne_of_len (by have := putB_len4 z; simp only [putL, List.length_append]; omega)
theorem many_cut {f : SrcZ → BlkZ × SrcZ} : ∀ {z : BlkZ} {l : List BlkZ}, (∀ x ∈ z :: l, ∀ r, f ⟨putB x ++ r, 0⟩ = (x, ⟨r, 0⟩)) → (∀ x ∈ z :: l, (f ⟨(putB x).dropLast, 0⟩).2.e = 2) → (manyR f (l.length + 1) ⟨(putL (z :: l)).dropLast, 0⟩).2.e = 2
  | z, [], _, hc => by
    have h1 := hc z (.head _)
    simp only [putL, List.append_nil]
    unfold manyR
    rw [if_neg (by simp)]
    exact h1
  | z, y :: l, hb, hc => by
    have h1 := hb z (.head _) (putL (y :: l)).dropLast
    have h2 := many_cut (z := y) (l := l) (fun x hx => hb x (.tail _ hx)) fun x hx => hc x (.tail _ hx)
    have h3 : (putL (z :: y :: l)).dropLast = putB z ++ (putL (y :: l)).dropLast := dropLast_app putL_ne
    rw [h3]
    rw [List.length_cons]
    unfold manyR
    rw [if_neg (by simp)]
    dsimp only
    rw [h1]
    exact h2
theorem blk_cut : ∀ (n : Nat) (z : BlkZ), mayB n z = true → (blkR n ⟨(putB z).dropLast, 0⟩).2.e = 2
  | 0, z, h => by simp [mayB] at h
  | n + 1, .mk t b [], h => by
    obtain ⟨h1, h2, h3⟩ := may_leaf h
    have hb : b ≠ [] := ne_of_len h2
    have ht : b.take 255 = b := List.take_of_length_le (by omega)
    have hn : nam18 b = (b.length : Int) :: b := by unfold nam18; rw [ht]
    have e0 : (putB (.mk t b [])).dropLast = bytesN t.toNat 2 ++ (bytesN 0 2 ++ ((b.length : Int) :: b.dropLast)) := by
      simp only [putB]
      rw [dropLast_app (ne_of_len (by simp only [List.length_append, bytesN_len]; omega)), dropLast_app (by rw [hn]; exact List.cons_ne_nil _ _), hn, List.dropLast_cons_of_ne_nil hb]
    rw [e0]
    unfold blkR
    rw [num_back]
    dsimp only
    rw [num_back]
    dsimp only
    rw [if_pos (by decide)]
    dsimp only
    unfold nameZ
    rw [num_one]
    dsimp only
    rw [take_short (.inr (by dsimp only; rw [List.length_dropLast]; omega))]
    rfl
  | n + 1, .mk t b (z :: l), h => by
    obtain ⟨h1, rfl, h3, h4, h5⟩ := may_node h
    have e0 : (putB (.mk t [] (z :: l))).dropLast = bytesN t.toNat 2 ++ (bytesN (l.length + 1) 2 ++ (putL (z :: l)).dropLast) := by
      have : putB (.mk t [] (z :: l)) = bytesN t.toNat 2 ++ (bytesN (l.length + 1) 2 ++ putL (z :: l)) := by simp only [putB, putL]
      rw [this, dropLast_app (ne_of_len (by simp only [List.length_append, bytesN_len]; omega)), dropLast_app putL_ne]
    have hall : ∀ x ∈ z :: l, mayB n x = true := fun x hx => by
      rcases List.mem_cons.1 hx with rfl | hx
      · exact h4
      · exact h5 x hx
    have e3 := many_cut (f := blkR n) (z := z) (l := l) (fun x hx => blk_back n x (hall x hx)) fun x hx => blk_cut n x (hall x hx)
    have e2 : (((l.length + 1) % 256 ^ 2 : Nat) : Int) = ((l.length + 1 : Nat) : Int) := by omega
    rw [e0]
    unfold blkR
    rw [num_back]
    dsimp only
    rw [num_back]
    dsimp only
    rw [e2, if_neg (by omega), Int.toNat_natCast]
    exact e3
theorem runI_cut {o : Nat} : ∀ {z : BlkZ} {l : List BlkZ} (n : Nat) (a : List Int), (∀ x ∈ z :: l, mayB 8 x = true) → o + a.length + (spreadL (z :: l)).length ≤ 65536 → (putL (z :: l)).length ≤ n + 1 → (runI o n a ⟨(putL (z :: l)).dropLast, 0⟩).2 = 2
  | z, [], n, a, h, hs, hn => by
    have h1 := putB_len4 z
    have h2 := blk_cut 8 z (h z (.head _))
    simp only [putL, List.append_nil] at hn ⊢
    obtain ⟨m, rfl⟩ : ∃ m, n = m + 1 := ⟨n - 1, by omega⟩
    unfold runI
    rw [if_neg (ne_of_len (by rw [List.length_dropLast]; omega)), if_pos (by rw [h2]; decide)]
    exact h2
  | z, y :: l, n, a, h, hs, hn => by
    have h1 := putB_len4 z
    have h2 : (putL (z :: y :: l)).dropLast = putB z ++ (putL (y :: l)).dropLast := dropLast_app putL_ne
    have h0 : (putL (z :: y :: l)).length = (putB z).length + (putL (y :: l)).length := by simp only [putL, List.length_append]
    have h3 : (spreadL (z :: y :: l)).length = (spreadB z).length + (spreadL (y :: l)).length := by simp only [spreadL, List.length_append]
    obtain ⟨m, rfl⟩ : ∃ m, n = m + 1 := ⟨n - 1, by omega⟩
    rw [h2, runI_one (h z (.head _)) (by omega)]
    exact runI_cut m _ (fun x hx => h x (.tail _ hx)) (by rw [List.length_append]; omega) (by omega)
theorem blk_one : (blkR 8 ⟨[1], 0⟩).2.e = 2 := by rfl
theorem runI_more {o : Nat} : ∀ {l : List BlkZ} (n : Nat) (a : List Int), (∀ x ∈ l, mayB 8 x = true) → o + a.length + (spreadL l).length ≤ 65536 → (putL l).length ≤ n → (runI o (n + 1) a ⟨putL l ++ [1], 0⟩).2 = 2
  | [], n, a, h, hs, hn => by
    unfold runI
    rw [if_neg (by simp), if_pos (by show (blkR 8 ⟨[1], 0⟩).2.e ≠ 0; rw [blk_one]; decide)]
    exact blk_one
  | z :: l, n, a, h, hs, hn => by
    have h1 := putB_len4 z
    have h2 : putL (z :: l) ++ [1] = putB z ++ (putL l ++ [1]) := by simp only [putL, List.append_assoc]
    have h0 : (putL (z :: l)).length = (putB z).length + (putL l).length := by simp only [putL, List.length_append]
    have h3 : (spreadL (z :: l)).length = (spreadB z).length + (spreadL l).length := by simp only [spreadL, List.length_append]
    rw [h2, runI_one (h z (.head _)) (by omega)]
    obtain ⟨m, rfl⟩ : ∃ m, n = m + 1 := ⟨n - 1, by omega⟩
    exact runI_more m _ (fun x hx => h x (.tail _ hx)) (by rw [List.length_append]; omega) (by omega)
/-- What is left behind the index and the offset tells what is wrong. -/
theorem getI_wrong {s : Int} {o : Nat} {r : List Int} {e : Int} (hs : 0 ≤ s ∧ s ≤ 32767) (ho : o ≤ 65535) (he : e ≠ 0) (h : (runI o r.length [] ⟨r, 0⟩).2 = e) : (getI (idxN s ++ (bytesN o 2 ++ r))).2 = e := by
  have h1 := index_back (n := s) hs (bytesN o 2 ++ r) 0
  have h2 := num_back o 2 r 0
  have h3 : ((o % 256 ^ 2 : Nat) : Int).toNat = o := by rw [Int.toNat_natCast]; omega
  unfold getI
  rw [h1]
  dsimp only
  rw [h2]
  dsimp only
  rw [h3, h, if_pos he, if_neg he]
theorem getI_cut {s : Int} {o : Nat} {z : BlkZ} {l : List BlkZ} (hs : 1 ≤ s ∧ s ≤ 32767) (ho : o ≤ 65535) (h : ∀ x ∈ z :: l, mayB 8 x = true) (hl : o + (spreadL (z :: l)).length ≤ 65536) : (getI (recI s o (z :: l)).dropLast).2 = 2 := by
  have e0 : (recI s o (z :: l)).dropLast = idxN s ++ (bytesN o 2 ++ (putL (z :: l)).dropLast) := by
    unfold recI
    rw [dropLast_app (ne_of_len (by simp only [List.length_append, bytesN_len]; omega)), dropLast_app putL_ne]
  rw [e0]
  exact getI_wrong ⟨by omega, hs.2⟩ ho (by decide) (runI_cut _ _ h (by simpa using hl) (by rw [List.length_dropLast]; omega))
theorem getI_more {s : Int} {o : Nat} {l : List BlkZ} (hs : 1 ≤ s ∧ s ≤ 32767) (ho : o ≤ 65535) (h : ∀ x ∈ l, mayB 8 x = true) (hl : o + (spreadL l).length ≤ 65536) : (getI (recI s o l ++ [1])).2 = 2 := by
  have e0 : recI s o l ++ [1] = idxN s ++ (bytesN o 2 ++ (putL l ++ [1])) := by unfold recI; simp only [List.append_assoc]
  rw [e0]
  refine getI_wrong ⟨by omega, hs.2⟩ ho (by decide) ?_
  rw [List.length_append, List.length_singleton]
  exact runI_more _ _ h (by simpa using hl) (Nat.le_refl _)
theorem getI_none {s : Int} {o : Nat} (hs : 1 ≤ s ∧ s ≤ 32767) (ho : o ≤ 65535) : (getI (recI s o [])).2 = 3 := by
  have h1 := index_back (n := s) ⟨by omega, hs.2⟩ (bytesN o 2 ++ []) 0
  have h2 := num_back o 2 [] 0
  unfold getI recI putL
  rw [h1]
  dsimp only
  rw [h2]
  dsimp only
  rw [runI_nil]
  have h3 : (if (([] : List Int), (0 : Int)).2 ≠ 0 then (0 : Int) else if s = 0 ∨ (([] : List Int), (0 : Int)).1 = [] then 3 else 0) = 3 := by rw [if_neg (by simp), if_pos (.inr rfl)]
  dsimp only at h3 ⊢
  rw [h3]
  rfl
theorem getI_zero {z : BlkZ} (h : mayB 8 z = true) (hl : (spreadB z).length ≤ 65536) : (getI (recI 0 0 [z])).2 = 3 := by
  have h1 := index_back (n := 0) ⟨by decide, by decide⟩ (bytesN 0 2 ++ putL [z]) 0
  have h2 := num_back 0 2 (putL [z]) 0
  have h4 := runI_back (o := 0) (l := [z]) (putL [z]).length [] (fun x hx => by rw [List.mem_singleton.1 hx]; exact h) (by simpa [spreadL] using hl) (Nat.le_refl _)
  unfold getI recI
  rw [h1]
  dsimp only
  rw [h2]
  dsimp only
  rw [show (((0 % 256 ^ 2 : Nat) : Int)).toNat = 0 from rfl, h4]
  rfl
theorem getI_big {s : Int} {o : Nat} {z : BlkZ} (hs : 1 ≤ s ∧ s ≤ 32767) (ho : o ≤ 65535) (h : mayB 8 z = true) (hl : 65536 < o + (spreadB z).length) : (getI (recI s o [z])).2 = 8 := by
  have h1 := putB_len4 z
  have h3 := blk_back 8 z h []
  rw [List.append_nil] at h3
  refine getI_wrong ⟨by omega, hs.2⟩ ho (by decide) ?_
  simp only [putL, List.append_nil]
  obtain ⟨m, hm⟩ : ∃ m, (putB z).length = m + 1 := ⟨(putB z).length - 1, by omega⟩
  rw [hm]
  unfold runI
  rw [if_neg (ne_of_len (by dsimp only; omega)), h3]
  dsimp only
  rw [if_neg (by decide), if_neg (by rw [h]; decide), if_pos (.inr (by simpa using hl))]
/-! ### Deep ones -/
def deepB : Nat → BlkZ
  | 0 => .mk 1 [97] []
  | n + 1 => .mk 1 [] [deepB n]
theorem deep_may : ∀ m, m < 16 → mayB 8 (deepB m) = decide (m < 8) := by decide
theorem deep_get : ∀ m, m < 16 → (getI (recI 1 0 [deepB m])).2 = if m < 8 then 0 else 8 := by decide +kernel
theorem deep_yes {m : Nat} (h : m < 8) : getI (recI 1 0 [deepB m]) = ((1, 0, [97]), 0) := by
  have h1 : mayB 8 (deepB m) = true := by rw [deep_may m (by omega)]; simpa using h
  have h2 : spreadB (deepB m) = [97] := by
    clear h h1
    induction m with
    | zero => rfl
    | succ m ih => simp [deepB, spreadB, spreadL, ih]
  have h3 := getI_back (s := 1) (o := 0) (z := deepB m) (l := []) (by decide) (by decide) (fun x hx => by rw [List.mem_singleton.1 hx]; exact h1) (by simp [spreadL, h2])
  rw [h3]
  simp [spreadL, h2]
end Go.Proofs.Ytalgadinoaeihaa
