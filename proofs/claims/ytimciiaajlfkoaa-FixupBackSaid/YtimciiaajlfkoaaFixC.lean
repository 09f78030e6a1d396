/- Records of fixups that are cut: whole ones are read as they, of one that is cut bytes are missing. Plain mathematics. No statement of the seat is proved here. -/
import Derived.Test.YtimciiaajlfkoaaFixG
namespace Go.Proofs.Ytimciiaajlfkoaa
open Go.ChangeShapes Go.WideShapes Go.ChangeAt Go.RowKit
set_option linter.unusedVariables false
set_option linter.unusedSimpArgs false

/-- Bytes were missing. -/
def deadS : SrcZ := ⟨[], 2⟩
theorem wrong_dead (e : Int) : wrongZ deadS e = deadS := rfl
theorem num_dead {k : Nat} (h : 1 ≤ k) : numZ deadS k = (0, deadS) := by
  unfold numZ
  rw [take_short (.inr (by show ((0 : Nat) : Int) < (k : Int); omega)), wrong_dead]
  rfl
theorem index_dead : indexZ deadS = (0, deadS) := by
  unfold indexZ
  rw [num_dead (Nat.le_refl 1)]
  rfl
theorem num_shortD {k : Nat} {l : List Int} (h : l.length < k) : numZ ⟨l, 0⟩ k = (0, deadS) := by
  unfold numZ
  rw [take_short (.inr (by dsimp only; omega))]
  rfl
theorem told_dead (h : ThrZ) : (toldR h deadS).2 = deadS := by unfold toldR; cases h.is <;> rfl
theorem frame_dead (c : Int) (t : ThsZ) : (frameR c t deadS).2 = deadS := by
  unfold frameR
  split
  · exact told_dead _
  split
  · rw [index_dead]
  · rfl
theorem target_dead (c : Int) (t : ThsZ) : (targetR c t deadS).2 = deadS := by
  unfold targetR
  split
  · exact told_dead _
  · rw [index_dead]
theorem disp_dead (c : Int) : (dispR c deadS).2 = deadS := by
  unfold dispR
  split
  · rw [num_dead (by decide)]
  · rfl
theorem index_cut {m : Int} (hm : 0 ≤ m ∧ m ≤ 32767) {k : Nat} (h : k < (idxN m).length) : (indexZ ⟨(idxN m).take k, 0⟩).2 = deadS := by
  have hc : clipI m = m := if_neg (by omega)
  unfold idxN at h ⊢
  rw [hc] at h ⊢
  unfold idxK at h ⊢
  by_cases hs : m < 128
  · rw [if_pos hs] at h ⊢
    have hk : k = 0 := by simpa using h
    subst hk
    unfold indexZ
    rw [List.take_zero, num_shortD (by simp)]
    rfl
  · rw [if_neg hs] at h ⊢
    have hk : k < 2 := by simpa using h
    match k, hk with
    | 0, _ =>
      unfold indexZ
      rw [List.take_zero, num_shortD (by simp)]
      rfl
    | 1, _ =>
      have e1 : numZ ⟨[m / 256 + 128, m % 256].take 1, 0⟩ 1 = (m / 256 + 128, ⟨[], 0⟩) := num_one
      have e2 : takeZ ⟨[], 0⟩ 1 = ([], deadS) := rfl
      unfold indexZ
      rw [e1]
      dsimp only
      rw [if_neg (by omega), e2]
/-- What is left of a fixup behind its three bytes, cut. -/
theorem rest_cut {f : FixZ} {n : Int} (h : MayF f n) (t : ThsZ) {q : Nat} (hq : q < (frB f ++ (idxN f.n ++ dB f)).length) :
    (dispR (thrB f) (targetR (thrB f) t (frameR (thrB f) t ⟨(frB f ++ (idxN f.n ++ dB f)).take q, 0⟩).2).2).2 = deadS := by
  obtain ⟨h1, h2, h3, h4, h5, h6⟩ := h
  have hc : thrB f < 128 ∧ thrB f / 16 % 8 = f.fr ∧ thrB f / 8 % 2 = 0 ∧ (thrB f / 4 % 2 = 0 ↔ f.d ≠ 0) := by
    unfold thrB
    split <;> omega
  obtain ⟨c1, c2, c3, c5⟩ := hc
  have hfr : ∀ r, (frameR (thrB f) t ⟨frB f ++ r, 0⟩).2 = ⟨r, 0⟩ := by
    intro r
    unfold frameR frB
    rw [if_neg (by omega), c2]
    rcases h6 with h6 | ⟨h6, h7⟩
    · rw [if_pos h6.2.1, if_pos (by omega), index_back ⟨by omega, h6.2.2.2⟩]
    · rw [if_neg (by omega), if_neg (by omega)]; rfl
  rw [List.length_append] at hq
  rw [List.take_append]
  by_cases hq1 : q < (frB f).length
  · have e1 : q - (frB f).length = 0 := by omega
    rw [e1, List.take_zero, List.append_nil]
    have e2 : (frameR (thrB f) t ⟨(frB f).take q, 0⟩).2 = deadS := by
      unfold frB at hq1 ⊢
      by_cases h3 : f.fr < 3
      · rw [if_pos h3] at hq1 ⊢
        unfold frameR
        rw [if_neg (by omega), c2, if_pos (by omega)]
        exact index_cut (by omega) hq1
      · rw [if_neg h3] at hq1
        simp at hq1
    rw [e2, target_dead, disp_dead]
  · rw [List.take_of_length_le (by omega), hfr, List.take_append]
    rw [List.length_append] at hq
    by_cases hq2 : q - (frB f).length < (idxN f.n).length
    · have e1 : q - (frB f).length - (idxN f.n).length = 0 := by omega
      rw [e1, List.take_zero, List.append_nil]
      have e2 : (targetR (thrB f) t ⟨(idxN f.n).take (q - (frB f).length), 0⟩).2 = deadS := by
        unfold targetR
        rw [if_neg (by omega)]
        exact index_cut (by omega) hq2
      rw [e2, disp_dead]
    · rw [List.take_of_length_le (by omega)]
      have e2 : ∀ r, (targetR (thrB f) t ⟨idxN f.n ++ r, 0⟩).2 = ⟨r, 0⟩ := by
        intro r
        unfold targetR
        rw [if_neg (by omega), index_back ⟨by omega, h5.2⟩]
      rw [e2]
      have hd0 : f.d ≠ 0 := by
        intro h0
        have : dB f = [] := if_pos h0
        rw [this, List.length_nil] at hq
        omega
      have hdl : (dB f).length = 2 := by unfold dB; rw [if_neg hd0, bytesN_len]
      unfold dispR
      rw [if_pos (c5.2 hd0), num_shortD (by rw [List.length_take]; omega)]
theorem one_cut {f : FixZ} {n : Int} (h : MayF f n) (t : ThsZ) {q : Nat} (hq : q < ([f.a % 256, thrB f] ++ (frB f ++ (idxN f.n ++ dB f))).length) : (oneR (oneB f) n t ⟨([f.a % 256, thrB f] ++ (frB f ++ (idxN f.n ++ dB f))).take q, 0⟩).2 = deadS := by
  have hfin : ∀ (g : FixZ) (s : SrcZ), s = deadS → (if mayF g n then s else wrongZ s 3) = deadS := by
    rintro g s rfl
    split <;> rfl
  match q, hq with
  | 0, _ =>
    unfold oneR
    rw [List.take_zero, num_shortD (by simp)]
    dsimp only
    rw [num_dead (by decide)]
    dsimp only
    exact hfin _ _ (by rw [frame_dead, target_dead, disp_dead])
  | 1, _ =>
    have e1 : numZ ⟨([f.a % 256, thrB f] ++ (frB f ++ (idxN f.n ++ dB f))).take 1, 0⟩ 1 = (f.a % 256, ⟨[], 0⟩) := num_one
    unfold oneR
    rw [e1]
    dsimp only
    rw [num_shortD (by simp)]
    dsimp only
    exact hfin _ _ (by rw [frame_dead, target_dead, disp_dead])
  | q + 2, hq =>
    have e1 : numZ ⟨([f.a % 256, thrB f] ++ (frB f ++ (idxN f.n ++ dB f))).take (q + 2), 0⟩ 1 = (f.a % 256, ⟨thrB f :: (frB f ++ (idxN f.n ++ dB f)).take q, 0⟩) := num_one
    have e2 : numZ ⟨thrB f :: (frB f ++ (idxN f.n ++ dB f)).take q, 0⟩ 1 = (thrB f, ⟨(frB f ++ (idxN f.n ++ dB f)).take q, 0⟩) := num_one
    unfold oneR
    rw [e1]
    dsimp only
    rw [e2]
    dsimp only
    exact hfin _ _ (rest_cut h t (by rw [List.length_append] at hq; simp only [List.length_cons, List.length_nil] at hq; omega))
theorem putF_tail (f : FixZ) : putF f = oneB f :: ([f.a % 256, thrB f] ++ (frB f ++ (idxN f.n ++ dB f))) := rfl
theorem runF_cut {n : Int} : ∀ {X : List FixZ} (k q : Nat) (l : List FixZ) (t : ThsZ), (∀ f ∈ X, MayF f n ∧ f.d ≤ 65535) → q ≤ (X.flatMap putF).length → ((X.flatMap putF).take q).length ≤ k →
    ((runF n k l t ⟨(X.flatMap putF).take q, 0⟩).2.2 = 0 ∧ (runF n k l t ⟨(X.flatMap putF).take q, 0⟩).1.length ≤ l.length + X.length ∧ (runF n k l t ⟨(X.flatMap putF).take q, 0⟩).2.1 = t) ∨ (runF n k l t ⟨(X.flatMap putF).take q, 0⟩).2.2 = 2
  | [], k, q, l, t, _, _, _ => by
    left
    rw [List.flatMap_nil, List.take_nil, runF_nil]
    exact ⟨rfl, Nat.le_refl _, rfl⟩
  | f :: X, k, q, l, t, h, hq, hk => by
    obtain ⟨hm, hd⟩ := h f (.head _)
    have h4 := (putF_len f).1
    rw [List.flatMap_cons] at hq hk ⊢
    rw [List.length_append] at hq
    by_cases h0 : q = 0
    · subst h0
      left
      rw [List.take_zero, runF_nil]
      exact ⟨rfl, Nat.le_add_right _ _, rfl⟩
    rw [List.take_append] at hk ⊢
    by_cases hlt : q < (putF f).length
    · right
      have e1 : q - (putF f).length = 0 := by omega
      rw [e1, List.take_zero, List.append_nil] at hk ⊢
      rw [List.length_take] at hk
      obtain ⟨m, rfl⟩ : ∃ m, k = m + 1 := ⟨k - 1, by omega⟩
      obtain ⟨p, rfl⟩ : ∃ p, q = p + 1 := ⟨q - 1, by omega⟩
      have hob := oneB_bd hm
      have e2 : (putF f).take (p + 1) = oneB f :: ([f.a % 256, thrB f] ++ (frB f ++ (idxN f.n ++ dB f))).take p := rfl
      have e3 : numZ ⟨oneB f :: ([f.a % 256, thrB f] ++ (frB f ++ (idxN f.n ++ dB f))).take p, 0⟩ 1 = (oneB f, ⟨([f.a % 256, thrB f] ++ (frB f ++ (idxN f.n ++ dB f))).take p, 0⟩) := num_one
      have e4 := one_cut hm t (q := p) (by rw [putF_tail, List.length_cons] at hlt; omega)
      rw [e2]
      unfold runF
      rw [if_neg (List.cons_ne_nil _ _), e3]
      dsimp only
      rw [if_neg (by omega), e4]
      unfold deadS
      rw [runF_nil]
    · rw [List.take_of_length_le (by omega)] at hk ⊢
      rw [List.length_append] at hk
      obtain ⟨m, rfl⟩ : ∃ m, k = m + 1 := ⟨k - 1, by omega⟩
      rw [runF_one hm hd]
      have := runF_cut (X := X) m (q - (putF f).length) (l ++ [f]) t (fun x hx => h x (.tail _ hx)) (by omega) (by omega)
      rw [List.length_append, List.length_singleton] at this
      rw [List.length_cons]
      rcases this with ⟨a, b, c⟩ | a
      · exact .inl ⟨a, by omega, c⟩
      · exact .inr a
theorem getF_cut {n : Int} {X : List FixZ} (h : ∀ f ∈ X, MayF f n ∧ f.d ≤ 65535) {q : Nat} (hq : q ≤ (X.flatMap putF).length) :
    ((getF ((X.flatMap putF).take q) n ths0).2.2 = 0 ∧ (getF ((X.flatMap putF).take q) n ths0).1.length ≤ X.length ∧ (getF ((X.flatMap putF).take q) n ths0).2.1 = ths0) ∨
    ((getF ((X.flatMap putF).take q) n ths0).2.2 = 2 ∧ (getF ((X.flatMap putF).take q) n ths0).1 = [] ∧ (getF ((X.flatMap putF).take q) n ths0).2.1 = ths0) := by
  have := runF_cut (X := X) ((X.flatMap putF).take q).length q [] ths0 h hq (Nat.le_refl _)
  unfold getF
  dsimp only
  rcases this with ⟨a, b, c⟩ | a
  · left
    rw [if_pos a]
    exact ⟨a, by simpa using b, c⟩
  · right
    rw [if_neg (by rw [a]; decide), a]
    exact ⟨rfl, rfl, rfl⟩
end Go.Proofs.Ytimciiaajlfkoaa
