/- Fixups, one behind the other, are read as they; cut, bytes are missing. Plain mathematics. No statement of the seat is proved here. -/
import Derived.Test.YtimciiaajlfkoaaFixM
namespace Go.Proofs.Ytimciiaajlfkoaa
open Go.ChangeShapes Go.WideShapes Go.ChangeAt Go.RowKit
set_option linter.unusedVariables false
set_option linter.unusedSimpArgs false

theorem putF_cons (f : FixZ) (r : List Int) : putF f ++ r = oneB f :: ([f.a % 256, thrB f] ++ (frB f ++ (idxN f.n ++ (dB f ++ r)))) := by
  unfold putF
  simp only [List.append_assoc, List.cons_append, List.nil_append]
theorem runF_one {f : FixZ} {n : Int} (h : MayF f n) (hd : f.d ≤ 65535) (k : Nat) (l : List FixZ) (t : ThsZ) (r : List Int) : runF n (k + 1) l t ⟨putF f ++ r, 0⟩ = runF n k (l ++ [f]) t ⟨r, 0⟩ := by
  have h1 := oneB_bd h
  have h2 := one_back h hd t r
  have e1 : numZ ⟨putF f ++ r, 0⟩ 1 = (oneB f, ⟨[f.a % 256, thrB f] ++ (frB f ++ (idxN f.n ++ (dB f ++ r))), 0⟩) := by rw [putF_cons]; exact num_one
  conv => lhs; unfold runF
  rw [if_neg (by rw [putF_cons]; exact List.cons_ne_nil _ _), e1]
  dsimp only
  rw [if_neg (by omega), h2]
theorem runF_back {n : Int} : ∀ {X : List FixZ} (k : Nat) (l : List FixZ) (t : ThsZ), (∀ f ∈ X, MayF f n ∧ f.d ≤ 65535) → (X.flatMap putF).length ≤ k → runF n k l t ⟨X.flatMap putF, 0⟩ = (l ++ X, t, 0)
  | [], k, l, t, _, _ => by rw [List.flatMap_nil, runF_nil, List.append_nil]
  | f :: X, k, l, t, h, hk => by
    have h1 := (putF_len f).1
    rw [List.flatMap_cons] at hk ⊢
    rw [List.length_append] at hk
    obtain ⟨m, rfl⟩ : ∃ m, k = m + 1 := ⟨k - 1, by omega⟩
    rw [runF_one (h f (.head _)).1 (h f (.head _)).2, runF_back m _ _ (fun x hx => h x (.tail _ hx)) (by omega), List.append_assoc]
    rfl
theorem getF_back {n : Int} {X : List FixZ} (h : ∀ f ∈ X, MayF f n ∧ f.d ≤ 65535) (t : ThsZ) : getF (X.flatMap putF) n t = (X, t, 0) := by
  unfold getF
  rw [runF_back _ [] t h (Nat.le_refl _)]
  rfl
theorem getF_one {n : Int} {f : FixZ} (h : MayF f n) (hd : f.d ≤ 65535) (t : ThsZ) : getF (putF f) n t = ([f], t, 0) := by
  have := getF_back (n := n) (X := [f]) (fun x hx => by rw [List.mem_singleton.1 hx]; exact ⟨h, hd⟩) t
  simpa using this
theorem putFs_len (X : List FixZ) : (X.flatMap putF).length ≤ X.length * 9 := by
  induction X with
  | nil => simp
  | cons f X ih =>
    have := (putF_len f).2
    rw [List.flatMap_cons, List.length_append, List.length_cons]
    omega
theorem putFs_ok {n : Int} {X : List FixZ} (h : ∀ f ∈ X, MayF f n) : bytesOk (X.flatMap putF) := by
  intro x hx
  obtain ⟨f, hf, hx⟩ := List.mem_flatMap.1 hx
  exact putF_ok (h f hf) x hx
end Go.Proofs.Ytimciiaajlfkoaa
