/- Records as numbers: what Put, Get, All and Bytes of package rec come to, and what a law of layer 18 asks of that. Plain mathematics: no walk, no statement of the seat is proved here. -/
import Derived.Test.YtimciiaajlfkoaaR18
namespace Go.Proofs.Ytimciiaajlfkoaa
open Go.ChangeShapes Go.WideShapes Go.ChangeAt Go.RowKit
set_option linter.unusedVariables false
set_option linter.unusedSimpArgs false

structure GetZ where
  k : Int
  b : List Int
  n : Nat
  e : Int
def putR (kind : Int) (bs : List Int) : List Int := if bs.length ≤ 4000 then recN kind bs else []
def lenR (bs : List Int) : Nat := (bs.getD 1 0 + 256 * bs.getD 2 0).toNat
def errR (e : Int) : GetZ := ⟨0, [], 0, e⟩
def getR (bs : List Int) : GetZ :=
  if bs.length < 3 then errR 2
  else if lenR bs = 0 then errR 3
  else if 4001 < lenR bs then errR 8
  else if bs.length < lenR bs + 3 then errR 2
  else if bs.getD (lenR bs + 2) 0 ≠ 0 ∧ sumI (bs.take (lenR bs + 3)) % 256 ≠ 0 then errR 4
  else ⟨bs.getD 0 0, (bs.drop 3).take (lenR bs - 1), lenR bs + 3, 0⟩
theorem bytes_two (n : Nat) : bytesN n 2 = [((n % 256 : Nat) : Int), ((n / 256 % 256 : Nat) : Int)] := rfl
/-- A record's bytes, one by one. -/
theorem recN_head (kind : Int) (bs : List Int) : recN kind bs = kind :: (((bs.length + 1) % 256 : Nat) : Int) :: (((bs.length + 1) / 256 % 256 : Nat) : Int) :: (bs ++ [sumN (recB kind bs)]) := by
  simp [recN, recB, bytes_two]
theorem recB_head (kind : Int) (bs : List Int) : recB kind bs = kind :: (((bs.length + 1) % 256 : Nat) : Int) :: (((bs.length + 1) / 256 % 256 : Nat) : Int) :: bs := by
  simp [recB, bytes_two]
theorem lenR_head (a b c : Int) (r : List Int) : lenR (a :: b :: c :: r) = (b + 256 * c).toNat := rfl
theorem lenR_rec (kind : Int) (bs r : List Int) (h : bs.length ≤ 60000) : lenR (kind :: (((bs.length + 1) % 256 : Nat) : Int) :: (((bs.length + 1) / 256 % 256 : Nat) : Int) :: r) = bs.length + 1 := by
  rw [lenR_head]; omega
theorem sum_all (ns : List Int) : sumI (ns ++ [sumN ns]) % 256 = 0 := by
  rw [sumI_append]
  simp only [sumI, sumN]
  omega
/-- What is read where the header is a record's own. -/
theorem getR_of {kind : Int} {bs : List Int} (h : bs.length ≤ 4000) (r : List Int) (hr : bs.length + 1 ≤ r.length) :
    getR (kind :: (((bs.length + 1) % 256 : Nat) : Int) :: (((bs.length + 1) / 256 % 256 : Nat) : Int) :: r) =
      if r.getD bs.length 0 ≠ 0 ∧ sumI (kind :: (((bs.length + 1) % 256 : Nat) : Int) :: (((bs.length + 1) / 256 % 256 : Nat) : Int) :: r.take (bs.length + 1)) % 256 ≠ 0 then errR 4 else ⟨kind, r.take bs.length, bs.length + 4, 0⟩ := by
  unfold getR
  rw [lenR_rec kind bs r (by omega)]
  rw [if_neg (by simp), if_neg (by omega), if_neg (by omega), if_neg (by simp; omega)]
  rfl
theorem get_rec (kind : Int) (bs more : List Int) (h : bs.length ≤ 4000) : getR (recN kind bs ++ more) = ⟨kind, bs, bs.length + 4, 0⟩ := by
  rw [recN_head]
  simp only [List.cons_append, List.append_assoc]
  rw [getR_of h _ (by simp), if_neg ?_]
  · congr 1
    rw [List.take_append_of_le_length (Nat.le_refl _), List.take_length]
  · rintro ⟨_, h2⟩
    apply h2
    show sumI (kind :: _ :: _ :: (bs ++ ([sumN (recB kind bs)] ++ more)).take (bs.length + 1)) % 256 = 0
    have e : (bs ++ ([sumN (recB kind bs)] ++ more)).take (bs.length + 1) = bs ++ [sumN (recB kind bs)] := by
      rw [← List.append_assoc, List.take_append_of_le_length (by simp)]
      exact List.take_of_length_le (by simp)
    rw [e]
    have := sum_all (recB kind bs)
    rw [recB_head] at this ⊢
    exact this
theorem get_cut (kind : Int) (bs : List Int) (h : bs.length ≤ 4000) : getR ((recN kind bs).take (bs.length + 3)) = errR 2 := by
  rw [recN_head]
  have e : (kind :: (((bs.length + 1) % 256 : Nat) : Int) :: (((bs.length + 1) / 256 % 256 : Nat) : Int) :: (bs ++ [sumN (recB kind bs)])).take (bs.length + 3) = kind :: (((bs.length + 1) % 256 : Nat) : Int) :: (((bs.length + 1) / 256 % 256 : Nat) : Int) :: bs := by
    simp [List.take_succ_cons]
  rw [e]
  unfold getR
  rw [lenR_rec kind bs bs (by omega), if_neg (by simp), if_neg (by omega), if_neg (by omega), if_pos (by simp)]
theorem get_big (kind : Int) (bs more : List Int) (h : 4000 < bs.length) (h2 : bs.length ≤ 60000) : getR (recN kind bs ++ more) = errR 8 := by
  rw [recN_head]
  unfold getR
  simp only [List.cons_append]
  rw [lenR_rec kind bs _ h2, if_neg (by simp), if_neg (by omega), if_pos (by omega)]
/-- A byte behind the header is another. -/
theorem recN_set (kind : Int) (bs : List Int) (k : Nat) (hk : 3 ≤ k) (y : Int) : (recN kind bs).set k y = kind :: (((bs.length + 1) % 256 : Nat) : Int) :: (((bs.length + 1) / 256 % 256 : Nat) : Int) :: (bs ++ [sumN (recB kind bs)]).set (k - 3) y := by
  obtain ⟨j, rfl⟩ : ∃ j, k = j + 3 := ⟨k - 3, by omega⟩
  rw [recN_head]
  simp [List.set_cons_succ]
theorem sumI_set : ∀ (l : List Int) (k : Nat) (x y : Int), l[k]? = some x → sumI (l.set k y) = sumI l + (y - x)
  | [], _, _, _, h => by simp at h
  | a :: l, 0, x, y, h => by
    obtain rfl := Option.some.inj h
    simp only [List.set_cons_zero, sumI]; omega
  | a :: l, k + 1, x, y, h => by
    simp only [List.set_cons_succ, sumI]
    rw [sumI_set l k x y (by simpa using h)]; omega
theorem get_none (kind : Int) (bs : List Int) (h : bs.length ≤ 4000) : getR ((recN kind bs).set (bs.length + 3) 0) = ⟨kind, bs, bs.length + 4, 0⟩ := by
  rw [recN_set _ _ _ (by omega), Nat.add_sub_cancel]
  have e : (bs ++ [sumN (recB kind bs)]).set bs.length 0 = bs ++ [0] := by
    rw [List.set_append_right _ _ (Nat.le_refl _), Nat.sub_self]; rfl
  rw [e, getR_of h _ (by simp), if_neg ?_]
  · congr 1
    rw [List.take_append_of_le_length (Nat.le_refl _), List.take_length]
  · rintro ⟨h1, _⟩
    apply h1
    rw [List.getD_eq_getElem?_getD, List.getElem?_append_right (Nat.le_refl _), Nat.sub_self]
    rfl
theorem get_bad {kind : Int} {bs : List Int} (hb : bytesOk bs) (h : bs.length ≤ 4000) {k : Nat} {x y : Int} (hk : 3 ≤ k) (hx : (recN kind bs)[k]? = some x) (hx2 : 0 ≤ x ∧ x ≤ 255) (hy : 0 ≤ y ∧ y ≤ 255) (hn : y ≠ x) :
    (getR ((recN kind bs).set k y)).e = (if ((recN kind bs).set k y).getD (bs.length + 3) 0 = 0 then 0 else 4) ∧ ((getR ((recN kind bs).set k y)).e = 4 → (getR ((recN kind bs).set k y)).n = 0) := by
  have hl : ((recN kind bs).set k y).getD (bs.length + 3) 0 = ((bs ++ [sumN (recB kind bs)]).set (k - 3) y).getD bs.length 0 := by
    rw [recN_set _ _ _ hk]
    rfl
  rw [hl, recN_set _ _ _ hk, getR_of h _ (by simp)]
  have hx' : (bs ++ [sumN (recB kind bs)])[k - 3]? = some x := by
    obtain ⟨j, rfl⟩ : ∃ j, k = j + 3 := ⟨k - 3, by omega⟩
    rw [recN_head] at hx
    simpa using hx
  have hs : sumI (kind :: (((bs.length + 1) % 256 : Nat) : Int) :: (((bs.length + 1) / 256 % 256 : Nat) : Int) :: ((bs ++ [sumN (recB kind bs)]).set (k - 3) y).take (bs.length + 1)) % 256 ≠ 0 := by
    have e : ((bs ++ [sumN (recB kind bs)]).set (k - 3) y).take (bs.length + 1) = (bs ++ [sumN (recB kind bs)]).set (k - 3) y := List.take_of_length_le (by simp)
    rw [e]
    have h1 := sum_all (recB kind bs)
    rw [recB_head] at h1
    rw [recB_head] at hx' ⊢
    simp only [List.cons_append, sumI] at h1 ⊢
    rw [sumI_set _ _ _ _ hx']
    omega
  by_cases h0 : ((bs ++ [sumN (recB kind bs)]).set (k - 3) y).getD bs.length 0 = 0
  · rw [if_neg (fun hh => hh.1 h0), if_pos h0]
    exact ⟨rfl, fun h4 => absurd (show (0 : Int) = 4 from h4) (by decide)⟩
  · rw [if_pos ⟨h0, hs⟩, if_neg h0]
    exact ⟨rfl, fun _ => rfl⟩
/-! ### Some records, one behind the other -/
def catR : List (Int × List Int) → List Int
  | [] => []
  | r :: l => recN r.1 r.2 ++ catR l
def allR : Nat → List Int → List (Int × List Int) × Int
  | 0, _ => ([], 0)
  | f + 1, bs => match bs with
    | [] => ([], 0)
    | a :: l => if (getR (a :: l)).e = 0 then (((getR (a :: l)).k, (getR (a :: l)).b) :: (allR f ((a :: l).drop (getR (a :: l)).n)).1, (allR f ((a :: l).drop (getR (a :: l)).n)).2) else ([], (getR (a :: l)).e)
theorem recN_ne (kind : Int) (bs more : List Int) : ∃ a l, recN kind bs ++ more = a :: l := by rw [recN_head]; exact ⟨_, _, rfl⟩
theorem allR_cat : ∀ (l : List (Int × List Int)) (f : Nat) (more : List Int), l.length ≤ f → (∀ r ∈ l, r.2.length ≤ 4000) →
    allR f (catR l ++ more) = (l ++ (allR (f - l.length) more).1, (allR (f - l.length) more).2)
  | [], f, more, _, _ => by simp [catR]
  | r :: l, 0, more, h, _ => by simp at h
  | r :: l, f + 1, more, h, hl => by
    have hr := hl r (.head _)
    obtain ⟨a, t, e⟩ := recN_ne r.1 r.2 (catR l ++ more)
    have hg := get_rec r.1 r.2 (catR l ++ more) hr
    have ih := allR_cat l f more (by simpa using h) (fun x hx => hl x (.tail _ hx))
    have hd : (recN r.1 r.2 ++ (catR l ++ more)).drop (r.2.length + 4) = catR l ++ more := by
      rw [← recN_len r.1 r.2, List.drop_left]
    simp only [catR, List.append_assoc]
    rw [e] at hg hd ⊢
    simp only [allR, hg, if_true, hd, ih, List.length_cons, Nat.add_sub_add_right, List.cons_append]
theorem all_recs (l : List (Int × List Int)) (f : Nat) (h : l.length ≤ f) (hl : ∀ r ∈ l, r.2.length ≤ 4000) : allR f (catR l) = (l, 0) := by
  have := allR_cat l f [] h hl
  rw [List.append_nil] at this
  rw [this]
  cases f - l.length <;> simp [allR]
theorem all_form (l : List (Int × List Int)) (f : Nat) (h : l.length < f) (hl : ∀ r ∈ l, r.2.length ≤ 4000) : (allR f (catR l ++ [128, 0, 0])).2 = 3 := by
  rw [allR_cat l f _ (by omega) hl]
  obtain ⟨j, hj⟩ : ∃ j, f - l.length = j + 1 := ⟨f - l.length - 1, by omega⟩
  rw [hj]
  rfl
end Go.Proofs.Ytimciiaajlfkoaa
