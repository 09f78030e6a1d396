/- Threads that are told once and meant again: what is read. Plain mathematics. No statement of the seat is proved here. -/
import Derived.Test.YtimciiaajlfkoaaFixC
namespace Go.Proofs.Ytimciiaajlfkoaa
open Go.ChangeShapes Go.WideShapes Go.ChangeAt Go.RowKit
set_option linter.unusedVariables false
set_option linter.unusedSimpArgs false

/-- A frame that is told, a target that is told; a fixup that means both. -/
def headF (f : FixZ) (a : Nat) : List Int := (64 + 4 * f.fr + a) :: frB f
def headT (f : FixZ) (b : Nat) : List Int := (4 * f.tg + b) :: idxN f.n
def thirdF (f : FixZ) (a b : Nat) : Int := 128 + 16 * a + 8 + b + (if f.d = 0 then 4 else 0)
def bodyF (f : FixZ) (a b : Nat) : List Int := [oneB f, f.a % 256, thirdF f a b] ++ dB f
def frThr (f : FixZ) : ThrZ := ⟨true, f.fr, f.fn⟩
def tgThr (f : FixZ) : ThrZ := ⟨true, f.tg, f.n⟩
theorem headF_back {f : FixZ} {n : Int} (h : MayF f n) {a : Nat} (ha : a ≤ 3) (k : Nat) (l : List FixZ) (t : ThsZ) (r : List Int) : runF n (k + 1) l t ⟨headF f a ++ r, 0⟩ = runF n k l (t.put true a (frThr f)) ⟨r, 0⟩ := by
  obtain ⟨_, _, _, _, _, h6⟩ := h
  have e1 : numZ ⟨headF f a ++ r, 0⟩ 1 = (64 + 4 * f.fr + a, ⟨frB f ++ r, 0⟩) := num_one
  have c1 : (64 + 4 * f.fr + (a : Int)) / 64 % 2 = 1 := by omega
  have c2 : ¬ (64 + 4 * f.fr + (a : Int)) / 32 % 2 = 1 := by omega
  have c3 : (64 + 4 * f.fr + (a : Int)) / 4 % 8 = f.fr := by omega
  have c4 : ((64 + 4 * f.fr + (a : Int)) % 4).toNat = a := by omega
  have hb : byR true (64 + 4 * f.fr + (a : Int)) = f.fr := by unfold byR; rw [if_pos rfl, c3]
  have ht : threadR (64 + 4 * f.fr + (a : Int)) t ⟨frB f ++ r, 0⟩ = (t.put true a (frThr f), ⟨r, 0⟩) := by
    have hi : isFrB f.fr = true := by unfold isFrB; simp; omega
    have hbad : badThr (64 + 4 * f.fr + (a : Int)) = false := by unfold badThr; rw [decide_eq_false c2, decide_eq_true c1, hb, hi]; rfl
    unfold threadR
    dsimp only
    rw [hbad, decide_eq_true c1, hb, c4, if_neg (show ¬ false = true by decide)]
    unfold numberR frB frThr
    rcases h6 with h6 | ⟨h6, h7⟩
    · rw [if_pos (show 0 ≤ f.fr ∧ f.fr ≤ 2 from ⟨h6.1, h6.2.1⟩), if_pos (by omega), index_back ⟨by omega, h6.2.2.2⟩]
    · rw [if_neg (by omega), if_neg (by omega), h7]; rfl
  conv => lhs; unfold runF
  dsimp only
  rw [if_neg (show headF f a ++ r ≠ [] from List.cons_ne_nil _ _), e1]
  dsimp only
  rw [if_pos (by omega), ht]
theorem headT_back {f : FixZ} {n : Int} (h : MayF f n) {b : Nat} (hb3 : b ≤ 3) (k : Nat) (l : List FixZ) (t : ThsZ) (r : List Int) : runF n (k + 1) l t ⟨headT f b ++ r, 0⟩ = runF n k l (t.put false b (tgThr f)) ⟨r, 0⟩ := by
  obtain ⟨_, _, _, h4, h5, _⟩ := h
  have e1 : numZ ⟨headT f b ++ r, 0⟩ 1 = (4 * f.tg + b, ⟨idxN f.n ++ r, 0⟩) := num_one
  have c1 : ¬ (4 * f.tg + (b : Int)) / 64 % 2 = 1 := by omega
  have c2 : ¬ (4 * f.tg + (b : Int)) / 32 % 2 = 1 := by omega
  have c3 : (4 * f.tg + (b : Int)) / 4 % 8 % 4 = f.tg := by omega
  have c4 : ((4 * f.tg + (b : Int)) % 4).toNat = b := by omega
  have hb : byR false (4 * f.tg + (b : Int)) = f.tg := by unfold byR; rw [if_neg (by decide), c3]
  have ht : threadR (4 * f.tg + (b : Int)) t ⟨idxN f.n ++ r, 0⟩ = (t.put false b (tgThr f), ⟨r, 0⟩) := by
    have hi : isFrB f.tg = true := by unfold isFrB; simp; omega
    have hbad : badThr (4 * f.tg + (b : Int)) = false := by unfold badThr; rw [decide_eq_false c2, decide_eq_false c1, hb, hi]; rfl
    unfold threadR
    dsimp only
    rw [hbad, decide_eq_false c1, hb, c4, if_neg (show ¬ false = true by decide)]
    unfold numberR
    rw [if_pos (by omega), index_back ⟨by omega, h5.2⟩]
    rfl
  conv => lhs; unfold runF
  dsimp only
  rw [if_neg (show headT f b ++ r ≠ [] from List.cons_ne_nil _ _), e1]
  dsimp only
  rw [if_pos (by omega), ht]
theorem third_bits (f : FixZ) {a b : Nat} (ha : a ≤ 3) (hb : b ≤ 3) : 128 ≤ thirdF f a b ∧ thirdF f a b ≤ 255 ∧ (thirdF f a b / 16 % 4).toNat = a ∧ thirdF f a b / 8 % 2 = 1 ∧ (thirdF f a b % 4).toNat = b ∧ (thirdF f a b / 4 % 2 = 0 ↔ f.d ≠ 0) := by
  unfold thirdF
  split <;> omega
theorem disp_back {f : FixZ} (hd : f.d ≤ 65535) {c : Int} (hc : c / 4 % 2 = 0 ↔ f.d ≠ 0) (r : List Int) : dispR c ⟨dB f ++ r, 0⟩ = ((f.d : Int), ⟨r, 0⟩) := by
  unfold dispR dB
  by_cases h0 : f.d = 0
  · rw [if_neg (by rw [hc]; simp [h0]), if_pos h0, h0]; rfl
  · rw [if_pos (hc.2 h0), if_neg h0, num_back]
    congr 1
    omega
theorem one_bits {f : FixZ} {n : Int} (h : MayF f n) : oneB f % 4 * 256 + f.a % 256 = f.a ∧ oneB f / 4 % 16 = f.loc ∧ decide (oneB f / 64 % 2 = 0) = f.sf := by
  obtain ⟨h1, h2, _, _, _, _⟩ := h
  refine ⟨by unfold oneB; split <;> omega, by unfold oneB; split <;> omega, ?_⟩
  unfold oneB
  cases hs : f.sf
  · simp only [Bool.false_eq_true, if_false, decide_eq_false_iff_not]; omega
  · simp only [if_true, decide_eq_true_eq]; omega
/-- The fixup that means what was told. -/
theorem body_back {f : FixZ} {n : Int} (h : MayF f n) (hd : f.d ≤ 65535) {a b : Nat} (ha : a ≤ 3) (hb : b ≤ 3) {t : ThsZ} (hf : t.fr.getD a thr0 = frThr f) (hg : t.tg.getD b thr0 = tgThr f) (k : Nat) (l : List FixZ) :
    runF n (k + 1) l t ⟨bodyF f a b, 0⟩ = (l ++ [f], t, 0) := by
  have hm := (mayF_iff f n).2 h
  have hob := oneB_bd h
  obtain ⟨x1, x2, x3⟩ := one_bits h
  obtain ⟨t1, _, t2, t3, t4, t5⟩ := third_bits f ha hb
  have e1 : numZ ⟨bodyF f a b, 0⟩ 1 = (oneB f, ⟨[f.a % 256, thirdF f a b] ++ dB f, 0⟩) := num_one
  have e2 : numZ ⟨[f.a % 256, thirdF f a b] ++ dB f, 0⟩ 1 = (f.a % 256, ⟨thirdF f a b :: dB f, 0⟩) := num_one
  have e3 : numZ ⟨thirdF f a b :: dB f, 0⟩ 1 = (thirdF f a b, ⟨dB f, 0⟩) := num_one
  have e4 : ∀ s, frameR (thirdF f a b) t s = ((f.fr, f.fn), s) := by
    intro s; unfold frameR; rw [if_pos t1, t2, hf]; rfl
  have e5 : ∀ s, targetR (thirdF f a b) t s = ((f.tg, f.n), s) := by
    intro s; unfold targetR; rw [if_pos t3, t4, hg]; rfl
  have e6 : dispR (thirdF f a b) ⟨dB f, 0⟩ = ((f.d : Int), ⟨[], 0⟩) := by
    have := disp_back hd t5 []
    rwa [List.append_nil] at this
  have e7 : oneR (oneB f) n t ⟨[f.a % 256, thirdF f a b] ++ dB f, 0⟩ = (f, ⟨[], 0⟩) := by
    unfold oneR
    rw [e2]
    dsimp only
    rw [e3]
    dsimp only
    rw [e4]
    dsimp only
    rw [e5]
    dsimp only
    rw [e6]
    dsimp only
    rw [x1, x2, x3, Int.toNat_natCast]
    rw [show (FixZ.mk f.a f.loc f.sf f.fr f.fn f.tg f.n f.d) = f from rfl, if_pos hm]
  unfold runF
  dsimp only
  rw [if_neg (show bodyF f a b ≠ [] from List.cons_ne_nil _ _), e1]
  dsimp only
  rw [if_neg (by omega), e7, runF_nil]
/-- .. what was not told. -/
theorem body_none {f : FixZ} {n : Int} (h : MayF f n) {a b : Nat} (ha : a ≤ 3) (hb : b ≤ 3) {t : ThsZ} (hn : (t.fr.getD a thr0).is = false ∨ ((t.fr.getD a thr0).is = true ∧ (t.tg.getD b thr0).is = false)) (k : Nat) (l : List FixZ) :
    (runF n (k + 1) l t ⟨bodyF f a b, 0⟩).2.2 = 5 := by
  have hob := oneB_bd h
  obtain ⟨t1, _, t2, t3, t4, t5⟩ := third_bits f ha hb
  have e1 : numZ ⟨bodyF f a b, 0⟩ 1 = (oneB f, ⟨[f.a % 256, thirdF f a b] ++ dB f, 0⟩) := num_one
  have e2 : numZ ⟨[f.a % 256, thirdF f a b] ++ dB f, 0⟩ 1 = (f.a % 256, ⟨thirdF f a b :: dB f, 0⟩) := num_one
  have e3 : numZ ⟨thirdF f a b :: dB f, 0⟩ 1 = (thirdF f a b, ⟨dB f, 0⟩) := num_one
  have e4 : ∀ c, (dispR c ⟨[], 5⟩).2 = ⟨[], 5⟩ := by
    intro c; unfold dispR; split
    · rfl
    · rfl
  have e5 : (targetR (thirdF f a b) t (frameR (thirdF f a b) t ⟨dB f, 0⟩).2).2 = ⟨[], 5⟩ := by
    unfold targetR frameR toldR
    rw [if_pos t3, if_pos t1, t2, t4]
    rcases hn with hn | ⟨hn, hn2⟩
    · rw [hn]; dsimp only [Bool.false_eq_true, if_false]; unfold wrongZ; simp
    · rw [hn, hn2]; simp [wrongZ]
  have e7 : (oneR (oneB f) n t ⟨[f.a % 256, thirdF f a b] ++ dB f, 0⟩).2 = ⟨[], 5⟩ := by
    unfold oneR
    rw [e2]
    dsimp only
    rw [e3]
    dsimp only
    rw [e5, e4]
    split <;> rfl
  unfold runF
  dsimp only
  rw [if_neg (show bodyF f a b ≠ [] from List.cons_ne_nil _ _), e1]
  dsimp only
  rw [if_neg (by omega), e7, runF_nil]
def thsF (f : FixZ) (a b : Nat) : ThsZ := (ths0.put true a (frThr f)).put false b (tgThr f)
theorem ths_fr (f : FixZ) {a : Nat} (ha : a ≤ 3) (b : Nat) : (thsF f a b).fr.getD a thr0 = frThr f := by
  match a, ha with
  | 0, _ => rfl
  | 1, _ => rfl
  | 2, _ => rfl
  | 3, _ => rfl
theorem ths_tg (f : FixZ) (a : Nat) {b : Nat} (hb : b ≤ 3) : (thsF f a b).tg.getD b thr0 = tgThr f := by
  match b, hb with
  | 0, _ => rfl
  | 1, _ => rfl
  | 2, _ => rfl
  | 3, _ => rfl
theorem ths0_fr (a : Nat) : (ths0.fr.getD a thr0).is = false := by
  match a with
  | 0 => rfl
  | 1 => rfl
  | 2 => rfl
  | 3 => rfl
  | a + 4 => rfl
theorem ths0_tg (b : Nat) : (ths0.tg.getD b thr0).is = false := by
  match b with
  | 0 => rfl
  | 1 => rfl
  | 2 => rfl
  | 3 => rfl
  | b + 4 => rfl
theorem put_fr (h : ThrZ) (b : Nat) : (ths0.put false b h).fr = ths0.fr := rfl
theorem put_tg (h : ThrZ) (a : Nat) : (ths0.put true a h).tg = ths0.tg := rfl
theorem fr_only (f : FixZ) {a : Nat} (ha : a ≤ 3) : ((ths0.put true a (frThr f)).fr.getD a thr0).is = true := by
  match a, ha with
  | 0, _ => rfl
  | 1, _ => rfl
  | 2, _ => rfl
  | 3, _ => rfl
theorem headF_len (f : FixZ) (a : Nat) : 1 ≤ (headF f a).length := by unfold headF; simp
theorem headT_len (f : FixZ) (b : Nat) : 1 ≤ (headT f b).length := by unfold headT; simp
theorem bodyF_len (f : FixZ) (a b : Nat) : 3 ≤ (bodyF f a b).length ∧ (bodyF f a b).length ≤ 5 := by
  unfold bodyF dB
  rw [List.length_append]
  split <;> simp [bytesN_len]
section
variable {f : FixZ} {n : Int} {a b : Nat}
theorem thr_again (h : MayF f n) (hd : f.d ≤ 65535) (ha : a ≤ 3) (hb : b ≤ 3) : getF (bodyF f a b) n (thsF f a b) = ([f], thsF f a b, 0) := by
  obtain ⟨k, hk⟩ : ∃ k, (bodyF f a b).length = k + 1 := ⟨(bodyF f a b).length - 1, by have := (bodyF_len f a b).1; omega⟩
  unfold getF
  rw [hk, body_back h hd ha hb (ths_fr f ha b) (ths_tg f a hb)]
  rfl
theorem thr_back (h : MayF f n) (hd : f.d ≤ 65535) (ha : a ≤ 3) (hb : b ≤ 3) : getF (headF f a ++ (headT f b ++ bodyF f a b)) n ths0 = ([f], thsF f a b, 0) := by
  have h1 := headF_len f a
  have h2 := headT_len f b
  have h3 := (bodyF_len f a b).1
  have hlen : 3 ≤ (headF f a ++ (headT f b ++ bodyF f a b)).length := by rw [List.length_append, List.length_append]; omega
  obtain ⟨k, hk⟩ := Nat.exists_eq_add_of_le hlen
  rw [show 3 + k = k + 1 + 1 + 1 by omega] at hk
  have e1 := headF_back h ha (k + 1 + 1) [] ths0 (headT f b ++ bodyF f a b)
  have e2 := headT_back h hb (k + 1) [] (ths0.put true a (frThr f)) (bodyF f a b)
  have e3 : runF n (k + 1) [] ((ths0.put true a (frThr f)).put false b (tgThr f)) ⟨bodyF f a b, 0⟩ = ([] ++ [f], thsF f a b, 0) := body_back h hd ha hb (ths_fr f ha b) (ths_tg f a hb) k []
  have e4 := (e1.trans e2).trans e3
  unfold getF
  rw [hk, e4]
  rfl
theorem getF_err {bs : List Int} {t : ThsZ} {e : Int} (he : e ≠ 0) (h : (runF n bs.length [] t ⟨bs, 0⟩).2.2 = e) : getF bs n t = ([], ths0, e) := by
  unfold getF
  dsimp only
  rw [h, if_neg he]
theorem thr_none (h : MayF f n) (ha : a ≤ 3) (hb : b ≤ 3) : getF (bodyF f a b) n ths0 = ([], ths0, 5) := by
  obtain ⟨k, hk⟩ : ∃ k, (bodyF f a b).length = k + 1 := ⟨(bodyF f a b).length - 1, by have := (bodyF_len f a b).1; omega⟩
  exact getF_err (by decide) (by rw [hk]; exact body_none h ha hb (.inl (ths0_fr a)) k [])
theorem thr_noF (h : MayF f n) (ha : a ≤ 3) (hb : b ≤ 3) : getF (headT f b ++ bodyF f a b) n ths0 = ([], ths0, 5) := by
  have h2 := headT_len f b
  have h3 := (bodyF_len f a b).1
  obtain ⟨k, hk⟩ : ∃ k, (headT f b ++ bodyF f a b).length = k + 1 + 1 := ⟨(headT f b ++ bodyF f a b).length - 2, by simp only [List.length_append]; omega⟩
  exact getF_err (by decide) (by rw [hk, headT_back h hb]; exact body_none h ha hb (.inl (by rw [put_fr]; exact ths0_fr a)) k [])
theorem thr_noT (h : MayF f n) (ha : a ≤ 3) (hb : b ≤ 3) : getF (headF f a ++ bodyF f a b) n ths0 = ([], ths0, 5) := by
  have h2 := headF_len f a
  have h3 := (bodyF_len f a b).1
  obtain ⟨k, hk⟩ : ∃ k, (headF f a ++ bodyF f a b).length = k + 1 + 1 := ⟨(headF f a ++ bodyF f a b).length - 2, by simp only [List.length_append]; omega⟩
  exact getF_err (by decide) (by rw [hk, headF_back h ha]; exact body_none h ha hb (.inr ⟨fr_only f ha, by rw [put_tg]; exact ths0_tg b⟩) k [])
end
end Go.Proofs.Ytimciiaajlfkoaa
