/- Fixups: which may be, their bytes, how they are read, with threads; small ones near to whatever; in their order. Plain mathematics over a source as a state. No statement of the seat is proved here. -/
import Derived.Test.YtimciiaajlfkoaaIdxM
import Derived.Test.YtimciiaajlfkoaaSegM
namespace Go.Proofs.Ytimciiaajlfkoaa
open Go.ChangeShapes Go.WideShapes Go.ChangeAt Go.RowKit
set_option linter.unusedVariables false
set_option linter.unusedSimpArgs false

structure FixZ where
  a : Int
  loc : Int
  sf : Bool
  fr : Int
  fn : Int
  tg : Int
  n : Int
  d : Nat
def i64B (x : Int) : Prop := -9223372036854775808 ≤ x ∧ x ≤ 9223372036854775807
structure FixZ.ok (f : FixZ) : Prop where
  a : i64B f.a
  loc : i64B f.loc
  fr : i64B f.fr
  fn : i64B f.fn
  tg : i64B f.tg
  n : i64B f.n
  d : f.d ≤ 65535
def zeroF : FixZ := ⟨0, 0, false, 0, 0, 0, 0, 0⟩
def sizeF (loc : Int) : Int := if loc = 0 ∨ loc = 4 then 1 else if loc = 3 then 4 else 2
theorem sizeF_bd (loc : Int) : 1 ≤ sizeF loc ∧ sizeF loc ≤ 4 := by unfold sizeF; split <;> (try split) <;> omega
structure MayF (f : FixZ) (n : Int) : Prop where
  loc : 0 ≤ f.loc ∧ f.loc ≤ 4
  a : 0 ≤ f.a ∧ f.a ≤ 1023 ∧ f.a ≤ n - sizeF f.loc
  sf : f.sf = true → f.loc ≤ 1
  tg : 0 ≤ f.tg ∧ f.tg ≤ 2
  n : 1 ≤ f.n ∧ f.n ≤ 32767
  fr : (0 ≤ f.fr ∧ f.fr ≤ 2 ∧ 1 ≤ f.fn ∧ f.fn ≤ 32767) ∨ ((f.fr = 4 ∨ f.fr = 5) ∧ f.fn = 0)
def frameB (fr fn : Int) : Bool := (decide (0 ≤ fr) && decide (fr ≤ 2) && (decide (1 ≤ fn) && decide (fn ≤ 32767))) || ((decide (fr = 4) || decide (fr = 5)) && decide (fn = 0))
def mayF (f : FixZ) (n : Int) : Bool :=
  (decide (0 ≤ f.loc) && decide (f.loc ≤ 4)) && (decide (0 ≤ f.a) && decide (f.a ≤ 1023) && decide (f.a ≤ n - sizeF f.loc)) && (!f.sf || decide (f.loc ≤ 1)) && (decide (0 ≤ f.tg) && decide (f.tg ≤ 2)) && (decide (1 ≤ f.n) && decide (f.n ≤ 32767)) && frameB f.fr f.fn
theorem mayF_iff (f : FixZ) (n : Int) : mayF f n = true ↔ MayF f n := by
  unfold mayF frameB
  simp only [Bool.and_eq_true, Bool.or_eq_true, decide_eq_true_eq, Bool.not_eq_true']
  constructor
  · rintro ⟨⟨⟨⟨⟨h1, h2⟩, h3⟩, h4⟩, h5⟩, h6⟩
    refine ⟨h1, ⟨h2.1.1, h2.1.2, h2.2⟩, fun hs => ?_, h4, h5, ?_⟩
    · rcases h3 with h3 | h3
      · rw [hs] at h3; exact absurd h3 (by decide)
      · exact h3
    · rcases h6 with h6 | h6
      · exact .inl ⟨h6.1.1, h6.1.2, h6.2.1, h6.2.2⟩
      · exact .inr h6
  · rintro ⟨h1, h2, h3, h4, h5, h6⟩
    refine ⟨⟨⟨⟨⟨h1, ⟨h2.1, h2.2.1⟩, h2.2.2⟩, ?_⟩, h4⟩, h5⟩, ?_⟩
    · cases hs : f.sf
      · exact .inl rfl
      · exact .inr (h3 hs)
    · rcases h6 with h6 | h6
      · exact .inl ⟨⟨h6.1, h6.2.1⟩, h6.2.2.1, h6.2.2.2⟩
      · exact .inr h6
theorem MayF.ok {f : FixZ} {n : Int} (h : MayF f n) (hd : f.d ≤ 65535) : f.ok := by
  obtain ⟨h1, h2, _, h4, h5, h6⟩ := h
  exact ⟨⟨by omega, by omega⟩, ⟨by omega, by omega⟩, ⟨by omega, by omega⟩, ⟨by omega, by omega⟩, ⟨by omega, by omega⟩, ⟨by omega, by omega⟩, hd⟩
/-! ### Bytes -/
def oneB (f : FixZ) : Int := 128 + 4 * f.loc + f.a / 256 + (if f.sf then 0 else 64)
def thrB (f : FixZ) : Int := 16 * f.fr + f.tg + (if f.d = 0 then 4 else 0)
def frB (f : FixZ) : List Int := if f.fr < 3 then idxN f.fn else []
def dB (f : FixZ) : List Int := if f.d = 0 then [] else bytesN f.d 2
def putF (f : FixZ) : List Int := [oneB f, f.a % 256, thrB f] ++ (frB f ++ (idxN f.n ++ dB f))
theorem oneB_bd {f : FixZ} {n : Int} (h : MayF f n) : 128 ≤ oneB f ∧ oneB f ≤ 255 := by
  obtain ⟨h1, h2, _⟩ := h
  unfold oneB; split <;> omega
theorem thrB_bd {f : FixZ} {n : Int} (h : MayF f n) : 0 ≤ thrB f ∧ thrB f ≤ 127 := by
  obtain ⟨_, _, _, h4, _, h6⟩ := h
  unfold thrB; split <;> omega
theorem putF_len (f : FixZ) : 4 ≤ (putF f).length ∧ (putF f).length ≤ 9 := by
  have h1 := idxN_len f.fn
  have h2 := idxN_len f.n
  unfold putF frB dB
  simp only [List.length_append, List.length_cons, List.length_nil]
  constructor
  · split <;> split <;> simp only [List.length_nil, bytesN_len] <;> omega
  · split <;> split <;> simp only [List.length_nil, bytesN_len] <;> omega
theorem putF_ok {f : FixZ} {n : Int} (h : MayF f n) : bytesOk (putF f) := by
  have h1 := oneB_bd h
  have h2 := thrB_bd h
  refine .cons (by omega) (.cons (by omega) (.cons (by omega) ?_))
  show bytesOk (frB f ++ (idxN f.n ++ dB f))
  refine bytesOk.append ?_ ((idxN_ok _).append ?_)
  · unfold frB; split
    · exact idxN_ok _
    · exact .nil
  · unfold dB; split
    · exact .nil
    · exact bytesN_ok _ _
/-! ### Threads -/
structure ThrZ where
  is : Bool
  b : Int
  n : Int
def thr0 : ThrZ := ⟨false, 0, 0⟩
structure ThsZ where
  fr : List ThrZ
  tg : List ThrZ
def ths0 : ThsZ := ⟨[thr0, thr0, thr0, thr0], [thr0, thr0, thr0, thr0]⟩
def ThsZ.put (t : ThsZ) (frame : Bool) (k : Nat) (h : ThrZ) : ThsZ := if frame then ⟨t.fr.set k h, t.tg⟩ else ⟨t.fr, t.tg.set k h⟩
def byR (frame : Bool) (c : Int) : Int := if frame then c / 4 % 8 else c / 4 % 8 % 4
def isFrB (b : Int) : Bool := (decide (b ≥ 0) && decide (b ≤ 2)) || decide (b = 4) || decide (b = 5)
def numberR (b : Int) (s : SrcZ) : Int × SrcZ := if 0 ≤ b ∧ b ≤ 2 then indexZ s else (0, s)
def badThr (c : Int) : Bool := decide (c / 32 % 2 = 1) || !(isFrB (byR (decide (c / 64 % 2 = 1)) c))
def threadR (c : Int) (t : ThsZ) (s : SrcZ) : ThsZ × SrcZ :=
  let s1 := if badThr c then wrongZ s 3 else s
  (t.put (decide (c / 64 % 2 = 1)) (c % 4).toNat ⟨true, byR (decide (c / 64 % 2 = 1)) c, (numberR (byR (decide (c / 64 % 2 = 1)) c) s1).1⟩, (numberR (byR (decide (c / 64 % 2 = 1)) c) s1).2)
def toldR (h : ThrZ) (s : SrcZ) : (Int × Int) × SrcZ := ((h.b, h.n), if h.is then s else wrongZ s 5)
def frameR (c : Int) (t : ThsZ) (s : SrcZ) : (Int × Int) × SrcZ :=
  if 128 ≤ c then toldR (t.fr.getD (c / 16 % 4).toNat thr0) s
  else if c / 16 % 8 ≤ 2 then ((c / 16 % 8, (indexZ s).1), (indexZ s).2)
  else ((c / 16 % 8, 0), s)
def targetR (c : Int) (t : ThsZ) (s : SrcZ) : (Int × Int) × SrcZ :=
  if c / 8 % 2 = 1 then toldR (t.tg.getD (c % 4).toNat thr0) s
  else ((c % 4, (indexZ s).1), (indexZ s).2)
def dispR (c : Int) (s : SrcZ) : Int × SrcZ := if c / 4 % 2 = 0 then numZ s 2 else (0, s)
def oneR (x : Int) (n : Int) (t : ThsZ) (s : SrcZ) : FixZ × SrcZ :=
  let p1 := numZ s 1
  let p2 := numZ p1.2 1
  let pf := frameR p2.1 t p2.2
  let pt := targetR p2.1 t pf.2
  let pd := dispR p2.1 pt.2
  let f : FixZ := ⟨x % 4 * 256 + p1.1, x / 4 % 16, decide (x / 64 % 2 = 0), pf.1.1, pf.1.2, pt.1.1, pt.1.2, pd.1.toNat⟩
  (f, if mayF f n then pd.2 else wrongZ pd.2 3)
def runF (n : Int) : Nat → List FixZ → ThsZ → SrcZ → List FixZ × ThsZ × Int
  | 0, l, t, s => (l, t, s.e)
  | k + 1, l, t, s =>
    if s.b = [] then (l, t, s.e)
    else if (numZ s 1).1 < 128 then runF n k l (threadR (numZ s 1).1 t (numZ s 1).2).1 (threadR (numZ s 1).1 t (numZ s 1).2).2
    else runF n k (l ++ [(oneR (numZ s 1).1 n t (numZ s 1).2).1]) t (oneR (numZ s 1).1 n t (numZ s 1).2).2
def getF (bs : List Int) (n : Int) (t : ThsZ) : List FixZ × ThsZ × Int :=
  let r := runF n bs.length [] t ⟨bs, 0⟩
  if r.2.2 = 0 then r else ([], ths0, r.2.2)
theorem runF_nil (n : Int) (k : Nat) (l : List FixZ) (t : ThsZ) (e : Int) : runF n k l t ⟨[], e⟩ = (l, t, e) := by cases k <;> rfl
theorem one_back {f : FixZ} {n : Int} (h : MayF f n) (hd : f.d ≤ 65535) (t : ThsZ) (r : List Int) : oneR (oneB f) n t ⟨[f.a % 256, thrB f] ++ (frB f ++ (idxN f.n ++ (dB f ++ r))), 0⟩ = (f, ⟨r, 0⟩) := by
  have hm := (mayF_iff f n).2 h
  obtain ⟨h1, h2, h3, h4, h5, h6⟩ := h
  have e1 : numZ ⟨[f.a % 256, thrB f] ++ (frB f ++ (idxN f.n ++ (dB f ++ r))), 0⟩ 1 = (f.a % 256, ⟨thrB f :: (frB f ++ (idxN f.n ++ (dB f ++ r))), 0⟩) := num_one
  have e2 : numZ ⟨thrB f :: (frB f ++ (idxN f.n ++ (dB f ++ r))), 0⟩ 1 = (thrB f, ⟨frB f ++ (idxN f.n ++ (dB f ++ r)), 0⟩) := num_one
  have hc : thrB f < 128 ∧ thrB f / 16 % 8 = f.fr ∧ thrB f / 8 % 2 = 0 ∧ thrB f % 4 = f.tg ∧ (thrB f / 4 % 2 = 0 ↔ f.d ≠ 0) := by
    unfold thrB
    split <;> omega
  obtain ⟨c1, c2, c3, c4, c5⟩ := hc
  have e3 : frameR (thrB f) t ⟨frB f ++ (idxN f.n ++ (dB f ++ r)), 0⟩ = ((f.fr, f.fn), ⟨idxN f.n ++ (dB f ++ r), 0⟩) := by
    unfold frameR frB
    rw [if_neg (by omega), c2]
    rcases h6 with h6 | ⟨h6, h7⟩
    · rw [if_pos h6.2.1, if_pos (by omega), index_back ⟨by omega, h6.2.2.2⟩]
    · rw [if_neg (by omega), if_neg (by omega), h7]; rfl
  have e4 : targetR (thrB f) t ⟨idxN f.n ++ (dB f ++ r), 0⟩ = ((f.tg, f.n), ⟨dB f ++ r, 0⟩) := by
    unfold targetR
    rw [if_neg (by omega), c4, index_back ⟨by omega, h5.2⟩]
  have e5 : dispR (thrB f) ⟨dB f ++ r, 0⟩ = ((f.d : Int), ⟨r, 0⟩) := by
    unfold dispR dB
    by_cases h0 : f.d = 0
    · rw [if_neg (by rw [c5]; simp [h0]), if_pos h0, h0]; rfl
    · rw [if_pos (c5.2 h0), if_neg h0, num_back]
      congr 1
      omega
  have x1 : oneB f % 4 * 256 + f.a % 256 = f.a := by unfold oneB; split <;> omega
  have x2 : oneB f / 4 % 16 = f.loc := by unfold oneB; split <;> omega
  have x3 : decide (oneB f / 64 % 2 = 0) = f.sf := by
    unfold oneB
    cases hs : f.sf
    · simp only [Bool.false_eq_true, if_false, decide_eq_false_iff_not]; omega
    · simp only [if_true, decide_eq_true_eq]; omega
  unfold oneR
  rw [e1]
  dsimp only
  rw [e2]
  dsimp only
  rw [e3]
  dsimp only
  rw [e4]
  dsimp only
  rw [e5]
  dsimp only
  rw [x1, x2, x3, Int.toNat_natCast]
  rw [show (FixZ.mk f.a f.loc f.sf f.fr f.fn f.tg f.n f.d) = f from rfl, if_pos hm]
end Go.Proofs.Ytimciiaajlfkoaa
