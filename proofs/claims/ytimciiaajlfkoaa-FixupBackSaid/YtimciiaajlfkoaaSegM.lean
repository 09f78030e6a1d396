/- What the functions of package segs come to: plain mathematics over a source as a state. No statement of the seat is proved here. -/
import Derived.Test.YtimciiaajlfkoaaIdxM
namespace Go.Proofs.Ytimciiaajlfkoaa
open Go.ChangeShapes Go.WideShapes Go.ChangeAt Go.RowKit
set_option linter.unusedVariables false
set_option linter.unusedSimpArgs false

/-! ### A segment -/
structure SegZ where
  a : Int
  c : Int
  f : Int
  o : Int
  l : Int
  n : Int
  k : Int
  v : Int
deriving DecidableEq
def SegZ.ok (s : SegZ) : Prop := (-9223372036854775808 ≤ s.a ∧ s.a ≤ 9223372036854775807) ∧ (-9223372036854775808 ≤ s.c ∧ s.c ≤ 9223372036854775807) ∧ (0 ≤ s.f ∧ s.f ≤ 65535) ∧ (0 ≤ s.o ∧ s.o ≤ 255) ∧ (-9223372036854775808 ≤ s.l ∧ s.l ≤ 9223372036854775807) ∧
  (-9223372036854775808 ≤ s.n ∧ s.n ≤ 9223372036854775807) ∧ (-9223372036854775808 ≤ s.k ∧ s.k ≤ 9223372036854775807) ∧ (-9223372036854775808 ≤ s.v ∧ s.v ≤ 9223372036854775807)
def zeroS : SegZ := ⟨0, 0, 0, 0, 0, 0, 0, 0⟩
def encSeg (s : SegZ) : Array Value := #[.int .i64 s.a, .int .i64 s.c, .int .u16 s.f, .int .u8 s.o, .int .i64 s.l, .int .i64 s.n, .int .i64 s.k, .int .i64 s.v]
def mayI (n : Int) : Bool := decide (0 ≤ n) && decide (n ≤ 32767)
def comS (c : Int) : Bool := c == 0 || c == 2 || c == 5 || c == 6
def atS (s : SegZ) : Bool := s.a == 0 || (s.f == 0 && s.o == 0)
def mayS (s : SegZ) : Bool := mayI s.n && mayI s.k && mayI s.v && comS s.c && atS s && decide (0 ≤ s.a) && decide (s.a ≤ 4) && decide (0 ≤ s.l) && decide (s.l ≤ 65536)
structure MayS (s : SegZ) : Prop where
  n : 0 ≤ s.n ∧ s.n ≤ 32767
  k : 0 ≤ s.k ∧ s.k ≤ 32767
  v : 0 ≤ s.v ∧ s.v ≤ 32767
  c : s.c = 0 ∨ s.c = 2 ∨ s.c = 5 ∨ s.c = 6
  at0 : s.a = 0 ∨ (s.f = 0 ∧ s.o = 0)
  a : 0 ≤ s.a ∧ s.a ≤ 4
  l : 0 ≤ s.l ∧ s.l ≤ 65536
theorem mayS_iff (s : SegZ) : mayS s = true ↔ MayS s := by
  simp only [mayS, mayI, comS, atS, Bool.and_eq_true, Bool.or_eq_true, decide_eq_true_eq, beq_iff_eq]
  constructor
  · rintro ⟨⟨⟨⟨⟨⟨⟨⟨h1, h2⟩, h3⟩, h4⟩, h5⟩, h6⟩, h7⟩, h8⟩, h9⟩
    exact ⟨h1, h2, h3, by rcases h4 with ((h | h) | h) | h <;> simp [h], h5, ⟨h6, h7⟩, ⟨h8, h9⟩⟩
  · rintro ⟨h1, h2, h3, h4, h5, ⟨h6, h7⟩, ⟨h8, h9⟩⟩
    exact ⟨⟨⟨⟨⟨⟨⟨⟨h1, h2⟩, h3⟩, by rcases h4 with h | h | h | h <;> simp [h]⟩, h5⟩, h6⟩, h7⟩, h8⟩, h9⟩
def firstS (s : SegZ) : Int := 32 * s.a + 4 * s.c + (if s.l = 65536 then 2 else 0)
def placeB (s : SegZ) : List Int := if s.a = 0 then bytesN s.f.toNat 2 ++ [s.o] else []
def segB (s : SegZ) : List Int := firstS s :: (placeB s ++ (bytesN (s.l % 65536).toNat 2 ++ (idxN s.n ++ (idxN s.k ++ idxN s.v))))
theorem firstS_bd {s : SegZ} (h : MayS s) : 0 ≤ firstS s ∧ firstS s ≤ 255 := by
  have h1 := h.a; have h2 := h.c
  unfold firstS
  split <;> omega
theorem placeB_ok {s : SegZ} (h : s.ok) : bytesOk (placeB s) := by
  unfold placeB; split
  · exact (bytesN_ok _ _).append (.cons h.2.2.2.1 .nil)
  · exact .nil
theorem placeB_len (s : SegZ) : (placeB s).length = if s.a = 0 then 3 else 0 := by
  unfold placeB; split
  · simp [bytesN_len]
  · rfl
theorem segB_ok {s : SegZ} (h : MayS s) (ho : s.ok) : bytesOk (segB s) :=
  .cons (firstS_bd h) ((placeB_ok ho).append ((bytesN_ok _ _).append ((idxN_ok _).append ((idxN_ok _).append (idxN_ok _)))))
theorem segB_len (s : SegZ) : 6 ≤ (segB s).length ∧ (segB s).length ≤ 12 := by
  have h1 := idxN_len s.n; have h2 := idxN_len s.k; have h3 := idxN_len s.v
  have h4 := placeB_len s
  have h5 : (placeB s).length ≤ 3 := by rw [h4]; split <;> omega
  have h6 := bytesN_len (s.l % 65536).toNat 2
  unfold segB
  simp only [List.length_cons, List.length_append]
  omega
/-! ### What is read -/
structure GotS where
  d : SegZ
  first : Int
  len : Int
  s : SrcZ
def gotS (bs : List Int) : GotS :=
  let p0 := numZ ⟨bs, 0⟩ 1
  let p1 := if p0.1 / 32 = 0 then numZ p0.2 2 else (0, p0.2)
  let p2 := if p0.1 / 32 = 0 then numZ p1.2 1 else (0, p1.2)
  let p3 := numZ p2.2 2
  let p4 := indexZ p3.2
  let p5 := indexZ p4.2
  let p6 := indexZ p5.2
  ⟨⟨p0.1 / 32, p0.1 / 4 % 8, p1.1, p2.1, if p0.1 / 2 % 2 = 1 then 65536 else p3.1, p4.1, p5.1, p6.1⟩, p0.1, p3.1, p6.2⟩
def goodS (g : GotS) : Bool := decide (g.s.e = 0) && decide (g.s.b = []) && decide (g.first % 2 = 0) && (!decide (g.first / 2 % 2 = 1) || decide (g.len = 0)) && mayS g.d
def segOf (bs : List Int) : Option SegZ := if goodS (gotS bs) = true then some (gotS bs).d else none
theorem num_back1 (a : Int) (r : List Int) (e : Int) : numZ ⟨[a] ++ r, e⟩ 1 = (a, ⟨r, e⟩) := num_one
theorem seg_got {s : SegZ} (h : MayS s) (ho : s.ok) : gotS (segB s) = ⟨s, firstS s, s.l % 65536, ⟨[], 0⟩⟩ := by
  have h1 := h.a; have h2 := h.c; have h3 := h.l
  have hf := firstS_bd h
  have e1 : firstS s / 32 = s.a := by unfold firstS; split <;> omega
  have e2 : firstS s / 4 % 8 = s.c := by unfold firstS; split <;> omega
  have e3 : (if firstS s / 2 % 2 = 1 then (65536 : Int) else s.l % 65536) = s.l := by
    have : firstS s / 2 % 2 = if s.l = 65536 then 1 else 0 := by unfold firstS; split <;> omega
    rw [this]
    split <;> simp_all <;> omega
  have hn := index_back h.n; have hk := index_back h.k; have hv := index_back h.v
  have hl (r : List Int) : numZ ⟨bytesN (s.l % 65536).toNat 2 ++ r, 0⟩ 2 = (s.l % 65536, ⟨r, 0⟩) := by
    rw [num_back]
    congr 1
    omega
  unfold gotS segB
  rw [num_one]
  dsimp only
  rw [e1, e2]
  by_cases ha : s.a = 0
  · have hp : placeB s = bytesN s.f.toNat 2 ++ [s.o] := if_pos ha
    have hff (r : List Int) : numZ ⟨bytesN s.f.toNat 2 ++ r, 0⟩ 2 = (s.f, ⟨r, 0⟩) := by
      rw [num_back]
      have := ho.2.2.1
      congr 1
      omega
    rw [if_pos ha, hp, List.append_assoc, hff]
    dsimp only
    rw [if_pos ha, num_back1]
    dsimp only
    rw [hl]
    dsimp only
    rw [hn]
    dsimp only
    rw [hk]
    dsimp only
    rw [show idxN s.v = idxN s.v ++ [] from (List.append_nil _).symm, hv]
    dsimp only
    rw [e3]
  · have hp : placeB s = [] := if_neg ha
    have hz := h.at0.resolve_left ha
    rw [if_neg ha, hp, List.nil_append]
    dsimp only
    rw [if_neg ha]
    dsimp only
    rw [hl]
    dsimp only
    rw [hn]
    dsimp only
    rw [hk]
    dsimp only
    rw [show idxN s.v = idxN s.v ++ [] from (List.append_nil _).symm, hv]
    dsimp only
    rw [e3]
    congr 1
    obtain ⟨z1, z2⟩ := hz
    cases s
    simp only at z1 z2
    subst z1 z2
    rfl
theorem seg_back {s : SegZ} (h : MayS s) (ho : s.ok) : segOf (segB s) = some s := by
  have h1 := h.a; have h2 := h.c; have h3 := h.l
  unfold segOf
  rw [seg_got h ho]
  have e1 : firstS s % 2 = 0 := by unfold firstS; split <;> omega
  have e2 : firstS s / 2 % 2 = 1 → s.l % 65536 = 0 := by unfold firstS; split <;> omega
  have : goodS ⟨s, firstS s, s.l % 65536, ⟨[], 0⟩⟩ = true := by
    unfold goodS
    simp only [Bool.and_eq_true, Bool.or_eq_true, Bool.not_eq_true', decide_eq_true_eq, decide_eq_false_iff_not]
    refine ⟨⟨⟨⟨by trivial, by trivial⟩, e1⟩, ?_⟩, (mayS_iff s).2 h⟩
    by_cases hc : firstS s / 2 % 2 = 1
    · exact .inr (e2 hc)
    · exact .inl hc
  rw [if_pos this]
/-! ### How many bytes are read -/
theorem wrong_e {s : SrcZ} {x : Int} (hx : x ≠ 0) : (wrongZ s x).e ≠ 0 := by
  unfold wrongZ; split
  · exact hx
  · assumption
theorem take_eats {s : SrcZ} {n : Int} (h : (takeZ s n).2.e = 0) : s.e = 0 ∧ 0 ≤ n ∧ (s.b.length : Int) = n + (takeZ s n).2.b.length ∧ ((takeZ s n).1.length : Int) = n := by
  unfold takeZ at h ⊢
  split at h
  · rename_i hn
    rw [if_pos hn]
    refine ⟨h, hn.1, ?_, ?_⟩
    · show (s.b.length : Int) = n + ((s.b.drop n.toNat).length : Int)
      rw [List.length_drop]; omega
    · show ((s.b.take n.toNat).length : Int) = n
      rw [List.length_take]; omega
  · exact absurd h (wrong_e (by decide))
theorem num_eats {s : SrcZ} {k : Nat} (h : (numZ s k).2.e = 0) : s.e = 0 ∧ s.b.length = k + (numZ s k).2.b.length := by
  obtain ⟨h1, _, h2, _⟩ := take_eats (n := k) h
  exact ⟨h1, by show s.b.length = k + (takeZ s k).2.b.length; omega⟩
theorem leZ_bd : ∀ {l : List Int}, bytesOk l → 0 ≤ leZ l ∧ leZ l < 256 ^ l.length
  | [], _ => by simp [leZ]
  | n :: l, h => by
    have h1 := h n (.head _)
    have h2 := leZ_bd (l := l) fun x hx => h x (.tail _ hx)
    simp only [leZ, List.length_cons, Int.pow_succ]
    omega
theorem num_bd {s : SrcZ} {k : Nat} (h : bytesOk s.b) : 0 ≤ (numZ s k).1 ∧ (numZ s k).1 < 256 ^ k := by
  unfold numZ takeZ
  split
  · rename_i hk
    have := leZ_bd (h.take (k : Int).toNat)
    rw [show (s.b.take (k : Int).toNat).length = k by rw [List.length_take]; omega] at this
    exact this
  · simp only [leZ]
    exact ⟨by omega, Int.pow_pos (by decide)⟩
theorem take_okb {s : SrcZ} (h : bytesOk s.b) (n : Int) : bytesOk (takeZ s n).2.b := by
  unfold takeZ; split
  · exact h.drop _
  · unfold wrongZ; split
    · exact .nil
    · exact h
theorem index_eats {s : SrcZ} (hb : bytesOk s.b) (h : (indexZ s).2.e = 0) : s.e = 0 ∧ (idxN (indexZ s).1).length + (indexZ s).2.b.length ≤ s.b.length ∧ (0 ≤ (indexZ s).1 ∧ (indexZ s).1 ≤ 32767) := by
  have hn := num_bd (k := 1) hb
  have hbd : 0 ≤ (numZ s 1).1 ∧ (numZ s 1).1 ≤ 255 := by
    have : (256 : Int) ^ 1 = 256 := by decide
    omega
  unfold indexZ at h ⊢
  split at h
  · rename_i hs
    rw [if_pos hs]
    obtain ⟨h1, h2⟩ := num_eats h
    refine ⟨h1, ?_, by omega, by omega⟩
    have h3 : idxN (numZ s 1).1 = [(numZ s 1).1] := by
      have hc : clipI (numZ s 1).1 = (numZ s 1).1 := if_neg (by omega)
      unfold idxN
      rw [hc]
      exact if_pos hs
    rw [h3, h2]
    simp
  · rename_i hs
    rw [if_neg hs]
    have hk := take_okb (take_okb hb ((1 : Nat) : Int)) 1
    have h2b : bytesOk (takeZ (numZ s 1).2 1).1 := by
      unfold takeZ; split
      · exact (take_okb hb ((1 : Nat) : Int)).take _
      · exact .nil
    generalize hg : (takeZ (numZ s 1).2 1).1 = g at h h2b ⊢
    have h0 : (takeZ (numZ s 1).2 1).2.e = 0 := by
      cases g <;> exact h
    obtain ⟨h1, _, h2, h3⟩ := take_eats h0
    obtain ⟨h4, h5⟩ := num_eats h1
    rw [hg] at h3
    match g, h3 with
    | [x], _ =>
      have hx := h2b x (.head _)
      dsimp only
      have h6 := (idxN_len (((numZ s 1).1 - 128) * 256 + x)).2
      exact ⟨h4, by omega, by omega, by omega⟩
theorem index_okb {s : SrcZ} (hb : bytesOk s.b) : bytesOk (indexZ s).2.b := by
  unfold indexZ
  split
  · exact take_okb hb _
  · split
    · exact take_okb (take_okb hb _) _
    · exact take_okb (take_okb hb _) _
theorem num_okb {s : SrcZ} (hb : bytesOk s.b) (k : Nat) : bytesOk (numZ s k).2.b := take_okb hb _
theorem seg_some {bs : List Int} {d : SegZ} (hb : bytesOk bs) (h : segOf bs = some d) : MayS d ∧ d.ok ∧ (segB d).length ≤ bs.length := by
  unfold segOf at h
  split at h
  · rename_i hg
    obtain rfl := Option.some.inj h
    unfold goodS at hg
    simp only [Bool.and_eq_true, decide_eq_true_eq] at hg
    obtain ⟨⟨⟨⟨he, _⟩, _⟩, _⟩, hm⟩ := hg
    have hm := (mayS_iff _).1 hm
    have b0 : bytesOk (numZ ⟨bs, 0⟩ 1).2.b := num_okb hb 1
    have n0 := num_bd (s := ⟨bs, 0⟩) (k := 1) hb
    have n0' : 0 ≤ (numZ ⟨bs, 0⟩ 1).1 ∧ (numZ ⟨bs, 0⟩ 1).1 ≤ 255 := by
      have : (256 : Int) ^ 1 = 256 := by decide
      omega
    unfold gotS at he hm ⊢
    dsimp only at he hm ⊢
    generalize hp0 : numZ ⟨bs, 0⟩ 1 = p0 at *
    generalize hp1 : (if p0.1 / 32 = 0 then numZ p0.2 2 else (0, p0.2)) = p1 at *
    generalize hp2 : (if p0.1 / 32 = 0 then numZ p1.2 1 else (0, p1.2)) = p2 at *
    have b1 : bytesOk p1.2.b := by
      rw [← hp1]; split
      · exact num_okb b0 2
      · exact b0
    have b2 : bytesOk p2.2.b := by
      rw [← hp2]; split
      · exact num_okb b1 1
      · exact b1
    have r1 : 0 ≤ p1.1 ∧ p1.1 ≤ 65535 := by
      rw [← hp1]; split
      · have := num_bd (k := 2) b0
        have e : (256 : Int) ^ 2 = 65536 := by decide
        omega
      · exact ⟨show (0 : Int) ≤ 0 by decide, show (0 : Int) ≤ 65535 by decide⟩
    have r2 : 0 ≤ p2.1 ∧ p2.1 ≤ 255 := by
      rw [← hp2]; split
      · have := num_bd (k := 1) b1
        have e : (256 : Int) ^ 1 = 256 := by decide
        omega
      · exact ⟨show (0 : Int) ≤ 0 by decide, show (0 : Int) ≤ 255 by decide⟩
    have b3 := num_okb b2 2
    have b4 := index_okb b3
    have b5 := index_okb b4
    obtain ⟨e5, l6, i6⟩ := index_eats b5 he
    obtain ⟨e4, l5, i5⟩ := index_eats b4 e5
    obtain ⟨e3, l4, i4⟩ := index_eats b3 e4
    obtain ⟨e2, l3⟩ := num_eats e3
    have h12 : p0.2.e = 0 ∧ p0.2.b.length = (if p0.1 / 32 = 0 then 3 else 0) + p2.2.b.length := by
      by_cases ha : p0.1 / 32 = 0
      · rw [if_pos ha] at hp1 hp2 ⊢
        rw [← hp2] at e2 ⊢
        obtain ⟨f1, f2⟩ := num_eats e2
        rw [← hp1] at f1 f2 ⊢
        obtain ⟨f3, f4⟩ := num_eats f1
        exact ⟨f3, by omega⟩
      · rw [if_neg ha] at hp1 hp2 ⊢
        rw [← hp2, ← hp1] at e2 ⊢
        exact ⟨e2, by simp⟩
    have h0 : bs.length = 1 + p0.2.b.length := by
      have h := num_eats (s := ⟨bs, 0⟩) (k := 1) (by rw [hp0]; exact h12.1)
      rw [hp0] at h
      exact h.2
    have r3 : 0 ≤ (numZ p2.2 2).1 ∧ (numZ p2.2 2).1 ≤ 65535 := by
      have := num_bd (k := 2) b2
      have e : (256 : Int) ^ 2 = 65536 := by decide
      omega
    refine ⟨hm, ⟨by dsimp only; omega, by dsimp only; omega, r1, r2, ?_, by dsimp only; omega, by dsimp only; omega, by dsimp only; omega⟩, ?_⟩
    · dsimp only; split <;> omega
    · unfold segB
      simp only [List.length_cons, List.length_append, placeB_len, bytesN_len]
      omega
  · exact nomatch h
/-! ### A group -/
def grpB (n : Int) (l : List Int) : List Int := idxN n ++ l.flatMap fun x => 255 :: idxN x
def grpZ : Nat → SrcZ → List Int × Int
  | 0, s => ([], s.e)
  | n + 1, s => if s.b = [] then ([], s.e) else if (numZ s 1).1 = 255 then ((indexZ (numZ s 1).2).1 :: (grpZ n (indexZ (numZ s 1).2).2).1, (grpZ n (indexZ (numZ s 1).2).2).2) else ([], 3)
def grpR (bs : List Int) : (Int × List Int) × Int :=
  if (grpZ (indexZ ⟨bs, 0⟩).2.b.length (indexZ ⟨bs, 0⟩).2).2 = 0 then (((indexZ ⟨bs, 0⟩).1, (grpZ (indexZ ⟨bs, 0⟩).2.b.length (indexZ ⟨bs, 0⟩).2).1), 0) else ((0, []), (grpZ (indexZ ⟨bs, 0⟩).2.b.length (indexZ ⟨bs, 0⟩).2).2)
theorem grpZ_nil (n : Nat) (e : Int) : grpZ n ⟨[], e⟩ = ([], e) := by cases n <;> rfl
theorem grpZ_back (r : List Int) (q : List Int × Int) : ∀ {l : List Int} (n : Nat), (∀ x ∈ l, 0 ≤ x ∧ x ≤ 32767) → (l.flatMap fun x => 255 :: idxN x).length + r.length ≤ n → (∀ m, r.length ≤ m → grpZ m ⟨r, 0⟩ = q) →
    grpZ n ⟨(l.flatMap fun x => 255 :: idxN x) ++ r, 0⟩ = (l ++ q.1, q.2)
  | [], n, _, hn, hq => by rw [List.flatMap_nil, List.nil_append, hq n (by simpa using hn)]; rfl
  | x :: l, n, h, hn, hq => by
    have h1 := idxN_len x
    rw [List.flatMap_cons, List.length_append, List.length_cons] at hn
    obtain ⟨m, rfl⟩ : ∃ m, n = m + 1 := ⟨n - 1, by omega⟩
    rw [List.flatMap_cons, List.append_assoc, List.cons_append]
    unfold grpZ
    rw [if_neg (by simp), num_one]
    dsimp only
    rw [if_pos rfl, index_back (h x (.head _))]
    dsimp only
    rw [grpZ_back r q m (fun y hy => h y (.tail _ hy)) (by omega) hq]
    rfl
theorem grp_back {n : Int} {l : List Int} (hn : 0 ≤ n ∧ n ≤ 32767) (h : ∀ x ∈ l, 0 ≤ x ∧ x ≤ 32767) : grpR (grpB n l) = ((n, l), 0) := by
  have := grpZ_back [] ([], 0) (l := l) (l.flatMap fun x => 255 :: idxN x).length h (by simp) (fun m _ => grpZ_nil m 0)
  rw [List.append_nil, List.append_nil] at this
  unfold grpR grpB
  rw [index_back hn]
  dsimp only
  rw [this]
  rfl
theorem grp_more {n : Int} {l : List Int} {x y : Int} (hn : 0 ≤ n ∧ n ≤ 32767) (h : ∀ x ∈ l, 0 ≤ x ∧ x ≤ 32767) (hx : x ≠ 255) : grpR (grpB n l ++ [x, y]) = ((0, []), 3) := by
  have hq : ∀ m, [x, y].length ≤ m → grpZ m ⟨[x, y], 0⟩ = ([], 3) := by
    intro m hm
    obtain ⟨j, rfl⟩ : ∃ j, m = j + 1 := ⟨m - 1, by simp at hm; omega⟩
    unfold grpZ
    rw [if_neg (by simp), num_one]
    dsimp only
    rw [if_neg hx]
  have := grpZ_back [x, y] ([], 3) (l := l) ((l.flatMap fun x => 255 :: idxN x) ++ [x, y]).length h (by simp) hq
  unfold grpR grpB
  rw [List.append_assoc, index_back hn]
  dsimp only
  rw [this]
  rfl
theorem grpB_ok (n : Int) : ∀ (l : List Int), bytesOk (grpB n l) := fun l => (idxN_ok n).append (by
  induction l with
  | nil => exact .nil
  | cons x l ih => rw [List.flatMap_cons]; exact (bytesOk.cons (by decide) (idxN_ok x)).append ih)
theorem grpB_len (n : Int) (l : List Int) : 1 ≤ (grpB n l).length ∧ (grpB n l).length ≤ 2 + l.length * 3 := by
  have h1 := idxN_len n
  have : (l.flatMap fun x => 255 :: idxN x).length ≤ l.length * 3 := by
    induction l with
    | nil => simp
    | cons x l ih =>
      have := idxN_len x
      rw [List.flatMap_cons, List.length_append, List.length_cons, List.length_cons]; omega
  unfold grpB
  rw [List.length_append]; omega
def stepS (n : Int) : Int := if n = 2 then 2 else if n = 3 then 16 else if n = 4 then 256 else 1
end Go.Proofs.Ytimciiaajlfkoaa
