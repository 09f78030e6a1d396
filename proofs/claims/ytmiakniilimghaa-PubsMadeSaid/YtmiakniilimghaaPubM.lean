/- What the functions of package pubs come to: plain mathematics over a source as a state. No statement of the seat is proved here. -/
import Derived.Test.YtmiakniilimghaaIdxM
namespace Go.Proofs.Ytmiakniilimghaa
open Go.ChangeShapes Go.WideShapes Go.ChangeAt Go.RowKit
set_option linter.unusedVariables false
set_option linter.unusedSimpArgs false

/-! ### What is given -/
structure PubZ where
  g : Int
  s : Int
  f : Int
  nm : List Int
  o : Nat
def PubZ.ok (p : PubZ) : Prop := (-9223372036854775808 ≤ p.g ∧ p.g ≤ 9223372036854775807) ∧ (-9223372036854775808 ≤ p.s ∧ p.s ≤ 9223372036854775807) ∧ (0 ≤ p.f ∧ p.f ≤ 65535) ∧ bytesOk p.nm ∧ p.o ≤ 65535
def zeroP : PubZ := ⟨0, 0, 0, [], 0⟩
def cellsPub (p : PubZ) : List Value := [.int .i64 p.g, .int .i64 p.s, .int .u16 p.f, .string (strOfNums p.nm), .int .u16 p.o]
def pubB (p : PubZ) : List Int := nam18 p.nm ++ (bytesN p.o 2 ++ [0])
def headB (p : PubZ) : List Int := idxN p.g ++ (idxN p.s ++ (if p.s = 0 then bytesN p.f.toNat 2 else []))
def pubsB : List PubZ → List Int
  | [] => []
  | p :: l => headB p ++ (p :: l).flatMap pubB
def givZ (g s f : Int) : Nat → SrcZ → List PubZ × Int
  | 0, z => ([], z.e)
  | n + 1, z => if z.b = [] then ([], z.e) else
    (⟨g, s, f, (nameZ z).1, (numZ (nameZ z).2 2).1.toNat⟩ :: (givZ g s f n (indexZ (numZ (nameZ z).2 2).2).2).1, (givZ g s f n (indexZ (numZ (nameZ z).2 2).2).2).2)
def givH (bs : List Int) : Int × Int × Int × SrcZ :=
  let p0 := indexZ ⟨bs, 0⟩
  let p1 := indexZ p0.2
  let p2 := if p1.1 = 0 then numZ p1.2 2 else (0, p1.2)
  (p0.1, p1.1, p2.1, p2.2)
def givQ (bs : List Int) : List PubZ × Int := givZ (givH bs).1 (givH bs).2.1 (givH bs).2.2.1 (givH bs).2.2.2.b.length (givH bs).2.2.2
def givR (bs : List Int) : List PubZ × Int := if (givQ bs).2 = 0 then ((givQ bs).1, 0) else ([], (givQ bs).2)
/-- All of one group, segment and frame. -/
def Alike (g s f : Int) (l : List PubZ) : Prop := ∀ p ∈ l, p.g = g ∧ p.s = s ∧ p.f = f ∧ p.nm.length ≤ 255 ∧ p.o ≤ 65535
theorem givZ_succ (g s f : Int) (n : Nat) (z : SrcZ) : givZ g s f (n + 1) z = if z.b = [] then ([], z.e) else
    (⟨g, s, f, (nameZ z).1, (numZ (nameZ z).2 2).1.toNat⟩ :: (givZ g s f n (indexZ (numZ (nameZ z).2 2).2).2).1, (givZ g s f n (indexZ (numZ (nameZ z).2 2).2).2).2) := rfl
theorem givZ_nil (g s f : Int) (n : Nat) (e : Int) : givZ g s f n ⟨[], e⟩ = ([], e) := by cases n <;> rfl
theorem index_zero (r : List Int) (e : Int) : indexZ ⟨0 :: r, e⟩ = (0, ⟨r, e⟩) := by
  unfold indexZ
  rw [num_one]
  rfl
theorem index_none (e : Int) : (indexZ ⟨[], e⟩).2 = wrongZ ⟨[], e⟩ 2 := by
  unfold indexZ
  rw [num_none (by decide)]
  rfl
theorem pubB_len (p : PubZ) : 4 ≤ (pubB p).length ∧ (p.nm.length ≤ 255 → (pubB p).length = p.nm.length + 4) := by
  have := nam18_len p.nm
  unfold pubB
  simp only [List.length_append, bytesN_len, List.length_cons, List.length_nil]
  omega
theorem pubB_ok {p : PubZ} (h : bytesOk p.nm) : bytesOk (pubB p) := (nam18_ok h).append ((bytesN_ok _ _).append (.cons (by decide) .nil))
theorem headB_ok (p : PubZ) : bytesOk (headB p) := by
  refine (idxN_ok _).append ((idxN_ok _).append ?_)
  split
  · exact bytesN_ok _ _
  · exact .nil
theorem headB_len (p : PubZ) : 2 ≤ (headB p).length ∧ (headB p).length ≤ 6 := by
  have h1 := idxN_len p.g; have h2 := idxN_len p.s
  unfold headB
  simp only [List.length_append]
  split
  · rw [bytesN_len]; omega
  · simp; omega
theorem pubs_ok : ∀ {l : List PubZ}, (∀ p ∈ l, bytesOk p.nm) → bytesOk (l.flatMap pubB)
  | [], _ => .nil
  | p :: l, h => (pubB_ok (h p (.head _))).append (pubs_ok fun q hq => h q (.tail _ hq))
theorem pubsB_ok {l : List PubZ} (h : ∀ p ∈ l, bytesOk p.nm) : bytesOk (pubsB l) := by
  cases l with
  | nil => exact .nil
  | cons p l => exact (headB_ok p).append (pubs_ok h)
theorem pubs_len : ∀ {l : List PubZ}, (∀ p ∈ l, p.nm.length ≤ 40) → (l.flatMap pubB).length ≤ l.length * 44
  | [], _ => by simp
  | p :: l, h => by
    have h1 := (pubB_len p).2 (by have := h p (.head _); omega)
    have h2 := h p (.head _)
    have h3 := pubs_len (l := l) fun q hq => h q (.tail _ hq)
    simp only [List.flatMap_cons, List.length_append, List.length_cons]; omega
theorem pubsB_len {l : List PubZ} (h : ∀ p ∈ l, p.nm.length ≤ 40) : (pubsB l).length ≤ 6 + l.length * 44 := by
  cases l with
  | nil => simp [pubsB]
  | cons p l =>
    have h1 := (headB_len p).2
    have h2 := pubs_len h
    unfold pubsB
    rw [List.length_append]; omega
theorem pub_one {g s f : Int} {p : PubZ} (h : p.g = g ∧ p.s = s ∧ p.f = f ∧ p.nm.length ≤ 255 ∧ p.o ≤ 65535) (n : Nat) (r : List Int) (e : Int) :
    givZ g s f (n + 1) ⟨pubB p ++ r, e⟩ = (p :: (givZ g s f n ⟨r, e⟩).1, (givZ g s f n ⟨r, e⟩).2) := by
  obtain ⟨h1, h2, h3, h4, h5⟩ := h
  have hne : pubB p ++ r ≠ [] := by simp [pubB, nam18]
  have hnum : numZ ⟨bytesN p.o 2 ++ ([0] ++ r), e⟩ 2 = ((p.o : Int), ⟨[0] ++ r, e⟩) := by
    rw [num_back]; congr 1; omega
  rw [givZ_succ]
  rw [if_neg hne]
  unfold pubB
  rw [List.append_assoc, List.append_assoc, name_back h4]
  dsimp only
  rw [hnum]
  dsimp only
  rw [show [0] ++ r = 0 :: r from rfl, index_zero]
  dsimp only
  rw [Int.toNat_natCast]
  subst h1 h2 h3
  rfl
theorem givZ_back {g s f : Int} : ∀ {l : List PubZ} (n : Nat), Alike g s f l → (l.flatMap pubB).length ≤ n → givZ g s f n ⟨l.flatMap pubB, 0⟩ = (l, 0)
  | [], n, _, _ => givZ_nil g s f n 0
  | p :: l, n, h, hn => by
    have h1 := (pubB_len p).1
    rw [List.flatMap_cons, List.length_append] at hn
    obtain ⟨m, rfl⟩ : ∃ m, n = m + 1 := ⟨n - 1, by omega⟩
    rw [List.flatMap_cons, pub_one (h p (.head _)), givZ_back m (fun q hq => h q (.tail _ hq)) (by omega)]
theorem pub_short {g s f : Int} {p : PubZ} (h : p.nm.length ≤ 255) (n : Nat) : (givZ g s f (n + 1) ⟨(pubB p).take ((pubB p).length - 1), 0⟩).2 = 2 := by
  have hl := (pubB_len p).2 h
  have ht : (pubB p).take ((pubB p).length - 1) = nam18 p.nm ++ (bytesN p.o 2 ++ []) := by
    have h2 : (nam18 p.nm ++ bytesN p.o 2).length = (pubB p).length - 1 := by
      unfold pubB; simp only [List.length_append, List.length_cons, List.length_nil]; omega
    have h3 : pubB p = (nam18 p.nm ++ bytesN p.o 2) ++ [0] := by unfold pubB; simp
    rw [h3, ← h3, List.append_nil]
    conv => lhs; rw [h3, show ((nam18 p.nm ++ bytesN p.o 2) ++ [(0 : Int)]).length - 1 = (nam18 p.nm ++ bytesN p.o 2).length by simp]
    exact List.take_left
  rw [ht]
  rw [givZ_succ]
  rw [if_neg (by simp [nam18]), name_back h]
  dsimp only
  rw [num_back]
  dsimp only
  rw [index_none]
  have : wrongZ ⟨[], 0⟩ 2 = ⟨[], 2⟩ := rfl
  rw [this, givZ_nil]
theorem givZ_less {g s f : Int} : ∀ {l : List PubZ} (n : Nat), Alike g s f l → l ≠ [] → (l.flatMap pubB).length ≤ n + 1 → (givZ g s f n ⟨(l.flatMap pubB).take ((l.flatMap pubB).length - 1), 0⟩).2 = 2
  | [], _, _, h, _ => absurd rfl h
  | [p], n, h, _, hn => by
    have h1 := (pubB_len p).1
    rw [show [p].flatMap pubB = pubB p by simp] at hn ⊢
    obtain ⟨m, rfl⟩ : ∃ m, n = m + 1 := ⟨n - 1, by omega⟩
    exact pub_short (h p (.head _)).2.2.2.1 m
  | p :: q :: l, n, h, _, hn => by
    have h1 := (pubB_len p).1
    have h2 := (pubB_len q).1
    have hq : 4 ≤ ((q :: l).flatMap pubB).length := by rw [List.flatMap_cons, List.length_append]; omega
    rw [List.flatMap_cons, List.length_append] at hn ⊢
    obtain ⟨m, rfl⟩ : ∃ m, n = m + 1 := ⟨n - 1, by omega⟩
    rw [show (pubB p).length + ((q :: l).flatMap pubB).length - 1 = (pubB p).length + (((q :: l).flatMap pubB).length - 1) by omega, List.take_length_add_append, pub_one (h p (.head _))]
    exact givZ_less m (fun x hx => h x (.tail _ hx)) (by simp) (by omega)
theorem givH_back {p : PubZ} (hg : 0 ≤ p.g ∧ p.g ≤ 32767) (hs : 0 ≤ p.s ∧ p.s ≤ 32767) (hf : 0 ≤ p.f ∧ p.f ≤ 65535) (h0 : p.s = 0 ∨ p.f = 0) (r : List Int) : givH (headB p ++ r) = (p.g, p.s, p.f, ⟨r, 0⟩) := by
  unfold givH headB
  rw [List.append_assoc, index_back hg]
  dsimp only
  rw [List.append_assoc, index_back hs]
  dsimp only
  by_cases hz : p.s = 0
  · rw [if_pos hz, if_pos hz, num_back]
    congr 1; congr 1; congr 1
    omega
  · rw [if_neg hz, if_neg hz, List.nil_append, h0.resolve_left hz]
theorem giv_back {p : PubZ} {l : List PubZ} (hg : 0 ≤ p.g ∧ p.g ≤ 32767) (hs : 0 ≤ p.s ∧ p.s ≤ 32767) (hf : 0 ≤ p.f ∧ p.f ≤ 65535) (h0 : p.s = 0 ∨ p.f = 0) (ha : Alike p.g p.s p.f (p :: l)) : givR (pubsB (p :: l)) = (p :: l, 0) := by
  have h1 : givQ (pubsB (p :: l)) = (p :: l, 0) := by
    unfold givQ pubsB
    rw [givH_back hg hs hf h0]
    exact givZ_back _ ha (Nat.le_refl _)
  unfold givR
  rw [h1]
  rfl
theorem giv_less {p : PubZ} {l : List PubZ} (hg : 0 ≤ p.g ∧ p.g ≤ 32767) (hs : 0 ≤ p.s ∧ p.s ≤ 32767) (hf : 0 ≤ p.f ∧ p.f ≤ 65535) (h0 : p.s = 0 ∨ p.f = 0) (ha : Alike p.g p.s p.f (p :: l)) : givR ((pubsB (p :: l)).take ((pubsB (p :: l)).length - 1)) = ([], 2) := by
  have h3 : 4 ≤ ((p :: l).flatMap pubB).length := by rw [List.flatMap_cons, List.length_append]; have := (pubB_len p).1; omega
  have h1 : (givQ ((pubsB (p :: l)).take ((pubsB (p :: l)).length - 1))).2 = 2 := by
    unfold givQ pubsB
    rw [List.length_append, show (headB p).length + ((p :: l).flatMap pubB).length - 1 = (headB p).length + (((p :: l).flatMap pubB).length - 1) by omega, List.take_length_add_append, givH_back hg hs hf h0]
    dsimp only
    exact givZ_less _ ha (by simp) (by rw [List.length_take]; omega)
  unfold givR
  rw [h1]
  rfl
/-! ### What is taken -/
structure ExtZ where
  nm : List Int
  c : Int
  l : Nat
def ExtZ.ok (x : ExtZ) : Prop := bytesOk x.nm ∧ (-9223372036854775808 ≤ x.c ∧ x.c ≤ 9223372036854775807) ∧ x.l ≤ 4294967295
def cellsExt (x : ExtZ) : List Value := [.string (strOfNums x.nm), .int .i64 x.c, .int .u32 x.l]
def zeroX : ExtZ := ⟨[], 0, 0⟩
def takB (t : List Int) : List Int := nam18 t ++ [0]
def takZ : Nat → SrcZ → List ExtZ × Int
  | 0, z => ([], z.e)
  | n + 1, z => if z.b = [] then ([], z.e) else (⟨(nameZ z).1, 0, 0⟩ :: (takZ n (indexZ (nameZ z).2).2).1, (takZ n (indexZ (nameZ z).2).2).2)
def takR (bs : List Int) : List ExtZ × Int := if (takZ bs.length ⟨bs, 0⟩).2 = 0 then ((takZ bs.length ⟨bs, 0⟩).1, 0) else ([], (takZ bs.length ⟨bs, 0⟩).2)
def bare (t : List Int) : ExtZ := ⟨t, 0, 0⟩
theorem takZ_succ (n : Nat) (z : SrcZ) : takZ (n + 1) z = if z.b = [] then ([], z.e) else (⟨(nameZ z).1, 0, 0⟩ :: (takZ n (indexZ (nameZ z).2).2).1, (takZ n (indexZ (nameZ z).2).2).2) := rfl
theorem takZ_nil (n : Nat) (e : Int) : takZ n ⟨[], e⟩ = ([], e) := by cases n <;> rfl
theorem takB_len (t : List Int) : (takB t).length = min 255 t.length + 2 := by unfold takB; rw [List.length_append, nam18_len]; rfl
theorem takB_ok {t : List Int} (h : bytesOk t) : bytesOk (takB t) := (nam18_ok h).append (.cons (by decide) .nil)
theorem tak_one {t : List Int} (h : t.length ≤ 255) (n : Nat) (r : List Int) (e : Int) : takZ (n + 1) ⟨takB t ++ r, e⟩ = (bare t :: (takZ n ⟨r, e⟩).1, (takZ n ⟨r, e⟩).2) := by
  rw [takZ_succ]
  rw [if_neg (by simp [takB, nam18])]
  unfold takB
  rw [List.append_assoc, name_back h]
  dsimp only
  rw [show [0] ++ r = 0 :: r from rfl, index_zero]
  rfl
theorem takZ_back : ∀ {l : List (List Int)} (n : Nat), (∀ t ∈ l, t.length ≤ 255) → (l.flatMap takB).length ≤ n → takZ n ⟨l.flatMap takB, 0⟩ = (l.map bare, 0)
  | [], n, _, _ => takZ_nil n 0
  | t :: l, n, h, hn => by
    have h1 := takB_len t
    rw [List.flatMap_cons, List.length_append] at hn
    obtain ⟨m, rfl⟩ : ∃ m, n = m + 1 := ⟨n - 1, by omega⟩
    rw [List.flatMap_cons, tak_one (h t (.head _)), takZ_back m (fun q hq => h q (.tail _ hq)) (by omega)]
    rfl
theorem tak_back {l : List (List Int)} (h : ∀ t ∈ l, t.length ≤ 255) : takR (l.flatMap takB) = (l.map bare, 0) := by
  unfold takR
  rw [takZ_back _ h (Nat.le_refl _)]
  rfl
theorem name_short22 {ts : List Int} (h : ts.length ≤ 255) {k : Nat} (h0 : 0 < k) (hk : k < (nam18 ts).length) : nameZ ⟨(nam18 ts).take k, 0⟩ = ([], ⟨[], 2⟩) := by
  have hn : nam18 ts = (ts.length : Int) :: ts := by unfold nam18; rw [List.take_of_length_le h]
  rw [hn] at hk ⊢
  obtain ⟨j, rfl⟩ : ∃ j, k = j + 1 := ⟨k - 1, by omega⟩
  rw [List.take_succ_cons]
  unfold nameZ
  rw [num_one]
  dsimp only
  rw [take_short (.inr (by simp only [List.length_take, List.length_cons] at hk ⊢; omega))]
  rfl
theorem wr22 : wrongZ ⟨[], 2⟩ 2 = ⟨[], 2⟩ := rfl
theorem wr02 : wrongZ ⟨[], 0⟩ 2 = ⟨[], 2⟩ := rfl
theorem takZ_cut : ∀ {l : List (List Int)} (n k : Nat), (∀ t ∈ l, t.length ≤ 255) → k ≤ n →
    ((takZ n ⟨(l.flatMap takB).take k, 0⟩).2 = 0 ∧ (takZ n ⟨(l.flatMap takB).take k, 0⟩).1.length ≤ l.length) ∨ (takZ n ⟨(l.flatMap takB).take k, 0⟩).2 = 2
  | [], n, k, _, _ => by rw [List.flatMap_nil, List.take_nil, takZ_nil]; exact .inl ⟨rfl, Nat.le_refl _⟩
  | t :: l, n, k, h, hn => by
    have h1 := takB_len t
    have ht := h t (.head _)
    have hn18 := nam18_len t
    rcases Nat.eq_zero_or_pos k with rfl | h0
    · rw [List.take_zero, takZ_nil]; exact .inl ⟨rfl, Nat.zero_le _⟩
    obtain ⟨m, rfl⟩ : ∃ m, n = m + 1 := ⟨n - 1, by omega⟩
    rw [List.flatMap_cons]
    by_cases hk : k < (takB t).length
    · rw [List.take_append_of_le_length (by omega)]
      have h2 : ((takB t).take k) ≠ [] := by
        intro hc
        have := congrArg List.length hc
        rw [List.length_take, List.length_nil] at this
        omega
      rw [takZ_succ]
      rw [if_neg h2]
      by_cases hk2 : k < (nam18 t).length
      · rw [show (takB t).take k = (nam18 t).take k by unfold takB; rw [List.take_append_of_le_length (by omega)], name_short22 ht h0 hk2]
        dsimp only
        rw [index_none, wr22, takZ_nil]
        exact .inr rfl
      · rw [show (takB t).take k = nam18 t ++ [] by unfold takB; rw [show k = (nam18 t).length by omega, List.take_left, List.append_nil], name_back ht]
        dsimp only
        rw [index_none, wr02, takZ_nil]
        exact .inr rfl
    · obtain ⟨j, rfl⟩ : ∃ j, k = (takB t).length + j := ⟨k - (takB t).length, by omega⟩
      rw [List.take_length_add_append, tak_one ht]
      rcases takZ_cut (l := l) m j (fun x hx => h x (.tail _ hx)) (by omega) with ⟨a, b⟩ | a
      · exact .inl ⟨a, by simp only [List.length_cons]; omega⟩
      · exact .inr a
theorem tak_cut {l : List (List Int)} (k : Nat) (h : ∀ t ∈ l, t.length ≤ 255) (hk : k ≤ (l.flatMap takB).length) :
    ((takR ((l.flatMap takB).take k)).2 = 0 ∧ (takR ((l.flatMap takB).take k)).1.length ≤ l.length) ∨ ((takR ((l.flatMap takB).take k)).2 = 2 ∧ (takR ((l.flatMap takB).take k)).1 = []) := by
  have h1 : ((l.flatMap takB).take k).length = k := by rw [List.length_take]; omega
  unfold takR
  rw [h1]
  rcases takZ_cut k k h (Nat.le_refl _) with ⟨a, b⟩ | a
  · rw [if_pos a]; exact .inl ⟨rfl, b⟩
  · rw [if_neg (by rw [a]; decide)]; exact .inr ⟨a, rfl⟩
/-! ### What may be made -/
def madB (x : ExtZ) : List Int := nam18 x.nm ++ (0 :: (if x.c = 97 then 97 :: (longN x.l ++ [1]) else 98 :: longN x.l))
/-- How long one is, or what is wrong. -/
def madL (c : Int) (z : SrcZ) : Int × SrcZ :=
  if c = 98 then longZ z else if c = 97 then ((longZ z).1 * (longZ (longZ z).2).1, (longZ (longZ z).2).2) else (0, wrongZ z 3)
def madG (r : Int × SrcZ) : SrcZ := if 1048576 < r.1 then wrongZ r.2 8 else r.2
def madC (z : SrcZ) : Int × SrcZ := numZ (indexZ (nameZ z).2).2 1
def madZ : Nat → SrcZ → List ExtZ × Int
  | 0, z => ([], z.e)
  | n + 1, z => if z.b = [] then ([], z.e) else
    (⟨(nameZ z).1, (madC z).1, (madL (madC z).1 (madC z).2).1.toNat⟩ :: (madZ n (madG (madL (madC z).1 (madC z).2))).1, (madZ n (madG (madL (madC z).1 (madC z).2))).2)
def madR (bs : List Int) : List ExtZ × Int := if (madZ bs.length ⟨bs, 0⟩).2 = 0 then ((madZ bs.length ⟨bs, 0⟩).1, 0) else ([], (madZ bs.length ⟨bs, 0⟩).2)
theorem madZ_succ (n : Nat) (z : SrcZ) : madZ (n + 1) z = if z.b = [] then ([], z.e) else
    (⟨(nameZ z).1, (madC z).1, (madL (madC z).1 (madC z).2).1.toNat⟩ :: (madZ n (madG (madL (madC z).1 (madC z).2))).1, (madZ n (madG (madL (madC z).1 (madC z).2))).2) := rfl
theorem madZ_nil (n : Nat) (e : Int) : madZ n ⟨[], e⟩ = ([], e) := by cases n <;> rfl
def ExtZ.may (x : ExtZ) : Prop := x.nm.length ≤ 255 ∧ (x.c = 97 ∨ x.c = 98) ∧ x.l ≤ 1048576
theorem long_one (r : List Int) (e : Int) : longZ ⟨1 :: r, e⟩ = (1, ⟨r, e⟩) := by
  unfold longZ
  rw [num_one]
  rfl
theorem madC_of {t : List Int} (h : t.length ≤ 255) (c : Int) (r : List Int) : nameZ ⟨nam18 t ++ (0 :: c :: r), 0⟩ = (t, ⟨0 :: c :: r, 0⟩) ∧ madC ⟨nam18 t ++ (0 :: c :: r), 0⟩ = (c, ⟨r, 0⟩) := by
  have h1 := name_back h (0 :: c :: r) 0
  refine ⟨h1, ?_⟩
  unfold madC
  rw [h1]
  dsimp only
  rw [index_zero]
  exact num_one
theorem mad_one {x : ExtZ} (h : x.may) (n : Nat) (r : List Int) : madZ (n + 1) ⟨madB x ++ r, 0⟩ = (x :: (madZ n ⟨r, 0⟩).1, (madZ n ⟨r, 0⟩).2) := by
  obtain ⟨h1, h2, h3⟩ := h
  have hne : madB x ++ r ≠ [] := by simp [madB, nam18]
  rw [madZ_succ]
  rw [if_neg hne]
  obtain ⟨nm, c, l⟩ := x
  dsimp only at h1 h2 h3
  have hg : madG ((l : Int), ⟨r, 0⟩) = ⟨r, 0⟩ := if_neg (by dsimp only; omega)
  rcases h2 with rfl | rfl
  · have e0 : madB ⟨nm, 97, l⟩ ++ r = nam18 nm ++ (0 :: 97 :: (longN l ++ (1 :: r))) := by unfold madB; simp
    obtain ⟨e1, e2⟩ := madC_of h1 97 (longN l ++ (1 :: r))
    have e3 : madL 97 ⟨longN l ++ (1 :: r), 0⟩ = ((l : Int), ⟨r, 0⟩) := by
      unfold madL
      rw [if_neg (by decide), if_pos rfl, long_back (by omega)]
      dsimp only
      rw [long_one]
      dsimp only
      rw [Int.mul_one]
    rw [e0, e1, e2]
    dsimp only
    rw [e3, hg]
    dsimp only
    rw [Int.toNat_natCast]
  · have e0 : madB ⟨nm, 98, l⟩ ++ r = nam18 nm ++ (0 :: 98 :: (longN l ++ r)) := by unfold madB; simp
    obtain ⟨e1, e2⟩ := madC_of h1 98 (longN l ++ r)
    have e3 : madL 98 ⟨longN l ++ r, 0⟩ = ((l : Int), ⟨r, 0⟩) := by
      unfold madL
      rw [if_pos rfl, long_back (by omega)]
    rw [e0, e1, e2]
    dsimp only
    rw [e3, hg]
    dsimp only
    rw [Int.toNat_natCast]
theorem madB_len (x : ExtZ) : 4 ≤ (madB x).length ∧ (x.nm.length ≤ 40 → (madB x).length ≤ 49) := by
  have h1 := nam18_len x.nm
  have h2 := longN_len x.l
  have h3 : 1 ≤ (longN x.l).length := by
    unfold longN
    split
    · simp [bytesN_len]
    split
    · simp
    split <;> simp
  unfold madB
  rw [List.length_append]
  split
  · simp only [List.length_cons, List.length_append, List.length_nil]; omega
  · simp only [List.length_cons]; omega
theorem madB_ok {x : ExtZ} (h : bytesOk x.nm) : bytesOk (madB x) := by
  refine (nam18_ok h).append (.cons (by decide) ?_)
  split
  · exact .cons (by decide) ((longN_ok _).append (.cons (by decide) .nil))
  · exact .cons (by decide) (longN_ok _)
theorem mads_ok : ∀ {l : List ExtZ}, (∀ x ∈ l, bytesOk x.nm) → bytesOk (l.flatMap madB)
  | [], _ => .nil
  | p :: l, h => (madB_ok (h p (.head _))).append (mads_ok fun q hq => h q (.tail _ hq))
theorem mads_len : ∀ {l : List ExtZ}, (∀ x ∈ l, x.nm.length ≤ 40) → (l.flatMap madB).length ≤ l.length * 49
  | [], _ => by simp
  | p :: l, h => by
    have h1 := (madB_len p).2 (h p (.head _))
    have h3 := mads_len (l := l) fun q hq => h q (.tail _ hq)
    simp only [List.flatMap_cons, List.length_append, List.length_cons]; omega
theorem madZ_back (r : List Int) (q : List ExtZ × Int) : ∀ {l : List ExtZ} (n : Nat), (∀ x ∈ l, x.may) → (l.flatMap madB).length + r.length ≤ n → (∀ m, r.length ≤ m → madZ m ⟨r, 0⟩ = q) → madZ n ⟨l.flatMap madB ++ r, 0⟩ = (l ++ q.1, q.2)
  | [], n, _, hn, hq => by rw [List.flatMap_nil, List.nil_append, hq n (by simpa using hn)]; rfl
  | x :: l, n, h, hn, hq => by
    have h1 := (madB_len x).1
    rw [List.flatMap_cons, List.length_append] at hn
    obtain ⟨m, rfl⟩ : ∃ m, n = m + 1 := ⟨n - 1, by omega⟩
    rw [List.flatMap_cons, List.append_assoc, mad_one (h x (.head _)), madZ_back r q m (fun y hy => h y (.tail _ hy)) (by omega) hq]
    rfl
theorem mad_back {l : List ExtZ} (h : ∀ x ∈ l, x.may) : madR (l.flatMap madB) = (l, 0) := by
  have := madZ_back [] ([], 0) (l := l) (l.flatMap madB).length h (by simp) (fun m _ => madZ_nil m 0)
  rw [List.append_nil, List.append_nil] at this
  unfold madR
  rw [this]
  rfl
def greatB (m : Nat) : List Int := nam18 [65] ++ (0 :: 97 :: (longN 1024 ++ (longN m ++ [])))
theorem mad_great {l : List ExtZ} (h : ∀ x ∈ l, x.may) {m : Nat} (hm : 1025 ≤ m ∧ m ≤ 66560) : madR (l.flatMap madB ++ greatB m) = ([], 8) := by
  have hq : ∀ k, (greatB m).length ≤ k → madZ k ⟨greatB m, 0⟩ = ([⟨[65], 97, 1024 * m⟩], 8) := by
    intro k hk
    obtain ⟨j, rfl⟩ : ∃ j, k = j + 1 := ⟨k - 1, by unfold greatB at hk; simp [nam18] at hk; omega⟩
    obtain ⟨e1, e2⟩ := madC_of (t := [65]) (by decide) 97 (longN 1024 ++ (longN m ++ []))
    have e3 : madL 97 ⟨longN 1024 ++ (longN m ++ []), 0⟩ = (((1024 * m : Nat) : Int), ⟨[], 0⟩) := by
      unfold madL
      rw [if_neg (by decide), if_pos rfl, long_back (by decide)]
      dsimp only
      rw [long_back (by omega)]
      dsimp only
      congr 1
    rw [madZ_succ]
    unfold greatB
    rw [if_neg (by simp [nam18]), e1, e2]
    dsimp only
    rw [e3]
    have hg : madG (((1024 * m : Nat) : Int), ⟨[], 0⟩) = ⟨[], 8⟩ := by
      unfold madG
      rw [if_pos (by dsimp only; omega)]
      rfl
    rw [hg, madZ_nil]
    dsimp only
    rw [Int.toNat_natCast]
  have := madZ_back (greatB m) _ (l := l) (l.flatMap madB ++ greatB m).length h (by simp) hq
  unfold madR
  rw [this]
  rfl
theorem mad_kind : madR (nam18 [65] ++ [0, 99, 1]) = ([], 3) := rfl
theorem mad_two : madR (nam18 [65] ++ [0, 97, 5, 7]) = ([⟨[65], 97, 35⟩], 0) := by
  have : madR (nam18 [65] ++ [0, 97, 5, 7]) = ([⟨[65], 97, 35⟩], 0) := by rfl
  exact this
end Go.Proofs.Ytmiakniilimghaa
