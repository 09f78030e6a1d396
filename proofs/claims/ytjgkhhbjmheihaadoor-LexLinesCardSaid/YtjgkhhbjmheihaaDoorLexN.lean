/- Pieces that stand in a line, and lines of such pieces: what is read of them. No walk, no statement of the seat is proved here. -/
import Derived.Test.YtjgkhhbjmheihaaDoorLexJ
namespace Go.Proofs.YtjgkhhbjmheihaaDoor
set_option linter.unusedVariables false
set_option linter.unusedSimpArgs false

/-! ### Decimal numbers -/
def decS (n : Nat) : List Int := if n < 10 then [48 + (n : Int)] else decS (n / 10) ++ [48 + ((n % 10 : Nat) : Int)]
termination_by n
theorem decS_small {n : Nat} (h : n < 10) : decS n = [48 + (n : Int)] := by unfold decS; rw [if_pos h]
theorem decS_more {n : Nat} (h : ¬ n < 10) : decS n = decS (n / 10) ++ [48 + ((n % 10 : Nat) : Int)] := by rw [decS, if_neg h]
theorem decS_digits (n : Nat) : ∀ c ∈ decS n, 48 ≤ c ∧ c ≤ 57 := by
  induction n using Nat.strongRecOn with
  | ind n ih =>
    intro c hc
    by_cases h : n < 10
    · rw [decS_small h] at hc
      rw [List.mem_singleton.1 hc]; omega
    · rw [decS_more h] at hc
      rcases List.mem_append.1 hc with hc | hc
      · exact ih (n / 10) (by omega) c hc
      · rw [List.mem_singleton.1 hc]; omega
theorem decS_ne (n : Nat) : decS n ≠ [] := by
  by_cases h : n < 10
  · rw [decS_small h]; exact fun h => nomatch h
  · rw [decS_more h]; simp
theorem decS_len (n : Nat) : ∀ k : Nat, n < 10 ^ k → 1 ≤ k → (decS n).length ≤ k := by
  induction n using Nat.strongRecOn with
  | ind n ih =>
    intro k hk h1
    by_cases h : n < 10
    · rw [decS_small h]; exact h1
    · rw [decS_more h, List.length_append]
      obtain ⟨m, rfl⟩ : ∃ m, k = m + 1 := ⟨k - 1, by omega⟩
      rw [Nat.pow_succ] at hk
      have hm : 1 ≤ m := by
        cases m with
        | zero => simp at hk; omega
        | succ m => omega
      have := ih (n / 10) (by omega) m (by omega) hm
      simp only [List.length_cons, List.length_nil]
      omega
theorem up_digits {s : List Int} (h : ∀ c ∈ s, 48 ≤ c ∧ c ≤ 57) : upS s = s := by
  unfold upS
  conv => rhs; rw [← List.map_id s]
  apply List.map_congr_left
  intro c hc
  have := h c hc
  unfold upC
  rw [if_neg (by omega)]; rfl
theorem based_digits {s : List Int} (h : ∀ c ∈ s, 48 ≤ c ∧ c ≤ 57) : basedZ s = (s, 10) := by
  have hl : ∀ x : Int, (x < 48 ∨ 57 < x) → s.getLast? ≠ some x := fun x hx he => by
    have := h x (List.mem_of_getLast? he)
    omega
  unfold basedZ
  rw [if_neg (hl 72 (by decide)), if_neg (hl 66 (by decide))]
theorem numGo_cons (b n : Nat) (c : Int) (l : List Int) : numGo b n (c :: l) = if idxB (digitsZ.take b) c < 0 then none else
      if mostZ < n * b + (idxB (digitsZ.take b) c).toNat then none else numGo b (n * b + (idxB (digitsZ.take b) c).toNat) l := rfl
theorem numGo_app (b : Nat) : ∀ (l r : List Int) (n : Nat), numGo b n (l ++ r) = (numGo b n l).bind fun m => numGo b m r
  | [], r, n => rfl
  | c :: l, r, n => by
    rw [List.cons_append, numGo_cons, numGo_cons]
    split
    · rfl
    · split
      · rfl
      · exact numGo_app b l r _
theorem idx_digit {d : Nat} (h : d < 10) : idxB (digitsZ.take 10) (48 + (d : Int)) = d := by
  match d, h with
  | 0, _ => rfl
  | 1, _ => rfl
  | 2, _ => rfl
  | 3, _ => rfl
  | 4, _ => rfl
  | 5, _ => rfl
  | 6, _ => rfl
  | 7, _ => rfl
  | 8, _ => rfl
  | 9, _ => rfl
theorem numGo_one {d n : Nat} (h : d < 10) (hm : n * 10 + d ≤ mostZ) : numGo 10 n [48 + (d : Int)] = some (n * 10 + d) := by
  unfold numGo
  rw [idx_digit h, Int.toNat_natCast, if_neg (by omega), if_neg (by omega)]
  rfl
theorem numGo_dec (n : Nat) (h : n ≤ mostZ) : numGo 10 0 (decS n) = some n := by
  induction n using Nat.strongRecOn with
  | ind n ih =>
    by_cases hn : n < 10
    · rw [decS_small hn, numGo_one hn (by omega)]; congr 1; omega
    · rw [decS_more hn, numGo_app, ih (n / 10) (by omega) (by omega)]
      show numGo 10 (n / 10) [48 + ((n % 10 : Nat) : Int)] = some n
      rw [numGo_one (by omega) (by omega)]; congr 1; omega
theorem number_dec {n : Nat} (h : n ≤ mostZ) : numberZ (decS n) = some n := by
  have hd := decS_digits n
  obtain ⟨c, r, hc⟩ := List.exists_cons_of_ne_nil (decS_ne n)
  have hc1 := hd c (by rw [hc]; exact .head _)
  rw [hc]
  show numberC c (c :: r) = some n
  rw [← hc]
  unfold numberC
  have hdz : digitZ c = true := by unfold digitZ; simp; omega
  rw [if_pos hdz, up_digits hd, based_digits hd]
  exact numGo_dec n h
/-! ### A piece that stands ahead of a blank -/
theorem run_stop {m : Int → Bool} {p : List Int} {b : Int} (h : ∀ c ∈ p, m c = true) (hb : m b = false) (r : List Int) : runZ m (p ++ b :: r) = p.length := by
  induction p with
  | nil => rw [List.nil_append, runZ_cons, hb]; rfl
  | cons a p ih => rw [List.cons_append, runZ_cons, if_pos (h a (.head _)), ih fun c hc => h c (.tail _ hc), List.length_cons]
def isBlank (b : Int) : Prop := b = 32 ∨ b = 9 ∨ b = 13
theorem count_blank {b : Int} (h : isBlank b) : countZ b = false := by rcases h with rfl | rfl | rfl <;> rfl
theorem named_blank {b : Int} (h : isBlank b) : namedZ b = false := by rcases h with rfl | rfl | rfl <;> rfl
/-- It is read as this, whatever stands behind the blank. -/
structure ReadsAs (p : List Int) (t : TokZ) : Prop where
  piece : ∀ b r, isBlank b → pieceZ (p ++ b :: r) = (t, p.length)
  head : ∃ c r, p = c :: r ∧ blankZ c = false ∧ c ≠ 59
  all : readAll p
theorem digit_count {c : Int} (h : 48 ≤ c ∧ c ≤ 57) : countZ c = true := by unfold countZ digitZ; simp; omega
theorem reads_num {n : Nat} (h : n ≤ mostZ) : ReadsAs (decS n) ⟨2, [], n, 0⟩ := by
  have hd := decS_digits n
  obtain ⟨c, r, hc⟩ := List.exists_cons_of_ne_nil (decS_ne n)
  have hc1 := hd c (by rw [hc]; exact .head _)
  refine ⟨fun b r' hb => ?_, ⟨c, r, hc, by unfold blankZ; simp; omega, by omega⟩, fun x hx => by have := hd x hx; unfold readZ; simp; omega⟩
  have hrun : runZ countZ (decS n ++ b :: r') = (decS n).length := run_stop (fun x hx => digit_count (hd x hx)) (count_blank hb) _
  have hp : pieceZ (decS n ++ b :: r') = numPieceZ (decS n ++ b :: r') := by
    rw [hc]
    show pieceC c (r ++ b :: r') = _
    unfold pieceC
    rw [if_pos (by unfold digitZ; simp; omega)]; rfl
  rw [hp]
  unfold numPieceZ
  rw [hrun, List.take_left, number_dec h]
  dsimp only
  have h37 : (decS n ++ b :: r')[(decS n).length]? = some b := by rw [List.getElem?_append_right (Nat.le_refl _), Nat.sub_self]; rfl
  rw [h37, if_neg (by rcases hb with rfl | rfl | rfl <;> decide)]
theorem reads_ratio {n d : Nat} (h : n ≤ mostZ) (h2 : d ≤ mostZ) : ReadsAs (decS n ++ 37 :: decS d) ⟨5, [], n, d⟩ := by
  have hd := decS_digits n
  have hd2 := decS_digits d
  obtain ⟨c, r, hc⟩ := List.exists_cons_of_ne_nil (decS_ne n)
  have hc1 := hd c (by rw [hc]; exact .head _)
  refine ⟨fun b r' hb => ?_, ⟨c, r ++ 37 :: decS d, by rw [hc]; rfl, by unfold blankZ; simp; omega, by omega⟩, fun x hx => ?_⟩
  · have he : (decS n ++ 37 :: decS d) ++ b :: r' = decS n ++ 37 :: (decS d ++ b :: r') := by simp
    rw [he]
    have hrun : runZ countZ (decS n ++ 37 :: (decS d ++ b :: r')) = (decS n).length := run_stop (fun x hx => digit_count (hd x hx)) rfl _
    have hp : pieceZ (decS n ++ 37 :: (decS d ++ b :: r')) = numPieceZ (decS n ++ 37 :: (decS d ++ b :: r')) := by
      rw [hc]
      show pieceC c (r ++ 37 :: (decS d ++ b :: r')) = _
      unfold pieceC
      rw [if_pos (by unfold digitZ; simp; omega)]; rfl
    rw [hp]
    unfold numPieceZ
    rw [hrun, List.take_left, number_dec h]
    dsimp only
    have h37 : (decS n ++ 37 :: (decS d ++ b :: r'))[(decS n).length]? = some 37 := by rw [List.getElem?_append_right (Nat.le_refl _), Nat.sub_self]; rfl
    have hdr : (decS n ++ 37 :: (decS d ++ b :: r')).drop ((decS n).length + 1) = decS d ++ b :: r' := by
      rw [show decS n ++ 37 :: (decS d ++ b :: r') = (decS n ++ [37]) ++ (decS d ++ b :: r') by simp]
      rw [show (decS n).length + 1 = (decS n ++ [37]).length by simp]
      exact List.drop_left
    have hrun2 : runZ countZ (decS d ++ b :: r') = (decS d).length := run_stop (fun x hx => digit_count (hd2 x hx)) (count_blank hb) _
    rw [h37, if_pos rfl, hdr, hrun2, List.take_left, number_dec h2]
    dsimp only
    congr 1
    simp
    omega
  · rcases List.mem_append.1 hx with hx | hx
    · have := hd x hx; unfold readZ; simp; omega
    · cases hx with
      | head => rfl
      | tail _ hx => have := hd2 x hx; unfold readZ; simp; omega
theorem reads_name {c : Int} {q : List Int} (hd : digitZ c = false) (hc : namedZ c = true) (hq : ∀ x ∈ q, namedZ x = true) (hr : readAll (c :: q)) (hb : blankZ c = false) (h59 : c ≠ 59) : ReadsAs (c :: q) ⟨1, upS (c :: q), 0, 0⟩ := by
  refine ⟨fun b r hbl => ?_, ⟨c, q, rfl, hb, h59⟩, hr⟩
  have hrun : runZ namedZ ((c :: q) ++ b :: r) = (c :: q).length := run_stop (fun x hx => by cases hx with | head => exact hc | tail _ hx => exact hq x hx) (named_blank hbl) _
  show pieceC c (q ++ b :: r) = _
  unfold pieceC
  rw [if_neg (by rw [hd]; exact fun h => nomatch h), if_pos hc]
  rw [show c :: (q ++ b :: r) = (c :: q) ++ b :: r from rfl, hrun, List.take_left]
theorem reads_text {t : List Int} (h : 39 ∉ t) (hr : readAll t) : ReadsAs (39 :: t ++ [39]) ⟨3, t, 0, 0⟩ := by
  refine ⟨fun b r hbl => ?_, ⟨39, t ++ [39], rfl, rfl, by decide⟩, fun x hx => ?_⟩
  · have he : (39 :: t ++ [39]) ++ b :: r = 39 :: (t ++ 39 :: (b :: r)) := by simp
    rw [he]
    show pieceC 39 (t ++ 39 :: (b :: r)) = _
    unfold pieceC
    rw [if_neg (by decide), if_neg (by decide), if_pos (.inl rfl)]
    unfold quoteZ
    rw [idxB_app h, if_neg (by omega), Int.toNat_natCast, List.take_left]
    congr 1
    simp
  · rcases List.mem_append.1 hx with hx | hx
    · cases hx with
      | head => rfl
      | tail _ hx => exact hr x hx
    · rw [List.mem_singleton.1 hx]; rfl
theorem reads_sign {c : Int} (h : c ∈ signsZ) : ReadsAs [c] ⟨4, [c], 0, 0⟩ := by
  have hall : ∀ c ∈ signsZ, digitZ c = false ∧ namedZ c = false ∧ ¬ (c = 39 ∨ c = 34) ∧ hasB signsZ c = true ∧ blankZ c = false ∧ c ≠ 59 ∧ readZ c = true := by decide
  obtain ⟨h1, h2, h3, h4, h5, h6, h7⟩ := hall c h
  refine ⟨fun b r hbl => ?_, ⟨c, [], rfl, h5, h6⟩, fun x hx => by rw [List.mem_singleton.1 hx]; exact h7⟩
  show pieceC c (b :: r) = _
  unfold pieceC
  rw [if_neg (by rw [h1]; exact fun h => nomatch h), if_neg (by rw [h2]; exact fun h => nomatch h), if_neg h3, if_pos h4]
  rfl
/-! ### Lines of such pieces -/
structure ItZ where
  sep : List Int
  p : List Int
  t : TokZ
structure ItZ.ok (x : ItZ) : Prop where
  blank : ∃ b r, x.sep = b :: r ∧ ∀ c ∈ x.sep, isBlank c
  reads : ReadsAs x.p x.t
  len : x.sep.length + x.p.length ≤ 12
  tok : x.t.ok
def itS (x : ItZ) : List Int := x.sep ++ x.p
def lineS (L : List ItZ) : List Int := L.flatMap itS
def tailL : List Int := [32, 59, 32, 97, 110, 121, 116, 104, 105, 110, 103, 44, 32, 39, 97, 116, 32, 97, 108, 108]
theorem blank_all {s : List Int} (h : ∀ c ∈ s, isBlank c) {c : Int} (r : List Int) (hc : blankZ c = false) : (s ++ c :: r).dropWhile blankZ = c :: r := by
  induction s with
  | nil => rw [List.nil_append, List.dropWhile_cons, hc]; rfl
  | cons a s ih =>
    have ha : blankZ a = true := by rcases h a (.head _) with rfl | rfl | rfl <;> rfl
    rw [List.cons_append, List.dropWhile_cons, ha, if_pos rfl, ih fun x hx => h x (.tail _ hx)]
theorem rest_blank {L : List ItZ} (h : ∀ x ∈ L, x.ok) : ∃ b r, lineS L ++ tailL = b :: r ∧ isBlank b := by
  cases L with
  | nil => exact ⟨32, _, rfl, .inl rfl⟩
  | cons x L =>
    obtain ⟨b, r, hb, hall⟩ := (h x (.head _)).blank
    exact ⟨b, r ++ x.p ++ (lineS L ++ tailL), by simp [lineS, itS, hb], hall b (by rw [hb]; exact .head _)⟩
theorem scan_line : ∀ (L : List ItZ) (f : Nat), (∀ x ∈ L, x.ok) → L.length < f → scanZ f (lineS L ++ tailL) = some (L.map (·.t))
  | [], f, _, hf => by
    obtain ⟨f, rfl⟩ : ∃ f', f = f' + 1 := ⟨f - 1, by simp at hf; omega⟩
    rfl
  | x :: L, f, h, hf => by
    obtain ⟨f, rfl⟩ : ∃ f', f = f' + 1 := ⟨f - 1, by simp at hf; omega⟩
    have hx := h x (.head _)
    have hL : ∀ y ∈ L, y.ok := fun y hy => h y (.tail _ hy)
    obtain ⟨b, r, hbr, hbb⟩ := rest_blank hL
    obtain ⟨_, _, _, hall⟩ := hx.blank
    obtain ⟨c, q, hp, hc1, hc2⟩ := hx.reads.head
    have hd : (lineS (x :: L) ++ tailL).dropWhile blankZ = c :: (q ++ (lineS L ++ tailL)) := by
      have : lineS (x :: L) ++ tailL = x.sep ++ c :: (q ++ (lineS L ++ tailL)) := by simp [lineS, itS, hp]
      rw [this]
      exact blank_all hall _ hc1
    rw [scan_cons hd]
    unfold scanStep
    rw [if_neg hc2]
    have hpz : pieceZ (c :: (q ++ (lineS L ++ tailL))) = (x.t, x.p.length) := by
      have := hx.reads.piece b r hbb
      rw [← hbr, hp] at this
      rw [hp]; exact this
    rw [hpz]
    dsimp only
    have hlen : x.p.length ≠ 0 := by rw [hp]; simp
    rw [if_neg hlen]
    have hdr : (c :: (q ++ (lineS L ++ tailL))).drop x.p.length = lineS L ++ tailL := by
      rw [hp]
      exact List.drop_left (l₁ := c :: q)
    rw [hdr, scan_line L f hL (by simp at hf; omega)]
    rfl
theorem lineS_len {L : List ItZ} (h : ∀ x ∈ L, x.ok) : (lineS L).length ≤ 12 * L.length := by
  induction L with
  | nil => exact Nat.le_refl _
  | cons x L ih =>
    have h1 := (h x (.head _)).len
    have h2 := ih fun y hy => h y (.tail _ hy)
    simp only [lineS, List.flatMap_cons, List.length_append, itS, List.length_cons] at *
    omega
theorem lineS_read {L : List ItZ} (h : ∀ x ∈ L, x.ok) : readAll (lineS L) := by
  intro c hc
  obtain ⟨x, hx, hc⟩ := List.mem_flatMap.1 hc
  have hk := h x hx
  rcases List.mem_append.1 hc with hc | hc
  · obtain ⟨_, _, _, hall⟩ := hk.blank
    rcases hall c hc with rfl | rfl | rfl <;> rfl
  · exact hk.reads.all c hc
theorem line_back {L : List ItZ} (h : ∀ x ∈ L, x.ok) (hl : L.length ≤ 10) : lineZ (lineS L ++ tailL) = (L.map (·.t), 0) := by
  have h1 := lineS_len h
  have h2 : (lineS L ++ tailL).length = (lineS L).length + 20 := by rw [List.length_append]; rfl
  have h3 : readAll (lineS L ++ tailL) := fun c hc => (List.mem_append.1 hc).elim (lineS_read h c) (fun hc => (by decide : ∀ c ∈ tailL, readZ c = true) c hc)
  unfold lineZ
  rw [if_neg (by omega), if_neg (runZ_full h3), scan_line L _ h (by omega)]
  rfl
theorem lineS_more (L : List ItZ) (x : ItZ) : lineS L ++ (x.sep ++ x.p) = lineS (L ++ [x]) := by simp [lineS, itS]
end Go.Proofs.YtjgkhhbjmheihaaDoor
