/- Bytes of instructions that may be: none begins another one's. Plain reckoning over 'putL'. No statement of the seat is proved here. -/
import Derived.Test.YtnhlogameldkfaaInstM
namespace Go.Proofs.Ytnhlogameldkfaa
open Go.ChangeShapes Go.WideShapes Go.ChangeAt Go.RowKit
set_option linter.unusedVariables false
set_option linter.unusedSimpArgs false

/-- Whether there is a second byte hangs on the first one alone. -/
theorem mod_all : allK (fun b => allK (fun k => !(ofR b k).2.2.2.2 || ((ofR b k).2.2.2.1 == twoO b 8)) 8) 256 = true := by kernel_rfl
theorem row_mod (i : InstZ) (hi : i.ok) (his : i.is = true) : i.row.m = twoO i.op 8 := by
  obtain ⟨b, hb⟩ := Int.eq_ofNat_of_zero_le hi.op.1
  have h1 := hi.op.2
  have hk := i.k7
  have := allK_at (allK_at mod_all b (by omega)) i.k (by omega)
  have e : (ofR (b : Int) i.k).2.2.2.2 = true := by rw [← hb]; exact his
  rw [e] at this
  simp only [Bool.not_true, Bool.false_or, beq_iff_eq] at this
  unfold InstZ.row
  rw [hb]
  exact this
theorem row_same (i k : InstZ) (ho : i.op = k.op) (hr : i.k = k.k) : i.row = k.row := by
  unfold InstZ.row
  rw [ho, hr]

/-- What is known of an instruction that may be. -/
structure Fine (i : InstZ) : Prop where
  ok : i.ok
  is : i.is = true
  rep : 0 ≤ i.rep ∧ i.rep ≤ 2
  seg : 0 ≤ i.seg ∧ i.seg ≤ 4
  no : prefR i.op = false
  plain : i.row.m = false → i.mod = 0 ∧ i.reg = 0 ∧ i.rm = 0 ∧ i.disp = 0
  mid : i.row.m = true → (0 ≤ i.mod ∧ i.mod ≤ 3) ∧ (0 ≤ i.reg ∧ i.reg ≤ 7) ∧ (0 ≤ i.rm ∧ i.rm ≤ 7)
  disp : i.row.m = true → (dispsZ i.mod i.rm = 0 → i.disp = 0) ∧ (dispsZ i.mod i.rm = 1 → fitsZ i.disp = true)
  rest : restR i (kR i.row) = true
theorem fine_of (i : InstZ) (hi : i.ok) (h : mayR i = true) : Fine i := by
  obtain ⟨hn, hr, hs⟩ := near_of i h
  have hi1 : i.is = true := by
    unfold mayR bad1R at h
    cases hx : i.is
    · rw [hx] at h; simp at h
    · rfl
  have hno : prefR i.op = false := by
    cases hp : prefR i.op
    · rfl
    · have := (row_pref i hi hp).2
      rw [hi1] at this; exact nomatch this
  unfold mayR at h
  cases h1 : bad1R i <;> simp only [h1, cond_true, cond_false] at h
  case true => exact nomatch h
  cases h2 : bad2R i <;> simp only [h2, cond_true, cond_false] at h
  case true => exact nomatch h
  cases hm : i.row.m <;> simp only [hm, cond_true, cond_false] at h
  · cases h3 : bad3R i <;> simp only [h3, cond_true, cond_false] at h
    case true => exact nomatch h
    refine ⟨hi, hi1, ⟨hr, hn.rep⟩, ⟨hs, hn.seg⟩, hno, fun _ => ?_, hn.mid, fun e => ?_, h⟩
    · unfold bad3R at h3
      simp at h3
      obtain ⟨⟨⟨a, b⟩, c⟩, d⟩ := h3
      exact ⟨a, b, c, d⟩
    · rw [hm] at e; exact nomatch e
  · cases h4 : bad4R i <;> simp only [h4, cond_true, cond_false] at h
    case true => exact nomatch h
    cases h5 : bad5R i <;> simp only [h5, cond_true, cond_false] at h
    case true => exact nomatch h
    cases h6 : bad6R i <;> simp only [h6, cond_true, cond_false] at h
    case true => exact nomatch h
    refine ⟨hi, hi1, ⟨hr, hn.rep⟩, ⟨hs, hn.seg⟩, hno, fun e => ?_, hn.mid, fun _ => ?_, h⟩
    · rw [hm] at e; exact nomatch e
    · unfold bad6R at h6
      constructor
      · intro e; rw [e] at h6; simp at h6; exact h6
      · intro e; rw [e] at h6; simp at h6; exact h6

theorem b8_inj {x y : Int} (h : b8 x = b8 y) : x = y := by unfold b8 at h; injection h
theorem fits_low {x y : Int} (hx : 0 ≤ x ∧ x ≤ 65535) (hy : 0 ≤ y ∧ y ≤ 65535) (fx : fitsZ x = true) (fy : fitsZ y = true) (h : x % 256 = y % 256) : x = y := by
  unfold fitsZ at fx fy
  simp at fx fy
  omega

/-- Where a list's first byte is none of these. -/
def Head (p : Int → Prop) (l : List Value) : Prop := ∃ x t, l = b8 x :: t ∧ p x
theorem op_head (i : InstZ) (h : Fine i) (r : List Value) : Head (fun x => prefR x = false) ([b8 i.op] ++ midV i ++ immV i ++ r) := ⟨i.op, _, rfl, h.no⟩
theorem not_pref {x : Int} (h : prefR x = false) : x ≠ 38 ∧ x ≠ 46 ∧ x ≠ 54 ∧ x ≠ 62 ∧ x ≠ 240 ∧ x ≠ 242 ∧ x ≠ 243 := by
  unfold prefR at h
  simp at h
  omega
theorem seg_head (i : InstZ) (h : Fine i) (r : List Value) : Head (fun x => x ≠ 240 ∧ x ≠ 242 ∧ x ≠ 243) (segV i ++ ([b8 i.op] ++ midV i ++ immV i ++ r)) := by
  unfold segV
  have hs := h.seg
  by_cases e : 0 < i.seg
  · rw [show decide (0 < i.seg) = true from decide_eq_true e]
    exact ⟨_, _, rfl, by omega⟩
  · rw [show decide (0 < i.seg) = false from decide_eq_false e]
    obtain ⟨x, t, hx, hp⟩ := op_head i h r
    have := not_pref hp
    exact ⟨x, t, hx, by omega⟩
theorem rep_head (i : InstZ) (h : Fine i) (r : List Value) : Head (fun x => x ≠ 240) (repV i ++ (segV i ++ ([b8 i.op] ++ midV i ++ immV i ++ r))) := by
  unfold repV
  have hs := h.rep
  by_cases e : 0 < i.rep
  · rw [show decide (0 < i.rep) = true from decide_eq_true e]
    exact ⟨_, _, rfl, by omega⟩
  · rw [show decide (0 < i.rep) = false from decide_eq_false e]
    obtain ⟨x, t, hx, hp⟩ := seg_head i h r
    exact ⟨x, t, hx, hp.1⟩

theorem immZ_k (i : InstZ) (hi : i.ok) : immZ (kR i.row) = immsZ i.row := by
  have h := (row_fit i hi).1
  unfold kR immsZ
  by_cases hz : immZ i.row.a = 0
  · rw [hz]; simp
  · rw [show (immZ i.row.a == 0) = false from by simp [hz], cond_false]
    omega
/-- What stands behind tells Imm and Sel, of one row. -/
theorem imm_same' (i k : InstZ) (hi : Fine i) (hk : Fine k) (hr : i.row = k.row) (r s : List Value) (h : immV i ++ r = immV k ++ s) : i.imm = k.imm ∧ i.sel = k.sel := by
  have h1 := hi.rest
  have h2 := hk.rest
  have e1 := immZ_k i hi.ok
  have b1 := hi.ok.imm
  have b2 := hk.ok.imm
  have b3 := hi.ok.sel
  have b4 := hk.ok.sel
  unfold immV at h
  rw [← hr] at h h2
  rw [← e1] at h
  generalize kR i.row = q at *
  unfold restR at h1 h2
  rcases k_ways q with p1 | ⟨p1, p2⟩ | ⟨p1, p2, p3⟩ | ⟨p1, p2, p3, p4⟩ | ⟨p1, p2, p3, p4, p5⟩ | ⟨p1, p2, p3, p4, p5, p6⟩ | ⟨p1, p2, p3, p4, p5, p6, p7⟩ | ⟨p1, p2, p3, p4, p5, p6, p7, p8⟩ | ⟨p1, p2, p3, p4, p5, p6, p7, p8⟩
  · have e : q = 6 := by simpa using p1
    subst e
    rw [show immZ 6 = 1 from by decide] at h
    simp only [p1, cond_true, rest6R, Bool.and_eq_true, decide_eq_true_eq, beq_iff_eq] at h1 h2
    have := (List.cons.inj h).1
    have := b8_inj this
    omega
  · have e : q = 8 := by simpa using p2
    subst e
    rw [show immZ 8 = 1 from by decide] at h
    simp only [p1, p2, cond_true, cond_false, rest8R, Bool.and_eq_true, beq_iff_eq] at h1 h2
    have := b8_inj (List.cons.inj h).1
    exact ⟨fits_low b1 b2 h1.1 h2.1 this, by rw [h1.2, h2.2]⟩
  · have e : q = 9 := by simpa using p3
    subst e
    rw [show immZ 9 = 1 from by decide] at h
    simp only [p1, p2, p3, cond_true, cond_false, rest8R, Bool.and_eq_true, beq_iff_eq] at h1 h2
    have := b8_inj (List.cons.inj h).1
    exact ⟨fits_low b1 b2 h1.1 h2.1 this, by rw [h1.2, h2.2]⟩
  · have e : q = 7 := by simpa using p4
    subst e
    rw [show immZ 7 = 2 from by decide] at h
    simp only [p1, p2, p3, p4, cond_true, cond_false, beq_iff_eq] at h1 h2
    have l1 := b8_inj (List.cons.inj h).1
    have l2 := b8_inj (List.cons.inj (List.cons.inj h).2).1
    omega
  · have e : q = 10 := by simpa using p5
    subst e
    rw [show immZ 10 = 2 from by decide] at h
    simp only [p1, p2, p3, p4, p5, cond_true, cond_false, beq_iff_eq] at h1 h2
    have l1 := b8_inj (List.cons.inj h).1
    have l2 := b8_inj (List.cons.inj (List.cons.inj h).2).1
    omega
  · have e : q = 12 := by simpa using p6
    subst e
    rw [show immZ 12 = 2 from by decide] at h
    simp only [p1, p2, p3, p4, p5, p6, cond_true, cond_false, beq_iff_eq] at h1 h2
    have l1 := b8_inj (List.cons.inj h).1
    have l2 := b8_inj (List.cons.inj (List.cons.inj h).2).1
    omega
  · have e : q = 13 := by simpa using p7
    subst e
    rw [show immZ 13 = 2 from by decide] at h
    simp only [p1, p2, p3, p4, p5, p6, p7, cond_true, cond_false, beq_iff_eq] at h1 h2
    have l1 := b8_inj (List.cons.inj h).1
    have l2 := b8_inj (List.cons.inj (List.cons.inj h).2).1
    omega
  · have e : q = 11 := by simpa using p8
    subst e
    rw [show immZ 11 = 4 from by decide] at h
    have l1 := b8_inj (List.cons.inj h).1
    have l2 := b8_inj (List.cons.inj (List.cons.inj h).2).1
    have l3 := b8_inj (List.cons.inj (List.cons.inj (List.cons.inj h).2).2).1
    have l4 := b8_inj (List.cons.inj (List.cons.inj (List.cons.inj (List.cons.inj h).2).2).2).1
    omega
  · simp only [p1, p2, p3, p4, p5, p6, p7, p8, cond_false, rest0R, Bool.and_eq_true, beq_iff_eq] at h1 h2
    omega

theorem disp_same (i k : InstZ) (hi : Fine i) (hk : Fine k) (mi : i.row.m = true) (mk : k.row.m = true) (hm : i.mod = k.mod) (hr : i.rm = k.rm) (r s : List Value)
    (h : (twoV i.disp).take (dispsZ i.mod i.rm).toNat ++ r = (twoV k.disp).take (dispsZ k.mod k.rm).toNat ++ s) : i.disp = k.disp ∧ r = s := by
  have d1 := hi.disp mi
  have d2 := hk.disp mk
  have b1 := hi.ok.disp
  have b2 := hk.ok.disp
  rw [← hm, ← hr] at h d2
  have hb := dispsZ_bd i.mod i.rm
  rcases (show dispsZ i.mod i.rm = 0 ∨ dispsZ i.mod i.rm = 1 ∨ dispsZ i.mod i.rm = 2 by omega) with e | e | e
  · rw [e] at h
    exact ⟨by rw [d1.1 e, d2.1 e], h⟩
  · rw [e] at h
    exact ⟨fits_low b1 b2 (d1.2 e) (d2.2 e) (b8_inj (List.cons.inj h).1), (List.cons.inj h).2⟩
  · rw [e] at h
    have l1 := b8_inj (List.cons.inj h).1
    have l2 := b8_inj (List.cons.inj (List.cons.inj h).2).1
    exact ⟨by omega, (List.cons.inj (List.cons.inj h).2).2⟩

theorem inst_ext {i k : InstZ} (h1 : i.lock = k.lock) (h2 : i.rep = k.rep) (h3 : i.seg = k.seg) (h4 : i.op = k.op) (h5 : i.mod = k.mod) (h6 : i.reg = k.reg) (h7 : i.rm = k.rm) (h8 : i.disp = k.disp) (h9 : i.imm = k.imm) (h0 : i.sel = k.sel) : i = k := by
  cases i; cases k; simp_all

/-- None's bytes begin another one's. -/
theorem put_own (i k : InstZ) (hi : Fine i) (hk : Fine k) (r s : List Value) (h : putL i ++ r = putL k ++ s) : i = k := by
  have g1 := hi.rep
  have g2 := hk.rep
  have g3 := hi.seg
  have g4 := hk.seg
  unfold putL at h
  simp only [List.append_assoc] at h
  have hl : i.lock = k.lock ∧ repV i ++ (segV i ++ ([b8 i.op] ++ (midV i ++ (immV i ++ r)))) = repV k ++ (segV k ++ ([b8 k.op] ++ (midV k ++ (immV k ++ s)))) := by
    obtain ⟨x, t, hx, px⟩ := rep_head i hi r
    obtain ⟨y, u, hy, py⟩ := rep_head k hk s
    simp only [List.append_assoc] at hx hy
    unfold lockV at h
    cases a : i.lock <;> cases b : k.lock <;> simp only [a, b, cond_true, cond_false, List.nil_append] at h
    · exact ⟨rfl, h⟩
    · rw [hx] at h
      exact absurd (b8_inj (List.cons.inj h).1) px
    · rw [hy] at h
      exact absurd (b8_inj (List.cons.inj h).1).symm py
    · exact ⟨rfl, (List.cons.inj h).2⟩
  obtain ⟨hl, h⟩ := hl
  have hrp : i.rep = k.rep ∧ segV i ++ ([b8 i.op] ++ (midV i ++ (immV i ++ r))) = segV k ++ ([b8 k.op] ++ (midV k ++ (immV k ++ s))) := by
    obtain ⟨x, t, hx, px⟩ := seg_head i hi r
    obtain ⟨y, u, hy, py⟩ := seg_head k hk s
    simp only [List.append_assoc] at hx hy
    unfold repV at h
    by_cases a : 0 < i.rep <;> by_cases b : 0 < k.rep
    · rw [show decide (0 < i.rep) = true from decide_eq_true a, show decide (0 < k.rep) = true from decide_eq_true b] at h
      have := b8_inj (List.cons.inj h).1
      exact ⟨by omega, (List.cons.inj h).2⟩
    · rw [show decide (0 < i.rep) = true from decide_eq_true a, show decide (0 < k.rep) = false from decide_eq_false b, cond_false, List.nil_append, hy] at h
      have := b8_inj (List.cons.inj h).1
      omega
    · rw [show decide (0 < i.rep) = false from decide_eq_false a, show decide (0 < k.rep) = true from decide_eq_true b, cond_false, List.nil_append, hx] at h
      have := b8_inj (List.cons.inj h).1
      omega
    · rw [show decide (0 < i.rep) = false from decide_eq_false a, show decide (0 < k.rep) = false from decide_eq_false b] at h
      exact ⟨by omega, h⟩
  obtain ⟨hrp, h⟩ := hrp
  have hsg : i.seg = k.seg ∧ [b8 i.op] ++ (midV i ++ (immV i ++ r)) = [b8 k.op] ++ (midV k ++ (immV k ++ s)) := by
    have px := not_pref hi.no
    have py := not_pref hk.no
    unfold segV at h
    by_cases a : 0 < i.seg <;> by_cases b : 0 < k.seg
    · rw [show decide (0 < i.seg) = true from decide_eq_true a, show decide (0 < k.seg) = true from decide_eq_true b] at h
      have := b8_inj (List.cons.inj h).1
      exact ⟨by omega, (List.cons.inj h).2⟩
    · rw [show decide (0 < i.seg) = true from decide_eq_true a, show decide (0 < k.seg) = false from decide_eq_false b, cond_false, List.nil_append] at h
      have := b8_inj (List.cons.inj h).1
      omega
    · rw [show decide (0 < i.seg) = false from decide_eq_false a, show decide (0 < k.seg) = true from decide_eq_true b, cond_false, List.nil_append] at h
      have := b8_inj (List.cons.inj h).1
      omega
    · rw [show decide (0 < i.seg) = false from decide_eq_false a, show decide (0 < k.seg) = false from decide_eq_false b] at h
      exact ⟨by omega, h⟩
  obtain ⟨hsg, h⟩ := hsg
  have hop : i.op = k.op := b8_inj (List.cons.inj h).1
  replace h : midV i ++ (immV i ++ r) = midV k ++ (immV k ++ s) := (List.cons.inj h).2
  have hmm : i.row.m = k.row.m := by rw [row_mod i hi.ok hi.is, row_mod k hk.ok hk.is, hop]
  cases mi : i.row.m
  · rw [mi] at hmm
    obtain ⟨a1, a2, a3, a4⟩ := hi.plain mi
    obtain ⟨c1, c2, c3, c4⟩ := hk.plain hmm.symm
    have hrow : i.row = k.row := row_same i k hop (by unfold InstZ.k; rw [a2, c2])
    unfold midV at h
    rw [mi, ← hmm] at h
    obtain ⟨e1, e2⟩ := imm_same' i k hi hk hrow r s h
    exact inst_ext hl hrp hsg hop (by rw [a1, c1]) (by rw [a2, c2]) (by rw [a3, c3]) (by rw [a4, c4]) e1 e2
  · rw [mi] at hmm
    obtain ⟨a1, a2, a3⟩ := hi.mid mi
    obtain ⟨c1, c2, c3⟩ := hk.mid hmm.symm
    unfold midV midZ at h
    rw [mi, ← hmm] at h
    simp only [cond_true, List.cons_append] at h
    have hz := b8_inj (List.cons.inj h).1
    have hmod : i.mod = k.mod := by omega
    have hreg : i.reg = k.reg := by omega
    have hrm : i.rm = k.rm := by omega
    have hrow : i.row = k.row := row_same i k hop (by unfold InstZ.k; rw [hreg])
    obtain ⟨e0, h⟩ := disp_same i k hi hk mi hmm.symm hmod hrm _ _ (List.cons.inj h).2
    obtain ⟨e1, e2⟩ := imm_same' i k hi hk hrow r s h
    exact inst_ext hl hrp hsg hop hmod hreg hrm e0 e1 e2

/-- The first bytes, as many as the shorter one has, are alike only of the same. -/
theorem own_take (i k : InstZ) (hi : Fine i) (hk : Fine k) (n : Nat) (hn : n = min (putL i).length (putL k).length) : (putL i).take n = (putL k).take n ↔ i = k := by
  constructor
  · intro h
    rcases Nat.le_total (putL i).length (putL k).length with hle | hle
    · have e : n = (putL i).length := by omega
      rw [e, List.take_length] at h
      refine put_own i k hi hk ((putL k).drop (putL i).length) [] ?_
      rw [List.append_nil]
      conv => lhs; lhs; rw [h]
      exact List.take_append_drop _ _
    · have e : n = (putL k).length := by omega
      rw [e, List.take_length] at h
      refine put_own i k hi hk [] ((putL i).drop (putL k).length) ?_
      rw [List.append_nil]
      conv => rhs; lhs; rw [← h]
      exact (List.take_append_drop _ _).symm
  · rintro rfl
    rfl
end Go.Proofs.Ytnhlogameldkfaa
