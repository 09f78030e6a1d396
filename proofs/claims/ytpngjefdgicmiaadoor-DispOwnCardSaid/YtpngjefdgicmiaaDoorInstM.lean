/- The two Mays are one, and Len is how many bytes Put makes: plain reckoning over the numbers of an instruction. No statement of the seat is proved here. -/
import Derived.Test.YtpngjefdgicmiaaDoorPut
namespace Go.Proofs.YtpngjefdgicmiaaDoor
open Go.ChangeShapes Go.WideShapes Go.ChangeAt Go.RowKit
set_option linter.unusedVariables false
set_option linter.unusedSimpArgs false

/-! ### What holds of every row of the table -/
def rowFit (r : Int × Int × Int × Bool × Bool) : Bool := (immZ r.2.1 == 0 || immZ r.2.2.1 == 0) && (!r.2.2.2.1 || decide (immZ r.2.1 + immZ r.2.2.1 ≤ 2))
theorem fit_all : allK (fun b => allK (fun k => rowFit (ofR b k)) 8) 256 = true := by kernel_rfl
theorem row_fit (i : InstZ) (hi : i.ok) : (immZ i.row.a = 0 ∨ immZ i.row.b = 0) ∧ (i.row.m = true → immsZ i.row ≤ 2) := by
  obtain ⟨b, hb⟩ := Int.eq_ofNat_of_zero_le hi.op.1
  have h1 := hi.op.2
  have hk := i.k7
  have := allK_at (allK_at fit_all b (by omega)) i.k (by omega)
  unfold InstZ.row immsZ
  rw [hb]
  unfold rowFit at this
  simp only [Bool.and_eq_true, Bool.or_eq_true, beq_iff_eq, Bool.not_eq_true', decide_eq_true_eq] at this
  refine ⟨this.1, fun hm => ?_⟩
  rcases this.2 with h | h
  · have hm' : (ofR ↑b ↑i.k).2.2.2.1 = true := hm
    rw [hm'] at h; exact nomatch h
  · exact h

theorem immZ_zero {a : Int} (h : immZ a = 0) : (a == 6) = false ∧ (a == 8) = false ∧ (a == 9) = false ∧ (a == 7) = false ∧ (a == 10) = false ∧ (a == 12) = false ∧ (a == 13) = false ∧ (a == 11) = false := by
  unfold immZ at h
  cases h6 : a == 6 <;> cases h8 : a == 8 <;> cases h9 : a == 9 <;> cases h7 : a == 7 <;> cases h10 : a == 10 <;> cases h12 : a == 12 <;> cases h13 : a == 13 <;> cases h11 : a == 11 <;> simp [h6, h8, h9, h7, h10, h12, h13, h11] at h ⊢

/-- What stands behind may be, told by one operand. -/
def oneC (i : InstZ) (k : Int) : Bool := bif immZ k == 0 && i.imm != 0 then false else bif mayImmC i.imm k i.row.n then (k == 11 || i.sel == 0) else false
theorem oneC_rest (i : InstZ) (hi : i.ok) (k : Int) : oneC i k = restR i k := by
  have h0 := hi.imm
  unfold oneC restR
  rcases k_ways k with p1 | ⟨p1, p2⟩ | ⟨p1, p2, p3⟩ | ⟨p1, p2, p3, p4⟩ | ⟨p1, p2, p3, p4, p5⟩ | ⟨p1, p2, p3, p4, p5, p6⟩ | ⟨p1, p2, p3, p4, p5, p6, p7⟩ | ⟨p1, p2, p3, p4, p5, p6, p7, p8⟩ | ⟨p1, p2, p3, p4, p5, p6, p7, p8⟩
  · have e : k = 6 := by simpa using p1
    subst e
    simp only [show (immZ 6 == 0) = false from by decide, show ((6 : Int) == 6) = true from rfl, show ((6 : Int) == 11) = false from rfl, mayImmC, rest6R, cond_true, cond_false, Bool.false_and, Bool.false_or]
    have hn : (i.row.n == 70 || i.row.n == 71) = !(i.row.n != 70 && i.row.n != 71) := by
      simp only [bne]; cases i.row.n == 70 <;> cases i.row.n == 71 <;> rfl
    rw [hn]
    cases hx : (i.row.n != 70 && i.row.n != 71) <;> cases i.sel == 0 <;> simp
    omega
  · have e : k = 8 := by simpa using p2
    subst e
    simp [mayImmC, rest8R, show (immZ 8 == 0) = false from by decide]
  · have e : k = 9 := by simpa using p3
    subst e
    simp [mayImmC, rest8R, show (immZ 9 == 0) = false from by decide]
  · have e : k = 7 := by simpa using p4
    subst e
    simp [mayImmC, show (immZ 7 == 0) = false from by decide]
  · have e : k = 10 := by simpa using p5
    subst e
    simp [mayImmC, show (immZ 10 == 0) = false from by decide]
  · have e : k = 12 := by simpa using p6
    subst e
    simp [mayImmC, show (immZ 12 == 0) = false from by decide]
  · have e : k = 13 := by simpa using p7
    subst e
    simp [mayImmC, show (immZ 13 == 0) = false from by decide]
  · have e : k = 11 := by simpa using p8
    subst e
    simp [mayImmC, show (immZ 11 == 0) = false from by decide]
  · have e : (immZ k == 0) = true := by unfold immZ; simp [p1, p2, p3, p4, p5, p6, p7, p8]
    simp only [e, p1, p2, p3, p4, p5, p6, p7, p8, mayImmC, rest0R, cond_true, cond_false, Bool.true_and, Bool.false_or]
    simp only [bne]
    cases i.imm == 0 <;> rfl

theorem behind_one (i : InstZ) (hi : i.ok) : mayBehindC i i.row = oneC i (kR i.row) := by
  have hb := immZ_bd i.row.b
  have ha := immZ_bd i.row.a
  rcases (row_fit i hi).1 with h | h
  · obtain ⟨p6, p8, p9, p7, p10, p12, p13, p11⟩ := immZ_zero h
    unfold mayBehindC oneC behind1C farC kR immsZ
    rw [h]
    simp [mayImmC, p6, p8, p9, p11]
  · by_cases hz : immZ i.row.a = 0
    · obtain ⟨p6, p8, p9, p7, p10, p12, p13, p11⟩ := immZ_zero hz
      unfold mayBehindC oneC behind1C farC kR immsZ
      rw [hz]
      simp [mayImmC, p6, p8, p9, p11]
    · obtain ⟨p6, p8, p9, p7, p10, p12, p13, p11⟩ := immZ_zero h
      unfold mayBehindC oneC behind1C farC kR immsZ
      rw [h]
      simp [mayImmC, p6, p8, p9, p11, show (immZ i.row.a == 0) = false from by simp [hz]]

theorem repZ_bd (n : Int) : repZ n = 0 ∨ repZ n = 1 ∨ repZ n = 2 := by
  unfold repZ
  cases n == 46 <;> cases n == 47 <;> cases n == 50 <;> cases n == 51 <;> cases n == 52 <;> cases n == 53 <;> cases n == 48 <;> cases n == 49 <;> cases n == 54 <;> cases n == 55 <;> simp

theorem rep_one (i : InstZ) : mayRepC i.rep (repZ i.row.n) = !bad2R i := by
  unfold mayRepC bad2R
  by_cases h0 : i.rep = 0
  · simp [h0]
  · by_cases h1 : i.rep = 1
    · rcases repZ_bd i.row.n with h | h | h <;> simp [h1, h]
    · by_cases h2 : i.rep = 2
      · rcases repZ_bd i.row.n with h | h | h <;> simp [h2, h]
      · have e0 : (i.rep == 0) = false := by simp [h0]
        have e1 : (i.rep == 1) = false := by simp [h1]
        have e2 : (i.rep == 2) = false := by simp [h2]
        simp only [e0, e1, e2, cond_false, Bool.false_and, Bool.or_false]
        have : (decide (i.rep < 0) || decide (2 < i.rep)) = true := by simp only [Bool.or_eq_true, decide_eq_true_eq]; omega
        rw [this]; rfl

theorem disp_one (i : InstZ) : mayDispC i.disp (dispsZ i.mod i.rm) = !bad6R i := by
  unfold mayDispC bad6R
  simp only [bne]
  by_cases h : dispsZ i.mod i.rm = 0
  · rw [h]; cases i.disp == 0 <;> simp
  · rw [show (dispsZ i.mod i.rm == 0) = false from by simp [h]]
    cases dispsZ i.mod i.rm == 1 <;> cases fitsZ i.disp <;> rfl
theorem second_one (i : InstZ) : maySecondC i i.row = bif i.row.m then (!bad4R i && !bad5R i && !bad6R i) else !bad3R i := by
  unfold maySecondC
  cases i.row.m
  · simp only [cond_false]
    unfold noSecondC bad3R
    simp only [bne]
    cases i.mod == 0 <;> cases i.reg == 0 <;> cases i.rm == 0 <;> cases i.disp == 0 <;> rfl
  · simp only [cond_true]
    have e4 : badSecondC i = bad4R i := by
      unfold badSecondC bad4R btwB
      rw [Bool.eq_iff_iff]
      simp
      omega
    have e5 : badModC i i.row = bad5R i := by
      unfold badModC bad5R onlyMemC
      simp only [Bool.or_assoc]
    rw [e4, e5, disp_one]
    cases bad4R i <;> cases bad5R i <;> rfl

theorem may_same (i : InstZ) (hi : i.ok) : mayC i = mayR i := by
  unfold mayC mayR mayAheadC
  rw [behind_one i hi, oneC_rest i hi, second_one, rep_one]
  have e1 : (i.is && btwB i.seg 4) = !bad1R i := by
    unfold btwB bad1R
    rw [Bool.eq_iff_iff]
    simp [and_assoc]
  rw [← Bool.and_assoc, e1]
  cases bad1R i <;> cases bad2R i <;> cases i.row.m <;> simp [Bool.and_assoc]

theorem near_of (i : InstZ) (h : mayR i = true) : Near0 i ∧ 0 ≤ i.rep ∧ 0 ≤ i.seg := by
  unfold mayR at h
  cases h1 : bad1R i <;> simp only [h1, cond_true, cond_false] at h
  case true => exact nomatch h
  cases h2 : bad2R i <;> simp only [h2, cond_true, cond_false] at h
  case true => exact nomatch h
  have g1 : 0 ≤ i.seg ∧ i.seg ≤ 4 := by
    unfold bad1R at h1
    simp at h1; omega
  have g2 : 0 ≤ i.rep ∧ i.rep ≤ 2 := by
    unfold bad2R at h2
    simp at h2; omega
  refine ⟨⟨g2.2, g1.2, fun hm => ?_⟩, g2.1, g1.1⟩
  rw [hm, cond_true] at h
  cases h4 : bad4R i <;> simp only [h4, cond_true, cond_false] at h
  case true => exact nomatch h
  unfold bad4R at h4
  simp at h4; omega

theorem immV_len (i : InstZ) (hi : i.ok) : ((immV i).length : Int) = immsZ i.row := by
  have hb : ∀ a, immZ a = 0 ∨ immZ a = 1 ∨ immZ a = 2 ∨ immZ a = 4 := by
    intro a
    unfold immZ
    cases a == 6 <;> cases a == 8 <;> cases a == 9 <;> cases a == 7 <;> cases a == 10 <;> cases a == 12 <;> cases a == 13 <;> cases a == 11 <;> simp
  have key : immsZ i.row = 0 ∨ immsZ i.row = 1 ∨ immsZ i.row = 2 ∨ immsZ i.row = 4 := by
    have h1 := hb i.row.a
    have h2 := hb i.row.b
    have h3 := (row_fit i hi).1
    unfold immsZ; omega
  unfold immV
  rcases key with h | h | h | h <;> rw [h] <;> rfl
theorem midV_len (i : InstZ) : ((midV i).length : Int) = bif i.row.m then 1 + dispsZ i.mod i.rm else 0 := by
  have hd := dispsZ_bd i.mod i.rm
  unfold midV
  cases i.row.m
  · rfl
  · simp only [cond_true, List.length_cons, List.length_take, twoV, List.length_nil]
    omega
theorem put_len (i : InstZ) (hi : i.ok) : ((putL i).length : Int) = frontZ i i.row + immsZ i.row := by
  have h1 := immV_len i hi
  have h2 := midV_len i
  have e1 : ((lockV i).length : Int) = lockZ i.lock := by unfold lockV lockZ; cases i.lock <;> rfl
  have e2 : ((repV i).length : Int) = posZ i.rep := by unfold repV posZ; cases decide (0 < i.rep) <;> rfl
  have e3 : ((segV i).length : Int) = posZ i.seg := by unfold segV posZ; cases decide (0 < i.seg) <;> rfl
  unfold putL frontZ aheadZ
  simp only [List.length_append, List.length_cons, List.length_nil]
  cases hm : i.row.m <;> rw [hm] at h2 <;> simp only [cond_true, cond_false] at h2 ⊢ <;> omega
/-- An instruction that may be has 1 to 9 bytes. -/
theorem len_near (i : InstZ) (hi : i.ok) (hm : mayC i = true) : 1 ≤ lenC i ∧ lenC i ≤ 9 ∧ tailC i ≤ lenC i ∧ aheadZ i < tailC i + 1 := by
  have hb := immsZ_bd i.row
  have h4 : immsZ i.row ≤ 4 := by
    have h1 := immZ_bd i.row.a
    have h2 := immZ_bd i.row.b
    have h3 := (row_fit i hi).1
    unfold immsZ; omega
  have hf := (row_fit i hi).2
  have hd := dispsZ_bd i.mod i.rm
  have ha := aheadZ_bd i
  unfold lenC tailC frontZ
  rw [hm]
  simp only [cond_true]
  cases h : i.row.m <;> simp only [cond_true, cond_false]
  · omega
  · have := hf h
    omega
end Go.Proofs.YtpngjefdgicmiaaDoor
