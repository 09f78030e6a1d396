/- An instruction's own bytes are read as it; without the last one, bytes are missing; some, one behind the other ('allM'). Plain reckoning. No statement of the seat is proved here. -/
import Derived.Test.YtnhlogameldkfaaScanM
namespace Go.Proofs.Ytnhlogameldkfaa
open Go.ChangeShapes Go.WideShapes Go.ChangeAt Go.RowKit
set_option linter.unusedVariables false
set_option linter.unusedSimpArgs false

def aheadI (i : InstZ) : InstZ := { { { { zeroI with lock := i.lock } with rep := i.rep } with seg := i.seg } with op := i.op }
def midI (i : InstZ) : InstZ := { { { { aheadI i with mod := i.mod } with reg := i.reg } with rm := i.rm } with disp := i.disp }
theorem ahead_step {i j : InstZ} {b : Int} {r : List Int} (hp : prefB b = true) (hm : prefM { i with op := b } b = some j) : aheadM i (b :: r) = aheadM j r := by
  rw [aheadM, hp, cond_true, hm]
theorem ahead_op (i : InstZ) (o : Int) (l : List Int) : aheadM { i with op := o } l = aheadM i l := by
  cases l <;> rfl
theorem ahead_lock (i i0 : InstZ) (h0 : i0.lock = false) (t : List Int) : aheadM i0 (lockN i ++ t) = aheadM { i0 with lock := i.lock } t := by
  unfold lockN
  cases hl : i.lock
  · rw [show ({ i0 with lock := false } : InstZ) = i0 from by rw [← h0]]; rfl
  · rw [cond_true]
    show aheadM i0 (240 :: t) = _
    rw [ahead_step (j := { { i0 with op := 240 } with lock := true }) rfl (by simp [prefM, h0])]
    exact ahead_op { i0 with lock := true } 240 t
theorem ahead_rep (i i0 : InstZ) (hr : 0 ≤ i.rep ∧ i.rep ≤ 2) (h0 : i0.rep = 0) (t : List Int) : aheadM i0 (repN i ++ t) = aheadM { i0 with rep := i.rep } t := by
  unfold repN
  rcases (show i.rep = 0 ∨ i.rep = 1 ∨ i.rep = 2 by omega) with h | h | h
  · rw [h, show ({ i0 with rep := 0 } : InstZ) = i0 from by rw [← h0]]; rfl
  · rw [h]
    show aheadM i0 (242 :: t) = _
    rw [ahead_step (j := { { i0 with op := 242 } with rep := 1 }) rfl (by simp [prefM, h0])]
    exact ahead_op { i0 with rep := 1 } 242 t
  · rw [h]
    show aheadM i0 (243 :: t) = _
    rw [ahead_step (j := { { i0 with op := 243 } with rep := 2 }) rfl (by simp [prefM, h0])]
    exact ahead_op { i0 with rep := 2 } 243 t
theorem ahead_seg (i i0 : InstZ) (hr : 0 ≤ i.seg ∧ i.seg ≤ 4) (h0 : i0.seg = 0) (t : List Int) : aheadM i0 (segN i ++ t) = aheadM { i0 with seg := i.seg } t := by
  unfold segN
  rcases (show i.seg = 0 ∨ i.seg = 1 ∨ i.seg = 2 ∨ i.seg = 3 ∨ i.seg = 4 by omega) with h | h | h | h | h
  · rw [h, show ({ i0 with seg := 0 } : InstZ) = i0 from by rw [← h0]]; rfl
  · rw [h]
    show aheadM i0 (38 :: t) = _
    rw [ahead_step (j := { { i0 with op := 38 } with seg := 1 }) rfl (by simp [prefM, h0])]
    exact ahead_op { i0 with seg := 1 } 38 t
  · rw [h]
    show aheadM i0 (46 :: t) = _
    rw [ahead_step (j := { { i0 with op := 46 } with seg := 2 }) rfl (by simp [prefM, h0])]
    exact ahead_op { i0 with seg := 2 } 46 t
  · rw [h]
    show aheadM i0 (54 :: t) = _
    rw [ahead_step (j := { { i0 with op := 54 } with seg := 3 }) rfl (by simp [prefM, h0])]
    exact ahead_op { i0 with seg := 3 } 54 t
  · rw [h]
    show aheadM i0 (62 :: t) = _
    rw [ahead_step (j := { { i0 with op := 62 } with seg := 4 }) rfl (by simp [prefM, h0])]
    exact ahead_op { i0 with seg := 4 } 62 t
theorem ahead_back (i : InstZ) (hf : Fine i) (t : List Int) : aheadM zeroI (aheadN i ++ i.op :: t) = .ok (aheadI i) t := by
  unfold aheadN
  rw [List.append_assoc, List.append_assoc, ahead_lock i zeroI rfl, ahead_rep i _ hf.rep rfl, ahead_seg i _ hf.seg rfl]
  rw [aheadM, prefB_R, hf.no, cond_false]
  rfl
theorem two_join (x : Int) : x / 256 * 256 + x % 256 = x := by omega
theorem word_back (x : Int) (t : List Int) : wordM (twoN x ++ t) = .ok x t := by
  show Sc.ok (x / 256 * 256 + x % 256) t = _
  rw [two_join]
theorem fits_back {x : Int} (hx : 0 ≤ x ∧ x ≤ 65535) (h : fitsZ x = true) : signZ (x % 256) = x := by
  unfold fitsZ at h
  simp at h
  unfold signZ
  split <;> omega
theorem sec_back (i : InstZ) (hf : Fine i) (hm : i.row.m = true) (t : List Int) : secM (aheadI i) (midN i ++ t) = .ok (midI i) t := by
  obtain ⟨m1, m2, m3⟩ := hf.mid hm
  obtain ⟨d0, d1⟩ := hf.disp hm
  have hb := dispsZ_bd i.mod i.rm
  have e1 : midZ i / 64 = i.mod := by unfold midZ; omega
  have e2 : midZ i / 8 % 8 = i.reg := by unfold midZ; omega
  have e3 : midZ i % 8 = i.rm := by unfold midZ; omega
  have hmid : ∀ d, ({ midM (aheadI i) (midZ i) with disp := d } : InstZ) = { midI i with disp := d } := by
    intro d
    unfold midM midI
    rw [e1, e2, e3]
  unfold midN
  rw [hm, cond_true]
  unfold secM
  show (bif dispsZ (midZ i / 64) (midZ i % 8) == 1 then (spreadM ((twoN i.disp).take (dispsZ i.mod i.rm).toNat ++ t)).bind _ else bif dispsZ (midZ i / 64) (midZ i % 8) == 2 then (wordM ((twoN i.disp).take (dispsZ i.mod i.rm).toNat ++ t)).bind _ else Sc.ok _ ((twoN i.disp).take (dispsZ i.mod i.rm).toNat ++ t)) = _
  rw [e1, e3]
  rcases (show dispsZ i.mod i.rm = 0 ∨ dispsZ i.mod i.rm = 1 ∨ dispsZ i.mod i.rm = 2 by omega) with e | e | e
  · rw [e]
    show Sc.ok (midM (aheadI i) (midZ i)) t = _
    have h1 := hmid 0
    have h2 : midM (aheadI i) (midZ i) = { midM (aheadI i) (midZ i) with disp := 0 } := rfl
    rw [h2, h1]
    have h3 : ({ midI i with disp := 0 } : InstZ) = midI i := by
      unfold midI
      rw [d0 e]
    rw [h3]
  · rw [e]
    show Sc.ok ({ midM (aheadI i) (midZ i) with disp := signZ (i.disp % 256) } : InstZ) t = _
    rw [hmid, fits_back hf.ok.disp (d1 e)]
    rfl
  · rw [e]
    rw [show ((2 : Int) == 1) = false from rfl, show ((2 : Int) == 2) = true from rfl, cond_false, cond_true, show (twoN i.disp).take (2 : Int).toNat = twoN i.disp from rfl, word_back]
    show Sc.ok ({ midM (aheadI i) (midZ i) with disp := i.disp } : InstZ) t = _
    rw [hmid]
    rfl
theorem beh_back (i i0 : InstZ) (hf : Fine i) (k : Int) (hk : restR i k = true) (h0 : i0.imm = 0) (h1 : i0.sel = 0) (t : List Int) : behM i0 k (immK k i ++ t) = .ok { { i0 with imm := i.imm } with sel := i.sel } t := by
  have bi := hf.ok.imm
  have z : ∀ x, i.sel = 0 → ({ i0 with imm := x } : InstZ) = { { i0 with imm := x } with sel := i.sel } := by
    intro x e
    rw [e, ← h1]
  unfold restR at hk
  rcases k_ways k with p1 | ⟨p1, p2⟩ | ⟨p1, p2, p3⟩ | ⟨p1, p2, p3, p4⟩ | ⟨p1, p2, p3, p4, p5⟩ | ⟨p1, p2, p3, p4, p5, p6⟩ | ⟨p1, p2, p3, p4, p5, p6, p7⟩ | ⟨p1, p2, p3, p4, p5, p6, p7, p8⟩ | ⟨p1, p2, p3, p4, p5, p6, p7, p8⟩
  · have e : k = 6 := by simpa using p1
    subst e
    simp only [p1, cond_true, rest6R, Bool.and_eq_true, decide_eq_true_eq, beq_iff_eq] at hk
    have hb : i.imm % 256 = i.imm := by omega
    show Sc.ok ({ i0 with imm := i.imm % 256 } : InstZ) t = _
    rw [hb, z _ hk.1.2]
  · have e : k = 8 := by simpa using p2
    subst e
    simp only [p1, p2, cond_true, cond_false, rest8R, Bool.and_eq_true, beq_iff_eq] at hk
    show Sc.ok ({ i0 with imm := signZ (i.imm % 256) } : InstZ) t = _
    rw [fits_back bi hk.1, z _ hk.2]
  · have e : k = 9 := by simpa using p3
    subst e
    simp only [p1, p2, p3, cond_true, cond_false, rest8R, Bool.and_eq_true, beq_iff_eq] at hk
    show Sc.ok ({ i0 with imm := signZ (i.imm % 256) } : InstZ) t = _
    rw [fits_back bi hk.1, z _ hk.2]
  · have e : k = 7 := by simpa using p4
    subst e
    simp only [p1, p2, p3, p4, cond_true, cond_false, beq_iff_eq] at hk
    have e0 : behM i0 7 (immK 7 i ++ t) = (wordM (twoN i.imm ++ t)).bind fun b r => .ok { i0 with imm := b } r := rfl
    rw [e0, word_back]
    show Sc.ok ({ i0 with imm := i.imm } : InstZ) t = _
    rw [z _ hk]
  · have e : k = 10 := by simpa using p5
    subst e
    simp only [p1, p2, p3, p4, p5, cond_true, cond_false, beq_iff_eq] at hk
    have e0 : behM i0 10 (immK 10 i ++ t) = (wordM (twoN i.imm ++ t)).bind fun b r => .ok { i0 with imm := b } r := rfl
    rw [e0, word_back]
    show Sc.ok ({ i0 with imm := i.imm } : InstZ) t = _
    rw [z _ hk]
  · have e : k = 12 := by simpa using p6
    subst e
    simp only [p1, p2, p3, p4, p5, p6, cond_true, cond_false, beq_iff_eq] at hk
    have e0 : behM i0 12 (immK 12 i ++ t) = (wordM (twoN i.imm ++ t)).bind fun b r => .ok { i0 with imm := b } r := rfl
    rw [e0, word_back]
    show Sc.ok ({ i0 with imm := i.imm } : InstZ) t = _
    rw [z _ hk]
  · have e : k = 13 := by simpa using p7
    subst e
    simp only [p1, p2, p3, p4, p5, p6, p7, cond_true, cond_false, beq_iff_eq] at hk
    have e0 : behM i0 13 (immK 13 i ++ t) = (wordM (twoN i.imm ++ t)).bind fun b r => .ok { i0 with imm := b } r := rfl
    rw [e0, word_back]
    show Sc.ok ({ i0 with imm := i.imm } : InstZ) t = _
    rw [z _ hk]
  · have e : k = 11 := by simpa using p8
    subst e
    have e0 : behM i0 11 (immK 11 i ++ t) = (wordM (twoN i.imm ++ twoN i.sel ++ t)).bind fun b r => (wordM r).bind fun c r => .ok { { i0 with imm := b } with sel := c } r := rfl
    rw [e0, List.append_assoc, word_back]
    have e1 : ((Sc.ok i.imm (twoN i.sel ++ t)).bind fun b r => (wordM r).bind fun c r => Sc.ok ({ { i0 with imm := b } with sel := c } : InstZ) r) = (wordM (twoN i.sel ++ t)).bind fun c r => .ok { { i0 with imm := i.imm } with sel := c } r := rfl
    rw [e1, word_back]
    rfl
  · simp only [p1, p2, p3, p4, p5, p6, p7, p8, cond_false, rest0R, Bool.and_eq_true, beq_iff_eq] at hk
    have h2 : immZ k = 0 := by unfold immZ; simp [p1, p2, p3, p4, p5, p6, p7, p8]
    rw [beh_none h2]
    unfold immK
    rw [h2]
    have e0 : ({ { i0 with imm := i.imm } with sel := i.sel } : InstZ) = i0 := by
      rw [hk.1, hk.2]
      cases i0
      simp only at h0 h1
      subst h0 h1
      rfl
    rw [e0]
    rfl
theorem putN_parts (i : InstZ) (t : List Int) : putN i ++ t = aheadN i ++ i.op :: (midN i ++ (immN i ++ t)) := by
  unfold putN aheadN
  simp
/-- An instruction's bytes are read as it, whatever stands behind them. -/
theorem inst_back (i : InstZ) (hf : Fine i) (hm : mayC i = true) (t : List Int) : instM (putN i ++ t) = .ok i t := by
  unfold instM
  rw [putN_parts, ahead_back i hf]
  show (secondM (aheadI i) (midN i ++ (immN i ++ t))).bind _ = _
  have e2 : secondM (aheadI i) (midN i ++ (immN i ++ t)) = .ok (midI i) (immN i ++ t) := by
    unfold secondM
    rw [show (aheadI i).op = i.op from rfl, two_is i hf.ok hf.is]
    cases hr : i.row.m
    · obtain ⟨a1, a2, a3, a4⟩ := hf.plain hr
      rw [cond_false]
      unfold midN
      rw [hr]
      show Sc.ok (aheadI i) (immN i ++ t) = _
      unfold midI
      rw [a1, a2, a3, a4]
      rfl
    · exact sec_back i hf hr _
  rw [e2]
  show restM (midI i) (immN i ++ t) = _
  have ok : (midI i).ok := ⟨hf.ok.rep, hf.ok.seg, hf.ok.op, hf.ok.mod, hf.ok.reg, hf.ok.rm, hf.ok.disp, z16, z16⟩
  rw [rest_bind (midI i) _ ok hf.is, immN_K i hf.ok]
  show (behM (midI i) (kR i.row) (immK (kR i.row) i ++ t)).bind _ = _
  rw [beh_back i (midI i) hf _ hf.rest rfl rfl]
  show (bif mayC i then Sc.ok i t else Sc.bad 3) = _
  rw [hm]
  rfl
/-- Without the last one bytes are missing. -/
theorem inst_short (i : InstZ) (hf : Fine i) (hm : mayC i = true) : instM ((putN i).take ((putN i).length - 1)) = .bad 2 := by
  have hp : 0 < (putN i).length := by unfold putN; simp; omega
  have h1 := inst_back i hf hm []
  rw [List.append_nil] at h1
  have h2 : (putN i).take ((putN i).length - 1) ++ (putN i).drop ((putN i).length - 1) = putN i := List.take_append_drop _ _
  have h3 : (putN i).drop ((putN i).length - 1) ≠ [] := by
    intro e
    have := congrArg List.length e
    rw [List.length_drop] at this
    simp at this
    omega
  generalize (putN i).take ((putN i).length - 1) = l at h2 ⊢
  generalize (putN i).drop ((putN i).length - 1) = m at h2 h3
  cases h : instM l with
  | ok a r =>
    have := Ext.inst.ok l m a r h
    rw [h2, h1] at this
    injection this with _ this
    exact absurd (List.append_eq_nil_iff.1 this.symm).2 h3
  | bad e =>
    rcases Ext.inst.two l e h with rfl | rfl
    · rfl
    · have := Ext.inst.bad l m h
      rw [h2, h1] at this
      exact nomatch this

theorem putN_le (i : InstZ) (hi : i.ok) (hm : mayC i = true) : 1 ≤ (putN i).length ∧ (putN i).length ≤ 9 := by
  have h := len_near i hi hm
  have h2 := put_len i hi
  rw [putN_cells, cellsB_len] at h2
  unfold lenC at h
  rw [hm] at h
  simp only [cond_true] at h
  omega

/-! ### Some, one behind the other -/
def allM : Nat → List Int → List InstZ × Nat
  | 0, _ => ([], 0)
  | n + 1, l => match instM l with
    | .ok i r => (i :: (allM n r).1, (l.length - r.length) + (allM n r).2)
    | .bad _ => ([], 0)
theorem ahead_lt : ∀ (l : List Int) (z : InstZ) {i : InstZ} {r : List Int}, aheadM z l = .ok i r → r.length < l.length
  | [], z, i, r, h => nomatch h
  | b :: l, z, i, r, h => by
    unfold aheadM at h
    cases hp : prefB b <;> simp only [hp, cond_true, cond_false] at h
    · injection h with _ h
      rw [← h]; simp
    · cases hm : prefM { z with op := b } b with
      | none => rw [hm] at h; exact nomatch h
      | some j => rw [hm] at h; have := ahead_lt l j h; simp; omega
theorem read_lt {l r : List Int} {i : InstZ} (h : instM l = .ok i r) : r.length < l.length := by
  have h1 := (Ext.inst.suf l i r h).length_le
  by_cases e : r.length = l.length
  · exfalso
    unfold instM at h
    obtain ⟨i1, r1, a1, h⟩ := Sc.bind_ok h
    obtain ⟨i2, r2, a2, h⟩ := Sc.bind_ok h
    have b2 := ((Ext.second i1).suf r1 i2 r2 a2).length_le
    have b3 := ((Ext.rest i2).suf r2 i r h).length_le
    have b1 := ahead_lt l zeroI a1
    omega
  · omega
theorem allM_le (n : Nat) (l : List Int) : (allM n l).2 ≤ l.length := by
  induction n generalizing l with
  | zero => exact Nat.zero_le _
  | succ n ih =>
    unfold allM
    cases h : instM l with
    | bad e => exact Nat.zero_le _
    | ok i r =>
      have := ih r
      have := read_lt h
      simp only
      omega
/-- The bytes of instructions are read as they, up to what is none. -/
theorem all_back (js : List InstZ) (hf : ∀ j ∈ js, Fine j ∧ mayC j = true) (n : Nat) (hn : js.length < n) (t : List Int) (ht : instM t = .bad 3) : allM n (js.flatMap putN ++ t) = (js, (js.flatMap putN).length) := by
  induction js generalizing n with
  | nil =>
    cases n with
    | zero => exact absurd hn (by simp)
    | succ n =>
      show (match instM t with | .ok i r => (i :: (allM n r).1, (t.length - r.length) + (allM n r).2) | .bad _ => ([], 0)) = _
      rw [ht]
      rfl
  | cons j js ih =>
    cases n with
    | zero => exact absurd hn (by simp)
    | succ n =>
      obtain ⟨h1, h2⟩ := hf j (.head _)
      rw [List.flatMap_cons, List.append_assoc]
      unfold allM
      rw [inst_back j h1 h2]
      simp only
      rw [ih (fun x hx => hf x (.tail _ hx)) n (by simp at hn; omega)]
      simp only [List.length_append]
      congr 1
      omega
/-- Of a beginning there are no more. -/
theorem all_less (n : Nat) (l m : List Int) : (allM n l).1.length ≤ (allM n (l ++ m)).1.length := by
  induction n generalizing l with
  | zero => exact Nat.zero_le _
  | succ n ih =>
    unfold allM
    cases h : instM l with
    | bad e => exact Nat.zero_le _
    | ok i r =>
      rw [Ext.inst.ok l m i r h]
      simp only [List.length_cons]
      have := ih r
      omega
end Go.Proofs.Ytnhlogameldkfaa
