/- Reading an instruction from numbers of bytes, as a function ('instM'): what it makes of an instruction's own bytes, of the same without the last one, and of whatever comes. Plain reckoning. No statement of the seat is proved here. -/
import Derived.Test.YtnhlogameldkfaaInstQ
import Derived.Test.YtnhlogameldkfaaNear
import Derived.Test.YtnhlogameldkfaaIsaF
namespace Go.Proofs.Ytnhlogameldkfaa
open Go.ChangeShapes Go.WideShapes Go.ChangeAt Go.RowKit
set_option linter.unusedVariables false
set_option linter.unusedSimpArgs false

/-- What reading comes to: something, and what is left; or an error's number. -/
inductive Sc (α : Type) where
  | ok (a : α) (r : List Int)
  | bad (e : Int)
def Sc.bind {α β : Type} (m : Sc α) (f : α → List Int → Sc β) : Sc β := match m with
  | .ok a r => f a r
  | .bad e => .bad e
theorem Sc.bind_ok {α β : Type} {m : Sc α} {f : α → List Int → Sc β} {b : β} {r : List Int} (h : m.bind f = .ok b r) : ∃ a s, m = .ok a s ∧ f a s = .ok b r := by
  cases m with
  | ok a s => exact ⟨a, s, rfl, h⟩
  | bad e => exact nomatch h

def nextM : List Int → Sc Int
  | [] => .bad 2
  | b :: r => .ok b r
def spreadM (l : List Int) : Sc Int := (nextM l).bind fun b r => .ok (signZ b) r
def wordM (l : List Int) : Sc Int := (nextM l).bind fun a r => (nextM r).bind fun b r => .ok (b * 256 + a) r
/-- A prefix, put into an instruction that has none of its kind. -/
def prefM (i : InstZ) (b : Int) : Option InstZ :=
  bif b == 240 then (bif i.lock then none else some { i with lock := true })
  else bif b == 242 || b == 243 then (bif i.rep == 0 then some { i with rep := b - 242 + 1 } else none)
  else (bif i.seg == 0 then some { i with seg := (b - 38) / 8 + 1 } else none)
def aheadM : InstZ → List Int → Sc InstZ
  | _, [] => .bad 2
  | i, b :: r => bif prefB b then (match prefM { i with op := b } b with
    | some j => aheadM j r
    | none => .bad 3) else .ok { i with op := b } r
def midM (i : InstZ) (b : Int) : InstZ := { { { i with mod := b / 64 } with reg := b / 8 % 8 } with rm := b % 8 }
def secM (i : InstZ) (l : List Int) : Sc InstZ := (nextM l).bind fun b r =>
  bif dispsZ (b / 64) (b % 8) == 1 then (spreadM r).bind fun d r => .ok { midM i b with disp := d } r
  else bif dispsZ (b / 64) (b % 8) == 2 then (wordM r).bind fun d r => .ok { midM i b with disp := d } r
  else .ok (midM i b) r
def behM (i : InstZ) (k : Int) (l : List Int) : Sc InstZ :=
  bif k == 6 then (nextM l).bind fun b r => .ok { i with imm := b } r
  else bif k == 8 || k == 9 then (spreadM l).bind fun b r => .ok { i with imm := b } r
  else bif k == 7 || (k == 10 || (k == 12 || k == 13)) then (wordM l).bind fun b r => .ok { i with imm := b } r
  else bif k == 11 then (wordM l).bind fun b r => (wordM r).bind fun c r => .ok { { i with imm := b } with sel := c } r
  else .ok i l
def secondM (i : InstZ) (l : List Int) : Sc InstZ := bif twoB i.op 8 0 then secM i l else .ok i l
def restM (i : InstZ) (l : List Int) : Sc InstZ := bif i.is then (behM i i.row.a l).bind fun j r => (behM j i.row.b r).bind fun j r => bif mayC j then .ok j r else .bad 3 else .bad 3
def instM (l : List Int) : Sc InstZ := (aheadM zeroI l).bind fun i r => (secondM i r).bind fun i r => restM i r

/-! ### More bytes behind -/
structure Ext {α : Type} (f : List Int → Sc α) : Prop where
  ok : ∀ l m a r, f l = .ok a r → f (l ++ m) = .ok a (r ++ m)
  bad : ∀ l m, f l = .bad 3 → f (l ++ m) = .bad 3
  two : ∀ l e, f l = .bad e → e = 2 ∨ e = 3
  suf : ∀ l a r, f l = .ok a r → r <:+ l
theorem Ext.bind {α β : Type} {f : List Int → Sc α} {g : α → List Int → Sc β} (hf : Ext f) (hg : ∀ a, Ext (g a)) : Ext fun l => (f l).bind g := by
  refine ⟨fun l m b r h => ?_, fun l m h => ?_, fun l e h => ?_, fun l b r h => ?_⟩
  · obtain ⟨a, s, h1, h2⟩ := Sc.bind_ok h
    simp only [hf.ok l m a s h1, Sc.bind]
    exact (hg a).ok s m b r h2
  · cases h1 : f l with
    | ok a s =>
      simp only [h1, Sc.bind] at h
      simp only [hf.ok l m a s h1, Sc.bind]
      exact (hg a).bad s m h
    | bad e =>
      simp only [h1, Sc.bind, Sc.bad.injEq] at h
      subst h
      simp only [hf.bad l m h1, Sc.bind]
  · cases h1 : f l with
    | ok a s =>
      simp only [h1, Sc.bind] at h
      exact (hg a).two s e h
    | bad e' =>
      simp only [h1, Sc.bind, Sc.bad.injEq] at h
      subst h
      exact hf.two l e' h1
  · obtain ⟨a, s, h1, h2⟩ := Sc.bind_ok h
    exact ((hg a).suf s b r h2).trans (hf.suf l a s h1)
theorem Ext.pure {α : Type} (a : α) : Ext fun l => Sc.ok a l :=
  ⟨fun l m b r h => by injection h with h1 h2; rw [h1, h2], fun l m h => (nomatch h), fun l e h => (nomatch h), fun l b r h => by injection h with h1 h2; rw [h2]; exact List.suffix_refl _⟩
theorem Ext.err {α : Type} : Ext fun _ => (Sc.bad 3 : Sc α) := ⟨fun l m a r h => (nomatch h), fun l m h => rfl, fun l e h => by injection h with h; exact .inr h.symm, fun l a r h => (nomatch h)⟩
theorem Ext.cond {α : Type} (c : Bool) {f g : List Int → Sc α} (hf : Ext f) (hg : Ext g) : Ext fun l => bif c then f l else g l := by
  cases c
  · exact hg
  · exact hf
theorem Ext.next : Ext nextM := by
  refine ⟨fun l m a r h => ?_, fun l m h => ?_, fun l e h => ?_, fun l a r h => ?_⟩
  · cases l with
    | nil => exact nomatch h
    | cons b l => injection h with h1 h2; rw [← h1, ← h2]; rfl
  · cases l with
    | nil => injection h with h; exact absurd h (by decide)
    | cons b l => exact nomatch h
  · cases l with
    | nil => injection h with h; exact .inl h.symm
    | cons b l => exact nomatch h
  · cases l with
    | nil => exact nomatch h
    | cons b l => injection h with h1 h2; rw [← h2]; exact List.suffix_cons _ _
theorem Ext.spread : Ext spreadM := Ext.next.bind fun _ => .pure _
theorem Ext.word : Ext wordM := Ext.next.bind fun _ => Ext.next.bind fun _ => .pure _
theorem Ext.sec (i : InstZ) : Ext (secM i) := Ext.next.bind fun _ => .cond _ (Ext.spread.bind fun _ => .pure _) (.cond _ (Ext.word.bind fun _ => .pure _) (.pure _))
theorem Ext.second (i : InstZ) : Ext (secondM i) := .cond _ (.sec i) (.pure _)
theorem Ext.beh (i : InstZ) (k : Int) : Ext (behM i k) :=
  .cond _ (Ext.next.bind fun _ => .pure _) (.cond _ (Ext.spread.bind fun _ => .pure _) (.cond _ (Ext.word.bind fun _ => .pure _) (.cond _ (Ext.word.bind fun _ => Ext.word.bind fun _ => .pure _) (.pure _))))
theorem Ext.rest (i : InstZ) : Ext (restM i) := .cond _ ((Ext.beh i _).bind fun j => (Ext.beh j _).bind fun j => .cond _ (.pure _) .err) .err
theorem Ext.ahead (i : InstZ) : Ext (aheadM i) := by
  refine ⟨fun l => ?_, fun l => ?_, fun l => ?_, fun l => ?_⟩
  · induction l generalizing i with
    | nil => intro m a r h; exact nomatch h
    | cons b l ih =>
      intro m a r h
      rw [List.cons_append]
      unfold aheadM at h ⊢
      cases hp : prefB b <;> simp only [hp, cond_true, cond_false] at h ⊢
      · injection h with h1 h2; rw [← h1, ← h2]
      · cases hm : prefM { i with op := b } b with
        | none => rw [hm] at h; exact nomatch h
        | some j => rw [hm] at h; exact ih j m a r h
  · induction l generalizing i with
    | nil => intro m h; injection h with h; exact absurd h (by decide)
    | cons b l ih =>
      intro m h
      rw [List.cons_append]
      unfold aheadM at h ⊢
      cases hp : prefB b <;> simp only [hp, cond_true, cond_false] at h ⊢
      · exact nomatch h
      · cases hm : prefM { i with op := b } b with
        | none => rfl
        | some j => rw [hm] at h; exact ih j m h
  · induction l generalizing i with
    | nil => intro e h; injection h with h; exact .inl h.symm
    | cons b l ih =>
      intro e h
      unfold aheadM at h
      cases hp : prefB b <;> simp only [hp, cond_true, cond_false] at h
      · exact nomatch h
      · cases hm : prefM { i with op := b } b with
        | none => rw [hm] at h; injection h with h; exact .inr h.symm
        | some j => rw [hm] at h; exact ih j e h
  · induction l generalizing i with
    | nil => intro a r h; exact nomatch h
    | cons b l ih =>
      intro a r h
      unfold aheadM at h
      cases hp : prefB b <;> simp only [hp, cond_true, cond_false] at h
      · injection h with h1 h2; rw [← h2]; exact List.suffix_cons _ _
      · cases hm : prefM { i with op := b } b with
        | none => rw [hm] at h; exact nomatch h
        | some j => rw [hm] at h; exact (ih j a r h).trans (List.suffix_cons _ _)
theorem Ext.inst : Ext instM := (Ext.ahead zeroI).bind fun i => (Ext.second i).bind fun i => .rest i

/-! ### Numbers stay within their types -/
theorem bytesOk.of_suf {l r : List Int} (h : bytesOk l) (hs : r <:+ l) : bytesOk r := fun n hn => h n (hs.subset hn)
theorem bytesOk.head {b : Int} {l : List Int} (h : bytesOk (b :: l)) : 0 ≤ b ∧ b ≤ 255 := h b (.head _)
theorem bytesOk.tail {b : Int} {l : List Int} (h : bytesOk (b :: l)) : bytesOk l := fun n hn => h n (.tail _ hn)
theorem next_ok {l r : List Int} {b : Int} (hl : bytesOk l) (h : nextM l = .ok b r) : l = b :: r ∧ 0 ≤ b ∧ b ≤ 255 ∧ bytesOk r := by
  cases l with
  | nil => exact nomatch h
  | cons c l => injection h with h1 h2; subst h1 h2; exact ⟨rfl, hl.head.1, hl.head.2, hl.tail⟩
theorem spread_ok {l r : List Int} {d : Int} (hl : bytesOk l) (h : spreadM l = .ok d r) : ∃ b, l = b :: r ∧ d = signZ b ∧ 0 ≤ b ∧ b ≤ 255 ∧ bytesOk r := by
  obtain ⟨b, s, h1, h2⟩ := Sc.bind_ok h
  obtain ⟨e, b0, b1, hr⟩ := next_ok hl h1
  injection h2 with h2 h3
  subst h3
  exact ⟨b, e, h2.symm, b0, b1, hr⟩
theorem word_ok {l r : List Int} {d : Int} (hl : bytesOk l) (h : wordM l = .ok d r) : l = twoN d ++ r ∧ 0 ≤ d ∧ d ≤ 65535 ∧ bytesOk r := by
  obtain ⟨a, s, h1, h2⟩ := Sc.bind_ok h
  obtain ⟨b, t, h3, h4⟩ := Sc.bind_ok h2
  obtain ⟨e1, a0, a1, hs⟩ := next_ok hl h1
  obtain ⟨e2, b0, b1, ht⟩ := next_ok hs h3
  injection h4 with h4 h5
  subst h5 h4
  refine ⟨?_, by omega, by omega, ht⟩
  rw [e1, e2]
  unfold twoN
  rw [show (b * 256 + a) % 256 = a by omega, show (b * 256 + a) / 256 = b by omega]
  rfl
theorem InstZ.ok.put_op {i : InstZ} (h : i.ok) {v : Int} (b : 0 ≤ v ∧ v ≤ 255) : ({ i with op := v } : InstZ).ok := ⟨h.rep, h.seg, b, h.mod, h.reg, h.rm, h.disp, h.imm, h.sel⟩
theorem InstZ.ok.lockd {i : InstZ} (h : i.ok) {v : Bool} : ({ i with lock := v } : InstZ).ok := ⟨h.rep, h.seg, h.op, h.mod, h.reg, h.rm, h.disp, h.imm, h.sel⟩
theorem prefB_ways {b : Int} (h : prefB b = true) : b = 38 ∨ b = 46 ∨ b = 54 ∨ b = 62 ∨ b = 240 ∨ b = 242 ∨ b = 243 := by
  unfold prefB at h
  cases h1 : b == 38 <;> cases h2 : b == 46 <;> cases h3 : b == 54 <;> cases h4 : b == 62 <;> cases h5 : b == 240 <;> cases h6 : b == 242 <;> cases h7 : b == 243 <;> simp only [h1, h2, h3, h4, h5, h6, h7, cond_true, cond_false, reduceCtorEq] at h <;> simp only [beq_iff_eq] at h1 h2 h3 h4 h5 h6 h7 <;> omega
theorem prefB_R (b : Int) : prefB b = prefR b := by
  unfold prefB prefR
  cases b == 38 <;> cases b == 46 <;> cases b == 54 <;> cases b == 62 <;> cases b == 240 <;> cases b == 242 <;> cases b == 243 <;> rfl
/-- The prefixes of an instruction. -/
def aheadN (i : InstZ) : List Int := lockN i ++ repN i ++ segN i
theorem aheadN_len (i : InstZ) : (aheadN i).length ≤ 3 := by
  unfold aheadN lockN repN segN
  cases i.lock <;> cases decide (0 < i.rep) <;> cases decide (0 < i.seg) <;> simp
/-- What a prefix turns. -/
theorem pref_some {i j : InstZ} {b : Int} (hp : prefB b = true) (h : prefM i b = some j) :
    ((aheadN j).sum = b + (aheadN i).sum ∧ (aheadN j).length = 1 + (aheadN i).length) ∧ (i.ok → j.ok) ∧ j.op = i.op ∧ j.mod = i.mod ∧ j.reg = i.reg ∧ j.rm = i.rm ∧ j.disp = i.disp ∧ j.imm = i.imm ∧ j.sel = i.sel := by
  have hw := prefB_ways hp
  unfold prefM at h
  by_cases h1 : b = 240
  · subst h1
    simp only [beq_self_eq_true, cond_true] at h
    cases hl : i.lock <;> simp only [hl, cond_true, cond_false] at h
    · injection h with h
      subst h
      refine ⟨?_, fun h => h.lockd, rfl, rfl, rfl, rfl, rfl, rfl, rfl⟩
      unfold aheadN lockN repN segN
      rw [hl]
      simp
      omega
    · exact nomatch h
  · have e1 : (b == 240) = false := by simp [h1]
    by_cases h2 : b = 242 ∨ b = 243
    · have e2 : (b == 242 || b == 243) = true := by simpa using h2
      rw [e1, e2] at h
      simp only [cond_true, cond_false] at h
      cases hr : i.rep == 0 <;> simp only [hr, cond_true, cond_false] at h
      · exact nomatch h
      · injection h with h
        subst h
        have hr := beq_iff_eq.1 hr
        refine ⟨?_, fun h => h.put_rep (by omega), rfl, rfl, rfl, rfl, rfl, rfl, rfl⟩
        unfold aheadN lockN repN segN
        rw [hr, show decide (0 < b - 242 + 1) = true from by simp; omega]
        simp
        omega
    · have e2 : (b == 242 || b == 243) = false := by simpa [not_or] using h2
      rw [e1, e2] at h
      simp only [cond_false] at h
      cases hr : i.seg == 0 <;> simp only [hr, cond_true, cond_false] at h
      · exact nomatch h
      · injection h with h
        subst h
        have hr := beq_iff_eq.1 hr
        refine ⟨?_, fun h => h.put_seg (by omega), rfl, rfl, rfl, rfl, rfl, rfl, rfl⟩
        unfold aheadN lockN repN segN
        rw [hr, show decide (0 < (b - 38) / 8 + 1) = true from by simp; omega]
        simp
        omega
/-- What prefixes there were, and what stands behind them. -/
theorem ahead_inv : ∀ (l : List Int) (i j : InstZ) (r : List Int), bytesOk l → aheadM i l = .ok j r → ∃ p, l = p ++ j.op :: r ∧ (∀ b ∈ p, prefB b = true) ∧ prefB j.op = false ∧
    ((aheadN j).sum = p.sum + (aheadN i).sum ∧ (aheadN j).length = p.length + (aheadN i).length) ∧ (i.ok → j.ok) ∧ j.mod = i.mod ∧ j.reg = i.reg ∧ j.rm = i.rm ∧ j.disp = i.disp ∧ j.imm = i.imm ∧ j.sel = i.sel
  | [], i, j, r, _, h => nomatch h
  | b :: l, i, j, r, hl, h => by
    unfold aheadM at h
    cases hp : prefB b <;> simp only [hp, cond_true, cond_false] at h
    · injection h with h1 h2
      subst h1 h2
      exact ⟨[], rfl, (fun _ h => nomatch h), hp, ⟨by simp [aheadN, lockN, repN, segN], by simp [aheadN, lockN, repN, segN]⟩, fun h => h.put_op hl.head, rfl, rfl, rfl, rfl, rfl, rfl⟩
    · cases hm : prefM { i with op := b } b with
      | none => rw [hm] at h; exact nomatch h
      | some k =>
        rw [hm] at h
        obtain ⟨p, e, hpp, hno, ⟨hs, hn⟩, ho, a1, a2, a3, a4, a5, a6⟩ := ahead_inv l k j r hl.tail h
        obtain ⟨⟨ks, kn⟩, ko, _, c1, c2, c3, c4, c5, c6⟩ := pref_some hp hm
        refine ⟨b :: p, by rw [e]; rfl, ?_, hno, ⟨?_, ?_⟩, fun h => ho (ko (h.put_op hl.head)), a1.trans c1, a2.trans c2, a3.trans c3, a4.trans c4, a5.trans c5, a6.trans c6⟩
        · intro x hx
          rcases List.mem_cons.1 hx with rfl | hx
          · exact hp
          · exact hpp x hx
        · rw [hs, ks, List.sum_cons]
          have : (aheadN { i with op := b }).sum = (aheadN i).sum := rfl
          omega
        · rw [hn, kn, List.length_cons]
          have : (aheadN { i with op := b }).length = (aheadN i).length := rfl
          omega

theorem midM_ok {i : InstZ} {b : Int} (h : i.ok) (b0 : 0 ≤ b) (b1 : b ≤ 255) : (midM i b).ok := ((h.put_mod (by omega)).put_reg (by omega)).put_rm (by omega)
theorem midZ_mid (i : InstZ) (b d : Int) (b0 : 0 ≤ b) (b1 : b ≤ 255) : midZ { midM i b with disp := d } = b := by
  show 64 * (b / 64) + 8 * (b / 8 % 8) + b % 8 = b
  omega
theorem sec_inv {l r : List Int} {i j : InstZ} (hl : bytesOk l) (h : secM i l = .ok j r) :
    l = (midZ j :: (twoN j.disp).take (dispsZ j.mod j.rm).toNat) ++ r ∧ (i.ok → j.ok) ∧ aheadN j = aheadN i ∧ j.op = i.op ∧ j.imm = i.imm ∧ j.sel = i.sel ∧ bytesOk r := by
  obtain ⟨b, s, h1, h⟩ := Sc.bind_ok h
  obtain ⟨e, b0, b1, hs⟩ := next_ok hl h1
  subst e
  replace h : (bif dispsZ (b / 64) (b % 8) == 1 then (spreadM s).bind fun d r => .ok { midM i b with disp := d } r
    else bif dispsZ (b / 64) (b % 8) == 2 then (wordM s).bind fun d r => .ok { midM i b with disp := d } r
    else .ok (midM i b) s) = Sc.ok j r := h
  cases c1 : dispsZ (b / 64) (b % 8) == 1 <;> simp only [c1, cond_true, cond_false] at h
  · cases c2 : dispsZ (b / 64) (b % 8) == 2 <;> simp only [c2, cond_true, cond_false] at h
    · injection h with h2 h3
      subst h2 h3
      refine ⟨?_, fun h => midM_ok h b0 b1, rfl, rfl, rfl, rfl, hs⟩
      have hd := dispsZ_bd (b / 64) (b % 8)
      have c1' : dispsZ (b / 64) (b % 8) ≠ 1 := by simpa using c1
      have c2' : dispsZ (b / 64) (b % 8) ≠ 2 := by simpa using c2
      have : dispsZ (b / 64) (b % 8) = 0 := by omega
      show b :: s = (midZ (midM i b) :: (twoN _).take (dispsZ (b / 64) (b % 8)).toNat) ++ s
      rw [this, show midZ (midM i b) = b from midZ_mid i b (midM i b).disp b0 b1]
      rfl
    · obtain ⟨d, t, h2, h3⟩ := Sc.bind_ok h
      obtain ⟨e, d0, d1, ht⟩ := word_ok hs h2
      injection h3 with h3 h4
      subst h3 h4
      refine ⟨?_, fun h => (midM_ok h b0 b1).put_disp ⟨d0, d1⟩, rfl, rfl, rfl, rfl, ht⟩
      show b :: s = (midZ { midM i b with disp := d } :: (twoN d).take (dispsZ (b / 64) (b % 8)).toNat) ++ t
      rw [beq_iff_eq.1 c2, midZ_mid i b d b0 b1, e]
      rfl
  · obtain ⟨d, t, h2, h3⟩ := Sc.bind_ok h
    obtain ⟨x, e, hd, x0, x1, ht⟩ := spread_ok hs h2
    injection h3 with h3 h4
    subst h3 h4
    have hb := signZ_bd x x0 x1
    refine ⟨?_, fun h => (midM_ok h b0 b1).put_disp (by omega), rfl, rfl, rfl, rfl, ht⟩
    show b :: s = (midZ { midM i b with disp := d } :: (twoN d).take (dispsZ (b / 64) (b % 8)).toNat) ++ t
    rw [beq_iff_eq.1 c1, midZ_mid i b d b0 b1, e]
    have : d % 256 = x := by rw [hd]; unfold signZ; split <;> omega
    simp [twoN, this]
/-- What stands behind, by the operand that has something there. -/
def immK (k : Int) (i : InstZ) : List Int := bif immZ k == 1 then (twoN i.imm).take 1 else bif immZ k == 2 then twoN i.imm else bif immZ k == 4 then twoN i.imm ++ twoN i.sel else []
theorem immN_K (i : InstZ) (hi : i.ok) : immN i = immK (kR i.row) i := by unfold immN immK; rw [immZ_k i hi]
theorem beh_none {i : InstZ} {k : Int} {l : List Int} (h : immZ k = 0) : behM i k l = .ok i l := by
  obtain ⟨p6, p8, p9, p7, p10, p12, p13, p11⟩ := immZ_zero h
  unfold behM
  simp only [p6, p8, p9, p7, p10, p12, p13, p11, Bool.or_false, cond_false]
theorem beh_inv {l r : List Int} {i j : InstZ} {k : Int} (hl : bytesOk l) (h : behM i k l = .ok j r) : (∃ x y, j = { { i with imm := x } with sel := y }) ∧ (i.ok → j.ok) ∧ l = immK k j ++ r ∧ bytesOk r := by
  unfold behM at h
  rcases k_ways k with p1 | ⟨p1, p2⟩ | ⟨p1, p2, p3⟩ | ⟨p1, p2, p3, p4⟩ | ⟨p1, p2, p3, p4, p5⟩ | ⟨p1, p2, p3, p4, p5, p6⟩ | ⟨p1, p2, p3, p4, p5, p6, p7⟩ | ⟨p1, p2, p3, p4, p5, p6, p7, p8⟩ | ⟨p1, p2, p3, p4, p5, p6, p7, p8⟩
  · simp only [p1, cond_true] at h
    obtain ⟨b, s, h1, h2⟩ := Sc.bind_ok h
    obtain ⟨e, b0, b1, hs⟩ := next_ok hl h1
    injection h2 with h2 h3
    subst h2 h3
    refine ⟨⟨b, i.sel, rfl⟩, fun h => h.put_imm (by omega), ?_, hs⟩
    rw [beq_iff_eq.1 p1, e]
    simp [immK, show immZ 6 = 1 from by decide, twoN]
    omega
  iterate 2
    · simp only [*, cond_true, cond_false, Bool.or_true, Bool.true_or, Bool.or_false] at h
      obtain ⟨b, s, h1, h2⟩ := Sc.bind_ok h
      obtain ⟨x, e, hb, x0, x1, hs⟩ := spread_ok hl h1
      injection h2 with h2 h3
      subst h2 h3
      have hd := signZ_bd x x0 x1
      refine ⟨⟨b, i.sel, rfl⟩, fun h => h.put_imm (by omega), ?_, hs⟩
      have : b % 256 = x := by rw [hb]; unfold signZ; split <;> omega
      have hk : immZ k = 1 := by unfold immZ; simp [*]
      rw [e]
      simp [immK, hk, twoN, this]
  iterate 4
    · simp only [*, cond_true, cond_false, Bool.or_true, Bool.true_or, Bool.or_false] at h
      obtain ⟨b, s, h1, h2⟩ := Sc.bind_ok h
      obtain ⟨e, b0, b1, hs⟩ := word_ok hl h1
      injection h2 with h2 h3
      subst h2 h3
      refine ⟨⟨b, i.sel, rfl⟩, fun h => h.put_imm (by omega), ?_, hs⟩
      have hk : immZ k = 2 := by unfold immZ; simp [*]
      rw [e]
      simp [immK, hk]
  · simp only [*, cond_true, cond_false, Bool.or_true, Bool.true_or, Bool.or_false] at h
    obtain ⟨b, s, h1, h2⟩ := Sc.bind_ok h
    obtain ⟨c, t, h3, h4⟩ := Sc.bind_ok h2
    obtain ⟨e, b0, b1, hs⟩ := word_ok hl h1
    obtain ⟨f, c0, c1, ht⟩ := word_ok hs h3
    injection h4 with h4 h5
    subst h4 h5
    refine ⟨⟨b, c, rfl⟩, fun h => (h.put_imm (v := b) (by omega)).put_sel (v := c) (by omega), ?_, ht⟩
    have hk : immZ k = 4 := by unfold immZ; simp [*]
    rw [e, f]
    simp [immK, hk]
  · simp only [*, cond_true, cond_false, Bool.or_true, Bool.true_or, Bool.or_false] at h
    injection h with h1 h2
    subst h1 h2
    have hk : immZ k = 0 := by unfold immZ; simp [*]
    exact ⟨⟨i.imm, i.sel, rfl⟩, id, by simp [immK, hk], hl⟩
/-- Both operands: one has something behind at most. -/
theorem beh_two (i : InstZ) (hi : i.ok) (l : List Int) : ((behM i i.row.a l).bind fun j r => behM j i.row.b r) = behM i (kR i.row) l := by
  rcases (row_fit i hi).1 with h | h
  · rw [beh_none h]
    unfold kR
    rw [h]
    rfl
  · by_cases hz : immZ i.row.a = 0
    · rw [beh_none hz]
      unfold kR
      rw [hz]
      rfl
    · unfold kR
      rw [show (immZ i.row.a == 0) = false from by simp [hz], cond_false]
      cases hb : behM i i.row.a l with
      | ok j r => exact beh_none h
      | bad e => rfl
theorem two_is (i : InstZ) (hi : i.ok) (his : i.is = true) : twoB i.op 8 0 = i.row.m := by
  rw [row_mod i hi his]
  obtain ⟨b, hb⟩ := Int.eq_ofNat_of_zero_le hi.op.1
  have h1 := hi.op.2
  rw [hb]
  exact fact_two b (by omega)
theorem rest_bind (i : InstZ) (l : List Int) (hi : i.ok) (his : i.is = true) : restM i l = (behM i (kR i.row) l).bind fun j r => bif mayC j then .ok j r else .bad 3 := by
  unfold restM
  rw [his, cond_true, ← beh_two i hi]
  cases h : behM i i.row.a l with
  | bad e => rfl
  | ok j r => rfl

/-- What is read has these bytes, but for its prefixes' order. -/
structure Read (l : List Int) (i : InstZ) (r : List Int) : Prop where
  ok : i.ok
  may : mayC i = true
  split : ∃ p, l = p ++ (i.op :: (midN i ++ immN i)) ++ r ∧ (∀ b ∈ p, prefB b = true) ∧ p.sum = (aheadN i).sum ∧ p.length = (aheadN i).length
  no : prefB i.op = false
theorem zeroI_ok : zeroI.ok := by constructor <;> decide
theorem inst_inv {l r : List Int} {i : InstZ} (hl : bytesOk l) (h : instM l = .ok i r) : Read l i r := by
  obtain ⟨i1, r1, h1, h⟩ := Sc.bind_ok h
  obtain ⟨i2, r2, h2, h⟩ := Sc.bind_ok h
  obtain ⟨p, e, hp, hno, ⟨hs, hn⟩, ho, a1, a2, a3, a4, a5, a6⟩ := ahead_inv l zeroI i1 r1 hl h1
  have hr1 : bytesOk r1 := hl.of_suf (by rw [e]; exact ⟨p ++ [i1.op], by simp⟩)
  have ok1 := ho zeroI_ok
  have z1 : (aheadN zeroI).sum = 0 := rfl
  have z2 : (aheadN zeroI).length = 0 := rfl
  have key : i2.ok ∧ aheadN i2 = aheadN i1 ∧ i2.op = i1.op ∧ bytesOk r2 ∧ (i2.is = true → r1 = midN i2 ++ r2) := by
    unfold secondM at h2
    cases c : twoB i1.op 8 0 <;> simp only [c, cond_true, cond_false] at h2
    · injection h2 with h2 h3
      subst h2 h3
      refine ⟨ok1, rfl, rfl, hr1, fun his => ?_⟩
      have := two_is i1 ok1 his
      unfold midN
      rw [← this, c]
      rfl
    · obtain ⟨f1, f2, f3, f4, f5, f6, f7⟩ := sec_inv hr1 h2
      refine ⟨f2 ok1, f3, f4, f7, fun his => ?_⟩
      have := two_is i2 (f2 ok1) his
      rw [f4, c] at this
      unfold midN
      rw [← this, cond_true]
      exact f1
  obtain ⟨ok2, g1, g2, g3, g4⟩ := key
  cases his : i2.is
  · unfold restM at h; rw [his] at h; exact nomatch h
  rw [rest_bind i2 r2 ok2 his] at h
  obtain ⟨i3, r3, h3, h⟩ := Sc.bind_ok h
  obtain ⟨⟨x, y, hx⟩, ok3, f, _⟩ := beh_inv g3 h3
  cases hm : mayC i3 <;> simp only [hm, cond_true, cond_false] at h
  · exact nomatch h
  injection h with h4 h5
  subst h4 h5
  have o3 := ok3 ok2
  subst hx
  refine ⟨o3, hm, ⟨p, ?_, hp, ?_, ?_⟩, ?_⟩
  · rw [e, g4 his, f, immN_K _ o3]
    show p ++ i1.op :: (midN i2 ++ (immK (kR i2.row) _ ++ r3)) = p ++ (i2.op :: (midN i2 ++ immK (kR i2.row) _)) ++ r3
    rw [g2]
    simp only [List.append_assoc, List.cons_append]
  · show p.sum = (aheadN i2).sum
    rw [g1]; omega
  · show p.length = (aheadN i2).length
    rw [g1]; omega
  · show prefB i2.op = false
    rw [g2]; exact hno
end Go.Proofs.Ytnhlogameldkfaa
