/- The table of isa.Of and the text of hansomref04 say the same, by the kernel: first byte by first byte. No statement of the seat is proved here. -/
import Derived.Test.YtpngjefdgicmiaaDoorRefC
import Derived.Test.YtpngjefdgicmiaaDoorIsaE
namespace Go.Proofs.YtpngjefdgicmiaaDoor
open Go.ChangeShapes Go.WideShapes Go.ChangeAt Go.RowKit
set_option linter.unusedVariables false
set_option linter.unusedSimpArgs false

noncomputable def rowOfE (e : List UInt8) : Int × Int × Int × Bool × Bool :=
  bif rowNo e then (0, 0, 0, false, false) else (rowName e, rowA e, rowB e, secR (rowA e) || secR (rowB e), true)
noncomputable def rowEq (r q : Int × Int × Int × Bool × Bool) : Bool := r.1 == q.1 && r.2.1 == q.2.1 && r.2.2.1 == q.2.2.1 && r.2.2.2.1 == q.2.2.2.1 && r.2.2.2.2 == q.2.2.2.2
theorem rowEq_eq {r q : Int × Int × Int × Bool × Bool} (h : rowEq r q = true) : r = q := by
  obtain ⟨a, b, c, d, e⟩ := r
  obtain ⟨a', b', c', d', e'⟩ := q
  simp [rowEq] at h
  simp [h]
noncomputable def allK (p : Nat → Bool) : Nat → Bool
  | 0 => true
  | n + 1 => p n && allK p n
theorem allK_at {p : Nat → Bool} : ∀ {n}, allK p n = true → ∀ k, k < n → p k = true := by
  intro n
  induction n with
  | zero => intro _ k hk; omega
  | succ n ih =>
    intro h k hk
    simp only [allK, Bool.and_eq_true] at h
    by_cases e : k = n
    · rw [e]; exact h.1
    · exact ih h.2 k (by omega)
noncomputable def slash (w : List UInt8) : Bool := match w with
  | [] => false
  | c :: _ => c == 47
noncomputable def chk1 (op : Nat) (w : List UInt8) : Bool :=
  (match slash w with
    | true => allK (fun k => rowEq (ofR op k) (rowOfE (entL w k))) 8
    | false => match rowOfE w with
      | r => allK (fun k => rowEq (ofR op k) r) 8) &&
  (grpB op == (slash w && op != 140 && op != 142))
noncomputable def chkAll : Nat → Nat → List UInt8 → Bool
  | 0, _, _ => true
  | n + 1, op, l => chk1 op (takeW 32 l) && chkAll n (op + 1) (after 32 l)
theorem chkAll_at : ∀ (n op : Nat) (l : List UInt8), chkAll n op l = true → ∀ j, j < n → chk1 (op + j) (takeW 32 (dropW 32 j l)) = true := by
  intro n
  induction n with
  | zero => intro _ _ _ j hj; omega
  | succ n ih =>
    intro op l h j hj
    simp only [chkAll, Bool.and_eq_true] at h
    cases j with
    | zero => exact h.1
    | succ j =>
      have := ih (op + 1) (after 32 l) h.2 j (by omega)
      rw [show op + (j + 1) = op + 1 + j from by omega]
      exact this
theorem chk_all : chkAll 256 0 tabL = true := by kernel_rfl

theorem entL_same (l : List UInt8) (k : Nat) (h : slash l = false) : entL l k = l := by
  cases l with
  | nil => rfl
  | cons c r => simp only [slash] at h; simp only [entL, h, cond_false]
theorem fact_row (op k : Nat) (h : op < 256) (hk : k < 8) : ofR op k = rowOfE (entL (entW op) k) := by
  have c := chkAll_at 256 0 tabL chk_all op h
  rw [Nat.zero_add] at c
  unfold chk1 at c
  rw [Bool.and_eq_true] at c
  have c := c.1
  unfold entW
  revert c
  cases e : slash (takeW 32 (dropW 32 op tabL))
  · intro c
    rw [entL_same _ _ e]
    exact rowEq_eq (allK_at c k hk)
  · intro c
    exact rowEq_eq (allK_at c k hk)
theorem fact_grp (op : Nat) (h : op < 256) : grpB op = grpR op := by
  have c := chkAll_at 256 0 tabL chk_all op h
  rw [Nat.zero_add] at c
  unfold chk1 at c
  rw [Bool.and_eq_true] at c
  have c := c.2
  rw [beq_iff_eq] at c
  rw [c]
  unfold grpR entW slash
  cases takeW 32 (dropW 32 op tabL) <;> rfl

/-- Does one of the first so many have a second byte? -/
def twoO (op : Int) : Nat → Bool
  | 0 => false
  | n + 1 => twoO op n || ((ofR op n).2.2.2.2 && (ofR op n).2.2.2.1)

/-- The prefixes are no instructions. -/
theorem and7_b : allK (fun b => bits .and .i64 (b : Int) 7 == ((b % 8 : Nat) : Int)) 256 = true := by kernel_rfl
theorem pref_all : allK (fun b => !(prefB b) || !(ofR b (b % 8 : Nat)).2.2.2.2) 256 = true := by kernel_rfl
theorem fact_and7 (b : Nat) (h : b < 256) : bits .and .i64 (b : Int) 7 = ((b % 8 : Nat) : Int) := by
  have := allK_at and7_b b h
  rwa [beq_iff_eq] at this
theorem fact_pref (b : Nat) (h : b < 256) (hp : prefB b = true) : (ofR b (b % 8 : Nat)).2.2.2.2 = false := by
  have := allK_at pref_all b h
  rw [hp] at this
  simpa using this

/-- ref.Row returns what isa.Of does. -/
theorem rowR_any (op k : Nat) (reg : Int) (w : World) (h1 : op ≤ 255) (hk : bits .and .i64 reg 7 = (k : Int)) (h7 : k ≤ 7) :
    Calls Tryd.prog 39 #[.int .u8 op, .int .i64 reg] w fun e w' => e = .returned (.tuple #[.agg #[.int .i64 (ofR op k).1, .int .i64 (ofR op k).2.1, .int .i64 (ofR op k).2.2.1, .bool (ofR op k).2.2.2.1], .bool (ofR op k).2.2.2.2]) ∧ Below w.heap.size w w' := by
  have e := fact_row op k (by omega) (by omega)
  cases hno : rowNo (entL (entW op) k)
  · rw [e]
    unfold rowOfE
    rw [hno]
    exact rowR_yes op k reg w h1 hk h7 _ rfl hno
  · rw [e]
    unfold rowOfE
    rw [hno]
    exact rowR_no op k reg w h1 hk h7 hno
end Go.Proofs.YtpngjefdgicmiaaDoor
