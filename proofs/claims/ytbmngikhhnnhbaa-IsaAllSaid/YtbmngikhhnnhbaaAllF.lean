/- What IsaAll counts and marks: facts on the table by the kernel, sums turned round, an array of marks in cells. No statement of the seat is proved here. -/
import Derived.Test.YtbmngikhhnnhbaaCount
namespace Go.Proofs.Ytbmngikhhnnhbaa
open Go.ChangeShapes Go.WideShapes Go.ChangeAt Go.RowKit

/-- A place of the table where each name stands (first byte times eight, and the middle). -/
def wits : List Nat := [0, 64, 128, 192, 256, 320, 384, 448, 48, 56, 312, 376, 440, 504, 512, 576, 896, 904, 912, 920, 928, 936, 944, 952, 960, 968, 976, 984, 992, 1000, 1008, 1016, 1056, 1072, 1088, 1128, 1216, 1224, 1856, 1232, 1240, 1248, 1256, 1264, 1272, 1312, 1320, 1328, 1336, 1360, 1368, 1376, 1384, 1392, 1400, 1552, 1616, 1568, 1576, 1632, 1648, 1656, 1664, 1665, 1666, 1667, 1668, 1669, 1671, 1696, 1704, 1720, 1728, 1792, 1800, 1808, 1816, 1824, 1840, 1864, 1872, 1952, 1960, 1970, 1971, 1972, 1973, 1974, 1975, 1984, 1992, 2000, 2008, 2016, 2024]
theorem wit_ok : allK (fun i => decide (wits.getD i 0 < 2048) && cntd (wits.getD i 0 / 8) (wits.getD i 0 % 8) && (ofR (wits.getD i 0 / 8 : Nat) (wits.getD i 0 % 8 : Nat)).1 == ((i + 1 : Nat) : Int)) 95 = true := by kernel_rfl
theorem name_ok : allK (fun op => allK (fun k => !cntd op k || (leB 1 (ofR op k).1 && leB (ofR op k).1 95)) 8) 256 = true := by kernel_rfl
theorem fact_name (op k : Nat) (h : op < 256) (hk : k < 8) (hc : cntd op k = true) : ∃ q : Nat, (ofR op k).1 = q ∧ 1 ≤ q ∧ q ≤ 95 := by
  have := allK_at (allK_at name_ok op h) k hk
  rw [hc] at this
  simp only [Bool.not_true, Bool.false_or, Bool.and_eq_true] at this
  have h1 : 1 ≤ (ofR op k).1 := of_decide_eq_true this.1
  have h2 : (ofR op k).1 ≤ 95 := of_decide_eq_true this.2
  exact ⟨(ofR op k).1.toNat, by omega, by omega, by omega⟩
theorem fact_wit (i : Nat) (h : i < 95) : ∃ op k, op < 256 ∧ k < 8 ∧ cntd op k = true ∧ (ofR op k).1 = ((i + 1 : Nat) : Int) := by
  have := allK_at wit_ok i h
  simp only [Bool.and_eq_true, decide_eq_true_eq, beq_iff_eq] at this
  exact ⟨_, _, by omega, by omega, this.1.2, this.2⟩

/-- The first byte of a round. -/
def opAt (F i : Nat) : Nat := (i + F) % 256
theorem opAt_lt (F i : Nat) : opAt F i < 256 := Nat.mod_lt _ (by omega)
theorem sum_lo (g : Nat → Nat) (F : Nat) (hF : F ≤ 256) : ∀ n, F + n ≤ 256 → sumF (fun i => g (opAt F i)) n + sumF g F = sumF g (F + n) := by
  intro n
  induction n with
  | zero => intro _; simp [sumF]
  | succ n ih =>
    intro h
    have e := ih (by omega)
    have o : opAt F n = F + n := by unfold opAt; omega
    show sumF (fun i => g (opAt F i)) n + g (opAt F n) + sumF g F = sumF g (F + n) + g (F + n)
    rw [o]; omega
theorem sum_hi (g : Nat → Nat) (F : Nat) (hF : F ≤ 256) : ∀ n, n ≤ F → sumF (fun i => g (opAt F i)) (256 - F + n) + sumF g F = sumF g (F + (256 - F)) + sumF g n := by
  intro n
  induction n with
  | zero => intro _; have := sum_lo g F hF (256 - F) (by omega); simpa [sumF] using this
  | succ n ih =>
    intro h
    have e := ih (by omega)
    have o : opAt F (256 - F + n) = n := by unfold opAt; omega
    show sumF (fun i => g (opAt F i)) (256 - F + n) + g (opAt F (256 - F + n)) + sumF g F = sumF g (F + (256 - F)) + (sumF g n + g n)
    rw [o]; omega
def roundF (F : Nat) : Nat → Nat := fun i => cntG (opAt F i)
theorem sum_round (F : Nat) (hF : F ≤ 256) {n m : Nat} (hn : n = 256 - F + F) (hm : m = F + (256 - F)) : sumF (roundF F) n = sumF cntG m := by
  have := sum_hi cntG F hF F (Nat.le_refl _)
  rw [hn, hm]
  show sumF (fun i => cntG (opAt F i)) _ = _
  omega
theorem total_round (F : Nat) (hF : F ≤ 256) {n : Nat} (hn : n = 256) : sumF (roundF F) n = total := by
  rw [sum_round F hF (n := n) (m := n) (by omega) (by omega)]
  exact total_eq hn
theorem roundF_le (F i : Nat) : roundF F i ≤ 8 := cntK_le _ 8

/-- All that has been gone over is marked: the rounds before, and so many of this one's. -/
def Seen (F I K : Nat) (f : Nat → Bool) : Prop := ∀ i k q : Nat, k < 8 → (i < I ∨ (i = I ∧ k < K)) → cntd (opAt F i) k = true → (ofR (opAt F i : Nat) k).1 = q → f q = true
def mark (f : Nat → Bool) (q : Nat) : Nat → Bool := fun j => bif j == q then true else f j
theorem Seen.start (F : Nat) (f : Nat → Bool) : Seen F 0 0 f := fun i k q _ h => by omega
theorem Seen.skip {F I K : Nat} {f : Nat → Bool} (h : Seen F I K f) (hc : cntd (opAt F I) K = false) : Seen F I (K + 1) f := by
  intro i k q hk ho hcc hq
  by_cases e : i = I ∧ k = K
  · rw [e.1, e.2, hc] at hcc; exact nomatch hcc
  · exact h i k q hk (by omega) hcc hq
theorem Seen.mark {F I K q : Nat} {f : Nat → Bool} (h : Seen F I K f) (hq : (ofR (opAt F I : Nat) K).1 = q) : Seen F I (K + 1) (mark f q) := by
  intro i k p hk ho hcc hp
  show (bif p == q then true else f p) = true
  by_cases e : i = I ∧ k = K
  · rw [e.1, e.2, hq] at hp
    have : p = q := by omega
    rw [this, beq_self_eq_true]; rfl
  · have := h i k p hk (by omega) hcc hp
    rw [this]; cases p == q <;> rfl
theorem Seen.next {F I K : Nat} {f : Nat → Bool} (h : Seen F I K f) (hK : K = 8) : Seen F (I + 1) 0 f := fun i k q hk ho => h i k q hk (by omega)
theorem Seen.all {F I K : Nat} {f : Nat → Bool} (h : Seen F I K f) (hI : I = 256) (hF : F < 256) (j : Nat) (h1 : 1 ≤ j) (h2 : j ≤ 95) : f j = true := by
  obtain ⟨op, k, ho, hk, hc, hn⟩ := fact_wit (j - 1) (by omega)
  have e : opAt F ((op + 256 - F) % 256) = op := by unfold opAt; omega
  exact h ((op + 256 - F) % 256) k j hk (by omega) (by rw [e]; exact hc) (by rw [e, hn]; omega)

/-- The marks, and a row, in cells. -/
def encSeen (f : Nat → Bool) : Array Value := ((List.range 96).map fun i => Value.bool (f i)).toArray
def encRow (n a b : Int) (m : Bool) : Array Value := #[.int .i64 n, .int .i64 a, .int .i64 b, .bool m]
theorem seen_size (f : Nat → Bool) : (encSeen f).size = 96 := by simp [encSeen]
theorem seen_at (f : Nat → Bool) (q : Nat) (h : q < 96) : (encSeen f).toList[q]? = some (.bool (f q)) := by
  simp [encSeen, h]
theorem put_seen (f : Nat → Bool) (q : Nat) (h : q < 96) : PutRel (encSeen f) q [.bool true] (encSeen (mark f q)) := by
  constructor
  apply Array.ext_getElem?
  intro j
  rw [putList_get _ _ _ _ (by rw [seen_size]; simp; omega)]
  rw [← Array.getElem?_toList, ← Array.getElem?_toList]
  by_cases hj : j < 96
  · rw [seen_at _ j hj, seen_at _ j hj]
    by_cases e : j = q
    · subst e
      simp [mark]
    · rw [if_neg (by simp; omega)]
      simp [mark, e]
  · rw [if_neg (by simp; omega)]
    simp [encSeen, hj]
theorem put_seens (f g : Nat → Bool) : PutRel (encSeen f) 0 (encSeen g).toList (encSeen g) := putList_all (by rw [seen_size, seen_size])
theorem one_seen (f : Nat → Bool) : (encSeen f).all (·.oneCell') = true := by
  rw [Array.all_eq_true_iff_forall_mem]
  intro v hv
  simp only [encSeen, List.mem_toArray, List.mem_map] at hv
  obtain ⟨i, _, rfl⟩ := hv
  rfl
theorem put_row (n a b n' a' b' : Int) (m m' : Bool) : PutRel (encRow n a b m) 0 (encRow n' a' b' m').toList (encRow n' a' b' m') := putList_all rfl
theorem one_row (n a b : Int) (m : Bool) : (encRow n a b m).all (·.oneCell') = true := by simp [encRow, Value.oneCell']
theorem zSeen : ZeroTy Try.prog 32 (encSeen fun _ => false) := .of (by kernel_rfl)
theorem zRow : ZeroTy Try.prog 23 (encRow 0 0 0 false) := .of (by kernel_rfl)
theorem bSeen0 : Built Try.prog 32 [] (encSeen fun _ => false) := ⟨by kernel_rfl⟩
theorem tSeen : RowTy Try.prog 32 96 := .of Try.underlying32 rfl (by kernel_rfl)
theorem tRow : RowTy Try.prog 23 4 := .of Try.underlying23 rfl (by kernel_rfl)
theorem tInt : OneTy Try.prog 3 := .of Try.underlying3 rfl (by kernel_rfl)
theorem tBool : OneTy Try.prog 4 := .of Try.underlying4 rfl (by kernel_rfl)
end Go.Proofs.Ytbmngikhhnnhbaa
