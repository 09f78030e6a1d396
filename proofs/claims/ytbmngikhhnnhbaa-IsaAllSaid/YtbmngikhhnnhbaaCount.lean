/- How many instructions there are: what hansomlaw04.count returns. No statement of the seat is proved here. -/
import Derived.Test.YtbmngikhhnnhbaaLaw04
namespace Go.Proofs.Ytbmngikhhnnhbaa
open Go.ChangeShapes Go.WideShapes Go.ChangeAt Go.RowKit

/-- Is it counted? How many of a first byte; a sum. -/
def cntd (op k : Nat) : Bool := (ofR op k).2.2.2.2 && (k == 0 || grpB op)
def cntK (op : Nat) : Nat → Nat
  | 0 => 0
  | k + 1 => cntK op k + (bif cntd op k then 1 else 0)
def sumF (g : Nat → Nat) : Nat → Nat
  | 0 => 0
  | n + 1 => sumF g n + g n
theorem cntK_le (op : Nat) : ∀ k, cntK op k ≤ k := by
  intro k
  induction k with
  | zero => exact Nat.le_refl _
  | succ k ih => simp only [cntK]; cases cntd op k <;> simp <;> omega
theorem sumF_le (g : Nat → Nat) (h : ∀ i, g i ≤ 8) : ∀ n, sumF g n ≤ 8 * n := by
  intro n
  induction n with
  | zero => exact Nat.le_refl _
  | succ n ih => have := h n; simp only [sumF]; omega
/-- The four ways of what is counted. -/
theorem cntd_ways (op k : Nat) : ((ofR op k).2.2.2.2 = false ∧ cntd op k = false) ∨ ((ofR op k).2.2.2.2 = true ∧ ((k : Int) == 0) = true ∧ cntd op k = true) ∨
    ((ofR op k).2.2.2.2 = true ∧ ((k : Int) == 0) = false ∧ grpB op = true ∧ cntd op k = true) ∨ ((ofR op k).2.2.2.2 = true ∧ ((k : Int) == 0) = false ∧ grpB op = false ∧ cntd op k = false) := by
  unfold cntd
  have e : ((k : Int) == 0) = (k == 0) := by rw [Bool.eq_iff_iff]; simp
  rw [e]
  cases (ofR op k).2.2.2.2 <;> cases k == 0 <;> cases grpB op <;> simp
theorem byte_of (i : Nat) (h : i < 256) : IntKind.u8.wrap (i : Int) = i := IntWalk.u8_in _ (by omega)

def cntG : Nat → Nat := fun op => cntK op 8
def total : Nat := sumF cntG 256
theorem total_eq {n : Nat} (h : n = 256) : sumF cntG n = total := by rw [h]; rfl
set_option maxHeartbeats 4000000 in
set_option maxRecDepth 100000 in
theorem count_any (w : World) : Calls Try.prog 18 #[] w fun e w' => e = .returned (.int .i64 (total : Nat)) ∧ Below w.heap.size w w' := by
  go_enter Try.func18, Try.ntmps18
  go_wp2
  go_loopw [1, 2] (fun n i wr => ∃ I : Nat, I ≤ 256 ∧ n = .int .i64 (sumF cntG I) ∧ i = .int .i64 I ∧ Below w.heap.size w wr) (fun _ i _ => 256 - (intOf i).toNat)
  case atStart => exact ⟨0, by omega, rfl, rfl, Below.refl _ _⟩
  case round =>
    obtain ⟨I, hI, rfl, rfl, hb0⟩ := hrel
    by_cases hlt : I < 256
    · obtain ⟨S, hS⟩ : ∃ S, S = sumF cntG I := ⟨_, rfl⟩
      have hS2 : S ≤ 2048 := by rw [hS]; have := sumF_le cntG (fun i => cntK_le i 8) I; omega
      rw [← hS]
      have HS := Lib.hid hS
      clear hS
      have hd : decide ((I : Int) < 256) = true := decide_eq_true (by omega)
      go_wp2
      go_loopw [1, 3] (fun n k wr => ∃ K : Nat, K ≤ 8 ∧ n = .int .i64 ((S + cntK I K : Nat) : Int) ∧ k = .int .i64 K ∧ Below w.heap.size w wr) (fun _ k _ => 8 - (intOf k).toNat)
      case atStart => exact ⟨0, by omega, rfl, rfl, hb0⟩
      case round =>
        obtain ⟨K, hK, rfl, rfl, hb1⟩ := hrel
        by_cases hk : K < 8
        · have HB := Lib.hid (byte_of I hlt)
          have H7 := Lib.hid (and7_small K hk)
          obtain ⟨T, hT⟩ : ∃ T, T = S + cntK I K := ⟨_, rfl⟩
          have hT2 : T ≤ 2056 := by rw [hT]; have := cntK_le I K; omega
          rw [← hT]
          have HT := Lib.hid hT
          clear hT
          rcases cntd_ways I K with ⟨c1, cc⟩ | ⟨c1, c2, cc⟩ | ⟨c1, c2, c3, cc⟩ | ⟨c1, c2, c3, cc⟩
          all_goals
            have CC := Lib.hid cc
            clear cc
            go_wp2_with (first
              | (go_at_call 7; refine (rowR_any I K _ _ (by omega) H7.out (by omega)).mono ?_; rintro e w' ⟨rfl, hb⟩; have hz := hb.size)
              | (go_at_call 10; refine (grpR_same _ _ (by omega)).mono ?_; rintro e w' ⟨rfl, rfl⟩))
            go_roundw
            case rel => exact ⟨K + 1, by omega, by rw [show cntK I (K + 1) = cntK I K + (bif cntd I K then 1 else 0) from rfl, CC.out, ← Nat.add_assoc, ← HT.out]; first | rfl | go_num, by go_num, (hb1.trans (hb.mono hb1.size)).alloc (Nat.le_trans hb1.size hb.size) _⟩
            case measure => simp [intOf]; omega
        · have HK : Hid (S + cntK I K = sumF cntG (I + 1)) := by
            rw [show K = 8 from by omega, HS.out]; rfl
          obtain ⟨T, hT⟩ : ∃ T, T = S + cntK I K := ⟨_, rfl⟩
          have hT2 : T ≤ 2056 := by rw [hT]; have := cntK_le I K; omega
          rw [← hT] at HK
          rw [← hT]
          clear hT
          go_wp2
          go_roundw
          case rel => exact ⟨I + 1, by omega, by rw [HK.out], by go_num, hb1⟩
          case measure => simp [intOf]; omega
    · have hT := Lib.hid (total_eq (n := I) (by omega))
      go_wp2
      go_ret
      exact ⟨ret_int (by rw [hT.out]), hb0⟩
end Go.Proofs.Ytbmngikhhnnhbaa
