/- Contracts of hansomref04.second, Name, Repeats, Bytes, Row. No statement of the seat is proved here. -/
import Derived.Test.YtpngjefdgicmiaaDoorRefB
namespace Go.Proofs.YtpngjefdgicmiaaDoor
open Go.ChangeShapes Go.WideShapes Go.ChangeAt Go.RowKit
set_option linter.unusedVariables false
set_option linter.unusedSimpArgs false


/-- Does an operand need a second byte? -/
def secR (k : Int) : Bool := decide (1 ≤ k) && decide (k ≤ 5) || k == 19 || k == 20
set_option maxHeartbeats 1000000 in
theorem secR_any (k : Int) (w : World) :
    Calls Tryd.prog 51 #[.int .i64 k] w fun e w' => e = .returned (.bool (secR k)) ∧ w = w' := by
  go_enter Tryd.func51, Tryd.ntmps51
  go_wp2
  all_goals
    go_ret
    exact ⟨ret_bool (by unfold secR; rw [Bool.eq_iff_iff]; simp; try omega), rfl⟩

/-- How many bytes an operand has behind the others. -/
def bytesR (k : Int) : Int := bif k == 6 then 1 else bif k == 8 then 1 else bif k == 9 then 1 else bif k == 7 then 2 else bif k == 10 then 2 else bif k == 12 then 2 else bif k == 13 then 2 else bif k == 11 then 4 else 0
set_option maxHeartbeats 1000000 in
theorem bytesR_any (k : Int) (w : World) :
    Calls Tryd.prog 28 #[.int .i64 k] w fun e w' => e = .returned (.int .i64 (bytesR k)) ∧ w = w' := by
  go_enter Tryd.func28, Tryd.ntmps28
  go_wp2
  all_goals
    go_ret
    exact ⟨ret_int (by simp [bytesR, *]), rfl⟩

noncomputable def nameL (n : Nat) : List UInt8 := takeW 32 (dropW 32 n namesL)
theorem word_name (n : Int) (m : Nat) (w : World) (hn : n = m) (h : m ≤ 1000) :
    Calls Tryd.prog 22 #[.string namesS, .int .i64 n] w fun e w' => e = .returned (.string ⟨(nameL m).toArray⟩) ∧ w = w' := by
  subst hn
  have h := sizes
  simp only [Bool.and_eq_true, decide_eq_true_eq] at h
  exact word_any namesS m w (by omega) (by omega)

set_option maxHeartbeats 1000000 in
set_option maxRecDepth 100000 in
theorem name_in (n : Int) (m : Nat) (w : World) (hn : n = (m : Int) + 1) (hm : m < 95) :
    Calls Tryd.prog 8 #[.int .i64 n] w fun e w' => e = .returned (.string ⟨(nameL m).toArray⟩) ∧ w = w' := by
  obtain ⟨s, hs⟩ : ∃ s : ByteArray, s = ⟨(nameL m).toArray⟩ := ⟨_, rfl⟩
  have HS := Lib.hid hs
  have h1 : 1 ≤ n := by omega
  have h2 : n ≤ 95 := by omega
  have HN := Lib.hid hn
  clear hs hn
  go_enter Tryd.func8, Tryd.ntmps8
  go_wp2_with fail
  refine (word_name _ m _ (by have := HN.out; omega) (by omega)).mono ?_; rintro e w' ⟨rfl, rfl⟩
  rw [← HS.out]
  go_wp2_with fail
  go_ret
  exact ⟨ret_str HS.out, rfl⟩
set_option maxHeartbeats 1000000 in
set_option maxRecDepth 100000 in
theorem name_out (n : Int) (w : World) (hn : n < 1 ∨ 95 < n) :
    Calls Tryd.prog 8 #[.int .i64 n] w fun e w' => e = .returned (.string ⟨#[63]⟩) ∧ w = w' := by
  rcases hn with hn | hn
  all_goals
    go_enter Tryd.func8, Tryd.ntmps8
    go_wp2_with fail
    go_ret
    exact ⟨rfl, rfl⟩

/-- How ref.Row reads an entry: none where it is '-' or empty; else name and operands by their places in the texts. -/
noncomputable def rowNo (e : List UInt8) : Bool := e == [45] || e == []
noncomputable def rowName (e : List UInt8) : Nat := findL (takeW 58 (dropW 58 0 e)) 1 [] namesL
noncomputable def rowA (e : List UInt8) : Nat := findL (takeW 58 (dropW 58 1 e)) 1 [] kindsL
noncomputable def rowB (e : List UInt8) : Nat := findL (takeW 58 (dropW 58 2 e)) 1 [] kindsL
theorem findName (t : ByteArray) (w : World) :
    Calls Tryd.prog 24 #[.string namesS, .string t] w fun e w' => e = .returned (.int .i64 (findL t.data.toList 1 [] namesL)) ∧ w = w' := by
  have h := sizes
  simp only [Bool.and_eq_true, decide_eq_true_eq] at h
  exact find_any namesS t w (by omega)
theorem findKind (t : ByteArray) (w : World) :
    Calls Tryd.prog 24 #[.string kindsS, .string t] w fun e w' => e = .returned (.int .i64 (findL t.data.toList 1 [] kindsL)) ∧ w = w' := by
  have h := sizes
  simp only [Bool.and_eq_true, decide_eq_true_eq] at h
  exact find_any kindsS t w (by omega)
set_option maxHeartbeats 1000000 in
set_option maxRecDepth 100000 in
theorem Find_any (t : ByteArray) (w : World) :
    Calls Tryd.prog 15 #[.string t] w fun e w' => e = .returned (.int .i64 (findL t.data.toList 1 [] namesL)) ∧ w = w' := by
  go_enter Tryd.func15, Tryd.ntmps15
  go_wp2_with fail
  refine (findName _ _).mono ?_; rintro e w' ⟨rfl, rfl⟩
  go_wp2_with fail
  go_ret
  exact ⟨rfl, rfl⟩
theorem str_lit (s : ByteArray) (l : List UInt8) : (s.toList == (⟨l.toArray⟩ : ByteArray).toList) = (s.data.toList == l) := by
  rw [ByteArray.toList_eq, ByteArray.toList_eq]

theorem rowName_at (s : ByteArray) (w : World) :
    Calls Tryd.prog 15 #[.string ⟨(takeW 58 (dropW 58 0 s.data.toList)).toArray⟩] w fun e w' => e = .returned (.int .i64 (rowName s.data.toList)) ∧ w = w' := Find_any _ w
theorem rowA_at (s : ByteArray) (w : World) :
    Calls Tryd.prog 24 #[.string kindsS, .string ⟨(takeW 58 (dropW 58 1 s.data.toList)).toArray⟩] w fun e w' => e = .returned (.int .i64 (rowA s.data.toList)) ∧ w = w' := findKind _ w
theorem rowB_at (s : ByteArray) (w : World) :
    Calls Tryd.prog 24 #[.string kindsS, .string ⟨(takeW 58 (dropW 58 2 s.data.toList)).toArray⟩] w fun e w' => e = .returned (.int .i64 (rowB s.data.toList)) ∧ w = w' := findKind _ w
theorem no_ways (s : ByteArray) (l : List UInt8) (h : s.data.toList = l) (hno : rowNo l = true) : (s.toList == [45]) = true ∨ ((s.toList == [45]) = false ∧ s.toList.isEmpty = true) := by
  rw [ByteArray.toList_eq, h]
  unfold rowNo at hno
  rcases Bool.eq_false_or_eq_true (l == [45]) with a | a
  · exact .inl a
  · refine .inr ⟨a, ?_⟩
    rw [a, Bool.false_or, beq_iff_eq] at hno
    rw [hno]; rfl
theorem yes_way (s : ByteArray) (l : List UInt8) (h : s.data.toList = l) (hno : rowNo l = false) : (s.toList == [45]) = false ∧ s.toList.isEmpty = false := by
  rw [ByteArray.toList_eq, h]
  unfold rowNo at hno
  rw [Bool.or_eq_false_iff] at hno
  refine ⟨hno.1, ?_⟩
  cases l with
  | nil => exact absurd hno.2 (by decide)
  | cons c r => rfl

set_option maxHeartbeats 4000000 in
set_option maxRecDepth 100000 in
theorem rowR_no (op k : Nat) (reg : Int) (w : World) (h1 : op ≤ 255) (hk : bits .and .i64 reg 7 = (k : Int)) (h7 : k ≤ 7) (hno : rowNo (entL (entW op) k) = true) :
    Calls Tryd.prog 39 #[.int .u8 op, .int .i64 reg] w fun e w' => e = .returned (.tuple #[.agg #[.int .i64 0, .int .i64 0, .int .i64 0, .bool false], .bool false]) ∧ Below w.heap.size w w' := by
  obtain ⟨s, hs⟩ : ∃ s : ByteArray, s = ⟨(entL (entW op) k).toArray⟩ := ⟨_, rfl⟩
  have hl : s.size ≤ 10000 := by rw [hs]; exact Nat.le_trans (entL_len _ k) (entW_len op)
  have hd : s.data.toList = entL (entW op) k := by rw [hs]
  have hways := no_ways s _ hd hno
  have HS := Lib.hid hs
  clear hs hd hno
  have HK := Lib.hid hk
  clear hk
  rcases hways with hA | ⟨hA, hB⟩
  all_goals
    go_enter Tryd.func39, Tryd.ntmps39
    go_wp2_with fail
    refine (entry_k op k _ _ (by omega) HK.out h7).mono ?_; rintro e w' ⟨rfl, rfl⟩
    rw [← HS.out]
    go_wp2_with fail
    exact bodyPost_ret (v := .tuple #[.agg #[.int .i64 0, .int .i64 0, .int .i64 0, .bool false], .bool false]) (by simp [results, Tryd.results39, go_sem]) rfl ⟨rfl, (Below.refl _ _).alloc (Nat.le_refl _) _⟩

set_option maxHeartbeats 4000000 in
set_option maxRecDepth 100000 in
theorem rowR_yes (op k : Nat) (reg : Int) (w : World) (h1 : op ≤ 255) (hk : bits .and .i64 reg 7 = (k : Int)) (h7 : k ≤ 7) (E : List UInt8) (hE : entL (entW op) k = E) (hno : rowNo E = false) :
    Calls Tryd.prog 39 #[.int .u8 op, .int .i64 reg] w fun e w' => e = .returned (.tuple #[.agg #[.int .i64 (rowName E), .int .i64 (rowA E), .int .i64 (rowB E), .bool (secR (rowA E) || secR (rowB E))], .bool true]) ∧ Below w.heap.size w w' := by
  obtain ⟨s, hs⟩ : ∃ s : ByteArray, s = ⟨(entL (entW op) k).toArray⟩ := ⟨_, rfl⟩
  have hl : s.size ≤ 10000 := by rw [hs]; exact Nat.le_trans (entL_len _ k) (entW_len op)
  have hd : s.data.toList = E := by rw [hs, ← hE]
  obtain ⟨hA, hB⟩ := yes_way s _ hd hno
  have HS := Lib.hid hs
  rw [← hd]
  clear hs hno hE hd E
  have HK := Lib.hid hk
  clear hk
  rcases Bool.eq_false_or_eq_true (secR (rowA s.data.toList)) with hs | hs
  all_goals
    go_enter Tryd.func39, Tryd.ntmps39
    go_wp2_with fail
    refine (entry_k op k _ _ (by omega) HK.out h7).mono ?_; rintro e w' ⟨rfl, rfl⟩
    rw [← HS.out]
    go_wp2_with fail
    refine (part_at s 58 _ 0 _ (by omega) (by omega) rfl _ rfl).mono ?_; rintro e w' ⟨rfl, rfl⟩
    go_wp2_with fail
    refine (rowName_at _ _).mono ?_; rintro e w' ⟨rfl, rfl⟩
    go_wp2_with fail
    refine (part_at s 58 _ 1 _ (by omega) (by omega) rfl _ rfl).mono ?_; rintro e w' ⟨rfl, rfl⟩
    go_wp2_with fail
    refine (rowA_at _ _).mono ?_; rintro e w' ⟨rfl, rfl⟩
    go_wp2_with fail
    refine (part_at s 58 _ 2 _ (by omega) (by omega) rfl _ rfl).mono ?_; rintro e w' ⟨rfl, rfl⟩
    go_wp2_with fail
    refine (rowB_at _ _).mono ?_; rintro e w' ⟨rfl, rfl⟩
    go_wp2_with (go_at_call 51; refine (secR_any _ _).mono ?_; rintro e w' ⟨rfl, rfl⟩)
    refine bodyPost_ret (v := .tuple #[.agg #[.int .i64 (rowName s.data.toList), .int .i64 (rowA s.data.toList), .int .i64 (rowB s.data.toList), .bool (secR (rowA s.data.toList) || secR (rowB s.data.toList))], .bool true]) (by simp [results, Tryd.results39, go_sem, *]) rfl ⟨rfl, ?_⟩
    repeat (first | exact Below.refl _ _ | refine Below.setCell ?_ (by simp <;> omega) _ | refine Below.alloc ?_ (by simp <;> omega) _)
end Go.Proofs.YtpngjefdgicmiaaDoor
