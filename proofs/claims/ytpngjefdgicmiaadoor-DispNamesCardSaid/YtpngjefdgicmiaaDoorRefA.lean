/- Contracts of hansomref04.word, part, find: plain functions on lists of bytes. No statement of the seat is proved here. -/
import Derived.Test.YtpngjefdgicmiaaDoorIsaB8
import Derived.WalkKit
import Derived.ProofKit
import Derived.Handy
import Derived.Below
import Derived.Deep.QuietTactic
import Derived.BigQuiet
import Derived.Lib.Hide
namespace Go.Proofs.YtpngjefdgicmiaaDoor
open Go.ChangeShapes Go.WideShapes Go.ChangeAt Go.RowKit
set_option linter.unusedVariables false
set_option linter.unusedSimpArgs false

/-- What stands behind the next mark; so many further on; what stands there, up to the next mark. -/
def after (m : UInt8) : List UInt8 → List UInt8
  | [] => []
  | c :: r => bif c == m then r else after m r
def dropW (m : UInt8) : Nat → List UInt8 → List UInt8
  | 0, l => l
  | n + 1, l => dropW m n (after m l)
def takeW (m : UInt8) : List UInt8 → List UInt8
  | [] => []
  | c :: r => bif c == m then [] else c :: takeW m r

theorem drop_cons (s : ByteArray) (k : Nat) (h : k < s.size) : s.data.toList.drop k = s[k] :: s.data.toList.drop (k + 1) := by
  rw [List.drop_eq_getElem_cons (by simpa using h)]; rfl
theorem after_no (s : ByteArray) (k : Nat) (h : s.size ≤ k) : s.data.toList.drop k = [] := List.drop_eq_nil_of_le (by simpa using h)
theorem dropW_nil (m : UInt8) : ∀ n, dropW m n [] = [] := by intro n; induction n with | zero => rfl | succ n ih => exact ih
theorem mark_yes {c m : UInt8} (h : ((c.toNat : Int) != (m.toNat : Int)) = false) : (c == m) = true := by
  simp at h; rw [beq_iff_eq]; exact UInt8.toNat_inj.mp (by omega)
theorem mark_no {c m : UInt8} (h : ((c.toNat : Int) != (m.toNat : Int)) = true) : (c == m) = false := by
  simp at h; rw [beq_eq_false_iff_ne]; intro e; exact h (by rw [e])
theorem blank_yes {c : UInt8} (h : ((c.toNat : Int) != 32) = false) : (c == 32) = true := mark_yes (m := 32) h
theorem blank_no {c : UInt8} (h : ((c.toNat : Int) != 32) = true) : (c == 32) = false := mark_no (m := 32) h

/-- From a place on, up to another: no mark. -/
def plainW (m : UInt8) (s : ByteArray) (a b : Nat) : Prop :=
  takeW m (s.data.toList.drop a) = (s.data.toList.drop a).take (b - a) ++ takeW m (s.data.toList.drop b) ∧ after m (s.data.toList.drop b) = after m (s.data.toList.drop a)
theorem plain_start (m : UInt8) (s : ByteArray) (a : Nat) : plainW m s a a := by simp [plainW]
theorem take_next (s : ByteArray) (a b : Nat) (hab : a ≤ b) (hb : b < s.size) : (s.data.toList.drop a).take (b + 1 - a) = (s.data.toList.drop a).take (b - a) ++ [s[b]] := by
  rw [show b + 1 - a = (b - a) + 1 from by omega, List.take_succ_eq_append_getElem (by simpa using (by omega : b - a < s.size - a))]
  simp [show a + (b - a) = b from by omega]; rfl
theorem plain_next (m : UInt8) (s : ByteArray) (a b : Nat) (hab : a ≤ b) (hb : b < s.size) (h : plainW m s a b) (hc : (s[b] == m) = false) : plainW m s a (b + 1) := by
  obtain ⟨h, h'⟩ := h
  unfold plainW
  rw [← h', h, drop_cons s b hb, take_next s a b hab hb]
  simp [takeW, after, hc]
theorem plain_end (m : UInt8) (s : ByteArray) (a b : Nat) (h : plainW m s a b) (he : s.size ≤ b ∨ ∃ hb : b < s.size, (s[b] == m) = true) : (s.data.toList.drop a).take (b - a) = takeW m (s.data.toList.drop a) := by
  rw [h.1]
  rcases he with he | ⟨hb, hc⟩
  · rw [after_no s b he]; simp [takeW]
  · rw [drop_cons s b hb]; simp [takeW, hc]
theorem plain_after (m : UInt8) (s : ByteArray) (a b : Nat) (h : plainW m s a b) (he : s.size ≤ b ∨ ∃ hb : b < s.size, (s[b] == m) = true) : after m (s.data.toList.drop a) = s.data.toList.drop (b + 1) := by
  rw [← h.2]
  rcases he with he | ⟨hb, hc⟩
  · rw [after_no s b he, after_no s (b + 1) (by omega)]; rfl
  · rw [drop_cons s b hb]; simp [after, hc]
theorem extract_list (s : ByteArray) (a b : Nat) : s.extract a b = ⟨((s.data.toList.drop a).take (b - a)).toArray⟩ := by
  apply ByteArray.ext
  apply Array.ext'
  simp [List.extract]
theorem cut_end (m : UInt8) (s : ByteArray) (a b : Nat) (h : plainW m s a b) (he : s.size ≤ b ∨ ∃ hb : b < s.size, (s[b] == m) = true) : s.extract a b = ⟨(takeW m (s.data.toList.drop a)).toArray⟩ := by
  rw [extract_list, plain_end m s a b h he]

theorem ret_str {a b : ByteArray} (h : a = b) : Ending.returned (.string a) = .returned (.string b) := by rw [h]

set_option maxHeartbeats 1000000 in
theorem word_any (s : ByteArray) (n : Nat) (w : World) (hs : s.size ≤ 1000000) (hn : n ≤ 1000000) :
    Calls Tryd.prog 22 #[.string s, .int .i64 n] w fun e w' => e = .returned (.string ⟨(takeW 32 (dropW 32 n s.data.toList)).toArray⟩) ∧ w = w' := by
  go_enter Tryd.func22, Tryd.ntmps22
  go_wp2
  go_loop [5, 6] (fun a i => ∃ (at_ k : Nat), k ≤ n ∧ at_ ≤ s.size + 1 ∧ a = .int .i64 at_ ∧ i = .int .i64 k ∧ dropW 32 (n - k) (s.data.toList.drop at_) = dropW 32 n s.data.toList) (fun _ i => n - (intOf i).toNat)
  case atStart => exact ⟨0, 0, by omega, by omega, rfl, rfl, by simp⟩
  case round =>
    obtain ⟨a, k, hk, ha, rfl, rfl, hrel⟩ := hrel
    have HR := Lib.hid hrel
    clear hrel
    by_cases hgo : k < n ∧ a < s.size
    · obtain ⟨hlt, hal⟩ := hgo
      have HD : Hid (dropW 32 (n - k) (s.data.toList.drop a) = dropW 32 (n - (k + 1)) (after 32 (s.data.toList.drop a))) := by
        rw [show n - k = (n - (k + 1)) + 1 from by omega]; rfl
      go_wp2
      go_loop [5] (fun x => ∃ b : Nat, a ≤ b ∧ b ≤ s.size ∧ x = .int .i64 b ∧ plainW 32 s a b) (fun x => s.size - (intOf x).toNat)
      case atStart => exact ⟨a, by omega, by omega, rfl, plain_start _ s a⟩
      case round =>
        obtain ⟨b, hab, hbs, rfl, hrel⟩ := hrel
        have HB := Lib.hid hrel
        clear hrel
        by_cases hbl : b < s.size
        · go_wp2
          · go_round
            case rel => exact ⟨b + 1, by omega, by omega, by go_num, plain_next 32 s a b hab hbl HB.out (blank_no ‹_›)⟩
            case measure => simp [intOf]; omega
          · go_round
            case rel => exact ⟨b + 1, k + 1, by omega, by omega, by go_num, by go_num, by rw [← HR.out, HD.out, plain_after 32 s a b HB.out (.inr ⟨hbl, blank_yes ‹_›⟩)]⟩
            case measure => simp [intOf]; omega
        · obtain rfl : b = s.size := by omega
          go_wp2
          go_round
          case rel => exact ⟨s.size + 1, k + 1, by omega, by omega, by go_num, by go_num, by rw [← HR.out, HD.out, plain_after 32 s a _ HB.out (.inl (by omega))]⟩
          case measure => simp [intOf]; omega
    · have HE : Hid (takeW 32 (dropW 32 n s.data.toList) = takeW 32 (s.data.toList.drop a)) := by
        rw [← HR.out]
        by_cases hlt : k < n
        · have h0 := after_no s a (by omega)
          rw [h0, dropW_nil]; rfl
        · rw [show n - k = 0 from by omega]; rfl
      by_cases hal : a < s.size
      · have hlt : n ≤ k := by omega
        clear hgo
        go_wp2
        go_loop [7] (fun x => ∃ b : Nat, a ≤ b ∧ b ≤ s.size ∧ x = .int .i64 b ∧ plainW 32 s a b) (fun x => s.size - (intOf x).toNat)
        case atStart => exact ⟨a, by omega, by omega, rfl, plain_start _ s a⟩
        case round =>
          obtain ⟨b, hab, hbs, rfl, hrel⟩ := hrel
          have HB := Lib.hid hrel
          clear hrel
          by_cases hbl : b < s.size
          · go_wp2
            · go_round
              case rel => exact ⟨b + 1, by omega, by omega, by go_num, plain_next 32 s a b hab hbl HB.out (blank_no ‹_›)⟩
              case measure => simp [intOf]; omega
            · have hc := blank_yes ‹(↑s[b].toNat != (32 : Int)) = false›
              go_ret
              exact ⟨ret_str (by rw [HE.out]; exact cut_end 32 s a b HB.out (.inr ⟨hbl, hc⟩)), rfl⟩
          · go_wp2
            go_ret
            exact ⟨ret_str (by rw [HE.out]; exact cut_end 32 s a b HB.out (.inl (by omega))), rfl⟩
      · have hlt : n ≤ k ∨ k < n := by omega
        clear hgo
        have HN := Lib.hid (after_no s a (by omega))
        rcases hlt with hlt | hlt
        all_goals
          go_wp2
          go_loop [7] (fun x => x = .int .i64 a) (fun x => 0)
          case atStart => exact rfl
          case round =>
            obtain rfl := hrel
            go_wp2
            go_ret
            exact ⟨by rw [HE.out, HN.out]; rfl, rfl⟩

set_option maxHeartbeats 1000000 in
theorem part_any (s : ByteArray) (m : UInt8) (n : Nat) (w : World) (hs : s.size ≤ 1000000) (hn : n ≤ 1000000) :
    Calls Tryd.prog 50 #[.string s, .int .u8 (m.toNat : Int), .int .i64 n] w fun e w' => e = .returned (.string ⟨(takeW m (dropW m n s.data.toList)).toArray⟩) ∧ w = w' := by
  go_enter Tryd.func50, Tryd.ntmps50
  go_wp2
  go_loop [2, 7, 8] (fun k f i => ∃ (j a b : Nat), j ≤ n ∧ a ≤ b ∧ b ≤ s.size + 1 ∧ (b = s.size + 1 → a = b) ∧ k = .int .i64 j ∧ f = .int .i64 a ∧ i = .int .i64 b ∧ plainW m s a b ∧ dropW m j (s.data.toList.drop a) = dropW m n s.data.toList) (fun _ _ i => s.size + 1 - (intOf i).toNat)
  case atStart => exact ⟨n, 0, 0, by omega, by omega, by omega, by omega, rfl, rfl, rfl, plain_start _ s 0, by simp⟩
  case round =>
    obtain ⟨j, a, b, hj, hab, hb, hend, rfl, rfl, rfl, hpl, hrel⟩ := hrel
    have HR := Lib.hid hrel
    have HP := Lib.hid hpl
    have HE := Lib.hid hend
    clear hrel hpl hend
    by_cases hin : b ≤ s.size
    · by_cases hbl : b < s.size
      · rcases Bool.eq_false_or_eq_true ((s[b].toNat : Int) != (m.toNat : Int)) with hc | hc
        · go_wp2
          go_round
          case rel => exact ⟨j, a, b + 1, by omega, by omega, by omega, by omega, rfl, rfl, by go_num, plain_next m s a b hab hbl HP.out (mark_no hc), HR.out⟩
          case measure => simp [intOf]; omega
        · have HM : Hid ((s[b] == m) = true) := mark_yes hc
          by_cases hj0 : j = 0
          · subst hj0
            go_wp2
            go_ret
            exact ⟨ret_str (by rw [← HR.out]; exact cut_end m s a b HP.out (.inr ⟨hbl, HM.out⟩)), rfl⟩
          · obtain ⟨j, rfl⟩ : ∃ i, j = i + 1 := ⟨j - 1, by omega⟩
            clear hj0
            have hj1 : ((j : Int) + 1 == 0) = false := by simp; omega
            go_wp2
            go_round
            case rel => exact ⟨j, b + 1, b + 1, by omega, by omega, by omega, by omega, by first | rfl | go_num, by go_num, by go_num, plain_start _ s _, by rw [← plain_after m s a b HP.out (.inr ⟨hbl, HM.out⟩)]; exact HR.out⟩
            case measure => simp [intOf]; omega
      · by_cases hj0 : j = 0
        · subst hj0
          go_wp2
          go_ret
          exact ⟨ret_str (by rw [← HR.out]; exact cut_end m s a b HP.out (.inl (by omega))), rfl⟩
        · obtain ⟨j, rfl⟩ : ∃ i, j = i + 1 := ⟨j - 1, by omega⟩
          clear hj0
          have hj1 : ((j : Int) + 1 == 0) = false := by simp; omega
          go_wp2
          go_round
          case rel => exact ⟨j, b + 1, b + 1, by omega, by omega, by omega, by omega, by first | rfl | go_num, by go_num, by go_num, plain_start _ s _, by rw [← plain_after m s a b HP.out (.inl (by omega))]; exact HR.out⟩
          case measure => simp [intOf]; omega
    · have HZ : Hid (takeW m (dropW m n s.data.toList) = []) := by
        have e := HE.out (by omega)
        rw [← HR.out, after_no s a (by omega), dropW_nil]; rfl
      go_wp2
      go_ret
      exact ⟨ret_str (by rw [HZ.out]), rfl⟩

/-- Which word of a text it is, from a number on; 'cur': what has been read of the word. -/
def findL (w : List UInt8) : Nat → List UInt8 → List UInt8 → Nat
  | _, _, [] => 0
  | n, cur, c :: r => bif c == 32 then (bif cur == w then n else findL w (n + 1) [] r) else findL w n (cur ++ [c]) r

theorem str_eq (s t : ByteArray) (a b : Nat) : ((s.extract a b).toList == t.toList) = ((s.data.toList.drop a).take (b - a) == t.data.toList) := by
  rw [ByteArray.toList_eq, ByteArray.toList_eq, extract_list]

set_option maxHeartbeats 1000000 in
theorem find_any (s t : ByteArray) (w : World) (hs : s.size ≤ 1000000) :
    Calls Tryd.prog 24 #[.string s, .string t] w fun e w' => e = .returned (.int .i64 (findL t.data.toList 1 [] s.data.toList)) ∧ w = w' := by
  go_enter Tryd.func24, Tryd.ntmps24
  go_wp2
  go_loop [5, 6, 7] (fun k f i => ∃ (n a b : Nat), n ≤ b + 1 ∧ a ≤ b ∧ b ≤ s.size ∧ k = .int .i64 n ∧ f = .int .i64 a ∧ i = .int .i64 b ∧ findL t.data.toList n ((s.data.toList.drop a).take (b - a)) (s.data.toList.drop b) = findL t.data.toList 1 [] s.data.toList) (fun _ _ i => s.size - (intOf i).toNat)
  case atStart => exact ⟨1, 0, 0, by omega, by omega, by omega, rfl, rfl, rfl, by simp⟩
  case round =>
    obtain ⟨n, a, b, hn, hab, hb, rfl, rfl, rfl, hrel⟩ := hrel
    have HR := Lib.hid hrel
    clear hrel
    by_cases hbl : b < s.size
    · have HD := Lib.hid (drop_cons s b hbl)
      rcases Bool.eq_false_or_eq_true ((s[b].toNat : Int) != 32) with hc | hc
      · have HM : Hid ((s[b] == 32) = false) := blank_no hc
        go_wp2
        go_round
        case rel => exact ⟨n, a, b + 1, by omega, by omega, by omega, rfl, rfl, by go_num, by rw [take_next s a b hab hbl, ← HR.out, HD.out]; simp only [findL, HM.out, cond_false]⟩
        case measure => simp [intOf]; omega
      · have HM : Hid ((s[b] == 32) = true) := blank_yes hc
        have HQ := Lib.hid (str_eq s t a b)
        go_wp2
        · have hq := ‹((s.extract a b).toList == t.toList) = true›
          go_ret
          exact ⟨ret_int (by rw [← HR.out, HD.out]; simp only [findL, HM.out, ← HQ.out, hq, cond_true]), rfl⟩
        · have hq := Lib.hid ‹((s.extract a b).toList == t.toList) = false›
          go_round
          case rel => exact ⟨n + 1, b + 1, b + 1, by omega, by omega, by omega, by go_num, by go_num, by go_num, by rw [← HR.out, HD.out]; simp [findL, HM.out, ← HQ.out, hq.out]⟩
          case measure => simp [intOf]; omega
    · obtain rfl : b = s.size := by omega
      go_wp2
      go_ret
      exact ⟨ret_int (by rw [← HR.out, after_no s s.size (Nat.le_refl _)]; rfl), rfl⟩
end Go.Proofs.YtpngjefdgicmiaaDoor
