/- The texts of hansomref04, taken out of the program, and the contract of Entry. No statement of the seat is proved here. -/
import Derived.Test.YtpngjefdgicmiaaDoorRefA
namespace Go.Proofs.YtpngjefdgicmiaaDoor
open Go.ChangeShapes Go.WideShapes Go.ChangeAt Go.RowKit
set_option linter.unusedVariables false
set_option linter.unusedSimpArgs false

/-- The first text that a function hands to a call. -/
def strArg : List Operand → Option ByteArray
  | [] => none
  | .const (.string s) :: _ => some s
  | _ :: r => strArg r
def strOps : List Oper → Option ByteArray
  | [] => none
  | o :: r => match o.op with
    | .call c => match strArg c.args.toList with
      | some s => some s
      | none => strOps r
    | _ => strOps r
def strCode : Code → Option ByteArray
  | .region _ ops _ => strOps ops.toList
  | .seq a b => match strCode a with
    | some s => some s
    | none => strCode b
  | .block _ b => strCode b
  | _ => none
def strOf (f : Func) : ByteArray := match f.body with
  | some c => (strCode c).getD ⟨#[]⟩
  | none => ⟨#[]⟩
noncomputable def tabS : ByteArray := strOf Tryd.f49
noncomputable def namesS : ByteArray := strOf Tryd.f15
noncomputable def kindsS : ByteArray := strOf Tryd.f39
noncomputable def tabL : List UInt8 := tabS.data.toList
noncomputable def namesL : List UInt8 := namesS.data.toList
noncomputable def kindsL : List UInt8 := kindsS.data.toList
theorem sizes : (decide (100 ≤ tabS.size ∧ tabS.size ≤ 10000) && decide (100 ≤ namesS.size ∧ namesS.size ≤ 10000) && decide (50 ≤ kindsS.size ∧ kindsS.size ≤ 10000)) = true := by kernel_rfl
theorem names_two : strOf Tryd.f8 = namesS := by kernel_rfl

noncomputable def entW (op : Nat) : List UInt8 := takeW 32 (dropW 32 op tabL)
theorem takeW_len (m : UInt8) : ∀ l, (takeW m l).length ≤ l.length := by
  intro l
  induction l with
  | nil => simp [takeW]
  | cons c r ih => simp only [takeW]; cases c == m <;> simp <;> omega
theorem after_len (m : UInt8) : ∀ l, (after m l).length ≤ l.length := by
  intro l
  induction l with
  | nil => simp [after]
  | cons c r ih => simp only [after]; cases c == m <;> simp <;> omega
theorem dropW_len (m : UInt8) : ∀ n l, (dropW m n l).length ≤ l.length := by
  intro n
  induction n with
  | zero => intro l; exact Nat.le_refl _
  | succ n ih => intro l; exact Nat.le_trans (ih _) (after_len m l)
theorem entW_len (op : Nat) : (entW op).length ≤ 10000 := by
  have h := sizes
  simp only [Bool.and_eq_true, decide_eq_true_eq] at h
  have h1 : tabL.length = tabS.size := rfl
  have := takeW_len 32 (dropW 32 op tabL)
  have := dropW_len 32 op tabL
  unfold entW; omega

theorem word_tab (op : Nat) (w : World) (h : op ≤ 1000) :
    Calls Tryd.prog 22 #[.string tabS, .int .i64 op] w fun e w' => e = .returned (.string ⟨(entW op).toArray⟩) ∧ w = w' := by
  have h := sizes
  simp only [Bool.and_eq_true, decide_eq_true_eq] at h
  exact word_any tabS op w (by omega) (by omega)
theorem part_at (s : ByteArray) (m : UInt8) (n : Int) (k : Nat) (w : World) (hs : s.size ≤ 1000000) (hn : k ≤ 1000000) (h : n = k) (b : Int) (hb : b = (m.toNat : Int)) :
    Calls Tryd.prog 50 #[.string s, .int .u8 b, .int .i64 n] w fun e w' => e = .returned (.string ⟨(takeW m (dropW m k s.data.toList)).toArray⟩) ∧ w = w' := by
  subst h hb; exact part_any s m k w hs hn

/-- What stands at a place of the table: as it is, or the part that the middle of the second byte tells. -/
def entL (l : List UInt8) (k : Nat) : List UInt8 := match l with
  | [] => []
  | c :: r => bif c == 47 then takeW 47 (dropW 47 (k + 1) (c :: r)) else c :: r
theorem entL_len (l : List UInt8) (k : Nat) : (entL l k).length ≤ l.length := by
  unfold entL
  split
  · simp
  · cases (_ == (47 : UInt8))
    · exact Nat.le_refl _
    · exact Nat.le_trans (takeW_len _ _) (dropW_len _ _ _)
theorem entL_slash (s : ByteArray) (k : Nat) (h : 0 < s.size) (hc : (s[0] == 47) = true) : entL s.data.toList k = takeW 47 (dropW 47 (k + 1) s.data.toList) := by
  have e := drop_cons s 0 h
  rw [List.drop_zero] at e
  rw [e]; simp only [entL, hc, cond_true]
theorem entL_plain (s : ByteArray) (k : Nat) (h : 0 < s.size) (hc : (s[0] == 47) = false) : entL s.data.toList k = s.data.toList := by
  have e := drop_cons s 0 h
  rw [List.drop_zero] at e
  rw [e]; simp only [entL, hc, cond_false]
theorem entL_nil (s : ByteArray) (k : Nat) (h : s.size = 0) : entL s.data.toList k = s.data.toList := by
  have e : s.data.toList = [] := List.eq_nil_of_length_eq_zero h
  rw [e]; rfl

theorem slash_yes {c : UInt8} (h : ((c.toNat : Int) == 47) = true) : (c == 47) = true := by
  simp at h; rw [beq_iff_eq]; exact UInt8.toNat_inj.mp (by show c.toNat = 47; omega)
theorem slash_no {c : UInt8} (h : ((c.toNat : Int) == 47) = false) : (c == 47) = false := by
  simp at h; rw [beq_eq_false_iff_ne]; intro e; exact h (by rw [e]; rfl)

set_option maxHeartbeats 1000000 in
set_option maxRecDepth 100000 in
theorem entry_k (op k : Nat) (reg : Int) (w : World) (h1 : op ≤ 255) (hk : bits .and .i64 reg 7 = (k : Int)) (h7 : k ≤ 7) :
    Calls Tryd.prog 49 #[.int .u8 op, .int .i64 reg] w fun e w' => e = .returned (.string ⟨(entL (entW op) k).toArray⟩) ∧ w = w' := by
  obtain ⟨s, hs⟩ : ∃ s : ByteArray, s = ⟨(entW op).toArray⟩ := ⟨_, rfl⟩
  have hl : s.size ≤ 10000 := by rw [hs]; exact entW_len op
  have hd : s.data.toList = entW op := by rw [hs]
  have HS := Lib.hid hs
  have HD := Lib.hid hd
  clear hs hd
  go_enter Tryd.func49, Tryd.ntmps49
  go_wp2_with fail
  refine (word_tab _ _ (by omega)).mono ?_; rintro e w' ⟨rfl, rfl⟩
  rw [← HS.out]
  go_wp2_with fail
  · refine (part_at s 47 _ (k + 1) _ (by omega) (by omega) (by omega) _ rfl).mono ?_; rintro e w' ⟨rfl, rfl⟩
    have hc := Lib.hid (slash_yes ‹((s[0].toNat : Int) == 47) = true›)
    have hp := Lib.hid ‹0 < s.size›
    go_wp2_with fail
    go_ret
    exact ⟨ret_str (by rw [← HD.out, entL_slash s k hp.out hc.out]), rfl⟩
  · have hc := slash_no ‹((s[0].toNat : Int) == 47) = false›
    go_ret
    exact ⟨ret_str (by rw [← HD.out, entL_plain s k ‹_› hc]), rfl⟩
  · go_ret
    exact ⟨ret_str (by rw [← HD.out, entL_nil s k (by omega)]), rfl⟩

/-- Does the middle of the second byte count? -/
noncomputable def grpR (op : Nat) : Bool := match entW op with
  | [] => false
  | c :: _ => c == 47 && op != 140 && op != 142
theorem grpR_at (s : ByteArray) (op : Nat) (h : 0 < s.size) (hd : s.data.toList = entW op) : grpR op = (s[0] == 47 && op != 140 && op != 142) := by
  have e := drop_cons s 0 h
  rw [List.drop_zero] at e
  unfold grpR; rw [← hd, e]
theorem slash_dec (c : UInt8) : (c == 47) = decide ((c.toNat : Int) = 47) := by
  cases h : ((c.toNat : Int) == 47)
  · rw [slash_no h]; simp at h; simp [h]
  · rw [slash_yes h]; simp at h; simp [h]
theorem grpR_at' (s : ByteArray) (op : Nat) (h : 0 < s.size) (hd : s.data.toList = entW op) : grpR op = (decide ((s[0].toNat : Int) = 47) && ((op : Int) != 140 && (op : Int) != 142)) := by
  rw [grpR_at s op h hd, slash_dec, Bool.and_assoc]
  congr 1
  rw [Bool.eq_iff_iff]; simp; omega
theorem grpR_nil (s : ByteArray) (op : Nat) (h : s.size = 0) (hd : s.data.toList = entW op) : grpR op = false := by
  have e : s.data.toList = [] := List.eq_nil_of_length_eq_zero h
  unfold grpR; rw [← hd, e]

end Go.Proofs.YtpngjefdgicmiaaDoor
