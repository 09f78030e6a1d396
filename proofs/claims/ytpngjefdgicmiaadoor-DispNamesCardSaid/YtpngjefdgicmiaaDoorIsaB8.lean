/- Contracts of package isa's tables (the switches): each returns the row that its table ('..T') gives, and makes new memory only. No statement of the seat is proved here. -/
import Derived.Test.YtpngjefdgicmiaaDoorIsaA
import Derived.Test.YtpngjefdgicmiaaDoorRow
namespace Go.Proofs.YtpngjefdgicmiaaDoor
open Go.ChangeShapes Go.WideShapes Go.ChangeAt Go.RowKit
set_option linter.unusedVariables false
set_option linter.unusedSimpArgs false

/-- Grouped: is it one of these? -/
def grpB (op : Int) : Bool := bif op == 128 then true else bif op == 129 then true else bif op == 131 then true else bif op == 143 then true else bif op == 198 then true else bif op == 199 then true else bif op == 208 then true else bif op == 209 then true else bif op == 210 then true else bif op == 211 then true else bif op == 246 then true else bif op == 247 then true else bif op == 254 then true else bif op == 255 then true else false
set_option maxHeartbeats 1000000 in
theorem grp_any (op : Int) (w : World) :
    Calls Tryd.prog 71 #[.int .u8 op] w fun e w' => e = .returned (.bool (grpB op)) ∧ w = w' := by
  go_enter Tryd.func71, Tryd.ntmps71
  go_wp2
  all_goals
    go_ret
    exact ⟨ret_bool (by simp [grpB, *]), rfl⟩


/-- asksSecond: is it one of these? -/
def secB (a : Int) : Bool := bif a == 1 then true else bif a == 2 then true else bif a == 3 then true else bif a == 4 then true else bif a == 5 then true else bif a == 20 then true else bif a == 19 then true else false
set_option maxHeartbeats 1000000 in
theorem sec_any (a : Int) (w : World) :
    Calls Tryd.prog 62 #[.int .i64 a] w fun e w' => e = .returned (.bool (secB a)) ∧ w = w' := by
  go_enter Tryd.func62, Tryd.ntmps62
  go_wp2
  all_goals
    go_ret
    exact ⟨ret_bool (by simp [secB, *]), rfl⟩


/-- Prefix: is it one of these? -/
def prefB (b : Int) : Bool := bif b == 38 then true else bif b == 46 then true else bif b == 54 then true else bif b == 62 then true else bif b == 240 then true else bif b == 242 then true else bif b == 243 then true else false


/-- Memory: is it one of these? -/
def memB (a : Int) : Bool := bif a == 1 then true else bif a == 2 then true else bif a == 19 then true else bif a == 20 then true else false


/-- Repeats: what each gives. -/
def repZ (n : Int) : Int := bif n == 46 then 1 else bif n == 47 then 1 else bif n == 50 then 1 else bif n == 51 then 1 else bif n == 52 then 1 else bif n == 53 then 1 else bif n == 48 then 2 else bif n == 49 then 2 else bif n == 54 then 2 else bif n == 55 then 2 else 0
set_option maxHeartbeats 1000000 in
theorem repeats_any (n : Int) (w : World) :
    Calls Tryd.prog 54 #[.int .i64 n] w fun e w' => e = .returned (.int .i64 (repZ n)) ∧ w = w' := by
  go_enter Tryd.func54, Tryd.ntmps54
  go_wp2
  all_goals
    go_ret
    exact ⟨ret_int (by simp [repZ, *]), rfl⟩


/-- Immediate: what each gives. -/
def immZ (a : Int) : Int := bif a == 6 then 1 else bif a == 8 then 1 else bif a == 9 then 1 else bif a == 7 then 2 else bif a == 10 then 2 else bif a == 12 then 2 else bif a == 13 then 2 else bif a == 11 then 4 else 0
set_option maxHeartbeats 1000000 in
theorem immediate_any (a : Int) (w : World) :
    Calls Tryd.prog 69 #[.int .i64 a] w fun e w' => e = .returned (.int .i64 (immZ a)) ∧ w = w' := by
  go_enter Tryd.func69, Tryd.ntmps69
  go_wp2
  all_goals
    go_ret
    exact ⟨ret_int (by simp [immZ, *]), rfl⟩

end Go.Proofs.YtpngjefdgicmiaaDoor
