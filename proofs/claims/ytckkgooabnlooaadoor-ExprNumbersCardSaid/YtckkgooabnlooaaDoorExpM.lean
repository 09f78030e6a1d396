









/- What package expr comes to, as plain functions over pieces; how parts, operands and readers lie in cells. No statement of the seat is proved here. -/
import Derived.Test.YtckkgooabnlooaaDoorValM
import Derived.Test.YtckkgooabnlooaaDoorLexT
import Derived.Test.YtckkgooabnlooaaDoorStrs
import Derived.Test.YtckkgooabnlooaaDoorPan
namespace Go.Proofs.YtckkgooabnlooaaDoor
open Go.ChangeShapes Go.WideShapes Go.ChangeAt Go.RowKit
set_option linter.unusedVariables false
set_option linter.unusedSimpArgs false

structure PartZ where
  al : Bool
  nu : Int
  v : ValZ
  me : Bool
  ba : Int
  ix : Int
  ki : Int
  ov : Int
  sh : Bool
deriving DecidableEq
def zeroPart : PartZ := ⟨false, 0, zeroVal, false, 0, 0, 0, 0, false⟩
def valPart (v : ValZ) : PartZ := ⟨false, 0, v, false, 0, 0, 0, 0, false⟩
def regPart (n : Int) : PartZ := ⟨true, n, zeroVal, false, 0, 0, 0, 0, false⟩
structure OpdZ where
  kd : Int
  n : Int
  rm : Int
  v : ValZ
  t : Int
  o : Int
  s : Bool
deriving DecidableEq
def zeroOpd : OpdZ := ⟨0, 0, 0, zeroVal, 0, 0, false⟩
structure TabZ where
  vn : Value
  vv : Value
  names : List (List Int)
  vals : List ValZ
  here : ValZ
structure St where
  l : List TokZ
  d : Int
  m : Int
  i : Int
/-- What a call comes to: something, and a state of the reader; or a panic with an error's number; or it was not followed so far. -/
inductive Rs (α : Type) where
  | ok (a : α) (s : St)
  | bad (e : Int)
  | out
def Rs.got {α : Type} : Rs α → Prop
  | .out => False
  | _ => True
/-! ### Words -/
def sPLUS : List Int := [43]
def sMINUS : List Int := [45]
def sSTAR : List Int := [42]
def sDIV : List Int := [47]
def sOPEN : List Int := [40]
def sCLOSE : List Int := [41]
def sIN : List Int := [91]
def sEND : List Int := [93]
def sCOLON : List Int := [58]
def sDOLLAR : List Int := [36]
def sPTR : List Int := [80, 84, 82]
def sNOT : List Int := [78, 79, 84]
def sOFFSET : List Int := [79, 70, 70, 83, 69, 84]
def sSEG : List Int := [83, 69, 71]
def sSHORT : List Int := [83, 72, 79, 82, 84]
def sOR : List Int := [79, 82]
def sXOR : List Int := [88, 79, 82]
def sAND : List Int := [65, 78, 68]
def sEQ : List Int := [69, 81]
def sNE : List Int := [78, 69]
def sLT : List Int := [76, 84]
def sLE : List Int := [76, 69]
def sGT : List Int := [71, 84]
def sGE : List Int := [71, 69]
def sMOD : List Int := [77, 79, 68]
def sSHL : List Int := [83, 72, 76]
def sSHR : List Int := [83, 72, 82]
def sBYTE : List Int := [66, 89, 84, 69]
def sWORD : List Int := [87, 79, 82, 68]
def sDWORD : List Int := [68, 87, 79, 82, 68]
def sNEAR : List Int := [78, 69, 65, 82]
def sFAR : List Int := [70, 65, 82]
def sBX : List Int := [66, 88]
def sBP : List Int := [66, 80]
def sSI : List Int := [83, 73]
def sDI : List Int := [68, 73]
def regsZ : List (List Int) := [[65, 76], [67, 76], [68, 76], [66, 76], [65, 72], [67, 72], [68, 72], [66, 72], [65, 88], [67, 88], [68, 88], [66, 88], [83, 80], [66, 80], [83, 73], [68, 73], [69, 83], [67, 83], [83, 83], [68, 83]]
def signStrZ (s : List Int) : Int := if s = sPLUS then 4 else if s = sMINUS then 4 else if s = sSTAR then 5 else if s = sDIV then 5 else 0
def wordStrZ (s : List Int) : Int :=
  if s = sOR then 1 else if s = sXOR then 1 else if s = sAND then 2 else
  if s = sEQ then 3 else if s = sNE then 3 else if s = sLT then 3 else if s = sLE then 3 else if s = sGT then 3 else if s = sGE then 3 else
  if s = sMOD then 5 else if s = sSHL then 5 else if s = sSHR then 5 else 0
/-- Which word it is, as package value's words are counted; 15: another one. -/
def wordIx (s : List Int) : Nat :=
  if s = sSTAR then 0 else if s = sDIV then 1 else if s = sMOD then 2 else if s = sSHL then 3 else if s = sSHR then 4 else
  if s = sAND then 5 else if s = sOR then 6 else if s = sXOR then 7 else
  if s = sEQ then 8 else if s = sNE then 9 else if s = sLT then 10 else if s = sLE then 11 else if s = sGT then 12 else if s = sGE then 13 else 15
def strengthZ (t : TokZ) : Int := if t.k = 4 then signStrZ t.s else if t.k = 1 then wordStrZ t.s else 0
def leadsZ (t : TokZ) : Bool := if t.k = 4 then decide (signStrZ t.s = 4) else if t.k = 1 then ((decide (t.s = sOFFSET) || decide (t.s = sSEG)) || decide (t.s = sNOT)) || decide (t.s = sSHORT) else false
def pointedZ (s : List Int) : Int := if s = sBYTE then 1 else if s = sWORD then 2 else if s = sDWORD then 4 else if s = sNEAR then 101 else if s = sFAR then 102 else 0
/-- Where a text stands first in a list. -/
def idxI (t : List Int) : Int → List (List Int) → Int
  | _, [] => -1
  | k, x :: r => bif decide (t = x) then k else idxI t (k + 1) r
def idxT (l : List (List Int)) (s : List Int) : Int := idxI s 0 l
def regIx (s : List Int) : Int := idxT regsZ s
def isZ (t : TokZ) (k : Int) (s : List Int) : Bool := decide (t.k = k) && decide (t.s = s)
/-! ### Parts -/
def orZ (a b : Int) : Int := if a = 0 then b else a
def countsZ (p : PartZ) : Bool := !decide (p.ba = 0) || !decide (p.ix = 0)
def valuedZ (p : PartZ) : Bool := (!p.al && !p.me) && !countsZ p
def mostOneB (a b : Int) : Bool := decide (a = 0) || decide (b = 0)
def mergeZ (p q : PartZ) (v : ValZ) : PartZ := ⟨false, 0, v, p.me || q.me, wrap64 (p.ba + q.ba), wrap64 (p.ix + q.ix), orZ p.ki q.ki, orZ p.ov q.ov, p.sh || q.sh⟩
def joinOkB (p q : PartZ) : Bool := mostOneB p.ba q.ba && mostOneB p.ix q.ix
def joinZ (p q : PartZ) (v : ValZ) : Option PartZ := bif joinOkB p q then some (mergeZ p q v) else none
def sureJoinZ (p q : PartZ) (r : ValZ × Bool) : Option PartZ := bif r.2 then joinZ p q r.1 else none
def addedZ (p q : PartZ) : Option PartZ := bif !p.al && !q.al then sureJoinZ p q (addZ p.v q.v) else none
def takenZ (p q : PartZ) : Option PartZ := bif !p.al && valuedZ q then sureJoinZ p q (subZ p.v q.v) else none
def doneZ (k : Nat) (p q : PartZ) : Option PartZ := bif valuedZ p && valuedZ q then sureJoinZ p q (doZ k p.v q.v) else none
def togetherZ (s : List Int) (p q : PartZ) : Option PartZ := if s = sPLUS then addedZ p q else if s = sMINUS then takenZ p q else doneZ (wordIx s) p q
def setV (p : PartZ) (v : ValZ) : PartZ := { p with v := v }
def sureV (p : PartZ) (r : ValZ × Bool) : Option PartZ := bif r.2 then some (setV p r.1) else none
def wantedZ (p : PartZ) (n : Int) : Option PartZ := bif !p.al && !countsZ p then some { p with me := false, ki := 0, v := { p.v with t := 0, a := n } } else none
def wordedZ (s : List Int) (p : PartZ) : Option PartZ :=
  if s = sPLUS then (bif valuedZ p then some p else none)
  else if s = sMINUS then (bif valuedZ p then sureV p (subZ (numVZ 0 true) p.v) else none)
  else if s = sNOT then (bif valuedZ p then sureV p (doZ 7 p.v (numVZ (-1) true)) else none)
  else if s = sOFFSET then wantedZ p 1
  else if s = sSEG then (bif !decide (p.v.f = 0) || !p.v.k then wantedZ p 2 else none)
  else if s = sSHORT then some { p with sh := true }
  else some p
def mannersZ (a b : Int) : Int := if a = 0 then (if b = 0 then 8 else if b = 1 then 4 else 5) else if a = 1 then (if b = 0 then 7 else if b = 1 then 0 else 1) else (if b = 0 then 6 else if b = 1 then 2 else 3)
def dataZ (o : OpdZ) : Bool := ((!decide (o.v.f = 0) && decide (o.v.a = 0)) && !decide (o.t = 101)) && !decide (o.t = 102)
def namedOZ (n : Int) : OpdZ := if 16 ≤ n then ⟨3, wrap64 (n - 16), 0, zeroVal, 0, 0, false⟩ else if 8 ≤ n then ⟨2, wrap64 (n - 8), 0, zeroVal, 0, 0, false⟩ else ⟨1, n, 0, zeroVal, 0, 0, false⟩
def immZ (p : PartZ) : OpdZ := ⟨4, 0, mannersZ p.ba p.ix, p.v, orZ p.ki p.v.t, p.ov, p.sh⟩
def operandZ (p : PartZ) : OpdZ := bif p.al then namedOZ p.nu else bif p.me || dataZ (immZ p) then { immZ p with kd := 5 } else immZ p
/-! ### Reading -/
inductive Job where
  | ex (k : Int)
  | lo (k : Int) (p : PartZ)
  | ah
  | on
  | ol (p : PartZ)
def nextZ (s : St) : TokZ := s.l.headD noTok
def lettersZ (s : List Int) : Int := match s with
  | [a] => bits .or .i64 0 a
  | [a, b] => bits .or .i64 (IntKind.i64.wrap (bits .or .i64 0 a * 2 ^ 8)) b
  | _ => 0
def meaningZ (tb : TabZ) (a : List Int) : ValZ := if idxT tb.names a < 0 then zeroVal else tb.vals.getD (idxT tb.names a).toNat zeroVal
def countingZ (a : List Int) : Option PartZ := if a = sBX then some ⟨false, 0, numVZ 0 true, false, 1, 0, 0, 0, false⟩ else if a = sBP then some ⟨false, 0, numVZ 0 true, false, 2, 0, 0, 0, false⟩
  else if a = sSI then some ⟨false, 0, numVZ 0 true, false, 0, 1, 0, 0, false⟩ else if a = sDI then some ⟨false, 0, numVZ 0 true, false, 0, 2, 0, 0, false⟩ else none
/-- Something, or an error. -/
def orBad {α : Type} (o : Option α) (s : St) : Rs α := match o with
  | some a => .ok a s
  | none => .bad 3
def namedZ' (tb : TabZ) (inside : Bool) (a : List Int) : Option PartZ :=
  bif decide (wordStrZ a = 0) && !decide (a = sPTR) then
    (if 0 ≤ regIx a then (bif inside then countingZ a else some (regPart (regIx a))) else if a = sDOLLAR then some (valPart tb.here) else some (valPart (meaningZ tb a)))
  else none
def maxZ (a b : Int) : Int := if a < b then b else a
def deepS (s : St) : St := { s with d := wrap64 (s.d + 1), m := maxZ s.m (wrap64 (s.d + 1)) }
def upS' (s : St) : St := { s with d := wrap64 (s.d - 1) }
def deepR (r : Rs PartZ) : Rs PartZ := match r with
  | .ok p s => .ok p (upS' s)
  | r => r
def deepM (f : St → Rs PartZ) (s : St) : Rs PartZ := if 65536 < wrap64 (s.d + 1) then .bad 8 else deepR (f (deepS s))
def mustM {α : Type} (a : α) (s : St) (c : List Int) : Rs α := match s.l with
  | [] => .bad 3
  | t :: r => bif isZ t 4 c then .ok a { s with l := r } else .bad 3
def inS (s : St) : St := { s with i := wrap64 (s.i + 1) }
def outS (s : St) : St := { s with i := wrap64 (s.i - 1) }
def closeR (r : Rs PartZ) : Rs PartZ := match r with
  | .ok p s => mustM p s sCLOSE
  | r => r
def endR (r : Rs PartZ) : Rs PartZ := match r with
  | .ok p s => mustM { p with me := true } (outS s) sEND
  | r => r
def bracketM (ex : St → Rs PartZ) (s : St) (a : List Int) : Rs PartZ :=
  if a = sOPEN then closeR (deepM ex s) else if a = sIN then endR (deepM ex (inS s)) else .bad 3
def firstT (tb : TabZ) (ex : St → Rs PartZ) (t : TokZ) (s : St) : Rs PartZ :=
  if t.k = 2 then .ok (valPart (numVZ (IntKind.i64.wrap t.n) true)) s
  else if t.k = 3 then (bif decide (t.s.length = 1) || decide (t.s.length = 2) then .ok (valPart (numVZ (lettersZ t.s) true)) s else .bad 3)
  else if t.k = 1 then orBad (namedZ' tb (decide (0 < s.i)) t.s) s
  else if t.k = 4 then bracketM ex s t.s
  else .bad 3
def firstM (tb : TabZ) (ex : St → Rs PartZ) (s : St) : Rs PartZ := match s.l with
  | [] => .bad 3
  | t :: r => firstT tb ex t { s with l := r }
def segB (s : St) : Bool := (decide ((s.l.headD noTok).k = 1) && decide (16 ≤ regIx (s.l.headD noTok).s)) && isZ ((s.l.drop 1).headD noTok) 4 sCOLON
def wordR (a : List Int) (r : Rs PartZ) : Rs PartZ := match r with
  | .ok p s => orBad (wordedZ a p) s
  | r => r
def setKi (p : PartZ) (n : Int) : PartZ := { p with ki := n }
def setOv (p : PartZ) (n : Int) : PartZ := { p with ov := n }
def kindR (n : Int) (r : Rs PartZ) : Rs PartZ := match r with
  | .ok p s => .ok (setKi p n) s
  | r => r
def overR (n : Int) (r : Rs PartZ) : Rs PartZ := match r with
  | .ok p s => .ok (setOv p n) s
  | r => r
def tailS (s : St) : St := { s with l := s.l.drop 1 }
def ptrM (ah : St → Rs PartZ) (n : Int) (s : St) : Rs PartZ := match s.l with
  | [] => .bad 3
  | t :: r => bif isZ t 1 sPTR then kindR n (deepM ah { s with l := r }) else .bad 3
def aheadM (ah on : St → Rs PartZ) (s : St) : Rs PartZ :=
  bif leadsZ (nextZ s) then wordR (nextZ s).s (deepM ah (tailS s))
  else bif decide ((nextZ s).k = 1) && !decide (pointedZ (nextZ s).s = 0) then ptrM ah (pointedZ (nextZ s).s) (tailS s)
  else bif segB s then overR (regIx (nextZ s).s - 15) (deepM ah (tailS (tailS s)))
  else on s
def andThen (r : Rs PartZ) (f : PartZ → St → Rs PartZ) : Rs PartZ := match r with
  | .ok p s => f p s
  | r => r
/-- Two parts with a word between them, and on. -/
def meetR (o : Option PartZ) (f : PartZ → Rs PartZ) : Rs PartZ := match o with
  | some p => f p
  | none => .bad 3
def stepM (tb : TabZ) (rec : Job → St → Rs PartZ) : Job → St → Rs PartZ
  | .ex k, s => andThen (rec .ah s) fun p s1 => rec (.lo k p) s1
  | .lo k p, s => if strengthZ (nextZ s) < k then .ok p s else match s.l with
    | [] => .bad 3
    | t :: r => andThen (rec (.ex (strengthZ t + 1)) { s with l := r }) fun q s2 => meetR (togetherZ t.s p q) fun p' => rec (.lo k p') s2
  | .ah, s => aheadM (rec .ah) (rec .on) s
  | .on, s => andThen (firstM tb (rec (.ex 1)) s) fun p s1 => rec (.ol p) s1
  | .ol p, s => bif isZ (nextZ s) 4 sIN then andThen (firstM tb (rec (.ex 1)) s) fun q s1 => meetR (addedZ p q) fun p' => rec (.ol p') s1 else .ok p s
/-- Pieces read, followed so far. -/
def parseM (tb : TabZ) : Nat → Job → St → Rs PartZ
  | 0, _, _ => .out
  | n + 1, j, s => stepM tb (parseM tb n) j s
def startS (l : List TokZ) : St := ⟨l, 0, 0, 0⟩
def wholeR (r : Rs PartZ) : Rs OpdZ := match r with
  | .ok p s => if s.l.length = 0 then (if 40 < s.m then .bad 8 else .ok (operandZ p) s) else .bad 3
  | .bad e => .bad e
  | .out => .out
def opdR (r : Rs PartZ) : OpdZ × Int := match wholeR r with
  | .ok o _ => (o, 0)
  | .bad e => (zeroOpd, e)
  | .out => (zeroOpd, 0)
def numberR (p : OpdZ × Int) : ValZ × Int :=
  if p.2 = 0 then (bif decide (p.1.kd = 4) || ((decide (p.1.kd = 5) && decide (p.1.rm = 8)) && decide (p.1.o = 0)) then (p.1.v, 0) else (zeroVal, 3)) else (zeroVal, p.2)
/-! ### In cells -/
def encPt (p : PartZ) : Array Value := #[.bool p.al, .int .i64 p.nu, .int .i64 p.v.n, .int .i64 p.v.f, .int .i64 p.v.w, .int .i64 p.v.t, .int .i64 p.v.a, .bool p.v.k, .bool p.me, .int .i64 p.ba, .int .i64 p.ix, .int .i64 p.ki, .int .i64 p.ov, .bool p.sh]
def encOp (o : OpdZ) : Array Value := #[.int .i64 o.kd, .int .i64 o.n, .int .i64 o.rm, .int .i64 o.v.n, .int .i64 o.v.f, .int .i64 o.v.w, .int .i64 o.v.t, .int .i64 o.v.a, .bool o.v.k, .int .i64 o.t, .int .i64 o.o, .bool o.s]
def encTb (tb : TabZ) : Array Value := #[tb.vn, tb.vv, .int .i64 tb.here.n, .int .i64 tb.here.f, .int .i64 tb.here.w, .int .i64 tb.here.t, .int .i64 tb.here.a, .bool tb.here.k]
def rdr (v : Value) (tb : TabZ) (s : St) : Array Value := #[v, tb.vn, tb.vv, .int .i64 tb.here.n, .int .i64 tb.here.f, .int .i64 tb.here.w, .int .i64 tb.here.t, .int .i64 tb.here.a, .bool tb.here.k, .int .i64 s.d, .int .i64 s.m, .int .i64 s.i]
theorem tStrE : OneTy Tryd.prog 9 := .of Tryd.underlying9 rfl (by kernel_rfl)
theorem tToksE : OneTy Tryd.prog 31 := .of Tryd.underlying31 rfl (by kernel_rfl)
theorem tStrsE : OneTy Tryd.prog 23 := .of Tryd.underlying23 rfl (by kernel_rfl)
theorem tValsE : OneTy Tryd.prog 33 := .of Tryd.underlying33 rfl (by kernel_rfl)
theorem tPtrE : OneTy Tryd.prog 84 := .of Tryd.underlying84 rfl (by kernel_rfl)
theorem tErrE : OneTy Tryd.prog 28 := .of Tryd.underlying28 rfl (by kernel_rfl)
theorem iPart : (Tryd.prog.info? 69).map (·.size) = some 14 := by kernel_rfl
theorem tPart : RowTy Tryd.prog 69 14 := .of Tryd.underlying69 rfl iPart
theorem zPart : ZeroTy Tryd.prog 69 (encPt zeroPart) := .of (by kernel_rfl)
theorem iOpd : (Tryd.prog.info? 41).map (·.size) = some 12 := by kernel_rfl
theorem tOpd : RowTy Tryd.prog 41 12 := .of Tryd.underlying41 rfl iOpd
theorem zOpd : ZeroTy Tryd.prog 41 (encOp zeroOpd) := .of (by kernel_rfl)
theorem iRdr : (Tryd.prog.info? 66).map (·.size) = some 12 := by kernel_rfl
theorem tRdr : RowTy Tryd.prog 66 12 := .of Tryd.underlying66 rfl iRdr
theorem iTab : (Tryd.prog.info? 35).map (·.size) = some 8 := by kernel_rfl
theorem tTab : RowTy Tryd.prog 35 8 := .of Tryd.underlying35 rfl iTab
theorem fPart0 : FieldAt Tryd.prog 69 0 0 := ⟨fun g w => by simp [go_sem, Instr.fieldAt, fieldPlace]⟩
theorem fPart1 : FieldAt Tryd.prog 69 1 1 := ⟨fun g w => by simp [go_sem, Instr.fieldAt, fieldPlace]⟩
theorem fPart2 : FieldAt Tryd.prog 69 2 2 := ⟨fun g w => by simp [go_sem, Instr.fieldAt, fieldPlace]⟩
theorem fPart3 : FieldAt Tryd.prog 69 3 8 := ⟨fun g w => by simp [go_sem, Instr.fieldAt, fieldPlace]⟩
theorem fPart4 : FieldAt Tryd.prog 69 4 9 := ⟨fun g w => by simp [go_sem, Instr.fieldAt, fieldPlace]⟩
theorem fPart5 : FieldAt Tryd.prog 69 5 10 := ⟨fun g w => by simp [go_sem, Instr.fieldAt, fieldPlace]⟩
theorem fPart6 : FieldAt Tryd.prog 69 6 11 := ⟨fun g w => by simp [go_sem, Instr.fieldAt, fieldPlace]⟩
theorem fPart7 : FieldAt Tryd.prog 69 7 12 := ⟨fun g w => by simp [go_sem, Instr.fieldAt, fieldPlace]⟩
theorem fPart8 : FieldAt Tryd.prog 69 8 13 := ⟨fun g w => by simp [go_sem, Instr.fieldAt, fieldPlace]⟩
theorem fOpd0 : FieldAt Tryd.prog 41 0 0 := ⟨fun g w => by simp [go_sem, Instr.fieldAt, fieldPlace]⟩
theorem fOpd1 : FieldAt Tryd.prog 41 1 1 := ⟨fun g w => by simp [go_sem, Instr.fieldAt, fieldPlace]⟩
theorem fOpd2 : FieldAt Tryd.prog 41 2 2 := ⟨fun g w => by simp [go_sem, Instr.fieldAt, fieldPlace]⟩
theorem fOpd3 : FieldAt Tryd.prog 41 3 3 := ⟨fun g w => by simp [go_sem, Instr.fieldAt, fieldPlace]⟩
theorem fOpd4 : FieldAt Tryd.prog 41 4 9 := ⟨fun g w => by simp [go_sem, Instr.fieldAt, fieldPlace]⟩
theorem fOpd5 : FieldAt Tryd.prog 41 5 10 := ⟨fun g w => by simp [go_sem, Instr.fieldAt, fieldPlace]⟩
theorem fOpd6 : FieldAt Tryd.prog 41 6 11 := ⟨fun g w => by simp [go_sem, Instr.fieldAt, fieldPlace]⟩
theorem fRdr0 : FieldAt Tryd.prog 66 0 0 := ⟨fun g w => by simp [go_sem, Instr.fieldAt, fieldPlace]⟩
theorem fRdr1 : FieldAt Tryd.prog 66 1 1 := ⟨fun g w => by simp [go_sem, Instr.fieldAt, fieldPlace]⟩
theorem fRdr2 : FieldAt Tryd.prog 66 2 9 := ⟨fun g w => by simp [go_sem, Instr.fieldAt, fieldPlace]⟩
theorem fRdr3 : FieldAt Tryd.prog 66 3 10 := ⟨fun g w => by simp [go_sem, Instr.fieldAt, fieldPlace]⟩
theorem fRdr4 : FieldAt Tryd.prog 66 4 11 := ⟨fun g w => by simp [go_sem, Instr.fieldAt, fieldPlace]⟩
theorem fTok (k : Nat) (h : k < 4) : FieldAt Tryd.prog 59 k k := by
  match k, h with
  | 0, _ => exact ⟨fun g w => by simp [go_sem, Instr.fieldAt, fieldPlace]⟩
  | 1, _ => exact ⟨fun g w => by simp [go_sem, Instr.fieldAt, fieldPlace]⟩
  | 2, _ => exact ⟨fun g w => by simp [go_sem, Instr.fieldAt, fieldPlace]⟩
  | 3, _ => exact ⟨fun g w => by simp [go_sem, Instr.fieldAt, fieldPlace]⟩
/-- A field's place in a struct that is a field itself. -/
structure FieldO (P : Program) (s : TypeId) (k off : Nat) : Prop where
  of : ∀ (g o : Nat) (w : World), (Instr.fieldAt s (.pointer (some ⟨g, o, none⟩)) k).run P w = .ok (.pointer (some ⟨g, o + off, none⟩)) w
theorem t_fieldO {P : Program} {C : World → Prop} {tp : TypeId} {pos : String} {af : Array Edge} {gd : Option (Nat × Bool)} {ls : List Value} {ds : List Deferred} {c : Bool} {dd : Option Tmp} {s : TypeId} {f off g o : Nat} {x : Operand} (hf : FieldO P s f off) (hx : EvC ls c x (.pointer (some ⟨g, o, none⟩))) :
    TIf P C c ⟨dd, .fieldAddr s x f, tp, pos, af, gd⟩ ⟨ls.toArray, ds⟩ (.pointer (some ⟨g, o + off, none⟩)) := by
  refine ⟨fun e => .inl fun w _ => ?_⟩
  unfold execOp
  simp only [eval_of (hx.of e), Sem.run_bind, hf.of g o w, Result.andThen_ok, Sem.run_pure]
theorem fValO (k : Nat) (h : k < 6) : FieldO Tryd.prog 27 k k := by
  match k, h with
  | 0, _ => exact ⟨fun g o w => by simp [go_sem, Instr.fieldAt, fieldPlace]⟩
  | 1, _ => exact ⟨fun g o w => by simp [go_sem, Instr.fieldAt, fieldPlace]⟩
  | 2, _ => exact ⟨fun g o w => by simp [go_sem, Instr.fieldAt, fieldPlace]⟩
  | 3, _ => exact ⟨fun g o w => by simp [go_sem, Instr.fieldAt, fieldPlace]⟩
  | 4, _ => exact ⟨fun g o w => by simp [go_sem, Instr.fieldAt, fieldPlace]⟩
  | 5, _ => exact ⟨fun g o w => by simp [go_sem, Instr.fieldAt, fieldPlace]⟩
theorem fTabO (k : Nat) (h : k < 3) : FieldO Tryd.prog 35 k k := by
  match k, h with
  | 0, _ => exact ⟨fun g o w => by simp [go_sem, Instr.fieldAt, fieldPlace]⟩
  | 1, _ => exact ⟨fun g o w => by simp [go_sem, Instr.fieldAt, fieldPlace]⟩
  | 2, _ => exact ⟨fun g o w => by simp [go_sem, Instr.fieldAt, fieldPlace]⟩
theorem ext_part (p : PartZ) : ExtRel (encPt p) 0 14 (encPt p) := extract_all rfl
theorem ext_partV (p : PartZ) : ExtRel (encPt p) 2 6 (encV p.v) := ⟨rfl⟩
theorem ext_tok (t : TokZ) : ExtRel (encTok t) 0 4 (encTok t) := extract_all rfl
theorem ext_opd (o : OpdZ) : ExtRel (encOp o) 0 12 (encOp o) := extract_all rfl
theorem ext_rdrH (v : Value) (tb : TabZ) (s : St) : ExtRel (rdr v tb s) 3 6 (encV tb.here) := ⟨rfl⟩
theorem put_part (p q : PartZ) : PutRel (encPt p) 0 (encPt q).toList (encPt q) := putList_all rfl
theorem put_tok (p q : TokZ) : PutRel (encTok p) 0 (encTok q).toList (encTok q) := putList_all rfl
theorem put_opd (p q : OpdZ) : PutRel (encOp p) 0 (encOp q).toList (encOp q) := putList_all rfl
theorem one_part (p : PartZ) : (encPt p).all (·.oneCell') = true := by simp [encPt, Value.oneCell']
theorem one_opd (p : OpdZ) : (encOp p).all (·.oneCell') = true := by simp [encOp, Value.oneCell']
def errV (e : Int) : Value := .iface 28 (.int .i64 e)
def errCh (e : Int) : List PanicEntry := [{ v := errV e, recovered := false }]
/-- Pieces that lie somewhere. -/
structure Toks (w : World) (v : Value) (l : List TokZ) : Prop where
  ok : ∀ t ∈ l, bytesOk t.s
  rd : Rd w 4 v l.length (l.flatMap cellsTok)
theorem Toks.keep {w w' : World} {v : Value} {l : List TokZ} (h : Toks w v l) (hb : Below w.heap.size w w') : Toks w' v l := ⟨h.ok, h.rd.keep hb⟩
theorem Toks.own {w0 w : World} {r : List RowT} {v : Value} {l : List TokZ} (h : Toks w0 v l) (hR : Own w0 w r) : Toks w v l := h.keep hR.below
/-- A table that lies somewhere. -/
structure TabIn (w : World) (tb : TabZ) : Prop where
  few : tb.names.length ≤ 1000000
  names : Strs w tb.vn tb.names
  vals : Rd w 6 tb.vv tb.vals.length (tb.vals.flatMap fun v => (encV v).toList)
theorem TabIn.keep {w w' : World} {tb : TabZ} (h : TabIn w tb) (hb : Below w.heap.size w w') : TabIn w' tb := ⟨h.few, h.names.keep hb, h.vals.keep hb⟩
theorem TabIn.own {w0 w : World} {r : List RowT} {tb : TabZ} (h : TabIn w0 tb) (hR : Own w0 w r) : TabIn w tb := h.keep hR.below
/-- What a call comes to that reads on. -/
def AnsR {α : Type} (w0 : World) (gr : Nat) (tb : TabZ) (enc : α → Value) (R : List RowT) (m : Rs α) (en : Ending) (w' : World) : Prop := match m with
  | .ok a s => en = .returned (enc a) ∧ ∃ v, Toks w0 v s.l ∧ Own w0 w' ((gr, rdr v tb s, 66) :: R)
  | .bad e => en = .panicked (errCh e) ∧ Own w0 w' R
  | .out => True
section
variable {α : Type} {P : Program} {f : FuncId} {args : Array Value} {w w0 : World} {gr : Nat} {tb : TabZ} {enc : α → Value} {R : List RowT} {m : Rs α}
theorem ansR_ok {a : α} {s : St} (h : Calls P f args w (AnsR w0 gr tb enc R m)) (hm : m = .ok a s) : Calls P f args w fun en w' => en = .returned (enc a) ∧ ∃ v, Toks w0 v s.l ∧ Own w0 w' ((gr, rdr v tb s, 66) :: R) := by rw [hm] at h; exact h
theorem ansR_bad {e : Int} (h : Calls P f args w (AnsR w0 gr tb enc R m)) (hm : m = .bad e) : Calls P f args w fun en w' => en = .panicked (errCh e) ∧ Own w0 w' R := by rw [hm] at h; exact h
theorem okR_ans {a : α} {s : St} (h : Calls P f args w fun en w' => en = .returned (enc a) ∧ ∃ v, Toks w0 v s.l ∧ Own w0 w' ((gr, rdr v tb s, 66) :: R)) (hm : m = .ok a s) : Calls P f args w (AnsR w0 gr tb enc R m) := by rw [hm]; exact h
theorem badR_ans {e : Int} (h : Calls P f args w fun en w' => en = .panicked (errCh e) ∧ Own w0 w' R) (hm : m = .bad e) : Calls P f args w (AnsR w0 gr tb enc R m) := by rw [hm]; exact h
theorem AnsR.mk {en : Ending} {w' : World} {a : α} {s : St} {v : Value} (hm : m = .ok a s) (h1 : en = .returned (enc a)) (hv : Toks w0 v s.l) (h2 : Own w0 w' ((gr, rdr v tb s, 66) :: R)) : AnsR w0 gr tb enc R m en w' := by rw [hm]; exact ⟨h1, v, hv, h2⟩
theorem AnsR.no {en : Ending} {w' : World} {e : Int} (hm : m = .bad e) (h1 : en = .panicked (errCh e)) (h2 : Own w0 w' R) : AnsR w0 gr tb enc R m en w' := by rw [hm]; exact ⟨h1, h2⟩
end
/-- What a call comes to that does not read on: something, or the error that it is none. -/
def AnsO {α : Type} (w0 : World) (enc : α → Value) (o : Option α) (en : Ending) (w' : World) : Prop := match o with
  | some a => en = .returned (enc a) ∧ Below w0.heap.size w0 w'
  | none => en = .panicked (errCh 3) ∧ Below w0.heap.size w0 w'
section
variable {α : Type} {P : Program} {f : FuncId} {args : Array Value} {w0 : World} {enc : α → Value} {o : Option α}
theorem ansO_ok {a : α} (h : Calls P f args w0 (AnsO w0 enc o)) (hm : o = some a) : Calls P f args w0 fun en w' => en = .returned (enc a) ∧ Below w0.heap.size w0 w' := by rw [hm] at h; exact h
theorem ansO_bad (h : Calls P f args w0 (AnsO w0 enc o)) (hm : o = none) : Calls P f args w0 fun en w' => en = .panicked (errCh 3) ∧ Below w0.heap.size w0 w' := by rw [hm] at h; exact h
theorem okO_ans {a : α} (h : Calls P f args w0 fun en w' => en = .returned (enc a) ∧ Below w0.heap.size w0 w') (hm : o = some a) : Calls P f args w0 (AnsO w0 enc o) := by rw [hm]; exact h
theorem badO_ans (h : Calls P f args w0 fun en w' => en = .panicked (errCh 3) ∧ Below w0.heap.size w0 w') (hm : o = none) : Calls P f args w0 (AnsO w0 enc o) := by rw [hm]; exact h
end
def partV (p : PartZ) : Value := .agg (encPt p)
def mannersC : Array Value := #[.int .i64 8, .int .i64 4, .int .i64 5, .int .i64 7, .int .i64 0, .int .i64 1, .int .i64 6, .int .i64 2, .int .i64 3]
/-- What the listed tables hold. -/
structure Tabs (w : World) : Prop where
  reg : ∃ v t fr, w.heap[0]? = some (.cells #[v] t fr) ∧ Strs w v regsZ
  man : ∃ t fr, w.heap[1]? = some (.cells mannersC t fr)
theorem Tabs.keep {w w' : World} (h : Tabs w) (hb : Below w.heap.size w w') : Tabs w' := by
  obtain ⟨⟨v, t, fr, h1, h2⟩, ⟨t', fr', h3⟩⟩ := h
  exact ⟨⟨v, t, fr, by rw [hb.block _ (Array.getElem?_eq_some_iff.1 h1).1]; exact h1, h2.keep hb⟩, ⟨t', fr', by rw [hb.block _ (Array.getElem?_eq_some_iff.1 h3).1]; exact h3⟩⟩
theorem Tabs.own {w w' : World} {l : List RowT} (h : Tabs w) (hR : Own w w' l) : Tabs w' := h.keep hR.below
/-- Short names for two of the library's equations (slim.py writes them). -/
theorem cS {α : Type} {x a : α} {xs : List α} {n : Nat} : (x :: xs).set (n + 1) a = x :: xs.set n a := rfl
theorem cZ {α : Type} {x a : α} {xs : List α} : (x :: xs).set 0 a = a :: xs := rfl
end Go.Proofs.YtckkgooabnlooaaDoor
