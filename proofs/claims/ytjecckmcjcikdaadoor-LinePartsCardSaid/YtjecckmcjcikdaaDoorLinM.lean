









/- What package line comes to, as plain functions; its structs in cells. No statement of the seat is proved here. -/
import Derived.Test.YtjecckmcjcikdaaDoorLexJ
import Derived.Test.YtjecckmcjcikdaaDoorCutR
import Derived.Test.YtjecckmcjcikdaaDoorFld
import Derived.Test.YtjecckmcjcikdaaDoorStrs
import Derived.Test.YtjecckmcjcikdaaDoorStrE
namespace Go.Proofs.YtjecckmcjcikdaaDoor
open Go.ChangeShapes Go.WideShapes Go.ChangeAt Go.RowKit
set_option linter.unusedVariables false
set_option linter.unusedSimpArgs false

/-! ### Words -/
def sSEGMENT : List Int := [83, 69, 71, 77, 69, 78, 84]
def sENDS : List Int := [69, 78, 68, 83]
def sGROUP : List Int := [71, 82, 79, 85, 80]
def sEQU : List Int := [69, 81, 85]
def sIS : List Int := [61]
def sPROC : List Int := [80, 82, 79, 67]
def sENDP : List Int := [69, 78, 68, 80]
def sDB : List Int := [68, 66]
def sDW : List Int := [68, 87]
def sDD : List Int := [68, 68]
def sDQ : List Int := [68, 81]
def sLOCK : List Int := [76, 79, 67, 75]
def sREP : List Int := [82, 69, 80]
def sREPE : List Int := [82, 69, 80, 69]
def sREPZ : List Int := [82, 69, 80, 90]
def sREPNE : List Int := [82, 69, 80, 78, 69]
def sREPNZ : List Int := [82, 69, 80, 78, 90]
def sOPEN : List Int := [40]
def sCLOSE : List Int := [41]
def sIN : List Int := [91]
def sEND : List Int := [93]
def sCOLON : List Int := [58]
def sCOMMA : List Int := [44]
def namedW (s : List Int) : Bool :=
  if s = sSEGMENT then true else if s = sENDS then true else if s = sGROUP then true else if s = sEQU then true else if s = sIS then true else if s = sPROC then true
  else if s = sENDP then true else if s = sDB then true else if s = sDW then true else if s = sDD then true else if s = sDQ then true else false
def prefW (s : List Int) : Bool :=
  if s = sLOCK then true else if s = sREP then true else if s = sREPE then true else if s = sREPZ then true else if s = sREPNE then true else if s = sREPNZ then true else false
/-! ### Pieces -/
def signT (t : TokZ) (a : List Int) : Bool := decide (t.k = 4) && decide (t.s = a)
def nameT (t : TokZ) : Bool := decide (t.k = 1)
def wordT (t : TokZ) : Bool := nameT t || signT t sIS
def prefT (t : TokZ) : Bool := nameT t && prefW t.s
def namedL : List TokZ → Bool
  | a :: b :: _ => ((nameT a && !prefW a.s) && wordT b) && namedW b.s
  | _ => false
def labelL : List TokZ → Bool
  | a :: b :: _ => nameT a && signT b sCOLON
  | _ => false
def deepZ (n : Nat) (t : TokZ) : Nat :=
  if signT t sOPEN then n + 1 else if signT t sIN then n + 1 else if 0 < n ∧ (signT t sCLOSE || signT t sEND) = true then n - 1 else n
def splitGo : Nat → List TokZ → List TokZ → List (List TokZ)
  | _, cur, [] => [cur]
  | n, cur, t :: r => if deepZ n t = 0 ∧ signT t sCOMMA = true then cur :: splitGo (deepZ n t) [] r else splitGo (deepZ n t) (cur ++ [t]) r
def splitZ : List TokZ → List (List TokZ)
  | [] => []
  | t :: r => splitGo 0 [] (t :: r)
structure StmZ where
  label : List Int
  colon : Bool
  pre : List (List Int)
  op : List Int
  args : List (List TokZ)
deriving DecidableEq
def noStm : StmZ := ⟨[], false, [], [], []⟩
/-- A label and prefixes, and what stands behind them. -/
def aheadZ (l : List TokZ) : StmZ × List TokZ :=
  if labelL l then (⟨(l.headD noTok).s, true, ((l.drop 2).takeWhile prefT).map (·.s), [], []⟩, (l.drop 2).dropWhile prefT)
  else (⟨[], false, (l.takeWhile prefT).map (·.s), [], []⟩, l.dropWhile prefT)
def behindZ (s : StmZ) : List TokZ → StmZ × Int
  | [] => (s, 0)
  | t :: r => if wordT t then ({ s with op := t.s, args := splitZ r }, 0) else (noStm, 3)
def stmtZ (l : List TokZ) : StmZ × Int :=
  if namedL l then behindZ ⟨(l.headD noTok).s, false, [], [], []⟩ (l.drop 1) else behindZ (aheadZ l).1 (aheadZ l).2
def parseZ (s : List Int) : StmZ × Int := if (lineZ s).2 = 0 then stmtZ (lineZ s).1 else (noStm, (lineZ s).2)
theorem parse_awake1 : parseZ [97, 58, 32, 114, 101, 112, 32, 109, 111, 118, 115, 98] = (⟨[65], true, [sREP], [77, 79, 86, 83, 66], []⟩, 0) := by decide +kernel
theorem parse_awake2 : parseZ [120, 32, 100, 119, 32, 49, 44, 50] = (⟨[88], false, [], sDW, [[⟨2, [], 1, 0⟩], [⟨2, [], 2, 0⟩]]⟩, 0) := by decide +kernel
/-! ### What may be in a line -/
theorem scan_ok : ∀ (f : Nat) (s : List Int), ascii s → ∀ l, scanZ f s = some l → (∀ t ∈ l, t.ok) ∧ l.length ≤ s.length
  | 0, s, _, l, h => nomatch h
  | f + 1, s, hs, l, h => by
    have hd : ascii (s.dropWhile blankZ) := dropWhile_all hs
    have hl := dropWhile_len blankZ s
    cases hu : s.dropWhile blankZ with
    | nil =>
      rw [scan_nil hu] at h
      obtain rfl := Option.some.inj h
      exact ⟨(fun _ h => nomatch h), Nat.zero_le _⟩
    | cons c r =>
      rw [scan_cons hu] at h
      rw [hu] at hd hl
      unfold scanStep at h
      split at h
      · obtain rfl := Option.some.inj h
        exact ⟨(fun _ h => nomatch h), Nat.zero_le _⟩
      · split at h
        · exact nomatch h
        · rename_i hne
          have hp := pieceZ_ok hd
          have hpl := pieceZ_le (c :: r)
          cases hsc : scanZ f ((c :: r).drop (pieceZ (c :: r)).2) with
          | none => rw [hsc] at h; exact nomatch h
          | some l' =>
            rw [hsc] at h
            obtain rfl := Option.some.inj h
            obtain ⟨h1, h2⟩ := scan_ok f _ (hd.drop _) l' hsc
            rw [List.length_drop] at h2
            refine ⟨fun t ht => ?_, by rw [List.length_cons]; omega⟩
            cases ht with
            | head => exact hp
            | tail _ ht => exact h1 t ht
theorem line_ok (s : List Int) : (∀ t ∈ (lineZ s).1, t.ok) ∧ (lineZ s).1.length ≤ 200 := by
  unfold lineZ
  split
  · exact ⟨(fun _ h => nomatch h), Nat.zero_le _⟩
  · split
    · exact ⟨(fun _ h => nomatch h), Nat.zero_le _⟩
    · rename_i hl hr
      have ha : ascii s := readAll.ascii (runZ_all hr)
      cases hs : scanZ (s.length + 1) s with
      | none => exact ⟨(fun _ h => nomatch h), Nat.zero_le _⟩
      | some l =>
        obtain ⟨h1, h2⟩ := scan_ok _ s ha l hs
        exact ⟨h1, by show l.length ≤ 200; omega⟩
/-! ### In cells -/
def encSt (s : StmZ) (vp va : Value) : Array Value := #[.string (strOfNums s.label), .bool s.colon, vp, .string (strOfNums s.op), va]
def nilS : Value := .slice none 0 0
theorem iStm : (Tryd.prog.info? 26).map (·.size) = some 5 := by kernel_rfl
theorem tStm : RowTy Tryd.prog 26 5 := .of Tryd.underlying26 rfl iStm
theorem zStm : ZeroTy Tryd.prog 26 (encSt noStm nilS nilS) := .of (by kernel_rfl)
theorem bStm0 : Built Tryd.prog 26 [] (encSt noStm nilS nilS) := ⟨by kernel_rfl⟩
theorem fStm (k : Nat) (h : k < 5) : FieldAt Tryd.prog 26 k k := by
  match k, h with
  | 0, _ => exact ⟨fun g w => by simp [go_sem, Instr.fieldAt, fieldPlace]⟩
  | 1, _ => exact ⟨fun g w => by simp [go_sem, Instr.fieldAt, fieldPlace]⟩
  | 2, _ => exact ⟨fun g w => by simp [go_sem, Instr.fieldAt, fieldPlace]⟩
  | 3, _ => exact ⟨fun g w => by simp [go_sem, Instr.fieldAt, fieldPlace]⟩
  | 4, _ => exact ⟨fun g w => by simp [go_sem, Instr.fieldAt, fieldPlace]⟩
theorem fTok (k : Nat) (h : k < 4) : FieldAt Tryd.prog 30 k k := by
  match k, h with
  | 0, _ => exact ⟨fun g w => by simp [go_sem, Instr.fieldAt, fieldPlace]⟩
  | 1, _ => exact ⟨fun g w => by simp [go_sem, Instr.fieldAt, fieldPlace]⟩
  | 2, _ => exact ⟨fun g w => by simp [go_sem, Instr.fieldAt, fieldPlace]⟩
  | 3, _ => exact ⟨fun g w => by simp [go_sem, Instr.fieldAt, fieldPlace]⟩
theorem fTokA (k : Nat) (h : k < 4) : FieldAtA Tryd.prog 30 k k := by
  match k, h with
  | 0, _ => exact ⟨fun g w => by simp [go_sem, Instr.fieldAt, fieldPlace]⟩
  | 1, _ => exact ⟨fun g w => by simp [go_sem, Instr.fieldAt, fieldPlace]⟩
  | 2, _ => exact ⟨fun g w => by simp [go_sem, Instr.fieldAt, fieldPlace]⟩
  | 3, _ => exact ⟨fun g w => by simp [go_sem, Instr.fieldAt, fieldPlace]⟩
theorem tIntL : OneTy Tryd.prog 3 := .of Tryd.underlying3 rfl (by kernel_rfl)
theorem tStrsL : OneTy Tryd.prog 23 := .of Tryd.underlying23 rfl (by kernel_rfl)
theorem tToksL : OneTy Tryd.prog 31 := .of Tryd.underlying31 rfl (by kernel_rfl)
theorem tPartsL : OneTy Tryd.prog 24 := .of Tryd.underlying24 rfl (by kernel_rfl)
theorem iToksL : (Tryd.prog.info? 31).map (·.size) = some 1 := by kernel_rfl
theorem tPartsB : SliceB Tryd.prog 24 31 1 24 := .of (z := .slice none 0 0) Tryd.underlying24 (by kernel_rfl) rfl (by decide)
theorem ext_tok (t : TokZ) : ExtRel (encTok t) 0 4 (encTok t) := extract_all rfl
theorem ext_stm (s : StmZ) (vp va : Value) : ExtRel (encSt s vp va) 0 5 (encSt s vp va) := extract_all rfl
theorem put_stm (s s' : StmZ) (vp va vp' va' : Value) : PutRel (encSt s vp va) 0 (encSt s' vp' va').toList (encSt s' vp' va') := putList_all rfl
theorem put_sLabel (s : StmZ) (vp va : Value) (x : List Int) : PutRel (encSt s vp va) 0 [.string (strOfNums x)] (encSt { s with label := x } vp va) := ⟨rfl⟩
theorem put_sColon (s : StmZ) (vp va : Value) (x : Bool) : PutRel (encSt s vp va) 1 [.bool x] (encSt { s with colon := x } vp va) := ⟨rfl⟩
theorem put_sPre (s : StmZ) (vp va x : Value) : PutRel (encSt s vp va) 2 [x] (encSt s x va) := ⟨rfl⟩
theorem put_sOp (s : StmZ) (vp va : Value) (x : List Int) : PutRel (encSt s vp va) 3 [.string (strOfNums x)] (encSt { s with op := x } vp va) := ⟨rfl⟩
theorem put_sArgs (s : StmZ) (vp va x : Value) : PutRel (encSt s vp va) 4 [x] (encSt s vp x) := ⟨rfl⟩
theorem one_stm (s : StmZ) {vp va : Value} (hp : vp.oneCell' = true) (ha : va.oneCell' = true) : (encSt s vp va).all (·.oneCell') = true := by simp [encSt, hp, ha]; exact ⟨rfl, rfl, rfl⟩
theorem Rd.one {w : World} {k m : Nat} {v : Value} {ys : List Value} (h : Rd w k v m ys) : v.oneCell' = true := by
  rcases h.way with ⟨rfl, _⟩ | ⟨a, cap, rfl, _⟩ <;> rfl
theorem Sl.one {e : TypeId} {k m : Nat} {s : List RowT} {v : Value} {ys : List Value} (h : Sl e k s v m ys) : v.oneCell' = true := by
  rcases h.way with ⟨_, rfl, _⟩ | ⟨g, cap, cur, _, rfl, _⟩ <;> rfl
/-! ### Pieces, and parts of pieces, that lie somewhere -/
structure TokL (w : World) (v : Value) (l : List TokZ) : Prop where
  ok : ∀ t ∈ l, bytesOk t.s
  rd : RowsAt 4 cellsTok w v l
theorem TokL.keep {w w' : World} {v : Value} {l : List TokZ} (h : TokL w v l) (hb : Below w.heap.size w w') : TokL w' v l := ⟨h.ok, h.rd.keep hb⟩
theorem TokL.own {w0 w : World} {r : List RowT} {v : Value} {l : List TokZ} (h : TokL w0 v l) (hR : Own w0 w r) : TokL w v l := h.keep hR.below
theorem TokL.cut {w : World} {v : Value} {l : List TokZ} (h : TokL w v l) {i j : Nat} (hij : i ≤ j) (hj : j ≤ l.length) : TokL w (cutR 4 v i j) ((l.drop i).take (j - i)) :=
  ⟨fun t ht => h.ok t (List.mem_of_mem_drop (List.mem_of_mem_take ht)), h.rd.cut cellsTok_len hij hj⟩
theorem TokL.tail {w : World} {v : Value} {l : List TokZ} (h : TokL w v l) {i : Nat} (hi : i ≤ l.length) : TokL w (cutR 4 v i l.length) (l.drop i) :=
  ⟨fun t ht => h.ok t (List.mem_of_mem_drop ht), h.rd.tail cellsTok_len hi⟩
theorem TokL.el {w : World} {v : Value} {l : List TokZ} (h : TokL w v l) {i : Nat} {t : TokZ} (hi : l[i]? = some t) :
    bytesOk t.s ∧ ∃ a cap, v = .slice (some a) l.length cap ∧ ∀ j u, (encTok t).toList[j]? = some u → w.cell? ((a.add (i * 4)).add j) = some u :=
  ⟨h.ok t (List.mem_of_getElem? hi), h.rd.el cellsTok_len hi⟩
/-- Lists of pieces: a slice whose elements are slices of pieces. -/
structure PartsAt (w : World) (v : Value) (ps : List (List TokZ)) : Prop where
  way : ∃ vs : List Value, vs.length = ps.length ∧ Rd w 1 v ps.length vs ∧ ∀ (i : Nat) (p : List TokZ), ps[i]? = some p → ∃ u, vs[i]? = some u ∧ RowsAt 4 cellsTok w u p
theorem PartsAt.keep {w w' : World} {v : Value} {ps : List (List TokZ)} (h : PartsAt w v ps) (hb : Below w.heap.size w w') : PartsAt w' v ps := by
  obtain ⟨vs, h1, h2, h3⟩ := h.way
  exact ⟨vs, h1, h2.keep hb, fun i p hp => by obtain ⟨u, h4, h5⟩ := h3 i p hp; exact ⟨u, h4, h5.keep hb⟩⟩
theorem PartsAt.own {w0 w : World} {r : List RowT} {v : Value} {ps : List (List TokZ)} (h : PartsAt w0 v ps) (hR : Own w0 w r) : PartsAt w v ps := h.keep hR.below
theorem PartsAt.rd {w : World} {v : Value} {ps : List (List TokZ)} (h : PartsAt w v ps) : ∃ vs, Rd w 1 v ps.length vs := by
  obtain ⟨vs, _, h2, _⟩ := h.way
  exact ⟨vs, h2⟩
theorem PartsAt.none (w : World) : PartsAt w (.slice none 0 0) [] := ⟨[], rfl, ⟨rfl, rfl, .inl ⟨rfl, rfl, rfl⟩⟩, fun i p hp => nomatch hp⟩
theorem PartsAt.el {w : World} {v : Value} {ps : List (List TokZ)} (h : PartsAt w v ps) {i : Nat} {p : List TokZ} (hi : ps[i]? = some p) :
    ∃ a cap u, v = .slice (some a) ps.length cap ∧ w.cell? (a.add i) = some u ∧ RowsAt 4 cellsTok w u p ∧ u.oneCell' = true := by
  obtain ⟨vs, h1, h2, h3⟩ := h.way
  obtain ⟨u, h4, h5⟩ := h3 i p hi
  have hl := (List.getElem?_eq_some_iff.1 hi).1
  rcases h2.way with ⟨_, h6, _⟩ | ⟨a, cap, h6, _, h7⟩
  · omega
  · exact ⟨a, cap, u, h6, h7 i u h4, h5, Rd.one h5⟩
def PartsR (sr : List RowT) (v : Value) (ps : List (List TokZ)) : Prop := ∀ (w0 w : World) (l : List RowT), Own w0 w l → (∀ r ∈ sr, r ∈ l) → PartsAt w v ps
/-- Rows of pieces and the row of what tells where they are. -/
structure PSl (so si : List RowT) (v : Value) (ps : List (List TokZ)) : Prop where
  way : ∃ vs : List Value, vs.length = ps.length ∧ Sl 31 1 so v ps.length vs ∧ vs.all (·.oneCell') = true ∧ ∀ (i : Nat) (p : List TokZ), ps[i]? = some p → ∃ u, vs[i]? = some u ∧ RowsR 4 cellsTok si u p
theorem PSl.parts {so si : List RowT} {v : Value} {ps : List (List TokZ)} (h : PSl so si v ps) : PartsR (so ++ si) v ps := by
  intro w0 w l hO hm
  obtain ⟨vs, h1, h2, h3, h4⟩ := h.way
  exact ⟨vs, h1, h2.rd hO (fun r hr => hm r (List.mem_append_left _ hr)) h3, fun i p hp => by
    obtain ⟨u, h5, h6⟩ := h4 i p hp
    exact ⟨u, h5, h6 w0 w l hO fun r hr => hm r (List.mem_append_right _ hr)⟩⟩
theorem PSl.nil : PSl [] [] (.slice none 0 0) [] := ⟨[], rfl, Sl.nil _ _, rfl, fun i p hp => nomatch hp⟩
theorem RowsR.more {sr sr' : List RowT} {v : Value} {zs : List TokZ} (h : RowsR 4 cellsTok sr v zs) (hs : ∀ r ∈ sr, r ∈ sr') : RowsR 4 cellsTok sr' v zs := fun w0 w l hO hm => h w0 w l hO fun r hr => hm r (hs r hr)
/-- One more. -/
theorem PSl.more {so' si si' : List RowT} {v' u : Value} {ps : List (List TokZ)} {p : List TokZ} (h : ∃ vs : List Value, vs.length = ps.length ∧ vs.all (·.oneCell') = true ∧ (∀ (i : Nat) (p : List TokZ), ps[i]? = some p → ∃ u, vs[i]? = some u ∧ RowsR 4 cellsTok si u p) ∧ Sl 31 1 so' v' (ps.length + 1) (vs ++ [u]))
    (hu : RowsR 4 cellsTok si' u p) (h1 : u.oneCell' = true) : PSl so' (si' ++ si) v' (ps ++ [p]) := by
  obtain ⟨vs, h2, h3, h4, h5⟩ := h
  refine ⟨vs ++ [u], by simp [h2], by rw [List.length_append]; exact h5, by rw [List.all_append, h3]; simp [h1], fun i q hq => ?_⟩
  rw [List.getElem?_append] at hq
  split at hq
  · rename_i hi
    obtain ⟨x, h6, h7⟩ := h4 i q hq
    exact ⟨x, by rw [List.getElem?_append_left (by omega)]; exact h6, h7.more fun r hr => List.mem_append_right _ hr⟩
  · rename_i hi
    have hi0 : i - ps.length = 0 := by
      have := (List.getElem?_eq_some_iff.1 hq).1
      simp at this; omega
    rw [hi0] at hq
    obtain rfl := Option.some.inj hq
    exact ⟨u, by rw [List.getElem?_append_right (by omega), h2, hi0]; rfl, hu.more fun r hr => List.mem_append_left _ hr⟩
/-- A statement whose lists lie somewhere. -/
structure StmAt (w : World) (vp va : Value) (s : StmZ) : Prop where
  label : bytesOk s.label
  op : bytesOk s.op
  pre : Strs w vp s.pre
  args : PartsAt w va s.args
theorem StmAt.keep {w w' : World} {vp va : Value} {s : StmZ} (h : StmAt w vp va s) (hb : Below w.heap.size w w') : StmAt w' vp va s := ⟨h.label, h.op, h.pre.keep hb, h.args.keep hb⟩
theorem StmAt.own {w0 w : World} {r : List RowT} {vp va : Value} {s : StmZ} (h : StmAt w0 vp va s) (hR : Own w0 w r) : StmAt w vp va s := h.keep hR.below
/-- What Parse answers. -/
def ParseP (w0 : World) (p : StmZ × Int) (e : Ending) (w' : World) : Prop := ∃ vp va, e = .returned (.tuple #[.agg (encSt p.1 vp va), .int .i64 p.2]) ∧ Below w0.heap.size w0 w' ∧ StmAt w' vp va p.1
end Go.Proofs.YtjecckmcjcikdaaDoor
