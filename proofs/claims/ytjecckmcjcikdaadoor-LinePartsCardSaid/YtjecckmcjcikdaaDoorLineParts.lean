/- The law LineParts (what a line says: label, prefixes, what is to be done, operands, by commas in no brackets) returns true whatever the arguments, in a state in which the listed package-level tables hold what the program lays them with (the card ties that to its text), and each argument reads afterwards as before. There is no condition on the arguments. -/
import Derived.Test.YtjecckmcjcikdaaDoorRows
import Derived.Test.YtjecckmcjcikdaaDoorPrt31
import Derived.Test.YtjecckmcjcikdaaDoorInts
import Derived.Test.YtjecckmcjcikdaaDoorSame31
import Derived.WalkKit
import Derived.ProofKit
import Derived.OpenShut
import Derived.ShutString
import Derived.ChangeOld
import Derived.Below
import Derived.Test.YtjecckmcjcikdaaDoorTie
import Derived.Test.YtjecckmcjcikdaaDoorCards
import Derived.Test.YtjecckmcjcikdaaDoorLexTab
import Derived.SevenTiedAt
import Derived.Lay
import Derived.LaidMore
namespace Go.Proofs.YtjecckmcjcikdaaDoor.lineParts
open Go.ChangeShapes Go.WideShapes Go.ChangeAt Go.RowKit
open Go.ChangeMaps (open_string shut_string)
set_option linter.unusedVariables false
set_option linter.unusedSimpArgs false

theorem own : ownKnob Tryd.prog.godebug = none := by kernel_rfl
theorem laidOut : laidOutB Tryd.prog = true := by kernel_rfl











theorem iIntL : (Tryd.prog.info? 3).map (·.size) = some 1 := by kernel_rfl
theorem lwHEREc : (⟨#[104, 101, 114, 101, 58, 32]⟩ : ByteArray) = strOfNums wHEREc := rfl
theorem okwHEREc : bytesOk wHEREc := ascii.ok (ascii_of rfl)
theorem lwmov : (⟨#[109, 111, 118]⟩ : ByteArray) = strOfNums wmov := rfl
theorem okwmov : bytesOk wmov := ascii.ok (ascii_of rfl)
theorem lwTAIL : (⟨#[32, 59, 32, 109, 111, 114, 101, 44, 32, 97, 110, 100, 32, 109, 111, 114, 101]⟩ : ByteArray) = strOfNums wTAIL := rfl
theorem okwTAIL : bytesOk wTAIL := ascii.ok (ascii_of rfl)
theorem lwBL : (⟨#[32]⟩ : ByteArray) = strOfNums wBL := rfl
theorem okwBL : bytesOk wBL := ascii.ok (ascii_of rfl)
theorem lwa : (⟨#[32, 97]⟩ : ByteArray) = strOfNums wa := rfl
theorem okwa : bytesOk wa := ascii.ok (ascii_of rfl)
theorem lw12 : (⟨#[32, 40, 49, 44, 50, 41]⟩ : ByteArray) = strOfNums w12 := rfl
theorem okw12 : bytesOk w12 := ascii.ok (ascii_of rfl)
theorem lwb : (⟨#[32, 91, 98, 93]⟩ : ByteArray) = strOfNums wb := rfl
theorem okwb : bytesOk wb := ascii.ok (ascii_of rfl)
theorem lwq : (⟨#[32, 39, 44, 39]⟩ : ByteArray) = strOfNums wq := rfl
theorem okwq : bytesOk wq := ascii.ok (ascii_of rfl)
theorem bStmOp : Built Tryd.prog 26 [(3, .string ⟨#[77, 79, 86]⟩)] (encSt (zPrt false none []) nilS nilS) := ⟨by kernel_rfl⟩
theorem bStr6 (a b c d e f : ByteArray) : BuiltS Tryd.prog 23 6 [(0, .string a), (1, .string b), (2, .string c), (3, .string d), (4, .string e), (5, .string f)] 9 #[.string a, .string b, .string c, .string d, .string e, .string f] := ⟨fun w => by simp [go_sem]⟩
def cellsL (ts : List TokZ) : Array Value := (ts.flatMap cellsTok).toArray
theorem bToksA (a : TokZ) : BuiltS Tryd.prog 31 1 [(0, .agg (encTok a))] 30 (cellsL [a]) := ⟨fun w => by simp [go_sem, encTok, cellsL, cellsTok]⟩
theorem bToksC (a b c : TokZ) : BuiltS Tryd.prog 31 3 [(0, .agg (encTok a)), (1, .agg (encTok b)), (2, .agg (encTok c))] 30 (cellsL [a, b, c]) := ⟨fun w => by simp [go_sem, encTok, cellsL, cellsTok]⟩
theorem bToksE (a b c d e : TokZ) : BuiltS Tryd.prog 31 5 [(0, .agg (encTok a)), (1, .agg (encTok b)), (2, .agg (encTok c)), (3, .agg (encTok d)), (4, .agg (encTok e))] 30 (cellsL [a, b, c, d, e]) := ⟨fun w => by simp [go_sem, encTok, cellsL, cellsTok]⟩
theorem toks_rows (g : Nat) (e : TypeId) {ts : List TokZ} {n : Nat} (hn : ts.length = n) (hl : n ≤ 1000) : RowsR 4 cellsTok [(g, cellsL ts, e)] (.slice (some ⟨g, 0, none⟩) n n) ts := by
  subst hn
  have hs : (cellsL ts).size = ts.length * 4 := by unfold cellsL; rw [List.size_toArray, flat_len cellsTok_len]
  have h : Sl e 4 [(g, cellsL ts, e)] (.slice (some ⟨g, 0, none⟩) ts.length ts.length) ts.length (ts.flatMap cellsTok) := ((RwIs.all hs (by omega)).cast (by unfold cellsL; rw [List.toList_toArray])).sl
  exact h.rowsR cellsTok_one
theorem perm_prt {α : Type} (s3 sp si : List α) (t g : α) : (g :: (sp ++ (s3 ++ (t :: si)))).Perm (s3 ++ (t :: g :: (sp ++ si))) := by
  have h1 : (sp ++ (s3 ++ (t :: si))).Perm (s3 ++ (t :: (sp ++ si))) := (List.perm_append_comm_assoc sp s3 (t :: si)).trans (List.Perm.append_left s3 List.perm_middle)
  have h2 : (s3 ++ (t :: g :: (sp ++ si))).Perm (g :: (s3 ++ (t :: (sp ++ si)))) := (List.Perm.append_left s3 (List.Perm.swap g t _)).trans List.perm_middle
  exact (List.Perm.cons g h1).trans h2.symm
def tab6C : Array Value := (tab6.flatMap cellT).toArray
theorem tab6_at {j : Nat} (h : j < 6) : (#[.string ⟨#[76, 79, 67, 75]⟩, .string ⟨#[82, 69, 80]⟩, .string ⟨#[82, 69, 80, 69]⟩, .string ⟨#[82, 69, 80, 90]⟩, .string ⟨#[82, 69, 80, 78, 69]⟩, .string ⟨#[82, 69, 80, 78, 90]⟩] : Array Value).toList[(j : Int).toNat * 1]? = some (.string (strOfNums (tab6.getD j []))) := by
  match j, h with
  | 0, _ => rfl
  | 1, _ => rfl
  | 2, _ => rfl
  | 3, _ => rfl
  | 4, _ => rfl
  | 5, _ => rfl
theorem t_oneAt {P : Program} {tp : TypeId} {pos : String} {af : Array Edge} {gd : Option (Nat × Bool)} {ls : List Value} {ds : List Deferred} {c : Bool} {dd : Option Tmp} {w0 : World} {l : List RowT} {ty : TypeId} (ht : OneTy P ty) {g off : Nat} {cs : Array Value} {v : Value} {t : TypeId} {x : Operand} (hx : EvC ls c x (.pointer (some ((⟨g, 0, none⟩ : Addr).add off)))) (hm : (g, cs, t) ∈ l) (hs : cs.toList[off]? = some v) :
    TIf P (fun w => Own w0 w l) c ⟨dd, .load ty x, tp, pos, af, gd⟩ ⟨ls.toArray, ds⟩ v := by
  rw [addr_mid] at hx
  exact t_one ht hx hm (by rw [Nat.zero_add]; exact hs)
theorem at_old {w : World} {g : Nat} {cs : Array Value} {t : TypeId} (h : At w g cs t) : ∀ j u, cs.toList[j]? = some u → w.cell? ((⟨g, 0, none⟩ : Addr).add j) = some u := by
  intro j u hu
  rw [addr_mid, cell_of_row _ _ _ _ _ _ h.get, Nat.zero_add, ← Array.getElem?_toList]
  exact hu
theorem argT_len (k : Nat) : (argT k).length ≤ 5 ∧ 1 ≤ (argT k).length := by
  match k with
  | 0 => exact ⟨by decide, by decide⟩
  | 1 => exact ⟨by decide, by decide⟩
  | 2 => exact ⟨by decide, by decide⟩
  | k + 3 => exact ⟨by show 1 ≤ 5; decide, Nat.le_refl 1⟩
/-- The loop that lays operands. -/
def PrtIs (w0 : World) (g : Nat) (b : Bool) (p : Option Nat) (sp : List RowT) (vp : Value) (n : Nat) (vs vi : Value) (wr : World) : Prop :=
  ∃ (i : Nat) (ks : List Nat) (so si : List RowT) (vo : Value), vi = .int .i64 i ∧ i ≤ 4 ∧ i ≤ n ∧ ks.length = i ∧ (∀ k ∈ ks, k < 4) ∧ vs = .string (strOfNums (((labS b ++ preS p) ++ wmov) ++ joinS ks)) ∧ Own w0 wr ((g, encSt (zPrt b p []) vp vo, 26) :: (sp ++ (so ++ si))) ∧ PSl so si vo (ks.map argT)
set_option maxHeartbeats 8000000 in
set_option maxRecDepth 100000 in
theorem walk {w0 : World} (a0 : Int) (hw0 : (Lit.int .i64 a0).wf = true) (v1 : Value) (hA : IntsIn w0 v1) (wi : World) (hT : True) :
    Calls Tryd.prog 3 #[.int .i64 a0, v1] w0 fun e w' => e = .returned (.bool true) ∧ Below w0.heap.size w0 w' := by
  clear wi hT
  obtain ⟨l, hlb, hl⟩ := hA
  have hR := Own.start w0
  have HA1 := Lib.hid (show bits .and .i64 a0 1 = a0 % 2 from i64_mask a0 1 1 (by decide) (by decide))
  obtain ⟨b, hb⟩ : ∃ b, cmpB .gtr (a0 % 2) 0 = some b := ⟨_, rfl⟩
  have HG1 := Lib.hid hb
  obtain ⟨m2, hm2⟩ : ∃ m, bits .and .i64 a0 2 = m := ⟨_, rfl⟩
  have HA2 := Lib.hid hm2
  obtain ⟨q, hq⟩ : ∃ q, cmpB .gtr m2 0 = some q := ⟨_, rfl⟩
  have HG2 := Lib.hid hq
  obtain ⟨y, hy⟩ : ∃ y, a0 / 2 ^ 2 = y := ⟨_, rfl⟩
  have HY := Lib.hid hy
  have HA7 := Lib.hid (show bits .and .i64 y 7 = y % 8 from i64_mask y 3 7 (by decide) (by decide))
  obtain ⟨j, hj, hj6⟩ : ∃ j : Nat, (y % 8).tmod 6 = (j : Int) ∧ j < 6 := ⟨((y % 8) % 6).toNat, by rw [rem_in (by omega)]; omega, by omega⟩
  have HJ := Lib.hid hj
  have HJT := Lib.hid (tab6_at hj6)
  have HJX := Lib.hid (show (0 : Int) ≤ j ∧ (j : Int) < (6 : Nat) by omega)
  clear hb hm2 hq hy hj hw0
  go_enter Tryd.func3, Tryd.ntmps3
  go_upto_if 15 with (first
    | ((with_reducible apply wpList_built); exact rfl; exact rfl; exact bStmOp; (simp only [List.set_cons_succ, List.set_cons_zero]; exact rfl))
    | ((with_reducible apply wpList_make hR zStm); exact rfl; clear hR; intro g w hR; simp only [List.set_cons_succ, List.set_cons_zero])
    | ((with_reducible apply wpList_put hR tStm); exact rfl; exact rfl; exact rfl; (focus (repeat (first | apply List.Mem.head | apply List.Mem.tail | apply List.mem_append_right))); exact put_stm _ _ _ _ _ _; exact rfl; exact Nat.le_refl 5; exact one_stm _ rfl rfl; (focus (repeat (first | apply Upd.head | apply Upd.tail))); clear hR; intro w hR)
    | ((with_reducible apply q_ls hR); exact rfl; (with_reducible apply t_numE (op := .and)); (apply EvC.now; exact rfl); (apply EvC.now; exact rfl); exact rfl; exact HA1.out; (simp only [List.set_cons_succ, List.set_cons_zero]; exact rfl); clear hR; intro w hR)
    | ((with_reducible apply q_ls hR); exact rfl; (with_reducible apply t_cmp (op := .gtr)); (apply EvC.now; exact rfl); (apply EvC.now; exact rfl); exact HG1.out; (simp only [List.set_cons_succ, List.set_cons_zero]; exact rfl); clear hR; intro w hR))
  go_cut [5] (fun v wr => v = .string (strOfNums (labS b)) ∧ Own w0 wr [(g, encSt (zPrt b none []) nilS nilS, 26)])
  case first =>
    clear HG1
    cases b
    · refine wp_cond_at (nm := false) rfl rfl (fun h => absurd h (by decide)) (fun _ => ?_)
      go_wp2_with fail
      go_meet
      exact ⟨rfl, hR⟩
    · refine wp_cond_at (nm := true) rfl rfl (fun _ => ?_) (fun h => absurd h (by decide))
      go_wp2_with (first
    | ((with_reducible apply q_ls hR); exact rfl; ((with_reducible first | apply t_addr (fTok _ (by decide)) | apply t_addr (fStm _ (by decide)) | apply t_one tIntL | apply t_one tStrO | apply t_one tBoolL | apply t_one tStrsL | apply t_one tPartsL | apply t_part tTok | apply t_part tStm) <;> (first | (apply EvC.gv; exact rfl; (with_reducible first | exact Imp.refl _ | (apply Imp.left; exact Imp.refl _) | (apply Imp.right; exact Imp.refl _) | (apply Imp.left; apply Imp.left; exact Imp.refl _))) | (apply EvC.now; exact rfl) | exact rfl | (with_reducible exact EvAll.nil) | (focus (repeat (first | apply EvAll.cons | exact EvAll.nil | (apply EvC.gv; exact rfl; (with_reducible first | exact Imp.refl _ | (apply Imp.left; exact Imp.refl _) | (apply Imp.right; exact Imp.refl _) | (apply Imp.left; apply Imp.left; exact Imp.refl _))) | (apply EvC.now; exact rfl))); done) | (first | exact ext_tok _ | exact ext_stm _ _ _) | (focus (repeat (first | apply List.Mem.head | apply List.Mem.tail | apply List.mem_append_right))))); (simp only [List.set_cons_succ, List.set_cons_zero]; exact rfl); clear hR; intro w hR)
    | ((with_reducible apply wpList_put1 hR tStrO); exact rfl; exact rfl; exact rfl; (focus (repeat (first | apply List.Mem.head | apply List.Mem.tail | apply List.mem_append_right))); exact put_sLabel _ _ _ wHERE; exact (Nat.le_of_ble_eq_true rfl); exact rfl; (focus (repeat (first | apply Upd.head | apply Upd.tail))); clear hR; intro w hR)
    | ((with_reducible apply wpList_put1 hR tBoolL); exact rfl; exact rfl; exact rfl; (focus (repeat (first | apply List.Mem.head | apply List.Mem.tail | apply List.mem_append_right))); exact put_sColon _ _ _ true; exact (Nat.le_of_ble_eq_true rfl); exact rfl; (focus (repeat (first | apply Upd.head | apply Upd.tail))); clear hR; intro w hR))
      go_meet
      exact ⟨rfl, hR⟩
  case rest =>
  clear hR HA1 HG1
  obtain ⟨rfl, hR⟩ := hcut
  have hlab := lab_ok b
  go_upto_if 21 with (first
    | ((with_reducible apply wpList_buildS hR); exact rfl; exact rfl; (exact bStr6 _ _ _ _ _ _); clear hR; intro gs w hR; simp only [List.set_cons_succ, List.set_cons_zero])
    | ((with_reducible apply q_ls hR); exact rfl; (with_reducible apply t_numE (op := .and)); (apply EvC.now; exact rfl); (apply EvC.now; exact rfl); exact rfl; exact HA2.out; (simp only [List.set_cons_succ, List.set_cons_zero]; exact rfl); clear hR; intro w hR)
    | ((with_reducible apply q_ls hR); exact rfl; (with_reducible apply t_cmp (op := .gtr)); (apply EvC.now; exact rfl); (apply EvC.now; exact rfl); exact HG2.out; (simp only [List.set_cons_succ, List.set_cons_zero]; exact rfl); clear hR; intro w hR))
  go_cut [5] (fun v wr => ∃ (p : Option Nat) (sp : List RowT) (vp : Value), (∀ j, p = some j → j < 6) ∧ v = .string (strOfNums (labS b ++ preS p)) ∧ Own w0 wr ((g, encSt (zPrt b p []) vp nilS, 26) :: sp) ∧ Sl 9 1 sp vp (preW p).length ((preW p).flatMap cellT))
  case first =>
    clear HG2
    cases q
    · refine wp_cond_at (nm := false) rfl rfl (fun h => absurd h (by decide)) (fun _ => ?_)
      go_wp2_with fail
      go_meet
      exact ⟨none, [], nilS, (fun _ h => nomatch h), by rw [show preS none = [] from rfl, List.append_nil], hR.drop (List.sublist_cons_self _ _), Sl.nil _ _⟩
    · refine wp_cond_at (nm := true) rfl rfl (fun _ => ?_) (fun h => absurd h (by decide))
      have hpj : ∀ k, some j = some k → k < 6 := fun k hk => by obtain rfl := Option.some.inj hk; exact hj6
      have hpo := pre_ok hpj
      have hpo3 : (tab6.getD j [] ++ wBL).length ≤ 6 := hpo.1
      have hpo1 : (tab6.getD j []).length + wBL.length ≤ 1000000 := by rw [List.length_append] at hpo3; omega
      have hpo2 : (labS b).length + (tab6.getD j [] ++ wBL).length ≤ 1000000 := by have := hlab.1; omega
      go_upto_region 8 with (first
    | ((with_reducible apply q_ls hR); exact rfl; (with_reducible apply t_shrE (k := 2)); (apply EvC.now; exact rfl); (apply EvC.now; exact rfl); exact rfl; decide; exact HY.out; (simp only [List.set_cons_succ, List.set_cons_zero]; exact rfl); clear hR; intro w hR)
    | ((with_reducible apply q_ls hR); exact rfl; (with_reducible apply t_numE (op := .and)); (apply EvC.now; exact rfl); (apply EvC.now; exact rfl); exact rfl; exact HA7.out; (simp only [List.set_cons_succ, List.set_cons_zero]; exact rfl); clear hR; intro w hR)
    | ((with_reducible apply q_ls hR); exact rfl; (with_reducible apply t_rem); (apply EvC.now; exact rfl); (apply EvC.now; exact rfl); (decide); exact HJ.out; (simp only [List.set_cons_succ, List.set_cons_zero]; exact rfl); clear hR; intro w hR)
    | ((with_reducible apply q_ls hR); exact rfl; (with_reducible apply t_six Tryd.underlying23 iStrO); (apply EvC.now; exact rfl); (apply EvC.now; exact rfl); exact HJX.out; (simp only [List.set_cons_succ, List.set_cons_zero]; exact rfl); clear hR; intro w hR)
    | ((with_reducible apply q_ls hR); exact rfl; (with_reducible apply t_oneAt tStrO); (apply EvC.now; exact rfl); exact List.Mem.head _; exact HJT.out; (simp only [List.set_cons_succ, List.set_cons_zero]; exact rfl); clear hR; intro w hR)
    | ((with_reducible apply q_ls hR); exact rfl; (with_reducible apply t_catE); (apply EvC.now; exact rfl); (exact lit_now lwBL); exact hpo1; exact rfl; (simp only [List.set_cons_succ, List.set_cons_zero]; exact rfl); clear hR; intro w hR)
    | ((with_reducible apply q_ls hR); exact rfl; (with_reducible apply t_catE); (apply EvC.now; exact rfl); (apply EvC.now; exact rfl); exact hpo2; exact rfl; (simp only [List.set_cons_succ, List.set_cons_zero]; exact rfl); clear hR; intro w hR))
      replace hR := hR.drop (List.sublist_cons_self _ _)
      go_wp2_with (first
    | ((with_reducible apply wpList_buildS hR); exact rfl; exact rfl; (exact bStrs1 _); clear hR; intro gs w hR; simp only [List.set_cons_succ, List.set_cons_zero])
    | ((with_reducible apply wpList_put1 hR tStrsL); exact rfl; exact rfl; exact rfl; exact (.tail _ (.head _)); exact put_sPre _ _ _ _; exact (Nat.le_of_ble_eq_true rfl); exact rfl; exact (.tail .head); clear hR; intro w hR)
    | ((with_reducible apply q_ls hR); exact rfl; ((with_reducible first | apply t_addr (fTok _ (by decide)) | apply t_addr (fStm _ (by decide)) | apply t_one tIntL | apply t_one tStrO | apply t_one tBoolL | apply t_one tStrsL | apply t_one tPartsL | apply t_part tTok | apply t_part tStm) <;> (first | (apply EvC.gv; exact rfl; (with_reducible first | exact Imp.refl _ | (apply Imp.left; exact Imp.refl _) | (apply Imp.right; exact Imp.refl _) | (apply Imp.left; apply Imp.left; exact Imp.refl _))) | (apply EvC.now; exact rfl) | exact rfl | (with_reducible exact EvAll.nil) | (focus (repeat (first | apply EvAll.cons | exact EvAll.nil | (apply EvC.gv; exact rfl; (with_reducible first | exact Imp.refl _ | (apply Imp.left; exact Imp.refl _) | (apply Imp.right; exact Imp.refl _) | (apply Imp.left; apply Imp.left; exact Imp.refl _))) | (apply EvC.now; exact rfl))); done) | (first | exact ext_tok _ | exact ext_stm _ _ _) | (focus (repeat (first | apply List.Mem.head | apply List.Mem.tail | apply List.mem_append_right))))); (simp only [List.set_cons_succ, List.set_cons_zero]; exact rfl); clear hR; intro w hR))
      go_meet
      refine ⟨some j, [(gs, #[.string (strOfNums (tab6.getD j []))], 9)], .slice (some ⟨gs, 0, none⟩) 1 1, hpj, rfl, hR.les (Les.tail Les.one), ?_⟩
      exact (RwIs.all (n := 1) (k := 1) rfl (by decide)).sl
  case rest =>
  clear hR HA2 HG2 HY HA7 HJ HJT HJX
  obtain ⟨p, sp, vp, hp, rfl, hR, hSp⟩ := hcut
  have hpo := pre_ok hp
  have hvp := hSp.one
  have hlen0 : ((labS b ++ preS p) ++ wmov).length ≤ 15 := by rw [List.length_append, List.length_append]; have := hlab.1; have := hpo.1; have e : wmov.length = 3 := rfl; omega
  have hlm : (labS b ++ preS p).length + wmov.length ≤ 1000000 := by rw [List.length_append] at hlen0; omega
  go_wp2_with (first
    | ((with_reducible apply q_ls hR); exact rfl; (with_reducible apply t_catE); (apply EvC.now; exact rfl); (exact lit_now lwmov); exact hlm; exact rfl; (simp only [List.set_cons_succ, List.set_cons_zero]; exact rfl); clear hR; intro w hR))
  go_loopw [5, 9] (fun vs vi wr => PrtIs w0 g b p sp vp l.length vs vi wr) (fun _ vi _ => 4 - (intOf vi).toNat)
  case atStart => exact ⟨0, [], [], [], nilS, rfl, Nat.zero_le _, Nat.zero_le _, rfl, (fun _ h => nomatch h), by rw [show joinS [] = [] from rfl, List.append_nil], by rw [List.append_nil, List.append_nil]; exact hR, PSl.nil⟩
  case round =>
    clear hR hlm
    obtain ⟨i, ks, so, si, vo, rfl, hi4, hin, hki, hk4, rfl, hR, hP⟩ := hrel
    have hjk := joinS_ok ks
    go_upto_region 11 with fail
    refine wp_region_tame hR [0, 1, 2, 3, 4, 5, 6, 7] rfl ?_
    repeat (refine wpT_step rfl ?_; first
    | ((first | (with_reducible apply q_pl) | ((with_reducible apply q_gd); (first | (apply GdBy.gt; exact rfl; exact rfl) | (apply GdBy.gf; exact rfl; exact rfl) | (apply GdBy.t; exact rfl; exact rfl) | (apply GdBy.f; exact rfl; exact rfl)))); (with_reducible apply t_lenRd Tryd.underlying22); (first | (apply EvC.gv; exact rfl; (with_reducible first | exact Imp.refl _ | (apply Imp.left; exact Imp.refl _) | (apply Imp.right; exact Imp.refl _) | (apply Imp.left; apply Imp.left; exact Imp.refl _))) | (apply EvC.now; exact rfl) | exact rfl | (with_reducible exact EvAll.nil) | (focus (repeat (first | apply EvAll.cons | exact EvAll.nil | (apply EvC.gv; exact rfl; (with_reducible first | exact Imp.refl _ | (apply Imp.left; exact Imp.refl _) | (apply Imp.right; exact Imp.refl _) | (apply Imp.left; apply Imp.left; exact Imp.refl _))) | (apply EvC.now; exact rfl))); done) | (first | exact ext_tok _ | exact ext_stm _ _ _) | (focus (repeat (first | apply List.Mem.head | apply List.Mem.tail | apply List.mem_append_right)))); exact hl; (simp only [List.set_cons_succ, List.set_cons_zero]; exact rfl))
    | ((first | (with_reducible apply q_pl) | ((with_reducible apply q_gd); (first | (apply GdBy.gt; exact rfl; exact rfl) | (apply GdBy.gf; exact rfl; exact rfl) | (apply GdBy.t; exact rfl; exact rfl) | (apply GdBy.f; exact rfl; exact rfl)))); (first | ((with_reducible first | apply t_move | apply t_assign | apply t_and | apply t_or | apply t_cmp | apply t_not | apply t_addr (fTok _ (by decide)) | apply t_addr (fStm _ (by decide)) | apply t_one tIntL | apply t_one tStrO | apply t_one tBoolL | apply t_one tStrsL | apply t_one tPartsL | apply t_part tTok | apply t_part tStm) <;> (first | (apply EvC.gv; exact rfl; (with_reducible first | exact Imp.refl _ | (apply Imp.left; exact Imp.refl _) | (apply Imp.right; exact Imp.refl _) | (apply Imp.left; apply Imp.left; exact Imp.refl _))) | (apply EvC.now; exact rfl) | exact rfl | (with_reducible exact EvAll.nil) | (focus (repeat (first | apply EvAll.cons | exact EvAll.nil | (apply EvC.gv; exact rfl; (with_reducible first | exact Imp.refl _ | (apply Imp.left; exact Imp.refl _) | (apply Imp.right; exact Imp.refl _) | (apply Imp.left; apply Imp.left; exact Imp.refl _))) | (apply EvC.now; exact rfl))); done) | (first | exact ext_tok _ | exact ext_stm _ _ _) | (focus (repeat (first | apply List.Mem.head | apply List.Mem.tail | apply List.mem_append_right)))))); (simp only [List.set_cons_succ, List.set_cons_zero]; exact rfl)))
    refine wpT_nil ?_
    clear hR; intro w hR
    go_upto_if 45 with fail
    by_cases hlt : i < l.length ∧ i < 4
    · refine wp_cond_at (nm := true) rfl (by simp; omega) (fun _ => ?_) (fun h => absurd h (by decide))
      obtain ⟨vs, hv1, hS, hv2, hv3⟩ := hP.way
      rw [List.length_map, hki] at hS hv1
      obtain ⟨hlt1, hlt2⟩ := hlt
      obtain ⟨x, hx⟩ : ∃ x, l[i]? = some x := ⟨_, List.getElem?_eq_getElem hlt1⟩
      obtain ⟨ak, ck, rfl, hcx⟩ := hl.el hx
      have HX := Lib.hid (show w0.cell? (ak.add ((i : Int).toNat * 1)) = some (.int .i64 x) by rw [Int.toNat_natCast, Nat.mul_one]; exact hcx)
      have HK := Lib.hid (show IntKind.i64.wrap ((i : Int) + 1) = ((i + 1 : Nat) : Int) by rw [IntWalk.i64_in _ (by omega)]; omega)
      have hbx : bits .and .i64 x 3 = x % 4 := i64_mask x 2 3 (by decide) (by decide)
      have hw : x % 4 = 0 ∨ x % 4 = 1 ∨ x % 4 = 2 ∨ x % 4 = 3 := by omega
      have hjl := hjk.1
      clear hx hcx hjk
      by_cases hi0 : i = 0
      · have hks : ks = [] := List.eq_nil_of_length_eq_zero (by omega)
        have HG0 := Lib.hid (show cmpB .gtr (i : Int) 0 = some false from congrArg some (decide_eq_false (by omega)))
        have hjo : ∀ k, (((labS b ++ preS p) ++ wmov) ++ joinS ks) ++ argS k = ((labS b ++ preS p) ++ wmov) ++ joinS (ks ++ [k]) := fun k => by
          rw [hks, List.nil_append, joinS_one, show joinS [] = [] from rfl, List.append_nil]
        have hjl2 : (((labS b ++ preS p) ++ wmov) ++ joinS ks).length ≤ 60 := by rw [List.length_append]; omega
        generalize ((labS b ++ preS p) ++ wmov) ++ joinS ks = T at *
        have hcc : T.length + sCOMMA.length ≤ 1000000 := by have e : sCOMMA.length = 1 := rfl; omega
        clear hks
        rcases hw with hw | hw | hw | hw <;> rw [hw] at hbx
        · have HB := Lib.hid (show bits .and .i64 x 3 = 0 from hbx)
          have HF := Lib.hid (hjo 0)
          have hc2 : (T).length + wa.length ≤ 1000000 := by
            have e : wa.length ≤ 6 := by decide
            omega
          go_wp2_with (first
              | ((with_reducible apply q_ls hR); exact rfl; (with_reducible apply t_catE); (apply EvC.now; exact rfl); (exact lit_now lsCOMMA); exact hcc; exact rfl; (simp only [List.set_cons_succ, List.set_cons_zero]; exact rfl); clear hR; intro w hR)
              | ((with_reducible apply q_ls hR); exact rfl; (with_reducible apply t_cmp (op := .gtr)); (apply EvC.now; exact rfl); (apply EvC.now; exact rfl); exact HG0.out; (simp only [List.set_cons_succ, List.set_cons_zero]; exact rfl); clear hR; intro w hR)
              | ((with_reducible apply q_ls hR); exact rfl; (with_reducible apply t_six Tryd.underlying22 iIntL); (apply EvC.now; exact rfl); (apply EvC.now; exact rfl); (constructor <;> omega); (simp only [List.set_cons_succ, List.set_cons_zero]; exact rfl); clear hR; intro w hR)
              | ((with_reducible apply q_ls hR); exact rfl; (with_reducible apply t_oldOne tIntL); (apply EvC.now; exact rfl); exact HX.out; exact rfl; (simp only [List.set_cons_succ, List.set_cons_zero]; exact rfl); clear hR; intro w hR)
              | ((with_reducible apply q_ls hR); exact rfl; (with_reducible apply t_numE (op := .and)); (apply EvC.now; exact rfl); (apply EvC.now; exact rfl); exact rfl; exact HB.out; (simp only [List.set_cons_succ, List.set_cons_zero]; exact rfl); clear hR; intro w hR)
              | ((with_reducible apply q_ls hR); exact rfl; (with_reducible apply t_catE); (apply EvC.now; exact rfl); (exact lit_now lwa); exact hc2; exact HF.out; (simp only [List.set_cons_succ, List.set_cons_zero]; exact rfl); clear hR; intro w hR)
              | ((with_reducible apply q_ls hR); exact rfl; (with_reducible apply t_numE (op := .add)); (apply EvC.now; exact rfl); (apply EvC.now; exact rfl); exact rfl; exact HK.out; (simp only [List.set_cons_succ, List.set_cons_zero]; exact rfl); clear hR; intro w hR)
              | ((with_reducible apply wpList_built); exact rfl; exact rfl; (first | exact bTokS 1 wA | exact bTokS 4 sOPEN | exact bTokN 2 1 | exact bTokS 4 sCOMMA | exact bTokN 2 2 | exact bTokS 4 sCLOSE | exact bTokS 4 sIN | exact bTokS 1 wB | exact bTokS 4 sEND | exact bTokS 3 sCOMMA); (simp only [List.set_cons_succ, List.set_cons_zero]; exact rfl))
              | ((with_reducible apply wpList_buildS hR); exact rfl; exact rfl; (first | exact bToksA _ | exact bToksC _ _ _ | exact bToksE _ _ _ _ _); clear hR; intro gt w hR; simp only [List.set_cons_succ, List.set_cons_zero])
              | ((with_reducible apply wpList_buildS hR); exact rfl; exact rfl; (exact bParts1 _ _ _); clear hR; intro gp w hR; simp only [List.set_cons_succ, List.set_cons_zero])
              | ((with_reducible apply wpList_appG hR tPartsB); exact rfl; exact rfl; exact rfl; exact hS; (exact Les.tail (Les.tail (Les.tail (Les.skip sp Les.head)))); (exact rd_val rfl hR (.head _)); (simp only [maxLen]; omega); omega; clear hR hS; intro s3 v3 w hR hS; simp only [List.set_cons_succ, List.set_cons_zero])
              | ((with_reducible apply wpList_put1 hR tPartsL); exact rfl; exact rfl; exact rfl; exact (List.mem_append_right _ (.tail _ (.tail _ (.head _)))); exact put_sArgs _ _ _ _; exact (Nat.le_of_ble_eq_true rfl); exact hS.one; exact (Upd.skipL s3 (.tail (.tail .head))); clear hR; intro w hR)
              | ((with_reducible apply q_ls hR); exact rfl; ((with_reducible first | apply t_addr (fTok _ (by decide)) | apply t_addr (fStm _ (by decide)) | apply t_one tIntL | apply t_one tStrO | apply t_one tBoolL | apply t_one tStrsL | apply t_one tPartsL | apply t_part tTok | apply t_part tStm) <;> (first | (apply EvC.gv; exact rfl; (with_reducible first | exact Imp.refl _ | (apply Imp.left; exact Imp.refl _) | (apply Imp.right; exact Imp.refl _) | (apply Imp.left; apply Imp.left; exact Imp.refl _))) | (apply EvC.now; exact rfl) | exact rfl | (with_reducible exact EvAll.nil) | (focus (repeat (first | apply EvAll.cons | exact EvAll.nil | (apply EvC.gv; exact rfl; (with_reducible first | exact Imp.refl _ | (apply Imp.left; exact Imp.refl _) | (apply Imp.right; exact Imp.refl _) | (apply Imp.left; apply Imp.left; exact Imp.refl _))) | (apply EvC.now; exact rfl))); done) | (first | exact ext_tok _ | exact ext_stm _ _ _) | (focus (repeat (first | apply List.Mem.head | apply List.Mem.tail | apply List.mem_append_right))))); (simp only [List.set_cons_succ, List.set_cons_zero]; exact rfl); clear hR; intro w hR))
          go_round
          case rel =>
            refine ⟨i + 1, ks ++ [0], s3, [(gt, cellsL (argT 0), 30)] ++ si, v3, rfl, by omega, by omega, by rw [List.length_append, hki]; rfl, ?_, rfl, ?_, ?_⟩
            · intro k hk
              rcases List.mem_append.1 hk with hk | hk
              · exact hk4 k hk
              · rw [List.mem_singleton.1 hk]; decide
            · exact (hR.drop (List.Sublist.append (List.Sublist.refl s3) (List.sublist_cons_self _ _))).perm (perm_prt s3 sp si _ _)
            · rw [List.map_append]
              exact PSl.more ⟨vs, by rw [List.length_map, hki]; exact hv1, hv2, hv3, by rw [List.length_map, hki]; exact hS⟩ (toks_rows gt _ (ts := argT 0) (n := 1) rfl (by decide)) rfl
          case measure => simp [intOf]; omega
        · have HB := Lib.hid (show bits .and .i64 x 3 = 1 from hbx)
          have HF := Lib.hid (hjo 1)
          have hc2 : (T).length + w12.length ≤ 1000000 := by
            have e : w12.length ≤ 6 := by decide
            omega
          go_wp2_with (first
              | ((with_reducible apply q_ls hR); exact rfl; (with_reducible apply t_catE); (apply EvC.now; exact rfl); (exact lit_now lsCOMMA); exact hcc; exact rfl; (simp only [List.set_cons_succ, List.set_cons_zero]; exact rfl); clear hR; intro w hR)
              | ((with_reducible apply q_ls hR); exact rfl; (with_reducible apply t_cmp (op := .gtr)); (apply EvC.now; exact rfl); (apply EvC.now; exact rfl); exact HG0.out; (simp only [List.set_cons_succ, List.set_cons_zero]; exact rfl); clear hR; intro w hR)
              | ((with_reducible apply q_ls hR); exact rfl; (with_reducible apply t_six Tryd.underlying22 iIntL); (apply EvC.now; exact rfl); (apply EvC.now; exact rfl); (constructor <;> omega); (simp only [List.set_cons_succ, List.set_cons_zero]; exact rfl); clear hR; intro w hR)
              | ((with_reducible apply q_ls hR); exact rfl; (with_reducible apply t_oldOne tIntL); (apply EvC.now; exact rfl); exact HX.out; exact rfl; (simp only [List.set_cons_succ, List.set_cons_zero]; exact rfl); clear hR; intro w hR)
              | ((with_reducible apply q_ls hR); exact rfl; (with_reducible apply t_numE (op := .and)); (apply EvC.now; exact rfl); (apply EvC.now; exact rfl); exact rfl; exact HB.out; (simp only [List.set_cons_succ, List.set_cons_zero]; exact rfl); clear hR; intro w hR)
              | ((with_reducible apply q_ls hR); exact rfl; (with_reducible apply t_catE); (apply EvC.now; exact rfl); (exact lit_now lw12); exact hc2; exact HF.out; (simp only [List.set_cons_succ, List.set_cons_zero]; exact rfl); clear hR; intro w hR)
              | ((with_reducible apply q_ls hR); exact rfl; (with_reducible apply t_numE (op := .add)); (apply EvC.now; exact rfl); (apply EvC.now; exact rfl); exact rfl; exact HK.out; (simp only [List.set_cons_succ, List.set_cons_zero]; exact rfl); clear hR; intro w hR)
              | ((with_reducible apply wpList_built); exact rfl; exact rfl; (first | exact bTokS 1 wA | exact bTokS 4 sOPEN | exact bTokN 2 1 | exact bTokS 4 sCOMMA | exact bTokN 2 2 | exact bTokS 4 sCLOSE | exact bTokS 4 sIN | exact bTokS 1 wB | exact bTokS 4 sEND | exact bTokS 3 sCOMMA); (simp only [List.set_cons_succ, List.set_cons_zero]; exact rfl))
              | ((with_reducible apply wpList_buildS hR); exact rfl; exact rfl; (first | exact bToksA _ | exact bToksC _ _ _ | exact bToksE _ _ _ _ _); clear hR; intro gt w hR; simp only [List.set_cons_succ, List.set_cons_zero])
              | ((with_reducible apply wpList_buildS hR); exact rfl; exact rfl; (exact bParts1 _ _ _); clear hR; intro gp w hR; simp only [List.set_cons_succ, List.set_cons_zero])
              | ((with_reducible apply wpList_appG hR tPartsB); exact rfl; exact rfl; exact rfl; exact hS; (exact Les.tail (Les.tail (Les.tail (Les.skip sp Les.head)))); (exact rd_val rfl hR (.head _)); (simp only [maxLen]; omega); omega; clear hR hS; intro s3 v3 w hR hS; simp only [List.set_cons_succ, List.set_cons_zero])
              | ((with_reducible apply wpList_put1 hR tPartsL); exact rfl; exact rfl; exact rfl; exact (List.mem_append_right _ (.tail _ (.tail _ (.head _)))); exact put_sArgs _ _ _ _; exact (Nat.le_of_ble_eq_true rfl); exact hS.one; exact (Upd.skipL s3 (.tail (.tail .head))); clear hR; intro w hR)
              | ((with_reducible apply q_ls hR); exact rfl; ((with_reducible first | apply t_addr (fTok _ (by decide)) | apply t_addr (fStm _ (by decide)) | apply t_one tIntL | apply t_one tStrO | apply t_one tBoolL | apply t_one tStrsL | apply t_one tPartsL | apply t_part tTok | apply t_part tStm) <;> (first | (apply EvC.gv; exact rfl; (with_reducible first | exact Imp.refl _ | (apply Imp.left; exact Imp.refl _) | (apply Imp.right; exact Imp.refl _) | (apply Imp.left; apply Imp.left; exact Imp.refl _))) | (apply EvC.now; exact rfl) | exact rfl | (with_reducible exact EvAll.nil) | (focus (repeat (first | apply EvAll.cons | exact EvAll.nil | (apply EvC.gv; exact rfl; (with_reducible first | exact Imp.refl _ | (apply Imp.left; exact Imp.refl _) | (apply Imp.right; exact Imp.refl _) | (apply Imp.left; apply Imp.left; exact Imp.refl _))) | (apply EvC.now; exact rfl))); done) | (first | exact ext_tok _ | exact ext_stm _ _ _) | (focus (repeat (first | apply List.Mem.head | apply List.Mem.tail | apply List.mem_append_right))))); (simp only [List.set_cons_succ, List.set_cons_zero]; exact rfl); clear hR; intro w hR))
          go_round
          case rel =>
            refine ⟨i + 1, ks ++ [1], s3, [(gt, cellsL (argT 1), 30)] ++ si, v3, rfl, by omega, by omega, by rw [List.length_append, hki]; rfl, ?_, rfl, ?_, ?_⟩
            · intro k hk
              rcases List.mem_append.1 hk with hk | hk
              · exact hk4 k hk
              · rw [List.mem_singleton.1 hk]; decide
            · exact (hR.drop (List.Sublist.append (List.Sublist.refl s3) (List.sublist_cons_self _ _))).perm (perm_prt s3 sp si _ _)
            · rw [List.map_append]
              exact PSl.more ⟨vs, by rw [List.length_map, hki]; exact hv1, hv2, hv3, by rw [List.length_map, hki]; exact hS⟩ (toks_rows gt _ (ts := argT 1) (n := 5) rfl (by decide)) rfl
          case measure => simp [intOf]; omega
        · have HB := Lib.hid (show bits .and .i64 x 3 = 2 from hbx)
          have HF := Lib.hid (hjo 2)
          have hc2 : (T).length + wb.length ≤ 1000000 := by
            have e : wb.length ≤ 6 := by decide
            omega
          go_wp2_with (first
              | ((with_reducible apply q_ls hR); exact rfl; (with_reducible apply t_catE); (apply EvC.now; exact rfl); (exact lit_now lsCOMMA); exact hcc; exact rfl; (simp only [List.set_cons_succ, List.set_cons_zero]; exact rfl); clear hR; intro w hR)
              | ((with_reducible apply q_ls hR); exact rfl; (with_reducible apply t_cmp (op := .gtr)); (apply EvC.now; exact rfl); (apply EvC.now; exact rfl); exact HG0.out; (simp only [List.set_cons_succ, List.set_cons_zero]; exact rfl); clear hR; intro w hR)
              | ((with_reducible apply q_ls hR); exact rfl; (with_reducible apply t_six Tryd.underlying22 iIntL); (apply EvC.now; exact rfl); (apply EvC.now; exact rfl); (constructor <;> omega); (simp only [List.set_cons_succ, List.set_cons_zero]; exact rfl); clear hR; intro w hR)
              | ((with_reducible apply q_ls hR); exact rfl; (with_reducible apply t_oldOne tIntL); (apply EvC.now; exact rfl); exact HX.out; exact rfl; (simp only [List.set_cons_succ, List.set_cons_zero]; exact rfl); clear hR; intro w hR)
              | ((with_reducible apply q_ls hR); exact rfl; (with_reducible apply t_numE (op := .and)); (apply EvC.now; exact rfl); (apply EvC.now; exact rfl); exact rfl; exact HB.out; (simp only [List.set_cons_succ, List.set_cons_zero]; exact rfl); clear hR; intro w hR)
              | ((with_reducible apply q_ls hR); exact rfl; (with_reducible apply t_catE); (apply EvC.now; exact rfl); (exact lit_now lwb); exact hc2; exact HF.out; (simp only [List.set_cons_succ, List.set_cons_zero]; exact rfl); clear hR; intro w hR)
              | ((with_reducible apply q_ls hR); exact rfl; (with_reducible apply t_numE (op := .add)); (apply EvC.now; exact rfl); (apply EvC.now; exact rfl); exact rfl; exact HK.out; (simp only [List.set_cons_succ, List.set_cons_zero]; exact rfl); clear hR; intro w hR)
              | ((with_reducible apply wpList_built); exact rfl; exact rfl; (first | exact bTokS 1 wA | exact bTokS 4 sOPEN | exact bTokN 2 1 | exact bTokS 4 sCOMMA | exact bTokN 2 2 | exact bTokS 4 sCLOSE | exact bTokS 4 sIN | exact bTokS 1 wB | exact bTokS 4 sEND | exact bTokS 3 sCOMMA); (simp only [List.set_cons_succ, List.set_cons_zero]; exact rfl))
              | ((with_reducible apply wpList_buildS hR); exact rfl; exact rfl; (first | exact bToksA _ | exact bToksC _ _ _ | exact bToksE _ _ _ _ _); clear hR; intro gt w hR; simp only [List.set_cons_succ, List.set_cons_zero])
              | ((with_reducible apply wpList_buildS hR); exact rfl; exact rfl; (exact bParts1 _ _ _); clear hR; intro gp w hR; simp only [List.set_cons_succ, List.set_cons_zero])
              | ((with_reducible apply wpList_appG hR tPartsB); exact rfl; exact rfl; exact rfl; exact hS; (exact Les.tail (Les.tail (Les.tail (Les.skip sp Les.head)))); (exact rd_val rfl hR (.head _)); (simp only [maxLen]; omega); omega; clear hR hS; intro s3 v3 w hR hS; simp only [List.set_cons_succ, List.set_cons_zero])
              | ((with_reducible apply wpList_put1 hR tPartsL); exact rfl; exact rfl; exact rfl; exact (List.mem_append_right _ (.tail _ (.tail _ (.head _)))); exact put_sArgs _ _ _ _; exact (Nat.le_of_ble_eq_true rfl); exact hS.one; exact (Upd.skipL s3 (.tail (.tail .head))); clear hR; intro w hR)
              | ((with_reducible apply q_ls hR); exact rfl; ((with_reducible first | apply t_addr (fTok _ (by decide)) | apply t_addr (fStm _ (by decide)) | apply t_one tIntL | apply t_one tStrO | apply t_one tBoolL | apply t_one tStrsL | apply t_one tPartsL | apply t_part tTok | apply t_part tStm) <;> (first | (apply EvC.gv; exact rfl; (with_reducible first | exact Imp.refl _ | (apply Imp.left; exact Imp.refl _) | (apply Imp.right; exact Imp.refl _) | (apply Imp.left; apply Imp.left; exact Imp.refl _))) | (apply EvC.now; exact rfl) | exact rfl | (with_reducible exact EvAll.nil) | (focus (repeat (first | apply EvAll.cons | exact EvAll.nil | (apply EvC.gv; exact rfl; (with_reducible first | exact Imp.refl _ | (apply Imp.left; exact Imp.refl _) | (apply Imp.right; exact Imp.refl _) | (apply Imp.left; apply Imp.left; exact Imp.refl _))) | (apply EvC.now; exact rfl))); done) | (first | exact ext_tok _ | exact ext_stm _ _ _) | (focus (repeat (first | apply List.Mem.head | apply List.Mem.tail | apply List.mem_append_right))))); (simp only [List.set_cons_succ, List.set_cons_zero]; exact rfl); clear hR; intro w hR))
          go_round
          case rel =>
            refine ⟨i + 1, ks ++ [2], s3, [(gt, cellsL (argT 2), 30)] ++ si, v3, rfl, by omega, by omega, by rw [List.length_append, hki]; rfl, ?_, rfl, ?_, ?_⟩
            · intro k hk
              rcases List.mem_append.1 hk with hk | hk
              · exact hk4 k hk
              · rw [List.mem_singleton.1 hk]; decide
            · exact (hR.drop (List.Sublist.append (List.Sublist.refl s3) (List.sublist_cons_self _ _))).perm (perm_prt s3 sp si _ _)
            · rw [List.map_append]
              exact PSl.more ⟨vs, by rw [List.length_map, hki]; exact hv1, hv2, hv3, by rw [List.length_map, hki]; exact hS⟩ (toks_rows gt _ (ts := argT 2) (n := 3) rfl (by decide)) rfl
          case measure => simp [intOf]; omega
        · have HB := Lib.hid (show bits .and .i64 x 3 = 3 from hbx)
          have HF := Lib.hid (hjo 3)
          have hc2 : (T).length + wq.length ≤ 1000000 := by
            have e : wq.length ≤ 6 := by decide
            omega
          go_wp2_with (first
              | ((with_reducible apply q_ls hR); exact rfl; (with_reducible apply t_catE); (apply EvC.now; exact rfl); (exact lit_now lsCOMMA); exact hcc; exact rfl; (simp only [List.set_cons_succ, List.set_cons_zero]; exact rfl); clear hR; intro w hR)
              | ((with_reducible apply q_ls hR); exact rfl; (with_reducible apply t_cmp (op := .gtr)); (apply EvC.now; exact rfl); (apply EvC.now; exact rfl); exact HG0.out; (simp only [List.set_cons_succ, List.set_cons_zero]; exact rfl); clear hR; intro w hR)
              | ((with_reducible apply q_ls hR); exact rfl; (with_reducible apply t_six Tryd.underlying22 iIntL); (apply EvC.now; exact rfl); (apply EvC.now; exact rfl); (constructor <;> omega); (simp only [List.set_cons_succ, List.set_cons_zero]; exact rfl); clear hR; intro w hR)
              | ((with_reducible apply q_ls hR); exact rfl; (with_reducible apply t_oldOne tIntL); (apply EvC.now; exact rfl); exact HX.out; exact rfl; (simp only [List.set_cons_succ, List.set_cons_zero]; exact rfl); clear hR; intro w hR)
              | ((with_reducible apply q_ls hR); exact rfl; (with_reducible apply t_numE (op := .and)); (apply EvC.now; exact rfl); (apply EvC.now; exact rfl); exact rfl; exact HB.out; (simp only [List.set_cons_succ, List.set_cons_zero]; exact rfl); clear hR; intro w hR)
              | ((with_reducible apply q_ls hR); exact rfl; (with_reducible apply t_catE); (apply EvC.now; exact rfl); (exact lit_now lwq); exact hc2; exact HF.out; (simp only [List.set_cons_succ, List.set_cons_zero]; exact rfl); clear hR; intro w hR)
              | ((with_reducible apply q_ls hR); exact rfl; (with_reducible apply t_numE (op := .add)); (apply EvC.now; exact rfl); (apply EvC.now; exact rfl); exact rfl; exact HK.out; (simp only [List.set_cons_succ, List.set_cons_zero]; exact rfl); clear hR; intro w hR)
              | ((with_reducible apply wpList_built); exact rfl; exact rfl; (first | exact bTokS 1 wA | exact bTokS 4 sOPEN | exact bTokN 2 1 | exact bTokS 4 sCOMMA | exact bTokN 2 2 | exact bTokS 4 sCLOSE | exact bTokS 4 sIN | exact bTokS 1 wB | exact bTokS 4 sEND | exact bTokS 3 sCOMMA); (simp only [List.set_cons_succ, List.set_cons_zero]; exact rfl))
              | ((with_reducible apply wpList_buildS hR); exact rfl; exact rfl; (first | exact bToksA _ | exact bToksC _ _ _ | exact bToksE _ _ _ _ _); clear hR; intro gt w hR; simp only [List.set_cons_succ, List.set_cons_zero])
              | ((with_reducible apply wpList_buildS hR); exact rfl; exact rfl; (exact bParts1 _ _ _); clear hR; intro gp w hR; simp only [List.set_cons_succ, List.set_cons_zero])
              | ((with_reducible apply wpList_appG hR tPartsB); exact rfl; exact rfl; exact rfl; exact hS; (exact Les.tail (Les.tail (Les.tail (Les.skip sp Les.head)))); (exact rd_val rfl hR (.head _)); (simp only [maxLen]; omega); omega; clear hR hS; intro s3 v3 w hR hS; simp only [List.set_cons_succ, List.set_cons_zero])
              | ((with_reducible apply wpList_put1 hR tPartsL); exact rfl; exact rfl; exact rfl; exact (List.mem_append_right _ (.tail _ (.tail _ (.head _)))); exact put_sArgs _ _ _ _; exact (Nat.le_of_ble_eq_true rfl); exact hS.one; exact (Upd.skipL s3 (.tail (.tail .head))); clear hR; intro w hR)
              | ((with_reducible apply q_ls hR); exact rfl; ((with_reducible first | apply t_addr (fTok _ (by decide)) | apply t_addr (fStm _ (by decide)) | apply t_one tIntL | apply t_one tStrO | apply t_one tBoolL | apply t_one tStrsL | apply t_one tPartsL | apply t_part tTok | apply t_part tStm) <;> (first | (apply EvC.gv; exact rfl; (with_reducible first | exact Imp.refl _ | (apply Imp.left; exact Imp.refl _) | (apply Imp.right; exact Imp.refl _) | (apply Imp.left; apply Imp.left; exact Imp.refl _))) | (apply EvC.now; exact rfl) | exact rfl | (with_reducible exact EvAll.nil) | (focus (repeat (first | apply EvAll.cons | exact EvAll.nil | (apply EvC.gv; exact rfl; (with_reducible first | exact Imp.refl _ | (apply Imp.left; exact Imp.refl _) | (apply Imp.right; exact Imp.refl _) | (apply Imp.left; apply Imp.left; exact Imp.refl _))) | (apply EvC.now; exact rfl))); done) | (first | exact ext_tok _ | exact ext_stm _ _ _) | (focus (repeat (first | apply List.Mem.head | apply List.Mem.tail | apply List.mem_append_right))))); (simp only [List.set_cons_succ, List.set_cons_zero]; exact rfl); clear hR; intro w hR))
          go_round
          case rel =>
            refine ⟨i + 1, ks ++ [3], s3, [(gt, cellsL (argT 3), 30)] ++ si, v3, rfl, by omega, by omega, by rw [List.length_append, hki]; rfl, ?_, rfl, ?_, ?_⟩
            · intro k hk
              rcases List.mem_append.1 hk with hk | hk
              · exact hk4 k hk
              · rw [List.mem_singleton.1 hk]; decide
            · exact (hR.drop (List.Sublist.append (List.Sublist.refl s3) (List.sublist_cons_self _ _))).perm (perm_prt s3 sp si _ _)
            · rw [List.map_append]
              exact PSl.more ⟨vs, by rw [List.length_map, hki]; exact hv1, hv2, hv3, by rw [List.length_map, hki]; exact hS⟩ (toks_rows gt _ (ts := argT 3) (n := 1) rfl (by decide)) rfl
          case measure => simp [intOf]; omega
      · have hks : ks ≠ [] := fun h => hi0 (by rw [← hki, h]; rfl)
        have HG0 := Lib.hid (show cmpB .gtr (i : Int) 0 = some true from congrArg some (decide_eq_true (by omega)))
        have hjo : ∀ k, ((((labS b ++ preS p) ++ wmov) ++ joinS ks) ++ sCOMMA) ++ argS k = ((labS b ++ preS p) ++ wmov) ++ joinS (ks ++ [k]) := fun k => by
          rw [List.append_assoc (((labS b ++ preS p) ++ wmov)), List.append_assoc (((labS b ++ preS p) ++ wmov)), ← joinS_more hks, List.append_assoc]
        have hjl2 : (((labS b ++ preS p) ++ wmov) ++ joinS ks).length ≤ 60 := by rw [List.length_append]; omega
        generalize ((labS b ++ preS p) ++ wmov) ++ joinS ks = T at *
        have hcc : T.length + sCOMMA.length ≤ 1000000 := by have e : sCOMMA.length = 1 := rfl; omega
        have hjl3 : (T ++ sCOMMA).length ≤ 62 := by rw [List.length_append]; have e : sCOMMA.length = 1 := rfl; omega
        clear hks
        rcases hw with hw | hw | hw | hw <;> rw [hw] at hbx
        · have HB := Lib.hid (show bits .and .i64 x 3 = 0 from hbx)
          have HF := Lib.hid (hjo 0)
          have hc2 : (T ++ sCOMMA).length + wa.length ≤ 1000000 := by
            have e : wa.length ≤ 6 := by decide
            omega
          go_wp2_with (first
              | ((with_reducible apply q_ls hR); exact rfl; (with_reducible apply t_catE); (apply EvC.now; exact rfl); (exact lit_now lsCOMMA); exact hcc; exact rfl; (simp only [List.set_cons_succ, List.set_cons_zero]; exact rfl); clear hR; intro w hR)
              | ((with_reducible apply q_ls hR); exact rfl; (with_reducible apply t_cmp (op := .gtr)); (apply EvC.now; exact rfl); (apply EvC.now; exact rfl); exact HG0.out; (simp only [List.set_cons_succ, List.set_cons_zero]; exact rfl); clear hR; intro w hR)
              | ((with_reducible apply q_ls hR); exact rfl; (with_reducible apply t_six Tryd.underlying22 iIntL); (apply EvC.now; exact rfl); (apply EvC.now; exact rfl); (constructor <;> omega); (simp only [List.set_cons_succ, List.set_cons_zero]; exact rfl); clear hR; intro w hR)
              | ((with_reducible apply q_ls hR); exact rfl; (with_reducible apply t_oldOne tIntL); (apply EvC.now; exact rfl); exact HX.out; exact rfl; (simp only [List.set_cons_succ, List.set_cons_zero]; exact rfl); clear hR; intro w hR)
              | ((with_reducible apply q_ls hR); exact rfl; (with_reducible apply t_numE (op := .and)); (apply EvC.now; exact rfl); (apply EvC.now; exact rfl); exact rfl; exact HB.out; (simp only [List.set_cons_succ, List.set_cons_zero]; exact rfl); clear hR; intro w hR)
              | ((with_reducible apply q_ls hR); exact rfl; (with_reducible apply t_catE); (apply EvC.now; exact rfl); (exact lit_now lwa); exact hc2; exact HF.out; (simp only [List.set_cons_succ, List.set_cons_zero]; exact rfl); clear hR; intro w hR)
              | ((with_reducible apply q_ls hR); exact rfl; (with_reducible apply t_numE (op := .add)); (apply EvC.now; exact rfl); (apply EvC.now; exact rfl); exact rfl; exact HK.out; (simp only [List.set_cons_succ, List.set_cons_zero]; exact rfl); clear hR; intro w hR)
              | ((with_reducible apply wpList_built); exact rfl; exact rfl; (first | exact bTokS 1 wA | exact bTokS 4 sOPEN | exact bTokN 2 1 | exact bTokS 4 sCOMMA | exact bTokN 2 2 | exact bTokS 4 sCLOSE | exact bTokS 4 sIN | exact bTokS 1 wB | exact bTokS 4 sEND | exact bTokS 3 sCOMMA); (simp only [List.set_cons_succ, List.set_cons_zero]; exact rfl))
              | ((with_reducible apply wpList_buildS hR); exact rfl; exact rfl; (first | exact bToksA _ | exact bToksC _ _ _ | exact bToksE _ _ _ _ _); clear hR; intro gt w hR; simp only [List.set_cons_succ, List.set_cons_zero])
              | ((with_reducible apply wpList_buildS hR); exact rfl; exact rfl; (exact bParts1 _ _ _); clear hR; intro gp w hR; simp only [List.set_cons_succ, List.set_cons_zero])
              | ((with_reducible apply wpList_appG hR tPartsB); exact rfl; exact rfl; exact rfl; exact hS; (exact Les.tail (Les.tail (Les.tail (Les.skip sp Les.head)))); (exact rd_val rfl hR (.head _)); (simp only [maxLen]; omega); omega; clear hR hS; intro s3 v3 w hR hS; simp only [List.set_cons_succ, List.set_cons_zero])
              | ((with_reducible apply wpList_put1 hR tPartsL); exact rfl; exact rfl; exact rfl; exact (List.mem_append_right _ (.tail _ (.tail _ (.head _)))); exact put_sArgs _ _ _ _; exact (Nat.le_of_ble_eq_true rfl); exact hS.one; exact (Upd.skipL s3 (.tail (.tail .head))); clear hR; intro w hR)
              | ((with_reducible apply q_ls hR); exact rfl; ((with_reducible first | apply t_addr (fTok _ (by decide)) | apply t_addr (fStm _ (by decide)) | apply t_one tIntL | apply t_one tStrO | apply t_one tBoolL | apply t_one tStrsL | apply t_one tPartsL | apply t_part tTok | apply t_part tStm) <;> (first | (apply EvC.gv; exact rfl; (with_reducible first | exact Imp.refl _ | (apply Imp.left; exact Imp.refl _) | (apply Imp.right; exact Imp.refl _) | (apply Imp.left; apply Imp.left; exact Imp.refl _))) | (apply EvC.now; exact rfl) | exact rfl | (with_reducible exact EvAll.nil) | (focus (repeat (first | apply EvAll.cons | exact EvAll.nil | (apply EvC.gv; exact rfl; (with_reducible first | exact Imp.refl _ | (apply Imp.left; exact Imp.refl _) | (apply Imp.right; exact Imp.refl _) | (apply Imp.left; apply Imp.left; exact Imp.refl _))) | (apply EvC.now; exact rfl))); done) | (first | exact ext_tok _ | exact ext_stm _ _ _) | (focus (repeat (first | apply List.Mem.head | apply List.Mem.tail | apply List.mem_append_right))))); (simp only [List.set_cons_succ, List.set_cons_zero]; exact rfl); clear hR; intro w hR))
          go_round
          case rel =>
            refine ⟨i + 1, ks ++ [0], s3, [(gt, cellsL (argT 0), 30)] ++ si, v3, rfl, by omega, by omega, by rw [List.length_append, hki]; rfl, ?_, rfl, ?_, ?_⟩
            · intro k hk
              rcases List.mem_append.1 hk with hk | hk
              · exact hk4 k hk
              · rw [List.mem_singleton.1 hk]; decide
            · exact (hR.drop (List.Sublist.append (List.Sublist.refl s3) (List.sublist_cons_self _ _))).perm (perm_prt s3 sp si _ _)
            · rw [List.map_append]
              exact PSl.more ⟨vs, by rw [List.length_map, hki]; exact hv1, hv2, hv3, by rw [List.length_map, hki]; exact hS⟩ (toks_rows gt _ (ts := argT 0) (n := 1) rfl (by decide)) rfl
          case measure => simp [intOf]; omega
        · have HB := Lib.hid (show bits .and .i64 x 3 = 1 from hbx)
          have HF := Lib.hid (hjo 1)
          have hc2 : (T ++ sCOMMA).length + w12.length ≤ 1000000 := by
            have e : w12.length ≤ 6 := by decide
            omega
          go_wp2_with (first
              | ((with_reducible apply q_ls hR); exact rfl; (with_reducible apply t_catE); (apply EvC.now; exact rfl); (exact lit_now lsCOMMA); exact hcc; exact rfl; (simp only [List.set_cons_succ, List.set_cons_zero]; exact rfl); clear hR; intro w hR)
              | ((with_reducible apply q_ls hR); exact rfl; (with_reducible apply t_cmp (op := .gtr)); (apply EvC.now; exact rfl); (apply EvC.now; exact rfl); exact HG0.out; (simp only [List.set_cons_succ, List.set_cons_zero]; exact rfl); clear hR; intro w hR)
              | ((with_reducible apply q_ls hR); exact rfl; (with_reducible apply t_six Tryd.underlying22 iIntL); (apply EvC.now; exact rfl); (apply EvC.now; exact rfl); (constructor <;> omega); (simp only [List.set_cons_succ, List.set_cons_zero]; exact rfl); clear hR; intro w hR)
              | ((with_reducible apply q_ls hR); exact rfl; (with_reducible apply t_oldOne tIntL); (apply EvC.now; exact rfl); exact HX.out; exact rfl; (simp only [List.set_cons_succ, List.set_cons_zero]; exact rfl); clear hR; intro w hR)
              | ((with_reducible apply q_ls hR); exact rfl; (with_reducible apply t_numE (op := .and)); (apply EvC.now; exact rfl); (apply EvC.now; exact rfl); exact rfl; exact HB.out; (simp only [List.set_cons_succ, List.set_cons_zero]; exact rfl); clear hR; intro w hR)
              | ((with_reducible apply q_ls hR); exact rfl; (with_reducible apply t_catE); (apply EvC.now; exact rfl); (exact lit_now lw12); exact hc2; exact HF.out; (simp only [List.set_cons_succ, List.set_cons_zero]; exact rfl); clear hR; intro w hR)
              | ((with_reducible apply q_ls hR); exact rfl; (with_reducible apply t_numE (op := .add)); (apply EvC.now; exact rfl); (apply EvC.now; exact rfl); exact rfl; exact HK.out; (simp only [List.set_cons_succ, List.set_cons_zero]; exact rfl); clear hR; intro w hR)
              | ((with_reducible apply wpList_built); exact rfl; exact rfl; (first | exact bTokS 1 wA | exact bTokS 4 sOPEN | exact bTokN 2 1 | exact bTokS 4 sCOMMA | exact bTokN 2 2 | exact bTokS 4 sCLOSE | exact bTokS 4 sIN | exact bTokS 1 wB | exact bTokS 4 sEND | exact bTokS 3 sCOMMA); (simp only [List.set_cons_succ, List.set_cons_zero]; exact rfl))
              | ((with_reducible apply wpList_buildS hR); exact rfl; exact rfl; (first | exact bToksA _ | exact bToksC _ _ _ | exact bToksE _ _ _ _ _); clear hR; intro gt w hR; simp only [List.set_cons_succ, List.set_cons_zero])
              | ((with_reducible apply wpList_buildS hR); exact rfl; exact rfl; (exact bParts1 _ _ _); clear hR; intro gp w hR; simp only [List.set_cons_succ, List.set_cons_zero])
              | ((with_reducible apply wpList_appG hR tPartsB); exact rfl; exact rfl; exact rfl; exact hS; (exact Les.tail (Les.tail (Les.tail (Les.skip sp Les.head)))); (exact rd_val rfl hR (.head _)); (simp only [maxLen]; omega); omega; clear hR hS; intro s3 v3 w hR hS; simp only [List.set_cons_succ, List.set_cons_zero])
              | ((with_reducible apply wpList_put1 hR tPartsL); exact rfl; exact rfl; exact rfl; exact (List.mem_append_right _ (.tail _ (.tail _ (.head _)))); exact put_sArgs _ _ _ _; exact (Nat.le_of_ble_eq_true rfl); exact hS.one; exact (Upd.skipL s3 (.tail (.tail .head))); clear hR; intro w hR)
              | ((with_reducible apply q_ls hR); exact rfl; ((with_reducible first | apply t_addr (fTok _ (by decide)) | apply t_addr (fStm _ (by decide)) | apply t_one tIntL | apply t_one tStrO | apply t_one tBoolL | apply t_one tStrsL | apply t_one tPartsL | apply t_part tTok | apply t_part tStm) <;> (first | (apply EvC.gv; exact rfl; (with_reducible first | exact Imp.refl _ | (apply Imp.left; exact Imp.refl _) | (apply Imp.right; exact Imp.refl _) | (apply Imp.left; apply Imp.left; exact Imp.refl _))) | (apply EvC.now; exact rfl) | exact rfl | (with_reducible exact EvAll.nil) | (focus (repeat (first | apply EvAll.cons | exact EvAll.nil | (apply EvC.gv; exact rfl; (with_reducible first | exact Imp.refl _ | (apply Imp.left; exact Imp.refl _) | (apply Imp.right; exact Imp.refl _) | (apply Imp.left; apply Imp.left; exact Imp.refl _))) | (apply EvC.now; exact rfl))); done) | (first | exact ext_tok _ | exact ext_stm _ _ _) | (focus (repeat (first | apply List.Mem.head | apply List.Mem.tail | apply List.mem_append_right))))); (simp only [List.set_cons_succ, List.set_cons_zero]; exact rfl); clear hR; intro w hR))
          go_round
          case rel =>
            refine ⟨i + 1, ks ++ [1], s3, [(gt, cellsL (argT 1), 30)] ++ si, v3, rfl, by omega, by omega, by rw [List.length_append, hki]; rfl, ?_, rfl, ?_, ?_⟩
            · intro k hk
              rcases List.mem_append.1 hk with hk | hk
              · exact hk4 k hk
              · rw [List.mem_singleton.1 hk]; decide
            · exact (hR.drop (List.Sublist.append (List.Sublist.refl s3) (List.sublist_cons_self _ _))).perm (perm_prt s3 sp si _ _)
            · rw [List.map_append]
              exact PSl.more ⟨vs, by rw [List.length_map, hki]; exact hv1, hv2, hv3, by rw [List.length_map, hki]; exact hS⟩ (toks_rows gt _ (ts := argT 1) (n := 5) rfl (by decide)) rfl
          case measure => simp [intOf]; omega
        · have HB := Lib.hid (show bits .and .i64 x 3 = 2 from hbx)
          have HF := Lib.hid (hjo 2)
          have hc2 : (T ++ sCOMMA).length + wb.length ≤ 1000000 := by
            have e : wb.length ≤ 6 := by decide
            omega
          go_wp2_with (first
              | ((with_reducible apply q_ls hR); exact rfl; (with_reducible apply t_catE); (apply EvC.now; exact rfl); (exact lit_now lsCOMMA); exact hcc; exact rfl; (simp only [List.set_cons_succ, List.set_cons_zero]; exact rfl); clear hR; intro w hR)
              | ((with_reducible apply q_ls hR); exact rfl; (with_reducible apply t_cmp (op := .gtr)); (apply EvC.now; exact rfl); (apply EvC.now; exact rfl); exact HG0.out; (simp only [List.set_cons_succ, List.set_cons_zero]; exact rfl); clear hR; intro w hR)
              | ((with_reducible apply q_ls hR); exact rfl; (with_reducible apply t_six Tryd.underlying22 iIntL); (apply EvC.now; exact rfl); (apply EvC.now; exact rfl); (constructor <;> omega); (simp only [List.set_cons_succ, List.set_cons_zero]; exact rfl); clear hR; intro w hR)
              | ((with_reducible apply q_ls hR); exact rfl; (with_reducible apply t_oldOne tIntL); (apply EvC.now; exact rfl); exact HX.out; exact rfl; (simp only [List.set_cons_succ, List.set_cons_zero]; exact rfl); clear hR; intro w hR)
              | ((with_reducible apply q_ls hR); exact rfl; (with_reducible apply t_numE (op := .and)); (apply EvC.now; exact rfl); (apply EvC.now; exact rfl); exact rfl; exact HB.out; (simp only [List.set_cons_succ, List.set_cons_zero]; exact rfl); clear hR; intro w hR)
              | ((with_reducible apply q_ls hR); exact rfl; (with_reducible apply t_catE); (apply EvC.now; exact rfl); (exact lit_now lwb); exact hc2; exact HF.out; (simp only [List.set_cons_succ, List.set_cons_zero]; exact rfl); clear hR; intro w hR)
              | ((with_reducible apply q_ls hR); exact rfl; (with_reducible apply t_numE (op := .add)); (apply EvC.now; exact rfl); (apply EvC.now; exact rfl); exact rfl; exact HK.out; (simp only [List.set_cons_succ, List.set_cons_zero]; exact rfl); clear hR; intro w hR)
              | ((with_reducible apply wpList_built); exact rfl; exact rfl; (first | exact bTokS 1 wA | exact bTokS 4 sOPEN | exact bTokN 2 1 | exact bTokS 4 sCOMMA | exact bTokN 2 2 | exact bTokS 4 sCLOSE | exact bTokS 4 sIN | exact bTokS 1 wB | exact bTokS 4 sEND | exact bTokS 3 sCOMMA); (simp only [List.set_cons_succ, List.set_cons_zero]; exact rfl))
              | ((with_reducible apply wpList_buildS hR); exact rfl; exact rfl; (first | exact bToksA _ | exact bToksC _ _ _ | exact bToksE _ _ _ _ _); clear hR; intro gt w hR; simp only [List.set_cons_succ, List.set_cons_zero])
              | ((with_reducible apply wpList_buildS hR); exact rfl; exact rfl; (exact bParts1 _ _ _); clear hR; intro gp w hR; simp only [List.set_cons_succ, List.set_cons_zero])
              | ((with_reducible apply wpList_appG hR tPartsB); exact rfl; exact rfl; exact rfl; exact hS; (exact Les.tail (Les.tail (Les.tail (Les.skip sp Les.head)))); (exact rd_val rfl hR (.head _)); (simp only [maxLen]; omega); omega; clear hR hS; intro s3 v3 w hR hS; simp only [List.set_cons_succ, List.set_cons_zero])
              | ((with_reducible apply wpList_put1 hR tPartsL); exact rfl; exact rfl; exact rfl; exact (List.mem_append_right _ (.tail _ (.tail _ (.head _)))); exact put_sArgs _ _ _ _; exact (Nat.le_of_ble_eq_true rfl); exact hS.one; exact (Upd.skipL s3 (.tail (.tail .head))); clear hR; intro w hR)
              | ((with_reducible apply q_ls hR); exact rfl; ((with_reducible first | apply t_addr (fTok _ (by decide)) | apply t_addr (fStm _ (by decide)) | apply t_one tIntL | apply t_one tStrO | apply t_one tBoolL | apply t_one tStrsL | apply t_one tPartsL | apply t_part tTok | apply t_part tStm) <;> (first | (apply EvC.gv; exact rfl; (with_reducible first | exact Imp.refl _ | (apply Imp.left; exact Imp.refl _) | (apply Imp.right; exact Imp.refl _) | (apply Imp.left; apply Imp.left; exact Imp.refl _))) | (apply EvC.now; exact rfl) | exact rfl | (with_reducible exact EvAll.nil) | (focus (repeat (first | apply EvAll.cons | exact EvAll.nil | (apply EvC.gv; exact rfl; (with_reducible first | exact Imp.refl _ | (apply Imp.left; exact Imp.refl _) | (apply Imp.right; exact Imp.refl _) | (apply Imp.left; apply Imp.left; exact Imp.refl _))) | (apply EvC.now; exact rfl))); done) | (first | exact ext_tok _ | exact ext_stm _ _ _) | (focus (repeat (first | apply List.Mem.head | apply List.Mem.tail | apply List.mem_append_right))))); (simp only [List.set_cons_succ, List.set_cons_zero]; exact rfl); clear hR; intro w hR))
          go_round
          case rel =>
            refine ⟨i + 1, ks ++ [2], s3, [(gt, cellsL (argT 2), 30)] ++ si, v3, rfl, by omega, by omega, by rw [List.length_append, hki]; rfl, ?_, rfl, ?_, ?_⟩
            · intro k hk
              rcases List.mem_append.1 hk with hk | hk
              · exact hk4 k hk
              · rw [List.mem_singleton.1 hk]; decide
            · exact (hR.drop (List.Sublist.append (List.Sublist.refl s3) (List.sublist_cons_self _ _))).perm (perm_prt s3 sp si _ _)
            · rw [List.map_append]
              exact PSl.more ⟨vs, by rw [List.length_map, hki]; exact hv1, hv2, hv3, by rw [List.length_map, hki]; exact hS⟩ (toks_rows gt _ (ts := argT 2) (n := 3) rfl (by decide)) rfl
          case measure => simp [intOf]; omega
        · have HB := Lib.hid (show bits .and .i64 x 3 = 3 from hbx)
          have HF := Lib.hid (hjo 3)
          have hc2 : (T ++ sCOMMA).length + wq.length ≤ 1000000 := by
            have e : wq.length ≤ 6 := by decide
            omega
          go_wp2_with (first
              | ((with_reducible apply q_ls hR); exact rfl; (with_reducible apply t_catE); (apply EvC.now; exact rfl); (exact lit_now lsCOMMA); exact hcc; exact rfl; (simp only [List.set_cons_succ, List.set_cons_zero]; exact rfl); clear hR; intro w hR)
              | ((with_reducible apply q_ls hR); exact rfl; (with_reducible apply t_cmp (op := .gtr)); (apply EvC.now; exact rfl); (apply EvC.now; exact rfl); exact HG0.out; (simp only [List.set_cons_succ, List.set_cons_zero]; exact rfl); clear hR; intro w hR)
              | ((with_reducible apply q_ls hR); exact rfl; (with_reducible apply t_six Tryd.underlying22 iIntL); (apply EvC.now; exact rfl); (apply EvC.now; exact rfl); (constructor <;> omega); (simp only [List.set_cons_succ, List.set_cons_zero]; exact rfl); clear hR; intro w hR)
              | ((with_reducible apply q_ls hR); exact rfl; (with_reducible apply t_oldOne tIntL); (apply EvC.now; exact rfl); exact HX.out; exact rfl; (simp only [List.set_cons_succ, List.set_cons_zero]; exact rfl); clear hR; intro w hR)
              | ((with_reducible apply q_ls hR); exact rfl; (with_reducible apply t_numE (op := .and)); (apply EvC.now; exact rfl); (apply EvC.now; exact rfl); exact rfl; exact HB.out; (simp only [List.set_cons_succ, List.set_cons_zero]; exact rfl); clear hR; intro w hR)
              | ((with_reducible apply q_ls hR); exact rfl; (with_reducible apply t_catE); (apply EvC.now; exact rfl); (exact lit_now lwq); exact hc2; exact HF.out; (simp only [List.set_cons_succ, List.set_cons_zero]; exact rfl); clear hR; intro w hR)
              | ((with_reducible apply q_ls hR); exact rfl; (with_reducible apply t_numE (op := .add)); (apply EvC.now; exact rfl); (apply EvC.now; exact rfl); exact rfl; exact HK.out; (simp only [List.set_cons_succ, List.set_cons_zero]; exact rfl); clear hR; intro w hR)
              | ((with_reducible apply wpList_built); exact rfl; exact rfl; (first | exact bTokS 1 wA | exact bTokS 4 sOPEN | exact bTokN 2 1 | exact bTokS 4 sCOMMA | exact bTokN 2 2 | exact bTokS 4 sCLOSE | exact bTokS 4 sIN | exact bTokS 1 wB | exact bTokS 4 sEND | exact bTokS 3 sCOMMA); (simp only [List.set_cons_succ, List.set_cons_zero]; exact rfl))
              | ((with_reducible apply wpList_buildS hR); exact rfl; exact rfl; (first | exact bToksA _ | exact bToksC _ _ _ | exact bToksE _ _ _ _ _); clear hR; intro gt w hR; simp only [List.set_cons_succ, List.set_cons_zero])
              | ((with_reducible apply wpList_buildS hR); exact rfl; exact rfl; (exact bParts1 _ _ _); clear hR; intro gp w hR; simp only [List.set_cons_succ, List.set_cons_zero])
              | ((with_reducible apply wpList_appG hR tPartsB); exact rfl; exact rfl; exact rfl; exact hS; (exact Les.tail (Les.tail (Les.tail (Les.skip sp Les.head)))); (exact rd_val rfl hR (.head _)); (simp only [maxLen]; omega); omega; clear hR hS; intro s3 v3 w hR hS; simp only [List.set_cons_succ, List.set_cons_zero])
              | ((with_reducible apply wpList_put1 hR tPartsL); exact rfl; exact rfl; exact rfl; exact (List.mem_append_right _ (.tail _ (.tail _ (.head _)))); exact put_sArgs _ _ _ _; exact (Nat.le_of_ble_eq_true rfl); exact hS.one; exact (Upd.skipL s3 (.tail (.tail .head))); clear hR; intro w hR)
              | ((with_reducible apply q_ls hR); exact rfl; ((with_reducible first | apply t_addr (fTok _ (by decide)) | apply t_addr (fStm _ (by decide)) | apply t_one tIntL | apply t_one tStrO | apply t_one tBoolL | apply t_one tStrsL | apply t_one tPartsL | apply t_part tTok | apply t_part tStm) <;> (first | (apply EvC.gv; exact rfl; (with_reducible first | exact Imp.refl _ | (apply Imp.left; exact Imp.refl _) | (apply Imp.right; exact Imp.refl _) | (apply Imp.left; apply Imp.left; exact Imp.refl _))) | (apply EvC.now; exact rfl) | exact rfl | (with_reducible exact EvAll.nil) | (focus (repeat (first | apply EvAll.cons | exact EvAll.nil | (apply EvC.gv; exact rfl; (with_reducible first | exact Imp.refl _ | (apply Imp.left; exact Imp.refl _) | (apply Imp.right; exact Imp.refl _) | (apply Imp.left; apply Imp.left; exact Imp.refl _))) | (apply EvC.now; exact rfl))); done) | (first | exact ext_tok _ | exact ext_stm _ _ _) | (focus (repeat (first | apply List.Mem.head | apply List.Mem.tail | apply List.mem_append_right))))); (simp only [List.set_cons_succ, List.set_cons_zero]; exact rfl); clear hR; intro w hR))
          go_round
          case rel =>
            refine ⟨i + 1, ks ++ [3], s3, [(gt, cellsL (argT 3), 30)] ++ si, v3, rfl, by omega, by omega, by rw [List.length_append, hki]; rfl, ?_, rfl, ?_, ?_⟩
            · intro k hk
              rcases List.mem_append.1 hk with hk | hk
              · exact hk4 k hk
              · rw [List.mem_singleton.1 hk]; decide
            · exact (hR.drop (List.Sublist.append (List.Sublist.refl s3) (List.sublist_cons_self _ _))).perm (perm_prt s3 sp si _ _)
            · rw [List.map_append]
              exact PSl.more ⟨vs, by rw [List.length_map, hki]; exact hv1, hv2, hv3, by rw [List.length_map, hki]; exact hS⟩ (toks_rows gt _ (ts := argT 3) (n := 1) rfl (by decide)) rfl
          case measure => simp [intOf]; omega
    · refine wp_cond_at (nm := false) rfl (by rw [Bool.and_eq_false_iff]; by_cases h : i < l.length; exact .inr (decide_eq_false (by omega)); exact .inl (decide_eq_false (by omega))) (fun h => absurd h (by decide)) (fun _ => ?_)
      have hkl : ks.length ≤ 4 := by omega
      have hpp := parse_prt b hp hk4 hkl
      have htx := txt_ok b hp hkl
      have hto : bytesOk (txtS b p ks) := readAll.ascii htx.2 |>.ok
      have HPZ := Lib.hid (parse_is (lit := strOfNums (txtS b p ks)) rfl hto hpp)
      have hct : (((labS b ++ preS p) ++ wmov) ++ joinS ks).length + wTAIL.length ≤ 1000000 := by have := htx.1; unfold txtS at this; rw [List.length_append] at this; omega
      have hz1 : (zPrt b p ks).pre.length ≤ 1000000 := by show (preW p).length ≤ _; cases p with
        | none => exact Nat.zero_le _
        | some j => exact (by decide : 1 ≤ 1000000)
      have hz2 : (zPrt b p ks).args.length ≤ 1000000 := by show (ks.map argT).length ≤ _; rw [List.length_map]; omega
      have hz3 : ∀ q ∈ (zPrt b p ks).args, q.length ≤ 1000000 := fun q hq => by
        obtain ⟨k, _, rfl⟩ := List.mem_map.1 hq
        have := (argT_len k).1
        omega
      have hwl : bytesOk (zPrt b p ks).label := by show bytesOk (if b then wHERE else []); cases b <;> exact ascii.ok (ascii_of rfl)
      clear hpp htx hto hjk hlt hk4 hkl hlen0
      generalize hTT : ((labS b ++ preS p) ++ wmov) ++ joinS ks = T at *
      have HF := Lib.hid (show T ++ wTAIL = txtS b p ks by rw [← hTT]; rfl)
      clear hTT
      go_upto_region 28 with (first
    | ((with_reducible apply q_ls hR); exact rfl; (with_reducible apply t_catE); (apply EvC.now; exact rfl); (exact lit_now lwTAIL); exact hct; exact HF.out; (simp only [List.set_cons_succ, List.set_cons_zero]; exact rfl); clear hR; intro w hR)
    | (go_at_call 6; refine (HPZ.out _).mono ?_; rintro e w2 ⟨vp2, va2, rfl, hb, hG⟩; replace hR := hR.grow hb; clear hb; have hW : StmAt w2 vp vo (zPrt b p ks) := ⟨hwl, okwMOV, hSp.strs hR (fun r hr => .tail _ (List.mem_append_left _ hr)) hpo.2.2, hP.parts _ _ _ hR (fun r hr => .tail _ (List.mem_append_right _ hr))⟩; have hO := at_old (hR.at (.head _)); have hZ := (Since.start w0).own hR; clear hR; have hR := Own.start w2; obtain ⟨vs2, hv2⟩ := hG.args.rd; have hgp := hG.pre.rd.one; have hga := hv2.one)
    | ((with_reducible apply q_ls hR); exact rfl; (with_reducible apply t_extract); (apply EvC.now; exact rfl); exact rfl; (simp only [List.set_cons_succ, List.set_cons_zero]; exact rfl); clear hR; intro w hR)
    | ((with_reducible apply wpList_make hR zStm); exact rfl; clear hR; intro g w hR; simp only [List.set_cons_succ, List.set_cons_zero])
    | ((with_reducible apply wpList_put hR tStm); exact rfl; exact rfl; exact rfl; (focus (repeat (first | apply List.Mem.head | apply List.Mem.tail | apply List.mem_append_right))); exact put_stm _ _ _ _ _ _; exact rfl; exact Nat.le_refl 5; exact one_stm _ hgp hga; (focus (repeat (first | apply Upd.head | apply Upd.tail))); clear hR; intro w hR))
      have HO := Lib.hid (show ∀ j u, (encSt (zPrt b p ks) vp vo).toList[j]? = some u → w2.cell? (Addr.add ⟨_, 0, none⟩ j) = some u from hO)
      have H00 := Lib.hid (show cmpB .eql (0 : Int) 0 = some true from rfl)
      clear hO HF HPZ
      refine wp_region_tame hR [0, 1, 2, 3, 4, 5, 6, 7, 8, 9, 10] rfl ?_
      repeat (refine wpT_step rfl ?_; first
    | ((with_reducible apply q_kn); exact rfl; (with_reducible apply t_cmp (op := .eql)); (apply EvC.now; exact rfl); (apply EvC.now; exact rfl); exact H00.out; (simp only [List.set_cons_succ, List.set_cons_zero]; exact rfl))
    | ((with_reducible apply q_kn); exact rfl; (with_reducible apply t_oldMany tStm); (apply EvC.now; exact rfl); (exact HO.out); exact rfl; (simp only [List.set_cons_succ, List.set_cons_zero]; exact rfl))
    | ((with_reducible apply q_kn); exact rfl; (with_reducible apply t_call Tryd.call7); (first | (apply EvC.gv; exact rfl; (with_reducible first | exact Imp.refl _ | (apply Imp.left; exact Imp.refl _) | (apply Imp.right; exact Imp.refl _) | (apply Imp.left; apply Imp.left; exact Imp.refl _))) | (apply EvC.now; exact rfl) | exact rfl | (with_reducible exact EvAll.nil) | (focus (repeat (first | apply EvAll.cons | exact EvAll.nil | (apply EvC.gv; exact rfl; (with_reducible first | exact Imp.refl _ | (apply Imp.left; exact Imp.refl _) | (apply Imp.right; exact Imp.refl _) | (apply Imp.left; apply Imp.left; exact Imp.refl _))) | (apply EvC.now; exact rfl))); done) | (first | exact ext_tok _ | exact ext_stm _ _ _) | (focus (repeat (first | apply List.Mem.head | apply List.Mem.tail | apply List.mem_append_right)))); (intro hcc w hC; exact tame_below (awake31_any _) hC); (simp only [List.set_cons_succ, List.set_cons_zero]; exact rfl))
    | ((with_reducible apply q_kn); exact rfl; (with_reducible apply t_call Tryd.call8); (first | (apply EvC.gv; exact rfl; (with_reducible first | exact Imp.refl _ | (apply Imp.left; exact Imp.refl _) | (apply Imp.right; exact Imp.refl _) | (apply Imp.left; apply Imp.left; exact Imp.refl _))) | (apply EvC.now; exact rfl) | exact rfl | (with_reducible exact EvAll.nil) | (focus (repeat (first | apply EvAll.cons | exact EvAll.nil | (apply EvC.gv; exact rfl; (with_reducible first | exact Imp.refl _ | (apply Imp.left; exact Imp.refl _) | (apply Imp.right; exact Imp.refl _) | (apply Imp.left; apply Imp.left; exact Imp.refl _))) | (apply EvC.now; exact rfl))); done) | (first | exact ext_tok _ | exact ext_stm _ _ _) | (focus (repeat (first | apply List.Mem.head | apply List.Mem.tail | apply List.mem_append_right)))); (intro hcc w hC; exact tame_below (same31_any (hG.own hC) (hW.own hC) hz1 hz2 hz3) hC); (simp only [List.set_cons_succ, List.set_cons_zero]; exact rfl))
    | ((with_reducible apply q_kn); exact rfl; (first | ((with_reducible first | apply t_move | apply t_assign | apply t_addr (fTok _ (by decide)) | apply t_addr (fStm _ (by decide)) | apply t_one tIntL | apply t_one tStrO | apply t_one tBoolL | apply t_one tStrsL | apply t_one tPartsL | apply t_part tTok | apply t_part tStm) <;> (first | (apply EvC.gv; exact rfl; (with_reducible first | exact Imp.refl _ | (apply Imp.left; exact Imp.refl _) | (apply Imp.right; exact Imp.refl _) | (apply Imp.left; apply Imp.left; exact Imp.refl _))) | (apply EvC.now; exact rfl) | exact rfl | (with_reducible exact EvAll.nil) | (focus (repeat (first | apply EvAll.cons | exact EvAll.nil | (apply EvC.gv; exact rfl; (with_reducible first | exact Imp.refl _ | (apply Imp.left; exact Imp.refl _) | (apply Imp.right; exact Imp.refl _) | (apply Imp.left; apply Imp.left; exact Imp.refl _))) | (apply EvC.now; exact rfl))); done) | (first | exact ext_tok _ | exact ext_stm _ _ _) | (focus (repeat (first | apply List.Mem.head | apply List.Mem.tail | apply List.mem_append_right))))) | ((with_reducible apply t_pick); (apply EvC.now; exact rfl); (apply EvC.now; exact rfl))); (simp only [List.set_cons_succ, List.set_cons_zero]; exact rfl)))
      refine wpT_nil ?_
      clear hR; intro w hR
      go_wp2_with fail
      go_ret
      exact ⟨ret_bool (by kernel_rfl), (hZ.own hR).below⟩

set_option maxRecDepth 100000 in
theorem lifted (os : Os) (started : os.Started) (H : Type) (enc : TypeId × Value → H) :
    ReturnsInHanded {} Tryd.checked os 3 .any (fun w args => (Rows.linePartsSpec.pre enc Tryd.prog Tryd.f3 [] false w args ∧ laidMetH Tryd.prog laid2 w) ∧ sizedMet enc Tryd.prog Tryd.f3 (OpenSpec.ofChange Rows.linePartsSpec) false w args)
      (Rows.linePartsSpec.post enc Tryd.prog Tryd.f3 false true false false) := by
  refine returnsInHanded_of_change_and (C := Tryd.checked) (X := fun w _ => laidMetH Tryd.prog laid2 w) (fun _ _ _ hh h => h.of_heap hh) own started (by kernel_rfl) Tryd.func3
    (ChangeSpec.witness_shaped (enc := enc) (C := Tryd.checked) (os := os) (X := fun w _ => laidMetH Tryd.prog laid2 w) false (World.laidAll Tryd.prog os laid2) #[.int .i64 0, .slice none 0 0] 8 (World.laidAll_os _ _ _) (World.shaped_of_ZipB (by kernel_rfl) (by kernel_rfl)) (by kernel_rfl) (by kernel_rfl) (by kernel_rfl) (by rw [MakeChecks.laidMetH_plain _ _ _ (by kernel_rfl)]; exact laidMet_laidAll _ (by kernel_rfl) (by kernel_rfl))) ?_
  intro W base args ds gs before hval0 hW _ _ hL _
  have hval : ∀ (j : Nat) t v, Tryd.f3.params[j]? = some t → args[j]? = some v → Value.okWide Tryd.prog W .any base t v := hval0
  have hW' := hW
  obtain ⟨p, q, hA0, hV, rfl, hfz, hnd⟩ := hW
  have hA : DataW.TrodAll enc Tryd.prog W 0 (fun _ => true) true Tryd.f3.params.toList args.toList ds p := hA0
  rw [Tryd.params3] at hA hval
  obtain ⟨v0, vs0, d0, ds0, p0, q0, hargs, rfl, rfl, h0, r0⟩ := trodAll_cons hA
  obtain ⟨v1, vs1, d1, ds1, p1, q1, rfl, rfl, rfl, h1, r1⟩ := trodAll_cons r0
  obtain ⟨rfl, rfl, rfl⟩ := trodAll_nil r1
  obtain rfl : args = #[v0, v1] := by cases args; simp_all
  obtain ⟨rfl, rfl⟩ := trodVars_none hV
  obtain ⟨a0, rfl, rfl, rfl, w0⟩ := open_int Tryd.underlying3 (hval 0 3 v0 rfl rfl) h0
  have k1 := h1
  have lt1 : ∀ x ∈ p1, x.block < W.heap.size := by obtain ⟨m, hm⟩ := k1; exact DataW.trod_lt m _ _ _ hm
  have o1 := open_i64s (hval 1 22 v1 rfl rfl) h1
  clear hA0 hval0
  refine (walk a0 w0 v1 o1 W (of_laid hL)).mono fun e W' ⟨he, bel⟩ => ?_
  subst he
  exact ⟨_, rfl, _, _, _, [], _, [], hW', trodAll_mk1 (shut_bool Tryd.underlying4 _), (trodAll_cons_mk (shut_int Tryd.underlying3 w0) (trodAll_cons_mk (Below.trod laidOut (by kernel_rfl) (of_decide_eq_true (by kernel_rfl)) k1 bel lt1) trodAll_mk0)), rfl, bel.frame _, fun h => by cases h⟩

theorem over : Rows.linePartsRow.holds Tryd.pinned (OpenSpec.ofChange Rows.linePartsSpec) :=
  OpenClaim.holds_of_wide 3 Tryd.f3 rfl rfl rfl rfl rfl rfl rfl ⟨rfl, rfl, rfl, rfl, rfl⟩ rfl rfl rfl rfl rfl (by kernel_rfl) Tryd.func3 (by kernel_rfl)
    (of_decide_eq_true (by kernel_rfl)) (by unfold Func.isWrapper; first | (rw [if_pos (by decide +kernel)]; kernel_rfl) | (rw [if_neg (by decide +kernel)]; exact ⟨rfl, rfl⟩))
    (fun os started H enc _ => lifted os started H enc)

theorem proved : Rows.LinePartsCardSaid :=
  Claim7.holds_tied_plain_at .later [] [.data, .pinned] true Rows.linePartsCard.stood.harness Rows.linePartsCard.stood.looks
    over (fun _ h => by cases h) (by kernel_rfl) (fun _ h => by cases h) lineParts_row_tie rfl ⟨rfl, rfl⟩ (by kernel_rfl) rfl
    (fun f fn hf hfn => by
      obtain rfl : f = 3 := Option.some.inj ((show Tryd.prog.funcNamed "hansom/hansomlaw31.LineParts" = some 3 by kernel_rfl).symm.trans hf) |>.symm
      obtain rfl : fn = Tryd.f3 := (Option.some.inj (Tryd.func3.symm.trans hfn)).symm
      exact ⟨by kernel_rfl, fun j t ht => by
        rw [Tryd.params3] at ht
        have hm : t ∈ [3, 22] := by simpa using Array.mem_of_getElem? ht
        have hall : ([3, 22].all fun u => !Tryd.prog.wantsStandIn u) = true := by kernel_rfl
        exact (show Tryd.prog.wantsStandIn t = false by simpa using List.all_eq_true.1 hall t hm)⟩)
    (by kernel_rfl)
#print axioms proved
end Go.Proofs.YtjecckmcjcikdaaDoor.lineParts
