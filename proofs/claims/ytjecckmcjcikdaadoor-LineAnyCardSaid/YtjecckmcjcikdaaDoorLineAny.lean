/- The law LineAny (whatever a line is, it says something, or nothing, or is none) returns true whatever the arguments, in a state in which the listed package-level tables hold what the program lays them with (the card ties that to its text), and each argument reads afterwards as before. There is no condition on the arguments. -/
import Derived.Test.YtjecckmcjcikdaaDoorRows
import Derived.Test.YtjecckmcjcikdaaDoorNam31
import Derived.WalkKit
import Derived.ProofKit
import Derived.OpenShut
import Derived.ShutString
import Derived.ChangeOld
import Derived.Below
import Derived.Test.YtjecckmcjcikdaaDoorTie
import Derived.Test.YtjecckmcjcikdaaDoorCards
import Derived.Test.YtjecckmcjcikdaaDoorLexTab
import Derived.SevenTiedAt
import Derived.Lay
import Derived.LaidMore
namespace Go.Proofs.YtjecckmcjcikdaaDoor.lineAny
open Go.ChangeShapes Go.WideShapes Go.ChangeAt Go.RowKit
open Go.ChangeMaps (open_string shut_string)
set_option linter.unusedVariables false
set_option linter.unusedSimpArgs false

theorem own : ownKnob Tryd.prog.godebug = none := by kernel_rfl
theorem laidOut : laidOutB Tryd.prog = true := by kernel_rfl











theorem minS (n m : Nat) : (if (m : Int) < (n : Int) then (m : Int) else (n : Int)) = ((min n m : Nat) : Int) := by split <;> omega
def wQ : List Int := [32, 32, 59, 32]
def wBAD1 : List Int := [53, 32, 77, 79, 86]
def wBAD2 : List Int := [65, 58, 32, 91]
theorem lwQ : (⟨#[32, 32, 59, 32]⟩ : ByteArray) = strOfNums wQ := rfl
theorem okwQ : bytesOk wQ := ascii.ok (ascii_of rfl)
theorem bad1 : parseZ wBAD1 = (noStm, 3) := by decide +kernel
theorem bad2 : parseZ wBAD2 = (noStm, 3) := by decide +kernel
theorem tComma : (splitZ [⟨4, sCOMMA, 0, 0⟩]).length = 2 := by decide +kernel
/-- What stands behind a semicolon says nothing. -/
theorem quiet_line {s : List Int} (h : ∀ c ∈ s, plP c = true) (hl : s.length ≤ 100) : parseZ (wQ ++ s) = (noStm, 0) := by
  have hr : ∀ c ∈ wQ ++ s, readZ c = true := by
    intro c hc
    rcases List.mem_append.1 hc with hc | hc
    · exact (by decide : ∀ c ∈ wQ, readZ c = true) c hc
    · have := h c hc
      unfold plP at this
      simp at this
      unfold readZ
      simp
      omega
  have hlen : (wQ ++ s).length = s.length + 4 := by rw [List.length_append]; show 4 + _ = _; omega
  have hz : lineZ (wQ ++ s) = ([], 0) := by
    unfold lineZ
    rw [if_neg (by omega), if_neg (runZ_full hr)]
    have hd : (wQ ++ s).dropWhile blankZ = 59 :: 32 :: s := rfl
    rw [scan_cons hd]
    rfl
  unfold parseZ
  rw [hz]
  rfl
/-- Whatever a line is: it says something, or nothing. -/
theorem any_ways (s : List Int) : (parseZ s).2 = 0 ∨ ((parseZ s).1 = noStm ∧ (parseZ s).2 ≠ 0) := by
  have hb : ∀ (st : StmZ) (l : List TokZ), (behindZ st l).2 = 0 ∨ ((behindZ st l).1 = noStm ∧ (behindZ st l).2 ≠ 0) := by
    intro st l
    cases l with
    | nil => exact .inl rfl
    | cons t r =>
      rw [behind_cons]
      split
      · exact .inl rfl
      · exact .inr ⟨rfl, by decide⟩
  unfold parseZ
  split
  · unfold stmtZ
    split <;> exact hb _ _
  · rename_i h
    exact .inr ⟨rfl, h⟩
def tabP : List (List Int) := [sLOCK, sREP, sREPE, sREPZ, sREPNE, sREPNZ, wMOV, wNIL]
theorem tabP_ok : ∀ t ∈ tabP, bytesOk t := by
  intro t ht
  simp only [tabP, List.mem_cons, List.not_mem_nil, or_false] at ht
  rcases ht with rfl | rfl | rfl | rfl | rfl | rfl | rfl | rfl <;> exact ascii.ok (ascii_of rfl)
theorem bStr8 (a b c d e f g h : ByteArray) : BuiltS Tryd.prog 23 8 [(0, .string a), (1, .string b), (2, .string c), (3, .string d), (4, .string e), (5, .string f), (6, .string g), (7, .string h)] 9 #[.string a, .string b, .string c, .string d, .string e, .string f, .string g, .string h] := ⟨fun w => by simp [go_sem]⟩
theorem pref_at {k : Nat} (h : k < 8) : ∃ w, tabP[k]? = some w ∧ bytesOk w ∧ prefW w = decide (k < 6) := by
  match k, h with
  | 0, _ => exact ⟨_, rfl, ascii.ok (ascii_of rfl), by decide⟩
  | 1, _ => exact ⟨_, rfl, ascii.ok (ascii_of rfl), by decide⟩
  | 2, _ => exact ⟨_, rfl, ascii.ok (ascii_of rfl), by decide⟩
  | 3, _ => exact ⟨_, rfl, ascii.ok (ascii_of rfl), by decide⟩
  | 4, _ => exact ⟨_, rfl, ascii.ok (ascii_of rfl), by decide⟩
  | 5, _ => exact ⟨_, rfl, ascii.ok (ascii_of rfl), by decide⟩
  | 6, _ => exact ⟨_, rfl, ascii.ok (ascii_of rfl), by decide⟩
  | 7, _ => exact ⟨_, rfl, ascii.ok (ascii_of rfl), by decide⟩
theorem tok_one {w0 w : World} {l : List RowT} {g : Nat} {e : TypeId} {t : TokZ} (ht : bytesOk t.s) (hR : Own w0 w l) (hm : (g, encTok t, e) ∈ l) : TokL w (.slice (some ⟨g, 0, none⟩) 1 1) [t] := by
  refine ⟨fun x hx => by rw [List.mem_singleton.1 hx]; exact ht, ?_⟩
  have h := rd_one (z := t) cellsTok_len cellsTok_one hR hm
  show Rd w 4 _ 1 ([t].flatMap cellsTok)
  rw [show [t].flatMap cellsTok = cellsTok t by simp]
  exact h
theorem splitNil_any (w0 : World) : Calls Tryd.prog 11 #[.slice none 0 0] w0 fun e w' => e = .returned (.slice none 0 0) ∧ Below w0.heap.size w0 w' := by
  have hR := Own.start w0
  go_enter Tryd.func11, Tryd.ntmps11
  go_wp2_with (first
    | ((with_reducible apply q_ls hR); exact rfl; (with_reducible apply t_len Tryd.underlying31); (apply EvC.now; exact rfl); (simp only [List.set_cons_succ, List.set_cons_zero]; exact rfl); clear hR; intro w hR))
  go_ret
  exact ⟨rfl, hR.below⟩
theorem t_oneAt {P : Program} {tp : TypeId} {pos : String} {af : Array Edge} {gd : Option (Nat × Bool)} {ls : List Value} {ds : List Deferred} {c : Bool} {dd : Option Tmp} {w0 : World} {l : List RowT} {ty : TypeId} (ht : OneTy P ty) {g off : Nat} {cs : Array Value} {v : Value} {t : TypeId} {x : Operand} (hx : EvC ls c x (.pointer (some ((⟨g, 0, none⟩ : Addr).add off)))) (hm : (g, cs, t) ∈ l) (hs : cs.toList[off]? = some v) :
    TIf P (fun w => Own w0 w l) c ⟨dd, .load ty x, tp, pos, af, gd⟩ ⟨ls.toArray, ds⟩ v := by
  rw [addr_mid] at hx
  exact t_one ht hx hm (by rw [Nat.zero_add]; exact hs)
def prefC : Array Value := #[.string (strOfNums sLOCK), .string (strOfNums sREP), .string (strOfNums sREPE), .string (strOfNums sREPZ), .string (strOfNums sREPNE), .string (strOfNums sREPNZ), .string (strOfNums wMOV), .string (strOfNums wNIL)]
theorem prefC_at {k : Nat} {w : List Int} (h : tabP[k]? = some w) : prefC.toList[(k : Int).toNat * 1]? = some (.string (strOfNums w)) := by
  rw [Int.toNat_natCast, Nat.mul_one, show prefC.toList = tabP.flatMap cellT from rfl, flatT_at, h]; rfl
set_option maxHeartbeats 8000000 in
set_option maxRecDepth 100000 in
theorem walk (a0 : ByteArray) (hz : a0.size ≤ maxLen) (a1 : Int) (hw1 : (Lit.int .i64 a1).wf = true) (w0 : World) (hT : True) :
    Calls Tryd.prog 5 #[.string a0, .int .i64 a1] w0 fun e w' => e = .returned (.bool true) ∧ Below w0.heap.size w0 w' := by
  clear hT
  have hR := Own.start w0
  rw [← strOf_nums a0]
  have hs := numsS_ok a0
  generalize numsS a0 = s at *
  have htk : bytesOk (s.take 60) := hs.take 60
  have htl : (s.take 60).length ≤ 60 := by rw [List.length_take]; omega
  have hmn : s.take (min s.length 60) = s.take 60 := by
    rw [Nat.min_def]
    split
    · rw [List.take_length, List.take_of_length_le (by omega)]
    · rfl
  have hml : min s.length 60 ≤ s.length := Nat.min_le_left _ _
  have HMIN := Lib.hid (minS s.length 60)
  generalize min s.length 60 = mn at *
  generalize s.take 60 = t at *
  have HT := Lib.hid hmn
  clear hmn
  obtain ⟨k, hk⟩ : ∃ k : Nat, a1 % 8 = k := Int.eq_ofNat_of_zero_le (by omega)
  have HB := Lib.hid (show bits .and .i64 a1 7 = (k : Int) from (i64_mask a1 3 7 (by decide) (by decide)).trans hk)
  have hk8 : k < 8 := by omega
  obtain ⟨wd, hwd, hwo, hwp⟩ := pref_at hk8
  have HPF := Lib.hid (prefS_any hwo)
  rw [hwp] at HPF
  obtain ⟨b6, hb6⟩ : ∃ b, decide (k < 6) = b := ⟨_, rfl⟩
  rw [hb6] at HPF
  have H6 := Lib.hid (show cmpB .lss (k : Int) 6 = some b6 by rw [← hb6]; exact congrArg some (by simp; omega))
  have HPC := Lib.hid (prefC_at hwd)
  have HKB := Lib.hid (show (0 : Int) ≤ k ∧ (k : Int) < (8 : Nat) by omega)
  have hqk : bytesOk (wQ ++ plS t) := okwQ.append (fun c hc => by have := plS_all t c hc; unfold plP at this; simp at this; omega)
  have hpl := plS_len t
  have HQ := Lib.hid (parse_is (lit := strOfNums (wQ ++ plS t)) rfl hqk (quiet_line (plS_all t) (by omega)))
  have HPL := Lib.hid (plain31_any htk (by omega))
  have H1 := Lib.hid (parse_is (lit := ⟨#[53, 32, 77, 79, 86]⟩) (s := wBAD1) rfl (ascii.ok (ascii_of rfl)) bad1)
  have H2 := Lib.hid (parse_is (lit := ⟨#[65, 58, 32, 91]⟩) (s := wBAD2) rfl (ascii.ok (ascii_of rfl)) bad2)
  have hway := any_ways t
  obtain ⟨⟨z, er⟩, hp⟩ : ∃ p, parseZ t = p := ⟨_, rfl⟩
  rw [hp] at hway
  have HP := Lib.hid (parse_is (lit := strOfNums t) rfl htk hp)
  have hcl : wQ.length + (plS t).length ≤ 1000000 := by show 4 + _ ≤ _; omega
  clear hp hk hwd hwp hb6 hw1 hz hs hqk
  dsimp only at hway
  generalize plS t = ps at *
  go_enter Tryd.func5, Tryd.ntmps5
  go_upto_region 3 with (first
    | ((with_reducible apply q_ls hR); exact rfl; (with_reducible apply t_lenN Tryd.underlying9); (apply EvC.now; exact rfl); (simp only [List.set_cons_succ, List.set_cons_zero]; exact rfl); clear hR; intro w hR)
    | ((with_reducible apply q_ls hR); exact rfl; (with_reducible apply t_minK); (apply EvC.now; exact rfl); (apply EvC.now; exact rfl); exact HMIN.out; (simp only [List.set_cons_succ, List.set_cons_zero]; exact rfl); clear hR; intro w hR)
    | ((with_reducible apply q_ls hR); exact rfl; (with_reducible apply t_takeE Tryd.underlying9); (apply EvC.now; exact rfl); (apply EvC.now; exact rfl); exact rfl; exact hml; exact HT.out; (simp only [List.set_cons_succ, List.set_cons_zero]; exact rfl); clear hR; intro w hR)
    | (go_at_call 6; refine (HP.out _).mono ?_; rintro e w2 ⟨vp1, va1, rfl, hb, hS1⟩; replace hR := hR.grow hb; clear hb; obtain ⟨vs, ha1⟩ := hS1.args.rd; have hvp := hS1.pre.rd.one; have hva := ha1.one)
    | ((with_reducible apply q_ls hR); exact rfl; (with_reducible apply t_extract); (apply EvC.now; exact rfl); exact rfl; (simp only [List.set_cons_succ, List.set_cons_zero]; exact rfl); clear hR; intro w hR)
    | ((with_reducible apply wpList_make hR zStm); exact rfl; clear hR; intro g w hR; simp only [List.set_cons_succ, List.set_cons_zero])
    | ((with_reducible apply wpList_put hR tStm); exact rfl; exact rfl; exact rfl; (focus (repeat (first | apply List.Mem.head | apply List.Mem.tail | apply List.mem_append_right))); exact put_stm _ _ _ _ _ _; exact rfl; exact Nat.le_refl 5; exact one_stm _ hvp hva; (focus (repeat (first | apply Upd.head | apply Upd.tail))); clear hR; intro w hR))
  go_upto_region 4 with (first
    | (go_at_call 10; refine (HPL.out _).mono ?_; rintro e w' ⟨rfl, hb⟩; replace hR := hR.grow hb; clear hb)
    | ((with_reducible apply q_ls hR); exact rfl; (with_reducible apply t_catE); (exact lit_now lwQ); (apply EvC.now; exact rfl); exact hcl; exact rfl; (simp only [List.set_cons_succ, List.set_cons_zero]; exact rfl); clear hR; intro w hR)
    | (go_at_call 6; refine (HQ.out _).mono ?_; rintro e w2 ⟨vp2, va2, rfl, hb, hS2⟩; replace hR := hR.grow hb; clear hb; obtain ⟨vs, ha2⟩ := hS2.args.rd; have hvp := hS2.pre.rd.one; have hva := ha2.one)
    | ((with_reducible apply q_ls hR); exact rfl; (with_reducible apply t_extract); (apply EvC.now; exact rfl); exact rfl; (simp only [List.set_cons_succ, List.set_cons_zero]; exact rfl); clear hR; intro w hR)
    | ((with_reducible apply wpList_make hR zStm); exact rfl; clear hR; intro g w hR; simp only [List.set_cons_succ, List.set_cons_zero])
    | ((with_reducible apply wpList_put hR tStm); exact rfl; exact rfl; exact rfl; (focus (repeat (first | apply List.Mem.head | apply List.Mem.tail | apply List.mem_append_right))); exact put_stm _ _ _ _ _ _; exact rfl; exact Nat.le_refl 5; exact one_stm _ hvp hva; (focus (repeat (first | apply Upd.head | apply Upd.tail))); clear hR; intro w hR))
  go_upto_region 5 with (first
    | (go_at_call 6; refine (H1.out _).mono ?_; rintro e w2 ⟨vp3, va3, rfl, hb, hS3⟩; replace hR := hR.grow hb; clear hb; obtain ⟨vs, ha3⟩ := hS3.args.rd; have hvp := hS3.pre.rd.one; have hva := ha3.one)
    | ((with_reducible apply q_ls hR); exact rfl; (with_reducible apply t_extract); (apply EvC.now; exact rfl); exact rfl; (simp only [List.set_cons_succ, List.set_cons_zero]; exact rfl); clear hR; intro w hR)
    | ((with_reducible apply wpList_make hR zStm); exact rfl; clear hR; intro g w hR; simp only [List.set_cons_succ, List.set_cons_zero])
    | ((with_reducible apply wpList_put hR tStm); exact rfl; exact rfl; exact rfl; (focus (repeat (first | apply List.Mem.head | apply List.Mem.tail | apply List.mem_append_right))); exact put_stm _ _ _ _ _ _; exact rfl; exact Nat.le_refl 5; exact one_stm _ hvp hva; (focus (repeat (first | apply Upd.head | apply Upd.tail))); clear hR; intro w hR))
  go_upto_region 6 with (first
    | (go_at_call 6; refine (H2.out _).mono ?_; rintro e w2 ⟨vp4, va4, rfl, hb, hS4⟩; replace hR := hR.grow hb; clear hb; obtain ⟨vs, ha4⟩ := hS4.args.rd; have hvp := hS4.pre.rd.one; have hva := ha4.one)
    | ((with_reducible apply q_ls hR); exact rfl; (with_reducible apply t_extract); (apply EvC.now; exact rfl); exact rfl; (simp only [List.set_cons_succ, List.set_cons_zero]; exact rfl); clear hR; intro w hR)
    | ((with_reducible apply wpList_make hR zStm); exact rfl; clear hR; intro g w hR; simp only [List.set_cons_succ, List.set_cons_zero])
    | ((with_reducible apply wpList_put hR tStm); exact rfl; exact rfl; exact rfl; (focus (repeat (first | apply List.Mem.head | apply List.Mem.tail | apply List.mem_append_right))); exact put_stm _ _ _ _ _ _; exact rfl; exact Nat.le_refl 5; exact one_stm _ hvp hva; (focus (repeat (first | apply Upd.head | apply Upd.tail))); clear hR; intro w hR))
  go_upto_region 7 with (first
    | ((with_reducible apply wpList_built); exact rfl; exact rfl; exact bTokS 4 sCOMMA; (simp only [List.set_cons_succ, List.set_cons_zero]; exact rfl))
    | ((with_reducible apply wpList_buildS hR); exact rfl; exact rfl; (exact bToks1 _); clear hR; intro gs w hR; simp only [List.set_cons_succ, List.set_cons_zero])
    | (go_at_call 11; refine (splitL_any (tok_one oksCOMMA hR (.head _)) (Nat.le_of_ble_eq_true rfl)).mono ?_; rintro e w2 ⟨sr, vl, rfl, hO, hPt⟩; obtain ⟨vsl, hal⟩ := (hPt _ _ _ hO (fun _ h => h)).rd; replace hR := hR.grow hO.below; clear hO hPt))
  go_upto_region 8 with (first
    | ((with_reducible apply wpList_buildS hR); exact rfl; exact rfl; (exact bStr8 _ _ _ _ _ _ _ _); clear hR; intro gs w hR; simp only [List.set_cons_succ, List.set_cons_zero])
    | ((with_reducible apply q_ls hR); exact rfl; (with_reducible apply t_numE (op := .and)); (apply EvC.now; exact rfl); (apply EvC.now; exact rfl); exact rfl; exact HB.out; (simp only [List.set_cons_succ, List.set_cons_zero]; exact rfl); clear hR; intro w hR)
    | ((with_reducible apply q_ls hR); exact rfl; (with_reducible apply t_six Tryd.underlying23 iStrO); (apply EvC.now; exact rfl); (apply EvC.now; exact rfl); exact HKB.out; (simp only [List.set_cons_succ, List.set_cons_zero]; exact rfl); clear hR; intro w hR)
    | ((with_reducible apply q_ls hR); exact rfl; (with_reducible apply t_oneAt tStrO); (apply EvC.now; exact rfl); exact List.Mem.head _; exact HPC.out; (simp only [List.set_cons_succ, List.set_cons_zero]; exact rfl); clear hR; intro w hR))
  have H00 := Lib.hid (show cmpB .eql (0 : Int) 0 = some true from rfl)
  have H33 := Lib.hid (show cmpB .eql (3 : Int) 3 = some true from rfl)
  have HL0 := Lib.hid (show cmpB .eql (noStm.args.length : Int) 0 = some true from rfl)
  have HN0 := Lib.hid (show cmpB .eql ((0 : Nat) : Int) 0 = some true from rfl)
  have HL2 := Lib.hid (show cmpB .eql ((splitZ [⟨4, sCOMMA, 0, 0⟩]).length : Int) 2 = some true by rw [tComma]; rfl)
  clear H1 H2 HQ HPL HP HT HMIN HPC HKB
  rcases hway with he | ⟨hz, he⟩
  · have HE := Lib.hid (show cmpB .eql er 0 = some true from congrArg some (decide_eq_true he))
    clear he
    refine wp_region_tame hR [0, 1, 2, 3, 4, 5, 6, 7, 8, 9, 10, 11, 12, 13, 14, 15, 16, 17, 18, 19, 20, 21, 22, 23, 24, 25, 26, 27, 28, 29, 30, 31, 32, 33, 34, 35, 36, 37, 38, 39, 40, 41, 42, 43, 44, 45, 46, 47, 48, 49, 50, 51, 52, 53, 54, 55, 56, 57] rfl ?_
    repeat (refine wpT_step rfl ?_; first
        | ((with_reducible apply q_kn); exact rfl; (with_reducible apply t_cmp (op := .eql)); (apply EvC.now; exact rfl); (apply EvC.now; exact rfl); (with_reducible first | exact HE.out | exact H00.out | exact H33.out | exact HL0.out | exact HL2.out | exact HN0.out); (simp only [List.set_cons_succ, List.set_cons_zero]; exact rfl))
        | ((with_reducible apply q_kn); exact rfl; (with_reducible apply t_wordK lwNIL okwNIL okwNIL rfl); (apply EvC.now; exact rfl); (simp only [List.set_cons_succ, List.set_cons_zero]; exact rfl))
        | ((with_reducible apply q_kn); exact rfl; (with_reducible apply t_lenRd Tryd.underlying24); (apply EvC.now; exact rfl); (with_reducible first | exact ha1 | exact ha2 | exact hal); (simp only [List.set_cons_succ, List.set_cons_zero]; exact rfl))
        | ((with_reducible apply q_kn); exact rfl; (with_reducible apply t_len Tryd.underlying24); (apply EvC.now; exact rfl); (simp only [List.set_cons_succ, List.set_cons_zero]; exact rfl))
        | ((with_reducible apply q_kn); exact rfl; (with_reducible apply t_numE (op := .and)); (apply EvC.now; exact rfl); (apply EvC.now; exact rfl); exact rfl; exact HB.out; (simp only [List.set_cons_succ, List.set_cons_zero]; exact rfl))
        | ((with_reducible apply q_kn); exact rfl; (with_reducible apply t_cmp (op := .lss)); (apply EvC.now; exact rfl); (apply EvC.now; exact rfl); exact H6.out; (simp only [List.set_cons_succ, List.set_cons_zero]; exact rfl))
        | ((with_reducible apply q_kn); exact rfl; (with_reducible apply t_eqbK Tryd.underlying4); (apply EvC.now; exact rfl); (apply EvC.now; exact rfl); exact beq_self_eq_true _; (simp only [List.set_cons_succ, List.set_cons_zero]; exact rfl))
        | ((with_reducible apply q_kn); exact rfl; (with_reducible apply t_call Tryd.call7); (first | (apply EvC.gv; exact rfl; (with_reducible first | exact Imp.refl _ | (apply Imp.left; exact Imp.refl _) | (apply Imp.right; exact Imp.refl _) | (apply Imp.left; apply Imp.left; exact Imp.refl _))) | (apply EvC.now; exact rfl) | exact rfl | (with_reducible exact EvAll.nil) | (focus (repeat (first | apply EvAll.cons | exact EvAll.nil | (apply EvC.gv; exact rfl; (with_reducible first | exact Imp.refl _ | (apply Imp.left; exact Imp.refl _) | (apply Imp.right; exact Imp.refl _) | (apply Imp.left; apply Imp.left; exact Imp.refl _))) | (apply EvC.now; exact rfl))); done) | (first | exact ext_tok _ | exact ext_stm _ _ _) | (focus (repeat (first | apply List.Mem.head | apply List.Mem.tail | apply List.mem_append_right)))); (intro hcc w hC; exact tame_below (awake31_any _) hC); (simp only [List.set_cons_succ, List.set_cons_zero]; exact rfl))
        | ((with_reducible apply q_kn); exact rfl; (with_reducible apply t_call Tryd.call11); (first | (apply EvC.gv; exact rfl; (with_reducible first | exact Imp.refl _ | (apply Imp.left; exact Imp.refl _) | (apply Imp.right; exact Imp.refl _) | (apply Imp.left; apply Imp.left; exact Imp.refl _))) | (apply EvC.now; exact rfl) | exact rfl | (with_reducible exact EvAll.nil) | (focus (repeat (first | apply EvAll.cons | exact EvAll.nil | (apply EvC.gv; exact rfl; (with_reducible first | exact Imp.refl _ | (apply Imp.left; exact Imp.refl _) | (apply Imp.right; exact Imp.refl _) | (apply Imp.left; apply Imp.left; exact Imp.refl _))) | (apply EvC.now; exact rfl))); done) | (first | exact ext_tok _ | exact ext_stm _ _ _) | (focus (repeat (first | apply List.Mem.head | apply List.Mem.tail | apply List.mem_append_right)))); (intro hcc w hC; exact tame_below (splitNil_any _) hC); (simp only [List.set_cons_succ, List.set_cons_zero]; exact rfl))
        | ((with_reducible apply q_kn); exact rfl; (with_reducible apply t_call Tryd.call12); (first | (apply EvC.gv; exact rfl; (with_reducible first | exact Imp.refl _ | (apply Imp.left; exact Imp.refl _) | (apply Imp.right; exact Imp.refl _) | (apply Imp.left; apply Imp.left; exact Imp.refl _))) | (apply EvC.now; exact rfl) | exact rfl | (with_reducible exact EvAll.nil) | (focus (repeat (first | apply EvAll.cons | exact EvAll.nil | (apply EvC.gv; exact rfl; (with_reducible first | exact Imp.refl _ | (apply Imp.left; exact Imp.refl _) | (apply Imp.right; exact Imp.refl _) | (apply Imp.left; apply Imp.left; exact Imp.refl _))) | (apply EvC.now; exact rfl))); done) | (first | exact ext_tok _ | exact ext_stm _ _ _) | (focus (repeat (first | apply List.Mem.head | apply List.Mem.tail | apply List.mem_append_right)))); (intro hcc w hC; exact tame_same' (HPF.out _) hC); (simp only [List.set_cons_succ, List.set_cons_zero]; exact rfl))
        | ((with_reducible apply q_kn); exact rfl; (first | ((with_reducible first | apply t_move | apply t_assign | apply t_addr (fTok _ (by decide)) | apply t_addr (fStm _ (by decide)) | apply t_one tIntL | apply t_one tStrO | apply t_one tBoolL | apply t_one tStrsL | apply t_one tPartsL | apply t_part tTok | apply t_part tStm) <;> (first | (apply EvC.gv; exact rfl; (with_reducible first | exact Imp.refl _ | (apply Imp.left; exact Imp.refl _) | (apply Imp.right; exact Imp.refl _) | (apply Imp.left; apply Imp.left; exact Imp.refl _))) | (apply EvC.now; exact rfl) | exact rfl | (with_reducible exact EvAll.nil) | (focus (repeat (first | apply EvAll.cons | exact EvAll.nil | (apply EvC.gv; exact rfl; (with_reducible first | exact Imp.refl _ | (apply Imp.left; exact Imp.refl _) | (apply Imp.right; exact Imp.refl _) | (apply Imp.left; apply Imp.left; exact Imp.refl _))) | (apply EvC.now; exact rfl))); done) | (first | exact ext_tok _ | exact ext_stm _ _ _) | (focus (repeat (first | apply List.Mem.head | apply List.Mem.tail | apply List.mem_append_right))))) | ((with_reducible apply t_pick); (apply EvC.now; exact rfl); (apply EvC.now; exact rfl))); (simp only [List.set_cons_succ, List.set_cons_zero]; exact rfl))
        | ((with_reducible apply wpT1_skipL); exact rfl; (simp only [List.set_cons_succ, List.set_cons_zero]; exact rfl)))
    refine wpT_nil ?_
    clear hR; intro w hR
    go_wp2_with fail
    go_ret
    exact ⟨ret_bool (by kernel_rfl), hR.below⟩
  · have HE := Lib.hid (show cmpB .eql er 0 = some false from congrArg some (decide_eq_false he))
    subst hz
    clear he
    refine wp_region_tame hR [0, 1, 2, 3, 4, 5, 6, 7, 8, 9, 10, 11, 12, 13, 14, 15, 16, 17, 18, 19, 20, 21, 22, 23, 24, 25, 26, 27, 28, 29, 30, 31, 32, 33, 34, 35, 36, 37, 38, 39, 40, 41, 42, 43, 44, 45, 46, 47, 48, 49, 50, 51, 52, 53, 54, 55, 56, 57] rfl ?_
    repeat (refine wpT_step rfl ?_; first
        | ((with_reducible apply q_kn); exact rfl; (with_reducible apply t_cmp (op := .eql)); (apply EvC.now; exact rfl); (apply EvC.now; exact rfl); (with_reducible first | exact HE.out | exact H00.out | exact H33.out | exact HL0.out | exact HL2.out | exact HN0.out); (simp only [List.set_cons_succ, List.set_cons_zero]; exact rfl))
        | ((with_reducible apply q_kn); exact rfl; (with_reducible apply t_wordK lwNIL okwNIL okwNIL rfl); (apply EvC.now; exact rfl); (simp only [List.set_cons_succ, List.set_cons_zero]; exact rfl))
        | ((with_reducible apply q_kn); exact rfl; (with_reducible apply t_lenRd Tryd.underlying24); (apply EvC.now; exact rfl); (with_reducible first | exact ha1 | exact ha2 | exact hal); (simp only [List.set_cons_succ, List.set_cons_zero]; exact rfl))
        | ((with_reducible apply q_kn); exact rfl; (with_reducible apply t_len Tryd.underlying24); (apply EvC.now; exact rfl); (simp only [List.set_cons_succ, List.set_cons_zero]; exact rfl))
        | ((with_reducible apply q_kn); exact rfl; (with_reducible apply t_numE (op := .and)); (apply EvC.now; exact rfl); (apply EvC.now; exact rfl); exact rfl; exact HB.out; (simp only [List.set_cons_succ, List.set_cons_zero]; exact rfl))
        | ((with_reducible apply q_kn); exact rfl; (with_reducible apply t_cmp (op := .lss)); (apply EvC.now; exact rfl); (apply EvC.now; exact rfl); exact H6.out; (simp only [List.set_cons_succ, List.set_cons_zero]; exact rfl))
        | ((with_reducible apply q_kn); exact rfl; (with_reducible apply t_eqbK Tryd.underlying4); (apply EvC.now; exact rfl); (apply EvC.now; exact rfl); exact beq_self_eq_true _; (simp only [List.set_cons_succ, List.set_cons_zero]; exact rfl))
        | ((with_reducible apply q_kn); exact rfl; (with_reducible apply t_call Tryd.call7); (first | (apply EvC.gv; exact rfl; (with_reducible first | exact Imp.refl _ | (apply Imp.left; exact Imp.refl _) | (apply Imp.right; exact Imp.refl _) | (apply Imp.left; apply Imp.left; exact Imp.refl _))) | (apply EvC.now; exact rfl) | exact rfl | (with_reducible exact EvAll.nil) | (focus (repeat (first | apply EvAll.cons | exact EvAll.nil | (apply EvC.gv; exact rfl; (with_reducible first | exact Imp.refl _ | (apply Imp.left; exact Imp.refl _) | (apply Imp.right; exact Imp.refl _) | (apply Imp.left; apply Imp.left; exact Imp.refl _))) | (apply EvC.now; exact rfl))); done) | (first | exact ext_tok _ | exact ext_stm _ _ _) | (focus (repeat (first | apply List.Mem.head | apply List.Mem.tail | apply List.mem_append_right)))); (intro hcc w hC; exact tame_below (awake31_any _) hC); (simp only [List.set_cons_succ, List.set_cons_zero]; exact rfl))
        | ((with_reducible apply q_kn); exact rfl; (with_reducible apply t_call Tryd.call11); (first | (apply EvC.gv; exact rfl; (with_reducible first | exact Imp.refl _ | (apply Imp.left; exact Imp.refl _) | (apply Imp.right; exact Imp.refl _) | (apply Imp.left; apply Imp.left; exact Imp.refl _))) | (apply EvC.now; exact rfl) | exact rfl | (with_reducible exact EvAll.nil) | (focus (repeat (first | apply EvAll.cons | exact EvAll.nil | (apply EvC.gv; exact rfl; (with_reducible first | exact Imp.refl _ | (apply Imp.left; exact Imp.refl _) | (apply Imp.right; exact Imp.refl _) | (apply Imp.left; apply Imp.left; exact Imp.refl _))) | (apply EvC.now; exact rfl))); done) | (first | exact ext_tok _ | exact ext_stm _ _ _) | (focus (repeat (first | apply List.Mem.head | apply List.Mem.tail | apply List.mem_append_right)))); (intro hcc w hC; exact tame_below (splitNil_any _) hC); (simp only [List.set_cons_succ, List.set_cons_zero]; exact rfl))
        | ((with_reducible apply q_kn); exact rfl; (with_reducible apply t_call Tryd.call12); (first | (apply EvC.gv; exact rfl; (with_reducible first | exact Imp.refl _ | (apply Imp.left; exact Imp.refl _) | (apply Imp.right; exact Imp.refl _) | (apply Imp.left; apply Imp.left; exact Imp.refl _))) | (apply EvC.now; exact rfl) | exact rfl | (with_reducible exact EvAll.nil) | (focus (repeat (first | apply EvAll.cons | exact EvAll.nil | (apply EvC.gv; exact rfl; (with_reducible first | exact Imp.refl _ | (apply Imp.left; exact Imp.refl _) | (apply Imp.right; exact Imp.refl _) | (apply Imp.left; apply Imp.left; exact Imp.refl _))) | (apply EvC.now; exact rfl))); done) | (first | exact ext_tok _ | exact ext_stm _ _ _) | (focus (repeat (first | apply List.Mem.head | apply List.Mem.tail | apply List.mem_append_right)))); (intro hcc w hC; exact tame_same' (HPF.out _) hC); (simp only [List.set_cons_succ, List.set_cons_zero]; exact rfl))
        | ((with_reducible apply q_kn); exact rfl; (first | ((with_reducible first | apply t_move | apply t_assign | apply t_addr (fTok _ (by decide)) | apply t_addr (fStm _ (by decide)) | apply t_one tIntL | apply t_one tStrO | apply t_one tBoolL | apply t_one tStrsL | apply t_one tPartsL | apply t_part tTok | apply t_part tStm) <;> (first | (apply EvC.gv; exact rfl; (with_reducible first | exact Imp.refl _ | (apply Imp.left; exact Imp.refl _) | (apply Imp.right; exact Imp.refl _) | (apply Imp.left; apply Imp.left; exact Imp.refl _))) | (apply EvC.now; exact rfl) | exact rfl | (with_reducible exact EvAll.nil) | (focus (repeat (first | apply EvAll.cons | exact EvAll.nil | (apply EvC.gv; exact rfl; (with_reducible first | exact Imp.refl _ | (apply Imp.left; exact Imp.refl _) | (apply Imp.right; exact Imp.refl _) | (apply Imp.left; apply Imp.left; exact Imp.refl _))) | (apply EvC.now; exact rfl))); done) | (first | exact ext_tok _ | exact ext_stm _ _ _) | (focus (repeat (first | apply List.Mem.head | apply List.Mem.tail | apply List.mem_append_right))))) | ((with_reducible apply t_pick); (apply EvC.now; exact rfl); (apply EvC.now; exact rfl))); (simp only [List.set_cons_succ, List.set_cons_zero]; exact rfl))
        | ((with_reducible apply wpT1_skipL); exact rfl; (simp only [List.set_cons_succ, List.set_cons_zero]; exact rfl)))
    refine wpT_nil ?_
    clear hR; intro w hR
    go_wp2_with fail
    go_ret
    exact ⟨ret_bool (by kernel_rfl), hR.below⟩

set_option maxRecDepth 100000 in
theorem lifted (os : Os) (started : os.Started) (H : Type) (enc : TypeId × Value → H) :
    ReturnsInHanded {} Tryd.checked os 5 .any (fun w args => (Rows.lineAnySpec.pre enc Tryd.prog Tryd.f5 [] false w args ∧ laidMetH Tryd.prog laid2 w) ∧ sizedMet enc Tryd.prog Tryd.f5 (OpenSpec.ofChange Rows.lineAnySpec) false w args)
      (Rows.lineAnySpec.post enc Tryd.prog Tryd.f5 false true false false) := by
  refine returnsInHanded_of_change_and (C := Tryd.checked) (X := fun w _ => laidMetH Tryd.prog laid2 w) (fun _ _ _ hh h => h.of_heap hh) own started (by kernel_rfl) Tryd.func5
    (ChangeSpec.witness_shaped (enc := enc) (C := Tryd.checked) (os := os) (X := fun w _ => laidMetH Tryd.prog laid2 w) false (World.laidAll Tryd.prog os laid2) #[.string ByteArray.empty, .int .i64 0] 8 (World.laidAll_os _ _ _) (World.shaped_of_ZipB (by kernel_rfl) (by kernel_rfl)) (by kernel_rfl) (by kernel_rfl) (by kernel_rfl) (by rw [MakeChecks.laidMetH_plain _ _ _ (by kernel_rfl)]; exact laidMet_laidAll _ (by kernel_rfl) (by kernel_rfl))) ?_
  intro W base args ds gs before hval0 hW _ _ hL _
  have hval : ∀ (j : Nat) t v, Tryd.f5.params[j]? = some t → args[j]? = some v → Value.okWide Tryd.prog W .any base t v := hval0
  have hW' := hW
  obtain ⟨p, q, hA0, hV, rfl, hfz, hnd⟩ := hW
  have hA : DataW.TrodAll enc Tryd.prog W 0 (fun _ => true) true Tryd.f5.params.toList args.toList ds p := hA0
  rw [Tryd.params5] at hA hval
  obtain ⟨v0, vs0, d0, ds0, p0, q0, hargs, rfl, rfl, h0, r0⟩ := trodAll_cons hA
  obtain ⟨v1, vs1, d1, ds1, p1, q1, rfl, rfl, rfl, h1, r1⟩ := trodAll_cons r0
  obtain ⟨rfl, rfl, rfl⟩ := trodAll_nil r1
  obtain rfl : args = #[v0, v1] := by cases args; simp_all
  obtain ⟨rfl, rfl⟩ := trodVars_none hV
  obtain ⟨a0, rfl, rfl, rfl, w0⟩ := open_string Tryd.underlying9 (hval 0 9 v0 rfl rfl) h0
  obtain ⟨a1, rfl, rfl, rfl, w1⟩ := open_int Tryd.underlying3 (hval 1 3 v1 rfl rfl) h1
  clear hA0 hval0
  refine (walk a0 w0 a1 w1 W (of_laid hL)).mono fun e W' ⟨he, bel⟩ => ?_
  subst he
  exact ⟨_, rfl, _, _, _, [], _, [], hW', trodAll_mk1 (shut_bool Tryd.underlying4 _), (trodAll_cons_mk (shut_string Tryd.underlying9 w0) (trodAll_cons_mk (shut_int Tryd.underlying3 w1) trodAll_mk0)), rfl, bel.frame _, fun h => by cases h⟩

theorem over : Rows.lineAnyRow.holds Tryd.pinned (OpenSpec.ofChange Rows.lineAnySpec) :=
  OpenClaim.holds_of_wide 5 Tryd.f5 rfl rfl rfl rfl rfl rfl rfl ⟨rfl, rfl, rfl, rfl, rfl⟩ rfl rfl rfl rfl rfl (by kernel_rfl) Tryd.func5 (by kernel_rfl)
    (of_decide_eq_true (by kernel_rfl)) (by unfold Func.isWrapper; first | (rw [if_pos (by decide +kernel)]; kernel_rfl) | (rw [if_neg (by decide +kernel)]; exact ⟨rfl, rfl⟩))
    (fun os started H enc _ => lifted os started H enc)

theorem proved : Rows.LineAnyCardSaid :=
  Claim7.holds_tied_plain_at .later [] [.data, .pinned] true Rows.lineAnyCard.stood.harness Rows.lineAnyCard.stood.looks
    over (fun _ h => by cases h) (by kernel_rfl) (fun _ h => by cases h) lineAny_row_tie rfl ⟨rfl, rfl⟩ (by kernel_rfl) rfl
    (fun f fn hf hfn => by
      obtain rfl : f = 5 := Option.some.inj ((show Tryd.prog.funcNamed "hansom/hansomlaw31.LineAny" = some 5 by kernel_rfl).symm.trans hf) |>.symm
      obtain rfl : fn = Tryd.f5 := (Option.some.inj (Tryd.func5.symm.trans hfn)).symm
      exact ⟨by kernel_rfl, fun j t ht => by
        rw [Tryd.params5] at ht
        have hm : t ∈ [9, 3] := by simpa using Array.mem_of_getElem? ht
        have hall : ([9, 3].all fun u => !Tryd.prog.wantsStandIn u) = true := by kernel_rfl
        exact (show Tryd.prog.wantsStandIn t = false by simpa using List.all_eq_true.1 hall t hm)⟩)
    (by kernel_rfl)
#print axioms proved
end Go.Proofs.YtjecckmcjcikdaaDoor.lineAny
