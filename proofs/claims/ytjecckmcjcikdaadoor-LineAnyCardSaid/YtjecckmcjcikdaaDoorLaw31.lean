









/- Contracts of hansomlaw31's own functions: awake, plain, same. No statement of the seat is proved here. -/
import Derived.Test.YtjecckmcjcikdaaDoorLinE
namespace Go.Proofs.YtjecckmcjcikdaaDoor
open Go.ChangeShapes Go.WideShapes Go.ChangeAt Go.RowKit
set_option linter.unusedVariables false
set_option linter.unusedSimpArgs false
set_option maxRecDepth 100000

/-- A text held against a word; what comes of it is known. -/
theorem t_wordK {P : Program} {C : World → Prop} {tp : TypeId} {pos : String} {af : Array Edge} {gd : Option (Nat × Bool)} {ls : List Value} {ds : List Deferred} {c : Bool} {dd : Option Tmp} {ty ty' : TypeId} {x : Operand} {ns ms : List Int} {s : ByteArray} {b : Bool} (hl : s = strOfNums ms) (hb : bytesOk ms) (ha : bytesOk ns) (hd : decide (ns = ms) = b) (hx : EvC ls c x (.string (strOfNums ns))) :
    TIf P C c ⟨dd, .binOp .eql ty x (.const (.string s)) ty', tp, pos, af, gd⟩ ⟨ls.toArray, ds⟩ (.bool b) := by
  subst hd; exact t_word hl hb ha hx
theorem parse_is {s : List Int} {z : StmZ} {er : Int} {lit : ByteArray} (hl : lit = strOfNums s) (hs : bytesOk s) (hp : parseZ s = (z, er)) (w0 : World) : Calls Tryd.prog 6 #[.string lit] w0 (ParseP w0 (z, er)) := by
  subst hl
  have h := parse_any hs w0
  rw [hp] at h
  exact h
def sA1 : List Int := [97, 58, 32, 114, 101, 112, 32, 109, 111, 118, 115, 98]
def sA2 : List Int := [120, 32, 100, 119, 32, 49, 44, 50]
def wA : List Int := [65]
def wX : List Int := [88]
def wMOVSB : List Int := [77, 79, 86, 83, 66]
theorem lwA : (⟨#[65]⟩ : ByteArray) = strOfNums wA := rfl
theorem okwA : bytesOk wA := ascii.ok (ascii_of rfl)
theorem lwX : (⟨#[88]⟩ : ByteArray) = strOfNums wX := rfl
theorem okwX : bytesOk wX := ascii.ok (ascii_of rfl)
theorem lwMOVSB : (⟨#[77, 79, 86, 83, 66]⟩ : ByteArray) = strOfNums wMOVSB := rfl
theorem okwMOVSB : bytesOk wMOVSB := ascii.ok (ascii_of rfl)
def zA1 : StmZ := ⟨wA, true, [sREP], wMOVSB, []⟩
def zA2 : StmZ := ⟨wX, false, [], sDW, [[⟨2, [], 1, 0⟩], [⟨2, [], 2, 0⟩]]⟩
theorem wA_eq (w : List Int) : decide (w = w) = true := decide_eq_true rfl
set_option maxHeartbeats 1000000 in
theorem awake31_any (w0 : World) : Calls Tryd.prog 7 #[] w0 fun e w' => e = .returned (.bool true) ∧ Below w0.heap.size w0 w' := by
  have hR := Own.start w0
  have H1 := Lib.hid (parse_is (lit := ⟨#[97, 58, 32, 114, 101, 112, 32, 109, 111, 118, 115, 98]⟩) (s := sA1) rfl (ascii.ok (ascii_of rfl)) (show parseZ sA1 = (zA1, 0) from parse_awake1))
  have H2 := Lib.hid (parse_is (lit := ⟨#[120, 32, 100, 119, 32, 49, 44, 50]⟩) (s := sA2) rfl (ascii.ok (ascii_of rfl)) (show parseZ sA2 = (zA2, 0) from parse_awake2))
  go_enter Tryd.func7, Tryd.ntmps7
  go_upto_region 2 with (first
    | (go_at_call 6; refine (H1.out _).mono ?_; rintro e w2 ⟨vp1, va1, rfl, hb, hS1⟩; replace hR := hR.grow hb; clear hb)
    | ((with_reducible apply q_ls hR); exact rfl; (with_reducible apply t_extract); (apply EvC.now; exact rfl); exact rfl; (simp only [List.set_cons_succ, List.set_cons_zero]; exact rfl); clear hR; intro w hR)
    | ((with_reducible apply wpList_make hR zStm); exact rfl; clear hR; intro g w hR; simp only [List.set_cons_succ, List.set_cons_zero])
    | ((with_reducible apply wpList_put hR tStm); exact rfl; exact rfl; exact rfl; (focus (repeat (first | apply List.Mem.head | apply List.Mem.tail | apply List.mem_append_right))); exact put_stm _ _ _ _ _ _; exact rfl; exact Nat.le_refl 5; exact one_stm _ hS1.pre.rd.one hS1.args.rd.choose_spec.one; (focus (repeat (first | apply Upd.head | apply Upd.tail))); clear hR; intro w hR))
  go_upto_region 3 with (first
    | (go_at_call 6; refine (H2.out _).mono ?_; rintro e w2 ⟨vp2, va2, rfl, hb, hS2⟩; replace hR := hR.grow hb; clear hb)
    | ((with_reducible apply q_ls hR); exact rfl; (with_reducible apply t_extract); (apply EvC.now; exact rfl); exact rfl; (simp only [List.set_cons_succ, List.set_cons_zero]; exact rfl); clear hR; intro w hR)
    | ((with_reducible apply wpList_make hR zStm); exact rfl; clear hR; intro g w hR; simp only [List.set_cons_succ, List.set_cons_zero])
    | ((with_reducible apply wpList_put hR tStm); exact rfl; exact rfl; exact rfl; (focus (repeat (first | apply List.Mem.head | apply List.Mem.tail | apply List.mem_append_right))); exact put_stm _ _ _ _ _ _; exact rfl; exact Nat.le_refl 5; exact one_stm _ hS2.pre.rd.one hS2.args.rd.choose_spec.one; (focus (repeat (first | apply Upd.head | apply Upd.tail))); clear hR; intro w hR))
  obtain ⟨vs2, hv2⟩ := hS2.args.rd
  have hp1 := hS1.pre.rd
  go_wp2_with (first
    | ((with_reducible apply wpList_box hR); exact rfl; exact rfl; clear hR; intro g w hR; simp only [List.set_cons_succ, List.set_cons_zero])
    | ((with_reducible apply q_ls hR); exact rfl; ((with_reducible first | apply t_addr (fTok _ (by decide)) | apply t_addr (fStm _ (by decide)) | apply t_one tIntL | apply t_one tStrO | apply t_one tBoolL | apply t_one tStrsL | apply t_one tPartsL | apply t_part tTok | apply t_part tStm) <;> (first | (apply EvC.gv; exact rfl; (with_reducible first | exact Imp.refl _ | (apply Imp.left; exact Imp.refl _) | (apply Imp.right; exact Imp.refl _) | (apply Imp.left; apply Imp.left; exact Imp.refl _))) | (apply EvC.now; exact rfl) | exact rfl | (with_reducible exact EvAll.nil) | (focus (repeat (first | apply EvAll.cons | exact EvAll.nil | (apply EvC.gv; exact rfl; (with_reducible first | exact Imp.refl _ | (apply Imp.left; exact Imp.refl _) | (apply Imp.right; exact Imp.refl _) | (apply Imp.left; apply Imp.left; exact Imp.refl _))) | (apply EvC.now; exact rfl))); done) | (first | exact ext_tok _ | exact ext_stm _ _ _) | (focus (repeat (first | apply List.Mem.head | apply List.Mem.tail | apply List.mem_append_right))))); (simp only [List.set_cons_succ, List.set_cons_zero]; exact rfl); clear hR; intro w hR)
    | ((with_reducible apply q_ls hR); exact rfl; (with_reducible apply t_wordK lwA okwA okwA rfl); (apply EvC.now; exact rfl); (simp only [List.set_cons_succ, List.set_cons_zero]; exact rfl); clear hR; intro w hR)
    | ((with_reducible apply q_ls hR); exact rfl; (with_reducible apply t_wordK lwMOVSB okwMOVSB okwMOVSB rfl); (apply EvC.now; exact rfl); (simp only [List.set_cons_succ, List.set_cons_zero]; exact rfl); clear hR; intro w hR)
    | ((with_reducible apply q_ls hR); exact rfl; (with_reducible apply t_wordK lwX okwX okwX rfl); (apply EvC.now; exact rfl); (simp only [List.set_cons_succ, List.set_cons_zero]; exact rfl); clear hR; intro w hR)
    | ((with_reducible apply q_ls hR); exact rfl; (with_reducible apply t_wordK lsDW oksDW oksDW rfl); (apply EvC.now; exact rfl); (simp only [List.set_cons_succ, List.set_cons_zero]; exact rfl); clear hR; intro w hR)
    | ((with_reducible apply q_ls hR); exact rfl; (with_reducible apply t_lenRd Tryd.underlying23); (apply EvC.now; exact rfl); exact hp1; (simp only [List.set_cons_succ, List.set_cons_zero]; exact rfl); clear hR; intro w hR)
    | ((with_reducible apply q_ls hR); exact rfl; (with_reducible apply t_lenRd Tryd.underlying24); (apply EvC.now; exact rfl); exact hv2; (simp only [List.set_cons_succ, List.set_cons_zero]; exact rfl); clear hR; intro w hR))
  go_ret
  exact ⟨rfl, hR.below⟩
/-! ### plain -/
def plP (c : Int) : Bool := decide (32 ≤ c) && decide (c < 127)
def plS (s : List Int) : List Int := s.filter plP
theorem plS_more {s : List Int} {k : Nat} {c : Int} (h : s[k]? = some c) : plS (s.take (k + 1)) = if plP c then plS (s.take k) ++ [c] else plS (s.take k) := by
  unfold plS
  rw [List.take_add_one, h, List.filter_append]
  cases hp : plP c
  · simp [hp]
  · simp [hp]
theorem plS_len (s : List Int) : (plS s).length ≤ s.length := List.length_filter_le _ _
theorem plS_all (s : List Int) : ∀ c ∈ plS s, plP c = true := fun c hc => (List.mem_filter.1 hc).2
set_option maxHeartbeats 1000000 in
theorem plain31_any {s : List Int} (hs : bytesOk s) (hl : s.length ≤ 1000) (w0 : World) : Calls Tryd.prog 10 #[.string (strOfNums s)] w0 fun e w' => e = .returned (.string (strOfNums (plS s))) ∧ Below w0.heap.size w0 w' := by
  have hR := Own.start w0
  go_enter Tryd.func10, Tryd.ntmps10
  go_wp2_with fail
  go_loopw [3, 4] (fun o i wr => ∃ k : Nat, i = .int .i64 k ∧ k ≤ s.length ∧ o = .string (strOfNums (plS (s.take k))) ∧ Own w0 wr []) (fun _ i _ => s.length - (intOf i).toNat)
  case atStart => exact ⟨0, rfl, Nat.zero_le _, rfl, hR⟩
  case round =>
    clear hR
    obtain ⟨k, rfl, hk, rfl, hR⟩ := hrel
    by_cases hlt : k < s.length
    · obtain ⟨c, hc⟩ : ∃ c, s[k]? = some c := ⟨_, List.getElem?_eq_getElem hlt⟩
      have hmore := plS_more hc
      have HL := Lib.hid (show cmpB .lss (k : Int) (s.length : Int) = some true from congrArg some (decide_eq_true (by omega)))
      have HK := Lib.hid (show IntKind.i64.wrap ((k : Int) + 1) = ((k + 1 : Nat) : Int) by rw [IntWalk.i64_in _ (by omega)]; omega)
      have HC := Lib.hid hc
      have hmid : (s.drop k).take (k + 1 - k) = [c] := by
        rw [show k + 1 - k = 1 by omega, List.drop_eq_getElem_cons hlt]
        rw [List.getElem?_eq_getElem hlt] at hc
        rw [← Option.some.inj hc]; rfl
      have HM := Lib.hid hmid
      have hpl := plS_len (s.take k)
      rw [List.length_take] at hpl
      clear hc hmid
      generalize plS (s.take k) = o at *
      have hol : o.length + [c].length ≤ 1000000 := by simp only [List.length_cons, List.length_nil]; omega
      by_cases h1 : 32 ≤ c
      · have H1 := Lib.hid (show cmpB .geq c 32 = some true from congrArg some (decide_eq_true h1))
        by_cases h2 : c < 127
        · have H2 := Lib.hid (show cmpB .lss c 127 = some true from congrArg some (decide_eq_true h2))
          rw [if_pos (by unfold plP; rw [decide_eq_true h1, decide_eq_true h2]; rfl)] at hmore
          have HMORE := Lib.hid hmore
          clear hmore h1 h2
          go_wp2_with (first
    | ((with_reducible apply q_ls hR); exact rfl; (with_reducible apply t_lenN Tryd.underlying9); (apply EvC.now; exact rfl); (simp only [List.set_cons_succ, List.set_cons_zero]; exact rfl); clear hR; intro w hR)
    | ((with_reducible apply q_ls hR); exact rfl; (with_reducible apply t_cmp); (apply EvC.now; exact rfl); (apply EvC.now; exact rfl); (with_reducible first | exact HL.out | exact H1.out | exact H2.out); (simp only [List.set_cons_succ, List.set_cons_zero]; exact rfl); clear hR; intro w hR)
    | ((with_reducible apply q_ls hR); exact rfl; (with_reducible apply t_atN Tryd.underlying9 hs (k := k)); (apply EvC.now; exact rfl); (apply EvC.now; exact rfl); exact rfl; exact HC.out; (simp only [List.set_cons_succ, List.set_cons_zero]; exact rfl); clear hR; intro w hR)
    | ((with_reducible apply q_ls hR); exact rfl; (with_reducible apply t_numE (op := .add)); (apply EvC.now; exact rfl); (apply EvC.now; exact rfl); exact rfl; exact HK.out; (simp only [List.set_cons_succ, List.set_cons_zero]; exact rfl); clear hR; intro w hR)
    | ((with_reducible apply q_ls hR); exact rfl; (with_reducible apply t_midE (a := k) (b := k + 1) Tryd.underlying9); (apply EvC.now; exact rfl); (apply EvC.now; exact rfl); (apply EvC.now; exact rfl); exact rfl; exact rfl; exact Nat.le_succ k; exact hlt; exact HM.out; (simp only [List.set_cons_succ, List.set_cons_zero]; exact rfl); clear hR; intro w hR)
    | ((with_reducible apply q_ls hR); exact rfl; (with_reducible apply t_catE); (apply EvC.now; exact rfl); (apply EvC.now; exact rfl); exact hol; exact rfl; (simp only [List.set_cons_succ, List.set_cons_zero]; exact rfl); clear hR; intro w hR))
          go_round
          case rel => exact ⟨k + 1, rfl, hlt, by rw [HMORE.out], hR⟩
          case measure => simp [intOf]; omega
        · have H2 := Lib.hid (show cmpB .lss c 127 = some false from congrArg some (decide_eq_false h2))
          rw [if_neg (by unfold plP; rw [decide_eq_false h2, Bool.and_false]; decide)] at hmore
          have HMORE := Lib.hid hmore
          clear hmore h1 h2
          go_wp2_with (first
    | ((with_reducible apply q_ls hR); exact rfl; (with_reducible apply t_lenN Tryd.underlying9); (apply EvC.now; exact rfl); (simp only [List.set_cons_succ, List.set_cons_zero]; exact rfl); clear hR; intro w hR)
    | ((with_reducible apply q_ls hR); exact rfl; (with_reducible apply t_cmp); (apply EvC.now; exact rfl); (apply EvC.now; exact rfl); (with_reducible first | exact HL.out | exact H1.out | exact H2.out); (simp only [List.set_cons_succ, List.set_cons_zero]; exact rfl); clear hR; intro w hR)
    | ((with_reducible apply q_ls hR); exact rfl; (with_reducible apply t_atN Tryd.underlying9 hs (k := k)); (apply EvC.now; exact rfl); (apply EvC.now; exact rfl); exact rfl; exact HC.out; (simp only [List.set_cons_succ, List.set_cons_zero]; exact rfl); clear hR; intro w hR)
    | ((with_reducible apply q_ls hR); exact rfl; (with_reducible apply t_numE (op := .add)); (apply EvC.now; exact rfl); (apply EvC.now; exact rfl); exact rfl; exact HK.out; (simp only [List.set_cons_succ, List.set_cons_zero]; exact rfl); clear hR; intro w hR))
          go_round
          case rel => exact ⟨k + 1, rfl, hlt, by rw [HMORE.out], hR⟩
          case measure => simp [intOf]; omega
      · have H1 := Lib.hid (show cmpB .geq c 32 = some false from congrArg some (decide_eq_false h1))
        rw [if_neg (by unfold plP; rw [decide_eq_false h1, Bool.false_and]; decide)] at hmore
        have HMORE := Lib.hid hmore
        clear hmore h1
        go_wp2_with (first
    | ((with_reducible apply q_ls hR); exact rfl; (with_reducible apply t_lenN Tryd.underlying9); (apply EvC.now; exact rfl); (simp only [List.set_cons_succ, List.set_cons_zero]; exact rfl); clear hR; intro w hR)
    | ((with_reducible apply q_ls hR); exact rfl; (with_reducible apply t_cmp); (apply EvC.now; exact rfl); (apply EvC.now; exact rfl); (with_reducible first | exact HL.out | exact H1.out); (simp only [List.set_cons_succ, List.set_cons_zero]; exact rfl); clear hR; intro w hR)
    | ((with_reducible apply q_ls hR); exact rfl; (with_reducible apply t_atN Tryd.underlying9 hs (k := k)); (apply EvC.now; exact rfl); (apply EvC.now; exact rfl); exact rfl; exact HC.out; (simp only [List.set_cons_succ, List.set_cons_zero]; exact rfl); clear hR; intro w hR)
    | ((with_reducible apply q_ls hR); exact rfl; (with_reducible apply t_numE (op := .add)); (apply EvC.now; exact rfl); (apply EvC.now; exact rfl); exact rfl; exact HK.out; (simp only [List.set_cons_succ, List.set_cons_zero]; exact rfl); clear hR; intro w hR))
        go_round
        case rel => exact ⟨k + 1, rfl, hlt, by rw [HMORE.out], hR⟩
        case measure => simp [intOf]; omega
    · obtain rfl : k = s.length := by omega
      have HL := Lib.hid (show cmpB .lss (s.length : Int) (s.length : Int) = some false from congrArg some (decide_eq_false (by omega)))
      rw [List.take_length] at *
      go_wp2_with (first
    | ((with_reducible apply q_ls hR); exact rfl; (with_reducible apply t_lenN Tryd.underlying9); (apply EvC.now; exact rfl); (simp only [List.set_cons_succ, List.set_cons_zero]; exact rfl); clear hR; intro w hR)
    | ((with_reducible apply q_ls hR); exact rfl; (with_reducible apply t_cmp); (apply EvC.now; exact rfl); (apply EvC.now; exact rfl); exact HL.out; (simp only [List.set_cons_succ, List.set_cons_zero]; exact rfl); clear hR; intro w hR))
      go_ret
      exact ⟨rfl, hR.below⟩
end Go.Proofs.YtjecckmcjcikdaaDoor
