/- The law IndexShort (where bytes are missing nothing is told and nothing is left, and what was wrong first stays; bytes that are there are told as they lie) returns true whatever the arguments, and each argument reads afterwards as before. There is no condition on the arguments. -/
import Derived.Test.YtonedpbhmjhgiaaRows
import Derived.Test.YtonedpbhmjhgiaaLaw19
import Derived.Test.YtonedpbhmjhgiaaBytesArg
import Derived.WalkKit
import Derived.ProofKit
import Derived.OpenShut
import Derived.ShutString
import Derived.ChangeOld
import Derived.Below
namespace Go.Proofs.Ytonedpbhmjhgiaa.indexShort
open Go.ChangeShapes Go.WideShapes Go.ChangeAt Go.RowKit
open Go.ChangeMaps (open_string shut_string)
set_option linter.unusedVariables false
set_option linter.unusedSimpArgs false

theorem own : ownKnob Try.prog.godebug = none := by kernel_rfl
theorem laidOut : laidOutB Try.prog = true := by kernel_rfl









theorem cmp_lt {a b : Int} (h : a < b) : cmpB .lss a b = some true := congrArg some (by simpa using h)
theorem cmp_nlt {a b : Int} (h : ¬ a < b) : cmpB .lss a b = some false := congrArg some (by simpa using h)
theorem cmp_gt {a b : Int} (h : b < a) : cmpB .gtr a b = some true := congrArg some (by simpa using h)
theorem cmp_ngt {a b : Int} (h : ¬ b < a) : cmpB .gtr a b = some false := congrArg some (by simpa using h)
theorem and1_64 (n : Int) : bits .and .i64 n 1 = n % 2 := by
  have h3 : (BitVec.ofInt 64 1).toNat = 2 ^ 1 - 1 := by decide
  have key : (BitVec.ofInt 64 n &&& BitVec.ofInt 64 1).toNat = (n % ((2 ^ 64 : Nat) : Int)).toNat % 2 ^ 1 := by
    rw [BitVec.toNat_and, BitVec.toNat_ofInt, h3, Nat.and_two_pow_sub_one_eq_mod]
  show IntKind.i64.wrap ((BitVec.ofInt 64 n &&& BitVec.ofInt 64 1).toNat : Nat) = n % 2
  rw [key, IntKind.wrap_i64]
  omega
theorem t_strsameN {P : Program} {C : World → Prop} {tp : TypeId} {pos : String} {af : Array Edge} {gd : Option (Nat × Bool)} {ls : List Value} {ds : List Deferred} {c : Bool} {dd : Option Tmp} {ty ty' : TypeId} {x y : Operand} {a : ByteArray} (hx : EvC ls c x (.string a)) (hy : EvC ls c y (.string a)) : TIf P C c ⟨dd, .binOp .neq ty x y ty', tp, pos, af, gd⟩ ⟨ls.toArray, ds⟩ (.bool false) := by
  have := t_strne (P := P) (C := C) (tp := tp) (pos := pos) (af := af) (gd := gd) (ds := ds) (dd := dd) (ty := ty) (ty' := ty') hx hy
  rw [beq_self_eq_true] at this
  exact this
theorem min20 (n : Nat) : (if (20 : Int) < (n : Int) then 20 else (n : Int)) = ((min n 20 : Nat) : Int) := by split <;> omega
theorem bB6 (a b c d e f : Int) : BuiltS Try.prog 24 6 [(0, .int .u8 a), (1, .int .u8 b), (2, .int .u8 c), (3, .int .u8 d), (4, .int .u8 e), (5, .int .u8 f)] 5 #[.int .u8 a, .int .u8 b, .int .u8 c, .int .u8 d, .int .u8 e, .int .u8 f] := ⟨fun w => by simp [go_sem]⟩
theorem litE : (⟨#[]⟩ : ByteArray) = strOfNums [] := rfl
theorem long_odd {x : Int} (h : x = 133 ∨ x = 137) : longZ ⟨[x, 1, 2, 3, 4, 5], 0⟩ = (0, ⟨[], 3⟩) := by rcases h with rfl | rfl <;> rfl
set_option maxHeartbeats 8000000 in
set_option maxRecDepth 100000 in
theorem walk {w0 : World} (v1 : Value) (hB : BytesAt w0 v1) (n : Int) (hn : (Lit.int .i64 n).wf = true) (odd : Int) (ho : (Lit.int .i64 odd).wf = true) (wi : World) :
    Calls Try.prog 5 #[v1, .int .i64 n, .int .i64 odd] w0 fun e w' => e = .returned (.bool true) ∧ Below w0.heap.size w0 w' := by
  clear wi
  obtain ⟨body, hS0, hlen⟩ := hB
  have hnb := bounds_i64 hn
  clear hn ho
  have hR := Own.start w0
  obtain ⟨q, hq⟩ : ∃ q, min body.length 20 = q := ⟨_, rfl⟩
  have hqb : q ≤ body.length := by omega
  have HM := Lib.hid (min20 body.length)
  rw [hq] at HM
  go_enter Try.func5, Try.ntmps5
  go_upto_region 2 with (first
    | ((with_reducible apply q_ls hR); exact rfl; (with_reducible apply t_lenW Try.underlying24); (apply EvC.now; exact rfl); exact hS0; (simp only [List.set_cons_succ, List.set_cons_zero]; exact rfl); clear hR; intro w hR)
    | ((with_reducible apply q_ls hR); exact rfl; (with_reducible apply t_minK); (apply EvC.now; exact rfl); (apply EvC.now; exact rfl); (exact HM.out); (simp only [List.set_cons_succ, List.set_cons_zero]; exact rfl); clear hR; intro w hR)
    | ((with_reducible apply q_ls hR); exact rfl; (with_reducible apply t_cutH tBytesN hS0); (apply EvC.now; exact rfl); (apply EvC.now; exact rfl); exact rfl; (exact hqb); (simp only [List.set_cons_succ, List.set_cons_zero]; exact rfl); clear hR; intro w hR))
  have hS := hS0.first q hqb
  obtain ⟨bs, hbs⟩ : ∃ bs, body.take q = bs := ⟨_, rfl⟩
  obtain ⟨vb, hvb⟩ : ∃ vb, cutV v1 0 q = vb := ⟨_, rfl⟩
  have hbl : bs.length ≤ 20 := by rw [← hbs, List.length_take]; omega
  rw [hbs, hvb] at hS
  rw [hvb]
  clear hbs hvb hS0 HM hqb hlen hq
  have hbo := hS.ok
  go_wp2_with fail
  refine (fromG_any hR (Y := []) (fun w' l hO _ => hS.own hO) (fun _ h => nomatch h) (by omega)).mono ?_
  rintro e w1 ⟨g, cs, sr, rfl, hR9, hO9⟩
  rw [List.append_nil] at hR9
  clear hR
  have hR := hR9
  have hO := hO9
  clear hR9 hO9
  go_wp2_with fail
  refine (takeX_any hR .head (fun _ h => h) hO (okZ hbo) (by show bs.length ≤ 1000000; omega) n hnb.1 hnb.2).mono ?_
  rintro e w2 ⟨vt, rfl, ⟨cs2, hR9, hO9⟩, hT⟩
  clear hR hO; have hR := hR9; have hO := hO9; clear hR9 hO9
  by_cases h1 : n < 0
  · have hd1 : decide (n < 0) = true := decide_eq_true h1
    rw [take_short (.inl h1)] at hO hT
    rw [show wrongZ ⟨bs, 0⟩ 2 = ⟨[], 2⟩ from if_pos rfl] at hO
    have hV := hT _ _ hR (fun r h => .tail _ h)
    go_upto_if 31 with (first
    | ((with_reducible apply q_ls hR); exact rfl; (with_reducible apply t_cmp); (apply EvC.now; exact rfl); (apply EvC.now; exact rfl); exact cmp_lt h1; (simp only [List.set_cons_succ, List.set_cons_zero]; exact rfl); clear hR; intro w hR))
    refine wp_cond_at (nm := true) rfl rfl (fun _ => ?_) (fun h => absurd h (by decide))
    go_wp2_with fail
    refine (wrongX_any hR .head (fun _ h => h) hO ⟨.nil, fun _ => rfl⟩ 3 (by decide) (by decide) (by decide)).mono ?_
    rw [wrong_nil _ _ (by decide)]
    rintro e w4 ⟨rfl, cs3, hR9, hO9⟩
    clear hR hO; have hR := hR9; have hO := hO9; clear hR9 hO9
    have okE : SrcZ.ok ⟨[], 2⟩ := ⟨.nil, fun _ => rfl⟩
    go_wp2_with (first
        | (go_at_call 6; refine (awake19_any _).mono ?_; rintro e w' ⟨rfl, hb⟩; replace hR := hR.grow hb; clear hb)
        | ((with_reducible apply q_ls hR); exact rfl; (with_reducible apply t_lenW Try.underlying24); (apply EvC.now; exact rfl); exact hV; (simp only [List.set_cons_succ, List.set_cons_zero]; exact rfl); clear hR; intro w hR)
        | (go_at_call 24; refine (errX_any hR .head (fun _ h => h) hO).mono ?_; rintro e w' ⟨rfl, hb⟩; replace hR := hR.grow hb; clear hb)
        | (go_at_call 21; refine (leftX_any hR .head (fun _ h => h) hO (by decide)).mono ?_; rintro e w' ⟨rfl, hb⟩; replace hR := hR.grow hb; clear hb)
        | (go_at_call 27; refine (wordX_any hR .head (fun _ h => h) hO okE (by decide)).mono ?_; rw [show numZ ⟨[], 2⟩ 2 = (0, ⟨[], 2⟩) from rfl]; rintro e w' ⟨rfl, cs9, hR9, hO9⟩; clear hR hO; have hR := hR9; have hO := hO9; clear hR9 hO9)
        | (go_at_call 17; refine (indexX_any hR .head (fun _ h => h) hO okE (by decide)).mono ?_; rw [show indexZ ⟨[], 2⟩ = (0, ⟨[], 2⟩) from rfl]; rintro e w' ⟨rfl, cs9, hR9, hO9⟩; clear hR hO; have hR := hR9; have hO := hO9; clear hR9 hO9)
        | (go_at_call 20; refine (nameX_any hR .head (fun _ h => h) hO okE (by decide)).mono ?_; rw [show nameZ ⟨[], 2⟩ = ([], ⟨[], 2⟩) from rfl]; rintro e w' ⟨rfl, cs9, hR9, hO9⟩; clear hR hO; have hR := hR9; have hO := hO9; clear hR9 hO9)
        | (go_at_call 18; refine (longX_any hR .head (fun _ h => h) hO okE (by decide)).mono ?_; rw [show longZ ⟨[], 2⟩ = (0, ⟨[], 2⟩) from rfl]; rintro e w' ⟨rfl, cs9, hR9, hO9⟩; clear hR hO; have hR := hR9; have hO := hO9; clear hR9 hO9)
        | (go_at_call 22; refine (endX_any hR .head (fun _ h => h) hO okE (by decide)).mono ?_; rw [show endZ ⟨[], 2⟩ = ⟨[], 2⟩ from rfl]; rintro e w' ⟨rfl, cs9, hR9, hO9⟩; clear hR hO; have hR := hR9; have hO := hO9; clear hR9 hO9)
        | ((with_reducible apply q_ls hR); exact rfl; (with_reducible apply t_eqN .nil .nil); (apply EvC.now; exact rfl); exact lit_now litE; (simp only [List.set_cons_succ, List.set_cons_zero]; exact rfl); clear hR; intro w hR))
    go_ret
    exact ⟨by simp, hR.below⟩
  · by_cases h2 : (bs.length : Int) < n
    · have hd1 : decide (n < 0) = false := decide_eq_false h1
      have hd2 : decide ((bs.length : Int) < n) = true := decide_eq_true h2
      rw [take_short (.inr h2)] at hO hT
      rw [show wrongZ ⟨bs, 0⟩ 2 = ⟨[], 2⟩ from if_pos rfl] at hO
      have hV := hT _ _ hR (fun r h => .tail _ h)
      go_upto_if 31 with (first
    | ((with_reducible apply q_ls hR); exact rfl; (with_reducible apply t_lenW Try.underlying24); (apply EvC.now; exact rfl); exact hS; (simp only [List.set_cons_succ, List.set_cons_zero]; exact rfl); clear hR; intro w hR)
    | ((with_reducible apply q_ls hR); exact rfl; (with_reducible apply t_cmp); (apply EvC.now; exact rfl); (apply EvC.now; exact rfl); (with_reducible first | exact cmp_nlt h1 | exact cmp_gt h2); (simp only [List.set_cons_succ, List.set_cons_zero]; exact rfl); clear hR; intro w hR))
      refine wp_cond_at (nm := true) rfl rfl (fun _ => ?_) (fun h => absurd h (by decide))
      go_wp2_with fail
      refine (wrongX_any hR .head (fun _ h => h) hO ⟨.nil, fun _ => rfl⟩ 3 (by decide) (by decide) (by decide)).mono ?_
      rw [wrong_nil _ _ (by decide)]
      rintro e w4 ⟨rfl, cs3, hR9, hO9⟩
      clear hR hO; have hR := hR9; have hO := hO9; clear hR9 hO9
      have okE : SrcZ.ok ⟨[], 2⟩ := ⟨.nil, fun _ => rfl⟩
      go_wp2_with (first
          | (go_at_call 6; refine (awake19_any _).mono ?_; rintro e w' ⟨rfl, hb⟩; replace hR := hR.grow hb; clear hb)
          | ((with_reducible apply q_ls hR); exact rfl; (with_reducible apply t_lenW Try.underlying24); (apply EvC.now; exact rfl); exact hV; (simp only [List.set_cons_succ, List.set_cons_zero]; exact rfl); clear hR; intro w hR)
          | (go_at_call 24; refine (errX_any hR .head (fun _ h => h) hO).mono ?_; rintro e w' ⟨rfl, hb⟩; replace hR := hR.grow hb; clear hb)
          | (go_at_call 21; refine (leftX_any hR .head (fun _ h => h) hO (by decide)).mono ?_; rintro e w' ⟨rfl, hb⟩; replace hR := hR.grow hb; clear hb)
          | (go_at_call 27; refine (wordX_any hR .head (fun _ h => h) hO okE (by decide)).mono ?_; rw [show numZ ⟨[], 2⟩ 2 = (0, ⟨[], 2⟩) from rfl]; rintro e w' ⟨rfl, cs9, hR9, hO9⟩; clear hR hO; have hR := hR9; have hO := hO9; clear hR9 hO9)
          | (go_at_call 17; refine (indexX_any hR .head (fun _ h => h) hO okE (by decide)).mono ?_; rw [show indexZ ⟨[], 2⟩ = (0, ⟨[], 2⟩) from rfl]; rintro e w' ⟨rfl, cs9, hR9, hO9⟩; clear hR hO; have hR := hR9; have hO := hO9; clear hR9 hO9)
          | (go_at_call 20; refine (nameX_any hR .head (fun _ h => h) hO okE (by decide)).mono ?_; rw [show nameZ ⟨[], 2⟩ = ([], ⟨[], 2⟩) from rfl]; rintro e w' ⟨rfl, cs9, hR9, hO9⟩; clear hR hO; have hR := hR9; have hO := hO9; clear hR9 hO9)
          | (go_at_call 18; refine (longX_any hR .head (fun _ h => h) hO okE (by decide)).mono ?_; rw [show longZ ⟨[], 2⟩ = (0, ⟨[], 2⟩) from rfl]; rintro e w' ⟨rfl, cs9, hR9, hO9⟩; clear hR hO; have hR := hR9; have hO := hO9; clear hR9 hO9)
          | (go_at_call 22; refine (endX_any hR .head (fun _ h => h) hO okE (by decide)).mono ?_; rw [show endZ ⟨[], 2⟩ = ⟨[], 2⟩ from rfl]; rintro e w' ⟨rfl, cs9, hR9, hO9⟩; clear hR hO; have hR := hR9; have hO := hO9; clear hR9 hO9)
          | ((with_reducible apply q_ls hR); exact rfl; (with_reducible apply t_eqN .nil .nil); (apply EvC.now; exact rfl); exact lit_now litE; (simp only [List.set_cons_succ, List.set_cons_zero]; exact rfl); clear hR; intro w hR))
      go_ret
      exact ⟨by simp, hR.below⟩
    · have hd1 : decide (n < 0) = false := decide_eq_false h1
      have hd2 : decide ((bs.length : Int) < n) = false := decide_eq_false h2
      obtain ⟨m, rfl⟩ : ∃ m : Nat, n = m := ⟨n.toNat, by omega⟩
      have hm : m ≤ bs.length := by omega
      have htz : takeZ ⟨bs, 0⟩ (m : Int) = (bs.take m, ⟨bs.drop m, 0⟩) := by
        unfold takeZ
        rw [if_pos (by constructor <;> (first | omega | (show (m : Int) ≤ (bs.length : Int); omega)))]
        simp
      rw [htz] at hO hT
      dsimp only at hO hT
      clear htz
      have hto := hbo.take m
      have hdo := hbo.drop m
      have hdl : (bs.drop m).length = bs.length - m := List.length_drop
      have hdl2 : (bs.drop m).length ≤ 1000000 := by omega
      have hdk : SrcZ.ok ⟨bs.drop m, 0⟩ := okZ hdo
      have HSUB := Lib.hid (show IntKind.i64.wrap ((bs.length : Int) - (m : Int)) = ((bs.drop m).length : Int) by rw [IntWalk.i64_in _ (by omega)]; omega)
      obtain ⟨c, hc⟩ : ∃ c, odd % 2 = c := ⟨_, rfl⟩
      have hcb : 0 ≤ c ∧ c ≤ 1 := by omega
      have HC1 := Lib.hid ((and1_64 odd).trans hc)
      obtain ⟨x, hx⟩ : ∃ x, 133 + c * 4 = x := ⟨_, rfl⟩
      have HC2 := Lib.hid (show IntKind.i64.wrap (c * 4) = c * 4 from IntWalk.i64_in _ (by omega))
      have HC3 := Lib.hid (show IntKind.i64.wrap (133 + c * 4) = x by rw [IntWalk.i64_in _ (by omega)]; exact hx)
      have HC4 := Lib.hid (show IntKind.u8.wrap x = x from IntWalk.u8_in _ (by omega))
      have hx2 : x = 133 ∨ x = 137 := by omega
      have HLO := Lib.hid (long_odd hx2)
      have hx6 : bytesOk [x, 1, 2, 3, 4, 5] := .cons (by omega) (.cons (by decide) (.cons (by decide) (.cons (by decide) (.cons (by decide) (.cons (by decide) .nil)))))
      clear hc hx
      go_upto_if 31 with (first
    | ((with_reducible apply q_ls hR); exact rfl; (with_reducible apply t_lenW Try.underlying24); (apply EvC.now; exact rfl); exact hS; (simp only [List.set_cons_succ, List.set_cons_zero]; exact rfl); clear hR; intro w hR))
      refine wp_cond_at (nm := false) rfl (by simp; omega) (fun h => absurd h (by decide)) (fun _ => ?_)
      go_upto_region 7 with fail
      refine wp_region_rows hR [0, 1, 2, 3, 4, 5, 6, 7, 8, 9, 10, 11, 12, 13, 14, 15, 16, 17, 18, 19, 20] 0 (by kernel_rfl) (by kernel_rfl) (by kernel_rfl) rfl ?_
      clear hR; intro hR
      repeat (refine wpT_step rfl ?_; first
    | ((with_reducible apply q_kn); exact rfl; (with_reducible apply t_strW tTextN); (apply EvC.now; exact rfl); (first | exact fun w hC => hT _ _ hC (fun r h => .tail _ h) | exact fun w hC => (hS.own hC).first m hm); (simp only [List.set_cons_succ, List.set_cons_zero]; exact rfl))
    | ((with_reducible apply q_kn); exact rfl; (with_reducible apply t_strsameN); (apply EvC.now; exact rfl); (apply EvC.now; exact rfl); (simp only [List.set_cons_succ, List.set_cons_zero]; exact rfl))
    | ((with_reducible apply q_kn); exact rfl; (with_reducible apply t_cutH tBytesN hS); (apply EvC.now; exact rfl); (apply EvC.now; exact rfl); exact rfl; (exact hm); (simp only [List.set_cons_succ, List.set_cons_zero]; exact rfl))
    | ((with_reducible apply q_kn); exact rfl; (with_reducible apply t_lenW Try.underlying24); (apply EvC.now; exact rfl); exact hS; (simp only [List.set_cons_succ, List.set_cons_zero]; exact rfl))
    | ((with_reducible apply q_kn); exact rfl; (with_reducible apply t_numE); (apply EvC.now; exact rfl); (apply EvC.now; exact rfl); exact rfl; exact HSUB.out; (simp only [List.set_cons_succ, List.set_cons_zero]; exact rfl))
    | ((with_reducible apply q_kn); exact rfl; (with_reducible apply t_cmp); (apply EvC.now; exact rfl); (apply EvC.now; exact rfl); exact cmp_nself19 _; (simp only [List.set_cons_succ, List.set_cons_zero]; exact rfl))
    | ((with_reducible apply q_kn); exact rfl; (with_reducible apply t_call Try.call21); (first | (apply EvC.gv; exact rfl; (with_reducible first | exact Imp.refl _ | (apply Imp.left; exact Imp.refl _) | (apply Imp.right; exact Imp.refl _) | (apply Imp.left; apply Imp.left; exact Imp.refl _))) | (apply EvC.now; exact rfl) | exact rfl | (with_reducible exact EvAll.nil) | (focus (repeat (first | apply EvAll.cons | exact EvAll.nil | (apply EvC.gv; exact rfl; (with_reducible first | exact Imp.refl _ | (apply Imp.left; exact Imp.refl _) | (apply Imp.right; exact Imp.refl _) | (apply Imp.left; apply Imp.left; exact Imp.refl _))) | (apply EvC.now; exact rfl))); done) | exact rfl | (focus (repeat (first | apply List.Mem.head | apply List.Mem.tail | apply List.mem_append_right)))); (intro hcc w hC; exact tame_below (leftX_any hC .head (fun _ h => h) hO (by omega)) hC); (simp only [List.set_cons_succ, List.set_cons_zero]; exact rfl))
    | ((with_reducible apply q_kn); exact rfl; (with_reducible apply t_call Try.call24); (first | (apply EvC.gv; exact rfl; (with_reducible first | exact Imp.refl _ | (apply Imp.left; exact Imp.refl _) | (apply Imp.right; exact Imp.refl _) | (apply Imp.left; apply Imp.left; exact Imp.refl _))) | (apply EvC.now; exact rfl) | exact rfl | (with_reducible exact EvAll.nil) | (focus (repeat (first | apply EvAll.cons | exact EvAll.nil | (apply EvC.gv; exact rfl; (with_reducible first | exact Imp.refl _ | (apply Imp.left; exact Imp.refl _) | (apply Imp.right; exact Imp.refl _) | (apply Imp.left; apply Imp.left; exact Imp.refl _))) | (apply EvC.now; exact rfl))); done) | exact rfl | (focus (repeat (first | apply List.Mem.head | apply List.Mem.tail | apply List.mem_append_right)))); (intro hcc w hC; exact tame_below (errX_any hC .head (fun _ h => h) hO) hC); (simp only [List.set_cons_succ, List.set_cons_zero]; exact rfl))
    | ((with_reducible apply q_kn); exact rfl; (first | ((with_reducible first | apply t_move | apply t_assign | apply t_addr (fRec _ (by decide)) | apply t_one tByteR | apply t_one tSlR | apply t_one tIntR) <;> (first | (apply EvC.gv; exact rfl; (with_reducible first | exact Imp.refl _ | (apply Imp.left; exact Imp.refl _) | (apply Imp.right; exact Imp.refl _) | (apply Imp.left; apply Imp.left; exact Imp.refl _))) | (apply EvC.now; exact rfl) | exact rfl | (with_reducible exact EvAll.nil) | (focus (repeat (first | apply EvAll.cons | exact EvAll.nil | (apply EvC.gv; exact rfl; (with_reducible first | exact Imp.refl _ | (apply Imp.left; exact Imp.refl _) | (apply Imp.right; exact Imp.refl _) | (apply Imp.left; apply Imp.left; exact Imp.refl _))) | (apply EvC.now; exact rfl))); done) | exact rfl | (focus (repeat (first | apply List.Mem.head | apply List.Mem.tail | apply List.mem_append_right))))) | ((with_reducible apply t_pick); (apply EvC.now; exact rfl); (apply EvC.now; exact rfl))); (simp only [List.set_cons_succ, List.set_cons_zero]; exact rfl)))
      refine wpG_end hR (by kernel_rfl) ?_
      clear hR; intro w hR
      go_upto_if 95 with fail
      refine wp_cond_at (nm := false) rfl rfl (fun h => absurd h (by decide)) (fun _ => ?_)
      go_upto_if 99 with (first
    | ((with_reducible apply q_ls hR); exact rfl; (with_reducible apply t_lenW Try.underlying24); (apply EvC.now; exact rfl); exact hS; (simp only [List.set_cons_succ, List.set_cons_zero]; exact rfl); clear hR; intro w hR))
      by_cases h3 : m < bs.length
      · have HEND := Lib.hid (show endZ ⟨bs.drop m, 0⟩ = ⟨[], 3⟩ by
          unfold endZ
          rw [if_neg (by intro h; have : (bs.drop m).length = 0 := congrArg List.length h; omega)]
          rfl)
        refine wp_cond_at (nm := true) rfl (by simp; omega) (fun _ => ?_) (fun h => absurd h (by decide))
        go_upto_region 12 with fail
        go_wp2_with (first
            | ((with_reducible apply q_ls hR); exact rfl; (with_reducible apply t_numE); (apply EvC.now; exact rfl); (apply EvC.now; exact rfl); exact rfl; (with_reducible first | exact HC1.out | exact HC2.out | exact HC3.out); (simp only [List.set_cons_succ, List.set_cons_zero]; exact rfl); clear hR; intro w hR)
            | ((with_reducible apply q_ls hR); exact rfl; (with_reducible apply t_conv Try.underlying3 Try.underlying5); (apply EvC.now; exact rfl); exact HC4.out; (simp only [List.set_cons_succ, List.set_cons_zero]; exact rfl); clear hR; intro w hR)
            | ((with_reducible apply wpList_buildS hR); exact rfl; exact rfl; (exact bB6 _ _ _ _ _ _); clear hR; intro gb w hR; simp only [List.set_cons_succ, List.set_cons_zero])
            | (go_at_call 16; refine (fromG_any hR (Y := [(gb, #[.int .u8 x, .int .u8 1, .int .u8 2, .int .u8 3, .int .u8 4, .int .u8 5], 5)]) (bs := [x, 1, 2, 3, 4, 5]) (fun w' l h9 hm => src_row (ns := [x, 1, 2, 3, 4, 5]) h9 (hm _ (.head _)) rfl hx6 (by simp)) (fun r hr => by rw [List.mem_singleton.1 hr]; exact .head _) (by simp)).mono ?_; rintro e w5 ⟨g2, cs5, sr2, rfl, hR9, hO2⟩; clear hR; have hR := hR9; clear hR9)
            | (go_at_call 18; refine (longX_any hR .head (fun _ h => List.mem_append_left _ h) hO2 (okZ hx6) (by simp)).mono ?_; rw [HLO.out]; rintro e w5 ⟨rfl, cs6, hR9, hO9⟩; clear hR hO2; have hR := hR9; have hO2 := hO9; clear hR9 hO9)
            | (go_at_call 26; refine (wrongX_nil 3 _).mono ?_; rintro e w' ⟨rfl, hb⟩; replace hR := hR.grow hb; clear hb)
            | (go_at_call 6; refine (awake19_any _).mono ?_; rintro e w' ⟨rfl, hb⟩; replace hR := hR.grow hb; clear hb)
            | (go_at_call 22; refine (endX_any hR (.tail (.skip _ (.tail .head))) (fun r h => .tail _ (List.mem_append_right _ (.tail _ h))) hO hdk hdl2).mono ?_; rw [HEND.out]; rintro e w' ⟨rfl, cs9, hR9, hO9⟩; have hO3 := hO2; clear hR hO; have hR := hR9; have hO := hO9; clear hR9 hO9)
            | (go_at_call 24; refine (errX_any hR (.tail .head) (fun r h => .tail _ (List.mem_append_left _ h)) hO2).mono ?_; rintro e w' ⟨rfl, hb⟩; replace hR := hR.grow hb; clear hb)
            | (go_at_call 24; refine (errX_nil _).mono ?_; rintro e w' ⟨rfl, hb⟩; replace hR := hR.grow hb; clear hb)
            | (go_at_call 21; refine (leftX_nil _).mono ?_; rintro e w' ⟨rfl, hb⟩; replace hR := hR.grow hb; clear hb)
            | (go_at_call 23; refine (byteX_nil _).mono ?_; rintro e w' ⟨rfl, hb⟩; replace hR := hR.grow hb; clear hb)
            | (go_at_call 25; refine (takeX_nil 1 _).mono ?_; rintro e w' ⟨vz, rfl, hb, hV⟩; replace hR := hR.grow hb; clear hb)
            | (go_at_call 22; refine (endX_nil _).mono ?_; rintro e w' ⟨rfl, hb⟩; replace hR := hR.grow hb; clear hb)
            | ((with_reducible apply q_ls hR); exact rfl; (with_reducible apply t_lenW Try.underlying24); (apply EvC.now; exact rfl); exact hV; (simp only [List.set_cons_succ, List.set_cons_zero]; exact rfl); clear hR; intro w hR))
        go_ret
        exact ⟨by simp, hR.below⟩
      · have HEND := Lib.hid (show endZ ⟨bs.drop m, 0⟩ = ⟨[], 0⟩ by rw [List.drop_eq_nil_of_le (by omega)]; rfl)
        refine wp_cond_at (nm := false) rfl (by simp; omega) (fun h => absurd h (by decide)) (fun _ => ?_)
        go_upto_region 12 with fail
        go_wp2_with (first
            | ((with_reducible apply q_ls hR); exact rfl; (with_reducible apply t_numE); (apply EvC.now; exact rfl); (apply EvC.now; exact rfl); exact rfl; (with_reducible first | exact HC1.out | exact HC2.out | exact HC3.out); (simp only [List.set_cons_succ, List.set_cons_zero]; exact rfl); clear hR; intro w hR)
            | ((with_reducible apply q_ls hR); exact rfl; (with_reducible apply t_conv Try.underlying3 Try.underlying5); (apply EvC.now; exact rfl); exact HC4.out; (simp only [List.set_cons_succ, List.set_cons_zero]; exact rfl); clear hR; intro w hR)
            | ((with_reducible apply wpList_buildS hR); exact rfl; exact rfl; (exact bB6 _ _ _ _ _ _); clear hR; intro gb w hR; simp only [List.set_cons_succ, List.set_cons_zero])
            | (go_at_call 16; refine (fromG_any hR (Y := [(gb, #[.int .u8 x, .int .u8 1, .int .u8 2, .int .u8 3, .int .u8 4, .int .u8 5], 5)]) (bs := [x, 1, 2, 3, 4, 5]) (fun w' l h9 hm => src_row (ns := [x, 1, 2, 3, 4, 5]) h9 (hm _ (.head _)) rfl hx6 (by simp)) (fun r hr => by rw [List.mem_singleton.1 hr]; exact .head _) (by simp)).mono ?_; rintro e w5 ⟨g2, cs5, sr2, rfl, hR9, hO2⟩; clear hR; have hR := hR9; clear hR9)
            | (go_at_call 18; refine (longX_any hR .head (fun _ h => List.mem_append_left _ h) hO2 (okZ hx6) (by simp)).mono ?_; rw [HLO.out]; rintro e w5 ⟨rfl, cs6, hR9, hO9⟩; clear hR hO2; have hR := hR9; have hO2 := hO9; clear hR9 hO9)
            | (go_at_call 26; refine (wrongX_nil 3 _).mono ?_; rintro e w' ⟨rfl, hb⟩; replace hR := hR.grow hb; clear hb)
            | (go_at_call 6; refine (awake19_any _).mono ?_; rintro e w' ⟨rfl, hb⟩; replace hR := hR.grow hb; clear hb)
            | (go_at_call 22; refine (endX_any hR (.tail (.skip _ (.tail .head))) (fun r h => .tail _ (List.mem_append_right _ (.tail _ h))) hO hdk hdl2).mono ?_; rw [HEND.out]; rintro e w' ⟨rfl, cs9, hR9, hO9⟩; have hO3 := hO2; clear hR hO; have hR := hR9; have hO := hO9; clear hR9 hO9)
            | (go_at_call 24; refine (errX_any hR (.tail .head) (fun r h => .tail _ (List.mem_append_left _ h)) hO2).mono ?_; rintro e w' ⟨rfl, hb⟩; replace hR := hR.grow hb; clear hb)
            | (go_at_call 24; refine (errX_nil _).mono ?_; rintro e w' ⟨rfl, hb⟩; replace hR := hR.grow hb; clear hb)
            | (go_at_call 21; refine (leftX_nil _).mono ?_; rintro e w' ⟨rfl, hb⟩; replace hR := hR.grow hb; clear hb)
            | (go_at_call 23; refine (byteX_nil _).mono ?_; rintro e w' ⟨rfl, hb⟩; replace hR := hR.grow hb; clear hb)
            | (go_at_call 25; refine (takeX_nil 1 _).mono ?_; rintro e w' ⟨vz, rfl, hb, hV⟩; replace hR := hR.grow hb; clear hb)
            | (go_at_call 22; refine (endX_nil _).mono ?_; rintro e w' ⟨rfl, hb⟩; replace hR := hR.grow hb; clear hb)
            | ((with_reducible apply q_ls hR); exact rfl; (with_reducible apply t_lenW Try.underlying24); (apply EvC.now; exact rfl); exact hV; (simp only [List.set_cons_succ, List.set_cons_zero]; exact rfl); clear hR; intro w hR))
        go_ret
        exact ⟨by simp, hR.below⟩

set_option maxRecDepth 100000 in
theorem lifted (os : Os) (started : os.Started) (H : Type) (enc : TypeId × Value → H) :
    ReturnsInHanded {} Try.checked os 5 .any (Rows.indexShortSpec.pre6 enc Try.prog Try.f5 Rows.indexShortRow.domain false) (Rows.indexShortSpec.post enc Try.prog Try.f5 false true false false) := by
  refine returnsInHanded_of_change (C := Try.checked) own started (by kernel_rfl) Try.func5
    (ChangeSpec.witness6 (enc := enc) (C := Try.checked) false ⟨#[], #[.slice none 0 0, .int .i64 0, .int .i64 0], []⟩ 8 (by kernel_rfl) (by kernel_rfl) (by kernel_rfl) (by kernel_rfl)) ?_
  intro W base args ds gs before hval0 hW hcnd _
  have hval : ∀ (j : Nat) t v, Try.f5.params[j]? = some t → args[j]? = some v → Value.okWide Try.prog W .any base t v := hval0
  have hW' := hW
  obtain ⟨p, q, hA0, hV, rfl, hfz, hnd⟩ := hW
  have hA : DataW.TrodAll enc Try.prog W 0 (fun _ => true) true Try.f5.params.toList args.toList ds p := hA0
  rw [Try.params5] at hA hval
  obtain ⟨v0, vs0, d0, ds0, p0, q0, hargs, rfl, rfl, h0, r0⟩ := trodAll_cons hA
  obtain ⟨v1, vs1, d1, ds1, p1, q1, rfl, rfl, rfl, h1, r1⟩ := trodAll_cons r0
  obtain ⟨v2, vs2, d2, ds2, p2, q2, rfl, rfl, rfl, h2, r2⟩ := trodAll_cons r1
  obtain ⟨rfl, rfl, rfl⟩ := trodAll_nil r2
  obtain rfl : args = #[v0, v1, v2] := by cases args; simp_all
  obtain ⟨rfl, rfl⟩ := trodVars_none hV
  have k0 := h0
  have lt0 : ∀ x ∈ p0, x.block < W.heap.size := by obtain ⟨m, hm⟩ := k0; exact DataW.trod_lt m _ _ _ hm
  have o0 := open_bytes (hval 0 24 v0 rfl rfl) h0
  obtain ⟨a1, rfl, rfl, rfl, w1⟩ := open_int Try.underlying3 (hval 1 3 v1 rfl rfl) h1
  obtain ⟨a2, rfl, rfl, rfl, w2⟩ := open_int Try.underlying3 (hval 2 3 v2 rfl rfl) h2
  clear hA0 hval0
  refine (walk v0 o0 a1 w1 a2 w2 W).mono fun e W' ⟨he, bel⟩ => ?_
  subst he
  exact ⟨_, rfl, _, _, _, [], _, [], hW', trodAll_mk1 (shut_bool Try.underlying4 _), (trodAll_cons_mk (Below.trod laidOut (by kernel_rfl) (of_decide_eq_true (by kernel_rfl)) k0 bel lt0) (trodAll_cons_mk (shut_int Try.underlying3 w1) (trodAll_cons_mk (shut_int Try.underlying3 w2) trodAll_mk0))), rfl, bel.frame _, fun h => by cases h⟩

theorem over : Rows.indexShortRow.holds Try.pinned (OpenSpec.ofChange Rows.indexShortSpec) :=
  OpenClaim.holds_of_wide 5 Try.f5 rfl rfl rfl rfl rfl rfl rfl ⟨rfl, rfl, rfl, rfl, rfl⟩ rfl rfl rfl rfl rfl (by kernel_rfl) Try.func5 (by kernel_rfl)
    (of_decide_eq_true (by kernel_rfl)) (by unfold Func.isWrapper; first | (rw [if_pos (by decide +kernel)]; kernel_rfl) | (rw [if_neg (by decide +kernel)]; exact ⟨rfl, rfl⟩))
    (fun os started H enc _ => lifted os started H enc)

theorem proved : Rows.IndexShortSaid := over
#print axioms proved
end Go.Proofs.Ytonedpbhmjhgiaa.indexShort
