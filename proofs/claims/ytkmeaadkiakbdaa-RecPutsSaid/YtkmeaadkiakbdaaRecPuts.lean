/- The law RecPuts (one record, there and back, with bytes behind it) returns true whatever the arguments, and each argument reads afterwards as before. There is no condition on the arguments. -/
import Derived.Test.YtkmeaadkiakbdaaRows
import Derived.Test.YtkmeaadkiakbdaaLaw18
import Derived.Test.YtkmeaadkiakbdaaBytesArg
import Derived.WalkKit
import Derived.ProofKit
import Derived.OpenShut
import Derived.ShutString
import Derived.ChangeOld
import Derived.Below
namespace Go.Proofs.Ytkmeaadkiakbdaa.recPuts
open Go.ChangeShapes Go.WideShapes Go.ChangeAt Go.RowKit
open Go.ChangeMaps (open_string shut_string)
set_option linter.unusedVariables false
set_option linter.unusedSimpArgs false

theorem own : ownKnob Try.prog.godebug = none := by kernel_rfl
theorem laidOut : laidOutB Try.prog = true := by kernel_rfl








theorem cmp_self (a : Int) : cmpB .eql a a = some true := congrArg some (beq_self_eq_true a)
theorem min300 (n : Nat) : (if (300 : Int) < (n : Int) then 300 else (n : Int)) = ((min n 300 : Nat) : Int) := by split <;> omega
theorem min9 (n : Nat) : (if (9 : Int) < (n : Int) then 9 else (n : Int)) = ((min n 9 : Nat) : Int) := by split <;> omega
set_option maxHeartbeats 4000000 in
set_option maxRecDepth 100000 in
theorem walk {w0 : World} (kind : Int) (hk : (Lit.int .u8 kind).wf = true) (v1 : Value) (hB : BytesAt w0 v1) (more : ByteArray) (hm : more.size ≤ maxLen) (wi : World) :
    Calls Try.prog 3 #[.int .u8 kind, v1, .string more] w0 fun e w' => e = .returned (.bool true) ∧ Below w0.heap.size w0 w' := by
  clear wi
  obtain ⟨body, hS0, hlen⟩ := hB
  have hk := bounds_u8 hk
  obtain ⟨ms, hms⟩ : ∃ ms, numsS more = ms := ⟨_, rfl⟩
  have hmo : bytesOk ms := by rw [← hms]; exact numsS_ok more
  rw [← strOf_nums more, hms]
  clear hms hm more
  have hR := Own.start w0
  obtain ⟨n, hn⟩ : ∃ n, min body.length 300 = n := ⟨_, rfl⟩
  have hnb : n ≤ body.length := by omega
  have hn3 : n ≤ 300 := by omega
  have HM := Lib.hid (min300 body.length)
  rw [hn] at HM
  clear hn
  go_enter Try.func3, Try.ntmps3
  go_upto_region 2 with (first
    | ((with_reducible apply q_ls hR); exact rfl; (with_reducible apply t_lenW Try.underlying22); (apply EvC.now; exact rfl); exact hS0; (simp only [List.set_cons_succ, List.set_cons_zero]; exact rfl); clear hR; intro w hR)
    | ((with_reducible apply q_ls hR); exact rfl; (with_reducible apply t_minK); (apply EvC.now; exact rfl); (apply EvC.now; exact rfl); (exact HM.out); (simp only [List.set_cons_succ, List.set_cons_zero]; exact rfl); clear hR; intro w hR)
    | ((with_reducible apply q_ls hR); exact rfl; (with_reducible apply t_cutH tBytesN hS0); (apply EvC.now; exact rfl); (apply EvC.now; exact rfl); exact rfl; (exact hnb); (simp only [List.set_cons_succ, List.set_cons_zero]; exact rfl); clear hR; intro w hR))
  have hS := hS0.first n hnb
  obtain ⟨bs, hbs⟩ : ∃ bs, body.take n = bs := ⟨_, rfl⟩
  obtain ⟨vb, hvb⟩ : ∃ vb, cutV v1 0 n = vb := ⟨_, rfl⟩
  have hbl : bs.length ≤ 300 := by rw [← hbs, List.length_take]; omega
  rw [hbs, hvb] at hS
  rw [hvb]
  clear hbs hvb hS0 HM hnb hn3 hlen
  have hbo := hS.ok
  have hro := recN_ok hk hbo
  have hrl := recN_len kind bs
  have HP := Lib.hid (show putR kind bs = recN kind bs from if_pos (by omega))
  have HG := Lib.hid (fun more => get_rec kind bs more (by omega))
  have HC := Lib.hid (get_cut kind bs (by omega))
  go_wp2_with (first
    | (go_at_call 6; refine (r18rec_any kind bs _ hk hbo (by omega)).mono ?_; rintro e w' ⟨rfl, hb⟩; replace hR := hR.grow hb; clear hb)
    | ((with_reducible apply q_ls hR); exact rfl; (with_reducible apply t_strW tTextN); (apply EvC.now; exact rfl); (exact fun w hC => hS.own hC); (simp only [List.set_cons_succ, List.set_cons_zero]; exact rfl); clear hR; intro w hR)
    | ((with_reducible apply wpList_built); exact rfl; exact rfl; exact bRec _ hS; (simp only [List.set_cons_succ, List.set_cons_zero]; exact rfl)))
  refine (recput_any hk (hS.own hR) (by omega)).mono ?_
  rw [HP.out]
  rintro e w1 ⟨vp, rfl, hb, hV⟩
  replace hS := (hS.own hR).keep hb
  replace hR := hR.grow hb
  have hZ2 := (Since.start w0).own hR
  clear hR hb
  try clear hZ
  have hZ := hZ2
  clear hZ2
  have hR := Own.start w1
  obtain ⟨q, hq⟩ : ∃ q, min ms.length 9 = q := ⟨_, rfl⟩
  have hqb : q ≤ ms.length := by omega
  have hq9 : q ≤ 9 := by omega
  have HM := Lib.hid (min9 ms.length)
  rw [hq] at HM
  clear hq
  have hm2 : bytesOk (ms.take q) := hmo.take q
  have hl2 : (ms.take q).length ≤ 9 := by rw [List.length_take]; omega
  obtain ⟨m2, hm2e⟩ : ∃ m2, ms.take q = m2 := ⟨_, rfl⟩
  rw [hm2e] at hm2 hl2
  have HQ := Lib.hid hm2e
  clear hm2e
  go_wp2_with (first
    | ((with_reducible apply q_ls hR); exact rfl; (with_reducible apply t_lenN Try.underlying9); (apply EvC.now; exact rfl); (simp only [List.set_cons_succ, List.set_cons_zero]; exact rfl); clear hR; intro w hR)
    | ((with_reducible apply q_ls hR); exact rfl; (with_reducible apply t_minK); (apply EvC.now; exact rfl); (apply EvC.now; exact rfl); (exact HM.out); (simp only [List.set_cons_succ, List.set_cons_zero]; exact rfl); clear hR; intro w hR)
    | ((with_reducible apply q_ls hR); exact rfl; (with_reducible apply t_takeN Try.underlying9 (k := q)); (apply EvC.now; exact rfl); (apply EvC.now; exact rfl); exact rfl; exact hqb; (simp only [List.set_cons_succ, List.set_cons_zero]; exact rfl); clear hR; intro w hR)
    | ((with_reducible apply q_ls hR); exact rfl; (with_reducible apply t_catE); (apply EvC.now; exact rfl); (apply EvC.now; exact rfl); (rw [HQ.out]; omega); (rw [HQ.out]); (simp only [List.set_cons_succ, List.set_cons_zero]; exact rfl); clear hR; intro w hR)
    | ((with_reducible apply wpList_bytesN hR Try.underlying9 Try.underlying22 Try.underlying5 (hro.append hm2)); exact rfl; exact rfl; clear hR; intro vm w hR hM; simp only [List.set_cons_succ, List.set_cons_zero]))
  refine (recget_any hM.src (by rw [List.length_append]; omega)).mono ?_
  rw [HG.out]
  dsimp only
  rintro e w2 ⟨vr, rfl, hb, hG⟩
  replace hS := (hS.own hR).keep hb
  replace hV := (hV.own hR).keep hb
  clear hM
  replace hR := hR.grow hb
  have hZ2 := (hZ).own hR
  clear hR hb
  try clear hZ
  have hZ := hZ2
  clear hZ2
  have hR := Own.start w2
  have HL := Lib.hid (IntWalk.i64_in (((recN kind bs).length : Int) - 1) (by omega))
  go_upto_region 5 with (first
    | ((with_reducible apply wpList_make hR zRec); exact rfl; clear hR; intro g w hR; simp only [List.set_cons_succ, List.set_cons_zero])
    | ((with_reducible apply wpList_put hR tRec); exact rfl; exact rfl; exact rfl; (focus (repeat (first | apply List.Mem.head | apply List.Mem.tail | apply List.mem_append_right))); exact put_rec _ _ _ _; exact rfl; simp; exact one_rec _ hG; (focus (repeat (first | apply Upd.head | apply Upd.tail))); clear hR; intro w hR))
  go_wp2_with (first
    | ((with_reducible apply q_ls hR); exact rfl; (with_reducible apply t_lenN Try.underlying9); (apply EvC.now; exact rfl); (simp only [List.set_cons_succ, List.set_cons_zero]; exact rfl); clear hR; intro w hR)
    | ((with_reducible apply q_ls hR); exact rfl; (with_reducible apply t_numE); (apply EvC.now; exact rfl); (apply EvC.now; exact rfl); exact rfl; exact HL.out; (simp only [List.set_cons_succ, List.set_cons_zero]; exact rfl); clear hR; intro w hR)
    | ((with_reducible apply q_ls hR); exact rfl; (with_reducible apply t_takeN Try.underlying9 (k := bs.length + 3)); (apply EvC.now; exact rfl); (apply EvC.now; exact rfl); (omega); (omega); (simp only [List.set_cons_succ, List.set_cons_zero]; exact rfl); clear hR; intro w hR)
    | ((with_reducible apply wpList_bytesN hR Try.underlying9 Try.underlying22 Try.underlying5 (hro.take _)); exact rfl; exact rfl; clear hR; intro vm w hR hM; simp only [List.set_cons_succ, List.set_cons_zero]))
  refine (recget_any hM.src (by rw [List.length_take]; omega)).mono ?_
  rw [HC.out]
  dsimp only [errR]
  rintro e w3 ⟨vx, rfl, hb, hX⟩
  replace hS := (hS.own hR).keep hb
  replace hV := (hV.own hR).keep hb
  replace hG := (hG.own hR).keep hb
  have hAt := (hR.at (.head _)).keep hb
  clear hM HL
  replace hR := hR.grow hb
  have hZ2 := (hZ).own hR
  clear hR hb
  try clear hZ
  have hZ := hZ2
  clear hZ2
  have hR := Own.start w3
  have HLEN := Lib.hid (show cmpB .eql ((bs.length : Int) + 4) ((recN kind bs).length : Int) = some true by rw [hrl]; exact cmp_self _)
  go_upto_region 6 with (first
    | ((with_reducible apply wpList_make hR zRec); exact rfl; clear hR; intro g w hR; simp only [List.set_cons_succ, List.set_cons_zero])
    | ((with_reducible apply wpList_put hR tRec); exact rfl; exact rfl; exact rfl; (focus (repeat (first | apply List.Mem.head | apply List.Mem.tail | apply List.mem_append_right))); exact put_rec _ _ _ _; exact rfl; simp; exact one_rec _ hX; (focus (repeat (first | apply Upd.head | apply Upd.tail))); clear hR; intro w hR))
  have hT := hAt.get
  refine wp_region_rows hR [0, 1, 2, 3, 4, 5, 6, 7, 8, 9, 10, 11, 12, 13, 14, 15, 16, 17, 18, 19, 20, 21, 22, 23, 24, 25, 26, 27, 28, 29, 30, 31, 32, 33, 34, 35, 36, 37, 38, 39, 40, 41, 42, 43] 0 (by kernel_rfl) (by kernel_rfl) (by kernel_rfl) rfl ?_
  clear hR; intro hR
  repeat (refine wpT_step rfl ?_; first
    | ((with_reducible apply q_kn); exact rfl; (with_reducible apply t_call Try.call9); (first | (apply EvC.gv; exact rfl; (with_reducible first | exact Imp.refl _ | (apply Imp.left; exact Imp.refl _) | (apply Imp.right; exact Imp.refl _) | (apply Imp.left; apply Imp.left; exact Imp.refl _))) | (apply EvC.now; exact rfl) | exact rfl | (with_reducible exact EvAll.nil) | (focus (repeat (first | apply EvAll.cons | exact EvAll.nil | (apply EvC.gv; exact rfl; (with_reducible first | exact Imp.refl _ | (apply Imp.left; exact Imp.refl _) | (apply Imp.right; exact Imp.refl _) | (apply Imp.left; apply Imp.left; exact Imp.refl _))) | (apply EvC.now; exact rfl))); done) | exact rfl | (focus (repeat (first | apply List.Mem.head | apply List.Mem.tail | apply List.mem_append_right)))); (intro hcc w hC; exact tame_below (awake18_any _) hC); (simp only [List.set_cons_succ, List.set_cons_zero]; exact rfl))
    | ((with_reducible apply q_kn); exact rfl; (with_reducible apply t_call Try.call10); (first | (apply EvC.gv; exact rfl; (with_reducible first | exact Imp.refl _ | (apply Imp.left; exact Imp.refl _) | (apply Imp.right; exact Imp.refl _) | (apply Imp.left; apply Imp.left; exact Imp.refl _))) | (apply EvC.now; exact rfl) | exact rfl | (with_reducible exact EvAll.nil) | (focus (repeat (first | apply EvAll.cons | exact EvAll.nil | (apply EvC.gv; exact rfl; (with_reducible first | exact Imp.refl _ | (apply Imp.left; exact Imp.refl _) | (apply Imp.right; exact Imp.refl _) | (apply Imp.left; apply Imp.left; exact Imp.refl _))) | (apply EvC.now; exact rfl))); done) | exact rfl | (focus (repeat (first | apply List.Mem.head | apply List.Mem.tail | apply List.mem_append_right)))); (intro hcc w hC; exact tame_below (recsum_any (hS.own hC) (by omega)) hC); (simp only [List.set_cons_succ, List.set_cons_zero]; exact rfl))
    | ((with_reducible apply q_kn); exact rfl; (with_reducible apply t_call Try.call11); (first | (apply EvC.gv; exact rfl; (with_reducible first | exact Imp.refl _ | (apply Imp.left; exact Imp.refl _) | (apply Imp.right; exact Imp.refl _) | (apply Imp.left; apply Imp.left; exact Imp.refl _))) | (apply EvC.now; exact rfl) | exact rfl | (with_reducible exact EvAll.nil) | (focus (repeat (first | apply EvAll.cons | exact EvAll.nil | (apply EvC.gv; exact rfl; (with_reducible first | exact Imp.refl _ | (apply Imp.left; exact Imp.refl _) | (apply Imp.right; exact Imp.refl _) | (apply Imp.left; apply Imp.left; exact Imp.refl _))) | (apply EvC.now; exact rfl))); done) | exact rfl | (focus (repeat (first | apply List.Mem.head | apply List.Mem.tail | apply List.mem_append_right)))); (intro hcc w hC; exact tame_below (r18sum_any bs _ hbo (by omega)) hC); (simp only [List.set_cons_succ, List.set_cons_zero]; exact rfl))
    | ((with_reducible apply q_kn); exact rfl; (with_reducible apply t_strW tTextN); (apply EvC.now; exact rfl); (with_reducible first | exact fun w hC => hV.own hC | exact fun w hC => hG.own hC | exact fun w hC => hS.own hC); (simp only [List.set_cons_succ, List.set_cons_zero]; exact rfl))
    | ((with_reducible apply q_kn); exact rfl; (with_reducible apply t_strsame); (apply EvC.now; exact rfl); (apply EvC.now; exact rfl); (simp only [List.set_cons_succ, List.set_cons_zero]; exact rfl))
    | ((with_reducible apply q_kn); exact rfl; (with_reducible apply t_lenN Try.underlying9); (apply EvC.now; exact rfl); (simp only [List.set_cons_succ, List.set_cons_zero]; exact rfl))
    | ((with_reducible apply q_kn); exact rfl; (with_reducible apply t_cmp); (apply EvC.now; exact rfl); (apply EvC.now; exact rfl); (with_reducible first | exact HLEN.out | exact cmp_self _); (simp only [List.set_cons_succ, List.set_cons_zero]; exact rfl))
    | ((with_reducible apply q_kn); exact rfl; (with_reducible first | apply t_old tByteR hT | apply t_old tSlR hT); (apply EvC.now; exact rfl); exact rfl; (simp only [List.set_cons_succ, List.set_cons_zero]; exact rfl))
    | ((with_reducible apply q_kn); exact rfl; (first | ((with_reducible first | apply t_move | apply t_assign | apply t_addr (fRec _ (by decide)) | apply t_one tByteR | apply t_one tSlR | apply t_one tIntR) <;> (first | (apply EvC.gv; exact rfl; (with_reducible first | exact Imp.refl _ | (apply Imp.left; exact Imp.refl _) | (apply Imp.right; exact Imp.refl _) | (apply Imp.left; apply Imp.left; exact Imp.refl _))) | (apply EvC.now; exact rfl) | exact rfl | (with_reducible exact EvAll.nil) | (focus (repeat (first | apply EvAll.cons | exact EvAll.nil | (apply EvC.gv; exact rfl; (with_reducible first | exact Imp.refl _ | (apply Imp.left; exact Imp.refl _) | (apply Imp.right; exact Imp.refl _) | (apply Imp.left; apply Imp.left; exact Imp.refl _))) | (apply EvC.now; exact rfl))); done) | exact rfl | (focus (repeat (first | apply List.Mem.head | apply List.Mem.tail | apply List.mem_append_right))))) | ((with_reducible apply t_pick); (apply EvC.now; exact rfl); (apply EvC.now; exact rfl))); (simp only [List.set_cons_succ, List.set_cons_zero]; exact rfl)))
  refine wpG_end hR (by kernel_rfl) ?_
  clear hR; intro w hR
  go_wp2_with fail
  go_ret
  exact ⟨rfl, (hZ.own hR).below⟩

set_option maxRecDepth 100000 in
theorem lifted (os : Os) (started : os.Started) (H : Type) (enc : TypeId × Value → H) :
    ReturnsInHanded {} Try.checked os 3 .any (Rows.recPutsSpec.pre6 enc Try.prog Try.f3 Rows.recPutsRow.domain false) (Rows.recPutsSpec.post enc Try.prog Try.f3 false true false false) := by
  refine returnsInHanded_of_change (C := Try.checked) own started (by kernel_rfl) Try.func3
    (ChangeSpec.witness6 (enc := enc) (C := Try.checked) false ⟨#[], #[.int .u8 0, .slice none 0 0, .string ByteArray.empty], []⟩ 8 (by kernel_rfl) (by kernel_rfl) (by kernel_rfl) (by kernel_rfl)) ?_
  intro W base args ds gs before hval0 hW hcnd _
  have hval : ∀ (j : Nat) t v, Try.f3.params[j]? = some t → args[j]? = some v → Value.okWide Try.prog W .any base t v := hval0
  have hW' := hW
  obtain ⟨p, q, hA0, hV, rfl, hfz, hnd⟩ := hW
  have hA : DataW.TrodAll enc Try.prog W 0 (fun _ => true) true Try.f3.params.toList args.toList ds p := hA0
  rw [Try.params3] at hA hval
  obtain ⟨v0, vs0, d0, ds0, p0, q0, hargs, rfl, rfl, h0, r0⟩ := trodAll_cons hA
  obtain ⟨v1, vs1, d1, ds1, p1, q1, rfl, rfl, rfl, h1, r1⟩ := trodAll_cons r0
  obtain ⟨v2, vs2, d2, ds2, p2, q2, rfl, rfl, rfl, h2, r2⟩ := trodAll_cons r1
  obtain ⟨rfl, rfl, rfl⟩ := trodAll_nil r2
  obtain rfl : args = #[v0, v1, v2] := by cases args; simp_all
  obtain ⟨rfl, rfl⟩ := trodVars_none hV
  obtain ⟨a0, rfl, rfl, rfl, w0⟩ := open_int Try.underlying5 (hval 0 5 v0 rfl rfl) h0
  have k1 := h1
  have lt1 : ∀ x ∈ p1, x.block < W.heap.size := by obtain ⟨m, hm⟩ := k1; exact DataW.trod_lt m _ _ _ hm
  have o1 := open_bytes (hval 1 22 v1 rfl rfl) h1
  obtain ⟨a2, rfl, rfl, rfl, w2⟩ := open_string Try.underlying9 (hval 2 9 v2 rfl rfl) h2
  clear hA0 hval0
  refine (walk a0 w0 v1 o1 a2 w2 W).mono fun e W' ⟨he, bel⟩ => ?_
  subst he
  exact ⟨_, rfl, _, _, _, [], _, [], hW', trodAll_mk1 (shut_bool Try.underlying4 _), (trodAll_cons_mk (shut_int Try.underlying5 w0) (trodAll_cons_mk (Below.trod laidOut (by kernel_rfl) (of_decide_eq_true (by kernel_rfl)) k1 bel lt1) (trodAll_cons_mk (shut_string Try.underlying9 w2) trodAll_mk0))), rfl, bel.frame _, fun h => by cases h⟩

theorem over : Rows.recPutsRow.holds Try.pinned (OpenSpec.ofChange Rows.recPutsSpec) :=
  OpenClaim.holds_of_wide 3 Try.f3 rfl rfl rfl rfl rfl rfl rfl ⟨rfl, rfl, rfl, rfl, rfl⟩ rfl rfl rfl rfl rfl (by kernel_rfl) Try.func3 (by kernel_rfl)
    (of_decide_eq_true (by kernel_rfl)) (by unfold Func.isWrapper; first | (rw [if_pos (by decide +kernel)]; kernel_rfl) | (rw [if_neg (by decide +kernel)]; exact ⟨rfl, rfl⟩))
    (fun os started H enc _ => lifted os started H enc)

theorem proved : Rows.RecPutsSaid := over
#print axioms proved
end Go.Proofs.Ytkmeaadkiakbdaa.recPuts
