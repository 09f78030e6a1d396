/- The law DataCut () returns true whatever the arguments, and each argument reads afterwards as before. There is no condition on the arguments. -/
import Derived.Test.YthklhkpikaopfaaRows
import Derived.Test.YthklhkpikaopfaaLaw23
import Derived.Test.YthklhkpikaopfaaAppG
import Derived.Test.YthklhkpikaopfaaBytesArg
import Derived.WalkKit
import Derived.ProofKit
import Derived.OpenShut
import Derived.ShutString
import Derived.ChangeOld
import Derived.Below
namespace Go.Proofs.Ythklhkpikaopfaa.dataCut
open Go.ChangeShapes Go.WideShapes Go.ChangeAt Go.RowKit
open Go.ChangeMaps (open_string shut_string)
set_option linter.unusedVariables false
set_option linter.unusedSimpArgs false

theorem own : ownKnob Try.prog.godebug = none := by kernel_rfl
theorem laidOut : laidOutB Try.prog = true := by kernel_rfl










theorem fDatA (k : Nat) (h : k < 4) : FieldAtA Try.prog 26 k k := by
  match k, h with
  | 0, _ => exact ⟨fun g w => by simp [go_sem, Instr.fieldAt, fieldPlace]⟩
  | 1, _ => exact ⟨fun g w => by simp [go_sem, Instr.fieldAt, fieldPlace]⟩
  | 2, _ => exact ⟨fun g w => by simp [go_sem, Instr.fieldAt, fieldPlace]⟩
  | 3, _ => exact ⟨fun g w => by simp [go_sem, Instr.fieldAt, fieldPlace]⟩
theorem iByteC : (Try.prog.info? 5).map (·.size) = some 1 := by kernel_rfl
theorem cellsD_len (d : DatV) : (cellsD d).length = 4 := rfl
/-- The i-th byte, or the number of its place. -/
def fillF (bs : List Int) (i : Nat) : Int := (bs[i]?).getD ((i : Int) % 256)
def fillL (bs : List Int) (k : Nat) : List Int := (List.range k).map (fillF bs)
theorem fill_more (bs : List Int) (k : Nat) : fillL bs (k + 1) = fillL bs k ++ [fillF bs k] := by unfold fillL; rw [List.range_succ]; simp
theorem fill_len (bs : List Int) (k : Nat) : (fillL bs k).length = k := by simp [fillL]
theorem fillF_bd {bs : List Int} (h : bytesOk bs) (i : Nat) : 0 ≤ fillF bs i ∧ fillF bs i ≤ 255 := by
  unfold fillF
  cases hi : bs[i]? with
  | none => rw [Option.getD_none]; omega
  | some x => exact h.at hi
theorem fill_ok {bs : List Int} (h : bytesOk bs) (k : Nat) : bytesOk (fillL bs k) := fun n hn => by
  obtain ⟨i, _, rfl⟩ := List.mem_map.1 hn
  exact fillF_bd h i
def LoopIs (w0 : World) (bs : List Int) (x i : Value) (wr : World) : Prop :=
  ∃ (k : Nat) (sl : List RowT), i = .int .i64 k ∧ k ≤ 3000 ∧ Own w0 wr (sl ++ []) ∧ Sl 5 1 sl x k (cellsB (fillL bs k))
theorem cells_more (bs : List Int) (n : Int) : cellsB (bs ++ [n]) = cellsB bs ++ cellsB [n] := by simp [cellsB]
set_option maxHeartbeats 8000000 in
set_option maxRecDepth 100000 in
theorem walk {w0 : World} (seg : Int) (hseg : (Lit.int .i64 seg).wf = true) (offi : Int) (hoff : (Lit.int .u16 offi).wf = true) (v2 : Value) (hB : BytesAt w0 v2) (wi : World) :
    Calls Try.prog 5 #[.int .i64 seg, .int .u16 offi, v2] w0 fun e w' => e = .returned (.bool true) ∧ Below w0.heap.size w0 w' := by
  clear wi
  obtain ⟨bs, hS0, hlen⟩ := hB
  have hbo := hS0.ok
  obtain ⟨o0, o1⟩ := bounds_u16 hoff
  obtain ⟨off, rfl⟩ := Int.eq_ofNat_of_zero_le o0
  have hR := Own.start w0
  obtain ⟨s, hs⟩ : ∃ s, seg % 64 + 1 = s := ⟨_, rfl⟩
  have hsb : 1 ≤ s ∧ s ≤ 64 := by omega
  have HG1 := Lib.hid (show bits .and .i64 seg 63 = seg % 64 from i64_mask seg 6 63 (by decide) (by decide))
  have HG2 := Lib.hid (show IntKind.i64.wrap (seg % 64 + 1) = s by rw [IntWalk.i64_in _ (by omega)]; exact hs)
  clear hs
  go_enter Try.func5, Try.ntmps5
  go_wp2_with (first
    | ((with_reducible apply q_ls hR); exact rfl; (with_reducible apply t_numE); (apply EvC.now; exact rfl); (apply EvC.now; exact rfl); exact rfl; (with_reducible first | exact HG1.out | exact HG2.out); (simp only [List.set_cons_succ, List.set_cons_zero]; exact rfl); clear hR; intro w hR)
    | ((with_reducible apply wpList_buildS hR); exact rfl; exact rfl; (exact bB0); clear hR; intro gx w hR; simp only [List.set_cons_succ, List.set_cons_zero]))
  go_loopw [8, 9] (fun x i wr => LoopIs w0 bs x i wr) (fun _ i _ => 3000 - (intOf i).toNat)
  case atStart => exact ⟨0, _, rfl, by decide, hR, (RwIs.all rfl (by decide)).sl⟩
  case round =>
    clear hR
    obtain ⟨k, sl, rfl, hk, hR, hS⟩ := hrel
    go_upto_if 20 with fail
    by_cases hk3 : k < 3000
    · refine wp_cond_at (nm := true) rfl (by simp; omega) (fun _ => ?_) (fun h => absurd h (by decide))
      have HC := Lib.hid (show IntKind.u8.wrap (k : Int) = (k : Int) % 256 from IntKind.wrap_u8 _)
      go_upto_if 28 with (first
    | ((with_reducible apply q_ls hR); exact rfl; (with_reducible apply t_conv Try.underlying3 Try.underlying5); (apply EvC.now; exact rfl); exact HC.out; (simp only [List.set_cons_succ, List.set_cons_zero]; exact rfl); clear hR; intro w hR)
    | ((with_reducible apply q_ls hR); exact rfl; (with_reducible apply t_lenW Try.underlying23); (apply EvC.now; exact rfl); exact hS0; (simp only [List.set_cons_succ, List.set_cons_zero]; exact rfl); clear hR; intro w hR))
      go_cut [10] (fun c wr => c = .int .u8 (fillF bs k) ∧ Own w0 wr (sl ++ []))
      case first =>
        by_cases hkl : k < bs.length
        · refine wp_cond_at (nm := true) rfl (by simp; omega) (fun _ => ?_) (fun h => absurd h (by decide))
          obtain ⟨y, hy⟩ : ∃ y, bs[k]? = some y := ⟨_, List.getElem?_eq_getElem hkl⟩
          have hf : fillF bs k = y := by unfold fillF; rw [hy]; rfl
          rcases hS0.way with ⟨_, h0⟩ | ⟨a, cap, rfl, _, hcell⟩
          · rw [h0] at hkl; exact absurd hkl (Nat.not_lt_zero _)
          have HX := Lib.hid (show w0.cell? (a.add ((k : Int).toNat * 1)) = some (.int .u8 y) by rw [Int.toNat_natCast, Nat.mul_one]; exact hcell k y hy)
          go_wp2_with (first
    | ((with_reducible apply q_ls hR); exact rfl; (with_reducible apply t_six Try.underlying23 iByteC); (apply EvC.now; exact rfl); (apply EvC.now; exact rfl); (constructor <;> omega); (simp only [List.set_cons_succ, List.set_cons_zero]; exact rfl); clear hR; intro w hR)
    | ((with_reducible apply q_ls hR); exact rfl; (with_reducible apply t_oldOne tByteR); (apply EvC.now; exact rfl); exact HX.out; exact rfl; (simp only [List.set_cons_succ, List.set_cons_zero]; exact rfl); clear hR; intro w hR))
          go_meet
          exact ⟨by rw [hf], hR⟩
        · refine wp_cond_at (nm := false) rfl (by simp; omega) (fun h => absurd h (by decide)) (fun _ => ?_)
          have hf : fillF bs k = (k : Int) % 256 := by unfold fillF; rw [List.getElem?_eq_none (by omega)]; rfl
          go_wp2_with fail
          go_meet
          exact ⟨by rw [hf], hR⟩
      case rest =>
      clear hR HC
      obtain ⟨rfl, hR⟩ := hcut
      have hfb := fillF_bd hbo k
      have HF := Lib.hid (show cellsB (fillL bs (k + 1)) = cellsB (fillL bs k) ++ cellsB [fillF bs k] by rw [fill_more, cells_more])
      obtain ⟨c, hc⟩ : ∃ c, fillF bs k = c := ⟨_, rfl⟩
      rw [hc] at hfb HF ⊢
      clear hc
      have hy8 : bytesOk [c] := .cons hfb .nil
      go_wp2_with (first
    | ((with_reducible apply wpList_buildS hR); exact rfl; exact rfl; (exact bB1 _); clear hR; intro g8 w hR; simp only [List.set_cons_succ, List.set_cons_zero]; (have hS8 := src_row hR (.head _) rfl hy8 (by simp)))
    | ((with_reducible apply wpList_appG hR tBytesB); exact rfl; exact rfl; exact rfl; exact hS; (exact .tail Les.head); (exact hS8.rd); (simp only [maxLen, List.length_cons, List.length_nil]; omega); (simp only [List.length_cons, List.length_nil]; omega); clear hR hS hS8; intro s9 v9 w hR hS; simp only [List.set_cons_succ, List.set_cons_zero]))
      go_round
      case rel => exact ⟨k + 1, s9, rfl, by omega, hR.drop ((List.Sublist.refl s9).append (List.nil_sublist _)), by rw [HF.out]; exact hS⟩
      case measure => simp [intOf]; omega
    · refine wp_cond_at (nm := false) rfl (by simp; omega) (fun h => absurd h (by decide)) (fun _ => ?_)
      obtain rfl : k = 3000 := by omega
      have hfo := fill_ok hbo 3000
      have hfl := fill_len bs 3000
      obtain ⟨F, hF⟩ : ∃ F, fillL bs 3000 = F := ⟨_, rfl⟩
      rw [hF] at hS hfo hfl
      clear hF hk hk3 hbo hlen hS0
      have hSF := hS.src hR (fun r h => List.mem_append_left _ h) hfo
      obtain ⟨m, hm⟩ : ∃ m : Nat, off % 3001 = m := ⟨_, rfl⟩
      have hmF : m ≤ F.length := by omega
      have HC := Lib.hid (show IntKind.i64.wrap (off : Int) = (off : Int) from IntWalk.i64_in _ (by omega))
      have HM := Lib.hid (show (off : Int).tmod 3001 = (m : Int) by rw [rem_in (by omega)]; omega)
      obtain ⟨o, ho⟩ : ∃ o : Nat, off % 4096 = o := ⟨_, rfl⟩
      have ho4 : o ≤ 4095 := by omega
      have HO := Lib.hid (show bits .and .u16 (off : Int) 4095 = (o : Int) by rw [← ho]; exact u16_mask off 12 4095 (by decide) (by decide))
      clear hm ho
      go_upto_region 12 with (first
    | ((with_reducible apply q_ls hR); exact rfl; (with_reducible apply t_conv Try.underlying22 Try.underlying3); (apply EvC.now; exact rfl); exact HC.out; (simp only [List.set_cons_succ, List.set_cons_zero]; exact rfl); clear hR; intro w hR)
    | ((with_reducible apply q_ls hR); exact rfl; (with_reducible apply t_rem); (apply EvC.now; exact rfl); (apply EvC.now; exact rfl); (decide); exact HM.out; (simp only [List.set_cons_succ, List.set_cons_zero]; exact rfl); clear hR; intro w hR)
    | ((with_reducible apply q_ls hR); exact rfl; (with_reducible apply t_cutH tBytesN hSF); (apply EvC.now; exact rfl); (apply EvC.now; exact rfl); exact rfl; exact hmF; (simp only [List.set_cons_succ, List.set_cons_zero]; exact rfl); clear hR; intro w hR))
      have hSX := (hS.src hR (fun r h => List.mem_append_left _ h) hfo).first m hmF
      have hXl : (F.take m).length ≤ 3000 := by rw [List.length_take]; omega
      generalize F.take m = X at *
      clear hS hSF hfo hfl hmF HM
      have hZ2 := (Since.start w0).own hR
      have hR2 := hR.fresh
      clear hR
      try clear hZ
      have hZ := hZ2
      have hR := hR2
      clear hZ2 hR2
      obtain ⟨wb, hwb⟩ : ∃ x, x = w := ⟨_, rfl⟩
      subst hwb
      obtain ⟨vx, hvx⟩ : ∃ vx, cutV u8 0 m = vx := ⟨_, rfl⟩
      rw [hvx] at hSX ⊢
      clear hvx
      go_wp2_with (first
    | ((with_reducible apply q_ls hR); exact rfl; (with_reducible apply t_numE); (apply EvC.now; exact rfl); (apply EvC.now; exact rfl); exact rfl; exact HO.out; (simp only [List.set_cons_succ, List.set_cons_zero]; exact rfl); clear hR; intro w hR)
    | ((with_reducible apply q_ls hR); exact rfl; (with_reducible apply t_move); (apply EvC.now; exact rfl); (simp only [List.set_cons_succ, List.set_cons_zero]; exact rfl); clear hR; intro w hR))
      refine (datCut_any s o (by omega) (by omega) (by omega) (hSX.own hR)).mono ?_
      rintro e w1 ⟨v3, dl, rfl, hb, hRA, hdl, hel⟩
      replace hSX := hSX.own (hR.grow hb)
      have hZ3 := hZ.own (hR.grow hb)
      clear hR hZ hb
      have hZ := hZ3
      clear hZ3
      have hR := Own.start w1
      rw [cutD_len] at hdl
      have hRd : Rd w1 4 v3 (cutN X) (dl.flatMap cellsD) := by rw [← hdl]; exact hRA
      have hNb : cutN X ≤ 3 := by unfold cutN; omega
      go_wp2_with fail
      go_loopw [11, 13] (fun a i wr => ∃ j : Nat, i = .int .i64 j ∧ j ≤ cutN X ∧ a = .int .i64 (upD X j) ∧ Own w1 wr []) (fun _ i _ => cutN X - (intOf i).toNat)
      case atStart => exact ⟨0, rfl, Nat.zero_le _, by rw [upD_zero]; rfl, hR⟩
      case round =>
        clear hR
        obtain ⟨j, rfl, hj, rfl, hR⟩ := hrel
        go_upto_if 50 with (first
    | ((with_reducible apply q_ls hR); exact rfl; (with_reducible apply t_lenRd Try.underlying42); (apply EvC.now; exact rfl); exact hRd; (simp only [List.set_cons_succ, List.set_cons_zero]; exact rfl); clear hR; intro w hR))
        by_cases hjl : j < cutN X
        · refine wp_cond_at (nm := true) rfl (by simp; omega) (fun _ => ?_) (fun h => absurd h (by decide))
          obtain ⟨a, ha⟩ : ∃ a, dl[j]? = some a := ⟨_, List.getElem?_eq_getElem (by rw [hdl]; exact hjl)⟩
          obtain ⟨e1, e2, hSa, hxa⟩ := hel j a _ ha (cutD_at hjl)
          obtain ⟨ad, cap, rfl, hcell⟩ := hRA.el cellsD_len ha
          obtain ⟨sa, ao, av, ax⟩ := a
          dsimp only at e1 e2 hSa hxa hcell
          have e1' : sa = s := e1
          have e2' : ao = o + 1024 * j := e2
          subst e1' e2'
          clear e1 e2
          obtain ⟨hn1, hn2, hu0, hu1, hul, hfull⟩ := piece_len (s := sa) (o := o) hjl
          have hPb := piece_b (s := sa) (o := o) hjl
          have hmay := (mayD_iff _).2 (piece_may (s := sa) (o := o) (bs := X) (by omega) (by omega) hjl)
          have hdok : (pieceD sa o X j).ok := ⟨by show -9223372036854775808 ≤ sa ∧ sa ≤ 9223372036854775807; omega, by show o + 1024 * j ≤ 65535; omega, piece_ok hSX.ok j⟩
          have hcalls : ∀ w, SrcW w av (pieceD sa o X j).b → Calls Try.prog 8 #[.agg (encD sa (o + 1024 * j) av ax)] w fun e w' => e = .returned (.bool true) ∧ Below w.heap.size w w' := fun w h => by
            have := datMay_any (pieceD sa o X j) (v := av) (x := ax) hdok h (by simp only [maxLen]; omega) hxa
            rw [hmay] at this
            exact this
          obtain ⟨P, hP⟩ : ∃ P, (pieceD sa o X j).b = P := ⟨_, rfl⟩
          rw [hP] at hn1 hn2 hu1 hfull hPb hSa hcalls
          clear hP hmay hdok
          have hcut : SrcW w1 (cutV vx (upD X j) (upD X (j + 1))) P := by rw [hPb]; exact hSX.cut _ _ (by omega) hul
          obtain ⟨q, hq⟩ : ∃ q, o + 1024 * j = q := ⟨_, rfl⟩
          rw [hq] at hcalls hcell ha
          have HMAY := Lib.hid hcalls
          have HC0 := Lib.hid (show w1.cell? ((ad.add ((j : Int).toNat * 4)).add 0) = some (.int .i64 sa) from hcell 0 _ rfl)
          have HC1 := Lib.hid (show w1.cell? ((ad.add ((j : Int).toNat * 4)).add 1) = some (.int .u16 q) from hcell 1 _ rfl)
          have HC2 := Lib.hid (show w1.cell? ((ad.add ((j : Int).toNat * 4)).add 2) = some av from hcell 2 _ rfl)
          have h2one : av.oneCell' = true := by
            obtain ⟨a, n, c, rfl⟩ := hSa.shape
            rfl
          have HM4 := Lib.hid (show ∀ w, Own w1 w [] → ∀ jj u, (encD sa q av ax).toList[jj]? = some u → w.cell? ((ad.add ((j : Int).toNat * 4)).add jj) = some u from fun w hC => by rw [Int.toNat_natCast]; exact (hRA.own hC).cell cellsD_len ha)
          have HOF := Lib.hid (show IntKind.i64.wrap (q : Int) = (q : Int) from IntWalk.i64_in _ (by omega))
          have HOO := Lib.hid (show IntKind.i64.wrap (o : Int) = (o : Int) from IntWalk.i64_in _ (by omega))
          have HQ := Lib.hid (show IntKind.i64.wrap ((o : Int) + (upD X j : Nat)) = (q : Int) by rw [IntWalk.i64_in _ (by omega)]; omega)
          have HADD := Lib.hid (show IntKind.i64.wrap (((upD X j : Nat) : Int) + (P.length : Int)) = ((upD X (j + 1) : Nat) : Int) by rw [IntWalk.i64_in _ (by omega)]; omega)
          have HSUB := Lib.hid (show IntKind.i64.wrap ((cutN X : Int) - 1) = (cutN X : Int) - 1 from IntWalk.i64_in _ (by omega))
          have HG := Lib.hid (show cmpB .gtr ((upD X (j + 1) : Nat) : Int) (X.length : Int) = some false from congrArg some (decide_eq_false (by omega)))
          go_upto_region 17 with (first
    | ((with_reducible apply q_ls hR); exact rfl; (with_reducible apply t_six Try.underlying42 iDat); (apply EvC.now; exact rfl); (apply EvC.now; exact rfl); (constructor <;> omega); (simp only [List.set_cons_succ, List.set_cons_zero]; exact rfl); clear hR; intro w hR)
    | ((with_reducible apply q_ls hR); exact rfl; (with_reducible apply t_fieldA (fDatA _ (by decide))); (apply EvC.now; exact rfl); (simp only [List.set_cons_succ, List.set_cons_zero]; exact rfl); clear hR; intro w hR)
    | ((with_reducible apply q_ls hR); exact rfl; (with_reducible apply t_oldOne tSlR); (apply EvC.now; exact rfl); exact HC2.out; exact h2one; (simp only [List.set_cons_succ, List.set_cons_zero]; exact rfl); clear hR; intro w hR)
    | ((with_reducible apply q_ls hR); exact rfl; (with_reducible apply t_lenW Try.underlying23); (apply EvC.now; exact rfl); exact hSa; (simp only [List.set_cons_succ, List.set_cons_zero]; exact rfl); clear hR; intro w hR))
          by_cases hlast : j + 1 < cutN X
          · have HLT := Lib.hid (show cmpB .lss (j : Int) ((cutN X : Int) - 1) = some true from congrArg some (decide_eq_true (by omega)))
            have HN := Lib.hid (show cmpB .neq (P.length : Int) 1024 = some false from congrArg some (by have := hfull hlast; rw [this]; rfl))
            refine wp_region_rows hR [0, 1, 2, 3, 4, 5, 6, 7, 8, 9, 10, 11, 12, 13, 14, 15, 16, 17, 18, 19, 20, 21, 22, 23, 24, 25, 26, 27, 28, 29, 30, 31, 32, 33, 34, 35, 36, 37, 38, 39, 40, 41, 42, 43, 44, 45, 46, 47, 48, 49, 50, 51, 52, 53, 54, 55, 56, 57, 58, 59, 60, 61, 62, 63] 0 (by kernel_rfl) (by kernel_rfl) (by kernel_rfl) rfl ?_
            clear hR; intro hR
            repeat (refine wpT_step rfl ?_; first
                | ((with_reducible apply q_kn); exact rfl; (with_reducible apply t_call Try.call8); (first | (apply EvC.gv; exact rfl; (with_reducible first | exact Imp.refl _ | (apply Imp.left; exact Imp.refl _) | (apply Imp.right; exact Imp.refl _) | (apply Imp.left; apply Imp.left; exact Imp.refl _))) | (apply EvC.now; exact rfl) | exact rfl | (with_reducible exact EvAll.nil) | (focus (repeat (first | apply EvAll.cons | exact EvAll.nil | (apply EvC.gv; exact rfl; (with_reducible first | exact Imp.refl _ | (apply Imp.left; exact Imp.refl _) | (apply Imp.right; exact Imp.refl _) | (apply Imp.left; apply Imp.left; exact Imp.refl _))) | (apply EvC.now; exact rfl))); done) | exact ext_dat _ _ _ | (focus (repeat (first | apply List.Mem.head | apply List.Mem.tail | apply List.mem_append_right)))); (intro hcc w hC; exact tame_below (HMAY.out _ (hSa.own hC)) hC); (simp only [List.set_cons_succ, List.set_cons_zero]; exact rfl))
                | ((with_reducible apply q_kn); exact rfl; (with_reducible apply t_six Try.underlying42 iDat); (apply EvC.now; exact rfl); (apply EvC.now; exact rfl); (constructor <;> omega); (simp only [List.set_cons_succ, List.set_cons_zero]; exact rfl))
                | ((with_reducible apply q_kn); exact rfl; (with_reducible apply t_fieldA (fDatA _ (by decide))); (apply EvC.now; exact rfl); (simp only [List.set_cons_succ, List.set_cons_zero]; exact rfl))
                | ((with_reducible apply q_kn); exact rfl; (with_reducible apply t_manyW tDat); (apply EvC.now; exact rfl); (exact HM4.out); exact rfl; (simp only [List.set_cons_succ, List.set_cons_zero]; exact rfl))
                | ((with_reducible apply q_kn); exact rfl; (with_reducible apply t_oldOne tSlR); (apply EvC.now; exact rfl); exact HC2.out; exact h2one; (simp only [List.set_cons_succ, List.set_cons_zero]; exact rfl))
                | ((with_reducible apply q_kn); exact rfl; (with_reducible apply t_oldOne tIntR); (apply EvC.now; exact rfl); exact HC0.out; exact rfl; (simp only [List.set_cons_succ, List.set_cons_zero]; exact rfl))
                | ((with_reducible apply q_kn); exact rfl; (with_reducible apply t_oldOne tWordD); (apply EvC.now; exact rfl); exact HC1.out; exact rfl; (simp only [List.set_cons_succ, List.set_cons_zero]; exact rfl))
                | ((with_reducible apply q_kn); exact rfl; (with_reducible apply t_not); (apply EvC.now; exact rfl); (simp only [List.set_cons_succ, List.set_cons_zero]; exact rfl))
                | ((with_reducible apply q_kn); exact rfl; (with_reducible apply t_strW tTextN); (apply EvC.now; exact rfl); (first | exact fun w hC => hSa.own hC | exact fun w hC => hcut.own hC); (simp only [List.set_cons_succ, List.set_cons_zero]; exact rfl))
                | ((with_reducible apply q_kn); exact rfl; (with_reducible apply t_strsameN); (apply EvC.now; exact rfl); (apply EvC.now; exact rfl); (simp only [List.set_cons_succ, List.set_cons_zero]; exact rfl))
                | ((with_reducible apply q_kn); exact rfl; (with_reducible apply t_cutLH tBytesN hSX); (apply EvC.now; exact rfl); (apply EvC.now; exact rfl); (apply EvC.now; exact rfl); exact rfl; exact rfl; (omega); exact hul; (simp only [List.set_cons_succ, List.set_cons_zero]; exact rfl))
                | ((with_reducible apply q_kn); exact rfl; (with_reducible apply t_lenW Try.underlying23); (apply EvC.now; exact rfl); (first | exact hSa | exact hSX); (simp only [List.set_cons_succ, List.set_cons_zero]; exact rfl))
                | ((with_reducible apply q_kn); exact rfl; (with_reducible apply t_lenRd Try.underlying42); (apply EvC.now; exact rfl); exact hRd; (simp only [List.set_cons_succ, List.set_cons_zero]; exact rfl))
                | ((with_reducible apply q_kn); exact rfl; (with_reducible apply t_conv Try.underlying22 Try.underlying3); (apply EvC.now; exact rfl); (with_reducible first | exact HOF.out | exact HOO.out); (simp only [List.set_cons_succ, List.set_cons_zero]; exact rfl))
                | ((with_reducible apply q_kn); exact rfl; (with_reducible apply t_numE); (apply EvC.now; exact rfl); (apply EvC.now; exact rfl); exact rfl; (with_reducible first | exact HO.out | exact HQ.out | exact HADD.out | exact HSUB.out); (simp only [List.set_cons_succ, List.set_cons_zero]; exact rfl))
                | ((with_reducible apply q_kn); exact rfl; (with_reducible apply t_cmp); (apply EvC.now; exact rfl); (apply EvC.now; exact rfl); (with_reducible first | exact HLT.out | exact HG.out | exact HN.out | exact cmp_nselfS _); (simp only [List.set_cons_succ, List.set_cons_zero]; exact rfl))
                | ((with_reducible apply q_kn); exact rfl; (first | ((with_reducible first | apply t_move | apply t_assign | apply t_addr (fRec _ (by decide)) | apply t_addr (fDat _ (by decide)) | apply t_one tByteR | apply t_one tSlR | apply t_one tIntR | apply t_one tWordD | apply t_one tFixD | apply t_part tDat) <;> (first | (apply EvC.gv; exact rfl; (with_reducible first | exact Imp.refl _ | (apply Imp.left; exact Imp.refl _) | (apply Imp.right; exact Imp.refl _) | (apply Imp.left; apply Imp.left; exact Imp.refl _))) | (apply EvC.now; exact rfl) | exact rfl | (with_reducible exact EvAll.nil) | (focus (repeat (first | apply EvAll.cons | exact EvAll.nil | (apply EvC.gv; exact rfl; (with_reducible first | exact Imp.refl _ | (apply Imp.left; exact Imp.refl _) | (apply Imp.right; exact Imp.refl _) | (apply Imp.left; apply Imp.left; exact Imp.refl _))) | (apply EvC.now; exact rfl))); done) | exact ext_dat _ _ _ | (focus (repeat (first | apply List.Mem.head | apply List.Mem.tail | apply List.mem_append_right))))) | ((with_reducible apply t_pick); (apply EvC.now; exact rfl); (apply EvC.now; exact rfl))); (simp only [List.set_cons_succ, List.set_cons_zero]; exact rfl))
                | ((with_reducible apply wpT1_skipL); exact rfl; (simp only [List.set_cons_succ, List.set_cons_zero]; exact rfl)))
            refine wpG_end hR (by kernel_rfl) ?_
            clear hR; intro w hR
            go_upto_if 122 with fail
            refine wp_cond_at (nm := false) rfl rfl (fun h => absurd h (by decide)) (fun _ => ?_)
            go_wp2_with (first
                | ((with_reducible apply q_ls hR); exact rfl; (with_reducible apply t_numE); (apply EvC.now; exact rfl); (apply EvC.now; exact rfl); exact rfl; exact HADD.out; (simp only [List.set_cons_succ, List.set_cons_zero]; exact rfl); clear hR; intro w hR))
            go_round
            case rel => exact ⟨j + 1, rfl, by omega, rfl, hR⟩
            case measure => simp [intOf]; omega
          · have HLT := Lib.hid (show cmpB .lss (j : Int) ((cutN X : Int) - 1) = some false from congrArg some (decide_eq_false (by omega)))
            have HN := HG
            refine wp_region_rows hR [0, 1, 2, 3, 4, 5, 6, 7, 8, 9, 10, 11, 12, 13, 14, 15, 16, 17, 18, 19, 20, 21, 22, 23, 24, 25, 26, 27, 28, 29, 30, 31, 32, 33, 34, 35, 36, 37, 38, 39, 40, 41, 42, 43, 44, 45, 46, 47, 48, 49, 50, 51, 52, 53, 54, 55, 56, 57, 58, 59, 60, 61, 62, 63] 0 (by kernel_rfl) (by kernel_rfl) (by kernel_rfl) rfl ?_
            clear hR; intro hR
            repeat (refine wpT_step rfl ?_; first
                | ((with_reducible apply q_kn); exact rfl; (with_reducible apply t_call Try.call8); (first | (apply EvC.gv; exact rfl; (with_reducible first | exact Imp.refl _ | (apply Imp.left; exact Imp.refl _) | (apply Imp.right; exact Imp.refl _) | (apply Imp.left; apply Imp.left; exact Imp.refl _))) | (apply EvC.now; exact rfl) | exact rfl | (with_reducible exact EvAll.nil) | (focus (repeat (first | apply EvAll.cons | exact EvAll.nil | (apply EvC.gv; exact rfl; (with_reducible first | exact Imp.refl _ | (apply Imp.left; exact Imp.refl _) | (apply Imp.right; exact Imp.refl _) | (apply Imp.left; apply Imp.left; exact Imp.refl _))) | (apply EvC.now; exact rfl))); done) | exact ext_dat _ _ _ | (focus (repeat (first | apply List.Mem.head | apply List.Mem.tail | apply List.mem_append_right)))); (intro hcc w hC; exact tame_below (HMAY.out _ (hSa.own hC)) hC); (simp only [List.set_cons_succ, List.set_cons_zero]; exact rfl))
                | ((with_reducible apply q_kn); exact rfl; (with_reducible apply t_six Try.underlying42 iDat); (apply EvC.now; exact rfl); (apply EvC.now; exact rfl); (constructor <;> omega); (simp only [List.set_cons_succ, List.set_cons_zero]; exact rfl))
                | ((with_reducible apply q_kn); exact rfl; (with_reducible apply t_fieldA (fDatA _ (by decide))); (apply EvC.now; exact rfl); (simp only [List.set_cons_succ, List.set_cons_zero]; exact rfl))
                | ((with_reducible apply q_kn); exact rfl; (with_reducible apply t_manyW tDat); (apply EvC.now; exact rfl); (exact HM4.out); exact rfl; (simp only [List.set_cons_succ, List.set_cons_zero]; exact rfl))
                | ((with_reducible apply q_kn); exact rfl; (with_reducible apply t_oldOne tSlR); (apply EvC.now; exact rfl); exact HC2.out; exact h2one; (simp only [List.set_cons_succ, List.set_cons_zero]; exact rfl))
                | ((with_reducible apply q_kn); exact rfl; (with_reducible apply t_oldOne tIntR); (apply EvC.now; exact rfl); exact HC0.out; exact rfl; (simp only [List.set_cons_succ, List.set_cons_zero]; exact rfl))
                | ((with_reducible apply q_kn); exact rfl; (with_reducible apply t_oldOne tWordD); (apply EvC.now; exact rfl); exact HC1.out; exact rfl; (simp only [List.set_cons_succ, List.set_cons_zero]; exact rfl))
                | ((with_reducible apply q_kn); exact rfl; (with_reducible apply t_not); (apply EvC.now; exact rfl); (simp only [List.set_cons_succ, List.set_cons_zero]; exact rfl))
                | ((with_reducible apply q_kn); exact rfl; (with_reducible apply t_strW tTextN); (apply EvC.now; exact rfl); (first | exact fun w hC => hSa.own hC | exact fun w hC => hcut.own hC); (simp only [List.set_cons_succ, List.set_cons_zero]; exact rfl))
                | ((with_reducible apply q_kn); exact rfl; (with_reducible apply t_strsameN); (apply EvC.now; exact rfl); (apply EvC.now; exact rfl); (simp only [List.set_cons_succ, List.set_cons_zero]; exact rfl))
                | ((with_reducible apply q_kn); exact rfl; (with_reducible apply t_cutLH tBytesN hSX); (apply EvC.now; exact rfl); (apply EvC.now; exact rfl); (apply EvC.now; exact rfl); exact rfl; exact rfl; (omega); exact hul; (simp only [List.set_cons_succ, List.set_cons_zero]; exact rfl))
                | ((with_reducible apply q_kn); exact rfl; (with_reducible apply t_lenW Try.underlying23); (apply EvC.now; exact rfl); (first | exact hSa | exact hSX); (simp only [List.set_cons_succ, List.set_cons_zero]; exact rfl))
                | ((with_reducible apply q_kn); exact rfl; (with_reducible apply t_lenRd Try.underlying42); (apply EvC.now; exact rfl); exact hRd; (simp only [List.set_cons_succ, List.set_cons_zero]; exact rfl))
                | ((with_reducible apply q_kn); exact rfl; (with_reducible apply t_conv Try.underlying22 Try.underlying3); (apply EvC.now; exact rfl); (with_reducible first | exact HOF.out | exact HOO.out); (simp only [List.set_cons_succ, List.set_cons_zero]; exact rfl))
                | ((with_reducible apply q_kn); exact rfl; (with_reducible apply t_numE); (apply EvC.now; exact rfl); (apply EvC.now; exact rfl); exact rfl; (with_reducible first | exact HO.out | exact HQ.out | exact HADD.out | exact HSUB.out); (simp only [List.set_cons_succ, List.set_cons_zero]; exact rfl))
                | ((with_reducible apply q_kn); exact rfl; (with_reducible apply t_cmp); (apply EvC.now; exact rfl); (apply EvC.now; exact rfl); (with_reducible first | exact HLT.out | exact HG.out | exact HN.out | exact cmp_nselfS _); (simp only [List.set_cons_succ, List.set_cons_zero]; exact rfl))
                | ((with_reducible apply q_kn); exact rfl; (first | ((with_reducible first | apply t_move | apply t_assign | apply t_addr (fRec _ (by decide)) | apply t_addr (fDat _ (by decide)) | apply t_one tByteR | apply t_one tSlR | apply t_one tIntR | apply t_one tWordD | apply t_one tFixD | apply t_part tDat) <;> (first | (apply EvC.gv; exact rfl; (with_reducible first | exact Imp.refl _ | (apply Imp.left; exact Imp.refl _) | (apply Imp.right; exact Imp.refl _) | (apply Imp.left; apply Imp.left; exact Imp.refl _))) | (apply EvC.now; exact rfl) | exact rfl | (with_reducible exact EvAll.nil) | (focus (repeat (first | apply EvAll.cons | exact EvAll.nil | (apply EvC.gv; exact rfl; (with_reducible first | exact Imp.refl _ | (apply Imp.left; exact Imp.refl _) | (apply Imp.right; exact Imp.refl _) | (apply Imp.left; apply Imp.left; exact Imp.refl _))) | (apply EvC.now; exact rfl))); done) | exact ext_dat _ _ _ | (focus (repeat (first | apply List.Mem.head | apply List.Mem.tail | apply List.mem_append_right))))) | ((with_reducible apply t_pick); (apply EvC.now; exact rfl); (apply EvC.now; exact rfl))); (simp only [List.set_cons_succ, List.set_cons_zero]; exact rfl))
                | ((with_reducible apply wpT1_skipL); exact rfl; (simp only [List.set_cons_succ, List.set_cons_zero]; exact rfl)))
            refine wpG_end hR (by kernel_rfl) ?_
            clear hR; intro w hR
            go_upto_if 122 with fail
            refine wp_cond_at (nm := false) rfl rfl (fun h => absurd h (by decide)) (fun _ => ?_)
            go_wp2_with (first
                | ((with_reducible apply q_ls hR); exact rfl; (with_reducible apply t_numE); (apply EvC.now; exact rfl); (apply EvC.now; exact rfl); exact rfl; exact HADD.out; (simp only [List.set_cons_succ, List.set_cons_zero]; exact rfl); clear hR; intro w hR))
            go_round
            case rel => exact ⟨j + 1, rfl, by omega, rfl, hR⟩
            case measure => simp [intOf]; omega
        · refine wp_cond_at (nm := false) rfl (by simp; omega) (fun h => absurd h (by decide)) (fun _ => ?_)
          obtain rfl : j = cutN X := by omega
          rw [upD_end]
          go_upto_region 20 with fail
          refine wp_region_tame hR [0, 1, 2, 3, 4, 5, 6, 7] rfl ?_
          repeat (refine wpT_step rfl ?_; first
    | ((with_reducible apply q_kn); exact rfl; (with_reducible apply t_call Try.call7); (first | (apply EvC.gv; exact rfl; (with_reducible first | exact Imp.refl _ | (apply Imp.left; exact Imp.refl _) | (apply Imp.right; exact Imp.refl _) | (apply Imp.left; apply Imp.left; exact Imp.refl _))) | (apply EvC.now; exact rfl) | exact rfl | (with_reducible exact EvAll.nil) | (focus (repeat (first | apply EvAll.cons | exact EvAll.nil | (apply EvC.gv; exact rfl; (with_reducible first | exact Imp.refl _ | (apply Imp.left; exact Imp.refl _) | (apply Imp.right; exact Imp.refl _) | (apply Imp.left; apply Imp.left; exact Imp.refl _))) | (apply EvC.now; exact rfl))); done) | exact ext_dat _ _ _ | (focus (repeat (first | apply List.Mem.head | apply List.Mem.tail | apply List.mem_append_right)))); (intro hcc w hC; exact tame_below (awake23_any _) hC); (simp only [List.set_cons_succ, List.set_cons_zero]; exact rfl))
    | ((with_reducible apply q_kn); exact rfl; (with_reducible apply t_lenW Try.underlying23); (apply EvC.now; exact rfl); exact hSX; (simp only [List.set_cons_succ, List.set_cons_zero]; exact rfl))
    | ((with_reducible apply q_kn); exact rfl; (with_reducible apply t_cmp); (apply EvC.now; exact rfl); (apply EvC.now; exact rfl); exact cmp_selfS _; (simp only [List.set_cons_succ, List.set_cons_zero]; exact rfl))
    | ((with_reducible apply q_kn); exact rfl; (first | ((with_reducible first | apply t_move | apply t_assign | apply t_addr (fRec _ (by decide)) | apply t_addr (fDat _ (by decide)) | apply t_one tByteR | apply t_one tSlR | apply t_one tIntR | apply t_one tWordD | apply t_one tFixD | apply t_part tDat) <;> (first | (apply EvC.gv; exact rfl; (with_reducible first | exact Imp.refl _ | (apply Imp.left; exact Imp.refl _) | (apply Imp.right; exact Imp.refl _) | (apply Imp.left; apply Imp.left; exact Imp.refl _))) | (apply EvC.now; exact rfl) | exact rfl | (with_reducible exact EvAll.nil) | (focus (repeat (first | apply EvAll.cons | exact EvAll.nil | (apply EvC.gv; exact rfl; (with_reducible first | exact Imp.refl _ | (apply Imp.left; exact Imp.refl _) | (apply Imp.right; exact Imp.refl _) | (apply Imp.left; apply Imp.left; exact Imp.refl _))) | (apply EvC.now; exact rfl))); done) | exact ext_dat _ _ _ | (focus (repeat (first | apply List.Mem.head | apply List.Mem.tail | apply List.mem_append_right))))) | ((with_reducible apply t_pick); (apply EvC.now; exact rfl); (apply EvC.now; exact rfl))); (simp only [List.set_cons_succ, List.set_cons_zero]; exact rfl)))
          refine wpT_nil ?_
          clear hR; intro w hR
          go_wp2_with fail
          go_ret
          exact ⟨rfl, (hZ.own hR).below⟩

set_option maxRecDepth 100000 in
theorem lifted (os : Os) (started : os.Started) (H : Type) (enc : TypeId × Value → H) :
    ReturnsInHanded {} Try.checked os 5 .any (Rows.dataCutSpec.pre6 enc Try.prog Try.f5 Rows.dataCutRow.domain false) (Rows.dataCutSpec.post enc Try.prog Try.f5 false true false false) := by
  refine returnsInHanded_of_change (C := Try.checked) own started (by kernel_rfl) Try.func5
    (ChangeSpec.witness6 (enc := enc) (C := Try.checked) false ⟨#[], #[.int .i64 0, .int .u16 0, .slice none 0 0], []⟩ 8 (by kernel_rfl) (by kernel_rfl) (by kernel_rfl) (by kernel_rfl)) ?_
  intro W base args ds gs before hval0 hW hcnd _
  have hval : ∀ (j : Nat) t v, Try.f5.params[j]? = some t → args[j]? = some v → Value.okWide Try.prog W .any base t v := hval0
  have hW' := hW
  obtain ⟨p, q, hA0, hV, rfl, hfz, hnd⟩ := hW
  have hA : DataW.TrodAll enc Try.prog W 0 (fun _ => true) true Try.f5.params.toList args.toList ds p := hA0
  rw [Try.params5] at hA hval
  obtain ⟨v0, vs0, d0, ds0, p0, q0, hargs, rfl, rfl, h0, r0⟩ := trodAll_cons hA
  obtain ⟨v1, vs1, d1, ds1, p1, q1, rfl, rfl, rfl, h1, r1⟩ := trodAll_cons r0
  obtain ⟨v2, vs2, d2, ds2, p2, q2, rfl, rfl, rfl, h2, r2⟩ := trodAll_cons r1
  obtain ⟨rfl, rfl, rfl⟩ := trodAll_nil r2
  obtain rfl : args = #[v0, v1, v2] := by cases args; simp_all
  obtain ⟨rfl, rfl⟩ := trodVars_none hV
  obtain ⟨a0, rfl, rfl, rfl, w0⟩ := open_int Try.underlying3 (hval 0 3 v0 rfl rfl) h0
  obtain ⟨a1, rfl, rfl, rfl, w1⟩ := open_int Try.underlying22 (hval 1 22 v1 rfl rfl) h1
  have k2 := h2
  have lt2 : ∀ x ∈ p2, x.block < W.heap.size := by obtain ⟨m, hm⟩ := k2; exact DataW.trod_lt m _ _ _ hm
  have o2 := open_bytes (hval 2 23 v2 rfl rfl) h2
  clear hA0 hval0
  refine (walk a0 w0 a1 w1 v2 o2 W).mono fun e W' ⟨he, bel⟩ => ?_
  subst he
  exact ⟨_, rfl, _, _, _, [], _, [], hW', trodAll_mk1 (shut_bool Try.underlying4 _), (trodAll_cons_mk (shut_int Try.underlying3 w0) (trodAll_cons_mk (shut_int Try.underlying22 w1) (trodAll_cons_mk (Below.trod laidOut (by kernel_rfl) (of_decide_eq_true (by kernel_rfl)) k2 bel lt2) trodAll_mk0))), rfl, bel.frame _, fun h => by cases h⟩

theorem over : Rows.dataCutRow.holds Try.pinned (OpenSpec.ofChange Rows.dataCutSpec) :=
  OpenClaim.holds_of_wide 5 Try.f5 rfl rfl rfl rfl rfl rfl rfl ⟨rfl, rfl, rfl, rfl, rfl⟩ rfl rfl rfl rfl rfl (by kernel_rfl) Try.func5 (by kernel_rfl)
    (of_decide_eq_true (by kernel_rfl)) (by unfold Func.isWrapper; first | (rw [if_pos (by decide +kernel)]; kernel_rfl) | (rw [if_neg (by decide +kernel)]; exact ⟨rfl, rfl⟩))
    (fun os started H enc _ => lifted os started H enc)

theorem proved : Rows.DataCutSaid := over
#print axioms proved
end Go.Proofs.Ythklhkpikaopfaa.dataCut
