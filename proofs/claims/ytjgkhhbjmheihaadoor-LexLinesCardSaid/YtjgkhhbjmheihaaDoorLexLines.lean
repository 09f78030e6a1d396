/- The law LexLines (x) returns true whatever the arguments, in a state in which the listed package-level tables hold what the program lays them with (the card ties that to its text), and each argument reads afterwards as before. There is no condition on the arguments. -/
import Derived.Test.YtjgkhhbjmheihaaDoorRows
import Derived.Test.YtjgkhhbjmheihaaDoorPce28
import Derived.Test.YtjgkhhbjmheihaaDoorStrs
import Derived.Test.YtjgkhhbjmheihaaDoorU64s
import Derived.Test.YtjgkhhbjmheihaaDoorInts
import Derived.WalkKit
import Derived.ProofKit
import Derived.OpenShut
import Derived.ShutString
import Derived.ChangeOld
import Derived.Below
import Derived.Test.YtjgkhhbjmheihaaDoorTie
import Derived.Test.YtjgkhhbjmheihaaDoorCards
import Derived.Test.YtjgkhhbjmheihaaDoorLexTab
import Derived.SevenTiedAt
import Derived.Lay
import Derived.LaidMore
namespace Go.Proofs.YtjgkhhbjmheihaaDoor.lexLines
open Go.ChangeShapes Go.WideShapes Go.ChangeAt Go.RowKit
open Go.ChangeMaps (open_string shut_string)
set_option linter.unusedVariables false
set_option linter.unusedSimpArgs false

theorem own : ownKnob Tryd.prog.godebug = none := by kernel_rfl
theorem laidOut : laidOutB Tryd.prog = true := by kernel_rfl










theorem bToks0 : BuiltS Tryd.prog 25 0 [] 28 #[] := ⟨fun w => by simp [go_sem]⟩
def sepsZ : List (List Int) := [[32], [9], [32, 32], [32, 13]]
def sepsC : Array Value := #[.string (strOfNums [32]), .string (strOfNums [9]), .string (strOfNums [32, 32]), .string (strOfNums [32, 13])]
theorem bSeps : BuiltS Tryd.prog 23 4 [(0, .string ⟨#[32]⟩), (1, .string ⟨#[9]⟩), (2, .string ⟨#[32, 32]⟩), (3, .string ⟨#[32, 13]⟩)] 9 sepsC := ⟨fun w => by simp [go_sem, sepsC]; rfl⟩
theorem sep_at {j : Nat} (h : j < 4) : ∃ s, sepsC.toList[j]? = some (.string (strOfNums s)) ∧ s.length ≤ 2 ∧ (∃ b r, s = b :: r ∧ ∀ c ∈ s, isBlank c) := by
  match j, h with
  | 0, _ => exact ⟨[32], rfl, by decide, 32, [], rfl, fun c hc => .inl (List.mem_singleton.1 hc)⟩
  | 1, _ => exact ⟨[9], rfl, by decide, 9, [], rfl, fun c hc => .inr (.inl (List.mem_singleton.1 hc))⟩
  | 2, _ => exact ⟨[32, 32], rfl, by decide, 32, [32], rfl, fun c hc => .inl (by simpa using hc)⟩
  | 3, _ => exact ⟨[32, 13], rfl, by decide, 32, [13], rfl, fun c hc => by
      rcases (by simpa using hc : c = 32 ∨ c = 13) with rfl | rfl
      · exact .inl rfl
      · exact .inr (.inr rfl)⟩
theorem lTAIL : (⟨#[32, 59, 32, 97, 110, 121, 116, 104, 105, 110, 103, 44, 32, 39, 97, 116, 32, 97, 108, 108]⟩ : ByteArray) = strOfNums tailL := rfl
theorem gTok : Tryd.prog.eqGuardType Tryd.prog.depth 28 = false := by kernel_rfl
theorem eqTok_self (t : TokZ) : eqB Tryd.prog 9 28 (.agg (encTok t)) (.agg (encTok t)) = some true := by
  have h : eqB Tryd.prog 9 28 (.agg (encTok t)) (.agg (encTok t)) = some ((t.k == t.k) && (((strOfNums t.s).toList == (strOfNums t.s).toList) && (((t.n : Int) == (t.n : Int)) && (((t.d : Int) == (t.d : Int)) && true)))) := by kernel_rfl
  rw [h]; simp
theorem tIntL : OneTy Tryd.prog 3 := .of Tryd.underlying3 rfl (by kernel_rfl)
theorem iIntL : (Tryd.prog.info? 3).map (·.size) = some 1 := by kernel_rfl
theorem iNumL : (Tryd.prog.info? 26).map (·.size) = some 1 := by kernel_rfl
theorem wrap_u64 (z : Int) : ∃ m : Nat, IntKind.u64.wrap z = (m : Int) ∧ m ≤ 18446744073709551615 := by
  rw [IntKind.wrap_u64]
  exact ⟨(z % 18446744073709551616).toNat, by omega, by omega⟩
/-- The loop that lays the line. -/
def LayIs (w0 : World) (n : Nat) (ln v i : Value) (wr : World) : Prop :=
  ∃ (k : Nat) (L : List ItZ) (sl : List RowT), i = .int .i64 k ∧ k ≤ 10 ∧ k ≤ n ∧ L.length = k ∧ (∀ x ∈ L, x.ok) ∧ ln = .string (strOfNums (lineS L)) ∧ Own w0 wr (sl ++ []) ∧ Sl 28 4 sl v k ((L.map (·.t)).flatMap cellsTok)
set_option maxHeartbeats 8000000 in
set_option maxRecDepth 100000 in
theorem walk {w0 : World} (v0 : Value) (hK : IntsIn w0 v0) (v1 : Value) (hS1 : StrsIn w0 v1) (v2 : Value) (hN : U64sIn w0 v2) (wi : World) (hT : True) :
    Calls Tryd.prog 3 #[v0, v1, v2] w0 fun e w' => e = .returned (.bool true) ∧ Below w0.heap.size w0 w' := by
  clear wi hT
  obtain ⟨ks, hkb, hKs⟩ := hK
  obtain ⟨ts, hSs⟩ := hS1
  obtain ⟨ns, hnb, hNs⟩ := hN
  have hR := Own.start w0
  go_enter Tryd.func3, Tryd.ntmps3
  go_wp2_with (first
    | ((with_reducible apply wpList_buildS hR); exact rfl; exact rfl; (exact bToks0); clear hR; intro gx w hR; simp only [List.set_cons_succ, List.set_cons_zero]))
  go_loopw [7, 8, 9] (fun ln v i wr => LayIs w0 ks.length ln v i wr) (fun _ _ i _ => 10 - (intOf i).toNat)
  case atStart => exact ⟨0, [], _, rfl, Nat.zero_le _, Nat.zero_le _, rfl, (fun _ h => nomatch h), rfl, hR, (RwIs.all rfl (by decide)).sl⟩
  case round =>
    clear hR
    obtain ⟨k, L, sl, rfl, hk10, hkn, hLk, hLo, rfl, hR, hS⟩ := hrel
    go_upto_region 3 with fail
    refine wp_region_tame hR [0, 1, 2, 3, 4, 5, 6, 7] rfl ?_
    repeat (refine wpT_step rfl ?_; first
    | ((first | (with_reducible apply q_pl) | ((with_reducible apply q_gd); (first | (apply GdBy.gt; exact rfl; exact rfl) | (apply GdBy.gf; exact rfl; exact rfl) | (apply GdBy.t; exact rfl; exact rfl) | (apply GdBy.f; exact rfl; exact rfl)))); (with_reducible apply t_lenRd Tryd.underlying22); (first | (apply EvC.gv; exact rfl; (with_reducible first | exact Imp.refl _ | (apply Imp.left; exact Imp.refl _) | (apply Imp.right; exact Imp.refl _) | (apply Imp.left; apply Imp.left; exact Imp.refl _))) | (apply EvC.now; exact rfl) | exact rfl | (with_reducible exact EvAll.nil) | (focus (repeat (first | apply EvAll.cons | exact EvAll.nil | (apply EvC.gv; exact rfl; (with_reducible first | exact Imp.refl _ | (apply Imp.left; exact Imp.refl _) | (apply Imp.right; exact Imp.refl _) | (apply Imp.left; apply Imp.left; exact Imp.refl _))) | (apply EvC.now; exact rfl))); done) | exact rfl | (focus (repeat (first | apply List.Mem.head | apply List.Mem.tail | apply List.mem_append_right)))); exact hKs; (simp only [List.set_cons_succ, List.set_cons_zero]; exact rfl))
    | ((first | (with_reducible apply q_pl) | ((with_reducible apply q_gd); (first | (apply GdBy.gt; exact rfl; exact rfl) | (apply GdBy.gf; exact rfl; exact rfl) | (apply GdBy.t; exact rfl; exact rfl) | (apply GdBy.f; exact rfl; exact rfl)))); (first | ((with_reducible first | apply t_move | apply t_assign | apply t_and | apply t_or | apply t_cmp | apply t_not | fail | fail) <;> (first | (apply EvC.gv; exact rfl; (with_reducible first | exact Imp.refl _ | (apply Imp.left; exact Imp.refl _) | (apply Imp.right; exact Imp.refl _) | (apply Imp.left; apply Imp.left; exact Imp.refl _))) | (apply EvC.now; exact rfl) | exact rfl | (with_reducible exact EvAll.nil) | (focus (repeat (first | apply EvAll.cons | exact EvAll.nil | (apply EvC.gv; exact rfl; (with_reducible first | exact Imp.refl _ | (apply Imp.left; exact Imp.refl _) | (apply Imp.right; exact Imp.refl _) | (apply Imp.left; apply Imp.left; exact Imp.refl _))) | (apply EvC.now; exact rfl))); done) | exact rfl | (focus (repeat (first | apply List.Mem.head | apply List.Mem.tail | apply List.mem_append_right)))))); (simp only [List.set_cons_succ, List.set_cons_zero]; exact rfl)))
    refine wpT_nil ?_
    clear hR; intro w hR
    go_upto_if 25 with fail
    by_cases hlt : k < ks.length ∧ k < 10
    · refine wp_cond_at (nm := true) rfl (by simp; omega) (fun _ => ?_) (fun h => absurd h (by decide))
      obtain ⟨hlt1, hlt2⟩ := hlt
      have HCV := Lib.hid (show IntKind.u64.wrap (k : Int) = (k : Int) from IntWalk.u64_in _ (by omega))
      obtain ⟨m0, hm0, hmb0⟩ := wrap_u64 ((k : Int) * 7919)
      have HM0 := Lib.hid hm0
      clear hm0
      go_upto_if 34 with (first
    | ((with_reducible apply q_ls hR); exact rfl; (with_reducible apply t_conv Tryd.underlying3 Tryd.underlying26); (apply EvC.now; exact rfl); exact HCV.out; (simp only [List.set_cons_succ, List.set_cons_zero]; exact rfl); clear hR; intro w hR)
    | ((with_reducible apply q_ls hR); exact rfl; (with_reducible apply t_numE (op := .mul)); (apply EvC.now; exact rfl); (apply EvC.now; exact rfl); exact rfl; exact HM0.out; (simp only [List.set_cons_succ, List.set_cons_zero]; exact rfl); clear hR; intro w hR)
    | ((with_reducible apply q_ls hR); exact rfl; (with_reducible apply t_lenRd Tryd.underlying23); (apply EvC.now; exact rfl); exact hSs.rd; (simp only [List.set_cons_succ, List.set_cons_zero]; exact rfl); clear hR; intro w hR))
      go_cut [10] (fun t wr => ∃ nt, t = .string (strOfNums nt) ∧ bytesOk nt ∧ Own w0 wr (sl ++ []))
      case first =>
        by_cases h1 : k < ts.length
        · refine wp_cond_at (nm := true) rfl (by simp; omega) (fun _ => ?_) (fun h => absurd h (by decide))
          obtain ⟨nt, hnt⟩ : ∃ nt, ts[k]? = some nt := ⟨_, List.getElem?_eq_getElem h1⟩
          have hnk := hSs.ok nt (List.mem_of_getElem? hnt)
          obtain ⟨a, cap, rfl, hc⟩ := hSs.el hnt
          have HX := Lib.hid (show w0.cell? (a.add ((k : Int).toNat * 1)) = some (.string (strOfNums nt)) by rw [Int.toNat_natCast, Nat.mul_one]; exact hc)
          clear hc hnt
          go_wp2_with (first
    | ((with_reducible apply q_ls hR); exact rfl; (with_reducible apply t_six Tryd.underlying23 iStrO); (apply EvC.now; exact rfl); (apply EvC.now; exact rfl); (constructor <;> omega); (simp only [List.set_cons_succ, List.set_cons_zero]; exact rfl); clear hR; intro w hR)
    | ((with_reducible apply q_ls hR); exact rfl; (with_reducible apply t_oldOne tStrO); (apply EvC.now; exact rfl); exact HX.out; exact rfl; (simp only [List.set_cons_succ, List.set_cons_zero]; exact rfl); clear hR; intro w hR))
          go_meet
          exact ⟨nt, rfl, hnk, hR⟩
        · refine wp_cond_at (nm := false) rfl (by simp; omega) (fun h => absurd h (by decide)) (fun _ => ?_)
          go_wp2_with fail
          go_meet
          exact ⟨[], rfl, .nil, hR⟩
      case rest =>
      clear hR HCV HM0
      obtain ⟨nt, rfl, hnk, hR⟩ := hcut
      go_upto_if 42 with (first
    | ((with_reducible apply q_ls hR); exact rfl; (with_reducible apply t_lenRd Tryd.underlying24); (apply EvC.now; exact rfl); exact hNs; (simp only [List.set_cons_succ, List.set_cons_zero]; exact rfl); clear hR; intro w hR))
      go_cut [11] (fun m wr => ∃ mm : Nat, m = .int .u64 mm ∧ mm ≤ 18446744073709551615 ∧ Own w0 wr (sl ++ []))
      case first =>
        by_cases h1 : k < ns.length
        · refine wp_cond_at (nm := true) rfl (by simp; omega) (fun _ => ?_) (fun h => absurd h (by decide))
          obtain ⟨mm, hmm⟩ : ∃ mm, ns[k]? = some mm := ⟨_, List.getElem?_eq_getElem h1⟩
          have hmk := hnb mm (List.mem_of_getElem? hmm)
          obtain ⟨a, cap, rfl, hc⟩ := Rd.el cellV_len hNs hmm
          have HX := Lib.hid (show w0.cell? (a.add ((k : Int).toNat * 1)) = some (.int .u64 (mm : Int)) by rw [Int.toNat_natCast]; have := hc 0 _ rfl; rwa [show (a.add (k * 1)).add 0 = a.add (k * 1) by simp [Addr.add]] at this)
          clear hc hmm
          go_wp2_with (first
    | ((with_reducible apply q_ls hR); exact rfl; (with_reducible apply t_six Tryd.underlying24 iNumL); (apply EvC.now; exact rfl); (apply EvC.now; exact rfl); (constructor <;> omega); (simp only [List.set_cons_succ, List.set_cons_zero]; exact rfl); clear hR; intro w hR)
    | ((with_reducible apply q_ls hR); exact rfl; (with_reducible apply t_oldOne tNumL); (apply EvC.now; exact rfl); exact HX.out; exact rfl; (simp only [List.set_cons_succ, List.set_cons_zero]; exact rfl); clear hR; intro w hR))
          go_meet
          exact ⟨mm, rfl, hmk, hR⟩
        · refine wp_cond_at (nm := false) rfl (by simp; omega) (fun h => absurd h (by decide)) (fun _ => ?_)
          go_wp2_with fail
          go_meet
          exact ⟨m0, rfl, hmb0, hR⟩
      case rest =>
      clear hR
      obtain ⟨mm, rfl, hmk, hR⟩ := hcut
      obtain ⟨x, hx⟩ : ∃ x, ks[k]? = some x := ⟨_, List.getElem?_eq_getElem hlt1⟩
      obtain ⟨ak, ck, rfl, hcx⟩ := hKs.el hx
      have HX := Lib.hid (show w0.cell? (ak.add ((k : Int).toNat * 1)) = some (.int .i64 x) by rw [Int.toNat_natCast, Nat.mul_one]; exact hcx)
      obtain ⟨kk, hkk⟩ : ∃ kk : Nat, x % 256 = kk := Int.eq_ofNat_of_zero_le (by omega)
      have HA := Lib.hid (show bits .and .i64 x 255 = (kk : Int) from (i64_mask x 8 255 (by decide) (by decide)).trans hkk)
      have hkk5 : kk ≤ 255 := by omega
      obtain ⟨y, hy⟩ : ∃ y, x / 2 ^ 8 = y := ⟨_, rfl⟩
      have HY := Lib.hid hy
      obtain ⟨j, hj⟩ : ∃ j : Nat, y % 4 = j := Int.eq_ofNat_of_zero_le (by omega)
      have HB := Lib.hid (show bits .and .i64 y 3 = (j : Int) from (i64_mask y 2 3 (by decide) (by decide)).trans hj)
      have hj4 : j < 4 := by omega
      obtain ⟨sp, hsp, hspl, hspb⟩ := sep_at hj4
      have HSP := Lib.hid hsp
      clear hx hcx hkk hy hj hsp
      have hpo := pieceP_ok kk nt mm
      have hp0 := piece28_any kk hkk5 hnk mm hmk
      unfold PieceGoal at hp0
      obtain ⟨p, hp⟩ : ∃ p, pieceP kk nt mm = p := ⟨_, rfl⟩
      rw [hp] at hpo hp0
      obtain ⟨pt, tk⟩ := p
      dsimp only at hpo hp0
      clear hp
      have HP := Lib.hid hp0
      clear hp0
      obtain ⟨hrd, hpl, htk⟩ := hpo
      have hxo : ItZ.ok ⟨sp, pt, tk⟩ := ⟨hspb, hrd, by dsimp only; omega, htk⟩
      have HLM := Lib.hid (lineS_more L ⟨sp, pt, tk⟩)
      dsimp only at HLM
      have hll := lineS_len hLo
      have hc1 : sp.length + pt.length ≤ 1000000 := by omega
      have hc2 : (lineS L).length + (sp ++ pt).length ≤ 1000000 := by rw [List.length_append]; omega
      have hLo2 : ∀ x ∈ L ++ [(⟨sp, pt, tk⟩ : ItZ)], x.ok := fun x hx => (List.mem_append.1 hx).elim (hLo x) (fun h => by rw [List.mem_singleton.1 h]; exact hxo)
      have HK := Lib.hid (show IntKind.i64.wrap ((k : Int) + 1) = ((k + 1 : Nat) : Int) by rw [IntWalk.i64_in _ (by omega)]; omega)
      generalize hf : sp ++ pt = f1 at *
      have HF := Lib.hid hf
      clear hf
      go_wp2_with (first
    | ((with_reducible apply q_ls hR); exact rfl; (with_reducible apply t_six Tryd.underlying22 iIntL); (apply EvC.now; exact rfl); (apply EvC.now; exact rfl); (constructor <;> omega); (simp only [List.set_cons_succ, List.set_cons_zero]; exact rfl); clear hR; intro w hR)
    | ((with_reducible apply q_ls hR); exact rfl; (with_reducible apply t_oldOne tIntL); (apply EvC.now; exact rfl); exact HX.out; exact rfl; (simp only [List.set_cons_succ, List.set_cons_zero]; exact rfl); clear hR; intro w hR)
    | ((with_reducible apply q_ls hR); exact rfl; (with_reducible apply t_numE (op := .and)); (apply EvC.now; exact rfl); (apply EvC.now; exact rfl); exact rfl; (with_reducible first | exact HA.out | exact HB.out); (simp only [List.set_cons_succ, List.set_cons_zero]; exact rfl); clear hR; intro w hR)
    | ((with_reducible apply q_ls hR); exact rfl; (with_reducible apply t_shrE (k := 8)); (apply EvC.now; exact rfl); (apply EvC.now; exact rfl); exact rfl; decide; exact HY.out; (simp only [List.set_cons_succ, List.set_cons_zero]; exact rfl); clear hR; intro w hR)
    | (go_at_call 5; refine (HP.out _).mono ?_; rintro e w' ⟨rfl, hb⟩; replace hR := hR.grow hb; clear hb)
    | ((with_reducible apply wpList_make hR zTok); exact rfl; clear hR; intro g w hR; simp only [List.set_cons_succ, List.set_cons_zero])
    | ((with_reducible apply wpList_built); exact rfl; exact rfl; exact bTok0; (simp only [List.set_cons_succ, List.set_cons_zero]; exact rfl))
    | ((with_reducible apply wpList_put hR tTok); exact rfl; exact rfl; exact rfl; (focus (repeat (first | apply List.Mem.head | apply List.Mem.tail | apply List.mem_append_right))); exact putList_all rfl; exact rfl; (exact Nat.le_refl 4); exact one_tok _; (focus (repeat (first | apply Upd.head | apply Upd.tail))); clear hR; intro w hR)
    | ((with_reducible apply wpList_buildS hR); exact rfl; exact rfl; (exact bSeps); clear hR; intro gs w hR; simp only [List.set_cons_succ, List.set_cons_zero])
    | ((with_reducible apply q_ls hR); exact rfl; (with_reducible apply t_sixG (k := j) Tryd.underlying23 iStrO); (apply EvC.now; exact rfl); (apply EvC.now; exact rfl); exact rfl; exact hj4; (simp only [List.set_cons_succ, List.set_cons_zero]; exact rfl); clear hR; intro w hR)
    | ((with_reducible apply q_ls hR); exact rfl; (with_reducible apply t_one tStrO); (apply EvC.now; exact rfl); (focus (repeat (first | apply List.Mem.head | apply List.Mem.tail | apply List.mem_append_right))); exact HSP.out; (simp only [List.set_cons_succ, List.set_cons_zero]; exact rfl); clear hR; intro w hR)
    | ((with_reducible apply q_ls hR); exact rfl; (with_reducible apply t_catE); (apply EvC.now; exact rfl); (apply EvC.now; exact rfl); (first | exact hc1 | exact hc2); (with_reducible first | exact HF.out | exact HLM.out); (simp only [List.set_cons_succ, List.set_cons_zero]; exact rfl); clear hR; intro w hR)
    | ((with_reducible apply q_ls hR); exact rfl; (with_reducible apply t_part tTok); (apply EvC.now; exact rfl); (focus (repeat (first | apply List.Mem.head | apply List.Mem.tail | apply List.mem_append_right))); exact extract_all rfl; exact rfl; (simp only [List.set_cons_succ, List.set_cons_zero]; exact rfl); clear hR; intro w hR)
    | ((with_reducible apply wpList_buildS hR); exact rfl; exact rfl; (exact bToks1 _); clear hR; intro gb w hR; simp only [List.set_cons_succ, List.set_cons_zero])
    | ((with_reducible apply wpList_appG hR tToksB); exact rfl; exact rfl; exact rfl; exact hS; (exact Les.tail (Les.tail (Les.tail Les.head))); (exact rd_one (z := tk) cellsTok_len cellsTok_one hR (.head _)); (simp only [maxLen]; omega); omega; clear hR hS; intro s3 v3 w hR hS; simp only [List.set_cons_succ, List.set_cons_zero])
    | ((with_reducible apply q_ls hR); exact rfl; (with_reducible apply t_numE (op := .add)); (apply EvC.now; exact rfl); (apply EvC.now; exact rfl); exact rfl; exact HK.out; (simp only [List.set_cons_succ, List.set_cons_zero]; exact rfl); clear hR; intro w hR))
      go_round
      case rel =>
        exact ⟨k + 1, L ++ [⟨sp, pt, tk⟩], s3, rfl, by omega, by omega, by rw [List.length_append, hLk]; rfl, hLo2, rfl, hR.drop (List.Sublist.append (List.Sublist.refl _) (List.nil_sublist _)), hS.cast (by simp)⟩
      case measure => simp [intOf]; omega
    · refine wp_cond_at (nm := false) rfl (by rw [Bool.and_eq_false_iff]; by_cases h : k < ks.length; exact .inr (decide_eq_false (by omega)); exact .inl (decide_eq_false (by omega))) (fun h => absurd h (by decide)) (fun _ => ?_)
      have hLl : L.length ≤ 10 := by omega
      clear hlt hk10 hkn hKs hSs hNs hnb hkb
      have hback := line_back hLo hLl
      have hll := lineS_len hLo
      have hlk : bytesOk (lineS L ++ tailL) := fun c hc => (List.mem_append.1 hc).elim (fun h => (lineS_read hLo).ascii.ok c h) (fun h => (ascii_of (s := tailL) rfl).ok c h)
      have HLINE := Lib.hid (line_is hlk hback)
      have hcl : (lineS L).length + tailL.length ≤ 1000000 := by show _ + 20 ≤ _; omega
      have htl : (L.map (·.t)).length = k := by rw [List.length_map]; exact hLk
      have ht10 : (L.map (·.t)).length ≤ 10 := by rw [List.length_map]; exact hLl
      generalize hts : L.map (·.t) = tl at *
      generalize hf : lineS L ++ tailL = full at *
      have HF := Lib.hid hf
      clear hf hts hback hLo hLl hll hLk hlk
      go_upto_region 14 with (first
    | ((with_reducible apply q_ls hR); exact rfl; (with_reducible apply t_catE); (apply EvC.now; exact rfl); (exact lit_now lTAIL); exact hcl; exact HF.out; (simp only [List.set_cons_succ, List.set_cons_zero]; exact rfl); clear hR; intro w hR)
    | (go_at_call 6; refine (HLINE.out _).mono ?_; rintro e w2 ⟨v14, rfl, hb, hV⟩; replace hR := hR.grow hb; clear hb))
      have hW : RowsAt 4 cellsTok w2 u8 tl := by
        have := hS.rd hR (fun r hr => List.mem_append_left _ hr) (flat_ones cellsTok_one _)
        unfold RowsAt
        rw [htl]; exact this
      have hB := hR
      clear hR hS HF hcl HLINE htl
      have hR := Own.start w2
      go_upto_if 89 with (first
    | ((with_reducible apply q_ls hR); exact rfl; (with_reducible first | apply t_lenRd Tryd.underlying25); (apply EvC.now; exact rfl); (first | exact hV | exact hW); (simp only [List.set_cons_succ, List.set_cons_zero]; exact rfl); clear hR; intro w hR)
    | ((with_reducible apply q_ls hR); exact rfl; (with_reducible apply t_cmp (op := .neq)); (apply EvC.now; exact rfl); (apply EvC.now; exact rfl); exact cmp_nselfS _; (simp only [List.set_cons_succ, List.set_cons_zero]; exact rfl); clear hR; intro w hR))
      refine wp_cond_at (nm := false) rfl rfl (fun h => absurd h (by decide)) (fun _ => ?_)
      go_wp2_with fail
      go_loopw [16] (fun i wr => ∃ q : Nat, i = .int .i64 q ∧ q ≤ tl.length ∧ Own w2 wr []) (fun i _ => tl.length - (intOf i).toNat)
      case atStart => exact ⟨0, rfl, Nat.zero_le _, hR⟩
      case round =>
        clear hR
        obtain ⟨q, rfl, hq, hR⟩ := hrel
        by_cases hlt : q < tl.length
        · obtain ⟨tk, htk⟩ : ∃ tk, tl[q]? = some tk := ⟨_, List.getElem?_eq_getElem hlt⟩
          obtain ⟨a, ca, rfl, hca⟩ := RowsAt.el cellsTok_len hV htk
          obtain ⟨b, cb, rfl, hcb⟩ := RowsAt.el cellsTok_len hW htk
          have HL := Lib.hid (show cmpB .lss (q : Int) (tl.length : Int) = some true from congrArg some (decide_eq_true (by omega)))
          have HK := Lib.hid (show IntKind.i64.wrap ((q : Int) + 1) = ((q + 1 : Nat) : Int) by rw [IntWalk.i64_in _ (by omega)]; omega)
          have HCA := Lib.hid (show ∀ w, Own w2 w [] → ∀ j u, (encTok tk).toList[j]? = some u → w.cell? ((a.add ((q : Int).toNat * 4)).add j) = some u from fun w hO j u hu => by
            rw [Int.toNat_natCast]
            have := hca j u hu
            exact (hO.below.cell (World.block_lt_of_cell? w2 _ this)).trans this)
          have HCB := Lib.hid (show ∀ w, Own w2 w [] → ∀ j u, (encTok tk).toList[j]? = some u → w.cell? ((b.add ((q : Int).toNat * 4)).add j) = some u from fun w hO j u hu => by
            rw [Int.toNat_natCast]
            have := hcb j u hu
            exact (hO.below.cell (World.block_lt_of_cell? w2 _ this)).trans this)
          clear hca hcb htk
          go_upto_region 19 with (first
    | ((with_reducible apply q_ls hR); exact rfl; (with_reducible apply t_len Tryd.underlying25); (apply EvC.now; exact rfl); (simp only [List.set_cons_succ, List.set_cons_zero]; exact rfl); clear hR; intro w hR)
    | ((with_reducible apply q_ls hR); exact rfl; (with_reducible apply t_cmp); (apply EvC.now; exact rfl); (apply EvC.now; exact rfl); exact HL.out; (simp only [List.set_cons_succ, List.set_cons_zero]; exact rfl); clear hR; intro w hR))
          refine wp_region_rows hR [0, 1, 2, 3, 4, 5, 6, 7, 8] 0 (by kernel_rfl) (by kernel_rfl) (by kernel_rfl) rfl ?_
          clear hR; intro hR
          repeat (refine wpT_step rfl ?_; first
    | ((with_reducible apply q_pl); (with_reducible apply t_six Tryd.underlying25 iTok); (apply EvC.now; exact rfl); (apply EvC.now; exact rfl); (constructor <;> omega); (simp only [List.set_cons_succ, List.set_cons_zero]; exact rfl))
    | ((with_reducible apply q_pl); (with_reducible apply t_manyW tTok); (apply EvC.now; exact rfl); (first | exact HCA.out | exact HCB.out); exact rfl; (simp only [List.set_cons_succ, List.set_cons_zero]; exact rfl))
    | ((with_reducible apply q_pl); (with_reducible apply t_nel gTok); (apply EvC.now; exact rfl); (apply EvC.now; exact rfl); exact eqTok_self tk; (simp only [List.set_cons_succ, List.set_cons_zero]; exact rfl))
    | ((first | (with_reducible apply q_pl) | ((with_reducible apply q_gd); (first | (apply GdBy.gt; exact rfl; exact rfl) | (apply GdBy.gf; exact rfl; exact rfl) | (apply GdBy.t; exact rfl; exact rfl) | (apply GdBy.f; exact rfl; exact rfl)))); (first | ((with_reducible first | apply t_move | apply t_assign | apply t_and | apply t_or | apply t_cmp | apply t_not | fail | fail) <;> (first | (apply EvC.gv; exact rfl; (with_reducible first | exact Imp.refl _ | (apply Imp.left; exact Imp.refl _) | (apply Imp.right; exact Imp.refl _) | (apply Imp.left; apply Imp.left; exact Imp.refl _))) | (apply EvC.now; exact rfl) | exact rfl | (with_reducible exact EvAll.nil) | (focus (repeat (first | apply EvAll.cons | exact EvAll.nil | (apply EvC.gv; exact rfl; (with_reducible first | exact Imp.refl _ | (apply Imp.left; exact Imp.refl _) | (apply Imp.right; exact Imp.refl _) | (apply Imp.left; apply Imp.left; exact Imp.refl _))) | (apply EvC.now; exact rfl))); done) | exact rfl | (focus (repeat (first | apply List.Mem.head | apply List.Mem.tail | apply List.mem_append_right)))))); (simp only [List.set_cons_succ, List.set_cons_zero]; exact rfl)))
          refine wpG_end hR (by kernel_rfl) ?_
          clear hR; intro w hR
          go_upto_if 104 with fail
          refine wp_cond_at (nm := false) rfl rfl (fun h => absurd h (by decide)) (fun _ => ?_)
          go_wp2_with (first
    | ((with_reducible apply q_ls hR); exact rfl; (with_reducible apply t_numE (op := .add)); (apply EvC.now; exact rfl); (apply EvC.now; exact rfl); exact rfl; exact HK.out; (simp only [List.set_cons_succ, List.set_cons_zero]; exact rfl); clear hR; intro w hR))
          go_round
          case rel => exact ⟨q + 1, rfl, hlt, hR⟩
          case measure => simp [intOf]; omega
        · have HL := Lib.hid (show cmpB .lss (q : Int) (tl.length : Int) = some false from congrArg some (decide_eq_false (by omega)))
          go_wp2_with (first
    | ((with_reducible apply q_ls hR); exact rfl; (with_reducible apply t_lenRd Tryd.underlying25); (apply EvC.now; exact rfl); exact hV; (simp only [List.set_cons_succ, List.set_cons_zero]; exact rfl); clear hR; intro w hR)
    | ((with_reducible apply q_ls hR); exact rfl; (with_reducible apply t_cmp); (apply EvC.now; exact rfl); (apply EvC.now; exact rfl); exact HL.out; (simp only [List.set_cons_succ, List.set_cons_zero]; exact rfl); clear hR; intro w hR)
    | (go_at_call 7; refine (awake28_any _).mono ?_; rintro e w' ⟨rfl, hb⟩; replace hR := hR.grow hb; clear hb))
          go_ret
          exact ⟨rfl, (hB.grow hR.below).below⟩

set_option maxRecDepth 100000 in
theorem lifted (os : Os) (started : os.Started) (H : Type) (enc : TypeId × Value → H) :
    ReturnsInHanded {} Tryd.checked os 3 .any (fun w args => (Rows.lexLinesSpec.pre enc Tryd.prog Tryd.f3 [] false w args ∧ laidMetH Tryd.prog laid2 w) ∧ sizedMet enc Tryd.prog Tryd.f3 (OpenSpec.ofChange Rows.lexLinesSpec) false w args)
      (Rows.lexLinesSpec.post enc Tryd.prog Tryd.f3 false true false false) := by
  refine returnsInHanded_of_change_and (C := Tryd.checked) (X := fun w _ => laidMetH Tryd.prog laid2 w) (fun _ _ _ hh h => h.of_heap hh) own started (by kernel_rfl) Tryd.func3
    (ChangeSpec.witness_shaped (enc := enc) (C := Tryd.checked) (os := os) (X := fun w _ => laidMetH Tryd.prog laid2 w) false (World.laidAll Tryd.prog os laid2) #[.slice none 0 0, .slice none 0 0, .slice none 0 0] 8 (World.laidAll_os _ _ _) (World.shaped_of_ZipB (by kernel_rfl) (by kernel_rfl)) (by kernel_rfl) (by kernel_rfl) (by kernel_rfl) (by rw [MakeChecks.laidMetH_plain _ _ _ (by kernel_rfl)]; exact laidMet_laidAll _ (by kernel_rfl) (by kernel_rfl))) ?_
  intro W base args ds gs before hval0 hW _ _ hL _
  have hval : ∀ (j : Nat) t v, Tryd.f3.params[j]? = some t → args[j]? = some v → Value.okWide Tryd.prog W .any base t v := hval0
  have hW' := hW
  obtain ⟨p, q, hA0, hV, rfl, hfz, hnd⟩ := hW
  have hA : DataW.TrodAll enc Tryd.prog W 0 (fun _ => true) true Tryd.f3.params.toList args.toList ds p := hA0
  rw [Tryd.params3] at hA hval
  obtain ⟨v0, vs0, d0, ds0, p0, q0, hargs, rfl, rfl, h0, r0⟩ := trodAll_cons hA
  obtain ⟨v1, vs1, d1, ds1, p1, q1, rfl, rfl, rfl, h1, r1⟩ := trodAll_cons r0
  obtain ⟨v2, vs2, d2, ds2, p2, q2, rfl, rfl, rfl, h2, r2⟩ := trodAll_cons r1
  obtain ⟨rfl, rfl, rfl⟩ := trodAll_nil r2
  obtain rfl : args = #[v0, v1, v2] := by cases args; simp_all
  obtain ⟨rfl, rfl⟩ := trodVars_none hV
  have k0 := h0
  have lt0 : ∀ x ∈ p0, x.block < W.heap.size := by obtain ⟨m, hm⟩ := k0; exact DataW.trod_lt m _ _ _ hm
  have o0 := open_i64s (hval 0 22 v0 rfl rfl) h0
  have k1 := h1
  have lt1 : ∀ x ∈ p1, x.block < W.heap.size := by obtain ⟨m, hm⟩ := k1; exact DataW.trod_lt m _ _ _ hm
  have o1 := open_strs (hval 1 23 v1 rfl rfl) h1
  have k2 := h2
  have lt2 : ∀ x ∈ p2, x.block < W.heap.size := by obtain ⟨m, hm⟩ := k2; exact DataW.trod_lt m _ _ _ hm
  have o2 := open_u64s (hval 2 24 v2 rfl rfl) h2
  clear hA0 hval0
  refine (walk v0 o0 v1 o1 v2 o2 W (of_laid hL)).mono fun e W' ⟨he, bel⟩ => ?_
  subst he
  exact ⟨_, rfl, _, _, _, [], _, [], hW', trodAll_mk1 (shut_bool Tryd.underlying4 _), (trodAll_cons_mk (Below.trod laidOut (by kernel_rfl) (of_decide_eq_true (by kernel_rfl)) k0 bel lt0) (trodAll_cons_mk (Below.trod laidOut (by kernel_rfl) (of_decide_eq_true (by kernel_rfl)) k1 bel lt1) (trodAll_cons_mk (Below.trod laidOut (by kernel_rfl) (of_decide_eq_true (by kernel_rfl)) k2 bel lt2) trodAll_mk0))), rfl, bel.frame _, fun h => by cases h⟩

theorem over : Rows.lexLinesRow.holds Tryd.pinned (OpenSpec.ofChange Rows.lexLinesSpec) :=
  OpenClaim.holds_of_wide 3 Tryd.f3 rfl rfl rfl rfl rfl rfl rfl ⟨rfl, rfl, rfl, rfl, rfl⟩ rfl rfl rfl rfl rfl (by kernel_rfl) Tryd.func3 (by kernel_rfl)
    (of_decide_eq_true (by kernel_rfl)) (by unfold Func.isWrapper; first | (rw [if_pos (by decide +kernel)]; kernel_rfl) | (rw [if_neg (by decide +kernel)]; exact ⟨rfl, rfl⟩))
    (fun os started H enc _ => lifted os started H enc)

theorem proved : Rows.LexLinesCardSaid :=
  Claim7.holds_tied_plain_at .later [] [.data, .pinned] true Rows.lexLinesCard.stood.harness false
    over (fun _ h => by cases h) (by kernel_rfl) (fun _ h => by cases h) lexLines_row_tie rfl ⟨rfl, rfl⟩ (by kernel_rfl) rfl
    (fun f fn hf hfn => by
      obtain rfl : f = 3 := Option.some.inj ((show Tryd.prog.funcNamed "hansom/hansomlaw28.LexLines" = some 3 by kernel_rfl).symm.trans hf) |>.symm
      obtain rfl : fn = Tryd.f3 := (Option.some.inj (Tryd.func3.symm.trans hfn)).symm
      exact ⟨by kernel_rfl, fun j t ht => by
        rw [Tryd.params3] at ht
        have hm : t ∈ [22, 23, 24] := by simpa using Array.mem_of_getElem? ht
        have hall : ([22, 23, 24].all fun u => !Tryd.prog.wantsStandIn u) = true := by kernel_rfl
        exact (show Tryd.prog.wantsStandIn t = false by simpa using List.all_eq_true.1 hall t hm)⟩)
    (by kernel_rfl)
#print axioms proved
end Go.Proofs.YtjgkhhbjmheihaaDoor.lexLines
