









/- The contract of the reference's Toks. No statement of the seat is proved here. -/
import Derived.Test.YtckkgooabnlooaaDoorExpT
namespace Go.Proofs.YtckkgooabnlooaaDoor
open Go.ChangeShapes Go.WideShapes Go.ChangeAt Go.RowKit
set_option linter.unusedVariables false
set_option linter.unusedSimpArgs false
set_option maxRecDepth 100000

/-- Which piece a word stands for. -/
inductive TokIs : List Int → TokZ → Prop where
  | num {ds : List Int} {n : Nat} (h : Digs ds n) : TokIs (35 :: ds) ⟨2, [], n, 0⟩
  | sign {c : Int} (hb : 0 ≤ c ∧ c ≤ 255) (h : c < 65 ∨ 90 < c) (h' : c ≠ 36) : TokIs [c] ⟨4, [c], 0, 0⟩
  | name {c d : Int} {r : List Int} (hb : bytesOk (c :: d :: r)) (h : c ≠ 35) : TokIs (c :: d :: r) ⟨1, c :: d :: r, 0, 0⟩
inductive ToksAre : List (List Int) → List TokZ → Prop where
  | nil : ToksAre [] []
  | cons {s : List Int} {t : TokZ} {ss : List (List Int)} {ts : List TokZ} (h : TokIs s t) (hs : ToksAre ss ts) : ToksAre (s :: ss) (t :: ts)
theorem ToksAre.len {ss : List (List Int)} {ts : List TokZ} (h : ToksAre ss ts) : ss.length = ts.length := by
  induction h with
  | nil => rfl
  | cons _ _ ih => simp [ih]
theorem ToksAre.at {ss : List (List Int)} {ts : List TokZ} (h : ToksAre ss ts) : ∀ {k : Nat} {s : List Int}, ss[k]? = some s → ∃ t, ts[k]? = some t ∧ TokIs s t := by
  induction h with
  | nil => intro k s hk; exact nomatch hk
  | cons h _ ih =>
    intro k s hk
    rcases k with _ | k
    · obtain rfl := Option.some.inj hk; exact ⟨_, rfl, h⟩
    · exact ih hk
theorem ToksAre.append {a b : List (List Int)} {x y : List TokZ} (h : ToksAre a x) (h' : ToksAre b y) : ToksAre (a ++ b) (x ++ y) := by
  induction h with
  | nil => exact h'
  | cons h _ ih => exact .cons h ih
theorem TokIs.ok {s : List Int} {t : TokZ} (h : TokIs s t) : bytesOk t.s := by
  cases h with
  | num _ => exact .nil
  | sign hb _ _ => exact .cons hb .nil
  | name hb _ => exact hb
theorem TokIs.okS {s : List Int} {t : TokZ} (h : TokIs s t) : bytesOk s := by
  cases h with
  | num h => exact .cons ⟨by decide, by decide⟩ h.ok
  | sign hb _ _ => exact .cons hb .nil
  | name hb _ => exact hb
theorem ToksAre.ok {ss : List (List Int)} {ts : List TokZ} (h : ToksAre ss ts) : ∀ t ∈ ts, bytesOk t.s := by
  induction h with
  | nil => intro t ht; exact nomatch ht
  | cons h _ ih =>
    intro t ht
    cases ht with
    | head => exact h.ok
    | tail _ ht => exact ih t ht
theorem ToksAre.okS {ss : List (List Int)} {ts : List TokZ} (h : ToksAre ss ts) : ∀ t ∈ ss, bytesOk t := by
  induction h with
  | nil => intro t ht; exact nomatch ht
  | cons h _ ih =>
    intro t ht
    cases ht with
    | head => exact h.okS
    | tail _ ht => exact ih t ht
theorem bToks0 : BuiltS Tryd.prog 31 0 [] 59 #[] := ⟨fun w => by simp [go_sem]⟩
def TkIs (w0 : World) (ts : List TokZ) (vo vi : Value) (wr : World) : Prop :=
  ∃ (k : Nat) (sl : List RowT), vi = .int .i64 k ∧ k ≤ ts.length ∧ Own w0 wr (sl ++ []) ∧ Sl 59 4 sl vo k ((ts.take k).flatMap cellsTok)
theorem take_more {ts : List TokZ} {k : Nat} {t : TokZ} (h : ts[k]? = some t) : (ts.take k).flatMap cellsTok ++ cellsTok t = (ts.take (k + 1)).flatMap cellsTok := by
  rw [List.take_add_one, h, List.flatMap_append]
  simp
set_option maxHeartbeats 8000000 in
theorem toksE_any {w0 : World} {v : Value} {ss : List (List Int)} {ts : List TokZ} (hA : ToksAre ss ts) (hSt : Strs w0 v ss) (hlen : ss.length ≤ 1000) :
    Calls Tryd.prog 9 #[v] w0 fun e w' => ∃ v', e = .returned v' ∧ Below w0.heap.size w0 w' ∧ Toks w' v' ts := by
  have hR := Own.start w0
  have h := hSt.rd
  have HL2 := Lib.hid hA.len
  go_enter Tryd.func9, Tryd.ntmps9
  go_wp2_with (first
    | ((with_reducible apply wpList_buildS hR); exact rfl; exact rfl; (exact bToks0); clear hR; intro gb w hR; simp only [cS, cZ]))
  go_loopw [3, 4] (fun vo vi wr => TkIs w0 ts vo vi wr) (fun _ vi _ => ts.length - (intOf vi).toNat)
  case atStart => exact ⟨0, [(gb, #[], 59)], rfl, Nat.zero_le _, hR, ⟨rfl, .inr ⟨gb, 0, #[], rfl, rfl, Nat.le_refl _, Nat.zero_le _, rfl, rfl⟩⟩⟩
  case round =>
    clear hR
    obtain ⟨k, sl, rfl, hk, hR, hS⟩ := hrel
    by_cases hlt : k < ts.length
    · obtain ⟨s, hs⟩ : ∃ s, ss[k]? = some s := ⟨_, List.getElem?_eq_getElem (by have := HL2.out; omega)⟩
      obtain ⟨t, ht, hti⟩ := hA.at hs
      have HL := Lib.hid (show cmpB .lss (k : Int) (ss.length : Int) = some true from congrArg some (decide_eq_true (by have := HL2.out; omega)))
      have hc : (ss.flatMap cellT)[k]? = some (.string (strOfNums s)) := by rw [flatT_at, hs]; rfl
      rcases h.way with ⟨_, h2, _⟩ | ⟨a, cap, rfl, hle, hcell⟩
      · have := HL2.out; omega
      have HC := Lib.hid (show w0.cell? (a.add ((k : Int).toNat * 1)) = some (.string (strOfNums s)) by rw [Nat.mul_one]; exact hcell _ _ hc)
      have hso := hti.okS
      have HTK := Lib.hid ht
      have hkl : k < ss.length := by have := HL2.out; omega
      clear hcell hc hs ht
      go_upto_region 7 with (first
    | ((with_reducible apply q_ls hR); exact rfl; (with_reducible apply t_lenRd Tryd.underlying23); (apply EvC.now; exact rfl); exact h; (simp only [cS, cZ]; exact rfl); clear hR; intro w hR)
    | ((with_reducible apply q_ls hR); exact rfl; (with_reducible apply t_cmp (op := .lss)); (apply EvC.now; exact rfl); (apply EvC.now; exact rfl); exact HL.out; (simp only [cS, cZ]; exact rfl); clear hR; intro w hR)
    | ((with_reducible apply q_ls hR); exact rfl; (with_reducible apply t_six Tryd.underlying23 iStrE); (apply EvC.now; exact rfl); (apply EvC.now; exact rfl); (constructor <;> omega); (simp only [cS, cZ]; exact rfl); clear hR; intro w hR)
    | ((with_reducible apply q_ls hR); exact rfl; (with_reducible apply t_oldOne tStrE); (apply EvC.now; exact rfl); (exact HC.out); exact rfl; (simp only [cS, cZ]; exact rfl); clear hR; intro w hR))
      cases hti with
      | @num ds n hd =>
        have HZ := Lib.hid (show (35 :: ds)[0]? = some (35 : Int) from rfl)
        have hn := hd.lt
        have HW := Lib.hid (show IntKind.u64.wrap (n : Int) = (n : Int) from IntWalk.u64_in _ (by omega))
        have HD := Lib.hid (show (decide (1 < ((35 :: ds).length : Int)) && ((35 : Int) == 35)) = true by
          cases hd with
          | one _ => rfl
          | two _ _ => rfl)
        have HAT := Lib.hid (atoi_any hd)
        have HDR := Lib.hid (show 1 ≤ (35 :: ds).length from by simp)
        clear hd
        refine wp_region_tame hR [0, 1, 2, 3, 4, 5, 6, 7, 8] rfl ?_
        repeat (refine wpT_step rfl ?_; first
            | ((first | (with_reducible apply q_pl) | ((with_reducible apply q_gd); (first | (apply GdBy.gt; exact rfl; exact rfl) | (apply GdBy.gf; exact rfl; exact rfl) | (apply GdBy.t; exact rfl; exact rfl) | (apply GdBy.f; exact rfl; exact rfl)))); (with_reducible apply t_lenN Tryd.underlying9); (first | (focus (repeat (first | (apply EvC.gv; exact rfl; (with_reducible first | exact Imp.refl _ | (apply Imp.left; exact Imp.refl _) | (apply Imp.right; exact Imp.refl _) | (apply Imp.left; apply Imp.left; exact Imp.refl _))) | (apply EvC.now; exact rfl) | (with_reducible first | apply EvAll.cons | exact EvAll.nil))); done) | exact rfl | fail | (focus (repeat (first | apply List.Mem.head | apply List.Mem.tail | apply List.mem_append_right)))); (simp only [cS, cZ]; exact rfl))
            | ((first | (with_reducible apply q_pl) | ((with_reducible apply q_gd); (first | (apply GdBy.gt; exact rfl; exact rfl) | (apply GdBy.gf; exact rfl; exact rfl) | (apply GdBy.t; exact rfl; exact rfl) | (apply GdBy.f; exact rfl; exact rfl)))); (with_reducible apply t_atN Tryd.underlying9 hso (k := 0)); (first | (focus (repeat (first | (apply EvC.gv; exact rfl; (with_reducible first | exact Imp.refl _ | (apply Imp.left; exact Imp.refl _) | (apply Imp.right; exact Imp.refl _) | (apply Imp.left; apply Imp.left; exact Imp.refl _))) | (apply EvC.now; exact rfl) | (with_reducible first | apply EvAll.cons | exact EvAll.nil))); done) | exact rfl | fail | (focus (repeat (first | apply List.Mem.head | apply List.Mem.tail | apply List.mem_append_right)))); (first | (focus (repeat (first | (apply EvC.gv; exact rfl; (with_reducible first | exact Imp.refl _ | (apply Imp.left; exact Imp.refl _) | (apply Imp.right; exact Imp.refl _) | (apply Imp.left; apply Imp.left; exact Imp.refl _))) | (apply EvC.now; exact rfl) | (with_reducible first | apply EvAll.cons | exact EvAll.nil))); done) | exact rfl | fail | (focus (repeat (first | apply List.Mem.head | apply List.Mem.tail | apply List.mem_append_right)))); (exact rfl); (exact HZ.out); (simp only [cS, cZ]; exact rfl))
            | ((first | (with_reducible apply q_pl) | ((with_reducible apply q_gd); (first | (apply GdBy.gt; exact rfl; exact rfl) | (apply GdBy.gf; exact rfl; exact rfl) | (apply GdBy.t; exact rfl; exact rfl) | (apply GdBy.f; exact rfl; exact rfl)))); (first | ((with_reducible first | apply t_move | apply t_assign | apply t_and | apply t_or | apply t_cmp | apply t_not | apply t_one tStrE) <;> (first | (focus (repeat (first | (apply EvC.gv; exact rfl; (with_reducible first | exact Imp.refl _ | (apply Imp.left; exact Imp.refl _) | (apply Imp.right; exact Imp.refl _) | (apply Imp.left; apply Imp.left; exact Imp.refl _))) | (apply EvC.now; exact rfl) | (with_reducible first | apply EvAll.cons | exact EvAll.nil))); done) | exact rfl | fail | (focus (repeat (first | apply List.Mem.head | apply List.Mem.tail | apply List.mem_append_right)))))); (simp only [cS, cZ]; exact rfl))
            | ((with_reducible apply q_gd); (first | (apply GdBy.gt; exact rfl; exact rfl) | (apply GdBy.gf; exact rfl; exact rfl) | (apply GdBy.t; exact rfl; exact rfl) | (apply GdBy.f; exact rfl; exact rfl)); ((with_reducible apply t_num) <;> (first | (focus (repeat (first | (apply EvC.gv; exact rfl; (with_reducible first | exact Imp.refl _ | (apply Imp.left; exact Imp.refl _) | (apply Imp.right; exact Imp.refl _) | (apply Imp.left; apply Imp.left; exact Imp.refl _))) | (apply EvC.now; exact rfl) | (with_reducible first | apply EvAll.cons | exact EvAll.nil))); done) | exact rfl | fail | (focus (repeat (first | apply List.Mem.head | apply List.Mem.tail | apply List.mem_append_right))))); (simp only [cS, cZ]; exact rfl))
            | ((with_reducible apply wpT1_gpure); (first | (apply GdBy.gt; exact rfl; exact rfl) | (apply GdBy.gf; exact rfl; exact rfl) | (apply GdBy.t; exact rfl; exact rfl) | (apply GdBy.f; exact rfl; exact rfl)); intro K hK; go_simp; refine hK _ ?_; clear hK K; simp only [cS, cZ])
            | ((with_reducible apply wpT1_pure); exact rfl; intro K hK; go_simp; refine hK _ ?_; clear hK K; simp only [cS, cZ]))
        refine wpT_nil ?_
        clear hR; intro w hR
        go_upto_if 24 with fail
        refine wp_cond_at (nm := true) rfl HD.out (fun _ => ?_) (fun h => absurd h (by decide))
        go_wp2_with (first
    | ((with_reducible apply q_ls hR); exact rfl; (with_reducible apply t_dropE Tryd.underlying9 (k := 1)); (apply EvC.now; exact rfl); (apply EvC.now; exact rfl); exact rfl; exact HDR.out; exact rfl; (simp only [cS, cZ]; exact rfl); clear hR; intro w hR)
    | (go_at_call 19; refine (HAT.out _).mono ?_; rintro e w' ⟨rfl, hb⟩; replace hR := hR.grow hb; clear hb)
    | ((with_reducible apply q_ls hR); exact rfl; (with_reducible apply t_extract); (apply EvC.now; exact rfl); exact rfl; (simp only [cS, cZ]; exact rfl); clear hR; intro w hR)
    | ((with_reducible apply q_ls hR); exact rfl; (with_reducible apply t_conv Tryd.underlying3 Tryd.underlying57); (apply EvC.now; exact rfl); exact HW.out; (simp only [cS, cZ]; exact rfl); clear hR; intro w hR)
    | ((with_reducible apply wpList_built); exact rfl; exact rfl; exact bTokN 2 n; (simp only [cS, cZ]; exact rfl))
    | ((with_reducible apply wpList_buildS hR); exact rfl; exact rfl; (exact bToks1 _); clear hR; intro gb w hR; simp only [cS, cZ])
    | ((with_reducible apply wpList_appN hR tToksK); exact rfl; exact rfl; exact rfl; exact hS; (exact Les.tail Les.head); (focus (repeat (first | apply List.Mem.head | apply List.Mem.tail | apply List.mem_append_right))); (exact Part.all _); (exact rfl); (exact cellsTok_one _); omega; clear hR hS; intro s2 v2 w hR hS; simp only [cS, cZ]))
        go_roundw
        case rel => exact ⟨k + 1, s2, by simp, by omega, hR.drop (List.Sublist.append (List.Sublist.refl _) (List.nil_sublist _)), hS.cast (take_more HTK.out)⟩
        case measure => simp [intOf]; omega
      | @sign c hb h1 h2 =>
        have HZ := Lib.hid (show [c][0]? = some c from rfl)
        have HD := Lib.hid (show (decide (1 < ([c].length : Int)) && (c == 35)) = false from rfl)
        have HE := Lib.hid (show ((([c].length : Int) == 1) && (decide (c < 65) || decide (90 < c)) && (c != 36)) = true by
          have e1 : (decide (c < 65) || decide (90 < c)) = true := by rcases h1 with h | h <;> simp [h]
          rw [e1, bne_iff_ne.2 h2]; rfl)
        clear hb h1 h2
        refine wp_region_tame hR [0, 1, 2, 3, 4, 5, 6, 7, 8] rfl ?_
        repeat (refine wpT_step rfl ?_; first
            | ((first | (with_reducible apply q_pl) | ((with_reducible apply q_gd); (first | (apply GdBy.gt; exact rfl; exact rfl) | (apply GdBy.gf; exact rfl; exact rfl) | (apply GdBy.t; exact rfl; exact rfl) | (apply GdBy.f; exact rfl; exact rfl)))); (with_reducible apply t_lenN Tryd.underlying9); (first | (focus (repeat (first | (apply EvC.gv; exact rfl; (with_reducible first | exact Imp.refl _ | (apply Imp.left; exact Imp.refl _) | (apply Imp.right; exact Imp.refl _) | (apply Imp.left; apply Imp.left; exact Imp.refl _))) | (apply EvC.now; exact rfl) | (with_reducible first | apply EvAll.cons | exact EvAll.nil))); done) | exact rfl | fail | (focus (repeat (first | apply List.Mem.head | apply List.Mem.tail | apply List.mem_append_right)))); (simp only [cS, cZ]; exact rfl))
            | ((first | (with_reducible apply q_pl) | ((with_reducible apply q_gd); (first | (apply GdBy.gt; exact rfl; exact rfl) | (apply GdBy.gf; exact rfl; exact rfl) | (apply GdBy.t; exact rfl; exact rfl) | (apply GdBy.f; exact rfl; exact rfl)))); (with_reducible apply t_atN Tryd.underlying9 hso (k := 0)); (first | (focus (repeat (first | (apply EvC.gv; exact rfl; (with_reducible first | exact Imp.refl _ | (apply Imp.left; exact Imp.refl _) | (apply Imp.right; exact Imp.refl _) | (apply Imp.left; apply Imp.left; exact Imp.refl _))) | (apply EvC.now; exact rfl) | (with_reducible first | apply EvAll.cons | exact EvAll.nil))); done) | exact rfl | fail | (focus (repeat (first | apply List.Mem.head | apply List.Mem.tail | apply List.mem_append_right)))); (first | (focus (repeat (first | (apply EvC.gv; exact rfl; (with_reducible first | exact Imp.refl _ | (apply Imp.left; exact Imp.refl _) | (apply Imp.right; exact Imp.refl _) | (apply Imp.left; apply Imp.left; exact Imp.refl _))) | (apply EvC.now; exact rfl) | (with_reducible first | apply EvAll.cons | exact EvAll.nil))); done) | exact rfl | fail | (focus (repeat (first | apply List.Mem.head | apply List.Mem.tail | apply List.mem_append_right)))); (exact rfl); (exact HZ.out); (simp only [cS, cZ]; exact rfl))
            | ((first | (with_reducible apply q_pl) | ((with_reducible apply q_gd); (first | (apply GdBy.gt; exact rfl; exact rfl) | (apply GdBy.gf; exact rfl; exact rfl) | (apply GdBy.t; exact rfl; exact rfl) | (apply GdBy.f; exact rfl; exact rfl)))); (first | ((with_reducible first | apply t_move | apply t_assign | apply t_and | apply t_or | apply t_cmp | apply t_not | apply t_one tStrE) <;> (first | (focus (repeat (first | (apply EvC.gv; exact rfl; (with_reducible first | exact Imp.refl _ | (apply Imp.left; exact Imp.refl _) | (apply Imp.right; exact Imp.refl _) | (apply Imp.left; apply Imp.left; exact Imp.refl _))) | (apply EvC.now; exact rfl) | (with_reducible first | apply EvAll.cons | exact EvAll.nil))); done) | exact rfl | fail | (focus (repeat (first | apply List.Mem.head | apply List.Mem.tail | apply List.mem_append_right)))))); (simp only [cS, cZ]; exact rfl))
            | ((with_reducible apply q_gd); (first | (apply GdBy.gt; exact rfl; exact rfl) | (apply GdBy.gf; exact rfl; exact rfl) | (apply GdBy.t; exact rfl; exact rfl) | (apply GdBy.f; exact rfl; exact rfl)); ((with_reducible apply t_num) <;> (first | (focus (repeat (first | (apply EvC.gv; exact rfl; (with_reducible first | exact Imp.refl _ | (apply Imp.left; exact Imp.refl _) | (apply Imp.right; exact Imp.refl _) | (apply Imp.left; apply Imp.left; exact Imp.refl _))) | (apply EvC.now; exact rfl) | (with_reducible first | apply EvAll.cons | exact EvAll.nil))); done) | exact rfl | fail | (focus (repeat (first | apply List.Mem.head | apply List.Mem.tail | apply List.mem_append_right))))); (simp only [cS, cZ]; exact rfl))
            | ((with_reducible apply wpT1_gpure); (first | (apply GdBy.gt; exact rfl; exact rfl) | (apply GdBy.gf; exact rfl; exact rfl) | (apply GdBy.t; exact rfl; exact rfl) | (apply GdBy.f; exact rfl; exact rfl)); intro K hK; go_simp; refine hK _ ?_; clear hK K; simp only [cS, cZ])
            | ((with_reducible apply wpT1_pure); exact rfl; intro K hK; go_simp; refine hK _ ?_; clear hK K; simp only [cS, cZ]))
        refine wpT_nil ?_
        clear hR; intro w hR
        go_upto_if 24 with fail
        refine wp_cond_at (nm := false) rfl HD.out (fun h => absurd h (by decide)) (fun _ => ?_)
        go_upto_region 10 with fail
        refine wp_region_tame hR [0, 1, 2, 3, 4, 5, 6, 7, 8, 9, 10, 11, 12, 13, 14, 15, 16, 17, 18] rfl ?_
        repeat (refine wpT_step rfl ?_; first
            | ((first | (with_reducible apply q_pl) | ((with_reducible apply q_gd); (first | (apply GdBy.gt; exact rfl; exact rfl) | (apply GdBy.gf; exact rfl; exact rfl) | (apply GdBy.t; exact rfl; exact rfl) | (apply GdBy.f; exact rfl; exact rfl)))); (with_reducible apply t_lenN Tryd.underlying9); (first | (focus (repeat (first | (apply EvC.gv; exact rfl; (with_reducible first | exact Imp.refl _ | (apply Imp.left; exact Imp.refl _) | (apply Imp.right; exact Imp.refl _) | (apply Imp.left; apply Imp.left; exact Imp.refl _))) | (apply EvC.now; exact rfl) | (with_reducible first | apply EvAll.cons | exact EvAll.nil))); done) | exact rfl | fail | (focus (repeat (first | apply List.Mem.head | apply List.Mem.tail | apply List.mem_append_right)))); (simp only [cS, cZ]; exact rfl))
            | ((first | (with_reducible apply q_pl) | ((with_reducible apply q_gd); (first | (apply GdBy.gt; exact rfl; exact rfl) | (apply GdBy.gf; exact rfl; exact rfl) | (apply GdBy.t; exact rfl; exact rfl) | (apply GdBy.f; exact rfl; exact rfl)))); (with_reducible apply t_atN Tryd.underlying9 hso (k := 0)); (first | (focus (repeat (first | (apply EvC.gv; exact rfl; (with_reducible first | exact Imp.refl _ | (apply Imp.left; exact Imp.refl _) | (apply Imp.right; exact Imp.refl _) | (apply Imp.left; apply Imp.left; exact Imp.refl _))) | (apply EvC.now; exact rfl) | (with_reducible first | apply EvAll.cons | exact EvAll.nil))); done) | exact rfl | fail | (focus (repeat (first | apply List.Mem.head | apply List.Mem.tail | apply List.mem_append_right)))); (first | (focus (repeat (first | (apply EvC.gv; exact rfl; (with_reducible first | exact Imp.refl _ | (apply Imp.left; exact Imp.refl _) | (apply Imp.right; exact Imp.refl _) | (apply Imp.left; apply Imp.left; exact Imp.refl _))) | (apply EvC.now; exact rfl) | (with_reducible first | apply EvAll.cons | exact EvAll.nil))); done) | exact rfl | fail | (focus (repeat (first | apply List.Mem.head | apply List.Mem.tail | apply List.mem_append_right)))); (exact rfl); (exact HZ.out); (simp only [cS, cZ]; exact rfl))
            | ((first | (with_reducible apply q_pl) | ((with_reducible apply q_gd); (first | (apply GdBy.gt; exact rfl; exact rfl) | (apply GdBy.gf; exact rfl; exact rfl) | (apply GdBy.t; exact rfl; exact rfl) | (apply GdBy.f; exact rfl; exact rfl)))); (first | ((with_reducible first | apply t_move | apply t_assign | apply t_and | apply t_or | apply t_cmp | apply t_not | apply t_one tStrE) <;> (first | (focus (repeat (first | (apply EvC.gv; exact rfl; (with_reducible first | exact Imp.refl _ | (apply Imp.left; exact Imp.refl _) | (apply Imp.right; exact Imp.refl _) | (apply Imp.left; apply Imp.left; exact Imp.refl _))) | (apply EvC.now; exact rfl) | (with_reducible first | apply EvAll.cons | exact EvAll.nil))); done) | exact rfl | fail | (focus (repeat (first | apply List.Mem.head | apply List.Mem.tail | apply List.mem_append_right)))))); (simp only [cS, cZ]; exact rfl))
            | ((with_reducible apply q_gd); (first | (apply GdBy.gt; exact rfl; exact rfl) | (apply GdBy.gf; exact rfl; exact rfl) | (apply GdBy.t; exact rfl; exact rfl) | (apply GdBy.f; exact rfl; exact rfl)); ((with_reducible apply t_num) <;> (first | (focus (repeat (first | (apply EvC.gv; exact rfl; (with_reducible first | exact Imp.refl _ | (apply Imp.left; exact Imp.refl _) | (apply Imp.right; exact Imp.refl _) | (apply Imp.left; apply Imp.left; exact Imp.refl _))) | (apply EvC.now; exact rfl) | (with_reducible first | apply EvAll.cons | exact EvAll.nil))); done) | exact rfl | fail | (focus (repeat (first | apply List.Mem.head | apply List.Mem.tail | apply List.mem_append_right))))); (simp only [cS, cZ]; exact rfl))
            | ((with_reducible apply wpT1_gpure); (first | (apply GdBy.gt; exact rfl; exact rfl) | (apply GdBy.gf; exact rfl; exact rfl) | (apply GdBy.t; exact rfl; exact rfl) | (apply GdBy.f; exact rfl; exact rfl)); intro K hK; go_simp; refine hK _ ?_; clear hK K; simp only [cS, cZ])
            | ((with_reducible apply wpT1_pure); exact rfl; intro K hK; go_simp; refine hK _ ?_; clear hK K; simp only [cS, cZ]))
        refine wpT_nil ?_
        clear hR; intro w hR
        go_upto_if 45 with fail
        refine wp_cond_at (nm := true) rfl HE.out (fun _ => ?_) (fun h => absurd h (by decide))
        go_wp2_with (first
    | ((with_reducible apply wpList_built); exact rfl; exact rfl; exact bTokS 4 [c]; (simp only [cS, cZ]; exact rfl))
    | ((with_reducible apply wpList_buildS hR); exact rfl; exact rfl; (exact bToks1 _); clear hR; intro gb w hR; simp only [cS, cZ])
    | ((with_reducible apply wpList_appN hR tToksK); exact rfl; exact rfl; exact rfl; exact hS; (exact Les.tail Les.head); (focus (repeat (first | apply List.Mem.head | apply List.Mem.tail | apply List.mem_append_right))); (exact Part.all _); (exact rfl); (exact cellsTok_one _); omega; clear hR hS; intro s2 v2 w hR hS; simp only [cS, cZ]))
        go_roundw
        case rel => exact ⟨k + 1, s2, by simp, by omega, hR.drop (List.Sublist.append (List.Sublist.refl _) (List.nil_sublist _)), hS.cast (take_more HTK.out)⟩
        case measure => simp [intOf]; omega
      | @name c d r hb h1 =>
        have HZ := Lib.hid (show (c :: d :: r)[0]? = some c from rfl)
        have HD := Lib.hid (show (decide (1 < ((c :: d :: r).length : Int)) && (c == 35)) = false by
          rw [beq_eq_false_iff_ne.2 h1, Bool.and_false])
        have HE := Lib.hid (show ((((c :: d :: r).length : Int) == 1) && (decide (c < 65) || decide (90 < c)) && (c != 36)) = false by
          have e1 : (((c :: d :: r).length : Int) == 1) = false := beq_eq_false_iff_ne.2 (by simp only [List.length_cons]; omega)
          rw [e1]; rfl)
        clear hb h1
        refine wp_region_tame hR [0, 1, 2, 3, 4, 5, 6, 7, 8] rfl ?_
        repeat (refine wpT_step rfl ?_; first
            | ((first | (with_reducible apply q_pl) | ((with_reducible apply q_gd); (first | (apply GdBy.gt; exact rfl; exact rfl) | (apply GdBy.gf; exact rfl; exact rfl) | (apply GdBy.t; exact rfl; exact rfl) | (apply GdBy.f; exact rfl; exact rfl)))); (with_reducible apply t_lenN Tryd.underlying9); (first | (focus (repeat (first | (apply EvC.gv; exact rfl; (with_reducible first | exact Imp.refl _ | (apply Imp.left; exact Imp.refl _) | (apply Imp.right; exact Imp.refl _) | (apply Imp.left; apply Imp.left; exact Imp.refl _))) | (apply EvC.now; exact rfl) | (with_reducible first | apply EvAll.cons | exact EvAll.nil))); done) | exact rfl | fail | (focus (repeat (first | apply List.Mem.head | apply List.Mem.tail | apply List.mem_append_right)))); (simp only [cS, cZ]; exact rfl))
            | ((first | (with_reducible apply q_pl) | ((with_reducible apply q_gd); (first | (apply GdBy.gt; exact rfl; exact rfl) | (apply GdBy.gf; exact rfl; exact rfl) | (apply GdBy.t; exact rfl; exact rfl) | (apply GdBy.f; exact rfl; exact rfl)))); (with_reducible apply t_atN Tryd.underlying9 hso (k := 0)); (first | (focus (repeat (first | (apply EvC.gv; exact rfl; (with_reducible first | exact Imp.refl _ | (apply Imp.left; exact Imp.refl _) | (apply Imp.right; exact Imp.refl _) | (apply Imp.left; apply Imp.left; exact Imp.refl _))) | (apply EvC.now; exact rfl) | (with_reducible first | apply EvAll.cons | exact EvAll.nil))); done) | exact rfl | fail | (focus (repeat (first | apply List.Mem.head | apply List.Mem.tail | apply List.mem_append_right)))); (first | (focus (repeat (first | (apply EvC.gv; exact rfl; (with_reducible first | exact Imp.refl _ | (apply Imp.left; exact Imp.refl _) | (apply Imp.right; exact Imp.refl _) | (apply Imp.left; apply Imp.left; exact Imp.refl _))) | (apply EvC.now; exact rfl) | (with_reducible first | apply EvAll.cons | exact EvAll.nil))); done) | exact rfl | fail | (focus (repeat (first | apply List.Mem.head | apply List.Mem.tail | apply List.mem_append_right)))); (exact rfl); (exact HZ.out); (simp only [cS, cZ]; exact rfl))
            | ((first | (with_reducible apply q_pl) | ((with_reducible apply q_gd); (first | (apply GdBy.gt; exact rfl; exact rfl) | (apply GdBy.gf; exact rfl; exact rfl) | (apply GdBy.t; exact rfl; exact rfl) | (apply GdBy.f; exact rfl; exact rfl)))); (first | ((with_reducible first | apply t_move | apply t_assign | apply t_and | apply t_or | apply t_cmp | apply t_not | apply t_one tStrE) <;> (first | (focus (repeat (first | (apply EvC.gv; exact rfl; (with_reducible first | exact Imp.refl _ | (apply Imp.left; exact Imp.refl _) | (apply Imp.right; exact Imp.refl _) | (apply Imp.left; apply Imp.left; exact Imp.refl _))) | (apply EvC.now; exact rfl) | (with_reducible first | apply EvAll.cons | exact EvAll.nil))); done) | exact rfl | fail | (focus (repeat (first | apply List.Mem.head | apply List.Mem.tail | apply List.mem_append_right)))))); (simp only [cS, cZ]; exact rfl))
            | ((with_reducible apply q_gd); (first | (apply GdBy.gt; exact rfl; exact rfl) | (apply GdBy.gf; exact rfl; exact rfl) | (apply GdBy.t; exact rfl; exact rfl) | (apply GdBy.f; exact rfl; exact rfl)); ((with_reducible apply t_num) <;> (first | (focus (repeat (first | (apply EvC.gv; exact rfl; (with_reducible first | exact Imp.refl _ | (apply Imp.left; exact Imp.refl _) | (apply Imp.right; exact Imp.refl _) | (apply Imp.left; apply Imp.left; exact Imp.refl _))) | (apply EvC.now; exact rfl) | (with_reducible first | apply EvAll.cons | exact EvAll.nil))); done) | exact rfl | fail | (focus (repeat (first | apply List.Mem.head | apply List.Mem.tail | apply List.mem_append_right))))); (simp only [cS, cZ]; exact rfl))
            | ((with_reducible apply wpT1_gpure); (first | (apply GdBy.gt; exact rfl; exact rfl) | (apply GdBy.gf; exact rfl; exact rfl) | (apply GdBy.t; exact rfl; exact rfl) | (apply GdBy.f; exact rfl; exact rfl)); intro K hK; go_simp; refine hK _ ?_; clear hK K; simp only [cS, cZ])
            | ((with_reducible apply wpT1_pure); exact rfl; intro K hK; go_simp; refine hK _ ?_; clear hK K; simp only [cS, cZ]))
        refine wpT_nil ?_
        clear hR; intro w hR
        go_upto_if 24 with fail
        refine wp_cond_at (nm := false) rfl HD.out (fun h => absurd h (by decide)) (fun _ => ?_)
        go_upto_region 10 with fail
        refine wp_region_tame hR [0, 1, 2, 3, 4, 5, 6, 7, 8, 9, 10, 11, 12, 13, 14, 15, 16, 17, 18] rfl ?_
        repeat (refine wpT_step rfl ?_; first
            | ((first | (with_reducible apply q_pl) | ((with_reducible apply q_gd); (first | (apply GdBy.gt; exact rfl; exact rfl) | (apply GdBy.gf; exact rfl; exact rfl) | (apply GdBy.t; exact rfl; exact rfl) | (apply GdBy.f; exact rfl; exact rfl)))); (with_reducible apply t_lenN Tryd.underlying9); (first | (focus (repeat (first | (apply EvC.gv; exact rfl; (with_reducible first | exact Imp.refl _ | (apply Imp.left; exact Imp.refl _) | (apply Imp.right; exact Imp.refl _) | (apply Imp.left; apply Imp.left; exact Imp.refl _))) | (apply EvC.now; exact rfl) | (with_reducible first | apply EvAll.cons | exact EvAll.nil))); done) | exact rfl | fail | (focus (repeat (first | apply List.Mem.head | apply List.Mem.tail | apply List.mem_append_right)))); (simp only [cS, cZ]; exact rfl))
            | ((first | (with_reducible apply q_pl) | ((with_reducible apply q_gd); (first | (apply GdBy.gt; exact rfl; exact rfl) | (apply GdBy.gf; exact rfl; exact rfl) | (apply GdBy.t; exact rfl; exact rfl) | (apply GdBy.f; exact rfl; exact rfl)))); (with_reducible apply t_atN Tryd.underlying9 hso (k := 0)); (first | (focus (repeat (first | (apply EvC.gv; exact rfl; (with_reducible first | exact Imp.refl _ | (apply Imp.left; exact Imp.refl _) | (apply Imp.right; exact Imp.refl _) | (apply Imp.left; apply Imp.left; exact Imp.refl _))) | (apply EvC.now; exact rfl) | (with_reducible first | apply EvAll.cons | exact EvAll.nil))); done) | exact rfl | fail | (focus (repeat (first | apply List.Mem.head | apply List.Mem.tail | apply List.mem_append_right)))); (first | (focus (repeat (first | (apply EvC.gv; exact rfl; (with_reducible first | exact Imp.refl _ | (apply Imp.left; exact Imp.refl _) | (apply Imp.right; exact Imp.refl _) | (apply Imp.left; apply Imp.left; exact Imp.refl _))) | (apply EvC.now; exact rfl) | (with_reducible first | apply EvAll.cons | exact EvAll.nil))); done) | exact rfl | fail | (focus (repeat (first | apply List.Mem.head | apply List.Mem.tail | apply List.mem_append_right)))); (exact rfl); (exact HZ.out); (simp only [cS, cZ]; exact rfl))
            | ((first | (with_reducible apply q_pl) | ((with_reducible apply q_gd); (first | (apply GdBy.gt; exact rfl; exact rfl) | (apply GdBy.gf; exact rfl; exact rfl) | (apply GdBy.t; exact rfl; exact rfl) | (apply GdBy.f; exact rfl; exact rfl)))); (first | ((with_reducible first | apply t_move | apply t_assign | apply t_and | apply t_or | apply t_cmp | apply t_not | apply t_one tStrE) <;> (first | (focus (repeat (first | (apply EvC.gv; exact rfl; (with_reducible first | exact Imp.refl _ | (apply Imp.left; exact Imp.refl _) | (apply Imp.right; exact Imp.refl _) | (apply Imp.left; apply Imp.left; exact Imp.refl _))) | (apply EvC.now; exact rfl) | (with_reducible first | apply EvAll.cons | exact EvAll.nil))); done) | exact rfl | fail | (focus (repeat (first | apply List.Mem.head | apply List.Mem.tail | apply List.mem_append_right)))))); (simp only [cS, cZ]; exact rfl))
            | ((with_reducible apply q_gd); (first | (apply GdBy.gt; exact rfl; exact rfl) | (apply GdBy.gf; exact rfl; exact rfl) | (apply GdBy.t; exact rfl; exact rfl) | (apply GdBy.f; exact rfl; exact rfl)); ((with_reducible apply t_num) <;> (first | (focus (repeat (first | (apply EvC.gv; exact rfl; (with_reducible first | exact Imp.refl _ | (apply Imp.left; exact Imp.refl _) | (apply Imp.right; exact Imp.refl _) | (apply Imp.left; apply Imp.left; exact Imp.refl _))) | (apply EvC.now; exact rfl) | (with_reducible first | apply EvAll.cons | exact EvAll.nil))); done) | exact rfl | fail | (focus (repeat (first | apply List.Mem.head | apply List.Mem.tail | apply List.mem_append_right))))); (simp only [cS, cZ]; exact rfl))
            | ((with_reducible apply wpT1_gpure); (first | (apply GdBy.gt; exact rfl; exact rfl) | (apply GdBy.gf; exact rfl; exact rfl) | (apply GdBy.t; exact rfl; exact rfl) | (apply GdBy.f; exact rfl; exact rfl)); intro K hK; go_simp; refine hK _ ?_; clear hK K; simp only [cS, cZ])
            | ((with_reducible apply wpT1_pure); exact rfl; intro K hK; go_simp; refine hK _ ?_; clear hK K; simp only [cS, cZ]))
        refine wpT_nil ?_
        clear hR; intro w hR
        go_upto_if 45 with fail
        refine wp_cond_at (nm := false) rfl HE.out (fun h => absurd h (by decide)) (fun _ => ?_)
        go_wp2_with (first
    | ((with_reducible apply wpList_built); exact rfl; exact rfl; exact bTokS 1 (c :: d :: r); (simp only [cS, cZ]; exact rfl))
    | ((with_reducible apply wpList_buildS hR); exact rfl; exact rfl; (exact bToks1 _); clear hR; intro gb w hR; simp only [cS, cZ])
    | ((with_reducible apply wpList_appN hR tToksK); exact rfl; exact rfl; exact rfl; exact hS; (exact Les.tail Les.head); (focus (repeat (first | apply List.Mem.head | apply List.Mem.tail | apply List.mem_append_right))); (exact Part.all _); (exact rfl); (exact cellsTok_one _); omega; clear hR hS; intro s2 v2 w hR hS; simp only [cS, cZ]))
        go_roundw
        case rel => exact ⟨k + 1, s2, by simp, by omega, hR.drop (List.Sublist.append (List.Sublist.refl _) (List.nil_sublist _)), hS.cast (take_more HTK.out)⟩
        case measure => simp [intOf]; omega
    · obtain rfl : k = ts.length := by omega
      have HL := Lib.hid (show cmpB .lss (ts.length : Int) (ss.length : Int) = some false from congrArg some (decide_eq_false (by have := HL2.out; omega)))
      rw [List.take_length] at hS
      go_wp2_with (first
    | ((with_reducible apply q_ls hR); exact rfl; (with_reducible apply t_lenRd Tryd.underlying23); (apply EvC.now; exact rfl); exact h; (simp only [cS, cZ]; exact rfl); clear hR; intro w hR)
    | ((with_reducible apply q_ls hR); exact rfl; (with_reducible apply t_cmp (op := .lss)); (apply EvC.now; exact rfl); (apply EvC.now; exact rfl); exact HL.out; (simp only [cS, cZ]; exact rfl); clear hR; intro w hR)
    | ((with_reducible apply q_ls hR); exact rfl; (with_reducible apply t_six Tryd.underlying23 iStrE); (apply EvC.now; exact rfl); (apply EvC.now; exact rfl); (constructor <;> omega); (simp only [cS, cZ]; exact rfl); clear hR; intro w hR)
    | ((with_reducible apply q_ls hR); exact rfl; (with_reducible apply t_oldOne tStrE); (apply EvC.now; exact rfl); (exact HC.out); exact rfl; (simp only [cS, cZ]; exact rfl); clear hR; intro w hR))
      go_ret
      exact ⟨_, rfl, hR.below, hA.ok, hS.rd hR (fun r hr => List.mem_append_left _ hr) (flat_ones cellsTok_one _)⟩
end Go.Proofs.YtckkgooabnlooaaDoor
