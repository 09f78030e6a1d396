








/- The contract of lex.Line. No statement of the seat is proved here. -/
import Derived.Test.YtjecckmcjcikdaaDoorLexI
import Derived.Test.YtjecckmcjcikdaaDoorLst
namespace Go.Proofs.YtjecckmcjcikdaaDoor
open Go.ChangeShapes Go.WideShapes Go.ChangeAt Go.RowKit
set_option linter.unusedVariables false
set_option linter.unusedSimpArgs false

def readAll (s : List Int) : Prop := ∀ c ∈ s, readZ c = true
theorem readAll.ascii {s : List Int} (h : readAll s) : ascii s := by
  intro c hc
  have := h c hc
  unfold readZ at this
  simp at this
  omega
theorem runZ_all {m : Int → Bool} {s : List Int} (h : ¬ runZ m s < s.length) : ∀ c ∈ s, m c = true := by
  induction s with
  | nil => exact fun _ h => nomatch h
  | cons a s ih =>
    rw [runZ_cons] at h
    split at h
    · rename_i ha
      intro c hc
      cases hc with
      | head => exact ha
      | tail _ hc => exact ih (by rw [List.length_cons] at h; omega) c hc
    · rw [List.length_cons] at h; omega
theorem runZ_full {m : Int → Bool} {s : List Int} (h : ∀ c ∈ s, m c = true) : ¬ runZ m s < s.length := by
  induction s with
  | nil => exact Nat.lt_irrefl _
  | cons a s ih =>
    rw [runZ_cons, if_pos (h a (.head _)), List.length_cons]
    have := ih fun c hc => h c (.tail _ hc)
    omega
theorem dropWhile_len (p : Int → Bool) (s : List Int) : (s.dropWhile p).length ≤ s.length := (List.dropWhile_sublist p).length_le
theorem dropWhile_all {p : Int → Bool} {s : List Int} {Q : Int → Prop} (h : ∀ c ∈ s, Q c) : ∀ c ∈ s.dropWhile p, Q c := fun c hc => h c ((List.dropWhile_sublist p).subset hc)
/-- What a list and what is still to come make together. -/
def behindK (A : List TokZ) : Option (List TokZ) → Option (List TokZ)
  | none => none
  | some l => some (A ++ l)
theorem behindK_nil (o : Option (List TokZ)) : behindK [] o = o := by cases o <;> rfl
def scanStep (f : Nat) (c : Int) (r : List Int) : Option (List TokZ) := if c = 59 then some [] else
      if (pieceZ (c :: r)).2 = 0 then none else
        match scanZ f ((c :: r).drop (pieceZ (c :: r)).2) with
        | none => none
        | some l => some ((pieceZ (c :: r)).1 :: l)
theorem scan_nil {f : Nat} {t : List Int} (h : t.dropWhile blankZ = []) : scanZ (f + 1) t = some [] := by unfold scanZ; rw [h]
theorem scan_cons {f : Nat} {t : List Int} {c : Int} {r : List Int} (h : t.dropWhile blankZ = c :: r) : scanZ (f + 1) t = scanStep f c r := by
  unfold scanZ; rw [h]; rfl
theorem behindK_more (A : List TokZ) (p : TokZ) (o : Option (List TokZ)) : behindK A (match o with | none => none | some l => some (p :: l)) = behindK (A ++ [p]) o := by
  cases o with
  | none => rfl
  | some l => show some (A ++ p :: l) = some (A ++ [p] ++ l); simp
/-- What a line's function answers. -/
def RetK (w w' : World) (e : Ending) (l : List TokZ) (err : Int) : Prop := RetR 4 cellsTok w w' (fun v => .tuple #[v, .int .i64 err]) e l
theorem retK_none {w w' : World} (hb : Below w.heap.size w w') (err : Int) : RetK w w' (.returned (.tuple #[.slice none 0 0, .int .i64 err])) [] err :=
  ⟨[], _, rfl, ⟨hb, (fun _ h => nomatch h), List.nodup_nil⟩, fun _ _ _ _ _ => ⟨rfl, rfl, .inl ⟨rfl, rfl, rfl⟩⟩⟩
/-- The loop over the pieces. -/
def LineIs (o : Option (List TokZ)) (w0 : World) (s v : Value) (wr : World) : Prop :=
  ∃ (t : List Int) (A : List TokZ) (sl : List RowT) (f : Nat), s = .string (strOfNums t) ∧ readAll t ∧ t.length < f ∧ t.length ≤ 200 ∧ A.length + t.length ≤ 200 ∧ Own w0 wr (sl ++ []) ∧ Sl 30 4 sl v A.length (A.flatMap cellsTok) ∧ behindK A (scanZ f t) = o
def strLen (v : Value) : Nat := match v with | .string b => b.size | _ => 0
set_option maxHeartbeats 4000000 in
set_option maxRecDepth 100000 in
theorem line_any {s : List Int} (hs : bytesOk s) (w0 : World) :
    Calls Tryd.prog 13 #[.string (strOfNums s)] w0 fun e w' => RetK w0 w' e (lineZ s).1 (lineZ s).2 := by
  have hR := Own.start w0
  unfold lineZ
  by_cases hbig : 200 < s.length
  · rw [if_pos hbig]
    have HG := Lib.hid (show cmpB .gtr (s.length : Int) 200 = some true from congrArg some (decide_eq_true (by omega)))
    go_enter Tryd.func13, Tryd.ntmps13
    go_wp2_with (first
    | ((with_reducible apply q_ls hR); exact rfl; (with_reducible apply t_lenN Tryd.underlying9); (apply EvC.now; exact rfl); (simp only [List.set_cons_succ, List.set_cons_zero]; exact rfl); clear hR; intro w hR)
    | ((with_reducible apply q_ls hR); exact rfl; (with_reducible apply t_cmp); (apply EvC.now; exact rfl); (apply EvC.now; exact rfl); exact HG.out; (simp only [List.set_cons_succ, List.set_cons_zero]; exact rfl); clear hR; intro w hR))
    go_ret2
    exact retK_none hR.below 8
  · rw [if_neg hbig]
    have HG := Lib.hid (show cmpB .gtr (s.length : Int) 200 = some false from congrArg some (decide_eq_false (by omega)))
    have HRUN := Lib.hid (run_any readL_is hs (fun h => nomatch h))
    by_cases hrd : runZ readZ s < s.length
    · rw [if_pos hrd]
      have HL := Lib.hid (show cmpB .lss (runZ readZ s : Int) (s.length : Int) = some true from congrArg some (decide_eq_true (by omega)))
      generalize runZ readZ s = n at *
      go_enter Tryd.func13, Tryd.ntmps13
      go_wp2_with (first
    | ((with_reducible apply q_ls hR); exact rfl; (with_reducible apply t_lenN Tryd.underlying9); (apply EvC.now; exact rfl); (simp only [List.set_cons_succ, List.set_cons_zero]; exact rfl); clear hR; intro w hR)
    | ((with_reducible apply q_ls hR); exact rfl; (with_reducible apply t_cmp); (apply EvC.now; exact rfl); (apply EvC.now; exact rfl); (with_reducible first | exact HG.out | exact HL.out); (simp only [List.set_cons_succ, List.set_cons_zero]; exact rfl); clear hR; intro w hR)
    | (go_at_call 20; refine (HRUN.out _).mono ?_; rintro e w' ⟨rfl, hb⟩; replace hR := hR.grow hb; clear hb))
      go_ret2
      exact retK_none hR.below 3
    · rw [if_neg hrd]
      have hra : readAll s := runZ_all hrd
      have HL := Lib.hid (show cmpB .lss (runZ readZ s : Int) (s.length : Int) = some false from congrArg some (decide_eq_false (by omega)))
      obtain ⟨o, ho⟩ : ∃ o, scanZ (s.length + 1) s = o := ⟨_, rfl⟩
      rw [ho]
      obtain ⟨⟨kl, ke⟩, hend⟩ : ∃ p, endK o = p := ⟨_, rfl⟩
      rw [hend]
      have HEND := Lib.hid hend
      clear hend
      generalize runZ readZ s = n at *
      go_enter Tryd.func13, Tryd.ntmps13
      go_wp2_with (first
    | ((with_reducible apply q_ls hR); exact rfl; (with_reducible apply t_lenN Tryd.underlying9); (apply EvC.now; exact rfl); (simp only [List.set_cons_succ, List.set_cons_zero]; exact rfl); clear hR; intro w hR)
    | ((with_reducible apply q_ls hR); exact rfl; (with_reducible apply t_cmp); (apply EvC.now; exact rfl); (apply EvC.now; exact rfl); (with_reducible first | exact HG.out | exact HL.out); (simp only [List.set_cons_succ, List.set_cons_zero]; exact rfl); clear hR; intro w hR)
    | (go_at_call 20; refine (HRUN.out _).mono ?_; rintro e w' ⟨rfl, hb⟩; replace hR := hR.grow hb; clear hb))
      go_loopw [0, 4] (fun v0 v4 wr => LineIs o w0 v0 v4 wr) (fun v0 _ _ => strLen v0)
      case atStart => exact ⟨s, [], [], s.length + 1, rfl, hra, by omega, by omega, by simp; omega, hR, Sl.nil _ _, by rw [behindK_nil]; exact ho⟩
      case round =>
        clear hR HG HL HRUN hs hra hrd hbig ho
        obtain ⟨t, A, sl, f, rfl, hra, hf, ht2, hAt, hR, hS, ho⟩ := hrel
        obtain ⟨f, rfl⟩ : ∃ f', f = f' + 1 := ⟨f - 1, by omega⟩
        have hao := hra.ascii
        have HTRIM := Lib.hid (trim_any hao.ok)
        have htl := dropWhile_len blankZ t
        have hta : readAll (t.dropWhile blankZ) := dropWhile_all hra
        have hscn : t.dropWhile blankZ = [] → scanZ (f + 1) t = some [] := scan_nil
        have hscc : ∀ c r, t.dropWhile blankZ = c :: r → scanZ (f + 1) t = scanStep f c r := fun c r => scan_cons
        have htk : bytesOk t := hao.ok
        generalize t.dropWhile blankZ = u at *
        cases u with
        | nil =>
          rw [hscn rfl] at ho
          have HE := Lib.hid (show decide (([] : List Int) = []) = true from rfl)
          have HO := Lib.hid ho
          clear ho hscn hscc
          go_wp2_with (first
    | (go_at_call 22; refine (HTRIM.out _).mono ?_; rintro e w' ⟨rfl, hb⟩; replace hR := hR.grow hb; clear hb)
    | ((with_reducible apply q_ls hR); exact rfl; (with_reducible apply t_eqE .nil .nil); (apply EvC.now; exact rfl); (exact lit_now (ns := []) rfl); exact HE.out; (simp only [List.set_cons_succ, List.set_cons_zero]; exact rfl); clear hR; intro w hR))
          go_ret2
          have hend := HEND.out
          rw [← HO.out] at hend
          obtain ⟨rfl, rfl⟩ : A ++ [] = kl ∧ (0 : Int) = ke := Prod.mk.inj hend
          rw [List.append_nil]
          exact ⟨sl ++ [], _, rfl, hR, fun wa wb l hO hm => hS.rowsAt cellsTok_one hO (fun r hr => hm r (List.mem_append_left _ hr))⟩
        | cons c r =>
          rw [hscc c r rfl] at ho
          have hua := hta.ascii
          have huk := hua.ok
          have HE := Lib.hid (show decide (c :: r = []) = false from rfl)
          have HC := Lib.hid (show (c :: r)[0]? = some c from rfl)
          have hul : (c :: r).length ≤ 1000 := by omega
          have hp0 := piece_any (s := c :: r) (fun h => nomatch h) hua hul
          unfold pieceT at hp0
          have HP := Lib.hid hp0
          have hpl := pieceZ_le (c :: r)
          unfold scanStep at ho
          clear hscn hscc hp0
          generalize hpz : pieceZ (c :: r) = pz at *
          obtain ⟨tk, pn⟩ := pz
          dsimp only at HP hpl ho
          generalize hcr : c :: r = u at *
          clear hpz hcr
          by_cases h59 : c = 59
          · rw [if_pos h59] at ho
            have HQ := Lib.hid (show cmpB .eql c 59 = some true from congrArg some (beq_iff_eq.2 h59))
            have HO := Lib.hid ho
            clear ho
            go_wp2_with (first
    | (go_at_call 22; refine (HTRIM.out _).mono ?_; rintro e w' ⟨rfl, hb⟩; replace hR := hR.grow hb; clear hb)
    | ((with_reducible apply q_ls hR); exact rfl; (with_reducible apply t_eqE huk .nil); (apply EvC.now; exact rfl); (exact lit_now (ns := []) rfl); exact HE.out; (simp only [List.set_cons_succ, List.set_cons_zero]; exact rfl); clear hR; intro w hR)
    | ((with_reducible apply q_ls hR); exact rfl; (with_reducible apply t_atN Tryd.underlying9 huk (k := 0)); (apply EvC.now; exact rfl); (apply EvC.now; exact rfl); exact rfl; exact HC.out; (simp only [List.set_cons_succ, List.set_cons_zero]; exact rfl); clear hR; intro w hR)
    | ((with_reducible apply q_ls hR); exact rfl; (with_reducible apply t_cmp); (apply EvC.now; exact rfl); (apply EvC.now; exact rfl); exact HQ.out; (simp only [List.set_cons_succ, List.set_cons_zero]; exact rfl); clear hR; intro w hR))
            go_ret2
            have hend := HEND.out
            rw [← HO.out] at hend
            obtain ⟨rfl, rfl⟩ : A ++ [] = kl ∧ (0 : Int) = ke := Prod.mk.inj hend
            rw [List.append_nil]
            exact ⟨sl ++ [], _, rfl, hR, fun wa wb l hO hm => hS.rowsAt cellsTok_one hO (fun r hr => hm r (List.mem_append_left _ hr))⟩
          · rw [if_neg h59] at ho
            have HQ := Lib.hid (show cmpB .eql c 59 = some false from congrArg some (beq_eq_false_iff_ne.2 h59))
            by_cases hn0 : pn = 0
            · rw [if_pos hn0] at ho
              have HN := Lib.hid (show cmpB .eql (pn : Int) 0 = some true from congrArg some (beq_iff_eq.2 (by omega)))
              have HO := Lib.hid ho
              clear ho
              go_wp2_with (first
    | (go_at_call 22; refine (HTRIM.out _).mono ?_; rintro e w' ⟨rfl, hb⟩; replace hR := hR.grow hb; clear hb)
    | ((with_reducible apply q_ls hR); exact rfl; (with_reducible apply t_eqE huk .nil); (apply EvC.now; exact rfl); (exact lit_now (ns := []) rfl); exact HE.out; (simp only [List.set_cons_succ, List.set_cons_zero]; exact rfl); clear hR; intro w hR)
    | ((with_reducible apply q_ls hR); exact rfl; (with_reducible apply t_atN Tryd.underlying9 huk (k := 0)); (apply EvC.now; exact rfl); (apply EvC.now; exact rfl); exact rfl; exact HC.out; (simp only [List.set_cons_succ, List.set_cons_zero]; exact rfl); clear hR; intro w hR)
    | ((with_reducible apply q_ls hR); exact rfl; (with_reducible apply t_cmp); (apply EvC.now; exact rfl); (apply EvC.now; exact rfl); (with_reducible first | exact HQ.out | exact HN.out); (simp only [List.set_cons_succ, List.set_cons_zero]; exact rfl); clear hR; intro w hR)
    | (go_at_call 23; refine (HP.out _).mono ?_; rintro e w' ⟨rfl, hb⟩; replace hR := hR.grow hb; clear hb)
    | ((with_reducible apply wpList_make hR zTok); exact rfl; clear hR; intro g w hR; simp only [List.set_cons_succ, List.set_cons_zero])
    | ((with_reducible apply wpList_built); exact rfl; exact rfl; exact bTok0; (simp only [List.set_cons_succ, List.set_cons_zero]; exact rfl))
    | ((with_reducible apply wpList_put hR tTok); exact rfl; exact rfl; exact rfl; (focus (repeat (first | apply List.Mem.head | apply List.Mem.tail | apply List.mem_append_right))); exact putList_all rfl; exact rfl; (exact Nat.le_refl 4); exact one_tok _; (focus (repeat (first | apply Upd.head | apply Upd.tail))); clear hR; intro w hR))
              go_ret2
              have hend := HEND.out
              rw [← HO.out] at hend
              obtain ⟨rfl, rfl⟩ : [] = kl ∧ (3 : Int) = ke := Prod.mk.inj hend
              exact retK_none hR.below 3
            · rw [if_neg hn0, behindK_more] at ho
              have HN := Lib.hid (show cmpB .eql (pn : Int) 0 = some false from congrArg some (beq_eq_false_iff_ne.2 (by omega)))
              have HO := Lib.hid ho
              have hdr : readAll (u.drop pn) := fun x hx => hta x (List.mem_of_mem_drop hx)
              have hdl : (u.drop pn).length = u.length - pn := List.length_drop
              clear ho
              generalize hD : u.drop pn = d at *
              have HD := Lib.hid hD
              clear hD
              go_wp2_with (first
    | (go_at_call 22; refine (HTRIM.out _).mono ?_; rintro e w' ⟨rfl, hb⟩; replace hR := hR.grow hb; clear hb)
    | ((with_reducible apply q_ls hR); exact rfl; (with_reducible apply t_eqE huk .nil); (apply EvC.now; exact rfl); (exact lit_now (ns := []) rfl); exact HE.out; (simp only [List.set_cons_succ, List.set_cons_zero]; exact rfl); clear hR; intro w hR)
    | ((with_reducible apply q_ls hR); exact rfl; (with_reducible apply t_atN Tryd.underlying9 huk (k := 0)); (apply EvC.now; exact rfl); (apply EvC.now; exact rfl); exact rfl; exact HC.out; (simp only [List.set_cons_succ, List.set_cons_zero]; exact rfl); clear hR; intro w hR)
    | ((with_reducible apply q_ls hR); exact rfl; (with_reducible apply t_cmp); (apply EvC.now; exact rfl); (apply EvC.now; exact rfl); (with_reducible first | exact HQ.out | exact HN.out); (simp only [List.set_cons_succ, List.set_cons_zero]; exact rfl); clear hR; intro w hR)
    | (go_at_call 23; refine (HP.out _).mono ?_; rintro e w' ⟨rfl, hb⟩; replace hR := hR.grow hb; clear hb)
    | ((with_reducible apply wpList_make hR zTok); exact rfl; clear hR; intro g w hR; simp only [List.set_cons_succ, List.set_cons_zero])
    | ((with_reducible apply wpList_built); exact rfl; exact rfl; exact bTok0; (simp only [List.set_cons_succ, List.set_cons_zero]; exact rfl))
    | ((with_reducible apply wpList_put hR tTok); exact rfl; exact rfl; exact rfl; (focus (repeat (first | apply List.Mem.head | apply List.Mem.tail | apply List.mem_append_right))); exact putList_all rfl; exact rfl; (exact Nat.le_refl 4); exact one_tok _; (focus (repeat (first | apply Upd.head | apply Upd.tail))); clear hR; intro w hR)
    | ((with_reducible apply q_ls hR); exact rfl; (with_reducible apply t_part tTok); (apply EvC.now; exact rfl); (focus (repeat (first | apply List.Mem.head | apply List.Mem.tail | apply List.mem_append_right))); exact extract_all rfl; exact rfl; (simp only [List.set_cons_succ, List.set_cons_zero]; exact rfl); clear hR; intro w hR)
    | ((with_reducible apply wpList_buildS hR); exact rfl; exact rfl; (exact bToks1 _); clear hR; intro gb w hR; simp only [List.set_cons_succ, List.set_cons_zero])
    | ((with_reducible apply wpList_appG hR tToksB); exact rfl; exact rfl; exact rfl; exact hS; (exact Les.tail (Les.tail Les.head)); (exact rd_one (z := tk) cellsTok_len cellsTok_one hR (.head _)); (simp only [maxLen]; omega); omega; clear hR hS; intro s3 v3 w hR hS; simp only [List.set_cons_succ, List.set_cons_zero])
    | ((with_reducible apply q_ls hR); exact rfl; (with_reducible apply t_dropE Tryd.underlying9 (k := pn)); (apply EvC.now; exact rfl); (apply EvC.now; exact rfl); exact rfl; exact hpl; exact HD.out; (simp only [List.set_cons_succ, List.set_cons_zero]; exact rfl); clear hR; intro w hR))
              go_round
              case rel =>
                refine ⟨d, A ++ [tk], s3, f, rfl, hdr, by omega, by omega, by rw [List.length_append]; simp only [List.length_cons, List.length_nil]; omega, hR.drop (List.Sublist.append (List.Sublist.refl _) (List.nil_sublist _)), ?_, HO.out⟩
                have e1 : (A ++ [tk]).length = A.length + 1 := by simp
                rw [e1]
                exact hS.cast (by simp)
              case measure => simp [strLen, strOf_len]; omega
end Go.Proofs.YtjecckmcjcikdaaDoor
