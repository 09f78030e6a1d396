









/- The contracts of package pubs: what is written. No statement of the seat is proved here. -/
import Derived.Test.YtmiakniilimghaaCat
import Derived.Test.YtmiakniilimghaaPubT
import Derived.Test.YtmiakniilimghaaSrcG
namespace Go.Proofs.Ytmiakniilimghaa
open Go.ChangeShapes Go.WideShapes Go.ChangeAt Go.RowKit
set_option linter.unusedVariables false
set_option linter.unusedSimpArgs false

/-! ### Lists of slices, to be joined -/
theorem bCat2 {a1 a2 : Option Addr} {n1 n2 c1 c2 : Nat} : BuiltS Try.prog 72 2 [(0, .slice a1 n1 c1), (1, .slice a2 n2 c2)] 26 #[.slice a1 n1 c1, .slice a2 n2 c2] := ⟨fun w => by simp [go_sem]⟩
theorem bCat3 {a1 a2 a3 : Option Addr} {n1 n2 n3 c1 c2 c3 : Nat} : BuiltS Try.prog 72 3 [(0, .slice a1 n1 c1), (1, .slice a2 n2 c2), (2, .slice a3 n3 c3)] 26 #[.slice a1 n1 c1, .slice a2 n2 c2, .slice a3 n3 c3] := ⟨fun w => by simp [go_sem]⟩
theorem bCat4 {a1 a2 a3 a4 : Option Addr} {n1 n2 n3 n4 c1 c2 c3 c4 : Nat} : BuiltS Try.prog 72 4 [(0, .slice a1 n1 c1), (1, .slice a2 n2 c2), (2, .slice a3 n3 c3), (3, .slice a4 n4 c4)] 26 #[.slice a1 n1 c1, .slice a2 n2 c2, .slice a3 n3 c3, .slice a4 n4 c4] := ⟨fun w => by simp [go_sem]⟩
theorem rd_cells {w0 w : World} {l : List RowT} {g : Nat} {e : TypeId} {cs : List Value} (hR : Own w0 w l) (hm : (g, cs.toArray, e) ∈ l) (h1 : cs.all (·.oneCell') = true) (hl : cs.length ≤ 1000000) : Rd w 1 (.slice (some ⟨g, 0, none⟩) cs.length cs.length) cs.length cs := by
  have hi : RwIs 1 cs.toArray cs.length cs.length cs := (RwIs.all (by simp) hl).cast (by simp)
  have h : Sl e 1 [(g, cs.toArray, e)] (.slice (some ⟨g, 0, none⟩) cs.length cs.length) cs.length cs := hi.sl
  exact h.rd hR (fun x hx => by rw [List.mem_singleton.1 hx]; exact hm) h1
/-- The pieces lie in a row of the call's own. -/
theorem cat_row {w0 w : World} {l : List RowT} {g : Nat} (ps : List Piece) (hR : Own w0 w l) (hm : (g, (ps.map (·.1)).toArray, 26) ∈ l) (hb : ∀ p ∈ ps, SrcW w p.1 p.2) (hl : ∀ p ∈ ps, p.2.length ≤ 1000) (hn : ps.length ≤ 100) :
    Calls Try.prog 18 #[.slice (some ⟨g, 0, none⟩) ps.length ps.length] w fun e w' => RowsB w w' e (catL ps) := by
  have h := rd_cells hR hm (by rw [List.all_map, List.all_eq_true]; intro p hp; exact (hb p hp).one) (by rw [List.length_map]; omega)
  rw [List.length_map] at h
  refine concat_any (ps := ps) ?_ hb hl hn
  have : ps.flatMap cellP = ps.map (·.1) := by rw [List.map_eq_flatMap]; rfl
  rw [this]
  exact h
theorem cat2_row {w0 w : World} {l : List RowT} {g : Nat} {v1 v2 : Value} {b1 b2 : List Int} (hR : Own w0 w l) (hm : (g, #[v1, v2], 26) ∈ l) (h1 : SrcW w v1 b1) (h2 : SrcW w v2 b2) (l1 : b1.length ≤ 1000) (l2 : b2.length ≤ 1000) :
    Calls Try.prog 18 #[.slice (some ⟨g, 0, none⟩) 2 2] w fun e w' => RowsB w w' e (b1 ++ b2) := by
  have := cat_row [(v1, b1), (v2, b2)] hR hm
    (fun p hp => by rcases List.mem_cons.1 hp with e | hp; (subst e; exact h1); cases List.mem_singleton.1 hp; exact h2)
    (fun p hp => by rcases List.mem_cons.1 hp with e | hp; (subst e; exact l1); cases List.mem_singleton.1 hp; exact l2) (by simp)
  rwa [show catL [(v1, b1), (v2, b2)] = b1 ++ b2 by simp [catL]] at this
theorem cat3_row {w0 w : World} {l : List RowT} {g : Nat} {v1 v2 v3 : Value} {b1 b2 b3 : List Int} (hR : Own w0 w l) (hm : (g, #[v1, v2, v3], 26) ∈ l) (h1 : SrcW w v1 b1) (h2 : SrcW w v2 b2) (h3 : SrcW w v3 b3) (l1 : b1.length ≤ 1000) (l2 : b2.length ≤ 1000) (l3 : b3.length ≤ 1000) :
    Calls Try.prog 18 #[.slice (some ⟨g, 0, none⟩) 3 3] w fun e w' => RowsB w w' e (b1 ++ (b2 ++ b3)) := by
  have := cat_row [(v1, b1), (v2, b2), (v3, b3)] hR hm
    (fun p hp => by rcases List.mem_cons.1 hp with e | hp; (subst e; exact h1); rcases List.mem_cons.1 hp with e | hp; (subst e; exact h2); cases List.mem_singleton.1 hp; exact h3)
    (fun p hp => by rcases List.mem_cons.1 hp with e | hp; (subst e; exact l1); rcases List.mem_cons.1 hp with e | hp; (subst e; exact l2); cases List.mem_singleton.1 hp; exact l3) (by simp)
  rwa [show catL [(v1, b1), (v2, b2), (v3, b3)] = b1 ++ (b2 ++ b3) by simp [catL]] at this
theorem cat4_row {w0 w : World} {l : List RowT} {g : Nat} {v1 v2 v3 v4 : Value} {b1 b2 b3 b4 : List Int} (hR : Own w0 w l) (hm : (g, #[v1, v2, v3, v4], 26) ∈ l) (h1 : SrcW w v1 b1) (h2 : SrcW w v2 b2) (h3 : SrcW w v3 b3) (h4 : SrcW w v4 b4) (l1 : b1.length ≤ 1000) (l2 : b2.length ≤ 1000) (l3 : b3.length ≤ 1000) (l4 : b4.length ≤ 1000) :
    Calls Try.prog 18 #[.slice (some ⟨g, 0, none⟩) 4 4] w fun e w' => RowsB w w' e (b1 ++ (b2 ++ (b3 ++ b4))) := by
  have := cat_row [(v1, b1), (v2, b2), (v3, b3), (v4, b4)] hR hm
    (fun p hp => by rcases List.mem_cons.1 hp with e | hp; (subst e; exact h1); rcases List.mem_cons.1 hp with e | hp; (subst e; exact h2); rcases List.mem_cons.1 hp with e | hp; (subst e; exact h3); cases List.mem_singleton.1 hp; exact h4)
    (fun p hp => by rcases List.mem_cons.1 hp with e | hp; (subst e; exact l1); rcases List.mem_cons.1 hp with e | hp; (subst e; exact l2); rcases List.mem_cons.1 hp with e | hp; (subst e; exact l3); cases List.mem_singleton.1 hp; exact l4) (by simp)
  rwa [show catL [(v1, b1), (v2, b2), (v3, b3), (v4, b4)] = b1 ++ (b2 ++ (b3 ++ b4)) by simp [catL]] at this
theorem isSeg_any (n : Int) (w : World) : Calls Try.prog 26 #[.int .i64 n] w fun e w' => e = .returned (.bool (decide (0 < n ∧ n ≤ 32767))) ∧ Below w.heap.size w w' := by
  have hR := Own.start w
  by_cases h0 : 0 < n
  · have H0 := Lib.hid (show cmpB .gtr n 0 = some true by simp [cmpB, h0])
    by_cases h1 : n ≤ 32767
    · have H1 := Lib.hid (show cmpB .leq n 32767 = some true by simp [cmpB, h1])
      have HV := Lib.hid (show decide (0 < n ∧ n ≤ 32767) = true from decide_eq_true ⟨h0, h1⟩)
      clear h0 h1
      go_enter Try.func26, Try.ntmps26
      go_wp2_with (first
    | ((with_reducible apply q_ls hR); exact rfl; (with_reducible apply t_cmp); (apply EvC.now; exact rfl); (apply EvC.now; exact rfl); (first | exact H0.out | exact H1.out); (simp only [List.set_cons_succ, List.set_cons_zero]; exact rfl); clear hR; intro w hR))
      go_ret
      exact ⟨by rw [HV.out]; rfl, hR.below⟩
    · have H1 := Lib.hid (show cmpB .leq n 32767 = some false by simp [cmpB, h1])
      have HV := Lib.hid (show decide (0 < n ∧ n ≤ 32767) = false from decide_eq_false fun h => h1 h.2)
      clear h0 h1
      go_enter Try.func26, Try.ntmps26
      go_wp2_with (first
    | ((with_reducible apply q_ls hR); exact rfl; (with_reducible apply t_cmp); (apply EvC.now; exact rfl); (apply EvC.now; exact rfl); (first | exact H0.out | exact H1.out); (simp only [List.set_cons_succ, List.set_cons_zero]; exact rfl); clear hR; intro w hR))
      go_ret
      exact ⟨by rw [HV.out]; rfl, hR.below⟩
  · have H0 := Lib.hid (show cmpB .gtr n 0 = some false by simp [cmpB]; omega)
    have HV := Lib.hid (show decide (0 < n ∧ n ≤ 32767) = false from decide_eq_false fun h => h0 h.1)
    clear h0
    go_enter Try.func26, Try.ntmps26
    go_wp2_with (first
    | ((with_reducible apply q_ls hR); exact rfl; (with_reducible apply t_cmp); (apply EvC.now; exact rfl); (apply EvC.now; exact rfl); (first | exact H0.out | exact H1.out); (simp only [List.set_cons_succ, List.set_cons_zero]; exact rfl); clear hR; intro w hR))
    go_ret
    exact ⟨by rw [HV.out]; rfl, hR.below⟩
theorem ones_p (ns : List Int) : (cellsB ns).all (·.oneCell') = true := by simp [cellsB, List.all_map, Value.oneCell']
theorem idxN_zero : idxN 0 = [0] := rfl
theorem named_any (t : List Int) (w0 : World) (hb : bytesOk t) (hl : t.length ≤ 1000) : Calls Try.prog 31 #[.string (strOfNums t)] w0 fun e w' => RowsB w0 w' e (takB t) := by
  have hR := Own.start w0
  have HN := Lib.hid (fun w => namX_any t w hb (by omega))
  have HP := Lib.hid (fun w => putX_any 0 w (by decide) (by decide))
  have hnl := nam18_len t
  have hnl2 : (nam18 t).length ≤ 256 := by omega
  have hz : (idxN 0).length = 1 := rfl
  have HV := Lib.hid (show takB t = nam18 t ++ idxN 0 from rfl)
  clear hnl
  go_enter Try.func31, Try.ntmps31
  go_wp2_with (first
    | (go_at_call 19; refine (HN.out _).mono ?_; rintro e w' ⟨s, vs, rfl, hO, hS⟩; replace hR := hR.join hO; clear hO)
    | (go_at_call 21; refine (HP.out _).mono ?_; rintro e w' ⟨s1, v1, rfl, hO, hS1⟩; replace hR := hR.join hO; clear hO)
    | ((with_reducible apply wpList_appG hR tBytesI); exact rfl; exact rfl; exact rfl; exact hS; (exact Les.skip _ Les.head); (exact hS1.rd hR (fun r hr => List.mem_append_left _ hr) (ones_p _)); (simp [maxLen]; omega); (simp; omega); clear hR hS; intro sx v w hR hS; replace hR := hR.drop (List.Sublist.append (List.Sublist.refl _) (List.sublist_append_right _ _)); simp only [List.set_cons_succ, List.set_cons_zero]))
  go_ret
  refine ⟨sx, _, rfl, by rw [List.append_nil] at hR; exact hR, ?_⟩
  rw [HV.out, List.length_append, cellsB_append]
  exact hS
set_option maxHeartbeats 1000000 in
theorem base_any (p : PubZ) (ho : p.ok) (hs : 0 ≤ p.s ∧ p.s ≤ 32767) (w0 : World) : Calls Try.prog 17 #[.agg (encPub p)] w0 fun e w' => RowsB w0 w' e (headB p) := by
  have hR := Own.start w0
  have HPG := Lib.hid (fun w => putX_any p.g w ho.1.1 ho.1.2)
  have HPS := Lib.hid (fun w => putX_any p.s w ho.2.1.1 ho.2.1.2)
  have hlg := (idxN_len p.g).2
  have hls := (idxN_len p.s).2
  have hog := idxN_ok p.g
  have hos := idxN_ok p.s
  have HTF : Hid (∀ w, Calls Try.prog 20 #[.int .u16 p.f] w fun e w' => RowsB w w' e (bytesN p.f.toNat 2)) := Lib.hid fun w => by
    obtain ⟨fn, hfn⟩ : ∃ fn : Nat, p.f = fn := Int.eq_ofNat_of_zero_le ho.2.2.1.1
    rw [hfn, Int.toNat_natCast]
    exact twoX_any fn w (by have := ho.2.2.1.2; omega)
  have HIS := Lib.hid (fun w => isSeg_any p.s w)
  have hf2 := bytesN_len p.f.toNat 2
  go_enter Try.func17, Try.ntmps17
  go_upto_region 1 with (first
    | ((with_reducible apply wpList_box hR); exact rfl; exact rfl; clear hR; intro g0 w hR; simp only [List.set_cons_succ, List.set_cons_zero]))
  refine wp_region_some hR [(g0, encPub p, 25)] (by (focus (repeat (with_reducible first | exact List.Sublist.slnil | exact List.nil_sublist _ | exact List.Sublist.refl _ | exact List.sublist_append_right _ _ | apply List.Sublist.cons_cons | apply List.Sublist.cons | apply sub_rightI)))) [0, 1, 3, 4] 5 (by kernel_rfl) (by kernel_rfl) (by kernel_rfl) rfl ?_
  clear hR; intro hR
  repeat (refine wpT_step rfl ?_; first
    | ((first | (with_reducible apply q_pl) | ((with_reducible apply q_gd); (first | (apply GdBy.gt; exact rfl; exact rfl) | (apply GdBy.gf; exact rfl; exact rfl) | (apply GdBy.t; exact rfl; exact rfl) | (apply GdBy.f; exact rfl; exact rfl)))); (first | ((with_reducible first | apply t_move | apply t_assign | apply t_and | apply t_or | apply t_cmp | apply t_not | apply t_addr (fRec _ (by decide)) | apply t_addr (fPub _ (by decide)) | apply t_addr (fExt _ (by decide)) | apply t_one tByteR | apply t_one tSlR | apply t_one tIntR | apply t_one tWordP | apply t_one tNumX | apply t_one tStrO | apply t_part tPub | apply t_part tExt) <;> (first | (apply EvC.gv; exact rfl; (with_reducible first | exact Imp.refl _ | (apply Imp.left; exact Imp.refl _) | (apply Imp.right; exact Imp.refl _) | (apply Imp.left; apply Imp.left; exact Imp.refl _))) | (apply EvC.now; exact rfl) | exact rfl | (with_reducible exact EvAll.nil) | (focus (repeat (first | apply EvAll.cons | exact EvAll.nil | (apply EvC.gv; exact rfl; (with_reducible first | exact Imp.refl _ | (apply Imp.left; exact Imp.refl _) | (apply Imp.right; exact Imp.refl _) | (apply Imp.left; apply Imp.left; exact Imp.refl _))) | (apply EvC.now; exact rfl))); done) | (first | exact ext_pub _ | exact ext_ext _) | (focus (repeat (first | apply List.Mem.head | apply List.Mem.tail | apply List.mem_append_right)))))); (simp only [List.set_cons_succ, List.set_cons_zero]; exact rfl)))
  refine wpT_nil ?_
  refine wpG_callO hR (i := 2) (by kernel_rfl) Try.call21 rfl rfl rfl ?_
  clear hR; intro w hR
  refine (HPG.out _).mono ?_
  rintro e w' ⟨s1, v1, rfl, hO, hS1⟩
  replace hR := hR.join hO; clear hO
  refine ⟨_, rfl, hR.drop (by (focus (repeat (with_reducible first | exact List.Sublist.slnil | exact List.nil_sublist _ | exact List.Sublist.refl _ | exact List.sublist_append_right _ _ | apply List.Sublist.cons_cons | apply List.Sublist.cons | apply sub_rightI)))), ?_⟩
  simp only [List.set_cons_succ, List.set_cons_zero]
  obtain ⟨a1, n1, c1, rfl⟩ := hS1.shapeIdx
  refine wpG_callO hR (i := 5) (by kernel_rfl) Try.call21 rfl rfl rfl ?_
  clear hR; intro w hR
  refine (HPS.out _).mono ?_
  rintro e w' ⟨s2, v2, rfl, hO, hS2⟩
  replace hR := hR.join hO; clear hO
  refine ⟨_, rfl, hR.drop (by (focus (repeat (with_reducible first | exact List.Sublist.slnil | exact List.nil_sublist _ | exact List.Sublist.refl _ | exact List.sublist_append_right _ _ | apply List.Sublist.cons_cons | apply List.Sublist.cons | apply sub_rightI)))), ?_⟩
  simp only [List.set_cons_succ, List.set_cons_zero]
  obtain ⟨a2, n2, c2, rfl⟩ := hS2.shapeIdx
  refine wpG_buildS hR (i := 6) (by kernel_rfl) rfl rfl rfl (bCat2) (by (focus (repeat (with_reducible first | exact List.Sublist.slnil | exact List.nil_sublist _ | exact List.Sublist.refl _ | exact List.sublist_append_right _ _ | apply List.Sublist.cons_cons | apply List.Sublist.cons | apply sub_rightI)))) ?_
  clear hR; intro gb w hR
  simp only [List.set_cons_succ, List.set_cons_zero]
  refine wpG_callO hR (i := 7) (by kernel_rfl) Try.call18 rfl rfl rfl ?_
  clear hR; intro w hR
  refine (cat2_row hR (.head _) (hS1.src hR (fun r hr => by simp [hr]) hog) (hS2.src hR (fun r hr => by simp [hr]) hos) (by omega) (by omega)).mono ?_
  rintro e w' ⟨s3, v3, rfl, hO, hS3⟩
  replace hR := hR.join hO; clear hO
  refine ⟨_, rfl, hR.drop (by (focus (repeat (with_reducible first | exact List.Sublist.slnil | exact List.nil_sublist _ | exact List.Sublist.refl _ | exact List.sublist_append_right _ _ | apply List.Sublist.cons_cons | apply List.Sublist.cons | apply sub_rightI)))), ?_⟩
  simp only [List.set_cons_succ, List.set_cons_zero]
  refine wpG_slot hR (i := 8) (by kernel_rfl) rfl rfl (by simp only [List.set_cons_succ, List.set_cons_zero]; exact rfl) ?_
  clear hR; intro w hR
  refine wpG_end hR (by kernel_rfl) ?_
  clear hR; intro w hR
  replace hR := hR.drop (l' := s3 ++ [(g0, encPub p, 25)]) (List.Sublist.append (List.Sublist.refl _) (by (focus (repeat (with_reducible first | exact List.Sublist.slnil | exact List.nil_sublist _ | exact List.Sublist.refl _ | exact List.sublist_append_right _ _ | apply List.Sublist.cons_cons | apply List.Sublist.cons | apply sub_rightI)))))
  clear hS1 hS2
  rw [show (idxN p.g ++ idxN p.s).length = (idxN p.g).length + (idxN p.s).length from List.length_append] at hS3
  have hS := hS3
  clear hS3
  by_cases h0 : p.s = 0
  · have HV := Lib.hid (show headB p = (idxN p.g ++ idxN p.s) ++ bytesN p.f.toNat 2 by unfold headB; rw [if_pos h0, List.append_assoc])
    have HD := Lib.hid (show decide (0 < p.s ∧ p.s ≤ 32767) = false from decide_eq_false fun h => by omega)
    have HIS2 : Hid (∀ w : World, Calls Try.prog 26 #[.int .i64 p.s] w fun e w' => e = .returned (.bool false) ∧ Below w.heap.size w w') := Lib.hid fun w => by have := HIS.out w; rwa [HD.out] at this
    clear h0 HIS HD
    go_wp2_with (first
    | (go_at_call 26; refine (HIS2.out _).mono ?_; rintro e w' ⟨rfl, hb⟩; replace hR := hR.grow hb; clear hb)
    | (go_at_call 20; refine (HTF.out _).mono ?_; rintro e w' ⟨s1, v1, rfl, hO, hS1⟩; replace hR := hR.join hO; clear hO)
    | ((with_reducible apply wpList_appG hR tBytesI); exact rfl; exact rfl; exact rfl; exact hS; (exact Les.skip _ Les.head); (exact hS1.rd hR (fun r hr => List.mem_append_left _ hr) (ones_p _)); (simp [maxLen]; omega); (simp; omega); clear hR hS; intro sx v w hR hS; replace hR := hR.drop (List.Sublist.append (List.Sublist.refl _) (List.sublist_append_right _ _)); simp only [List.set_cons_succ, List.set_cons_zero])
    | ((with_reducible apply q_ls hR); exact rfl; ((with_reducible first | apply t_addr (fRec _ (by decide)) | apply t_addr (fPub _ (by decide)) | apply t_addr (fExt _ (by decide)) | apply t_one tByteR | apply t_one tSlR | apply t_one tIntR | apply t_one tWordP | apply t_one tNumX | apply t_one tStrO | apply t_part tPub | apply t_part tExt) <;> (first | (apply EvC.gv; exact rfl; (with_reducible first | exact Imp.refl _ | (apply Imp.left; exact Imp.refl _) | (apply Imp.right; exact Imp.refl _) | (apply Imp.left; apply Imp.left; exact Imp.refl _))) | (apply EvC.now; exact rfl) | exact rfl | (with_reducible exact EvAll.nil) | (focus (repeat (first | apply EvAll.cons | exact EvAll.nil | (apply EvC.gv; exact rfl; (with_reducible first | exact Imp.refl _ | (apply Imp.left; exact Imp.refl _) | (apply Imp.right; exact Imp.refl _) | (apply Imp.left; apply Imp.left; exact Imp.refl _))) | (apply EvC.now; exact rfl))); done) | (first | exact ext_pub _ | exact ext_ext _) | (focus (repeat (first | apply List.Mem.head | apply List.Mem.tail | apply List.mem_append_right))))); (simp only [List.set_cons_succ, List.set_cons_zero]; exact rfl); clear hR; intro w hR))
    go_ret
    refine ⟨sx, _, rfl, hR.drop (List.sublist_append_left _ _), ?_⟩
    rw [HV.out, List.length_append, cellsB_append, List.length_append]
    exact hS
  · have HV := Lib.hid (show headB p = idxN p.g ++ idxN p.s by unfold headB; rw [if_neg h0, List.append_nil])
    have HD := Lib.hid (show decide (0 < p.s ∧ p.s ≤ 32767) = true from decide_eq_true ⟨by omega, hs.2⟩)
    have HIS2 : Hid (∀ w : World, Calls Try.prog 26 #[.int .i64 p.s] w fun e w' => e = .returned (.bool true) ∧ Below w.heap.size w w') := Lib.hid fun w => by have := HIS.out w; rwa [HD.out] at this
    clear h0 HIS HD
    go_wp2_with (first
    | (go_at_call 26; refine (HIS2.out _).mono ?_; rintro e w' ⟨rfl, hb⟩; replace hR := hR.grow hb; clear hb)
    | ((with_reducible apply q_ls hR); exact rfl; ((with_reducible first | apply t_addr (fRec _ (by decide)) | apply t_addr (fPub _ (by decide)) | apply t_addr (fExt _ (by decide)) | apply t_one tByteR | apply t_one tSlR | apply t_one tIntR | apply t_one tWordP | apply t_one tNumX | apply t_one tStrO | apply t_part tPub | apply t_part tExt) <;> (first | (apply EvC.gv; exact rfl; (with_reducible first | exact Imp.refl _ | (apply Imp.left; exact Imp.refl _) | (apply Imp.right; exact Imp.refl _) | (apply Imp.left; apply Imp.left; exact Imp.refl _))) | (apply EvC.now; exact rfl) | exact rfl | (with_reducible exact EvAll.nil) | (focus (repeat (first | apply EvAll.cons | exact EvAll.nil | (apply EvC.gv; exact rfl; (with_reducible first | exact Imp.refl _ | (apply Imp.left; exact Imp.refl _) | (apply Imp.right; exact Imp.refl _) | (apply Imp.left; apply Imp.left; exact Imp.refl _))) | (apply EvC.now; exact rfl))); done) | (first | exact ext_pub _ | exact ext_ext _) | (focus (repeat (first | apply List.Mem.head | apply List.Mem.tail | apply List.mem_append_right))))); (simp only [List.set_cons_succ, List.set_cons_zero]; exact rfl); clear hR; intro w hR))
    go_ret
    refine ⟨s3, _, rfl, hR.drop (List.sublist_append_left _ _), ?_⟩
    rw [HV.out, List.length_append]
    exact hS
/-! ### What may be made -/
theorem b97 : bytesOk [97] := .cons (by decide) .nil
theorem b98 : bytesOk [98] := .cons (by decide) .nil
theorem one_src {w0 w : World} {l : List RowT} {g : Nat} {n : Int} (hR : Own w0 w l) (hm : (g, #[.int .u8 n], 5) ∈ l) (hb : bytesOk [n]) : SrcW w (.slice (some ⟨g, 0, none⟩) 1 1) [n] := src_row (ns := [n]) hR hm rfl hb (by simp)
set_option maxHeartbeats 2000000 in
theorem made_any (x : ExtZ) (ho : x.ok) (hl : x.nm.length ≤ 1000) (w0 : World) : Calls Try.prog 35 #[.agg (encExt x)] w0 fun e w' => RowsB w0 w' e (madB x) := by
  have hR := Own.start w0
  have HNM := Lib.hid (fun w => named_any x.nm w ho.1 hl)
  have HLG := Lib.hid (fun w => lngX_any x.l w ho.2.2)
  have HL1 := Lib.hid (fun w => lngX_any 1 w (by decide))
  have htl := takB_len x.nm
  have hlt : (takB x.nm).length ≤ 1000 := by omega
  have hll := longN_len x.l
  have hl1 : (longN 1).length ≤ 1000 := by decide
  have hot := takB_ok ho.1
  have hol := longN_ok x.l
  have ho1 := longN_ok 1
  have hlx : (longN x.l).length ≤ 1000 := by omega
  have H7 : ([97] : List Int).length ≤ 1000 := by decide
  have H8 : ([98] : List Int).length ≤ 1000 := by decide
  by_cases hc : x.c = 97
  · have HC := Lib.hid (show cmpB .eql x.c 97 = some true by simp [cmpB, hc])
    have HV := Lib.hid (show madB x = takB x.nm ++ ([97] ++ (longN x.l ++ longN 1)) by unfold madB takB; rw [if_pos hc]; simp; rfl)
    clear hc htl hll
    go_enter Try.func35, Try.ntmps35
    go_upto_region 2 with (first
    | ((with_reducible apply wpList_box hR); exact rfl; exact rfl; clear hR; intro g0 w hR; simp only [List.set_cons_succ, List.set_cons_zero])
    | ((with_reducible apply q_ls hR); exact rfl; (with_reducible apply t_cmp); (apply EvC.now; exact rfl); (apply EvC.now; exact rfl); exact HC.out; (simp only [List.set_cons_succ, List.set_cons_zero]; exact rfl); clear hR; intro w hR)
    | ((with_reducible apply q_ls hR); exact rfl; ((with_reducible first | apply t_addr (fRec _ (by decide)) | apply t_addr (fPub _ (by decide)) | apply t_addr (fExt _ (by decide)) | apply t_one tByteR | apply t_one tSlR | apply t_one tIntR | apply t_one tWordP | apply t_one tNumX | apply t_one tStrO | apply t_part tPub | apply t_part tExt) <;> (first | (apply EvC.gv; exact rfl; (with_reducible first | exact Imp.refl _ | (apply Imp.left; exact Imp.refl _) | (apply Imp.right; exact Imp.refl _) | (apply Imp.left; apply Imp.left; exact Imp.refl _))) | (apply EvC.now; exact rfl) | exact rfl | (with_reducible exact EvAll.nil) | (focus (repeat (first | apply EvAll.cons | exact EvAll.nil | (apply EvC.gv; exact rfl; (with_reducible first | exact Imp.refl _ | (apply Imp.left; exact Imp.refl _) | (apply Imp.right; exact Imp.refl _) | (apply Imp.left; apply Imp.left; exact Imp.refl _))) | (apply EvC.now; exact rfl))); done) | (first | exact ext_pub _ | exact ext_ext _) | (focus (repeat (first | apply List.Mem.head | apply List.Mem.tail | apply List.mem_append_right))))); (simp only [List.set_cons_succ, List.set_cons_zero]; exact rfl); clear hR; intro w hR))
    refine wp_region_some hR [(g0, encExt x, 44)] (by (focus (repeat (with_reducible first | exact List.Sublist.slnil | exact List.nil_sublist _ | exact List.Sublist.refl _ | exact List.sublist_append_right _ _ | apply List.Sublist.cons_cons | apply List.Sublist.cons | apply sub_rightI)))) [0, 1, 4, 5] 7 (by kernel_rfl) (by kernel_rfl) (by kernel_rfl) rfl ?_
    clear hR; intro hR
    repeat (refine wpT_step rfl ?_; first
    | ((first | (with_reducible apply q_pl) | ((with_reducible apply q_gd); (first | (apply GdBy.gt; exact rfl; exact rfl) | (apply GdBy.gf; exact rfl; exact rfl) | (apply GdBy.t; exact rfl; exact rfl) | (apply GdBy.f; exact rfl; exact rfl)))); (first | ((with_reducible first | apply t_move | apply t_assign | apply t_and | apply t_or | apply t_cmp | apply t_not | apply t_addr (fRec _ (by decide)) | apply t_addr (fPub _ (by decide)) | apply t_addr (fExt _ (by decide)) | apply t_one tByteR | apply t_one tSlR | apply t_one tIntR | apply t_one tWordP | apply t_one tNumX | apply t_one tStrO | apply t_part tPub | apply t_part tExt) <;> (first | (apply EvC.gv; exact rfl; (with_reducible first | exact Imp.refl _ | (apply Imp.left; exact Imp.refl _) | (apply Imp.right; exact Imp.refl _) | (apply Imp.left; apply Imp.left; exact Imp.refl _))) | (apply EvC.now; exact rfl) | exact rfl | (with_reducible exact EvAll.nil) | (focus (repeat (first | apply EvAll.cons | exact EvAll.nil | (apply EvC.gv; exact rfl; (with_reducible first | exact Imp.refl _ | (apply Imp.left; exact Imp.refl _) | (apply Imp.right; exact Imp.refl _) | (apply Imp.left; apply Imp.left; exact Imp.refl _))) | (apply EvC.now; exact rfl))); done) | (first | exact ext_pub _ | exact ext_ext _) | (focus (repeat (first | apply List.Mem.head | apply List.Mem.tail | apply List.mem_append_right)))))); (simp only [List.set_cons_succ, List.set_cons_zero]; exact rfl)))
    refine wpT_nil ?_
    refine wpG_two hR (i := 2) (j := 3) (by kernel_rfl) ?_ ?_
    · skip
      clear hR; intro w hR
      refine opCallO hR Try.call31 rfl rfl rfl ?_
      refine (HNM.out _).mono ?_
      rintro e w' ⟨s1, v1, rfl, hO, hS1⟩
      replace hR := hR.join hO; clear hO
      refine ⟨_, rfl, hR.drop (by (focus (repeat (with_reducible first | exact List.Sublist.slnil | exact List.nil_sublist _ | exact List.Sublist.refl _ | exact List.sublist_append_right _ _ | apply List.Sublist.cons_cons | apply List.Sublist.cons | apply sub_rightI)))), ?_⟩
      simp only [List.set_cons_succ, List.set_cons_zero]
      obtain ⟨a1, n1, c1, rfl⟩ := hS1.shapeIdx
      refine wpG_two hR (i := 3) (j := 6) (by kernel_rfl) ?_ ?_
      · skip
        clear hR; intro w hR
        refine opBuildS hR rfl rfl rfl (bB1 _) ?_
        clear hR; intro gb w hR
        refine ⟨hR.drop (by (focus (repeat (with_reducible first | exact List.Sublist.slnil | exact List.nil_sublist _ | exact List.Sublist.refl _ | exact List.sublist_append_right _ _ | apply List.Sublist.cons_cons | apply List.Sublist.cons | apply sub_rightI)))), ?_⟩
        simp only [List.set_cons_succ, List.set_cons_zero]
        refine wpG_callO hR (i := 6) (by kernel_rfl) Try.call47 rfl rfl rfl ?_
        clear hR; intro w hR
        refine (HLG.out _).mono ?_
        rintro e w' ⟨s2, v2, rfl, hO, hS2⟩
        replace hR := hR.join hO; clear hO
        refine ⟨_, rfl, hR.drop (by (focus (repeat (with_reducible first | exact List.Sublist.slnil | exact List.nil_sublist _ | exact List.Sublist.refl _ | exact List.sublist_append_right _ _ | apply List.Sublist.cons_cons | apply List.Sublist.cons | apply sub_rightI)))), ?_⟩
        simp only [List.set_cons_succ, List.set_cons_zero]
        obtain ⟨a2, n2, c2, rfl⟩ := hS2.shapeIdx
        refine wpG_callO hR (i := 7) (by kernel_rfl) Try.call47 rfl rfl rfl ?_
        clear hR; intro w hR
        refine (HL1.out _).mono ?_
        rintro e w' ⟨s3, v3, rfl, hO, hS3⟩
        replace hR := hR.join hO; clear hO
        refine ⟨_, rfl, hR.drop (by (focus (repeat (with_reducible first | exact List.Sublist.slnil | exact List.nil_sublist _ | exact List.Sublist.refl _ | exact List.sublist_append_right _ _ | apply List.Sublist.cons_cons | apply List.Sublist.cons | apply sub_rightI)))), ?_⟩
        simp only [List.set_cons_succ, List.set_cons_zero]
        obtain ⟨a3, n3, c3, rfl⟩ := hS3.shapeIdx
        refine wpG_buildS hR (i := 8) (by kernel_rfl) rfl rfl rfl (bCat4) (by (focus (repeat (with_reducible first | exact List.Sublist.slnil | exact List.nil_sublist _ | exact List.Sublist.refl _ | exact List.sublist_append_right _ _ | apply List.Sublist.cons_cons | apply List.Sublist.cons | apply sub_rightI)))) ?_
        clear hR; intro gq w hR
        simp only [List.set_cons_succ, List.set_cons_zero]
        refine wpG_callO hR (i := 9) (by kernel_rfl) Try.call18 rfl rfl rfl ?_
        clear hR; intro w hR
        refine (cat4_row hR (.head _) (hS1.src hR (fun r hr => by simp [hr]) hot) (one_src hR (by (focus (repeat (first | apply List.Mem.head | apply List.Mem.tail | apply List.mem_append_right)))) b97) (hS2.src hR (fun r hr => by simp [hr]) hol) (hS3.src hR (fun r hr => by simp [hr]) ho1) hlt H7 hlx hl1).mono ?_
        rintro e w' ⟨sz, vz, rfl, hO, hSz⟩
        replace hR := hR.join hO; clear hO
        refine ⟨_, rfl, hR.drop (by (focus (repeat (with_reducible first | exact List.Sublist.slnil | exact List.nil_sublist _ | exact List.Sublist.refl _ | exact List.sublist_append_right _ _ | apply List.Sublist.cons_cons | apply List.Sublist.cons | apply sub_rightI)))), ?_⟩
        simp only [List.set_cons_succ, List.set_cons_zero]
        refine wpG_slot hR (i := 10) (by kernel_rfl) rfl rfl (by simp only [List.set_cons_succ, List.set_cons_zero]; exact rfl) ?_
        clear hR; intro w hR
        refine wpG_end hR (by kernel_rfl) ?_
        clear hR; intro w hR
        go_wp2
        go_ret
        refine ⟨sz, _, rfl, hR.drop (List.sublist_append_left _ _), ?_⟩
        rw [HV.out]
        exact hSz
      · skip
        clear hR; intro w hR
        refine opCallO hR Try.call47 rfl rfl rfl ?_
        refine (HLG.out _).mono ?_
        rintro e w' ⟨s2, v2, rfl, hO, hS2⟩
        replace hR := hR.join hO; clear hO
        refine ⟨_, rfl, hR.drop (by (focus (repeat (with_reducible first | exact List.Sublist.slnil | exact List.nil_sublist _ | exact List.Sublist.refl _ | exact List.sublist_append_right _ _ | apply List.Sublist.cons_cons | apply List.Sublist.cons | apply sub_rightI)))), ?_⟩
        simp only [List.set_cons_succ, List.set_cons_zero]
        obtain ⟨a2, n2, c2, rfl⟩ := hS2.shapeIdx
        refine wpG_two hR (i := 3) (j := 7) (by kernel_rfl) ?_ ?_
        · skip
          clear hR; intro w hR
          refine opBuildS hR rfl rfl rfl (bB1 _) ?_
          clear hR; intro gb w hR
          refine ⟨hR.drop (by (focus (repeat (with_reducible first | exact List.Sublist.slnil | exact List.nil_sublist _ | exact List.Sublist.refl _ | exact List.sublist_append_right _ _ | apply List.Sublist.cons_cons | apply List.Sublist.cons | apply sub_rightI)))), ?_⟩
          simp only [List.set_cons_succ, List.set_cons_zero]
          refine wpG_callO hR (i := 7) (by kernel_rfl) Try.call47 rfl rfl rfl ?_
          clear hR; intro w hR
          refine (HL1.out _).mono ?_
          rintro e w' ⟨s3, v3, rfl, hO, hS3⟩
          replace hR := hR.join hO; clear hO
          refine ⟨_, rfl, hR.drop (by (focus (repeat (with_reducible first | exact List.Sublist.slnil | exact List.nil_sublist _ | exact List.Sublist.refl _ | exact List.sublist_append_right _ _ | apply List.Sublist.cons_cons | apply List.Sublist.cons | apply sub_rightI)))), ?_⟩
          simp only [List.set_cons_succ, List.set_cons_zero]
          obtain ⟨a3, n3, c3, rfl⟩ := hS3.shapeIdx
          refine wpG_buildS hR (i := 8) (by kernel_rfl) rfl rfl rfl (bCat4) (by (focus (repeat (with_reducible first | exact List.Sublist.slnil | exact List.nil_sublist _ | exact List.Sublist.refl _ | exact List.sublist_append_right _ _ | apply List.Sublist.cons_cons | apply List.Sublist.cons | apply sub_rightI)))) ?_
          clear hR; intro gq w hR
          simp only [List.set_cons_succ, List.set_cons_zero]
          refine wpG_callO hR (i := 9) (by kernel_rfl) Try.call18 rfl rfl rfl ?_
          clear hR; intro w hR
          refine (cat4_row hR (.head _) (hS1.src hR (fun r hr => by simp [hr]) hot) (one_src hR (by (focus (repeat (first | apply List.Mem.head | apply List.Mem.tail | apply List.mem_append_right)))) b97) (hS2.src hR (fun r hr => by simp [hr]) hol) (hS3.src hR (fun r hr => by simp [hr]) ho1) hlt H7 hlx hl1).mono ?_
          rintro e w' ⟨sz, vz, rfl, hO, hSz⟩
          replace hR := hR.join hO; clear hO
          refine ⟨_, rfl, hR.drop (by (focus (repeat (with_reducible first | exact List.Sublist.slnil | exact List.nil_sublist _ | exact List.Sublist.refl _ | exact List.sublist_append_right _ _ | apply List.Sublist.cons_cons | apply List.Sublist.cons | apply sub_rightI)))), ?_⟩
          simp only [List.set_cons_succ, List.set_cons_zero]
          refine wpG_slot hR (i := 10) (by kernel_rfl) rfl rfl (by simp only [List.set_cons_succ, List.set_cons_zero]; exact rfl) ?_
          clear hR; intro w hR
          refine wpG_end hR (by kernel_rfl) ?_
          clear hR; intro w hR
          go_wp2
          go_ret
          refine ⟨sz, _, rfl, hR.drop (List.sublist_append_left _ _), ?_⟩
          rw [HV.out]
          exact hSz
        · skip
          clear hR; intro w hR
          refine opCallO hR Try.call47 rfl rfl rfl ?_
          refine (HL1.out _).mono ?_
          rintro e w' ⟨s3, v3, rfl, hO, hS3⟩
          replace hR := hR.join hO; clear hO
          refine ⟨_, rfl, hR.drop (by (focus (repeat (with_reducible first | exact List.Sublist.slnil | exact List.nil_sublist _ | exact List.Sublist.refl _ | exact List.sublist_append_right _ _ | apply List.Sublist.cons_cons | apply List.Sublist.cons | apply sub_rightI)))), ?_⟩
          simp only [List.set_cons_succ, List.set_cons_zero]
          obtain ⟨a3, n3, c3, rfl⟩ := hS3.shapeIdx
          refine wpG_buildS hR (i := 3) (by kernel_rfl) rfl rfl rfl (bB1 _) (by (focus (repeat (with_reducible first | exact List.Sublist.slnil | exact List.nil_sublist _ | exact List.Sublist.refl _ | exact List.sublist_append_right _ _ | apply List.Sublist.cons_cons | apply List.Sublist.cons | apply sub_rightI)))) ?_
          clear hR; intro gb w hR
          simp only [List.set_cons_succ, List.set_cons_zero]
          refine wpG_buildS hR (i := 8) (by kernel_rfl) rfl rfl rfl (bCat4) (by (focus (repeat (with_reducible first | exact List.Sublist.slnil | exact List.nil_sublist _ | exact List.Sublist.refl _ | exact List.sublist_append_right _ _ | apply List.Sublist.cons_cons | apply List.Sublist.cons | apply sub_rightI)))) ?_
          clear hR; intro gq w hR
          simp only [List.set_cons_succ, List.set_cons_zero]
          refine wpG_callO hR (i := 9) (by kernel_rfl) Try.call18 rfl rfl rfl ?_
          clear hR; intro w hR
          refine (cat4_row hR (.head _) (hS1.src hR (fun r hr => by simp [hr]) hot) (one_src hR (by (focus (repeat (first | apply List.Mem.head | apply List.Mem.tail | apply List.mem_append_right)))) b97) (hS2.src hR (fun r hr => by simp [hr]) hol) (hS3.src hR (fun r hr => by simp [hr]) ho1) hlt H7 hlx hl1).mono ?_
          rintro e w' ⟨sz, vz, rfl, hO, hSz⟩
          replace hR := hR.join hO; clear hO
          refine ⟨_, rfl, hR.drop (by (focus (repeat (with_reducible first | exact List.Sublist.slnil | exact List.nil_sublist _ | exact List.Sublist.refl _ | exact List.sublist_append_right _ _ | apply List.Sublist.cons_cons | apply List.Sublist.cons | apply sub_rightI)))), ?_⟩
          simp only [List.set_cons_succ, List.set_cons_zero]
          refine wpG_slot hR (i := 10) (by kernel_rfl) rfl rfl (by simp only [List.set_cons_succ, List.set_cons_zero]; exact rfl) ?_
          clear hR; intro w hR
          refine wpG_end hR (by kernel_rfl) ?_
          clear hR; intro w hR
          go_wp2
          go_ret
          refine ⟨sz, _, rfl, hR.drop (List.sublist_append_left _ _), ?_⟩
          rw [HV.out]
          exact hSz
    · skip
      clear hR; intro w hR
      refine opBuildS hR rfl rfl rfl (bB1 _) ?_
      clear hR; intro gb w hR
      refine ⟨hR.drop (by (focus (repeat (with_reducible first | exact List.Sublist.slnil | exact List.nil_sublist _ | exact List.Sublist.refl _ | exact List.sublist_append_right _ _ | apply List.Sublist.cons_cons | apply List.Sublist.cons | apply sub_rightI)))), ?_⟩
      simp only [List.set_cons_succ, List.set_cons_zero]
      refine wpG_callO hR (i := 2) (by kernel_rfl) Try.call31 rfl rfl rfl ?_
      clear hR; intro w hR
      refine (HNM.out _).mono ?_
      rintro e w' ⟨s1, v1, rfl, hO, hS1⟩
      replace hR := hR.join hO; clear hO
      refine ⟨_, rfl, hR.drop (by (focus (repeat (with_reducible first | exact List.Sublist.slnil | exact List.nil_sublist _ | exact List.Sublist.refl _ | exact List.sublist_append_right _ _ | apply List.Sublist.cons_cons | apply List.Sublist.cons | apply sub_rightI)))), ?_⟩
      simp only [List.set_cons_succ, List.set_cons_zero]
      obtain ⟨a1, n1, c1, rfl⟩ := hS1.shapeIdx
      refine wpG_callO hR (i := 6) (by kernel_rfl) Try.call47 rfl rfl rfl ?_
      clear hR; intro w hR
      refine (HLG.out _).mono ?_
      rintro e w' ⟨s2, v2, rfl, hO, hS2⟩
      replace hR := hR.join hO; clear hO
      refine ⟨_, rfl, hR.drop (by (focus (repeat (with_reducible first | exact List.Sublist.slnil | exact List.nil_sublist _ | exact List.Sublist.refl _ | exact List.sublist_append_right _ _ | apply List.Sublist.cons_cons | apply List.Sublist.cons | apply sub_rightI)))), ?_⟩
      simp only [List.set_cons_succ, List.set_cons_zero]
      obtain ⟨a2, n2, c2, rfl⟩ := hS2.shapeIdx
      refine wpG_callO hR (i := 7) (by kernel_rfl) Try.call47 rfl rfl rfl ?_
      clear hR; intro w hR
      refine (HL1.out _).mono ?_
      rintro e w' ⟨s3, v3, rfl, hO, hS3⟩
      replace hR := hR.join hO; clear hO
      refine ⟨_, rfl, hR.drop (by (focus (repeat (with_reducible first | exact List.Sublist.slnil | exact List.nil_sublist _ | exact List.Sublist.refl _ | exact List.sublist_append_right _ _ | apply List.Sublist.cons_cons | apply List.Sublist.cons | apply sub_rightI)))), ?_⟩
      simp only [List.set_cons_succ, List.set_cons_zero]
      obtain ⟨a3, n3, c3, rfl⟩ := hS3.shapeIdx
      refine wpG_buildS hR (i := 8) (by kernel_rfl) rfl rfl rfl (bCat4) (by (focus (repeat (with_reducible first | exact List.Sublist.slnil | exact List.nil_sublist _ | exact List.Sublist.refl _ | exact List.sublist_append_right _ _ | apply List.Sublist.cons_cons | apply List.Sublist.cons | apply sub_rightI)))) ?_
      clear hR; intro gq w hR
      simp only [List.set_cons_succ, List.set_cons_zero]
      refine wpG_callO hR (i := 9) (by kernel_rfl) Try.call18 rfl rfl rfl ?_
      clear hR; intro w hR
      refine (cat4_row hR (.head _) (hS1.src hR (fun r hr => by simp [hr]) hot) (one_src hR (by (focus (repeat (first | apply List.Mem.head | apply List.Mem.tail | apply List.mem_append_right)))) b97) (hS2.src hR (fun r hr => by simp [hr]) hol) (hS3.src hR (fun r hr => by simp [hr]) ho1) hlt H7 hlx hl1).mono ?_
      rintro e w' ⟨sz, vz, rfl, hO, hSz⟩
      replace hR := hR.join hO; clear hO
      refine ⟨_, rfl, hR.drop (by (focus (repeat (with_reducible first | exact List.Sublist.slnil | exact List.nil_sublist _ | exact List.Sublist.refl _ | exact List.sublist_append_right _ _ | apply List.Sublist.cons_cons | apply List.Sublist.cons | apply sub_rightI)))), ?_⟩
      simp only [List.set_cons_succ, List.set_cons_zero]
      refine wpG_slot hR (i := 10) (by kernel_rfl) rfl rfl (by simp only [List.set_cons_succ, List.set_cons_zero]; exact rfl) ?_
      clear hR; intro w hR
      refine wpG_end hR (by kernel_rfl) ?_
      clear hR; intro w hR
      go_wp2
      go_ret
      refine ⟨sz, _, rfl, hR.drop (List.sublist_append_left _ _), ?_⟩
      rw [HV.out]
      exact hSz
  · have HC := Lib.hid (show cmpB .eql x.c 97 = some false by simp [cmpB, hc])
    have HV := Lib.hid (show madB x = takB x.nm ++ ([98] ++ longN x.l) by unfold madB takB; rw [if_neg hc]; simp)
    clear hc htl hll
    go_enter Try.func35, Try.ntmps35
    go_upto_region 3 with (first
    | ((with_reducible apply wpList_box hR); exact rfl; exact rfl; clear hR; intro g0 w hR; simp only [List.set_cons_succ, List.set_cons_zero])
    | ((with_reducible apply q_ls hR); exact rfl; (with_reducible apply t_cmp); (apply EvC.now; exact rfl); (apply EvC.now; exact rfl); exact HC.out; (simp only [List.set_cons_succ, List.set_cons_zero]; exact rfl); clear hR; intro w hR)
    | ((with_reducible apply q_ls hR); exact rfl; ((with_reducible first | apply t_addr (fRec _ (by decide)) | apply t_addr (fPub _ (by decide)) | apply t_addr (fExt _ (by decide)) | apply t_one tByteR | apply t_one tSlR | apply t_one tIntR | apply t_one tWordP | apply t_one tNumX | apply t_one tStrO | apply t_part tPub | apply t_part tExt) <;> (first | (apply EvC.gv; exact rfl; (with_reducible first | exact Imp.refl _ | (apply Imp.left; exact Imp.refl _) | (apply Imp.right; exact Imp.refl _) | (apply Imp.left; apply Imp.left; exact Imp.refl _))) | (apply EvC.now; exact rfl) | exact rfl | (with_reducible exact EvAll.nil) | (focus (repeat (first | apply EvAll.cons | exact EvAll.nil | (apply EvC.gv; exact rfl; (with_reducible first | exact Imp.refl _ | (apply Imp.left; exact Imp.refl _) | (apply Imp.right; exact Imp.refl _) | (apply Imp.left; apply Imp.left; exact Imp.refl _))) | (apply EvC.now; exact rfl))); done) | (first | exact ext_pub _ | exact ext_ext _) | (focus (repeat (first | apply List.Mem.head | apply List.Mem.tail | apply List.mem_append_right))))); (simp only [List.set_cons_succ, List.set_cons_zero]; exact rfl); clear hR; intro w hR))
    refine wp_region_some hR [(g0, encExt x, 44)] (by (focus (repeat (with_reducible first | exact List.Sublist.slnil | exact List.nil_sublist _ | exact List.Sublist.refl _ | exact List.sublist_append_right _ _ | apply List.Sublist.cons_cons | apply List.Sublist.cons | apply sub_rightI)))) [0, 1, 4, 5] 6 (by kernel_rfl) (by kernel_rfl) (by kernel_rfl) rfl ?_
    clear hR; intro hR
    repeat (refine wpT_step rfl ?_; first
    | ((first | (with_reducible apply q_pl) | ((with_reducible apply q_gd); (first | (apply GdBy.gt; exact rfl; exact rfl) | (apply GdBy.gf; exact rfl; exact rfl) | (apply GdBy.t; exact rfl; exact rfl) | (apply GdBy.f; exact rfl; exact rfl)))); (first | ((with_reducible first | apply t_move | apply t_assign | apply t_and | apply t_or | apply t_cmp | apply t_not | apply t_addr (fRec _ (by decide)) | apply t_addr (fPub _ (by decide)) | apply t_addr (fExt _ (by decide)) | apply t_one tByteR | apply t_one tSlR | apply t_one tIntR | apply t_one tWordP | apply t_one tNumX | apply t_one tStrO | apply t_part tPub | apply t_part tExt) <;> (first | (apply EvC.gv; exact rfl; (with_reducible first | exact Imp.refl _ | (apply Imp.left; exact Imp.refl _) | (apply Imp.right; exact Imp.refl _) | (apply Imp.left; apply Imp.left; exact Imp.refl _))) | (apply EvC.now; exact rfl) | exact rfl | (with_reducible exact EvAll.nil) | (focus (repeat (first | apply EvAll.cons | exact EvAll.nil | (apply EvC.gv; exact rfl; (with_reducible first | exact Imp.refl _ | (apply Imp.left; exact Imp.refl _) | (apply Imp.right; exact Imp.refl _) | (apply Imp.left; apply Imp.left; exact Imp.refl _))) | (apply EvC.now; exact rfl))); done) | (first | exact ext_pub _ | exact ext_ext _) | (focus (repeat (first | apply List.Mem.head | apply List.Mem.tail | apply List.mem_append_right)))))); (simp only [List.set_cons_succ, List.set_cons_zero]; exact rfl)))
    refine wpT_nil ?_
    refine wpG_two hR (i := 2) (j := 3) (by kernel_rfl) ?_ ?_
    · skip
      clear hR; intro w hR
      refine opCallO hR Try.call31 rfl rfl rfl ?_
      refine (HNM.out _).mono ?_
      rintro e w' ⟨s1, v1, rfl, hO, hS1⟩
      replace hR := hR.join hO; clear hO
      refine ⟨_, rfl, hR.drop (by (focus (repeat (with_reducible first | exact List.Sublist.slnil | exact List.nil_sublist _ | exact List.Sublist.refl _ | exact List.sublist_append_right _ _ | apply List.Sublist.cons_cons | apply List.Sublist.cons | apply sub_rightI)))), ?_⟩
      simp only [List.set_cons_succ, List.set_cons_zero]
      obtain ⟨a1, n1, c1, rfl⟩ := hS1.shapeIdx
      refine wpG_two hR (i := 3) (j := 6) (by kernel_rfl) ?_ ?_
      · skip
        clear hR; intro w hR
        refine opBuildS hR rfl rfl rfl (bB1 _) ?_
        clear hR; intro gb w hR
        refine ⟨hR.drop (by (focus (repeat (with_reducible first | exact List.Sublist.slnil | exact List.nil_sublist _ | exact List.Sublist.refl _ | exact List.sublist_append_right _ _ | apply List.Sublist.cons_cons | apply List.Sublist.cons | apply sub_rightI)))), ?_⟩
        simp only [List.set_cons_succ, List.set_cons_zero]
        refine wpG_callO hR (i := 6) (by kernel_rfl) Try.call47 rfl rfl rfl ?_
        clear hR; intro w hR
        refine (HLG.out _).mono ?_
        rintro e w' ⟨s2, v2, rfl, hO, hS2⟩
        replace hR := hR.join hO; clear hO
        refine ⟨_, rfl, hR.drop (by (focus (repeat (with_reducible first | exact List.Sublist.slnil | exact List.nil_sublist _ | exact List.Sublist.refl _ | exact List.sublist_append_right _ _ | apply List.Sublist.cons_cons | apply List.Sublist.cons | apply sub_rightI)))), ?_⟩
        simp only [List.set_cons_succ, List.set_cons_zero]
        obtain ⟨a2, n2, c2, rfl⟩ := hS2.shapeIdx
        refine wpG_buildS hR (i := 7) (by kernel_rfl) rfl rfl rfl (bCat3) (by (focus (repeat (with_reducible first | exact List.Sublist.slnil | exact List.nil_sublist _ | exact List.Sublist.refl _ | exact List.sublist_append_right _ _ | apply List.Sublist.cons_cons | apply List.Sublist.cons | apply sub_rightI)))) ?_
        clear hR; intro gq w hR
        simp only [List.set_cons_succ, List.set_cons_zero]
        refine wpG_callO hR (i := 8) (by kernel_rfl) Try.call18 rfl rfl rfl ?_
        clear hR; intro w hR
        refine (cat3_row hR (.head _) (hS1.src hR (fun r hr => by simp [hr]) hot) (one_src hR (by (focus (repeat (first | apply List.Mem.head | apply List.Mem.tail | apply List.mem_append_right)))) b98) (hS2.src hR (fun r hr => by simp [hr]) hol) hlt H8 hlx).mono ?_
        rintro e w' ⟨sz, vz, rfl, hO, hSz⟩
        replace hR := hR.join hO; clear hO
        refine ⟨_, rfl, hR.drop (by (focus (repeat (with_reducible first | exact List.Sublist.slnil | exact List.nil_sublist _ | exact List.Sublist.refl _ | exact List.sublist_append_right _ _ | apply List.Sublist.cons_cons | apply List.Sublist.cons | apply sub_rightI)))), ?_⟩
        simp only [List.set_cons_succ, List.set_cons_zero]
        refine wpG_slot hR (i := 9) (by kernel_rfl) rfl rfl (by simp only [List.set_cons_succ, List.set_cons_zero]; exact rfl) ?_
        clear hR; intro w hR
        refine wpG_end hR (by kernel_rfl) ?_
        clear hR; intro w hR
        go_wp2
        go_ret
        refine ⟨sz, _, rfl, hR.drop (List.sublist_append_left _ _), ?_⟩
        rw [HV.out]
        exact hSz
      · skip
        clear hR; intro w hR
        refine opCallO hR Try.call47 rfl rfl rfl ?_
        refine (HLG.out _).mono ?_
        rintro e w' ⟨s2, v2, rfl, hO, hS2⟩
        replace hR := hR.join hO; clear hO
        refine ⟨_, rfl, hR.drop (by (focus (repeat (with_reducible first | exact List.Sublist.slnil | exact List.nil_sublist _ | exact List.Sublist.refl _ | exact List.sublist_append_right _ _ | apply List.Sublist.cons_cons | apply List.Sublist.cons | apply sub_rightI)))), ?_⟩
        simp only [List.set_cons_succ, List.set_cons_zero]
        obtain ⟨a2, n2, c2, rfl⟩ := hS2.shapeIdx
        refine wpG_buildS hR (i := 3) (by kernel_rfl) rfl rfl rfl (bB1 _) (by (focus (repeat (with_reducible first | exact List.Sublist.slnil | exact List.nil_sublist _ | exact List.Sublist.refl _ | exact List.sublist_append_right _ _ | apply List.Sublist.cons_cons | apply List.Sublist.cons | apply sub_rightI)))) ?_
        clear hR; intro gb w hR
        simp only [List.set_cons_succ, List.set_cons_zero]
        refine wpG_buildS hR (i := 7) (by kernel_rfl) rfl rfl rfl (bCat3) (by (focus (repeat (with_reducible first | exact List.Sublist.slnil | exact List.nil_sublist _ | exact List.Sublist.refl _ | exact List.sublist_append_right _ _ | apply List.Sublist.cons_cons | apply List.Sublist.cons | apply sub_rightI)))) ?_
        clear hR; intro gq w hR
        simp only [List.set_cons_succ, List.set_cons_zero]
        refine wpG_callO hR (i := 8) (by kernel_rfl) Try.call18 rfl rfl rfl ?_
        clear hR; intro w hR
        refine (cat3_row hR (.head _) (hS1.src hR (fun r hr => by simp [hr]) hot) (one_src hR (by (focus (repeat (first | apply List.Mem.head | apply List.Mem.tail | apply List.mem_append_right)))) b98) (hS2.src hR (fun r hr => by simp [hr]) hol) hlt H8 hlx).mono ?_
        rintro e w' ⟨sz, vz, rfl, hO, hSz⟩
        replace hR := hR.join hO; clear hO
        refine ⟨_, rfl, hR.drop (by (focus (repeat (with_reducible first | exact List.Sublist.slnil | exact List.nil_sublist _ | exact List.Sublist.refl _ | exact List.sublist_append_right _ _ | apply List.Sublist.cons_cons | apply List.Sublist.cons | apply sub_rightI)))), ?_⟩
        simp only [List.set_cons_succ, List.set_cons_zero]
        refine wpG_slot hR (i := 9) (by kernel_rfl) rfl rfl (by simp only [List.set_cons_succ, List.set_cons_zero]; exact rfl) ?_
        clear hR; intro w hR
        refine wpG_end hR (by kernel_rfl) ?_
        clear hR; intro w hR
        go_wp2
        go_ret
        refine ⟨sz, _, rfl, hR.drop (List.sublist_append_left _ _), ?_⟩
        rw [HV.out]
        exact hSz
    · skip
      clear hR; intro w hR
      refine opBuildS hR rfl rfl rfl (bB1 _) ?_
      clear hR; intro gb w hR
      refine ⟨hR.drop (by (focus (repeat (with_reducible first | exact List.Sublist.slnil | exact List.nil_sublist _ | exact List.Sublist.refl _ | exact List.sublist_append_right _ _ | apply List.Sublist.cons_cons | apply List.Sublist.cons | apply sub_rightI)))), ?_⟩
      simp only [List.set_cons_succ, List.set_cons_zero]
      refine wpG_callO hR (i := 2) (by kernel_rfl) Try.call31 rfl rfl rfl ?_
      clear hR; intro w hR
      refine (HNM.out _).mono ?_
      rintro e w' ⟨s1, v1, rfl, hO, hS1⟩
      replace hR := hR.join hO; clear hO
      refine ⟨_, rfl, hR.drop (by (focus (repeat (with_reducible first | exact List.Sublist.slnil | exact List.nil_sublist _ | exact List.Sublist.refl _ | exact List.sublist_append_right _ _ | apply List.Sublist.cons_cons | apply List.Sublist.cons | apply sub_rightI)))), ?_⟩
      simp only [List.set_cons_succ, List.set_cons_zero]
      obtain ⟨a1, n1, c1, rfl⟩ := hS1.shapeIdx
      refine wpG_callO hR (i := 6) (by kernel_rfl) Try.call47 rfl rfl rfl ?_
      clear hR; intro w hR
      refine (HLG.out _).mono ?_
      rintro e w' ⟨s2, v2, rfl, hO, hS2⟩
      replace hR := hR.join hO; clear hO
      refine ⟨_, rfl, hR.drop (by (focus (repeat (with_reducible first | exact List.Sublist.slnil | exact List.nil_sublist _ | exact List.Sublist.refl _ | exact List.sublist_append_right _ _ | apply List.Sublist.cons_cons | apply List.Sublist.cons | apply sub_rightI)))), ?_⟩
      simp only [List.set_cons_succ, List.set_cons_zero]
      obtain ⟨a2, n2, c2, rfl⟩ := hS2.shapeIdx
      refine wpG_buildS hR (i := 7) (by kernel_rfl) rfl rfl rfl (bCat3) (by (focus (repeat (with_reducible first | exact List.Sublist.slnil | exact List.nil_sublist _ | exact List.Sublist.refl _ | exact List.sublist_append_right _ _ | apply List.Sublist.cons_cons | apply List.Sublist.cons | apply sub_rightI)))) ?_
      clear hR; intro gq w hR
      simp only [List.set_cons_succ, List.set_cons_zero]
      refine wpG_callO hR (i := 8) (by kernel_rfl) Try.call18 rfl rfl rfl ?_
      clear hR; intro w hR
      refine (cat3_row hR (.head _) (hS1.src hR (fun r hr => by simp [hr]) hot) (one_src hR (by (focus (repeat (first | apply List.Mem.head | apply List.Mem.tail | apply List.mem_append_right)))) b98) (hS2.src hR (fun r hr => by simp [hr]) hol) hlt H8 hlx).mono ?_
      rintro e w' ⟨sz, vz, rfl, hO, hSz⟩
      replace hR := hR.join hO; clear hO
      refine ⟨_, rfl, hR.drop (by (focus (repeat (with_reducible first | exact List.Sublist.slnil | exact List.nil_sublist _ | exact List.Sublist.refl _ | exact List.sublist_append_right _ _ | apply List.Sublist.cons_cons | apply List.Sublist.cons | apply sub_rightI)))), ?_⟩
      simp only [List.set_cons_succ, List.set_cons_zero]
      refine wpG_slot hR (i := 9) (by kernel_rfl) rfl rfl (by simp only [List.set_cons_succ, List.set_cons_zero]; exact rfl) ?_
      clear hR; intro w hR
      refine wpG_end hR (by kernel_rfl) ?_
      clear hR; intro w hR
      go_wp2
      go_ret
      refine ⟨sz, _, rfl, hR.drop (List.sublist_append_left _ _), ?_⟩
      rw [HV.out]
      exact hSz
end Go.Proofs.Ytmiakniilimghaa
