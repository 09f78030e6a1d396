









/- The contracts of segs.Group and segs.Groups. No statement of the seat is proved here. -/
import Derived.Test.YtmdiemebfmnmkaaSegC
import Derived.Test.YtmdiemebfmnmkaaR21
import Derived.Test.YtmdiemebfmnmkaaAppG
namespace Go.Proofs.Ytmdiemebfmnmkaa
open Go.ChangeShapes Go.WideShapes Go.ChangeAt Go.RowKit
set_option linter.unusedVariables false
set_option linter.unusedSimpArgs false

theorem grpB_step (n : Int) {l : List Int} {k : Nat} {x : Int} (h : l[k]? = some x) : grpB n (l.take (k + 1)) = grpB n (l.take k) ++ [255] ++ idxN x := by rw [grpB_more n h, List.append_assoc]
set_option maxHeartbeats 2000000 in
theorem segGroup_any {w0 : World} (n : Int) (v : Value) (l : List Int) (hI : Ints w0 v l) (hb : ∀ x ∈ l, -9223372036854775808 ≤ x ∧ x ≤ 9223372036854775807) (hn : -9223372036854775808 ≤ n ∧ n ≤ 9223372036854775807) (hl : l.length ≤ 10000) :
    Calls Try.prog 13 #[.agg (encG n v)] w0 fun e w' => RetB w0 w' (fun v => .agg #[.int .u8 154, v]) e (grpB n l) := by
  have hR := Own.start w0
  have h255 : bytesOk [255] := .cons (by decide) .nil
  go_enter Try.func13, Try.ntmps13
  go_wp2_with (first
    | ((with_reducible apply wpList_box hR); exact rfl; exact rfl; clear hR; intro g0 w hR; simp only [List.set_cons_succ, List.set_cons_zero])
    | ((with_reducible apply wpList_make hR zRec); exact rfl; clear hR; intro g w hR; simp only [List.set_cons_succ, List.set_cons_zero])
    | ((with_reducible apply q_ls hR); exact rfl; (with_reducible apply t_addr (fGrp _ (by decide))); (apply EvC.now; exact rfl); (simp only [List.set_cons_succ, List.set_cons_zero]; exact rfl); clear hR; intro w hR)
    | ((with_reducible apply q_ls hR); exact rfl; (with_reducible apply t_one tIntO); (apply EvC.now; exact rfl); (focus (repeat (first | apply List.Mem.head | apply List.Mem.tail | apply List.mem_append_right))); exact rfl; (simp only [List.set_cons_succ, List.set_cons_zero]; exact rfl); clear hR; intro w hR)
    | ((with_reducible apply q_ls hR); exact rfl; (with_reducible apply t_one tIntsO); (apply EvC.now; exact rfl); (focus (repeat (first | apply List.Mem.head | apply List.Mem.tail | apply List.mem_append_right))); exact rfl; (simp only [List.set_cons_succ, List.set_cons_zero]; exact rfl); clear hR; intro w hR)
    | (go_at_call 20; refine (putX_any n _ hn.1 hn.2).mono ?_; rintro e w' ⟨s1, v1, rfl, hO, hS1⟩; replace hR := hR.join hO; clear hO)
    | ((with_reducible apply q_ls hR); exact rfl; (with_reducible apply t_lenRd Try.underlying40); (apply EvC.now; exact rfl); exact hI; (simp only [List.set_cons_succ, List.set_cons_zero]; exact rfl); clear hR; intro w hR))
  go_loopw [3, 12] (fun b i wr => ∃ (k : Nat) (sx : List RowT), i = .int .i64 k ∧ k ≤ l.length ∧ Sl 5 1 sx b (grpB n (l.take k)).length (cellsB (grpB n (l.take k))) ∧ Own w0 wr (sx ++ [(g, #[.int .u8 0, .slice none 0 0], 28), (g0, encG n v, 42)])) (fun _ i _ => l.length - (intOf i).toNat)
  case atStart =>
    refine ⟨0, s1, rfl, Nat.zero_le _, ?_, hR⟩
    rw [List.take_zero, show grpB n [] = idxN n by unfold grpB; simp]
    exact hS1
  case round =>
    clear hR hS1
    obtain ⟨k, s0, rfl, hk, hS, hR⟩ := hrel
    by_cases hkl : k < l.length
    · obtain ⟨x, hx⟩ : ∃ x, l[k]? = some x := ⟨_, List.getElem?_eq_getElem hkl⟩
      have hxb := hb x (List.mem_of_getElem? hx)
      obtain ⟨a, cap, rfl, hc⟩ := hI.el hx
      have HC := Lib.hid (show w0.cell? (a.add ((k : Int).toNat * 1)) = some (.int .i64 x) by rw [Int.toNat_natCast, Nat.mul_one]; exact hc)
      have HM := Lib.hid (grpB_step n hx)
      have hgl := (grpB_len n (l.take k)).2
      have hil := (idxN_len x).2
      have HPU := Lib.hid (fun w => putX_any x w hxb.1 hxb.2)
      rw [List.length_take] at hgl
      obtain ⟨z, hz⟩ : ∃ z, grpB n (l.take k) = z := ⟨_, rfl⟩
      rw [hz] at hS HM hgl
      have hzl : z.length ≤ 30002 := by omega
      clear hc hx hgl hz
      go_wp2_with (first
    | ((with_reducible apply q_ls hR); exact rfl; (with_reducible apply t_six Try.underlying40 iIntO); (apply EvC.now; exact rfl); (apply EvC.now; exact rfl); (constructor <;> omega); (simp only [List.set_cons_succ, List.set_cons_zero]; exact rfl); clear hR; intro w hR)
    | ((with_reducible apply q_ls hR); exact rfl; (with_reducible apply t_oldOne tIntO); (apply EvC.now; exact rfl); (exact HC.out); exact rfl; (simp only [List.set_cons_succ, List.set_cons_zero]; exact rfl); clear hR; intro w hR)
    | ((with_reducible apply wpList_buildS hR); exact rfl; exact rfl; (exact bB1 _); clear hR; intro gb w hR; simp only [List.set_cons_succ, List.set_cons_zero])
    | ((with_reducible apply wpList_appG hR tBytesI); exact rfl; exact rfl; exact rfl; exact hS; (exact Les.tail Les.head); (exact (src_row (ns := [_]) hR (.head _) rfl h255 (by simp)).rd); (simp [maxLen]; omega); (simp; omega); clear hR hS; intro sx v w hR hS; replace hR := hR.drop (List.Sublist.append (List.Sublist.refl _) (List.sublist_cons_self _ _)); simp only [List.set_cons_succ, List.set_cons_zero])
    | (go_at_call 20; refine (HPU.out _).mono ?_; rintro e w' ⟨s1, v1, rfl, hO, hS1⟩; replace hR := hR.join hO; clear hO)
    | ((with_reducible apply wpList_appG hR tBytesI); exact rfl; exact rfl; exact rfl; exact hS; (exact Les.skip _ Les.head); (exact hS1.rd hR (fun r hr => List.mem_append_left _ hr) (ones_b _)); (simp [maxLen]; omega); (simp; omega); clear hR hS; intro sx v w hR hS; replace hR := hR.drop (List.Sublist.append (List.Sublist.refl _) (List.sublist_append_right _ _)); simp only [List.set_cons_succ, List.set_cons_zero]))
      go_round
      case rel =>
        refine ⟨k + 1, sx, rfl, by omega, ?_, hR⟩
        rw [HM.out, List.length_append, List.length_append, cellsB_append, cellsB_append]
        exact hS
      case measure => simp [intOf]; omega
    · have hke : l.take k = l := List.take_of_length_le (by omega)
      rw [hke] at hS
      go_wp2_with (first
    | ((with_reducible apply wpList_built); exact rfl; exact rfl; exact bRecC _ hS; (simp only [List.set_cons_succ, List.set_cons_zero]; exact rfl))
    | ((with_reducible apply wpList_put hR tRec); exact rfl; exact rfl; exact rfl; (focus (repeat (first | apply List.Mem.head | apply List.Mem.tail | apply List.mem_append_right))); exact put_rec _ _ _ _; exact rfl; simp; exact one_recC _ hS; (focus (repeat (first | apply Upd.head | apply Upd.tail | apply Upd.skipC))); clear hR; intro w hR))
      (try simp only [Exit.inBlock, Exit.then])
      exact post_row hR rfl (by rfl) (by (focus (repeat (first | apply List.Mem.head | apply List.Mem.tail | apply List.mem_append_right)))) Try.underlying28 rfl iRec (by rfl) (by rfl) ⟨s0, _, rfl, hR.drop (List.sublist_append_left _ _), hS.srcR (grpB_ok n l)⟩
/-! ### What is read -/
theorem bGrp1 (n : Int) : Built Try.prog 42 [(0, .int .i64 n)] (encG n (.slice none 0 0)) := ⟨by kernel_rfl⟩
theorem bGrp0 : Built Try.prog 42 [] (encG 0 (.slice none 0 0)) := ⟨by kernel_rfl⟩
theorem one_grp0 (n : Int) : (encG n (.slice none 0 0)).all (·.oneCell') = true := by simp [encG, Value.oneCell']
theorem put_grp1 (n : Int) (v u : Value) : PutRel (encG n v) 1 [u] (encG n u) := ⟨rfl⟩
theorem grpZ_step {m : Nat} {z : SrcZ} {f x : Int} {z1 z2 : SrcZ} (hb : z.b ≠ []) (h1 : numZ z 1 = (f, z1)) (hf : f = 255) (h2 : indexZ z1 = (x, z2)) : grpZ (m + 1) z = (x :: (grpZ m z2).1, (grpZ m z2).2) := by
  show (if z.b = [] then ([], z.e) else if (numZ z 1).1 = 255 then ((indexZ (numZ z 1).2).1 :: (grpZ m (indexZ (numZ z 1).2).2).1, (grpZ m (indexZ (numZ z 1).2).2).2) else ([], 3)) = _
  rw [if_neg hb, h1]; dsimp only; rw [if_pos hf, h2]
theorem grpZ_bad {m : Nat} {z : SrcZ} {f : Int} {z1 : SrcZ} (hb : z.b ≠ []) (h1 : numZ z 1 = (f, z1)) (hf : f ≠ 255) : grpZ (m + 1) z = ([], 3) := by
  unfold grpZ; rw [if_neg hb, h1]; dsimp only; rw [if_neg hf]
theorem index_len (s : SrcZ) : (indexZ s).2.b.length ≤ s.b.length := by
  have h1 := take_len1 s 1
  have h2 := take_len1 (numZ s 1).2 1
  have h3 : ((numZ s 1).2).b.length ≤ s.b.length := h1
  unfold indexZ
  split
  · exact h1
  · split
    · exact Nat.le_trans h2 h3
    · exact Nat.le_trans h2 h3
theorem index_ok {s : SrcZ} (h : s.ok) : (indexZ s).2.ok := by
  have h1 : ((numZ s 1).2).ok := (take_ok h 1).2
  have h2 := (take_ok h1 1).2
  unfold indexZ
  split
  · exact h1
  · split
    · exact h2
    · exact h2
theorem index_range {s : SrcZ} (h : s.ok) : 0 ≤ (indexZ s).1 ∧ (indexZ s).1 ≤ 32767 := by
  have hb := byte_bd h
  have h1 : ((numZ s 1).2).ok := (take_ok h 1).2
  have h2 : bytesOk (takeZ (numZ s 1).2 1).1 := (take_ok h1 1).1
  unfold indexZ
  split
  · omega
  · generalize takeZ (numZ s 1).2 1 = p at h2
    obtain ⟨b, q⟩ := p
    match b, h2 with
    | [], _ => dsimp only; omega
    | [x], h2 => have := h2 x (.head _); dsimp only; omega
    | x :: y :: r, h2 => have := h2 x (.head _); dsimp only; omega
theorem Sl.oneV {e : TypeId} {k n : Nat} {s : List RowT} {v : Value} {xs : List Value} (h : Sl e k s v n xs) : v.oneCell' = true := by
  obtain ⟨a, n, c, rfl⟩ := h.shapeIdx
  simp [Value.oneCell']
def segsOf (g : Nat) (w : World) : Nat := lenV ((w.cell? (⟨g, 1, none⟩ : Addr)).getD undef)
theorem segsOf_own {w0 w : World} {l s : List RowT} {g k : Nat} {n : Int} {v : Value} {e : TypeId} {xs : List Value} (hR : Own w0 w l) (hm : (g, encG n v, 42) ∈ l) (hS : Sl e 1 s v k xs) : segsOf g w = k := by
  unfold segsOf
  rw [cell_of_row _ _ _ _ _ _ (hR.get hm)]
  exact hS.lenV
set_option maxHeartbeats 2000000 in
theorem segGroups_any {w0 : World} {v : Value} {bs : List Int} (h : SrcW w0 v bs) (hl : bs.length ≤ 1000000) :
    Calls Try.prog 14 #[v] w0 fun e w' => RetI w0 w' (fun v => .tuple #[.agg (encG (grpR bs).1.1 v), .int .i64 (grpR bs).2]) e (grpR bs).1.2 := by
  have hR := Own.start w0
  have hok1 : SrcZ.ok ⟨bs, 0⟩ := ⟨h.ok, fun hn => absurd rfl hn⟩
  have hok2 := index_ok hok1
  have hlen2 := index_len ⟨bs, 0⟩
  have hGR : grpR bs = if (grpZ (indexZ ⟨bs, 0⟩).2.b.length (indexZ ⟨bs, 0⟩).2).2 = 0 then (((indexZ ⟨bs, 0⟩).1, (grpZ (indexZ ⟨bs, 0⟩).2.b.length (indexZ ⟨bs, 0⟩).2).1), 0) else ((0, []), (grpZ (indexZ ⟨bs, 0⟩).2.b.length (indexZ ⟨bs, 0⟩).2).2) := rfl
  obtain ⟨⟨nm, z0⟩, hn⟩ : ∃ p, indexZ ⟨bs, 0⟩ = p := ⟨_, rfl⟩
  rw [hn] at hok2 hlen2 hGR
  dsimp only at hok2 hlen2 hGR
  have HN := Lib.hid hn
  have HGR := Lib.hid hGR
  clear hn hGR
  go_enter Try.func14, Try.ntmps14
  go_wp2_with (first
    | ((with_reducible apply wpList_make hR zGrp); exact rfl; clear hR; intro gr w hR; simp only [List.set_cons_succ, List.set_cons_zero]))
  refine (fromG_any hR (src_start h) (fun _ hr => nomatch hr) hl).mono ?_
  rintro e w' ⟨gs, cs, sr, rfl, hO, hS⟩
  clear hR
  have hR := hO
  clear hO
  go_wp2_with (first
    | (go_at_call 27; refine (indexX_any hR Les.one (fun r hr => List.mem_append_left _ hr) hS hok1 hl).mono ?_; rw [HN.out]; rintro e w' ⟨rfl, cs2, hR2, hS2⟩; clear hR hS; have hR := hR2; clear hR2)
    | ((with_reducible apply wpList_built); exact rfl; exact rfl; exact bGrp1 _; (simp only [List.set_cons_succ, List.set_cons_zero]; exact rfl))
    | ((with_reducible apply wpList_make hR zGrp); exact rfl; clear hR; intro g w hR; simp only [List.set_cons_succ, List.set_cons_zero])
    | ((with_reducible apply wpList_put hR tGrp); exact rfl; exact rfl; exact rfl; (focus (repeat (first | apply List.Mem.head | apply List.Mem.tail | apply List.mem_append_right))); exact put_grp _ _ _ _; exact rfl; simp [encG]; exact one_grp0 _; (focus (repeat (first | apply Upd.head | apply Upd.tail | apply Upd.skipC))); clear hR; intro w hR))
  replace hR := hR.les (Les.tail Les.one)
  go_loopw [12] (fun _ wr => ∃ (n : Nat) (acc : List Int) (z : SrcZ) (cs : Array Value) (s : List RowT) (lv : Value), grpZ z0.b.length z0 = (acc ++ (grpZ n z).1, (grpZ n z).2) ∧ z.b.length ≤ n ∧ z.ok ∧ acc.length + z.b.length ≤ bs.length ∧ Sl 3 1 s lv acc.length (acc.flatMap cellI) ∧ Own w0 wr (s ++ (gs, cs, 66) :: (g, encG nm lv, 42) :: (sr ++ [(gr, encG 0 (.slice none 0 0), 42)])) ∧ SrcObj w0 sr cs z) (fun _ wr => bs.length - segsOf g wr)
  case atStart => exact ⟨z0.b.length, [], z0, cs2, [], .slice none 0 0, rfl, Nat.le_refl _, hok2, by simpa using hlen2, Sl.nil _ _, hR, hS2⟩
  case round =>
    clear hR hS2
    obtain ⟨n, acc, z, cs, s, lv, hz, hn, hzok, hacc, hL, hR, hS⟩ := hrel
    have HSO := Lib.hid (segsOf_own hR (List.mem_append_right _ (.tail _ (.head _))) hL)
    have hzl : z.b.length ≤ 1000000 := by omega
    have hal : acc.length ≤ 1000000 := by omega
    have hd : Les [(gs, cs, 66)] (s ++ (gs, cs, 66) :: (g, encG nm lv, 42) :: (sr ++ [(gr, encG 0 (.slice none 0 0), 42)])) (s ++ (g, encG nm lv, 42) :: (sr ++ [(gr, encG 0 (.slice none 0 0), 42)])) := Les.skip _ Les.one
    have hY : ∀ r ∈ sr, r ∈ s ++ (g, encG nm lv, 42) :: (sr ++ [(gr, encG 0 (.slice none 0 0), 42)]) := fun r hr => List.mem_append_right _ (.tail _ (List.mem_append_left _ hr))
    by_cases hb : z.b = []
    · have HL := Lib.hid (show cmpB .gtr (z.b.length : Int) 0 = some false by simp [cmpB, hb])
      have hze : grpZ n z = ([], z.e) := by
        obtain ⟨b, e⟩ := z
        obtain rfl : b = [] := hb
        exact grpZ_nil n e
      rw [hze, List.append_nil] at hz
      have HH := Lib.hid (show grpR bs = if z.e = 0 then ((nm, acc), 0) else ((0, []), z.e) by rw [HGR.out, hz])
      clear hz hze hb hn hacc
      obtain ⟨x, hx⟩ : ∃ x, z.e = x := ⟨_, rfl⟩
      have HX := Lib.hid hx
      rw [hx] at HH
      clear hx
      go_upto_region 8 with (first
    | (go_at_call 31; refine (leftX_any hR hd hY hS hzl).mono ?_; rintro e w' ⟨rfl, hb⟩; replace hR := hR.grow hb; clear hb)
    | ((with_reducible apply q_ls hR); exact rfl; (with_reducible apply t_cmp); (apply EvC.now; exact rfl); (apply EvC.now; exact rfl); exact HL.out; (simp only [List.set_cons_succ, List.set_cons_zero]; exact rfl); clear hR; intro w hR)
    | (go_at_call 32; refine (errX_any hR hd hY hS).mono ?_; rw [HX.out]; rintro e w' ⟨rfl, hb⟩; replace hR := hR.grow hb; clear hb))
      clear HX HL
      by_cases hx : x = 0
      · have HE := Lib.hid (show cmpB .neq x 0 = some false by simp [cmpB, hx])
        have HV := Lib.hid (show grpR bs = ((nm, acc), 0) by rw [HH.out, if_pos hx])
        clear hx HH
        go_wp2_with (first
    | ((with_reducible apply q_ls hR); exact rfl; (with_reducible apply t_cmp); (apply EvC.now; exact rfl); (apply EvC.now; exact rfl); exact HE.out; (simp only [List.set_cons_succ, List.set_cons_zero]; exact rfl); clear hR; intro w hR)
    | ((with_reducible apply wpList_put hR tGrp); exact rfl; exact rfl; exact rfl; (focus (repeat (first | apply List.Mem.head | apply List.Mem.tail | apply List.mem_append_right))); exact put_grp _ _ _ _; exact rfl; simp [encG]; exact one_grp _ (hL.ints hR (fun r hr => List.mem_append_left _ hr)); (focus (repeat (first | apply Upd.head | apply Upd.tail | apply Upd.skipC))); clear hR; intro w hR)
    | ((with_reducible apply q_ls hR); exact rfl; (with_reducible apply t_part tGrp); (apply EvC.now; exact rfl); (focus (repeat (first | apply List.Mem.head | apply List.Mem.tail | apply List.mem_append_right))); (exact ext_grp _ _); exact rfl; (simp only [List.set_cons_succ, List.set_cons_zero]; exact rfl); clear hR; intro w hR)
    | ((with_reducible apply q_ls hR); exact rfl; ((with_reducible first | apply t_addr (fRec _ (by decide)) | apply t_addr (fSeg _ (by decide)) | apply t_one tByteR | apply t_one tSlR | apply t_one tIntR | apply t_one tWordS | apply t_part tSeg) <;> (first | (apply EvC.gv; exact rfl; (with_reducible first | exact Imp.refl _ | (apply Imp.left; exact Imp.refl _) | (apply Imp.right; exact Imp.refl _) | (apply Imp.left; apply Imp.left; exact Imp.refl _))) | (apply EvC.now; exact rfl) | exact rfl | (with_reducible exact EvAll.nil) | (focus (repeat (first | apply EvAll.cons | exact EvAll.nil | (apply EvC.gv; exact rfl; (with_reducible first | exact Imp.refl _ | (apply Imp.left; exact Imp.refl _) | (apply Imp.right; exact Imp.refl _) | (apply Imp.left; apply Imp.left; exact Imp.refl _))) | (apply EvC.now; exact rfl))); done) | exact ext_seg _ | (focus (repeat (first | apply List.Mem.head | apply List.Mem.tail | apply List.mem_append_right))))); (simp only [List.set_cons_succ, List.set_cons_zero]; exact rfl); clear hR; intro w hR))
        (try simp only [Exit.inBlock, Exit.then])
        exact post_row_tmp hR rfl (by rfl) (by rfl) (by (focus (repeat (first | apply List.Mem.head | apply List.Mem.tail | apply List.mem_append_right)))) Try.underlying42 rfl iGrp (by rfl) (by rfl) ⟨s, _, by rw [HV.out]; rfl, hR.drop (List.sublist_append_left _ _), by rw [HV.out]; exact hL.intsR⟩
      · have HE := Lib.hid (show cmpB .neq x 0 = some true by simp [cmpB, hx])
        have HV := Lib.hid (show grpR bs = ((0, []), x) by rw [HH.out, if_neg hx])
        clear hx HH
        go_wp2_with (first
    | ((with_reducible apply q_ls hR); exact rfl; (with_reducible apply t_cmp); (apply EvC.now; exact rfl); (apply EvC.now; exact rfl); exact HE.out; (simp only [List.set_cons_succ, List.set_cons_zero]; exact rfl); clear hR; intro w hR)
    | ((with_reducible apply wpList_built); exact rfl; exact rfl; exact bGrp0; (simp only [List.set_cons_succ, List.set_cons_zero]; exact rfl))
    | ((with_reducible apply wpList_put hR tGrp); exact rfl; exact rfl; exact rfl; (focus (repeat (first | apply List.Mem.head | apply List.Mem.tail | apply List.mem_append_right))); exact put_grp _ _ _ _; exact rfl; simp [encG]; exact one_grp0 _; (focus (repeat (first | apply Upd.head | apply Upd.tail | apply Upd.skipC))); clear hR; intro w hR))
        (try simp only [Exit.inBlock, Exit.then])
        exact post_row_tmp hR rfl (by rfl) (by rfl) (by (focus (repeat (first | apply List.Mem.head | apply List.Mem.tail | apply List.mem_append_right)))) Try.underlying42 rfl iGrp (by rfl) (by rfl) ⟨[], _, by rw [HV.out]; rfl, hR.drop (List.nil_sublist _), by rw [HV.out]; exact (Sl.nil 3 1).intsR (xs := [])⟩
    · have hlen : 0 < z.b.length := List.length_pos_iff.2 hb
      have HL := Lib.hid (show cmpB .gtr (z.b.length : Int) 0 = some true by simp [cmpB]; omega)
      obtain ⟨⟨f, z1⟩, hf1⟩ : ∃ p, numZ z 1 = p := ⟨_, rfl⟩
      have hok1' : z1.ok := by have := (take_ok hzok 1).2; rwa [show (takeZ z 1).2 = z1 from congrArg Prod.snd hf1] at this
      have hl1 : z1.b.length + 1 ≤ z.b.length := by
        obtain ⟨b, e⟩ := z
        cases b with
        | nil => exact absurd rfl hb
        | cons a r => rw [num_one] at hf1; obtain rfl : SrcZ.mk r e = z1 := congrArg Prod.snd hf1; exact Nat.le_refl _
      have hl1' : z1.b.length ≤ 1000000 := by omega
      obtain ⟨m, rfl⟩ : ∃ m, n = m + 1 := ⟨n - 1, by omega⟩
      have HF := Lib.hid hf1
      by_cases hf : f = 255
      · obtain ⟨⟨x, z2⟩, hx1⟩ : ∃ p, indexZ z1 = p := ⟨_, rfl⟩
        have hokz2 := index_ok hok1'
        have hlz2 := index_len z1
        rw [hx1] at hokz2 hlz2
        dsimp only at hokz2 hlz2
        have HX := Lib.hid hx1
        have HZ := Lib.hid (show grpZ z0.b.length z0 = ((acc ++ [x]) ++ (grpZ m z2).1, (grpZ m z2).2) by rw [hz, grpZ_step hb hf1 hf hx1]; simp)
        have HE := Lib.hid (show cmpB .neq f 255 = some false by simp [cmpB, hf])
        clear hf hf1 hx1 hz hb hlen
        go_upto_region 6 with (first
    | (go_at_call 31; refine (leftX_any hR hd hY hS hzl).mono ?_; rintro e w' ⟨rfl, hb⟩; replace hR := hR.grow hb; clear hb)
    | (go_at_call 25; refine (byteX_any hR hd hY hS hzok hzl).mono ?_; rw [HF.out]; rintro e w' ⟨rfl, cs2, hR2, hS2⟩; clear hR hS hd; have hR := hR2; have hS := hS2; clear hR2 hS2)
    | ((with_reducible apply q_ls hR); exact rfl; (with_reducible apply t_cmp); (apply EvC.now; exact rfl); (apply EvC.now; exact rfl); (first | exact HL.out | exact HE.out); (simp only [List.set_cons_succ, List.set_cons_zero]; exact rfl); clear hR; intro w hR))
        clear HL HE HF HN
        refine wp_region_some hR [] (List.nil_sublist _) [0, 2] 6 (by kernel_rfl) (by kernel_rfl) (by kernel_rfl) rfl ?_
        clear hR; intro hR
        repeat (refine wpT_step rfl ?_; first
    | ((with_reducible apply q_pl); (with_reducible apply t_addr (fGrp _ (by decide))); (apply EvC.now; exact rfl); (simp only [List.set_cons_succ, List.set_cons_zero]; exact rfl))
    | ((first | (with_reducible apply q_pl) | ((with_reducible apply q_gd); (first | (apply GdBy.gt; exact rfl; exact rfl) | (apply GdBy.gf; exact rfl; exact rfl) | (apply GdBy.t; exact rfl; exact rfl) | (apply GdBy.f; exact rfl; exact rfl)))); (first | ((with_reducible first | apply t_move | apply t_assign | apply t_and | apply t_or | apply t_cmp | apply t_not | apply t_addr (fRec _ (by decide)) | apply t_addr (fSeg _ (by decide)) | apply t_one tByteR | apply t_one tSlR | apply t_one tIntR | apply t_one tWordS | apply t_part tSeg) <;> (first | (apply EvC.gv; exact rfl; (with_reducible first | exact Imp.refl _ | (apply Imp.left; exact Imp.refl _) | (apply Imp.right; exact Imp.refl _) | (apply Imp.left; apply Imp.left; exact Imp.refl _))) | (apply EvC.now; exact rfl) | exact rfl | (with_reducible exact EvAll.nil) | (focus (repeat (first | apply EvAll.cons | exact EvAll.nil | (apply EvC.gv; exact rfl; (with_reducible first | exact Imp.refl _ | (apply Imp.left; exact Imp.refl _) | (apply Imp.right; exact Imp.refl _) | (apply Imp.left; apply Imp.left; exact Imp.refl _))) | (apply EvC.now; exact rfl))); done) | exact ext_seg _ | (focus (repeat (first | apply List.Mem.head | apply List.Mem.tail | apply List.mem_append_right)))))); (simp only [List.set_cons_succ, List.set_cons_zero]; exact rfl)))
        refine wpT_nil ?_
        refine wpG_two hR (i := 1) (j := 3) (by kernel_rfl) ?_ ?_
        · clear hR; intro w hR
          refine opQ hR rfl rfl (t_one tIntsO (EvC.now rfl) (by (focus (repeat (first | apply List.Mem.head | apply List.Mem.tail | apply List.mem_append_right)))) rfl) (by (simp only [List.set_cons_succ, List.set_cons_zero]; exact rfl)) ?_
          clear hR; intro w hR
          refine ⟨hR.drop (List.nil_sublist _), ?_⟩
          refine wpG_callO hR (i := 3) (by kernel_rfl) Try.call27 rfl rfl rfl ?_
          clear hR; intro w hR
          refine (indexX_any hR Les.one hY hS hok1' hl1').mono ?_
          rw [HX.out]
          rintro e w' ⟨rfl, cs3, hR3, hS3⟩
          clear hR hS; have hR := hR3
          refine ⟨_, rfl, hR.drop (List.nil_sublist _), ?_⟩
          clear hR3
          try simp only [List.set_cons_succ, List.set_cons_zero]
          refine wpG_buildS hR (i := 4) (by kernel_rfl) rfl rfl rfl (bInts1 _) (List.nil_sublist _) ?_
          clear hR; intro gb w hR
          simp only [List.set_cons_succ, List.set_cons_zero]
          refine wpG_appG hR (i := 5) (by kernel_rfl) tIntsB rfl rfl rfl rfl (Les.tail (Les.tail Les.head)) hL (fun w1 h1 => rd_int h1 (.head _)) (by simp [maxLen]; omega) (by omega) (List.nil_sublist _) ?_
          clear hR; intro s3 v3 w hR hL3
          simp only [List.set_cons_succ, List.set_cons_zero]
          refine wpG_addr hR (fGrp 1 (by decide)) (i := 6) (by kernel_rfl) rfl rfl (by (simp only [List.set_cons_succ, List.set_cons_zero]; exact rfl)) ?_
          clear hR; intro w hR
          refine wpG_put1 hR tIntsO (i := 7) (by kernel_rfl) rfl rfl rfl (by (focus (repeat (first | apply List.Mem.head | apply List.Mem.tail | apply List.mem_append_right)))) (put_grp1 _ _ _) (by simp [encG]) (hL3.oneV) (by (focus (repeat (first | apply Upd.head | apply Upd.tail | apply Upd.skipC)))) (List.nil_sublist _) ?_
          clear hR; intro w hR
          refine wpG_end hR (by kernel_rfl) ?_
          clear hR; intro w hR
          go_wp2
          go_round
          case rel =>
            refine ⟨m, acc ++ [x], z2, cs3, s3, v3, HZ.out, by omega, hokz2, by simp; omega, ?_, hR.drop (List.Sublist.append (List.Sublist.refl _) (List.sublist_cons_self _ _)), hS3⟩
            rw [List.length_append, List.flatMap_append]
            exact hL3.cast (by simp [cellI])
          case measure =>
            rw [HSO.out, segsOf_own hR (List.mem_append_right _ (.tail _ (.tail _ (.head _)))) hL3]
            omega
        · clear hR; intro w hR
          refine opCallO hR Try.call27 rfl rfl rfl ?_
          refine (indexX_any hR Les.one hY hS hok1' hl1').mono ?_
          rw [HX.out]
          rintro e w' ⟨rfl, cs3, hR3, hS3⟩
          clear hR hS; have hR := hR3
          refine ⟨_, rfl, hR.drop (List.nil_sublist _), ?_⟩
          clear hR3
          simp only [List.set_cons_succ, List.set_cons_zero]
          refine wpG_two hR (i := 1) (j := 4) (by kernel_rfl) ?_ ?_
          · clear hR; intro w hR
            refine opQ hR rfl rfl (t_one tIntsO (EvC.now rfl) (by (focus (repeat (first | apply List.Mem.head | apply List.Mem.tail | apply List.mem_append_right)))) rfl) (by (simp only [List.set_cons_succ, List.set_cons_zero]; exact rfl)) ?_
            clear hR; intro w hR
            refine ⟨hR.drop (List.nil_sublist _), ?_⟩
            try simp only [List.set_cons_succ, List.set_cons_zero]
            refine wpG_buildS hR (i := 4) (by kernel_rfl) rfl rfl rfl (bInts1 _) (List.nil_sublist _) ?_
            clear hR; intro gb w hR
            simp only [List.set_cons_succ, List.set_cons_zero]
            refine wpG_appG hR (i := 5) (by kernel_rfl) tIntsB rfl rfl rfl rfl (Les.tail (Les.tail Les.head)) hL (fun w1 h1 => rd_int h1 (.head _)) (by simp [maxLen]; omega) (by omega) (List.nil_sublist _) ?_
            clear hR; intro s3 v3 w hR hL3
            simp only [List.set_cons_succ, List.set_cons_zero]
            refine wpG_addr hR (fGrp 1 (by decide)) (i := 6) (by kernel_rfl) rfl rfl (by (simp only [List.set_cons_succ, List.set_cons_zero]; exact rfl)) ?_
            clear hR; intro w hR
            refine wpG_put1 hR tIntsO (i := 7) (by kernel_rfl) rfl rfl rfl (by (focus (repeat (first | apply List.Mem.head | apply List.Mem.tail | apply List.mem_append_right)))) (put_grp1 _ _ _) (by simp [encG]) (hL3.oneV) (by (focus (repeat (first | apply Upd.head | apply Upd.tail | apply Upd.skipC)))) (List.nil_sublist _) ?_
            clear hR; intro w hR
            refine wpG_end hR (by kernel_rfl) ?_
            clear hR; intro w hR
            go_wp2
            go_round
            case rel =>
              refine ⟨m, acc ++ [x], z2, cs3, s3, v3, HZ.out, by omega, hokz2, by simp; omega, ?_, hR.drop (List.Sublist.append (List.Sublist.refl _) (List.sublist_cons_self _ _)), hS3⟩
              rw [List.length_append, List.flatMap_append]
              exact hL3.cast (by simp [cellI])
            case measure =>
              rw [HSO.out, segsOf_own hR (List.mem_append_right _ (.tail _ (.tail _ (.head _)))) hL3]
              omega
          · clear hR; intro w hR
            refine opBuildS hR rfl rfl rfl (bInts1 _) ?_
            clear hR; intro gb w hR
            refine ⟨hR.drop (List.nil_sublist _), ?_⟩
            simp only [List.set_cons_succ, List.set_cons_zero]
            refine wpG_q hR (i := 1) (by kernel_rfl) rfl rfl (t_one tIntsO (EvC.now rfl) (by (focus (repeat (first | apply List.Mem.head | apply List.Mem.tail | apply List.mem_append_right)))) rfl) (by (simp only [List.set_cons_succ, List.set_cons_zero]; exact rfl)) (List.nil_sublist _) ?_
            clear hR; intro w hR
            refine wpG_appG hR (i := 5) (by kernel_rfl) tIntsB rfl rfl rfl rfl (Les.tail (Les.tail Les.head)) hL (fun w1 h1 => rd_int h1 (.head _)) (by simp [maxLen]; omega) (by omega) (List.nil_sublist _) ?_
            clear hR; intro s3 v3 w hR hL3
            simp only [List.set_cons_succ, List.set_cons_zero]
            refine wpG_addr hR (fGrp 1 (by decide)) (i := 6) (by kernel_rfl) rfl rfl (by (simp only [List.set_cons_succ, List.set_cons_zero]; exact rfl)) ?_
            clear hR; intro w hR
            refine wpG_put1 hR tIntsO (i := 7) (by kernel_rfl) rfl rfl rfl (by (focus (repeat (first | apply List.Mem.head | apply List.Mem.tail | apply List.mem_append_right)))) (put_grp1 _ _ _) (by simp [encG]) (hL3.oneV) (by (focus (repeat (first | apply Upd.head | apply Upd.tail | apply Upd.skipC)))) (List.nil_sublist _) ?_
            clear hR; intro w hR
            refine wpG_end hR (by kernel_rfl) ?_
            clear hR; intro w hR
            go_wp2
            go_round
            case rel =>
              refine ⟨m, acc ++ [x], z2, cs3, s3, v3, HZ.out, by omega, hokz2, by simp; omega, ?_, hR.drop (List.Sublist.append (List.Sublist.refl _) (List.sublist_cons_self _ _)), hS3⟩
              rw [List.length_append, List.flatMap_append]
              exact hL3.cast (by simp [cellI])
            case measure =>
              rw [HSO.out, segsOf_own hR (List.mem_append_right _ (.tail _ (.tail _ (.head _)))) hL3]
              omega
      · have HV := Lib.hid (show grpR bs = ((0, []), 3) by rw [HGR.out, hz, grpZ_bad hb hf1 hf]; simp)
        have HE := Lib.hid (show cmpB .neq f 255 = some true by simp [cmpB, hf])
        clear hf hf1 hz hb hlen
        go_wp2_with (first
    | (go_at_call 31; refine (leftX_any hR hd hY hS hzl).mono ?_; rintro e w' ⟨rfl, hb⟩; replace hR := hR.grow hb; clear hb)
    | (go_at_call 25; refine (byteX_any hR hd hY hS hzok hzl).mono ?_; rw [HF.out]; rintro e w' ⟨rfl, cs2, hR2, hS2⟩; clear hR hS; have hR := hR2; clear hR2)
    | ((with_reducible apply q_ls hR); exact rfl; (with_reducible apply t_cmp); (apply EvC.now; exact rfl); (apply EvC.now; exact rfl); (first | exact HL.out | exact HE.out); (simp only [List.set_cons_succ, List.set_cons_zero]; exact rfl); clear hR; intro w hR)
    | ((with_reducible apply wpList_built); exact rfl; exact rfl; exact bGrp0; (simp only [List.set_cons_succ, List.set_cons_zero]; exact rfl))
    | ((with_reducible apply wpList_put hR tGrp); exact rfl; exact rfl; exact rfl; (focus (repeat (first | apply List.Mem.head | apply List.Mem.tail | apply List.mem_append_right))); exact put_grp _ _ _ _; exact rfl; simp [encG]; exact one_grp0 _; (focus (repeat (first | apply Upd.head | apply Upd.tail | apply Upd.skipC))); clear hR; intro w hR))
        (try simp only [Exit.inBlock, Exit.then])
        exact post_row_tmp hR rfl (by rfl) (by rfl) (by (focus (repeat (first | apply List.Mem.head | apply List.Mem.tail | apply List.mem_append_right)))) Try.underlying42 rfl iGrp (by rfl) (by rfl) ⟨[], _, by rw [HV.out]; rfl, hR.drop (List.nil_sublist _), by rw [HV.out]; exact (Sl.nil 3 1).intsR (xs := [])⟩
end Go.Proofs.Ytmdiemebfmnmkaa
