








/- 'near' of hansomlaw21, as a function. No statement of the seat is proved here. -/
import Derived.Test.YtmdiemebfmnmkaaR21
import Derived.Test.YtmdiemebfmnmkaaSrc
namespace Go.Proofs.Ytmdiemebfmnmkaa
open Go.ChangeShapes Go.WideShapes Go.ChangeAt Go.RowKit
set_option linter.unusedVariables false
set_option linter.unusedSimpArgs false

def comOf (n : Int) : Int := if n = 0 then 0 else if n = 1 then 2 else if n = 2 then 5 else 6
/-- The first of it; with its place. -/
def nearA (s : SegZ) : SegZ := ⟨s.a % 256 % 5, comOf (s.c % 4), 0, 0, s.l % 131072 % 65537, s.n % 32768, s.k % 256, s.v % 256⟩
def nearP (s d : SegZ) : SegZ := { ({ d with f := s.f } : SegZ) with o := s.o }
def nearB21 (s : SegZ) : SegZ := if s.a % 256 % 5 = 0 then nearP s (nearA s) else nearA s
def nearK (s : SegZ) (q : Int) (d : SegZ) : SegZ :=
  if q = 0 then { d with a := s.a } else if q = 1 then { d with c := s.c } else if q = 2 then { d with l := s.l } else if q = 3 then { d with n := s.n } else if q = 4 then nearP s d else if q = 5 then { d with l := 65536 } else d
def nearS (s : SegZ) (odd : Int) : SegZ := nearK s (odd % 16) (nearB21 s)
theorem comOf_bd (n : Int) : comOf n = 0 ∨ comOf n = 2 ∨ comOf n = 5 ∨ comOf n = 6 := by
  unfold comOf
  repeat' split
  all_goals omega
theorem nearA_ok (s : SegZ) : (nearA s).ok := by
  have := comOf_bd (s.c % 4)
  unfold SegZ.ok nearA
  dsimp only
  omega
theorem nearB_ok {s : SegZ} (h : s.ok) : (nearB21 s).ok := by
  have h0 := nearA_ok s
  unfold nearB21
  split
  · exact ⟨h0.1, h0.2.1, h.2.2.1, h.2.2.2.1, h0.2.2.2.2⟩
  · exact h0
theorem nearK_ok {s d : SegZ} (h : s.ok) (hd : d.ok) (q : Int) : (nearK s q d).ok := by
  obtain ⟨s1, s2, s3, s4, s5, s6, s7, s8⟩ := h
  obtain ⟨d1, d2, d3, d4, d5, d6, d7, d8⟩ := hd
  unfold nearK
  split
  · exact ⟨s1, d2, d3, d4, d5, d6, d7, d8⟩
  split
  · exact ⟨d1, s2, d3, d4, d5, d6, d7, d8⟩
  split
  · exact ⟨d1, d2, d3, d4, s5, d6, d7, d8⟩
  split
  · exact ⟨d1, d2, d3, d4, d5, s6, d7, d8⟩
  split
  · exact ⟨d1, d2, s3, s4, d5, d6, d7, d8⟩
  split
  · exact ⟨d1, d2, d3, d4, by dsimp only; omega, d6, d7, d8⟩
  · exact ⟨d1, d2, d3, d4, d5, d6, d7, d8⟩
theorem nearS_ok {s : SegZ} (h : s.ok) (q : Int) : (nearS s q).ok := nearK_ok h (nearB_ok h) _
theorem nearB_may {s : SegZ} (h : s.ok) : MayS (nearB21 s) := by
  have hc := comOf_bd (s.c % 4)
  unfold nearB21
  split
  · rename_i ha
    exact ⟨by unfold nearP nearA; dsimp only; omega, by unfold nearP nearA; dsimp only; omega, by unfold nearP nearA; dsimp only; omega, hc, .inl ha, by unfold nearP nearA; dsimp only; omega, by unfold nearP nearA; dsimp only; omega⟩
  · exact ⟨by unfold nearA; dsimp only; omega, by unfold nearA; dsimp only; omega, by unfold nearA; dsimp only; omega, hc, .inr ⟨rfl, rfl⟩, by unfold nearA; dsimp only; omega, by unfold nearA; dsimp only; omega⟩
theorem near6 (s : SegZ) : nearS s 6 = nearB21 s := rfl
theorem near6_may {s : SegZ} (h : s.ok) : MayS (nearS s 6) := nearB_may h
theorem bCom : BuiltS Try.prog 40 4 [(0, .int .i64 0), (1, .int .i64 2), (2, .int .i64 5), (3, .int .i64 6)] 3 #[.int .i64 0, .int .i64 2, .int .i64 5, .int .i64 6] := ⟨fun w => by simp [go_sem]⟩
theorem bNear (a c l n k v : Int) : Built Try.prog 24 [(0, .int .i64 a), (1, .int .i64 c), (4, .int .i64 l), (5, .int .i64 n), (6, .int .i64 k), (7, .int .i64 v)] (encSeg ⟨a, c, 0, 0, l, n, k, v⟩) := ⟨by kernel_rfl⟩
theorem com_at (m : Nat) (h : m < 4) : (#[Value.int .i64 0, .int .i64 2, .int .i64 5, .int .i64 6] : Array Value).toList[m]? = some (.int .i64 (comOf m)) := by
  match m, h with
  | 0, _ => rfl
  | 1, _ => rfl
  | 2, _ => rfl
  | 3, _ => rfl
/-- How far it has come. -/
def NearAt (w0 : World) (g1 g4 g5 : Nat) (s d : SegZ) (wx : World) : Prop := Own w0 wx [(g5, encSeg d, 24), (g4, encSeg zeroS, 24), (g1, encSeg s, 24)]
set_option maxHeartbeats 4000000 in
set_option maxRecDepth 100000 in
theorem near21_any (s : SegZ) (ho : s.ok) (odd : Int) (hb : -9223372036854775808 ≤ odd ∧ odd ≤ 9223372036854775807) (w0 : World) :
    Calls Try.prog 6 #[.agg (encSeg s), .int .i64 odd] w0 fun e w' => e = .returned (.agg (encSeg (nearS s odd))) ∧ Below w0.heap.size w0 w' := by
  have hR := Own.start w0
  have HA1 := Lib.hid (show bits .and .i64 s.a 255 = s.a % 256 from i64_mask s.a 8 255 (by decide) (by decide))
  have HC1 := Lib.hid (show bits .and .i64 s.c 3 = s.c % 4 from i64_mask s.c 2 3 (by decide) (by decide))
  have HL1 := Lib.hid (show bits .and .i64 s.l 131071 = s.l % 131072 from i64_mask s.l 17 131071 (by decide) (by decide))
  have HN1 := Lib.hid (show bits .and .i64 s.n 32767 = s.n % 32768 from i64_mask s.n 15 32767 (by decide) (by decide))
  have HK1 := Lib.hid (show bits .and .i64 s.k 255 = s.k % 256 from i64_mask s.k 8 255 (by decide) (by decide))
  have HV1 := Lib.hid (show bits .and .i64 s.v 255 = s.v % 256 from i64_mask s.v 8 255 (by decide) (by decide))
  have HQ1 := Lib.hid (show bits .and .i64 odd 15 = odd % 16 from i64_mask odd 4 15 (by decide) (by decide))
  have HA2 := Lib.hid (show (s.a % 256).tmod 5 = s.a % 256 % 5 from rem_in (by omega))
  have HL2 := Lib.hid (show (s.l % 131072).tmod 65537 = s.l % 131072 % 65537 from rem_in (by omega))
  obtain ⟨m, hm⟩ : ∃ m : Nat, s.c % 4 = m := Int.eq_ofNat_of_zero_le (by omega)
  have hm4 : m < 4 := by omega
  have HMC := Lib.hid hm
  have HNA := Lib.hid (show nearA s = ⟨s.a % 256 % 5, comOf m, 0, 0, s.l % 131072 % 65537, s.n % 32768, s.k % 256, s.v % 256⟩ by unfold nearA; rw [hm])
  clear hm
  go_enter Try.func6, Try.ntmps6
  go_upto_region 1 with (first
    | ((with_reducible apply wpList_box hR); exact rfl; exact rfl; clear hR; intro g1 w hR; simp only [List.set_cons_succ, List.set_cons_zero])
    | ((with_reducible apply wpList_make hR zSeg); exact rfl; clear hR; intro g4 w hR; simp only [List.set_cons_succ, List.set_cons_zero]))
  go_cut [5] (fun y wr => ∃ g5, y = .pointer (some ⟨g5, 0, none⟩) ∧ Own w0 wr [(g5, encSeg (nearA s), 24), (g4, encSeg zeroS, 24), (g1, encSeg s, 24)])
  case first =>
    refine wp_region_some hR _ (List.Sublist.refl _) [0, 1, 2, 3, 5, 6, 7, 10, 11, 12, 13, 14, 15, 16, 17, 18, 19, 20, 21, 22] 6 (by kernel_rfl) (by kernel_rfl) (by kernel_rfl) rfl ?_
    clear hR; intro hR
    repeat (refine wpT_step rfl ?_; first
    | ((first | (with_reducible apply q_pl) | ((with_reducible apply q_gd); (first | (apply GdBy.gt; exact rfl; exact rfl) | (apply GdBy.gf; exact rfl; exact rfl) | (apply GdBy.t; exact rfl; exact rfl) | (apply GdBy.f; exact rfl; exact rfl)))); (with_reducible apply t_numE); (first | (apply EvC.gv; exact rfl; (with_reducible first | exact Imp.refl _ | (apply Imp.left; exact Imp.refl _) | (apply Imp.right; exact Imp.refl _) | (apply Imp.left; apply Imp.left; exact Imp.refl _))) | (apply EvC.now; exact rfl) | exact rfl | (with_reducible exact EvAll.nil) | (focus (repeat (first | apply EvAll.cons | exact EvAll.nil | (apply EvC.gv; exact rfl; (with_reducible first | exact Imp.refl _ | (apply Imp.left; exact Imp.refl _) | (apply Imp.right; exact Imp.refl _) | (apply Imp.left; apply Imp.left; exact Imp.refl _))) | (apply EvC.now; exact rfl))); done) | exact ext_seg _ | (focus (repeat (first | apply List.Mem.head | apply List.Mem.tail | apply List.mem_append_right)))); (first | (apply EvC.gv; exact rfl; (with_reducible first | exact Imp.refl _ | (apply Imp.left; exact Imp.refl _) | (apply Imp.right; exact Imp.refl _) | (apply Imp.left; apply Imp.left; exact Imp.refl _))) | (apply EvC.now; exact rfl) | exact rfl | (with_reducible exact EvAll.nil) | (focus (repeat (first | apply EvAll.cons | exact EvAll.nil | (apply EvC.gv; exact rfl; (with_reducible first | exact Imp.refl _ | (apply Imp.left; exact Imp.refl _) | (apply Imp.right; exact Imp.refl _) | (apply Imp.left; apply Imp.left; exact Imp.refl _))) | (apply EvC.now; exact rfl))); done) | exact ext_seg _ | (focus (repeat (first | apply List.Mem.head | apply List.Mem.tail | apply List.mem_append_right)))); exact rfl; ((with_reducible first | exact HA1.out | exact HC1.out | exact HL1.out | exact HN1.out | exact HK1.out | exact HV1.out)); (simp only [List.set_cons_succ, List.set_cons_zero]; exact rfl))
    | ((first | (with_reducible apply q_pl) | ((with_reducible apply q_gd); (first | (apply GdBy.gt; exact rfl; exact rfl) | (apply GdBy.gf; exact rfl; exact rfl) | (apply GdBy.t; exact rfl; exact rfl) | (apply GdBy.f; exact rfl; exact rfl)))); (with_reducible apply t_rem); (first | (apply EvC.gv; exact rfl; (with_reducible first | exact Imp.refl _ | (apply Imp.left; exact Imp.refl _) | (apply Imp.right; exact Imp.refl _) | (apply Imp.left; apply Imp.left; exact Imp.refl _))) | (apply EvC.now; exact rfl) | exact rfl | (with_reducible exact EvAll.nil) | (focus (repeat (first | apply EvAll.cons | exact EvAll.nil | (apply EvC.gv; exact rfl; (with_reducible first | exact Imp.refl _ | (apply Imp.left; exact Imp.refl _) | (apply Imp.right; exact Imp.refl _) | (apply Imp.left; apply Imp.left; exact Imp.refl _))) | (apply EvC.now; exact rfl))); done) | exact ext_seg _ | (focus (repeat (first | apply List.Mem.head | apply List.Mem.tail | apply List.mem_append_right)))); (first | (apply EvC.gv; exact rfl; (with_reducible first | exact Imp.refl _ | (apply Imp.left; exact Imp.refl _) | (apply Imp.right; exact Imp.refl _) | (apply Imp.left; apply Imp.left; exact Imp.refl _))) | (apply EvC.now; exact rfl) | exact rfl | (with_reducible exact EvAll.nil) | (focus (repeat (first | apply EvAll.cons | exact EvAll.nil | (apply EvC.gv; exact rfl; (with_reducible first | exact Imp.refl _ | (apply Imp.left; exact Imp.refl _) | (apply Imp.right; exact Imp.refl _) | (apply Imp.left; apply Imp.left; exact Imp.refl _))) | (apply EvC.now; exact rfl))); done) | exact ext_seg _ | (focus (repeat (first | apply List.Mem.head | apply List.Mem.tail | apply List.mem_append_right)))); (decide); (with_reducible first | exact HA2.out | exact HL2.out); (simp only [List.set_cons_succ, List.set_cons_zero]; exact rfl))
    | ((first | (with_reducible apply q_pl) | ((with_reducible apply q_gd); (first | (apply GdBy.gt; exact rfl; exact rfl) | (apply GdBy.gf; exact rfl; exact rfl) | (apply GdBy.t; exact rfl; exact rfl) | (apply GdBy.f; exact rfl; exact rfl)))); (first | ((with_reducible first | apply t_move | apply t_assign | apply t_and | apply t_or | apply t_cmp | apply t_not | apply t_addr (fRec _ (by decide)) | apply t_addr (fSeg _ (by decide)) | apply t_one tByteR | apply t_one tSlR | apply t_one tIntR | apply t_one tWordS | apply t_part tSeg) <;> (first | (apply EvC.gv; exact rfl; (with_reducible first | exact Imp.refl _ | (apply Imp.left; exact Imp.refl _) | (apply Imp.right; exact Imp.refl _) | (apply Imp.left; apply Imp.left; exact Imp.refl _))) | (apply EvC.now; exact rfl) | exact rfl | (with_reducible exact EvAll.nil) | (focus (repeat (first | apply EvAll.cons | exact EvAll.nil | (apply EvC.gv; exact rfl; (with_reducible first | exact Imp.refl _ | (apply Imp.left; exact Imp.refl _) | (apply Imp.right; exact Imp.refl _) | (apply Imp.left; apply Imp.left; exact Imp.refl _))) | (apply EvC.now; exact rfl))); done) | exact ext_seg _ | (focus (repeat (first | apply List.Mem.head | apply List.Mem.tail | apply List.mem_append_right)))))); (simp only [List.set_cons_succ, List.set_cons_zero]; exact rfl)))
    refine wpT_nil ?_
    refine wpG_two hR (i := 4) (j := 24) (by kernel_rfl) ?_ ?_
    · clear hR; intro w hR
      refine opBuildS hR rfl rfl rfl bCom ?_
      clear hR; intro g7 w hR
      refine ⟨hR.drop (by (focus (repeat (first | exact List.Sublist.slnil | exact List.nil_sublist _ | exact List.Sublist.refl _ | apply List.Sublist.cons_cons | apply List.Sublist.cons)))), ?_⟩
      simp only [List.set_cons_succ, List.set_cons_zero]
      refine wpG_two hR (i := 8) (j := 24) (by kernel_rfl) ?_ ?_
      · clear hR; intro w hR
        refine opQ hR rfl rfl (t_sixG (k := m) Try.underlying40 iIntO (EvC.now rfl) (EvC.now rfl) HMC.out hm4) (by (simp only [List.set_cons_succ, List.set_cons_zero]; exact rfl)) ?_
        clear hR; intro w hR
        refine ⟨hR.drop (by (focus (repeat (first | exact List.Sublist.slnil | exact List.nil_sublist _ | exact List.Sublist.refl _ | apply List.Sublist.cons_cons | apply List.Sublist.cons)))), ?_⟩
        refine wpG_two hR (i := 9) (j := 24) (by kernel_rfl) ?_ ?_
        · clear hR; intro w hR
          refine opQ hR rfl rfl (t_one tIntO (EvC.now rfl) (by (focus (repeat (first | apply List.Mem.head | apply List.Mem.tail | apply List.mem_append_right)))) (com_at m hm4)) (by (simp only [List.set_cons_succ, List.set_cons_zero]; exact rfl)) ?_
          clear hR; intro w hR
          refine ⟨hR.drop (by (focus (repeat (first | exact List.Sublist.slnil | exact List.nil_sublist _ | exact List.Sublist.refl _ | apply List.Sublist.cons_cons | apply List.Sublist.cons)))), ?_⟩
          refine wpG_two hR (i := 23) (j := 24) (by kernel_rfl) ?_ ?_
          · clear hR; intro w hR
            refine opQ hR rfl rfl (t_built rfl (bNear _ _ _ _ _ _)) (by (simp only [List.set_cons_succ, List.set_cons_zero]; exact rfl)) ?_
            clear hR; intro w hR
            refine ⟨hR.drop (by (focus (repeat (first | exact List.Sublist.slnil | exact List.nil_sublist _ | exact List.Sublist.refl _ | apply List.Sublist.cons_cons | apply List.Sublist.cons)))), ?_⟩
            refine wpG_one hR (i := 24) (by kernel_rfl) ?_
            clear hR; intro w hR
            refine opMake hR zSeg rfl ?_
            clear hR; intro g5 w hR
            refine ⟨hR.drop (by (focus (repeat (first | exact List.Sublist.slnil | exact List.nil_sublist _ | exact List.Sublist.refl _ | apply List.Sublist.cons_cons | apply List.Sublist.cons)))), ?_⟩
            simp only [List.set_cons_succ, List.set_cons_zero]
            refine wpG_put hR tSeg (i := 25) (by kernel_rfl) rfl rfl rfl (by (focus (repeat (first | apply List.Mem.head | apply List.Mem.tail | apply List.mem_append_right)))) (put_seg _ _) rfl (by simp [encSeg]) (one_seg _) (by (focus (repeat (first | apply Upd.head | apply Upd.tail)))) (by (focus (repeat (first | exact List.Sublist.slnil | exact List.nil_sublist _ | exact List.Sublist.refl _ | apply List.Sublist.cons_cons | apply List.Sublist.cons)))) ?_
            clear hR; intro w hR
            refine wpG_end hR (by kernel_rfl) ?_
            clear hR; intro w hR
            go_wp2_with fail
            go_meet
            exact ⟨_, rfl, by rw [HNA.out]; exact hR.drop (by (focus (repeat (first | exact List.Sublist.slnil | exact List.nil_sublist _ | exact List.Sublist.refl _ | apply List.Sublist.cons_cons | apply List.Sublist.cons))))⟩
          · clear hR; intro w hR
            refine opMake hR zSeg rfl ?_
            clear hR; intro g5 w hR
            refine ⟨hR.drop (by (focus (repeat (first | exact List.Sublist.slnil | exact List.nil_sublist _ | exact List.Sublist.refl _ | apply List.Sublist.cons_cons | apply List.Sublist.cons)))), ?_⟩
            simp only [List.set_cons_succ, List.set_cons_zero]
            refine wpG_one hR (i := 23) (by kernel_rfl) ?_
            clear hR; intro w hR
            refine opQ hR rfl rfl (t_built rfl (bNear _ _ _ _ _ _)) (by (simp only [List.set_cons_succ, List.set_cons_zero]; exact rfl)) ?_
            clear hR; intro w hR
            refine ⟨hR.drop (by (focus (repeat (first | exact List.Sublist.slnil | exact List.nil_sublist _ | exact List.Sublist.refl _ | apply List.Sublist.cons_cons | apply List.Sublist.cons)))), ?_⟩
            refine wpG_put hR tSeg (i := 25) (by kernel_rfl) rfl rfl rfl (by (focus (repeat (first | apply List.Mem.head | apply List.Mem.tail | apply List.mem_append_right)))) (put_seg _ _) rfl (by simp [encSeg]) (one_seg _) (by (focus (repeat (first | apply Upd.head | apply Upd.tail)))) (by (focus (repeat (first | exact List.Sublist.slnil | exact List.nil_sublist _ | exact List.Sublist.refl _ | apply List.Sublist.cons_cons | apply List.Sublist.cons)))) ?_
            clear hR; intro w hR
            refine wpG_end hR (by kernel_rfl) ?_
            clear hR; intro w hR
            go_wp2_with fail
            go_meet
            exact ⟨_, rfl, by rw [HNA.out]; exact hR.drop (by (focus (repeat (first | exact List.Sublist.slnil | exact List.nil_sublist _ | exact List.Sublist.refl _ | apply List.Sublist.cons_cons | apply List.Sublist.cons))))⟩
        · clear hR; intro w hR
          refine opMake hR zSeg rfl ?_
          clear hR; intro g5 w hR
          refine ⟨hR.drop (by (focus (repeat (first | exact List.Sublist.slnil | exact List.nil_sublist _ | exact List.Sublist.refl _ | apply List.Sublist.cons_cons | apply List.Sublist.cons)))), ?_⟩
          simp only [List.set_cons_succ, List.set_cons_zero]
          refine wpG_one hR (i := 9) (by kernel_rfl) ?_
          clear hR; intro w hR
          refine opQ hR rfl rfl (t_one tIntO (EvC.now rfl) (by (focus (repeat (first | apply List.Mem.head | apply List.Mem.tail | apply List.mem_append_right)))) (com_at m hm4)) (by (simp only [List.set_cons_succ, List.set_cons_zero]; exact rfl)) ?_
          clear hR; intro w hR
          refine ⟨hR.drop (by (focus (repeat (first | exact List.Sublist.slnil | exact List.nil_sublist _ | exact List.Sublist.refl _ | apply List.Sublist.cons_cons | apply List.Sublist.cons)))), ?_⟩
          refine wpG_one hR (i := 23) (by kernel_rfl) ?_
          clear hR; intro w hR
          refine opQ hR rfl rfl (t_built rfl (bNear _ _ _ _ _ _)) (by (simp only [List.set_cons_succ, List.set_cons_zero]; exact rfl)) ?_
          clear hR; intro w hR
          refine ⟨hR.drop (by (focus (repeat (first | exact List.Sublist.slnil | exact List.nil_sublist _ | exact List.Sublist.refl _ | apply List.Sublist.cons_cons | apply List.Sublist.cons)))), ?_⟩
          refine wpG_put hR tSeg (i := 25) (by kernel_rfl) rfl rfl rfl (by (focus (repeat (first | apply List.Mem.head | apply List.Mem.tail | apply List.mem_append_right)))) (put_seg _ _) rfl (by simp [encSeg]) (one_seg _) (by (focus (repeat (first | apply Upd.head | apply Upd.tail)))) (by (focus (repeat (first | exact List.Sublist.slnil | exact List.nil_sublist _ | exact List.Sublist.refl _ | apply List.Sublist.cons_cons | apply List.Sublist.cons)))) ?_
          clear hR; intro w hR
          refine wpG_end hR (by kernel_rfl) ?_
          clear hR; intro w hR
          go_wp2_with fail
          go_meet
          exact ⟨_, rfl, by rw [HNA.out]; exact hR.drop (by (focus (repeat (first | exact List.Sublist.slnil | exact List.nil_sublist _ | exact List.Sublist.refl _ | apply List.Sublist.cons_cons | apply List.Sublist.cons))))⟩
      · clear hR; intro w hR
        refine opMake hR zSeg rfl ?_
        clear hR; intro g5 w hR
        refine ⟨hR.drop (by (focus (repeat (first | exact List.Sublist.slnil | exact List.nil_sublist _ | exact List.Sublist.refl _ | apply List.Sublist.cons_cons | apply List.Sublist.cons)))), ?_⟩
        simp only [List.set_cons_succ, List.set_cons_zero]
        refine wpG_one hR (i := 8) (by kernel_rfl) ?_
        clear hR; intro w hR
        refine opQ hR rfl rfl (t_sixG (k := m) Try.underlying40 iIntO (EvC.now rfl) (EvC.now rfl) HMC.out hm4) (by (simp only [List.set_cons_succ, List.set_cons_zero]; exact rfl)) ?_
        clear hR; intro w hR
        refine ⟨hR.drop (by (focus (repeat (first | exact List.Sublist.slnil | exact List.nil_sublist _ | exact List.Sublist.refl _ | apply List.Sublist.cons_cons | apply List.Sublist.cons)))), ?_⟩
        refine wpG_one hR (i := 9) (by kernel_rfl) ?_
        clear hR; intro w hR
        refine opQ hR rfl rfl (t_one tIntO (EvC.now rfl) (by (focus (repeat (first | apply List.Mem.head | apply List.Mem.tail | apply List.mem_append_right)))) (com_at m hm4)) (by (simp only [List.set_cons_succ, List.set_cons_zero]; exact rfl)) ?_
        clear hR; intro w hR
        refine ⟨hR.drop (by (focus (repeat (first | exact List.Sublist.slnil | exact List.nil_sublist _ | exact List.Sublist.refl _ | apply List.Sublist.cons_cons | apply List.Sublist.cons)))), ?_⟩
        refine wpG_one hR (i := 23) (by kernel_rfl) ?_
        clear hR; intro w hR
        refine opQ hR rfl rfl (t_built rfl (bNear _ _ _ _ _ _)) (by (simp only [List.set_cons_succ, List.set_cons_zero]; exact rfl)) ?_
        clear hR; intro w hR
        refine ⟨hR.drop (by (focus (repeat (first | exact List.Sublist.slnil | exact List.nil_sublist _ | exact List.Sublist.refl _ | apply List.Sublist.cons_cons | apply List.Sublist.cons)))), ?_⟩
        refine wpG_put hR tSeg (i := 25) (by kernel_rfl) rfl rfl rfl (by (focus (repeat (first | apply List.Mem.head | apply List.Mem.tail | apply List.mem_append_right)))) (put_seg _ _) rfl (by simp [encSeg]) (one_seg _) (by (focus (repeat (first | apply Upd.head | apply Upd.tail)))) (by (focus (repeat (first | exact List.Sublist.slnil | exact List.nil_sublist _ | exact List.Sublist.refl _ | apply List.Sublist.cons_cons | apply List.Sublist.cons)))) ?_
        clear hR; intro w hR
        refine wpG_end hR (by kernel_rfl) ?_
        clear hR; intro w hR
        go_wp2_with fail
        go_meet
        exact ⟨_, rfl, by rw [HNA.out]; exact hR.drop (by (focus (repeat (first | exact List.Sublist.slnil | exact List.nil_sublist _ | exact List.Sublist.refl _ | apply List.Sublist.cons_cons | apply List.Sublist.cons))))⟩
    · clear hR; intro w hR
      refine opMake hR zSeg rfl ?_
      clear hR; intro g5 w hR
      refine ⟨hR.drop (by (focus (repeat (first | exact List.Sublist.slnil | exact List.nil_sublist _ | exact List.Sublist.refl _ | apply List.Sublist.cons_cons | apply List.Sublist.cons)))), ?_⟩
      simp only [List.set_cons_succ, List.set_cons_zero]
      refine wpG_one hR (i := 4) (by kernel_rfl) ?_
      clear hR; intro w hR
      refine opBuildS hR rfl rfl rfl bCom ?_
      clear hR; intro g7 w hR
      refine ⟨hR.drop (by (focus (repeat (first | exact List.Sublist.slnil | exact List.nil_sublist _ | exact List.Sublist.refl _ | apply List.Sublist.cons_cons | apply List.Sublist.cons)))), ?_⟩
      simp only [List.set_cons_succ, List.set_cons_zero]
      refine wpG_one hR (i := 8) (by kernel_rfl) ?_
      clear hR; intro w hR
      refine opQ hR rfl rfl (t_sixG (k := m) Try.underlying40 iIntO (EvC.now rfl) (EvC.now rfl) HMC.out hm4) (by (simp only [List.set_cons_succ, List.set_cons_zero]; exact rfl)) ?_
      clear hR; intro w hR
      refine ⟨hR.drop (by (focus (repeat (first | exact List.Sublist.slnil | exact List.nil_sublist _ | exact List.Sublist.refl _ | apply List.Sublist.cons_cons | apply List.Sublist.cons)))), ?_⟩
      refine wpG_one hR (i := 9) (by kernel_rfl) ?_
      clear hR; intro w hR
      refine opQ hR rfl rfl (t_one tIntO (EvC.now rfl) (by (focus (repeat (first | apply List.Mem.head | apply List.Mem.tail | apply List.mem_append_right)))) (com_at m hm4)) (by (simp only [List.set_cons_succ, List.set_cons_zero]; exact rfl)) ?_
      clear hR; intro w hR
      refine ⟨hR.drop (by (focus (repeat (first | exact List.Sublist.slnil | exact List.nil_sublist _ | exact List.Sublist.refl _ | apply List.Sublist.cons_cons | apply List.Sublist.cons)))), ?_⟩
      refine wpG_one hR (i := 23) (by kernel_rfl) ?_
      clear hR; intro w hR
      refine opQ hR rfl rfl (t_built rfl (bNear _ _ _ _ _ _)) (by (simp only [List.set_cons_succ, List.set_cons_zero]; exact rfl)) ?_
      clear hR; intro w hR
      refine ⟨hR.drop (by (focus (repeat (first | exact List.Sublist.slnil | exact List.nil_sublist _ | exact List.Sublist.refl _ | apply List.Sublist.cons_cons | apply List.Sublist.cons)))), ?_⟩
      refine wpG_put hR tSeg (i := 25) (by kernel_rfl) rfl rfl rfl (by (focus (repeat (first | apply List.Mem.head | apply List.Mem.tail | apply List.mem_append_right)))) (put_seg _ _) rfl (by simp [encSeg]) (one_seg _) (by (focus (repeat (first | apply Upd.head | apply Upd.tail)))) (by (focus (repeat (first | exact List.Sublist.slnil | exact List.nil_sublist _ | exact List.Sublist.refl _ | apply List.Sublist.cons_cons | apply List.Sublist.cons)))) ?_
      clear hR; intro w hR
      refine wpG_end hR (by kernel_rfl) ?_
      clear hR; intro w hR
      go_wp2_with fail
      go_meet
      exact ⟨_, rfl, by rw [HNA.out]; exact hR.drop (by (focus (repeat (first | exact List.Sublist.slnil | exact List.nil_sublist _ | exact List.Sublist.refl _ | apply List.Sublist.cons_cons | apply List.Sublist.cons))))⟩
  case rest =>
  clear hR HNA HMC hm4 HA1 HC1 HL1 HN1 HK1 HV1 HA2 HL2
  obtain ⟨g5, rfl, hR⟩ := hcut
  obtain ⟨e, he⟩ : ∃ e, nearA s = e := ⟨_, rfl⟩
  have HB := Lib.hid (show nearB21 s = if e.a = 0 then nearP s e else e by unfold nearB21; rw [he, ← he]; rfl)
  rw [he] at hR
  clear he
  obtain ⟨d, hd⟩ : ∃ d, nearB21 s = d := ⟨_, rfl⟩
  rw [hd] at HB
  obtain ⟨q, hq⟩ : ∃ q, odd % 16 = q := ⟨_, rfl⟩
  have HNK := Lib.hid (show nearS s odd = nearK s q d by unfold nearS; rw [hd, hq])
  rw [hq] at HQ1
  clear hd hq
  go_upto_if 32 with (first
    | ((with_reducible apply q_ls hR); exact rfl; ((with_reducible first | apply t_addr (fRec _ (by decide)) | apply t_addr (fSeg _ (by decide)) | apply t_one tByteR | apply t_one tSlR | apply t_one tIntR | apply t_one tWordS | apply t_part tSeg) <;> (first | (apply EvC.gv; exact rfl; (with_reducible first | exact Imp.refl _ | (apply Imp.left; exact Imp.refl _) | (apply Imp.right; exact Imp.refl _) | (apply Imp.left; apply Imp.left; exact Imp.refl _))) | (apply EvC.now; exact rfl) | exact rfl | (with_reducible exact EvAll.nil) | (focus (repeat (first | apply EvAll.cons | exact EvAll.nil | (apply EvC.gv; exact rfl; (with_reducible first | exact Imp.refl _ | (apply Imp.left; exact Imp.refl _) | (apply Imp.right; exact Imp.refl _) | (apply Imp.left; apply Imp.left; exact Imp.refl _))) | (apply EvC.now; exact rfl))); done) | exact ext_seg _ | (focus (repeat (first | apply List.Mem.head | apply List.Mem.tail | apply List.mem_append_right))))); (simp only [List.set_cons_succ, List.set_cons_zero]; exact rfl); clear hR; intro w hR))
  go_cut [] (fun wr => NearAt w0 g1 g4 g5 s d wr)
  case first =>
    by_cases ha : e.a = 0
    · refine wp_cond_at (nm := true) rfl (by simp [ha]) (fun _ => ?_) (fun h => absurd h (by decide))
      go_upto_region 3 with fail
      refine wp_region_some hR [(g1, encSeg s, 24)] (by (focus (repeat (first | exact List.Sublist.slnil | exact List.nil_sublist _ | exact List.Sublist.refl _ | apply List.Sublist.cons_cons | apply List.Sublist.cons)))) [0, 1, 2, 3] 4 (by kernel_rfl) (by kernel_rfl) (by kernel_rfl) rfl ?_
      clear hR; intro hR
      repeat (refine wpT_step rfl ?_; first
          | ((first | (with_reducible apply q_pl) | ((with_reducible apply q_gd); (first | (apply GdBy.gt; exact rfl; exact rfl) | (apply GdBy.gf; exact rfl; exact rfl) | (apply GdBy.t; exact rfl; exact rfl) | (apply GdBy.f; exact rfl; exact rfl)))); (first | ((with_reducible first | apply t_move | apply t_assign | apply t_and | apply t_or | apply t_cmp | apply t_not | apply t_addr (fRec _ (by decide)) | apply t_addr (fSeg _ (by decide)) | apply t_one tByteR | apply t_one tSlR | apply t_one tIntR | apply t_one tWordS | apply t_part tSeg) <;> (first | (apply EvC.gv; exact rfl; (with_reducible first | exact Imp.refl _ | (apply Imp.left; exact Imp.refl _) | (apply Imp.right; exact Imp.refl _) | (apply Imp.left; apply Imp.left; exact Imp.refl _))) | (apply EvC.now; exact rfl) | exact rfl | (with_reducible exact EvAll.nil) | (focus (repeat (first | apply EvAll.cons | exact EvAll.nil | (apply EvC.gv; exact rfl; (with_reducible first | exact Imp.refl _ | (apply Imp.left; exact Imp.refl _) | (apply Imp.right; exact Imp.refl _) | (apply Imp.left; apply Imp.left; exact Imp.refl _))) | (apply EvC.now; exact rfl))); done) | exact ext_seg _ | (focus (repeat (first | apply List.Mem.head | apply List.Mem.tail | apply List.mem_append_right)))))); (simp only [List.set_cons_succ, List.set_cons_zero]; exact rfl)))
      refine wpT_nil ?_
      refine wpG_addr hR (i := 4) (fSeg 2 (by decide)) (by kernel_rfl) rfl rfl (by (simp only [List.set_cons_succ, List.set_cons_zero]; exact rfl)) ?_
      clear hR; intro w hR
      refine wpG_put1 hR tWordS (i := 5) (by kernel_rfl) rfl rfl rfl (by (focus (repeat (first | apply List.Mem.head | apply List.Mem.tail | apply List.mem_append_right)))) (put_f _ _) (by simp [encSeg]) rfl (by (focus (repeat (first | apply Upd.head | apply Upd.tail)))) (by (focus (repeat (first | exact List.Sublist.slnil | exact List.nil_sublist _ | exact List.Sublist.refl _ | apply List.Sublist.cons_cons | apply List.Sublist.cons)))) ?_
      clear hR; intro w hR
      refine wpG_addr hR (i := 6) (fSeg 3 (by decide)) (by kernel_rfl) rfl rfl (by (simp only [List.set_cons_succ, List.set_cons_zero]; exact rfl)) ?_
      clear hR; intro w hR
      refine wpG_put1 hR tByteR (i := 7) (by kernel_rfl) rfl rfl rfl (by (focus (repeat (first | apply List.Mem.head | apply List.Mem.tail | apply List.mem_append_right)))) (put_o _ _) (by simp [encSeg]) rfl (by (focus (repeat (first | apply Upd.head | apply Upd.tail)))) (by (focus (repeat (first | exact List.Sublist.slnil | exact List.nil_sublist _ | exact List.Sublist.refl _ | apply List.Sublist.cons_cons | apply List.Sublist.cons)))) ?_
      clear hR; intro w hR
      refine wpG_end hR (by kernel_rfl) ?_
      clear hR; intro w hR
      go_wp2_with fail
      go_meet
      unfold NearAt
      rw [HB.out, if_pos ha]
      exact hR
    · refine wp_cond_at (nm := false) rfl (by simp [ha]) (fun h => absurd h (by decide)) (fun _ => ?_)
      go_wp2_with fail
      go_meet
      unfold NearAt
      rw [HB.out, if_neg ha]
      exact hR
  case rest =>
  clear hR HB
  replace hR : Own w0 _ [(g5, encSeg d, 24), (g4, encSeg zeroS, 24), (g1, encSeg s, 24)] := hcut
  clear hcut
  go_upto_region 5 with (first
    | ((with_reducible apply q_ls hR); exact rfl; (with_reducible apply t_numE); (apply EvC.now; exact rfl); (apply EvC.now; exact rfl); exact rfl; exact HQ1.out; (simp only [List.set_cons_succ, List.set_cons_zero]; exact rfl); clear hR; intro w hR))
  by_cases h0 : q = 0
  · subst h0
    replace HNK := Lib.hid (HNK.out.trans (if_pos rfl))
    go_upto_if 41 with fail
    refine wp_cond_at (nm := true) rfl (by simp; (try omega)) (fun _ => ?_) (fun h => absurd h (by decide))
    repeat (first
        | ((with_reducible apply wpList_put hR tSeg); exact rfl; exact rfl; exact rfl; (focus (repeat (first | apply List.Mem.head | apply List.Mem.tail | apply List.mem_append_right))); exact put_seg _ _; exact rfl; simp [encSeg]; exact one_seg _; (focus (repeat (first | apply Upd.head | apply Upd.tail))); clear hR; intro w hR)
        | ((with_reducible apply wpList_put1 hR tIntR); exact rfl; exact rfl; exact rfl; (focus (repeat (first | apply List.Mem.head | apply List.Mem.tail | apply List.mem_append_right))); (first | exact put_a _ _ | exact put_c _ _ | exact put_l _ _ | exact put_n _ _); simp [encSeg]; exact rfl; (focus (repeat (first | apply Upd.head | apply Upd.tail))); clear hR; intro w hR)
        | ((with_reducible apply q_ls hR); exact rfl; ((with_reducible first | apply t_addr (fRec _ (by decide)) | apply t_addr (fSeg _ (by decide)) | apply t_one tByteR | apply t_one tSlR | apply t_one tIntR | apply t_one tWordS | apply t_part tSeg) <;> (first | (apply EvC.gv; exact rfl; (with_reducible first | exact Imp.refl _ | (apply Imp.left; exact Imp.refl _) | (apply Imp.right; exact Imp.refl _) | (apply Imp.left; apply Imp.left; exact Imp.refl _))) | (apply EvC.now; exact rfl) | exact rfl | (with_reducible exact EvAll.nil) | (focus (repeat (first | apply EvAll.cons | exact EvAll.nil | (apply EvC.gv; exact rfl; (with_reducible first | exact Imp.refl _ | (apply Imp.left; exact Imp.refl _) | (apply Imp.right; exact Imp.refl _) | (apply Imp.left; apply Imp.left; exact Imp.refl _))) | (apply EvC.now; exact rfl))); done) | exact ext_seg _ | (focus (repeat (first | apply List.Mem.head | apply List.Mem.tail | apply List.mem_append_right))))); (simp only [List.set_cons_succ, List.set_cons_zero]; exact rfl); clear hR; intro w hR)
              | go_step)
    exact post_row hR rfl (by rfl) (by (focus (repeat (first | apply List.Mem.head | apply List.Mem.tail | apply List.mem_append_right)))) Try.underlying24 rfl iSeg (by rfl) (by rfl) ⟨by first | (rw [HNK.out]; done) | (rw [HNK.out]; rfl), hR.below⟩
  go_upto_if 41 with fail
  refine wp_cond_at (nm := false) rfl (by simp; omega) (fun h => absurd h (by decide)) (fun _ => ?_)
  replace HNK := Lib.hid (HNK.out.trans (if_neg h0))
  by_cases h1 : q = 1
  · subst h1
    replace HNK := Lib.hid (HNK.out.trans (if_pos rfl))
    go_upto_if 46 with fail
    refine wp_cond_at (nm := true) rfl (by simp; (try omega)) (fun _ => ?_) (fun h => absurd h (by decide))
    repeat (first
        | ((with_reducible apply wpList_put hR tSeg); exact rfl; exact rfl; exact rfl; (focus (repeat (first | apply List.Mem.head | apply List.Mem.tail | apply List.mem_append_right))); exact put_seg _ _; exact rfl; simp [encSeg]; exact one_seg _; (focus (repeat (first | apply Upd.head | apply Upd.tail))); clear hR; intro w hR)
        | ((with_reducible apply wpList_put1 hR tIntR); exact rfl; exact rfl; exact rfl; (focus (repeat (first | apply List.Mem.head | apply List.Mem.tail | apply List.mem_append_right))); (first | exact put_a _ _ | exact put_c _ _ | exact put_l _ _ | exact put_n _ _); simp [encSeg]; exact rfl; (focus (repeat (first | apply Upd.head | apply Upd.tail))); clear hR; intro w hR)
        | ((with_reducible apply q_ls hR); exact rfl; ((with_reducible first | apply t_addr (fRec _ (by decide)) | apply t_addr (fSeg _ (by decide)) | apply t_one tByteR | apply t_one tSlR | apply t_one tIntR | apply t_one tWordS | apply t_part tSeg) <;> (first | (apply EvC.gv; exact rfl; (with_reducible first | exact Imp.refl _ | (apply Imp.left; exact Imp.refl _) | (apply Imp.right; exact Imp.refl _) | (apply Imp.left; apply Imp.left; exact Imp.refl _))) | (apply EvC.now; exact rfl) | exact rfl | (with_reducible exact EvAll.nil) | (focus (repeat (first | apply EvAll.cons | exact EvAll.nil | (apply EvC.gv; exact rfl; (with_reducible first | exact Imp.refl _ | (apply Imp.left; exact Imp.refl _) | (apply Imp.right; exact Imp.refl _) | (apply Imp.left; apply Imp.left; exact Imp.refl _))) | (apply EvC.now; exact rfl))); done) | exact ext_seg _ | (focus (repeat (first | apply List.Mem.head | apply List.Mem.tail | apply List.mem_append_right))))); (simp only [List.set_cons_succ, List.set_cons_zero]; exact rfl); clear hR; intro w hR)
              | go_step)
    exact post_row hR rfl (by rfl) (by (focus (repeat (first | apply List.Mem.head | apply List.Mem.tail | apply List.mem_append_right)))) Try.underlying24 rfl iSeg (by rfl) (by rfl) ⟨by first | (rw [HNK.out]; done) | (rw [HNK.out]; rfl), hR.below⟩
  go_upto_if 46 with fail
  refine wp_cond_at (nm := false) rfl (by simp; omega) (fun h => absurd h (by decide)) (fun _ => ?_)
  replace HNK := Lib.hid (HNK.out.trans (if_neg h1))
  by_cases h2 : q = 2
  · subst h2
    replace HNK := Lib.hid (HNK.out.trans (if_pos rfl))
    go_upto_if 51 with fail
    refine wp_cond_at (nm := true) rfl (by simp; (try omega)) (fun _ => ?_) (fun h => absurd h (by decide))
    repeat (first
        | ((with_reducible apply wpList_put hR tSeg); exact rfl; exact rfl; exact rfl; (focus (repeat (first | apply List.Mem.head | apply List.Mem.tail | apply List.mem_append_right))); exact put_seg _ _; exact rfl; simp [encSeg]; exact one_seg _; (focus (repeat (first | apply Upd.head | apply Upd.tail))); clear hR; intro w hR)
        | ((with_reducible apply wpList_put1 hR tIntR); exact rfl; exact rfl; exact rfl; (focus (repeat (first | apply List.Mem.head | apply List.Mem.tail | apply List.mem_append_right))); (first | exact put_a _ _ | exact put_c _ _ | exact put_l _ _ | exact put_n _ _); simp [encSeg]; exact rfl; (focus (repeat (first | apply Upd.head | apply Upd.tail))); clear hR; intro w hR)
        | ((with_reducible apply q_ls hR); exact rfl; ((with_reducible first | apply t_addr (fRec _ (by decide)) | apply t_addr (fSeg _ (by decide)) | apply t_one tByteR | apply t_one tSlR | apply t_one tIntR | apply t_one tWordS | apply t_part tSeg) <;> (first | (apply EvC.gv; exact rfl; (with_reducible first | exact Imp.refl _ | (apply Imp.left; exact Imp.refl _) | (apply Imp.right; exact Imp.refl _) | (apply Imp.left; apply Imp.left; exact Imp.refl _))) | (apply EvC.now; exact rfl) | exact rfl | (with_reducible exact EvAll.nil) | (focus (repeat (first | apply EvAll.cons | exact EvAll.nil | (apply EvC.gv; exact rfl; (with_reducible first | exact Imp.refl _ | (apply Imp.left; exact Imp.refl _) | (apply Imp.right; exact Imp.refl _) | (apply Imp.left; apply Imp.left; exact Imp.refl _))) | (apply EvC.now; exact rfl))); done) | exact ext_seg _ | (focus (repeat (first | apply List.Mem.head | apply List.Mem.tail | apply List.mem_append_right))))); (simp only [List.set_cons_succ, List.set_cons_zero]; exact rfl); clear hR; intro w hR)
              | go_step)
    exact post_row hR rfl (by rfl) (by (focus (repeat (first | apply List.Mem.head | apply List.Mem.tail | apply List.mem_append_right)))) Try.underlying24 rfl iSeg (by rfl) (by rfl) ⟨by first | (rw [HNK.out]; done) | (rw [HNK.out]; rfl), hR.below⟩
  go_upto_if 51 with fail
  refine wp_cond_at (nm := false) rfl (by simp; omega) (fun h => absurd h (by decide)) (fun _ => ?_)
  replace HNK := Lib.hid (HNK.out.trans (if_neg h2))
  by_cases h3 : q = 3
  · subst h3
    replace HNK := Lib.hid (HNK.out.trans (if_pos rfl))
    go_upto_if 56 with fail
    refine wp_cond_at (nm := true) rfl (by simp; (try omega)) (fun _ => ?_) (fun h => absurd h (by decide))
    repeat (first
        | ((with_reducible apply wpList_put hR tSeg); exact rfl; exact rfl; exact rfl; (focus (repeat (first | apply List.Mem.head | apply List.Mem.tail | apply List.mem_append_right))); exact put_seg _ _; exact rfl; simp [encSeg]; exact one_seg _; (focus (repeat (first | apply Upd.head | apply Upd.tail))); clear hR; intro w hR)
        | ((with_reducible apply wpList_put1 hR tIntR); exact rfl; exact rfl; exact rfl; (focus (repeat (first | apply List.Mem.head | apply List.Mem.tail | apply List.mem_append_right))); (first | exact put_a _ _ | exact put_c _ _ | exact put_l _ _ | exact put_n _ _); simp [encSeg]; exact rfl; (focus (repeat (first | apply Upd.head | apply Upd.tail))); clear hR; intro w hR)
        | ((with_reducible apply q_ls hR); exact rfl; ((with_reducible first | apply t_addr (fRec _ (by decide)) | apply t_addr (fSeg _ (by decide)) | apply t_one tByteR | apply t_one tSlR | apply t_one tIntR | apply t_one tWordS | apply t_part tSeg) <;> (first | (apply EvC.gv; exact rfl; (with_reducible first | exact Imp.refl _ | (apply Imp.left; exact Imp.refl _) | (apply Imp.right; exact Imp.refl _) | (apply Imp.left; apply Imp.left; exact Imp.refl _))) | (apply EvC.now; exact rfl) | exact rfl | (with_reducible exact EvAll.nil) | (focus (repeat (first | apply EvAll.cons | exact EvAll.nil | (apply EvC.gv; exact rfl; (with_reducible first | exact Imp.refl _ | (apply Imp.left; exact Imp.refl _) | (apply Imp.right; exact Imp.refl _) | (apply Imp.left; apply Imp.left; exact Imp.refl _))) | (apply EvC.now; exact rfl))); done) | exact ext_seg _ | (focus (repeat (first | apply List.Mem.head | apply List.Mem.tail | apply List.mem_append_right))))); (simp only [List.set_cons_succ, List.set_cons_zero]; exact rfl); clear hR; intro w hR)
              | go_step)
    exact post_row hR rfl (by rfl) (by (focus (repeat (first | apply List.Mem.head | apply List.Mem.tail | apply List.mem_append_right)))) Try.underlying24 rfl iSeg (by rfl) (by rfl) ⟨by first | (rw [HNK.out]; done) | (rw [HNK.out]; rfl), hR.below⟩
  go_upto_if 56 with fail
  refine wp_cond_at (nm := false) rfl (by simp; omega) (fun h => absurd h (by decide)) (fun _ => ?_)
  replace HNK := Lib.hid (HNK.out.trans (if_neg h3))
  by_cases h4 : q = 4
  · subst h4
    replace HNK := Lib.hid (HNK.out.trans (if_pos rfl))
    go_upto_if 61 with fail
    refine wp_cond_at (nm := true) rfl (by simp; (try omega)) (fun _ => ?_) (fun h => absurd h (by decide))
    go_upto_region 14 with fail
    refine wp_region_some hR [(g1, encSeg s, 24)] (by (focus (repeat (first | exact List.Sublist.slnil | exact List.nil_sublist _ | exact List.Sublist.refl _ | apply List.Sublist.cons_cons | apply List.Sublist.cons)))) [0, 1, 2, 3] 4 (by kernel_rfl) (by kernel_rfl) (by kernel_rfl) rfl ?_
    clear hR; intro hR
    repeat (refine wpT_step rfl ?_; first
        | ((first | (with_reducible apply q_pl) | ((with_reducible apply q_gd); (first | (apply GdBy.gt; exact rfl; exact rfl) | (apply GdBy.gf; exact rfl; exact rfl) | (apply GdBy.t; exact rfl; exact rfl) | (apply GdBy.f; exact rfl; exact rfl)))); (first | ((with_reducible first | apply t_move | apply t_assign | apply t_and | apply t_or | apply t_cmp | apply t_not | apply t_addr (fRec _ (by decide)) | apply t_addr (fSeg _ (by decide)) | apply t_one tByteR | apply t_one tSlR | apply t_one tIntR | apply t_one tWordS | apply t_part tSeg) <;> (first | (apply EvC.gv; exact rfl; (with_reducible first | exact Imp.refl _ | (apply Imp.left; exact Imp.refl _) | (apply Imp.right; exact Imp.refl _) | (apply Imp.left; apply Imp.left; exact Imp.refl _))) | (apply EvC.now; exact rfl) | exact rfl | (with_reducible exact EvAll.nil) | (focus (repeat (first | apply EvAll.cons | exact EvAll.nil | (apply EvC.gv; exact rfl; (with_reducible first | exact Imp.refl _ | (apply Imp.left; exact Imp.refl _) | (apply Imp.right; exact Imp.refl _) | (apply Imp.left; apply Imp.left; exact Imp.refl _))) | (apply EvC.now; exact rfl))); done) | exact ext_seg _ | (focus (repeat (first | apply List.Mem.head | apply List.Mem.tail | apply List.mem_append_right)))))); (simp only [List.set_cons_succ, List.set_cons_zero]; exact rfl)))
    refine wpT_nil ?_
    refine wpG_addr hR (i := 4) (fSeg 2 (by decide)) (by kernel_rfl) rfl rfl (by (simp only [List.set_cons_succ, List.set_cons_zero]; exact rfl)) ?_
    clear hR; intro w hR
    refine wpG_put1 hR tWordS (i := 5) (by kernel_rfl) rfl rfl rfl (by (focus (repeat (first | apply List.Mem.head | apply List.Mem.tail | apply List.mem_append_right)))) (put_f _ _) (by simp [encSeg]) rfl (by (focus (repeat (first | apply Upd.head | apply Upd.tail)))) (by (focus (repeat (first | exact List.Sublist.slnil | exact List.nil_sublist _ | exact List.Sublist.refl _ | apply List.Sublist.cons_cons | apply List.Sublist.cons)))) ?_
    clear hR; intro w hR
    refine wpG_addr hR (i := 6) (fSeg 3 (by decide)) (by kernel_rfl) rfl rfl (by (simp only [List.set_cons_succ, List.set_cons_zero]; exact rfl)) ?_
    clear hR; intro w hR
    refine wpG_put1 hR tByteR (i := 7) (by kernel_rfl) rfl rfl rfl (by (focus (repeat (first | apply List.Mem.head | apply List.Mem.tail | apply List.mem_append_right)))) (put_o _ _) (by simp [encSeg]) rfl (by (focus (repeat (first | apply Upd.head | apply Upd.tail)))) (by (focus (repeat (first | exact List.Sublist.slnil | exact List.nil_sublist _ | exact List.Sublist.refl _ | apply List.Sublist.cons_cons | apply List.Sublist.cons)))) ?_
    clear hR; intro w hR
    refine wpG_end hR (by kernel_rfl) ?_
    clear hR; intro w hR
    repeat (first
        | ((with_reducible apply wpList_put hR tSeg); exact rfl; exact rfl; exact rfl; (focus (repeat (first | apply List.Mem.head | apply List.Mem.tail | apply List.mem_append_right))); exact put_seg _ _; exact rfl; simp [encSeg]; exact one_seg _; (focus (repeat (first | apply Upd.head | apply Upd.tail))); clear hR; intro w hR)
        | ((with_reducible apply wpList_put1 hR tIntR); exact rfl; exact rfl; exact rfl; (focus (repeat (first | apply List.Mem.head | apply List.Mem.tail | apply List.mem_append_right))); (first | exact put_a _ _ | exact put_c _ _ | exact put_l _ _ | exact put_n _ _); simp [encSeg]; exact rfl; (focus (repeat (first | apply Upd.head | apply Upd.tail))); clear hR; intro w hR)
        | ((with_reducible apply q_ls hR); exact rfl; ((with_reducible first | apply t_addr (fRec _ (by decide)) | apply t_addr (fSeg _ (by decide)) | apply t_one tByteR | apply t_one tSlR | apply t_one tIntR | apply t_one tWordS | apply t_part tSeg) <;> (first | (apply EvC.gv; exact rfl; (with_reducible first | exact Imp.refl _ | (apply Imp.left; exact Imp.refl _) | (apply Imp.right; exact Imp.refl _) | (apply Imp.left; apply Imp.left; exact Imp.refl _))) | (apply EvC.now; exact rfl) | exact rfl | (with_reducible exact EvAll.nil) | (focus (repeat (first | apply EvAll.cons | exact EvAll.nil | (apply EvC.gv; exact rfl; (with_reducible first | exact Imp.refl _ | (apply Imp.left; exact Imp.refl _) | (apply Imp.right; exact Imp.refl _) | (apply Imp.left; apply Imp.left; exact Imp.refl _))) | (apply EvC.now; exact rfl))); done) | exact ext_seg _ | (focus (repeat (first | apply List.Mem.head | apply List.Mem.tail | apply List.mem_append_right))))); (simp only [List.set_cons_succ, List.set_cons_zero]; exact rfl); clear hR; intro w hR)
              | go_step)
    exact post_row hR rfl (by rfl) (by (focus (repeat (first | apply List.Mem.head | apply List.Mem.tail | apply List.mem_append_right)))) Try.underlying24 rfl iSeg (by rfl) (by rfl) ⟨by first | (rw [HNK.out]; done) | (rw [HNK.out]; rfl), hR.below⟩
  go_upto_if 61 with fail
  refine wp_cond_at (nm := false) rfl (by simp; omega) (fun h => absurd h (by decide)) (fun _ => ?_)
  replace HNK := Lib.hid (HNK.out.trans (if_neg h4))
  by_cases h5 : q = 5
  · subst h5
    replace HNK := Lib.hid (HNK.out.trans (if_pos rfl))
    go_upto_if 69 with fail
    refine wp_cond_at (nm := true) rfl (by simp; (try omega)) (fun _ => ?_) (fun h => absurd h (by decide))
    repeat (first
        | ((with_reducible apply wpList_put hR tSeg); exact rfl; exact rfl; exact rfl; (focus (repeat (first | apply List.Mem.head | apply List.Mem.tail | apply List.mem_append_right))); exact put_seg _ _; exact rfl; simp [encSeg]; exact one_seg _; (focus (repeat (first | apply Upd.head | apply Upd.tail))); clear hR; intro w hR)
        | ((with_reducible apply wpList_put1 hR tIntR); exact rfl; exact rfl; exact rfl; (focus (repeat (first | apply List.Mem.head | apply List.Mem.tail | apply List.mem_append_right))); (first | exact put_a _ _ | exact put_c _ _ | exact put_l _ _ | exact put_n _ _); simp [encSeg]; exact rfl; (focus (repeat (first | apply Upd.head | apply Upd.tail))); clear hR; intro w hR)
        | ((with_reducible apply q_ls hR); exact rfl; ((with_reducible first | apply t_addr (fRec _ (by decide)) | apply t_addr (fSeg _ (by decide)) | apply t_one tByteR | apply t_one tSlR | apply t_one tIntR | apply t_one tWordS | apply t_part tSeg) <;> (first | (apply EvC.gv; exact rfl; (with_reducible first | exact Imp.refl _ | (apply Imp.left; exact Imp.refl _) | (apply Imp.right; exact Imp.refl _) | (apply Imp.left; apply Imp.left; exact Imp.refl _))) | (apply EvC.now; exact rfl) | exact rfl | (with_reducible exact EvAll.nil) | (focus (repeat (first | apply EvAll.cons | exact EvAll.nil | (apply EvC.gv; exact rfl; (with_reducible first | exact Imp.refl _ | (apply Imp.left; exact Imp.refl _) | (apply Imp.right; exact Imp.refl _) | (apply Imp.left; apply Imp.left; exact Imp.refl _))) | (apply EvC.now; exact rfl))); done) | exact ext_seg _ | (focus (repeat (first | apply List.Mem.head | apply List.Mem.tail | apply List.mem_append_right))))); (simp only [List.set_cons_succ, List.set_cons_zero]; exact rfl); clear hR; intro w hR)
              | go_step)
    exact post_row hR rfl (by rfl) (by (focus (repeat (first | apply List.Mem.head | apply List.Mem.tail | apply List.mem_append_right)))) Try.underlying24 rfl iSeg (by rfl) (by rfl) ⟨by first | (rw [HNK.out]; done) | (rw [HNK.out]; rfl), hR.below⟩
  go_upto_if 69 with fail
  refine wp_cond_at (nm := false) rfl (by simp; omega) (fun h => absurd h (by decide)) (fun _ => ?_)
  replace HNK := Lib.hid (HNK.out.trans (if_neg h5))
  repeat (first
      | ((with_reducible apply wpList_put hR tSeg); exact rfl; exact rfl; exact rfl; (focus (repeat (first | apply List.Mem.head | apply List.Mem.tail | apply List.mem_append_right))); exact put_seg _ _; exact rfl; simp [encSeg]; exact one_seg _; (focus (repeat (first | apply Upd.head | apply Upd.tail))); clear hR; intro w hR)
      | ((with_reducible apply wpList_put1 hR tIntR); exact rfl; exact rfl; exact rfl; (focus (repeat (first | apply List.Mem.head | apply List.Mem.tail | apply List.mem_append_right))); (first | exact put_a _ _ | exact put_c _ _ | exact put_l _ _ | exact put_n _ _); simp [encSeg]; exact rfl; (focus (repeat (first | apply Upd.head | apply Upd.tail))); clear hR; intro w hR)
      | ((with_reducible apply q_ls hR); exact rfl; ((with_reducible first | apply t_addr (fRec _ (by decide)) | apply t_addr (fSeg _ (by decide)) | apply t_one tByteR | apply t_one tSlR | apply t_one tIntR | apply t_one tWordS | apply t_part tSeg) <;> (first | (apply EvC.gv; exact rfl; (with_reducible first | exact Imp.refl _ | (apply Imp.left; exact Imp.refl _) | (apply Imp.right; exact Imp.refl _) | (apply Imp.left; apply Imp.left; exact Imp.refl _))) | (apply EvC.now; exact rfl) | exact rfl | (with_reducible exact EvAll.nil) | (focus (repeat (first | apply EvAll.cons | exact EvAll.nil | (apply EvC.gv; exact rfl; (with_reducible first | exact Imp.refl _ | (apply Imp.left; exact Imp.refl _) | (apply Imp.right; exact Imp.refl _) | (apply Imp.left; apply Imp.left; exact Imp.refl _))) | (apply EvC.now; exact rfl))); done) | exact ext_seg _ | (focus (repeat (first | apply List.Mem.head | apply List.Mem.tail | apply List.mem_append_right))))); (simp only [List.set_cons_succ, List.set_cons_zero]; exact rfl); clear hR; intro w hR)
            | go_step)
  exact post_row hR rfl (by rfl) (by (focus (repeat (first | apply List.Mem.head | apply List.Mem.tail | apply List.mem_append_right)))) Try.underlying24 rfl iSeg (by rfl) (by rfl) ⟨by first | (rw [HNK.out]; done) | (rw [HNK.out]; rfl), hR.below⟩
end Go.Proofs.Ytmdiemebfmnmkaa
