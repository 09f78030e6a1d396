/- The law IterReads (a record of blocks is data of all that they spread to) returns true whatever the arguments, and each argument reads afterwards as before. There is no condition on the arguments. -/
import Derived.Test.YtalgadinoaeihaaRows
import Derived.Test.YtalgadinoaeihaaLaw24
import Derived.Test.YtalgadinoaeihaaAppG
import Derived.Test.YtalgadinoaeihaaMarkG
import Derived.Test.YtalgadinoaeihaaIterK
import Derived.WalkKit
import Derived.ProofKit
import Derived.OpenShut
import Derived.ShutString
import Derived.ChangeOld
import Derived.Below
namespace Go.Proofs.Ytalgadinoaeihaa.iterReads
open Go.ChangeShapes Go.WideShapes Go.ChangeAt Go.RowKit
open Go.ChangeMaps (open_string shut_string)
set_option linter.unusedVariables false
set_option linter.unusedSimpArgs false

theorem own : ownKnob Try.prog.godebug = none := by kernel_rfl
theorem laidOut : laidOutB Try.prog = true := by kernel_rfl










theorem bBlk0 : BuiltS Try.prog 23 0 [] 25 #[] := ⟨fun w => by simp [go_sem]⟩
theorem l00 : (⟨#[0, 0]⟩ : ByteArray) = strOfNums [0, 0] := rfl
theorem old_cell {w0 w : World} {l : List RowT} {a : Addr} {u : Value} (hR : Own w0 w l) (h : w0.cell? a = some u) : w.cell? a = some u := (hR.below.cell (World.block_lt_of_cell? w0 _ h)).trans h
theorem litE : (⟨#[]⟩ : ByteArray) = strOfNums [] := rfl
theorem kids_spread {l : List BlkZ} {k : Nat} {z : BlkZ} (h : l[k]? = some z) : spreadL (kids 2 l k) ++ spreadB (nearB 2 z) = spreadL (kids 2 l (k + 1)) := by
  rw [kids_more h, spreadL_append]; simp [spreadL]
theorem kids_in {l : List BlkZ} {k : Nat} {x : BlkZ} (h : x ∈ kids 2 l k) : ∃ y ∈ l, x = nearB 2 y := by
  obtain ⟨y, hy, rfl⟩ := List.mem_map.1 h
  exact ⟨y, List.mem_of_mem_take hy, rfl⟩
theorem kids_sm {l : List BlkZ} {k : Nat} (h : ∀ y ∈ l, okB 2 y) : ∀ x ∈ kids 2 l k, smB 3 x := fun x hx => by
  obtain ⟨y, hy, rfl⟩ := kids_in hx
  exact near_sm 2 y (h y hy)
theorem kids_may {l : List BlkZ} {k : Nat} : ∀ x ∈ kids 2 l k, mayB 8 x = true := fun x hx => by
  obtain ⟨y, hy, rfl⟩ := kids_in hx
  exact may_up (by decide) (near_may 2 y)
theorem kids_sp {l : List BlkZ} {k : Nat} (h : ∀ y ∈ l, okB 2 y) (hk : k ≤ 4) (hkl : k ≤ l.length) : (spreadL (kids 2 l k)).length ≤ 15072 := by
  have h1 := spreadL_len (l := kids 2 l k) (c := 3768) fun z hz => sm_len 3 z (kids_sm h z hz)
  rw [kids_len hkl] at h1
  omega
theorem kids_put {l : List BlkZ} {k : Nat} (h : ∀ y ∈ l, okB 2 y) (hk : k ≤ 4) (hkl : k ≤ l.length) : (putL (kids 2 l k)).length ≤ 572 := by
  have h1 := putL_len (l := kids 2 l k) (c := 143) fun z hz => sm_put 3 z (kids_sm h z hz)
  rw [kids_len hkl] at h1
  omega
def ReadIs (w0 : World) (l : List BlkZ) (x s i : Value) (wr : World) : Prop :=
  ∃ (k : Nat) (sl sK : List RowT) (ds : List BlkV), i = .int .i64 k ∧ k ≤ 4 ∧ k ≤ l.length ∧ s = .string (strOfNums (spreadL (kids 2 l k))) ∧ Own w0 wr (sl ++ sK) ∧ Sl 25 3 sl x k (ds.flatMap cellsK) ∧ ds.length = k ∧ SlsK ds ∧ KidsR sK ds (kids 2 l k)
set_option maxHeartbeats 8000000 in
set_option maxRecDepth 100000 in
theorem walk {w0 : World} (v0 : Value) (hI : BlksIn w0 v0) (seg : Int) (hseg : (Lit.int .i64 seg).wf = true) (offi : Int) (hoff : (Lit.int .u16 offi).wf = true) (wi : World) :
    Calls Try.prog 4 #[v0, .int .i64 seg, .int .u16 offi] w0 fun e w' => e = .returned (.bool true) ∧ Below w0.heap.size w0 w' := by
  clear wi
  obtain ⟨ds0, l, hx, hlen, hd⟩ := hI
  have hRd : Rd w0 3 v0 l.length (ds0.flatMap cellsK) := by rw [← hlen]; exact hx
  have hokl : ∀ y ∈ l, okB 2 y := fun y hy => by
    obtain ⟨i, hi⟩ := List.getElem?_of_mem hy
    have hlt := (List.getElem?_eq_some_iff.1 hi).1
    exact (hd i (ds0[i]'(by omega)) y (List.getElem?_eq_getElem _) hi).okB 2
  have hR := Own.start w0
  go_enter Try.func4, Try.ntmps4
  go_wp2_with (first
    | ((with_reducible apply wpList_buildS hR); exact rfl; exact rfl; (exact bBlk0); clear hR; intro gx w hR; simp only [List.set_cons_succ, List.set_cons_zero]))
  go_loopw [7, 8, 9] (fun x s i wr => ReadIs w0 l x s i wr) (fun _ _ i _ => 4 - (intOf i).toNat)
  case atStart => exact ⟨0, _, [], [], rfl, by decide, Nat.zero_le _, rfl, by rw [List.append_nil]; exact hR, (RwIs.all rfl (by decide)).sl, rfl, (fun d h => nomatch h), fun i d z h => by simp at h⟩
  case round =>
    clear hR
    obtain ⟨k, sl, sK, ds, rfl, hk4, hkl, rfl, hR, hS, hdl, hsl, hkid⟩ := hrel
    go_upto_region 3 with fail
    refine wp_region_tame hR [0, 1, 2, 3, 4, 5, 6, 7] rfl ?_
    repeat (refine wpT_step rfl ?_; first
    | ((with_reducible apply q_pl); (with_reducible apply t_lenRd Try.underlying23); (apply EvC.now; exact rfl); exact hRd; (simp only [List.set_cons_succ, List.set_cons_zero]; exact rfl))
    | ((first | (with_reducible apply q_pl) | ((with_reducible apply q_gd); (first | (apply GdBy.gt; exact rfl; exact rfl) | (apply GdBy.gf; exact rfl; exact rfl) | (apply GdBy.t; exact rfl; exact rfl) | (apply GdBy.f; exact rfl; exact rfl)))); (first | ((with_reducible first | apply t_move | apply t_assign | apply t_and | apply t_or | apply t_cmp | apply t_not | apply t_addr (fRec _ (by decide)) | apply t_addr (fDat _ (by decide)) | apply t_one tByteR | apply t_one tSlR | apply t_one tIntR | apply t_one tWordD | apply t_part tDat) <;> (first | (apply EvC.gv; exact rfl; (with_reducible first | exact Imp.refl _ | (apply Imp.left; exact Imp.refl _) | (apply Imp.right; exact Imp.refl _) | (apply Imp.left; apply Imp.left; exact Imp.refl _))) | (apply EvC.now; exact rfl) | exact rfl | (with_reducible exact EvAll.nil) | (focus (repeat (first | apply EvAll.cons | exact EvAll.nil | (apply EvC.gv; exact rfl; (with_reducible first | exact Imp.refl _ | (apply Imp.left; exact Imp.refl _) | (apply Imp.right; exact Imp.refl _) | (apply Imp.left; apply Imp.left; exact Imp.refl _))) | (apply EvC.now; exact rfl))); done) | exact ext_dat _ _ _ | (focus (repeat (first | apply List.Mem.head | apply List.Mem.tail | apply List.mem_append_right)))))); (simp only [List.set_cons_succ, List.set_cons_zero]; exact rfl))
    | ((with_reducible apply q_gd); (first | (apply GdBy.gt; exact rfl; exact rfl) | (apply GdBy.gf; exact rfl; exact rfl) | (apply GdBy.t; exact rfl; exact rfl) | (apply GdBy.f; exact rfl; exact rfl)); ((with_reducible apply t_num) <;> (first | (apply EvC.gv; exact rfl; (with_reducible first | exact Imp.refl _ | (apply Imp.left; exact Imp.refl _) | (apply Imp.right; exact Imp.refl _) | (apply Imp.left; apply Imp.left; exact Imp.refl _))) | (apply EvC.now; exact rfl) | exact rfl | (with_reducible exact EvAll.nil) | (focus (repeat (first | apply EvAll.cons | exact EvAll.nil | (apply EvC.gv; exact rfl; (with_reducible first | exact Imp.refl _ | (apply Imp.left; exact Imp.refl _) | (apply Imp.right; exact Imp.refl _) | (apply Imp.left; apply Imp.left; exact Imp.refl _))) | (apply EvC.now; exact rfl))); done) | exact ext_dat _ _ _ | (focus (repeat (first | apply List.Mem.head | apply List.Mem.tail | apply List.mem_append_right))))); (simp only [List.set_cons_succ, List.set_cons_zero]; exact rfl))
    | ((with_reducible apply wpT1_gpure); (first | (apply GdBy.gt; exact rfl; exact rfl) | (apply GdBy.gf; exact rfl; exact rfl) | (apply GdBy.t; exact rfl; exact rfl) | (apply GdBy.f; exact rfl; exact rfl)); intro K hK; go_simp; refine hK _ ?_; clear hK K; simp only [List.set_cons_succ, List.set_cons_zero])
    | ((with_reducible apply wpT1_pure); exact rfl; intro K hK; go_simp; refine hK _ ?_; clear hK K; simp only [List.set_cons_succ, List.set_cons_zero]))
    refine wpT_nil ?_
    clear hR; intro w hR
    go_upto_if 29 with fail
    refine wp_cond_at (nm := decide ((k : Int) < (l.length : Int)) && decide ((k : Int) < 4)) rfl rfl (fun h => ?_) (fun h => ?_)
    · simp only [Bool.and_eq_true, decide_eq_true_eq] at h
      have hlt : k < l.length := by omega
      have hlt4 : k < 4 := by omega
      clear h
      obtain ⟨z, hz⟩ : ∃ z, l[k]? = some z := ⟨_, List.getElem?_eq_getElem hlt⟩
      obtain ⟨a, ha⟩ : ∃ a, ds0[k]? = some a := ⟨_, List.getElem?_eq_getElem (by rw [hlen]; exact hlt)⟩
      have hza := hd k a z ha hz
      have hel := hx.el cellsK_len ha
      rw [hlen] at hel
      obtain ⟨ad, cap, rfl, hcell⟩ := hel
      have HM4 := Lib.hid (show ∀ w lw, Own w0 w lw → ∀ jj u, (encK a.t a.v a.x).toList[jj]? = some u → w.cell? ((ad.add ((k : Int).toNat * 3)).add jj) = some u from fun w lw hC => by
        rw [Int.toNat_natCast]
        exact (hx.own hC).cell cellsK_len ha)
      have HKM := Lib.hid (kids_more (n := 2) hz)
      have HN := Lib.hid (r24near_any 2 (by decide) a z)
      go_upto_region 6 with (first
    | ((with_reducible apply q_ls hR); exact rfl; (with_reducible apply t_six Try.underlying23 iBlk); (apply EvC.now; exact rfl); (apply EvC.now; exact rfl); (constructor <;> omega); (simp only [List.set_cons_succ, List.set_cons_zero]; exact rfl); clear hR; intro w hR)
    | ((with_reducible apply q_ls hR); exact rfl; (with_reducible apply t_manyW tBlk); (apply EvC.now; exact rfl); (exact fun w hC => HM4.out w _ hC); exact rfl; (simp only [List.set_cons_succ, List.set_cons_zero]; exact rfl); clear hR; intro w hR)
    | (go_at_call 6; refine (HN.out _ (hza.own hR)).mono ?_; rintro e w' ⟨s3, d3, rfl, hO, hBR⟩; replace hR := hR.join hO; have hI3 := (hBR _ _ _ hO fun _ h => h).isS; clear hO)
    | ((with_reducible apply wpList_buildS hR); exact rfl; exact rfl; (exact bBlk1 d3.t hI3.1 hI3.2); clear hR; intro g9 w hR; simp only [List.set_cons_succ, List.set_cons_zero])
    | ((with_reducible apply wpList_appG hR tBlksB); exact rfl; exact rfl; exact rfl; exact hS; (exact Les.tail (Les.skip s3 Les.head)); (exact rows_blk1 hR (.head _) hI3.1 hI3.2); (simp only [maxLen, List.length_cons, List.length_nil]; omega); (simp only [List.length_cons, List.length_nil]; omega); clear hR hS; intro s2 v2 w hR hS; simp only [List.set_cons_succ, List.set_cons_zero]))
      have hS' : Sl 25 3 s2 v2 (k + 1) ((ds ++ [d3]).flatMap cellsK) := by rw [List.flatMap_append]; exact hS.cast (by simp [cellsK])
      clear hS
      have hsl' : SlsK (ds ++ [d3]) := fun d hd => by
        rcases List.mem_append.1 hd with hd | hd
        · exact hsl d hd
        · rw [List.mem_singleton.1 hd]; exact hI3
      have hdl' : (ds ++ [d3]).length = k + 1 := by simp [hdl]
      have hat : (ds ++ [d3])[k]? = some d3 := by rw [← hdl]; simp
      have hrow : ∀ w, Own w0 w (s2 ++ ((g9, encK d3.t d3.v d3.x, 25) :: (s3 ++ sK))) → RowsAt 3 cellsK w v2 (ds ++ [d3]) := fun w hC => by
        have := hS'.rd hC (fun r h => List.mem_append_left _ h) (cellsK_one hsl')
        unfold RowsAt
        rw [hdl']
        exact this
      obtain ⟨a2, c2, hv2, _⟩ := (hrow _ hR).el cellsK_len hat
      rw [hdl'] at hv2
      have HM5 := Lib.hid (show ∀ w, Own w0 w (s2 ++ ((g9, encK d3.t d3.v d3.x, 25) :: (s3 ++ sK))) → ∀ jj u, (encK d3.t d3.v d3.x).toList[jj]? = some u → w.cell? ((a2.add ((k : Int).toNat * 3)).add jj) = some u from fun w hC => by
        rw [Int.toNat_natCast]
        have h5 := hrow w hC
        rw [hv2] at h5
        exact h5.cell cellsK_len hat)
      have HSP := Lib.hid (fun w (h : BlkAt w d3 (nearB 2 z)) => r24spread_any 3 (nearB 2 z) (by decide) (near_sm 2 z (hza.okB 2)) d3 w h)
      have HKS := Lib.hid (kids_spread hz)
      have HL : (spreadL (kids 2 l k)).length + (spreadB (nearB 2 z)).length ≤ 1000000 := by
        have h1 := kids_sp (k := k) hokl hk4 hkl
        have h2 := sm_len 3 _ (near_sm 2 z (hza.okB 2))
        have h3 : capB 3 = 3768 := rfl
        omega
      have hsx : ∀ r ∈ s3, r ∈ s2 ++ ((g9, encK d3.t d3.v d3.x, 25) :: (s3 ++ sK)) := fun r h => List.mem_append_right _ (.tail _ (List.mem_append_left _ h))
      subst hv2
      clear hrow hat
      go_wp2_with (first
    | ((with_reducible apply q_ls hR); exact rfl; (with_reducible apply t_six Try.underlying23 iBlk); (apply EvC.now; exact rfl); (apply EvC.now; exact rfl); (constructor <;> omega); (simp only [List.set_cons_succ, List.set_cons_zero]; exact rfl); clear hR; intro w hR)
    | ((with_reducible apply q_ls hR); exact rfl; (with_reducible apply t_manyW tBlk); (apply EvC.now; exact rfl); (exact HM5.out); exact rfl; (simp only [List.set_cons_succ, List.set_cons_zero]; exact rfl); clear hR; intro w hR)
    | (go_at_call 7; refine (HSP.out _ (hBR _ _ _ hR hsx)).mono ?_; rintro e w' ⟨rfl, hb⟩; replace hR := hR.grow hb; clear hb)
    | ((with_reducible apply q_ls hR); exact rfl; (with_reducible apply t_catE); (apply EvC.now; exact rfl); (apply EvC.now; exact rfl); exact HL; exact HKS.out; (simp only [List.set_cons_succ, List.set_cons_zero]; exact rfl); clear hR; intro w hR)
    | ((with_reducible apply q_ls hR); exact rfl; ((with_reducible first | apply t_addr (fRec _ (by decide)) | apply t_addr (fDat _ (by decide)) | apply t_one tByteR | apply t_one tSlR | apply t_one tIntR | apply t_one tWordD | apply t_part tDat) <;> (first | (apply EvC.gv; exact rfl; (with_reducible first | exact Imp.refl _ | (apply Imp.left; exact Imp.refl _) | (apply Imp.right; exact Imp.refl _) | (apply Imp.left; apply Imp.left; exact Imp.refl _))) | (apply EvC.now; exact rfl) | exact rfl | (with_reducible exact EvAll.nil) | (focus (repeat (first | apply EvAll.cons | exact EvAll.nil | (apply EvC.gv; exact rfl; (with_reducible first | exact Imp.refl _ | (apply Imp.left; exact Imp.refl _) | (apply Imp.right; exact Imp.refl _) | (apply Imp.left; apply Imp.left; exact Imp.refl _))) | (apply EvC.now; exact rfl))); done) | exact ext_dat _ _ _ | (focus (repeat (first | apply List.Mem.head | apply List.Mem.tail | apply List.mem_append_right))))); (simp only [List.set_cons_succ, List.set_cons_zero]; exact rfl); clear hR; intro w hR))
      go_round
      case rel =>
        refine ⟨k + 1, s2, s3 ++ sK, ds ++ [d3], rfl, by omega, by omega, rfl, hR.drop ((List.Sublist.refl s2).append (.cons _ (List.Sublist.refl _))), hS', hdl', hsl', ?_⟩
        rw [HKM.out]
        exact hkid.more (by rw [kids_len hkl]; exact hdl) hBR
      case measure => simp [intOf]; omega
    · clear h
      have hXk := kids_len (n := 2) hkl
      have hXm := kids_may (l := l) (k := k)
      have hXsm := kids_sm (l := l) (k := k) hokl
      have hXs := kids_sp hokl hk4 hkl
      have hXp := kids_put hokl hk4 hkl
      obtain ⟨X, hX⟩ : ∃ X, kids 2 l k = X := ⟨_, rfl⟩
      rw [hX] at hXk hXm hXsm hXs hXp hkid ⊢
      have hRx : ∀ wb w L, Own wb w L → (∀ r ∈ sl, r ∈ L) → (∀ r ∈ sK, r ∈ L) → BlksAt w _ ds X := fun wb w L hO h1 h2 => ⟨by
        have := hS.rd hO h1 (cellsK_one hsl)
        unfold RowsAt
        rw [hdl]
        exact this, by rw [hdl, hXk], fun i d z h3 h4 => hkid i d z h3 h4 wb w L hO h2⟩
      have hBX := hRx _ _ _ hR (fun r h => List.mem_append_left _ h) (fun r h => List.mem_append_right _ h)
      have hXf : ∀ z ∈ X, fitK 17 z := fun z hz => fit_up (show 8 ≤ 17 by decide) (may_fit (hXm z hz))
      clear hX hkid hsl hS hRx hx hd hRd hlen hokl hkl
      subst hXk
      obtain ⟨s, hs⟩ : ∃ s, seg % 512 + 1 = s := ⟨_, rfl⟩
      have hsb : 1 ≤ s ∧ s ≤ 512 := by omega
      obtain ⟨o0, o1⟩ := bounds_u16 hoff
      obtain ⟨off, rfl⟩ := Int.eq_ofNat_of_zero_le o0
      obtain ⟨o, ho⟩ : ∃ o : Nat, off % 4096 = o := ⟨_, rfl⟩
      have ho4 : o ≤ 4095 := by omega
      have HG1 := Lib.hid (show bits .and .i64 seg 511 = seg % 512 from i64_mask seg 9 511 (by decide) (by decide))
      have HG2 := Lib.hid (show IntKind.i64.wrap (seg % 512 + 1) = s by rw [IntWalk.i64_in _ (by omega)]; exact hs)
      have HO := Lib.hid (show bits .and .u16 (off : Int) 4095 = (o : Int) by rw [← ho]; exact u16_mask off 12 4095 (by decide) (by decide))
      clear hs ho hseg hoff
      have hZ2 := (Since.start w0).own hR
      have hR2 := hR.fresh
      clear hR
      try clear hZ
      have hZ := hZ2
      have hR := hR2
      clear hZ2 hR2
      go_upto_region 8 with (first
    | ((with_reducible apply q_ls hR); exact rfl; (with_reducible apply t_numE); (apply EvC.now; exact rfl); (apply EvC.now; exact rfl); exact rfl; (with_reducible first | exact HG1.out | exact HG2.out | exact HO.out); (simp only [List.set_cons_succ, List.set_cons_zero]; exact rfl); clear hR; intro w hR))
      go_wp2_with (first
    | ((with_reducible apply q_ls hR); exact rfl; ((with_reducible first | apply t_addr (fRec _ (by decide)) | apply t_addr (fDat _ (by decide)) | apply t_one tByteR | apply t_one tSlR | apply t_one tIntR | apply t_one tWordD | apply t_part tDat) <;> (first | (apply EvC.gv; exact rfl; (with_reducible first | exact Imp.refl _ | (apply Imp.left; exact Imp.refl _) | (apply Imp.right; exact Imp.refl _) | (apply Imp.left; apply Imp.left; exact Imp.refl _))) | (apply EvC.now; exact rfl) | exact rfl | (with_reducible exact EvAll.nil) | (focus (repeat (first | apply EvAll.cons | exact EvAll.nil | (apply EvC.gv; exact rfl; (with_reducible first | exact Imp.refl _ | (apply Imp.left; exact Imp.refl _) | (apply Imp.right; exact Imp.refl _) | (apply Imp.left; apply Imp.left; exact Imp.refl _))) | (apply EvC.now; exact rfl))); done) | exact ext_dat _ _ _ | (focus (repeat (first | apply List.Mem.head | apply List.Mem.tail | apply List.mem_append_right))))); (simp only [List.set_cons_succ, List.set_cons_zero]; exact rfl); clear hR; intro w hR))
      refine (itrRecord_any (s := s) (o := o) (by omega) (by omega) (hBX.own hR) hXf (by omega)).mono ?_
      rintro e w1 h1
      obtain ⟨v1, rfl, hb, hV⟩ := h1.now
      have hBX1 := (hBX.own hR).keep hb
      clear hBX h1
      replace hR := hR.grow hb
      have hZ2 := (hZ).own hR
      clear hR hb
      try clear hZ
      have hZ := hZ2
      clear hZ2
      have hR := Own.start w1
      have hbl : (recI s o X).length ≤ 600 := by
        have := (idxN_len s).2
        unfold recI
        simp only [List.length_append, bytesN_len]; omega
      go_upto_region 9 with (first
    | ((with_reducible apply wpList_make hR zRec); exact rfl; clear hR; intro g w hR; simp only [List.set_cons_succ, List.set_cons_zero])
    | ((with_reducible apply wpList_put hR tRec); exact rfl; exact rfl; exact rfl; (focus (repeat (first | apply List.Mem.head | apply List.Mem.tail | apply List.mem_append_right))); exact put_rec _ _ _ _; exact rfl; simp; exact one_rec _ hV; (focus (repeat (first | apply Upd.head | apply Upd.tail))); clear hR; intro w hR))
      go_wp2_with (first
    | ((with_reducible apply q_ls hR); exact rfl; ((with_reducible first | apply t_addr (fRec _ (by decide)) | apply t_addr (fDat _ (by decide)) | apply t_one tByteR | apply t_one tSlR | apply t_one tIntR | apply t_one tWordD | apply t_part tDat) <;> (first | (apply EvC.gv; exact rfl; (with_reducible first | exact Imp.refl _ | (apply Imp.left; exact Imp.refl _) | (apply Imp.right; exact Imp.refl _) | (apply Imp.left; apply Imp.left; exact Imp.refl _))) | (apply EvC.now; exact rfl) | exact rfl | (with_reducible exact EvAll.nil) | (focus (repeat (first | apply EvAll.cons | exact EvAll.nil | (apply EvC.gv; exact rfl; (with_reducible first | exact Imp.refl _ | (apply Imp.left; exact Imp.refl _) | (apply Imp.right; exact Imp.refl _) | (apply Imp.left; apply Imp.left; exact Imp.refl _))) | (apply EvC.now; exact rfl))); done) | exact ext_dat _ _ _ | (focus (repeat (first | apply List.Mem.head | apply List.Mem.tail | apply List.mem_append_right))))); (simp only [List.set_cons_succ, List.set_cons_zero]; exact rfl); clear hR; intro w hR))
      refine (itrGet_any (hV.own hR) (by omega)).mono ?_
      rintro e w2 ⟨v2, rfl, hb, hV2⟩
      have hAt := (hR.at (.head _)).keep hb
      replace hV := (hV.own hR).keep hb
      replace hBX1 := (hBX1.own hR).keep hb
      replace hR := hR.grow hb
      have hZ2 := (hZ).own hR
      clear hR hb
      try clear hZ
      have hZ := hZ2
      clear hZ2
      have hR := Own.start w2
      have hRd : Rd w2 3 u7 X.length (ds.flatMap cellsK) := by rw [← hBX1.2.1]; exact hBX1.1
      have hT := hAt.get
      by_cases hX0 : X = []
      · have HG : (getI (recI s o X)).2 = 3 := by rw [hX0]; exact getI_none (by omega) (by omega)
        rw [HG]
        obtain ⟨q, hq⟩ : ∃ q, (getI (recI s o X)).1 = q := ⟨_, rfl⟩
        rw [hq] at hV2 ⊢
        go_upto_if 64 with (first
    | ((with_reducible apply wpList_make hR zDat); exact rfl; clear hR; intro g w hR; simp only [List.set_cons_succ, List.set_cons_zero])
    | ((with_reducible apply wpList_put hR tDat); exact rfl; exact rfl; exact rfl; (focus (repeat (first | apply List.Mem.head | apply List.Mem.tail | apply List.mem_append_right))); exact put_dat _ rfl _ _ _ _; exact rfl; simp [encD]; exact one_dat _ _ hV2.isSl IsSl.nil; (focus (repeat (first | apply Upd.head | apply Upd.tail))); clear hR; intro w hR)
    | ((with_reducible apply q_ls hR); exact rfl; (with_reducible apply t_lenRd Try.underlying23); (apply EvC.now; exact rfl); exact hRd; (simp only [List.set_cons_succ, List.set_cons_zero]; exact rfl); clear hR; intro w hR))
        refine wp_cond_at (nm := true) rfl (by simp [hX0]) (fun _ => ?_) (fun h => absurd h (by decide))
        go_upto_region 11 with fail
        refine wp_region_tame hR [0, 1, 2, 3, 4, 5] rfl ?_
        repeat (refine wpT_step rfl ?_; first
    | ((with_reducible apply q_kn); exact rfl; (with_reducible apply t_call Try.call9); (first | (apply EvC.gv; exact rfl; (with_reducible first | exact Imp.refl _ | (apply Imp.left; exact Imp.refl _) | (apply Imp.right; exact Imp.refl _) | (apply Imp.left; apply Imp.left; exact Imp.refl _))) | (apply EvC.now; exact rfl) | exact rfl | (with_reducible exact EvAll.nil) | (focus (repeat (first | apply EvAll.cons | exact EvAll.nil | (apply EvC.gv; exact rfl; (with_reducible first | exact Imp.refl _ | (apply Imp.left; exact Imp.refl _) | (apply Imp.right; exact Imp.refl _) | (apply Imp.left; apply Imp.left; exact Imp.refl _))) | (apply EvC.now; exact rfl))); done) | exact ext_dat _ _ _ | (focus (repeat (first | apply List.Mem.head | apply List.Mem.tail | apply List.mem_append_right)))); (intro hcc w hC; exact tame_below (awake24_any _) hC); (simp only [List.set_cons_succ, List.set_cons_zero]; exact rfl))
    | ((with_reducible apply q_kn); exact rfl; (with_reducible apply t_cmp); (apply EvC.now; exact rfl); (apply EvC.now; exact rfl); exact cmp_selfS _; (simp only [List.set_cons_succ, List.set_cons_zero]; exact rfl))
    | ((with_reducible apply q_kn); exact rfl; (first | ((with_reducible first | apply t_move | apply t_assign | apply t_addr (fRec _ (by decide)) | apply t_addr (fDat _ (by decide)) | apply t_one tByteR | apply t_one tSlR | apply t_one tIntR | apply t_one tWordD | apply t_part tDat) <;> (first | (apply EvC.gv; exact rfl; (with_reducible first | exact Imp.refl _ | (apply Imp.left; exact Imp.refl _) | (apply Imp.right; exact Imp.refl _) | (apply Imp.left; apply Imp.left; exact Imp.refl _))) | (apply EvC.now; exact rfl) | exact rfl | (with_reducible exact EvAll.nil) | (focus (repeat (first | apply EvAll.cons | exact EvAll.nil | (apply EvC.gv; exact rfl; (with_reducible first | exact Imp.refl _ | (apply Imp.left; exact Imp.refl _) | (apply Imp.right; exact Imp.refl _) | (apply Imp.left; apply Imp.left; exact Imp.refl _))) | (apply EvC.now; exact rfl))); done) | exact ext_dat _ _ _ | (focus (repeat (first | apply List.Mem.head | apply List.Mem.tail | apply List.mem_append_right))))) | ((with_reducible apply t_pick); (apply EvC.now; exact rfl); (apply EvC.now; exact rfl))); (simp only [List.set_cons_succ, List.set_cons_zero]; exact rfl)))
        refine wpT_nil ?_
        clear hR; intro w hR
        go_wp2_with fail
        go_ret
        exact ⟨rfl, (hZ.own hR).below⟩
      · obtain ⟨z0, X', hXe⟩ := List.exists_cons_of_ne_nil hX0
        have hlen : 4 ≤ X.length ∨ X.length ≤ 4 := .inr hk4
        have hsp : o + (spreadL X).length ≤ 65536 := by omega
        have HG : getI (recI s o X) = ((s, o, spreadL X), 0) := by
          rw [hXe] at hXm hsp ⊢
          exact getI_back (by omega) (by omega) hXm hsp
        have HG2 : (getI (recI s o X).dropLast).2 = 2 := by
          rw [hXe] at hXm hsp ⊢
          exact getI_cut (by omega) (by omega) hXm hsp
        have HG3 : (getI (recI s o X ++ [1])).2 = 2 := getI_more (by omega) (by omega) hXm hsp
        have hz0 : z0 ∈ X := by rw [hXe]; exact .head _
        have hz0l := sm_len 3 z0 (hXsm z0 hz0)
        have hc3 : capB 3 = 3768 := rfl
        have HG4 : (getI (recI 0 0 [z0])).2 = 3 := getI_zero (hXm z0 hz0) (by omega)
        rw [HG] at hV2 ⊢
        dsimp only at hV2 ⊢
        have hlt : 4 ≤ (recI s o X).length := by
          have := putB_len4 z0
          rw [hXe]
          unfold recI
          simp only [List.length_append, bytesN_len, putL]; omega
        obtain ⟨bs, hbs⟩ : ∃ bs, recI s o X = bs := ⟨_, rfl⟩
        rw [hbs] at hV hbl HG2 HG3 hlt
        have hXl0 : X.length ≠ 0 := by rw [hXe]; simp
        have hX00 : X[0]? = some z0 := by rw [hXe]; rfl
        clear hbs HG hsp hlen hXe
        go_upto_if 64 with (first
    | ((with_reducible apply wpList_make hR zDat); exact rfl; clear hR; intro g13 w hR; simp only [List.set_cons_succ, List.set_cons_zero])
    | ((with_reducible apply wpList_put hR tDat); exact rfl; exact rfl; exact rfl; (focus (repeat (first | apply List.Mem.head | apply List.Mem.tail | apply List.mem_append_right))); exact put_dat _ rfl _ _ _ _; exact rfl; simp [encD]; exact one_dat _ _ hV2.isSl IsSl.nil; (focus (repeat (first | apply Upd.head | apply Upd.tail))); clear hR; intro w hR)
    | ((with_reducible apply q_ls hR); exact rfl; (with_reducible apply t_lenRd Try.underlying23); (apply EvC.now; exact rfl); exact hRd; (simp only [List.set_cons_succ, List.set_cons_zero]; exact rfl); clear hR; intro w hR))
        refine wp_cond_at (nm := false) rfl (by simp; omega) (fun h => absurd h (by decide)) (fun _ => ?_)
        go_upto_if 73 with (first
    | ((with_reducible apply q_ls hR); exact rfl; (with_reducible apply t_old tSlR hT); (apply EvC.now; exact rfl); exact rfl; (simp only [List.set_cons_succ, List.set_cons_zero]; exact rfl); clear hR; intro w hR)
    | ((with_reducible apply q_ls hR); exact rfl; (with_reducible apply t_lenW Try.underlying22); (apply EvC.now; exact rfl); exact hV; (simp only [List.set_cons_succ, List.set_cons_zero]; exact rfl); clear hR; intro w hR)
    | ((with_reducible apply q_ls hR); exact rfl; ((with_reducible first | apply t_addr (fRec _ (by decide)) | apply t_addr (fDat _ (by decide)) | apply t_one tByteR | apply t_one tSlR | apply t_one tIntR | apply t_one tWordD | apply t_part tDat) <;> (first | (apply EvC.gv; exact rfl; (with_reducible first | exact Imp.refl _ | (apply Imp.left; exact Imp.refl _) | (apply Imp.right; exact Imp.refl _) | (apply Imp.left; apply Imp.left; exact Imp.refl _))) | (apply EvC.now; exact rfl) | exact rfl | (with_reducible exact EvAll.nil) | (focus (repeat (first | apply EvAll.cons | exact EvAll.nil | (apply EvC.gv; exact rfl; (with_reducible first | exact Imp.refl _ | (apply Imp.left; exact Imp.refl _) | (apply Imp.right; exact Imp.refl _) | (apply Imp.left; apply Imp.left; exact Imp.refl _))) | (apply EvC.now; exact rfl))); done) | exact ext_dat _ _ _ | (focus (repeat (first | apply List.Mem.head | apply List.Mem.tail | apply List.mem_append_right))))); (simp only [List.set_cons_succ, List.set_cons_zero]; exact rfl); clear hR; intro w hR))
        refine wp_cond_at (nm := false) rfl (by simp; intro h; rw [h] at hlt; simp at hlt) (fun h => absurd h (by decide)) (fun _ => ?_)
        have HSUB := Lib.hid (show IntKind.i64.wrap ((bs.length : Int) - 1) = ((bs.length - 1 : Nat) : Int) by rw [IntWalk.i64_in _ (by omega)]; omega)
        have hcut : SrcW w2 (cutV v1 0 (bs.length - 1)) bs.dropLast := by rw [List.dropLast_eq_take]; exact hV.first _ (by omega)
        have hbo := hV.ok
        go_wp2_with (first
    | ((with_reducible apply q_ls hR); exact rfl; (with_reducible apply t_old tSlR hT); (apply EvC.now; exact rfl); exact rfl; (simp only [List.set_cons_succ, List.set_cons_zero]; exact rfl); clear hR; intro w hR)
    | ((with_reducible apply q_ls hR); exact rfl; (with_reducible apply t_lenW Try.underlying22); (apply EvC.now; exact rfl); exact hV; (simp only [List.set_cons_succ, List.set_cons_zero]; exact rfl); clear hR; intro w hR)
    | ((with_reducible apply q_ls hR); exact rfl; (with_reducible apply t_numE); (apply EvC.now; exact rfl); (apply EvC.now; exact rfl); exact rfl; exact HSUB.out; (simp only [List.set_cons_succ, List.set_cons_zero]; exact rfl); clear hR; intro w hR)
    | ((with_reducible apply q_ls hR); exact rfl; (with_reducible apply t_cutH tBytesN hV); (apply EvC.now; exact rfl); (apply EvC.now; exact rfl); exact rfl; (omega); (simp only [List.set_cons_succ, List.set_cons_zero]; exact rfl); clear hR; intro w hR)
    | ((with_reducible apply q_ls hR); exact rfl; ((with_reducible first | apply t_addr (fRec _ (by decide)) | apply t_addr (fDat _ (by decide)) | apply t_one tByteR | apply t_one tSlR | apply t_one tIntR | apply t_one tWordD | apply t_part tDat) <;> (first | (apply EvC.gv; exact rfl; (with_reducible first | exact Imp.refl _ | (apply Imp.left; exact Imp.refl _) | (apply Imp.right; exact Imp.refl _) | (apply Imp.left; apply Imp.left; exact Imp.refl _))) | (apply EvC.now; exact rfl) | exact rfl | (with_reducible exact EvAll.nil) | (focus (repeat (first | apply EvAll.cons | exact EvAll.nil | (apply EvC.gv; exact rfl; (with_reducible first | exact Imp.refl _ | (apply Imp.left; exact Imp.refl _) | (apply Imp.right; exact Imp.refl _) | (apply Imp.left; apply Imp.left; exact Imp.refl _))) | (apply EvC.now; exact rfl))); done) | exact ext_dat _ _ _ | (focus (repeat (first | apply List.Mem.head | apply List.Mem.tail | apply List.mem_append_right))))); (simp only [List.set_cons_succ, List.set_cons_zero]; exact rfl); clear hR; intro w hR))
        refine (itrGet_any (hcut.own hR) (by rw [List.length_dropLast]; omega)).mono ?_
        rw [HG2]
        rintro e w3 ⟨v3, rfl, hb, hV3⟩
        have hI3 := hV3.isSl
        replace hR := hR.grow hb
        clear hb hV3 hcut HG2
        generalize (getI bs.dropLast).1 = q3 at *
        go_upto_region 15 with (first
    | ((with_reducible apply wpList_make hR zDat); exact rfl; clear hR; intro g w hR; simp only [List.set_cons_succ, List.set_cons_zero])
    | ((with_reducible apply wpList_put hR tDat); exact rfl; exact rfl; exact rfl; (focus (repeat (first | apply List.Mem.head | apply List.Mem.tail | apply List.mem_append_right))); exact put_dat _ rfl _ _ _ _; exact rfl; simp [encD]; exact one_dat _ _ hI3 IsSl.nil; (focus (repeat (first | apply Upd.head | apply Upd.tail))); clear hR; intro w hR))
        go_wp2_with (first
    | ((with_reducible apply wpList_buildS hR); exact rfl; exact rfl; (exact bB0); clear hR; intro g9 w hR; simp only [List.set_cons_succ, List.set_cons_zero]; (have hS9 : Sl 5 1 [(g9, #[], 5)] (.slice (some ⟨g9, 0, none⟩) 0 0) 0 [] := (RwIs.all rfl (by decide)).sl))
    | ((with_reducible apply q_ls hR); exact rfl; (with_reducible apply t_old tSlR hT); (apply EvC.now; exact rfl); exact rfl; (simp only [List.set_cons_succ, List.set_cons_zero]; exact rfl); clear hR; intro w hR)
    | ((with_reducible apply wpList_appG hR tBytesB); exact rfl; exact rfl; exact rfl; exact hS9; (exact Les.one); (exact hV.rd.own hR); (simp only [maxLen]; omega); omega; clear hR hS9; intro s9 v9 w hR hS9; simp only [List.set_cons_succ, List.set_cons_zero])
    | ((with_reducible apply wpList_buildS hR); exact rfl; exact rfl; (exact bB1 _); clear hR; intro g10 w hR; simp only [List.set_cons_succ, List.set_cons_zero]; (have hS10 := src_row hR (.head _) rfl (bytesOk.cons (n := 1) (by decide) .nil) (by simp)))
    | ((with_reducible apply wpList_appG hR tBytesB); exact rfl; exact rfl; exact rfl; exact hS9; (exact Les.tail Les.head); (exact hS10.rd); (simp only [maxLen, List.length_cons, List.length_nil]; omega); (simp only [List.length_cons, List.length_nil]; omega); clear hR hS9 hS10; intro s9 v9 w hR hS9; simp only [List.set_cons_succ, List.set_cons_zero]))
        have hN : SrcW w v9 (bs ++ [1]) := (Sl.src (bs := bs ++ [1]) (hS9.cast (by simp [cellsB])) hR (fun r h => List.mem_append_left _ h) (hbo.append (.cons (by decide) .nil)))
        refine (itrGet_any hN (by rw [List.length_append]; simp; omega)).mono ?_
        rw [HG3]
        rintro e w4 ⟨v4, rfl, hb, hV4⟩
        have hI4 := hV4.isSl
        replace hR := hR.grow hb
        clear hb hV4 hN HG3 hS9
        generalize (getI (bs ++ [1])).1 = q4 at *
        go_upto_region 16 with (first
    | ((with_reducible apply wpList_make hR zDat); exact rfl; clear hR; intro g w hR; simp only [List.set_cons_succ, List.set_cons_zero])
    | ((with_reducible apply wpList_put hR tDat); exact rfl; exact rfl; exact rfl; (focus (repeat (first | apply List.Mem.head | apply List.Mem.tail | apply List.mem_append_right))); exact put_dat _ rfl _ _ _ _; exact rfl; simp [encD]; exact one_dat _ _ hI4 IsSl.nil; (focus (repeat (first | apply Upd.head | apply Upd.tail))); clear hR; intro w hR))
        obtain ⟨L, hm13, hRL⟩ : ∃ L, (g13, encD s o v2 nilV, 41) ∈ L ∧ Own w2 _ L := ⟨_, by (focus (repeat (first | apply List.Mem.head | apply List.Mem.tail | apply List.mem_append_right))), hR⟩
        clear hR
        have hR := hRL
        clear hRL
        obtain ⟨d0, hd0⟩ : ∃ d, ds[0]? = some d := ⟨_, List.getElem?_eq_getElem (by omega)⟩
        have hB0 := hBX1.2.2 0 d0 z0 hd0 hX00
        obtain ⟨ad, cap, hvx, hcell⟩ := hBX1.1.el cellsK_len hd0
        have HVX := Lib.hid hvx
        have HC0 := Lib.hid (show ∀ jj u, (encK d0.t d0.v d0.x).toList[jj]? = some u → w2.cell? ((ad.add ((0 : Int).toNat * 3)).add jj) = some u from hcell)
        have HPUT := Lib.hid (fun w (h : BlkAt w d0 z0) => r24put_any 3 z0 (by decide) (hXsm z0 hz0) d0 w h)
        have HD := Lib.hid (show (idxN 0 ++ [0, 0]) ++ putB z0 = recI 0 0 [z0] by unfold recI; simp [putL, bytesN])
        have hpo : bytesOk (recI 0 0 [z0]) := by rw [← HD.out]; exact ((idxN_ok 0).append (.cons (by decide) (.cons (by decide) .nil))).append (sm_put_ok 3 z0 (hXsm z0 hz0))
        have hpl := sm_put 3 z0 (hXsm z0 hz0)
        have hcp3 : capP 3 = 143 := rfl
        have hrl : (recI 0 0 [z0]).length ≤ 200 := by
          rw [← HD.out]
          have := (idxN_len 0).2
          simp only [List.length_append, List.length_cons, List.length_nil]; omega
        have hil := (idxN_len 0).2
        have HDL : (idxN 0 ++ [0, 0]).length + (putB z0).length ≤ 1000000 := by simp only [List.length_append, List.length_cons, List.length_nil]; omega
        obtain ⟨R, hRe⟩ : ∃ R, recI 0 0 [z0] = R := ⟨_, rfl⟩
        rw [hRe] at HG4 hpo hrl HD
        have HRE := Lib.hid hRe
        clear hRe hcell hd0 hX00 hvx
        refine wp_region_some hR L (List.Sublist.refl _) [0, 1, 2, 3, 4, 5, 6] 8 (by kernel_rfl) (by kernel_rfl) (by kernel_rfl) rfl ?_
        clear hR; intro hR
        repeat (refine wpT_step rfl ?_; first
    | ((with_reducible apply q_kn); exact rfl; (with_reducible apply t_call Try.call16); (first | (apply EvC.gv; exact rfl; (with_reducible first | exact Imp.refl _ | (apply Imp.left; exact Imp.refl _) | (apply Imp.right; exact Imp.refl _) | (apply Imp.left; apply Imp.left; exact Imp.refl _))) | (apply EvC.now; exact rfl) | exact rfl | (with_reducible exact EvAll.nil) | (focus (repeat (first | apply EvAll.cons | exact EvAll.nil | (apply EvC.gv; exact rfl; (with_reducible first | exact Imp.refl _ | (apply Imp.left; exact Imp.refl _) | (apply Imp.right; exact Imp.refl _) | (apply Imp.left; apply Imp.left; exact Imp.refl _))) | (apply EvC.now; exact rfl))); done) | exact ext_dat _ _ _ | (focus (repeat (first | apply List.Mem.head | apply List.Mem.tail | apply List.mem_append_right)))); (intro hcc w hC; exact tame_below (r18index_any 0 _ (by decide) (by decide)) hC); (simp only [List.set_cons_succ, List.set_cons_zero]; exact rfl))
    | ((with_reducible apply q_kn); exact rfl; (with_reducible apply t_call Try.call13); (first | (apply EvC.gv; exact rfl; (with_reducible first | exact Imp.refl _ | (apply Imp.left; exact Imp.refl _) | (apply Imp.right; exact Imp.refl _) | (apply Imp.left; apply Imp.left; exact Imp.refl _))) | (apply EvC.now; exact rfl) | exact rfl | (with_reducible exact EvAll.nil) | (focus (repeat (first | apply EvAll.cons | exact EvAll.nil | (apply EvC.gv; exact rfl; (with_reducible first | exact Imp.refl _ | (apply Imp.left; exact Imp.refl _) | (apply Imp.right; exact Imp.refl _) | (apply Imp.left; apply Imp.left; exact Imp.refl _))) | (apply EvC.now; exact rfl))); done) | exact ext_dat _ _ _ | (focus (repeat (first | apply List.Mem.head | apply List.Mem.tail | apply List.mem_append_right)))); (intro hcc w hC; exact tame_below (HPUT.out _ (hB0.own hC)) hC); (simp only [List.set_cons_succ, List.set_cons_zero]; exact rfl))
    | ((with_reducible apply q_kn); exact rfl; (with_reducible apply t_catE (b := [0, 0])); (apply EvC.now; exact rfl); (exact lit_now l00); (simp only [List.length_cons, List.length_nil]; omega); exact rfl; (simp only [List.set_cons_succ, List.set_cons_zero]; exact rfl))
    | ((with_reducible apply q_kn); exact rfl; (with_reducible apply t_catE); (apply EvC.now; exact rfl); (apply EvC.now; exact rfl); exact HDL; exact HD.out; (simp only [List.set_cons_succ, List.set_cons_zero]; exact rfl))
    | ((with_reducible apply q_kn); exact rfl; (with_reducible apply t_six Try.underlying23 iBlk); (apply EvC.now; exact congrArg some HVX.out); (apply EvC.now; exact rfl); (constructor <;> omega); (simp only [List.set_cons_succ, List.set_cons_zero]; exact rfl))
    | ((with_reducible apply q_kn); exact rfl; (with_reducible apply t_manyW tBlk); (apply EvC.now; exact rfl); (exact fun w hC jj u hu => (old_cell hC (HC0.out jj u hu))); exact rfl; (simp only [List.set_cons_succ, List.set_cons_zero]; exact rfl))
    | ((with_reducible apply q_kn); exact rfl; (first | ((with_reducible first | apply t_move | apply t_assign | apply t_addr (fRec _ (by decide)) | apply t_addr (fDat _ (by decide)) | apply t_one tByteR | apply t_one tSlR | apply t_one tIntR | apply t_one tWordD | apply t_part tDat) <;> (first | (apply EvC.gv; exact rfl; (with_reducible first | exact Imp.refl _ | (apply Imp.left; exact Imp.refl _) | (apply Imp.right; exact Imp.refl _) | (apply Imp.left; apply Imp.left; exact Imp.refl _))) | (apply EvC.now; exact rfl) | exact rfl | (with_reducible exact EvAll.nil) | (focus (repeat (first | apply EvAll.cons | exact EvAll.nil | (apply EvC.gv; exact rfl; (with_reducible first | exact Imp.refl _ | (apply Imp.left; exact Imp.refl _) | (apply Imp.right; exact Imp.refl _) | (apply Imp.left; apply Imp.left; exact Imp.refl _))) | (apply EvC.now; exact rfl))); done) | exact ext_dat _ _ _ | (focus (repeat (first | apply List.Mem.head | apply List.Mem.tail | apply List.mem_append_right))))) | ((with_reducible apply t_pick); (apply EvC.now; exact rfl); (apply EvC.now; exact rfl))); (simp only [List.set_cons_succ, List.set_cons_zero]; exact rfl)))
        refine wpT_nil ?_
        refine wpG_twoB hR (i := 7) (j := 12) (by kernel_rfl) ?_ ?_
        · clear hR; intro w hR hb
          refine opBytesN hR Try.underlying9 Try.underlying22 Try.underlying5 hpo rfl rfl rfl ?_
          clear hR; intro vm wm hR hM
          refine ⟨hR.drop (List.Sublist.refl _), ?_⟩
          simp only [List.set_cons_succ, List.set_cons_zero]
          refine wpG_twoB hR (i := 8) (j := 12) (by kernel_rfl) ?_ ?_
          · clear hb hR; intro w hR hb
            refine opCallO hR Try.call15 rfl rfl rfl ?_
            refine (itrGet_any (hM.keep hb) (by omega)).mono ?_
            rw [HG4]
            rintro en w6 ⟨v6, rfl, hb6, hV6⟩
            have hI6 := hV6.isSl
            replace hR := hR.grow hb6
            refine ⟨_, rfl, hR.drop (List.Sublist.refl _), ?_⟩
            simp only [List.set_cons_succ, List.set_cons_zero]
            refine wpG_of_wpT (by kernel_rfl) (fun _ _ _ h => h) 3 _ [9, 10, 11] _ _ (by kernel_rfl) ?_
            repeat (refine wpT_step rfl ?_; first
                | ((with_reducible apply q_kn); exact rfl; (first | ((with_reducible first | apply t_move | apply t_assign | apply t_addr (fRec _ (by decide)) | apply t_addr (fDat _ (by decide)) | apply t_one tByteR | apply t_one tSlR | apply t_one tIntR | apply t_one tWordD | apply t_part tDat) <;> (first | (apply EvC.gv; exact rfl; (with_reducible first | exact Imp.refl _ | (apply Imp.left; exact Imp.refl _) | (apply Imp.right; exact Imp.refl _) | (apply Imp.left; apply Imp.left; exact Imp.refl _))) | (apply EvC.now; exact rfl) | exact rfl | (with_reducible exact EvAll.nil) | (focus (repeat (first | apply EvAll.cons | exact EvAll.nil | (apply EvC.gv; exact rfl; (with_reducible first | exact Imp.refl _ | (apply Imp.left; exact Imp.refl _) | (apply Imp.right; exact Imp.refl _) | (apply Imp.left; apply Imp.left; exact Imp.refl _))) | (apply EvC.now; exact rfl))); done) | exact ext_dat _ _ _ | (focus (repeat (first | apply List.Mem.head | apply List.Mem.tail | apply List.mem_append_right))))) | ((with_reducible apply t_pick); (apply EvC.now; exact rfl); (apply EvC.now; exact rfl))); (simp only [List.set_cons_succ, List.set_cons_zero]; exact rfl))
                | ((with_reducible apply q_gd); (first | (apply GdBy.gt; exact rfl; exact rfl) | (apply GdBy.gf; exact rfl; exact rfl) | (apply GdBy.t; exact rfl; exact rfl) | (apply GdBy.f; exact rfl; exact rfl)); ((with_reducible apply t_num) <;> (first | (apply EvC.gv; exact rfl; (with_reducible first | exact Imp.refl _ | (apply Imp.left; exact Imp.refl _) | (apply Imp.right; exact Imp.refl _) | (apply Imp.left; apply Imp.left; exact Imp.refl _))) | (apply EvC.now; exact rfl) | exact rfl | (with_reducible exact EvAll.nil) | (focus (repeat (first | apply EvAll.cons | exact EvAll.nil | (apply EvC.gv; exact rfl; (with_reducible first | exact Imp.refl _ | (apply Imp.left; exact Imp.refl _) | (apply Imp.right; exact Imp.refl _) | (apply Imp.left; apply Imp.left; exact Imp.refl _))) | (apply EvC.now; exact rfl))); done) | exact ext_dat _ _ _ | (focus (repeat (first | apply List.Mem.head | apply List.Mem.tail | apply List.mem_append_right))))); (simp only [List.set_cons_succ, List.set_cons_zero]; exact rfl))
                | ((with_reducible apply wpT1_gpure); (first | (apply GdBy.gt; exact rfl; exact rfl) | (apply GdBy.gf; exact rfl; exact rfl) | (apply GdBy.t; exact rfl; exact rfl) | (apply GdBy.f; exact rfl; exact rfl)); intro K hK; go_simp; refine hK _ ?_; clear hK K; simp only [List.set_cons_succ, List.set_cons_zero])
                | ((with_reducible apply wpT1_pure); exact rfl; intro K hK; go_simp; refine hK _ ?_; clear hK K; simp only [List.set_cons_succ, List.set_cons_zero]))
            refine wpT_nil ?_
            refine wpG_oneB hR (i := 12) (by kernel_rfl) ?_
            clear hR; intro w hR hb2
            refine opMakeB hR zDat rfl ?_
            clear hR; intro g19 wa hR hba
            refine ⟨hR.drop (List.Sublist.cons _ (List.Sublist.refl _)), ?_⟩
            simp only [List.set_cons_succ, List.set_cons_zero]
            refine wpG_put hR tDat (i := 13) (by kernel_rfl) rfl rfl rfl (.head _) (put_dat _ rfl _ _ _ _) rfl (by simp [encD]) (one_dat _ _ hI6 IsSl.nil) Upd.head (List.Sublist.cons _ (List.Sublist.refl _)) ?_
            clear hR; intro w hR
            refine wpG_slot hR (i := 14) (by kernel_rfl) rfl rfl (by (simp only [List.set_cons_succ, List.set_cons_zero]; exact rfl)) ?_
            clear hR; intro w hR
            refine wpG_end hR (by kernel_rfl) ?_
            clear hR; intro w hR
            replace hR := hR.tail
            go_upto_region 17 with fail
            refine wp_region_tame hR [0, 1, 2, 3, 4, 5, 6, 7, 8, 9, 10, 11, 12, 13, 14, 15, 16, 17, 18, 19, 20, 21, 22, 23, 24, 25, 26, 27, 28, 29, 30, 31, 32, 33, 34, 35, 36, 37, 38, 39, 40, 41] rfl ?_
            repeat (refine wpT_step rfl ?_; first
                | ((with_reducible apply q_kn); exact rfl; (with_reducible apply t_call Try.call9); (first | (apply EvC.gv; exact rfl; (with_reducible first | exact Imp.refl _ | (apply Imp.left; exact Imp.refl _) | (apply Imp.right; exact Imp.refl _) | (apply Imp.left; apply Imp.left; exact Imp.refl _))) | (apply EvC.now; exact rfl) | exact rfl | (with_reducible exact EvAll.nil) | (focus (repeat (first | apply EvAll.cons | exact EvAll.nil | (apply EvC.gv; exact rfl; (with_reducible first | exact Imp.refl _ | (apply Imp.left; exact Imp.refl _) | (apply Imp.right; exact Imp.refl _) | (apply Imp.left; apply Imp.left; exact Imp.refl _))) | (apply EvC.now; exact rfl))); done) | exact ext_dat _ _ _ | (focus (repeat (first | apply List.Mem.head | apply List.Mem.tail | apply List.mem_append_right)))); (intro hcc w hC; exact tame_below (awake24_any _) hC); (simp only [List.set_cons_succ, List.set_cons_zero]; exact rfl))
                | ((with_reducible apply q_kn); exact rfl; (with_reducible apply t_old tByteR hT); (apply EvC.now; exact rfl); exact rfl; (simp only [List.set_cons_succ, List.set_cons_zero]; exact rfl))
                | ((with_reducible apply q_kn); exact rfl; (with_reducible apply t_strW tTextN); (apply EvC.now; exact rfl); (exact fun w hC => hV2.own hC); (simp only [List.set_cons_succ, List.set_cons_zero]; exact rfl))
                | ((with_reducible apply q_kn); exact rfl; (with_reducible apply t_strsame); (apply EvC.now; exact rfl); (apply EvC.now; exact rfl); (simp only [List.set_cons_succ, List.set_cons_zero]; exact rfl))
                | ((with_reducible apply q_kn); exact rfl; (with_reducible apply t_cmp); (apply EvC.now; exact rfl); (apply EvC.now; exact rfl); exact cmp_selfS _; (simp only [List.set_cons_succ, List.set_cons_zero]; exact rfl))
                | ((with_reducible apply q_kn); exact rfl; ((with_reducible first | apply t_addr (fRec _ (by decide)) | apply t_addr (fDat _ (by decide)) | apply t_one tByteR | apply t_one tSlR | apply t_one tIntR | apply t_one tWordD | apply t_part tDat) <;> (first | (apply EvC.now; exact rfl) | exact rfl | exact ext_dat _ _ _ | exact hm13)); (simp only [List.set_cons_succ, List.set_cons_zero]; exact rfl))
                | ((with_reducible apply q_kn); exact rfl; (first | ((with_reducible first | apply t_move | apply t_assign | apply t_addr (fRec _ (by decide)) | apply t_addr (fDat _ (by decide)) | apply t_one tByteR | apply t_one tSlR | apply t_one tIntR | apply t_one tWordD | apply t_part tDat) <;> (first | (apply EvC.gv; exact rfl; (with_reducible first | exact Imp.refl _ | (apply Imp.left; exact Imp.refl _) | (apply Imp.right; exact Imp.refl _) | (apply Imp.left; apply Imp.left; exact Imp.refl _))) | (apply EvC.now; exact rfl) | exact rfl | (with_reducible exact EvAll.nil) | (focus (repeat (first | apply EvAll.cons | exact EvAll.nil | (apply EvC.gv; exact rfl; (with_reducible first | exact Imp.refl _ | (apply Imp.left; exact Imp.refl _) | (apply Imp.right; exact Imp.refl _) | (apply Imp.left; apply Imp.left; exact Imp.refl _))) | (apply EvC.now; exact rfl))); done) | exact ext_dat _ _ _ | (focus (repeat (first | apply List.Mem.head | apply List.Mem.tail | apply List.mem_append_right))))) | ((with_reducible apply t_pick); (apply EvC.now; exact rfl); (apply EvC.now; exact rfl))); (simp only [List.set_cons_succ, List.set_cons_zero]; exact rfl)))
            refine wpT_nil ?_
            clear hR; intro w hR
            go_wp2_with fail
            go_ret
            exact ⟨rfl, (hZ.own hR).below⟩
          · clear hb hR; intro w hR hb
            replace hM := hM.keep hb
            clear hb
            refine opMakeB hR zDat rfl ?_
            clear hR; intro g19 wa hR hba
            refine ⟨hR.drop (List.Sublist.cons _ (List.Sublist.refl _)), ?_⟩
            simp only [List.set_cons_succ, List.set_cons_zero]
            replace hM := hM.keep hba
            refine wpG_oneB hR (i := 8) (by kernel_rfl) ?_
            clear hR; intro w hR hb
            refine opCallO hR Try.call15 rfl rfl rfl ?_
            refine (itrGet_any (hM.keep hb) (by omega)).mono ?_
            rw [HG4]
            rintro en w6 ⟨v6, rfl, hb6, hV6⟩
            have hI6 := hV6.isSl
            replace hR := hR.grow hb6
            refine ⟨_, rfl, hR.drop (List.Sublist.cons _ (List.Sublist.refl _)), ?_⟩
            simp only [List.set_cons_succ, List.set_cons_zero]
            refine wpG_of_wpT (by kernel_rfl) (fun _ _ _ h => h) 2 _ [9, 10, 11] _ _ (by kernel_rfl) ?_
            repeat (refine wpT_step rfl ?_; first
                | ((with_reducible apply q_kn); exact rfl; (first | ((with_reducible first | apply t_move | apply t_assign | apply t_addr (fRec _ (by decide)) | apply t_addr (fDat _ (by decide)) | apply t_one tByteR | apply t_one tSlR | apply t_one tIntR | apply t_one tWordD | apply t_part tDat) <;> (first | (apply EvC.gv; exact rfl; (with_reducible first | exact Imp.refl _ | (apply Imp.left; exact Imp.refl _) | (apply Imp.right; exact Imp.refl _) | (apply Imp.left; apply Imp.left; exact Imp.refl _))) | (apply EvC.now; exact rfl) | exact rfl | (with_reducible exact EvAll.nil) | (focus (repeat (first | apply EvAll.cons | exact EvAll.nil | (apply EvC.gv; exact rfl; (with_reducible first | exact Imp.refl _ | (apply Imp.left; exact Imp.refl _) | (apply Imp.right; exact Imp.refl _) | (apply Imp.left; apply Imp.left; exact Imp.refl _))) | (apply EvC.now; exact rfl))); done) | exact ext_dat _ _ _ | (focus (repeat (first | apply List.Mem.head | apply List.Mem.tail | apply List.mem_append_right))))) | ((with_reducible apply t_pick); (apply EvC.now; exact rfl); (apply EvC.now; exact rfl))); (simp only [List.set_cons_succ, List.set_cons_zero]; exact rfl))
                | ((with_reducible apply q_gd); (first | (apply GdBy.gt; exact rfl; exact rfl) | (apply GdBy.gf; exact rfl; exact rfl) | (apply GdBy.t; exact rfl; exact rfl) | (apply GdBy.f; exact rfl; exact rfl)); ((with_reducible apply t_num) <;> (first | (apply EvC.gv; exact rfl; (with_reducible first | exact Imp.refl _ | (apply Imp.left; exact Imp.refl _) | (apply Imp.right; exact Imp.refl _) | (apply Imp.left; apply Imp.left; exact Imp.refl _))) | (apply EvC.now; exact rfl) | exact rfl | (with_reducible exact EvAll.nil) | (focus (repeat (first | apply EvAll.cons | exact EvAll.nil | (apply EvC.gv; exact rfl; (with_reducible first | exact Imp.refl _ | (apply Imp.left; exact Imp.refl _) | (apply Imp.right; exact Imp.refl _) | (apply Imp.left; apply Imp.left; exact Imp.refl _))) | (apply EvC.now; exact rfl))); done) | exact ext_dat _ _ _ | (focus (repeat (first | apply List.Mem.head | apply List.Mem.tail | apply List.mem_append_right))))); (simp only [List.set_cons_succ, List.set_cons_zero]; exact rfl))
                | ((with_reducible apply wpT1_gpure); (first | (apply GdBy.gt; exact rfl; exact rfl) | (apply GdBy.gf; exact rfl; exact rfl) | (apply GdBy.t; exact rfl; exact rfl) | (apply GdBy.f; exact rfl; exact rfl)); intro K hK; go_simp; refine hK _ ?_; clear hK K; simp only [List.set_cons_succ, List.set_cons_zero])
                | ((with_reducible apply wpT1_pure); exact rfl; intro K hK; go_simp; refine hK _ ?_; clear hK K; simp only [List.set_cons_succ, List.set_cons_zero]))
            refine wpT_nil ?_
            refine wpG_put hR tDat (i := 13) (by kernel_rfl) rfl rfl rfl (.head _) (put_dat _ rfl _ _ _ _) rfl (by simp [encD]) (one_dat _ _ hI6 IsSl.nil) Upd.head (List.Sublist.cons _ (List.Sublist.refl _)) ?_
            clear hR; intro w hR
            refine wpG_slot hR (i := 14) (by kernel_rfl) rfl rfl (by (simp only [List.set_cons_succ, List.set_cons_zero]; exact rfl)) ?_
            clear hR; intro w hR
            refine wpG_end hR (by kernel_rfl) ?_
            clear hR; intro w hR
            replace hR := hR.tail
            go_upto_region 17 with fail
            refine wp_region_tame hR [0, 1, 2, 3, 4, 5, 6, 7, 8, 9, 10, 11, 12, 13, 14, 15, 16, 17, 18, 19, 20, 21, 22, 23, 24, 25, 26, 27, 28, 29, 30, 31, 32, 33, 34, 35, 36, 37, 38, 39, 40, 41] rfl ?_
            repeat (refine wpT_step rfl ?_; first
                | ((with_reducible apply q_kn); exact rfl; (with_reducible apply t_call Try.call9); (first | (apply EvC.gv; exact rfl; (with_reducible first | exact Imp.refl _ | (apply Imp.left; exact Imp.refl _) | (apply Imp.right; exact Imp.refl _) | (apply Imp.left; apply Imp.left; exact Imp.refl _))) | (apply EvC.now; exact rfl) | exact rfl | (with_reducible exact EvAll.nil) | (focus (repeat (first | apply EvAll.cons | exact EvAll.nil | (apply EvC.gv; exact rfl; (with_reducible first | exact Imp.refl _ | (apply Imp.left; exact Imp.refl _) | (apply Imp.right; exact Imp.refl _) | (apply Imp.left; apply Imp.left; exact Imp.refl _))) | (apply EvC.now; exact rfl))); done) | exact ext_dat _ _ _ | (focus (repeat (first | apply List.Mem.head | apply List.Mem.tail | apply List.mem_append_right)))); (intro hcc w hC; exact tame_below (awake24_any _) hC); (simp only [List.set_cons_succ, List.set_cons_zero]; exact rfl))
                | ((with_reducible apply q_kn); exact rfl; (with_reducible apply t_old tByteR hT); (apply EvC.now; exact rfl); exact rfl; (simp only [List.set_cons_succ, List.set_cons_zero]; exact rfl))
                | ((with_reducible apply q_kn); exact rfl; (with_reducible apply t_strW tTextN); (apply EvC.now; exact rfl); (exact fun w hC => hV2.own hC); (simp only [List.set_cons_succ, List.set_cons_zero]; exact rfl))
                | ((with_reducible apply q_kn); exact rfl; (with_reducible apply t_strsame); (apply EvC.now; exact rfl); (apply EvC.now; exact rfl); (simp only [List.set_cons_succ, List.set_cons_zero]; exact rfl))
                | ((with_reducible apply q_kn); exact rfl; (with_reducible apply t_cmp); (apply EvC.now; exact rfl); (apply EvC.now; exact rfl); exact cmp_selfS _; (simp only [List.set_cons_succ, List.set_cons_zero]; exact rfl))
                | ((with_reducible apply q_kn); exact rfl; ((with_reducible first | apply t_addr (fRec _ (by decide)) | apply t_addr (fDat _ (by decide)) | apply t_one tByteR | apply t_one tSlR | apply t_one tIntR | apply t_one tWordD | apply t_part tDat) <;> (first | (apply EvC.now; exact rfl) | exact rfl | exact ext_dat _ _ _ | exact hm13)); (simp only [List.set_cons_succ, List.set_cons_zero]; exact rfl))
                | ((with_reducible apply q_kn); exact rfl; (first | ((with_reducible first | apply t_move | apply t_assign | apply t_addr (fRec _ (by decide)) | apply t_addr (fDat _ (by decide)) | apply t_one tByteR | apply t_one tSlR | apply t_one tIntR | apply t_one tWordD | apply t_part tDat) <;> (first | (apply EvC.gv; exact rfl; (with_reducible first | exact Imp.refl _ | (apply Imp.left; exact Imp.refl _) | (apply Imp.right; exact Imp.refl _) | (apply Imp.left; apply Imp.left; exact Imp.refl _))) | (apply EvC.now; exact rfl) | exact rfl | (with_reducible exact EvAll.nil) | (focus (repeat (first | apply EvAll.cons | exact EvAll.nil | (apply EvC.gv; exact rfl; (with_reducible first | exact Imp.refl _ | (apply Imp.left; exact Imp.refl _) | (apply Imp.right; exact Imp.refl _) | (apply Imp.left; apply Imp.left; exact Imp.refl _))) | (apply EvC.now; exact rfl))); done) | exact ext_dat _ _ _ | (focus (repeat (first | apply List.Mem.head | apply List.Mem.tail | apply List.mem_append_right))))) | ((with_reducible apply t_pick); (apply EvC.now; exact rfl); (apply EvC.now; exact rfl))); (simp only [List.set_cons_succ, List.set_cons_zero]; exact rfl)))
            refine wpT_nil ?_
            clear hR; intro w hR
            go_wp2_with fail
            go_ret
            exact ⟨rfl, (hZ.own hR).below⟩
        · clear hR; intro w hR hb
          clear hb
          refine opMakeB hR zDat rfl ?_
          clear hR; intro g19 wa hR hba
          refine ⟨hR.drop (List.Sublist.cons _ (List.Sublist.refl _)), ?_⟩
          simp only [List.set_cons_succ, List.set_cons_zero]
          refine wpG_oneB hR (i := 7) (by kernel_rfl) ?_
          clear hR; intro w hR hb
          refine opBytesN hR Try.underlying9 Try.underlying22 Try.underlying5 hpo rfl rfl rfl ?_
          clear hR; intro vm wm hR hM
          refine ⟨hR.drop (List.Sublist.cons _ (List.Sublist.refl _)), ?_⟩
          simp only [List.set_cons_succ, List.set_cons_zero]
          refine wpG_oneB hR (i := 8) (by kernel_rfl) ?_
          clear hb hR; intro w hR hb
          refine opCallO hR Try.call15 rfl rfl rfl ?_
          refine (itrGet_any (hM.keep hb) (by omega)).mono ?_
          rw [HG4]
          rintro en w6 ⟨v6, rfl, hb6, hV6⟩
          have hI6 := hV6.isSl
          replace hR := hR.grow hb6
          refine ⟨_, rfl, hR.drop (List.Sublist.cons _ (List.Sublist.refl _)), ?_⟩
          simp only [List.set_cons_succ, List.set_cons_zero]
          refine wpG_of_wpT (by kernel_rfl) (fun _ _ _ h => h) 2 _ [9, 10, 11] _ _ (by kernel_rfl) ?_
          repeat (refine wpT_step rfl ?_; first
              | ((with_reducible apply q_kn); exact rfl; (first | ((with_reducible first | apply t_move | apply t_assign | apply t_addr (fRec _ (by decide)) | apply t_addr (fDat _ (by decide)) | apply t_one tByteR | apply t_one tSlR | apply t_one tIntR | apply t_one tWordD | apply t_part tDat) <;> (first | (apply EvC.gv; exact rfl; (with_reducible first | exact Imp.refl _ | (apply Imp.left; exact Imp.refl _) | (apply Imp.right; exact Imp.refl _) | (apply Imp.left; apply Imp.left; exact Imp.refl _))) | (apply EvC.now; exact rfl) | exact rfl | (with_reducible exact EvAll.nil) | (focus (repeat (first | apply EvAll.cons | exact EvAll.nil | (apply EvC.gv; exact rfl; (with_reducible first | exact Imp.refl _ | (apply Imp.left; exact Imp.refl _) | (apply Imp.right; exact Imp.refl _) | (apply Imp.left; apply Imp.left; exact Imp.refl _))) | (apply EvC.now; exact rfl))); done) | exact ext_dat _ _ _ | (focus (repeat (first | apply List.Mem.head | apply List.Mem.tail | apply List.mem_append_right))))) | ((with_reducible apply t_pick); (apply EvC.now; exact rfl); (apply EvC.now; exact rfl))); (simp only [List.set_cons_succ, List.set_cons_zero]; exact rfl))
              | ((with_reducible apply q_gd); (first | (apply GdBy.gt; exact rfl; exact rfl) | (apply GdBy.gf; exact rfl; exact rfl) | (apply GdBy.t; exact rfl; exact rfl) | (apply GdBy.f; exact rfl; exact rfl)); ((with_reducible apply t_num) <;> (first | (apply EvC.gv; exact rfl; (with_reducible first | exact Imp.refl _ | (apply Imp.left; exact Imp.refl _) | (apply Imp.right; exact Imp.refl _) | (apply Imp.left; apply Imp.left; exact Imp.refl _))) | (apply EvC.now; exact rfl) | exact rfl | (with_reducible exact EvAll.nil) | (focus (repeat (first | apply EvAll.cons | exact EvAll.nil | (apply EvC.gv; exact rfl; (with_reducible first | exact Imp.refl _ | (apply Imp.left; exact Imp.refl _) | (apply Imp.right; exact Imp.refl _) | (apply Imp.left; apply Imp.left; exact Imp.refl _))) | (apply EvC.now; exact rfl))); done) | exact ext_dat _ _ _ | (focus (repeat (first | apply List.Mem.head | apply List.Mem.tail | apply List.mem_append_right))))); (simp only [List.set_cons_succ, List.set_cons_zero]; exact rfl))
              | ((with_reducible apply wpT1_gpure); (first | (apply GdBy.gt; exact rfl; exact rfl) | (apply GdBy.gf; exact rfl; exact rfl) | (apply GdBy.t; exact rfl; exact rfl) | (apply GdBy.f; exact rfl; exact rfl)); intro K hK; go_simp; refine hK _ ?_; clear hK K; simp only [List.set_cons_succ, List.set_cons_zero])
              | ((with_reducible apply wpT1_pure); exact rfl; intro K hK; go_simp; refine hK _ ?_; clear hK K; simp only [List.set_cons_succ, List.set_cons_zero]))
          refine wpT_nil ?_
          refine wpG_put hR tDat (i := 13) (by kernel_rfl) rfl rfl rfl (.head _) (put_dat _ rfl _ _ _ _) rfl (by simp [encD]) (one_dat _ _ hI6 IsSl.nil) Upd.head (List.Sublist.cons _ (List.Sublist.refl _)) ?_
          clear hR; intro w hR
          refine wpG_slot hR (i := 14) (by kernel_rfl) rfl rfl (by (simp only [List.set_cons_succ, List.set_cons_zero]; exact rfl)) ?_
          clear hR; intro w hR
          refine wpG_end hR (by kernel_rfl) ?_
          clear hR; intro w hR
          replace hR := hR.tail
          go_upto_region 17 with fail
          refine wp_region_tame hR [0, 1, 2, 3, 4, 5, 6, 7, 8, 9, 10, 11, 12, 13, 14, 15, 16, 17, 18, 19, 20, 21, 22, 23, 24, 25, 26, 27, 28, 29, 30, 31, 32, 33, 34, 35, 36, 37, 38, 39, 40, 41] rfl ?_
          repeat (refine wpT_step rfl ?_; first
              | ((with_reducible apply q_kn); exact rfl; (with_reducible apply t_call Try.call9); (first | (apply EvC.gv; exact rfl; (with_reducible first | exact Imp.refl _ | (apply Imp.left; exact Imp.refl _) | (apply Imp.right; exact Imp.refl _) | (apply Imp.left; apply Imp.left; exact Imp.refl _))) | (apply EvC.now; exact rfl) | exact rfl | (with_reducible exact EvAll.nil) | (focus (repeat (first | apply EvAll.cons | exact EvAll.nil | (apply EvC.gv; exact rfl; (with_reducible first | exact Imp.refl _ | (apply Imp.left; exact Imp.refl _) | (apply Imp.right; exact Imp.refl _) | (apply Imp.left; apply Imp.left; exact Imp.refl _))) | (apply EvC.now; exact rfl))); done) | exact ext_dat _ _ _ | (focus (repeat (first | apply List.Mem.head | apply List.Mem.tail | apply List.mem_append_right)))); (intro hcc w hC; exact tame_below (awake24_any _) hC); (simp only [List.set_cons_succ, List.set_cons_zero]; exact rfl))
              | ((with_reducible apply q_kn); exact rfl; (with_reducible apply t_old tByteR hT); (apply EvC.now; exact rfl); exact rfl; (simp only [List.set_cons_succ, List.set_cons_zero]; exact rfl))
              | ((with_reducible apply q_kn); exact rfl; (with_reducible apply t_strW tTextN); (apply EvC.now; exact rfl); (exact fun w hC => hV2.own hC); (simp only [List.set_cons_succ, List.set_cons_zero]; exact rfl))
              | ((with_reducible apply q_kn); exact rfl; (with_reducible apply t_strsame); (apply EvC.now; exact rfl); (apply EvC.now; exact rfl); (simp only [List.set_cons_succ, List.set_cons_zero]; exact rfl))
              | ((with_reducible apply q_kn); exact rfl; (with_reducible apply t_cmp); (apply EvC.now; exact rfl); (apply EvC.now; exact rfl); exact cmp_selfS _; (simp only [List.set_cons_succ, List.set_cons_zero]; exact rfl))
              | ((with_reducible apply q_kn); exact rfl; ((with_reducible first | apply t_addr (fRec _ (by decide)) | apply t_addr (fDat _ (by decide)) | apply t_one tByteR | apply t_one tSlR | apply t_one tIntR | apply t_one tWordD | apply t_part tDat) <;> (first | (apply EvC.now; exact rfl) | exact rfl | exact ext_dat _ _ _ | exact hm13)); (simp only [List.set_cons_succ, List.set_cons_zero]; exact rfl))
              | ((with_reducible apply q_kn); exact rfl; (first | ((with_reducible first | apply t_move | apply t_assign | apply t_addr (fRec _ (by decide)) | apply t_addr (fDat _ (by decide)) | apply t_one tByteR | apply t_one tSlR | apply t_one tIntR | apply t_one tWordD | apply t_part tDat) <;> (first | (apply EvC.gv; exact rfl; (with_reducible first | exact Imp.refl _ | (apply Imp.left; exact Imp.refl _) | (apply Imp.right; exact Imp.refl _) | (apply Imp.left; apply Imp.left; exact Imp.refl _))) | (apply EvC.now; exact rfl) | exact rfl | (with_reducible exact EvAll.nil) | (focus (repeat (first | apply EvAll.cons | exact EvAll.nil | (apply EvC.gv; exact rfl; (with_reducible first | exact Imp.refl _ | (apply Imp.left; exact Imp.refl _) | (apply Imp.right; exact Imp.refl _) | (apply Imp.left; apply Imp.left; exact Imp.refl _))) | (apply EvC.now; exact rfl))); done) | exact ext_dat _ _ _ | (focus (repeat (first | apply List.Mem.head | apply List.Mem.tail | apply List.mem_append_right))))) | ((with_reducible apply t_pick); (apply EvC.now; exact rfl); (apply EvC.now; exact rfl))); (simp only [List.set_cons_succ, List.set_cons_zero]; exact rfl)))
          refine wpT_nil ?_
          clear hR; intro w hR
          go_wp2_with fail
          go_ret
          exact ⟨rfl, (hZ.own hR).below⟩

set_option maxRecDepth 100000 in
theorem lifted (os : Os) (started : os.Started) (H : Type) (enc : TypeId × Value → H) :
    ReturnsInHanded {} Try.checked os 4 .any (Rows.iterReadsSpec.pre6 enc Try.prog Try.f4 Rows.iterReadsRow.domain false) (Rows.iterReadsSpec.post enc Try.prog Try.f4 false true false false) := by
  refine returnsInHanded_of_change (C := Try.checked) own started (by kernel_rfl) Try.func4
    (ChangeSpec.witness6 (enc := enc) (C := Try.checked) false ⟨#[], #[.slice none 0 0, .int .i64 0, .int .u16 0], []⟩ 8 (by kernel_rfl) (by kernel_rfl) (by kernel_rfl) (by kernel_rfl)) ?_
  intro W base args ds gs before hval0 hW hcnd _
  have hval : ∀ (j : Nat) t v, Try.f4.params[j]? = some t → args[j]? = some v → Value.okWide Try.prog W .any base t v := hval0
  have hW' := hW
  obtain ⟨p, q, hA0, hV, rfl, hfz, hnd⟩ := hW
  have hA : DataW.TrodAll enc Try.prog W 0 (fun _ => true) true Try.f4.params.toList args.toList ds p := hA0
  rw [Try.params4] at hA hval
  obtain ⟨v0, vs0, d0, ds0, p0, q0, hargs, rfl, rfl, h0, r0⟩ := trodAll_cons hA
  obtain ⟨v1, vs1, d1, ds1, p1, q1, rfl, rfl, rfl, h1, r1⟩ := trodAll_cons r0
  obtain ⟨v2, vs2, d2, ds2, p2, q2, rfl, rfl, rfl, h2, r2⟩ := trodAll_cons r1
  obtain ⟨rfl, rfl, rfl⟩ := trodAll_nil r2
  obtain rfl : args = #[v0, v1, v2] := by cases args; simp_all
  obtain ⟨rfl, rfl⟩ := trodVars_none hV
  have k0 := h0
  have lt0 : ∀ x ∈ p0, x.block < W.heap.size := by obtain ⟨m, hm⟩ := k0; exact DataW.trod_lt m _ _ _ hm
  have o0 := open_blocks (hval 0 23 v0 rfl rfl) h0
  obtain ⟨a1, rfl, rfl, rfl, w1⟩ := open_int Try.underlying3 (hval 1 3 v1 rfl rfl) h1
  obtain ⟨a2, rfl, rfl, rfl, w2⟩ := open_int Try.underlying35 (hval 2 35 v2 rfl rfl) h2
  clear hA0 hval0
  refine (walk v0 o0 a1 w1 a2 w2 W).mono fun e W' ⟨he, bel⟩ => ?_
  subst he
  exact ⟨_, rfl, _, _, _, [], _, [], hW', trodAll_mk1 (shut_bool Try.underlying4 _), (trodAll_cons_mk (Below.trod laidOut (by kernel_rfl) (of_decide_eq_true (by kernel_rfl)) k0 bel lt0) (trodAll_cons_mk (shut_int Try.underlying3 w1) (trodAll_cons_mk (shut_int Try.underlying35 w2) trodAll_mk0))), rfl, bel.frame _, fun h => by cases h⟩

theorem over : Rows.iterReadsRow.holds Try.pinned (OpenSpec.ofChange Rows.iterReadsSpec) :=
  OpenClaim.holds_of_wide 4 Try.f4 rfl rfl rfl rfl rfl rfl rfl ⟨rfl, rfl, rfl, rfl, rfl⟩ rfl rfl rfl rfl rfl (by kernel_rfl) Try.func4 (by kernel_rfl)
    (of_decide_eq_true (by kernel_rfl)) (by unfold Func.isWrapper; first | (rw [if_pos (by decide +kernel)]; kernel_rfl) | (rw [if_neg (by decide +kernel)]; exact ⟨rfl, rfl⟩))
    (fun os started H enc _ => lifted os started H enc)

theorem proved : Rows.IterReadsSaid := over
#print axioms proved
end Go.Proofs.Ytalgadinoaeihaa.iterReads
