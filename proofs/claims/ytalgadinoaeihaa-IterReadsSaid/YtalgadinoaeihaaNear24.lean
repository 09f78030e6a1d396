








/- 'Near' of hansomref24: a small block near to whatever block, in rows of its own. No statement of the seat is proved here. -/
import Derived.Test.YtalgadinoaeihaaNearM
import Derived.Test.YtalgadinoaeihaaBlkT
import Derived.Test.YtalgadinoaeihaaR24
import Derived.Test.YtalgadinoaeihaaAppG
namespace Go.Proofs.Ytalgadinoaeihaa
open Go.ChangeShapes Go.WideShapes Go.ChangeAt Go.RowKit
set_option linter.unusedVariables false
set_option linter.unusedSimpArgs false

/-- A block that is there while some rows are. -/
def BlkR (s : List RowT) (d : BlkV) (z : BlkZ) : Prop := ∀ (wb w : World) (l : List RowT), Own wb w l → (∀ r ∈ s, r ∈ l) → BlkAt w d z
theorem BlkAt.leaf {w : World} {t : Int} {v : Value} {bs : List Int} (ht : -9223372036854775808 ≤ t ∧ t ≤ 9223372036854775807) (hv : SrcW w v bs) (hm : bs.length ≤ maxLen) : BlkAt w ⟨t, v, nilS⟩ (.mk t bs []) :=
  .mk (ds := []) ht hv hm ⟨by simp, rfl, .inl ⟨rfl, rfl, rfl⟩⟩ rfl (fun i d z h => by simp at h)
theorem put_kt (t u : Int) (v x : Value) : PutRel (encK t v x) 0 [.int .i64 u] (encK u v x) := ⟨rfl⟩
theorem put_kv (t : Int) (v x : Value) (a : Option Addr) (n c : Nat) : PutRel (encK t v x) 1 [.slice a n c] (encK t (.slice a n c) x) := ⟨rfl⟩
theorem put_kx (t : Int) (v x : Value) (a : Option Addr) (n c : Nat) : PutRel (encK t v x) 2 [.slice a n c] (encK t v (.slice a n c)) := ⟨rfl⟩
theorem min5 (n : Nat) : (if (5 : Int) < (n : Int) then 5 else (n : Int)) = ((min n 5 : Nat) : Int) := by split <;> omega
theorem near_empty (n : Nat) (t : Int) (b : List Int) (l : List BlkZ) (h : n = 0 ∨ l = []) : nearB n (.mk t b l) = .mk (t % 4 + 1) (t % 256 :: b.take 5) [] := by
  rcases h with rfl | rfl
  · rfl
  · cases n <;> rfl
theorem Upd.skip {g : Nat} {c' : Array Value} {l l' : List RowT} (A : List RowT) (h : Upd g c' l l') : Upd g c' (A ++ l) (A ++ l') := by
  induction A with
  | nil => exact h
  | cons x A ih => exact .tail ih
set_option maxHeartbeats 4000000 in
set_option maxRecDepth 100000 in
theorem r24near_leaf (n : Nat) (hn3 : n ≤ 3) (d : BlkV) (z : BlkZ) (w0 : World) (hB : BlkAt w0 d z) (hl : n = 0 ∨ z.l = []) :
    Calls Try.prog 6 #[.agg (encK d.t d.v d.x), .int .i64 ((n + 1 : Nat) : Int)] w0 fun e w' => ∃ s d', e = .returned (.agg (encK d'.t d'.v d'.x)) ∧ Own w0 w' s ∧ BlkR s d' (nearB n z) := by
    obtain @⟨t, v, x, bs, ds, l, ht, hv, hm, hx, hlen, hd⟩ := hB
    have hleaf : n = 0 ∨ l = [] := hl
    clear hl
    have hRd : Rd w0 3 x l.length (ds.flatMap cellsK) := by rw [← hlen]; exact hx
    have HA := Lib.hid (show bits .and .i64 t 3 = t % 4 from i64_mask t 2 3 (by decide) (by decide))
    have HA1 := Lib.hid (show IntKind.i64.wrap (t % 4 + 1) = t % 4 + 1 from IntWalk.i64_in _ (by omega))
    have HC := Lib.hid (show IntKind.u8.wrap t = t % 256 from IntKind.wrap_u8 _)
    obtain ⟨Z, hZe⟩ : ∃ Z, nearB n (.mk t bs l) = Z := ⟨_, rfl⟩
    rw [hZe]
    have HZ := Lib.hid hZe
    clear hZe
    have hR := Own.start w0
    dsimp only
    go_enter Try.func6, Try.ntmps6
    go_upto_region 2 with (first
    | ((with_reducible apply wpList_box hR); exact rfl; exact rfl; clear hR; intro g2 w hR; simp only [List.set_cons_succ, List.set_cons_zero])
    | ((with_reducible apply wpList_make hR zBlk); exact rfl; clear hR; intro g4 w hR; simp only [List.set_cons_succ, List.set_cons_zero])
    | ((with_reducible apply q_ls hR); exact rfl; (with_reducible apply t_numE); (apply EvC.now; exact rfl); (apply EvC.now; exact rfl); exact rfl; (with_reducible first | exact HA.out | exact HA1.out); (simp only [List.set_cons_succ, List.set_cons_zero]; exact rfl); clear hR; intro w hR)
    | ((with_reducible apply wpList_put1 hR tIntR); exact rfl; exact rfl; exact rfl; (focus (repeat (first | apply List.Mem.head | apply List.Mem.tail | apply List.mem_append_right))); exact put_kt _ _ _ _; simp [encK]; exact rfl; (focus (repeat (first | apply Upd.head | apply Upd.tail))); clear hR; intro w hR)
    | ((with_reducible apply q_ls hR); exact rfl; ((with_reducible first | apply t_addr (fRec _ (by decide)) | apply t_addr (fBlk _ (by decide)) | apply t_one tByteR | apply t_one tSlR | apply t_one tIntR | apply t_one tBlks | apply t_part tBlk) <;> (first | (apply EvC.gv; exact rfl; (with_reducible first | exact Imp.refl _ | (apply Imp.left; exact Imp.refl _) | (apply Imp.right; exact Imp.refl _) | (apply Imp.left; apply Imp.left; exact Imp.refl _))) | (apply EvC.now; exact rfl) | exact rfl | (with_reducible exact EvAll.nil) | (focus (repeat (first | apply EvAll.cons | exact EvAll.nil | (apply EvC.gv; exact rfl; (with_reducible first | exact Imp.refl _ | (apply Imp.left; exact Imp.refl _) | (apply Imp.right; exact Imp.refl _) | (apply Imp.left; apply Imp.left; exact Imp.refl _))) | (apply EvC.now; exact rfl))); done) | exact ext_blk _ _ _ | (focus (repeat (first | apply List.Mem.head | apply List.Mem.tail | apply List.mem_append_right))))); (simp only [List.set_cons_succ, List.set_cons_zero]; exact rfl); clear hR; intro w hR))
    refine wp_region_tame hR [0, 1, 2, 3, 4, 5, 6, 7] rfl ?_
    repeat (refine wpT_step rfl ?_; first
    | ((with_reducible apply q_pl); (with_reducible apply t_lenRd Try.underlying23); (apply EvC.now; exact rfl); exact hRd; (simp only [List.set_cons_succ, List.set_cons_zero]; exact rfl))
    | ((with_reducible apply q_gd); (first | (apply GdBy.gt; exact rfl; exact rfl) | (apply GdBy.gf; exact rfl; exact rfl) | (apply GdBy.t; exact rfl; exact rfl) | (apply GdBy.f; exact rfl; exact rfl)); (with_reducible apply t_lenRd Try.underlying23); (first | (apply EvC.gv; exact rfl; (with_reducible first | exact Imp.refl _ | (apply Imp.left; exact Imp.refl _) | (apply Imp.right; exact Imp.refl _) | (apply Imp.left; apply Imp.left; exact Imp.refl _))) | (apply EvC.now; exact rfl) | exact rfl | (with_reducible exact EvAll.nil) | (focus (repeat (first | apply EvAll.cons | exact EvAll.nil | (apply EvC.gv; exact rfl; (with_reducible first | exact Imp.refl _ | (apply Imp.left; exact Imp.refl _) | (apply Imp.right; exact Imp.refl _) | (apply Imp.left; apply Imp.left; exact Imp.refl _))) | (apply EvC.now; exact rfl))); done) | exact ext_blk _ _ _ | (focus (repeat (first | apply List.Mem.head | apply List.Mem.tail | apply List.mem_append_right)))); exact hRd; (simp only [List.set_cons_succ, List.set_cons_zero]; exact rfl))
    | ((first | (with_reducible apply q_pl) | ((with_reducible apply q_gd); (first | (apply GdBy.gt; exact rfl; exact rfl) | (apply GdBy.gf; exact rfl; exact rfl) | (apply GdBy.t; exact rfl; exact rfl) | (apply GdBy.f; exact rfl; exact rfl)))); (first | ((with_reducible first | apply t_move | apply t_assign | apply t_and | apply t_or | apply t_cmp | apply t_not | apply t_addr (fRec _ (by decide)) | apply t_addr (fBlk _ (by decide)) | apply t_one tByteR | apply t_one tSlR | apply t_one tIntR | apply t_one tBlks | apply t_part tBlk) <;> (first | (apply EvC.gv; exact rfl; (with_reducible first | exact Imp.refl _ | (apply Imp.left; exact Imp.refl _) | (apply Imp.right; exact Imp.refl _) | (apply Imp.left; apply Imp.left; exact Imp.refl _))) | (apply EvC.now; exact rfl) | exact rfl | (with_reducible exact EvAll.nil) | (focus (repeat (first | apply EvAll.cons | exact EvAll.nil | (apply EvC.gv; exact rfl; (with_reducible first | exact Imp.refl _ | (apply Imp.left; exact Imp.refl _) | (apply Imp.right; exact Imp.refl _) | (apply Imp.left; apply Imp.left; exact Imp.refl _))) | (apply EvC.now; exact rfl))); done) | exact ext_blk _ _ _ | (focus (repeat (first | apply List.Mem.head | apply List.Mem.tail | apply List.mem_append_right)))))); (simp only [List.set_cons_succ, List.set_cons_zero]; exact rfl))
    | ((with_reducible apply q_gd); (first | (apply GdBy.gt; exact rfl; exact rfl) | (apply GdBy.gf; exact rfl; exact rfl) | (apply GdBy.t; exact rfl; exact rfl) | (apply GdBy.f; exact rfl; exact rfl)); ((with_reducible apply t_num) <;> (first | (apply EvC.gv; exact rfl; (with_reducible first | exact Imp.refl _ | (apply Imp.left; exact Imp.refl _) | (apply Imp.right; exact Imp.refl _) | (apply Imp.left; apply Imp.left; exact Imp.refl _))) | (apply EvC.now; exact rfl) | exact rfl | (with_reducible exact EvAll.nil) | (focus (repeat (first | apply EvAll.cons | exact EvAll.nil | (apply EvC.gv; exact rfl; (with_reducible first | exact Imp.refl _ | (apply Imp.left; exact Imp.refl _) | (apply Imp.right; exact Imp.refl _) | (apply Imp.left; apply Imp.left; exact Imp.refl _))) | (apply EvC.now; exact rfl))); done) | exact ext_blk _ _ _ | (focus (repeat (first | apply List.Mem.head | apply List.Mem.tail | apply List.mem_append_right))))); (simp only [List.set_cons_succ, List.set_cons_zero]; exact rfl))
    | ((with_reducible apply wpT1_gpure); (first | (apply GdBy.gt; exact rfl; exact rfl) | (apply GdBy.gf; exact rfl; exact rfl) | (apply GdBy.t; exact rfl; exact rfl) | (apply GdBy.f; exact rfl; exact rfl)); intro K hK; go_simp; refine hK _ ?_; clear hK K; simp only [List.set_cons_succ, List.set_cons_zero])
    | ((with_reducible apply wpT1_pure); exact rfl; intro K hK; go_simp; refine hK _ ?_; clear hK K; simp only [List.set_cons_succ, List.set_cons_zero]))
    refine wpT_nil ?_
    clear hR; intro w hR
    go_upto_if 18 with fail
    refine wp_cond_at (nm := decide ((1 : Int) < ((n + 1 : Nat) : Int)) && decide ((0 : Int) < (l.length : Int))) rfl rfl (fun h => ?_) (fun h => ?_)
    · simp only [Bool.and_eq_true, decide_eq_true_eq] at h
      rcases hleaf with rfl | rfl
      · exact absurd h.1 (by decide)
      · exact absurd h.2 (by decide)
    · skip
      have HZL := Lib.hid ((near_empty n t bs l hleaf).symm.trans HZ.out)
      clear h
      obtain ⟨m, hmm⟩ : ∃ m, min bs.length 5 = m := ⟨_, rfl⟩
      have hml : m ≤ bs.length := by omega
      have hm5 : m ≤ 5 := by omega
      have HMM := Lib.hid (min5 bs.length)
      rw [hmm] at HMM
      have HTK := Lib.hid (show bs.take m = bs.take 5 by rw [← hmm]; exact take_min bs 5)
      have hvc := hv.first m hml
      have hcl : (bs.take m).length = m := by rw [List.length_take]; omega
      clear hmm
      go_upto_region 8 with fail
      refine wp_region_some hR [(g2, encK t v x, 25)] (.cons _ (List.Sublist.refl _)) [0, 1, 2, 4, 5, 6, 7, 8, 9, 10] 4 (by kernel_rfl) (by kernel_rfl) (by kernel_rfl) rfl ?_
      clear hR; intro hR
      repeat (refine wpT_step rfl ?_; first
    | ((with_reducible apply q_pl); (with_reducible apply t_addr (fBlk _ (by decide))); (apply EvC.now; exact rfl); (simp only [List.set_cons_succ, List.set_cons_zero]; exact rfl))
    | ((with_reducible apply q_pl); (with_reducible first | apply t_one tIntR | apply t_one tSlR); (apply EvC.now; exact rfl); (focus (repeat (first | apply List.Mem.head | apply List.Mem.tail | apply List.mem_append_right))); exact rfl; (simp only [List.set_cons_succ, List.set_cons_zero]; exact rfl))
    | ((with_reducible apply q_pl); (with_reducible apply t_conv Try.underlying3 Try.underlying5); (apply EvC.now; exact rfl); exact HC.out; (simp only [List.set_cons_succ, List.set_cons_zero]; exact rfl))
    | ((with_reducible apply q_pl); (with_reducible apply t_lenW Try.underlying22); (apply EvC.now; exact rfl); exact hv; (simp only [List.set_cons_succ, List.set_cons_zero]; exact rfl))
    | ((with_reducible apply q_pl); (with_reducible apply t_minK); (apply EvC.now; exact rfl); (apply EvC.now; exact rfl); exact HMM.out; (simp only [List.set_cons_succ, List.set_cons_zero]; exact rfl))
    | ((with_reducible apply q_pl); (with_reducible apply t_cutH tBytesN hv); (apply EvC.now; exact rfl); (apply EvC.now; exact rfl); exact rfl; exact hml; (simp only [List.set_cons_succ, List.set_cons_zero]; exact rfl)))
      refine wpT_nil ?_
      refine wpG_one hR (i := 3) (by kernel_rfl) ?_
      clear hR; intro w hR
      refine opBuildS hR rfl rfl rfl (bB1 _) ?_
      clear hR; intro g9 w hR
      refine ⟨hR.drop (by (focus (repeat (first | exact List.Sublist.slnil | exact List.nil_sublist _ | exact List.Sublist.refl _ | exact List.sublist_append_right _ _ | apply List.Sublist.cons_cons | apply List.Sublist.cons)))), ?_⟩
      simp only [List.set_cons_succ, List.set_cons_zero]
      have hS : Sl 5 1 [(g9, #[.int .u8 (t % 256)], 5)] (.slice (some ⟨g9, 0, none⟩) 1 1) 1 (cellsB [t % 256]) := (RwIs.all rfl (by decide)).sl
      refine wpG_appG hR (i := 11) (by kernel_rfl) tBytesB rfl rfl rfl rfl (Les.head (s := [_])) hS (fun w1 h1 => (hvc.own h1).rd) (by rw [hcl]; simp only [maxLen]; omega) (by rw [hcl]; omega) (by (focus (repeat (first | exact List.Sublist.slnil | exact List.nil_sublist _ | exact List.Sublist.refl _ | exact List.sublist_append_right _ _ | apply List.Sublist.cons_cons | apply List.Sublist.cons)))) ?_
      clear hR hS; intro s2 v2 w hR hS
      simp only [List.set_cons_succ, List.set_cons_zero]
      rw [hcl] at hS
      have hbo := bytesOk.cons (n := t % 256) (by omega) (hvc.ok)
      have hSR := Sl.srcR (bs := t % 256 :: bs.take m) hS hbo
      have hSl : (t % 256 :: bs.take m).length ≤ 6 := by rw [List.length_cons, hcl]; omega
      obtain ⟨a2, m2, c2, hv2⟩ : ∃ a n c, v2 = .slice a n c := (hSR _ _ _ hR (fun r h => List.mem_append_left _ h)).shape
      refine wpG_addr hR (i := 12) (fBlk 1 (by decide)) (by kernel_rfl) rfl rfl (by (simp only [List.set_cons_succ, List.set_cons_zero]; exact rfl)) ?_
      clear hR; intro w hR
      subst hv2
      refine wpG_put1 (l' := s2 ++ [(g4, encK (t % 4 + 1) (.slice a2 m2 c2) nilS, 25), (g2, encK t v x, 25)]) hR tSlR (i := 13) (by kernel_rfl) rfl rfl rfl (by (focus (repeat (first | apply List.Mem.head | apply List.Mem.tail | apply List.mem_append_right)))) (put_kv _ _ _ _ _ _) (by simp [encK]) rfl (Upd.skip _ .head) ((List.Sublist.cons _ (List.Sublist.refl _)).trans (List.sublist_append_right _ _)) ?_
      clear hR hS; intro w hR
      refine wpG_end hR (by kernel_rfl) ?_
      clear hR; intro w hR
      replace hR := hR.perm List.perm_middle.symm
      repeat (first
    | ((with_reducible apply wpList_put hR tBlk); exact rfl; exact rfl; exact rfl; (focus (repeat (first | apply List.Mem.head | apply List.Mem.tail | apply List.mem_append_right))); exact put_blk _ rfl _ _ _; exact rfl; simp [encK]; exact one_blk _ ⟨⟨_, _, _, rfl⟩⟩ IsS.nil; (focus (repeat (first | apply Upd.head | apply Upd.tail))); clear hR; intro w hR)
    | ((with_reducible apply q_ls hR); exact rfl; ((with_reducible first | apply t_addr (fRec _ (by decide)) | apply t_addr (fBlk _ (by decide)) | apply t_one tByteR | apply t_one tSlR | apply t_one tIntR | apply t_one tBlks | apply t_part tBlk) <;> (first | (apply EvC.gv; exact rfl; (with_reducible first | exact Imp.refl _ | (apply Imp.left; exact Imp.refl _) | (apply Imp.right; exact Imp.refl _) | (apply Imp.left; apply Imp.left; exact Imp.refl _))) | (apply EvC.now; exact rfl) | exact rfl | (with_reducible exact EvAll.nil) | (focus (repeat (first | apply EvAll.cons | exact EvAll.nil | (apply EvC.gv; exact rfl; (with_reducible first | exact Imp.refl _ | (apply Imp.left; exact Imp.refl _) | (apply Imp.right; exact Imp.refl _) | (apply Imp.left; apply Imp.left; exact Imp.refl _))) | (apply EvC.now; exact rfl))); done) | exact ext_blk _ _ _ | (focus (repeat (first | apply List.Mem.head | apply List.Mem.tail | apply List.mem_append_right))))); (simp only [List.set_cons_succ, List.set_cons_zero]; exact rfl); clear hR; intro w hR)
          | go_step)
      exact post_row hR rfl (by rfl) (by (focus (repeat (first | apply List.Mem.head | apply List.Mem.tail | apply List.mem_append_right)))) Try.underlying25 rfl iBlk (by rfl) (by rfl) ⟨_, ⟨t % 4 + 1, .slice a2 m2 c2, nilS⟩, rfl, hR, by
        rw [← HZL.out]
        intro wb w l hO hs
        rw [← HTK.out]
        exact .leaf (by omega) (hSR _ _ _ hO fun r h => hs r (.tail _ (List.mem_append_left _ h))) (by simp only [maxLen]; omega)⟩
/-! ### Where there are blocks -/
theorem tBlksB : SliceB Try.prog 23 25 3 56 := .of (z := .agg (encK 0 nilS nilS)) Try.underlying23 (by kernel_rfl) rfl (by decide)
theorem bBlk1 (t : Int) {v x : Value} (hv : IsS v) (hx : IsS x) : BuiltS Try.prog 23 1 [(0, .agg (encK t v x))] 25 (encK t v x) := by
  obtain ⟨a, n, c, rfl⟩ := hv.shape
  obtain ⟨a', n', c', rfl⟩ := hx.shape
  exact ⟨fun w => by simp [go_sem, encK]⟩
def SlsK (ds : List BlkV) : Prop := ∀ d ∈ ds, IsS d.v ∧ IsS d.x
theorem cellsK_one {ds : List BlkV} (h : SlsK ds) : (ds.flatMap cellsK).all (·.oneCell') = true := by
  rw [List.all_eq_true]
  intro u hu
  obtain ⟨d, hd, hu⟩ := List.mem_flatMap.1 hu
  obtain ⟨h1, h2⟩ := h d hd
  have h3 := one_blk d.t h1 h2
  have h4 : (cellsK d).all (·.oneCell') = true := by simpa [cellsK] using h3
  exact List.all_eq_true.1 h4 u hu
theorem BlkAt.isS {w : World} {d : BlkV} {z : BlkZ} (h : BlkAt w d z) : IsS d.v ∧ IsS d.x := by
  cases h with
  | mk _ hv _ hx _ _ => exact ⟨hv.isS, ⟨hx.shape⟩⟩
def kids (n : Nat) (l : List BlkZ) (k : Nat) : List BlkZ := (l.take k).map (nearB n)
theorem kids_more {n : Nat} {l : List BlkZ} {k : Nat} {z : BlkZ} (h : l[k]? = some z) : kids n l (k + 1) = kids n l k ++ [nearB n z] := by
  unfold kids; rw [List.take_add_one, h]; simp
theorem kids_len {n : Nat} {l : List BlkZ} {k : Nat} (h : k ≤ l.length) : (kids n l k).length = k := by
  unfold kids; rw [List.length_map, List.length_take]; omega
theorem near_node (n : Nat) (t : Int) (b : List Int) {l : List BlkZ} (h : l ≠ []) : nearB (n + 1) (.mk t b l) = .mk (t % 4 + 1) [] (kids n l 3) := by
  cases l with
  | nil => exact absurd rfl h
  | cons z l => simp [nearB, kids]
def KidsR (s : List RowT) (ds : List BlkV) (l : List BlkZ) : Prop := ∀ (i : Nat) (d : BlkV) (z : BlkZ), ds[i]? = some d → l[i]? = some z → BlkR s d z
theorem KidsR.more {s s' : List RowT} {ds : List BlkV} {l : List BlkZ} {d : BlkV} {z : BlkZ} (h : KidsR s ds l) (hn : ds.length = l.length) (hd : BlkR s' d z) : KidsR (s' ++ s) (ds ++ [d]) (l ++ [z]) := by
  intro i d2 z2 h1 h2 wb w L hO hs
  by_cases hi : i < ds.length
  · rw [List.getElem?_append_left hi] at h1
    rw [List.getElem?_append_left (by omega)] at h2
    exact h i d2 z2 h1 h2 wb w L hO fun r hr => hs r (List.mem_append_right _ hr)
  · have hlt := (List.getElem?_eq_some_iff.1 h1).1
    rw [List.length_append, List.length_singleton] at hlt
    obtain rfl : i = ds.length := by omega
    rw [List.getElem?_append_right (Nat.le_refl _), Nat.sub_self] at h1
    rw [List.getElem?_append_right (by omega), hn, Nat.sub_self] at h2
    obtain rfl := Option.some.inj h1
    obtain rfl := Option.some.inj h2
    exact hd wb w L hO fun r hr => hs r (List.mem_append_left _ hr)
def NearIs (w0 : World) (g4 g2 : Nat) (t : Int) (t2 : Int) (v2 x2 : Value) (n : Nat) (l : List BlkZ) (i : Value) (wr : World) : Prop :=
  ∃ (k : Nat) (sl sK : List RowT) (vx : Value) (ds : List BlkV), i = .int .i64 k ∧ k ≤ 3 ∧ k ≤ l.length ∧ Own w0 wr (sl ++ ((g4, encK t nilS vx, 25) :: (sK ++ [(g2, encK t2 v2 x2, 25)]))) ∧ Sl 25 3 sl vx k (ds.flatMap cellsK) ∧ ds.length = k ∧ SlsK ds ∧ KidsR sK ds (kids n l k)
theorem Sl.shapeK {e : TypeId} {k : Nat} {s : List RowT} {v : Value} {n : Nat} {xs : List Value} (h : Sl e k s v n xs) : ∃ a m c, v = .slice a m c := by
  rcases h.way with ⟨_, h2, _⟩ | ⟨g, cap, cur, _, h2, _⟩
  · exact ⟨_, _, _, h2⟩
  · exact ⟨_, _, _, h2⟩
set_option maxHeartbeats 4000000 in
set_option maxRecDepth 100000 in
theorem r24near_node (n : Nat) (hn3 : n + 1 ≤ 3) (d : BlkV) (z : BlkZ) (w0 : World) (hB : BlkAt w0 d z) (hl : z.l ≠ [])
    (IH0 : ∀ (d : BlkV) (z : BlkZ) (w0 : World), BlkAt w0 d z → Calls Try.prog 6 #[.agg (encK d.t d.v d.x), .int .i64 ((n + 1 : Nat) : Int)] w0 fun e w' => ∃ s d', e = .returned (.agg (encK d'.t d'.v d'.x)) ∧ Own w0 w' s ∧ BlkR s d' (nearB n z)) :
    Calls Try.prog 6 #[.agg (encK d.t d.v d.x), .int .i64 ((n + 1 + 1 : Nat) : Int)] w0 fun e w' => ∃ s d', e = .returned (.agg (encK d'.t d'.v d'.x)) ∧ Own w0 w' s ∧ BlkR s d' (nearB (n + 1) z) := by
    obtain @⟨t, v, x, bs, ds0, l, ht, hv, hm, hx, hlen, hd⟩ := hB
    have hl0 : l ≠ [] := hl
    clear hl
    have IH := Lib.hid IH0
    clear IH0
    have hll : 0 < l.length := List.length_pos_iff.2 hl0
    have hRd : Rd w0 3 x l.length (ds0.flatMap cellsK) := by rw [← hlen]; exact hx
    have HA := Lib.hid (show bits .and .i64 t 3 = t % 4 from i64_mask t 2 3 (by decide) (by decide))
    have HA1 := Lib.hid (show IntKind.i64.wrap (t % 4 + 1) = t % 4 + 1 from IntWalk.i64_in _ (by omega))
    have HSUB := Lib.hid (show IntKind.i64.wrap (((n + 1 + 1 : Nat) : Int) - 1) = ((n + 1 : Nat) : Int) by rw [IntWalk.i64_in _ (by omega)]; omega)
    obtain ⟨Z, hZe⟩ : ∃ Z, nearB (n + 1) (.mk t bs l) = Z := ⟨_, rfl⟩
    rw [hZe]
    have HZ := Lib.hid ((near_node n t bs hl0).symm.trans hZe)
    clear hZe
    have hR := Own.start w0
    dsimp only
    go_enter Try.func6, Try.ntmps6
    go_upto_region 2 with (first
    | ((with_reducible apply wpList_box hR); exact rfl; exact rfl; clear hR; intro g2 w hR; simp only [List.set_cons_succ, List.set_cons_zero])
    | ((with_reducible apply wpList_make hR zBlk); exact rfl; clear hR; intro g4 w hR; simp only [List.set_cons_succ, List.set_cons_zero])
    | ((with_reducible apply q_ls hR); exact rfl; (with_reducible apply t_numE); (apply EvC.now; exact rfl); (apply EvC.now; exact rfl); exact rfl; (with_reducible first | exact HA.out | exact HA1.out); (simp only [List.set_cons_succ, List.set_cons_zero]; exact rfl); clear hR; intro w hR)
    | ((with_reducible apply wpList_put1 hR tIntR); exact rfl; exact rfl; exact rfl; (focus (repeat (first | apply List.Mem.head | apply List.Mem.tail | apply List.mem_append_right))); exact put_kt _ _ _ _; simp [encK]; exact rfl; (focus (repeat (first | apply Upd.head | apply Upd.tail))); clear hR; intro w hR)
    | ((with_reducible apply q_ls hR); exact rfl; ((with_reducible first | apply t_addr (fRec _ (by decide)) | apply t_addr (fBlk _ (by decide)) | apply t_one tByteR | apply t_one tSlR | apply t_one tIntR | apply t_one tBlks | apply t_part tBlk) <;> (first | (apply EvC.gv; exact rfl; (with_reducible first | exact Imp.refl _ | (apply Imp.left; exact Imp.refl _) | (apply Imp.right; exact Imp.refl _) | (apply Imp.left; apply Imp.left; exact Imp.refl _))) | (apply EvC.now; exact rfl) | exact rfl | (with_reducible exact EvAll.nil) | (focus (repeat (first | apply EvAll.cons | exact EvAll.nil | (apply EvC.gv; exact rfl; (with_reducible first | exact Imp.refl _ | (apply Imp.left; exact Imp.refl _) | (apply Imp.right; exact Imp.refl _) | (apply Imp.left; apply Imp.left; exact Imp.refl _))) | (apply EvC.now; exact rfl))); done) | exact ext_blk _ _ _ | (focus (repeat (first | apply List.Mem.head | apply List.Mem.tail | apply List.mem_append_right))))); (simp only [List.set_cons_succ, List.set_cons_zero]; exact rfl); clear hR; intro w hR))
    refine wp_region_tame hR [0, 1, 2, 3, 4, 5, 6, 7] rfl ?_
    repeat (refine wpT_step rfl ?_; first
    | ((with_reducible apply q_pl); (with_reducible apply t_lenRd Try.underlying23); (apply EvC.now; exact rfl); exact hRd; (simp only [List.set_cons_succ, List.set_cons_zero]; exact rfl))
    | ((with_reducible apply q_gd); (first | (apply GdBy.gt; exact rfl; exact rfl) | (apply GdBy.gf; exact rfl; exact rfl) | (apply GdBy.t; exact rfl; exact rfl) | (apply GdBy.f; exact rfl; exact rfl)); (with_reducible apply t_lenRd Try.underlying23); (first | (apply EvC.gv; exact rfl; (with_reducible first | exact Imp.refl _ | (apply Imp.left; exact Imp.refl _) | (apply Imp.right; exact Imp.refl _) | (apply Imp.left; apply Imp.left; exact Imp.refl _))) | (apply EvC.now; exact rfl) | exact rfl | (with_reducible exact EvAll.nil) | (focus (repeat (first | apply EvAll.cons | exact EvAll.nil | (apply EvC.gv; exact rfl; (with_reducible first | exact Imp.refl _ | (apply Imp.left; exact Imp.refl _) | (apply Imp.right; exact Imp.refl _) | (apply Imp.left; apply Imp.left; exact Imp.refl _))) | (apply EvC.now; exact rfl))); done) | exact ext_blk _ _ _ | (focus (repeat (first | apply List.Mem.head | apply List.Mem.tail | apply List.mem_append_right)))); exact hRd; (simp only [List.set_cons_succ, List.set_cons_zero]; exact rfl))
    | ((first | (with_reducible apply q_pl) | ((with_reducible apply q_gd); (first | (apply GdBy.gt; exact rfl; exact rfl) | (apply GdBy.gf; exact rfl; exact rfl) | (apply GdBy.t; exact rfl; exact rfl) | (apply GdBy.f; exact rfl; exact rfl)))); (first | ((with_reducible first | apply t_move | apply t_assign | apply t_and | apply t_or | apply t_cmp | apply t_not | apply t_addr (fRec _ (by decide)) | apply t_addr (fBlk _ (by decide)) | apply t_one tByteR | apply t_one tSlR | apply t_one tIntR | apply t_one tBlks | apply t_part tBlk) <;> (first | (apply EvC.gv; exact rfl; (with_reducible first | exact Imp.refl _ | (apply Imp.left; exact Imp.refl _) | (apply Imp.right; exact Imp.refl _) | (apply Imp.left; apply Imp.left; exact Imp.refl _))) | (apply EvC.now; exact rfl) | exact rfl | (with_reducible exact EvAll.nil) | (focus (repeat (first | apply EvAll.cons | exact EvAll.nil | (apply EvC.gv; exact rfl; (with_reducible first | exact Imp.refl _ | (apply Imp.left; exact Imp.refl _) | (apply Imp.right; exact Imp.refl _) | (apply Imp.left; apply Imp.left; exact Imp.refl _))) | (apply EvC.now; exact rfl))); done) | exact ext_blk _ _ _ | (focus (repeat (first | apply List.Mem.head | apply List.Mem.tail | apply List.mem_append_right)))))); (simp only [List.set_cons_succ, List.set_cons_zero]; exact rfl))
    | ((with_reducible apply q_gd); (first | (apply GdBy.gt; exact rfl; exact rfl) | (apply GdBy.gf; exact rfl; exact rfl) | (apply GdBy.t; exact rfl; exact rfl) | (apply GdBy.f; exact rfl; exact rfl)); ((with_reducible apply t_num) <;> (first | (apply EvC.gv; exact rfl; (with_reducible first | exact Imp.refl _ | (apply Imp.left; exact Imp.refl _) | (apply Imp.right; exact Imp.refl _) | (apply Imp.left; apply Imp.left; exact Imp.refl _))) | (apply EvC.now; exact rfl) | exact rfl | (with_reducible exact EvAll.nil) | (focus (repeat (first | apply EvAll.cons | exact EvAll.nil | (apply EvC.gv; exact rfl; (with_reducible first | exact Imp.refl _ | (apply Imp.left; exact Imp.refl _) | (apply Imp.right; exact Imp.refl _) | (apply Imp.left; apply Imp.left; exact Imp.refl _))) | (apply EvC.now; exact rfl))); done) | exact ext_blk _ _ _ | (focus (repeat (first | apply List.Mem.head | apply List.Mem.tail | apply List.mem_append_right))))); (simp only [List.set_cons_succ, List.set_cons_zero]; exact rfl))
    | ((with_reducible apply wpT1_gpure); (first | (apply GdBy.gt; exact rfl; exact rfl) | (apply GdBy.gf; exact rfl; exact rfl) | (apply GdBy.t; exact rfl; exact rfl) | (apply GdBy.f; exact rfl; exact rfl)); intro K hK; go_simp; refine hK _ ?_; clear hK K; simp only [List.set_cons_succ, List.set_cons_zero])
    | ((with_reducible apply wpT1_pure); exact rfl; intro K hK; go_simp; refine hK _ ?_; clear hK K; simp only [List.set_cons_succ, List.set_cons_zero]))
    refine wpT_nil ?_
    clear hR; intro w hR
    go_upto_if 18 with fail
    refine wp_cond_at (nm := decide ((1 : Int) < ((n + 1 + 1 : Nat) : Int)) && decide ((0 : Int) < (l.length : Int))) rfl rfl (fun _ => ?_) (fun h => ?_)
    · go_wp2_with fail
      go_loopw [5] (fun i wr => NearIs w0 g4 g2 (t % 4 + 1) t v x n l i wr) (fun i _ => 3 - (intOf i).toNat)
      case atStart => exact ⟨0, [], [], nilS, [], rfl, by decide, Nat.zero_le _, hR, Sl.nil _ _, rfl, (fun d h => nomatch h), fun i d z h => by simp at h⟩
      case round =>
        clear hR
        obtain ⟨k, sl, sK, vx, ds, rfl, hk3, hkl, hR, hS, hdl, hsl, hkid⟩ := hrel
        go_upto_region 4 with fail
        refine wp_region_tame hR [0, 1, 2, 3, 4, 5, 6, 7, 8] rfl ?_
        repeat (refine wpT_step rfl ?_; first
    | ((with_reducible apply q_pl); (with_reducible apply t_lenRd Try.underlying23); (apply EvC.now; exact rfl); exact hRd; (simp only [List.set_cons_succ, List.set_cons_zero]; exact rfl))
    | ((first | (with_reducible apply q_pl) | ((with_reducible apply q_gd); (first | (apply GdBy.gt; exact rfl; exact rfl) | (apply GdBy.gf; exact rfl; exact rfl) | (apply GdBy.t; exact rfl; exact rfl) | (apply GdBy.f; exact rfl; exact rfl)))); (first | ((with_reducible first | apply t_move | apply t_assign | apply t_and | apply t_or | apply t_cmp | apply t_not | apply t_addr (fRec _ (by decide)) | apply t_addr (fBlk _ (by decide)) | apply t_one tByteR | apply t_one tSlR | apply t_one tIntR | apply t_one tBlks | apply t_part tBlk) <;> (first | (apply EvC.gv; exact rfl; (with_reducible first | exact Imp.refl _ | (apply Imp.left; exact Imp.refl _) | (apply Imp.right; exact Imp.refl _) | (apply Imp.left; apply Imp.left; exact Imp.refl _))) | (apply EvC.now; exact rfl) | exact rfl | (with_reducible exact EvAll.nil) | (focus (repeat (first | apply EvAll.cons | exact EvAll.nil | (apply EvC.gv; exact rfl; (with_reducible first | exact Imp.refl _ | (apply Imp.left; exact Imp.refl _) | (apply Imp.right; exact Imp.refl _) | (apply Imp.left; apply Imp.left; exact Imp.refl _))) | (apply EvC.now; exact rfl))); done) | exact ext_blk _ _ _ | (focus (repeat (first | apply List.Mem.head | apply List.Mem.tail | apply List.mem_append_right)))))); (simp only [List.set_cons_succ, List.set_cons_zero]; exact rfl))
    | ((with_reducible apply q_gd); (first | (apply GdBy.gt; exact rfl; exact rfl) | (apply GdBy.gf; exact rfl; exact rfl) | (apply GdBy.t; exact rfl; exact rfl) | (apply GdBy.f; exact rfl; exact rfl)); ((with_reducible apply t_num) <;> (first | (apply EvC.gv; exact rfl; (with_reducible first | exact Imp.refl _ | (apply Imp.left; exact Imp.refl _) | (apply Imp.right; exact Imp.refl _) | (apply Imp.left; apply Imp.left; exact Imp.refl _))) | (apply EvC.now; exact rfl) | exact rfl | (with_reducible exact EvAll.nil) | (focus (repeat (first | apply EvAll.cons | exact EvAll.nil | (apply EvC.gv; exact rfl; (with_reducible first | exact Imp.refl _ | (apply Imp.left; exact Imp.refl _) | (apply Imp.right; exact Imp.refl _) | (apply Imp.left; apply Imp.left; exact Imp.refl _))) | (apply EvC.now; exact rfl))); done) | exact ext_blk _ _ _ | (focus (repeat (first | apply List.Mem.head | apply List.Mem.tail | apply List.mem_append_right))))); (simp only [List.set_cons_succ, List.set_cons_zero]; exact rfl))
    | ((with_reducible apply wpT1_gpure); (first | (apply GdBy.gt; exact rfl; exact rfl) | (apply GdBy.gf; exact rfl; exact rfl) | (apply GdBy.t; exact rfl; exact rfl) | (apply GdBy.f; exact rfl; exact rfl)); intro K hK; go_simp; refine hK _ ?_; clear hK K; simp only [List.set_cons_succ, List.set_cons_zero])
    | ((with_reducible apply wpT1_pure); exact rfl; intro K hK; go_simp; refine hK _ ?_; clear hK K; simp only [List.set_cons_succ, List.set_cons_zero]))
        refine wpT_nil ?_
        clear hR; intro w hR
        go_upto_if 27 with fail
        refine wp_cond_at (nm := decide ((k : Int) < (l.length : Int)) && decide ((k : Int) < 3)) rfl rfl (fun h => ?_) (fun h => ?_)
        · simp only [Bool.and_eq_true, decide_eq_true_eq] at h
          have hlt : k < l.length := by omega
          have hlt3 : k < 3 := by omega
          clear h
          obtain ⟨z, hz⟩ : ∃ z, l[k]? = some z := ⟨_, List.getElem?_eq_getElem hlt⟩
          obtain ⟨a, ha⟩ : ∃ a, ds0[k]? = some a := ⟨_, List.getElem?_eq_getElem (by rw [hlen]; exact hlt)⟩
          have hza := hd k a z ha hz
          have hel := hx.el cellsK_len ha
          rw [hlen] at hel
          obtain ⟨ad, cap, hxe, hcell⟩ := hel
          have HM4 := Lib.hid (show ∀ w, Own w0 w [(g2, encK t v x, 25)] → ∀ jj u, (encK a.t a.v a.x).toList[jj]? = some u → w.cell? ((ad.add ((k : Int).toNat * 3)).add jj) = some u from fun w hC => by
            rw [Int.toNat_natCast]
            rw [hxe] at hx
            exact (hx.own hC).cell cellsK_len ha)
          have HKM := Lib.hid (kids_more (n := n) hz)
          go_upto_region 6 with fail
          refine wp_region_some hR [(g2, encK t v x, 25)] ((List.Sublist.cons _ (List.sublist_append_right sK _)).trans (List.sublist_append_right sl _)) [0, 2, 3, 4, 5, 6, 7, 8] 6 (by kernel_rfl) (by kernel_rfl) (by kernel_rfl) rfl ?_
          clear hR; intro hR
          repeat (refine wpT_step rfl ?_; first
    | ((with_reducible apply q_pl); (with_reducible apply t_addr (fBlk _ (by decide))); (apply EvC.now; exact rfl); (simp only [List.set_cons_succ, List.set_cons_zero]; exact rfl))
    | ((with_reducible apply q_pl); (with_reducible apply t_one tBlks); (apply EvC.now; exact rfl); (focus (repeat (first | apply List.Mem.head | apply List.Mem.tail | apply List.mem_append_right))); exact rfl; (simp only [List.set_cons_succ, List.set_cons_zero]; exact rfl))
    | ((with_reducible apply q_pl); (with_reducible apply t_six Try.underlying23 iBlk); (apply EvC.now; exact congrArg some hxe); (apply EvC.now; exact rfl); (constructor <;> omega); (simp only [List.set_cons_succ, List.set_cons_zero]; exact rfl))
    | ((with_reducible apply q_pl); (with_reducible apply t_manyW tBlk); (apply EvC.now; exact rfl); (exact HM4.out); exact rfl; (simp only [List.set_cons_succ, List.set_cons_zero]; exact rfl))
    | ((first | (with_reducible apply q_pl) | ((with_reducible apply q_gd); (first | (apply GdBy.gt; exact rfl; exact rfl) | (apply GdBy.gf; exact rfl; exact rfl) | (apply GdBy.t; exact rfl; exact rfl) | (apply GdBy.f; exact rfl; exact rfl)))); (with_reducible apply t_numE); (first | (apply EvC.gv; exact rfl; (with_reducible first | exact Imp.refl _ | (apply Imp.left; exact Imp.refl _) | (apply Imp.right; exact Imp.refl _) | (apply Imp.left; apply Imp.left; exact Imp.refl _))) | (apply EvC.now; exact rfl) | exact rfl | (with_reducible exact EvAll.nil) | (focus (repeat (first | apply EvAll.cons | exact EvAll.nil | (apply EvC.gv; exact rfl; (with_reducible first | exact Imp.refl _ | (apply Imp.left; exact Imp.refl _) | (apply Imp.right; exact Imp.refl _) | (apply Imp.left; apply Imp.left; exact Imp.refl _))) | (apply EvC.now; exact rfl))); done) | exact ext_blk _ _ _ | (focus (repeat (first | apply List.Mem.head | apply List.Mem.tail | apply List.mem_append_right)))); (first | (apply EvC.gv; exact rfl; (with_reducible first | exact Imp.refl _ | (apply Imp.left; exact Imp.refl _) | (apply Imp.right; exact Imp.refl _) | (apply Imp.left; apply Imp.left; exact Imp.refl _))) | (apply EvC.now; exact rfl) | exact rfl | (with_reducible exact EvAll.nil) | (focus (repeat (first | apply EvAll.cons | exact EvAll.nil | (apply EvC.gv; exact rfl; (with_reducible first | exact Imp.refl _ | (apply Imp.left; exact Imp.refl _) | (apply Imp.right; exact Imp.refl _) | (apply Imp.left; apply Imp.left; exact Imp.refl _))) | (apply EvC.now; exact rfl))); done) | exact ext_blk _ _ _ | (focus (repeat (first | apply List.Mem.head | apply List.Mem.tail | apply List.mem_append_right)))); exact rfl; (exact HSUB.out); (simp only [List.set_cons_succ, List.set_cons_zero]; exact rfl))
    | ((with_reducible apply q_pl); (with_reducible apply t_move); (apply EvC.now; exact rfl); (simp only [List.set_cons_succ, List.set_cons_zero]; exact rfl)))
          refine wpT_nil ?_
          refine wpG_two hR (i := 1) (j := 9) (by kernel_rfl) ?_ ?_
          · clear hR; intro w hR
            refine opQ hR rfl rfl (t_one tBlks (EvC.now rfl) (by (focus (repeat (first | apply List.Mem.head | apply List.Mem.tail | apply List.mem_append_right)))) rfl) (by (simp only [List.set_cons_succ, List.set_cons_zero]; exact rfl)) ?_
            clear hR; intro w hR
            refine ⟨hR.drop (by (focus (first | exact ((List.Sublist.cons _ (List.sublist_append_right sK _)).trans (List.sublist_append_right sl _)) | exact (List.Sublist.cons _ (List.Sublist.cons _ (List.sublist_append_right sK _))) | exact (List.Sublist.trans ((List.Sublist.cons _ (List.sublist_append_right sK _)).trans (List.sublist_append_right sl _)) (List.sublist_append_right _ _)) | exact List.Sublist.cons _ (List.Sublist.trans ((List.Sublist.cons _ (List.sublist_append_right sK _)).trans (List.sublist_append_right sl _)) (List.sublist_append_right _ _)) | exact (List.Sublist.trans ((List.Sublist.cons _ (List.sublist_append_right sK _)).trans (List.sublist_append_right sl _)) (List.sublist_append_right _ _))))), ?_⟩
            refine wpG_one hR (i := 9) (by kernel_rfl) ?_
            clear hR; intro w hR
            refine opCallO hR Try.call6 rfl rfl rfl ?_
            refine (IH.out a z _ (hza.own hR)).mono ?_
            rintro en w' ⟨s3, d3, rfl, hO, hBR⟩
            replace hR := hR.join hO
            have hI3 := (hBR _ _ _ hO fun _ h => h).isS
            clear hO
            refine ⟨_, rfl, hR.drop (by (focus (first | exact ((List.Sublist.cons _ (List.sublist_append_right sK _)).trans (List.sublist_append_right sl _)) | exact (List.Sublist.cons _ (List.Sublist.cons _ (List.sublist_append_right sK _))) | exact (List.Sublist.trans ((List.Sublist.cons _ (List.sublist_append_right sK _)).trans (List.sublist_append_right sl _)) (List.sublist_append_right _ _)) | exact List.Sublist.cons _ (List.Sublist.trans ((List.Sublist.cons _ (List.sublist_append_right sK _)).trans (List.sublist_append_right sl _)) (List.sublist_append_right _ _)) | exact (List.Sublist.trans ((List.Sublist.cons _ (List.sublist_append_right sK _)).trans (List.sublist_append_right sl _)) (List.sublist_append_right _ _))))), ?_⟩
            simp only [List.set_cons_succ, List.set_cons_zero]
            refine wpG_one hR (i := 10) (by kernel_rfl) ?_
            clear hR; intro w hR
            refine opBuildS hR rfl rfl rfl (bBlk1 d3.t hI3.1 hI3.2) ?_
            clear hR; intro g9 w hR
            refine ⟨hR.drop (by (focus (first | exact ((List.Sublist.cons _ (List.sublist_append_right sK _)).trans (List.sublist_append_right sl _)) | exact (List.Sublist.cons _ (List.Sublist.cons _ (List.sublist_append_right sK _))) | exact (List.Sublist.trans ((List.Sublist.cons _ (List.sublist_append_right sK _)).trans (List.sublist_append_right sl _)) (List.sublist_append_right _ _)) | exact List.Sublist.cons _ (List.Sublist.trans ((List.Sublist.cons _ (List.sublist_append_right sK _)).trans (List.sublist_append_right sl _)) (List.sublist_append_right _ _)) | exact (List.Sublist.trans ((List.Sublist.cons _ (List.sublist_append_right sK _)).trans (List.sublist_append_right sl _)) (List.sublist_append_right _ _))))), ?_⟩
            simp only [List.set_cons_succ, List.set_cons_zero]
            replace hR := hR.perm ((List.perm_middle).trans ((List.perm_append_comm_assoc sl s3 _).cons _))
            refine wpG_appG hR (i := 11) (by kernel_rfl) tBlksB rfl rfl rfl rfl Les.head hS (fun w1 h1 => Sl.rd (RwIs.sl (RwIs.all (k := 3) (n := 1) (c := encK d3.t d3.v d3.x) rfl (by decide))) h1 (fun r hr => by rw [List.mem_singleton.1 hr]; exact List.mem_append_right _ (.head _)) (by simpa [cellsK] using one_blk d3.t hI3.1 hI3.2)) (by simp only [maxLen]; omega) (by omega) (.cons _ ((List.Sublist.cons _ (List.sublist_append_right sK _)).trans (List.sublist_append_right s3 _))) ?_
            clear hR hS; intro s2 v2 w hR hS
            simp only [List.set_cons_succ, List.set_cons_zero]
            obtain ⟨a2, m2, c2, hv2⟩ := Sl.shapeK hS
            subst hv2
            refine wpG_addr hR (i := 12) (fBlk 2 (by decide)) (by kernel_rfl) rfl rfl (by (simp only [List.set_cons_succ, List.set_cons_zero]; exact rfl)) ?_
            clear hR; intro w hR
            refine wpG_put1 (l' := s2 ++ ((g9, encK d3.t d3.v d3.x, 25) :: (s3 ++ ((g4, encK (t % 4 + 1) nilS (.slice a2 m2 c2), 25) :: (sK ++ [(g2, encK t v x, 25)]))))) hR tBlks (i := 13) (by kernel_rfl) rfl rfl rfl (by (focus (repeat (first | apply List.Mem.head | apply List.Mem.tail | apply List.mem_append_right)))) (put_kx _ _ _ _ _ _) (by simp [encK]) rfl (Upd.skip _ (.tail (Upd.skip _ .head))) ((List.Sublist.cons _ ((List.Sublist.cons _ (List.sublist_append_right sK _)).trans (List.sublist_append_right s3 _))).trans (List.sublist_append_right s2 _)) ?_
            clear hR; intro w hR
            refine wpG_end hR (by kernel_rfl) ?_
            clear hR; intro w hR
            go_wp2_with fail
            go_round
            case rel =>
              refine ⟨k + 1, s2, s3 ++ sK, _, ds ++ [d3], rfl, by omega, by omega, (hR.drop ((List.Sublist.refl s2).append (.cons _ (List.Sublist.refl _)))).perm (List.Perm.append_left s2 (by rw [List.append_assoc]; exact List.perm_middle.symm)), ?_, by simp [hdl], ?_, by rw [HKM.out]; exact hkid.more (by rw [kids_len hkl]; exact hdl) hBR⟩
              · rw [List.flatMap_append]; exact hS.cast (by simp [cellsK])
              · intro d hd
                rcases List.mem_append.1 hd with hd | hd
                · exact hsl d hd
                · rw [List.mem_singleton.1 hd]; exact hI3
            case measure => simp [intOf]; omega
          · clear hR; intro w hR
            refine opCallO hR Try.call6 rfl rfl rfl ?_
            refine (IH.out a z _ (hza.own hR)).mono ?_
            rintro en w' ⟨s3, d3, rfl, hO, hBR⟩
            replace hR := hR.join hO
            have hI3 := (hBR _ _ _ hO fun _ h => h).isS
            clear hO
            refine ⟨_, rfl, hR.drop (by (focus (first | exact ((List.Sublist.cons _ (List.sublist_append_right sK _)).trans (List.sublist_append_right sl _)) | exact (List.Sublist.cons _ (List.Sublist.cons _ (List.sublist_append_right sK _))) | exact (List.Sublist.trans ((List.Sublist.cons _ (List.sublist_append_right sK _)).trans (List.sublist_append_right sl _)) (List.sublist_append_right _ _)) | exact List.Sublist.cons _ (List.Sublist.trans ((List.Sublist.cons _ (List.sublist_append_right sK _)).trans (List.sublist_append_right sl _)) (List.sublist_append_right _ _)) | exact (List.Sublist.trans ((List.Sublist.cons _ (List.sublist_append_right sK _)).trans (List.sublist_append_right sl _)) (List.sublist_append_right _ _))))), ?_⟩
            simp only [List.set_cons_succ, List.set_cons_zero]
            refine wpG_two hR (i := 1) (j := 10) (by kernel_rfl) ?_ ?_
            · clear hR; intro w hR
              refine opQ hR rfl rfl (t_one tBlks (EvC.now rfl) (by (focus (repeat (first | apply List.Mem.head | apply List.Mem.tail | apply List.mem_append_right)))) rfl) (by (simp only [List.set_cons_succ, List.set_cons_zero]; exact rfl)) ?_
              clear hR; intro w hR
              refine ⟨hR.drop (by (focus (first | exact ((List.Sublist.cons _ (List.sublist_append_right sK _)).trans (List.sublist_append_right sl _)) | exact (List.Sublist.cons _ (List.Sublist.cons _ (List.sublist_append_right sK _))) | exact (List.Sublist.trans ((List.Sublist.cons _ (List.sublist_append_right sK _)).trans (List.sublist_append_right sl _)) (List.sublist_append_right _ _)) | exact List.Sublist.cons _ (List.Sublist.trans ((List.Sublist.cons _ (List.sublist_append_right sK _)).trans (List.sublist_append_right sl _)) (List.sublist_append_right _ _)) | exact (List.Sublist.trans ((List.Sublist.cons _ (List.sublist_append_right sK _)).trans (List.sublist_append_right sl _)) (List.sublist_append_right _ _))))), ?_⟩
              refine wpG_one hR (i := 10) (by kernel_rfl) ?_
              clear hR; intro w hR
              refine opBuildS hR rfl rfl rfl (bBlk1 d3.t hI3.1 hI3.2) ?_
              clear hR; intro g9 w hR
              refine ⟨hR.drop (by (focus (first | exact ((List.Sublist.cons _ (List.sublist_append_right sK _)).trans (List.sublist_append_right sl _)) | exact (List.Sublist.cons _ (List.Sublist.cons _ (List.sublist_append_right sK _))) | exact (List.Sublist.trans ((List.Sublist.cons _ (List.sublist_append_right sK _)).trans (List.sublist_append_right sl _)) (List.sublist_append_right _ _)) | exact List.Sublist.cons _ (List.Sublist.trans ((List.Sublist.cons _ (List.sublist_append_right sK _)).trans (List.sublist_append_right sl _)) (List.sublist_append_right _ _)) | exact (List.Sublist.trans ((List.Sublist.cons _ (List.sublist_append_right sK _)).trans (List.sublist_append_right sl _)) (List.sublist_append_right _ _))))), ?_⟩
              simp only [List.set_cons_succ, List.set_cons_zero]
              replace hR := hR.perm ((List.perm_middle).trans ((List.perm_append_comm_assoc sl s3 _).cons _))
              refine wpG_appG hR (i := 11) (by kernel_rfl) tBlksB rfl rfl rfl rfl Les.head hS (fun w1 h1 => Sl.rd (RwIs.sl (RwIs.all (k := 3) (n := 1) (c := encK d3.t d3.v d3.x) rfl (by decide))) h1 (fun r hr => by rw [List.mem_singleton.1 hr]; exact List.mem_append_right _ (.head _)) (by simpa [cellsK] using one_blk d3.t hI3.1 hI3.2)) (by simp only [maxLen]; omega) (by omega) (.cons _ ((List.Sublist.cons _ (List.sublist_append_right sK _)).trans (List.sublist_append_right s3 _))) ?_
              clear hR hS; intro s2 v2 w hR hS
              simp only [List.set_cons_succ, List.set_cons_zero]
              obtain ⟨a2, m2, c2, hv2⟩ := Sl.shapeK hS
              subst hv2
              refine wpG_addr hR (i := 12) (fBlk 2 (by decide)) (by kernel_rfl) rfl rfl (by (simp only [List.set_cons_succ, List.set_cons_zero]; exact rfl)) ?_
              clear hR; intro w hR
              refine wpG_put1 (l' := s2 ++ ((g9, encK d3.t d3.v d3.x, 25) :: (s3 ++ ((g4, encK (t % 4 + 1) nilS (.slice a2 m2 c2), 25) :: (sK ++ [(g2, encK t v x, 25)]))))) hR tBlks (i := 13) (by kernel_rfl) rfl rfl rfl (by (focus (repeat (first | apply List.Mem.head | apply List.Mem.tail | apply List.mem_append_right)))) (put_kx _ _ _ _ _ _) (by simp [encK]) rfl (Upd.skip _ (.tail (Upd.skip _ .head))) ((List.Sublist.cons _ ((List.Sublist.cons _ (List.sublist_append_right sK _)).trans (List.sublist_append_right s3 _))).trans (List.sublist_append_right s2 _)) ?_
              clear hR; intro w hR
              refine wpG_end hR (by kernel_rfl) ?_
              clear hR; intro w hR
              go_wp2_with fail
              go_round
              case rel =>
                refine ⟨k + 1, s2, s3 ++ sK, _, ds ++ [d3], rfl, by omega, by omega, (hR.drop ((List.Sublist.refl s2).append (.cons _ (List.Sublist.refl _)))).perm (List.Perm.append_left s2 (by rw [List.append_assoc]; exact List.perm_middle.symm)), ?_, by simp [hdl], ?_, by rw [HKM.out]; exact hkid.more (by rw [kids_len hkl]; exact hdl) hBR⟩
                · rw [List.flatMap_append]; exact hS.cast (by simp [cellsK])
                · intro d hd
                  rcases List.mem_append.1 hd with hd | hd
                  · exact hsl d hd
                  · rw [List.mem_singleton.1 hd]; exact hI3
              case measure => simp [intOf]; omega
            · clear hR; intro w hR
              refine opBuildS hR rfl rfl rfl (bBlk1 d3.t hI3.1 hI3.2) ?_
              clear hR; intro g9 w hR
              refine ⟨hR.drop (by (focus (first | exact ((List.Sublist.cons _ (List.sublist_append_right sK _)).trans (List.sublist_append_right sl _)) | exact (List.Sublist.cons _ (List.Sublist.cons _ (List.sublist_append_right sK _))) | exact (List.Sublist.trans ((List.Sublist.cons _ (List.sublist_append_right sK _)).trans (List.sublist_append_right sl _)) (List.sublist_append_right _ _)) | exact List.Sublist.cons _ (List.Sublist.trans ((List.Sublist.cons _ (List.sublist_append_right sK _)).trans (List.sublist_append_right sl _)) (List.sublist_append_right _ _)) | exact (List.Sublist.trans ((List.Sublist.cons _ (List.sublist_append_right sK _)).trans (List.sublist_append_right sl _)) (List.sublist_append_right _ _))))), ?_⟩
              simp only [List.set_cons_succ, List.set_cons_zero]
              refine wpG_one hR (i := 1) (by kernel_rfl) ?_
              clear hR; intro w hR
              refine opQ hR rfl rfl (t_one tBlks (EvC.now rfl) (by (focus (repeat (first | apply List.Mem.head | apply List.Mem.tail | apply List.mem_append_right)))) rfl) (by (simp only [List.set_cons_succ, List.set_cons_zero]; exact rfl)) ?_
              clear hR; intro w hR
              refine ⟨hR.drop (by (focus (first | exact ((List.Sublist.cons _ (List.sublist_append_right sK _)).trans (List.sublist_append_right sl _)) | exact (List.Sublist.cons _ (List.Sublist.cons _ (List.sublist_append_right sK _))) | exact (List.Sublist.trans ((List.Sublist.cons _ (List.sublist_append_right sK _)).trans (List.sublist_append_right sl _)) (List.sublist_append_right _ _)) | exact List.Sublist.cons _ (List.Sublist.trans ((List.Sublist.cons _ (List.sublist_append_right sK _)).trans (List.sublist_append_right sl _)) (List.sublist_append_right _ _)) | exact (List.Sublist.trans ((List.Sublist.cons _ (List.sublist_append_right sK _)).trans (List.sublist_append_right sl _)) (List.sublist_append_right _ _))))), ?_⟩
              replace hR := hR.perm ((List.perm_middle).trans ((List.perm_append_comm_assoc sl s3 _).cons _))
              refine wpG_appG hR (i := 11) (by kernel_rfl) tBlksB rfl rfl rfl rfl Les.head hS (fun w1 h1 => Sl.rd (RwIs.sl (RwIs.all (k := 3) (n := 1) (c := encK d3.t d3.v d3.x) rfl (by decide))) h1 (fun r hr => by rw [List.mem_singleton.1 hr]; exact List.mem_append_right _ (.head _)) (by simpa [cellsK] using one_blk d3.t hI3.1 hI3.2)) (by simp only [maxLen]; omega) (by omega) (.cons _ ((List.Sublist.cons _ (List.sublist_append_right sK _)).trans (List.sublist_append_right s3 _))) ?_
              clear hR hS; intro s2 v2 w hR hS
              simp only [List.set_cons_succ, List.set_cons_zero]
              obtain ⟨a2, m2, c2, hv2⟩ := Sl.shapeK hS
              subst hv2
              refine wpG_addr hR (i := 12) (fBlk 2 (by decide)) (by kernel_rfl) rfl rfl (by (simp only [List.set_cons_succ, List.set_cons_zero]; exact rfl)) ?_
              clear hR; intro w hR
              refine wpG_put1 (l' := s2 ++ ((g9, encK d3.t d3.v d3.x, 25) :: (s3 ++ ((g4, encK (t % 4 + 1) nilS (.slice a2 m2 c2), 25) :: (sK ++ [(g2, encK t v x, 25)]))))) hR tBlks (i := 13) (by kernel_rfl) rfl rfl rfl (by (focus (repeat (first | apply List.Mem.head | apply List.Mem.tail | apply List.mem_append_right)))) (put_kx _ _ _ _ _ _) (by simp [encK]) rfl (Upd.skip _ (.tail (Upd.skip _ .head))) ((List.Sublist.cons _ ((List.Sublist.cons _ (List.sublist_append_right sK _)).trans (List.sublist_append_right s3 _))).trans (List.sublist_append_right s2 _)) ?_
              clear hR; intro w hR
              refine wpG_end hR (by kernel_rfl) ?_
              clear hR; intro w hR
              go_wp2_with fail
              go_round
              case rel =>
                refine ⟨k + 1, s2, s3 ++ sK, _, ds ++ [d3], rfl, by omega, by omega, (hR.drop ((List.Sublist.refl s2).append (.cons _ (List.Sublist.refl _)))).perm (List.Perm.append_left s2 (by rw [List.append_assoc]; exact List.perm_middle.symm)), ?_, by simp [hdl], ?_, by rw [HKM.out]; exact hkid.more (by rw [kids_len hkl]; exact hdl) hBR⟩
                · rw [List.flatMap_append]; exact hS.cast (by simp [cellsK])
                · intro d hd
                  rcases List.mem_append.1 hd with hd | hd
                  · exact hsl d hd
                  · rw [List.mem_singleton.1 hd]; exact hI3
              case measure => simp [intOf]; omega
        · have hke : kids n l k = kids n l 3 := by
            simp only [Bool.and_eq_false_iff, decide_eq_false_iff_not] at h
            rcases h with h | h
            · have h4 : k = l.length := by omega
              unfold kids
              rw [List.take_of_length_le (by omega), List.take_of_length_le (by omega)]
            · have h4 : k = 3 := by omega
              rw [h4]
          clear h
          rw [hke] at hkid
          have hkl3 : (kids n l 3).length = k := by rw [← hke]; exact kids_len hkl
          obtain ⟨a2, m2, c2, hv2⟩ := Sl.shapeK hS
          subst hv2
          replace hR := hR.perm List.perm_middle.symm
          repeat (first
    | ((with_reducible apply wpList_put hR tBlk); exact rfl; exact rfl; exact rfl; (focus (repeat (first | apply List.Mem.head | apply List.Mem.tail | apply List.mem_append_right))); exact put_blk _ rfl _ _ _; exact rfl; simp [encK]; exact one_blk _ IsS.nil ⟨⟨_, _, _, rfl⟩⟩; (focus (repeat (first | apply Upd.head | apply Upd.tail))); clear hR; intro w hR)
    | ((with_reducible apply q_ls hR); exact rfl; ((with_reducible first | apply t_addr (fRec _ (by decide)) | apply t_addr (fBlk _ (by decide)) | apply t_one tByteR | apply t_one tSlR | apply t_one tIntR | apply t_one tBlks | apply t_part tBlk) <;> (first | (apply EvC.gv; exact rfl; (with_reducible first | exact Imp.refl _ | (apply Imp.left; exact Imp.refl _) | (apply Imp.right; exact Imp.refl _) | (apply Imp.left; apply Imp.left; exact Imp.refl _))) | (apply EvC.now; exact rfl) | exact rfl | (with_reducible exact EvAll.nil) | (focus (repeat (first | apply EvAll.cons | exact EvAll.nil | (apply EvC.gv; exact rfl; (with_reducible first | exact Imp.refl _ | (apply Imp.left; exact Imp.refl _) | (apply Imp.right; exact Imp.refl _) | (apply Imp.left; apply Imp.left; exact Imp.refl _))) | (apply EvC.now; exact rfl))); done) | exact ext_blk _ _ _ | (focus (repeat (first | apply List.Mem.head | apply List.Mem.tail | apply List.mem_append_right))))); (simp only [List.set_cons_succ, List.set_cons_zero]; exact rfl); clear hR; intro w hR)
          | go_step)
          exact post_row hR rfl (by rfl) (by (focus (repeat (first | apply List.Mem.head | apply List.Mem.tail | apply List.mem_append_right)))) Try.underlying25 rfl iBlk (by rfl) (by rfl) ⟨_, ⟨t % 4 + 1, nilS, .slice a2 m2 c2⟩, rfl, hR, by
            rw [← HZ.out]
            intro wb w L hO hs
            subst hdl
            exact .mk (ds := ds) (by omega) (SrcW.none w) (by simp [maxLen]) (hS.rd hO (fun r h => hs r (.tail _ (List.mem_append_left _ h))) (cellsK_one hsl)) hkl3.symm (fun i d z h1 h2 => hkid i d z h1 h2 wb w L hO fun r h => hs r (.tail _ (List.mem_append_right _ (List.mem_append_left _ h))))⟩
    · simp only [Bool.and_eq_false_iff, decide_eq_false_iff_not] at h
      omega
/-- A small block near to whatever block. -/
theorem r24near_any : ∀ (n : Nat), n ≤ 3 → ∀ (d : BlkV) (z : BlkZ) (w0 : World), BlkAt w0 d z →
    Calls Try.prog 6 #[.agg (encK d.t d.v d.x), .int .i64 ((n + 1 : Nat) : Int)] w0 fun e w' => ∃ s d', e = .returned (.agg (encK d'.t d'.v d'.x)) ∧ Own w0 w' s ∧ BlkR s d' (nearB n z)
  | 0, h, d, z, w0, hB => r24near_leaf 0 h d z w0 hB (.inl rfl)
  | n + 1, h, d, z, w0, hB => by
    by_cases hl : z.l = []
    · exact r24near_leaf (n + 1) h d z w0 hB (.inr hl)
    · exact r24near_node n h d z w0 hB hl (r24near_any n (by omega))
end Go.Proofs.Ytalgadinoaeihaa
