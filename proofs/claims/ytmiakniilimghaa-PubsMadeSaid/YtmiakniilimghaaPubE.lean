









/- Package pubs: the closures. No statement of the seat is proved here. -/
import Derived.Test.YtmiakniilimghaaPubD
namespace Go.Proofs.Ytmiakniilimghaa
open Go.ChangeShapes Go.WideShapes Go.ChangeAt Go.RowKit
set_option linter.unusedVariables false
set_option linter.unusedSimpArgs false

theorem tPS : OneTy Try.prog 58 := .of Try.underlying58 rfl (by kernel_rfl)
/-- What a closure takes next of a source: it captured what lies in the rows 'K'. -/
def NextQ (w0 : World) (g : Nat) (sr K : List RowT) (F : FuncId) (cp : Array Value) (out : SrcZ → Value × SrcZ) : Prop :=
  ∀ (w : World) (l X : List RowT) (cs : Array Value) (z : SrcZ), Own w0 w l → Les [(g, cs, 76)] l X → (∀ r ∈ sr, r ∈ X) → (∀ r ∈ K, r ∈ X) → SrcObj w0 sr cs z → z.ok → z.b.length ≤ 1000000 →
    Calls Try.prog F cp w fun e w' => e = .returned (out z).1 ∧ ThenS w0 g X sr (out z).2 w'
def srcK (gc g : Nat) : RowT := (gc, #[.pointer (some ⟨g, 0, none⟩)], 58)
theorem bExt1 (t : List Int) : Built Try.prog 44 [(0, .string (strOfNums t))] (encExt ⟨t, 0, 0⟩) := ⟨by kernel_rfl⟩
def stepT (z : SrcZ) : ExtZ × SrcZ := (⟨(nameZ z).1, 0, 0⟩, (indexZ (nameZ z).2).2)
theorem takenC_any (w0 : World) (g gc : Nat) (sr : List RowT) : NextQ w0 g sr [srcK gc g] 33 #[.pointer (some ⟨gc, 0, none⟩)] fun z => (.agg (encExt (stepT z).1), (stepT z).2) := by
  intro w l X cs z hO hd hY hK hS hok hl
  have hR : Own w0 w ((g, cs, 76) :: X) := hO.les hd
  clear hO hd
  have hKm : (gc, #[Value.pointer (some ⟨g, 0, none⟩)], 58) ∈ X := hK _ (.head _)
  dsimp only
  obtain ⟨⟨t, z2⟩, hv⟩ : ∃ p : List Int × SrcZ, ((nameZ z).1, (indexZ (nameZ z).2).2) = p := ⟨_, rfl⟩
  have HV := Lib.hid (show stepT z = (⟨t, 0, 0⟩, z2) by unfold stepT; rw [← (Prod.mk.inj hv).1, ← (Prod.mk.inj hv).2])
  have H1 := Lib.hid (Prod.mk.inj hv).1
  have H2 := Lib.hid (Prod.mk.inj hv).2
  clear hv
  go_enter Try.func33, Try.ntmps33
  go_wp2_with (first
    | ((with_reducible apply wpList_make hR zExt); exact rfl; clear hR; intro gr w hR; simp only [List.set_cons_succ, List.set_cons_zero])
    | ((with_reducible apply q_ls hR); exact rfl; (with_reducible apply t_one tPS); (apply EvC.now; exact rfl); (focus (repeat (first | exact hKm | apply List.Mem.head | apply List.Mem.tail | apply List.mem_append_right))); exact rfl; (simp only [List.set_cons_succ, List.set_cons_zero]; exact rfl); clear hR; intro w hR)
    | (go_at_call 34; refine (nameQ_any hR (Les.tail Les.one) (fun r hr => .tail _ (hY r hr)) hS hok hl).mono ?_; rw [H1.out, H2.out]; rintro e w' ⟨rfl, cs2, hR2, hS2⟩; clear hR hS; have hR := hR2; clear hR2)
    | ((with_reducible apply wpList_built); exact rfl; exact rfl; exact bExt1 _; (simp only [List.set_cons_succ, List.set_cons_zero]; exact rfl))
    | ((with_reducible apply wpList_put hR tExt); exact rfl; exact rfl; exact rfl; (focus (repeat (first | apply List.Mem.head | apply List.Mem.tail | apply List.mem_append_right))); exact put_ext _ _; exact rfl; simp [encExt]; exact one_ext _; (focus (repeat (first | apply Upd.head | apply Upd.tail | apply Upd.skipC))); clear hR; intro w hR))
  (try simp only [Exit.inBlock, Exit.then])
  exact post_row hR rfl (by rfl) (by (focus (repeat (first | apply List.Mem.head | apply List.Mem.tail | apply List.mem_append_right)))) Try.underlying44 rfl iExt (by rfl) (by rfl) ⟨by rw [HV.out], by rw [HV.out]; exact ⟨cs2, hR.drop (.cons_cons _ (.cons _ (.refl _))), hS2⟩⟩
/-! ### One that is given -/
def stepG (g s f : Int) (z : SrcZ) : PubZ × SrcZ := (⟨g, s, f, (nameZ z).1, (numZ (nameZ z).2 2).1.toNat⟩, (indexZ (numZ (nameZ z).2 2).2).2)
theorem put_pn (p : PubZ) (t : List Int) : PutRel (encPub p) 3 [.string (strOfNums t)] (encPub { p with nm := t }) := ⟨rfl⟩
theorem put_po (p : PubZ) (m : Nat) : PutRel (encPub p) 4 [.int .u16 m] (encPub { p with o := m }) := ⟨rfl⟩
def pubK (go : Nat) (p : PubZ) : RowT := (go, encPub p, 25)
set_option maxHeartbeats 1000000 in
theorem givenC_any (w0 : World) (g gc go : Nat) (sr : List RowT) (p : PubZ) (hp : p.nm = [] ∧ p.o = 0) : NextQ w0 g sr [pubK go p, srcK gc g] 29 #[.pointer (some ⟨go, 0, none⟩), .pointer (some ⟨gc, 0, none⟩)] fun z => (.agg (encPub (stepG p.g p.s p.f z).1), (stepG p.g p.s p.f z).2) := by
  intro w l X cs z hO hd hY hK hS hok hl
  have hR : Own w0 w ((g, cs, 76) :: X) := hO.les hd
  clear hO hd
  have hKp : (go, encPub p, 25) ∈ X := hK _ (.head _)
  have hKm : (gc, #[Value.pointer (some ⟨g, 0, none⟩)], 58) ∈ X := hK _ (.tail _ (.head _))
  have hok1 := (name_goes z).ok hok
  have hl1 := Nat.le_trans (name_goes z).len hl
  have hok2 := (num_goes (nameZ z).2 2).ok hok1
  have hl2 := Nat.le_trans (num_goes (nameZ z).2 2).len hl1
  have hnb := num_lt hok1 2
  have hvv : stepG p.g p.s p.f z = (⟨p.g, p.s, p.f, (nameZ z).1, (numZ (nameZ z).2 2).1.toNat⟩, (indexZ (numZ (nameZ z).2 2).2).2) := rfl
  obtain ⟨⟨t, z1⟩, h1⟩ : ∃ q, nameZ z = q := ⟨_, rfl⟩
  rw [h1] at hok1 hl1 hok2 hl2 hvv hnb
  dsimp only at hok1 hl1 hok2 hl2 hvv hnb
  obtain ⟨⟨o, z2⟩, h2⟩ : ∃ q, numZ z1 2 = q := ⟨_, rfl⟩
  rw [h2] at hok2 hl2 hvv hnb
  dsimp only at hok2 hl2 hvv hnb
  obtain ⟨m, rfl⟩ := Int.eq_ofNat_of_zero_le hnb.1
  obtain ⟨⟨x, z3⟩, h3⟩ : ∃ q, indexZ z2 = q := ⟨_, rfl⟩
  rw [h3, Int.toNat_natCast] at hvv
  dsimp only at hvv
  have HV := Lib.hid hvv
  have H1 := Lib.hid h1
  have H2 := Lib.hid h2
  have H3 := Lib.hid h3
  obtain ⟨pg, ps, pf, pn, po⟩ := p
  obtain ⟨rfl, rfl⟩ := hp
  dsimp only at HV ⊢
  clear hvv h1 h2 h3 hnb
  go_enter Try.func29, Try.ntmps29
  go_upto_region 1 with (first
    | ((with_reducible apply wpList_make hR zPub); exact rfl; clear hR; intro gr w hR; simp only [List.set_cons_succ, List.set_cons_zero]))
  go_upto_region 2 with (first
    | ((with_reducible apply wpList_make hR zPub); exact rfl; clear hR; intro gx w hR; simp only [List.set_cons_succ, List.set_cons_zero])
    | ((with_reducible apply q_ls hR); exact rfl; (with_reducible apply t_part tPub); (apply EvC.now; exact rfl); (focus (repeat (first | exact hKp | apply List.Mem.head | apply List.Mem.tail | apply List.mem_append_right))); (exact ext_pub _); exact rfl; (simp only [List.set_cons_succ, List.set_cons_zero]; exact rfl); clear hR; intro w hR)
    | ((with_reducible apply wpList_put hR tPub); exact rfl; exact rfl; exact rfl; (focus (repeat (first | apply List.Mem.head | apply List.Mem.tail | apply List.mem_append_right))); exact put_pub _ _; exact rfl; simp [encPub]; exact one_pub _; (focus (repeat (first | apply Upd.head | apply Upd.tail | apply Upd.skipC))); clear hR; intro w hR))
  replace hR := hR.les (Les.tail (Les.tail Les.one))
  have hY2 (q : PubZ) : ∀ r ∈ sr, r ∈ (gx, encPub q, 25) :: (gr, encPub zeroP, 25) :: X := fun r hr => .tail _ (.tail _ (hY r hr))
  refine wp_region_some hR [(gc, #[Value.pointer (some ⟨g, 0, none⟩)], 58)] (List.singleton_sublist.2 (by (focus (repeat (first | exact hKm | apply List.Mem.head | apply List.Mem.tail | apply List.mem_append_right))))) [0, 2] 6 (by kernel_rfl) (by kernel_rfl) (by kernel_rfl) rfl ?_
  clear hR; intro hR
  repeat (refine wpT_step rfl ?_; first
    | ((with_reducible apply q_pl); (with_reducible apply t_one tPS); (apply EvC.now; exact rfl); (focus (repeat (first | apply List.Mem.head | apply List.Mem.tail | apply List.mem_append_right))); exact rfl; (simp only [List.set_cons_succ, List.set_cons_zero]; exact rfl))
    | ((first | (with_reducible apply q_pl) | ((with_reducible apply q_gd); (first | (apply GdBy.gt; exact rfl; exact rfl) | (apply GdBy.gf; exact rfl; exact rfl) | (apply GdBy.t; exact rfl; exact rfl) | (apply GdBy.f; exact rfl; exact rfl)))); (first | ((with_reducible first | apply t_move | apply t_assign | apply t_and | apply t_or | apply t_cmp | apply t_not | apply t_addr (fRec _ (by decide)) | apply t_addr (fPub _ (by decide)) | apply t_addr (fExt _ (by decide)) | apply t_one tByteR | apply t_one tSlR | apply t_one tIntR | apply t_one tWordP | apply t_one tNumX | apply t_one tStrO | apply t_part tPub | apply t_part tExt) <;> (first | (apply EvC.gv; exact rfl; (with_reducible first | exact Imp.refl _ | (apply Imp.left; exact Imp.refl _) | (apply Imp.right; exact Imp.refl _) | (apply Imp.left; apply Imp.left; exact Imp.refl _))) | (apply EvC.now; exact rfl) | exact rfl | (with_reducible exact EvAll.nil) | (focus (repeat (first | apply EvAll.cons | exact EvAll.nil | (apply EvC.gv; exact rfl; (with_reducible first | exact Imp.refl _ | (apply Imp.left; exact Imp.refl _) | (apply Imp.right; exact Imp.refl _) | (apply Imp.left; apply Imp.left; exact Imp.refl _))) | (apply EvC.now; exact rfl))); done) | (first | exact ext_pub _ | exact ext_ext _) | (focus (repeat (first | apply List.Mem.head | apply List.Mem.tail | apply List.mem_append_right)))))); (simp only [List.set_cons_succ, List.set_cons_zero]; exact rfl)))
  refine wpT_nil ?_
  refine wpG_callO hR (i := 1) (by kernel_rfl) Try.call30 rfl rfl rfl ?_
  clear hR; intro w hR
  refine (nameX_any hR Les.one (hY2 _) hS hok hl).mono ?_
  rw [H1.out]
  rintro e w' ⟨rfl, cs2, hR2, hS2⟩
  clear hR hS; have hR := hR2; have hS := hS2; clear hR2 hS2
  refine ⟨_, rfl, hR.drop (List.singleton_sublist.2 (by (focus (repeat (first | exact hKm | apply List.Mem.head | apply List.Mem.tail | apply List.mem_append_right))))), ?_⟩
  simp only [List.set_cons_succ, List.set_cons_zero]
  refine wpG_two hR (i := 3) (j := 4) (by kernel_rfl) ?_ ?_
  · skip
    clear hR; intro w hR
    refine opCallO hR Try.call27 rfl rfl rfl ?_
    refine (wordX_any hR Les.one (hY2 _) hS hok1 hl1).mono ?_
    rw [H2.out]
    rintro e w' ⟨rfl, cs2, hR2, hS2⟩
    clear hR hS; have hR := hR2; have hS := hS2; clear hR2 hS2
    refine ⟨_, rfl, hR.drop (List.singleton_sublist.2 (by (focus (repeat (first | exact hKm | apply List.Mem.head | apply List.Mem.tail | apply List.mem_append_right))))), ?_⟩
    simp only [List.set_cons_succ, List.set_cons_zero]
    refine wpG_addr hR (fPub 3 (by decide)) (i := 4) (by kernel_rfl) rfl rfl (by (simp only [List.set_cons_succ, List.set_cons_zero]; exact rfl)) ?_
    clear hR; intro w hR
    refine wpG_put1 hR tStrO (i := 5) (by kernel_rfl) rfl rfl rfl (by (focus (repeat (first | apply List.Mem.head | apply List.Mem.tail | apply List.mem_append_right)))) (put_pn _ _) (by simp [encPub]) rfl (by (focus (repeat (first | apply Upd.head | apply Upd.tail | apply Upd.skipC)))) (List.singleton_sublist.2 (by (focus (repeat (first | exact hKm | apply List.Mem.head | apply List.Mem.tail | apply List.mem_append_right))))) ?_
    clear hR; intro w hR
    refine wpG_addr hR (fPub 4 (by decide)) (i := 6) (by kernel_rfl) rfl rfl (by (simp only [List.set_cons_succ, List.set_cons_zero]; exact rfl)) ?_
    clear hR; intro w hR
    refine wpG_put1 hR tWordP (i := 7) (by kernel_rfl) rfl rfl rfl (by (focus (repeat (first | apply List.Mem.head | apply List.Mem.tail | apply List.mem_append_right)))) (put_po _ _) (by simp [encPub]) rfl (by (focus (repeat (first | apply Upd.head | apply Upd.tail | apply Upd.skipC)))) (List.singleton_sublist.2 (by (focus (repeat (first | exact hKm | apply List.Mem.head | apply List.Mem.tail | apply List.mem_append_right))))) ?_
    clear hR; intro w hR
    refine wpG_end hR (by kernel_rfl) ?_
    clear hR; intro w hR
    go_wp2_with (first
        | ((with_reducible apply q_ls hR); exact rfl; (with_reducible apply t_one tPS); (apply EvC.now; exact rfl); (focus (repeat (first | exact hKm | apply List.Mem.head | apply List.Mem.tail | apply List.mem_append_right))); exact rfl; (simp only [List.set_cons_succ, List.set_cons_zero]; exact rfl); clear hR; intro w hR)
        | (go_at_call 25; refine (indexX_any hR Les.one (hY2 _) hS hok2 hl2).mono ?_; rw [H3.out]; rintro e w' ⟨rfl, cs3, hR3, hS3⟩; clear hR hS; have hR := hR3; clear hR3)
        | ((with_reducible apply wpList_put hR tPub); exact rfl; exact rfl; exact rfl; (focus (repeat (first | apply List.Mem.head | apply List.Mem.tail | apply List.mem_append_right))); exact put_pub _ _; exact rfl; simp [encPub]; exact one_pub _; (focus (repeat (first | apply Upd.head | apply Upd.tail | apply Upd.skipC))); clear hR; intro w hR)
        | ((with_reducible apply q_ls hR); exact rfl; ((with_reducible first | apply t_addr (fRec _ (by decide)) | apply t_addr (fPub _ (by decide)) | apply t_addr (fExt _ (by decide)) | apply t_one tByteR | apply t_one tSlR | apply t_one tIntR | apply t_one tWordP | apply t_one tNumX | apply t_one tStrO | apply t_part tPub | apply t_part tExt) <;> (first | (apply EvC.gv; exact rfl; (with_reducible first | exact Imp.refl _ | (apply Imp.left; exact Imp.refl _) | (apply Imp.right; exact Imp.refl _) | (apply Imp.left; apply Imp.left; exact Imp.refl _))) | (apply EvC.now; exact rfl) | exact rfl | (with_reducible exact EvAll.nil) | (focus (repeat (first | apply EvAll.cons | exact EvAll.nil | (apply EvC.gv; exact rfl; (with_reducible first | exact Imp.refl _ | (apply Imp.left; exact Imp.refl _) | (apply Imp.right; exact Imp.refl _) | (apply Imp.left; apply Imp.left; exact Imp.refl _))) | (apply EvC.now; exact rfl))); done) | (first | exact ext_pub _ | exact ext_ext _) | (focus (repeat (first | apply List.Mem.head | apply List.Mem.tail | apply List.mem_append_right))))); (simp only [List.set_cons_succ, List.set_cons_zero]; exact rfl); clear hR; intro w hR))
    (try simp only [Exit.inBlock, Exit.then])
    exact post_row hR rfl (by rfl) (by (focus (repeat (first | apply List.Mem.head | apply List.Mem.tail | apply List.mem_append_right)))) Try.underlying25 rfl iPub (by rfl) (by rfl) ⟨by rw [HV.out], by rw [HV.out]; exact ⟨cs3, hR.drop (.cons_cons _ (.cons _ (.cons _ (.refl _)))), hS3⟩⟩
  · clear hR; intro w hR
    refine opQ hR rfl rfl (t_addr (fPub 3 (by decide)) (EvC.now rfl)) (by (simp only [List.set_cons_succ, List.set_cons_zero]; exact rfl)) ?_
    clear hR; intro w hR
    refine ⟨hR.drop (List.singleton_sublist.2 (by (focus (repeat (first | exact hKm | apply List.Mem.head | apply List.Mem.tail | apply List.mem_append_right))))), ?_⟩
    refine wpG_callO hR (i := 3) (by kernel_rfl) Try.call27 rfl rfl rfl ?_
    clear hR; intro w hR
    refine (wordX_any hR Les.one (hY2 _) hS hok1 hl1).mono ?_
    rw [H2.out]
    rintro e w' ⟨rfl, cs2, hR2, hS2⟩
    clear hR hS; have hR := hR2; have hS := hS2; clear hR2 hS2
    refine ⟨_, rfl, hR.drop (List.singleton_sublist.2 (by (focus (repeat (first | exact hKm | apply List.Mem.head | apply List.Mem.tail | apply List.mem_append_right))))), ?_⟩
    simp only [List.set_cons_succ, List.set_cons_zero]
    refine wpG_put1 hR tStrO (i := 5) (by kernel_rfl) rfl rfl rfl (by (focus (repeat (first | apply List.Mem.head | apply List.Mem.tail | apply List.mem_append_right)))) (put_pn _ _) (by simp [encPub]) rfl (by (focus (repeat (first | apply Upd.head | apply Upd.tail | apply Upd.skipC)))) (List.singleton_sublist.2 (by (focus (repeat (first | exact hKm | apply List.Mem.head | apply List.Mem.tail | apply List.mem_append_right))))) ?_
    clear hR; intro w hR
    refine wpG_addr hR (fPub 4 (by decide)) (i := 6) (by kernel_rfl) rfl rfl (by (simp only [List.set_cons_succ, List.set_cons_zero]; exact rfl)) ?_
    clear hR; intro w hR
    refine wpG_put1 hR tWordP (i := 7) (by kernel_rfl) rfl rfl rfl (by (focus (repeat (first | apply List.Mem.head | apply List.Mem.tail | apply List.mem_append_right)))) (put_po _ _) (by simp [encPub]) rfl (by (focus (repeat (first | apply Upd.head | apply Upd.tail | apply Upd.skipC)))) (List.singleton_sublist.2 (by (focus (repeat (first | exact hKm | apply List.Mem.head | apply List.Mem.tail | apply List.mem_append_right))))) ?_
    clear hR; intro w hR
    refine wpG_end hR (by kernel_rfl) ?_
    clear hR; intro w hR
    go_wp2_with (first
        | ((with_reducible apply q_ls hR); exact rfl; (with_reducible apply t_one tPS); (apply EvC.now; exact rfl); (focus (repeat (first | exact hKm | apply List.Mem.head | apply List.Mem.tail | apply List.mem_append_right))); exact rfl; (simp only [List.set_cons_succ, List.set_cons_zero]; exact rfl); clear hR; intro w hR)
        | (go_at_call 25; refine (indexX_any hR Les.one (hY2 _) hS hok2 hl2).mono ?_; rw [H3.out]; rintro e w' ⟨rfl, cs3, hR3, hS3⟩; clear hR hS; have hR := hR3; clear hR3)
        | ((with_reducible apply wpList_put hR tPub); exact rfl; exact rfl; exact rfl; (focus (repeat (first | apply List.Mem.head | apply List.Mem.tail | apply List.mem_append_right))); exact put_pub _ _; exact rfl; simp [encPub]; exact one_pub _; (focus (repeat (first | apply Upd.head | apply Upd.tail | apply Upd.skipC))); clear hR; intro w hR)
        | ((with_reducible apply q_ls hR); exact rfl; ((with_reducible first | apply t_addr (fRec _ (by decide)) | apply t_addr (fPub _ (by decide)) | apply t_addr (fExt _ (by decide)) | apply t_one tByteR | apply t_one tSlR | apply t_one tIntR | apply t_one tWordP | apply t_one tNumX | apply t_one tStrO | apply t_part tPub | apply t_part tExt) <;> (first | (apply EvC.gv; exact rfl; (with_reducible first | exact Imp.refl _ | (apply Imp.left; exact Imp.refl _) | (apply Imp.right; exact Imp.refl _) | (apply Imp.left; apply Imp.left; exact Imp.refl _))) | (apply EvC.now; exact rfl) | exact rfl | (with_reducible exact EvAll.nil) | (focus (repeat (first | apply EvAll.cons | exact EvAll.nil | (apply EvC.gv; exact rfl; (with_reducible first | exact Imp.refl _ | (apply Imp.left; exact Imp.refl _) | (apply Imp.right; exact Imp.refl _) | (apply Imp.left; apply Imp.left; exact Imp.refl _))) | (apply EvC.now; exact rfl))); done) | (first | exact ext_pub _ | exact ext_ext _) | (focus (repeat (first | apply List.Mem.head | apply List.Mem.tail | apply List.mem_append_right))))); (simp only [List.set_cons_succ, List.set_cons_zero]; exact rfl); clear hR; intro w hR))
    (try simp only [Exit.inBlock, Exit.then])
    exact post_row hR rfl (by rfl) (by (focus (repeat (first | apply List.Mem.head | apply List.Mem.tail | apply List.mem_append_right)))) Try.underlying25 rfl iPub (by rfl) (by rfl) ⟨by rw [HV.out], by rw [HV.out]; exact ⟨cs3, hR.drop (.cons_cons _ (.cons _ (.cons _ (.refl _)))), hS3⟩⟩
end Go.Proofs.Ytmiakniilimghaa
