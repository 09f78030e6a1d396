









/- The contracts of package iter: a block that is read. No statement of the seat is proved here. -/
import Derived.Test.YtalgadinoaeihaaItrC
import Derived.Test.YtalgadinoaeihaaNear24
import Derived.Test.YtalgadinoaeihaaIdxK
import Derived.Test.YtalgadinoaeihaaEat
namespace Go.Proofs.Ytalgadinoaeihaa
open Go.ChangeShapes Go.WideShapes Go.ChangeAt Go.RowKit
set_option linter.unusedVariables false
set_option linter.unusedSimpArgs false

/-! ### What is read, as a state -/
theorem name_most {s : SrcZ} (h : s.ok) : (nameZ s).1.length ≤ 255 := by
  have hb := byte_bd h
  unfold nameZ takeZ
  split
  · rw [List.length_take]; omega
  · simp
theorem many_goes {f : SrcZ → BlkZ × SrcZ} (hf : ∀ s, Goes s (f s).2) : ∀ (k : Nat) (s : SrcZ), Goes s (manyR f k s).2
  | 0, s => Goes.refl s
  | k + 1, s => by
    unfold manyR
    split
    · exact Goes.refl s
    · exact (hf s).trans (many_goes hf k (f s).2)
theorem blk_goes : ∀ (n : Nat) (s : SrcZ), Goes s (blkR n s).2
  | 0, s => wrong_goes s 8
  | n + 1, s => by
    have h2 := (num_goes s 2).trans (num_goes (numZ s 2).2 2)
    unfold blkR
    split
    · exact h2.trans (name_goes _)
    · exact h2.trans (many_goes (blk_goes n) _ _)
/-- Of so many blocks some are read. -/
def ManyIs (f : SrcZ → BlkZ × SrcZ) (M k : Nat) (s2 : SrcZ) (zs : List BlkZ) (s : SrcZ) : Prop := manyR f M s2 = (zs ++ (manyR f (M - k) s).1, (manyR f (M - k) s).2)
theorem ManyIs.start (f : SrcZ → BlkZ × SrcZ) (M : Nat) (s2 : SrcZ) : ManyIs f M 0 s2 [] s2 := by unfold ManyIs; simp
theorem ManyIs.more {f : SrcZ → BlkZ × SrcZ} {M k : Nat} {s2 s : SrcZ} {zs : List BlkZ} (h : ManyIs f M k s2 zs s) (hk : k < M) (he : s.e = 0) : ManyIs f M (k + 1) s2 (zs ++ [(f s).1]) (f s).2 := by
  unfold ManyIs at h ⊢
  rw [h, show M - k = (M - (k + 1)) + 1 by omega]
  conv => lhs; unfold manyR
  rw [if_neg (by simp [he])]
  simp
theorem ManyIs.bad {f : SrcZ → BlkZ × SrcZ} {M k : Nat} {s2 s : SrcZ} {zs : List BlkZ} (h : ManyIs f M k s2 zs s) (he : s.e ≠ 0) : manyR f M s2 = (zs, s) := by
  unfold ManyIs at h
  rw [h]
  cases hm : M - k with
  | zero => simp [manyR]
  | succ j =>
    unfold manyR
    rw [if_pos he, List.append_nil]
theorem ManyIs.done {f : SrcZ → BlkZ × SrcZ} {M : Nat} {s2 s : SrcZ} {zs : List BlkZ} (h : ManyIs f M M s2 zs s) : manyR f M s2 = (zs, s) := by
  unfold ManyIs at h
  rw [h, Nat.sub_self]
  simp [manyR]
/-! ### Blocks in rows of the call's own, and in such as '[]byte(s)' made -/
def BlkM (s ms : List RowT) (d : BlkV) (z : BlkZ) : Prop := ∀ (wb w : World) (l : List RowT), Own wb w l → (∀ r ∈ s, r ∈ l) → MarksAt w ms → BlkAt w d z
def KidsM (s ms : List RowT) (ds : List BlkV) (l : List BlkZ) : Prop := ∀ (i : Nat) (d : BlkV) (z : BlkZ), ds[i]? = some d → l[i]? = some z → BlkM s ms d z
theorem KidsM.more {s s' ms ms' : List RowT} {ds : List BlkV} {l : List BlkZ} {d : BlkV} {z : BlkZ} (h : KidsM s ms ds l) (hn : ds.length = l.length) (hd : BlkM s' ms' d z) : KidsM (s' ++ s) (ms' ++ ms) (ds ++ [d]) (l ++ [z]) := by
  intro i d2 z2 h1 h2 wb w L hO hs hM
  by_cases hi : i < ds.length
  · rw [List.getElem?_append_left hi] at h1
    rw [List.getElem?_append_left (by omega)] at h2
    exact h i d2 z2 h1 h2 wb w L hO (fun r hr => hs r (List.mem_append_right _ hr)) (fun m hm => hM m (List.mem_append_right _ hm))
  · have hlt := (List.getElem?_eq_some_iff.1 h1).1
    rw [List.length_append, List.length_singleton] at hlt
    obtain rfl : i = ds.length := by omega
    rw [List.getElem?_append_right (Nat.le_refl _), Nat.sub_self] at h1
    rw [List.getElem?_append_right (by omega), hn, Nat.sub_self] at h2
    obtain rfl := Option.some.inj h1
    obtain rfl := Option.some.inj h2
    exact hd wb w L hO (fun r hr => hs r (List.mem_append_left _ hr)) (fun m hm => hM m (List.mem_append_left _ hm))
theorem KidsM.nil (s ms : List RowT) : KidsM s ms [] [] := fun i d z h => by simp at h
theorem bBlk0 : Built Try.prog 25 [] (encK 0 nilS nilS) := ⟨by kernel_rfl⟩
theorem bBlkT (t : Int) : Built Try.prog 25 [(0, .int .i64 t)] (encK t nilS nilS) := ⟨by kernel_rfl⟩
section
variable {P : Program} {ops : Array Oper} {md : Region.Mode} {Q : Exit → Act → World → Prop} {n : Nat} {M : Array Bool} {W w0 w : World} {l lC : List RowT} {ks : List Nat} {a : Act}
theorem wpG_endK (hR : Own w0 w l) (hA : Apart W w ks) (hr : Region.ready md ops M = []) (h : ∀ w', Own w0 w' l → Apart W w' ks → Q .normal a w') : wpG P md ops (fun w => Own w0 w lC) (NoPanic Q) n M a w :=
  wpG_done hr fun w' hb _ => NoPanic.normal (h w' (hR.grow hb) (hA.below hb))
end
def ReadPost (w0 w : World) (g : Nat) (X sr : List RowT) (n : Nat) (s : SrcZ) (e : Ending) (w' : World) : Prop :=
  ∃ d sn ms, e = .returned (.agg (encK d.t d.v d.x)) ∧ ThenS w0 g (sn ++ X) sr (blkR n s).2 w' ∧ MarksAt w' ms ∧ BlkM sn ms d (blkR n s).1 ∧ Apart w w' [g]
theorem iread_zero {w0 w : World} {l X sr : List RowT} {g : Nat} {cs : Array Value} {s : SrcZ} (hO : Own w0 w l) (hd : Les [(g, cs, 69)] l X) (hY : ∀ r ∈ sr, r ∈ X) (hS : SrcObj w0 sr cs s) (hok : s.ok) (hl : s.b.length ≤ 1000000) :
    Calls Try.prog 43 #[.pointer (some ⟨g, 0, none⟩), .int .i64 ((0 : Nat) : Int)] w fun e w' => ReadPost w0 w g X sr 0 s e w' := by
  have hR : Own w0 w ((g, cs, 69) :: X) := hO.les hd
  have hA := Apart.refl w [g]
  clear hO hd
  obtain ⟨Z, hZ⟩ : ∃ Z, wrongZ s 8 = Z := ⟨_, rfl⟩
  have HZ := Lib.hid hZ
  clear hZ
  go_enter Try.func43, Try.ntmps43
  go_upto_if 8 with (first
    | ((with_reducible apply wpList_makeK hR hA zBlk); exact rfl; (have hsz := hA.size); clear hR hA; intro g4 wk hR hA h4; (replace h4 := Nat.le_trans hsz h4); clear hsz; simp only [List.set_cons_succ, List.set_cons_zero])
    | ((with_reducible apply q_lsK hR hA); exact rfl; ((with_reducible first | apply t_addr (fRec _ (by decide)) | apply t_addr (fBlk _ (by decide)) | apply t_one tByteR | apply t_one tSlR | apply t_one tIntR | apply t_one tBlks | apply t_part tBlk) <;> (first | (apply EvC.gv; exact rfl; (with_reducible first | exact Imp.refl _ | (apply Imp.left; exact Imp.refl _) | (apply Imp.right; exact Imp.refl _) | (apply Imp.left; apply Imp.left; exact Imp.refl _))) | (apply EvC.now; exact rfl) | exact rfl | (with_reducible exact EvAll.nil) | (focus (repeat (first | apply EvAll.cons | exact EvAll.nil | (apply EvC.gv; exact rfl; (with_reducible first | exact Imp.refl _ | (apply Imp.left; exact Imp.refl _) | (apply Imp.right; exact Imp.refl _) | (apply Imp.left; apply Imp.left; exact Imp.refl _))) | (apply EvC.now; exact rfl))); done) | exact ext_blk _ _ _ | (focus (repeat (first | apply List.Mem.head | apply List.Mem.tail | apply List.mem_append_right))))); (simp only [List.set_cons_succ, List.set_cons_zero]; exact rfl); clear hR hA; intro wk hR hA))
  refine wp_cond_at (nm := true) rfl (by simp) (fun _ => ?_) (fun h => absurd h (by decide))
  go_wp2_with (first
    | (go_at_call 44; refine (wrongK_any hR (Les.tail Les.one) (fun r hr => .tail _ (hY r hr)) hS hok 8 (by decide) (by decide) (by decide)).mono ?_; rintro e w' ⟨rfl, ⟨cs2, hR2, hS2⟩, hA2⟩; replace hA := hA.trans hA2 (fun k hk _ => hk); clear hR hA2; have hR := hR2; clear hR2)
    | ((with_reducible apply q_lsK hR hA); exact rfl; (with_reducible apply t_built); exact rfl; exact bBlk0; (simp only [List.set_cons_succ, List.set_cons_zero]; exact rfl); clear hR hA; intro wk hR hA)
    | ((with_reducible apply wpList_putA hR hA tBlk); exact rfl; exact rfl; exact rfl; (focus (repeat (first | apply List.Mem.head | apply List.Mem.tail | apply List.mem_append_right))); exact put_blk _ rfl _ _ _; exact rfl; (simp [encK]); (exact one_blk _ IsS.nil IsS.nil); (exact .tail .head); (exact fun h => absurd h (Nat.not_lt.2 h4)); clear hR hA; intro wk hR hA)
    | ((with_reducible apply q_lsK hR hA); exact rfl; ((with_reducible first | apply t_addr (fRec _ (by decide)) | apply t_addr (fBlk _ (by decide)) | apply t_one tByteR | apply t_one tSlR | apply t_one tIntR | apply t_one tBlks | apply t_part tBlk) <;> (first | (apply EvC.gv; exact rfl; (with_reducible first | exact Imp.refl _ | (apply Imp.left; exact Imp.refl _) | (apply Imp.right; exact Imp.refl _) | (apply Imp.left; apply Imp.left; exact Imp.refl _))) | (apply EvC.now; exact rfl) | exact rfl | (with_reducible exact EvAll.nil) | (focus (repeat (first | apply EvAll.cons | exact EvAll.nil | (apply EvC.gv; exact rfl; (with_reducible first | exact Imp.refl _ | (apply Imp.left; exact Imp.refl _) | (apply Imp.right; exact Imp.refl _) | (apply Imp.left; apply Imp.left; exact Imp.refl _))) | (apply EvC.now; exact rfl))); done) | exact ext_blk _ _ _ | (focus (repeat (first | apply List.Mem.head | apply List.Mem.tail | apply List.mem_append_right))))); (simp only [List.set_cons_succ, List.set_cons_zero]; exact rfl); clear hR hA; intro wk hR hA))
  exact post_row hR rfl (by rfl) (.tail _ (.head _)) Try.underlying25 rfl iBlk (by rfl) (by rfl) ⟨⟨0, nilS, nilS⟩, [], [], rfl, ⟨cs2, hR.drop (.cons_cons _ (.cons _ (List.Sublist.refl _))), hS2⟩, MarksAt.nil _, fun wb w l _ _ _ => .leaf (by decide) (SrcW.none w) (by decide), hA⟩
set_option maxHeartbeats 1000000 in
set_option maxRecDepth 100000 in
theorem iread_leaf (n : Nat) (hn : n ≤ 7) {w0 w : World} {l X sr : List RowT} {g : Nat} {cs : Array Value} {s : SrcZ} (hO : Own w0 w l) (hd : Les [(g, cs, 69)] l X) (hY : ∀ r ∈ sr, r ∈ X) (hS : SrcObj w0 sr cs s) (hok : s.ok) (hl : s.b.length ≤ 1000000) (hz0 : (numZ (numZ s 2).2 2).1 = 0) :
    Calls Try.prog 43 #[.pointer (some ⟨g, 0, none⟩), .int .i64 ((n + 1 : Nat) : Int)] w fun e w' => ReadPost w0 w g X sr (n + 1) s e w' := by
  have hR : Own w0 w ((g, cs, 69) :: X) := hO.les hd
  have hA := Apart.refl w [g]
  clear hO hd
  have g1 := num_goes s 2
  obtain ⟨⟨t, s1⟩, ht⟩ : ∃ p, numZ s 2 = p := ⟨_, rfl⟩
  have htb := num_lt hok 2
  rw [ht] at g1 htb
  dsimp only at g1 htb
  have hok1 := g1.ok hok
  have hl1 : s1.b.length ≤ 1000000 := Nat.le_trans g1.len hl
  have g2 := num_goes s1 2
  obtain ⟨⟨m, s2⟩, hm⟩ : ∃ p, numZ s1 2 = p := ⟨_, rfl⟩
  have hmb := num_lt hok1 2
  rw [hm] at g2 hmb
  dsimp only at g2 hmb
  have hok2 := g2.ok hok1
  have hl2 : s2.b.length ≤ 1000000 := Nat.le_trans g2.len hl1
  obtain ⟨M, rfl⟩ := Int.eq_ofNat_of_zero_le hmb.1
  have hMb : M ≤ 65535 := by omega
  have htt : 0 ≤ t ∧ t ≤ 65535 := by omega
  have HT := Lib.hid ht
  have HM := Lib.hid hm
  have HCT := Lib.hid (show IntKind.i64.wrap t = t from IntWalk.i64_in _ (by omega))
  clear g1 g2 htb hmb
  rw [ht] at hz0
  dsimp only at hz0
  rw [hm] at hz0
  have hM0 : M = 0 := by dsimp only at hz0; omega
  subst hM0
  obtain ⟨⟨nm, s3⟩, hnm⟩ : ∃ p, nameZ s2 = p := ⟨_, rfl⟩
  have HN := Lib.hid hnm
  have HB := Lib.hid (show blkR (n + 1) s = (.mk t nm [], s3) by
    conv => lhs; unfold blkR
    rw [ht]
    dsimp only
    rw [hm]
    dsimp only
    rw [if_pos (by rfl), hnm])
  have hnb : bytesOk nm := by have := name_bytes hok2; rw [hnm] at this; exact this
  have hnl : nm.length ≤ 255 := by have := name_most hok2; rw [hnm] at this; exact this
  clear hnm ht hm hz0
  go_enter Try.func43, Try.ntmps43
  go_upto_if 8 with (first
      | ((with_reducible apply wpList_makeK hR hA zBlk); exact rfl; (have hsz := hA.size); clear hR hA; intro g4 wk hR hA h4; (replace h4 := Nat.le_trans hsz h4); clear hsz; simp only [List.set_cons_succ, List.set_cons_zero])
      | ((with_reducible apply q_lsK hR hA); exact rfl; ((with_reducible first | apply t_addr (fRec _ (by decide)) | apply t_addr (fBlk _ (by decide)) | apply t_one tByteR | apply t_one tSlR | apply t_one tIntR | apply t_one tBlks | apply t_part tBlk) <;> (first | (apply EvC.gv; exact rfl; (with_reducible first | exact Imp.refl _ | (apply Imp.left; exact Imp.refl _) | (apply Imp.right; exact Imp.refl _) | (apply Imp.left; apply Imp.left; exact Imp.refl _))) | (apply EvC.now; exact rfl) | exact rfl | (with_reducible exact EvAll.nil) | (focus (repeat (first | apply EvAll.cons | exact EvAll.nil | (apply EvC.gv; exact rfl; (with_reducible first | exact Imp.refl _ | (apply Imp.left; exact Imp.refl _) | (apply Imp.right; exact Imp.refl _) | (apply Imp.left; apply Imp.left; exact Imp.refl _))) | (apply EvC.now; exact rfl))); done) | exact ext_blk _ _ _ | (focus (repeat (first | apply List.Mem.head | apply List.Mem.tail | apply List.mem_append_right))))); (simp only [List.set_cons_succ, List.set_cons_zero]; exact rfl); clear hR hA; intro wk hR hA))
  refine wp_cond_at (nm := false) rfl (by simp; omega) (fun h => absurd h (by decide)) (fun _ => ?_)
  go_wp2_with fail
  refine (wordK_any hR (Les.tail Les.one) (fun r hr => .tail _ (hY r hr)) hS hok hl).mono ?_
  rw [HT.out]
  rintro e w' ⟨rfl, ⟨cs2, hR2, hS2⟩, hA2⟩
  replace hA := hA.trans hA2 (fun k hk _ => hk)
  clear hR hA2 hS
  have hR := hR2
  clear hR2
  dsimp only at hS2
  go_upto_region 5 with (first
      | ((with_reducible apply q_lsK hR hA); exact rfl; (with_reducible apply t_conv Try.underlying35 Try.underlying3); (apply EvC.now; exact rfl); exact HCT.out; (simp only [List.set_cons_succ, List.set_cons_zero]; exact rfl); clear hR hA; intro wk hR hA)
      | ((with_reducible apply q_lsK hR hA); exact rfl; (with_reducible apply t_built); exact rfl; exact bBlkT _; (simp only [List.set_cons_succ, List.set_cons_zero]; exact rfl); clear hR hA; intro wk hR hA)
      | ((with_reducible apply wpList_makeK hR hA zBlk); exact rfl; (have hsz := hA.size); clear hR hA; intro g5 wk hR hA h5; (replace h5 := Nat.le_trans hsz h5); clear hsz; simp only [List.set_cons_succ, List.set_cons_zero])
      | ((with_reducible apply wpList_putA hR hA tBlk); exact rfl; exact rfl; exact rfl; (focus (repeat (first | apply List.Mem.head | apply List.Mem.tail | apply List.mem_append_right))); exact put_blk _ rfl _ _ _; exact rfl; (simp [encK]); (exact one_blk _ IsS.nil IsS.nil); (exact .head); (exact fun h => absurd h (Nat.not_lt.2 h5)); clear hR hA; intro wk hR hA)
      | ((with_reducible apply q_lsK hR hA); exact rfl; ((with_reducible first | apply t_addr (fRec _ (by decide)) | apply t_addr (fBlk _ (by decide)) | apply t_one tByteR | apply t_one tSlR | apply t_one tIntR | apply t_one tBlks | apply t_part tBlk) <;> (first | (apply EvC.gv; exact rfl; (with_reducible first | exact Imp.refl _ | (apply Imp.left; exact Imp.refl _) | (apply Imp.right; exact Imp.refl _) | (apply Imp.left; apply Imp.left; exact Imp.refl _))) | (apply EvC.now; exact rfl) | exact rfl | (with_reducible exact EvAll.nil) | (focus (repeat (first | apply EvAll.cons | exact EvAll.nil | (apply EvC.gv; exact rfl; (with_reducible first | exact Imp.refl _ | (apply Imp.left; exact Imp.refl _) | (apply Imp.right; exact Imp.refl _) | (apply Imp.left; apply Imp.left; exact Imp.refl _))) | (apply EvC.now; exact rfl))); done) | exact ext_blk _ _ _ | (focus (repeat (first | apply List.Mem.head | apply List.Mem.tail | apply List.mem_append_right))))); (simp only [List.set_cons_succ, List.set_cons_zero]; exact rfl); clear hR hA; intro wk hR hA))
  go_wp2_with fail
  refine (wordK_any hR (Les.tail Les.one) (fun r hr => .tail _ (.tail _ (hY r hr))) hS2 hok1 hl1).mono ?_
  rw [HM.out]
  rintro e w' ⟨rfl, ⟨cs3, hR2, hS3⟩, hA2⟩
  replace hA := hA.trans hA2 (fun k hk _ => hk)
  clear hR hA2 hS2
  have hR := hR2
  clear hR2
  dsimp only at hS3
  have h45 : g5 ≠ g4 := by
    have := hR.apart
    simp only [List.map_cons, List.nodup_cons, List.mem_cons, not_or] at this
    exact this.2.1.1
  go_upto_if 19 with (first
    | ((with_reducible apply q_lsK hR hA); exact rfl; ((with_reducible first | apply t_addr (fRec _ (by decide)) | apply t_addr (fBlk _ (by decide)) | apply t_one tByteR | apply t_one tSlR | apply t_one tIntR | apply t_one tBlks | apply t_part tBlk) <;> (first | (apply EvC.gv; exact rfl; (with_reducible first | exact Imp.refl _ | (apply Imp.left; exact Imp.refl _) | (apply Imp.right; exact Imp.refl _) | (apply Imp.left; apply Imp.left; exact Imp.refl _))) | (apply EvC.now; exact rfl) | exact rfl | (with_reducible exact EvAll.nil) | (focus (repeat (first | apply EvAll.cons | exact EvAll.nil | (apply EvC.gv; exact rfl; (with_reducible first | exact Imp.refl _ | (apply Imp.left; exact Imp.refl _) | (apply Imp.right; exact Imp.refl _) | (apply Imp.left; apply Imp.left; exact Imp.refl _))) | (apply EvC.now; exact rfl))); done) | exact ext_blk _ _ _ | (focus (repeat (first | apply List.Mem.head | apply List.Mem.tail | apply List.mem_append_right))))); (simp only [List.set_cons_succ, List.set_cons_zero]; exact rfl); clear hR hA; intro wk hR hA))
  refine wp_cond_at (nm := true) rfl (by simp) (fun _ => ?_) (fun h => absurd h (by decide))
  go_wp2_with fail
  refine (nameK_any hR Les.one (fun r hr => .tail _ (.tail _ (hY r hr))) hS3 hok2 hl2).mono ?_
  rw [HN.out]
  rintro e w' ⟨rfl, ⟨cs4, hR2, hS4⟩, hA2⟩
  replace hA := hA.trans hA2 (fun k hk _ => hk)
  clear hR hA2 hS3
  have hR := hR2
  clear hR2
  dsimp only at hS4
  go_upto_region 8 with (first
    | ((with_reducible apply wpList_bytesK hR hA Try.underlying9 Try.underlying22 Try.underlying5 hnb); exact rfl; exact rfl; clear hR hA; intro gb cb ms wm hR hA0 hMk hSM; (have hA := Apart.refl wm [g5, g4]); (have hRm := hR); simp only [List.set_cons_succ, List.set_cons_zero])
    | ((with_reducible apply wpList_put1A hR hA tSlR); exact rfl; exact rfl; exact rfl; (focus (repeat (first | apply List.Mem.head | apply List.Mem.tail | apply List.mem_append_right))); exact put_kv _ _ _ _ _ _; (simp [encK]); exact rfl; (exact .tail .head); exact (fun _ => .head _); clear hR hA; intro wk hR hA)
    | ((with_reducible apply q_lsK hR hA); exact rfl; ((with_reducible first | apply t_addr (fRec _ (by decide)) | apply t_addr (fBlk _ (by decide)) | apply t_one tByteR | apply t_one tSlR | apply t_one tIntR | apply t_one tBlks | apply t_part tBlk) <;> (first | (apply EvC.gv; exact rfl; (with_reducible first | exact Imp.refl _ | (apply Imp.left; exact Imp.refl _) | (apply Imp.right; exact Imp.refl _) | (apply Imp.left; apply Imp.left; exact Imp.refl _))) | (apply EvC.now; exact rfl) | exact rfl | (with_reducible exact EvAll.nil) | (focus (repeat (first | apply EvAll.cons | exact EvAll.nil | (apply EvC.gv; exact rfl; (with_reducible first | exact Imp.refl _ | (apply Imp.left; exact Imp.refl _) | (apply Imp.right; exact Imp.refl _) | (apply Imp.left; apply Imp.left; exact Imp.refl _))) | (apply EvC.now; exact rfl))); done) | exact ext_blk _ _ _ | (focus (repeat (first | apply List.Mem.head | apply List.Mem.tail | apply List.mem_append_right))))); (simp only [List.set_cons_succ, List.set_cons_zero]; exact rfl); clear hR hA; intro wk hR hA))
  go_wp2_with fail
  go_loopw [25] (fun i wr => i = .int .u16 0 ∧ Own w0 wr ((g, cs4, 69) :: (g5, encK t (.slice (some ⟨gb, 0, none⟩) nm.length cb) nilS, 25) :: (g4, encK 0 nilS nilS, 25) :: X) ∧ Apart wm wr [g5, g4]) (fun i _ => 0)
  case atStart => exact ⟨rfl, hR, hA⟩
  case round =>
    clear hR hA
    obtain ⟨rfl, hR, hA⟩ := hrel
    go_upto_if 26 with fail
    refine wp_cond_at (nm := false) rfl (by simp) (fun h => absurd h (by decide)) (fun _ => ?_)
    repeat (first
    | ((with_reducible apply wpList_putA hR hA tBlk); exact rfl; exact rfl; exact rfl; (focus (repeat (first | apply List.Mem.head | apply List.Mem.tail | apply List.mem_append_right))); exact put_blk _ rfl _ _ _; exact rfl; (simp [encK]); (exact one_blk _ ⟨⟨_, _, _, rfl⟩⟩ IsS.nil); (exact .tail (.tail .head)); (exact fun _ => .tail _ (.head _)); clear hR hA; intro wk hR hA)
    | ((with_reducible apply q_lsK hR hA); exact rfl; ((with_reducible first | apply t_addr (fRec _ (by decide)) | apply t_addr (fBlk _ (by decide)) | apply t_one tByteR | apply t_one tSlR | apply t_one tIntR | apply t_one tBlks | apply t_part tBlk) <;> (first | (apply EvC.gv; exact rfl; (with_reducible first | exact Imp.refl _ | (apply Imp.left; exact Imp.refl _) | (apply Imp.right; exact Imp.refl _) | (apply Imp.left; apply Imp.left; exact Imp.refl _))) | (apply EvC.now; exact rfl) | exact rfl | (with_reducible exact EvAll.nil) | (focus (repeat (first | apply EvAll.cons | exact EvAll.nil | (apply EvC.gv; exact rfl; (with_reducible first | exact Imp.refl _ | (apply Imp.left; exact Imp.refl _) | (apply Imp.right; exact Imp.refl _) | (apply Imp.left; apply Imp.left; exact Imp.refl _))) | (apply EvC.now; exact rfl))); done) | exact ext_blk _ _ _ | (focus (repeat (first | apply List.Mem.head | apply List.Mem.tail | apply List.mem_append_right))))); (simp only [List.set_cons_succ, List.set_cons_zero]; exact rfl); clear hR hA; intro wk hR hA)
          | go_step)
    have hsub : ∀ k ∈ [g5, g4], k ∈ (((g, cs4, 69) :: (g5, encK t nilS nilS, 25) :: (g4, encK 0 nilS nilS, 25) :: X : List RowT)).map (·.1) := fun k hk => by
      simp only [List.mem_cons, List.not_mem_nil, or_false] at hk
      rcases hk with rfl | rfl
      · exact .tail _ (.head _)
      · exact .tail _ (.tail _ (.head _))
    have hMe := hMk.apart hRm hsub hA
    have hAe : Apart w wk [g] := hA0.trans hA (fun k hk hlt => by
      simp only [List.mem_cons, List.not_mem_nil, or_false] at hk
      rcases hk with rfl | rfl <;> omega)
    exact post_row hR rfl (by rfl) (.tail _ (.tail _ (.head _))) Try.underlying25 rfl iBlk (by rfl) (by rfl) ⟨⟨t, .slice (some ⟨gb, 0, none⟩) nm.length cb, nilS⟩, [], ms, rfl, by
      rw [HB.out]
      exact ⟨cs4, hR.drop (.cons_cons _ (.cons _ (.cons _ (List.Sublist.refl _)))), hS4⟩, hMe, by
      rw [HB.out]
      exact fun wb w2 l2 hO2 hs2 hM2 => .leaf (by omega) (hSM wb w2 l2 hO2 hs2 hM2) (by simp only [maxLen]; omega), hAe⟩
def ReadIs (w0 we : World) (g g4 g5 : Nat) (X sr : List RowT) (t : Int) (n M : Nat) (s2 : SrcZ) (i : Value) (wr : World) : Prop :=
  ∃ (k : Nat) (sl sK ms : List RowT) (vx : Value) (ds : List BlkV) (zs : List BlkZ) (sS : SrcZ) (csS : Array Value), i = .int .u16 k ∧ k ≤ M ∧ Own w0 wr ((g, csS, 69) :: (sl ++ ((g5, encK t nilS vx, 25) :: (sK ++ ((g4, encK 0 nilS nilS, 25) :: X))))) ∧ SrcObj w0 sr csS sS ∧
    Sl 25 3 sl vx k (ds.flatMap cellsK) ∧ ds.length = k ∧ zs.length = k ∧ SlsK ds ∧ KidsM sK ms ds zs ∧ MarksAt wr ms ∧ Apart we wr [g] ∧ sS.ok ∧ sS.b.length ≤ 1000000 ∧ ManyIs (blkR n) M k s2 zs sS ∧ ∀ j ∈ sl.map (·.1), we.heap.size ≤ j
set_option maxHeartbeats 4000000 in
set_option maxRecDepth 100000 in
theorem iread_node (n : Nat) (hn : n ≤ 7) (IH0 : ∀ (w0 w : World) (l X sr : List RowT) (g : Nat) (cs : Array Value) (s : SrcZ), Own w0 w l → Les [(g, cs, 69)] l X → (∀ r ∈ sr, r ∈ X) → SrcObj w0 sr cs s → s.ok → s.b.length ≤ 1000000 →
      Calls Try.prog 43 #[.pointer (some ⟨g, 0, none⟩), .int .i64 (n : Int)] w fun e w' => ReadPost w0 w g X sr n s e w')
    {w0 w : World} {l X sr : List RowT} {g : Nat} {cs : Array Value} {s : SrcZ} (hO : Own w0 w l) (hd : Les [(g, cs, 69)] l X) (hY : ∀ r ∈ sr, r ∈ X) (hS : SrcObj w0 sr cs s) (hok : s.ok) (hl : s.b.length ≤ 1000000) (hz0 : (numZ (numZ s 2).2 2).1 ≠ 0) :
    Calls Try.prog 43 #[.pointer (some ⟨g, 0, none⟩), .int .i64 ((n + 1 : Nat) : Int)] w fun e w' => ReadPost w0 w g X sr (n + 1) s e w' := by
  have IH := Lib.hid IH0
  clear IH0
  have hR : Own w0 w ((g, cs, 69) :: X) := hO.les hd
  have hA := Apart.refl w [g]
  clear hO hd
  have g1 := num_goes s 2
  obtain ⟨⟨t, s1⟩, ht⟩ : ∃ p, numZ s 2 = p := ⟨_, rfl⟩
  have htb := num_lt hok 2
  rw [ht] at g1 htb
  dsimp only at g1 htb
  have hok1 := g1.ok hok
  have hl1 : s1.b.length ≤ 1000000 := Nat.le_trans g1.len hl
  have g2 := num_goes s1 2
  obtain ⟨⟨m, s2⟩, hm⟩ : ∃ p, numZ s1 2 = p := ⟨_, rfl⟩
  have hmb := num_lt hok1 2
  rw [hm] at g2 hmb
  dsimp only at g2 hmb
  have hok2 := g2.ok hok1
  have hl2 : s2.b.length ≤ 1000000 := Nat.le_trans g2.len hl1
  obtain ⟨M, rfl⟩ := Int.eq_ofNat_of_zero_le hmb.1
  have hMb : M ≤ 65535 := by omega
  have htt : 0 ≤ t ∧ t ≤ 65535 := by omega
  have HT := Lib.hid ht
  have HM := Lib.hid hm
  have HCT := Lib.hid (show IntKind.i64.wrap t = t from IntWalk.i64_in _ (by omega))
  clear g1 g2 htb hmb
  rw [ht] at hz0
  dsimp only at hz0
  rw [hm] at hz0
  dsimp only at hz0
  have hM0 : M ≠ 0 := fun h => hz0 (by rw [h]; rfl)
  have HB := Lib.hid (show blkR (n + 1) s = (.mk t [] (manyR (blkR n) M s2).1, (manyR (blkR n) M s2).2) by
    conv => lhs; unfold blkR
    rw [ht]
    dsimp only
    rw [hm]
    dsimp only
    rw [if_neg hz0, Int.toNat_natCast])
  have HSUB := Lib.hid (show IntKind.i64.wrap (((n + 1 : Nat) : Int) - 1) = (n : Int) by rw [IntWalk.i64_in _ (by omega)]; omega)
  clear ht hm hz0
  obtain ⟨we, hwe⟩ : ∃ we, we = w := ⟨_, rfl⟩
  go_enter Try.func43, Try.ntmps43
  go_upto_if 8 with (first
      | ((with_reducible apply wpList_makeK hR hA zBlk); exact rfl; (have hsz := hA.size); clear hR hA; intro g4 wk hR hA h4; (replace h4 := Nat.le_trans hsz h4); clear hsz; simp only [List.set_cons_succ, List.set_cons_zero])
      | ((with_reducible apply q_lsK hR hA); exact rfl; ((with_reducible first | apply t_addr (fRec _ (by decide)) | apply t_addr (fBlk _ (by decide)) | apply t_one tByteR | apply t_one tSlR | apply t_one tIntR | apply t_one tBlks | apply t_part tBlk) <;> (first | (apply EvC.gv; exact rfl; (with_reducible first | exact Imp.refl _ | (apply Imp.left; exact Imp.refl _) | (apply Imp.right; exact Imp.refl _) | (apply Imp.left; apply Imp.left; exact Imp.refl _))) | (apply EvC.now; exact rfl) | exact rfl | (with_reducible exact EvAll.nil) | (focus (repeat (first | apply EvAll.cons | exact EvAll.nil | (apply EvC.gv; exact rfl; (with_reducible first | exact Imp.refl _ | (apply Imp.left; exact Imp.refl _) | (apply Imp.right; exact Imp.refl _) | (apply Imp.left; apply Imp.left; exact Imp.refl _))) | (apply EvC.now; exact rfl))); done) | exact ext_blk _ _ _ | (focus (repeat (first | apply List.Mem.head | apply List.Mem.tail | apply List.mem_append_right))))); (simp only [List.set_cons_succ, List.set_cons_zero]; exact rfl); clear hR hA; intro wk hR hA))
  refine wp_cond_at (nm := false) rfl (by simp; omega) (fun h => absurd h (by decide)) (fun _ => ?_)
  go_wp2_with fail
  refine (wordK_any hR (Les.tail Les.one) (fun r hr => .tail _ (hY r hr)) hS hok hl).mono ?_
  rw [HT.out]
  rintro e w' ⟨rfl, ⟨cs2, hR2, hS2⟩, hA2⟩
  replace hA := hA.trans hA2 (fun k hk _ => hk)
  clear hR hA2 hS
  have hR := hR2
  clear hR2
  dsimp only at hS2
  go_upto_region 5 with (first
      | ((with_reducible apply q_lsK hR hA); exact rfl; (with_reducible apply t_conv Try.underlying35 Try.underlying3); (apply EvC.now; exact rfl); exact HCT.out; (simp only [List.set_cons_succ, List.set_cons_zero]; exact rfl); clear hR hA; intro wk hR hA)
      | ((with_reducible apply q_lsK hR hA); exact rfl; (with_reducible apply t_built); exact rfl; exact bBlkT _; (simp only [List.set_cons_succ, List.set_cons_zero]; exact rfl); clear hR hA; intro wk hR hA)
      | ((with_reducible apply wpList_makeK hR hA zBlk); exact rfl; (have hsz := hA.size); clear hR hA; intro g5 wk hR hA h5; (replace h5 := Nat.le_trans hsz h5); clear hsz; simp only [List.set_cons_succ, List.set_cons_zero])
      | ((with_reducible apply wpList_putA hR hA tBlk); exact rfl; exact rfl; exact rfl; (focus (repeat (first | apply List.Mem.head | apply List.Mem.tail | apply List.mem_append_right))); exact put_blk _ rfl _ _ _; exact rfl; (simp [encK]); (exact one_blk _ IsS.nil IsS.nil); (exact .head); (exact fun h => absurd h (Nat.not_lt.2 h5)); clear hR hA; intro wk hR hA)
      | ((with_reducible apply q_lsK hR hA); exact rfl; ((with_reducible first | apply t_addr (fRec _ (by decide)) | apply t_addr (fBlk _ (by decide)) | apply t_one tByteR | apply t_one tSlR | apply t_one tIntR | apply t_one tBlks | apply t_part tBlk) <;> (first | (apply EvC.gv; exact rfl; (with_reducible first | exact Imp.refl _ | (apply Imp.left; exact Imp.refl _) | (apply Imp.right; exact Imp.refl _) | (apply Imp.left; apply Imp.left; exact Imp.refl _))) | (apply EvC.now; exact rfl) | exact rfl | (with_reducible exact EvAll.nil) | (focus (repeat (first | apply EvAll.cons | exact EvAll.nil | (apply EvC.gv; exact rfl; (with_reducible first | exact Imp.refl _ | (apply Imp.left; exact Imp.refl _) | (apply Imp.right; exact Imp.refl _) | (apply Imp.left; apply Imp.left; exact Imp.refl _))) | (apply EvC.now; exact rfl))); done) | exact ext_blk _ _ _ | (focus (repeat (first | apply List.Mem.head | apply List.Mem.tail | apply List.mem_append_right))))); (simp only [List.set_cons_succ, List.set_cons_zero]; exact rfl); clear hR hA; intro wk hR hA))
  go_wp2_with fail
  refine (wordK_any hR (Les.tail Les.one) (fun r hr => .tail _ (.tail _ (hY r hr))) hS2 hok1 hl1).mono ?_
  rw [HM.out]
  rintro e w' ⟨rfl, ⟨cs3, hR2, hS3⟩, hA2⟩
  replace hA := hA.trans hA2 (fun k hk _ => hk)
  clear hR hA2 hS2
  have hR := hR2
  clear hR2
  dsimp only at hS3
  rw [← hwe] at hA h4 h5
  have h45 : g5 ≠ g4 ∧ g ≠ g5 ∧ g ≠ g4 := by
    have := hR.apart
    simp only [List.map_cons, List.nodup_cons, List.mem_cons, not_or] at this
    exact ⟨this.2.1.1, this.1.1, this.1.2.1⟩
  go_upto_if 19 with (first
    | ((with_reducible apply q_lsK hR hA); exact rfl; ((with_reducible first | apply t_addr (fRec _ (by decide)) | apply t_addr (fBlk _ (by decide)) | apply t_one tByteR | apply t_one tSlR | apply t_one tIntR | apply t_one tBlks | apply t_part tBlk) <;> (first | (apply EvC.gv; exact rfl; (with_reducible first | exact Imp.refl _ | (apply Imp.left; exact Imp.refl _) | (apply Imp.right; exact Imp.refl _) | (apply Imp.left; apply Imp.left; exact Imp.refl _))) | (apply EvC.now; exact rfl) | exact rfl | (with_reducible exact EvAll.nil) | (focus (repeat (first | apply EvAll.cons | exact EvAll.nil | (apply EvC.gv; exact rfl; (with_reducible first | exact Imp.refl _ | (apply Imp.left; exact Imp.refl _) | (apply Imp.right; exact Imp.refl _) | (apply Imp.left; apply Imp.left; exact Imp.refl _))) | (apply EvC.now; exact rfl))); done) | exact ext_blk _ _ _ | (focus (repeat (first | apply List.Mem.head | apply List.Mem.tail | apply List.mem_append_right))))); (simp only [List.set_cons_succ, List.set_cons_zero]; exact rfl); clear hR hA; intro wk hR hA))
  refine wp_cond_at (nm := false) rfl (by simp; omega) (fun h => absurd h (by decide)) (fun _ => ?_)
  go_wp2_with fail
  go_loopw [25] (fun i wr => ReadIs w0 we g g4 g5 X sr t n M s2 i wr) (fun i _ => M - (intOf i).toNat)
  case atStart => exact ⟨0, [], [], [], nilS, [], [], s2, cs3, rfl, Nat.zero_le _, hR, hS3, Sl.nil _ _, rfl, rfl, (fun d h => nomatch h), KidsM.nil _ _, MarksAt.nil _, hA, hok2, hl2, ManyIs.start _ _ _, fun j h => nomatch h⟩
  case round =>
    clear hR hA hS3
    obtain ⟨k, sl, sK, ms, vx, ds, zs, sS, csS, rfl, hkM, hR, hSS, hSl, hdl, hzl, hsl, hkid, hMk, hA0, hokS, hlS, hmany, hslw⟩ := hrel
    obtain ⟨ks, hks⟩ : ∃ ks, ks = g :: g5 :: g4 :: sl.map (·.1) := ⟨_, rfl⟩
    have hRr := hR
    have hsubk : ∀ j ∈ ks, j ∈ ((g, csS, 69) :: (sl ++ ((g5, encK t nilS vx, 25) :: (sK ++ ((g4, encK 0 nilS nilS, 25) :: X)))) : List RowT).map (·.1) := fun j hj => by
      rw [hks] at hj
      simp only [List.map_cons, List.map_append, List.mem_cons, List.mem_append] at hj ⊢
      rcases hj with h | h | h | h
      · exact .inl h
      · exact .inr (.inr (.inl h))
      · exact .inr (.inr (.inr (.inr (.inl h))))
      · exact .inr (.inl h)
    have hksg : ∀ j ∈ ks, j < we.heap.size → j ∈ [g] := fun j hj hlt => by
      rw [hks] at hj
      simp only [List.mem_cons] at hj
      rcases hj with rfl | rfl | rfl | h
      · exact .head _
      · omega
      · omega
      · have := hslw j h; omega
    have hA := Apart.refl wr ks
    have hYX : ∀ r ∈ sr, r ∈ sl ++ ((g5, encK t nilS vx, 25) :: (sK ++ ((g4, encK 0 nilS nilS, 25) :: X))) := fun r hr => by simp [hY r hr]
    by_cases hkM2 : k < M
    · go_upto_if 26 with fail
      refine wp_cond_at (nm := true) rfl (by first | (simp; done) | (simp; omega)) (fun _ => ?_) (fun h => absurd h (by decide))
      go_upto_if 29 with (first
    | (go_at_call 32; refine (errX_any hR Les.one hYX hSS).mono ?_; rintro e w' ⟨rfl, hb⟩; replace hR := hR.grow hb; replace hA := hA.below hb; clear hb)
    | ((with_reducible apply q_lsK hR hA); exact rfl; ((with_reducible first | apply t_addr (fRec _ (by decide)) | apply t_addr (fBlk _ (by decide)) | apply t_one tByteR | apply t_one tSlR | apply t_one tIntR | apply t_one tBlks | apply t_part tBlk) <;> (first | (apply EvC.gv; exact rfl; (with_reducible first | exact Imp.refl _ | (apply Imp.left; exact Imp.refl _) | (apply Imp.right; exact Imp.refl _) | (apply Imp.left; apply Imp.left; exact Imp.refl _))) | (apply EvC.now; exact rfl) | exact rfl | (with_reducible exact EvAll.nil) | (focus (repeat (first | apply EvAll.cons | exact EvAll.nil | (apply EvC.gv; exact rfl; (with_reducible first | exact Imp.refl _ | (apply Imp.left; exact Imp.refl _) | (apply Imp.right; exact Imp.refl _) | (apply Imp.left; apply Imp.left; exact Imp.refl _))) | (apply EvC.now; exact rfl))); done) | exact ext_blk _ _ _ | (focus (repeat (first | apply List.Mem.head | apply List.Mem.tail | apply List.mem_append_right))))); (simp only [List.set_cons_succ, List.set_cons_zero]; exact rfl); clear hR hA; intro wk hR hA))
      by_cases he0 : sS.e = 0
      · refine wp_cond_at (nm := false) rfl (by simp [he0]) (fun h => absurd h (by decide)) (fun _ => ?_)
        have hgS := blk_goes n sS
        have HKV := Lib.hid (show Value.int .u16 ((k : Int) + 1) = .int .u16 ((k + 1 : Nat) : Int) by rw [Int.natCast_add]; rfl)
        have hksg2 : ∀ j ∈ ks, j < we.heap.size → j ∈ [g] := hksg
        go_upto_region 11 with fail
        refine wp_region_some hR [] (List.nil_sublist _) [0, 2, 3, 4] 6 (by kernel_rfl) (by kernel_rfl) (by kernel_rfl) rfl ?_
        replace hA := hA.drew
        clear hR; intro hR
        repeat (refine wpT_step rfl ?_; first
    | ((with_reducible apply q_pl); (with_reducible apply t_addr (fBlk _ (by decide))); (apply EvC.now; exact rfl); (simp only [List.set_cons_succ, List.set_cons_zero]; exact rfl))
    | ((first | (with_reducible apply q_pl) | ((with_reducible apply q_gd); (first | (apply GdBy.gt; exact rfl; exact rfl) | (apply GdBy.gf; exact rfl; exact rfl) | (apply GdBy.t; exact rfl; exact rfl) | (apply GdBy.f; exact rfl; exact rfl)))); (with_reducible apply t_numE); (first | (apply EvC.gv; exact rfl; (with_reducible first | exact Imp.refl _ | (apply Imp.left; exact Imp.refl _) | (apply Imp.right; exact Imp.refl _) | (apply Imp.left; apply Imp.left; exact Imp.refl _))) | (apply EvC.now; exact rfl) | exact rfl | (with_reducible exact EvAll.nil) | (focus (repeat (first | apply EvAll.cons | exact EvAll.nil | (apply EvC.gv; exact rfl; (with_reducible first | exact Imp.refl _ | (apply Imp.left; exact Imp.refl _) | (apply Imp.right; exact Imp.refl _) | (apply Imp.left; apply Imp.left; exact Imp.refl _))) | (apply EvC.now; exact rfl))); done) | exact ext_blk _ _ _ | (focus (repeat (first | apply List.Mem.head | apply List.Mem.tail | apply List.mem_append_right)))); (first | (apply EvC.gv; exact rfl; (with_reducible first | exact Imp.refl _ | (apply Imp.left; exact Imp.refl _) | (apply Imp.right; exact Imp.refl _) | (apply Imp.left; apply Imp.left; exact Imp.refl _))) | (apply EvC.now; exact rfl) | exact rfl | (with_reducible exact EvAll.nil) | (focus (repeat (first | apply EvAll.cons | exact EvAll.nil | (apply EvC.gv; exact rfl; (with_reducible first | exact Imp.refl _ | (apply Imp.left; exact Imp.refl _) | (apply Imp.right; exact Imp.refl _) | (apply Imp.left; apply Imp.left; exact Imp.refl _))) | (apply EvC.now; exact rfl))); done) | exact ext_blk _ _ _ | (focus (repeat (first | apply List.Mem.head | apply List.Mem.tail | apply List.mem_append_right)))); exact rfl; (exact HSUB.out); (simp only [List.set_cons_succ, List.set_cons_zero]; exact rfl))
    | ((with_reducible apply q_pl); (with_reducible apply t_move); (apply EvC.now; exact rfl); (simp only [List.set_cons_succ, List.set_cons_zero]; exact rfl)))
        refine wpT_nil ?_
        refine wpG_twoK hR hA (i := 1) (j := 5) (by kernel_rfl) ?_ ?_
        · clear hR hA; intro w hR hA
          refine opQK hR hA (i := 1) rfl rfl (t_one tBlks (EvC.now rfl) (by (focus (repeat (first | apply List.Mem.head | apply List.Mem.tail | apply List.mem_append_right)))) rfl) (by (simp only [List.set_cons_succ, List.set_cons_zero]; exact rfl)) ?_
          clear hR hA; intro w hR hA
          refine ⟨hR.drop (List.nil_sublist _), ?_⟩
          refine wpG_oneK hR hA (i := 5) (by kernel_rfl) ?_
          clear hR hA; intro w hR hA
          refine opCallO hR Try.call43 rfl rfl rfl ?_
          refine (IH.out _ _ _ _ _ _ _ _ hR Les.one hYX hSS hokS hlS).mono ?_
          rintro en w' ⟨d3, s3, m3, rfl, ⟨cs5, hR2, hS5⟩, hM3, hB3, hA3⟩
          have hA' := hA.trans hA3 (fun k hk _ => by rw [List.mem_singleton.1 hk, hks]; exact .head _)
          have hMk2 : MarksAt w' (m3 ++ ms) := hM3.append (hMk.apart hRr hsubk hA')
          have hAw : Apart we w' [g] := hA0.trans hA' hksg
          clear hR hA hA3 hA' hM3
          have hR := hR2
          clear hR2
          have hA := Apart.refl w' ks
          have hRw := hR
          have hsubw : ∀ j ∈ ks, j ∈ ((g, cs5, 69) :: (s3 ++ (sl ++ ((g5, encK t nilS vx, 25) :: (sK ++ ((g4, encK 0 nilS nilS, 25) :: X))))) : List RowT).map (·.1) := fun j hj => by
            have := hsubk j hj
            simp only [List.map_cons, List.map_append, List.mem_cons, List.mem_append] at this ⊢
            rcases this with h | h
            · exact .inl h
            · exact .inr (.inr h)
          have hI3 := (hB3 _ _ _ hR (fun r hr => .tail _ (List.mem_append_left _ hr)) (fun m hm => hMk2 m (List.mem_append_left _ hm))).isK
          refine ⟨_, rfl, hR.drop (List.nil_sublist _), ?_⟩
          simp only [List.set_cons_succ, List.set_cons_zero]
          refine wpG_oneK hR hA (i := 6) (by kernel_rfl) ?_
          clear hR hA; intro w hR hA
          refine opBuildK hR hA (i := 6) rfl rfl rfl (bBlk1 d3.t hI3.1 hI3.2) ?_
          clear hR hA; intro g9 w hR hA
          refine ⟨hR.drop (List.nil_sublist _), ?_⟩
          simp only [List.set_cons_succ, List.set_cons_zero]
          refine wpG_oneK hR hA (i := 7) (by kernel_rfl) ?_
          clear hR hA; intro w hR hA
          refine opAppW hR hA (i := 7) tBlksB rfl rfl rfl rfl (Les.tail (Les.tail (Les.skip _ Les.head))) hSl (Sl.rd (RwIs.sl (RwIs.all (k := 3) (n := 1) (c := encK d3.t d3.v d3.x) rfl (by decide))) hR (fun r hr => by rw [List.mem_singleton.1 hr]; exact .head _) (by simpa [cellsK] using one_blk d3.t hI3.1 hI3.2)) (by simp only [maxLen]; omega) (by omega) (fun r hr => by rw [hks]; exact .tail _ (.tail _ (.tail _ hr))) ?_
          clear hR hA; intro s2 v2 w hR hS2 hA hw2
          simp only [List.set_cons_succ, List.set_cons_zero]
          obtain ⟨a2, n2, c2, hv2⟩ := Sl.shapeK hS2
          subst hv2
          refine ⟨hR.drop (List.nil_sublist _), ?_⟩
          refine wpG_oneK hR hA (i := 8) (by kernel_rfl) ?_
          clear hR hA; intro w hR hA
          refine opQK hR hA (i := 8) rfl rfl (t_addr (fBlk 2 (by decide)) (EvC.now rfl)) (by (simp only [List.set_cons_succ, List.set_cons_zero]; exact rfl)) ?_
          clear hR hA; intro w hR hA
          refine ⟨hR.drop (List.nil_sublist _), ?_⟩
          refine wpG_oneK hR hA (i := 9) (by kernel_rfl) ?_
          clear hR hA; intro w hR hA
          refine opPutK hR hA (i := 9) (l' := s2 ++ ((g9, encK d3.t d3.v d3.x, 25) :: (g, cs5, 69) :: (s3 ++ ((g5, encK t nilS (.slice a2 n2 c2), 25) :: (sK ++ ((g4, encK 0 nilS nilS, 25) :: X)))))) tBlks rfl rfl rfl rfl (by (focus (repeat (first | apply List.Mem.head | apply List.Mem.tail | apply List.mem_append_right)))) (put_kx _ _ _ _ _ _) (by simp [encK]) rfl (Upd.skip _ (.tail (.tail (Upd.skip _ .head)))) (by rw [hks]; exact .tail _ (.head _)) ?_
          clear hR hA; intro w hR hA
          refine ⟨hR.drop (List.nil_sublist _), ?_⟩
          refine wpG_endK hR hA (by kernel_rfl) ?_
          clear hR hA; intro wz hR hA
          go_wp2_with fail
          go_round
          case rel =>
            have hMz := hMk2.apart hRw hsubw hA
            refine ⟨k + 1, s2, s3 ++ sK, m3 ++ ms, _, ds ++ [d3], zs ++ [(blkR n sS).1], (blkR n sS).2, cs5, HKV.out, by omega, ((hR.drop (List.Sublist.append (List.Sublist.refl _) (List.Sublist.cons _ (List.Sublist.refl _)))).perm ((List.perm_middle.symm).trans (List.Perm.append_left s2 (List.Perm.cons _ (by rw [List.append_assoc]; exact List.perm_middle.symm))))), hS5, ?_, by simp [hdl], by simp [hzl], ?_, hkid.more (by omega) hB3, hMz, hAw.trans hA hksg2, hgS.ok hokS, Nat.le_trans hgS.len hlS, hmany.more hkM2 he0, fun j hj => (hw2 j hj).elim (hslw j) fun h => Nat.le_trans hAw.size h⟩
            · rw [List.flatMap_append]; exact hS2.cast (by simp [cellsK])
            · intro d hd
              rcases List.mem_append.1 hd with hd | hd
              · exact hsl d hd
              · rw [List.mem_singleton.1 hd]; exact hI3
          case measure => (simp [intOf]; omega)
        · clear hR hA; intro w hR hA
          refine opCallO hR Try.call43 rfl rfl rfl ?_
          refine (IH.out _ _ _ _ _ _ _ _ hR Les.one hYX hSS hokS hlS).mono ?_
          rintro en w' ⟨d3, s3, m3, rfl, ⟨cs5, hR2, hS5⟩, hM3, hB3, hA3⟩
          have hA' := hA.trans hA3 (fun k hk _ => by rw [List.mem_singleton.1 hk, hks]; exact .head _)
          have hMk2 : MarksAt w' (m3 ++ ms) := hM3.append (hMk.apart hRr hsubk hA')
          have hAw : Apart we w' [g] := hA0.trans hA' hksg
          clear hR hA hA3 hA' hM3
          have hR := hR2
          clear hR2
          have hA := Apart.refl w' ks
          have hRw := hR
          have hsubw : ∀ j ∈ ks, j ∈ ((g, cs5, 69) :: (s3 ++ (sl ++ ((g5, encK t nilS vx, 25) :: (sK ++ ((g4, encK 0 nilS nilS, 25) :: X))))) : List RowT).map (·.1) := fun j hj => by
            have := hsubk j hj
            simp only [List.map_cons, List.map_append, List.mem_cons, List.mem_append] at this ⊢
            rcases this with h | h
            · exact .inl h
            · exact .inr (.inr h)
          have hI3 := (hB3 _ _ _ hR (fun r hr => .tail _ (List.mem_append_left _ hr)) (fun m hm => hMk2 m (List.mem_append_left _ hm))).isK
          refine ⟨_, rfl, hR.drop (List.nil_sublist _), ?_⟩
          simp only [List.set_cons_succ, List.set_cons_zero]
          refine wpG_twoK hR hA (i := 1) (j := 6) (by kernel_rfl) ?_ ?_
          · clear hR hA; intro w hR hA
            refine opQK hR hA (i := 1) rfl rfl (t_one tBlks (EvC.now rfl) (by (focus (repeat (first | apply List.Mem.head | apply List.Mem.tail | apply List.mem_append_right)))) rfl) (by (simp only [List.set_cons_succ, List.set_cons_zero]; exact rfl)) ?_
            clear hR hA; intro w hR hA
            refine ⟨hR.drop (List.nil_sublist _), ?_⟩
            refine wpG_oneK hR hA (i := 6) (by kernel_rfl) ?_
            clear hR hA; intro w hR hA
            refine opBuildK hR hA (i := 6) rfl rfl rfl (bBlk1 d3.t hI3.1 hI3.2) ?_
            clear hR hA; intro g9 w hR hA
            refine ⟨hR.drop (List.nil_sublist _), ?_⟩
            simp only [List.set_cons_succ, List.set_cons_zero]
            refine wpG_oneK hR hA (i := 7) (by kernel_rfl) ?_
            clear hR hA; intro w hR hA
            refine opAppW hR hA (i := 7) tBlksB rfl rfl rfl rfl (Les.tail (Les.tail (Les.skip _ Les.head))) hSl (Sl.rd (RwIs.sl (RwIs.all (k := 3) (n := 1) (c := encK d3.t d3.v d3.x) rfl (by decide))) hR (fun r hr => by rw [List.mem_singleton.1 hr]; exact .head _) (by simpa [cellsK] using one_blk d3.t hI3.1 hI3.2)) (by simp only [maxLen]; omega) (by omega) (fun r hr => by rw [hks]; exact .tail _ (.tail _ (.tail _ hr))) ?_
            clear hR hA; intro s2 v2 w hR hS2 hA hw2
            simp only [List.set_cons_succ, List.set_cons_zero]
            obtain ⟨a2, n2, c2, hv2⟩ := Sl.shapeK hS2
            subst hv2
            refine ⟨hR.drop (List.nil_sublist _), ?_⟩
            refine wpG_oneK hR hA (i := 8) (by kernel_rfl) ?_
            clear hR hA; intro w hR hA
            refine opQK hR hA (i := 8) rfl rfl (t_addr (fBlk 2 (by decide)) (EvC.now rfl)) (by (simp only [List.set_cons_succ, List.set_cons_zero]; exact rfl)) ?_
            clear hR hA; intro w hR hA
            refine ⟨hR.drop (List.nil_sublist _), ?_⟩
            refine wpG_oneK hR hA (i := 9) (by kernel_rfl) ?_
            clear hR hA; intro w hR hA
            refine opPutK hR hA (i := 9) (l' := s2 ++ ((g9, encK d3.t d3.v d3.x, 25) :: (g, cs5, 69) :: (s3 ++ ((g5, encK t nilS (.slice a2 n2 c2), 25) :: (sK ++ ((g4, encK 0 nilS nilS, 25) :: X)))))) tBlks rfl rfl rfl rfl (by (focus (repeat (first | apply List.Mem.head | apply List.Mem.tail | apply List.mem_append_right)))) (put_kx _ _ _ _ _ _) (by simp [encK]) rfl (Upd.skip _ (.tail (.tail (Upd.skip _ .head)))) (by rw [hks]; exact .tail _ (.head _)) ?_
            clear hR hA; intro w hR hA
            refine ⟨hR.drop (List.nil_sublist _), ?_⟩
            refine wpG_endK hR hA (by kernel_rfl) ?_
            clear hR hA; intro wz hR hA
            go_wp2_with fail
            go_round
            case rel =>
              have hMz := hMk2.apart hRw hsubw hA
              refine ⟨k + 1, s2, s3 ++ sK, m3 ++ ms, _, ds ++ [d3], zs ++ [(blkR n sS).1], (blkR n sS).2, cs5, HKV.out, by omega, ((hR.drop (List.Sublist.append (List.Sublist.refl _) (List.Sublist.cons _ (List.Sublist.refl _)))).perm ((List.perm_middle.symm).trans (List.Perm.append_left s2 (List.Perm.cons _ (by rw [List.append_assoc]; exact List.perm_middle.symm))))), hS5, ?_, by simp [hdl], by simp [hzl], ?_, hkid.more (by omega) hB3, hMz, hAw.trans hA hksg2, hgS.ok hokS, Nat.le_trans hgS.len hlS, hmany.more hkM2 he0, fun j hj => (hw2 j hj).elim (hslw j) fun h => Nat.le_trans hAw.size h⟩
              · rw [List.flatMap_append]; exact hS2.cast (by simp [cellsK])
              · intro d hd
                rcases List.mem_append.1 hd with hd | hd
                · exact hsl d hd
                · rw [List.mem_singleton.1 hd]; exact hI3
            case measure => (simp [intOf]; omega)
          · clear hR hA; intro w hR hA
            refine opBuildK hR hA (i := 6) rfl rfl rfl (bBlk1 d3.t hI3.1 hI3.2) ?_
            clear hR hA; intro g9 w hR hA
            refine ⟨hR.drop (List.nil_sublist _), ?_⟩
            simp only [List.set_cons_succ, List.set_cons_zero]
            refine wpG_oneK hR hA (i := 1) (by kernel_rfl) ?_
            clear hR hA; intro w hR hA
            refine opQK hR hA (i := 1) rfl rfl (t_one tBlks (EvC.now rfl) (by (focus (repeat (first | apply List.Mem.head | apply List.Mem.tail | apply List.mem_append_right)))) rfl) (by (simp only [List.set_cons_succ, List.set_cons_zero]; exact rfl)) ?_
            clear hR hA; intro w hR hA
            refine ⟨hR.drop (List.nil_sublist _), ?_⟩
            refine wpG_oneK hR hA (i := 7) (by kernel_rfl) ?_
            clear hR hA; intro w hR hA
            refine opAppW hR hA (i := 7) tBlksB rfl rfl rfl rfl (Les.tail (Les.tail (Les.skip _ Les.head))) hSl (Sl.rd (RwIs.sl (RwIs.all (k := 3) (n := 1) (c := encK d3.t d3.v d3.x) rfl (by decide))) hR (fun r hr => by rw [List.mem_singleton.1 hr]; exact .head _) (by simpa [cellsK] using one_blk d3.t hI3.1 hI3.2)) (by simp only [maxLen]; omega) (by omega) (fun r hr => by rw [hks]; exact .tail _ (.tail _ (.tail _ hr))) ?_
            clear hR hA; intro s2 v2 w hR hS2 hA hw2
            simp only [List.set_cons_succ, List.set_cons_zero]
            obtain ⟨a2, n2, c2, hv2⟩ := Sl.shapeK hS2
            subst hv2
            refine ⟨hR.drop (List.nil_sublist _), ?_⟩
            refine wpG_oneK hR hA (i := 8) (by kernel_rfl) ?_
            clear hR hA; intro w hR hA
            refine opQK hR hA (i := 8) rfl rfl (t_addr (fBlk 2 (by decide)) (EvC.now rfl)) (by (simp only [List.set_cons_succ, List.set_cons_zero]; exact rfl)) ?_
            clear hR hA; intro w hR hA
            refine ⟨hR.drop (List.nil_sublist _), ?_⟩
            refine wpG_oneK hR hA (i := 9) (by kernel_rfl) ?_
            clear hR hA; intro w hR hA
            refine opPutK hR hA (i := 9) (l' := s2 ++ ((g9, encK d3.t d3.v d3.x, 25) :: (g, cs5, 69) :: (s3 ++ ((g5, encK t nilS (.slice a2 n2 c2), 25) :: (sK ++ ((g4, encK 0 nilS nilS, 25) :: X)))))) tBlks rfl rfl rfl rfl (by (focus (repeat (first | apply List.Mem.head | apply List.Mem.tail | apply List.mem_append_right)))) (put_kx _ _ _ _ _ _) (by simp [encK]) rfl (Upd.skip _ (.tail (.tail (Upd.skip _ .head)))) (by rw [hks]; exact .tail _ (.head _)) ?_
            clear hR hA; intro w hR hA
            refine ⟨hR.drop (List.nil_sublist _), ?_⟩
            refine wpG_endK hR hA (by kernel_rfl) ?_
            clear hR hA; intro wz hR hA
            go_wp2_with fail
            go_round
            case rel =>
              have hMz := hMk2.apart hRw hsubw hA
              refine ⟨k + 1, s2, s3 ++ sK, m3 ++ ms, _, ds ++ [d3], zs ++ [(blkR n sS).1], (blkR n sS).2, cs5, HKV.out, by omega, ((hR.drop (List.Sublist.append (List.Sublist.refl _) (List.Sublist.cons _ (List.Sublist.refl _)))).perm ((List.perm_middle.symm).trans (List.Perm.append_left s2 (List.Perm.cons _ (by rw [List.append_assoc]; exact List.perm_middle.symm))))), hS5, ?_, by simp [hdl], by simp [hzl], ?_, hkid.more (by omega) hB3, hMz, hAw.trans hA hksg2, hgS.ok hokS, Nat.le_trans hgS.len hlS, hmany.more hkM2 he0, fun j hj => (hw2 j hj).elim (hslw j) fun h => Nat.le_trans hAw.size h⟩
              · rw [List.flatMap_append]; exact hS2.cast (by simp [cellsK])
              · intro d hd
                rcases List.mem_append.1 hd with hd | hd
                · exact hsl d hd
                · rw [List.mem_singleton.1 hd]; exact hI3
            case measure => (simp [intOf]; omega)
      · refine wp_cond_at (nm := true) rfl (by simp [he0]) (fun _ => ?_) (fun h => absurd h (by decide))
        have hfin := hmany.bad he0
        obtain ⟨a2, n2, c2, hv2⟩ := Sl.shapeK hSl
        subst hv2
        have hBz := HB.out
        rw [hfin] at hBz
        dsimp only at hBz
        have HBZ := Lib.hid hBz
        clear hBz hfin
        repeat (first
            | ((with_reducible apply wpList_putA hR hA tBlk); exact rfl; exact rfl; exact rfl; (focus (repeat (first | apply List.Mem.head | apply List.Mem.tail | apply List.mem_append_right))); exact put_blk _ rfl _ _ _; exact rfl; (simp [encK]); (exact one_blk _ IsS.nil ⟨⟨_, _, _, rfl⟩⟩); (exact .tail (Upd.skip _ (.tail (Upd.skip _ .head)))); (exact fun _ => by rw [hks]; exact .tail _ (.tail _ (.head _))); clear hR hA; intro wk hR hA)
            | ((with_reducible apply q_lsK hR hA); exact rfl; ((with_reducible first | apply t_addr (fRec _ (by decide)) | apply t_addr (fBlk _ (by decide)) | apply t_one tByteR | apply t_one tSlR | apply t_one tIntR | apply t_one tBlks | apply t_part tBlk) <;> (first | (apply EvC.gv; exact rfl; (with_reducible first | exact Imp.refl _ | (apply Imp.left; exact Imp.refl _) | (apply Imp.right; exact Imp.refl _) | (apply Imp.left; apply Imp.left; exact Imp.refl _))) | (apply EvC.now; exact rfl) | exact rfl | (with_reducible exact EvAll.nil) | (focus (repeat (first | apply EvAll.cons | exact EvAll.nil | (apply EvC.gv; exact rfl; (with_reducible first | exact Imp.refl _ | (apply Imp.left; exact Imp.refl _) | (apply Imp.right; exact Imp.refl _) | (apply Imp.left; apply Imp.left; exact Imp.refl _))) | (apply EvC.now; exact rfl))); done) | exact ext_blk _ _ _ | (focus (repeat (first | apply List.Mem.head | apply List.Mem.tail | apply List.mem_append_right))))); (simp only [List.set_cons_succ, List.set_cons_zero]; exact rfl); clear hR hA; intro wk hR hA)
              | go_step)
        have hMe := hMk.apart hRr hsubk hA
        have hAe := hA0.trans hA hksg
        rw [hwe] at hAe
        exact post_row hR rfl (by rfl) (by (focus (repeat (first | apply List.Mem.head | apply List.Mem.tail | apply List.mem_append_right)))) Try.underlying25 rfl iBlk (by rfl) (by rfl) ⟨⟨t, nilS, .slice a2 n2 c2⟩, sl ++ sK, ms, rfl, by
          rw [HBZ.out]
          refine ⟨csS, ?_, hSS⟩
          rw [List.append_assoc]
          exact hR.drop (.cons_cons _ (List.Sublist.append (List.Sublist.refl _) (.cons _ (List.Sublist.append (List.Sublist.refl _) (.cons _ (List.Sublist.refl _)))))), hMe, by
          rw [HBZ.out]
          intro wb w2 l2 hO2 hs2 hM2
          subst hdl
          exact .mk (ds := ds) (by omega) (SrcW.none w2) (by simp [maxLen]) (hSl.rd hO2 (fun r h => hs2 r (List.mem_append_left _ h)) (cellsK_one hsl)) hzl.symm (fun i d z h1 h2 => hkid i d z h1 h2 wb w2 l2 hO2 (fun r h => hs2 r (List.mem_append_right _ h)) hM2), hAe⟩
    · go_upto_if 26 with fail
      refine wp_cond_at (nm := false) rfl (by first | (simp; done) | (simp; omega)) (fun h => absurd h (by decide)) (fun _ => ?_)
      obtain rfl : k = M := by omega
      have hfin := hmany.done
      obtain ⟨a2, n2, c2, hv2⟩ := Sl.shapeK hSl
      subst hv2
      have hBz := HB.out
      rw [hfin] at hBz
      dsimp only at hBz
      have HBZ := Lib.hid hBz
      clear hBz hfin
      repeat (first
          | ((with_reducible apply wpList_putA hR hA tBlk); exact rfl; exact rfl; exact rfl; (focus (repeat (first | apply List.Mem.head | apply List.Mem.tail | apply List.mem_append_right))); exact put_blk _ rfl _ _ _; exact rfl; (simp [encK]); (exact one_blk _ IsS.nil ⟨⟨_, _, _, rfl⟩⟩); (exact .tail (Upd.skip _ (.tail (Upd.skip _ .head)))); (exact fun _ => by rw [hks]; exact .tail _ (.tail _ (.head _))); clear hR hA; intro wk hR hA)
          | ((with_reducible apply q_lsK hR hA); exact rfl; ((with_reducible first | apply t_addr (fRec _ (by decide)) | apply t_addr (fBlk _ (by decide)) | apply t_one tByteR | apply t_one tSlR | apply t_one tIntR | apply t_one tBlks | apply t_part tBlk) <;> (first | (apply EvC.gv; exact rfl; (with_reducible first | exact Imp.refl _ | (apply Imp.left; exact Imp.refl _) | (apply Imp.right; exact Imp.refl _) | (apply Imp.left; apply Imp.left; exact Imp.refl _))) | (apply EvC.now; exact rfl) | exact rfl | (with_reducible exact EvAll.nil) | (focus (repeat (first | apply EvAll.cons | exact EvAll.nil | (apply EvC.gv; exact rfl; (with_reducible first | exact Imp.refl _ | (apply Imp.left; exact Imp.refl _) | (apply Imp.right; exact Imp.refl _) | (apply Imp.left; apply Imp.left; exact Imp.refl _))) | (apply EvC.now; exact rfl))); done) | exact ext_blk _ _ _ | (focus (repeat (first | apply List.Mem.head | apply List.Mem.tail | apply List.mem_append_right))))); (simp only [List.set_cons_succ, List.set_cons_zero]; exact rfl); clear hR hA; intro wk hR hA)
            | go_step)
      have hMe := hMk.apart hRr hsubk hA
      have hAe := hA0.trans hA hksg
      rw [hwe] at hAe
      exact post_row hR rfl (by rfl) (by (focus (repeat (first | apply List.Mem.head | apply List.Mem.tail | apply List.mem_append_right)))) Try.underlying25 rfl iBlk (by rfl) (by rfl) ⟨⟨t, nilS, .slice a2 n2 c2⟩, sl ++ sK, ms, rfl, by
        rw [HBZ.out]
        refine ⟨csS, ?_, hSS⟩
        rw [List.append_assoc]
        exact hR.drop (.cons_cons _ (List.Sublist.append (List.Sublist.refl _) (.cons _ (List.Sublist.append (List.Sublist.refl _) (.cons _ (List.Sublist.refl _)))))), hMe, by
        rw [HBZ.out]
        intro wb w2 l2 hO2 hs2 hM2
        subst hdl
        exact .mk (ds := ds) (by omega) (SrcW.none w2) (by simp [maxLen]) (hSl.rd hO2 (fun r h => hs2 r (List.mem_append_left _ h)) (cellsK_one hsl)) hzl.symm (fun i d z h1 h2 => hkid i d z h1 h2 wb w2 l2 hO2 (fun r h => hs2 r (List.mem_append_right _ h)) hM2), hAe⟩
theorem iread_any : ∀ (n : Nat), n ≤ 8 → ∀ (w0 w : World) (l X sr : List RowT) (g : Nat) (cs : Array Value) (s : SrcZ), Own w0 w l → Les [(g, cs, 69)] l X → (∀ r ∈ sr, r ∈ X) → SrcObj w0 sr cs s → s.ok → s.b.length ≤ 1000000 →
      Calls Try.prog 43 #[.pointer (some ⟨g, 0, none⟩), .int .i64 (n : Int)] w fun e w' => ReadPost w0 w g X sr n s e w'
  | 0, _, w0, w, l, X, sr, g, cs, s, hO, hd, hY, hS, hok, hl => iread_zero hO hd hY hS hok hl
  | n + 1, h, w0, w, l, X, sr, g, cs, s, hO, hd, hY, hS, hok, hl => by
    by_cases hz : (numZ (numZ s 2).2 2).1 = 0
    · exact iread_leaf n (by omega) hO hd hY hS hok hl hz
    · exact iread_node n (by omega) (iread_any n (by omega)) hO hd hY hS hok hl hz
end Go.Proofs.Ytalgadinoaeihaa
