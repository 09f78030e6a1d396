/- The law PubsGiven (What is given, there and back: all of one group and segment, or of a frame (22, Words; 22.1).) returns true whatever the arguments, and each argument reads afterwards as before. There is no condition on the arguments. -/
import Derived.Test.YtmiakniilimghaaRows
import Derived.Test.YtmiakniilimghaaLaw22
import Derived.Test.YtmiakniilimghaaAppG
import Derived.WalkKit
import Derived.ProofKit
import Derived.OpenShut
import Derived.ShutString
import Derived.ChangeOld
import Derived.Below
namespace Go.Proofs.Ytmiakniilimghaa.pubsGiven
open Go.ChangeShapes Go.WideShapes Go.ChangeAt Go.RowKit
open Go.ChangeMaps (open_string shut_string)
set_option linter.unusedVariables false
set_option linter.unusedSimpArgs false

theorem own : ownKnob Try.prog.godebug = none := by kernel_rfl
theorem laidOut : laidOutB Try.prog = true := by kernel_rfl










theorem min40 (n : Nat) : (if (40 : Int) < (n : Int) then 40 else (n : Int)) = ((min n 40 : Nat) : Int) := by split <;> omega
def elB (b : PubZ) (z : PubZ) : PubZ := ⟨b.g % 32768, if b.o % 2 = 0 then 0 else b.s % 512, if (if b.o % 2 = 0 then 0 else b.s % 512) = 0 then b.f else 0, z.nm.take 40, z.o⟩
def takeP (b : PubZ) (l : List PubZ) (k : Nat) : List PubZ := (l.take k).map (elB b)
theorem takeP_more {b : PubZ} {l : List PubZ} {k : Nat} {z : PubZ} (h : l[k]? = some z) : takeP b l (k + 1) = takeP b l k ++ [elB b z] := by
  unfold takeP; rw [List.take_add_one, h]; simp
theorem takeP_len {b : PubZ} {l : List PubZ} {k : Nat} (h : k ≤ l.length) : (takeP b l k).length = k := by
  unfold takeP; rw [List.length_map, List.length_take]; omega
theorem elB_ok {b z : PubZ} (hb : b.ok) (hz : z.ok) : (elB b z).ok := by
  have h1 := hb.1; have h2 := hb.2.1
  refine ⟨by unfold elB; dsimp only; omega, ?_, ?_, hz.2.2.2.1.take 40, hz.2.2.2.2⟩
  · unfold elB; dsimp only; split <;> omega
  · have h3 := hb.2.2.1
    unfold elB; dsimp only
    (repeat' split) <;> omega
theorem takeP_ok {b : PubZ} {l : List PubZ} {k : Nat} (hb : b.ok) (h : ∀ z ∈ l, z.ok) : ∀ p ∈ takeP b l k, p.ok := by
  intro p hp
  obtain ⟨q, hq, rfl⟩ := List.mem_map.1 hp
  exact elB_ok hb (h q (List.mem_of_mem_take hq))
theorem takeP_short {b : PubZ} {l : List PubZ} {k : Nat} : ∀ p ∈ takeP b l k, p.nm.length ≤ 40 := by
  intro p hp
  obtain ⟨q, hq, rfl⟩ := List.mem_map.1 hp
  unfold elB; dsimp only; rw [List.length_take]; omega
theorem takeP_alike {b : PubZ} {l : List PubZ} {k : Nat} (h : ∀ z ∈ l, z.ok) {p : PubZ} {X : List PubZ} (hX : takeP b l k = p :: X) : Alike p.g p.s p.f (p :: X) := by
  have hp : p ∈ takeP b l k := by rw [hX]; exact .head _
  obtain ⟨q, _, rfl⟩ := List.mem_map.1 hp
  intro y hy
  rw [← hX] at hy
  have hs := takeP_short y hy
  obtain ⟨z, hz, rfl⟩ := List.mem_map.1 hy
  exact ⟨rfl, rfl, rfl, by omega, (h z (List.mem_of_mem_take hz)).2.2.2.2⟩
def LoopIs (w0 : World) (g3 : Nat) (b : PubZ) (l : List PubZ) (x i : Value) (wr : World) : Prop :=
  ∃ (k : Nat) (sl : List RowT), i = .int .i64 k ∧ k ≤ 8 ∧ k ≤ l.length ∧ Own w0 wr (sl ++ [(g3, encPub b, 25)]) ∧ Sl 25 5 sl x k ((takeP b l k).flatMap cellsPub)
def PAt (w0 : World) (g7 : Nat) (sl : List RowT) (g3 : Nat) (b p : PubZ) (wr : World) : Prop := Own w0 wr ((g7, encPub p, 25) :: (sl ++ [(g3, encPub b, 25)]))
theorem bEl (g s : Int) (t : List Int) (o : Int) : Built Try.prog 25 [(0, .int .i64 g), (1, .int .i64 s), (3, .string (strOfNums t)), (4, .int .u16 o)] #[.int .i64 g, .int .i64 s, .int .u16 0, .string (strOfNums t), .int .u16 o] := ⟨by kernel_rfl⟩
set_option maxHeartbeats 8000000 in
set_option maxRecDepth 100000 in
theorem walk {base : Nat} {w0 : World} (v0 : Value) (hA : PubsIn w0 v0) (v1 : Value) (k1 : Value.okWide Try.prog w0 .any base 25 v1) (wi : World) :
    Calls Try.prog 3 #[v0, v1] w0 fun e w' => e = .returned (.bool true) ∧ Below w0.heap.size w0 w' := by
  clear wi
  obtain ⟨l, hlo, hl⟩ := hA
  obtain ⟨b, hb, rfl⟩ := open_pub k1
  clear k1
  have hR := Own.start w0
  go_enter Try.func3, Try.ntmps3
  go_wp2_with (first
    | ((with_reducible apply wpList_box hR); exact rfl; exact rfl; clear hR; intro g3 w hR; simp only [List.set_cons_succ, List.set_cons_zero])
    | ((with_reducible apply wpList_buildS hR); exact rfl; exact rfl; (exact bPubs0); clear hR; intro gx w hR; simp only [List.set_cons_succ, List.set_cons_zero]))
  go_loopw [5, 6] (fun x i wr => LoopIs w0 g3 b l x i wr) (fun _ i _ => 8 - (intOf i).toNat)
  case atStart => exact ⟨0, _, rfl, by decide, Nat.zero_le _, hR, (RwIs.all rfl (by decide)).sl⟩
  case round =>
    clear hR
    obtain ⟨k, sl, rfl, hk8, hkl, hR, hS⟩ := hrel
    go_upto_region 3 with fail
    refine wp_region_tame hR [0, 1, 2, 3, 4, 5, 6, 7] rfl ?_
    repeat (refine wpT_step rfl ?_; first
    | ((with_reducible apply q_pl); (with_reducible apply t_lenRd Try.underlying22); (apply EvC.now; exact rfl); exact hl; (simp only [List.set_cons_succ, List.set_cons_zero]; exact rfl))
    | ((first | (with_reducible apply q_pl) | ((with_reducible apply q_gd); (first | (apply GdBy.gt; exact rfl; exact rfl) | (apply GdBy.gf; exact rfl; exact rfl) | (apply GdBy.t; exact rfl; exact rfl) | (apply GdBy.f; exact rfl; exact rfl)))); (first | ((with_reducible first | apply t_move | apply t_assign | apply t_and | apply t_or | apply t_cmp | apply t_not | apply t_addr (fRec _ (by decide)) | apply t_addr (fPub _ (by decide)) | apply t_addr (fExt _ (by decide)) | apply t_one tByteR | apply t_one tSlR | apply t_one tIntR | apply t_one tWordP | apply t_one tNumX | apply t_one tStrO | apply t_part tPub | apply t_part tExt) <;> (first | (apply EvC.gv; exact rfl; (with_reducible first | exact Imp.refl _ | (apply Imp.left; exact Imp.refl _) | (apply Imp.right; exact Imp.refl _) | (apply Imp.left; apply Imp.left; exact Imp.refl _))) | (apply EvC.now; exact rfl) | exact rfl | (with_reducible exact EvAll.nil) | (focus (repeat (first | apply EvAll.cons | exact EvAll.nil | (apply EvC.gv; exact rfl; (with_reducible first | exact Imp.refl _ | (apply Imp.left; exact Imp.refl _) | (apply Imp.right; exact Imp.refl _) | (apply Imp.left; apply Imp.left; exact Imp.refl _))) | (apply EvC.now; exact rfl))); done) | (first | exact ext_pub _ | exact ext_ext _) | (focus (repeat (first | apply List.Mem.head | apply List.Mem.tail | apply List.mem_append_right)))))); (simp only [List.set_cons_succ, List.set_cons_zero]; exact rfl))
    | ((with_reducible apply q_gd); (first | (apply GdBy.gt; exact rfl; exact rfl) | (apply GdBy.gf; exact rfl; exact rfl) | (apply GdBy.t; exact rfl; exact rfl) | (apply GdBy.f; exact rfl; exact rfl)); ((with_reducible apply t_num) <;> (first | (apply EvC.gv; exact rfl; (with_reducible first | exact Imp.refl _ | (apply Imp.left; exact Imp.refl _) | (apply Imp.right; exact Imp.refl _) | (apply Imp.left; apply Imp.left; exact Imp.refl _))) | (apply EvC.now; exact rfl) | exact rfl | (with_reducible exact EvAll.nil) | (focus (repeat (first | apply EvAll.cons | exact EvAll.nil | (apply EvC.gv; exact rfl; (with_reducible first | exact Imp.refl _ | (apply Imp.left; exact Imp.refl _) | (apply Imp.right; exact Imp.refl _) | (apply Imp.left; apply Imp.left; exact Imp.refl _))) | (apply EvC.now; exact rfl))); done) | (first | exact ext_pub _ | exact ext_ext _) | (focus (repeat (first | apply List.Mem.head | apply List.Mem.tail | apply List.mem_append_right))))); (simp only [List.set_cons_succ, List.set_cons_zero]; exact rfl))
    | ((with_reducible apply wpT1_gpure); (first | (apply GdBy.gt; exact rfl; exact rfl) | (apply GdBy.gf; exact rfl; exact rfl) | (apply GdBy.t; exact rfl; exact rfl) | (apply GdBy.f; exact rfl; exact rfl)); intro K hK; go_simp; refine hK _ ?_; clear hK K; simp only [List.set_cons_succ, List.set_cons_zero])
    | ((with_reducible apply wpT1_pure); exact rfl; intro K hK; go_simp; refine hK _ ?_; clear hK K; simp only [List.set_cons_succ, List.set_cons_zero]))
    refine wpT_nil ?_
    clear hR; intro w hR
    go_upto_if 22 with fail
    refine wp_cond_at (nm := decide ((k : Int) < (l.length : Int)) && decide ((k : Int) < 8)) rfl rfl (fun h => ?_) (fun h => ?_)
    · simp only [Bool.and_eq_true, decide_eq_true_eq] at h
      have hlt : k < l.length := by omega
      have h8 : k < 8 := by omega
      clear h
      obtain ⟨z, hz⟩ : ∃ z, l[k]? = some z := ⟨_, List.getElem?_eq_getElem hlt⟩
      obtain ⟨a, cap, rfl, hc⟩ := hl.el cellsPub_len hz
      have HC3 := Lib.hid (show w0.cell? ((a.add ((k : Int).toNat * 5)).add 3) = some (.string (strOfNums z.nm)) from hc 3 _ rfl)
      have HC4 := Lib.hid (show w0.cell? ((a.add ((k : Int).toNat * 5)).add 4) = some (.int .u16 z.o) from hc 4 _ rfl)
      have HTM := Lib.hid (takeP_more (b := b) hz)
      have HG := Lib.hid (show bits .and .i64 b.g 32767 = b.g % 32768 from i64_mask b.g 15 32767 (by decide) (by decide))
      have HS1 := Lib.hid (show bits .and .i64 b.s 511 = b.s % 512 from i64_mask b.s 9 511 (by decide) (by decide))
      have HO := Lib.hid (show bits .and .u16 (b.o : Int) 1 = ((b.o % 2 : Nat) : Int) from u16_mask b.o 1 1 (by decide) (by decide))
      obtain ⟨m, hm⟩ : ∃ m, min z.nm.length 40 = m := ⟨_, rfl⟩
      have hml : m ≤ z.nm.length := by omega
      have HMM := Lib.hid (min40 z.nm.length)
      rw [hm] at HMM
      have HTK := Lib.hid (show z.nm.take m = z.nm.take 40 by rw [← hm]; exact take_min z.nm 40)
      clear hm hc hz
      go_upto_region 5 with fail
      refine wp_region_some hR _ (List.Sublist.refl _) [0, 1, 2, 3, 4, 5, 6, 7, 8, 9, 10, 11, 12, 13, 14, 15, 16, 17, 18, 19, 20, 21, 22, 23, 24] 2 (by kernel_rfl) (by kernel_rfl) (by kernel_rfl) rfl ?_
      clear hR; intro hR
      repeat (refine wpT_step rfl ?_; first
    | ((with_reducible apply q_pl); (with_reducible apply t_six Try.underlying22 iPub); (apply EvC.now; exact rfl); (apply EvC.now; exact rfl); (constructor <;> omega); (simp only [List.set_cons_succ, List.set_cons_zero]; exact rfl))
    | ((with_reducible apply q_pl); (with_reducible apply t_addr (fPub _ (by decide))); (apply EvC.now; exact rfl); (simp only [List.set_cons_succ, List.set_cons_zero]; exact rfl))
    | ((with_reducible apply q_pl); (with_reducible apply t_fieldA (fPubA _ (by decide))); (apply EvC.now; exact rfl); (simp only [List.set_cons_succ, List.set_cons_zero]; exact rfl))
    | ((with_reducible apply q_pl); (with_reducible first | apply t_oldOne tWordP | apply t_oldOne tStrO); (apply EvC.now; exact rfl); (with_reducible first | exact HC3.out | exact HC4.out); exact rfl; (simp only [List.set_cons_succ, List.set_cons_zero]; exact rfl))
    | ((with_reducible apply q_pl); (with_reducible apply t_one tIntR); (apply EvC.now; exact rfl); (focus (repeat (first | apply List.Mem.head | apply List.Mem.tail | apply List.mem_append_right))); exact rfl; (simp only [List.set_cons_succ, List.set_cons_zero]; exact rfl))
    | ((with_reducible apply q_pl); (with_reducible apply t_lenN Try.underlying9); (apply EvC.now; exact rfl); (simp only [List.set_cons_succ, List.set_cons_zero]; exact rfl))
    | ((with_reducible apply q_pl); (with_reducible apply t_minK); (apply EvC.now; exact rfl); (apply EvC.now; exact rfl); exact HMM.out; (simp only [List.set_cons_succ, List.set_cons_zero]; exact rfl))
    | ((with_reducible apply q_pl); (with_reducible apply t_takeN Try.underlying9); (apply EvC.now; exact rfl); (apply EvC.now; exact rfl); exact rfl; exact hml; (simp only [List.set_cons_succ, List.set_cons_zero]; exact rfl))
    | ((with_reducible apply q_pl); (with_reducible apply t_built); exact rfl; exact bEl _ _ _ _; (simp only [List.set_cons_succ, List.set_cons_zero]; exact rfl))
    | ((first | (with_reducible apply q_pl) | ((with_reducible apply q_gd); (first | (apply GdBy.gt; exact rfl; exact rfl) | (apply GdBy.gf; exact rfl; exact rfl) | (apply GdBy.t; exact rfl; exact rfl) | (apply GdBy.f; exact rfl; exact rfl)))); (with_reducible apply t_numE); (first | (apply EvC.gv; exact rfl; (with_reducible first | exact Imp.refl _ | (apply Imp.left; exact Imp.refl _) | (apply Imp.right; exact Imp.refl _) | (apply Imp.left; apply Imp.left; exact Imp.refl _))) | (apply EvC.now; exact rfl) | exact rfl | (with_reducible exact EvAll.nil) | (focus (repeat (first | apply EvAll.cons | exact EvAll.nil | (apply EvC.gv; exact rfl; (with_reducible first | exact Imp.refl _ | (apply Imp.left; exact Imp.refl _) | (apply Imp.right; exact Imp.refl _) | (apply Imp.left; apply Imp.left; exact Imp.refl _))) | (apply EvC.now; exact rfl))); done) | (first | exact ext_pub _ | exact ext_ext _) | (focus (repeat (first | apply List.Mem.head | apply List.Mem.tail | apply List.mem_append_right)))); (first | (apply EvC.gv; exact rfl; (with_reducible first | exact Imp.refl _ | (apply Imp.left; exact Imp.refl _) | (apply Imp.right; exact Imp.refl _) | (apply Imp.left; apply Imp.left; exact Imp.refl _))) | (apply EvC.now; exact rfl) | exact rfl | (with_reducible exact EvAll.nil) | (focus (repeat (first | apply EvAll.cons | exact EvAll.nil | (apply EvC.gv; exact rfl; (with_reducible first | exact Imp.refl _ | (apply Imp.left; exact Imp.refl _) | (apply Imp.right; exact Imp.refl _) | (apply Imp.left; apply Imp.left; exact Imp.refl _))) | (apply EvC.now; exact rfl))); done) | (first | exact ext_pub _ | exact ext_ext _) | (focus (repeat (first | apply List.Mem.head | apply List.Mem.tail | apply List.mem_append_right)))); exact rfl; ((with_reducible first | exact HG.out | exact HS1.out)); (simp only [List.set_cons_succ, List.set_cons_zero]; exact rfl))
    | ((with_reducible apply q_pl); (with_reducible apply t_move); (apply EvC.now; exact rfl); (simp only [List.set_cons_succ, List.set_cons_zero]; exact rfl)))
      refine wpT_nil ?_
      refine wpG_one hR (i := 25) (by kernel_rfl) ?_
      clear hR; intro w hR
      refine opMake hR zPub rfl ?_
      clear hR; intro g7 w hR
      refine ⟨hR.drop (by (focus (repeat (first | exact List.Sublist.slnil | exact List.nil_sublist _ | exact List.Sublist.refl _ | exact List.sublist_append_right _ _ | apply List.Sublist.cons_cons | apply List.Sublist.cons)))), ?_⟩
      simp only [List.set_cons_succ, List.set_cons_zero]
      refine wpG_put hR tPub (i := 26) (by kernel_rfl) rfl rfl rfl (by (focus (repeat (first | apply List.Mem.head | apply List.Mem.tail | apply List.mem_append_right)))) (put_pub zeroP ⟨b.g % 32768, b.s % 512, 0, z.nm.take m, z.o⟩) rfl (by simp [encPub]) (one_pub ⟨b.g % 32768, b.s % 512, 0, z.nm.take m, z.o⟩) (by (focus (repeat (first | apply Upd.head | apply Upd.tail)))) (by (focus (repeat (first | exact List.Sublist.slnil | exact List.nil_sublist _ | exact List.Sublist.refl _ | exact List.sublist_append_right _ _ | apply List.Sublist.cons_cons | apply List.Sublist.cons)))) ?_
      clear hR; intro w hR
      refine wpG_end hR (by kernel_rfl) ?_
      clear hR; intro w hR
      rw [HTK.out] at hR
      obtain ⟨s1, hs1⟩ : ∃ s1, (if b.o % 2 = 0 then 0 else b.s % 512) = s1 := ⟨_, rfl⟩
      have HEL := Lib.hid (show elB b z = ⟨b.g % 32768, s1, if s1 = 0 then b.f else 0, z.nm.take 40, z.o⟩ by unfold elB; rw [hs1])
      have HS2 := Lib.hid hs1
      clear hs1 HTK HMM HC3 HC4 HG HS1
      go_upto_if 53 with (first
    | ((with_reducible apply q_ls hR); exact rfl; (with_reducible apply t_numE); (apply EvC.now; exact rfl); (apply EvC.now; exact rfl); exact rfl; exact HO.out; (simp only [List.set_cons_succ, List.set_cons_zero]; exact rfl); clear hR; intro w hR)
    | ((with_reducible apply q_ls hR); exact rfl; ((with_reducible first | apply t_addr (fRec _ (by decide)) | apply t_addr (fPub _ (by decide)) | apply t_addr (fExt _ (by decide)) | apply t_one tByteR | apply t_one tSlR | apply t_one tIntR | apply t_one tWordP | apply t_one tNumX | apply t_one tStrO | apply t_part tPub | apply t_part tExt) <;> (first | (apply EvC.gv; exact rfl; (with_reducible first | exact Imp.refl _ | (apply Imp.left; exact Imp.refl _) | (apply Imp.right; exact Imp.refl _) | (apply Imp.left; apply Imp.left; exact Imp.refl _))) | (apply EvC.now; exact rfl) | exact rfl | (with_reducible exact EvAll.nil) | (focus (repeat (first | apply EvAll.cons | exact EvAll.nil | (apply EvC.gv; exact rfl; (with_reducible first | exact Imp.refl _ | (apply Imp.left; exact Imp.refl _) | (apply Imp.right; exact Imp.refl _) | (apply Imp.left; apply Imp.left; exact Imp.refl _))) | (apply EvC.now; exact rfl))); done) | (first | exact ext_pub _ | exact ext_ext _) | (focus (repeat (first | apply List.Mem.head | apply List.Mem.tail | apply List.mem_append_right))))); (simp only [List.set_cons_succ, List.set_cons_zero]; exact rfl); clear hR; intro w hR))
      go_cut [] (fun wr => PAt w0 g7 sl g3 b ⟨b.g % 32768, s1, 0, z.nm.take 40, z.o⟩ wr)
      case first =>
        by_cases ho : b.o % 2 = 0
        · refine wp_cond_at (nm := true) rfl (by simp; omega) (fun _ => ?_) (fun h => absurd h (by decide))
          go_wp2_with (first
    | ((with_reducible apply wpList_put1 hR tIntR); exact rfl; exact rfl; exact rfl; (focus (repeat (first | apply List.Mem.head | apply List.Mem.tail | apply List.mem_append_right))); exact put_ps _ _; simp [encPub]; exact rfl; (focus (repeat (first | apply Upd.head | apply Upd.tail))); clear hR; intro w hR)
    | ((with_reducible apply q_ls hR); exact rfl; ((with_reducible first | apply t_addr (fRec _ (by decide)) | apply t_addr (fPub _ (by decide)) | apply t_addr (fExt _ (by decide)) | apply t_one tByteR | apply t_one tSlR | apply t_one tIntR | apply t_one tWordP | apply t_one tNumX | apply t_one tStrO | apply t_part tPub | apply t_part tExt) <;> (first | (apply EvC.gv; exact rfl; (with_reducible first | exact Imp.refl _ | (apply Imp.left; exact Imp.refl _) | (apply Imp.right; exact Imp.refl _) | (apply Imp.left; apply Imp.left; exact Imp.refl _))) | (apply EvC.now; exact rfl) | exact rfl | (with_reducible exact EvAll.nil) | (focus (repeat (first | apply EvAll.cons | exact EvAll.nil | (apply EvC.gv; exact rfl; (with_reducible first | exact Imp.refl _ | (apply Imp.left; exact Imp.refl _) | (apply Imp.right; exact Imp.refl _) | (apply Imp.left; apply Imp.left; exact Imp.refl _))) | (apply EvC.now; exact rfl))); done) | (first | exact ext_pub _ | exact ext_ext _) | (focus (repeat (first | apply List.Mem.head | apply List.Mem.tail | apply List.mem_append_right))))); (simp only [List.set_cons_succ, List.set_cons_zero]; exact rfl); clear hR; intro w hR))
          go_meet
          have h0 : s1 = 0 := by rw [← HS2.out, if_pos ho]
          rw [h0]
          exact hR
        · refine wp_cond_at (nm := false) rfl (by simp; omega) (fun h => absurd h (by decide)) (fun _ => ?_)
          go_wp2_with fail
          go_meet
          have h0 : s1 = b.s % 512 := by rw [← HS2.out, if_neg ho]
          rw [h0]
          exact hR
      case rest =>
      clear hR HO HS2
      have hR : Own w0 _ ((g7, encPub ⟨b.g % 32768, s1, 0, z.nm.take 40, z.o⟩, 25) :: (sl ++ [(g3, encPub b, 25)])) := hcut
      clear hcut
      go_upto_if 57 with (first
    | ((with_reducible apply q_ls hR); exact rfl; ((with_reducible first | apply t_addr (fRec _ (by decide)) | apply t_addr (fPub _ (by decide)) | apply t_addr (fExt _ (by decide)) | apply t_one tByteR | apply t_one tSlR | apply t_one tIntR | apply t_one tWordP | apply t_one tNumX | apply t_one tStrO | apply t_part tPub | apply t_part tExt) <;> (first | (apply EvC.gv; exact rfl; (with_reducible first | exact Imp.refl _ | (apply Imp.left; exact Imp.refl _) | (apply Imp.right; exact Imp.refl _) | (apply Imp.left; apply Imp.left; exact Imp.refl _))) | (apply EvC.now; exact rfl) | exact rfl | (with_reducible exact EvAll.nil) | (focus (repeat (first | apply EvAll.cons | exact EvAll.nil | (apply EvC.gv; exact rfl; (with_reducible first | exact Imp.refl _ | (apply Imp.left; exact Imp.refl _) | (apply Imp.right; exact Imp.refl _) | (apply Imp.left; apply Imp.left; exact Imp.refl _))) | (apply EvC.now; exact rfl))); done) | (first | exact ext_pub _ | exact ext_ext _) | (focus (repeat (first | apply List.Mem.head | apply List.Mem.tail | apply List.mem_append_right))))); (simp only [List.set_cons_succ, List.set_cons_zero]; exact rfl); clear hR; intro w hR))
      go_cut [] (fun wr => PAt w0 g7 sl g3 b (elB b z) wr)
      case first =>
        by_cases h0 : s1 = 0
        · refine wp_cond_at (nm := true) rfl (by simp [h0]) (fun _ => ?_) (fun h => absurd h (by decide))
          rw [if_pos h0] at HEL
          clear h0
          go_wp2_with (first
    | ((with_reducible apply wpList_put1 hR tWordP); exact rfl; exact rfl; exact rfl; (focus (repeat (first | apply List.Mem.head | apply List.Mem.tail | apply List.mem_append_right))); exact put_pf _ _; simp [encPub]; exact rfl; (focus (repeat (first | apply Upd.head | apply Upd.tail))); clear hR; intro w hR)
    | ((with_reducible apply q_ls hR); exact rfl; ((with_reducible first | apply t_addr (fRec _ (by decide)) | apply t_addr (fPub _ (by decide)) | apply t_addr (fExt _ (by decide)) | apply t_one tByteR | apply t_one tSlR | apply t_one tIntR | apply t_one tWordP | apply t_one tNumX | apply t_one tStrO | apply t_part tPub | apply t_part tExt) <;> (first | (apply EvC.gv; exact rfl; (with_reducible first | exact Imp.refl _ | (apply Imp.left; exact Imp.refl _) | (apply Imp.right; exact Imp.refl _) | (apply Imp.left; apply Imp.left; exact Imp.refl _))) | (apply EvC.now; exact rfl) | exact rfl | (with_reducible exact EvAll.nil) | (focus (repeat (first | apply EvAll.cons | exact EvAll.nil | (apply EvC.gv; exact rfl; (with_reducible first | exact Imp.refl _ | (apply Imp.left; exact Imp.refl _) | (apply Imp.right; exact Imp.refl _) | (apply Imp.left; apply Imp.left; exact Imp.refl _))) | (apply EvC.now; exact rfl))); done) | (first | exact ext_pub _ | exact ext_ext _) | (focus (repeat (first | apply List.Mem.head | apply List.Mem.tail | apply List.mem_append_right))))); (simp only [List.set_cons_succ, List.set_cons_zero]; exact rfl); clear hR; intro w hR))
          go_meet
          unfold PAt
          rw [HEL.out]
          exact hR
        · refine wp_cond_at (nm := false) rfl (by simp [h0]) (fun h => absurd h (by decide)) (fun _ => ?_)
          rw [if_neg h0] at HEL
          clear h0
          go_wp2_with fail
          go_meet
          unfold PAt
          rw [HEL.out]
          exact hR
      case rest =>
      clear hR HEL
      have hR : Own w0 _ ((g7, encPub (elB b z), 25) :: (sl ++ [(g3, encPub b, 25)])) := hcut
      clear hcut
      generalize elB b z = p at *
      go_wp2_with (first
    | ((with_reducible apply wpList_buildS hR); exact rfl; exact rfl; (exact bPubs1 _); clear hR; intro gb w hR; simp only [List.set_cons_succ, List.set_cons_zero])
    | ((with_reducible apply wpList_appG hR tPubsB); exact rfl; exact rfl; exact rfl; exact hS; (exact Les.tail (Les.tail Les.head)); (exact rd_one (z := p) cellsPub_len cellsPub_one hR (.head _)); (simp only [maxLen]; omega); omega; clear hR hS; intro s2 v2 w hR hS; simp only [List.set_cons_succ, List.set_cons_zero])
    | ((with_reducible apply q_ls hR); exact rfl; ((with_reducible first | apply t_addr (fRec _ (by decide)) | apply t_addr (fPub _ (by decide)) | apply t_addr (fExt _ (by decide)) | apply t_one tByteR | apply t_one tSlR | apply t_one tIntR | apply t_one tWordP | apply t_one tNumX | apply t_one tStrO | apply t_part tPub | apply t_part tExt) <;> (first | (apply EvC.gv; exact rfl; (with_reducible first | exact Imp.refl _ | (apply Imp.left; exact Imp.refl _) | (apply Imp.right; exact Imp.refl _) | (apply Imp.left; apply Imp.left; exact Imp.refl _))) | (apply EvC.now; exact rfl) | exact rfl | (with_reducible exact EvAll.nil) | (focus (repeat (first | apply EvAll.cons | exact EvAll.nil | (apply EvC.gv; exact rfl; (with_reducible first | exact Imp.refl _ | (apply Imp.left; exact Imp.refl _) | (apply Imp.right; exact Imp.refl _) | (apply Imp.left; apply Imp.left; exact Imp.refl _))) | (apply EvC.now; exact rfl))); done) | (first | exact ext_pub _ | exact ext_ext _) | (focus (repeat (first | apply List.Mem.head | apply List.Mem.tail | apply List.mem_append_right))))); (simp only [List.set_cons_succ, List.set_cons_zero]; exact rfl); clear hR; intro w hR))
      go_round
      case rel =>
        refine ⟨k + 1, s2, rfl, by omega, by omega, hR.drop ((List.Sublist.refl s2).append (.cons _ (.cons _ (List.Sublist.refl _)))), ?_⟩
        rw [HTM.out, List.flatMap_append]
        exact hS.cast (by simp)
      case measure => simp [intOf]; omega
    · clear h hl
      obtain ⟨X, hXe⟩ : ∃ X, takeP b l k = X := ⟨_, rfl⟩
      have hXl : X.length ≤ 8 := by rw [← hXe, takeP_len hkl]; exact hk8
      have hXk : X.length = k := by rw [← hXe, takeP_len hkl]
      have hXo : ∀ p ∈ X, p.ok := by rw [← hXe]; exact takeP_ok hb hlo
      have hXs : ∀ p ∈ X, p.nm.length ≤ 40 := by rw [← hXe]; exact takeP_short
      have hXg : ∀ p ∈ X, 0 ≤ p.s ∧ p.s ≤ 32767 := by
        intro p hp
        rw [← hXe] at hp
        obtain ⟨z, _, rfl⟩ := List.mem_map.1 hp
        unfold elB
        dsimp only
        split <;> omega
      have hXa : ∀ p Y, X = p :: Y → Alike p.g p.s p.f (p :: Y) ∧ (0 ≤ p.g ∧ p.g ≤ 32767) ∧ (0 ≤ p.s ∧ p.s ≤ 32767) ∧ (0 ≤ p.f ∧ p.f ≤ 65535) ∧ (p.s = 0 ∨ p.f = 0) := by
        intro p Y hp
        have hpo := hXo p (by rw [hp]; exact .head _)
        have hm : p ∈ takeP b l k := by rw [hXe, hp]; exact .head _
        have hal := takeP_alike hlo (hXe.trans hp)
        obtain ⟨z, _, rfl⟩ := List.mem_map.1 hm
        have h1 := hb.1; have h2 := hb.2.1
        refine ⟨hal, by unfold elB; dsimp only; omega, by unfold elB; dsimp only; split <;> omega, hpo.2.2.1, ?_⟩
        unfold elB; dsimp only
        by_cases hh : (if b.o % 2 = 0 then 0 else b.s % 512) = 0
        · exact .inl hh
        · exact .inr (if_neg hh)
      rw [hXe] at hS
      clear hXe hk8 hkl hlo
      subst hXk
      have hxr : RowsAt 5 cellsPub _ _ X := hS.rowsAt cellsPub_one hR (fun r hr => List.mem_append_left _ hr)
      have hbo := pubsB_ok fun p hp => (hXo p hp).2.2.2.1
      have hbl := pubsB_len hXs
      have hs1000 : ∀ p ∈ X, p.nm.length ≤ 1000 := fun p hp => by have := hXs p hp; omega
      have HREF := Lib.hid (fun w v (h : RowsAt 5 cellsPub w v X) => r21pubs_any v X h hXo (by omega) hXs)
      have hpub := fun w v (h : RowsAt 5 cellsPub w v X) => pubPublics_any v X h hXo hXg (by omega) hs1000
      obtain ⟨bs, hbs⟩ : ∃ bs, pubsB X = bs := ⟨_, rfl⟩
      have HBS := Lib.hid hbs
      rw [hbs] at hbo hbl HREF hpub
      have hbl2 : bs.length ≤ 358 := by omega
      clear hS hbs hbl
      have hZ2 := (Since.start w0).own hR
      have hR2 := hR.fresh
      clear hR
      try clear hZ
      have hZ := hZ2
      have hR := hR2
      clear hZ2 hR2
      go_wp2_with fail
      refine (hpub _ _ hxr).mono ?_
      rintro e w1 h1
      obtain ⟨v1, rfl, hb1, hV⟩ := h1.now
      replace hxr := hxr.keep hb1
      clear h1 hpub
      have hb := hb1
      clear hb1
      replace hR := hR.grow hb
      have hZ2 := (hZ).own hR
      clear hR hb
      try clear hZ
      have hZ := hZ2
      clear hZ2
      have hR := Own.start w1
      go_upto_region 12 with (first
    | ((with_reducible apply wpList_make hR zRec); exact rfl; clear hR; intro g w hR; simp only [List.set_cons_succ, List.set_cons_zero])
    | ((with_reducible apply wpList_put hR tRec); exact rfl; exact rfl; exact rfl; (focus (repeat (first | apply List.Mem.head | apply List.Mem.tail | apply List.mem_append_right))); exact put_rec _ _ _ _; exact rfl; simp; exact one_rec _ hV; (focus (repeat (first | apply Upd.head | apply Upd.tail))); clear hR; intro w hR))
      refine wp_region_rows hR [0, 1, 2, 3, 4, 5, 6, 7, 8, 9, 10] 0 (by kernel_rfl) (by kernel_rfl) (by kernel_rfl) rfl ?_
      clear hR; intro hR
      repeat (refine wpT_step rfl ?_; first
    | ((with_reducible apply q_kn); exact rfl; (with_reducible apply t_strW tTextN); (apply EvC.now; exact rfl); (exact fun w hC => hV.own hC); (simp only [List.set_cons_succ, List.set_cons_zero]; exact rfl))
    | ((with_reducible apply q_kn); exact rfl; (with_reducible apply t_call Try.call7); (first | (apply EvC.gv; exact rfl; (with_reducible first | exact Imp.refl _ | (apply Imp.left; exact Imp.refl _) | (apply Imp.right; exact Imp.refl _) | (apply Imp.left; apply Imp.left; exact Imp.refl _))) | (apply EvC.now; exact rfl) | exact rfl | (with_reducible exact EvAll.nil) | (focus (repeat (first | apply EvAll.cons | exact EvAll.nil | (apply EvC.gv; exact rfl; (with_reducible first | exact Imp.refl _ | (apply Imp.left; exact Imp.refl _) | (apply Imp.right; exact Imp.refl _) | (apply Imp.left; apply Imp.left; exact Imp.refl _))) | (apply EvC.now; exact rfl))); done) | (first | exact ext_pub _ | exact ext_ext _) | (focus (repeat (first | apply List.Mem.head | apply List.Mem.tail | apply List.mem_append_right)))); (intro hcc w hC; exact tame_below (HREF.out _ _ (hxr.own hC)) hC); (simp only [List.set_cons_succ, List.set_cons_zero]; exact rfl))
    | ((with_reducible apply q_kn); exact rfl; (with_reducible apply t_strsameN); (apply EvC.now; exact rfl); (apply EvC.now; exact rfl); (simp only [List.set_cons_succ, List.set_cons_zero]; exact rfl))
    | ((with_reducible apply q_kn); exact rfl; (with_reducible apply t_cmp); (apply EvC.now; exact rfl); (apply EvC.now; exact rfl); exact cmp_nselfS _; (simp only [List.set_cons_succ, List.set_cons_zero]; exact rfl))
    | ((with_reducible apply q_kn); exact rfl; ((with_reducible first | apply t_addr (fRec _ (by decide)) | apply t_addr (fPub _ (by decide)) | apply t_addr (fExt _ (by decide)) | apply t_one tByteR | apply t_one tSlR | apply t_one tIntR | apply t_one tWordP | apply t_one tNumX | apply t_one tStrO | apply t_part tPub | apply t_part tExt) <;> (first | (apply EvC.gv; exact rfl; (with_reducible first | exact Imp.refl _ | (apply Imp.left; exact Imp.refl _) | (apply Imp.right; exact Imp.refl _) | (apply Imp.left; apply Imp.left; exact Imp.refl _))) | (apply EvC.now; exact rfl) | exact rfl | (with_reducible exact EvAll.nil) | (focus (repeat (first | apply EvAll.cons | exact EvAll.nil | (apply EvC.gv; exact rfl; (with_reducible first | exact Imp.refl _ | (apply Imp.left; exact Imp.refl _) | (apply Imp.right; exact Imp.refl _) | (apply Imp.left; apply Imp.left; exact Imp.refl _))) | (apply EvC.now; exact rfl))); done) | (first | exact ext_pub _ | exact ext_ext _) | (focus (repeat (first | apply List.Mem.head | apply List.Mem.tail | apply List.mem_append_right))))); (simp only [List.set_cons_succ, List.set_cons_zero]; exact rfl))
    | ((with_reducible apply q_kn); exact rfl; (first | ((with_reducible first | apply t_move | apply t_assign | apply t_addr (fRec _ (by decide)) | apply t_addr (fPub _ (by decide)) | apply t_addr (fExt _ (by decide)) | apply t_one tByteR | apply t_one tSlR | apply t_one tIntR | apply t_one tWordP | apply t_one tNumX | apply t_one tStrO | apply t_part tPub | apply t_part tExt) <;> (first | (apply EvC.gv; exact rfl; (with_reducible first | exact Imp.refl _ | (apply Imp.left; exact Imp.refl _) | (apply Imp.right; exact Imp.refl _) | (apply Imp.left; apply Imp.left; exact Imp.refl _))) | (apply EvC.now; exact rfl) | exact rfl | (with_reducible exact EvAll.nil) | (focus (repeat (first | apply EvAll.cons | exact EvAll.nil | (apply EvC.gv; exact rfl; (with_reducible first | exact Imp.refl _ | (apply Imp.left; exact Imp.refl _) | (apply Imp.right; exact Imp.refl _) | (apply Imp.left; apply Imp.left; exact Imp.refl _))) | (apply EvC.now; exact rfl))); done) | (first | exact ext_pub _ | exact ext_ext _) | (focus (repeat (first | apply List.Mem.head | apply List.Mem.tail | apply List.mem_append_right))))) | ((with_reducible apply t_pick); (apply EvC.now; exact rfl); (apply EvC.now; exact rfl))); (simp only [List.set_cons_succ, List.set_cons_zero]; exact rfl)))
      refine wpG_end hR (by kernel_rfl) ?_
      clear hR; intro w hR
      go_upto_if 77 with fail
      refine wp_cond_at (nm := false) rfl rfl (fun h => absurd h (by decide)) (fun _ => ?_)
      go_upto_if 80 with (first
    | ((with_reducible apply q_ls hR); exact rfl; (with_reducible apply t_lenRd Try.underlying22); (apply EvC.now; exact rfl); exact hxr; (simp only [List.set_cons_succ, List.set_cons_zero]; exact rfl); clear hR; intro w hR))
      cases hX : X with
      | nil =>
        have hb0 : bs = [] := by rw [← HBS.out, hX]; rfl
        subst hb0
        subst hX
        refine wp_cond_at (nm := true) rfl rfl (fun _ => ?_) (fun h => absurd h (by decide))
        go_wp2_with (first
    | (go_at_call 8; refine (awake22_any _).mono ?_; rintro e w' ⟨rfl, hb⟩; replace hR := hR.grow hb; clear hb)
    | ((with_reducible apply q_ls hR); exact rfl; (with_reducible apply t_lenW Try.underlying26); (apply EvC.now; exact rfl); exact hV; (simp only [List.set_cons_succ, List.set_cons_zero]; exact rfl); clear hR; intro w hR)
    | ((with_reducible apply q_ls hR); exact rfl; ((with_reducible first | apply t_addr (fRec _ (by decide)) | apply t_addr (fPub _ (by decide)) | apply t_addr (fExt _ (by decide)) | apply t_one tByteR | apply t_one tSlR | apply t_one tIntR | apply t_one tWordP | apply t_one tNumX | apply t_one tStrO | apply t_part tPub | apply t_part tExt) <;> (first | (apply EvC.gv; exact rfl; (with_reducible first | exact Imp.refl _ | (apply Imp.left; exact Imp.refl _) | (apply Imp.right; exact Imp.refl _) | (apply Imp.left; apply Imp.left; exact Imp.refl _))) | (apply EvC.now; exact rfl) | exact rfl | (with_reducible exact EvAll.nil) | (focus (repeat (first | apply EvAll.cons | exact EvAll.nil | (apply EvC.gv; exact rfl; (with_reducible first | exact Imp.refl _ | (apply Imp.left; exact Imp.refl _) | (apply Imp.right; exact Imp.refl _) | (apply Imp.left; apply Imp.left; exact Imp.refl _))) | (apply EvC.now; exact rfl))); done) | (first | exact ext_pub _ | exact ext_ext _) | (focus (repeat (first | apply List.Mem.head | apply List.Mem.tail | apply List.mem_append_right))))); (simp only [List.set_cons_succ, List.set_cons_zero]; exact rfl); clear hR; intro w hR))
        go_ret
        exact ⟨by simp, (hZ.own hR).below⟩
      | cons p Y =>
        obtain ⟨ha, hg0, hs0, hf0, hz0⟩ := hXa p Y hX
        have HBACK := Lib.hid (giv_back hg0 hs0 hf0 hz0 ha)
        have HLESS := Lib.hid (giv_less hg0 hs0 hf0 hz0 ha)
        rw [← hX, HBS.out] at HBACK HLESS
        have hne : 1 ≤ X.length := by rw [hX]; simp
        have hbne : 2 ≤ bs.length := by
          rw [← HBS.out, hX]
          unfold pubsB
          rw [List.length_append]
          have := (headB_len p).1
          omega
        rw [← hX]
        clear ha hg0 hs0 hf0 hz0 hX hXa
        refine wp_cond_at (nm := false) rfl (beq_eq_false_iff_ne.2 (by omega)) (fun h => absurd h (by decide)) (fun _ => ?_)
        go_wp2_with (first
    | ((with_reducible apply q_ls hR); exact rfl; ((with_reducible first | apply t_addr (fRec _ (by decide)) | apply t_addr (fPub _ (by decide)) | apply t_addr (fExt _ (by decide)) | apply t_one tByteR | apply t_one tSlR | apply t_one tIntR | apply t_one tWordP | apply t_one tNumX | apply t_one tStrO | apply t_part tPub | apply t_part tExt) <;> (first | (apply EvC.gv; exact rfl; (with_reducible first | exact Imp.refl _ | (apply Imp.left; exact Imp.refl _) | (apply Imp.right; exact Imp.refl _) | (apply Imp.left; apply Imp.left; exact Imp.refl _))) | (apply EvC.now; exact rfl) | exact rfl | (with_reducible exact EvAll.nil) | (focus (repeat (first | apply EvAll.cons | exact EvAll.nil | (apply EvC.gv; exact rfl; (with_reducible first | exact Imp.refl _ | (apply Imp.left; exact Imp.refl _) | (apply Imp.right; exact Imp.refl _) | (apply Imp.left; apply Imp.left; exact Imp.refl _))) | (apply EvC.now; exact rfl))); done) | (first | exact ext_pub _ | exact ext_ext _) | (focus (repeat (first | apply List.Mem.head | apply List.Mem.tail | apply List.mem_append_right))))); (simp only [List.set_cons_succ, List.set_cons_zero]; exact rfl); clear hR; intro w hR))
        refine (pubGiven_any (hV.own hR) (by omega) (fun hc => by rw [hc] at hbne; exact absurd hbne (by decide))).mono ?_
        rw [HBACK.out]
        rintro e w2 h2
        obtain ⟨v2, rfl, hb, hG⟩ := h2.now
        replace hV := (hV.own hR).keep hb
        replace hxr := (hxr.own hR).keep hb
        have hAt := (hR.at (.head _)).keep hb
        clear h2 HBACK
        replace hR := hR.grow hb
        have hZ2 := (hZ).own hR
        clear hR hb
        try clear hZ
        have hZ := hZ2
        clear hZ2
        have hR := Own.start w2
        have hT := hAt.get
        go_upto_region 17 with fail
        refine wp_region_tame hR [0, 1, 2, 3, 4, 5, 6, 7, 8] rfl ?_
        repeat (refine wpT_step rfl ?_; first
    | ((with_reducible apply q_kn); exact rfl; (with_reducible apply t_lenRd Try.underlying22); (apply EvC.now; exact rfl); (first | exact hG | exact hxr); (simp only [List.set_cons_succ, List.set_cons_zero]; exact rfl))
    | ((with_reducible apply q_kn); exact rfl; (with_reducible apply t_cmp); (apply EvC.now; exact rfl); (apply EvC.now; exact rfl); exact cmp_nselfS _; (simp only [List.set_cons_succ, List.set_cons_zero]; exact rfl))
    | ((with_reducible apply q_kn); exact rfl; (first | ((with_reducible first | apply t_move | apply t_assign | apply t_addr (fRec _ (by decide)) | apply t_addr (fPub _ (by decide)) | apply t_addr (fExt _ (by decide)) | apply t_one tByteR | apply t_one tSlR | apply t_one tIntR | apply t_one tWordP | apply t_one tNumX | apply t_one tStrO | apply t_part tPub | apply t_part tExt) <;> (first | (apply EvC.gv; exact rfl; (with_reducible first | exact Imp.refl _ | (apply Imp.left; exact Imp.refl _) | (apply Imp.right; exact Imp.refl _) | (apply Imp.left; apply Imp.left; exact Imp.refl _))) | (apply EvC.now; exact rfl) | exact rfl | (with_reducible exact EvAll.nil) | (focus (repeat (first | apply EvAll.cons | exact EvAll.nil | (apply EvC.gv; exact rfl; (with_reducible first | exact Imp.refl _ | (apply Imp.left; exact Imp.refl _) | (apply Imp.right; exact Imp.refl _) | (apply Imp.left; apply Imp.left; exact Imp.refl _))) | (apply EvC.now; exact rfl))); done) | (first | exact ext_pub _ | exact ext_ext _) | (focus (repeat (first | apply List.Mem.head | apply List.Mem.tail | apply List.mem_append_right))))) | ((with_reducible apply t_pick); (apply EvC.now; exact rfl); (apply EvC.now; exact rfl))); (simp only [List.set_cons_succ, List.set_cons_zero]; exact rfl)))
        refine wpT_nil ?_
        clear hR; intro w hR
        go_upto_if 102 with fail
        refine wp_cond_at (nm := false) rfl rfl (fun h => absurd h (by decide)) (fun _ => ?_)
        go_wp2_with fail
        go_loopw [11] (fun i wr => ∃ j : Nat, i = .int .i64 j ∧ j ≤ X.length ∧ Own w2 wr []) (fun i _ => X.length - (intOf i).toNat)
        case atStart => exact ⟨0, rfl, Nat.zero_le _, hR⟩
        case round =>
          clear hR
          obtain ⟨j, rfl, hj, hR⟩ := hrel
          go_upto_region 20 with fail
          refine wp_region_tame hR [0, 1, 2, 3] rfl ?_
          repeat (refine wpT_step rfl ?_; first
    | ((with_reducible apply q_pl); (with_reducible apply t_lenRd Try.underlying22); (apply EvC.now; exact rfl); exact hxr; (simp only [List.set_cons_succ, List.set_cons_zero]; exact rfl))
    | ((first | (with_reducible apply q_pl) | ((with_reducible apply q_gd); (first | (apply GdBy.gt; exact rfl; exact rfl) | (apply GdBy.gf; exact rfl; exact rfl) | (apply GdBy.t; exact rfl; exact rfl) | (apply GdBy.f; exact rfl; exact rfl)))); (first | ((with_reducible first | apply t_move | apply t_assign | apply t_and | apply t_or | apply t_cmp | apply t_not | apply t_addr (fRec _ (by decide)) | apply t_addr (fPub _ (by decide)) | apply t_addr (fExt _ (by decide)) | apply t_one tByteR | apply t_one tSlR | apply t_one tIntR | apply t_one tWordP | apply t_one tNumX | apply t_one tStrO | apply t_part tPub | apply t_part tExt) <;> (first | (apply EvC.gv; exact rfl; (with_reducible first | exact Imp.refl _ | (apply Imp.left; exact Imp.refl _) | (apply Imp.right; exact Imp.refl _) | (apply Imp.left; apply Imp.left; exact Imp.refl _))) | (apply EvC.now; exact rfl) | exact rfl | (with_reducible exact EvAll.nil) | (focus (repeat (first | apply EvAll.cons | exact EvAll.nil | (apply EvC.gv; exact rfl; (with_reducible first | exact Imp.refl _ | (apply Imp.left; exact Imp.refl _) | (apply Imp.right; exact Imp.refl _) | (apply Imp.left; apply Imp.left; exact Imp.refl _))) | (apply EvC.now; exact rfl))); done) | (first | exact ext_pub _ | exact ext_ext _) | (focus (repeat (first | apply List.Mem.head | apply List.Mem.tail | apply List.mem_append_right)))))); (simp only [List.set_cons_succ, List.set_cons_zero]; exact rfl))
    | ((with_reducible apply q_gd); (first | (apply GdBy.gt; exact rfl; exact rfl) | (apply GdBy.gf; exact rfl; exact rfl) | (apply GdBy.t; exact rfl; exact rfl) | (apply GdBy.f; exact rfl; exact rfl)); ((with_reducible apply t_num) <;> (first | (apply EvC.gv; exact rfl; (with_reducible first | exact Imp.refl _ | (apply Imp.left; exact Imp.refl _) | (apply Imp.right; exact Imp.refl _) | (apply Imp.left; apply Imp.left; exact Imp.refl _))) | (apply EvC.now; exact rfl) | exact rfl | (with_reducible exact EvAll.nil) | (focus (repeat (first | apply EvAll.cons | exact EvAll.nil | (apply EvC.gv; exact rfl; (with_reducible first | exact Imp.refl _ | (apply Imp.left; exact Imp.refl _) | (apply Imp.right; exact Imp.refl _) | (apply Imp.left; apply Imp.left; exact Imp.refl _))) | (apply EvC.now; exact rfl))); done) | (first | exact ext_pub _ | exact ext_ext _) | (focus (repeat (first | apply List.Mem.head | apply List.Mem.tail | apply List.mem_append_right))))); (simp only [List.set_cons_succ, List.set_cons_zero]; exact rfl))
    | ((with_reducible apply wpT1_gpure); (first | (apply GdBy.gt; exact rfl; exact rfl) | (apply GdBy.gf; exact rfl; exact rfl) | (apply GdBy.t; exact rfl; exact rfl) | (apply GdBy.f; exact rfl; exact rfl)); intro K hK; go_simp; refine hK _ ?_; clear hK K; simp only [List.set_cons_succ, List.set_cons_zero])
    | ((with_reducible apply wpT1_pure); exact rfl; intro K hK; go_simp; refine hK _ ?_; clear hK K; simp only [List.set_cons_succ, List.set_cons_zero]))
          refine wpT_nil ?_
          clear hR; intro w hR
          go_upto_if 106 with fail
          by_cases hjl : j < X.length
          · refine wp_cond_at (nm := true) rfl (by simp; omega) (fun _ => ?_) (fun h => absurd h (by decide))
            obtain ⟨p, hp⟩ : ∃ p, X[j]? = some p := ⟨_, List.getElem?_eq_getElem hjl⟩
            obtain ⟨ag, capg, hvg, hg0⟩ := RowsAt.el cellsPub_len hG hp
            obtain ⟨ax, capx, hvx, hx0⟩ := RowsAt.el cellsPub_len hxr hp
            rw [hvg, hvx]
            have HVG := Lib.hid hvg
            have HVX := Lib.hid hvx
            have HG0 := Lib.hid (show ∀ q u, (encPub p).toList[q]? = some u → w2.cell? ((ag.add ((j : Int).toNat * 5)).add q) = some u from hg0)
            have HX0 := Lib.hid (show ∀ q u, (encPub p).toList[q]? = some u → w2.cell? ((ax.add ((j : Int).toNat * 5)).add q) = some u from hx0)
            clear hg0 hx0 hp hvg hvx
            go_upto_region 22 with fail
            refine wp_region_rows hR [0, 1, 2, 3, 4, 5, 6, 7, 8] 0 (by kernel_rfl) (by kernel_rfl) (by kernel_rfl) rfl ?_
            clear hR; intro hR
            repeat (refine wpT_step rfl ?_; first
    | ((with_reducible apply q_pl); (with_reducible apply t_six Try.underlying22 iPub); (apply EvC.now; exact rfl); (apply EvC.now; exact rfl); (constructor <;> omega); (simp only [List.set_cons_succ, List.set_cons_zero]; exact rfl))
    | ((with_reducible apply q_pl); (with_reducible apply t_oldMany tPub); (apply EvC.now; exact rfl); (with_reducible first | exact HG0.out | exact HX0.out); exact rfl; (simp only [List.set_cons_succ, List.set_cons_zero]; exact rfl))
    | ((with_reducible apply q_pl); (with_reducible apply t_nel gPub); (apply EvC.now; exact rfl); (apply EvC.now; exact rfl); exact eqP_self _; (simp only [List.set_cons_succ, List.set_cons_zero]; exact rfl))
    | ((with_reducible apply q_pl); (with_reducible apply t_move); (apply EvC.now; exact rfl); (simp only [List.set_cons_succ, List.set_cons_zero]; exact rfl)))
            refine wpG_end hR (by kernel_rfl) ?_
            clear hR; intro w hR
            go_upto_if 117 with fail
            refine wp_cond_at (nm := false) rfl rfl (fun h => absurd h (by decide)) (fun _ => ?_)
            go_wp2_with fail
            go_round
            case rel => exact ⟨_, _, ⟨j + 1, rfl, by omega⟩, rfl, HVX.out.symm, HVG.out.symm, rfl, HVX.out.symm, HVG.out.symm, HVX.out.symm⟩
            case measure => simp [intOf]; omega
          · refine wp_cond_at (nm := false) rfl (by simp; omega) (fun h => absurd h (by decide)) (fun _ => ?_)
            have HSUB := Lib.hid (show IntKind.i64.wrap ((bs.length : Int) - 1) = ((bs.length - 1 : Nat) : Int) by rw [IntWalk.i64_in _ (by omega)]; omega)
            go_wp2_with (first
    | ((with_reducible apply q_ls hR); exact rfl; (with_reducible apply t_old tSlR hT); (apply EvC.now; exact rfl); exact rfl; (simp only [List.set_cons_succ, List.set_cons_zero]; exact rfl); clear hR; intro w hR)
    | ((with_reducible apply q_ls hR); exact rfl; (with_reducible apply t_lenW Try.underlying26); (apply EvC.now; exact rfl); exact hV; (simp only [List.set_cons_succ, List.set_cons_zero]; exact rfl); clear hR; intro w hR)
    | ((with_reducible apply q_ls hR); exact rfl; (with_reducible apply t_numE); (apply EvC.now; exact rfl); (apply EvC.now; exact rfl); exact rfl; exact HSUB.out; (simp only [List.set_cons_succ, List.set_cons_zero]; exact rfl); clear hR; intro w hR)
    | ((with_reducible apply q_ls hR); exact rfl; (with_reducible apply t_cutH tBytesN hV); (apply EvC.now; exact rfl); (apply EvC.now; exact rfl); exact rfl; (omega); (simp only [List.set_cons_succ, List.set_cons_zero]; exact rfl); clear hR; intro w hR)
    | ((with_reducible apply q_ls hR); exact rfl; ((with_reducible first | apply t_addr (fRec _ (by decide)) | apply t_addr (fPub _ (by decide)) | apply t_addr (fExt _ (by decide)) | apply t_one tByteR | apply t_one tSlR | apply t_one tIntR | apply t_one tWordP | apply t_one tNumX | apply t_one tStrO | apply t_part tPub | apply t_part tExt) <;> (first | (apply EvC.gv; exact rfl; (with_reducible first | exact Imp.refl _ | (apply Imp.left; exact Imp.refl _) | (apply Imp.right; exact Imp.refl _) | (apply Imp.left; apply Imp.left; exact Imp.refl _))) | (apply EvC.now; exact rfl) | exact rfl | (with_reducible exact EvAll.nil) | (focus (repeat (first | apply EvAll.cons | exact EvAll.nil | (apply EvC.gv; exact rfl; (with_reducible first | exact Imp.refl _ | (apply Imp.left; exact Imp.refl _) | (apply Imp.right; exact Imp.refl _) | (apply Imp.left; apply Imp.left; exact Imp.refl _))) | (apply EvC.now; exact rfl))); done) | (first | exact ext_pub _ | exact ext_ext _) | (focus (repeat (first | apply List.Mem.head | apply List.Mem.tail | apply List.mem_append_right))))); (simp only [List.set_cons_succ, List.set_cons_zero]; exact rfl); clear hR; intro w hR))
            refine (pubGiven_any ((hV.first (bs.length - 1) (by omega)).own hR) (by rw [List.length_take]; omega) (fun hc => by have := congrArg List.length hc; rw [List.length_take, List.length_nil] at this; omega)).mono ?_
            rw [HLESS.out]
            rintro e w3 h3
            obtain ⟨v3, rfl, hb, _⟩ := h3.now
            replace hR := hR.grow hb
            clear hb h3
            go_wp2_with (first
    | (go_at_call 8; refine (awake22_any _).mono ?_; rintro e w' ⟨rfl, hb⟩; replace hR := hR.grow hb; clear hb))
            go_ret
            exact ⟨by simp, (hZ.own hR).below⟩

set_option maxRecDepth 100000 in
theorem lifted (os : Os) (started : os.Started) (H : Type) (enc : TypeId × Value → H) :
    ReturnsInHanded {} Try.checked os 3 .any (Rows.pubsGivenSpec.pre6 enc Try.prog Try.f3 Rows.pubsGivenRow.domain false) (Rows.pubsGivenSpec.post enc Try.prog Try.f3 false true false false) := by
  refine returnsInHanded_of_change (C := Try.checked) own started (by kernel_rfl) Try.func3
    (ChangeSpec.witness6 (enc := enc) (C := Try.checked) false ⟨#[], #[.slice none 0 0, .agg (encPub zeroP)], []⟩ 8 (by kernel_rfl) (by kernel_rfl) (by kernel_rfl) (by kernel_rfl)) ?_
  intro W base args ds gs before hval0 hW hcnd _
  have hval : ∀ (j : Nat) t v, Try.f3.params[j]? = some t → args[j]? = some v → Value.okWide Try.prog W .any base t v := hval0
  have hW' := hW
  obtain ⟨p, q, hA0, hV, rfl, hfz, hnd⟩ := hW
  have hA : DataW.TrodAll enc Try.prog W 0 (fun _ => true) true Try.f3.params.toList args.toList ds p := hA0
  rw [Try.params3] at hA hval
  obtain ⟨v0, vs0, d0, ds0, p0, q0, hargs, rfl, rfl, h0, r0⟩ := trodAll_cons hA
  obtain ⟨v1, vs1, d1, ds1, p1, q1, rfl, rfl, rfl, h1, r1⟩ := trodAll_cons r0
  obtain ⟨rfl, rfl, rfl⟩ := trodAll_nil r1
  obtain rfl : args = #[v0, v1] := by cases args; simp_all
  obtain ⟨rfl, rfl⟩ := trodVars_none hV
  have k0 := h0
  have lt0 : ∀ x ∈ p0, x.block < W.heap.size := by obtain ⟨m, hm⟩ := k0; exact DataW.trod_lt m _ _ _ hm
  have o0 := open_pubs (hval 0 22 v0 rfl rfl) h0
  have k1 := h1
  have lt1 : ∀ x ∈ p1, x.block < W.heap.size := by obtain ⟨m, hm⟩ := k1; exact DataW.trod_lt m _ _ _ hm
  clear hA0 hval0
  refine (walk v0 o0 v1 (hval 1 25 v1 rfl rfl) W).mono fun e W' ⟨he, bel⟩ => ?_
  subst he
  exact ⟨_, rfl, _, _, _, [], _, [], hW', trodAll_mk1 (shut_bool Try.underlying4 _), (trodAll_cons_mk (Below.trod laidOut (by kernel_rfl) (of_decide_eq_true (by kernel_rfl)) k0 bel lt0) (trodAll_cons_mk (Below.trod laidOut (by kernel_rfl) (of_decide_eq_true (by kernel_rfl)) k1 bel lt1) trodAll_mk0)), rfl, bel.frame _, fun h => by cases h⟩

theorem over : Rows.pubsGivenRow.holds Try.pinned (OpenSpec.ofChange Rows.pubsGivenSpec) :=
  OpenClaim.holds_of_wide 3 Try.f3 rfl rfl rfl rfl rfl rfl rfl ⟨rfl, rfl, rfl, rfl, rfl⟩ rfl rfl rfl rfl rfl (by kernel_rfl) Try.func3 (by kernel_rfl)
    (of_decide_eq_true (by kernel_rfl)) (by unfold Func.isWrapper; first | (rw [if_pos (by decide +kernel)]; kernel_rfl) | (rw [if_neg (by decide +kernel)]; exact ⟨rfl, rfl⟩))
    (fun os started H enc _ => lifted os started H enc)

theorem proved : Rows.PubsGivenSaid := over
#print axioms proved
end Go.Proofs.Ytmiakniilimghaa.pubsGiven
