/- The law IndexBack (indices, lengths, numbers and names that lie one behind the other are read as they were, and then nothing is left) returns true whatever the arguments, and each argument reads afterwards as before. There is no condition on the arguments. -/
import Derived.Test.YtonedpbhmjhgiaaRows
import Derived.Test.YtonedpbhmjhgiaaLaw19
import Derived.WalkKit
import Derived.ProofKit
import Derived.OpenShut
import Derived.ShutString
import Derived.ChangeOld
import Derived.Below
namespace Go.Proofs.Ytonedpbhmjhgiaa.indexBack
open Go.ChangeShapes Go.WideShapes Go.ChangeAt Go.RowKit
open Go.ChangeMaps (open_string shut_string)
set_option linter.unusedVariables false
set_option linter.unusedSimpArgs false

theorem own : ownKnob Try.prog.godebug = none := by kernel_rfl
theorem laidOut : laidOutB Try.prog = true := by kernel_rfl









theorem and15 (n : Nat) : bits .and .u32 (n : Int) 32767 = ((n % 32768 : Nat) : Int) := by
  have h3 : (BitVec.ofInt 32 32767).toNat = 2 ^ 15 - 1 := by decide
  have key : (BitVec.ofInt 32 (n : Int) &&& BitVec.ofInt 32 32767).toNat = ((n : Int) % ((2 ^ 32 : Nat) : Int)).toNat % 2 ^ 15 := by
    rw [BitVec.toNat_and, BitVec.toNat_ofInt, h3, Nat.and_two_pow_sub_one_eq_mod]
  show IntKind.u32.wrap ((BitVec.ofInt 32 (n : Int) &&& BitVec.ofInt 32 32767).toNat : Nat) = _
  rw [key, IntKind.wrap_u32]
  omega
theorem min255 (n : Nat) : (if (255 : Int) < (n : Int) then 255 else (n : Int)) = ((min n 255 : Nat) : Int) := by split <;> omega
def partU (nm : List Int) (z : Nat) : List Int := idxN ((z % 32768 : Nat) : Int) ++ longN z ++ bytesN z 4 ++ nam18 nm
def catU (nm : List Int) (l : List Nat) : List Int := l.flatMap (partU nm)
theorem catU_more (nm : List Int) (l : List Nat) (z : Nat) : catU nm (l ++ [z]) = catU nm l ++ partU nm z := by simp [catU]
theorem partU_len (nm : List Int) (z : Nat) : (partU nm z).length ≤ 267 := by
  have h1 := (idxN_len ((z % 32768 : Nat) : Int)).2
  have h2 := longN_len z
  have h3 := bytesN_len z 4
  have h4 := nam18_len nm
  simp only [partU, List.length_append]
  omega
theorem catU_len (nm : List Int) : ∀ (l : List Nat), (catU nm l).length ≤ l.length * 267
  | [] => by simp [catU]
  | z :: l => by
    have h1 := partU_len nm z
    have h2 := catU_len nm l
    simp only [catU, List.flatMap_cons, List.length_append, List.length_cons] at *
    omega
theorem partU_ok {nm : List Int} (h : bytesOk nm) (z : Nat) : bytesOk (partU nm z) := (((idxN_ok _).append (longN_ok z)).append (bytesN_ok z 4)).append (nam18_ok h)
theorem catU_ok {nm : List Int} (h : bytesOk nm) : ∀ (l : List Nat), bytesOk (catU nm l)
  | [] => .nil
  | z :: l => (partU_ok h z).append (catU_ok h l)
theorem take_more {l : List Nat} {k z : Nat} (h : l[k]? = some z) : l.take (k + 1) = l.take k ++ [z] := by rw [List.take_add_one, h]; rfl
def LoopU (w0 : World) (nm : List Int) (l : List Nat) (s i : Value) (wr : World) : Prop :=
  ∃ k : Nat, i = .int .i64 k ∧ k ≤ 12 ∧ k ≤ l.length ∧ s = .string (strOfNums (catU nm (l.take k))) ∧ Own w0 wr []
set_option maxHeartbeats 8000000 in
set_option maxRecDepth 100000 in
theorem walk {w0 : World} (v0 : Value) (hU : U32sIn w0 v0) (s1 : ByteArray) (hs : s1.size ≤ 9223372036854775807) (wi : World) :
    Calls Try.prog 4 #[v0, .string s1] w0 fun e w' => e = .returned (.bool true) ∧ Below w0.heap.size w0 w' := by
  clear wi
  obtain ⟨zs, hzb, hrd⟩ := hU
  obtain ⟨ts, rfl, hto⟩ : ∃ ts, s1 = strOfNums ts ∧ bytesOk ts := ⟨numsS s1, (strOf_nums s1).symm, numsS_ok s1⟩
  rw [strOf_len] at hs
  have hR := Own.start w0
  obtain ⟨n, hn⟩ : ∃ n, min ts.length 255 = n := ⟨_, rfl⟩
  have hnt : n ≤ ts.length := by omega
  have hn255 : n ≤ 255 := by omega
  have HM := Lib.hid (min255 ts.length)
  rw [hn] at HM
  clear hn
  go_enter Try.func4, Try.ntmps4
  go_upto_region 2 with (first
    | ((with_reducible apply q_ls hR); exact rfl; (with_reducible apply t_lenN Try.underlying9); (apply EvC.now; exact rfl); (simp only [List.set_cons_succ, List.set_cons_zero]; exact rfl); clear hR; intro w hR)
    | ((with_reducible apply q_ls hR); exact rfl; (with_reducible apply t_minK); (apply EvC.now; exact rfl); (apply EvC.now; exact rfl); (exact HM.out); (simp only [List.set_cons_succ, List.set_cons_zero]; exact rfl); clear hR; intro w hR)
    | ((with_reducible apply q_ls hR); exact rfl; (with_reducible apply t_takeN Try.underlying9); (apply EvC.now; exact rfl); (apply EvC.now; exact rfl); exact rfl; (exact hnt); (simp only [List.set_cons_succ, List.set_cons_zero]; exact rfl); clear hR; intro w hR))
  have hnb : (ts.take n).length ≤ 255 := by rw [List.length_take]; omega
  have hno := hto.take n
  generalize ts.take n = nm at *
  clear HM hnt hto hs hn255
  go_wp2_with fail
  go_loopw [6, 7] (fun s i wr => LoopU w0 nm zs s i wr) (fun _ i _ => 12 - (intOf i).toNat)
  case atStart => exact ⟨0, rfl, by decide, Nat.zero_le _, rfl, hR⟩
  case round =>
    clear hR
    obtain ⟨k, rfl, hk12, hkl, rfl, hR⟩ := hrel
    have hcl := catU_len nm (zs.take k)
    rw [List.length_take] at hcl
    have hcl2 : (catU nm (zs.take k)).length ≤ 3204 := by omega
    clear hcl
    go_upto_region 3 with fail
    refine wp_region_tame hR [0, 1, 2, 3, 4, 5, 6, 7] rfl ?_
    repeat (refine wpT_step rfl ?_; first
    | ((with_reducible apply q_pl); (with_reducible apply t_lenRd Try.underlying36); (apply EvC.now; exact rfl); exact hrd; (simp only [List.set_cons_succ, List.set_cons_zero]; exact rfl))
    | ((first | (with_reducible apply q_pl) | ((with_reducible apply q_gd); (first | (apply GdBy.gt; exact rfl; exact rfl) | (apply GdBy.gf; exact rfl; exact rfl) | (apply GdBy.t; exact rfl; exact rfl) | (apply GdBy.f; exact rfl; exact rfl)))); (first | ((with_reducible first | apply t_move | apply t_assign | apply t_and | apply t_or | apply t_cmp | apply t_not | apply t_addr (fRec _ (by decide)) | apply t_one tByteR | apply t_one tSlR | apply t_one tIntR) <;> (first | (apply EvC.gv; exact rfl; (with_reducible first | exact Imp.refl _ | (apply Imp.left; exact Imp.refl _) | (apply Imp.right; exact Imp.refl _) | (apply Imp.left; apply Imp.left; exact Imp.refl _))) | (apply EvC.now; exact rfl) | exact rfl | (with_reducible exact EvAll.nil) | (focus (repeat (first | apply EvAll.cons | exact EvAll.nil | (apply EvC.gv; exact rfl; (with_reducible first | exact Imp.refl _ | (apply Imp.left; exact Imp.refl _) | (apply Imp.right; exact Imp.refl _) | (apply Imp.left; apply Imp.left; exact Imp.refl _))) | (apply EvC.now; exact rfl))); done) | exact rfl | (focus (repeat (first | apply List.Mem.head | apply List.Mem.tail | apply List.mem_append_right)))))); (simp only [List.set_cons_succ, List.set_cons_zero]; exact rfl))
    | ((with_reducible apply q_gd); (first | (apply GdBy.gt; exact rfl; exact rfl) | (apply GdBy.gf; exact rfl; exact rfl) | (apply GdBy.t; exact rfl; exact rfl) | (apply GdBy.f; exact rfl; exact rfl)); ((with_reducible apply t_num) <;> (first | (apply EvC.gv; exact rfl; (with_reducible first | exact Imp.refl _ | (apply Imp.left; exact Imp.refl _) | (apply Imp.right; exact Imp.refl _) | (apply Imp.left; apply Imp.left; exact Imp.refl _))) | (apply EvC.now; exact rfl) | exact rfl | (with_reducible exact EvAll.nil) | (focus (repeat (first | apply EvAll.cons | exact EvAll.nil | (apply EvC.gv; exact rfl; (with_reducible first | exact Imp.refl _ | (apply Imp.left; exact Imp.refl _) | (apply Imp.right; exact Imp.refl _) | (apply Imp.left; apply Imp.left; exact Imp.refl _))) | (apply EvC.now; exact rfl))); done) | exact rfl | (focus (repeat (first | apply List.Mem.head | apply List.Mem.tail | apply List.mem_append_right))))); (simp only [List.set_cons_succ, List.set_cons_zero]; exact rfl))
    | ((with_reducible apply wpT1_gpure); (first | (apply GdBy.gt; exact rfl; exact rfl) | (apply GdBy.gf; exact rfl; exact rfl) | (apply GdBy.t; exact rfl; exact rfl) | (apply GdBy.f; exact rfl; exact rfl)); intro K hK; go_simp; refine hK _ ?_; clear hK K; simp only [List.set_cons_succ, List.set_cons_zero])
    | ((with_reducible apply wpT1_pure); exact rfl; intro K hK; go_simp; refine hK _ ?_; clear hK K; simp only [List.set_cons_succ, List.set_cons_zero]))
    refine wpT_nil ?_
    clear hR; intro w hR
    go_upto_if 25 with fail
    refine wp_cond_at (nm := decide ((k : Int) < (zs.length : Int)) && decide ((k : Int) < 12)) rfl rfl (fun h => ?_) (fun h => ?_)
    · simp only [Bool.and_eq_true, decide_eq_true_eq] at h
      have hlt : k < zs.length := by omega
      have h12 : k < 12 := by omega
      clear h
      obtain ⟨z, hz⟩ : ∃ z, zs[k]? = some z := ⟨_, List.getElem?_eq_getElem hlt⟩
      have hzz := hzb z (List.mem_of_getElem? hz)
      obtain ⟨a, cap, rfl, hc⟩ := hrd.u32 hz
      have HC := Lib.hid (show w0.cell? (a.add ((k : Int).toNat * 1)) = some (.int .u32 z) by rw [Int.toNat_natCast, Nat.mul_one]; exact hc)
      have HTM := Lib.hid (show catU nm (zs.take (k + 1)) = catU nm (zs.take k) ++ partU nm z by rw [take_more hz, catU_more])
      have HAND := Lib.hid (and15 z)
      have HCI := Lib.hid (show IntKind.i64.wrap ((z % 32768 : Nat) : Int) = ((z % 32768 : Nat) : Int) from IntWalk.i64_in _ (by omega))
      have HCU := Lib.hid (show IntKind.u64.wrap (z : Int) = (z : Int) by rw [IntKind.wrap_u64]; omega)
      have hl1 := (idxN_len ((z % 32768 : Nat) : Int)).2
      have hl2 := longN_len z
      have hl3 := bytesN_len z 4
      have hl4 := nam18_len nm
      have HPU := Lib.hid (show partU nm z = idxN ((z % 32768 : Nat) : Int) ++ longN z ++ bytesN z 4 ++ nam18 nm from rfl)
      have hmb : z % 32768 ≤ 32767 := by omega
      clear hc hz
      go_upto_region 5 with fail
      refine wp_region_rows hR [0, 1, 2, 3, 4, 5, 6, 7, 8, 9, 10, 11, 12, 13, 14, 15, 16, 17, 18, 19, 20, 21, 22, 23, 24, 25] 0 (by kernel_rfl) (by kernel_rfl) (by kernel_rfl) rfl ?_
      clear hR; intro hR
      repeat (refine wpT_step rfl ?_; first
    | ((with_reducible apply q_kn); exact rfl; (with_reducible apply t_six Try.underlying36 iU32); (apply EvC.now; exact rfl); (apply EvC.now; exact rfl); (constructor <;> omega); (simp only [List.set_cons_succ, List.set_cons_zero]; exact rfl))
    | ((with_reducible apply q_kn); exact rfl; (with_reducible apply t_oldOne tU32); (apply EvC.now; exact rfl); exact HC.out; exact rfl; (simp only [List.set_cons_succ, List.set_cons_zero]; exact rfl))
    | ((with_reducible apply q_kn); exact rfl; (with_reducible apply t_numE); (apply EvC.now; exact rfl); (apply EvC.now; exact rfl); exact rfl; exact HAND.out; (simp only [List.set_cons_succ, List.set_cons_zero]; exact rfl))
    | ((with_reducible apply q_kn); exact rfl; (with_reducible apply t_conv Try.underlying22 Try.underlying3); (apply EvC.now; exact rfl); exact HCI.out; (simp only [List.set_cons_succ, List.set_cons_zero]; exact rfl))
    | ((with_reducible apply q_kn); exact rfl; (with_reducible apply t_conv Try.underlying22 Try.underlying32); (apply EvC.now; exact rfl); exact HCU.out; (simp only [List.set_cons_succ, List.set_cons_zero]; exact rfl))
    | ((with_reducible apply q_kn); exact rfl; (with_reducible apply t_cat); (apply EvC.now; exact rfl); (apply EvC.now; exact rfl); ((try simp only [List.length_append]); omega); (simp only [List.set_cons_succ, List.set_cons_zero]; exact rfl))
    | ((with_reducible apply q_kn); exact rfl; (with_reducible apply t_call Try.call8); (first | (apply EvC.gv; exact rfl; (with_reducible first | exact Imp.refl _ | (apply Imp.left; exact Imp.refl _) | (apply Imp.right; exact Imp.refl _) | (apply Imp.left; apply Imp.left; exact Imp.refl _))) | (apply EvC.now; exact rfl) | exact rfl | (with_reducible exact EvAll.nil) | (focus (repeat (first | apply EvAll.cons | exact EvAll.nil | (apply EvC.gv; exact rfl; (with_reducible first | exact Imp.refl _ | (apply Imp.left; exact Imp.refl _) | (apply Imp.right; exact Imp.refl _) | (apply Imp.left; apply Imp.left; exact Imp.refl _))) | (apply EvC.now; exact rfl))); done) | exact rfl | (focus (repeat (first | apply List.Mem.head | apply List.Mem.tail | apply List.mem_append_right)))); (intro hcc w hC; exact tame_below (r18index_any ((z % 32768 : Nat) : Int) _ (by omega) (by omega)) hC); (simp only [List.set_cons_succ, List.set_cons_zero]; exact rfl))
    | ((with_reducible apply q_kn); exact rfl; (with_reducible apply t_call Try.call15); (first | (apply EvC.gv; exact rfl; (with_reducible first | exact Imp.refl _ | (apply Imp.left; exact Imp.refl _) | (apply Imp.right; exact Imp.refl _) | (apply Imp.left; apply Imp.left; exact Imp.refl _))) | (apply EvC.now; exact rfl) | exact rfl | (with_reducible exact EvAll.nil) | (focus (repeat (first | apply EvAll.cons | exact EvAll.nil | (apply EvC.gv; exact rfl; (with_reducible first | exact Imp.refl _ | (apply Imp.left; exact Imp.refl _) | (apply Imp.right; exact Imp.refl _) | (apply Imp.left; apply Imp.left; exact Imp.refl _))) | (apply EvC.now; exact rfl))); done) | exact rfl | (focus (repeat (first | apply List.Mem.head | apply List.Mem.tail | apply List.mem_append_right)))); (intro hcc w hC; exact tame_below (r18long_any z _ (by omega)) hC); (simp only [List.set_cons_succ, List.set_cons_zero]; exact rfl))
    | ((with_reducible apply q_kn); exact rfl; (with_reducible apply t_call Try.call12); (first | (apply EvC.gv; exact rfl; (with_reducible first | exact Imp.refl _ | (apply Imp.left; exact Imp.refl _) | (apply Imp.right; exact Imp.refl _) | (apply Imp.left; apply Imp.left; exact Imp.refl _))) | (apply EvC.now; exact rfl) | exact rfl | (with_reducible exact EvAll.nil) | (focus (repeat (first | apply EvAll.cons | exact EvAll.nil | (apply EvC.gv; exact rfl; (with_reducible first | exact Imp.refl _ | (apply Imp.left; exact Imp.refl _) | (apply Imp.right; exact Imp.refl _) | (apply Imp.left; apply Imp.left; exact Imp.refl _))) | (apply EvC.now; exact rfl))); done) | exact rfl | (focus (repeat (first | apply List.Mem.head | apply List.Mem.tail | apply List.mem_append_right)))); (intro hcc w hC; exact tame_below (r18bytes_any z 4 _ (by omega) (by omega)) hC); (simp only [List.set_cons_succ, List.set_cons_zero]; exact rfl))
    | ((with_reducible apply q_kn); exact rfl; (with_reducible apply t_call Try.call10); (first | (apply EvC.gv; exact rfl; (with_reducible first | exact Imp.refl _ | (apply Imp.left; exact Imp.refl _) | (apply Imp.right; exact Imp.refl _) | (apply Imp.left; apply Imp.left; exact Imp.refl _))) | (apply EvC.now; exact rfl) | exact rfl | (with_reducible exact EvAll.nil) | (focus (repeat (first | apply EvAll.cons | exact EvAll.nil | (apply EvC.gv; exact rfl; (with_reducible first | exact Imp.refl _ | (apply Imp.left; exact Imp.refl _) | (apply Imp.right; exact Imp.refl _) | (apply Imp.left; apply Imp.left; exact Imp.refl _))) | (apply EvC.now; exact rfl))); done) | exact rfl | (focus (repeat (first | apply List.Mem.head | apply List.Mem.tail | apply List.mem_append_right)))); (intro hcc w hC; exact tame_below (r18name_any nm _ hno (by omega)) hC); (simp only [List.set_cons_succ, List.set_cons_zero]; exact rfl))
    | ((with_reducible apply q_kn); exact rfl; (first | ((with_reducible first | apply t_move | apply t_assign | apply t_addr (fRec _ (by decide)) | apply t_one tByteR | apply t_one tSlR | apply t_one tIntR) <;> (first | (apply EvC.gv; exact rfl; (with_reducible first | exact Imp.refl _ | (apply Imp.left; exact Imp.refl _) | (apply Imp.right; exact Imp.refl _) | (apply Imp.left; apply Imp.left; exact Imp.refl _))) | (apply EvC.now; exact rfl) | exact rfl | (with_reducible exact EvAll.nil) | (focus (repeat (first | apply EvAll.cons | exact EvAll.nil | (apply EvC.gv; exact rfl; (with_reducible first | exact Imp.refl _ | (apply Imp.left; exact Imp.refl _) | (apply Imp.right; exact Imp.refl _) | (apply Imp.left; apply Imp.left; exact Imp.refl _))) | (apply EvC.now; exact rfl))); done) | exact rfl | (focus (repeat (first | apply List.Mem.head | apply List.Mem.tail | apply List.mem_append_right))))) | ((with_reducible apply t_pick); (apply EvC.now; exact rfl); (apply EvC.now; exact rfl))); (simp only [List.set_cons_succ, List.set_cons_zero]; exact rfl)))
      refine wpG_end hR (by kernel_rfl) ?_
      clear hR; intro w hR
      go_wp2_with fail
      go_round
      case rel => exact ⟨k + 1, by simp, by omega, by omega, by rw [HTM.out, HPU.out], hR⟩
      case measure => simp [intOf]; omega
    · have hco := catU_ok hno (zs.take k)
      obtain ⟨xs, hxs⟩ : ∃ xs, zs.take k = xs := ⟨_, rfl⟩
      have hxl : xs.length = k := by rw [← hxs, List.length_take]; omega
      have hlast : ¬ (k < zs.length ∧ k < 12) := fun ⟨h1, h2⟩ => by simp at h; have := h h1; omega
      have hxz : ∀ j, j < k → zs[j]? = xs[j]? := fun j hj => by rw [← hxs, List.getElem?_take, if_pos hj]
      rw [hxs] at hco hcl2 ⊢
      clear h hxs
      go_upto_region 6 with fail
      go_wp2_with (first
    | ((with_reducible apply wpList_bytesN hR Try.underlying9 Try.underlying24 Try.underlying5 hco); exact rfl; exact rfl; clear hR; intro vm w hR hM; simp only [List.set_cons_succ, List.set_cons_zero]))
      have hM2 := hM.src
      clear hM
      have hZ2 := (Since.start w0).own hR
      have hR2 := hR.fresh
      clear hR
      try clear hZ
      have hZ := hZ2
      have hR := hR2
      clear hZ2 hR2
      obtain ⟨wb, hwb⟩ : ∃ x, x = w := ⟨_, rfl⟩
      subst hwb
      refine (fromX_any hM2 (by omega)).mono ?_
      rintro e w1 ⟨g, cs, sr, rfl, hR9, hO9⟩
      clear hR hM2
      have hR := hR9
      have hO := hO9
      have hrd1 := hrd.keep hZ.below
      clear hR9 hO9
      go_wp2_with fail
      go_loopw [9, 10, 11, 12] (fun i a b c wr => ∃ (j : Nat) (cs : Array Value), i = .int .i64 j ∧ j ≤ k ∧ Own wb wr ((g, cs, 53) :: sr) ∧ SrcObj wb sr cs ⟨catU nm (xs.drop j), 0⟩) (fun i _ _ _ _ => 12 - (intOf i).toNat)
      case atStart => exact ⟨0, _, rfl, Nat.zero_le _, hR, hO⟩
      case round =>
        clear hR hO
        obtain ⟨j, cs1, rfl, hj, hR, hO⟩ := hrel
        go_upto_region 8 with fail
        refine wp_region_tame hR [0, 1, 2, 3, 4, 5, 6, 7] rfl ?_
        repeat (refine wpT_step rfl ?_; first
    | ((with_reducible apply q_pl); (with_reducible apply t_lenRd Try.underlying36); (apply EvC.now; exact rfl); exact hrd1; (simp only [List.set_cons_succ, List.set_cons_zero]; exact rfl))
    | ((first | (with_reducible apply q_pl) | ((with_reducible apply q_gd); (first | (apply GdBy.gt; exact rfl; exact rfl) | (apply GdBy.gf; exact rfl; exact rfl) | (apply GdBy.t; exact rfl; exact rfl) | (apply GdBy.f; exact rfl; exact rfl)))); (first | ((with_reducible first | apply t_move | apply t_assign | apply t_and | apply t_or | apply t_cmp | apply t_not | apply t_addr (fRec _ (by decide)) | apply t_one tByteR | apply t_one tSlR | apply t_one tIntR) <;> (first | (apply EvC.gv; exact rfl; (with_reducible first | exact Imp.refl _ | (apply Imp.left; exact Imp.refl _) | (apply Imp.right; exact Imp.refl _) | (apply Imp.left; apply Imp.left; exact Imp.refl _))) | (apply EvC.now; exact rfl) | exact rfl | (with_reducible exact EvAll.nil) | (focus (repeat (first | apply EvAll.cons | exact EvAll.nil | (apply EvC.gv; exact rfl; (with_reducible first | exact Imp.refl _ | (apply Imp.left; exact Imp.refl _) | (apply Imp.right; exact Imp.refl _) | (apply Imp.left; apply Imp.left; exact Imp.refl _))) | (apply EvC.now; exact rfl))); done) | exact rfl | (focus (repeat (first | apply List.Mem.head | apply List.Mem.tail | apply List.mem_append_right)))))); (simp only [List.set_cons_succ, List.set_cons_zero]; exact rfl))
    | ((with_reducible apply q_gd); (first | (apply GdBy.gt; exact rfl; exact rfl) | (apply GdBy.gf; exact rfl; exact rfl) | (apply GdBy.t; exact rfl; exact rfl) | (apply GdBy.f; exact rfl; exact rfl)); ((with_reducible apply t_num) <;> (first | (apply EvC.gv; exact rfl; (with_reducible first | exact Imp.refl _ | (apply Imp.left; exact Imp.refl _) | (apply Imp.right; exact Imp.refl _) | (apply Imp.left; apply Imp.left; exact Imp.refl _))) | (apply EvC.now; exact rfl) | exact rfl | (with_reducible exact EvAll.nil) | (focus (repeat (first | apply EvAll.cons | exact EvAll.nil | (apply EvC.gv; exact rfl; (with_reducible first | exact Imp.refl _ | (apply Imp.left; exact Imp.refl _) | (apply Imp.right; exact Imp.refl _) | (apply Imp.left; apply Imp.left; exact Imp.refl _))) | (apply EvC.now; exact rfl))); done) | exact rfl | (focus (repeat (first | apply List.Mem.head | apply List.Mem.tail | apply List.mem_append_right))))); (simp only [List.set_cons_succ, List.set_cons_zero]; exact rfl))
    | ((with_reducible apply wpT1_gpure); (first | (apply GdBy.gt; exact rfl; exact rfl) | (apply GdBy.gf; exact rfl; exact rfl) | (apply GdBy.t; exact rfl; exact rfl) | (apply GdBy.f; exact rfl; exact rfl)); intro K hK; go_simp; refine hK _ ?_; clear hK K; simp only [List.set_cons_succ, List.set_cons_zero])
    | ((with_reducible apply wpT1_pure); exact rfl; intro K hK; go_simp; refine hK _ ?_; clear hK K; simp only [List.set_cons_succ, List.set_cons_zero]))
        refine wpT_nil ?_
        clear hR; intro w hR
        go_upto_if 63 with fail
        refine wp_cond_at (nm := decide ((j : Int) < (zs.length : Int)) && decide ((j : Int) < 12)) rfl rfl (fun h => ?_) (fun h => ?_)
        · simp only [Bool.and_eq_true, decide_eq_true_eq] at h
          have hjk : j < k := by omega
          clear h
          obtain ⟨z, hz⟩ : ∃ z, xs[j]? = some z := ⟨_, List.getElem?_eq_getElem (by omega)⟩
          have hz2 : zs[j]? = some z := by rw [hxz j hjk]; exact hz
          have hzz := hzb z (List.mem_of_getElem? hz2)
          obtain ⟨a, cap, rfl, hc⟩ := hrd1.u32 hz2
          have HC := Lib.hid (show wb.cell? (a.add ((j : Int).toNat * 1)) = some (.int .u32 z) by rw [Int.toNat_natCast, Nat.mul_one]; exact hc)
          have HAND := Lib.hid (and15 z)
          have HCI := Lib.hid (show IntKind.i64.wrap ((z % 32768 : Nat) : Int) = ((z % 32768 : Nat) : Int) from IntWalk.i64_in _ (by omega))
          have hdl : (catU nm (xs.drop j)).length ≤ 3204 := by
            have := catU_len nm (xs.drop j)
            rw [List.length_drop] at this
            omega
          have hdo := catU_ok hno (xs.drop j)
          have hdr : catU nm (xs.drop j) = idxN ((z % 32768 : Nat) : Int) ++ (longN z ++ (bytesN z 4 ++ (nam18 nm ++ catU nm (xs.drop (j + 1))))) := by
            have h1 := List.getElem?_eq_some_iff.1 hz
            rw [List.drop_eq_getElem_cons h1.1, h1.2]
            simp [catU, partU]
          rw [hdr] at hO hdl hdo
          simp only [List.length_append] at hdl
          have hmb : z % 32768 ≤ 32767 := by omega
          have HI := Lib.hid (index_back (n := ((z % 32768 : Nat) : Int)) (by omega) (longN z ++ (bytesN z 4 ++ (nam18 nm ++ catU nm (xs.drop (j + 1))))) 0)
          have HL := Lib.hid (long_back (n := z) (by omega) (bytesN z 4 ++ (nam18 nm ++ catU nm (xs.drop (j + 1)))) 0)
          have HN := Lib.hid (show numZ ⟨bytesN z 4 ++ (nam18 nm ++ catU nm (xs.drop (j + 1))), 0⟩ 4 = ((z : Int), ⟨nam18 nm ++ catU nm (xs.drop (j + 1)), 0⟩) by rw [num_back, show z % 256 ^ 4 = z by omega])
          have HA := Lib.hid (name_back (ts := nm) hnb (catU nm (xs.drop (j + 1))) 0)
          have ho1 : bytesOk (longN z ++ (bytesN z 4 ++ (nam18 nm ++ catU nm (xs.drop (j + 1))))) := fun m hm => hdo m (List.mem_append_right _ hm)
          have ho2 : bytesOk (bytesN z 4 ++ (nam18 nm ++ catU nm (xs.drop (j + 1)))) := fun m hm => ho1 m (List.mem_append_right _ hm)
          have ho3 : bytesOk (nam18 nm ++ catU nm (xs.drop (j + 1))) := fun m hm => ho2 m (List.mem_append_right _ hm)
          clear hdr hz hz2 hc
          generalize hrs : catU nm (xs.drop (j + 1)) = rs at *
          have HRS := Lib.hid hrs
          clear hrs
          go_wp2_with fail
          refine (indexX_any hR .head (fun _ h => h) hO (okZ hdo) (by simp only [List.length_append]; omega)).mono ?_
          rw [HI.out]
          rintro e w2 ⟨rfl, cs2, hR9, hO9⟩
          clear hR hO; have hR := hR9; have hO := hO9; clear hR9 hO9
          go_wp2_with fail
          refine (longX_any hR .head (fun _ h => h) hO (okZ ho1) (by simp only [List.length_append]; omega)).mono ?_
          rw [HL.out]
          rintro e w3 ⟨rfl, cs3, hR9, hO9⟩
          clear hR hO; have hR := hR9; have hO := hO9; clear hR9 hO9
          go_wp2_with fail
          refine (numberX_any hR .head (fun _ h => h) hO (okZ ho2) (by simp only [List.length_append]; omega)).mono ?_
          rw [HN.out]
          rintro e w4 ⟨rfl, cs4, hR9, hO9⟩
          clear hR hO; have hR := hR9; have hO := hO9; clear hR9 hO9
          go_upto_region 11 with fail
          go_upto_if 101 with (first
    | ((with_reducible apply q_ls hR); exact rfl; (with_reducible apply t_six Try.underlying36 iU32); (apply EvC.now; exact rfl); (apply EvC.now; exact rfl); (constructor <;> omega); (simp only [List.set_cons_succ, List.set_cons_zero]; exact rfl); clear hR; intro w hR)
    | ((with_reducible apply q_ls hR); exact rfl; (with_reducible apply t_oldOne tU32); (apply EvC.now; exact rfl); exact HC.out; exact rfl; (simp only [List.set_cons_succ, List.set_cons_zero]; exact rfl); clear hR; intro w hR)
    | ((with_reducible apply q_ls hR); exact rfl; (with_reducible apply t_numE); (apply EvC.now; exact rfl); (apply EvC.now; exact rfl); exact rfl; exact HAND.out; (simp only [List.set_cons_succ, List.set_cons_zero]; exact rfl); clear hR; intro w hR)
    | ((with_reducible apply q_ls hR); exact rfl; (with_reducible apply t_conv Try.underlying22 Try.underlying3); (apply EvC.now; exact rfl); exact HCI.out; (simp only [List.set_cons_succ, List.set_cons_zero]; exact rfl); clear hR; intro w hR)
    | ((with_reducible apply q_ls hR); exact rfl; (with_reducible apply t_cmp); (apply EvC.now; exact rfl); (apply EvC.now; exact rfl); exact cmp_nself19 _; (simp only [List.set_cons_succ, List.set_cons_zero]; exact rfl); clear hR; intro w hR)
    | (go_at_call 20; refine (nameX_any hR .head (fun _ h => h) hO (okZ ho3) (by simp only [List.length_append]; omega)).mono ?_; rw [HA.out]; rintro e w5 ⟨rfl, cs5, hR9, hO9⟩; clear hR hO; have hR := hR9; have hO := hO9; clear hR9 hO9)
    | ((with_reducible apply q_ls hR); exact rfl; (with_reducible apply t_neN hno hno); (apply EvC.now; exact rfl); (apply EvC.now; exact rfl); (simp only [List.set_cons_succ, List.set_cons_zero]; exact rfl); clear hR; intro w hR))
          refine wp_cond_at (nm := false) rfl (by simp) (fun h => absurd h (by decide)) (fun _ => ?_)
          go_wp2_with fail
          go_round
          case rel => exact ⟨j + 1, _, by simp, by omega, hR, by rw [HRS.out]; exact hO⟩
          case measure => simp [intOf]; omega
        · have hjk : j = k := by
            by_cases hh : j < zs.length ∧ j < 12
            · exact absurd h (by simp; omega)
            · omega
          have hd : catU nm (xs.drop j) = [] := by rw [List.drop_eq_nil_of_le (by omega)]; rfl
          rw [hd] at hO
          clear h hd hj
          go_wp2_with (first
    | (go_at_call 6; refine (awake19_any _).mono ?_; rintro e w' ⟨rfl, hb⟩; replace hR := hR.grow hb; clear hb)
    | (go_at_call 21; refine (leftX_any hR .head (fun _ h => h) hO (by decide)).mono ?_; rintro e w' ⟨rfl, hb⟩; replace hR := hR.grow hb; clear hb)
    | (go_at_call 22; refine (endX_any hR .head (fun _ h => h) hO (okZ .nil) (by decide)).mono ?_; rw [show endZ ⟨[], 0⟩ = ⟨[], 0⟩ from if_pos rfl]; rintro e w' ⟨rfl, cs3, hR9, hO9⟩; clear hR hO; have hR := hR9; have hO := hO9; clear hR9 hO9)
    | (go_at_call 23; refine (byteX_any hR .head (fun _ h => h) hO (okZ .nil) (by decide)).mono ?_; rw [num_none (by decide), show wrongZ ⟨[], 0⟩ 2 = ⟨[], 2⟩ from if_pos rfl]; rintro e w' ⟨rfl, cs3, hR9, hO9⟩; clear hR hO; have hR := hR9; have hO := hO9; clear hR9 hO9)
    | (go_at_call 24; refine (errX_any hR .head (fun _ h => h) hO).mono ?_; rintro e w' ⟨rfl, hb⟩; replace hR := hR.grow hb; clear hb))
          go_ret
          exact ⟨by simp, (hZ.own hR).below⟩

set_option maxRecDepth 100000 in
theorem lifted (os : Os) (started : os.Started) (H : Type) (enc : TypeId × Value → H) :
    ReturnsInHanded {} Try.checked os 4 .any (Rows.indexBackSpec.pre6 enc Try.prog Try.f4 Rows.indexBackRow.domain false) (Rows.indexBackSpec.post enc Try.prog Try.f4 false true false false) := by
  refine returnsInHanded_of_change (C := Try.checked) own started (by kernel_rfl) Try.func4
    (ChangeSpec.witness6 (enc := enc) (C := Try.checked) false ⟨#[], #[.slice none 0 0, .string ByteArray.empty], []⟩ 8 (by kernel_rfl) (by kernel_rfl) (by kernel_rfl) (by kernel_rfl)) ?_
  intro W base args ds gs before hval0 hW hcnd _
  have hval : ∀ (j : Nat) t v, Try.f4.params[j]? = some t → args[j]? = some v → Value.okWide Try.prog W .any base t v := hval0
  have hW' := hW
  obtain ⟨p, q, hA0, hV, rfl, hfz, hnd⟩ := hW
  have hA : DataW.TrodAll enc Try.prog W 0 (fun _ => true) true Try.f4.params.toList args.toList ds p := hA0
  rw [Try.params4] at hA hval
  obtain ⟨v0, vs0, d0, ds0, p0, q0, hargs, rfl, rfl, h0, r0⟩ := trodAll_cons hA
  obtain ⟨v1, vs1, d1, ds1, p1, q1, rfl, rfl, rfl, h1, r1⟩ := trodAll_cons r0
  obtain ⟨rfl, rfl, rfl⟩ := trodAll_nil r1
  obtain rfl : args = #[v0, v1] := by cases args; simp_all
  obtain ⟨rfl, rfl⟩ := trodVars_none hV
  have k0 := h0
  have lt0 : ∀ x ∈ p0, x.block < W.heap.size := by obtain ⟨m, hm⟩ := k0; exact DataW.trod_lt m _ _ _ hm
  have o0 := open_u32s (hval 0 36 v0 rfl rfl) h0
  obtain ⟨a1, rfl, rfl, rfl, w1⟩ := open_string Try.underlying9 (hval 1 9 v1 rfl rfl) h1
  clear hA0 hval0
  refine (walk v0 o0 a1 w1 W).mono fun e W' ⟨he, bel⟩ => ?_
  subst he
  exact ⟨_, rfl, _, _, _, [], _, [], hW', trodAll_mk1 (shut_bool Try.underlying4 _), (trodAll_cons_mk (Below.trod laidOut (by kernel_rfl) (of_decide_eq_true (by kernel_rfl)) k0 bel lt0) (trodAll_cons_mk (shut_string Try.underlying9 w1) trodAll_mk0)), rfl, bel.frame _, fun h => by cases h⟩

theorem over : Rows.indexBackRow.holds Try.pinned (OpenSpec.ofChange Rows.indexBackSpec) :=
  OpenClaim.holds_of_wide 4 Try.f4 rfl rfl rfl rfl rfl rfl rfl ⟨rfl, rfl, rfl, rfl, rfl⟩ rfl rfl rfl rfl rfl (by kernel_rfl) Try.func4 (by kernel_rfl)
    (of_decide_eq_true (by kernel_rfl)) (by unfold Func.isWrapper; first | (rw [if_pos (by decide +kernel)]; kernel_rfl) | (rw [if_neg (by decide +kernel)]; exact ⟨rfl, rfl⟩))
    (fun os started H enc _ => lifted os started H enc)

theorem proved : Rows.IndexBackSaid := over
#print axioms proved
end Go.Proofs.Ytonedpbhmjhgiaa.indexBack
