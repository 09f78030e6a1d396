/- The law ScanAll (some instructions, one behind the other, are read as they; up to the first place where none stands) returns true whatever the arguments, and each argument reads afterwards as before. There is no condition on the arguments. -/
import Derived.Test.YtnhlogameldkfaaRows
import Derived.Test.YtnhlogameldkfaaScanG
import Derived.Deep.CutBlock
import Derived.Test.YtnhlogameldkfaaInsts
import Derived.WalkKit
import Derived.ProofKit
import Derived.OpenShut
import Derived.ShutString
import Derived.ChangeOld
import Derived.Below
namespace Go.Proofs.Ytnhlogameldkfaa.scanAll
open Go.ChangeShapes Go.WideShapes Go.ChangeAt Go.RowKit
open Go.ChangeMaps (open_string shut_string)
set_option linter.unusedVariables false
set_option linter.unusedSimpArgs false

theorem own : ownKnob Try.prog.godebug = none := by kernel_rfl
theorem laidOut : laidOutB Try.prog = true := by kernel_rfl






theorem bS2' (x y : Int) : BuiltS Try.prog 26 2 [(0, .int .u8 x), (1, .int .u8 y)] 5 #[.int .u8 x, .int .u8 y] := bS2 x y
theorem onesB (ns : List Int) : (cellsB ns).all (·.oneCell') = true := by
  rw [List.all_eq_true]
  intro x hx
  obtain ⟨n, _, rfl⟩ := List.mem_map.1 hx
  rfl
theorem lenB (ns : List Int) : (cellsB ns).length = ns.length * 1 := by rw [cellsB_len, Nat.mul_one]
/-- Instructions that may be. -/
structure Good (js : List InstZ) : Prop where
  all : ∀ j ∈ js, Fine j ∧ mayC j = true
theorem Good.more {js : List InstZ} {j : InstZ} (h : Good js) (hj : Fine j ∧ mayC j = true) : Good (js ++ [j]) := by
  refine ⟨fun x hx => ?_⟩
  rcases List.mem_append.1 hx with hx | hx
  · exact h.all x hx
  · rw [List.mem_singleton.1 hx]; exact hj
theorem Good.bytes {js : List InstZ} (h : Good js) : (js.flatMap putN).length ≤ 9 * js.length := by
  obtain ⟨h1⟩ := h
  induction js with
  | nil => simp
  | cons j js ih =>
    have := ih (fun x hx => h1 x (.tail _ hx))
    obtain ⟨hf, hm⟩ := h1 j (.head _)
    have := putN_le j hf.ok hm
    rw [List.flatMap_cons, List.length_append, List.length_cons]
    omega
theorem Good.ok {js : List InstZ} (h : Good js) : bytesOk (js.flatMap putN) := by
  intro n hn
  obtain ⟨j, hj, hn⟩ := List.mem_flatMap.1 hn
  exact putN_ok j (h.all j hj).1 n hn
theorem and65535_bd (n : Int) : 0 ≤ bits .and .i64 n 65535 ∧ bits .and .i64 n 65535 ≤ 65535 := by
  show 0 ≤ IntKind.i64.wrap ((BitVec.ofInt 64 n &&& BitVec.ofInt 64 65535).toNat : Int) ∧ IntKind.i64.wrap ((BitVec.ofInt 64 n &&& BitVec.ofInt 64 65535).toNat : Int) ≤ 65535
  have h : (BitVec.ofInt 64 n &&& BitVec.ofInt 64 65535).toNat ≤ 65535 := by
    rw [BitVec.toNat_and]
    exact Nat.and_le_right
  rw [IntWalk.i64_in _ (by omega)]
  omega
theorem some_mod (a : Int) (h : 0 ≤ a) (n : Nat) : ∃ K : Nat, a.tmod ((n : Int) + 1) = K ∧ K ≤ n := by
  have h1 := Int.emod_nonneg a (b := (n : Int) + 1) (by omega)
  have h2 := Int.emod_lt_of_pos a (b := (n : Int) + 1) (by omega)
  refine ⟨(a % ((n : Int) + 1)).toNat, ?_, by omega⟩
  rw [Int.tmod_eq_emod_of_nonneg h]
  omega
theorem bad_15 : instM [15, 144] = .bad 3 := by kernel_rfl
theorem all_whole (js : List InstZ) (hG : Good js) : allX (js.flatMap putN ++ [15, 144]) = (js, (js.flatMap putN).length) := by
  unfold allX
  refine all_back js hG.all _ ?_ [15, 144] bad_15
  have : js.length ≤ (js.flatMap putN).length := by
    obtain ⟨h1⟩ := hG
    induction js with
    | nil => simp
    | cons j js ih =>
      have := ih (fun x hx => h1 x (.tail _ hx))
      obtain ⟨hf, hm⟩ := h1 j (.head _)
      have := putN_le j hf.ok hm
      rw [List.flatMap_cons, List.length_append, List.length_cons]
      omega
  rw [List.length_append]
  omega
theorem all_part (js : List InstZ) (hG : Good js) (K : Nat) (hK : K ≤ (js.flatMap putN).length) : (allX ((js.flatMap putN).take K)).1.length ≤ js.length ∧ (allX ((js.flatMap putN).take K)).2 ≤ (js.flatMap putN).length := by
  have h1 : (allX ((js.flatMap putN).take K)).2 ≤ ((js.flatMap putN).take K).length := allM_le _ _
  rw [List.length_take] at h1
  refine ⟨?_, by omega⟩
  unfold allX
  have h2 := all_less ((js.flatMap putN ++ [15, 144]).length + 1) ((js.flatMap putN).take K) ((js.flatMap putN).drop K ++ [15, 144])
  rw [← List.append_assoc, List.take_append_drop] at h2
  have h3 : allM ((js.flatMap putN ++ [15, 144]).length + 1) (js.flatMap putN ++ [15, 144]) = (js, (js.flatMap putN).length) := all_whole js hG
  rw [h3] at h2
  rw [allM_fuel _ ((js.flatMap putN ++ [15, 144]).length + 1) _ (Nat.lt_succ_self _) (by rw [List.length_take, List.length_append]; omega)]
  exact h2
/-- Their bytes, and how many. -/
structure Fl (js : List InstZ) (fs : List Int) (N : Nat) : Prop where
  are : fs = js.flatMap putN
  len : N = fs.length
theorem Fl.more {js : List InstZ} {fs : List Int} {N : Nat} (h : Fl js fs N) (q : InstZ) : Fl (js ++ [q]) (fs ++ putN q) (N + (putN q).length) := by
  refine ⟨?_, ?_⟩
  · rw [h.are, List.flatMap_append]
    simp
  · rw [List.length_append, ← h.len]
theorem Fl.most {js : List InstZ} {fs : List Int} {N : Nat} (h : Fl js fs N) (hG : Good js) : N ≤ 9 * js.length := by
  rw [h.len, h.are]
  exact hG.bytes
theorem t_neqSame {P : Program} {C : World → Prop} {ls : List Value} {ds : List Deferred} {c : Bool} {dd : Option Tmp} {tp : TypeId} {pos : String} {af : Array Edge} {gd : Option (Nat × Bool)} {t t' : TypeId} {x y : Operand} {cx cy : Array Value} {b : Bool}
    (hm : P.eqGuardType P.depth t = false) (hx : EvC ls c x (.agg cx)) (hy : EvC ls c y (.agg cy)) (hb : eqB P 9 t (.agg cx) (.agg cy) = some b) : TIf P C c ⟨dd, .binOp .neq t x y t', tp, pos, af, gd⟩ ⟨ls.toArray, ds⟩ (.bool (!b)) := by
  refine ⟨fun e => .inl fun w _ => ?_⟩
  have he := eq_two (P := P) 9 t (.agg cx) (.agg cy) b 9991 w hb
  have h1 := run_neq_struct (P := P) (w := w) t cx cy
  have h2 : (Op.equalIn 10000 t (.agg cx) (.agg cy)).run P w = .ok b w := he
  rw [h2] at h1
  unfold execOp
  simp only [eval_of (hx.of e), eval_of (hy.of e), Sem.run_bind, run_eqGuard_agg w .neq t x y cx cy hm, Result.andThen_ok, h1]
  simp
theorem eq_self (i : InstZ) : eqB Try.prog 9 24 (.agg (encI i)) (.agg (encI i)) = some true := by rw [eqB_inst, (instEq_iff i i).2 rfl]
/-- What All told: its row is the call's own. -/
def Told (w : World) (n m : Nat) (js : List InstZ) (en : Ending) (w' : World) : Prop :=
  ∃ s l, en = .returned (.tuple #[l, .int .i64 (m : Int)]) ∧ Own w w' s ∧ Sl 24 10 s l n (encL js)
theorem told_of {v : Value} {bs : List Int} {w : World} (hS : Src w v bs) {js : List InstZ} {m : Nat} (h : allX bs = (js, m)) : Calls Try.prog 11 #[v] w (Told w js.length m js) := by
  refine (allS_any hS).mono ?_
  rintro e w' ⟨s, l, h1, h2, h3⟩
  rw [h] at h1 h3
  exact ⟨s, l, h1, by rw [List.append_nil] at h2; exact h2, h3⟩
/-- How far the law's first loop has come. -/
def LoopIs (w0 : World) (x b i : Value) (wr : World) : Prop :=
  ∃ (js : List InstZ) (fs : List Int) (N : Nat) (g cap : Nat) (cur : Array Value) (gB capB : Nat) (curB : Array Value), js.length ≤ 20 ∧ i = .int .i64 js.length ∧ x = .slice (some ⟨g, 0, none⟩) js.length cap ∧ b = .slice (some ⟨gB, 0, none⟩) N capB ∧ Good js ∧ Fl js fs N ∧
    Own w0 wr [(gB, curB, 5), (g, cur, 24)] ∧ RwIs 10 cur js.length cap (encL js) ∧ RwIs 1 curB N capB (cellsB fs)
theorem part_last {cur : Array Value} {js : List InstZ} {j : InstZ} {n cap : Nat} (h : RwIs 10 cur n cap (encL js ++ (encI j).toList)) : Part cur ((js.length : Int).toNat * 10) (encI j).toList := by
  rw [Int.toNat_natCast]
  have h' : RwIs 10 cur n cap (encL (js ++ [j])) := h.cast (by rw [encL_append]; simp [encL])
  exact part_el h' (by simp)
set_option maxHeartbeats 16000000 in
set_option maxRecDepth 100000 in
theorem walk {w0 : World} (v0 : Value) (hA : InstsAt w0 v0) (at_ : Int) (w1 : (Lit.int .i64 at_).wf = true) (wi : World) :
    Calls Try.prog 5 #[v0, .int .i64 at_] w0 fun e w' => e = .returned (.bool true) ∧ Below w0.heap.size w0 w' := by
  clear w1 wi
  obtain ⟨n, E, hE, hA⟩ := hA
  have hR := Own.start w0
  go_enter Try.func5, Try.ntmps5
  go_upto_region 2 with (first
    | ((with_reducible apply wpList_buildS hR); exact rfl; exact rfl; exact bI0; clear hR; intro g w hR; simp only [List.set_cons_succ, List.set_cons_zero])
    | ((with_reducible apply wpList_buildS hR); exact rfl; exact rfl; exact bS0; clear hR; intro gB w hR; simp only [List.set_cons_succ, List.set_cons_zero]))
  go_wp2_with fail
  go_loopw [5, 6, 7] (fun x b i wr => LoopIs w0 x b i wr) (fun _ _ i _ => 20 - (intOf i).toNat)
  case atStart => exact ⟨[], [], 0, _, _, _, _, _, _, by decide, rfl, rfl, rfl, ⟨fun _ h => nomatch h⟩, ⟨rfl, rfl⟩, hR, RwIs.all rfl (by decide), RwIs.all rfl (by decide)⟩
  case round =>
    clear hR
    obtain ⟨js, fs, N, g, cap, cur, gB, capB, curB, hl, rfl, rfl, rfl, hG, hF, hR, hS, hSb⟩ := hrel
    have hfl := hF.most hG
    go_upto_region 3 with fail
    refine wp_region_tame hR [0, 1, 2, 3, 4, 5, 6, 7] rfl ?_
    repeat (refine wpT_step rfl ?_; first
    | ((with_reducible apply q_pl); (with_reducible apply t_lenArg Try.underlying36); (apply EvC.now; exact rfl); exact hA; (simp only [List.set_cons_succ, List.set_cons_zero]; exact rfl))
    | ((first | (with_reducible apply q_pl) | ((with_reducible apply q_gd); (first | (apply GdBy.gt; exact rfl; exact rfl) | (apply GdBy.gf; exact rfl; exact rfl) | (apply GdBy.t; exact rfl; exact rfl) | (apply GdBy.f; exact rfl; exact rfl)))); (first | ((with_reducible first | apply t_move | apply t_assign | apply t_and | apply t_or | apply t_cmp | apply t_not | apply t_addr (fRd _ (by decide)) | apply t_addr (fInst _ (by decide)) | apply t_addr (fRow _ (by decide)) | apply t_one tInt | apply t_one tWord | apply t_one tByte | apply t_one tBool | apply t_one tSlB | apply t_part tInst | apply t_part tRow) <;> (first | (apply EvC.gv; exact rfl; (with_reducible first | exact Imp.refl _ | (apply Imp.left; exact Imp.refl _) | (apply Imp.right; exact Imp.refl _) | (apply Imp.left; apply Imp.left; exact Imp.refl _))) | (apply EvC.now; exact rfl) | exact rfl | (with_reducible exact EvAll.nil) | (focus (repeat (first | apply EvAll.cons | exact EvAll.nil | (apply EvC.gv; exact rfl; (with_reducible first | exact Imp.refl _ | (apply Imp.left; exact Imp.refl _) | (apply Imp.right; exact Imp.refl _) | (apply Imp.left; apply Imp.left; exact Imp.refl _))) | (apply EvC.now; exact rfl))); done) | (first | apply ext_inst | apply ext_row) | (focus (repeat (first | apply List.Mem.head | apply List.Mem.tail | apply List.mem_append_right)))))); (simp only [List.set_cons_succ, List.set_cons_zero]; exact rfl))
    | ((with_reducible apply q_gd); (first | (apply GdBy.gt; exact rfl; exact rfl) | (apply GdBy.gf; exact rfl; exact rfl) | (apply GdBy.t; exact rfl; exact rfl) | (apply GdBy.f; exact rfl; exact rfl)); ((with_reducible apply t_num) <;> (first | (apply EvC.gv; exact rfl; (with_reducible first | exact Imp.refl _ | (apply Imp.left; exact Imp.refl _) | (apply Imp.right; exact Imp.refl _) | (apply Imp.left; apply Imp.left; exact Imp.refl _))) | (apply EvC.now; exact rfl) | exact rfl | (with_reducible exact EvAll.nil) | (focus (repeat (first | apply EvAll.cons | exact EvAll.nil | (apply EvC.gv; exact rfl; (with_reducible first | exact Imp.refl _ | (apply Imp.left; exact Imp.refl _) | (apply Imp.right; exact Imp.refl _) | (apply Imp.left; apply Imp.left; exact Imp.refl _))) | (apply EvC.now; exact rfl))); done) | (first | apply ext_inst | apply ext_row) | (focus (repeat (first | apply List.Mem.head | apply List.Mem.tail | apply List.mem_append_right))))); (simp only [List.set_cons_succ, List.set_cons_zero]; exact rfl))
    | ((with_reducible apply wpT1_gpure); (first | (apply GdBy.gt; exact rfl; exact rfl) | (apply GdBy.gf; exact rfl; exact rfl) | (apply GdBy.t; exact rfl; exact rfl) | (apply GdBy.f; exact rfl; exact rfl)); intro K hK; go_simp; refine hK _ ?_; clear hK K; simp only [List.set_cons_succ, List.set_cons_zero])
    | ((with_reducible apply wpT1_pure); exact rfl; intro K hK; go_simp; refine hK _ ?_; clear hK K; simp only [List.set_cons_succ, List.set_cons_zero]))
    refine wpT_nil ?_
    clear hR; intro w hR
    go_upto_if 23 with fail
    refine wp_cond_at (nm := decide ((js.length : Int) < (n : Int)) && decide ((js.length : Int) < 20)) rfl rfl (fun h => ?_) (fun h => ?_)
    · simp only [Bool.and_eq_true, decide_eq_true_eq] at h
      obtain ⟨h1, h2⟩ := h
      have hlt : js.length < n := by omega
      have h20 : js.length < 20 := by omega
      clear h1 h2
      rcases hA.way with ⟨_, h0⟩ | ⟨a, cap0, rfl, hE2⟩
      · omega
      have HP : Hid (∀ j u, (encI (E js.length)).toList[j]? = some u → w0.cell? ((a.add ((js.length : Int).toNat * 10)).add j) = some u) := Lib.hid (by rw [Int.toNat_natCast]; exact (hE2 _ hlt).2)
      clear hE2 hA
      have hok := nearF_ok _ (hE _ hlt)
      have hmay := nearF_may (E js.length)
      have HN := Lib.hid (near_fun _ (hE _ hlt))
      generalize hq : nearF (E js.length) = q at hok hmay HN
      clear hq
      have hmc : mayC q = true := by rw [may_same q hok]; exact hmay
      have HG := Lib.hid (hG.more ⟨fine_of q hok hmay, hmc⟩)
      have H5 := Lib.hid (put5_bytes q hok hmay)
      have hq15 := putN_le q hok hmc
      obtain ⟨hq1, hq9⟩ := hq15
      clear hG hok hmay hmc
      go_wp2_with (first
    | (go_at_call 7; refine (H5.out _).mono ?_; rintro e w' ⟨g5, cur5, cap5, rfl, hO, hS5⟩; replace hR := hR.join hO; clear hO)
    | ((with_reducible apply q_ls hR); exact rfl; (with_reducible apply t_six Try.underlying36 iInst); (apply EvC.now; exact rfl); (apply EvC.now; exact rfl); (constructor <;> omega); (simp only [List.set_cons_succ, List.set_cons_zero]; exact rfl); clear hR; intro w hR)
    | ((with_reducible apply q_ls hR); exact rfl; (with_reducible apply t_oldMany tInst); (apply EvC.now; exact rfl); (exact HP.out); (exact rfl); (simp only [List.set_cons_succ, List.set_cons_zero]; exact rfl); clear hR; intro w hR)
    | ((with_reducible apply q_ls hR); exact rfl; (with_reducible apply t_ownMany tInst); (apply EvC.now; exact rfl); (focus (repeat (first | apply List.Mem.head | apply List.Mem.tail | apply List.mem_append_right))); (exact part_last hS); (exact rfl); (simp only [List.set_cons_succ, List.set_cons_zero]; exact rfl); clear hR; intro w hR)
    | ((with_reducible apply wpList_buildS hR); exact rfl; exact rfl; (first | exact bI0 | exact bI1 _ | exact bS0); clear hR; intro gb w hR; simp only [List.set_cons_succ, List.set_cons_zero])
    | ((with_reducible apply wpList_appR hR tInsts); exact rfl; exact rfl; exact rfl; (focus (repeat (first | apply Del.head | apply Del.tail))); exact hS; (focus (repeat (first | apply List.Mem.head | apply List.Mem.tail | apply List.mem_append_right))); (exact Part.all _); (exact rfl); (first | rfl | (simpa using one_inst _)); omega; clear hR hS; intro g cur cap w hR hS; simp only [List.set_cons_succ, List.set_cons_zero])
    | ((with_reducible apply wpList_appR hR tBytes.k); exact rfl; exact rfl; exact rfl; (focus (repeat (first | apply Del.head | apply Del.tail))); exact hSb; (focus (repeat (first | apply List.Mem.head | apply List.Mem.tail | apply List.mem_append_right))); (exact Part.ofIs hS5); (exact lenB _); (exact onesB _); omega; clear hR hSb; intro gB curB capB w hR hSb; simp only [List.set_cons_succ, List.set_cons_zero])
    | ((with_reducible apply q_ls hR); exact rfl; ((with_reducible first | apply t_addr (fRd _ (by decide)) | apply t_addr (fInst _ (by decide)) | apply t_addr (fRow _ (by decide)) | apply t_one tInt | apply t_one tWord | apply t_one tByte | apply t_one tBool | apply t_one tSlB | apply t_part tInst | apply t_part tRow) <;> (first | (apply EvC.gv; exact rfl; (with_reducible first | exact Imp.refl _ | (apply Imp.left; exact Imp.refl _) | (apply Imp.right; exact Imp.refl _) | (apply Imp.left; apply Imp.left; exact Imp.refl _))) | (apply EvC.now; exact rfl) | exact rfl | (with_reducible exact EvAll.nil) | (focus (repeat (first | apply EvAll.cons | exact EvAll.nil | (apply EvC.gv; exact rfl; (with_reducible first | exact Imp.refl _ | (apply Imp.left; exact Imp.refl _) | (apply Imp.right; exact Imp.refl _) | (apply Imp.left; apply Imp.left; exact Imp.refl _))) | (apply EvC.now; exact rfl))); done) | (first | apply ext_inst | apply ext_row) | (focus (repeat (first | apply List.Mem.head | apply List.Mem.tail | apply List.mem_append_right))))); (simp only [List.set_cons_succ, List.set_cons_zero]; exact rfl); clear hR; intro w hR)
    | ((with_reducible apply wpList_box hR); exact rfl; exact rfl; clear hR; intro g w hR; simp only [List.set_cons_succ, List.set_cons_zero])
    | ((with_reducible apply wpList_make hR zInst); exact rfl; clear hR; intro g w hR; simp only [List.set_cons_succ, List.set_cons_zero])
    | ((with_reducible apply wpList_make hR zRow); exact rfl; clear hR; intro g w hR; simp only [List.set_cons_succ, List.set_cons_zero])
    | ((with_reducible apply wpList_put hR tInst); exact rfl; exact rfl; exact rfl; (focus (repeat (first | apply List.Mem.head | apply List.Mem.tail | apply List.mem_append_right))); apply put_inst; exact rfl; simp [encI]; apply one_inst; (focus (repeat (first | apply Upd.head | apply Upd.tail))); clear hR; intro w hR)
    | ((with_reducible apply wpList_put hR tRow); exact rfl; exact rfl; exact rfl; (focus (repeat (first | apply List.Mem.head | apply List.Mem.tail | apply List.mem_append_right))); apply put_row; exact rfl; simp [encR]; apply one_row; (focus (repeat (first | apply Upd.head | apply Upd.tail))); clear hR; intro w hR)
    | ((with_reducible apply wpList_built); exact rfl; exact rfl; (first | exact bInst1 _ | exact bInst2 _ _ | exact bInst3 _ _ | exact bRow0); (simp only [List.set_cons_succ, List.set_cons_zero]; exact rfl))
    | (go_at_call 6; refine (HN.out _).mono ?_; rintro e w' ⟨rfl, hb⟩; replace hR := hR.grow hb; clear hb))
      go_roundw
      case rel => exact ⟨js ++ [q], fs ++ putN q, N + (putN q).length, g, cap, cur, gB, capB, curB, by rw [List.length_append]; simp; omega, by simp, by rw [List.length_append]; rfl, rfl, HG.out, hF.more q, (hR.drop (by (focus (repeat (with_reducible first | exact List.Sublist.slnil | exact List.nil_sublist _ | exact List.Sublist.refl _ | exact List.sublist_append_right _ _ | apply List.Sublist.cons_cons | apply List.Sublist.cons | apply sub_right))))), by rw [List.length_append]; exact hS.cast (by rw [encL_append]; simp [encL]), hSb.cast (by rw [cellsB_append])⟩
      case measure => simp [intOf]; omega
    · clear h hA hE
      have HGG := Lib.hid hG
      have HF := Lib.hid hF
      have hN : N ≤ 180 := by omega
      have hcap := hS.le
      have hall : ∀ (w : World) (L : List RowT) (h cap2 M : Nat) (cur' : Array Value), Own w0 w L → (h, cur', 5) ∈ L → RwIs 1 cur' M cap2 (cellsB fs ++ (#[Value.int .u8 15, .int .u8 144] : Array Value).toList) →
          Calls Try.prog 11 #[.slice (some ⟨h, 0, none⟩) M cap2] w (Told w js.length N js) := by
        intro w L h cap2 M cur' hO hm hS'
        have hb : bytesOk (fs ++ [15, 144]) := by
          intro x hx
          rcases List.mem_append.1 hx with hx | hx
          · rw [HF.out.are] at hx; exact HGG.out.ok x hx
          · simp at hx; omega
        have hl : (fs ++ [15, 144]).length = N + 2 := by rw [List.length_append, ← HF.out.len]; rfl
        have e1 : allX (fs ++ [15, 144]) = (js, N) := by rw [HF.out.are, all_whole js HGG.out, ← HF.out.are, ← HF.out.len]
        exact told_of ⟨SrcW.ofRw hO hm (hS'.cast (by rw [cellsB_append]; rfl)) hb, by rw [hl]; omega⟩ e1
      have HALL := Lib.hid hall
      clear hall hG hF
      go_upto_region 9 with (first
    | ((with_reducible apply q_ls hR); exact rfl; (with_reducible apply t_len Try.underlying26); (apply EvC.now; exact rfl); (simp only [List.set_cons_succ, List.set_cons_zero]; exact rfl); clear hR; intro w hR)
    | ((with_reducible apply wpList_buildS hR); exact rfl; exact rfl; (exact bS2 _ _); clear hR; intro gT w hR; simp only [List.set_cons_succ, List.set_cons_zero])
    | ((with_reducible apply wpList_appKeep hR tBytes.k); exact rfl; exact rfl; exact rfl; (focus (repeat (first | apply Del.head | apply Del.tail))); exact hSb; (focus (repeat (first | apply List.Mem.head | apply List.Mem.tail | apply List.mem_append_right))); (exact Part.all _); exact rfl; (first | rfl | (simp [Value.oneCell'])); omega; clear hR; intro gh ch caph lK w hR hmK hSK holdK; simp only [List.set_cons_succ, List.set_cons_zero])
    | (go_at_call 11; refine (HALL.out _ _ _ _ _ _ hR (List.mem_append_left _ hmK) hSK).mono ?_; rintro e w' ⟨s1, l1, rfl, hO, hSl⟩; replace hR := hR.join hO; clear hO))
      obtain ⟨cB0, hmB, hSB0⟩ := holdK
      have hbf : bytesOk fs := by rw [HF.out.are]; exact HGG.out.ok
      have hold : ∀ w, Own w0 w (s1 ++ (lK ++ [(gT, #[Value.int .u8 15, Value.int .u8 144], 5), (g, cur, 24)])) → SrcW w (.slice (some ⟨gB, 0, none⟩) N capB) fs := fun w hO => SrcW.ofRw hO (List.mem_append_right _ (List.mem_append_left _ hmB)) hSB0 hbf
      have hxm : (g, cur, 24) ∈ s1 ++ (lK ++ [(gT, #[Value.int .u8 15, Value.int .u8 144], 5), (g, cur, 24)]) := List.mem_append_right _ (List.mem_append_right _ (.tail _ (.head _)))
      have hs1 : ∀ r ∈ s1, r ∈ s1 ++ (lK ++ [(gT, #[Value.int .u8 15, Value.int .u8 144], 5), (g, cur, 24)]) := fun r hr => List.mem_append_left _ hr
      generalize s1 ++ (lK ++ [(gT, #[Value.int .u8 15, Value.int .u8 144], 5), (g, cur, 24)]) = L at hR hold hxm hs1
      have HOLD := Lib.hid hold
      have hc1 : cmpB .neq (N : Int) (N : Int) = some false := by simp [cmpB]
      have hc2 : cmpB .neq (js.length : Int) (js.length : Int) = some false := by simp [cmpB]
      have HC1 := Lib.hid hc1
      have HC2 := Lib.hid hc2
      clear hold hc1 hc2 hmB hSB0 hmK hSK HALL hbf hSb
      refine wp_region_tame hR [0, 1, 2, 3, 4, 5, 6, 7, 8, 9] rfl ?_
      repeat (refine wpT_step rfl ?_; first
    | ((with_reducible apply q_kn); exact rfl; (with_reducible apply t_lenSl Try.underlying36); (apply EvC.now; exact rfl); exact hSl; (simp only [List.set_cons_succ, List.set_cons_zero]; exact rfl))
    | ((with_reducible apply q_kn); exact rfl; (with_reducible apply t_len Try.underlying36); (apply EvC.now; exact rfl); (simp only [List.set_cons_succ, List.set_cons_zero]; exact rfl))
    | ((with_reducible apply q_kn); exact rfl; (with_reducible apply t_cmp); (apply EvC.now; exact rfl); (apply EvC.now; exact rfl); (with_reducible first | exact HC1.out | exact HC2.out); (simp only [List.set_cons_succ, List.set_cons_zero]; exact rfl))
    | ((with_reducible apply q_kn); exact rfl; (first | ((with_reducible first | apply t_move | apply t_assign | apply t_addr (fRd _ (by decide)) | apply t_addr (fInst _ (by decide)) | apply t_addr (fRow _ (by decide)) | apply t_one tInt | apply t_one tWord | apply t_one tByte | apply t_one tBool | apply t_one tSlB | apply t_part tInst | apply t_part tRow) <;> (first | (apply EvC.gv; exact rfl; (with_reducible first | exact Imp.refl _ | (apply Imp.left; exact Imp.refl _) | (apply Imp.right; exact Imp.refl _) | (apply Imp.left; apply Imp.left; exact Imp.refl _))) | (apply EvC.now; exact rfl) | exact rfl | (with_reducible exact EvAll.nil) | (focus (repeat (first | apply EvAll.cons | exact EvAll.nil | (apply EvC.gv; exact rfl; (with_reducible first | exact Imp.refl _ | (apply Imp.left; exact Imp.refl _) | (apply Imp.right; exact Imp.refl _) | (apply Imp.left; apply Imp.left; exact Imp.refl _))) | (apply EvC.now; exact rfl))); done) | (first | apply ext_inst | apply ext_row) | (focus (repeat (first | apply List.Mem.head | apply List.Mem.tail | apply List.mem_append_right))))) | ((with_reducible apply t_pick); (apply EvC.now; exact rfl); (apply EvC.now; exact rfl))); (simp only [List.set_cons_succ, List.set_cons_zero]; exact rfl)))
      refine wpT_nil ?_
      clear hR; intro w hR
      go_wp2_with fail
      go_loopg [11] js.length (fun q v wr => ∃ k : Nat, q = js.length - k ∧ k ≤ js.length ∧ v = .int .i64 (k : Int) ∧ Own w0 wr L)
      case atStart => exact ⟨0, by omega, Nat.zero_le _, rfl, hR⟩
      case round =>
        clear hR
        obtain ⟨k, rfl, hk, rfl, hR⟩ := hrel
        by_cases hlt : k < js.length
        · obtain ⟨j, hj⟩ : ∃ j, js[k]? = some j := ⟨_, List.getElem?_eq_getElem hlt⟩
          rcases hSl.way with ⟨_, _, h0⟩ | ⟨gl, capl, curl, hs, hv, hle, hmost, hsz, htake⟩
          · omega
          have hRw : RwIs 10 curl js.length capl (encL js) := ⟨hSl.len, hle, hmost, hsz, htake⟩
          have hml : (gl, curl, 24) ∈ L := hs1 _ (by rw [hs]; exact .head _)
          have HPA : Hid (Part curl ((k : Int).toNat * 10) (encI j).toList) := Lib.hid (by rw [Int.toNat_natCast]; exact part_el hRw hj)
          have HPB : Hid (Part cur ((k : Int).toNat * 10) (encI j).toList) := Lib.hid (by rw [Int.toNat_natCast]; exact part_el hS hj)
          have hc3 : cmpB .lss (k : Int) (js.length : Int) = some true := by simp only [cmpB]; congr 1; simp; omega
          have HC3 := Lib.hid hc3
          subst hv
          clear hs hle hmost hsz htake hRw hj hc3
          go_upto_region 12 with fail
          refine wp_region_tame hR [0, 1, 2, 3] rfl ?_
          repeat (refine wpT_step rfl ?_; first
    | ((with_reducible apply q_kn); exact rfl; (with_reducible apply t_lenSl Try.underlying36); (apply EvC.now; exact rfl); exact hSl; (simp only [List.set_cons_succ, List.set_cons_zero]; exact rfl))
    | ((with_reducible apply q_kn); exact rfl; (with_reducible apply t_len Try.underlying36); (apply EvC.now; exact rfl); (simp only [List.set_cons_succ, List.set_cons_zero]; exact rfl))
    | ((with_reducible apply q_kn); exact rfl; (with_reducible apply t_cmp); (apply EvC.now; exact rfl); (apply EvC.now; exact rfl); (with_reducible first | exact HC3.out | exact HC3.out); (simp only [List.set_cons_succ, List.set_cons_zero]; exact rfl))
    | ((with_reducible apply q_kn); exact rfl; (first | ((with_reducible first | apply t_move | apply t_assign | apply t_addr (fRd _ (by decide)) | apply t_addr (fInst _ (by decide)) | apply t_addr (fRow _ (by decide)) | apply t_one tInt | apply t_one tWord | apply t_one tByte | apply t_one tBool | apply t_one tSlB | apply t_part tInst | apply t_part tRow) <;> (first | (apply EvC.gv; exact rfl; (with_reducible first | exact Imp.refl _ | (apply Imp.left; exact Imp.refl _) | (apply Imp.right; exact Imp.refl _) | (apply Imp.left; apply Imp.left; exact Imp.refl _))) | (apply EvC.now; exact rfl) | exact rfl | (with_reducible exact EvAll.nil) | (focus (repeat (first | apply EvAll.cons | exact EvAll.nil | (apply EvC.gv; exact rfl; (with_reducible first | exact Imp.refl _ | (apply Imp.left; exact Imp.refl _) | (apply Imp.right; exact Imp.refl _) | (apply Imp.left; apply Imp.left; exact Imp.refl _))) | (apply EvC.now; exact rfl))); done) | (first | apply ext_inst | apply ext_row) | (focus (repeat (first | apply List.Mem.head | apply List.Mem.tail | apply List.mem_append_right))))) | ((with_reducible apply t_pick); (apply EvC.now; exact rfl); (apply EvC.now; exact rfl))); (simp only [List.set_cons_succ, List.set_cons_zero]; exact rfl)))
          refine wpT_nil ?_
          clear hR; intro w hR
          go_upto_region 14 with fail
          refine wp_region_rows hR [0, 1, 2, 3, 4, 5, 6, 7, 8] 0 (by kernel_rfl) (by kernel_rfl) (by kernel_rfl) rfl ?_
          clear hR; intro hR
          repeat (refine wpT_step rfl ?_; first
    | ((with_reducible apply q_kn); exact rfl; (first | ((with_reducible first | apply t_move | apply t_assign | apply t_addr (fRd _ (by decide)) | apply t_addr (fInst _ (by decide)) | apply t_addr (fRow _ (by decide)) | apply t_one tInt | apply t_one tWord | apply t_one tByte | apply t_one tBool | apply t_one tSlB | apply t_part tInst | apply t_part tRow) <;> (first | (apply EvC.gv; exact rfl; (with_reducible first | exact Imp.refl _ | (apply Imp.left; exact Imp.refl _) | (apply Imp.right; exact Imp.refl _) | (apply Imp.left; apply Imp.left; exact Imp.refl _))) | (apply EvC.now; exact rfl) | exact rfl | (with_reducible exact EvAll.nil) | (focus (repeat (first | apply EvAll.cons | exact EvAll.nil | (apply EvC.gv; exact rfl; (with_reducible first | exact Imp.refl _ | (apply Imp.left; exact Imp.refl _) | (apply Imp.right; exact Imp.refl _) | (apply Imp.left; apply Imp.left; exact Imp.refl _))) | (apply EvC.now; exact rfl))); done) | (first | apply ext_inst | apply ext_row) | (focus (repeat (first | apply List.Mem.head | apply List.Mem.tail | apply List.mem_append_right))))) | ((with_reducible apply t_pick); (apply EvC.now; exact rfl); (apply EvC.now; exact rfl))); (simp only [List.set_cons_succ, List.set_cons_zero]; exact rfl))
    | ((with_reducible apply q_kn); exact rfl; (with_reducible apply t_six Try.underlying36 iInst); (apply EvC.now; exact rfl); (apply EvC.now; exact rfl); (constructor <;> omega); (simp only [List.set_cons_succ, List.set_cons_zero]; exact rfl))
    | ((with_reducible apply q_kn); exact rfl; (with_reducible apply t_ownMany tInst); (apply EvC.now; exact rfl); (first | exact hml | exact hxm); (with_reducible first | exact HPA.out | exact HPB.out); exact rfl; (simp only [List.set_cons_succ, List.set_cons_zero]; exact rfl))
    | ((with_reducible apply q_kn); exact rfl; (with_reducible apply t_neqSame Try.eqGuardType24); (apply EvC.now; exact rfl); (apply EvC.now; exact rfl); exact eq_self _; (simp only [List.set_cons_succ, List.set_cons_zero]; exact rfl)))
          refine wpT_nil ?_
          refine wpG_end hR (by kernel_rfl) ?_
          clear hR; intro w hR
          go_wp2_with fail
          go_roundg (js.length - (k + 1))
          case measure => omega
          case rel => exact ⟨k + 1, rfl, by omega, by go_num, hR⟩
        · have hke : k = js.length := by omega
          subst hke
          have hc3 : cmpB .lss (js.length : Int) (js.length : Int) = some false := by simp [cmpB]
          have HC3 := Lib.hid hc3
          clear hc3 hlt
          go_upto_region 12 with fail
          refine wp_region_tame hR [0, 1, 2, 3] rfl ?_
          repeat (refine wpT_step rfl ?_; first
    | ((with_reducible apply q_kn); exact rfl; (with_reducible apply t_lenSl Try.underlying36); (apply EvC.now; exact rfl); exact hSl; (simp only [List.set_cons_succ, List.set_cons_zero]; exact rfl))
    | ((with_reducible apply q_kn); exact rfl; (with_reducible apply t_len Try.underlying36); (apply EvC.now; exact rfl); (simp only [List.set_cons_succ, List.set_cons_zero]; exact rfl))
    | ((with_reducible apply q_kn); exact rfl; (with_reducible apply t_cmp); (apply EvC.now; exact rfl); (apply EvC.now; exact rfl); (with_reducible first | exact HC3.out | exact HC3.out); (simp only [List.set_cons_succ, List.set_cons_zero]; exact rfl))
    | ((with_reducible apply q_kn); exact rfl; (first | ((with_reducible first | apply t_move | apply t_assign | apply t_addr (fRd _ (by decide)) | apply t_addr (fInst _ (by decide)) | apply t_addr (fRow _ (by decide)) | apply t_one tInt | apply t_one tWord | apply t_one tByte | apply t_one tBool | apply t_one tSlB | apply t_part tInst | apply t_part tRow) <;> (first | (apply EvC.gv; exact rfl; (with_reducible first | exact Imp.refl _ | (apply Imp.left; exact Imp.refl _) | (apply Imp.right; exact Imp.refl _) | (apply Imp.left; apply Imp.left; exact Imp.refl _))) | (apply EvC.now; exact rfl) | exact rfl | (with_reducible exact EvAll.nil) | (focus (repeat (first | apply EvAll.cons | exact EvAll.nil | (apply EvC.gv; exact rfl; (with_reducible first | exact Imp.refl _ | (apply Imp.left; exact Imp.refl _) | (apply Imp.right; exact Imp.refl _) | (apply Imp.left; apply Imp.left; exact Imp.refl _))) | (apply EvC.now; exact rfl))); done) | (first | apply ext_inst | apply ext_row) | (focus (repeat (first | apply List.Mem.head | apply List.Mem.tail | apply List.mem_append_right))))) | ((with_reducible apply t_pick); (apply EvC.now; exact rfl); (apply EvC.now; exact rfl))); (simp only [List.set_cons_succ, List.set_cons_zero]; exact rfl)))
          refine wpT_nil ?_
          clear hR; intro w hR
          have hb1 := and65535_bd at_
          obtain ⟨K, hK, hKn⟩ := some_mod (bits .and .i64 at_ 65535) hb1.1 N
          have HK := Lib.hid hK
          have hn0 : (N : Int) + 1 ≠ 0 := by omega
          have hKf : K ≤ fs.length := by rw [← HF.out.len]; exact hKn
          have HSO := Lib.hid (HOLD.out _ hR)
          have hpart := all_part js HGG.out K (by rw [← HF.out.are]; exact hKf)
          rw [← HF.out.are, ← HF.out.len] at hpart
          obtain ⟨hp1, hp2⟩ := hpart
          have hal2 : ∀ w, Own w0 w L → Calls Try.prog 11 #[cutV (.slice (some ⟨gB, 0, none⟩) N capB) 0 K] w (Told w (allX (fs.take K)).1.length (allX (fs.take K)).2 (allX (fs.take K)).1) := by
            intro w hO
            have h1 := (HOLD.out w hO).cut 0 K (Nat.zero_le _) hKf
            rw [List.drop_zero] at h1
            exact told_of ⟨h1, by rw [List.length_take]; omega⟩ rfl
          generalize (allX (fs.take K)).2 = m2 at hp2 hal2
          generalize (allX (fs.take K)).1 = js2 at hp1 hal2
          have HAL2 := Lib.hid hal2
          have hc4 : cmpB .leq (js2.length : Int) (js.length : Int) = some true := by simp only [cmpB]; congr 1; simp; omega
          have hc5 : cmpB .leq (m2 : Int) (N : Int) = some true := by simp only [cmpB]; congr 1; simp; omega
          have HC4 := Lib.hid hc4
          have HC5 := Lib.hid hc5
          clear hb1 hK hal2 hc4 hc5
          go_upto_region 17 with (first
    | ((with_reducible apply q_ls hR); exact rfl; (with_reducible apply t_remK); (apply EvC.now; exact rfl); (apply EvC.now; exact rfl); exact hn0; exact HK.out; (simp only [List.set_cons_succ, List.set_cons_zero]; exact rfl); clear hR; intro w hR)
    | ((with_reducible apply q_ls hR); exact rfl; (with_reducible apply t_cutH (h := K) tBytes HSO.out); (apply EvC.now; exact rfl); (apply EvC.now; exact rfl); exact rfl; exact hKf; (simp only [List.set_cons_succ, List.set_cons_zero]; exact rfl); clear hR; intro w hR)
    | (go_at_call 11; refine (HAL2.out _ hR).mono ?_; rintro e w' ⟨s2, l2, rfl, hO, hSl2⟩; replace hR := hR.join hO; clear hO))
          refine wp_region_tame hR [0, 1, 2, 3, 4, 5, 6, 7, 8, 9, 10, 11, 12, 13] rfl ?_
          repeat (refine wpT_step rfl ?_; first
    | ((with_reducible apply q_kn); exact rfl; (with_reducible apply t_call Try.call9); (first | (apply EvC.gv; exact rfl; (with_reducible first | exact Imp.refl _ | (apply Imp.left; exact Imp.refl _) | (apply Imp.right; exact Imp.refl _) | (apply Imp.left; apply Imp.left; exact Imp.refl _))) | (apply EvC.now; exact rfl) | exact rfl | (with_reducible exact EvAll.nil) | (focus (repeat (first | apply EvAll.cons | exact EvAll.nil | (apply EvC.gv; exact rfl; (with_reducible first | exact Imp.refl _ | (apply Imp.left; exact Imp.refl _) | (apply Imp.right; exact Imp.refl _) | (apply Imp.left; apply Imp.left; exact Imp.refl _))) | (apply EvC.now; exact rfl))); done) | (first | apply ext_inst | apply ext_row) | (focus (repeat (first | apply List.Mem.head | apply List.Mem.tail | apply List.mem_append_right)))); (intro hcc w hC; exact tame_below (awake7_any _) hC); (simp only [List.set_cons_succ, List.set_cons_zero]; exact rfl))
    | ((with_reducible apply q_kn); exact rfl; (with_reducible apply t_lenSl Try.underlying36); (apply EvC.now; exact rfl); exact hSl2; (simp only [List.set_cons_succ, List.set_cons_zero]; exact rfl))
    | ((with_reducible apply q_kn); exact rfl; (with_reducible apply t_len Try.underlying36); (apply EvC.now; exact rfl); (simp only [List.set_cons_succ, List.set_cons_zero]; exact rfl))
    | ((with_reducible apply q_kn); exact rfl; (with_reducible apply t_cmp); (apply EvC.now; exact rfl); (apply EvC.now; exact rfl); (with_reducible first | exact HC4.out | exact HC5.out); (simp only [List.set_cons_succ, List.set_cons_zero]; exact rfl))
    | ((with_reducible apply q_kn); exact rfl; (first | ((with_reducible first | apply t_move | apply t_assign | apply t_addr (fRd _ (by decide)) | apply t_addr (fInst _ (by decide)) | apply t_addr (fRow _ (by decide)) | apply t_one tInt | apply t_one tWord | apply t_one tByte | apply t_one tBool | apply t_one tSlB | apply t_part tInst | apply t_part tRow) <;> (first | (apply EvC.gv; exact rfl; (with_reducible first | exact Imp.refl _ | (apply Imp.left; exact Imp.refl _) | (apply Imp.right; exact Imp.refl _) | (apply Imp.left; apply Imp.left; exact Imp.refl _))) | (apply EvC.now; exact rfl) | exact rfl | (with_reducible exact EvAll.nil) | (focus (repeat (first | apply EvAll.cons | exact EvAll.nil | (apply EvC.gv; exact rfl; (with_reducible first | exact Imp.refl _ | (apply Imp.left; exact Imp.refl _) | (apply Imp.right; exact Imp.refl _) | (apply Imp.left; apply Imp.left; exact Imp.refl _))) | (apply EvC.now; exact rfl))); done) | (first | apply ext_inst | apply ext_row) | (focus (repeat (first | apply List.Mem.head | apply List.Mem.tail | apply List.mem_append_right))))) | ((with_reducible apply t_pick); (apply EvC.now; exact rfl); (apply EvC.now; exact rfl))); (simp only [List.set_cons_succ, List.set_cons_zero]; exact rfl))
    | ((with_reducible apply wpT1_pure); exact rfl; intro K hK; go_simp; refine hK _ ?_; clear hK K; simp only [List.set_cons_succ, List.set_cons_zero]))
          refine wpT_nil ?_
          clear hR; intro w hR
          go_wp2
          go_ret
          exact ⟨rfl, hR.below⟩

set_option maxRecDepth 100000 in
theorem lifted (os : Os) (started : os.Started) (H : Type) (enc : TypeId × Value → H) :
    ReturnsInHanded {} Try.checked os 5 .any (Rows.scanAllSpec.pre6 enc Try.prog Try.f5 Rows.scanAllRow.domain false) (Rows.scanAllSpec.post enc Try.prog Try.f5 false true false false) := by
  refine returnsInHanded_of_change (C := Try.checked) own started (by kernel_rfl) Try.func5
    (ChangeSpec.witness6 (enc := enc) (C := Try.checked) false ⟨#[], #[.slice none 0 0, .int .i64 0], []⟩ 8 (by kernel_rfl) (by kernel_rfl) (by kernel_rfl) (by kernel_rfl)) ?_
  intro W base args ds gs before hval0 hW hcnd _
  have hval : ∀ (j : Nat) t v, Try.f5.params[j]? = some t → args[j]? = some v → Value.okWide Try.prog W .any base t v := hval0
  have hW' := hW
  obtain ⟨p, q, hA0, hV, rfl, hfz, hnd⟩ := hW
  have hA : DataW.TrodAll enc Try.prog W 0 (fun _ => true) true Try.f5.params.toList args.toList ds p := hA0
  rw [Try.params5] at hA hval
  obtain ⟨v0, vs0, d0, ds0, p0, q0, hargs, rfl, rfl, h0, r0⟩ := trodAll_cons hA
  obtain ⟨v1, vs1, d1, ds1, p1, q1, rfl, rfl, rfl, h1, r1⟩ := trodAll_cons r0
  obtain ⟨rfl, rfl, rfl⟩ := trodAll_nil r1
  obtain rfl : args = #[v0, v1] := by cases args; simp_all
  obtain ⟨rfl, rfl⟩ := trodVars_none hV
  have k0 := h0
  have lt0 : ∀ x ∈ p0, x.block < W.heap.size := by obtain ⟨m, hm⟩ := k0; exact DataW.trod_lt m _ _ _ hm
  have o0 := open_insts (hval 0 36 v0 rfl rfl) h0
  obtain ⟨a1, rfl, rfl, rfl, w1⟩ := open_int Try.underlying3 (hval 1 3 v1 rfl rfl) h1
  clear hA0 hval0
  refine (walk v0 o0 a1 w1 W).mono fun e W' ⟨he, bel⟩ => ?_
  subst he
  exact ⟨_, rfl, _, _, _, [], _, [], hW', trodAll_mk1 (shut_bool Try.underlying4 _), (trodAll_cons_mk (Below.trod laidOut (by kernel_rfl) (of_decide_eq_true (by kernel_rfl)) k0 bel lt0) (trodAll_cons_mk (shut_int Try.underlying3 w1) trodAll_mk0)), rfl, bel.frame _, fun h => by cases h⟩

theorem over : Rows.scanAllRow.holds Try.pinned (OpenSpec.ofChange Rows.scanAllSpec) :=
  OpenClaim.holds_of_wide 5 Try.f5 rfl rfl rfl rfl rfl rfl rfl ⟨rfl, rfl, rfl, rfl, rfl⟩ rfl rfl rfl rfl rfl (by kernel_rfl) Try.func5 (by kernel_rfl)
    (of_decide_eq_true (by kernel_rfl)) (by unfold Func.isWrapper; first | (rw [if_pos (by decide +kernel)]; kernel_rfl) | (rw [if_neg (by decide +kernel)]; exact ⟨rfl, rfl⟩))
    (fun os started H enc _ => lifted os started H enc)

theorem proved : Rows.ScanAllSaid := over
#print axioms proved
end Go.Proofs.Ytnhlogameldkfaa.scanAll
