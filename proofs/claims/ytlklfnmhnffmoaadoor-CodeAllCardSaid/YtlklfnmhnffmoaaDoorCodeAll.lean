/- The law CodeAll (some instructions have their bytes one behind the other; if one may not be, none have) returns true whatever the arguments, in a state in which the listed package-level tables hold what the program lays them with (the card ties that to its text), and each argument reads afterwards as before. There is no condition on the arguments. -/
import Derived.Test.YtlklfnmhnffmoaaDoorRows
import Derived.Test.YtlklfnmhnffmoaaDoorInsts
import Derived.Deep.CutBlock
import Derived.Test.YtlklfnmhnffmoaaDoorNear
import Derived.WalkKit
import Derived.ProofKit
import Derived.OpenShut
import Derived.ShutString
import Derived.ChangeOld
import Derived.Below
import Derived.Test.YtlklfnmhnffmoaaDoorTie
import Derived.Test.YtlklfnmhnffmoaaDoorCards
import Derived.Test.YtlklfnmhnffmoaaDoorTabs
import Derived.SevenTiedAt
namespace Go.Proofs.YtlklfnmhnffmoaaDoor.codeAll
open Go.ChangeShapes Go.WideShapes Go.ChangeAt Go.RowKit
open Go.ChangeMaps (open_string shut_string)
set_option linter.unusedVariables false
set_option linter.unusedSimpArgs false

theorem own : ownKnob Tryd.prog.godebug = none := by kernel_rfl
theorem laidOut : laidOutB Tryd.prog = true := by kernel_rfl





theorem bI0 : BuiltS Tryd.prog 34 0 [] 24 #[] := ⟨fun w => by simp [go_sem]⟩
theorem bI1 (i : InstZ) : BuiltS Tryd.prog 34 1 [(0, .agg (encI i))] 24 (encI i) := ⟨fun w => by simp [go_sem, encI]⟩
def RetBy (w : World) (ns : List Int) (en : Ending) (w' : World) : Prop :=
  ∃ g cur cap, en = .returned (.slice (some ⟨g, 0, none⟩) ns.length cap) ∧ Own w w' [(g, cur, 5)] ∧ SlIs cur ns.length cap (cellsB ns)
theorem put5_bytes (i : InstZ) (hi : i.ok) (hm : mayR i = true) (w : World) : Calls Tryd.prog 10 #[.agg (encI i)] w (RetBy w (putN i)) := by
  refine (put5_any i hi (near_of i hm).1 w).mono ?_
  rintro e w' ⟨g, cur, cap, h1, h2, h3⟩
  rw [putN_cells, cellsB_len] at h1 h3
  exact ⟨g, cur, cap, h1, h2, h3⟩
/-- Instructions that may be. -/
structure Good (js : List InstZ) : Prop where
  ok : ∀ j ∈ js, j.ok
  may : js.all mayR = true
theorem Good.more {js : List InstZ} {j : InstZ} (h : Good js) (hj : j.ok) (hm : mayR j = true) : Good (js ++ [j]) := by
  refine ⟨fun x hx => ?_, by rw [List.all_append, h.may, List.all_cons, hm]; rfl⟩
  rcases List.mem_append.1 hx with hx | hx
  · exact h.ok x hx
  · rw [List.mem_singleton.1 hx]; exact hj
theorem Good.bytes {js : List InstZ} (h : Good js) : (js.flatMap putN).length ≤ 15 * js.length := by
  obtain ⟨h1, h2⟩ := h
  induction js with
  | nil => simp
  | cons j js ih =>
    rw [List.all_cons, Bool.and_eq_true] at h2
    have := ih (fun x hx => h1 x (.tail _ hx)) h2.2
    have := frontN_bd j (h1 j (.head _)) h2.1
    rw [List.flatMap_cons, List.length_append, List.length_cons]
    omega
theorem all_anyN (js : List InstZ) (hjs : ∀ j ∈ js, j.ok) (hlen : js.length ≤ 50) {w0 w : World} {L : List RowT} {g n cap : Nat} {cur : Array Value} (hT : Tabs w0) (hO : Own w0 w L) (hm : (g, cur, 24) ∈ L) (hn : n = js.length) (hS : RwIs 10 cur n cap (encL js)) :
    Calls Tryd.prog 11 #[.slice (some ⟨g, 0, none⟩) n cap] w (AllP w0 L js) := by
  subst hn
  exact all_any js hjs hlen hT hO hm hS
theorem all_good (js : List InstZ) (hG : Good js) {w0 w : World} {L : List RowT} {g n cap : Nat} {cur : Array Value} (hlen : js.length ≤ 50) (hT : Tabs w0) (hO : Own w0 w L) (hm : (g, cur, 24) ∈ L) (hn : n = js.length) (hS : RwIs 10 cur n cap (encL js)) :
    Calls Tryd.prog 11 #[.slice (some ⟨g, 0, none⟩) n cap] w fun e w' => ∃ v', e = .returned (.tuple #[v', .int .i64 0]) ∧ SIs w0 (cellsB (js.flatMap putN)) (15 * js.length) L v' w' := by
  refine (all_anyN js hG.ok hlen hT hO hm hn hS).mono ?_
  rintro e w' (⟨_, h⟩ | ⟨h, _⟩)
  · exact h
  · rw [hG.may] at h; exact nomatch h
theorem all_bad (js : List InstZ) (hjs : ∀ j ∈ js, j.ok) (hb : js.all mayR = false) {w0 w : World} {L : List RowT} {g n cap : Nat} {cur : Array Value} (hlen : js.length ≤ 50) (hT : Tabs w0) (hO : Own w0 w L) (hm : (g, cur, 24) ∈ L) (hn : n = js.length) (hS : RwIs 10 cur n cap (encL js)) :
    Calls Tryd.prog 11 #[.slice (some ⟨g, 0, none⟩) n cap] w fun e w' => e = .returned (.tuple #[.slice none 0 0, .int .i64 1]) ∧ Own w0 w' L := by
  refine (all_anyN js hjs hlen hT hO hm hn hS).mono ?_
  rintro e w' (⟨h, _⟩ | ⟨_, h⟩)
  · rw [hb] at h; exact nomatch h
  · exact h
theorem encL_take (js : List InstZ) (k : Nat) : (encL js).take (k * 10) = encL (js.take k) := by
  induction js generalizing k with
  | nil => simp [encL]
  | cons j js ih =>
    cases k with
    | zero => simp [encL]
    | succ k =>
      rw [show encL (j :: js) = (encI j).toList ++ encL js from rfl, List.take_succ_cons, show encL (j :: js.take k) = (encI j).toList ++ encL (js.take k) from rfl, ← ih k]
      rw [List.take_append, encI_len, List.take_of_length_le (by rw [encI_len]; omega), show (k + 1) * 10 - 10 = k * 10 by omega]
theorem encL_drop (js : List InstZ) (k : Nat) : (encL js).drop (k * 10) = encL (js.drop k) := by
  induction js generalizing k with
  | nil => simp [encL]
  | cons j js ih =>
    cases k with
    | zero => simp
    | succ k =>
      rw [show encL (j :: js) = (encI j).toList ++ encL js from rfl, List.drop_succ_cons, ← ih k]
      rw [List.drop_append, encI_len, List.drop_of_length_le (by rw [encI_len]; omega), show (k + 1) * 10 - 10 = k * 10 by omega, List.nil_append]
theorem part_take {cur : Array Value} {js : List InstZ} {n cap : Nat} (h : RwIs 10 cur n cap (encL js)) (k : Nat) : Part cur 0 (encL (js.take k)) := by
  rw [← encL_take]; exact h.part.take _
theorem part_drop {cur : Array Value} {js : List InstZ} {cap k : Nat} (h : RwIs 10 cur js.length cap (encL js)) (hk : k ≤ js.length) : Part cur (tailOff cap k 10) (encL (js.drop k)) := by
  unfold tailOff
  by_cases e : cap = k
  · have : js.length = k := by have := h.le; omega
    rw [List.drop_of_length_le (by omega)]
    exact ⟨fun j u hu => by simp [encL] at hu⟩
  · rw [if_neg e, ← encL_drop]
    have := h.part.drop (k * 10)
    rw [Nat.zero_add] at this
    exact this
theorem and255_bd (n : Int) : 0 ≤ bits .and .i64 n 255 ∧ bits .and .i64 n 255 ≤ 255 := by
  show 0 ≤ IntKind.i64.wrap ((BitVec.ofInt 64 n &&& BitVec.ofInt 64 255).toNat : Int) ∧ IntKind.i64.wrap ((BitVec.ofInt 64 n &&& BitVec.ofInt 64 255).toNat : Int) ≤ 255
  have h : (BitVec.ofInt 64 n &&& BitVec.ofInt 64 255).toNat ≤ 255 := by
    rw [BitVec.toNat_and]
    exact Nat.and_le_right
  rw [IntWalk.i64_in _ (by omega)]
  omega
theorem some_mod (a : Int) (h : 0 ≤ a) (n : Nat) : ∃ K : Nat, a.tmod ((n : Int) + 1) = K ∧ K ≤ n := by
  have h1 := Int.emod_nonneg a (b := (n : Int) + 1) (by omega)
  have h2 := Int.emod_lt_of_pos a (b := (n : Int) + 1) (by omega)
  refine ⟨(a % ((n : Int) + 1)).toNat, ?_, by omega⟩
  rw [Int.tmod_eq_emod_of_nonneg h]
  omega
def badL (js : List InstZ) (k : Nat) : List InstZ := js.take k ++ [{ zeroI with op := 15 }] ++ js.drop k
theorem bad_may (js : List InstZ) (k : Nat) : (badL js k).all mayR = false := by
  unfold badL
  rw [List.all_append, List.all_append, List.all_cons, show mayR { zeroI with op := 15 } = false from by decide +kernel]
  simp
theorem bad_ok (js : List InstZ) (k : Nat) (h : ∀ j ∈ js, j.ok) : ∀ j ∈ badL js k, j.ok := by
  intro j hj
  unfold badL at hj
  rcases List.mem_append.1 hj with hj | hj
  · rcases List.mem_append.1 hj with hj | hj
    · exact h j (List.mem_of_mem_take hj)
    · rw [List.mem_singleton.1 hj]; constructor <;> decide
  · exact h j (List.mem_of_mem_drop hj)
theorem bad_len (js : List InstZ) (k : Nat) (h : k ≤ js.length) : (badL js k).length = js.length + 1 := by
  unfold badL
  simp
  omega
/-- What the list with the wrong one in it has come to. -/
def BadIs (w0 : World) (js : List InstZ) (k : Nat) (v : Value) (wx : World) : Prop :=
  ∃ g n cap cur, v = .slice (some ⟨g, 0, none⟩) n cap ∧ n = (badL js k).length ∧ Own w0 wx [(g, cur, 24)] ∧ RwIs 10 cur n cap (encL (badL js k))
theorem part_last {cur : Array Value} {js : List InstZ} {j : InstZ} {n cap : Nat} (h : RwIs 10 cur n cap (encL js ++ (encI j).toList)) : Part cur ((js.length : Int).toNat * 10) (encI j).toList := by
  rw [Int.toNat_natCast]
  have h' : RwIs 10 cur n cap (encL (js ++ [j])) := h.cast (by rw [encL_append]; simp [encL])
  exact part_el h' (by simp)
/-- How far the law's loop has come. -/
def LoopIs (w0 : World) (x s i : Value) (wr : World) : Prop :=
  ∃ (js : List InstZ) (g cap : Nat) (cur : Array Value), js.length ≤ 20 ∧ i = .int .i64 js.length ∧ x = .slice (some ⟨g, 0, none⟩) js.length cap ∧ s = .string (strOfNums (js.flatMap putN)) ∧ Good js ∧ Own w0 wr [(g, cur, 24)] ∧ RwIs 10 cur js.length cap (encL js)
set_option maxHeartbeats 16000000 in
set_option maxRecDepth 100000 in
theorem walk {w0 : World} (v0 : Value) (hA : InstsAt w0 v0) (at_ : Int) (w1 : (Lit.int .i64 at_).wf = true) (wi : World) (hT : Tabs w0) :
    Calls Tryd.prog 4 #[v0, .int .i64 at_] w0 fun e w' => e = .returned (.bool true) ∧ Below w0.heap.size w0 w' := by
  clear w1 wi
  obtain ⟨n, E, hE, hA⟩ := hA
  have hR := Own.start w0
  go_enter Tryd.func4, Tryd.ntmps4
  go_wp2_with (first
    | ((with_reducible apply q_ls hR); exact rfl; (with_reducible apply t_six Tryd.underlying34 iInst); (apply EvC.now; exact rfl); (apply EvC.now; exact rfl); (constructor <;> omega); (simp only [List.set_cons_succ, List.set_cons_zero]; exact rfl); clear hR; intro w hR)
    | ((with_reducible apply q_ls hR); exact rfl; (with_reducible apply t_oldMany tInst); (apply EvC.now; exact rfl); (exact HP.out); (exact rfl); (simp only [List.set_cons_succ, List.set_cons_zero]; exact rfl); clear hR; intro w hR)
    | ((with_reducible apply q_ls hR); exact rfl; (with_reducible apply t_ownMany tInst); (apply EvC.now; exact rfl); (focus (repeat (first | apply List.Mem.head | apply List.Mem.tail | apply List.mem_append_right))); (exact part_last hS); (exact rfl); (simp only [List.set_cons_succ, List.set_cons_zero]; exact rfl); clear hR; intro w hR)
    | ((with_reducible apply q_ls hR); exact rfl; (with_reducible apply t_str tText); (apply EvC.now; exact rfl); (focus (repeat (first | apply List.Mem.head | apply List.Mem.tail | apply List.mem_append_right))); (exact hS5); (simp only [List.set_cons_succ, List.set_cons_zero]; exact rfl); clear hR; intro w hR)
    | ((with_reducible apply q_ls hR); exact rfl; (with_reducible apply t_cat); (apply EvC.now; exact rfl); (apply EvC.now; exact rfl); (omega); (simp only [List.set_cons_succ, List.set_cons_zero]; exact rfl); clear hR; intro w hR)
    | ((with_reducible apply wpList_buildS hR); exact rfl; exact rfl; (first | exact bI0 | exact bI1 _); clear hR; intro gb w hR; simp only [List.set_cons_succ, List.set_cons_zero])
    | ((with_reducible apply wpList_appR hR tInsts); exact rfl; exact rfl; exact rfl; (focus (repeat (first | apply Del.head | apply Del.tail))); exact hS; (focus (repeat (first | apply List.Mem.head | apply List.Mem.tail | apply List.mem_append_right))); (exact Part.all _); (exact rfl); (first | rfl | (simpa using one_inst _)); omega; clear hR hS; intro g cur cap w hR hS; simp only [List.set_cons_succ, List.set_cons_zero])
    | ((with_reducible apply q_ls hR); exact rfl; ((with_reducible first | apply t_addr (fInst _ (by decide)) | apply t_addr (fRow _ (by decide)) | apply t_one tInt | apply t_one tWord | apply t_one tByte | apply t_one tBool | apply t_part tInst | apply t_part tRow) <;> (first | (apply EvC.gv; exact rfl; (with_reducible first | exact Imp.refl _ | (apply Imp.left; exact Imp.refl _) | (apply Imp.right; exact Imp.refl _) | (apply Imp.left; apply Imp.left; exact Imp.refl _))) | (apply EvC.now; exact rfl) | exact rfl | (with_reducible exact EvAll.nil) | (focus (repeat (first | apply EvAll.cons | exact EvAll.nil | (apply EvC.gv; exact rfl; (with_reducible first | exact Imp.refl _ | (apply Imp.left; exact Imp.refl _) | (apply Imp.right; exact Imp.refl _) | (apply Imp.left; apply Imp.left; exact Imp.refl _))) | (apply EvC.now; exact rfl))); done) | (first | apply ext_inst | apply ext_row) | (focus (repeat (first | apply List.Mem.head | apply List.Mem.tail | apply List.mem_append_right))))); (simp only [List.set_cons_succ, List.set_cons_zero]; exact rfl); clear hR; intro w hR)
    | ((with_reducible apply wpList_box hR); exact rfl; exact rfl; clear hR; intro g w hR; simp only [List.set_cons_succ, List.set_cons_zero])
    | ((with_reducible apply wpList_make hR zInst); exact rfl; clear hR; intro g w hR; simp only [List.set_cons_succ, List.set_cons_zero])
    | ((with_reducible apply wpList_make hR zRow); exact rfl; clear hR; intro g w hR; simp only [List.set_cons_succ, List.set_cons_zero])
    | ((with_reducible apply wpList_put hR tInst); exact rfl; exact rfl; exact rfl; (focus (repeat (first | apply List.Mem.head | apply List.Mem.tail | apply List.mem_append_right))); apply put_inst; exact rfl; simp [encI]; apply one_inst; (focus (repeat (first | apply Upd.head | apply Upd.tail))); clear hR; intro w hR)
    | ((with_reducible apply wpList_put hR tRow); exact rfl; exact rfl; exact rfl; (focus (repeat (first | apply List.Mem.head | apply List.Mem.tail | apply List.mem_append_right))); apply put_row; exact rfl; simp [encR]; apply one_row; (focus (repeat (first | apply Upd.head | apply Upd.tail))); clear hR; intro w hR)
    | ((with_reducible apply wpList_built); exact rfl; exact rfl; (first | exact bInst1 _ | exact bInst2 _ _ | exact bInst3 _ _ | exact bRow0); (simp only [List.set_cons_succ, List.set_cons_zero]; exact rfl)))
  go_loopw [5, 6, 7] (fun x s i wr => LoopIs w0 x s i wr) (fun _ _ i _ => 20 - (intOf i).toNat)
  case atStart => exact ⟨[], _, _, _, by decide, rfl, rfl, rfl, ⟨(fun _ h => nomatch h), rfl⟩, hR, RwIs.all rfl (by decide)⟩
  case round =>
    clear hR
    obtain ⟨js, g, cap, cur, hl, rfl, rfl, rfl, hG, hR, hS⟩ := hrel
    have hfl := hG.bytes
    go_upto_region 3 with fail
    refine wp_region_tame hR [0, 1, 2, 3, 4, 5, 6, 7] rfl ?_
    repeat (refine wpT_step rfl ?_; first
    | ((with_reducible apply q_pl); (with_reducible apply t_lenArg Tryd.underlying34); (apply EvC.now; exact rfl); exact hA; (simp only [List.set_cons_succ, List.set_cons_zero]; exact rfl))
    | ((first | (with_reducible apply q_pl) | ((with_reducible apply q_gd); (first | (apply GdBy.gt; exact rfl; exact rfl) | (apply GdBy.gf; exact rfl; exact rfl) | (apply GdBy.t; exact rfl; exact rfl) | (apply GdBy.f; exact rfl; exact rfl)))); (first | ((with_reducible first | apply t_move | apply t_assign | apply t_and | apply t_or | apply t_cmp | apply t_not | apply t_addr (fInst _ (by decide)) | apply t_addr (fRow _ (by decide)) | apply t_one tInt | apply t_one tWord | apply t_one tByte | apply t_one tBool | apply t_part tInst | apply t_part tRow) <;> (first | (apply EvC.gv; exact rfl; (with_reducible first | exact Imp.refl _ | (apply Imp.left; exact Imp.refl _) | (apply Imp.right; exact Imp.refl _) | (apply Imp.left; apply Imp.left; exact Imp.refl _))) | (apply EvC.now; exact rfl) | exact rfl | (with_reducible exact EvAll.nil) | (focus (repeat (first | apply EvAll.cons | exact EvAll.nil | (apply EvC.gv; exact rfl; (with_reducible first | exact Imp.refl _ | (apply Imp.left; exact Imp.refl _) | (apply Imp.right; exact Imp.refl _) | (apply Imp.left; apply Imp.left; exact Imp.refl _))) | (apply EvC.now; exact rfl))); done) | (first | apply ext_inst | apply ext_row) | (focus (repeat (first | apply List.Mem.head | apply List.Mem.tail | apply List.mem_append_right)))))); (simp only [List.set_cons_succ, List.set_cons_zero]; exact rfl))
    | ((with_reducible apply q_gd); (first | (apply GdBy.gt; exact rfl; exact rfl) | (apply GdBy.gf; exact rfl; exact rfl) | (apply GdBy.t; exact rfl; exact rfl) | (apply GdBy.f; exact rfl; exact rfl)); ((with_reducible apply t_num) <;> (first | (apply EvC.gv; exact rfl; (with_reducible first | exact Imp.refl _ | (apply Imp.left; exact Imp.refl _) | (apply Imp.right; exact Imp.refl _) | (apply Imp.left; apply Imp.left; exact Imp.refl _))) | (apply EvC.now; exact rfl) | exact rfl | (with_reducible exact EvAll.nil) | (focus (repeat (first | apply EvAll.cons | exact EvAll.nil | (apply EvC.gv; exact rfl; (with_reducible first | exact Imp.refl _ | (apply Imp.left; exact Imp.refl _) | (apply Imp.right; exact Imp.refl _) | (apply Imp.left; apply Imp.left; exact Imp.refl _))) | (apply EvC.now; exact rfl))); done) | (first | apply ext_inst | apply ext_row) | (focus (repeat (first | apply List.Mem.head | apply List.Mem.tail | apply List.mem_append_right))))); (simp only [List.set_cons_succ, List.set_cons_zero]; exact rfl))
    | ((with_reducible apply wpT1_gpure); (first | (apply GdBy.gt; exact rfl; exact rfl) | (apply GdBy.gf; exact rfl; exact rfl) | (apply GdBy.t; exact rfl; exact rfl) | (apply GdBy.f; exact rfl; exact rfl)); intro K hK; go_simp; refine hK _ ?_; clear hK K; simp only [List.set_cons_succ, List.set_cons_zero])
    | ((with_reducible apply wpT1_pure); exact rfl; intro K hK; go_simp; refine hK _ ?_; clear hK K; simp only [List.set_cons_succ, List.set_cons_zero]))
    refine wpT_nil ?_
    clear hR; intro w hR
    go_upto_if 22 with fail
    refine wp_cond_at (nm := decide ((js.length : Int) < (n : Int)) && decide ((js.length : Int) < 20)) rfl rfl (fun h => ?_) (fun h => ?_)
    · simp only [Bool.and_eq_true, decide_eq_true_eq] at h
      obtain ⟨h1, h2⟩ := h
      have hlt : js.length < n := by omega
      have h20 : js.length < 20 := by omega
      clear h1 h2
      rcases hA.way with ⟨_, h0⟩ | ⟨a, cap0, rfl, hE2⟩
      · omega
      have HP : Hid (∀ j u, (encI (E js.length)).toList[j]? = some u → w0.cell? ((a.add ((js.length : Int).toNat * 10)).add j) = some u) := Lib.hid (by rw [Int.toNat_natCast]; exact (hE2 _ hlt).2)
      clear hE2 hA
      have hok := nearF_ok _ (hE _ hlt)
      have hmay := nearF_may (E js.length)
      have HN := Lib.hid (near_fun _ (hE _ hlt))
      generalize hq : nearF (E js.length) = q at hok hmay HN
      clear hq
      have HG := Lib.hid (hG.more hok hmay)
      have H5 := Lib.hid (put5_bytes q hok hmay)
      have hq15 := frontN_bd q hok hmay
      clear hG hok hmay
      go_wp2_with (first
    | (go_at_call 10; refine (H5.out _).mono ?_; rintro e w' ⟨g5, cur5, cap5, rfl, hO, hS5⟩; replace hR := hR.join hO; clear hO)
    | ((with_reducible apply q_ls hR); exact rfl; (with_reducible apply t_six Tryd.underlying34 iInst); (apply EvC.now; exact rfl); (apply EvC.now; exact rfl); (constructor <;> omega); (simp only [List.set_cons_succ, List.set_cons_zero]; exact rfl); clear hR; intro w hR)
    | ((with_reducible apply q_ls hR); exact rfl; (with_reducible apply t_oldMany tInst); (apply EvC.now; exact rfl); (exact HP.out); (exact rfl); (simp only [List.set_cons_succ, List.set_cons_zero]; exact rfl); clear hR; intro w hR)
    | ((with_reducible apply q_ls hR); exact rfl; (with_reducible apply t_ownMany tInst); (apply EvC.now; exact rfl); (focus (repeat (first | apply List.Mem.head | apply List.Mem.tail | apply List.mem_append_right))); (exact part_last hS); (exact rfl); (simp only [List.set_cons_succ, List.set_cons_zero]; exact rfl); clear hR; intro w hR)
    | ((with_reducible apply q_ls hR); exact rfl; (with_reducible apply t_str tText); (apply EvC.now; exact rfl); (focus (repeat (first | apply List.Mem.head | apply List.Mem.tail | apply List.mem_append_right))); (exact hS5); (simp only [List.set_cons_succ, List.set_cons_zero]; exact rfl); clear hR; intro w hR)
    | ((with_reducible apply q_ls hR); exact rfl; (with_reducible apply t_cat); (apply EvC.now; exact rfl); (apply EvC.now; exact rfl); (omega); (simp only [List.set_cons_succ, List.set_cons_zero]; exact rfl); clear hR; intro w hR)
    | ((with_reducible apply wpList_buildS hR); exact rfl; exact rfl; (first | exact bI0 | exact bI1 _); clear hR; intro gb w hR; simp only [List.set_cons_succ, List.set_cons_zero])
    | ((with_reducible apply wpList_appR hR tInsts); exact rfl; exact rfl; exact rfl; (focus (repeat (first | apply Del.head | apply Del.tail))); exact hS; (focus (repeat (first | apply List.Mem.head | apply List.Mem.tail | apply List.mem_append_right))); (exact Part.all _); (exact rfl); (first | rfl | (simpa using one_inst _)); omega; clear hR hS; intro g cur cap w hR hS; simp only [List.set_cons_succ, List.set_cons_zero])
    | ((with_reducible apply q_ls hR); exact rfl; ((with_reducible first | apply t_addr (fInst _ (by decide)) | apply t_addr (fRow _ (by decide)) | apply t_one tInt | apply t_one tWord | apply t_one tByte | apply t_one tBool | apply t_part tInst | apply t_part tRow) <;> (first | (apply EvC.gv; exact rfl; (with_reducible first | exact Imp.refl _ | (apply Imp.left; exact Imp.refl _) | (apply Imp.right; exact Imp.refl _) | (apply Imp.left; apply Imp.left; exact Imp.refl _))) | (apply EvC.now; exact rfl) | exact rfl | (with_reducible exact EvAll.nil) | (focus (repeat (first | apply EvAll.cons | exact EvAll.nil | (apply EvC.gv; exact rfl; (with_reducible first | exact Imp.refl _ | (apply Imp.left; exact Imp.refl _) | (apply Imp.right; exact Imp.refl _) | (apply Imp.left; apply Imp.left; exact Imp.refl _))) | (apply EvC.now; exact rfl))); done) | (first | apply ext_inst | apply ext_row) | (focus (repeat (first | apply List.Mem.head | apply List.Mem.tail | apply List.mem_append_right))))); (simp only [List.set_cons_succ, List.set_cons_zero]; exact rfl); clear hR; intro w hR)
    | ((with_reducible apply wpList_box hR); exact rfl; exact rfl; clear hR; intro g w hR; simp only [List.set_cons_succ, List.set_cons_zero])
    | ((with_reducible apply wpList_make hR zInst); exact rfl; clear hR; intro g w hR; simp only [List.set_cons_succ, List.set_cons_zero])
    | ((with_reducible apply wpList_make hR zRow); exact rfl; clear hR; intro g w hR; simp only [List.set_cons_succ, List.set_cons_zero])
    | ((with_reducible apply wpList_put hR tInst); exact rfl; exact rfl; exact rfl; (focus (repeat (first | apply List.Mem.head | apply List.Mem.tail | apply List.mem_append_right))); apply put_inst; exact rfl; simp [encI]; apply one_inst; (focus (repeat (first | apply Upd.head | apply Upd.tail))); clear hR; intro w hR)
    | ((with_reducible apply wpList_put hR tRow); exact rfl; exact rfl; exact rfl; (focus (repeat (first | apply List.Mem.head | apply List.Mem.tail | apply List.mem_append_right))); apply put_row; exact rfl; simp [encR]; apply one_row; (focus (repeat (first | apply Upd.head | apply Upd.tail))); clear hR; intro w hR)
    | ((with_reducible apply wpList_built); exact rfl; exact rfl; (first | exact bInst1 _ | exact bInst2 _ _ | exact bInst3 _ _ | exact bRow0); (simp only [List.set_cons_succ, List.set_cons_zero]; exact rfl))
    | (go_at_call 6; refine (HN.out _).mono ?_; rintro e w' ⟨rfl, hb⟩; replace hR := hR.grow hb; clear hb))
      go_roundw
      case rel => exact ⟨js ++ [q], g, cap, cur, by rw [List.length_append]; simp; omega, by simp, by rw [List.length_append]; rfl, by rw [List.flatMap_append]; simp, HG.out, hR.drop (by (focus (repeat (with_reducible first | exact List.Sublist.slnil | exact List.nil_sublist _ | exact List.Sublist.refl _ | exact List.sublist_append_right _ _ | apply List.Sublist.cons_cons | apply List.Sublist.cons | apply sub_right)))), by rw [List.length_append]; exact hS.cast (by rw [encL_append]; simp [encL])⟩
      case measure => simp [intOf]; omega
    · clear h hA hE hfl
      have HGG := Lib.hid hG
      clear hG
      go_upto_region 8 with (first
    | (go_at_call 11; refine (all_good js HGG.out (by omega) hT hR (by (focus (repeat (first | apply List.Mem.head | apply List.Mem.tail | apply List.mem_append_right)))) rfl hS).mono ?_; rintro e w' ⟨v1, rfl, s1, n1, hn1, hO, hSb⟩; clear hR; have hR := hO; clear hO)
    | ((with_reducible apply q_ls hR); exact rfl; (with_reducible apply t_six Tryd.underlying34 iInst); (apply EvC.now; exact rfl); (apply EvC.now; exact rfl); (constructor <;> omega); (simp only [List.set_cons_succ, List.set_cons_zero]; exact rfl); clear hR; intro w hR)
    | ((with_reducible apply q_ls hR); exact rfl; (with_reducible apply t_oldMany tInst); (apply EvC.now; exact rfl); (exact HP.out); (exact rfl); (simp only [List.set_cons_succ, List.set_cons_zero]; exact rfl); clear hR; intro w hR)
    | ((with_reducible apply q_ls hR); exact rfl; (with_reducible apply t_ownMany tInst); (apply EvC.now; exact rfl); (focus (repeat (first | apply List.Mem.head | apply List.Mem.tail | apply List.mem_append_right))); (exact part_last hS); (exact rfl); (simp only [List.set_cons_succ, List.set_cons_zero]; exact rfl); clear hR; intro w hR)
    | ((with_reducible apply q_ls hR); exact rfl; (with_reducible apply t_str tText); (apply EvC.now; exact rfl); (focus (repeat (first | apply List.Mem.head | apply List.Mem.tail | apply List.mem_append_right))); (exact hS5); (simp only [List.set_cons_succ, List.set_cons_zero]; exact rfl); clear hR; intro w hR)
    | ((with_reducible apply q_ls hR); exact rfl; (with_reducible apply t_cat); (apply EvC.now; exact rfl); (apply EvC.now; exact rfl); (omega); (simp only [List.set_cons_succ, List.set_cons_zero]; exact rfl); clear hR; intro w hR)
    | ((with_reducible apply wpList_buildS hR); exact rfl; exact rfl; (first | exact bI0 | exact bI1 _); clear hR; intro gb w hR; simp only [List.set_cons_succ, List.set_cons_zero])
    | ((with_reducible apply wpList_appR hR tInsts); exact rfl; exact rfl; exact rfl; (focus (repeat (first | apply Del.head | apply Del.tail))); exact hS; (focus (repeat (first | apply List.Mem.head | apply List.Mem.tail | apply List.mem_append_right))); (exact Part.all _); (exact rfl); (first | rfl | (simpa using one_inst _)); omega; clear hR hS; intro g cur cap w hR hS; simp only [List.set_cons_succ, List.set_cons_zero])
    | ((with_reducible apply q_ls hR); exact rfl; ((with_reducible first | apply t_addr (fInst _ (by decide)) | apply t_addr (fRow _ (by decide)) | apply t_one tInt | apply t_one tWord | apply t_one tByte | apply t_one tBool | apply t_part tInst | apply t_part tRow) <;> (first | (apply EvC.gv; exact rfl; (with_reducible first | exact Imp.refl _ | (apply Imp.left; exact Imp.refl _) | (apply Imp.right; exact Imp.refl _) | (apply Imp.left; apply Imp.left; exact Imp.refl _))) | (apply EvC.now; exact rfl) | exact rfl | (with_reducible exact EvAll.nil) | (focus (repeat (first | apply EvAll.cons | exact EvAll.nil | (apply EvC.gv; exact rfl; (with_reducible first | exact Imp.refl _ | (apply Imp.left; exact Imp.refl _) | (apply Imp.right; exact Imp.refl _) | (apply Imp.left; apply Imp.left; exact Imp.refl _))) | (apply EvC.now; exact rfl))); done) | (first | apply ext_inst | apply ext_row) | (focus (repeat (first | apply List.Mem.head | apply List.Mem.tail | apply List.mem_append_right))))); (simp only [List.set_cons_succ, List.set_cons_zero]; exact rfl); clear hR; intro w hR)
    | ((with_reducible apply wpList_box hR); exact rfl; exact rfl; clear hR; intro g w hR; simp only [List.set_cons_succ, List.set_cons_zero])
    | ((with_reducible apply wpList_make hR zInst); exact rfl; clear hR; intro g w hR; simp only [List.set_cons_succ, List.set_cons_zero])
    | ((with_reducible apply wpList_make hR zRow); exact rfl; clear hR; intro g w hR; simp only [List.set_cons_succ, List.set_cons_zero])
    | ((with_reducible apply wpList_put hR tInst); exact rfl; exact rfl; exact rfl; (focus (repeat (first | apply List.Mem.head | apply List.Mem.tail | apply List.mem_append_right))); apply put_inst; exact rfl; simp [encI]; apply one_inst; (focus (repeat (first | apply Upd.head | apply Upd.tail))); clear hR; intro w hR)
    | ((with_reducible apply wpList_put hR tRow); exact rfl; exact rfl; exact rfl; (focus (repeat (first | apply List.Mem.head | apply List.Mem.tail | apply List.mem_append_right))); apply put_row; exact rfl; simp [encR]; apply one_row; (focus (repeat (first | apply Upd.head | apply Upd.tail))); clear hR; intro w hR)
    | ((with_reducible apply wpList_built); exact rfl; exact rfl; (first | exact bInst1 _ | exact bInst2 _ _ | exact bInst3 _ _ | exact bRow0); (simp only [List.set_cons_succ, List.set_cons_zero]; exact rfl)))
      refine wp_region_tame hR [0, 1, 2, 3, 4, 5, 6, 7] rfl ?_
      repeat (refine wpT_step rfl ?_; first
    | ((with_reducible apply q_kn); exact rfl; (first | ((with_reducible first | apply t_move | apply t_assign | apply t_addr (fInst _ (by decide)) | apply t_addr (fRow _ (by decide)) | apply t_one tInt | apply t_one tWord | apply t_one tByte | apply t_one tBool | apply t_part tInst | apply t_part tRow) <;> (first | (apply EvC.gv; exact rfl; (with_reducible first | exact Imp.refl _ | (apply Imp.left; exact Imp.refl _) | (apply Imp.right; exact Imp.refl _) | (apply Imp.left; apply Imp.left; exact Imp.refl _))) | (apply EvC.now; exact rfl) | exact rfl | (with_reducible exact EvAll.nil) | (focus (repeat (first | apply EvAll.cons | exact EvAll.nil | (apply EvC.gv; exact rfl; (with_reducible first | exact Imp.refl _ | (apply Imp.left; exact Imp.refl _) | (apply Imp.right; exact Imp.refl _) | (apply Imp.left; apply Imp.left; exact Imp.refl _))) | (apply EvC.now; exact rfl))); done) | (first | apply ext_inst | apply ext_row) | (focus (repeat (first | apply List.Mem.head | apply List.Mem.tail | apply List.mem_append_right))))) | ((with_reducible apply t_pick); (apply EvC.now; exact rfl); (apply EvC.now; exact rfl))); (simp only [List.set_cons_succ, List.set_cons_zero]; exact rfl))
    | ((with_reducible apply q_kn); exact rfl; (with_reducible apply t_strSl tText); (apply EvC.now; exact rfl); (exact fun r hr => List.mem_append_left _ hr); exact hSb; (simp only [List.set_cons_succ, List.set_cons_zero]; exact rfl))
    | ((with_reducible apply q_kn); exact rfl; (with_reducible apply t_strne); (apply EvC.now; exact rfl); (apply EvC.now; exact rfl); (simp only [List.set_cons_succ, List.set_cons_zero]; exact rfl))
    | ((with_reducible apply wpT1_pure); exact rfl; intro K hK; go_simp; refine hK _ ?_; clear hK K; simp only [List.set_cons_succ, List.set_cons_zero]))
      refine wpT_nil ?_
      clear hR; intro w hR
      go_upto_if 53 with fail
      refine wp_cond_at (nm := false) rfl (by simp) (fun h => nomatch h) (fun _ => ?_)
      go_upto_region 11 with (first
    | ((with_reducible apply q_ls hR); exact rfl; (with_reducible apply t_len Tryd.underlying34); (apply EvC.now; exact rfl); (simp only [List.set_cons_succ, List.set_cons_zero]; exact rfl); clear hR; intro w hR))
      have hb := and255_bd at_
      obtain ⟨K, hK, hKn⟩ := some_mod (bits .and .i64 at_ 255) hb.1 js.length
      rw [hK]
      clear hK hb
      have hcap := hS.le
      go_cut [11] (fun v wx => BadIs w0 js K v wx)
      case first =>
        refine wp_region_rows hR [1, 2, 3, 5, 8, 9, 10] 6 (by kernel_rfl) (by kernel_rfl) (by kernel_rfl) rfl ?_
        clear hR; intro hR
        repeat (refine wpT_step rfl ?_; first
    | ((first | (with_reducible apply q_pl) | ((with_reducible apply q_gd); (first | (apply GdBy.gt; exact rfl; exact rfl) | (apply GdBy.gf; exact rfl; exact rfl) | (apply GdBy.t; exact rfl; exact rfl) | (apply GdBy.f; exact rfl; exact rfl)))); (first | ((with_reducible first | apply t_move | apply t_assign | apply t_and | apply t_or | apply t_cmp | apply t_not | apply t_addr (fInst _ (by decide)) | apply t_addr (fRow _ (by decide)) | apply t_one tInt | apply t_one tWord | apply t_one tByte | apply t_one tBool | apply t_part tInst | apply t_part tRow) <;> (first | (apply EvC.gv; exact rfl; (with_reducible first | exact Imp.refl _ | (apply Imp.left; exact Imp.refl _) | (apply Imp.right; exact Imp.refl _) | (apply Imp.left; apply Imp.left; exact Imp.refl _))) | (apply EvC.now; exact rfl) | exact rfl | (with_reducible exact EvAll.nil) | (focus (repeat (first | apply EvAll.cons | exact EvAll.nil | (apply EvC.gv; exact rfl; (with_reducible first | exact Imp.refl _ | (apply Imp.left; exact Imp.refl _) | (apply Imp.right; exact Imp.refl _) | (apply Imp.left; apply Imp.left; exact Imp.refl _))) | (apply EvC.now; exact rfl))); done) | (first | apply ext_inst | apply ext_row) | (focus (repeat (first | apply List.Mem.head | apply List.Mem.tail | apply List.mem_append_right)))))); (simp only [List.set_cons_succ, List.set_cons_zero]; exact rfl))
    | ((with_reducible apply q_pl); (with_reducible apply t_firstR (m := K) tInsts); (apply EvC.now; exact rfl); (apply EvC.now; exact rfl); exact rfl; omega; (simp only [List.set_cons_succ, List.set_cons_zero]; exact rfl))
    | ((with_reducible apply q_pl); (with_reducible apply t_tailR (m := K) tInsts); (apply EvC.now; exact rfl); (apply EvC.now; exact rfl); exact rfl; omega; omega; (simp only [List.set_cons_succ, List.set_cons_zero]; exact rfl))
    | ((with_reducible apply q_pl); (with_reducible apply t_built); exact rfl; exact bInst1 _; (simp only [List.set_cons_succ, List.set_cons_zero]; exact rfl)))
        refine wpT_nil ?_
        have hD : RwIs 10 (#[] : Array Value) 0 0 [] := RwIs.all rfl (by decide)
        have p1 := part_take hS K
        have p2 := part_drop hS hKn
        have l1 : (encL (js.take K)).length = K * 10 := by rw [encL_len, List.length_take, Nat.min_eq_left hKn]
        have l2 : (encL (js.drop K)).length = (js.length - K) * 10 := by rw [encL_len, List.length_drop]
        refine wpG_two hR (i := 0) (j := 6) (by kernel_rfl) ?_ ?_
        · clear hR; intro w hR
          refine opBuildS hR rfl rfl rfl bI0 ?_
          clear hR; intro g0 w hR
          refine ⟨hR.drop (by (focus (repeat (with_reducible first | exact List.Sublist.slnil | exact List.nil_sublist _ | exact List.Sublist.refl _ | exact List.sublist_append_right _ _ | apply List.Sublist.cons_cons | apply List.Sublist.cons | apply sub_right)))), ?_⟩
          simp only [List.set_cons_succ, List.set_cons_zero]
          refine wpG_two hR (i := 4) (j := 6) (by kernel_rfl) ?_ ?_
          · clear hR; intro w hR
            refine opAppR hR tInsts rfl rfl rfl rfl (by (focus (repeat (first | apply Del.head | apply Del.tail)))) hD (by (focus (repeat (first | apply List.Mem.head | apply List.Mem.tail | apply List.mem_append_right)))) p1 l1 (encL_ones _) (by omega) ?_
            clear hR hD; intro gd curd capd w hR hD
            refine ⟨hR.drop (by (focus (repeat (with_reducible first | exact List.Sublist.slnil | exact List.nil_sublist _ | exact List.Sublist.refl _ | exact List.sublist_append_right _ _ | apply List.Sublist.cons_cons | apply List.Sublist.cons | apply sub_right)))), ?_⟩
            simp only [List.set_cons_succ, List.set_cons_zero]
            refine wpG_buildS hR (i := 6) (by kernel_rfl) rfl rfl rfl (bI1 _) (by (focus (repeat (with_reducible first | exact List.Sublist.slnil | exact List.nil_sublist _ | exact List.Sublist.refl _ | exact List.sublist_append_right _ _ | apply List.Sublist.cons_cons | apply List.Sublist.cons | apply sub_right)))) ?_
            clear hR; intro g6 w hR
            simp only [List.set_cons_succ, List.set_cons_zero]
            refine wpG_appR hR (i := 7) (by kernel_rfl) tInsts rfl rfl rfl rfl (by (focus (repeat (first | apply Del.head | apply Del.tail)))) hD (by (focus (repeat (first | apply List.Mem.head | apply List.Mem.tail | apply List.mem_append_right)))) (Part.all _) rfl (by simpa using one_inst _) (by omega) (by (focus (repeat (with_reducible first | exact List.Sublist.slnil | exact List.nil_sublist _ | exact List.Sublist.refl _ | exact List.sublist_append_right _ _ | apply List.Sublist.cons_cons | apply List.Sublist.cons | apply sub_right)))) ?_
            clear hR hD; intro gd curd capd w hR hD
            simp only [List.set_cons_succ, List.set_cons_zero]
            refine wpG_appR hR (i := 11) (by kernel_rfl) tInsts rfl rfl rfl rfl (by (focus (repeat (first | apply Del.head | apply Del.tail)))) hD (by (focus (repeat (first | apply List.Mem.head | apply List.Mem.tail | apply List.mem_append_right)))) p2 l2 (encL_ones _) (by omega) (by (focus (repeat (with_reducible first | exact List.Sublist.slnil | exact List.nil_sublist _ | exact List.Sublist.refl _ | exact List.sublist_append_right _ _ | apply List.Sublist.cons_cons | apply List.Sublist.cons | apply sub_right)))) ?_
            clear hR hD; intro gd curd capd w hR hD
            simp only [List.set_cons_succ, List.set_cons_zero]
            refine wpG_q hR (i := 12) (by kernel_rfl) rfl rfl (t_assign (.now rfl)) (by (simp only [List.set_cons_succ, List.set_cons_zero]; exact rfl)) (by (focus (repeat (with_reducible first | exact List.Sublist.slnil | exact List.nil_sublist _ | exact List.Sublist.refl _ | exact List.sublist_append_right _ _ | apply List.Sublist.cons_cons | apply List.Sublist.cons | apply sub_right)))) ?_
            clear hR; intro w hR
            refine wpG_end hR (by kernel_rfl) ?_
            clear hR; intro w hR
            go_wp2
            go_meet
            rw [Nat.zero_add] at hD
            exact ⟨gd, _, capd, curd, rfl, by rw [bad_len js K hKn]; omega, hR.drop (by (focus (repeat (with_reducible first | exact List.Sublist.slnil | exact List.nil_sublist _ | exact List.Sublist.refl _ | exact List.sublist_append_right _ _ | apply List.Sublist.cons_cons | apply List.Sublist.cons | apply sub_right)))), hD.cast (by unfold badL; rw [encL_append, encL_append]; simp [encL])⟩
          · clear hR; intro w hR
            refine opBuildS hR rfl rfl rfl (bI1 _) ?_
            clear hR; intro g6 w hR
            refine ⟨hR.drop (by (focus (repeat (with_reducible first | exact List.Sublist.slnil | exact List.nil_sublist _ | exact List.Sublist.refl _ | exact List.sublist_append_right _ _ | apply List.Sublist.cons_cons | apply List.Sublist.cons | apply sub_right)))), ?_⟩
            simp only [List.set_cons_succ, List.set_cons_zero]
            refine wpG_appR hR (i := 4) (by kernel_rfl) tInsts rfl rfl rfl rfl (by (focus (repeat (first | apply Del.head | apply Del.tail)))) hD (by (focus (repeat (first | apply List.Mem.head | apply List.Mem.tail | apply List.mem_append_right)))) p1 l1 (encL_ones _) (by omega) (by (focus (repeat (with_reducible first | exact List.Sublist.slnil | exact List.nil_sublist _ | exact List.Sublist.refl _ | exact List.sublist_append_right _ _ | apply List.Sublist.cons_cons | apply List.Sublist.cons | apply sub_right)))) ?_
            clear hR hD; intro gd curd capd w hR hD
            simp only [List.set_cons_succ, List.set_cons_zero]
            refine wpG_appR hR (i := 7) (by kernel_rfl) tInsts rfl rfl rfl rfl (by (focus (repeat (first | apply Del.head | apply Del.tail)))) hD (by (focus (repeat (first | apply List.Mem.head | apply List.Mem.tail | apply List.mem_append_right)))) (Part.all _) rfl (by simpa using one_inst _) (by omega) (by (focus (repeat (with_reducible first | exact List.Sublist.slnil | exact List.nil_sublist _ | exact List.Sublist.refl _ | exact List.sublist_append_right _ _ | apply List.Sublist.cons_cons | apply List.Sublist.cons | apply sub_right)))) ?_
            clear hR hD; intro gd curd capd w hR hD
            simp only [List.set_cons_succ, List.set_cons_zero]
            refine wpG_appR hR (i := 11) (by kernel_rfl) tInsts rfl rfl rfl rfl (by (focus (repeat (first | apply Del.head | apply Del.tail)))) hD (by (focus (repeat (first | apply List.Mem.head | apply List.Mem.tail | apply List.mem_append_right)))) p2 l2 (encL_ones _) (by omega) (by (focus (repeat (with_reducible first | exact List.Sublist.slnil | exact List.nil_sublist _ | exact List.Sublist.refl _ | exact List.sublist_append_right _ _ | apply List.Sublist.cons_cons | apply List.Sublist.cons | apply sub_right)))) ?_
            clear hR hD; intro gd curd capd w hR hD
            simp only [List.set_cons_succ, List.set_cons_zero]
            refine wpG_q hR (i := 12) (by kernel_rfl) rfl rfl (t_assign (.now rfl)) (by (simp only [List.set_cons_succ, List.set_cons_zero]; exact rfl)) (by (focus (repeat (with_reducible first | exact List.Sublist.slnil | exact List.nil_sublist _ | exact List.Sublist.refl _ | exact List.sublist_append_right _ _ | apply List.Sublist.cons_cons | apply List.Sublist.cons | apply sub_right)))) ?_
            clear hR; intro w hR
            refine wpG_end hR (by kernel_rfl) ?_
            clear hR; intro w hR
            go_wp2
            go_meet
            rw [Nat.zero_add] at hD
            exact ⟨gd, _, capd, curd, rfl, by rw [bad_len js K hKn]; omega, hR.drop (by (focus (repeat (with_reducible first | exact List.Sublist.slnil | exact List.nil_sublist _ | exact List.Sublist.refl _ | exact List.sublist_append_right _ _ | apply List.Sublist.cons_cons | apply List.Sublist.cons | apply sub_right)))), hD.cast (by unfold badL; rw [encL_append, encL_append]; simp [encL])⟩
        · clear hR; intro w hR
          refine opBuildS hR rfl rfl rfl (bI1 _) ?_
          clear hR; intro g6 w hR
          refine ⟨hR.drop (by (focus (repeat (with_reducible first | exact List.Sublist.slnil | exact List.nil_sublist _ | exact List.Sublist.refl _ | exact List.sublist_append_right _ _ | apply List.Sublist.cons_cons | apply List.Sublist.cons | apply sub_right)))), ?_⟩
          simp only [List.set_cons_succ, List.set_cons_zero]
          refine wpG_buildS hR (i := 0) (by kernel_rfl) rfl rfl rfl bI0 (by (focus (repeat (with_reducible first | exact List.Sublist.slnil | exact List.nil_sublist _ | exact List.Sublist.refl _ | exact List.sublist_append_right _ _ | apply List.Sublist.cons_cons | apply List.Sublist.cons | apply sub_right)))) ?_
          clear hR; intro g0 w hR
          simp only [List.set_cons_succ, List.set_cons_zero]
          refine wpG_appR hR (i := 4) (by kernel_rfl) tInsts rfl rfl rfl rfl (by (focus (repeat (first | apply Del.head | apply Del.tail)))) hD (by (focus (repeat (first | apply List.Mem.head | apply List.Mem.tail | apply List.mem_append_right)))) p1 l1 (encL_ones _) (by omega) (by (focus (repeat (with_reducible first | exact List.Sublist.slnil | exact List.nil_sublist _ | exact List.Sublist.refl _ | exact List.sublist_append_right _ _ | apply List.Sublist.cons_cons | apply List.Sublist.cons | apply sub_right)))) ?_
          clear hR hD; intro gd curd capd w hR hD
          simp only [List.set_cons_succ, List.set_cons_zero]
          refine wpG_appR hR (i := 7) (by kernel_rfl) tInsts rfl rfl rfl rfl (by (focus (repeat (first | apply Del.head | apply Del.tail)))) hD (by (focus (repeat (first | apply List.Mem.head | apply List.Mem.tail | apply List.mem_append_right)))) (Part.all _) rfl (by simpa using one_inst _) (by omega) (by (focus (repeat (with_reducible first | exact List.Sublist.slnil | exact List.nil_sublist _ | exact List.Sublist.refl _ | exact List.sublist_append_right _ _ | apply List.Sublist.cons_cons | apply List.Sublist.cons | apply sub_right)))) ?_
          clear hR hD; intro gd curd capd w hR hD
          simp only [List.set_cons_succ, List.set_cons_zero]
          refine wpG_appR hR (i := 11) (by kernel_rfl) tInsts rfl rfl rfl rfl (by (focus (repeat (first | apply Del.head | apply Del.tail)))) hD (by (focus (repeat (first | apply List.Mem.head | apply List.Mem.tail | apply List.mem_append_right)))) p2 l2 (encL_ones _) (by omega) (by (focus (repeat (with_reducible first | exact List.Sublist.slnil | exact List.nil_sublist _ | exact List.Sublist.refl _ | exact List.sublist_append_right _ _ | apply List.Sublist.cons_cons | apply List.Sublist.cons | apply sub_right)))) ?_
          clear hR hD; intro gd curd capd w hR hD
          simp only [List.set_cons_succ, List.set_cons_zero]
          refine wpG_q hR (i := 12) (by kernel_rfl) rfl rfl (t_assign (.now rfl)) (by (simp only [List.set_cons_succ, List.set_cons_zero]; exact rfl)) (by (focus (repeat (with_reducible first | exact List.Sublist.slnil | exact List.nil_sublist _ | exact List.Sublist.refl _ | exact List.sublist_append_right _ _ | apply List.Sublist.cons_cons | apply List.Sublist.cons | apply sub_right)))) ?_
          clear hR; intro w hR
          refine wpG_end hR (by kernel_rfl) ?_
          clear hR; intro w hR
          go_wp2
          go_meet
          rw [Nat.zero_add] at hD
          exact ⟨gd, _, capd, curd, rfl, by rw [bad_len js K hKn]; omega, hR.drop (by (focus (repeat (with_reducible first | exact List.Sublist.slnil | exact List.nil_sublist _ | exact List.Sublist.refl _ | exact List.sublist_append_right _ _ | apply List.Sublist.cons_cons | apply List.Sublist.cons | apply sub_right)))), hD.cast (by unfold badL; rw [encL_append, encL_append]; simp [encL])⟩
      case rest =>
      clear hR hS hSb
      obtain ⟨gd, nd, capd, curd, rfl, hnd, hR, hD⟩ := hcut
      have HBD := Lib.hid (fun (wz : World) (hz : Own w0 wz [(gd, curd, 24)]) => all_bad (badL js K) (bad_ok js K HGG.out.ok) (bad_may js K) (by rw [bad_len js K hKn]; omega) hT hz (.head _) hnd hD)
      clear hnd hD
      go_upto_region 13 with (first
    | (go_at_call 11; refine (HBD.out _ hR).mono ?_; rintro e w' ⟨rfl, hO⟩; clear hR; have hR := hO; clear hO)
    | ((with_reducible apply q_ls hR); exact rfl; (with_reducible apply t_six Tryd.underlying34 iInst); (apply EvC.now; exact rfl); (apply EvC.now; exact rfl); (constructor <;> omega); (simp only [List.set_cons_succ, List.set_cons_zero]; exact rfl); clear hR; intro w hR)
    | ((with_reducible apply q_ls hR); exact rfl; (with_reducible apply t_oldMany tInst); (apply EvC.now; exact rfl); (exact HP.out); (exact rfl); (simp only [List.set_cons_succ, List.set_cons_zero]; exact rfl); clear hR; intro w hR)
    | ((with_reducible apply q_ls hR); exact rfl; (with_reducible apply t_ownMany tInst); (apply EvC.now; exact rfl); (focus (repeat (first | apply List.Mem.head | apply List.Mem.tail | apply List.mem_append_right))); (exact part_last hS); (exact rfl); (simp only [List.set_cons_succ, List.set_cons_zero]; exact rfl); clear hR; intro w hR)
    | ((with_reducible apply q_ls hR); exact rfl; (with_reducible apply t_str tText); (apply EvC.now; exact rfl); (focus (repeat (first | apply List.Mem.head | apply List.Mem.tail | apply List.mem_append_right))); (exact hS5); (simp only [List.set_cons_succ, List.set_cons_zero]; exact rfl); clear hR; intro w hR)
    | ((with_reducible apply q_ls hR); exact rfl; (with_reducible apply t_cat); (apply EvC.now; exact rfl); (apply EvC.now; exact rfl); (omega); (simp only [List.set_cons_succ, List.set_cons_zero]; exact rfl); clear hR; intro w hR)
    | ((with_reducible apply wpList_buildS hR); exact rfl; exact rfl; (first | exact bI0 | exact bI1 _); clear hR; intro gb w hR; simp only [List.set_cons_succ, List.set_cons_zero])
    | ((with_reducible apply wpList_appR hR tInsts); exact rfl; exact rfl; exact rfl; (focus (repeat (first | apply Del.head | apply Del.tail))); exact hS; (focus (repeat (first | apply List.Mem.head | apply List.Mem.tail | apply List.mem_append_right))); (exact Part.all _); (exact rfl); (first | rfl | (simpa using one_inst _)); omega; clear hR hS; intro g cur cap w hR hS; simp only [List.set_cons_succ, List.set_cons_zero])
    | ((with_reducible apply q_ls hR); exact rfl; ((with_reducible first | apply t_addr (fInst _ (by decide)) | apply t_addr (fRow _ (by decide)) | apply t_one tInt | apply t_one tWord | apply t_one tByte | apply t_one tBool | apply t_part tInst | apply t_part tRow) <;> (first | (apply EvC.gv; exact rfl; (with_reducible first | exact Imp.refl _ | (apply Imp.left; exact Imp.refl _) | (apply Imp.right; exact Imp.refl _) | (apply Imp.left; apply Imp.left; exact Imp.refl _))) | (apply EvC.now; exact rfl) | exact rfl | (with_reducible exact EvAll.nil) | (focus (repeat (first | apply EvAll.cons | exact EvAll.nil | (apply EvC.gv; exact rfl; (with_reducible first | exact Imp.refl _ | (apply Imp.left; exact Imp.refl _) | (apply Imp.right; exact Imp.refl _) | (apply Imp.left; apply Imp.left; exact Imp.refl _))) | (apply EvC.now; exact rfl))); done) | (first | apply ext_inst | apply ext_row) | (focus (repeat (first | apply List.Mem.head | apply List.Mem.tail | apply List.mem_append_right))))); (simp only [List.set_cons_succ, List.set_cons_zero]; exact rfl); clear hR; intro w hR)
    | ((with_reducible apply wpList_box hR); exact rfl; exact rfl; clear hR; intro g w hR; simp only [List.set_cons_succ, List.set_cons_zero])
    | ((with_reducible apply wpList_make hR zInst); exact rfl; clear hR; intro g w hR; simp only [List.set_cons_succ, List.set_cons_zero])
    | ((with_reducible apply wpList_make hR zRow); exact rfl; clear hR; intro g w hR; simp only [List.set_cons_succ, List.set_cons_zero])
    | ((with_reducible apply wpList_put hR tInst); exact rfl; exact rfl; exact rfl; (focus (repeat (first | apply List.Mem.head | apply List.Mem.tail | apply List.mem_append_right))); apply put_inst; exact rfl; simp [encI]; apply one_inst; (focus (repeat (first | apply Upd.head | apply Upd.tail))); clear hR; intro w hR)
    | ((with_reducible apply wpList_put hR tRow); exact rfl; exact rfl; exact rfl; (focus (repeat (first | apply List.Mem.head | apply List.Mem.tail | apply List.mem_append_right))); apply put_row; exact rfl; simp [encR]; apply one_row; (focus (repeat (first | apply Upd.head | apply Upd.tail))); clear hR; intro w hR)
    | ((with_reducible apply wpList_built); exact rfl; exact rfl; (first | exact bInst1 _ | exact bInst2 _ _ | exact bInst3 _ _ | exact bRow0); (simp only [List.set_cons_succ, List.set_cons_zero]; exact rfl)))
      refine wp_region_tame hR [0, 1, 2, 3, 4, 5, 6, 7, 8, 9, 10] rfl ?_
      repeat (refine wpT_step rfl ?_; first
    | ((with_reducible apply q_kn); exact rfl; (first | ((with_reducible first | apply t_move | apply t_assign | apply t_addr (fInst _ (by decide)) | apply t_addr (fRow _ (by decide)) | apply t_one tInt | apply t_one tWord | apply t_one tByte | apply t_one tBool | apply t_part tInst | apply t_part tRow) <;> (first | (apply EvC.gv; exact rfl; (with_reducible first | exact Imp.refl _ | (apply Imp.left; exact Imp.refl _) | (apply Imp.right; exact Imp.refl _) | (apply Imp.left; apply Imp.left; exact Imp.refl _))) | (apply EvC.now; exact rfl) | exact rfl | (with_reducible exact EvAll.nil) | (focus (repeat (first | apply EvAll.cons | exact EvAll.nil | (apply EvC.gv; exact rfl; (with_reducible first | exact Imp.refl _ | (apply Imp.left; exact Imp.refl _) | (apply Imp.right; exact Imp.refl _) | (apply Imp.left; apply Imp.left; exact Imp.refl _))) | (apply EvC.now; exact rfl))); done) | (first | apply ext_inst | apply ext_row) | (focus (repeat (first | apply List.Mem.head | apply List.Mem.tail | apply List.mem_append_right))))) | ((with_reducible apply t_pick); (apply EvC.now; exact rfl); (apply EvC.now; exact rfl))); (simp only [List.set_cons_succ, List.set_cons_zero]; exact rfl))
    | ((with_reducible apply q_kn); exact rfl; (with_reducible apply t_call Tryd.call9); (first | (apply EvC.gv; exact rfl; (with_reducible first | exact Imp.refl _ | (apply Imp.left; exact Imp.refl _) | (apply Imp.right; exact Imp.refl _) | (apply Imp.left; apply Imp.left; exact Imp.refl _))) | (apply EvC.now; exact rfl) | exact rfl | (with_reducible exact EvAll.nil) | (focus (repeat (first | apply EvAll.cons | exact EvAll.nil | (apply EvC.gv; exact rfl; (with_reducible first | exact Imp.refl _ | (apply Imp.left; exact Imp.refl _) | (apply Imp.right; exact Imp.refl _) | (apply Imp.left; apply Imp.left; exact Imp.refl _))) | (apply EvC.now; exact rfl))); done) | (first | apply ext_inst | apply ext_row) | (focus (repeat (first | apply List.Mem.head | apply List.Mem.tail | apply List.mem_append_right)))); (intro hcc w hC; exact tame_below (awake_any _ (hT.own hC)) hC); (simp only [List.set_cons_succ, List.set_cons_zero]; exact rfl))
    | ((with_reducible apply q_kn); exact rfl; (with_reducible apply t_len Tryd.underlying26); (apply EvC.now; exact rfl); (simp only [List.set_cons_succ, List.set_cons_zero]; exact rfl))
    | ((with_reducible apply wpT1_pure); exact rfl; intro K hK; go_simp; refine hK _ ?_; clear hK K; simp only [List.set_cons_succ, List.set_cons_zero]))
      refine wpT_nil ?_
      clear hR; intro w hR
      go_wp2
      go_ret
      exact ⟨ret_bool (by first | rfl | simp), hR.below⟩

set_option maxRecDepth 100000 in
theorem lifted (os : Os) (started : os.Started) (H : Type) (enc : TypeId × Value → H) :
    ReturnsInHanded {} Tryd.checked os 4 .any (fun w args => (Rows.codeAllSpec.pre enc Tryd.prog Tryd.f4 [] false w args ∧ laidMetH Tryd.prog laid2 w) ∧ sizedMet enc Tryd.prog Tryd.f4 (OpenSpec.ofChange Rows.codeAllSpec) false w args)
      (Rows.codeAllSpec.post enc Tryd.prog Tryd.f4 false true false false) := by
  refine returnsInHanded_of_change_and (C := Tryd.checked) (X := fun w _ => laidMetH Tryd.prog laid2 w) (fun _ _ _ hh h => h.of_heap hh) own started (by kernel_rfl) Tryd.func4
    (ChangeSpec.witness_shaped (enc := enc) (C := Tryd.checked) (os := os) (X := fun w _ => laidMetH Tryd.prog laid2 w) false (World.doorLaid Tryd.prog 400 os) #[.slice none 0 0, .int .i64 0] 8 rfl (World.shaped_of_RefB (by kernel_rfl) (by kernel_rfl)) (by kernel_rfl) (by kernel_rfl) (by kernel_rfl) (door_met os _)) ?_
  intro W base args ds gs before hval0 hW _ _ hL _
  have hval : ∀ (j : Nat) t v, Tryd.f4.params[j]? = some t → args[j]? = some v → Value.okWide Tryd.prog W .any base t v := hval0
  have hW' := hW
  obtain ⟨p, q, hA0, hV, rfl, hfz, hnd⟩ := hW
  have hA : DataW.TrodAll enc Tryd.prog W 0 (fun _ => true) true Tryd.f4.params.toList args.toList ds p := hA0
  rw [Tryd.params4] at hA hval
  obtain ⟨v0, vs0, d0, ds0, p0, q0, hargs, rfl, rfl, h0, r0⟩ := trodAll_cons hA
  obtain ⟨v1, vs1, d1, ds1, p1, q1, rfl, rfl, rfl, h1, r1⟩ := trodAll_cons r0
  obtain ⟨rfl, rfl, rfl⟩ := trodAll_nil r1
  obtain rfl : args = #[v0, v1] := by cases args; simp_all
  obtain ⟨rfl, rfl⟩ := trodVars_none hV
  have k0 := h0
  have lt0 : ∀ x ∈ p0, x.block < W.heap.size := by obtain ⟨m, hm⟩ := k0; exact DataW.trod_lt m _ _ _ hm
  have o0 := open_insts (hval 0 34 v0 rfl rfl) h0
  obtain ⟨a1, rfl, rfl, rfl, w1⟩ := open_int Tryd.underlying3 (hval 1 3 v1 rfl rfl) h1
  clear hA0 hval0
  refine (walk v0 o0 a1 w1 W (of_laid hL)).mono fun e W' ⟨he, bel⟩ => ?_
  subst he
  exact ⟨_, rfl, _, _, _, [], _, [], hW', trodAll_mk1 (shut_bool Tryd.underlying4 _), (trodAll_cons_mk (Below.trod laidOut (by kernel_rfl) (of_decide_eq_true (by kernel_rfl)) k0 bel lt0) (trodAll_cons_mk (shut_int Tryd.underlying3 w1) trodAll_mk0)), rfl, bel.frame _, fun h => by cases h⟩

theorem over : Rows.codeAllRow.holds Tryd.pinned (OpenSpec.ofChange Rows.codeAllSpec) :=
  OpenClaim.holds_of_wide 4 Tryd.f4 rfl rfl rfl rfl rfl rfl rfl ⟨rfl, rfl, rfl, rfl, rfl⟩ rfl rfl rfl rfl rfl (by kernel_rfl) Tryd.func4 (by kernel_rfl)
    (of_decide_eq_true (by kernel_rfl)) (by unfold Func.isWrapper; first | (rw [if_pos (by decide +kernel)]; kernel_rfl) | (rw [if_neg (by decide +kernel)]; exact ⟨rfl, rfl⟩))
    (fun os started H enc _ => lifted os started H enc)

theorem proved : Rows.CodeAllCardSaid :=
  Claim7.holds_tied_plain_at .later [] [.data, .data] true Rows.codeAllCard.stood.harness false
    over (fun _ h => by cases h) (by kernel_rfl) (fun _ h => by cases h) codeAll_row_tie rfl ⟨rfl, rfl⟩ (by kernel_rfl) rfl
    (fun f fn hf hfn => by
      obtain rfl : f = 4 := Option.some.inj ((show Tryd.prog.funcNamed "hansom/hansomlaw06.CodeAll" = some 4 by kernel_rfl).symm.trans hf) |>.symm
      obtain rfl : fn = Tryd.f4 := (Option.some.inj (Tryd.func4.symm.trans hfn)).symm
      exact ⟨by kernel_rfl, fun j t ht => by
        rw [Tryd.params4] at ht
        have hm : t ∈ [34, 3] := by simpa using Array.mem_of_getElem? ht
        have hall : ([34, 3].all fun u => !Tryd.prog.wantsStandIn u) = true := by kernel_rfl
        exact (show Tryd.prog.wantsStandIn t = false by simpa using List.all_eq_true.1 hall t hm)⟩)
    (by kernel_rfl)
#print axioms proved
end Go.Proofs.YtlklfnmhnffmoaaDoor.codeAll
