/- The law RecAll (many records, there and back, and the errors of too great and of bad ones) returns true whatever the arguments, and each argument reads afterwards as before. There is no condition on the arguments. -/
import Derived.Test.YtkmeaadkiakbdaaRows
import Derived.Test.YtkmeaadkiakbdaaLaw18
import Derived.Test.YtkmeaadkiakbdaaAppG
import Derived.Test.YtkmeaadkiakbdaaMake
import Derived.Test.YtkmeaadkiakbdaaByt
import Derived.Test.YtkmeaadkiakbdaaRecs
import Derived.WalkKit
import Derived.ProofKit
import Derived.OpenShut
import Derived.ShutString
import Derived.ChangeOld
import Derived.Below
namespace Go.Proofs.Ytkmeaadkiakbdaa.recAll
open Go.ChangeShapes Go.WideShapes Go.ChangeAt Go.RowKit
open Go.ChangeMaps (open_string shut_string)
set_option linter.unusedVariables false
set_option linter.unusedSimpArgs false

theorem own : ownKnob Try.prog.godebug = none := by kernel_rfl
theorem laidOut : laidOutB Try.prog = true := by kernel_rfl








theorem fRecA (k : Nat) (h : k < 2) : FieldAtA Try.prog 26 k k := by
  match k, h with
  | 0, _ => exact ⟨fun g w => by simp [go_sem, Instr.fieldAt, fieldPlace]⟩
  | 1, _ => exact ⟨fun g w => by simp [go_sem, Instr.fieldAt, fieldPlace]⟩
theorem cmp_nself (a : Int) : cmpB .neq a a = some false := congrArg some (by simp)
theorem t_strsameN {P : Program} {C : World → Prop} {tp : TypeId} {pos : String} {af : Array Edge} {gd : Option (Nat × Bool)} {ls : List Value} {ds : List Deferred} {c : Bool} {dd : Option Tmp} {ty ty' : TypeId} {x y : Operand} {a : ByteArray} (hx : EvC ls c x (.string a)) (hy : EvC ls c y (.string a)) : TIf P C c ⟨dd, .binOp .neq ty x y ty', tp, pos, af, gd⟩ ⟨ls.toArray, ds⟩ (.bool false) := by
  have := t_strne (P := P) (C := C) (tp := tp) (pos := pos) (af := af) (gd := gd) (ds := ds) (dd := dd) (ty := ty) (ty' := ty') hx hy
  rw [beq_self_eq_true] at this
  exact this
theorem and7_64 (n : Int) : bits .and .i64 n 7 = n % 8 := by
  have h3 : (BitVec.ofInt 64 7).toNat = 2 ^ 3 - 1 := by decide
  have key : (BitVec.ofInt 64 n &&& BitVec.ofInt 64 7).toNat = (n % ((2 ^ 64 : Nat) : Int)).toNat % 2 ^ 3 := by
    rw [BitVec.toNat_and, BitVec.toNat_ofInt, h3, Nat.and_two_pow_sub_one_eq_mod]
  show IntKind.i64.wrap ((BitVec.ofInt 64 n &&& BitVec.ofInt 64 7).toNat : Nat) = n % 8
  rw [key, IntKind.wrap_i64]
  omega
theorem zByteM : (Try.prog.info? 5).map (fun i => (i.zero, i.size, i.bytes)) = some (some (Value.int .u8 0), 1, 1) := by kernel_rfl
theorem src_rowN {w0 w : World} {l : List RowT} {g n : Nat} {cur : Array Value} {e : TypeId} {ns : List Int} (hR : Own w0 w l) (hm : (g, cur, e) ∈ l) (hc : cur.toList = cellsB ns) (hb : bytesOk ns) (hl : ns.length = n) (hn : n ≤ 1000000) : SrcW w (.slice (some ⟨g, 0, none⟩) n n) ns := by
  subst hl; exact src_row hR hm hc hb hn
theorem min40 (n : Nat) : (if (40 : Int) < (n : Int) then 40 else (n : Int)) = ((min n 40 : Nat) : Int) := by split <;> omega
def cut40 (r : RecZ) : RecZ := ⟨r.k, cutV r.v 0 (min r.b.length 40), r.b.take (min r.b.length 40)⟩
theorem cut40_ok {w : World} {r : RecZ} (h : r.ok w) : (cut40 r).ok w := ⟨h.1, h.2.1.first _ (by omega), by
  have := h.2.2
  show (r.b.take _).length ≤ _
  rw [List.length_take]; omega⟩
theorem cut40_len (r : RecZ) : (cut40 r).b.length ≤ 40 := by
  show (r.b.take _).length ≤ _
  rw [List.length_take]; omega
theorem tRecsB : SliceB Try.prog 36 26 2 32 := .of (z := .agg #[.int .u8 0, .slice none 0 0]) Try.underlying36 (by kernel_rfl) rfl (by decide)
theorem bRecs0 : BuiltS Try.prog 36 0 [] 26 #[] := ⟨fun w => by simp [go_sem]⟩
theorem bRecsS (k : Int) (a : Option Addr) (n c : Nat) : BuiltS Try.prog 36 1 [(0, .agg #[.int .u8 k, .slice a n c])] 26 #[.int .u8 k, .slice a n c] := ⟨fun w => by simp [go_sem]⟩
theorem bRecs1 {w : World} {v : Value} {bs : List Int} (k : Int) (h : SrcW w v bs) : BuiltS Try.prog 36 1 [(0, .agg #[.int .u8 k, v])] 26 #[.int .u8 k, v] := by
  obtain ⟨a, n, c, rfl⟩ := h.shape
  exact bRecsS k a n c
theorem rd_rec {w0 w : World} {l : List RowT} {g : Nat} {e : TypeId} {r : RecZ} (hR : Own w0 w l) (hm : (g, #[.int .u8 r.k, r.v], e) ∈ l) (ho : r.ok w) : Rd w 2 (.slice (some ⟨g, 0, none⟩) 1 1) 1 (cellsRec r) := by
  have h : Sl e 2 [(g, #[.int .u8 r.k, r.v], e)] (.slice (some ⟨g, 0, none⟩) 1 1) 1 (cellsRec r) := (RwIs.all rfl (by decide)).sl
  exact h.rd hR (fun x hx => by rw [List.mem_singleton.1 hx]; exact hm) (cellsRec_one ho)
theorem catR_more (l : List (Int × List Int)) (r : Int × List Int) : catR (l ++ [r]) = catR l ++ recN r.1 r.2 := by
  induction l with
  | nil => simp [catR]
  | cons x l ih => simp only [List.cons_append, catR, ih, List.append_assoc]
theorem catR_ok : ∀ {l : List (Int × List Int)}, (∀ r ∈ l, (0 ≤ r.1 ∧ r.1 ≤ 255) ∧ bytesOk r.2) → bytesOk (catR l)
  | [], _ => .nil
  | r :: l, h => (recN_ok (h r (.head _)).1 (h r (.head _)).2).append (catR_ok fun x hx => h x (.tail _ hx))
theorem catR_len : ∀ {l : List (Int × List Int)}, (∀ r ∈ l, r.2.length ≤ 40) → (catR l).length ≤ l.length * 44
  | [], _ => by simp [catR]
  | r :: l, h => by
    have h1 := h r (.head _)
    have h2 := catR_len (l := l) fun x hx => h x (.tail _ hx)
    simp only [catR, List.length_append, recN_len, List.length_cons]; omega
theorem catR_ge : ∀ (l : List (Int × List Int)), l.length ≤ (catR l).length
  | [] => Nat.le_refl _
  | r :: l => by
    have := catR_ge l
    simp only [catR, List.length_append, recN_len, List.length_cons]; omega
/-- What has been taken of the records. -/
def takenR (rs : List RecZ) (k : Nat) : List RecZ := (rs.take k).map cut40
theorem taken_more {rs : List RecZ} {k : Nat} {r : RecZ} (h : rs[k]? = some r) : takenR rs (k + 1) = takenR rs k ++ [cut40 r] := by
  unfold takenR; rw [List.take_add_one, h]; simp
theorem taken_len {rs : List RecZ} {k : Nat} (h : k ≤ rs.length) : (takenR rs k).length = k := by
  unfold takenR; rw [List.length_map, List.length_take]; omega
def LoopIs (w0 : World) (rs : List RecZ) (x s i : Value) (wr : World) : Prop :=
  ∃ (k : Nat) (sl : List RowT), i = .int .i64 k ∧ k ≤ 10 ∧ k ≤ rs.length ∧ s = .string (strOfNums (catR ((takenR rs k).map RecZ.two))) ∧ Own w0 wr (sl ++ []) ∧ Sl 26 2 sl x k ((takenR rs k).flatMap cellsRec)
theorem at_cells {w : World} {g : Nat} {cs : Array Value} {t : TypeId} (h : At w g cs t) : ∀ j u, cs.toList[j]? = some u → w.cell? ((⟨g, 0, none⟩ : Addr).add j) = some u := by
  intro j u hu
  rw [addr_mid, cell_of_row _ _ _ _ _ _ h.get, Nat.zero_add, ← Array.getElem?_toList]; exact hu
theorem l128 : (⟨#[128, 0, 0]⟩ : ByteArray) = strOfNums [128, 0, 0] := rfl
theorem ok128 : bytesOk [128, 0, 0] := .cons (by decide) (.cons (by decide) (.cons (by decide) .nil))
set_option maxHeartbeats 8000000 in
set_option maxRecDepth 100000 in
theorem walk {w0 : World} (v0 : Value) (hA : RecsIn w0 v0) (cut : Int) (hc : (Lit.int .i64 cut).wf = true) (wi : World) :
    Calls Try.prog 5 #[v0, .int .i64 cut] w0 fun e w' => e = .returned (.bool true) ∧ Below w0.heap.size w0 w' := by
  clear wi
  obtain ⟨rs, hrs⟩ := hA
  have hR := Own.start w0
  go_enter Try.func5, Try.ntmps5
  go_wp2_with (first
    | ((with_reducible apply wpList_buildS hR); exact rfl; exact rfl; (exact bRecs0); clear hR; intro gx w hR; simp only [List.set_cons_succ, List.set_cons_zero]))
  go_loopw [5, 6, 7] (fun x s i wr => LoopIs w0 rs x s i wr) (fun _ _ i _ => 10 - (intOf i).toNat)
  case atStart => exact ⟨0, _, rfl, by decide, Nat.zero_le _, rfl, hR, (RwIs.all rfl (by decide)).sl⟩
  case round =>
    clear hR
    obtain ⟨k, sl, rfl, hk10, hkl, rfl, hR, hS⟩ := hrel
    have hX : ∀ r ∈ takenR rs k, r.ok w0 := by
      intro r hr
      obtain ⟨q, hq, rfl⟩ := List.mem_map.1 hr
      exact cut40_ok (hrs.ok q (List.mem_of_mem_take hq))
    have hT : ∀ r ∈ (takenR rs k).map RecZ.two, r.2.length ≤ 40 := by
      intro r hr
      obtain ⟨q, hq, rfl⟩ := List.mem_map.1 hr
      obtain ⟨z, _, rfl⟩ := List.mem_map.1 hq
      exact cut40_len z
    have hcl := catR_len hT
    rw [List.length_map, taken_len hkl] at hcl
    go_upto_region 3 with fail
    refine wp_region_tame hR [0, 1, 2, 3, 4, 5, 6, 7] rfl ?_
    repeat (refine wpT_step rfl ?_; first
    | ((with_reducible apply q_pl); (with_reducible apply t_lenRd Try.underlying36); (apply EvC.now; exact rfl); exact hrs.rd; (simp only [List.set_cons_succ, List.set_cons_zero]; exact rfl))
    | ((first | (with_reducible apply q_pl) | ((with_reducible apply q_gd); (first | (apply GdBy.gt; exact rfl; exact rfl) | (apply GdBy.gf; exact rfl; exact rfl) | (apply GdBy.t; exact rfl; exact rfl) | (apply GdBy.f; exact rfl; exact rfl)))); (first | ((with_reducible first | apply t_move | apply t_assign | apply t_and | apply t_or | apply t_cmp | apply t_not | apply t_addr (fRec _ (by decide)) | apply t_one tByteR | apply t_one tSlR | apply t_one tIntR) <;> (first | (apply EvC.gv; exact rfl; (with_reducible first | exact Imp.refl _ | (apply Imp.left; exact Imp.refl _) | (apply Imp.right; exact Imp.refl _) | (apply Imp.left; apply Imp.left; exact Imp.refl _))) | (apply EvC.now; exact rfl) | exact rfl | (with_reducible exact EvAll.nil) | (focus (repeat (first | apply EvAll.cons | exact EvAll.nil | (apply EvC.gv; exact rfl; (with_reducible first | exact Imp.refl _ | (apply Imp.left; exact Imp.refl _) | (apply Imp.right; exact Imp.refl _) | (apply Imp.left; apply Imp.left; exact Imp.refl _))) | (apply EvC.now; exact rfl))); done) | exact rfl | (focus (repeat (first | apply List.Mem.head | apply List.Mem.tail | apply List.mem_append_right)))))); (simp only [List.set_cons_succ, List.set_cons_zero]; exact rfl))
    | ((with_reducible apply q_gd); (first | (apply GdBy.gt; exact rfl; exact rfl) | (apply GdBy.gf; exact rfl; exact rfl) | (apply GdBy.t; exact rfl; exact rfl) | (apply GdBy.f; exact rfl; exact rfl)); ((with_reducible apply t_num) <;> (first | (apply EvC.gv; exact rfl; (with_reducible first | exact Imp.refl _ | (apply Imp.left; exact Imp.refl _) | (apply Imp.right; exact Imp.refl _) | (apply Imp.left; apply Imp.left; exact Imp.refl _))) | (apply EvC.now; exact rfl) | exact rfl | (with_reducible exact EvAll.nil) | (focus (repeat (first | apply EvAll.cons | exact EvAll.nil | (apply EvC.gv; exact rfl; (with_reducible first | exact Imp.refl _ | (apply Imp.left; exact Imp.refl _) | (apply Imp.right; exact Imp.refl _) | (apply Imp.left; apply Imp.left; exact Imp.refl _))) | (apply EvC.now; exact rfl))); done) | exact rfl | (focus (repeat (first | apply List.Mem.head | apply List.Mem.tail | apply List.mem_append_right))))); (simp only [List.set_cons_succ, List.set_cons_zero]; exact rfl))
    | ((with_reducible apply wpT1_gpure); (first | (apply GdBy.gt; exact rfl; exact rfl) | (apply GdBy.gf; exact rfl; exact rfl) | (apply GdBy.t; exact rfl; exact rfl) | (apply GdBy.f; exact rfl; exact rfl)); intro K hK; go_simp; refine hK _ ?_; clear hK K; simp only [List.set_cons_succ, List.set_cons_zero])
    | ((with_reducible apply wpT1_pure); exact rfl; intro K hK; go_simp; refine hK _ ?_; clear hK K; simp only [List.set_cons_succ, List.set_cons_zero]))
    refine wpT_nil ?_
    clear hR; intro w hR
    go_upto_if 30 with fail
    refine wp_cond_at (nm := decide ((k : Int) < (rs.length : Int)) && decide ((k : Int) < 10)) rfl rfl (fun h => ?_) (fun h => ?_)
    · simp only [Bool.and_eq_true, decide_eq_true_eq] at h
      have hlt : k < rs.length := by omega
      have h10 : k < 10 := by omega
      clear h
      obtain ⟨r, hr⟩ : ∃ r, rs[k]? = some r := ⟨_, List.getElem?_eq_getElem hlt⟩
      have hro := hrs.ok r (List.mem_of_getElem? hr)
      have hsr : SrcW w0 r.v r.b := hro.2.1
      obtain ⟨a, cap, rfl, hc0, hc1⟩ := hrs.el hr
      have HC0 := Lib.hid hc0
      have HC1 := Lib.hid hc1
      have HTM := Lib.hid (taken_more hr)
      clear hc0 hc1
      obtain ⟨m, hm⟩ : ∃ m, min r.b.length 40 = m := ⟨_, rfl⟩
      have hml : m ≤ r.b.length := by omega
      have HMM := Lib.hid (min40 r.b.length)
      rw [hm] at HMM
      have HCUT := Lib.hid (show cut40 r = ⟨r.k, cutV r.v 0 m, r.b.take m⟩ by unfold cut40; rw [hm])
      clear hm hr
      go_upto_region 5 with fail
      refine wp_region_rows hR [0, 1, 2, 3, 4, 5, 6, 7, 8, 9, 10, 11, 12, 13] 0 (by kernel_rfl) (by kernel_rfl) (by kernel_rfl) rfl ?_
      clear hR; intro hR
      repeat (refine wpT_step rfl ?_; first
    | ((with_reducible apply q_pl); (with_reducible apply t_six Try.underlying36 iRec); (apply EvC.now; exact rfl); (apply EvC.now; exact rfl); (constructor <;> omega); (simp only [List.set_cons_succ, List.set_cons_zero]; exact rfl))
    | ((with_reducible apply q_pl); (with_reducible apply t_fieldA (fRecA _ (by decide))); (apply EvC.now; exact rfl); (simp only [List.set_cons_succ, List.set_cons_zero]; exact rfl))
    | ((with_reducible apply q_pl); (with_reducible apply t_oldOne tSlR); (apply EvC.now; exact rfl); (exact HC1.out); (exact hsr.one); (simp only [List.set_cons_succ, List.set_cons_zero]; exact rfl))
    | ((with_reducible apply q_pl); (with_reducible apply t_lenW Try.underlying22); (apply EvC.now; exact rfl); exact hsr; (simp only [List.set_cons_succ, List.set_cons_zero]; exact rfl))
    | ((with_reducible apply q_pl); (with_reducible apply t_minK); (apply EvC.now; exact rfl); (apply EvC.now; exact rfl); exact HMM.out; (simp only [List.set_cons_succ, List.set_cons_zero]; exact rfl))
    | ((with_reducible apply q_pl); (with_reducible apply t_cutH tBytesN hsr); (apply EvC.now; exact rfl); (apply EvC.now; exact rfl); exact rfl; exact hml; (simp only [List.set_cons_succ, List.set_cons_zero]; exact rfl))
    | ((first | (with_reducible apply q_pl) | ((with_reducible apply q_gd); (first | (apply GdBy.gt; exact rfl; exact rfl) | (apply GdBy.gf; exact rfl; exact rfl) | (apply GdBy.t; exact rfl; exact rfl) | (apply GdBy.f; exact rfl; exact rfl)))); (first | ((with_reducible first | apply t_move | apply t_assign | apply t_and | apply t_or | apply t_cmp | apply t_not | apply t_addr (fRec _ (by decide)) | apply t_one tByteR | apply t_one tSlR | apply t_one tIntR) <;> (first | (apply EvC.gv; exact rfl; (with_reducible first | exact Imp.refl _ | (apply Imp.left; exact Imp.refl _) | (apply Imp.right; exact Imp.refl _) | (apply Imp.left; apply Imp.left; exact Imp.refl _))) | (apply EvC.now; exact rfl) | exact rfl | (with_reducible exact EvAll.nil) | (focus (repeat (first | apply EvAll.cons | exact EvAll.nil | (apply EvC.gv; exact rfl; (with_reducible first | exact Imp.refl _ | (apply Imp.left; exact Imp.refl _) | (apply Imp.right; exact Imp.refl _) | (apply Imp.left; apply Imp.left; exact Imp.refl _))) | (apply EvC.now; exact rfl))); done) | exact rfl | (focus (repeat (first | apply List.Mem.head | apply List.Mem.tail | apply List.mem_append_right)))))); (simp only [List.set_cons_succ, List.set_cons_zero]; exact rfl)))
      refine wpG_end hR (by kernel_rfl) ?_
      clear hR; intro w hR
      have hro2 := cut40_ok hro
      have hl2 := cut40_len r
      rw [HCUT.out] at hro2 hl2 HTM
      have hsb : SrcW w0 (cutV r.v 0 m) (r.b.take m) := hro2.2.1
      have hkk := hro.1
      dsimp only at hsb hl2
      obtain ⟨vb, hvb⟩ : ∃ vb, cutV r.v 0 m = vb := ⟨_, rfl⟩
      obtain ⟨bb, hbb⟩ : ∃ bb, r.b.take m = bb := ⟨_, rfl⟩
      rw [hvb, hbb] at hsb hro2 HTM
      rw [hbb] at hl2
      rw [hvb]
      clear hvb hbb HMM HCUT
      go_upto_region 7 with (first
    | ((with_reducible apply q_ls hR); exact rfl; (with_reducible apply t_six Try.underlying36 iRec); (apply EvC.now; exact rfl); (apply EvC.now; exact rfl); (constructor <;> omega); (simp only [List.set_cons_succ, List.set_cons_zero]; exact rfl); clear hR; intro w hR)
    | ((with_reducible apply q_ls hR); exact rfl; (with_reducible apply t_fieldA (fRecA _ (by decide))); (apply EvC.now; exact rfl); (simp only [List.set_cons_succ, List.set_cons_zero]; exact rfl); clear hR; intro w hR)
    | ((with_reducible apply q_ls hR); exact rfl; (with_reducible apply t_oldOne tByteR); (apply EvC.now; exact rfl); (exact HC0.out); (exact rfl); (simp only [List.set_cons_succ, List.set_cons_zero]; exact rfl); clear hR; intro w hR)
    | ((with_reducible apply wpList_built); exact rfl; exact rfl; exact bRec _ hsb; (simp only [List.set_cons_succ, List.set_cons_zero]; exact rfl))
    | ((with_reducible apply wpList_buildS hR); exact rfl; exact rfl; (exact bRecs1 _ hsb); clear hR; intro gb w hR; simp only [List.set_cons_succ, List.set_cons_zero])
    | ((with_reducible apply wpList_appG hR tRecsB); exact rfl; exact rfl; exact rfl; exact hS; (exact Les.tail (Les.head)); (exact rd_rec (r := ⟨r.k, vb, bb⟩) hR (.head _) (hro2.keep hR.below)); (simp only [maxLen]; omega); omega; clear hR hS; intro s2 v2 w hR hS; simp only [List.set_cons_succ, List.set_cons_zero]))
      have hrl := recN_len r.k bb
      have HCM := Lib.hid (show catR ((takenR rs k).map RecZ.two) ++ recN r.k bb = catR ((takenR rs (k + 1)).map RecZ.two) by rw [HTM.out, List.map_append]; exact (catR_more ((takenR rs k).map RecZ.two) (r.k, bb)).symm)
      have hbo := hsb.ok
      generalize catR ((takenR rs k).map RecZ.two) = cs at *
      have hrl2 : (recN r.k bb).length ≤ 44 := by omega
      have hcl2 : cs.length ≤ 440 := by omega
      clear hrl hcl
      refine wp_region_rows hR [0, 1, 2, 3, 4, 5, 6, 7, 8, 9, 10] 0 (by kernel_rfl) (by kernel_rfl) (by kernel_rfl) rfl ?_
      clear hR; intro hR
      repeat (refine wpT_step rfl ?_; first
    | ((with_reducible apply q_pl); (with_reducible apply t_six Try.underlying36 iRec); (apply EvC.now; exact rfl); (apply EvC.now; exact rfl); (constructor <;> omega); (simp only [List.set_cons_succ, List.set_cons_zero]; exact rfl))
    | ((with_reducible apply q_pl); (with_reducible apply t_fieldA (fRecA _ (by decide))); (apply EvC.now; exact rfl); (simp only [List.set_cons_succ, List.set_cons_zero]; exact rfl))
    | ((with_reducible apply q_pl); (with_reducible apply t_oldOne tByteR); (apply EvC.now; exact rfl); (exact HC0.out); (exact rfl); (simp only [List.set_cons_succ, List.set_cons_zero]; exact rfl))
    | ((with_reducible apply q_pl); (with_reducible apply t_strW tTextN); (apply EvC.now; exact rfl); (exact fun w hC => hsb.own hC); (simp only [List.set_cons_succ, List.set_cons_zero]; exact rfl))
    | ((with_reducible apply q_pl); (with_reducible apply t_catE); (apply EvC.now; exact rfl); (apply EvC.now; exact rfl); omega; exact HCM.out; (simp only [List.set_cons_succ, List.set_cons_zero]; exact rfl))
    | ((first | (with_reducible apply q_pl) | ((with_reducible apply q_gd); (first | (apply GdBy.gt; exact rfl; exact rfl) | (apply GdBy.gf; exact rfl; exact rfl) | (apply GdBy.t; exact rfl; exact rfl) | (apply GdBy.f; exact rfl; exact rfl)))); (with_reducible apply t_call Try.call6); (first | (apply EvC.gv; exact rfl; (with_reducible first | exact Imp.refl _ | (apply Imp.left; exact Imp.refl _) | (apply Imp.right; exact Imp.refl _) | (apply Imp.left; apply Imp.left; exact Imp.refl _))) | (apply EvC.now; exact rfl) | exact rfl | (with_reducible exact EvAll.nil) | (focus (repeat (first | apply EvAll.cons | exact EvAll.nil | (apply EvC.gv; exact rfl; (with_reducible first | exact Imp.refl _ | (apply Imp.left; exact Imp.refl _) | (apply Imp.right; exact Imp.refl _) | (apply Imp.left; apply Imp.left; exact Imp.refl _))) | (apply EvC.now; exact rfl))); done) | exact rfl | (focus (repeat (first | apply List.Mem.head | apply List.Mem.tail | apply List.mem_append_right)))); (intro hcc w hC; exact tame_below (r18rec_any r.k bb _ hkk hbo (by omega)) hC); (simp only [List.set_cons_succ, List.set_cons_zero]; exact rfl))
    | ((first | (with_reducible apply q_pl) | ((with_reducible apply q_gd); (first | (apply GdBy.gt; exact rfl; exact rfl) | (apply GdBy.gf; exact rfl; exact rfl) | (apply GdBy.t; exact rfl; exact rfl) | (apply GdBy.f; exact rfl; exact rfl)))); (first | ((with_reducible first | apply t_move | apply t_assign | apply t_and | apply t_or | apply t_cmp | apply t_not | apply t_addr (fRec _ (by decide)) | apply t_one tByteR | apply t_one tSlR | apply t_one tIntR) <;> (first | (apply EvC.gv; exact rfl; (with_reducible first | exact Imp.refl _ | (apply Imp.left; exact Imp.refl _) | (apply Imp.right; exact Imp.refl _) | (apply Imp.left; apply Imp.left; exact Imp.refl _))) | (apply EvC.now; exact rfl) | exact rfl | (with_reducible exact EvAll.nil) | (focus (repeat (first | apply EvAll.cons | exact EvAll.nil | (apply EvC.gv; exact rfl; (with_reducible first | exact Imp.refl _ | (apply Imp.left; exact Imp.refl _) | (apply Imp.right; exact Imp.refl _) | (apply Imp.left; apply Imp.left; exact Imp.refl _))) | (apply EvC.now; exact rfl))); done) | exact rfl | (focus (repeat (first | apply List.Mem.head | apply List.Mem.tail | apply List.mem_append_right)))))); (simp only [List.set_cons_succ, List.set_cons_zero]; exact rfl)))
      refine wpG_end hR (by kernel_rfl) ?_
      clear hR; intro w hR
      go_wp2_with fail
      go_round
      case rel =>
        refine ⟨k + 1, s2, rfl, by omega, by omega, rfl, by simpa using hR.drop (List.sublist_append_left s2 _), ?_⟩
        rw [HTM.out, List.flatMap_append]
        exact hS.cast (by simp)
      case measure => simp [intOf]; omega
    · clear h hrs
      obtain ⟨X, hXe⟩ : ∃ X, takenR rs k = X := ⟨_, rfl⟩
      have hXl : X.length ≤ 10 := by rw [← hXe, taken_len hkl]; exact hk10
      have hXk : X.length = k := by rw [← hXe, taken_len hkl]
      rw [hXe] at hX hT hS
      rw [hXe]
      clear hXe hcl hk10 hkl
      subst hXk
      have hXb : ∀ r ∈ X, r.b.length ≤ 40 := fun r hr => hT r.two (List.mem_map.2 ⟨r, hr, rfl⟩)
      obtain ⟨l, hl⟩ : ∃ l, X.map RecZ.two = l := ⟨_, rfl⟩
      have hll : l.length = X.length := by rw [← hl, List.length_map]
      rw [hl] at hT ⊢
      have hlo : ∀ r ∈ l, (0 ≤ r.1 ∧ r.1 ≤ 255) ∧ bytesOk r.2 := by
        intro r hr
        rw [← hl] at hr
        obtain ⟨q, hq, rfl⟩ := List.mem_map.1 hr
        exact ⟨(hX q hq).1, (hX q hq).2.1.ok⟩
      have hco := catR_ok hlo
      have hcl := catR_len hT
      have h40 : ∀ r ∈ l, r.2.length ≤ 4000 := fun r hr => by have := hT r hr; omega
      have hge : l.length ≤ (catR l).length := catR_ge l
      have HALL := Lib.hid (all_recs l (catR l).length hge h40)
      have hxr : Recs _ _ X := hS.recs hR (fun r hr => List.mem_append_left _ hr) (fun r hr => (hX r hr).keep hR.below)
      have HFORM := Lib.hid (all_form l (catR l ++ [128, 0, 0]).length (by rw [List.length_append]; simp; omega) h40)
      have hbig : bigR X = false := bigR_not fun r hr => by have := hXb r hr; omega
      have HCS := Lib.hid (show catR (X.map RecZ.two) = catR l by rw [hl])
      generalize catR l = cs at *
      have hcl2 : cs.length ≤ 440 := by omega
      clear hcl hge hS hX
      have hZ2 := (Since.start w0).own hR
      have hR2 := hR.fresh
      clear hR
      try clear hZ
      have hZ := hZ2
      have hR := hR2
      clear hZ2 hR2
      go_wp2_with (first
    | ((with_reducible apply wpList_bytesN hR Try.underlying9 Try.underlying22 Try.underlying5 hco); exact rfl; exact rfl; clear hR; intro vm w hR hM; simp only [List.set_cons_succ, List.set_cons_zero]))
      refine (recall_any hM.src (by omega)).mono ?_
      rw [HALL.out]
      dsimp only
      rintro e w1 ⟨vl, gs, rfl, hb, hG, hGe⟩
      have hgl := hGe rfl
      replace hxr := (hxr.own hR).keep hb
      clear hM hGe HALL
      replace hR := hR.grow hb
      have hZ2 := (hZ).own hR
      clear hR hb
      try clear hZ
      have hZ := hZ2
      clear hZ2
      have hR := Own.start w1
      go_wp2_with fail
      refine (recbytes_any (hxr.own hR) (by omega) (fun r hr => by have := hXb r hr; omega)).mono ?_
      rw [hbig]
      rintro e w2 ⟨vb2, bs2, rfl, hb, hB, hBe⟩
      obtain rfl := (hBe rfl).trans HCS.out
      replace hxr := (hxr.own hR).keep hb
      replace hG := (hG.own hR).keep hb
      clear hBe
      replace hR := hR.grow hb
      have hZ2 := (hZ).own hR
      clear hR hb
      try clear hZ
      have hZ := hZ2
      clear hZ2
      have hR := Own.start w2
      have hgx : gs.map RecZ.two = X.map RecZ.two := by rw [hgl, hl]
      have hlg : gs.length = X.length := by have := congrArg List.length hgx; simpa using this
      have HLG := Lib.hid (show cmpB .neq (gs.length : Int) (X.length : Int) = some false by rw [hlg]; exact cmp_nself _)
      clear hlg hll
      go_upto_region 10 with fail
      refine wp_region_tame hR [0, 1, 2, 3, 4, 5, 6, 7, 8, 9, 10, 11, 12, 13, 14, 15, 16, 17, 18] rfl ?_
      repeat (refine wpT_step rfl ?_; first
    | ((with_reducible apply q_kn); exact rfl; (with_reducible apply t_strW tTextN); (apply EvC.now; exact rfl); (exact fun w hC => hB.own hC); (simp only [List.set_cons_succ, List.set_cons_zero]; exact rfl))
    | ((with_reducible apply q_kn); exact rfl; (with_reducible apply t_strsameN); (apply EvC.now; exact rfl); (apply EvC.now; exact rfl); (simp only [List.set_cons_succ, List.set_cons_zero]; exact rfl))
    | ((with_reducible apply q_kn); exact rfl; (with_reducible apply t_lenRd Try.underlying36); (apply EvC.now; exact rfl); (with_reducible first | exact hG.rd | exact hxr.rd); (simp only [List.set_cons_succ, List.set_cons_zero]; exact rfl))
    | ((with_reducible apply q_kn); exact rfl; (with_reducible apply t_cmp); (apply EvC.now; exact rfl); (apply EvC.now; exact rfl); (with_reducible first | exact HLG.out | exact cmp_nself _); (simp only [List.set_cons_succ, List.set_cons_zero]; exact rfl))
    | ((with_reducible apply q_kn); exact rfl; (first | ((with_reducible first | apply t_move | apply t_assign | apply t_addr (fRec _ (by decide)) | apply t_one tByteR | apply t_one tSlR | apply t_one tIntR) <;> (first | (apply EvC.gv; exact rfl; (with_reducible first | exact Imp.refl _ | (apply Imp.left; exact Imp.refl _) | (apply Imp.right; exact Imp.refl _) | (apply Imp.left; apply Imp.left; exact Imp.refl _))) | (apply EvC.now; exact rfl) | exact rfl | (with_reducible exact EvAll.nil) | (focus (repeat (first | apply EvAll.cons | exact EvAll.nil | (apply EvC.gv; exact rfl; (with_reducible first | exact Imp.refl _ | (apply Imp.left; exact Imp.refl _) | (apply Imp.right; exact Imp.refl _) | (apply Imp.left; apply Imp.left; exact Imp.refl _))) | (apply EvC.now; exact rfl))); done) | exact rfl | (focus (repeat (first | apply List.Mem.head | apply List.Mem.tail | apply List.mem_append_right))))) | ((with_reducible apply t_pick); (apply EvC.now; exact rfl); (apply EvC.now; exact rfl))); (simp only [List.set_cons_succ, List.set_cons_zero]; exact rfl)))
      refine wpT_nil ?_
      clear hR; intro w hR
      go_upto_if 95 with fail
      refine wp_cond_at (nm := false) rfl rfl (fun h => absurd h (by decide)) (fun _ => ?_)
      go_wp2_with fail
      go_loopw [13] (fun i wr => ∃ j : Nat, i = .int .i64 j ∧ j ≤ X.length ∧ Own w2 wr []) (fun i _ => X.length - (intOf i).toNat)
      case atStart => exact ⟨0, rfl, Nat.zero_le _, hR⟩
      case round =>
        clear hR
        obtain ⟨j, rfl, hj, hR⟩ := hrel
        go_upto_region 13 with fail
        refine wp_region_tame hR [0, 1, 2, 3] rfl ?_
        repeat (refine wpT_step rfl ?_; first
    | ((with_reducible apply q_pl); (with_reducible apply t_lenRd Try.underlying36); (apply EvC.now; exact rfl); exact hxr.rd; (simp only [List.set_cons_succ, List.set_cons_zero]; exact rfl))
    | ((first | (with_reducible apply q_pl) | ((with_reducible apply q_gd); (first | (apply GdBy.gt; exact rfl; exact rfl) | (apply GdBy.gf; exact rfl; exact rfl) | (apply GdBy.t; exact rfl; exact rfl) | (apply GdBy.f; exact rfl; exact rfl)))); (first | ((with_reducible first | apply t_move | apply t_assign | apply t_and | apply t_or | apply t_cmp | apply t_not | apply t_addr (fRec _ (by decide)) | apply t_one tByteR | apply t_one tSlR | apply t_one tIntR) <;> (first | (apply EvC.gv; exact rfl; (with_reducible first | exact Imp.refl _ | (apply Imp.left; exact Imp.refl _) | (apply Imp.right; exact Imp.refl _) | (apply Imp.left; apply Imp.left; exact Imp.refl _))) | (apply EvC.now; exact rfl) | exact rfl | (with_reducible exact EvAll.nil) | (focus (repeat (first | apply EvAll.cons | exact EvAll.nil | (apply EvC.gv; exact rfl; (with_reducible first | exact Imp.refl _ | (apply Imp.left; exact Imp.refl _) | (apply Imp.right; exact Imp.refl _) | (apply Imp.left; apply Imp.left; exact Imp.refl _))) | (apply EvC.now; exact rfl))); done) | exact rfl | (focus (repeat (first | apply List.Mem.head | apply List.Mem.tail | apply List.mem_append_right)))))); (simp only [List.set_cons_succ, List.set_cons_zero]; exact rfl))
    | ((with_reducible apply q_gd); (first | (apply GdBy.gt; exact rfl; exact rfl) | (apply GdBy.gf; exact rfl; exact rfl) | (apply GdBy.t; exact rfl; exact rfl) | (apply GdBy.f; exact rfl; exact rfl)); ((with_reducible apply t_num) <;> (first | (apply EvC.gv; exact rfl; (with_reducible first | exact Imp.refl _ | (apply Imp.left; exact Imp.refl _) | (apply Imp.right; exact Imp.refl _) | (apply Imp.left; apply Imp.left; exact Imp.refl _))) | (apply EvC.now; exact rfl) | exact rfl | (with_reducible exact EvAll.nil) | (focus (repeat (first | apply EvAll.cons | exact EvAll.nil | (apply EvC.gv; exact rfl; (with_reducible first | exact Imp.refl _ | (apply Imp.left; exact Imp.refl _) | (apply Imp.right; exact Imp.refl _) | (apply Imp.left; apply Imp.left; exact Imp.refl _))) | (apply EvC.now; exact rfl))); done) | exact rfl | (focus (repeat (first | apply List.Mem.head | apply List.Mem.tail | apply List.mem_append_right))))); (simp only [List.set_cons_succ, List.set_cons_zero]; exact rfl))
    | ((with_reducible apply wpT1_gpure); (first | (apply GdBy.gt; exact rfl; exact rfl) | (apply GdBy.gf; exact rfl; exact rfl) | (apply GdBy.t; exact rfl; exact rfl) | (apply GdBy.f; exact rfl; exact rfl)); intro K hK; go_simp; refine hK _ ?_; clear hK K; simp only [List.set_cons_succ, List.set_cons_zero])
    | ((with_reducible apply wpT1_pure); exact rfl; intro K hK; go_simp; refine hK _ ?_; clear hK K; simp only [List.set_cons_succ, List.set_cons_zero]))
        refine wpT_nil ?_
        clear hR; intro w hR
        go_upto_if 99 with fail
        by_cases hjl : j < X.length
        · refine wp_cond_at (nm := true) rfl (by simp; omega) (fun _ => ?_) (fun h => absurd h (by decide))
          obtain ⟨r, hr⟩ : ∃ r, X[j]? = some r := ⟨_, List.getElem?_eq_getElem hjl⟩
          obtain ⟨g, hg, hgr⟩ : ∃ g, gs[j]? = some g ∧ g.two = r.two := by
            have h1 : (gs.map RecZ.two)[j]? = some r.two := by rw [hgx, List.getElem?_map, hr]; rfl
            rw [List.getElem?_map] at h1
            cases hg : gs[j]? with
            | none => rw [hg] at h1; exact nomatch h1
            | some g => rw [hg] at h1; exact ⟨g, rfl, Option.some.inj h1⟩
          have hgk : g.k = r.k := congrArg Prod.fst hgr
          have hgb : g.b = r.b := congrArg Prod.snd hgr
          have hjg : j < gs.length := (List.getElem?_eq_some_iff.1 hg).1
          have hsg : SrcW w2 g.v g.b := (hG.ok g (List.mem_of_getElem? hg)).2.1
          have hsr : SrcW w2 r.v r.b := (hxr.ok r (List.mem_of_getElem? hr)).2.1
          obtain ⟨ag, capg, hvg, hg0, hg1⟩ := hG.el hg
          obtain ⟨ax, capx, hvx, hx0, hx1⟩ := hxr.el hr
          rw [hgk] at hg0
          rw [hgb] at hsg
          rw [hvg, hvx]
          have HVG := Lib.hid hvg
          have HVX := Lib.hid hvx
          have HG0 := Lib.hid (show w2.cell? ((ag.add ((j : Int).toNat * 2)).add 0) = _ from hg0)
          have HG1 := Lib.hid (show w2.cell? ((ag.add ((j : Int).toNat * 2)).add 1) = _ from hg1)
          have HX0 := Lib.hid (show w2.cell? ((ax.add ((j : Int).toNat * 2)).add 0) = _ from hx0)
          have HX1 := Lib.hid (show w2.cell? ((ax.add ((j : Int).toNat * 2)).add 1) = _ from hx1)
          clear hg0 hg1 hx0 hx1 hgr hgk hgb hg hr hvg hvx
          go_upto_region 15 with fail
          refine wp_region_rows hR [0, 1, 2, 3, 4, 5, 6, 7, 8, 9, 10, 11, 12, 13, 14, 15, 16, 17, 18, 19, 20, 21, 22, 23, 24, 25] 0 (by kernel_rfl) (by kernel_rfl) (by kernel_rfl) rfl ?_
          clear hR; intro hR
          repeat (refine wpT_step rfl ?_; first
    | ((with_reducible apply q_kn); exact rfl; (with_reducible apply t_six Try.underlying36 iRec); (apply EvC.now; exact rfl); (apply EvC.now; exact rfl); (constructor <;> omega); (simp only [List.set_cons_succ, List.set_cons_zero]; exact rfl))
    | ((with_reducible apply q_kn); exact rfl; (with_reducible apply t_fieldA (fRecA _ (by decide))); (apply EvC.now; exact rfl); (simp only [List.set_cons_succ, List.set_cons_zero]; exact rfl))
    | ((with_reducible apply q_kn); exact rfl; (with_reducible apply t_oldOne tByteR); (apply EvC.now; exact rfl); (with_reducible first | exact HG0.out | exact HX0.out); exact rfl; (simp only [List.set_cons_succ, List.set_cons_zero]; exact rfl))
    | ((with_reducible apply q_kn); exact rfl; (with_reducible apply t_oldOne tSlR); (apply EvC.now; exact rfl); (with_reducible first | exact HG1.out | exact HX1.out); (with_reducible first | exact hsg.one | exact hsr.one); (simp only [List.set_cons_succ, List.set_cons_zero]; exact rfl))
    | ((with_reducible apply q_kn); exact rfl; (with_reducible apply t_strW tTextN); (apply EvC.now; exact rfl); (with_reducible first | exact fun w hC => hsg.own hC | exact fun w hC => hsr.own hC); (simp only [List.set_cons_succ, List.set_cons_zero]; exact rfl))
    | ((with_reducible apply q_kn); exact rfl; (with_reducible apply t_strsameN); (apply EvC.now; exact rfl); (apply EvC.now; exact rfl); (simp only [List.set_cons_succ, List.set_cons_zero]; exact rfl))
    | ((with_reducible apply q_kn); exact rfl; (with_reducible apply t_cmp); (apply EvC.now; exact rfl); (apply EvC.now; exact rfl); exact cmp_nself _; (simp only [List.set_cons_succ, List.set_cons_zero]; exact rfl))
    | ((with_reducible apply q_kn); exact rfl; (first | ((with_reducible first | apply t_move | apply t_assign | apply t_addr (fRec _ (by decide)) | apply t_one tByteR | apply t_one tSlR | apply t_one tIntR) <;> (first | (apply EvC.gv; exact rfl; (with_reducible first | exact Imp.refl _ | (apply Imp.left; exact Imp.refl _) | (apply Imp.right; exact Imp.refl _) | (apply Imp.left; apply Imp.left; exact Imp.refl _))) | (apply EvC.now; exact rfl) | exact rfl | (with_reducible exact EvAll.nil) | (focus (repeat (first | apply EvAll.cons | exact EvAll.nil | (apply EvC.gv; exact rfl; (with_reducible first | exact Imp.refl _ | (apply Imp.left; exact Imp.refl _) | (apply Imp.right; exact Imp.refl _) | (apply Imp.left; apply Imp.left; exact Imp.refl _))) | (apply EvC.now; exact rfl))); done) | exact rfl | (focus (repeat (first | apply List.Mem.head | apply List.Mem.tail | apply List.mem_append_right))))) | ((with_reducible apply t_pick); (apply EvC.now; exact rfl); (apply EvC.now; exact rfl))); (simp only [List.set_cons_succ, List.set_cons_zero]; exact rfl)))
          refine wpG_end hR (by kernel_rfl) ?_
          clear hR; intro w hR
          go_upto_if 127 with fail
          refine wp_cond_at (nm := false) rfl rfl (fun h => absurd h (by decide)) (fun _ => ?_)
          go_wp2_with fail
          go_round
          case rel => exact ⟨_, _, ⟨j + 1, rfl, by omega⟩, rfl, HVX.out.symm, HVG.out.symm, rfl, HVG.out.symm, HVX.out.symm, HVG.out.symm, HVX.out.symm⟩
          case measure => simp [intOf]; omega
        · refine wp_cond_at (nm := false) rfl (by simp; omega) (fun h => absurd h (by decide)) (fun _ => ?_)
          obtain ⟨c7, hc7⟩ : ∃ c7 : Nat, bits .and .i64 cut 7 = c7 ∧ c7 ≤ 7 := by
            have h := and7_64 cut
            exact ⟨(cut % 8).toNat, by rw [h]; omega, by omega⟩
          obtain ⟨hc7, hc7b⟩ := hc7
          have HC7 := Lib.hid hc7
          obtain ⟨n, hn⟩ : ∃ n : Nat, 4001 + c7 = n := ⟨_, rfl⟩
          have HN := Lib.hid (show IntKind.i64.wrap (4001 + (c7 : Int)) = (n : Int) by rw [IntWalk.i64_in _ (by omega)]; omega)
          have hnb : 4001 ≤ n ∧ n ≤ 4008 := by omega
          clear hc7 hn hj hjl
          have hz0 : bytesOk (List.replicate n (0 : Int)) := fun m hm => by rw [(List.mem_replicate.1 hm).2]; decide
          have hzl : (List.replicate n (0 : Int)).length = n := List.length_replicate
          have hzc : (List.replicate n (Value.int .u8 0)).toArray.toList = cellsB (List.replicate n 0) := by unfold cellsB; simp
          generalize List.replicate n (0 : Int) = zs at *
          go_upto_region 18 with (first
    | ((with_reducible apply q_ls hR); exact rfl; (with_reducible apply t_numE); (apply EvC.now; exact rfl); (apply EvC.now; exact rfl); exact rfl; (with_reducible first | exact HC7.out | exact HN.out); (simp only [List.set_cons_succ, List.set_cons_zero]; exact rfl); clear hR; intro w hR)
    | ((with_reducible apply wpList_makeRow hR Try.underlying22 zByteM rfl (by decide)); exact rfl; exact rfl; exact rfl; omega; clear hR; intro gz w hR; simp only [List.set_cons_succ, List.set_cons_zero]; (have hSZ := src_rowN hR (.head _) hzc hz0 hzl (by omega)))
    | ((with_reducible apply wpList_built); exact rfl; exact rfl; exact bRec _ hSZ; (simp only [List.set_cons_succ, List.set_cons_zero]; exact rfl))
    | ((with_reducible apply wpList_make hR zRec); exact rfl; clear hR; intro g w hR; simp only [List.set_cons_succ, List.set_cons_zero])
    | ((with_reducible apply wpList_put hR tRec); exact rfl; exact rfl; exact rfl; (focus (repeat (first | apply List.Mem.head | apply List.Mem.tail | apply List.mem_append_right))); exact put_rec _ _ _ _; exact rfl; simp; exact one_rec _ hSZ; (focus (repeat (first | apply Upd.head | apply Upd.tail))); clear hR; intro w hR))
          have hsz := src_rowN hR (.tail _ (.head _)) hzc hz0 hzl (by omega)
          have hAg := hR.at (.head _)
          replace hxr := hxr.own hR
          clear hSZ hG hB
          have hZ2 := (hZ).own hR
          have hR2 := hR.fresh
          clear hR
          try clear hZ
          have hZ := hZ2
          have hR := hR2
          clear hZ2 hR2
          obtain ⟨vz, hvz⟩ : ∃ vz, Value.slice (some ⟨gz, 0, none⟩) n n = vz := ⟨_, rfl⟩
          rw [hvz] at hsz hAg ⊢
          clear hvz
          have hgo : RecZ.ok _ ⟨1, vz, zs⟩ := ⟨⟨(by decide : (0 : Int) ≤ 1), (by decide : (1 : Int) ≤ 255)⟩, hsz, by show zs.length ≤ maxLen; simp only [maxLen]; omega⟩
          have HGC := Lib.hid (at_cells hAg)
          refine wp_region_some hR [] (List.nil_sublist _) [1, 3] 10 (by kernel_rfl) (by kernel_rfl) (by kernel_rfl) rfl ?_
          clear hR; intro hR
          repeat (refine wpT_step rfl ?_; first
    | ((with_reducible apply q_pl); (with_reducible apply t_oldMany tRec); (apply EvC.now; exact rfl); (exact HGC.out); (exact rfl); (simp only [List.set_cons_succ, List.set_cons_zero]; exact rfl))
    | ((first | (with_reducible apply q_pl) | ((with_reducible apply q_gd); (first | (apply GdBy.gt; exact rfl; exact rfl) | (apply GdBy.gf; exact rfl; exact rfl) | (apply GdBy.t; exact rfl; exact rfl) | (apply GdBy.f; exact rfl; exact rfl)))); (first | ((with_reducible first | apply t_move | apply t_assign | apply t_and | apply t_or | apply t_cmp | apply t_not | apply t_addr (fRec _ (by decide)) | apply t_one tByteR | apply t_one tSlR | apply t_one tIntR) <;> (first | (apply EvC.gv; exact rfl; (with_reducible first | exact Imp.refl _ | (apply Imp.left; exact Imp.refl _) | (apply Imp.right; exact Imp.refl _) | (apply Imp.left; apply Imp.left; exact Imp.refl _))) | (apply EvC.now; exact rfl) | exact rfl | (with_reducible exact EvAll.nil) | (focus (repeat (first | apply EvAll.cons | exact EvAll.nil | (apply EvC.gv; exact rfl; (with_reducible first | exact Imp.refl _ | (apply Imp.left; exact Imp.refl _) | (apply Imp.right; exact Imp.refl _) | (apply Imp.left; apply Imp.left; exact Imp.refl _))) | (apply EvC.now; exact rfl))); done) | exact rfl | (focus (repeat (first | apply List.Mem.head | apply List.Mem.tail | apply List.mem_append_right)))))); (simp only [List.set_cons_succ, List.set_cons_zero]; exact rfl)))
          refine wpT_nil ?_
          refine wpG_two hR (i := 0) (j := 4) (by kernel_rfl) ?_ ?_
          · clear hR; intro w hR
            refine opBuildS hR rfl rfl rfl bRecs0 ?_
            clear hR; intro g0 w hR
            refine ⟨hR.drop (by (focus (repeat (with_reducible first | exact List.Sublist.slnil | exact List.nil_sublist _ | exact List.Sublist.refl _ | exact List.sublist_append_right _ _ | apply List.Sublist.cons_cons | apply List.Sublist.cons | apply sub_right)))), ?_⟩
            simp only [List.set_cons_succ, List.set_cons_zero]
            have hS0 : Sl 26 2 [(g0, #[], 26)] (.slice (some ⟨g0, 0, none⟩) 0 0) 0 [] := (RwIs.all rfl (by decide)).sl
            refine wpG_two hR (i := 2) (j := 4) (by kernel_rfl) ?_ ?_
            · clear hR; intro w hR
              refine opAppG hR tRecsB rfl rfl rfl rfl (Les.head (s := [_])) hS0 (hxr.rd.own hR) (by simp only [maxLen]; omega) (by omega) ?_
              clear hR hS0; intro s1 v1 w hR hS
              refine ⟨hR.drop (by (focus (repeat (with_reducible first | exact List.Sublist.slnil | exact List.nil_sublist _ | exact List.Sublist.refl _ | exact List.sublist_append_right _ _ | apply List.Sublist.cons_cons | apply List.Sublist.cons | apply sub_right)))), ?_⟩
              simp only [List.set_cons_succ, List.set_cons_zero]
              refine wpG_buildS hR (i := 4) (by kernel_rfl) rfl rfl rfl (bRecs1 1 hsz) (by (focus (repeat (with_reducible first | exact List.Sublist.slnil | exact List.nil_sublist _ | exact List.Sublist.refl _ | exact List.sublist_append_right _ _ | apply List.Sublist.cons_cons | apply List.Sublist.cons | apply sub_right)))) ?_
              clear hR; intro gb w hR
              simp only [List.set_cons_succ, List.set_cons_zero]
              refine wpG_appG hR (i := 5) (by kernel_rfl) tRecsB rfl rfl rfl rfl (Les.tail Les.head) hS (fun w1 h1 => rd_rec (r := ⟨1, vz, zs⟩) h1 (by (focus (repeat (first | apply List.Mem.head | apply List.Mem.tail | apply List.mem_append_right)))) (hgo.keep h1.below)) (by simp only [maxLen]; omega) (by omega) (by (focus (repeat (with_reducible first | exact List.Sublist.slnil | exact List.nil_sublist _ | exact List.Sublist.refl _ | exact List.sublist_append_right _ _ | apply List.Sublist.cons_cons | apply List.Sublist.cons | apply sub_right)))) ?_
              clear hR hS; intro s2 v2 w hR hS
              simp only [List.set_cons_succ, List.set_cons_zero]
              have hS3 : Sl 26 2 s2 v2 (X ++ [(⟨1, vz, zs⟩ : RecZ)]).length ((X ++ [(⟨1, vz, zs⟩ : RecZ)]).flatMap cellsRec) := by
                rw [show 0 + X.length + 1 = (X ++ [(⟨1, vz, zs⟩ : RecZ)]).length by simp] at hS
                exact hS.cast (by simp)
              have hbig2 : bigR (X ++ [(⟨1, vz, zs⟩ : RecZ)]) = true := bigR_yes (r := ⟨1, vz, zs⟩) (by simp) (by show 4000 < zs.length; omega)
              refine wpG_callO hR (i := 6) (by kernel_rfl) Try.call13 rfl rfl rfl ?_
              clear hR; intro w1 hR
              have hY : Recs w1 v2 (X ++ [(⟨1, vz, zs⟩ : RecZ)]) := hS3.recs hR (fun r hr => List.mem_append_left _ hr) (fun r hr => by
                rcases List.mem_append.1 hr with h | h
                · exact ((hxr.ok r h).keep hR.below)
                · rw [List.mem_singleton.1 h]; exact hgo.keep hR.below)
              refine (recbytes_any hY (by simp; omega) (fun r hr => by
                rcases List.mem_append.1 hr with h | h
                · have := hXb r h; omega
                · rw [List.mem_singleton.1 h]; show zs.length ≤ 60000; omega)).mono ?_
              rw [hbig2]
              rintro e w3 ⟨vq, bq, rfl, hb, _, _⟩
              replace hR := hR.grow hb
              clear hb hY hS3 hS hbig2
              refine ⟨_, rfl, hR.drop (by (focus (repeat (with_reducible first | exact List.Sublist.slnil | exact List.nil_sublist _ | exact List.Sublist.refl _ | exact List.sublist_append_right _ _ | apply List.Sublist.cons_cons | apply List.Sublist.cons | apply sub_right)))), ?_⟩
              simp only [List.set_cons_succ, List.set_cons_zero]
              refine wpG_of_wpT (by kernel_rfl) (fun _ _ _ h => h) 0 _ [7, 8, 9, 10, 11] _ _ (by kernel_rfl) ?_
              repeat (refine wpT_step rfl ?_; first
                  | ((with_reducible apply q_pl); (with_reducible first | apply t_move | apply t_assign); (apply EvC.now; exact rfl); (simp only [List.set_cons_succ, List.set_cons_zero]; exact rfl))
                  | ((with_reducible apply wpT1_pure); exact rfl; intro K hK; go_simp; refine hK _ ?_; clear hK K; simp only [List.set_cons_succ, List.set_cons_zero]))
              refine wpT_nil ?_
              refine wpG_end hR (by kernel_rfl) ?_
              clear hR; intro w hR
              replace hsz := hsz.own hR
              replace hAg := hAg.own hR
              clear hxr hgo HGC
              have hZ2 := (hZ).own hR
              have hR2 := hR.fresh
              clear hR
              try clear hZ
              have hZ := hZ2
              have hR := hR2
              clear hZ2 hR2
              have hT1 := hAg.get
              have HBIG := Lib.hid (show getR (recN 1 zs) = errR 8 by have := get_big 1 zs [] (by omega) (by omega); rwa [List.append_nil] at this)
              have hrl := recN_len 1 zs
              have hro := recN_ok (kind := 1) (by decide) hz0
              have HPUT := Lib.hid (show putR 1 zs = [] from if_neg (by omega))
              go_wp2_with (first
                  | ((with_reducible apply q_ls hR); exact rfl; (with_reducible apply t_old tSlR hT1); (apply EvC.now; exact rfl); exact rfl; (simp only [List.set_cons_succ, List.set_cons_zero]; exact rfl); clear hR; intro w hR)
                  | ((with_reducible apply q_ls hR); exact rfl; (with_reducible apply t_strW tTextN); (apply EvC.now; exact rfl); (exact fun w hC => hsz.own hC); (simp only [List.set_cons_succ, List.set_cons_zero]; exact rfl); clear hR; intro w hR)
                  | (go_at_call 6; refine (r18rec_any 1 zs _ (by decide) hz0 (by omega)).mono ?_; rintro e w' ⟨rfl, hb⟩; replace hR := hR.grow hb; clear hb)
                  | ((with_reducible apply wpList_bytesN hR Try.underlying9 Try.underlying22 Try.underlying5 hro); exact rfl; exact rfl; clear hR; intro vm w hR hM; simp only [List.set_cons_succ, List.set_cons_zero])
                  | ((with_reducible apply q_ls hR); exact rfl; ((with_reducible first | apply t_addr (fRec _ (by decide)) | apply t_one tByteR | apply t_one tSlR | apply t_one tIntR) <;> (first | (apply EvC.gv; exact rfl; (with_reducible first | exact Imp.refl _ | (apply Imp.left; exact Imp.refl _) | (apply Imp.right; exact Imp.refl _) | (apply Imp.left; apply Imp.left; exact Imp.refl _))) | (apply EvC.now; exact rfl) | exact rfl | (with_reducible exact EvAll.nil) | (focus (repeat (first | apply EvAll.cons | exact EvAll.nil | (apply EvC.gv; exact rfl; (with_reducible first | exact Imp.refl _ | (apply Imp.left; exact Imp.refl _) | (apply Imp.right; exact Imp.refl _) | (apply Imp.left; apply Imp.left; exact Imp.refl _))) | (apply EvC.now; exact rfl))); done) | exact rfl | (focus (repeat (first | apply List.Mem.head | apply List.Mem.tail | apply List.mem_append_right))))); (simp only [List.set_cons_succ, List.set_cons_zero]; exact rfl); clear hR; intro w hR))
              refine (recget_any hM.src (by omega)).mono ?_
              rw [HBIG.out]
              dsimp only [errR]
              rintro e w5 ⟨vy, rfl, hb, hY⟩
              replace hsz := (hsz.own hR).keep hb
              replace hAg := (hAg.own hR).keep hb
              clear hM HBIG hT1
              replace hR := hR.grow hb
              have hZ2 := (hZ).own hR
              clear hR hb
              try clear hZ
              have hZ := hZ2
              clear hZ2
              have hR := Own.start w5
              go_upto_region 20 with (first
                  | ((with_reducible apply wpList_make hR zRec); exact rfl; clear hR; intro g w hR; simp only [List.set_cons_succ, List.set_cons_zero])
                  | ((with_reducible apply wpList_put hR tRec); exact rfl; exact rfl; exact rfl; (focus (repeat (first | apply List.Mem.head | apply List.Mem.tail | apply List.mem_append_right))); exact put_rec _ _ _ _; exact rfl; simp; exact one_rec _ hY; (focus (repeat (first | apply Upd.head | apply Upd.tail))); clear hR; intro w hR))
              go_wp2_with (first
                  | ((with_reducible apply q_ls hR); exact rfl; (with_reducible apply t_cat); (apply EvC.now; exact rfl); (exact lit_now l128); (simp; omega); (simp only [List.set_cons_succ, List.set_cons_zero]; exact rfl); clear hR; intro w hR)
                  | ((with_reducible apply wpList_bytesN hR Try.underlying9 Try.underlying22 Try.underlying5 (hco.append ok128)); exact rfl; exact rfl; clear hR; intro vm w hR hM; simp only [List.set_cons_succ, List.set_cons_zero]))
              refine (recall_any hM.src (by simp; omega)).mono ?_
              rw [HFORM.out]
              rintro e w6 ⟨vl2, gs2, rfl, hb, _, _⟩
              have hAy := (hR.at (.head _)).keep hb
              replace hsz := (hsz.own hR).keep hb
              replace hAg := (hAg.own hR).keep hb
              replace hY := (hY.own hR).keep hb
              clear hM HFORM
              replace hR := hR.grow hb
              have hZ2 := (hZ).own hR
              clear hR hb
              try clear hZ
              have hZ := hZ2
              clear hZ2
              have hR := Own.start w6
              have hT2 := hAy.get
              have HGC := Lib.hid (at_cells hAg)
              go_wp2_with (first
                  | (go_at_call 9; refine (awake18_any _).mono ?_; rintro e w' ⟨rfl, hb⟩; replace hR := hR.grow hb; clear hb)
                  | (go_at_call 7; refine (recput_any (by decide) (hsz.own hR) (by omega)).mono ?_; rw [HPUT.out]; rintro e w' ⟨vp, rfl, hb, hV⟩; replace hR := hR.grow hb; clear hb)
                  | ((with_reducible apply q_ls hR); exact rfl; (with_reducible apply t_oldMany tRec); (apply EvC.now; exact rfl); (exact HGC.out); (exact rfl); (simp only [List.set_cons_succ, List.set_cons_zero]; exact rfl); clear hR; intro w hR)
                  | ((with_reducible apply q_ls hR); exact rfl; (with_reducible apply t_old tSlR hT2); (apply EvC.now; exact rfl); exact rfl; (simp only [List.set_cons_succ, List.set_cons_zero]; exact rfl); clear hR; intro w hR)
                  | ((with_reducible apply q_ls hR); exact rfl; (with_reducible apply t_lenW Try.underlying22); (apply EvC.now; exact rfl); (first | exact hV | exact hY); (simp only [List.set_cons_succ, List.set_cons_zero]; exact rfl); clear hR; intro w hR)
                  | ((with_reducible apply q_ls hR); exact rfl; ((with_reducible first | apply t_addr (fRec _ (by decide)) | apply t_one tByteR | apply t_one tSlR | apply t_one tIntR) <;> (first | (apply EvC.gv; exact rfl; (with_reducible first | exact Imp.refl _ | (apply Imp.left; exact Imp.refl _) | (apply Imp.right; exact Imp.refl _) | (apply Imp.left; apply Imp.left; exact Imp.refl _))) | (apply EvC.now; exact rfl) | exact rfl | (with_reducible exact EvAll.nil) | (focus (repeat (first | apply EvAll.cons | exact EvAll.nil | (apply EvC.gv; exact rfl; (with_reducible first | exact Imp.refl _ | (apply Imp.left; exact Imp.refl _) | (apply Imp.right; exact Imp.refl _) | (apply Imp.left; apply Imp.left; exact Imp.refl _))) | (apply EvC.now; exact rfl))); done) | exact rfl | (focus (repeat (first | apply List.Mem.head | apply List.Mem.tail | apply List.mem_append_right))))); (simp only [List.set_cons_succ, List.set_cons_zero]; exact rfl); clear hR; intro w hR))
              go_ret
              exact ⟨by simp, (hZ.own hR).below⟩
            · clear hR; intro w hR
              refine opBuildS hR rfl rfl rfl (bRecs1 1 hsz) ?_
              clear hR; intro gb w hR
              refine ⟨hR.drop (by (focus (repeat (with_reducible first | exact List.Sublist.slnil | exact List.nil_sublist _ | exact List.Sublist.refl _ | exact List.sublist_append_right _ _ | apply List.Sublist.cons_cons | apply List.Sublist.cons | apply sub_right)))), ?_⟩
              simp only [List.set_cons_succ, List.set_cons_zero]
              refine wpG_appG hR (i := 2) (by kernel_rfl) tRecsB rfl rfl rfl rfl (Les.tail (Les.head (s := [_]))) hS0 (fun w1 h1 => hxr.rd.own h1) (by simp only [maxLen]; omega) (by omega) (by (focus (repeat (with_reducible first | exact List.Sublist.slnil | exact List.nil_sublist _ | exact List.Sublist.refl _ | exact List.sublist_append_right _ _ | apply List.Sublist.cons_cons | apply List.Sublist.cons | apply sub_right)))) ?_
              clear hR hS0; intro s1 v1 w hR hS
              simp only [List.set_cons_succ, List.set_cons_zero]
              refine wpG_appG hR (i := 5) (by kernel_rfl) tRecsB rfl rfl rfl rfl (Les.head) hS (fun w1 h1 => rd_rec (r := ⟨1, vz, zs⟩) h1 (by (focus (repeat (first | apply List.Mem.head | apply List.Mem.tail | apply List.mem_append_right)))) (hgo.keep h1.below)) (by simp only [maxLen]; omega) (by omega) (by (focus (repeat (with_reducible first | exact List.Sublist.slnil | exact List.nil_sublist _ | exact List.Sublist.refl _ | exact List.sublist_append_right _ _ | apply List.Sublist.cons_cons | apply List.Sublist.cons | apply sub_right)))) ?_
              clear hR hS; intro s2 v2 w hR hS
              simp only [List.set_cons_succ, List.set_cons_zero]
              have hS3 : Sl 26 2 s2 v2 (X ++ [(⟨1, vz, zs⟩ : RecZ)]).length ((X ++ [(⟨1, vz, zs⟩ : RecZ)]).flatMap cellsRec) := by
                rw [show 0 + X.length + 1 = (X ++ [(⟨1, vz, zs⟩ : RecZ)]).length by simp] at hS
                exact hS.cast (by simp)
              have hbig2 : bigR (X ++ [(⟨1, vz, zs⟩ : RecZ)]) = true := bigR_yes (r := ⟨1, vz, zs⟩) (by simp) (by show 4000 < zs.length; omega)
              refine wpG_callO hR (i := 6) (by kernel_rfl) Try.call13 rfl rfl rfl ?_
              clear hR; intro w1 hR
              have hY : Recs w1 v2 (X ++ [(⟨1, vz, zs⟩ : RecZ)]) := hS3.recs hR (fun r hr => List.mem_append_left _ hr) (fun r hr => by
                rcases List.mem_append.1 hr with h | h
                · exact ((hxr.ok r h).keep hR.below)
                · rw [List.mem_singleton.1 h]; exact hgo.keep hR.below)
              refine (recbytes_any hY (by simp; omega) (fun r hr => by
                rcases List.mem_append.1 hr with h | h
                · have := hXb r h; omega
                · rw [List.mem_singleton.1 h]; show zs.length ≤ 60000; omega)).mono ?_
              rw [hbig2]
              rintro e w3 ⟨vq, bq, rfl, hb, _, _⟩
              replace hR := hR.grow hb
              clear hb hY hS3 hS hbig2
              refine ⟨_, rfl, hR.drop (by (focus (repeat (with_reducible first | exact List.Sublist.slnil | exact List.nil_sublist _ | exact List.Sublist.refl _ | exact List.sublist_append_right _ _ | apply List.Sublist.cons_cons | apply List.Sublist.cons | apply sub_right)))), ?_⟩
              simp only [List.set_cons_succ, List.set_cons_zero]
              refine wpG_of_wpT (by kernel_rfl) (fun _ _ _ h => h) 0 _ [7, 8, 9, 10, 11] _ _ (by kernel_rfl) ?_
              repeat (refine wpT_step rfl ?_; first
                  | ((with_reducible apply q_pl); (with_reducible first | apply t_move | apply t_assign); (apply EvC.now; exact rfl); (simp only [List.set_cons_succ, List.set_cons_zero]; exact rfl))
                  | ((with_reducible apply wpT1_pure); exact rfl; intro K hK; go_simp; refine hK _ ?_; clear hK K; simp only [List.set_cons_succ, List.set_cons_zero]))
              refine wpT_nil ?_
              refine wpG_end hR (by kernel_rfl) ?_
              clear hR; intro w hR
              replace hsz := hsz.own hR
              replace hAg := hAg.own hR
              clear hxr hgo HGC
              have hZ2 := (hZ).own hR
              have hR2 := hR.fresh
              clear hR
              try clear hZ
              have hZ := hZ2
              have hR := hR2
              clear hZ2 hR2
              have hT1 := hAg.get
              have HBIG := Lib.hid (show getR (recN 1 zs) = errR 8 by have := get_big 1 zs [] (by omega) (by omega); rwa [List.append_nil] at this)
              have hrl := recN_len 1 zs
              have hro := recN_ok (kind := 1) (by decide) hz0
              have HPUT := Lib.hid (show putR 1 zs = [] from if_neg (by omega))
              go_wp2_with (first
                  | ((with_reducible apply q_ls hR); exact rfl; (with_reducible apply t_old tSlR hT1); (apply EvC.now; exact rfl); exact rfl; (simp only [List.set_cons_succ, List.set_cons_zero]; exact rfl); clear hR; intro w hR)
                  | ((with_reducible apply q_ls hR); exact rfl; (with_reducible apply t_strW tTextN); (apply EvC.now; exact rfl); (exact fun w hC => hsz.own hC); (simp only [List.set_cons_succ, List.set_cons_zero]; exact rfl); clear hR; intro w hR)
                  | (go_at_call 6; refine (r18rec_any 1 zs _ (by decide) hz0 (by omega)).mono ?_; rintro e w' ⟨rfl, hb⟩; replace hR := hR.grow hb; clear hb)
                  | ((with_reducible apply wpList_bytesN hR Try.underlying9 Try.underlying22 Try.underlying5 hro); exact rfl; exact rfl; clear hR; intro vm w hR hM; simp only [List.set_cons_succ, List.set_cons_zero])
                  | ((with_reducible apply q_ls hR); exact rfl; ((with_reducible first | apply t_addr (fRec _ (by decide)) | apply t_one tByteR | apply t_one tSlR | apply t_one tIntR) <;> (first | (apply EvC.gv; exact rfl; (with_reducible first | exact Imp.refl _ | (apply Imp.left; exact Imp.refl _) | (apply Imp.right; exact Imp.refl _) | (apply Imp.left; apply Imp.left; exact Imp.refl _))) | (apply EvC.now; exact rfl) | exact rfl | (with_reducible exact EvAll.nil) | (focus (repeat (first | apply EvAll.cons | exact EvAll.nil | (apply EvC.gv; exact rfl; (with_reducible first | exact Imp.refl _ | (apply Imp.left; exact Imp.refl _) | (apply Imp.right; exact Imp.refl _) | (apply Imp.left; apply Imp.left; exact Imp.refl _))) | (apply EvC.now; exact rfl))); done) | exact rfl | (focus (repeat (first | apply List.Mem.head | apply List.Mem.tail | apply List.mem_append_right))))); (simp only [List.set_cons_succ, List.set_cons_zero]; exact rfl); clear hR; intro w hR))
              refine (recget_any hM.src (by omega)).mono ?_
              rw [HBIG.out]
              dsimp only [errR]
              rintro e w5 ⟨vy, rfl, hb, hY⟩
              replace hsz := (hsz.own hR).keep hb
              replace hAg := (hAg.own hR).keep hb
              clear hM HBIG hT1
              replace hR := hR.grow hb
              have hZ2 := (hZ).own hR
              clear hR hb
              try clear hZ
              have hZ := hZ2
              clear hZ2
              have hR := Own.start w5
              go_upto_region 20 with (first
                  | ((with_reducible apply wpList_make hR zRec); exact rfl; clear hR; intro g w hR; simp only [List.set_cons_succ, List.set_cons_zero])
                  | ((with_reducible apply wpList_put hR tRec); exact rfl; exact rfl; exact rfl; (focus (repeat (first | apply List.Mem.head | apply List.Mem.tail | apply List.mem_append_right))); exact put_rec _ _ _ _; exact rfl; simp; exact one_rec _ hY; (focus (repeat (first | apply Upd.head | apply Upd.tail))); clear hR; intro w hR))
              go_wp2_with (first
                  | ((with_reducible apply q_ls hR); exact rfl; (with_reducible apply t_cat); (apply EvC.now; exact rfl); (exact lit_now l128); (simp; omega); (simp only [List.set_cons_succ, List.set_cons_zero]; exact rfl); clear hR; intro w hR)
                  | ((with_reducible apply wpList_bytesN hR Try.underlying9 Try.underlying22 Try.underlying5 (hco.append ok128)); exact rfl; exact rfl; clear hR; intro vm w hR hM; simp only [List.set_cons_succ, List.set_cons_zero]))
              refine (recall_any hM.src (by simp; omega)).mono ?_
              rw [HFORM.out]
              rintro e w6 ⟨vl2, gs2, rfl, hb, _, _⟩
              have hAy := (hR.at (.head _)).keep hb
              replace hsz := (hsz.own hR).keep hb
              replace hAg := (hAg.own hR).keep hb
              replace hY := (hY.own hR).keep hb
              clear hM HFORM
              replace hR := hR.grow hb
              have hZ2 := (hZ).own hR
              clear hR hb
              try clear hZ
              have hZ := hZ2
              clear hZ2
              have hR := Own.start w6
              have hT2 := hAy.get
              have HGC := Lib.hid (at_cells hAg)
              go_wp2_with (first
                  | (go_at_call 9; refine (awake18_any _).mono ?_; rintro e w' ⟨rfl, hb⟩; replace hR := hR.grow hb; clear hb)
                  | (go_at_call 7; refine (recput_any (by decide) (hsz.own hR) (by omega)).mono ?_; rw [HPUT.out]; rintro e w' ⟨vp, rfl, hb, hV⟩; replace hR := hR.grow hb; clear hb)
                  | ((with_reducible apply q_ls hR); exact rfl; (with_reducible apply t_oldMany tRec); (apply EvC.now; exact rfl); (exact HGC.out); (exact rfl); (simp only [List.set_cons_succ, List.set_cons_zero]; exact rfl); clear hR; intro w hR)
                  | ((with_reducible apply q_ls hR); exact rfl; (with_reducible apply t_old tSlR hT2); (apply EvC.now; exact rfl); exact rfl; (simp only [List.set_cons_succ, List.set_cons_zero]; exact rfl); clear hR; intro w hR)
                  | ((with_reducible apply q_ls hR); exact rfl; (with_reducible apply t_lenW Try.underlying22); (apply EvC.now; exact rfl); (first | exact hV | exact hY); (simp only [List.set_cons_succ, List.set_cons_zero]; exact rfl); clear hR; intro w hR)
                  | ((with_reducible apply q_ls hR); exact rfl; ((with_reducible first | apply t_addr (fRec _ (by decide)) | apply t_one tByteR | apply t_one tSlR | apply t_one tIntR) <;> (first | (apply EvC.gv; exact rfl; (with_reducible first | exact Imp.refl _ | (apply Imp.left; exact Imp.refl _) | (apply Imp.right; exact Imp.refl _) | (apply Imp.left; apply Imp.left; exact Imp.refl _))) | (apply EvC.now; exact rfl) | exact rfl | (with_reducible exact EvAll.nil) | (focus (repeat (first | apply EvAll.cons | exact EvAll.nil | (apply EvC.gv; exact rfl; (with_reducible first | exact Imp.refl _ | (apply Imp.left; exact Imp.refl _) | (apply Imp.right; exact Imp.refl _) | (apply Imp.left; apply Imp.left; exact Imp.refl _))) | (apply EvC.now; exact rfl))); done) | exact rfl | (focus (repeat (first | apply List.Mem.head | apply List.Mem.tail | apply List.mem_append_right))))); (simp only [List.set_cons_succ, List.set_cons_zero]; exact rfl); clear hR; intro w hR))
              go_ret
              exact ⟨by simp, (hZ.own hR).below⟩
          · clear hR; intro w hR
            refine opBuildS hR rfl rfl rfl (bRecs1 1 hsz) ?_
            clear hR; intro gb w hR
            refine ⟨hR.drop (by (focus (repeat (with_reducible first | exact List.Sublist.slnil | exact List.nil_sublist _ | exact List.Sublist.refl _ | exact List.sublist_append_right _ _ | apply List.Sublist.cons_cons | apply List.Sublist.cons | apply sub_right)))), ?_⟩
            simp only [List.set_cons_succ, List.set_cons_zero]
            refine wpG_buildS hR (i := 0) (by kernel_rfl) rfl rfl rfl bRecs0 (by (focus (repeat (with_reducible first | exact List.Sublist.slnil | exact List.nil_sublist _ | exact List.Sublist.refl _ | exact List.sublist_append_right _ _ | apply List.Sublist.cons_cons | apply List.Sublist.cons | apply sub_right)))) ?_
            clear hR; intro g0 w hR
            simp only [List.set_cons_succ, List.set_cons_zero]
            have hS0 : Sl 26 2 [(g0, #[], 26)] (.slice (some ⟨g0, 0, none⟩) 0 0) 0 [] := (RwIs.all rfl (by decide)).sl
            refine wpG_appG hR (i := 2) (by kernel_rfl) tRecsB rfl rfl rfl rfl (Les.head (s := [_])) hS0 (fun w1 h1 => hxr.rd.own h1) (by simp only [maxLen]; omega) (by omega) (by (focus (repeat (with_reducible first | exact List.Sublist.slnil | exact List.nil_sublist _ | exact List.Sublist.refl _ | exact List.sublist_append_right _ _ | apply List.Sublist.cons_cons | apply List.Sublist.cons | apply sub_right)))) ?_
            clear hR hS0; intro s1 v1 w hR hS
            simp only [List.set_cons_succ, List.set_cons_zero]
            refine wpG_appG hR (i := 5) (by kernel_rfl) tRecsB rfl rfl rfl rfl (Les.head) hS (fun w1 h1 => rd_rec (r := ⟨1, vz, zs⟩) h1 (by (focus (repeat (first | apply List.Mem.head | apply List.Mem.tail | apply List.mem_append_right)))) (hgo.keep h1.below)) (by simp only [maxLen]; omega) (by omega) (by (focus (repeat (with_reducible first | exact List.Sublist.slnil | exact List.nil_sublist _ | exact List.Sublist.refl _ | exact List.sublist_append_right _ _ | apply List.Sublist.cons_cons | apply List.Sublist.cons | apply sub_right)))) ?_
            clear hR hS; intro s2 v2 w hR hS
            simp only [List.set_cons_succ, List.set_cons_zero]
            have hS3 : Sl 26 2 s2 v2 (X ++ [(⟨1, vz, zs⟩ : RecZ)]).length ((X ++ [(⟨1, vz, zs⟩ : RecZ)]).flatMap cellsRec) := by
              rw [show 0 + X.length + 1 = (X ++ [(⟨1, vz, zs⟩ : RecZ)]).length by simp] at hS
              exact hS.cast (by simp)
            have hbig2 : bigR (X ++ [(⟨1, vz, zs⟩ : RecZ)]) = true := bigR_yes (r := ⟨1, vz, zs⟩) (by simp) (by show 4000 < zs.length; omega)
            refine wpG_callO hR (i := 6) (by kernel_rfl) Try.call13 rfl rfl rfl ?_
            clear hR; intro w1 hR
            have hY : Recs w1 v2 (X ++ [(⟨1, vz, zs⟩ : RecZ)]) := hS3.recs hR (fun r hr => List.mem_append_left _ hr) (fun r hr => by
              rcases List.mem_append.1 hr with h | h
              · exact ((hxr.ok r h).keep hR.below)
              · rw [List.mem_singleton.1 h]; exact hgo.keep hR.below)
            refine (recbytes_any hY (by simp; omega) (fun r hr => by
              rcases List.mem_append.1 hr with h | h
              · have := hXb r h; omega
              · rw [List.mem_singleton.1 h]; show zs.length ≤ 60000; omega)).mono ?_
            rw [hbig2]
            rintro e w3 ⟨vq, bq, rfl, hb, _, _⟩
            replace hR := hR.grow hb
            clear hb hY hS3 hS hbig2
            refine ⟨_, rfl, hR.drop (by (focus (repeat (with_reducible first | exact List.Sublist.slnil | exact List.nil_sublist _ | exact List.Sublist.refl _ | exact List.sublist_append_right _ _ | apply List.Sublist.cons_cons | apply List.Sublist.cons | apply sub_right)))), ?_⟩
            simp only [List.set_cons_succ, List.set_cons_zero]
            refine wpG_of_wpT (by kernel_rfl) (fun _ _ _ h => h) 0 _ [7, 8, 9, 10, 11] _ _ (by kernel_rfl) ?_
            repeat (refine wpT_step rfl ?_; first
                | ((with_reducible apply q_pl); (with_reducible first | apply t_move | apply t_assign); (apply EvC.now; exact rfl); (simp only [List.set_cons_succ, List.set_cons_zero]; exact rfl))
                | ((with_reducible apply wpT1_pure); exact rfl; intro K hK; go_simp; refine hK _ ?_; clear hK K; simp only [List.set_cons_succ, List.set_cons_zero]))
            refine wpT_nil ?_
            refine wpG_end hR (by kernel_rfl) ?_
            clear hR; intro w hR
            replace hsz := hsz.own hR
            replace hAg := hAg.own hR
            clear hxr hgo HGC
            have hZ2 := (hZ).own hR
            have hR2 := hR.fresh
            clear hR
            try clear hZ
            have hZ := hZ2
            have hR := hR2
            clear hZ2 hR2
            have hT1 := hAg.get
            have HBIG := Lib.hid (show getR (recN 1 zs) = errR 8 by have := get_big 1 zs [] (by omega) (by omega); rwa [List.append_nil] at this)
            have hrl := recN_len 1 zs
            have hro := recN_ok (kind := 1) (by decide) hz0
            have HPUT := Lib.hid (show putR 1 zs = [] from if_neg (by omega))
            go_wp2_with (first
                | ((with_reducible apply q_ls hR); exact rfl; (with_reducible apply t_old tSlR hT1); (apply EvC.now; exact rfl); exact rfl; (simp only [List.set_cons_succ, List.set_cons_zero]; exact rfl); clear hR; intro w hR)
                | ((with_reducible apply q_ls hR); exact rfl; (with_reducible apply t_strW tTextN); (apply EvC.now; exact rfl); (exact fun w hC => hsz.own hC); (simp only [List.set_cons_succ, List.set_cons_zero]; exact rfl); clear hR; intro w hR)
                | (go_at_call 6; refine (r18rec_any 1 zs _ (by decide) hz0 (by omega)).mono ?_; rintro e w' ⟨rfl, hb⟩; replace hR := hR.grow hb; clear hb)
                | ((with_reducible apply wpList_bytesN hR Try.underlying9 Try.underlying22 Try.underlying5 hro); exact rfl; exact rfl; clear hR; intro vm w hR hM; simp only [List.set_cons_succ, List.set_cons_zero])
                | ((with_reducible apply q_ls hR); exact rfl; ((with_reducible first | apply t_addr (fRec _ (by decide)) | apply t_one tByteR | apply t_one tSlR | apply t_one tIntR) <;> (first | (apply EvC.gv; exact rfl; (with_reducible first | exact Imp.refl _ | (apply Imp.left; exact Imp.refl _) | (apply Imp.right; exact Imp.refl _) | (apply Imp.left; apply Imp.left; exact Imp.refl _))) | (apply EvC.now; exact rfl) | exact rfl | (with_reducible exact EvAll.nil) | (focus (repeat (first | apply EvAll.cons | exact EvAll.nil | (apply EvC.gv; exact rfl; (with_reducible first | exact Imp.refl _ | (apply Imp.left; exact Imp.refl _) | (apply Imp.right; exact Imp.refl _) | (apply Imp.left; apply Imp.left; exact Imp.refl _))) | (apply EvC.now; exact rfl))); done) | exact rfl | (focus (repeat (first | apply List.Mem.head | apply List.Mem.tail | apply List.mem_append_right))))); (simp only [List.set_cons_succ, List.set_cons_zero]; exact rfl); clear hR; intro w hR))
            refine (recget_any hM.src (by omega)).mono ?_
            rw [HBIG.out]
            dsimp only [errR]
            rintro e w5 ⟨vy, rfl, hb, hY⟩
            replace hsz := (hsz.own hR).keep hb
            replace hAg := (hAg.own hR).keep hb
            clear hM HBIG hT1
            replace hR := hR.grow hb
            have hZ2 := (hZ).own hR
            clear hR hb
            try clear hZ
            have hZ := hZ2
            clear hZ2
            have hR := Own.start w5
            go_upto_region 20 with (first
                | ((with_reducible apply wpList_make hR zRec); exact rfl; clear hR; intro g w hR; simp only [List.set_cons_succ, List.set_cons_zero])
                | ((with_reducible apply wpList_put hR tRec); exact rfl; exact rfl; exact rfl; (focus (repeat (first | apply List.Mem.head | apply List.Mem.tail | apply List.mem_append_right))); exact put_rec _ _ _ _; exact rfl; simp; exact one_rec _ hY; (focus (repeat (first | apply Upd.head | apply Upd.tail))); clear hR; intro w hR))
            go_wp2_with (first
                | ((with_reducible apply q_ls hR); exact rfl; (with_reducible apply t_cat); (apply EvC.now; exact rfl); (exact lit_now l128); (simp; omega); (simp only [List.set_cons_succ, List.set_cons_zero]; exact rfl); clear hR; intro w hR)
                | ((with_reducible apply wpList_bytesN hR Try.underlying9 Try.underlying22 Try.underlying5 (hco.append ok128)); exact rfl; exact rfl; clear hR; intro vm w hR hM; simp only [List.set_cons_succ, List.set_cons_zero]))
            refine (recall_any hM.src (by simp; omega)).mono ?_
            rw [HFORM.out]
            rintro e w6 ⟨vl2, gs2, rfl, hb, _, _⟩
            have hAy := (hR.at (.head _)).keep hb
            replace hsz := (hsz.own hR).keep hb
            replace hAg := (hAg.own hR).keep hb
            replace hY := (hY.own hR).keep hb
            clear hM HFORM
            replace hR := hR.grow hb
            have hZ2 := (hZ).own hR
            clear hR hb
            try clear hZ
            have hZ := hZ2
            clear hZ2
            have hR := Own.start w6
            have hT2 := hAy.get
            have HGC := Lib.hid (at_cells hAg)
            go_wp2_with (first
                | (go_at_call 9; refine (awake18_any _).mono ?_; rintro e w' ⟨rfl, hb⟩; replace hR := hR.grow hb; clear hb)
                | (go_at_call 7; refine (recput_any (by decide) (hsz.own hR) (by omega)).mono ?_; rw [HPUT.out]; rintro e w' ⟨vp, rfl, hb, hV⟩; replace hR := hR.grow hb; clear hb)
                | ((with_reducible apply q_ls hR); exact rfl; (with_reducible apply t_oldMany tRec); (apply EvC.now; exact rfl); (exact HGC.out); (exact rfl); (simp only [List.set_cons_succ, List.set_cons_zero]; exact rfl); clear hR; intro w hR)
                | ((with_reducible apply q_ls hR); exact rfl; (with_reducible apply t_old tSlR hT2); (apply EvC.now; exact rfl); exact rfl; (simp only [List.set_cons_succ, List.set_cons_zero]; exact rfl); clear hR; intro w hR)
                | ((with_reducible apply q_ls hR); exact rfl; (with_reducible apply t_lenW Try.underlying22); (apply EvC.now; exact rfl); (first | exact hV | exact hY); (simp only [List.set_cons_succ, List.set_cons_zero]; exact rfl); clear hR; intro w hR)
                | ((with_reducible apply q_ls hR); exact rfl; ((with_reducible first | apply t_addr (fRec _ (by decide)) | apply t_one tByteR | apply t_one tSlR | apply t_one tIntR) <;> (first | (apply EvC.gv; exact rfl; (with_reducible first | exact Imp.refl _ | (apply Imp.left; exact Imp.refl _) | (apply Imp.right; exact Imp.refl _) | (apply Imp.left; apply Imp.left; exact Imp.refl _))) | (apply EvC.now; exact rfl) | exact rfl | (with_reducible exact EvAll.nil) | (focus (repeat (first | apply EvAll.cons | exact EvAll.nil | (apply EvC.gv; exact rfl; (with_reducible first | exact Imp.refl _ | (apply Imp.left; exact Imp.refl _) | (apply Imp.right; exact Imp.refl _) | (apply Imp.left; apply Imp.left; exact Imp.refl _))) | (apply EvC.now; exact rfl))); done) | exact rfl | (focus (repeat (first | apply List.Mem.head | apply List.Mem.tail | apply List.mem_append_right))))); (simp only [List.set_cons_succ, List.set_cons_zero]; exact rfl); clear hR; intro w hR))
            go_ret
            exact ⟨by simp, (hZ.own hR).below⟩

set_option maxRecDepth 100000 in
theorem lifted (os : Os) (started : os.Started) (H : Type) (enc : TypeId × Value → H) :
    ReturnsInHanded {} Try.checked os 5 .any (Rows.recAllSpec.pre6 enc Try.prog Try.f5 Rows.recAllRow.domain false) (Rows.recAllSpec.post enc Try.prog Try.f5 false true false false) := by
  refine returnsInHanded_of_change (C := Try.checked) own started (by kernel_rfl) Try.func5
    (ChangeSpec.witness6 (enc := enc) (C := Try.checked) false ⟨#[], #[.slice none 0 0, .int .i64 0], []⟩ 8 (by kernel_rfl) (by kernel_rfl) (by kernel_rfl) (by kernel_rfl)) ?_
  intro W base args ds gs before hval0 hW hcnd _
  have hval : ∀ (j : Nat) t v, Try.f5.params[j]? = some t → args[j]? = some v → Value.okWide Try.prog W .any base t v := hval0
  have hW' := hW
  obtain ⟨p, q, hA0, hV, rfl, hfz, hnd⟩ := hW
  have hA : DataW.TrodAll enc Try.prog W 0 (fun _ => true) true Try.f5.params.toList args.toList ds p := hA0
  rw [Try.params5] at hA hval
  obtain ⟨v0, vs0, d0, ds0, p0, q0, hargs, rfl, rfl, h0, r0⟩ := trodAll_cons hA
  obtain ⟨v1, vs1, d1, ds1, p1, q1, rfl, rfl, rfl, h1, r1⟩ := trodAll_cons r0
  obtain ⟨rfl, rfl, rfl⟩ := trodAll_nil r1
  obtain rfl : args = #[v0, v1] := by cases args; simp_all
  obtain ⟨rfl, rfl⟩ := trodVars_none hV
  have k0 := h0
  have lt0 : ∀ x ∈ p0, x.block < W.heap.size := by obtain ⟨m, hm⟩ := k0; exact DataW.trod_lt m _ _ _ hm
  have o0 := open_recs (hval 0 36 v0 rfl rfl) h0
  obtain ⟨a1, rfl, rfl, rfl, w1⟩ := open_int Try.underlying3 (hval 1 3 v1 rfl rfl) h1
  clear hA0 hval0
  refine (walk v0 o0 a1 w1 W).mono fun e W' ⟨he, bel⟩ => ?_
  subst he
  exact ⟨_, rfl, _, _, _, [], _, [], hW', trodAll_mk1 (shut_bool Try.underlying4 _), (trodAll_cons_mk (Below.trod laidOut (by kernel_rfl) (of_decide_eq_true (by kernel_rfl)) k0 bel lt0) (trodAll_cons_mk (shut_int Try.underlying3 w1) trodAll_mk0)), rfl, bel.frame _, fun h => by cases h⟩

theorem over : Rows.recAllRow.holds Try.pinned (OpenSpec.ofChange Rows.recAllSpec) :=
  OpenClaim.holds_of_wide 5 Try.f5 rfl rfl rfl rfl rfl rfl rfl ⟨rfl, rfl, rfl, rfl, rfl⟩ rfl rfl rfl rfl rfl (by kernel_rfl) Try.func5 (by kernel_rfl)
    (of_decide_eq_true (by kernel_rfl)) (by unfold Func.isWrapper; first | (rw [if_pos (by decide +kernel)]; kernel_rfl) | (rw [if_neg (by decide +kernel)]; exact ⟨rfl, rfl⟩))
    (fun os started H enc _ => lifted os started H enc)

theorem proved : Rows.RecAllSaid := over
#print axioms proved
end Go.Proofs.Ytkmeaadkiakbdaa.recAll
