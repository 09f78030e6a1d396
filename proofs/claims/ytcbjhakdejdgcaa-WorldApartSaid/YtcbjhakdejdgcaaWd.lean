




/- Package world's object and the contracts of its functions: what they return, what they write of what is the call's own. No statement of the seat is proved here. -/
import Derived.Test.YtcbjhakdejdgcaaEv
import Derived.Test.YtcbjhakdejdgcaaSrc
import Derived.Test.YtcbjhakdejdgcaaNum
import Derived.Deep.DeepCutAuto
import Derived.Deep.CutBlock
import Derived.WalkSpells
namespace Go.Proofs.Ytcbjhakdejdgcaa
open Go.ChangeShapes Go.WideShapes Go.ChangeAt Go.RowKit
set_option linter.unusedVariables false
set_option linter.unusedSimpArgs false

/-- What a reply is. -/
def replyZ (R : List Int) (k : Nat) : Int := R.getD k 0
def inZ (R : List Int) (k : Nat) (wide : Bool) : Int := bif wide then replyZ R k else replyZ R k % 256
def endsZ (n a : Int) : Bool := n == 32 || (n == 33 && a / 256 == 76)
theorem replyZ_some {R : List Int} {k : Nat} (h : k < R.length) : R[k]? = some (replyZ R k) := by
  unfold replyZ; rw [List.getD_eq_getElem?_getD, List.getElem?_eq_getElem h]; rfl
theorem replyZ_none {R : List Int} {k : Nat} (h : ¬ k < R.length) : replyZ R k = 0 := by
  unfold replyZ; rw [List.getD_eq_getElem?_getD, List.getElem?_eq_none (by omega)]; rfl
theorem replyZ_bd {R : List Int} (h : ∀ n ∈ R, 0 ≤ n ∧ n ≤ 65535) (k : Nat) : 0 ≤ replyZ R k ∧ replyZ R k ≤ 65535 := by
  by_cases hk : k < R.length
  · exact h _ (List.mem_of_getElem? (replyZ_some hk))
  · rw [replyZ_none hk]; decide
/-- The object's row. -/
def rowW (vr : Value) (k : Nat) (ve : Value) : Array Value := #[vr, .int .i64 (k : Nat), ve]
structure Wd (L : List RowT) (v : Value) (R : List Int) (k : Nat) (E : List EvZ) : Prop where
  way : ∃ g sr vr se ve, L = (g, rowW vr (min k R.length) ve, 46) :: (sr ++ se) ∧ v = .pointer (some ⟨g, 0, none⟩) ∧ Sl 27 1 sr vr R.length (wordL R) ∧ Sl 32 7 se ve E.length (evL E)
section
variable {w0 w : World} {l L X : List RowT} {v vr ve : Value} {sr se : List RowT} {R : List Int} {k g : Nat} {E : List EvZ}
theorem Wd.open (hO : Own w0 w l) (hd : Les L l X) (hW : Wd L v R k E) : ∃ g sr vr se ve, v = .pointer (some ⟨g, 0, none⟩) ∧ Own w0 w ((g, rowW vr (min k R.length) ve, 46) :: (sr ++ (se ++ X))) ∧ Sl 27 1 sr vr R.length (wordL R) ∧ Sl 32 7 se ve E.length (evL E) := by
  obtain ⟨g, sr, vr, se, ve, rfl, rfl, h1, h2⟩ := hW.way
  exact ⟨g, sr, vr, se, ve, rfl, by simpa using hO.les hd, h1, h2⟩
theorem Wd.shut (hO : Own w0 w ((g, rowW vr (min k R.length) ve, 46) :: (sr ++ (se ++ X)))) (h1 : Sl 27 1 sr vr R.length (wordL R)) (h2 : Sl 32 7 se ve E.length (evL E)) : ∃ L', Own w0 w (L' ++ X) ∧ Wd L' (.pointer (some ⟨g, 0, none⟩)) R k E :=
  ⟨(g, rowW vr (min k R.length) ve, 46) :: (sr ++ se), by simpa using hO, ⟨⟨g, sr, vr, se, ve, rfl, rfl, h1, h2⟩⟩⟩
end
/-! ### Types -/
theorem iWd : (Try.prog.info? 46).map (·.size) = some 3 := by kernel_rfl
theorem tWdR : RowTy Try.prog 46 3 := .of Try.underlying46 rfl iWd
theorem fWd (k : Nat) (h : k < 3) : FieldAt Try.prog 46 k k := by
  match k, h with
  | 0, _ => exact ⟨fun g w => by simp [go_sem, Instr.fieldAt, fieldPlace]⟩
  | 1, _ => exact ⟨fun g w => by simp [go_sem, Instr.fieldAt, fieldPlace]⟩
  | 2, _ => exact ⟨fun g w => by simp [go_sem, Instr.fieldAt, fieldPlace]⟩
theorem tWordsO : OneTy Try.prog 22 := .of Try.underlying22 rfl (by kernel_rfl)
theorem tEvsO : OneTy Try.prog 26 := .of Try.underlying26 rfl (by kernel_rfl)
theorem tIntO : OneTy Try.prog 3 := .of Try.underlying3 rfl (by kernel_rfl)
theorem ext_evW (e : EvZ) : ExtRel (encE e) 0 7 (encE e) := ⟨rfl⟩
theorem bWdS (a : Option Addr) (n c : Nat) : Built Try.prog 46 [(0, .slice a n c)] (rowW (.slice a n c) 0 (.slice none 0 0)) := ⟨by kernel_rfl⟩
theorem Sl.shape {e : TypeId} {k n : Nat} {s : List RowT} {v : Value} {xs : List Value} (h : Sl e k s v n xs) : ∃ a n c, v = .slice a n c := by
  rcases h.way with ⟨_, h2, _⟩ | ⟨g, cap, cur, _, h2, _⟩
  · exact ⟨_, _, _, h2⟩
  · exact ⟨_, _, _, h2⟩
theorem bWd {e : TypeId} {k n : Nat} {s : List RowT} {vr : Value} {xs : List Value} (h : Sl e k s vr n xs) : Built Try.prog 46 [(0, vr)] (rowW vr 0 (.slice none 0 0)) := by
  obtain ⟨a, n, c, rfl⟩ := h.shape
  exact bWdS a n c
theorem bWord0 : BuiltS Try.prog 22 0 [] 27 #[] := ⟨fun w => by simp [go_sem]⟩
theorem bEvW0 : BuiltS Try.prog 26 0 [] 32 #[] := ⟨fun w => by simp [go_sem]⟩
theorem bEvW1 (e : EvZ) : BuiltS Try.prog 26 1 [(0, .agg (encE e))] 32 (encE e) := ⟨fun w => by simp [go_sem, encE]⟩
theorem bEW3 (k n v : Int) : Built Try.prog 32 [(0, .int .i64 k), (1, .int .u16 n), (2, .int .u16 v)] (encE ⟨k, n, v, 0, 0, 0, 0⟩) := ⟨by kernel_rfl⟩
theorem bEW1 (k : Int) : Built Try.prog 32 [(0, .int .i64 k)] (encE ⟨k, 0, 0, 0, 0, 0, 0⟩) := ⟨by kernel_rfl⟩
theorem bEW7 (k n v a b c d : Int) : Built Try.prog 32 [(0, .int .i64 k), (1, .int .u16 n), (2, .int .u16 v), (3, .int .u16 a), (4, .int .u16 b), (5, .int .u16 c), (6, .int .u16 d)] (encE ⟨k, n, v, a, b, c, d⟩) := ⟨by kernel_rfl⟩
theorem put_used (vr ve : Value) (k m : Nat) {x : Int} (h : x = (m : Int)) : PutRel (rowW vr k ve) 1 [.int .i64 x] (rowW vr m ve) := by subst h; exact ⟨rfl⟩
theorem put_evs (vr ve ve' : Value) (k : Nat) : PutRel (rowW vr k ve) 2 [ve'] (rowW vr k ve') := ⟨rfl⟩
/-- A cell of a row of the call's own. -/
theorem t_ownOne {P : Program} {w0 : World} {l : List RowT} {c : Bool} {dd : Option Tmp} {ls : List Value} {ds : List Deferred} {tp : TypeId} {pos : String} {af : Array Edge} {gd : Option (Nat × Bool)} {ty : TypeId} (ht : OneTy P ty) {g off : Nat} {cs : Array Value} {v : Value} {t : TypeId} {x : Operand} (hx : EvC ls c x (.pointer (some ((⟨g, 0, none⟩ : Addr).add off)))) (hm : (g, cs, t) ∈ l) (hs : cs.toList[off]? = some v) :
    TIf P (fun w => Own w0 w l) c ⟨dd, .load ty x, tp, pos, af, gd⟩ ⟨ls.toArray, ds⟩ v :=
  t_one ht (off := off) (by rw [addr_mid, Nat.zero_add] at hx; exact hx) hm hs
/-- A slice against nil. -/
theorem t_nilS {P : Program} {C : World → Prop} {c : Bool} {dd : Option Tmp} {ls : List Value} {ds : List Deferred} {tp : TypeId} {pos : String} {af : Array Edge} {gd : Option (Nat × Bool)} {t t' e : TypeId} (ht : P.underlying t = some (.slice e)) {x : Operand} {a : Option Addr} {n cap : Nat} (hx : EvC ls c x (.slice a n cap)) :
    TIf P C c ⟨dd, .binOp .eql t x (.const (.slice none 0 0)) t', tp, pos, af, gd⟩ ⟨ls.toArray, ds⟩ (.bool a.isNone) := by
  refine ⟨fun h => .inl fun w _ => ?_⟩
  have he := Lib.run_eql_slice_nil (P := P) w t e a n cap 0 0 ht
  unfold execOp
  have hk : (⟨ls.toArray, ds⟩ : Act).eval (.const (.slice none 0 0)) = .slice none 0 0 := rfl
  simp only [eval_of (hx.of h), hk]
  simp [eqGuard, he]
/-! ### Copies -/
theorem cloneW_any {w : World} {v0 : Value} {m : Nat} {ys : List Value} (h : Rd w 1 v0 m ys) (hs : m * 2 ≤ 140737488351232) :
    Calls Try.prog 15 #[v0] w fun e w' => ∃ s v, e = .returned v ∧ Own w w' s ∧ Sl 27 1 s v m ys := by
  have hR := Own.start w
  have h0 := h
  rcases h.way with ⟨rfl, rfl, rfl⟩ | ⟨a, cap, rfl, hle, _⟩
  · go_enter Try.func15, Try.ntmps15
    go_wp2_with (first
    | ((with_reducible apply q_ls hR); exact rfl; (with_reducible apply t_nilS Try.underlying22); (apply EvC.now; exact rfl); (simp only [List.set_cons_succ, List.set_cons_zero]; exact rfl); clear hR; intro w hR))
    go_ret
    exact ⟨[], _, rfl, hR, Sl.nil _ _⟩
  · go_enter Try.func15, Try.ntmps15
    go_wp2_with (first
    | ((with_reducible apply q_ls hR); exact rfl; (with_reducible apply t_nilS Try.underlying22); (apply EvC.now; exact rfl); (simp only [List.set_cons_succ, List.set_cons_zero]; exact rfl); clear hR; intro w hR)
    | ((with_reducible apply wpList_buildS hR); exact rfl; exact rfl; (exact bWord0); clear hR; intro g w hR; simp only [List.set_cons_succ, List.set_cons_zero]; (have hS : Sl 27 1 [(g, #[], 27)] (.slice (some ⟨g, 0, none⟩) 0 0) 0 [] := (RwIs.all rfl (by decide)).sl))
    | ((with_reducible apply wpList_appG hR tWordsB); exact rfl; exact rfl; exact rfl; exact hS; (focus (repeat (with_reducible first | apply Les.head | apply Les.one | apply Les.tail | apply Les.skip))); (exact h0.own hR); (simp only [maxLen]; omega); omega; clear hR hS; intro s2 v2 w hR hS; simp only [List.set_cons_succ, List.set_cons_zero]))
    go_ret
    rw [Nat.zero_add, List.nil_append] at hS
    exact ⟨s2, v2, rfl, by simpa using hR, hS⟩
theorem cloneE_any {w : World} {v0 : Value} {m : Nat} {ys : List Value} (h : Rd w 7 v0 m ys) (hs : m * 24 ≤ 140737488351232) :
    Calls Try.prog 20 #[v0] w fun e w' => ∃ s v, e = .returned v ∧ Own w w' s ∧ Sl 32 7 s v m ys := by
  have hR := Own.start w
  have h0 := h
  rcases h.way with ⟨rfl, rfl, rfl⟩ | ⟨a, cap, rfl, hle, _⟩
  · go_enter Try.func20, Try.ntmps20
    go_wp2_with (first
    | ((with_reducible apply q_ls hR); exact rfl; (with_reducible apply t_nilS Try.underlying26); (apply EvC.now; exact rfl); (simp only [List.set_cons_succ, List.set_cons_zero]; exact rfl); clear hR; intro w hR))
    go_ret
    exact ⟨[], _, rfl, hR, Sl.nil _ _⟩
  · go_enter Try.func20, Try.ntmps20
    go_wp2_with (first
    | ((with_reducible apply q_ls hR); exact rfl; (with_reducible apply t_nilS Try.underlying26); (apply EvC.now; exact rfl); (simp only [List.set_cons_succ, List.set_cons_zero]; exact rfl); clear hR; intro w hR)
    | ((with_reducible apply wpList_buildS hR); exact rfl; exact rfl; (exact bEvW0); clear hR; intro g w hR; simp only [List.set_cons_succ, List.set_cons_zero]; (have hS : Sl 32 7 [(g, #[], 32)] (.slice (some ⟨g, 0, none⟩) 0 0) 0 [] := (RwIs.all rfl (by decide)).sl))
    | ((with_reducible apply wpList_appG hR tEvsB); exact rfl; exact rfl; exact rfl; exact hS; (focus (repeat (with_reducible first | apply Les.head | apply Les.one | apply Les.tail | apply Les.skip))); (exact h0.own hR); (simp only [maxLen]; omega); omega; clear hR hS; intro s2 v2 w hR hS; simp only [List.set_cons_succ, List.set_cons_zero]))
    go_ret
    rw [Nat.zero_add, List.nil_append] at hS
    exact ⟨s2, v2, rfl, by simpa using hR, hS⟩
theorem newW_any {w : World} {v0 : Value} {R : List Int} (hR : ∀ n ∈ R, 0 ≤ n ∧ n ≤ 65535) (h : Rd w 1 v0 R.length (wordL R)) (hs : R.length * 2 ≤ 140737488351232) :
    Calls Try.prog 5 #[v0] w fun e w' => ∃ L v, e = .returned v ∧ Own w w' L ∧ Wd L v R 0 [] := by
  clear hR
  have hR := Own.start w
  go_enter Try.func5, Try.ntmps5
  go_wp2_with fail
  refine (cloneW_any h hs).mono ?_
  rintro e w' ⟨s, vr, rfl, hO, hS⟩
  clear hR; have hR := hO; clear hO
  go_wp2_with (first
    | ((with_reducible apply wpList_built); exact rfl; exact rfl; exact bWd hS; (simp only [List.set_cons_succ, List.set_cons_zero]; exact rfl))
    | ((with_reducible apply wpList_box hR); exact rfl; exact rfl; clear hR; intro g w hR; simp only [List.set_cons_succ, List.set_cons_zero]))
  go_ret
  exact ⟨(_, rowW vr 0 (.slice none 0 0), 46) :: (s ++ []), _, rfl, by simpa using hR, ⟨⟨_, s, vr, [], _, by simp, rfl, hS, Sl.nil _ _⟩⟩⟩
/-! ### What the object's functions stand on -/
theorem lowW_any (n : Int) (w : World) (h : 0 ≤ n ∧ n ≤ 65535) : Calls Try.prog 17 #[.int .u16 n] w fun e w' => e = .returned (.int .u8 (n % 256)) ∧ w = w' := by
  go_enter Try.func17, Try.ntmps17
  go_wp2
  go_ret
  exact ⟨rfl, rfl⟩
theorem highW_any (n : Int) (w : World) (h : 0 ≤ n ∧ n ≤ 65535) : Calls Try.prog 21 #[.int .u16 n] w fun e w' => e = .returned (.int .u8 (n / 256)) ∧ w = w' := by
  go_enter Try.func21, Try.ntmps21
  go_wp2
  go_ret
  exact ⟨rfl, rfl⟩
theorem endsW_any (n a : Int) (w : World) (hn : 0 ≤ n ∧ n ≤ 255) (ha : 0 ≤ a ∧ a ≤ 65535) : Calls Try.prog 19 #[.int .u8 n, .int .u16 a] w fun e w' => e = .returned (.bool (endsZ n a)) ∧ Below w.heap.size w w' := by
  have hR := Own.start w
  go_enter Try.func19, Try.ntmps19
  go_upto_region 1 with fail
  refine wp_region_tame hR [0, 1, 2, 3, 4, 5, 6, 7, 8, 9, 10, 11] rfl ?_
  repeat (refine wpT_step rfl ?_; first
    | ((first | (with_reducible apply q_pl) | ((with_reducible apply q_gd); (first | (apply GdBy.gt; exact rfl; exact rfl) | (apply GdBy.gf; exact rfl; exact rfl) | (apply GdBy.t; exact rfl; exact rfl) | (apply GdBy.f; exact rfl; exact rfl)))); (first | ((with_reducible first | apply t_move | apply t_assign | apply t_and | apply t_or | apply t_cmp | apply t_not | apply t_addr (fWd _ (by decide)) | apply t_one tWordsO | apply t_one tEvsO | apply t_one tIntO | apply t_one tWordE | apply t_part tEv) <;> (first | (apply EvC.gv; exact rfl; (with_reducible first | exact Imp.refl _ | (apply Imp.left; exact Imp.refl _) | (apply Imp.right; exact Imp.refl _) | (apply Imp.left; apply Imp.left; exact Imp.refl _))) | (apply EvC.now; exact rfl) | exact rfl | (with_reducible exact EvAll.nil) | (focus (repeat (first | apply EvAll.cons | exact EvAll.nil | (apply EvC.gv; exact rfl; (with_reducible first | exact Imp.refl _ | (apply Imp.left; exact Imp.refl _) | (apply Imp.right; exact Imp.refl _) | (apply Imp.left; apply Imp.left; exact Imp.refl _))) | (apply EvC.now; exact rfl))); done) | (exact ext_evW _) | (focus (repeat (first | apply List.Mem.head | apply List.Mem.tail | apply List.mem_append_right)))))); (simp only [List.set_cons_succ, List.set_cons_zero]; exact rfl))
    | ((first | (with_reducible apply q_pl) | ((with_reducible apply q_gd); (first | (apply GdBy.gt; exact rfl; exact rfl) | (apply GdBy.gf; exact rfl; exact rfl) | (apply GdBy.t; exact rfl; exact rfl) | (apply GdBy.f; exact rfl; exact rfl)))); (with_reducible apply t_call Try.call21); (first | (apply EvC.gv; exact rfl; (with_reducible first | exact Imp.refl _ | (apply Imp.left; exact Imp.refl _) | (apply Imp.right; exact Imp.refl _) | (apply Imp.left; apply Imp.left; exact Imp.refl _))) | (apply EvC.now; exact rfl) | exact rfl | (with_reducible exact EvAll.nil) | (focus (repeat (first | apply EvAll.cons | exact EvAll.nil | (apply EvC.gv; exact rfl; (with_reducible first | exact Imp.refl _ | (apply Imp.left; exact Imp.refl _) | (apply Imp.right; exact Imp.refl _) | (apply Imp.left; apply Imp.left; exact Imp.refl _))) | (apply EvC.now; exact rfl))); done) | (exact ext_evW _) | (focus (repeat (first | apply List.Mem.head | apply List.Mem.tail | apply List.mem_append_right)))); (intro hcc w hC; exact tame_same (highW_any _ _ ha) hC); (simp only [List.set_cons_succ, List.set_cons_zero]; exact rfl))
    | ((with_reducible apply q_gd); (first | (apply GdBy.gt; exact rfl; exact rfl) | (apply GdBy.gf; exact rfl; exact rfl) | (apply GdBy.t; exact rfl; exact rfl) | (apply GdBy.f; exact rfl; exact rfl)); ((with_reducible apply t_num) <;> (first | (apply EvC.gv; exact rfl; (with_reducible first | exact Imp.refl _ | (apply Imp.left; exact Imp.refl _) | (apply Imp.right; exact Imp.refl _) | (apply Imp.left; apply Imp.left; exact Imp.refl _))) | (apply EvC.now; exact rfl) | exact rfl | (with_reducible exact EvAll.nil) | (focus (repeat (first | apply EvAll.cons | exact EvAll.nil | (apply EvC.gv; exact rfl; (with_reducible first | exact Imp.refl _ | (apply Imp.left; exact Imp.refl _) | (apply Imp.right; exact Imp.refl _) | (apply Imp.left; apply Imp.left; exact Imp.refl _))) | (apply EvC.now; exact rfl))); done) | (exact ext_evW _) | (focus (repeat (first | apply List.Mem.head | apply List.Mem.tail | apply List.mem_append_right))))); (simp only [List.set_cons_succ, List.set_cons_zero]; exact rfl))
    | ((with_reducible apply wpT1_gpure); (first | (apply GdBy.gt; exact rfl; exact rfl) | (apply GdBy.gf; exact rfl; exact rfl) | (apply GdBy.t; exact rfl; exact rfl) | (apply GdBy.f; exact rfl; exact rfl)); intro K hK; go_simp; refine hK _ ?_; clear hK K; simp only [List.set_cons_succ, List.set_cons_zero])
    | ((with_reducible apply wpT1_pure); exact rfl; intro K hK; go_simp; refine hK _ ?_; clear hK K; simp only [List.set_cons_succ, List.set_cons_zero]))
  refine wpT_nil ?_
  clear hR; intro w hR
  go_wp2
  go_ret
  exact ⟨rfl, hR.below⟩
section
variable {w0 w : World} {X Y : List RowT} {vr ve : Value} {sr se : List RowT} {R : List Int} {k g : Nat} {E : List EvZ}
theorem repW_any (hR : Own w0 w ((g, rowW vr (min k R.length) ve, 46) :: (sr ++ Y))) (hS : Sl 27 1 sr vr R.length (wordL R)) (hm : R.length ≤ 9223372036854775807) :
    Calls Try.prog 16 #[.pointer (some ⟨g, 0, none⟩)] w fun e w' => e = .returned (.int .u16 (replyZ R k)) ∧ Own w0 w' ((g, rowW vr (min (k + 1) R.length) ve, 46) :: (sr ++ Y)) := by
  by_cases hk : k < R.length
  · have hmk : min k R.length = k := by omega
    have hmk1 : min (k + 1) R.length = k + 1 := by omega
    rw [hmk] at hR
    rw [hmk1]
    rcases hS.way with ⟨_, _, h0⟩ | ⟨gr, cap, cur, rfl, rfl, hle, hmost, hsz, htk⟩
    · omega
    replace hR : Own w0 w ((g, rowW (.slice (some ⟨gr, 0, none⟩) R.length cap) k ve, 46) :: (gr, cur, 27) :: Y) := hR
    show Calls _ _ _ _ fun e w' => e = _ ∧ Own w0 w' ((g, rowW (.slice (some ⟨gr, 0, none⟩) R.length cap) (k + 1) ve, 46) :: (gr, cur, 27) :: Y)
    have hcell : cur.toList[k]? = some (.int .u16 (replyZ R k)) := by
      have h1 := flat_el cellW_len R k 0 _ _ (replyZ_some hk) (show (cellW (replyZ R k))[0]? = some (.int .u16 (replyZ R k)) from rfl)
      rw [Nat.mul_one, Nat.add_zero, show R.flatMap cellW = wordL R from rfl, ← htk, List.getElem?_take] at h1
      split at h1
      · exact h1
      · exact nomatch h1
    have HC := Lib.hid hcell
    have HL := Lib.hid (show cmpB .geq (k : Int) (R.length : Int) = some false from by simp [cmpB]; omega)
    go_enter Try.func16, Try.ntmps16
    go_upto_region 1 with fail
    refine wp_region_rows hR [0, 1, 2, 3, 4, 5, 6, 7, 8, 9] 0 (by kernel_rfl) (by kernel_rfl) (by kernel_rfl) rfl ?_
    clear hR; intro hR
    repeat (refine wpT_step rfl ?_; first
    | ((with_reducible apply q_pl); (with_reducible apply t_nilck); (apply EvC.now; exact rfl); (simp only [List.set_cons_succ, List.set_cons_zero]; exact rfl))
    | ((with_reducible apply q_pl); (with_reducible apply t_lenSl Try.underlying22); (apply EvC.now; exact rfl); exact hS; (simp only [List.set_cons_succ, List.set_cons_zero]; exact rfl))
    | ((with_reducible apply q_kn); exact rfl; (with_reducible apply t_cmp); (apply EvC.now; exact rfl); (apply EvC.now; exact rfl); exact HL.out; (simp only [List.set_cons_succ, List.set_cons_zero]; exact rfl))
    | ((first | (with_reducible apply q_pl) | ((with_reducible apply q_gd); (first | (apply GdBy.gt; exact rfl; exact rfl) | (apply GdBy.gf; exact rfl; exact rfl) | (apply GdBy.t; exact rfl; exact rfl) | (apply GdBy.f; exact rfl; exact rfl)))); (first | ((with_reducible first | apply t_move | apply t_assign | apply t_and | apply t_or | apply t_cmp | apply t_not | apply t_addr (fWd _ (by decide)) | apply t_one tWordsO | apply t_one tEvsO | apply t_one tIntO | apply t_one tWordE | apply t_part tEv) <;> (first | (apply EvC.gv; exact rfl; (with_reducible first | exact Imp.refl _ | (apply Imp.left; exact Imp.refl _) | (apply Imp.right; exact Imp.refl _) | (apply Imp.left; apply Imp.left; exact Imp.refl _))) | (apply EvC.now; exact rfl) | exact rfl | (with_reducible exact EvAll.nil) | (focus (repeat (first | apply EvAll.cons | exact EvAll.nil | (apply EvC.gv; exact rfl; (with_reducible first | exact Imp.refl _ | (apply Imp.left; exact Imp.refl _) | (apply Imp.right; exact Imp.refl _) | (apply Imp.left; apply Imp.left; exact Imp.refl _))) | (apply EvC.now; exact rfl))); done) | (exact ext_evW _) | (focus (repeat (first | apply List.Mem.head | apply List.Mem.tail | apply List.mem_append_right)))))); (simp only [List.set_cons_succ, List.set_cons_zero]; exact rfl)))
    refine wpG_end hR (by kernel_rfl) ?_
    clear hR; intro w hR
    go_upto_region 3 with fail
    refine wp_region_rows hR [0, 1, 2, 3, 4, 5, 6, 7, 8, 9, 10] 0 (by kernel_rfl) (by kernel_rfl) (by kernel_rfl) rfl ?_
    clear hR; intro hR
    repeat (refine wpT_step rfl ?_; first
    | ((with_reducible apply q_pl); (with_reducible apply t_nilck); (apply EvC.now; exact rfl); (simp only [List.set_cons_succ, List.set_cons_zero]; exact rfl))
    | ((with_reducible apply q_pl); (with_reducible apply t_six Try.underlying22 iWordE); (apply EvC.now; exact rfl); (apply EvC.now; exact rfl); (constructor <;> omega); (simp only [List.set_cons_succ, List.set_cons_zero]; exact rfl))
    | ((with_reducible apply q_pl); (with_reducible apply t_ownOne tWordE); (apply EvC.now; exact rfl); (apply List.Mem.tail; apply List.Mem.head); (rw [Nat.mul_one]; exact HC.out); (simp only [List.set_cons_succ, List.set_cons_zero]; exact rfl))
    | ((first | (with_reducible apply q_pl) | ((with_reducible apply q_gd); (first | (apply GdBy.gt; exact rfl; exact rfl) | (apply GdBy.gf; exact rfl; exact rfl) | (apply GdBy.t; exact rfl; exact rfl) | (apply GdBy.f; exact rfl; exact rfl)))); (first | ((with_reducible first | apply t_move | apply t_assign | apply t_and | apply t_or | apply t_cmp | apply t_not | apply t_addr (fWd _ (by decide)) | apply t_one tWordsO | apply t_one tEvsO | apply t_one tIntO | apply t_one tWordE | apply t_part tEv) <;> (first | (apply EvC.gv; exact rfl; (with_reducible first | exact Imp.refl _ | (apply Imp.left; exact Imp.refl _) | (apply Imp.right; exact Imp.refl _) | (apply Imp.left; apply Imp.left; exact Imp.refl _))) | (apply EvC.now; exact rfl) | exact rfl | (with_reducible exact EvAll.nil) | (focus (repeat (first | apply EvAll.cons | exact EvAll.nil | (apply EvC.gv; exact rfl; (with_reducible first | exact Imp.refl _ | (apply Imp.left; exact Imp.refl _) | (apply Imp.right; exact Imp.refl _) | (apply Imp.left; apply Imp.left; exact Imp.refl _))) | (apply EvC.now; exact rfl))); done) | (exact ext_evW _) | (focus (repeat (first | apply List.Mem.head | apply List.Mem.tail | apply List.mem_append_right)))))); (simp only [List.set_cons_succ, List.set_cons_zero]; exact rfl)))
    refine wpG_end hR (by kernel_rfl) ?_
    clear hR; intro w hR
    go_wp2_with (first
    | ((with_reducible apply q_ls hR); exact rfl; (with_reducible apply t_nilck); (apply EvC.now; exact rfl); (simp only [List.set_cons_succ, List.set_cons_zero]; exact rfl); clear hR; intro w hR)
    | ((with_reducible apply wpList_put1 hR tIntO); exact rfl; exact rfl; exact rfl; (focus (repeat (first | apply List.Mem.head | apply List.Mem.tail | apply List.mem_append_right))); (exact put_used _ _ _ (k + 1) (by omega)); (simp [rowW]); exact rfl; (focus (repeat (first | apply Upd.head | apply Upd.tail))); clear hR; intro w hR)
    | ((with_reducible apply q_ls hR); exact rfl; ((with_reducible first | apply t_addr (fWd _ (by decide)) | apply t_one tWordsO | apply t_one tEvsO | apply t_one tIntO | apply t_one tWordE | apply t_part tEv) <;> (first | (apply EvC.gv; exact rfl; (with_reducible first | exact Imp.refl _ | (apply Imp.left; exact Imp.refl _) | (apply Imp.right; exact Imp.refl _) | (apply Imp.left; apply Imp.left; exact Imp.refl _))) | (apply EvC.now; exact rfl) | exact rfl | (with_reducible exact EvAll.nil) | (focus (repeat (first | apply EvAll.cons | exact EvAll.nil | (apply EvC.gv; exact rfl; (with_reducible first | exact Imp.refl _ | (apply Imp.left; exact Imp.refl _) | (apply Imp.right; exact Imp.refl _) | (apply Imp.left; apply Imp.left; exact Imp.refl _))) | (apply EvC.now; exact rfl))); done) | (exact ext_evW _) | (focus (repeat (first | apply List.Mem.head | apply List.Mem.tail | apply List.mem_append_right))))); (simp only [List.set_cons_succ, List.set_cons_zero]; exact rfl); clear hR; intro w hR))
    go_ret
    exact ⟨rfl, hR⟩
  · have hmk : min k R.length = R.length := by omega
    have hmk1 : min (k + 1) R.length = R.length := by omega
    rw [hmk] at hR
    rw [hmk1, replyZ_none hk]
    have HL := Lib.hid (show cmpB .geq (R.length : Int) (R.length : Int) = some true from by simp [cmpB])
    go_enter Try.func16, Try.ntmps16
    go_upto_region 1 with fail
    refine wp_region_rows hR [0, 1, 2, 3, 4, 5, 6, 7, 8, 9] 0 (by kernel_rfl) (by kernel_rfl) (by kernel_rfl) rfl ?_
    clear hR; intro hR
    repeat (refine wpT_step rfl ?_; first
    | ((with_reducible apply q_pl); (with_reducible apply t_nilck); (apply EvC.now; exact rfl); (simp only [List.set_cons_succ, List.set_cons_zero]; exact rfl))
    | ((with_reducible apply q_pl); (with_reducible apply t_lenSl Try.underlying22); (apply EvC.now; exact rfl); exact hS; (simp only [List.set_cons_succ, List.set_cons_zero]; exact rfl))
    | ((with_reducible apply q_kn); exact rfl; (with_reducible apply t_cmp); (apply EvC.now; exact rfl); (apply EvC.now; exact rfl); exact HL.out; (simp only [List.set_cons_succ, List.set_cons_zero]; exact rfl))
    | ((first | (with_reducible apply q_pl) | ((with_reducible apply q_gd); (first | (apply GdBy.gt; exact rfl; exact rfl) | (apply GdBy.gf; exact rfl; exact rfl) | (apply GdBy.t; exact rfl; exact rfl) | (apply GdBy.f; exact rfl; exact rfl)))); (first | ((with_reducible first | apply t_move | apply t_assign | apply t_and | apply t_or | apply t_cmp | apply t_not | apply t_addr (fWd _ (by decide)) | apply t_one tWordsO | apply t_one tEvsO | apply t_one tIntO | apply t_one tWordE | apply t_part tEv) <;> (first | (apply EvC.gv; exact rfl; (with_reducible first | exact Imp.refl _ | (apply Imp.left; exact Imp.refl _) | (apply Imp.right; exact Imp.refl _) | (apply Imp.left; apply Imp.left; exact Imp.refl _))) | (apply EvC.now; exact rfl) | exact rfl | (with_reducible exact EvAll.nil) | (focus (repeat (first | apply EvAll.cons | exact EvAll.nil | (apply EvC.gv; exact rfl; (with_reducible first | exact Imp.refl _ | (apply Imp.left; exact Imp.refl _) | (apply Imp.right; exact Imp.refl _) | (apply Imp.left; apply Imp.left; exact Imp.refl _))) | (apply EvC.now; exact rfl))); done) | (exact ext_evW _) | (focus (repeat (first | apply List.Mem.head | apply List.Mem.tail | apply List.mem_append_right)))))); (simp only [List.set_cons_succ, List.set_cons_zero]; exact rfl)))
    refine wpG_end hR (by kernel_rfl) ?_
    clear hR; intro w hR
    go_wp2_with fail
    go_ret
    exact ⟨rfl, hR⟩

theorem own_note {s2 : List RowT} {a b c : RowT} (h : Own w0 w (s2 ++ (a :: b :: c :: (sr ++ X)))) : Own w0 w (b :: c :: (sr ++ (s2 ++ X))) := by
  have h1 := h.perm (l' := a :: b :: c :: (sr ++ (s2 ++ X))) (by
    refine List.Perm.trans ?_ List.perm_append_comm
    refine (List.Perm.cons a (List.Perm.cons b (List.Perm.cons c ?_)))
    show (sr ++ (s2 ++ X)).Perm ((sr ++ X) ++ s2)
    rw [List.append_assoc]
    exact (List.perm_append_left_iff sr).2 List.perm_append_comm)
  exact h1.tail
theorem sl_one {e : TypeId} {k n : Nat} {s : List RowT} {v : Value} {xs : List Value} (h : Sl e k s v n xs) : v.oneCell' = true := by
  obtain ⟨a, n, c, rfl⟩ := h.shape
  rfl
theorem noteW_any (hR : Own w0 w ((g, rowW vr k ve, 46) :: (sr ++ (se ++ X)))) (hS : Sl 32 7 se ve E.length (evL E)) (hm : E.length < 4000) (e : EvZ) :
    Calls Try.prog 18 #[.pointer (some ⟨g, 0, none⟩), .agg (encE e)] w fun en w' => en = .returned (.tuple #[]) ∧ ∃ se' ve', Own w0 w' ((g, rowW vr k ve', 46) :: (sr ++ (se' ++ X))) ∧ Sl 32 7 se' ve' (E.length + 1) (evL (E ++ [e])) := by
  have HL := Lib.hid (show cmpB .lss (E.length : Int) 4000 = some true from by simp [cmpB]; omega)
  go_enter Try.func18, Try.ntmps18
  go_upto_region 1 with (first
    | ((with_reducible apply wpList_box hR); exact rfl; exact rfl; clear hR; intro ge w hR; simp only [List.set_cons_succ, List.set_cons_zero]))
  refine wp_region_tame hR [0, 1, 2, 3, 4, 5] rfl ?_
  repeat (refine wpT_step rfl ?_; first
    | ((with_reducible apply q_pl); (with_reducible apply t_nilck); (apply EvC.now; exact rfl); (simp only [List.set_cons_succ, List.set_cons_zero]; exact rfl))
    | ((with_reducible apply q_pl); (with_reducible apply t_lenSl Try.underlying26); (apply EvC.now; exact rfl); exact hS; (simp only [List.set_cons_succ, List.set_cons_zero]; exact rfl))
    | ((with_reducible apply q_kn); exact rfl; (with_reducible apply t_cmp); (apply EvC.now; exact rfl); (apply EvC.now; exact rfl); exact HL.out; (simp only [List.set_cons_succ, List.set_cons_zero]; exact rfl))
    | ((first | (with_reducible apply q_pl) | ((with_reducible apply q_gd); (first | (apply GdBy.gt; exact rfl; exact rfl) | (apply GdBy.gf; exact rfl; exact rfl) | (apply GdBy.t; exact rfl; exact rfl) | (apply GdBy.f; exact rfl; exact rfl)))); (first | ((with_reducible first | apply t_move | apply t_assign | apply t_and | apply t_or | apply t_cmp | apply t_not | apply t_addr (fWd _ (by decide)) | apply t_one tWordsO | apply t_one tEvsO | apply t_one tIntO | apply t_one tWordE | apply t_part tEv) <;> (first | (apply EvC.gv; exact rfl; (with_reducible first | exact Imp.refl _ | (apply Imp.left; exact Imp.refl _) | (apply Imp.right; exact Imp.refl _) | (apply Imp.left; apply Imp.left; exact Imp.refl _))) | (apply EvC.now; exact rfl) | exact rfl | (with_reducible exact EvAll.nil) | (focus (repeat (first | apply EvAll.cons | exact EvAll.nil | (apply EvC.gv; exact rfl; (with_reducible first | exact Imp.refl _ | (apply Imp.left; exact Imp.refl _) | (apply Imp.right; exact Imp.refl _) | (apply Imp.left; apply Imp.left; exact Imp.refl _))) | (apply EvC.now; exact rfl))); done) | (exact ext_evW _) | (focus (repeat (first | apply List.Mem.head | apply List.Mem.tail | apply List.mem_append_right)))))); (simp only [List.set_cons_succ, List.set_cons_zero]; exact rfl)))
  refine wpT_nil ?_
  clear hR; intro w hR
  go_upto_region 2 with fail
  refine wp_region_some hR [(ge, encE e, 32)] (by (focus (repeat (with_reducible first | exact List.Sublist.slnil | exact List.nil_sublist _ | exact List.Sublist.refl _ | exact List.sublist_append_right _ _ | apply List.Sublist.cons_cons | apply List.Sublist.cons | apply sub_right)))) [0, 1, 2, 3, 5] 6 (by kernel_rfl) (by kernel_rfl) (by kernel_rfl) rfl ?_
  clear hR; intro hR
  repeat (refine wpT_step rfl ?_; first
    | ((with_reducible apply q_pl); (with_reducible apply t_nilck); (apply EvC.now; exact rfl); (simp only [List.set_cons_succ, List.set_cons_zero]; exact rfl))
    | ((first | (with_reducible apply q_pl) | ((with_reducible apply q_gd); (first | (apply GdBy.gt; exact rfl; exact rfl) | (apply GdBy.gf; exact rfl; exact rfl) | (apply GdBy.t; exact rfl; exact rfl) | (apply GdBy.f; exact rfl; exact rfl)))); (first | ((with_reducible first | apply t_move | apply t_assign | apply t_and | apply t_or | apply t_cmp | apply t_not | apply t_addr (fWd _ (by decide)) | apply t_one tWordsO | apply t_one tEvsO | apply t_one tIntO | apply t_one tWordE | apply t_part tEv) <;> (first | (apply EvC.gv; exact rfl; (with_reducible first | exact Imp.refl _ | (apply Imp.left; exact Imp.refl _) | (apply Imp.right; exact Imp.refl _) | (apply Imp.left; apply Imp.left; exact Imp.refl _))) | (apply EvC.now; exact rfl) | exact rfl | (with_reducible exact EvAll.nil) | (focus (repeat (first | apply EvAll.cons | exact EvAll.nil | (apply EvC.gv; exact rfl; (with_reducible first | exact Imp.refl _ | (apply Imp.left; exact Imp.refl _) | (apply Imp.right; exact Imp.refl _) | (apply Imp.left; apply Imp.left; exact Imp.refl _))) | (apply EvC.now; exact rfl))); done) | (exact ext_evW _) | (focus (repeat (first | apply List.Mem.head | apply List.Mem.tail | apply List.mem_append_right)))))); (simp only [List.set_cons_succ, List.set_cons_zero]; exact rfl)))
  refine wpT_nil ?_
  refine wpG_two hR (i := 4) (j := 6) (by kernel_rfl) ?_ ?_
  · clear hR; intro w hR
    refine opQ hR rfl rfl (t_one tEvsO (EvC.now rfl) (by (focus (repeat (first | apply List.Mem.head | apply List.Mem.tail | apply List.mem_append_right)))) rfl) (by (simp only [List.set_cons_succ, List.set_cons_zero]; exact rfl)) ?_
    clear hR; intro w hR
    refine ⟨hR.drop (by (focus (repeat (with_reducible first | exact List.Sublist.slnil | exact List.nil_sublist _ | exact List.Sublist.refl _ | exact List.sublist_append_right _ _ | apply List.Sublist.cons_cons | apply List.Sublist.cons | apply sub_right)))), ?_⟩
    refine wpG_buildS hR (i := 6) (by kernel_rfl) rfl rfl rfl (bEvW1 _) (by (focus (repeat (with_reducible first | exact List.Sublist.slnil | exact List.nil_sublist _ | exact List.Sublist.refl _ | exact List.sublist_append_right _ _ | apply List.Sublist.cons_cons | apply List.Sublist.cons | apply sub_right)))) ?_
    clear hR; intro gb w hR
    simp only [List.set_cons_succ, List.set_cons_zero]
    refine wpG_appN hR (i := 7) (by kernel_rfl) tEvs rfl rfl rfl rfl (Les.tail (Les.tail (Les.tail (Les.skip sr Les.head)))) hS (by (focus (repeat (first | apply List.Mem.head | apply List.Mem.tail | apply List.mem_append_right)))) (Part.all _) rfl (by simp [encE, Value.oneCell']) (by omega) (by (focus (repeat (with_reducible first | exact List.Sublist.slnil | exact List.nil_sublist _ | exact List.Sublist.refl _ | exact List.sublist_append_right _ _ | apply List.Sublist.cons_cons | apply List.Sublist.cons | apply sub_right)))) ?_
    clear hR hS; intro s2 v2 w hR hS
    simp only [List.set_cons_succ, List.set_cons_zero]
    replace hR := own_note hR
    refine wpG_q hR (i := 8) (by kernel_rfl) rfl rfl (t_nilck (EvC.now rfl)) (by (simp only [List.set_cons_succ, List.set_cons_zero]; exact rfl)) (by (focus (repeat (with_reducible first | exact List.Sublist.slnil | exact List.nil_sublist _ | exact List.Sublist.refl _ | exact List.sublist_append_right _ _ | apply List.Sublist.cons_cons | apply List.Sublist.cons | apply sub_right)))) ?_
    clear hR; intro w hR
    refine wpG_q hR (i := 9) (by kernel_rfl) rfl rfl (t_addr (fWd _ (by decide)) (EvC.now rfl)) (by (simp only [List.set_cons_succ, List.set_cons_zero]; exact rfl)) (by (focus (repeat (with_reducible first | exact List.Sublist.slnil | exact List.nil_sublist _ | exact List.Sublist.refl _ | exact List.sublist_append_right _ _ | apply List.Sublist.cons_cons | apply List.Sublist.cons | apply sub_right)))) ?_
    clear hR; intro w hR
    refine wpG_put1 hR tEvsO (i := 10) (by kernel_rfl) rfl rfl rfl (by (focus (repeat (first | apply List.Mem.head | apply List.Mem.tail | apply List.mem_append_right)))) (put_evs _ _ _ _) (by simp [rowW]) (sl_one hS) (by (focus (repeat (first | apply Upd.head | apply Upd.tail)))) (by (focus (repeat (with_reducible first | exact List.Sublist.slnil | exact List.nil_sublist _ | exact List.Sublist.refl _ | exact List.sublist_append_right _ _ | apply List.Sublist.cons_cons | apply List.Sublist.cons | apply sub_right)))) ?_
    clear hR; intro w hR
    refine wpG_end hR (by kernel_rfl) ?_
    clear hR; intro w hR
    go_wp2
    go_end0
    exact ⟨rfl, s2, v2, hR.tail, hS.cast (evL_more _ _)⟩
  · clear hR; intro w hR
    refine opBuildS hR rfl rfl rfl (bEvW1 _) ?_
    clear hR; intro gb w hR
    refine ⟨hR.drop (by (focus (repeat (with_reducible first | exact List.Sublist.slnil | exact List.nil_sublist _ | exact List.Sublist.refl _ | exact List.sublist_append_right _ _ | apply List.Sublist.cons_cons | apply List.Sublist.cons | apply sub_right)))), ?_⟩
    simp only [List.set_cons_succ, List.set_cons_zero]
    refine wpG_q hR (i := 4) (by kernel_rfl) rfl rfl (t_one tEvsO (EvC.now rfl) (by (focus (repeat (first | apply List.Mem.head | apply List.Mem.tail | apply List.mem_append_right)))) rfl) (by (simp only [List.set_cons_succ, List.set_cons_zero]; exact rfl)) (by (focus (repeat (with_reducible first | exact List.Sublist.slnil | exact List.nil_sublist _ | exact List.Sublist.refl _ | exact List.sublist_append_right _ _ | apply List.Sublist.cons_cons | apply List.Sublist.cons | apply sub_right)))) ?_
    clear hR; intro w hR
    refine wpG_appN hR (i := 7) (by kernel_rfl) tEvs rfl rfl rfl rfl (Les.tail (Les.tail (Les.tail (Les.skip sr Les.head)))) hS (by (focus (repeat (first | apply List.Mem.head | apply List.Mem.tail | apply List.mem_append_right)))) (Part.all _) rfl (by simp [encE, Value.oneCell']) (by omega) (by (focus (repeat (with_reducible first | exact List.Sublist.slnil | exact List.nil_sublist _ | exact List.Sublist.refl _ | exact List.sublist_append_right _ _ | apply List.Sublist.cons_cons | apply List.Sublist.cons | apply sub_right)))) ?_
    clear hR hS; intro s2 v2 w hR hS
    simp only [List.set_cons_succ, List.set_cons_zero]
    replace hR := own_note hR
    refine wpG_q hR (i := 8) (by kernel_rfl) rfl rfl (t_nilck (EvC.now rfl)) (by (simp only [List.set_cons_succ, List.set_cons_zero]; exact rfl)) (by (focus (repeat (with_reducible first | exact List.Sublist.slnil | exact List.nil_sublist _ | exact List.Sublist.refl _ | exact List.sublist_append_right _ _ | apply List.Sublist.cons_cons | apply List.Sublist.cons | apply sub_right)))) ?_
    clear hR; intro w hR
    refine wpG_q hR (i := 9) (by kernel_rfl) rfl rfl (t_addr (fWd _ (by decide)) (EvC.now rfl)) (by (simp only [List.set_cons_succ, List.set_cons_zero]; exact rfl)) (by (focus (repeat (with_reducible first | exact List.Sublist.slnil | exact List.nil_sublist _ | exact List.Sublist.refl _ | exact List.sublist_append_right _ _ | apply List.Sublist.cons_cons | apply List.Sublist.cons | apply sub_right)))) ?_
    clear hR; intro w hR
    refine wpG_put1 hR tEvsO (i := 10) (by kernel_rfl) rfl rfl rfl (by (focus (repeat (first | apply List.Mem.head | apply List.Mem.tail | apply List.mem_append_right)))) (put_evs _ _ _ _) (by simp [rowW]) (sl_one hS) (by (focus (repeat (first | apply Upd.head | apply Upd.tail)))) (by (focus (repeat (with_reducible first | exact List.Sublist.slnil | exact List.nil_sublist _ | exact List.Sublist.refl _ | exact List.sublist_append_right _ _ | apply List.Sublist.cons_cons | apply List.Sublist.cons | apply sub_right)))) ?_
    clear hR; intro w hR
    refine wpG_end hR (by kernel_rfl) ?_
    clear hR; intro w hR
    go_wp2
    go_end0
    exact ⟨rfl, s2, v2, hR.tail, hS.cast (evL_more _ _)⟩
end
/-! ### The object's functions -/
theorem Sl.most {e : TypeId} {k n : Nat} {s : List RowT} {v : Value} {xs : List Value} (h : Sl e k s v n xs) : n ≤ maxLen := by
  rcases h.way with ⟨_, _, h0⟩ | ⟨g, cap, cur, _, _, h3, h4, _⟩
  · rw [h0]; exact Nat.zero_le _
  · exact Nat.le_trans h3 h4
section
variable {w0 w : World} {l L X : List RowT} {v : Value} {R : List Int} {k : Nat} {E : List EvZ}
theorem inW_any (hO : Own w0 w l) (hd : Les L l X) (hW : Wd L v R k E) (hR : ∀ n ∈ R, 0 ≤ n ∧ n ≤ 65535) (hm : E.length < 4000) (port : Int) (wide : Bool) (hp : 0 ≤ port ∧ port ≤ 65535) :
    Calls Try.prog 6 #[v, .int .u16 port, .bool wide] w fun e w' => e = .returned (.int .u16 (inZ R k wide)) ∧ ∃ L', Own w0 w' (L' ++ X) ∧ Wd L' v R (k + 1) (E ++ [⟨1, port, inZ R k wide, 0, 0, 0, 0⟩]) := by
  have hb := replyZ_bd hR k
  clear hR
  obtain ⟨g, sr, vr, se, ve, rfl, hR, h1, h2⟩ := Wd.open hO hd hW
  have hm63 : R.length ≤ 9223372036854775807 := h1.most
  clear hO hd hW
  obtain ⟨r, hr⟩ : ∃ r, replyZ R k = r := ⟨_, rfl⟩
  rw [hr] at hb
  have hx : inZ R k wide = bif wide then r else r % 256 := by rw [← hr]; rfl
  rw [hx]
  clear hx
  cases wide
  · go_enter Try.func6, Try.ntmps6
    go_wp2_with (first
    | (go_at_call 16; refine (repW_any hR h1 hm63).mono ?_; clear hR; rw [hr]; rintro e w' ⟨rfl, hR⟩)
    | (go_at_call 17; refine (lowW_any _ _ hb).mono ?_; rintro e w' ⟨rfl, rfl⟩)
    | ((with_reducible apply wpList_built); exact rfl; exact rfl; (first | exact bEW3 _ _ _ | exact bEW1 _ | exact bEW7 _ _ _ _ _ _ _); (simp only [List.set_cons_succ, List.set_cons_zero]; exact rfl))
    | (go_at_call 18; refine (noteW_any hR h2 hm _).mono ?_; clear hR; rintro e w' ⟨rfl, se2, ve2, hR, hS2⟩))
    go_ret
    obtain ⟨L', hL, hW2⟩ := Wd.shut hR h1 (E := E ++ [_]) (by simpa using hS2)
    exact ⟨rfl, L', hL, hW2⟩
  · go_enter Try.func6, Try.ntmps6
    go_wp2_with (first
    | (go_at_call 16; refine (repW_any hR h1 hm63).mono ?_; clear hR; rw [hr]; rintro e w' ⟨rfl, hR⟩)
    | ((with_reducible apply wpList_built); exact rfl; exact rfl; (first | exact bEW3 _ _ _ | exact bEW1 _ | exact bEW7 _ _ _ _ _ _ _); (simp only [List.set_cons_succ, List.set_cons_zero]; exact rfl))
    | (go_at_call 18; refine (noteW_any hR h2 hm _).mono ?_; clear hR; rintro e w' ⟨rfl, se2, ve2, hR, hS2⟩))
    go_ret
    obtain ⟨L', hL, hW2⟩ := Wd.shut hR h1 (E := E ++ [_]) (by simpa using hS2)
    exact ⟨rfl, L', hL, hW2⟩
theorem outW_any (hO : Own w0 w l) (hd : Les L l X) (hW : Wd L v R k E) (hm : E.length < 4000) (port x : Int) (hp : 0 ≤ port ∧ port ≤ 65535) (hx : 0 ≤ x ∧ x ≤ 65535) :
    Calls Try.prog 7 #[v, .int .u16 port, .int .u16 x] w fun e w' => e = .returned (.tuple #[]) ∧ ∃ L', Own w0 w' (L' ++ X) ∧ Wd L' v R k (E ++ [⟨2, port, x, 0, 0, 0, 0⟩]) := by
  obtain ⟨g, sr, vr, se, ve, rfl, hR, h1, h2⟩ := Wd.open hO hd hW
  clear hO hd hW
  go_enter Try.func7, Try.ntmps7
  go_wp2_with (first
    | ((with_reducible apply wpList_built); exact rfl; exact rfl; (first | exact bEW3 _ _ _ | exact bEW1 _ | exact bEW7 _ _ _ _ _ _ _); (simp only [List.set_cons_succ, List.set_cons_zero]; exact rfl))
    | (go_at_call 18; refine (noteW_any hR h2 hm _).mono ?_; clear hR; rintro e w' ⟨rfl, se2, ve2, hR, hS2⟩))
  go_end0
  obtain ⟨L', hL, hW2⟩ := Wd.shut hR h1 (E := E ++ [_]) (by simpa using hS2)
  exact ⟨rfl, L', hL, hW2⟩
theorem stopW_any (hO : Own w0 w l) (hd : Les L l X) (hW : Wd L v R k E) (hm : E.length < 4000) (kind : Int) (hk : -9223372036854775808 ≤ kind ∧ kind ≤ 9223372036854775807) :
    Calls Try.prog 9 #[v, .int .i64 kind] w fun e w' => e = .returned (.tuple #[]) ∧ ∃ L', Own w0 w' (L' ++ X) ∧ Wd L' v R k (E ++ [⟨kind, 0, 0, 0, 0, 0, 0⟩]) := by
  obtain ⟨g, sr, vr, se, ve, rfl, hR, h1, h2⟩ := Wd.open hO hd hW
  clear hO hd hW
  go_enter Try.func9, Try.ntmps9
  go_wp2_with (first
    | ((with_reducible apply wpList_built); exact rfl; exact rfl; (first | exact bEW3 _ _ _ | exact bEW1 _ | exact bEW7 _ _ _ _ _ _ _); (simp only [List.set_cons_succ, List.set_cons_zero]; exact rfl))
    | (go_at_call 18; refine (noteW_any hR h2 hm _).mono ?_; clear hR; rintro e w' ⟨rfl, se2, ve2, hR, hS2⟩))
  go_end0
  obtain ⟨L', hL, hW2⟩ := Wd.shut hR h1 (E := E ++ [_]) (by simpa using hS2)
  exact ⟨rfl, L', hL, hW2⟩
theorem intW_any (hO : Own w0 w l) (hd : Les L l X) (hW : Wd L v R k E) (hR : ∀ n ∈ R, 0 ≤ n ∧ n ≤ 65535) (hm : E.length < 4000) (n a b c d : Int) (hn : 0 ≤ n ∧ n ≤ 255) (ha : 0 ≤ a ∧ a ≤ 65535) (hb : 0 ≤ b ∧ b ≤ 65535) (hc : 0 ≤ c ∧ c ≤ 65535) (hd' : 0 ≤ d ∧ d ≤ 65535) :
    Calls Try.prog 8 #[v, .int .u8 n, .int .u16 a, .int .u16 b, .int .u16 c, .int .u16 d] w fun e w' => e = .returned (.tuple #[.int .u16 (bif endsZ n a then a else replyZ R k), .bool (endsZ n a)]) ∧
      ∃ L', Own w0 w' (L' ++ X) ∧ Wd L' v R (bif endsZ n a then k else k + 1) (E ++ [⟨3, n, bif endsZ n a then a else replyZ R k, a, b, c, d⟩]) := by
  clear hR
  obtain ⟨g, sr, vr, se, ve, rfl, hR, h1, h2⟩ := Wd.open hO hd hW
  have hm63 : R.length ≤ 9223372036854775807 := h1.most
  clear hO hd hW
  obtain ⟨r, hr⟩ : ∃ r, replyZ R k = r := ⟨_, rfl⟩
  rw [hr]
  cases he : endsZ n a
  · have HE := Lib.hid he
    clear he
    go_enter Try.func8, Try.ntmps8
    go_wp2_with (first
    | (go_at_call 16; refine (repW_any hR h1 hm63).mono ?_; clear hR; rw [hr]; rintro e w' ⟨rfl, hR⟩)
    | (go_at_call 19; refine (endsW_any _ _ _ hn ha).mono ?_; rw [HE.out]; rintro e w' ⟨rfl, hb⟩; replace hR := hR.grow hb; clear hb)
    | ((with_reducible apply wpList_built); exact rfl; exact rfl; (first | exact bEW3 _ _ _ | exact bEW1 _ | exact bEW7 _ _ _ _ _ _ _); (simp only [List.set_cons_succ, List.set_cons_zero]; exact rfl))
    | (go_at_call 18; refine (noteW_any hR h2 hm _).mono ?_; clear hR; rintro e w' ⟨rfl, se2, ve2, hR, hS2⟩))
    go_ret2
    obtain ⟨L', hL, hW2⟩ := Wd.shut hR h1 (E := E ++ [_]) (by simpa using hS2)
    exact ⟨rfl, L', hL, hW2⟩
  · have HE := Lib.hid he
    clear he
    go_enter Try.func8, Try.ntmps8
    go_wp2_with (first
    | (go_at_call 19; refine (endsW_any _ _ _ hn ha).mono ?_; rw [HE.out]; rintro e w' ⟨rfl, hb⟩; replace hR := hR.grow hb; clear hb)
    | ((with_reducible apply wpList_built); exact rfl; exact rfl; (first | exact bEW3 _ _ _ | exact bEW1 _ | exact bEW7 _ _ _ _ _ _ _); (simp only [List.set_cons_succ, List.set_cons_zero]; exact rfl))
    | (go_at_call 18; refine (noteW_any hR h2 hm _).mono ?_; clear hR; rintro e w' ⟨rfl, se2, ve2, hR, hS2⟩))
    go_ret2
    obtain ⟨L', hL, hW2⟩ := Wd.shut hR h1 (E := E ++ [_]) (by simpa using hS2)
    exact ⟨rfl, L', hL, hW2⟩
theorem usedW_any (hO : Own w0 w l) (hd : Les L l X) (hW : Wd L v R k E) :
    Calls Try.prog 10 #[v] w fun e w' => e = .returned (.int .i64 (min k R.length : Nat)) ∧ Below w.heap.size w w' := by
  obtain ⟨g, sr, vr, se, ve, rfl, hR1, h1, h2⟩ := Wd.open hO hd hW
  clear hO hd hW
  have hT := hR1.get (.head _)
  clear hR1
  have hR := Own.start w
  go_enter Try.func10, Try.ntmps10
  go_wp2_with (first
    | ((with_reducible apply q_ls hR); exact rfl; (with_reducible apply t_nilck); (apply EvC.now; exact rfl); (simp only [List.set_cons_succ, List.set_cons_zero]; exact rfl); clear hR; intro w hR)
    | ((with_reducible apply q_ls hR); exact rfl; (with_reducible apply t_old tIntO hT); (apply EvC.now; exact rfl); exact rfl; (simp only [List.set_cons_succ, List.set_cons_zero]; exact rfl); clear hR; intro w hR)
    | ((with_reducible apply q_ls hR); exact rfl; ((with_reducible first | apply t_addr (fWd _ (by decide))) <;> (first | (apply EvC.gv; exact rfl; (with_reducible first | exact Imp.refl _ | (apply Imp.left; exact Imp.refl _) | (apply Imp.right; exact Imp.refl _) | (apply Imp.left; apply Imp.left; exact Imp.refl _))) | (apply EvC.now; exact rfl) | exact rfl | (with_reducible exact EvAll.nil) | (focus (repeat (first | apply EvAll.cons | exact EvAll.nil | (apply EvC.gv; exact rfl; (with_reducible first | exact Imp.refl _ | (apply Imp.left; exact Imp.refl _) | (apply Imp.right; exact Imp.refl _) | (apply Imp.left; apply Imp.left; exact Imp.refl _))) | (apply EvC.now; exact rfl))); done) | (exact ext_evW _) | (focus (repeat (first | apply List.Mem.head | apply List.Mem.tail | apply List.mem_append_right))))); (simp only [List.set_cons_succ, List.set_cons_zero]; exact rfl); clear hR; intro w hR))
  go_ret
  exact ⟨rfl, hR.below⟩
theorem eventsW_any (hO : Own w0 w l) (hd : Les L l X) (hW : Wd L v R k E) (hm : E.length ≤ 4000) :
    Calls Try.prog 13 #[v] w fun e w' => ∃ s ve, e = .returned ve ∧ Own w0 w' (s ++ l) ∧ Sl 32 7 s ve E.length (evL E) := by
  obtain ⟨g, sr, vr, se, ve, rfl, hR1, h1, h2⟩ := Wd.open hO hd hW
  clear hd hW
  have hT := hR1.get (.head _)
  have hr := h2.rd hR1 (fun r hr => List.mem_cons_of_mem _ (List.mem_append_right _ (List.mem_append_left _ hr))) (evL_one _)
  clear hR1
  have hR := Own.start w
  go_enter Try.func13, Try.ntmps13
  go_wp2_with (first
    | (go_at_call 20; refine (cloneE_any (hr.own hR) (by omega)).mono ?_; rintro e w' ⟨s, vs, rfl, hs, hS⟩; replace hR := hR.join hs; clear hs)
    | ((with_reducible apply q_ls hR); exact rfl; (with_reducible apply t_nilck); (apply EvC.now; exact rfl); (simp only [List.set_cons_succ, List.set_cons_zero]; exact rfl); clear hR; intro w hR)
    | ((with_reducible apply q_ls hR); exact rfl; (with_reducible apply t_old tEvsO hT); (apply EvC.now; exact rfl); exact rfl; (simp only [List.set_cons_succ, List.set_cons_zero]; exact rfl); clear hR; intro w hR)
    | ((with_reducible apply q_ls hR); exact rfl; ((with_reducible first | apply t_addr (fWd _ (by decide))) <;> (first | (apply EvC.gv; exact rfl; (with_reducible first | exact Imp.refl _ | (apply Imp.left; exact Imp.refl _) | (apply Imp.right; exact Imp.refl _) | (apply Imp.left; apply Imp.left; exact Imp.refl _))) | (apply EvC.now; exact rfl) | exact rfl | (with_reducible exact EvAll.nil) | (focus (repeat (first | apply EvAll.cons | exact EvAll.nil | (apply EvC.gv; exact rfl; (with_reducible first | exact Imp.refl _ | (apply Imp.left; exact Imp.refl _) | (apply Imp.right; exact Imp.refl _) | (apply Imp.left; apply Imp.left; exact Imp.refl _))) | (apply EvC.now; exact rfl))); done) | (exact ext_evW _) | (focus (repeat (first | apply List.Mem.head | apply List.Mem.tail | apply List.mem_append_right))))); (simp only [List.set_cons_succ, List.set_cons_zero]; exact rfl); clear hR; intro w hR))
  go_ret
  exact ⟨s, vs, rfl, by have := hO.join hR; simpa using this, hS⟩
end
/-! ### Of none -/
theorem inW_nil (port : Int) (wide : Bool) (w : World) : Calls Try.prog 6 #[.pointer none, .int .u16 port, .bool wide] w fun e w' => e = .returned (.int .u16 0) ∧ w = w' := by
  go_enter Try.func6, Try.ntmps6
  go_wp2
  (try simp only [Exit.inBlock, Exit.then])
  exact bodyPost_ret (results_tmp rfl _ _ _) rfl ⟨rfl, rfl⟩
theorem outW_nil (port x : Int) (w : World) : Calls Try.prog 7 #[.pointer none, .int .u16 port, .int .u16 x] w fun e w' => e = .returned (.tuple #[]) ∧ w = w' := by
  go_enter Try.func7, Try.ntmps7
  go_wp2
  (try simp only [Exit.inBlock, Exit.then])
  exact bodyPost_ret (results_none rfl _ _ _) rfl ⟨rfl, rfl⟩
theorem intW_nil (n a b c d : Int) (w : World) : Calls Try.prog 8 #[.pointer none, .int .u8 n, .int .u16 a, .int .u16 b, .int .u16 c, .int .u16 d] w fun e w' => e = .returned (.tuple #[.int .u16 a, .bool true]) ∧ w = w' := by
  go_enter Try.func8, Try.ntmps8
  go_wp2
  (try simp only [Exit.inBlock, Exit.then])
  exact bodyPost_ret (results_tmp2 rfl _ _ _) rfl ⟨rfl, rfl⟩
theorem stopW_nil (kind : Int) (w : World) : Calls Try.prog 9 #[.pointer none, .int .i64 kind] w fun e w' => e = .returned (.tuple #[]) ∧ w = w' := by
  go_enter Try.func9, Try.ntmps9
  go_wp2
  (try simp only [Exit.inBlock, Exit.then])
  exact bodyPost_ret (results_none rfl _ _ _) rfl ⟨rfl, rfl⟩
theorem usedW_nil (w : World) : Calls Try.prog 10 #[.pointer none] w fun e w' => e = .returned (.int .i64 0) ∧ w = w' := by
  go_enter Try.func10, Try.ntmps10
  go_wp2
  (try simp only [Exit.inBlock, Exit.then])
  exact bodyPost_ret (results_tmp rfl _ _ _) rfl ⟨rfl, rfl⟩
theorem eventsW_nil (w : World) : Calls Try.prog 13 #[.pointer none] w fun e w' => e = .returned (.slice none 0 0) ∧ w = w' := by
  go_enter Try.func13, Try.ntmps13
  go_wp2
  (try simp only [Exit.inBlock, Exit.then])
  exact bodyPost_ret (results_tmp rfl _ _ _) rfl ⟨rfl, rfl⟩
/-! ### Lists of events -/
theorem gEvW : Try.prog.eqGuardType Try.prog.depth 32 = false := by kernel_rfl
theorem apartFrom_same {x y : List EvZ} {k : Nat} {a : EvZ} (ha : x[k]? = some a) (hb : y[k]? = some a) : apartFrom k (x.drop k) (y.drop k) = apartFrom (k + 1) (x.drop (k + 1)) (y.drop (k + 1)) := by
  have h1 : x.drop k = a :: x.drop (k + 1) := by
    obtain ⟨h, rfl⟩ := List.getElem?_eq_some_iff.1 ha
    exact List.drop_eq_getElem_cons h
  have h2 : y.drop k = a :: y.drop (k + 1) := by
    obtain ⟨h, rfl⟩ := List.getElem?_eq_some_iff.1 hb
    exact List.drop_eq_getElem_cons h
  rw [h1, h2]
  simp [apartFrom]
theorem apartFrom_not {x y : List EvZ} {k : Nat} {a b : EvZ} (ha : x[k]? = some a) (hb : y[k]? = some b) (hn : a ≠ b) : apartFrom k (x.drop k) (y.drop k) = k := by
  have h1 : x.drop k = a :: x.drop (k + 1) := by
    obtain ⟨h, rfl⟩ := List.getElem?_eq_some_iff.1 ha
    exact List.drop_eq_getElem_cons h
  have h2 : y.drop k = b :: y.drop (k + 1) := by
    obtain ⟨h, rfl⟩ := List.getElem?_eq_some_iff.1 hb
    exact List.drop_eq_getElem_cons h
  rw [h1, h2]
  simp [apartFrom, hn]
theorem apartFrom_end {x y : List EvZ} {k : Nat} (hk : k = min x.length y.length) : apartFrom k (x.drop k) (y.drop k) = if x.length = y.length then -1 else (k : Int) := by
  by_cases h : x.length ≤ y.length
  · have hx : x.drop k = [] := List.drop_eq_nil_of_le (by omega)
    rw [hx]
    by_cases h2 : x.length = y.length
    · rw [if_pos h2, List.drop_eq_nil_of_le (by omega)]
      rfl
    · rw [if_neg h2]
      cases hy : y.drop k with
      | nil => have := congrArg List.length hy; simp at this; omega
      | cons a l => rfl
  · have hy : y.drop k = [] := List.drop_eq_nil_of_le (by omega)
    rw [hy, if_neg (by omega)]
    cases hx : x.drop k with
    | nil => have := congrArg List.length hx; simp at this; omega
    | cons a l => rfl
def ApartIs (w : World) (x y : List EvZ) (i : Value) (wr : World) : Prop := ∃ k : Nat, i = .int .i64 k ∧ k ≤ min x.length y.length ∧ apartL x y = apartFrom k (x.drop k) (y.drop k) ∧ Own w wr []
theorem ev_at {w : World} {a : Addr} {n : Nat} {e : EvZ} (h : ∀ j u, (cellsE e)[j]? = some u → w.cell? ((a.add (n * 7)).add j) = some u) : ∀ j u, (encE e).toList[j]? = some u → w.cell? ((a.add ((n : Int).toNat * 7)).add j) = some u := h
theorem min_two (x y : Nat) : (if (y : Int) < (x : Int) then (y : Int) else (x : Int)) = ((min x y : Nat) : Int) := by split <;> omega
set_option maxHeartbeats 1000000 in
theorem apartW_any {w0 : World} {a b : Value} {x y : List EvZ} (ha : Rd w0 7 a x.length (evL x)) (hb : Rd w0 7 b y.length (evL y)) (hx : x.length ≤ 4000000) (hy : y.length ≤ 4000000) :
    Calls Try.prog 14 #[a, b] w0 fun e w' => e = .returned (.int .i64 (apartL x y)) ∧ Below w0.heap.size w0 w' := by
  have hR := Own.start w0
  have HM := Lib.hid (min_two x.length y.length)
  obtain ⟨m, hm⟩ : ∃ m, min x.length y.length = m := ⟨_, rfl⟩
  rw [hm] at HM
  have HX := Lib.hid hm
  clear hm
  go_enter Try.func14, Try.ntmps14
  go_upto_region 1 with fail
  refine wp_region_tame hR [0, 1, 2, 3, 4, 5] rfl ?_
  repeat (refine wpT_step rfl ?_; first
    | ((with_reducible apply q_pl); (with_reducible apply t_lenRd Try.underlying26); (apply EvC.now; exact rfl); (first | exact ha | exact hb); (simp only [List.set_cons_succ, List.set_cons_zero]; exact rfl))
    | ((with_reducible apply q_pl); (with_reducible apply t_minK); (apply EvC.now; exact rfl); (apply EvC.now; exact rfl); exact HM.out; (simp only [List.set_cons_succ, List.set_cons_zero]; exact rfl))
    | ((first | (with_reducible apply q_pl) | ((with_reducible apply q_gd); (first | (apply GdBy.gt; exact rfl; exact rfl) | (apply GdBy.gf; exact rfl; exact rfl) | (apply GdBy.t; exact rfl; exact rfl) | (apply GdBy.f; exact rfl; exact rfl)))); (first | ((with_reducible first | apply t_move | apply t_assign | apply t_and | apply t_or | apply t_cmp | apply t_not | apply t_addr (fWd _ (by decide)) | apply t_one tWordsO | apply t_one tEvsO | apply t_one tIntO | apply t_one tWordE | apply t_part tEv) <;> (first | (apply EvC.gv; exact rfl; (with_reducible first | exact Imp.refl _ | (apply Imp.left; exact Imp.refl _) | (apply Imp.right; exact Imp.refl _) | (apply Imp.left; apply Imp.left; exact Imp.refl _))) | (apply EvC.now; exact rfl) | exact rfl | (with_reducible exact EvAll.nil) | (focus (repeat (first | apply EvAll.cons | exact EvAll.nil | (apply EvC.gv; exact rfl; (with_reducible first | exact Imp.refl _ | (apply Imp.left; exact Imp.refl _) | (apply Imp.right; exact Imp.refl _) | (apply Imp.left; apply Imp.left; exact Imp.refl _))) | (apply EvC.now; exact rfl))); done) | (exact ext_evW _) | (focus (repeat (first | apply List.Mem.head | apply List.Mem.tail | apply List.mem_append_right)))))); (simp only [List.set_cons_succ, List.set_cons_zero]; exact rfl)))
  refine wpT_nil ?_
  clear hR; intro w hR
  go_wp2_with fail
  go_loopw [11] (fun i wr => ApartIs w0 x y i wr) (fun i _ => m - (intOf i).toNat)
  case atStart => exact ⟨0, rfl, Nat.zero_le _, rfl, hR⟩
  case round =>
    clear hR
    obtain ⟨k, rfl, hk, hap, hR⟩ := hrel
    have HAP := Lib.hid hap
    clear hap
    rw [HX.out] at hk
    go_upto_if 12 with fail
    refine wp_cond_at (nm := decide (k < m)) rfl rfl (fun h => ?_) (fun h => ?_)
    · have hkm : k < m := by simpa using h
      clear h
      have hm := HX.out
      obtain ⟨ex, hex⟩ : ∃ e, x[k]? = some e := ⟨_, List.getElem?_eq_getElem (by omega)⟩
      obtain ⟨ey, hey⟩ : ∃ e, y[k]? = some e := ⟨_, List.getElem?_eq_getElem (by omega)⟩
      obtain ⟨aa, capa, rfl, hca⟩ := ha.el cellsE_len hex
      obtain ⟨ab, capb, rfl, hcb⟩ := hb.el cellsE_len hey
      have HA := Lib.hid (ev_at hca)
      have HB := Lib.hid (ev_at hcb)
      clear hca hcb
      have hkx : k < x.length := by omega
      have hky : k < y.length := by omega
      clear hm
      go_upto_region 4 with fail
      refine wp_region_rows hR [0, 1, 2, 3, 4, 5, 6, 7, 8] 0 (by kernel_rfl) (by kernel_rfl) (by kernel_rfl) rfl ?_
      clear hR; intro hR
      repeat (refine wpT_step rfl ?_; first
    | ((with_reducible apply q_pl); (with_reducible apply t_six Try.underlying26 iEv); (apply EvC.now; exact rfl); (apply EvC.now; exact rfl); (constructor <;> omega); (simp only [List.set_cons_succ, List.set_cons_zero]; exact rfl))
    | ((with_reducible apply q_pl); (with_reducible apply t_oldMany tEv); (apply EvC.now; exact rfl); (first | exact HA.out | exact HB.out); (exact rfl); (simp only [List.set_cons_succ, List.set_cons_zero]; exact rfl))
    | ((with_reducible apply q_pl); (with_reducible apply t_nel gEvW); (apply EvC.now; exact rfl); (apply EvC.now; exact rfl); (exact eqB_ev _ _); (simp only [List.set_cons_succ, List.set_cons_zero]; exact rfl))
    | ((first | (with_reducible apply q_pl) | ((with_reducible apply q_gd); (first | (apply GdBy.gt; exact rfl; exact rfl) | (apply GdBy.gf; exact rfl; exact rfl) | (apply GdBy.t; exact rfl; exact rfl) | (apply GdBy.f; exact rfl; exact rfl)))); (first | ((with_reducible first | apply t_move | apply t_assign | apply t_and | apply t_or | apply t_cmp | apply t_not | apply t_addr (fWd _ (by decide)) | apply t_one tWordsO | apply t_one tEvsO | apply t_one tIntO | apply t_one tWordE | apply t_part tEv) <;> (first | (apply EvC.gv; exact rfl; (with_reducible first | exact Imp.refl _ | (apply Imp.left; exact Imp.refl _) | (apply Imp.right; exact Imp.refl _) | (apply Imp.left; apply Imp.left; exact Imp.refl _))) | (apply EvC.now; exact rfl) | exact rfl | (with_reducible exact EvAll.nil) | (focus (repeat (first | apply EvAll.cons | exact EvAll.nil | (apply EvC.gv; exact rfl; (with_reducible first | exact Imp.refl _ | (apply Imp.left; exact Imp.refl _) | (apply Imp.right; exact Imp.refl _) | (apply Imp.left; apply Imp.left; exact Imp.refl _))) | (apply EvC.now; exact rfl))); done) | (exact ext_evW _) | (focus (repeat (first | apply List.Mem.head | apply List.Mem.tail | apply List.mem_append_right)))))); (simp only [List.set_cons_succ, List.set_cons_zero]; exact rfl)))
      refine wpG_end hR (by kernel_rfl) ?_
      clear hR; intro w hR
      go_upto_if 22 with fail
      by_cases hee : ex = ey
      · subst hee
        have HE := Lib.hid (apartFrom_same hex hey)
        refine wp_cond_at (nm := false) rfl (by simp) (fun h => absurd h (by decide)) (fun _ => ?_)
        go_wp2_with fail
        go_round
        case rel => exact ⟨k + 1, rfl, by rw [HX.out]; omega, by rw [HAP.out, HE.out], hR⟩
        case measure => simp [intOf]; omega
      · have HE := Lib.hid (apartFrom_not hex hey hee)
        refine wp_cond_at (nm := true) rfl (by simp [hee]) (fun _ => ?_) (fun h => absurd h (by decide))
        go_wp2_with fail
        go_ret
        exact ⟨by rw [HAP.out, HE.out]; rfl, hR.below⟩
    · have hkm : k = m := by simp at h; omega
      clear h
      subst hkm
      have HE := Lib.hid (apartFrom_end (k := k) HX.out.symm)
      go_upto_region 7 with fail
      refine wp_region_tame hR [0, 1, 2, 3, 4] rfl ?_
      repeat (refine wpT_step rfl ?_; first
    | ((with_reducible apply q_pl); (with_reducible apply t_lenRd Try.underlying26); (apply EvC.now; exact rfl); (first | exact ha | exact hb); (simp only [List.set_cons_succ, List.set_cons_zero]; exact rfl))
    | ((with_reducible apply q_pl); (with_reducible apply t_minK); (apply EvC.now; exact rfl); (apply EvC.now; exact rfl); exact HM.out; (simp only [List.set_cons_succ, List.set_cons_zero]; exact rfl))
    | ((first | (with_reducible apply q_pl) | ((with_reducible apply q_gd); (first | (apply GdBy.gt; exact rfl; exact rfl) | (apply GdBy.gf; exact rfl; exact rfl) | (apply GdBy.t; exact rfl; exact rfl) | (apply GdBy.f; exact rfl; exact rfl)))); (first | ((with_reducible first | apply t_move | apply t_assign | apply t_and | apply t_or | apply t_cmp | apply t_not | apply t_addr (fWd _ (by decide)) | apply t_one tWordsO | apply t_one tEvsO | apply t_one tIntO | apply t_one tWordE | apply t_part tEv) <;> (first | (apply EvC.gv; exact rfl; (with_reducible first | exact Imp.refl _ | (apply Imp.left; exact Imp.refl _) | (apply Imp.right; exact Imp.refl _) | (apply Imp.left; apply Imp.left; exact Imp.refl _))) | (apply EvC.now; exact rfl) | exact rfl | (with_reducible exact EvAll.nil) | (focus (repeat (first | apply EvAll.cons | exact EvAll.nil | (apply EvC.gv; exact rfl; (with_reducible first | exact Imp.refl _ | (apply Imp.left; exact Imp.refl _) | (apply Imp.right; exact Imp.refl _) | (apply Imp.left; apply Imp.left; exact Imp.refl _))) | (apply EvC.now; exact rfl))); done) | (exact ext_evW _) | (focus (repeat (first | apply List.Mem.head | apply List.Mem.tail | apply List.mem_append_right)))))); (simp only [List.set_cons_succ, List.set_cons_zero]; exact rfl)))
      refine wpT_nil ?_
      clear hR; intro w hR
      go_upto_if 29 with fail
      by_cases hl : x.length = y.length
      · refine wp_cond_at (nm := true) rfl (by simp [hl]) (fun _ => ?_) (fun h => absurd h (by decide))
        go_wp2_with fail
        go_ret
        exact ⟨by rw [HAP.out, HE.out, if_pos hl]; rfl, hR.below⟩
      · refine wp_cond_at (nm := false) rfl (by simp; omega) (fun h => absurd h (by decide)) (fun _ => ?_)
        go_upto_region 9 with fail
        refine wp_region_tame hR [0, 1, 2, 3, 4, 5] rfl ?_
        repeat (refine wpT_step rfl ?_; first
    | ((with_reducible apply q_pl); (with_reducible apply t_lenRd Try.underlying26); (apply EvC.now; exact rfl); (first | exact ha | exact hb); (simp only [List.set_cons_succ, List.set_cons_zero]; exact rfl))
    | ((with_reducible apply q_pl); (with_reducible apply t_minK); (apply EvC.now; exact rfl); (apply EvC.now; exact rfl); exact HM.out; (simp only [List.set_cons_succ, List.set_cons_zero]; exact rfl))
    | ((first | (with_reducible apply q_pl) | ((with_reducible apply q_gd); (first | (apply GdBy.gt; exact rfl; exact rfl) | (apply GdBy.gf; exact rfl; exact rfl) | (apply GdBy.t; exact rfl; exact rfl) | (apply GdBy.f; exact rfl; exact rfl)))); (first | ((with_reducible first | apply t_move | apply t_assign | apply t_and | apply t_or | apply t_cmp | apply t_not | apply t_addr (fWd _ (by decide)) | apply t_one tWordsO | apply t_one tEvsO | apply t_one tIntO | apply t_one tWordE | apply t_part tEv) <;> (first | (apply EvC.gv; exact rfl; (with_reducible first | exact Imp.refl _ | (apply Imp.left; exact Imp.refl _) | (apply Imp.right; exact Imp.refl _) | (apply Imp.left; apply Imp.left; exact Imp.refl _))) | (apply EvC.now; exact rfl) | exact rfl | (with_reducible exact EvAll.nil) | (focus (repeat (first | apply EvAll.cons | exact EvAll.nil | (apply EvC.gv; exact rfl; (with_reducible first | exact Imp.refl _ | (apply Imp.left; exact Imp.refl _) | (apply Imp.right; exact Imp.refl _) | (apply Imp.left; apply Imp.left; exact Imp.refl _))) | (apply EvC.now; exact rfl))); done) | (exact ext_evW _) | (focus (repeat (first | apply List.Mem.head | apply List.Mem.tail | apply List.mem_append_right)))))); (simp only [List.set_cons_succ, List.set_cons_zero]; exact rfl)))
        refine wpT_nil ?_
        clear hR; intro w hR
        go_wp2_with fail
        go_ret
        exact ⟨by rw [HAP.out, HE.out, if_neg hl]; rfl, hR.below⟩
theorem sameW_any {w : World} {a b : Value} {x y : List EvZ} (ha : Rd w 7 a x.length (evL x)) (hb : Rd w 7 b y.length (evL y)) (hx : x.length ≤ 4000000) (hy : y.length ≤ 4000000) :
    Calls Try.prog 12 #[a, b] w fun e w' => e = .returned (.bool (decide (apartL x y < 0))) ∧ Below w.heap.size w w' := by
  obtain ⟨z, hz⟩ : ∃ z, apartL x y = z := ⟨_, rfl⟩
  have HC := apartW_any ha hb hx hy
  rw [hz] at *
  go_enter Try.func12, Try.ntmps12
  go_wp2_with fail
  refine HC.mono ?_
  rintro e w' ⟨rfl, hb⟩
  go_wp2_with fail
  go_ret
  exact ⟨rfl, hb⟩

end Go.Proofs.Ytcbjhakdejdgcaa
