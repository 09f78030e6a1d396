








/- slices.Concat of slices of bytes that lie somewhere, and slices.Grow of none. No statement of the seat is proved here. -/
import Derived.Test.YtalgadinoaeihaaAppG
import Derived.Test.YtalgadinoaeihaaBase
import Derived.Test.YtalgadinoaeihaaIdxA
import Derived.Test.YtalgadinoaeihaaRecT
namespace Go.Proofs.Ytalgadinoaeihaa
open Go.ChangeShapes Go.WideShapes Go.ChangeAt Go.RowKit
set_option linter.unusedVariables false
set_option linter.unusedSimpArgs false

/-! ### An append of zeros to nothing -/
theorem run_append_zeros {P : Program} {w : World} {t u ty e : TypeId} {q q' : IntKind} {i : TypeInfo} {z : Value} (ht : P.underlying t = some (.slice e)) (hu : P.underlying u = some (.int q)) (hi : P.info? e = some i) (hz : i.zero = some z) (hb : i.bytes = 1) (hs : i.size = 1) {n : Nat} (h0 : 0 < n) (hn : n ≤ 1000000) :
    (Builtin.append_ #[t, u] ty #[.slice none 0 0, .int q' n]).run P w =
      .ok (.slice (some ⟨w.heap.size, 0, none⟩) n (grownCap w n 0 e)) (w.drew.alloc (.cells (Builtin.zeroCells z.cells n ++ Builtin.zeroCells z.cells (grownCap w n 0 e - n)) e)) := by
  have hne : n ≠ 0 := by omega
  have h63' : ¬ (9223372036854775807 < (n : Int)) := by omega
  have h48' : ¬ (281474976710656 < Builtin.nextslicecap n 0) := by rw [nextslicecap_zero h0]; omega
  have hw : IntKind.i64.wrap (n : Int) = (n : Int) := IntWalk.i64_in _ (by omega)
  have hneg : ¬ ((n : Int) < 0) := by omega
  have hbig : ¬ (281474976710656 < (n : Int)) := by omega
  simp [Builtin.append_, run_underlying ht, run_underlying hu, sizeOf, typeInfo, zeroValue, hi, hz, hb, hs, asInt, asIntOf, hw, hneg, hbig, hne, h63', h48', Question.forced, run_firstCells_none, newRow, grownCap]
theorem zero_size (z : Array Value) (h : z.size = 1) (n : Nat) : (Builtin.zeroCells z n).size = n := by simp [Builtin.zeroCells, h]
section
variable {P : Program} {ops : Array Oper} {rest : List Oper} {Q : Exit → Act → World → Prop} {ls : List Value} {ds : List Deferred} {w0 w : World} {l : List RowT} {tp : TypeId} {pos : String} {af : Array Edge} {gd : Option (Nat × Bool)} {d : Tmp} {t u e : TypeId}
theorem wpList_appZero (hR : Own w0 w l) (ht : SliceB P t e 1 1) {q q' : IntKind} (hu : P.underlying u = some (.int q)) {x y : Operand} {n : Nat}
    (hgd : Region.wanted ⟨some d, .call { callee := .builtin .append, args := #[x, y], argTypes := #[t, u] }, tp, pos, af, gd⟩ (yielded ops ls.toArray) = true)
    (hx : evalL ls x = some (.slice none 0 0)) (hy : evalL ls y = some (.int q' n)) (h0 : 0 < n) (hn : n ≤ 1000000)
    (h : ∀ g cap cur w', Own w0 w' ((g, cur, e) :: l) → n ≤ cap → cap ≤ maxLen → cur.size = cap → wpList P ops Q rest ⟨(ls.set d (.slice (some ⟨g, 0, none⟩) n cap)).toArray, ds⟩ w') :
    wpList P ops Q (⟨some d, .call { callee := .builtin .append, args := #[x, y], argTypes := #[t, u] }, tp, pos, af, gd⟩ :: rest) ⟨ls.toArray, ds⟩ w := by
  obtain ⟨i, z, hinf, hz, hsz, hby, hzs⟩ := ht.info
  have hrun := run_append_zeros (P := P) (w := w) (ty := tp) (q' := q') ht.ty hu hinf hz hby hsz h0 hn
  have hge := grownCap_ge w n 0 e
  have hle := grownCap_le_maxLen w n 0 e (by simp only [maxLen]; omega)
  generalize hc : grownCap w n 0 e = cap at *
  have hr : (execOp (⟨ls.toArray, ds⟩ : Act).eval ⟨some d, .call { callee := .builtin .append, args := #[x, y], argTypes := #[t, u] }, tp, pos, af, gd⟩).run P w = .ok (.value (.slice (some ⟨w.heap.size, 0, none⟩) n cap)) (w.drew.alloc (.cells (Builtin.zeroCells z.cells n ++ Builtin.zeroCells z.cells (cap - n)) e)) := by
    unfold execOp
    simp only [resolve, invoke, builtin, Sem.run_bind, Sem.run_pure, Result.andThen_ok, List.map_toArray, List.map_cons, List.map_nil, eval_of hx, eval_of hy, hrun]
  refine wpList_run_value hgd hr ?_
  rw [put_list]
  refine h _ _ _ _ ((hR.grow (Below.refl _ w).drew).alloc _ _) hge hle ?_
  rw [Array.size_append, zero_size _ hzs, zero_size _ hzs]
  omega
end
/-! ### What grows out of nothing -/
theorem tBytesT : SliceTy Try.prog 22 5 := .of (z := .int .u8 0) Try.underlying22 (by kernel_rfl) (b := 1) (by decide) rfl
theorem grow_any (n : Nat) (w0 : World) (hn : n ≤ 1000000) :
    Calls Try.prog 37 #[.slice none 0 0, .int .i64 n] w0 fun e w' => ∃ s v, e = .returned v ∧ Own w0 w' s ∧ Sl 5 1 s v 0 [] := by
  have hR := Own.start w0
  have H0 := Lib.hid (show cmpB .lss (n : Int) 0 = some false by simp [cmpB])
  have H1 := Lib.hid (show IntKind.i64.wrap ((n : Int) - 0) = n by rw [Int.sub_zero]; exact IntWalk.i64_in _ (by omega))
  have H2 := Lib.hid (show IntKind.i64.wrap ((0 : Int) - 0) = 0 from rfl)
  by_cases h0 : 0 < n
  · have H3 := Lib.hid (show cmpB .gtr (n : Int) 0 = some true by simp [cmpB]; omega)
    go_enter Try.func37, Try.ntmps37
    go_wp2_with (first
    | ((with_reducible apply q_ls hR); exact rfl; (with_reducible apply t_cmp); (apply EvC.now; exact rfl); (apply EvC.now; exact rfl); (first | exact H0.out | exact H3.out); (simp only [List.set_cons_succ, List.set_cons_zero]; exact rfl); clear hR; intro w hR)
    | ((with_reducible apply q_ls hR); exact rfl; (with_reducible apply t_numE (op := .sub)); (apply EvC.now; exact rfl); (apply EvC.now; exact rfl); exact rfl; (first | exact H1.out | exact H2.out); (simp only [List.set_cons_succ, List.set_cons_zero]; exact rfl); clear hR; intro w hR)
    | ((with_reducible apply wpList_appZero hR tBytesI Try.underlying3); exact rfl; exact rfl; exact rfl; exact h0; exact hn; clear hR; intro g cap cur w hR hge hle hsz; simp only [List.set_cons_succ, List.set_cons_zero])
    | ((with_reducible apply q_ls hR); exact rfl; (with_reducible apply t_first tBytesT); (apply EvC.now; exact rfl); (apply EvC.now; exact rfl); exact rfl; exact Nat.zero_le _; (simp only [List.set_cons_succ, List.set_cons_zero]; exact rfl); clear hR; intro w hR)
    | ((with_reducible apply q_ls hR); exact rfl; ((with_reducible first | apply t_addr (fRec _ (by decide)) | apply t_one tByteR | apply t_one tSlR | apply t_one tIntR) <;> (first | (apply EvC.gv; exact rfl; (with_reducible first | exact Imp.refl _ | (apply Imp.left; exact Imp.refl _) | (apply Imp.right; exact Imp.refl _) | (apply Imp.left; apply Imp.left; exact Imp.refl _))) | (apply EvC.now; exact rfl) | exact rfl | (with_reducible exact EvAll.nil) | (focus (repeat (first | apply EvAll.cons | exact EvAll.nil | (apply EvC.gv; exact rfl; (with_reducible first | exact Imp.refl _ | (apply Imp.left; exact Imp.refl _) | (apply Imp.right; exact Imp.refl _) | (apply Imp.left; apply Imp.left; exact Imp.refl _))) | (apply EvC.now; exact rfl))); done) | exact rfl | (focus (repeat (first | apply List.Mem.head | apply List.Mem.tail | apply List.mem_append_right))))); (simp only [List.set_cons_succ, List.set_cons_zero]; exact rfl); clear hR; intro w hR))
    go_ret
    exact ⟨[(g, cur, 5)], _, rfl, hR, ⟨rfl, .inr ⟨g, cap, cur, rfl, rfl, Nat.zero_le _, hle, by rw [hsz, Nat.mul_one], rfl⟩⟩⟩
  · obtain rfl : n = 0 := by omega
    have H3 := Lib.hid (show cmpB .gtr ((0 : Nat) : Int) 0 = some false from rfl)
    go_enter Try.func37, Try.ntmps37
    go_wp2_with (first
    | ((with_reducible apply q_ls hR); exact rfl; (with_reducible apply t_cmp); (apply EvC.now; exact rfl); (apply EvC.now; exact rfl); (first | exact H0.out | exact H3.out); (simp only [List.set_cons_succ, List.set_cons_zero]; exact rfl); clear hR; intro w hR)
    | ((with_reducible apply q_ls hR); exact rfl; ((with_reducible first | apply t_addr (fRec _ (by decide)) | apply t_one tByteR | apply t_one tSlR | apply t_one tIntR) <;> (first | (apply EvC.gv; exact rfl; (with_reducible first | exact Imp.refl _ | (apply Imp.left; exact Imp.refl _) | (apply Imp.right; exact Imp.refl _) | (apply Imp.left; apply Imp.left; exact Imp.refl _))) | (apply EvC.now; exact rfl) | exact rfl | (with_reducible exact EvAll.nil) | (focus (repeat (first | apply EvAll.cons | exact EvAll.nil | (apply EvC.gv; exact rfl; (with_reducible first | exact Imp.refl _ | (apply Imp.left; exact Imp.refl _) | (apply Imp.right; exact Imp.refl _) | (apply Imp.left; apply Imp.left; exact Imp.refl _))) | (apply EvC.now; exact rfl))); done) | exact rfl | (focus (repeat (first | apply List.Mem.head | apply List.Mem.tail | apply List.mem_append_right))))); (simp only [List.set_cons_succ, List.set_cons_zero]; exact rfl); clear hR; intro w hR))
    go_ret
    exact ⟨[], _, rfl, hR, .nil _ _⟩
/-! ### Slices, one behind the other -/
abbrev Piece := Value × List Int
def catL (ps : List Piece) : List Int := ps.flatMap (·.2)
def cellP (p : Piece) : List Value := [p.1]
theorem cat_more {ps : List Piece} {k : Nat} {p : Piece} (h : ps[k]? = some p) : catL (ps.take (k + 1)) = catL (ps.take k) ++ p.2 := by
  unfold catL
  rw [List.take_add_one, h, List.flatMap_append]; simp
theorem cat_len : ∀ {ps : List Piece}, (∀ p ∈ ps, p.2.length ≤ 2000) → (catL ps).length ≤ 2000 * ps.length
  | [], _ => by simp [catL]
  | p :: ps, h => by
    have h1 := cat_len (ps := ps) fun q hq => h q (.tail _ hq)
    have h2 := h p (.head _)
    unfold catL at h1 ⊢
    simp only [List.flatMap_cons, List.length_append, List.length_cons]; omega
theorem iBytesC : (Try.prog.info? 22).map (·.size) = some 1 := by kernel_rfl
theorem tBytesC : OneTy Try.prog 22 := .of Try.underlying22 rfl iBytesC
set_option maxHeartbeats 1000000 in
theorem concat_any {w0 : World} {v : Value} {ps : List Piece} (hV : Rd w0 1 v ps.length (ps.flatMap cellP)) (hb : ∀ p ∈ ps, SrcW w0 p.1 p.2) (hl : ∀ p ∈ ps, p.2.length ≤ 2000) (hn : ps.length ≤ 100) :
    Calls Try.prog 24 #[v] w0 fun e w' => RowsB w0 w' e (catL ps) := by
  have hR := Own.start w0
  have hlt (k : Nat) : (catL (ps.take k)).length ≤ 200000 := by
    have h1 := cat_len (ps := ps.take k) fun p hp => hl p (List.mem_of_mem_take hp)
    rw [List.length_take] at h1
    omega
  go_enter Try.func24, Try.ntmps24
  go_wp2_with (first
    | ((with_reducible apply q_ls hR); exact rfl; (with_reducible apply t_lenRd Try.underlying66); (apply EvC.now; exact rfl); exact hV; (simp only [List.set_cons_succ, List.set_cons_zero]; exact rfl); clear hR; intro w hR))
  go_loopw [3, 11] (fun b i wr => ∃ k : Nat, b = .int .i64 ((catL (ps.take k)).length : Nat) ∧ i = .int .i64 k ∧ k ≤ ps.length ∧ Own w0 wr []) (fun _ i _ => ps.length - (intOf i).toNat)
  case atStart => exact ⟨0, rfl, rfl, Nat.zero_le _, hR⟩
  case round =>
    clear hR
    obtain ⟨k, rfl, rfl, hk, hR⟩ := hrel
    by_cases hkl : k < ps.length
    · obtain ⟨p, hp⟩ : ∃ p, ps[k]? = some p := ⟨_, List.getElem?_eq_getElem hkl⟩
      have hpm := List.mem_of_getElem? hp
      have hbp := hb p hpm
      obtain ⟨a, cap, rfl, hc⟩ := hV.el (f := cellP) (fun _ => rfl) hp
      have HC := Lib.hid (show w0.cell? (a.add (k * 1)) = some p.1 from hc 0 _ rfl)
      have h1 := hlt k
      have h2 := hlt (k + 1)
      have hm := cat_more hp
      rw [hm, List.length_append] at h2
      have HM := Lib.hid hm
      obtain ⟨x, hx⟩ : ∃ x, (catL (ps.take k)).length = x := ⟨_, rfl⟩
      rw [hx] at h1 h2 ⊢
      have HA := Lib.hid (show IntKind.i64.wrap ((x : Int) + (p.2.length : Nat)) = ((x + p.2.length : Nat) : Int) by rw [← Int.natCast_add]; exact IntWalk.i64_in _ (by omega))
      have HX := Lib.hid hx
      have H0 := Lib.hid (show cmpB .lss ((x + p.2.length : Nat) : Int) 0 = some false by simp [cmpB]; omega)
      have HL := Lib.hid (show cmpB .lss (k : Int) (ps.length : Int) = some true by simp [cmpB]; omega)
      clear hm hx hc hp
      go_wp2_with (first
    | ((with_reducible apply q_ls hR); exact rfl; (with_reducible apply t_six Try.underlying66 iBytesC); (apply EvC.now; exact rfl); (apply EvC.now; exact rfl); (constructor <;> omega); (simp only [List.set_cons_succ, List.set_cons_zero]; exact rfl); clear hR; intro w hR)
    | ((with_reducible apply q_ls hR); exact rfl; (with_reducible apply t_oldCell tBytesC); (apply EvC.now; exact rfl); (simpa using HC.out); (simp only [List.set_cons_succ, List.set_cons_zero]; exact rfl); clear hR; intro w hR)
    | ((with_reducible apply q_ls hR); exact rfl; (with_reducible apply t_lenRd Try.underlying22); (apply EvC.now; exact rfl); exact hbp.rd; (simp only [List.set_cons_succ, List.set_cons_zero]; exact rfl); clear hR; intro w hR)
    | ((with_reducible apply q_ls hR); exact rfl; (with_reducible apply t_numE (op := .add)); (apply EvC.now; exact rfl); (apply EvC.now; exact rfl); exact rfl; exact HA.out; (simp only [List.set_cons_succ, List.set_cons_zero]; exact rfl); clear hR; intro w hR)
    | ((with_reducible apply q_ls hR); exact rfl; (with_reducible apply t_cmp); (apply EvC.now; exact rfl); (apply EvC.now; exact rfl); (first | exact H0.out | exact HL.out); (simp only [List.set_cons_succ, List.set_cons_zero]; exact rfl); clear hR; intro w hR)
    | ((with_reducible apply q_ls hR); exact rfl; ((with_reducible first | apply t_addr (fRec _ (by decide)) | apply t_one tByteR | apply t_one tSlR | apply t_one tIntR) <;> (first | (apply EvC.gv; exact rfl; (with_reducible first | exact Imp.refl _ | (apply Imp.left; exact Imp.refl _) | (apply Imp.right; exact Imp.refl _) | (apply Imp.left; apply Imp.left; exact Imp.refl _))) | (apply EvC.now; exact rfl) | exact rfl | (with_reducible exact EvAll.nil) | (focus (repeat (first | apply EvAll.cons | exact EvAll.nil | (apply EvC.gv; exact rfl; (with_reducible first | exact Imp.refl _ | (apply Imp.left; exact Imp.refl _) | (apply Imp.right; exact Imp.refl _) | (apply Imp.left; apply Imp.left; exact Imp.refl _))) | (apply EvC.now; exact rfl))); done) | exact rfl | (focus (repeat (first | apply List.Mem.head | apply List.Mem.tail | apply List.mem_append_right))))); (simp only [List.set_cons_succ, List.set_cons_zero]; exact rfl); clear hR; intro w hR))
      go_round
      case rel =>
        refine ⟨k + 1, ?_, rfl, by omega, hR⟩
        rw [HM.out, List.length_append, HX.out]
      case measure => simp [intOf]; omega
    · have hke : ps.take k = ps := List.take_of_length_le (by omega)
      have HL := Lib.hid (show cmpB .lss (k : Int) (ps.length : Int) = some false by simp [cmpB]; omega)
      rw [hke]
      have hlp := hlt k
      rw [hke] at hlp
      have HG := Lib.hid (fun w => grow_any (catL ps).length w (by omega))
      clear hke
      go_wp2_with (first
    | ((with_reducible apply q_ls hR); exact rfl; (with_reducible apply t_lenRd Try.underlying66); (apply EvC.now; exact rfl); exact hV; (simp only [List.set_cons_succ, List.set_cons_zero]; exact rfl); clear hR; intro w hR)
    | ((with_reducible apply q_ls hR); exact rfl; (with_reducible apply t_cmp); (apply EvC.now; exact rfl); (apply EvC.now; exact rfl); exact HL.out; (simp only [List.set_cons_succ, List.set_cons_zero]; exact rfl); clear hR; intro w hR)
    | (go_at_call 37; refine (HG.out _).mono ?_; rintro e w' ⟨s1, v1, rfl, hO, hS1⟩; replace hR := hR.join hO; clear hO; rw [List.append_nil] at hR)
    | ((with_reducible apply q_ls hR); exact rfl; ((with_reducible first | apply t_addr (fRec _ (by decide)) | apply t_one tByteR | apply t_one tSlR | apply t_one tIntR) <;> (first | (apply EvC.gv; exact rfl; (with_reducible first | exact Imp.refl _ | (apply Imp.left; exact Imp.refl _) | (apply Imp.right; exact Imp.refl _) | (apply Imp.left; apply Imp.left; exact Imp.refl _))) | (apply EvC.now; exact rfl) | exact rfl | (with_reducible exact EvAll.nil) | (focus (repeat (first | apply EvAll.cons | exact EvAll.nil | (apply EvC.gv; exact rfl; (with_reducible first | exact Imp.refl _ | (apply Imp.left; exact Imp.refl _) | (apply Imp.right; exact Imp.refl _) | (apply Imp.left; apply Imp.left; exact Imp.refl _))) | (apply EvC.now; exact rfl))); done) | exact rfl | (focus (repeat (first | apply List.Mem.head | apply List.Mem.tail | apply List.mem_append_right))))); (simp only [List.set_cons_succ, List.set_cons_zero]; exact rfl); clear hR; intro w hR))
      go_loopw [6, 27] (fun b i wr => ∃ (k : Nat) (s : List RowT), i = .int .i64 k ∧ k ≤ ps.length ∧ Sl 5 1 s b (catL (ps.take k)).length (cellsB (catL (ps.take k))) ∧ Own w0 wr s) (fun _ i _ => ps.length - (intOf i).toNat)
      case atStart => exact ⟨0, s1, rfl, Nat.zero_le _, hS1, hR⟩
      case round =>
        clear hR hS1 HL hk hkl
        obtain ⟨k, s, rfl, hk, hS, hR⟩ := hrel
        by_cases hkl : k < ps.length
        · obtain ⟨p, hp⟩ : ∃ p, ps[k]? = some p := ⟨_, List.getElem?_eq_getElem hkl⟩
          have hpm := List.mem_of_getElem? hp
          have hbp := hb p hpm
          have hpl := hl p hpm
          obtain ⟨a, cap, rfl, hc⟩ := hV.el (f := cellP) (fun _ => rfl) hp
          have HC := Lib.hid (show w0.cell? (a.add (k * 1)) = some p.1 from hc 0 _ rfl)
          have h1 := hlt k
          have HM := Lib.hid (cat_more hp)
          obtain ⟨xs, hxs⟩ : ∃ xs, catL (ps.take k) = xs := ⟨_, rfl⟩
          rw [hxs] at h1 hS HM
          have HL := Lib.hid (show cmpB .lss (k : Int) (ps.length : Int) = some true by simp [cmpB]; omega)
          clear hc hp hxs hlp HG
          rw [← List.append_nil s] at hR
          go_wp2_with (first
    | ((with_reducible apply q_ls hR); exact rfl; (with_reducible apply t_six Try.underlying66 iBytesC); (apply EvC.now; exact rfl); (apply EvC.now; exact rfl); (constructor <;> omega); (simp only [List.set_cons_succ, List.set_cons_zero]; exact rfl); clear hR; intro w hR)
    | ((with_reducible apply q_ls hR); exact rfl; (with_reducible apply t_oldCell tBytesC); (apply EvC.now; exact rfl); (simpa using HC.out); (simp only [List.set_cons_succ, List.set_cons_zero]; exact rfl); clear hR; intro w hR)
    | ((with_reducible apply q_ls hR); exact rfl; (with_reducible apply t_cmp); (apply EvC.now; exact rfl); (apply EvC.now; exact rfl); exact HL.out; (simp only [List.set_cons_succ, List.set_cons_zero]; exact rfl); clear hR; intro w hR)
    | ((with_reducible apply wpList_appG hR tBytesI); exact rfl; exact rfl; exact rfl; exact hS; (exact Les.head (s := s)); (exact (hbp.own hR).rd); (simp [maxLen]; omega); (simp; omega); clear hR hS; intro sx v w hR hS; simp only [List.set_cons_succ, List.set_cons_zero])
    | ((with_reducible apply q_ls hR); exact rfl; ((with_reducible first | apply t_addr (fRec _ (by decide)) | apply t_one tByteR | apply t_one tSlR | apply t_one tIntR) <;> (first | (apply EvC.gv; exact rfl; (with_reducible first | exact Imp.refl _ | (apply Imp.left; exact Imp.refl _) | (apply Imp.right; exact Imp.refl _) | (apply Imp.left; apply Imp.left; exact Imp.refl _))) | (apply EvC.now; exact rfl) | exact rfl | (with_reducible exact EvAll.nil) | (focus (repeat (first | apply EvAll.cons | exact EvAll.nil | (apply EvC.gv; exact rfl; (with_reducible first | exact Imp.refl _ | (apply Imp.left; exact Imp.refl _) | (apply Imp.right; exact Imp.refl _) | (apply Imp.left; apply Imp.left; exact Imp.refl _))) | (apply EvC.now; exact rfl))); done) | exact rfl | (focus (repeat (first | apply List.Mem.head | apply List.Mem.tail | apply List.mem_append_right))))); (simp only [List.set_cons_succ, List.set_cons_zero]; exact rfl); clear hR; intro w hR))
          go_round
          case rel =>
            refine ⟨k + 1, sx, rfl, by omega, ?_, by rw [List.append_nil] at hR; exact hR⟩
            rw [HM.out, List.length_append, cellsB_append]
            exact hS
          case measure => simp [intOf]; omega
        · have hke : ps.take k = ps := List.take_of_length_le (by omega)
          have HL := Lib.hid (show cmpB .lss (k : Int) (ps.length : Int) = some false by simp [cmpB]; omega)
          rw [hke] at hS
          clear hke
          go_wp2_with (first
    | ((with_reducible apply q_ls hR); exact rfl; (with_reducible apply t_cmp); (apply EvC.now; exact rfl); (apply EvC.now; exact rfl); exact HL.out; (simp only [List.set_cons_succ, List.set_cons_zero]; exact rfl); clear hR; intro w hR)
    | ((with_reducible apply q_ls hR); exact rfl; ((with_reducible first | apply t_addr (fRec _ (by decide)) | apply t_one tByteR | apply t_one tSlR | apply t_one tIntR) <;> (first | (apply EvC.gv; exact rfl; (with_reducible first | exact Imp.refl _ | (apply Imp.left; exact Imp.refl _) | (apply Imp.right; exact Imp.refl _) | (apply Imp.left; apply Imp.left; exact Imp.refl _))) | (apply EvC.now; exact rfl) | exact rfl | (with_reducible exact EvAll.nil) | (focus (repeat (first | apply EvAll.cons | exact EvAll.nil | (apply EvC.gv; exact rfl; (with_reducible first | exact Imp.refl _ | (apply Imp.left; exact Imp.refl _) | (apply Imp.right; exact Imp.refl _) | (apply Imp.left; apply Imp.left; exact Imp.refl _))) | (apply EvC.now; exact rfl))); done) | exact rfl | (focus (repeat (first | apply List.Mem.head | apply List.Mem.tail | apply List.mem_append_right))))); (simp only [List.set_cons_succ, List.set_cons_zero]; exact rfl); clear hR; intro w hR))
          go_ret
          exact ⟨s, _, rfl, hR, hS⟩
end Go.Proofs.Ytalgadinoaeihaa
