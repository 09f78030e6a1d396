









/- slices.Chunk and slices.Clone on bytes that lie somewhere: what the iterator hands out, whatever the loop's body does to blocks of its own. No statement of the seat is proved here. -/
import Derived.Test.YthklhkpikaopfaaRng
import Derived.Test.YthklhkpikaopfaaRecT
import Derived.Test.YthklhkpikaopfaaBase
import Derived.Test.YthklhkpikaopfaaIdx
import Derived.RangeFuncStops
import Derived.Shelf.Abstract
import Derived.Shelf.RegionOpen
import Derived.OwnWalkIn
import Derived.TacticsInMore
import Derived.LoopNIn
import Derived.LoopIn
namespace Go.Proofs.Ythklhkpikaopfaa
open Go.ChangeShapes Go.WideShapes Go.ChangeAt Go.RowKit
set_option linter.unusedVariables false
set_option linter.unusedSimpArgs false

/-! ### s[l:h:h] -/
def cutMV (v : Value) (l h : Nat) : Value := match v with
  | .slice a _ _ => .slice (if h = l then a else a.map (·.add l)) (h - l) (h - l)
  | v => v
theorem SrcW.cutM {w : World} {v : Value} {bs : List Int} (hS : SrcW w v bs) (l h : Nat) (hl : l ≤ h) (hh : h ≤ bs.length) : SrcW w (cutMV v l h) ((bs.take h).drop l) := by
  refine ⟨fun n hn => hS.ok n (List.mem_of_mem_take (List.mem_of_mem_drop hn)), ?_⟩
  rcases hS.way with ⟨rfl, rfl⟩ | ⟨a, cap, rfl, hle, hc⟩
  · have h0 : h = 0 := by simpa using hh
    subst h0
    have l0 : l = 0 := by omega
    subst l0
    exact .inl ⟨rfl, rfl⟩
  · have hlen : ((bs.take h).drop l).length = h - l := by rw [List.length_drop, List.length_take]; omega
    refine .inr ⟨if h = l then a else a.add l, h - l, ?_, by omega, fun j u hu => ?_⟩
    · unfold cutMV
      rw [hlen]
      by_cases hh0 : h = l
      · simp [hh0]
      · simp [hh0]
    · have hj : j < h - l := by rw [← hlen]; exact (List.getElem?_eq_some_iff.1 hu).1
      rw [if_neg (by omega), _root_.Go.Addr.add_add]
      rw [List.getElem?_drop, List.getElem?_take, if_pos (by omega)] at hu
      exact hc _ u hu
theorem run_cutM {P : Program} {w w2 : World} {t e : TypeId} {v : Value} {bs : List Int} (ht : SliceTy P t e) (hS : SrcW w2 v bs) {q q' q'' : IntKind} {l h : Nat} (hl : l ≤ h) (hh : h ≤ bs.length) :
    (Instr.sliceAt t v (some (.int q (l : Int))) (some (.int q' (h : Int))) (some (.int q'' (h : Int)))).run P w = .ok (cutMV v l h) w := by
  obtain ⟨hu, i, z, hinf, _, hsz, _⟩ := ht
  obtain ⟨a, cap, rfl, hle⟩ : ∃ a cap, v = .slice a bs.length cap ∧ bs.length ≤ cap := by
    rcases hS.way with ⟨rfl, rfl⟩ | ⟨a, cap, rfl, hle, _⟩
    · exact ⟨none, 0, rfl, Nat.le_refl _⟩
    · exact ⟨_, cap, rfl, hle⟩
  have k1 : (0 : Int) ≤ (h : Int) ∧ (h : Int) ≤ (cap : Int) := ⟨by omega, by omega⟩
  have k3 : (0 : Int) ≤ (l : Int) ∧ (l : Int) ≤ (h : Int) := ⟨by omega, by omega⟩
  have k2 : h ≤ cap := by omega
  have hb : (Instr.sliceBounds true bs.length cap (some (.int q (l : Int))) (some (.int q' (h : Int))) (some (.int q'' (h : Int)))).run P w = .ok (l, h, h) w := by
    simp [Instr.sliceBounds, Instr.sliceBound, asIntOf, k1, k2, k3, hl]
  simp [Instr.sliceAt, Instr.slice, run_underlying hu, hb, sizeOf, typeInfo, hinf, hsz, cutMV]
section
variable {P : Program} {C : World → Prop} {tp : TypeId} {pos : String} {af : Array Edge} {gd : Option (Nat × Bool)} {ls : List Value} {ds : List Deferred} {c : Bool} {dd : Option Tmp}
theorem t_cutM {t e : TypeId} (ht : SliceTy P t e) {x y z u : Operand} {v : Value} {bs : List Int} {w : World} (hS : SrcW w v bs) {q q' q'' : IntKind} {i j k : Int} (hx : EvC ls c x v) (hy : EvC ls c y (.int q i)) (hz : EvC ls c z (.int q' j)) (hu : EvC ls c u (.int q'' k)) {l h : Nat} (e1 : i = l) (e2 : j = h) (e3 : k = h) (hl : l ≤ h) (hh : h ≤ bs.length) :
    TIf P C c ⟨dd, .slice t x (some y) (some z) (some u), tp, pos, af, gd⟩ ⟨ls.toArray, ds⟩ (cutMV v l h) := by
  subst e1 e2 e3
  refine ⟨fun e => .inl fun w' _ => ?_⟩
  have := run_cutM (P := P) (w := w') ht hS (q := q) (q' := q') (q'' := q'') hl hh
  unfold execOp
  simp [eval_of (hx.of e), eval_of (hy.of e), eval_of (hz.of e), eval_of (hu.of e), this]
end
/-! ### Clone -/
section
variable {P : Program} {C : World → Prop} {tp : TypeId} {pos : String} {af : Array Edge} {gd : Option (Nat × Bool)} {ls : List Value} {ds : List Deferred} {c : Bool} {dd : Option Tmp}
/-- A slice that is there is not nil. -/
theorem t_slnil {ty ty' e : TypeId} {x y : Operand} {a : Addr} {n k : Nat} (hu : P.underlying ty = some (.slice e)) (hx : EvC ls c x (.slice (some a) n k)) (hy : EvC ls c y (.slice none 0 0)) : TIf P C c ⟨dd, .binOp .eql ty x y ty', tp, pos, af, gd⟩ ⟨ls.toArray, ds⟩ (.bool false) := by
  refine ⟨fun e => .inl fun w _ => ?_⟩
  have he : (Op.equal ty (.slice (some a) n k) (.slice none 0 0)).run P w = .ok false w := by
    have key : ∀ m, (Op.equalIn (m + 1) ty (.slice (some a) n k) (.slice none 0 0)).run P w = .ok false w := fun m => by
      unfold Op.equalIn
      simp [Sem.run_bind, run_underlying hu]
    exact key 9999
  unfold execOp
  simp only [eval_of (hx.of e), eval_of (hy.of e)]
  simp [eqGuard, binOp, he]
theorem wpList_boxV {ops : Array Oper} {Q : Exit → Act → World → Prop} {rest : List Oper} {w0 w : World} {l : List RowT} (hR : Own w0 w l) {d : Tmp} {v : Value} {cs : Array Value} {ty : TypeId} {x : Operand} (hgd : Region.wanted ⟨some d, .box ty x, tp, pos, af, gd⟩ (yielded ops ls.toArray) = true) (hx : evalL ls x = some v) (hc : v.cells = cs)
    (h : ∀ g w', Own w0 w' ((g, cs, ty) :: l) → wpList P ops Q rest ⟨(ls.set d (.pointer (some ⟨g, 0, none⟩))).toArray, ds⟩ w') : wpList P ops Q (⟨some d, .box ty x, tp, pos, af, gd⟩ :: rest) ⟨ls.toArray, ds⟩ w :=
  wpList_run_value hgd (run_boxRow rfl (eval_of hx) hc) (by rw [put_list]; exact h _ _ (hR.alloc cs ty))
end
theorem bNoB : BuiltS Try.prog 23 0 [] 5 #[] := ⟨fun w => by simp [go_sem]⟩
theorem clone_any {w0 : World} {v : Value} {bs : List Int} (h : SrcW w0 v bs) (h0 : bs ≠ []) (hl : bs.length ≤ 1000000) :
    Calls Try.prog 23 #[v] w0 fun e w' => RowsB w0 w' e bs := by
  have hR := Own.start w0
  obtain ⟨a, cap, rfl⟩ : ∃ a cap, v = .slice (some a) bs.length cap := by
    rcases h.way with ⟨_, h2⟩ | ⟨a, cap, h1, _⟩
    · exact absurd h2 h0
    · exact ⟨a, cap, h1⟩
  go_enter Try.func23, Try.ntmps23
  go_wp2_with (first
    | ((with_reducible apply q_ls hR); exact rfl; (with_reducible apply t_slnil Try.underlying23); (apply EvC.now; exact rfl); (apply EvC.now; exact rfl); (simp only [List.set_cons_succ, List.set_cons_zero]; exact rfl); clear hR; intro w hR)
    | ((with_reducible apply wpList_buildS hR); exact rfl; exact rfl; (exact bNoB); clear hR; intro gb w hR; simp only [List.set_cons_succ, List.set_cons_zero])
    | ((with_reducible apply wpList_appG hR tBytesI); exact rfl; exact rfl; exact rfl; (exact slI (g := gb) (ns := []) rfl (by simp)); (exact Les.one); (exact (h.own hR).rd); (simp [maxLen]; omega); (simp; omega); clear hR; intro sx vx w hR hS; simp only [List.set_cons_succ, List.set_cons_zero]))
  go_ret
  refine ⟨sx, _, rfl, by rw [List.append_nil] at hR; exact hR, ?_⟩
  simpa [cellsB] using hS
/-! ### Chunk -/
theorem chunk_any {w0 : World} {v : Value} {bs : List Int} (h : SrcW w0 v bs) :
    Calls Try.prog 22 #[v, .int .i64 1024] w0 fun e w' => ∃ g1 g2, e = .returned (.func (.func 31) #[] #[.pointer (some ⟨g1, 0, none⟩), .pointer (some ⟨g2, 0, none⟩)]) ∧ Own w0 w' [(g2, #[.int .i64 1024], 3), (g1, #[v], 23)] := by
  have hR := Own.start w0
  obtain ⟨a, n, c, rfl⟩ := h.shapeI
  have HL := Lib.hid (show cmpB .lss (1024 : Int) 1 = some false by decide)
  go_enter Try.func22, Try.ntmps22
  go_wp2_with (first
    | ((with_reducible apply wpList_boxV hR); exact rfl; exact rfl; exact rfl; clear hR; intro g1 w hR; simp only [List.set_cons_succ, List.set_cons_zero])
    | ((with_reducible apply wpList_one hR tIntR); exact rfl; exact rfl; (focus (repeat (first | apply List.Mem.head | apply List.Mem.tail | apply List.mem_append_right))); exact rfl; (simp only [List.set_cons_succ, List.set_cons_zero]; exact rfl))
    | ((with_reducible apply q_ls hR); exact rfl; (with_reducible apply t_cmp); (apply EvC.now; exact rfl); (apply EvC.now; exact rfl); exact HL.out; (simp only [List.set_cons_succ, List.set_cons_zero]; exact rfl); clear hR; intro w hR)
    | ((with_reducible apply wpList_func); exact rfl; exact rfl; simp only [List.set_cons_succ, List.set_cons_zero]))
  go_ret
  exact ⟨_, _, rfl, hR⟩
/-! ### The iterator -/
/-- How many pieces of at most 1024 there are; where the i-th one begins and ends. -/
def chkN (bs : List Int) : Nat := (bs.length + 1023) / 1024
def chkV (v : Value) (bs : List Int) (i : Nat) : Value := cutMV v (1024 * i) (min bs.length (1024 * i + 1024))
def chkB (bs : List Int) (i : Nat) : List Int := (bs.take (min bs.length (1024 * i + 1024))).drop (1024 * i)
theorem chk_lt {bs : List Int} {i : Nat} (h : i < chkN bs) : 1024 * i < bs.length := by unfold chkN at h; omega
theorem chk_src {w : World} {v : Value} {bs : List Int} (h : SrcW w v bs) {i : Nat} (hi : i < chkN bs) : SrcW w (chkV v bs i) (chkB bs i) :=
  h.cutM _ _ (by have := chk_lt hi; omega) (by omega)
abbrev ChkI (bs : List Int) : Type := { i : Nat // i < chkN bs }
/-- The first k of them. -/
def chkUp (bs : List Int) : (k : Nat) → k ≤ chkN bs → List (ChkI bs)
  | 0, _ => []
  | k + 1, h => chkUp bs k (Nat.le_of_succ_le h) ++ [⟨k, h⟩]
theorem chkUp_len (bs : List Int) : ∀ (k : Nat) (h : k ≤ chkN bs), (chkUp bs k h).length = k
  | 0, _ => rfl
  | k + 1, h => by simp [chkUp, chkUp_len bs k]
theorem abides_below {β : Type} {B : Nat} {J : β → World → Prop} (h : AbidesFrom B J) {s : β} {W W' : World} (hs : J s W) (hb : Below W.heap.size W W') : J s W' :=
  h s W W' none hs ⟨hb.os, hb.tape, hb.output, hb.size, fun k hk _ => hb.block k hk⟩ (fun r e => nomatch e)
theorem KpR.own {w0 w w' : World} {G : List Nat} {l : List RowT} (h : KpR w0.heap.size G w w') (hO : Own w0 w l) (hG : ∀ x ∈ l, x.1 ∈ G) : Own w0 w' l :=
  ⟨hO.below.trans h.1, fun x hx => ⟨(hO.here x hx).1, by rw [h.2 x.1 (hG x hx) (hO.lt hx)]; exact (hO.here x hx).2⟩, hO.apart⟩
set_option maxHeartbeats 1000000 in
theorem chunkSeq_stops {w0 w : World} {v : Value} {bs : List Int} {g1 g2 : Nat} (hS : SrcW w0 v bs) (hO : Own w0 w [(g2, #[.int .i64 1024], 3), (g1, #[v], 23)]) (hl : bs.length ≤ 1000000) (n : Nat) :
    SeqStopsK Fence.wide n Try.prog 31 #[.pointer (some ⟨g1, 0, none⟩), .pointer (some ⟨g2, 0, none⟩)] (fun x : ChkI bs => #[chkV v bs x.1]) (KpR w0.heap.size [g1, g2]) (fun ys => ys = chkUp bs (chkN bs) (Nat.le_refl _)) (fun _ => True) (chkN bs) w := by
  intro l J Jx W hW hJ hJx hY h0
  have hR := hO.grow hW
  clear hO
  refine callsIn_of_wp (F := wideR none) Try.func31 rfl trivial ?_
  simp only [Try.ntmps31, List.size_toArray, List.length_cons, List.length_nil, Nat.reduceAdd, Nat.reduceSub, Array.replicate_succ, Array.replicate_zero, List.push_toArray, List.append_toArray, List.nil_append, List.cons_append]
  have hno : NoOut (bodyPost Try.prog Try.f31 fun e W' => (∃ v, e = .returned v) ∧ ((∃ xs, xs = chkUp bs (chkN bs) (Nat.le_refl _) ∧ J xs W') ∨ (∃ pre, True ∧ Jx pre W'))) := by
    rintro ⟨a, w, ⟨v, hv⟩, _⟩
    exact nomatch hv
  gi_wp2
  gi_loopw [4] (fun i wr => ∃ (k : Nat) (hk : k ≤ chkN bs), i = .int .i64 ((1024 * k : Nat) : Int) ∧ Own w0 wr [(g2, #[.int .i64 1024], 3), (g1, #[v], 23)] ∧ J (chkUp bs k hk) wr) (fun i _ => chkN bs * 1024 - (intOf i).toNat)
  case atStart => exact ⟨0, Nat.zero_le _, rfl, hR, h0⟩
  case round =>
    clear hR h0
    obtain ⟨k, hk, rfl, hR, hJk⟩ := hrel
    have hC1 : wr.cell? ⟨g1, 0, none⟩ = some v := by rw [cell_of_row _ _ _ _ _ _ (hR.get (.tail _ (.head _)))]; rfl
    have hC2 : wr.cell? ⟨g2, 0, none⟩ = some (.int .i64 1024) := by rw [cell_of_row _ _ _ _ _ _ (hR.get (.head _))]; rfl
    have hSr := hS.own hR
    have hB := Own.start wr
    by_cases hkl : k < chkN bs
    · have hlt := chk_lt hkl
      obtain ⟨x, hx⟩ : ∃ x, 1024 * k = x := ⟨_, rfl⟩
      rw [hx] at hlt ⊢
      have HL := Lib.hid (show cmpB .lss (x : Int) (bs.length : Int) = some true by simp [cmpB]; omega)
      refine wpIn_seq (wpIn_seq ?_)
      refine wpR_lit (r := none) ?_ (by kernel_rfl) ?_
      · rintro ⟨a, w, h⟩; exact hno ⟨a, w, h⟩
      repeat (first
    | ((with_reducible apply q_ls hB); exact rfl; (with_reducible apply t_move); (apply EvC.now; exact rfl); (simp only [List.set_cons_succ, List.set_cons_zero]; exact rfl); clear hB; intro w hB)
    | ((with_reducible apply q_ls hB); exact rfl; (with_reducible apply t_oldCell tSlI); (apply EvC.now; exact rfl); exact hC1; (simp only [List.set_cons_succ, List.set_cons_zero]; exact rfl); clear hB; intro w hB)
    | ((with_reducible apply q_ls hB); exact rfl; (with_reducible apply t_lenW Try.underlying23); (apply EvC.now; exact rfl); exact hSr; (simp only [List.set_cons_succ, List.set_cons_zero]; exact rfl); clear hB; intro w hB)
    | ((with_reducible apply q_ls hB); exact rfl; (with_reducible apply t_cmp); (apply EvC.now; exact rfl); (apply EvC.now; exact rfl); exact HL.out; (simp only [List.set_cons_succ, List.set_cons_zero]; exact rfl); clear hB; intro w hB))
      refine wpList_nil ?_
      show Code.wpIn _ _ _ (Code.cond _ _ _) _ _ _
      refine wpIn_cond (t := true) rfl ?_
      refine wpIn_skip ?_
      show Code.wpIn _ _ _ (Code.seq _ _) _ _ _
      refine wpIn_seq (wpIn_block (wpIn_seq ?_))
      have hCut : SrcW wr (cutV v x bs.length) (bs.drop x) := by
        have := hSr.cut x bs.length (by omega) (Nat.le_refl _)
        rwa [List.take_length] at this
      have hdl : (bs.drop x).length = bs.length - x := List.length_drop
      obtain ⟨m, hm⟩ : ∃ m, min 1024 (bs.length - x) = m := ⟨_, rfl⟩
      obtain ⟨e, he⟩ : ∃ e, x + m = e := ⟨_, rfl⟩
      have HM := Lib.hid (show (if (((bs.drop x).length : Nat) : Int) < 1024 then (((bs.drop x).length : Nat) : Int) else 1024) = (m : Int) by rw [hdl]; split <;> omega)
      have HA := Lib.hid (show IntKind.i64.wrap ((x : Int) + (m : Int)) = (e : Int) by rw [← Int.natCast_add, he]; exact IntWalk.i64_in _ (by omega))
      have HN := Lib.hid (show IntKind.i64.wrap ((x : Int) + 1024) = ((1024 * (k + 1) : Nat) : Int) by rw [show 1024 * (k + 1) = x + 1024 by omega]; exact IntWalk.i64_in _ (by omega))
      have HV := Lib.hid (show chkV v bs k = cutMV v x e by unfold chkV; rw [hx, show min bs.length (x + 1024) = e by omega])
      have hee : e ≤ bs.length := by omega
      have hxe : x ≤ e := by omega
      clear hm he hdl
      refine wpR_some (r := none) ?_ hB [] (List.nil_sublist _) [0, 1, 2, 3, 4, 5, 6] 0 (by kernel_rfl) (by kernel_rfl) (by kernel_rfl) (by kernel_rfl) rfl ?_
      · rintro ⟨a, w, h⟩; exact hno ⟨a, w, h⟩
      clear hB; intro hB
      repeat (refine wpT_step rfl ?_; first
    | ((first | (with_reducible apply q_pl) | ((with_reducible apply q_gd); (first | (apply GdBy.gt; exact rfl; exact rfl) | (apply GdBy.gf; exact rfl; exact rfl) | (apply GdBy.t; exact rfl; exact rfl) | (apply GdBy.f; exact rfl; exact rfl)))); (with_reducible apply t_oldCell tSlI); (first | (apply EvC.gv; exact rfl; (with_reducible first | exact Imp.refl _ | (apply Imp.left; exact Imp.refl _) | (apply Imp.right; exact Imp.refl _) | (apply Imp.left; apply Imp.left; exact Imp.refl _))) | (apply EvC.now; exact rfl) | exact rfl | (with_reducible exact EvAll.nil) | (focus (repeat (first | apply EvAll.cons | exact EvAll.nil | (apply EvC.gv; exact rfl; (with_reducible first | exact Imp.refl _ | (apply Imp.left; exact Imp.refl _) | (apply Imp.right; exact Imp.refl _) | (apply Imp.left; apply Imp.left; exact Imp.refl _))) | (apply EvC.now; exact rfl))); done) | exact ext_dat _ _ _ | (focus (repeat (first | apply List.Mem.head | apply List.Mem.tail | apply List.mem_append_right)))); exact hC1; (simp only [List.set_cons_succ, List.set_cons_zero]; exact rfl))
    | ((first | (with_reducible apply q_pl) | ((with_reducible apply q_gd); (first | (apply GdBy.gt; exact rfl; exact rfl) | (apply GdBy.gf; exact rfl; exact rfl) | (apply GdBy.t; exact rfl; exact rfl) | (apply GdBy.f; exact rfl; exact rfl)))); (with_reducible apply t_oldCell tIntR); (first | (apply EvC.gv; exact rfl; (with_reducible first | exact Imp.refl _ | (apply Imp.left; exact Imp.refl _) | (apply Imp.right; exact Imp.refl _) | (apply Imp.left; apply Imp.left; exact Imp.refl _))) | (apply EvC.now; exact rfl) | exact rfl | (with_reducible exact EvAll.nil) | (focus (repeat (first | apply EvAll.cons | exact EvAll.nil | (apply EvC.gv; exact rfl; (with_reducible first | exact Imp.refl _ | (apply Imp.left; exact Imp.refl _) | (apply Imp.right; exact Imp.refl _) | (apply Imp.left; apply Imp.left; exact Imp.refl _))) | (apply EvC.now; exact rfl))); done) | exact ext_dat _ _ _ | (focus (repeat (first | apply List.Mem.head | apply List.Mem.tail | apply List.mem_append_right)))); exact hC2; (simp only [List.set_cons_succ, List.set_cons_zero]; exact rfl))
    | ((first | (with_reducible apply q_pl) | ((with_reducible apply q_gd); (first | (apply GdBy.gt; exact rfl; exact rfl) | (apply GdBy.gf; exact rfl; exact rfl) | (apply GdBy.t; exact rfl; exact rfl) | (apply GdBy.f; exact rfl; exact rfl)))); (with_reducible apply t_cutL tBytesN hSr (l := x)); (first | (apply EvC.gv; exact rfl; (with_reducible first | exact Imp.refl _ | (apply Imp.left; exact Imp.refl _) | (apply Imp.right; exact Imp.refl _) | (apply Imp.left; apply Imp.left; exact Imp.refl _))) | (apply EvC.now; exact rfl) | exact rfl | (with_reducible exact EvAll.nil) | (focus (repeat (first | apply EvAll.cons | exact EvAll.nil | (apply EvC.gv; exact rfl; (with_reducible first | exact Imp.refl _ | (apply Imp.left; exact Imp.refl _) | (apply Imp.right; exact Imp.refl _) | (apply Imp.left; apply Imp.left; exact Imp.refl _))) | (apply EvC.now; exact rfl))); done) | exact ext_dat _ _ _ | (focus (repeat (first | apply List.Mem.head | apply List.Mem.tail | apply List.mem_append_right)))); (first | (apply EvC.gv; exact rfl; (with_reducible first | exact Imp.refl _ | (apply Imp.left; exact Imp.refl _) | (apply Imp.right; exact Imp.refl _) | (apply Imp.left; apply Imp.left; exact Imp.refl _))) | (apply EvC.now; exact rfl) | exact rfl | (with_reducible exact EvAll.nil) | (focus (repeat (first | apply EvAll.cons | exact EvAll.nil | (apply EvC.gv; exact rfl; (with_reducible first | exact Imp.refl _ | (apply Imp.left; exact Imp.refl _) | (apply Imp.right; exact Imp.refl _) | (apply Imp.left; apply Imp.left; exact Imp.refl _))) | (apply EvC.now; exact rfl))); done) | exact ext_dat _ _ _ | (focus (repeat (first | apply List.Mem.head | apply List.Mem.tail | apply List.mem_append_right)))); exact rfl; omega; (simp only [List.set_cons_succ, List.set_cons_zero]; exact rfl))
    | ((first | (with_reducible apply q_pl) | ((with_reducible apply q_gd); (first | (apply GdBy.gt; exact rfl; exact rfl) | (apply GdBy.gf; exact rfl; exact rfl) | (apply GdBy.t; exact rfl; exact rfl) | (apply GdBy.f; exact rfl; exact rfl)))); (with_reducible apply t_lenW Try.underlying23); (first | (apply EvC.gv; exact rfl; (with_reducible first | exact Imp.refl _ | (apply Imp.left; exact Imp.refl _) | (apply Imp.right; exact Imp.refl _) | (apply Imp.left; apply Imp.left; exact Imp.refl _))) | (apply EvC.now; exact rfl) | exact rfl | (with_reducible exact EvAll.nil) | (focus (repeat (first | apply EvAll.cons | exact EvAll.nil | (apply EvC.gv; exact rfl; (with_reducible first | exact Imp.refl _ | (apply Imp.left; exact Imp.refl _) | (apply Imp.right; exact Imp.refl _) | (apply Imp.left; apply Imp.left; exact Imp.refl _))) | (apply EvC.now; exact rfl))); done) | exact ext_dat _ _ _ | (focus (repeat (first | apply List.Mem.head | apply List.Mem.tail | apply List.mem_append_right)))); exact hCut; (simp only [List.set_cons_succ, List.set_cons_zero]; exact rfl))
    | ((first | (with_reducible apply q_pl) | ((with_reducible apply q_gd); (first | (apply GdBy.gt; exact rfl; exact rfl) | (apply GdBy.gf; exact rfl; exact rfl) | (apply GdBy.t; exact rfl; exact rfl) | (apply GdBy.f; exact rfl; exact rfl)))); (with_reducible apply t_minK); (first | (apply EvC.gv; exact rfl; (with_reducible first | exact Imp.refl _ | (apply Imp.left; exact Imp.refl _) | (apply Imp.right; exact Imp.refl _) | (apply Imp.left; apply Imp.left; exact Imp.refl _))) | (apply EvC.now; exact rfl) | exact rfl | (with_reducible exact EvAll.nil) | (focus (repeat (first | apply EvAll.cons | exact EvAll.nil | (apply EvC.gv; exact rfl; (with_reducible first | exact Imp.refl _ | (apply Imp.left; exact Imp.refl _) | (apply Imp.right; exact Imp.refl _) | (apply Imp.left; apply Imp.left; exact Imp.refl _))) | (apply EvC.now; exact rfl))); done) | exact ext_dat _ _ _ | (focus (repeat (first | apply List.Mem.head | apply List.Mem.tail | apply List.mem_append_right)))); (first | (apply EvC.gv; exact rfl; (with_reducible first | exact Imp.refl _ | (apply Imp.left; exact Imp.refl _) | (apply Imp.right; exact Imp.refl _) | (apply Imp.left; apply Imp.left; exact Imp.refl _))) | (apply EvC.now; exact rfl) | exact rfl | (with_reducible exact EvAll.nil) | (focus (repeat (first | apply EvAll.cons | exact EvAll.nil | (apply EvC.gv; exact rfl; (with_reducible first | exact Imp.refl _ | (apply Imp.left; exact Imp.refl _) | (apply Imp.right; exact Imp.refl _) | (apply Imp.left; apply Imp.left; exact Imp.refl _))) | (apply EvC.now; exact rfl))); done) | exact ext_dat _ _ _ | (focus (repeat (first | apply List.Mem.head | apply List.Mem.tail | apply List.mem_append_right)))); exact HM.out; (simp only [List.set_cons_succ, List.set_cons_zero]; exact rfl))
    | ((first | (with_reducible apply q_pl) | ((with_reducible apply q_gd); (first | (apply GdBy.gt; exact rfl; exact rfl) | (apply GdBy.gf; exact rfl; exact rfl) | (apply GdBy.t; exact rfl; exact rfl) | (apply GdBy.f; exact rfl; exact rfl)))); (first | ((with_reducible first | apply t_move | apply t_assign | apply t_and | apply t_or | apply t_cmp | apply t_not | apply t_addr (fRec _ (by decide)) | apply t_addr (fDat _ (by decide)) | apply t_one tByteR | apply t_one tSlR | apply t_one tIntR | apply t_one tWordD | apply t_one tFixD | apply t_part tDat) <;> (first | (apply EvC.gv; exact rfl; (with_reducible first | exact Imp.refl _ | (apply Imp.left; exact Imp.refl _) | (apply Imp.right; exact Imp.refl _) | (apply Imp.left; apply Imp.left; exact Imp.refl _))) | (apply EvC.now; exact rfl) | exact rfl | (with_reducible exact EvAll.nil) | (focus (repeat (first | apply EvAll.cons | exact EvAll.nil | (apply EvC.gv; exact rfl; (with_reducible first | exact Imp.refl _ | (apply Imp.left; exact Imp.refl _) | (apply Imp.right; exact Imp.refl _) | (apply Imp.left; apply Imp.left; exact Imp.refl _))) | (apply EvC.now; exact rfl))); done) | exact ext_dat _ _ _ | (focus (repeat (first | apply List.Mem.head | apply List.Mem.tail | apply List.mem_append_right)))))); (simp only [List.set_cons_succ, List.set_cons_zero]; exact rfl)))
      refine wpT_nil ?_
      refine wpG_end hB (by kernel_rfl) ?_
      clear hB; intro w hB
      show Code.wpIn _ _ _ (Code.seq _ _) _ _ _
      refine wpIn_seq ?_
      refine wpR_take (r := none) 10 (by decide) (by kernel_rfl) (js := [10, 11]) rfl ?_
      simp only [List.take_succ_cons, List.take_zero]
      repeat (first
    | ((with_reducible apply q_ls hB); exact rfl; (with_reducible apply t_move); (apply EvC.now; exact rfl); (simp only [List.set_cons_succ, List.set_cons_zero]; exact rfl); clear hB; intro w hB)
    | ((with_reducible apply q_ls hB); exact rfl; (with_reducible apply t_oldCell tSlI); (apply EvC.now; exact rfl); exact hC1; (simp only [List.set_cons_succ, List.set_cons_zero]; exact rfl); clear hB; intro w hB)
    | ((with_reducible apply q_ls hB); exact rfl; (with_reducible apply t_numE (op := .add)); (apply EvC.now; exact rfl); (apply EvC.now; exact rfl); exact rfl; exact HA.out; (simp only [List.set_cons_succ, List.set_cons_zero]; exact rfl); clear hB; intro w hB)
    | ((with_reducible apply q_ls hB); exact rfl; (with_reducible apply t_cutM tBytesN hSr (l := x) (h := e)); (apply EvC.now; exact rfl); (apply EvC.now; exact rfl); (apply EvC.now; exact rfl); (apply EvC.now; exact rfl); exact rfl; exact rfl; exact rfl; exact hxe; exact hee; (simp only [List.set_cons_succ, List.set_cons_zero]; exact rfl); clear hB; intro w hB))
      refine wpList_nil ⟨rfl, ?_⟩
      have hJw := abides_below hJ hJk hB.below
      have hRw := hR.grow hB.below
      have hYw := hY (chkUp bs k hk) ⟨k, hkl⟩ w hJw (by rw [chkUp_len]; exact hkl)
      rw [HV.out] at hYw
      refine opsIn_yield (r := none) rfl rfl rfl hYw ?_
      rintro e2 W2 (⟨rfl, hJ2, hK2⟩ | ⟨rfl, hJx2⟩)
      · refine ⟨_, rfl, opsR1 (r := none) ?_ (by kernel_rfl) rfl ?_⟩
        · rintro ⟨a, w, h⟩; exact hno ⟨a, w, h⟩
        clear hB hC1 hC2 hSr hCut
        have hR2 := hK2.own hRw (fun y hy => by simp only [List.mem_cons, List.not_mem_nil, or_false] at hy; rcases hy with rfl | rfl <;> simp)
        have hC2 : W2.cell? ⟨g2, 0, none⟩ = some (.int .i64 1024) := by rw [cell_of_row _ _ _ _ _ _ (hR2.get (.head _))]; rfl
        have hB := Own.start W2
        repeat (first
    | ((with_reducible apply q_ls hB); exact rfl; (with_reducible apply t_not); (apply EvC.now; exact rfl); (simp only [List.set_cons_succ, List.set_cons_zero]; exact rfl); clear hB; intro w hB))
        refine wpList_nil ?_
        show Code.wpIn _ _ _ (Code.cond _ _ _) _ _ _
        refine wpIn_cond (t := false) rfl ?_
        refine wpIn_skip ?_
        show Code.wpIn _ _ _ (Code.region _ _ _) _ _ _
        refine wpR_lit (r := none) ?_ (by kernel_rfl) ?_
        · rintro ⟨a, w, h⟩; exact hno ⟨a, w, h⟩
        repeat (first
    | ((with_reducible apply q_ls hB); exact rfl; (with_reducible apply t_move); (apply EvC.now; exact rfl); (simp only [List.set_cons_succ, List.set_cons_zero]; exact rfl); clear hB; intro w hB)
    | ((with_reducible apply q_ls hB); exact rfl; (with_reducible apply t_oldCell tIntR); (apply EvC.now; exact rfl); exact hC2; (simp only [List.set_cons_succ, List.set_cons_zero]; exact rfl); clear hB; intro w hB)
    | ((with_reducible apply q_ls hB); exact rfl; (with_reducible apply t_numE (op := .add)); (apply EvC.now; exact rfl); (apply EvC.now; exact rfl); exact rfl; exact HN.out; (simp only [List.set_cons_succ, List.set_cons_zero]; exact rfl); clear hB; intro w hB)
    | ((with_reducible apply q_ls hB); exact rfl; (with_reducible apply t_assign); (apply EvC.now; exact rfl); (simp only [List.set_cons_succ, List.set_cons_zero]; exact rfl); clear hB; intro w hB))
        refine wpList_nil ?_
        simp only [Exit.then, Exit.inBlock]
        go_roundw
        case rel => exact ⟨k + 1, hkl, rfl, hR2.grow hB.below, abides_below hJ hJ2 hB.below⟩
        case measure => rw [← hx]; simp [intOf]; omega
      · refine ⟨_, rfl, opsR1 (r := none) ?_ (by kernel_rfl) rfl ?_⟩
        · rintro ⟨a, w, h⟩; exact hno ⟨a, w, h⟩
        clear hB hC1 hC2 hSr hCut
        have hB := Own.start W2
        repeat (first
    | ((with_reducible apply q_ls hB); exact rfl; (with_reducible apply t_not); (apply EvC.now; exact rfl); (simp only [List.set_cons_succ, List.set_cons_zero]; exact rfl); clear hB; intro w hB))
        refine wpList_nil ?_
        show Code.wpIn _ _ _ (Code.cond _ _ _) _ _ _
        refine wpIn_cond (t := true) rfl ?_
        refine wpIn_ret ?_
        simp only [Exit.then, Exit.inBlock]
        exact bodyPost_ret (results_none rfl _ _ _) rfl ⟨⟨_, rfl⟩, .inr ⟨_, trivial, abides_below hJx hJx2 hB.below⟩⟩
    · obtain rfl : k = chkN bs := by omega
      have hge : bs.length ≤ 1024 * chkN bs := by unfold chkN; omega
      obtain ⟨x, hx⟩ : ∃ x, 1024 * chkN bs = x := ⟨_, rfl⟩
      rw [hx] at hge ⊢
      have HL := Lib.hid (show cmpB .lss (x : Int) (bs.length : Int) = some false by simp [cmpB]; omega)
      refine wpIn_seq (wpIn_seq ?_)
      refine wpR_lit (r := none) ?_ (by kernel_rfl) ?_
      · rintro ⟨a, w, h⟩; exact hno ⟨a, w, h⟩
      repeat (first
    | ((with_reducible apply q_ls hB); exact rfl; (with_reducible apply t_move); (apply EvC.now; exact rfl); (simp only [List.set_cons_succ, List.set_cons_zero]; exact rfl); clear hB; intro w hB)
    | ((with_reducible apply q_ls hB); exact rfl; (with_reducible apply t_oldCell tSlI); (apply EvC.now; exact rfl); exact hC1; (simp only [List.set_cons_succ, List.set_cons_zero]; exact rfl); clear hB; intro w hB)
    | ((with_reducible apply q_ls hB); exact rfl; (with_reducible apply t_lenW Try.underlying23); (apply EvC.now; exact rfl); exact hSr; (simp only [List.set_cons_succ, List.set_cons_zero]; exact rfl); clear hB; intro w hB)
    | ((with_reducible apply q_ls hB); exact rfl; (with_reducible apply t_cmp); (apply EvC.now; exact rfl); (apply EvC.now; exact rfl); exact HL.out; (simp only [List.set_cons_succ, List.set_cons_zero]; exact rfl); clear hB; intro w hB))
      refine wpList_nil ?_
      show Code.wpIn _ _ _ (Code.cond _ _ _) _ _ _
      refine wpIn_cond (t := false) rfl ?_
      refine wpIn_exit ?_
      simp only [Exit.then, Exit.inBlock, if_true]
      go_end0
      exact ⟨⟨_, rfl⟩, .inl ⟨_, rfl, abides_below hJ hJk hB.below⟩⟩
end Go.Proofs.Ythklhkpikaopfaa
