







/- Products of two numbers of 64 bits (math/bits.Mul); 'copy' into a row of the call's own; slices.Repeat of bytes. No statement of the seat is proved here. -/
import Derived.Test.YtalgadinoaeihaaMake
import Derived.Test.YtalgadinoaeihaaSrc
import Derived.Test.YtalgadinoaeihaaAppG
import Derived.Test.YtalgadinoaeihaaIdxA
import Derived.Laws.CopyOwn
import Derived.Deep.DeepCutAuto
import Derived.Deep.CutBlock
namespace Go.Proofs.Ytalgadinoaeihaa
open Go.ChangeShapes Go.WideShapes Go.ChangeAt Go.RowKit
set_option linter.unusedVariables false
set_option linter.unusedSimpArgs false

/-! ### Products -/
theorem u64_mask (n k m : Nat) (hk : k ≤ 63) (hm : m + 1 = 2 ^ k) : bits .and .u64 (n : Int) (m : Int) = ((n % (m + 1) : Nat) : Int) := by
  have hm2 : m < 2 ^ 63 := by have := Nat.pow_le_pow_right (show 0 < 2 by decide) hk; omega
  have h3 : (BitVec.ofInt 64 (m : Int)).toNat = 2 ^ k - 1 := by rw [BitVec.toNat_ofInt]; omega
  have key : (BitVec.ofInt 64 (n : Int) &&& BitVec.ofInt 64 (m : Int)).toNat = ((n : Int) % ((2 ^ 64 : Nat) : Int)).toNat % 2 ^ k := by
    rw [BitVec.toNat_and, BitVec.toNat_ofInt, h3, Nat.and_two_pow_sub_one_eq_mod]
  show IntKind.u64.wrap ((BitVec.ofInt 64 (n : Int) &&& BitVec.ofInt 64 (m : Int)).toNat : Nat) = ((n % (m + 1) : Nat) : Int)
  have h5 : ((n : Int) % ((2 ^ 64 : Nat) : Int)).toNat = n % 2 ^ 64 := by omega
  have h6 : n % 2 ^ 64 % 2 ^ k = n % 2 ^ k := Nat.mod_mod_of_dvd _ (Nat.pow_dvd_pow 2 (by omega))
  have h7 : n % 2 ^ k < 2 ^ k := Nat.mod_lt _ (by omega)
  rw [key, h5, h6, IntKind.wrap_u64, hm]
  omega
theorem mul64_any (x y : Nat) (hx : x < 4294967296) (hy : y < 4294967296) (hp : x * y < 4294967296) (w0 : World) :
    Calls Try.prog 49 #[.int .u64 (x : Int), .int .u64 (y : Int)] w0 fun e w' => e = .returned (.tuple #[.int .u64 0, .int .u64 ((x * y : Nat) : Int)]) ∧ Below w0.heap.size w0 w' := by
  obtain ⟨p, hpe⟩ : ∃ p, x * y = p := ⟨_, rfl⟩
  rw [hpe] at hp ⊢
  have HA := Lib.hid (show bits .and .u64 (x : Int) 4294967295 = (x : Int) by rw [show (4294967295 : Int) = ((4294967295 : Nat) : Int) from rfl, u64_mask x 32 _ (by decide) (by decide)]; congr 1; omega)
  have HB := Lib.hid (show bits .and .u64 (y : Int) 4294967295 = (y : Int) by rw [show (4294967295 : Int) = ((4294967295 : Nat) : Int) from rfl, u64_mask y 32 _ (by decide) (by decide)]; congr 1; omega)
  have HM := Lib.hid (show IntKind.u64.wrap ((x : Int) * (y : Int)) = (p : Int) by rw [← Int.natCast_mul, hpe, IntKind.wrap_u64]; omega)
  have HZ := Lib.hid (show IntKind.u64.wrap (0 * (y : Int)) = 0 by rw [Int.zero_mul]; decide)
  have HW := Lib.hid (show IntKind.u64.wrap ((x : Int) * 0) = 0 by rw [Int.mul_zero]; decide)
  have HC := Lib.hid (show bits .and .u64 0 4294967295 = 0 by rw [show (4294967295 : Int) = ((4294967295 : Nat) : Int) from rfl]; exact u64_mask 0 32 _ (by decide) (by decide))
  have h1 : (x : Int) / 2 ^ 32 = 0 := by omega
  have h2 : (y : Int) / 2 ^ 32 = 0 := by omega
  have h3 : (p : Int) / 2 ^ 32 = 0 := by omega
  have H1 := Lib.hid h1
  have H2 := Lib.hid h2
  have H3 := Lib.hid h3
  clear h1 h2 h3 hpe
  have hR := Own.start w0
  go_enter Try.func49, Try.ntmps49
  go_wp2_with (first
    | ((with_reducible apply q_ls hR); exact rfl; (with_reducible apply t_shrE); (apply EvC.now; exact rfl); (apply EvC.now; exact rfl); exact rfl; decide; (first | exact H1.out | exact H2.out | exact H3.out | decide); (simp only [List.set_cons_succ, List.set_cons_zero]; exact rfl); clear hR; intro w hR)
    | ((with_reducible apply q_ls hR); exact rfl; (with_reducible apply t_numE); (apply EvC.now; exact rfl); (apply EvC.now; exact rfl); exact rfl; (first | with_reducible exact HA.out | with_reducible exact HB.out | with_reducible exact HM.out | with_reducible exact HZ.out | with_reducible exact HW.out | with_reducible exact HC.out | decide); (simp only [List.set_cons_succ, List.set_cons_zero]; exact rfl); clear hR; intro w hR)
    | ((with_reducible apply q_ls hR); exact rfl; ((with_reducible first | apply t_addr (fRec _ (by decide)) | apply t_one tByteR | apply t_one tSlR | apply t_one tIntR) <;> (first | (apply EvC.gv; exact rfl; (with_reducible first | exact Imp.refl _ | (apply Imp.left; exact Imp.refl _) | (apply Imp.right; exact Imp.refl _) | (apply Imp.left; apply Imp.left; exact Imp.refl _))) | (apply EvC.now; exact rfl) | exact rfl | (with_reducible exact EvAll.nil) | (focus (repeat (first | apply EvAll.cons | exact EvAll.nil | (apply EvC.gv; exact rfl; (with_reducible first | exact Imp.refl _ | (apply Imp.left; exact Imp.refl _) | (apply Imp.right; exact Imp.refl _) | (apply Imp.left; apply Imp.left; exact Imp.refl _))) | (apply EvC.now; exact rfl))); done) | exact rfl | (focus (repeat (first | apply List.Mem.head | apply List.Mem.tail | apply List.mem_append_right))))); (simp only [List.set_cons_succ, List.set_cons_zero]; exact rfl); clear hR; intro w hR))
  go_ret2
  exact ⟨rfl, hR.below⟩
theorem mul_any (x y : Nat) (hx : x < 4294967296) (hy : y < 4294967296) (hp : x * y < 4294967296) (w0 : World) :
    Calls Try.prog 45 #[.int .u64 (x : Int), .int .u64 (y : Int)] w0 fun e w' => e = .returned (.tuple #[.int .u64 0, .int .u64 ((x * y : Nat) : Int)]) ∧ Below w0.heap.size w0 w' := by
  have HC := Lib.hid (fun w => mul64_any x y hx hy hp w)
  obtain ⟨p, hpe⟩ : ∃ p, x * y = p := ⟨_, rfl⟩
  rw [hpe] at hp HC ⊢
  clear hpe
  have hR := Own.start w0
  go_enter Try.func45, Try.ntmps45
  go_wp2_with (first
    | (go_at_call 49; refine (HC.out _).mono ?_; rintro e w' ⟨rfl, hb⟩; replace hR := hR.grow hb; clear hb)
    | ((with_reducible apply q_ls hR); exact rfl; ((with_reducible first | apply t_addr (fRec _ (by decide)) | apply t_one tByteR | apply t_one tSlR | apply t_one tIntR) <;> (first | (apply EvC.gv; exact rfl; (with_reducible first | exact Imp.refl _ | (apply Imp.left; exact Imp.refl _) | (apply Imp.right; exact Imp.refl _) | (apply Imp.left; apply Imp.left; exact Imp.refl _))) | (apply EvC.now; exact rfl) | exact rfl | (with_reducible exact EvAll.nil) | (focus (repeat (first | apply EvAll.cons | exact EvAll.nil | (apply EvC.gv; exact rfl; (with_reducible first | exact Imp.refl _ | (apply Imp.left; exact Imp.refl _) | (apply Imp.right; exact Imp.refl _) | (apply Imp.left; apply Imp.left; exact Imp.refl _))) | (apply EvC.now; exact rfl))); done) | exact rfl | (focus (repeat (first | apply List.Mem.head | apply List.Mem.tail | apply List.mem_append_right))))); (simp only [List.set_cons_succ, List.set_cons_zero]; exact rfl); clear hR; intro w hR))
  go_ret2
  exact ⟨rfl, hR.below⟩
/-! ### A copy into a row of the call's own -/
def splA (cur : Array Value) (off : Nat) (cs : List Value) : Array Value := (cur.toList.take off ++ (cs ++ cur.toList.drop (off + cs.length))).toArray
theorem splA_nil (cur : Array Value) (off : Nat) : splA cur off [] = cur := by
  unfold splA
  simp
theorem splA_size {cur : Array Value} {off : Nat} {cs : List Value} (h : off + cs.length ≤ cur.size) : (splA cur off cs).size = cur.size := by
  unfold splA
  simp
  omega
section
variable {P : Program}
theorem run_copyN {ρ : Operand → Value} {o : Oper} {w0 w : World} {l l' : List RowT} {x y : Operand} {t1 t2 e : TypeId} {g off dLen dCap m : Nat} {cur : Array Value} {v : Value} {ys : List Value} (hR : Own w0 w l) (hu : P.underlying t1 = some (.slice e)) (hsz : (P.info? e).map (·.size) = some 1)
    (ho : o.op = .call { callee := .builtin .copy, args := #[x, y], argTypes := #[t1, t2] }) (hx : ρ x = .slice (some ⟨g, off, none⟩) dLen dCap) (hy : ρ y = v) (hP : Rd w 1 v m ys) (hm : (g, cur, e) ∈ l) (hl : off + dLen ≤ cur.size)
    (hup : Upd g (splA cur off (ys.take dLen)) l l') :
    ∃ w', (execOp ρ o).run P w = .ok (.value (.int .i64 ((min m dLen : Nat) : Int))) w' ∧ Own w0 w' l' := by
  have hg := hR.get hm
  have hlen : (ys.take dLen).length = min m dLen := by rw [List.length_take, hP.len, Nat.mul_one]; omega
  rcases Nat.eq_zero_or_pos (min m dLen) with h0 | h0
  · have hc : ys.take dLen = [] := List.eq_nil_of_length_eq_zero (by omega)
    rw [hc, splA_nil] at hup
    refine ⟨w, ?_, by have := hR.set hup; rwa [World.setRow_self hg] at this⟩
    obtain ⟨a, c, rfl⟩ : ∃ a c, v = .slice a m c := by
      rcases hP.way with ⟨rfl, rfl, _⟩ | ⟨a, cap, rfl, _⟩
      · exact ⟨_, _, rfl⟩
      · exact ⟨_, _, rfl⟩
    have hrun := run_copy_none (P := P) w t1 t2 o.type e (some ⟨g, off, none⟩) a dLen dCap m c hu hsz h0
    unfold execOp
    simp only [ho, resolve, invoke, builtin, Sem.run_bind, Sem.run_pure, Result.andThen_ok, List.map_toArray, List.map_cons, List.map_nil, hx, hy, hrun]
    rw [h0]
    rfl
  · have hc : 0 < m := by omega
    rcases hP.way with ⟨_, rfl, _⟩ | ⟨ad, cap, rfl, hle, hcell⟩
    · omega
    have hrun := run_copy_row (P := P) w t1 t2 o.type e g off dLen dCap ad m cap cur e (ys.take dLen) hu hsz hg hlen (fun j u hu => hcell j u (by rw [List.getElem?_take] at hu; split at hu; exact hu; exact nomatch hu)) (by omega)
      (fun u hu => by have h1 := List.all_eq_true.1 hP.ones u (List.mem_of_mem_take hu); exact h1)
    refine ⟨w.setRow g (splA cur off (ys.take dLen)), ?_, hR.set hup⟩
    unfold execOp
    simp only [ho, resolve, invoke, builtin, Sem.run_bind, Sem.run_pure, Result.andThen_ok, List.map_toArray, List.map_cons, List.map_nil, hx, hy]
    rw [hrun]
    simp only [Result.andThen_ok, hlen]
    unfold splA
    rw [hlen, List.append_assoc]
    rfl
end
section
variable {P : Program} {ops : Array Oper} {md : Region.Mode} {rest : List Oper} {Q : Exit → Act → World → Prop} {n : Nat} {M : Array Bool} {ls : List Value} {ds : List Deferred} {w0 w : World} {l l' lC : List RowT} {tp : TypeId} {pos : String} {af : Array Edge} {gd : Option (Nat × Bool)} {d : Tmp} {i : Nat} {x y : Operand} {t1 t2 e : TypeId} {g off dLen dCap m : Nat} {cur : Array Value} {v : Value} {ys : List Value}
theorem wpList_copyN (hR : Own w0 w l) (hu : P.underlying t1 = some (.slice e)) (hsz : (P.info? e).map (·.size) = some 1)
    (hgd : Region.wanted ⟨some d, .call { callee := .builtin .copy, args := #[x, y], argTypes := #[t1, t2] }, tp, pos, af, gd⟩ (yielded ops ls.toArray) = true)
    (hx : evalL ls x = some (.slice (some ⟨g, off, none⟩) dLen dCap)) (hy : evalL ls y = some v) (hP : Rd w 1 v m ys) (hm : (g, cur, e) ∈ l) (hl : off + dLen ≤ cur.size) (hup : Upd g (splA cur off (ys.take dLen)) l l')
    (h : ∀ w', Own w0 w' l' → wpList P ops Q rest ⟨(ls.set d (.int .i64 ((min m dLen : Nat) : Int))).toArray, ds⟩ w') :
    wpList P ops Q (⟨some d, .call { callee := .builtin .copy, args := #[x, y], argTypes := #[t1, t2] }, tp, pos, af, gd⟩ :: rest) ⟨ls.toArray, ds⟩ w := by
  obtain ⟨w', hr, hO⟩ := run_copyN (o := ⟨some d, .call { callee := .builtin .copy, args := #[x, y], argTypes := #[t1, t2] }, tp, pos, af, gd⟩) hR hu hsz rfl (eval_of hx) (eval_of hy) hP hm hl hup
  exact wpList_run_value hgd hr (by rw [put_list]; exact h w' hO)
theorem opCopyN (hR : Own w0 w l) (hu : P.underlying t1 = some (.slice e)) (hsz : (P.info? e).map (·.size) = some 1) {K : Act → World → Prop}
    (hi : ops.toList[i]? = some ⟨some d, .call { callee := .builtin .copy, args := #[x, y], argTypes := #[t1, t2] }, tp, pos, af, gd⟩)
    (hgd : Region.wanted ⟨some d, .call { callee := .builtin .copy, args := #[x, y], argTypes := #[t1, t2] }, tp, pos, af, gd⟩ (yielded ops ls.toArray) = true)
    (hx : evalL ls x = some (.slice (some ⟨g, off, none⟩) dLen dCap)) (hy : evalL ls y = some v) (hP : Rd w 1 v m ys) (hm : (g, cur, e) ∈ l) (hl : off + dLen ≤ cur.size) (hup : Upd g (splA cur off (ys.take dLen)) l l')
    (h : ∀ w', Own w0 w' l' → K ⟨(ls.set d (.int .i64 ((min m dLen : Nat) : Int))).toArray, ds⟩ w') : wpOp P ops Q i K ⟨ls.toArray, ds⟩ w := by
  obtain ⟨w', hr, hO⟩ := run_copyN (o := ⟨some d, .call { callee := .builtin .copy, args := #[x, y], argTypes := #[t1, t2] }, tp, pos, af, gd⟩) hR hu hsz rfl (eval_of hx) (eval_of hy) hP hm hl hup
  refine wpOp_kn hi hgd hr ?_
  show K ((⟨ls.toArray, ds⟩ : Act).put (some d) _) _
  rw [put_list]
  exact h w' hO
end
/-! ### Repeated bytes -/
theorem rep_add (a b : Nat) (bs : List Int) : (List.replicate (a + b) bs).flatten = (List.replicate a bs).flatten ++ (List.replicate b bs).flatten := by
  rw [← List.replicate_append_replicate, List.flatten_append]
theorem rep_len (a : Nat) (bs : List Int) : (List.replicate a bs).flatten.length = a * bs.length := by simp
/-- Of a row of so many bytes the first ones are what is to be repeated. -/
structure RepIs (bs : List Int) (t m : Nat) (cur : Array Value) : Prop where
  size : cur.size = t * bs.length
  mul : ∃ j, m = j * bs.length ∧ 1 ≤ j ∧ j ≤ t
  cells : cur.toList.take m = cellsB ((List.replicate t bs).flatten.take m)
theorem cellsB_take (bs : List Int) (n : Nat) : (cellsB bs).take n = cellsB (bs.take n) := by unfold cellsB; rw [List.map_take]
theorem splA_take {cur : Array Value} {off : Nat} {cs : List Value} (h : off + cs.length ≤ cur.size) : (splA cur off cs).toList.take (off + cs.length) = cur.toList.take off ++ cs := by
  have hl : (cur.toList.take off ++ cs).length = off + cs.length := by rw [List.length_append, List.length_take, Array.length_toList]; omega
  unfold splA
  rw [List.toList_toArray, ← List.append_assoc]
  rw [List.take_append_of_le_length (by omega)]
  rw [List.take_of_length_le (by omega)]
theorem RepIs.first {bs : List Int} {t : Nat} {cur : Array Value} (hs : cur.size = t * bs.length) (ht : 1 ≤ t) : RepIs bs t bs.length (splA cur 0 (cellsB bs)) := by
  have h1 : 1 * bs.length ≤ t * bs.length := Nat.mul_le_mul_right _ ht
  have h2 : 0 + (cellsB bs).length ≤ cur.size := by rw [cellsB_len]; omega
  refine ⟨by rw [splA_size h2, hs], ⟨1, by omega, Nat.le_refl _, ht⟩, ?_⟩
  have h3 := splA_take h2
  rw [cellsB_len, Nat.zero_add] at h3
  rw [h3]
  obtain ⟨u, rfl⟩ : ∃ u, t = 1 + u := ⟨t - 1, by omega⟩
  rw [rep_add]
  simp
theorem RepIs.more {bs : List Int} {t m : Nat} {cur : Array Value} (h : RepIs bs t m cur) (hm : m < t * bs.length) : RepIs bs t (m + min m (t * bs.length - m)) (splA cur m (((cur.toList.take m)).take (t * bs.length - m))) := by
  obtain ⟨hs, ⟨j, hj, hj1, hjt⟩, hc⟩ := h
  have hjlt : j < t := by
    rcases Nat.lt_or_ge j t with h | h
    · exact h
    · obtain rfl : j = t := by omega
      omega
  obtain ⟨R, hR⟩ : ∃ R, (List.replicate t bs).flatten = R := ⟨_, rfl⟩
  have hRl : R.length = t * bs.length := by rw [← hR, rep_len]
  obtain ⟨N, hN⟩ : ∃ N, t * bs.length = N := ⟨_, rfl⟩
  rw [hN] at hm hs hRl ⊢
  rw [hR] at hc
  have hcl : ((cur.toList.take m).take (N - m)).length = min m (N - m) := by
    simp only [List.length_take, Array.length_toList]
    omega
  have hfit : m + ((cur.toList.take m).take (N - m)).length ≤ cur.size := by rw [hcl]; omega
  refine ⟨by rw [splA_size hfit, hs, hN], ?_, ?_⟩
  · rcases Nat.le_total m (N - m) with h | h
    · rw [Nat.min_eq_left h]
      refine ⟨j + j, by rw [Nat.add_mul, ← hj], by omega, ?_⟩
      have h2 : (j + j) * bs.length ≤ t * bs.length := by rw [Nat.add_mul, ← hj, hN]; omega
      rcases Nat.eq_zero_or_pos bs.length with h0 | h0
      · rw [h0] at hN; omega
      · exact Nat.le_of_mul_le_mul_right h2 h0
    · rw [Nat.min_eq_right h]
      exact ⟨t, by omega, by omega, Nat.le_refl _⟩
  · have h3 := splA_take hfit
    rw [hcl] at h3
    rw [h3, hc, cellsB_take, ← cellsB_append, hR]
    congr 1
    have hper : R.drop m = R.take (N - m) := by
      have e1 : R = (List.replicate j bs).flatten ++ (List.replicate (t - j) bs).flatten := by rw [← rep_add, ← hR, show j + (t - j) = t by omega]
      have e2 : R = (List.replicate (t - j) bs).flatten ++ (List.replicate j bs).flatten := by rw [← rep_add, ← hR, show t - j + j = t by omega]
      have l1 : (List.replicate j bs).flatten.length = m := by rw [rep_len, hj]
      have l2 : (List.replicate (t - j) bs).flatten.length = N - m := by rw [rep_len, Nat.sub_mul, hN, hj]
      calc R.drop m = (List.replicate (t - j) bs).flatten := by rw [e1, ← l1, List.drop_left]
        _ = R.take (N - m) := by rw [← l2]; conv => rhs; rw [e2]
                                 rw [List.take_left]
    have e3 : R.take (m + min m (N - m)) = R.take m ++ (R.drop m).take (min m (N - m)) := List.take_add
    rw [e3, hper, List.take_take, List.take_take]
    congr 2
    omega
theorem RepIs.done {bs : List Int} {t : Nat} {cur : Array Value} (h : RepIs bs t (t * bs.length) cur) : cur.toList = cellsB (List.replicate t bs).flatten := by
  have h1 := h.cells
  rw [List.take_of_length_le (by rw [Array.length_toList, h.size]; exact Nat.le_refl _), List.take_of_length_le (by rw [rep_len]; exact Nat.le_refl _)] at h1
  exact h1
theorem u64_in (n : Nat) (h : n ≤ 1000000) : IntKind.u64.wrap (n : Int) = (n : Int) := by rw [IntKind.wrap_u64]; omega
theorem tBytesSz : (Try.prog.info? 5).map (·.size) = some 1 := by kernel_rfl
theorem Rd.row {w0 w : World} {l : List RowT} (hR : Own w0 w l) {g n cap : Nat} {cur : Array Value} {e : TypeId} (hm : (g, cur, e) ∈ l) (hn : n ≤ cur.size) (hc : n ≤ cap) (h1 : (cur.toList.take n).all (·.oneCell') = true) : Rd w 1 (.slice (some ⟨g, 0, none⟩) n cap) n (cur.toList.take n) := by
  refine ⟨by rw [List.length_take, Array.length_toList]; omega, h1, .inr ⟨_, cap, rfl, hc, fun j u hu => ?_⟩⟩
  rw [addr_mid, cell_of_row _ _ _ _ _ _ (hR.get hm), Nat.zero_add, ← Array.getElem?_toList]
  rw [List.getElem?_take] at hu
  split at hu
  · exact hu
  · exact nomatch hu
theorem cellsB_ones (bs : List Int) : (cellsB bs).all (·.oneCell') = true := by
  rw [List.all_eq_true]
  intro u hu
  obtain ⟨n, _, rfl⟩ := List.mem_map.1 hu
  rfl
set_option maxHeartbeats 1000000 in
theorem repeat_any {w0 : World} {v : Value} {bs : List Int} (h : SrcW w0 v bs) {t : Nat} (ht : 1 ≤ t) (ht2 : t ≤ 1000000) (hb2 : bs.length ≤ 1000000) (hn : t * bs.length ≤ 1000000) :
    Calls Try.prog 33 #[v, .int .i64 (t : Int)] w0 fun e w' => ∃ g, e = .returned (.slice (some ⟨g, 0, none⟩) (t * bs.length) (t * bs.length)) ∧ Own w0 w' [(g, (cellsB (List.replicate t bs).flatten).toArray, 5)] := by
  have HMUL := Lib.hid (fun w => mul_any bs.length t (by omega) (by omega) (by rw [Nat.mul_comm]; omega) w)
  rw [Nat.mul_comm bs.length t] at HMUL
  have hRep0 : ∀ cur : Array Value, cur.size = t * bs.length → RepIs bs t bs.length (splA cur 0 (cellsB bs)) := fun cur hc => RepIs.first hc ht
  have hRepM : ∀ (m : Nat) (cur : Array Value), RepIs bs t m cur → m < t * bs.length → RepIs bs t (m + min m (t * bs.length - m)) (splA cur m (((cur.toList.take m)).take (t * bs.length - m))) := fun m cur h hm => h.more hm
  have hRepD : ∀ cur : Array Value, RepIs bs t (t * bs.length) cur → cur.toList = cellsB (List.replicate t bs).flatten := fun cur h => h.done
  have hRepS : ∀ (m : Nat) (cur : Array Value), RepIs bs t m cur → cur.size = t * bs.length ∧ m ≤ t * bs.length ∧ bs.length ≤ m := fun m cur h => by
    obtain ⟨j, hj, hj1, hjt⟩ := h.mul
    refine ⟨h.size, by rw [hj]; exact Nat.mul_le_mul_right _ hjt, ?_⟩
    have := Nat.mul_le_mul_right bs.length hj1
    omega
  have hRepC : ∀ (m : Nat) (cur : Array Value), RepIs bs t m cur → (cur.toList.take m).all (·.oneCell') = true := fun m cur h => by rw [h.cells]; exact cellsB_ones _
  have hbN : bs.length ≤ t * bs.length := by have := Nat.mul_le_mul_right bs.length ht; omega
  have hN0 : bs.length = 0 → t * bs.length = 0 := fun h => by rw [h, Nat.mul_zero]
  obtain ⟨N, hN⟩ : ∃ N, t * bs.length = N := ⟨_, rfl⟩
  rw [hN] at hn hN0 hbN HMUL hRep0 hRepM hRepD hRepS ⊢
  obtain ⟨p, hp⟩ : ∃ p, bs.length = p := ⟨_, rfl⟩
  have hRd : Rd w0 1 v p (cellsB bs) := by rw [← hp]; exact h.rd
  rw [hp] at hb2 hN0 hbN HMUL hRep0 hRepS
  have HU1 := Lib.hid (u64_in p hb2)
  have HU2 := Lib.hid (u64_in t ht2)
  have HU3 := Lib.hid (show IntKind.i64.wrap (N : Int) = (N : Int) from IntWalk.i64_in _ (by omega))
  have HP := Lib.hid hp
  have hR := Own.start w0
  clear hN
  go_enter Try.func33, Try.ntmps33
  go_upto_region 4 with (first
    | ((with_reducible apply q_ls hR); exact rfl; (with_reducible apply t_lenRd Try.underlying22); (apply EvC.now; exact rfl); exact hRd; (simp only [List.set_cons_succ, List.set_cons_zero]; exact rfl); clear hR; intro w hR)
    | ((with_reducible apply q_ls hR); exact rfl; (with_reducible apply t_conv Try.underlying3 Try.underlying76); (apply EvC.now; exact rfl); (with_reducible first | exact HU1.out | exact HU2.out); (simp only [List.set_cons_succ, List.set_cons_zero]; exact rfl); clear hR; intro w hR)
    | (go_at_call 45; refine (HMUL.out _).mono ?_; rintro e w' ⟨rfl, hb⟩; replace hR := hR.grow hb; clear hb)
    | ((with_reducible apply q_ls hR); exact rfl; ((with_reducible first | apply t_addr (fRec _ (by decide)) | apply t_one tByteR | apply t_one tSlR | apply t_one tIntR) <;> (first | (apply EvC.gv; exact rfl; (with_reducible first | exact Imp.refl _ | (apply Imp.left; exact Imp.refl _) | (apply Imp.right; exact Imp.refl _) | (apply Imp.left; apply Imp.left; exact Imp.refl _))) | (apply EvC.now; exact rfl) | exact rfl | (with_reducible exact EvAll.nil) | (focus (repeat (first | apply EvAll.cons | exact EvAll.nil | (apply EvC.gv; exact rfl; (with_reducible first | exact Imp.refl _ | (apply Imp.left; exact Imp.refl _) | (apply Imp.right; exact Imp.refl _) | (apply Imp.left; apply Imp.left; exact Imp.refl _))) | (apply EvC.now; exact rfl))); done) | exact rfl | (focus (repeat (first | apply List.Mem.head | apply List.Mem.tail | apply List.mem_append_right))))); (simp only [List.set_cons_succ, List.set_cons_zero]; exact rfl); clear hR; intro w hR))
  refine wp_region_tame hR [0, 1, 2, 3, 4, 5] rfl ?_
  repeat (refine wpT_step rfl ?_; first
    | ((first | (with_reducible apply q_pl) | ((with_reducible apply q_gd); (first | (apply GdBy.gt; exact rfl; exact rfl) | (apply GdBy.gf; exact rfl; exact rfl) | (apply GdBy.t; exact rfl; exact rfl) | (apply GdBy.f; exact rfl; exact rfl)))); (first | ((with_reducible first | apply t_move | apply t_assign | apply t_and | apply t_or | apply t_cmp | apply t_not | apply t_addr (fRec _ (by decide)) | apply t_one tByteR | apply t_one tSlR | apply t_one tIntR) <;> (first | (apply EvC.gv; exact rfl; (with_reducible first | exact Imp.refl _ | (apply Imp.left; exact Imp.refl _) | (apply Imp.right; exact Imp.refl _) | (apply Imp.left; apply Imp.left; exact Imp.refl _))) | (apply EvC.now; exact rfl) | exact rfl | (with_reducible exact EvAll.nil) | (focus (repeat (first | apply EvAll.cons | exact EvAll.nil | (apply EvC.gv; exact rfl; (with_reducible first | exact Imp.refl _ | (apply Imp.left; exact Imp.refl _) | (apply Imp.right; exact Imp.refl _) | (apply Imp.left; apply Imp.left; exact Imp.refl _))) | (apply EvC.now; exact rfl))); done) | exact rfl | (focus (repeat (first | apply List.Mem.head | apply List.Mem.tail | apply List.mem_append_right)))))); (simp only [List.set_cons_succ, List.set_cons_zero]; exact rfl))
    | ((with_reducible apply q_gd); (first | (apply GdBy.gt; exact rfl; exact rfl) | (apply GdBy.gf; exact rfl; exact rfl) | (apply GdBy.t; exact rfl; exact rfl) | (apply GdBy.f; exact rfl; exact rfl)); ((with_reducible apply t_num) <;> (first | (apply EvC.gv; exact rfl; (with_reducible first | exact Imp.refl _ | (apply Imp.left; exact Imp.refl _) | (apply Imp.right; exact Imp.refl _) | (apply Imp.left; apply Imp.left; exact Imp.refl _))) | (apply EvC.now; exact rfl) | exact rfl | (with_reducible exact EvAll.nil) | (focus (repeat (first | apply EvAll.cons | exact EvAll.nil | (apply EvC.gv; exact rfl; (with_reducible first | exact Imp.refl _ | (apply Imp.left; exact Imp.refl _) | (apply Imp.right; exact Imp.refl _) | (apply Imp.left; apply Imp.left; exact Imp.refl _))) | (apply EvC.now; exact rfl))); done) | exact rfl | (focus (repeat (first | apply List.Mem.head | apply List.Mem.tail | apply List.mem_append_right))))); (simp only [List.set_cons_succ, List.set_cons_zero]; exact rfl))
    | ((with_reducible apply wpT1_gpure); (first | (apply GdBy.gt; exact rfl; exact rfl) | (apply GdBy.gf; exact rfl; exact rfl) | (apply GdBy.t; exact rfl; exact rfl) | (apply GdBy.f; exact rfl; exact rfl)); intro K hK; go_simp; refine hK _ ?_; clear hK K; simp only [List.set_cons_succ, List.set_cons_zero])
    | ((with_reducible apply wpT1_pure); exact rfl; intro K hK; go_simp; refine hK _ ?_; clear hK K; simp only [List.set_cons_succ, List.set_cons_zero]))
  refine wpT_nil ?_
  clear hR; intro w hR
  go_upto_if 26 with fail
  refine wp_cond_at (nm := false) rfl (by simp; omega) (fun h => absurd h (by decide)) (fun _ => ?_)
  go_upto_region 6 with fail
  have HZC := Lib.hid (show ((List.replicate N (Value.int .u8 0)).toArray).size = N by simp)
  go_wp2_with (first
    | ((with_reducible apply q_ls hR); exact rfl; (with_reducible apply t_conv Try.underlying76 Try.underlying3); (apply EvC.now; exact rfl); exact HU3.out; (simp only [List.set_cons_succ, List.set_cons_zero]; exact rfl); clear hR; intro w hR)
    | ((with_reducible apply wpList_makeRow hR (z := .int .u8 0) (bytes := 1) Try.underlying22); (kernel_rfl); exact rfl; decide; exact rfl; exact rfl; exact rfl; exact hn; clear hR; intro g w hR; simp only [List.set_cons_succ, List.set_cons_zero])
    | ((with_reducible apply wpList_copyN hR Try.underlying22 tBytesSz); exact rfl; exact rfl; exact rfl; exact hRd.own hR; exact .head _; (rw [HZC.out]; omega); exact .head; clear hR; intro w hR; simp only [List.set_cons_succ, List.set_cons_zero])
    | ((with_reducible apply q_ls hR); exact rfl; ((with_reducible first | apply t_addr (fRec _ (by decide)) | apply t_one tByteR | apply t_one tSlR | apply t_one tIntR) <;> (first | (apply EvC.gv; exact rfl; (with_reducible first | exact Imp.refl _ | (apply Imp.left; exact Imp.refl _) | (apply Imp.right; exact Imp.refl _) | (apply Imp.left; apply Imp.left; exact Imp.refl _))) | (apply EvC.now; exact rfl) | exact rfl | (with_reducible exact EvAll.nil) | (focus (repeat (first | apply EvAll.cons | exact EvAll.nil | (apply EvC.gv; exact rfl; (with_reducible first | exact Imp.refl _ | (apply Imp.left; exact Imp.refl _) | (apply Imp.right; exact Imp.refl _) | (apply Imp.left; apply Imp.left; exact Imp.refl _))) | (apply EvC.now; exact rfl))); done) | exact rfl | (focus (repeat (first | apply List.Mem.head | apply List.Mem.tail | apply List.mem_append_right))))); (simp only [List.set_cons_succ, List.set_cons_zero]; exact rfl); clear hR; intro w hR))
  obtain ⟨cur0, hcur0⟩ : ∃ cur0, splA (List.replicate N (Value.int .u8 0)).toArray 0 ((cellsB bs).take N) = cur0 := ⟨_, rfl⟩
  have hI0 : RepIs bs t p cur0 := by
    rw [← hcur0, List.take_of_length_le (by rw [cellsB_len, HP.out]; exact hbN)]
    exact hRep0 _ HZC.out
  rw [hcur0] at hR
  clear hcur0 HZC
  go_loopw [8] (fun i wr => ∃ (m : Nat) (cur : Array Value), i = .int .i64 m ∧ RepIs bs t m cur ∧ Own w0 wr [(g, cur, 5)]) (fun i _ => N - (intOf i).toNat)
  case atStart => exact ⟨p, cur0, rfl, hI0, hR⟩
  case round =>
    clear hR hI0
    obtain ⟨m, cur, rfl, hI, hR⟩ := hrel
    obtain ⟨hcs, hmN, hpos⟩ := hRepS m cur hI
    go_upto_if 37 with (first
    | ((with_reducible apply q_ls hR); exact rfl; (with_reducible apply t_len Try.underlying22); (apply EvC.now; exact rfl); (simp only [List.set_cons_succ, List.set_cons_zero]; exact rfl); clear hR; intro w hR)
    | ((with_reducible apply q_ls hR); exact rfl; ((with_reducible first | apply t_addr (fRec _ (by decide)) | apply t_one tByteR | apply t_one tSlR | apply t_one tIntR) <;> (first | (apply EvC.gv; exact rfl; (with_reducible first | exact Imp.refl _ | (apply Imp.left; exact Imp.refl _) | (apply Imp.right; exact Imp.refl _) | (apply Imp.left; apply Imp.left; exact Imp.refl _))) | (apply EvC.now; exact rfl) | exact rfl | (with_reducible exact EvAll.nil) | (focus (repeat (first | apply EvAll.cons | exact EvAll.nil | (apply EvC.gv; exact rfl; (with_reducible first | exact Imp.refl _ | (apply Imp.left; exact Imp.refl _) | (apply Imp.right; exact Imp.refl _) | (apply Imp.left; apply Imp.left; exact Imp.refl _))) | (apply EvC.now; exact rfl))); done) | exact rfl | (focus (repeat (first | apply List.Mem.head | apply List.Mem.tail | apply List.mem_append_right))))); (simp only [List.set_cons_succ, List.set_cons_zero]; exact rfl); clear hR; intro w hR))
    by_cases hlt : m < N
    · refine wp_cond_at (nm := true) rfl (by simp; omega) (fun _ => ?_) (fun h => absurd h (by decide))
      have hI2 := hRepM m cur hI hlt
      have hp0 : 0 < p := by omega
      have hm0 : 0 < m := by omega
      have hones := hRepC m cur hI
      have hto := show tailOff N m 1 = m by unfold tailOff; rw [if_neg (by omega), Nat.mul_one]
      have HADD := Lib.hid (show IntKind.i64.wrap ((m : Int) + ((min m (N - m) : Nat) : Int)) = ((m + min m (N - m) : Nat) : Int) by rw [IntWalk.i64_in _ (by omega)]; omega)
      go_upto_region 9 with fail
      refine wp_region_some hR [] (List.nil_sublist _) [0, 1, 2, 3, 4, 5, 6] 3 (by kernel_rfl) (by kernel_rfl) (by kernel_rfl) rfl ?_
      clear hR; intro hR
      repeat (refine wpT_step rfl ?_; first
    | ((with_reducible apply q_pl); (with_reducible apply t_move); (apply EvC.now; exact rfl); (simp only [List.set_cons_succ, List.set_cons_zero]; exact rfl))
    | ((with_reducible apply q_pl); (with_reducible apply t_tailR tBytesN.k); (apply EvC.now; exact rfl); (apply EvC.now; exact rfl); exact rfl; exact hmN; exact Nat.le_refl _; (simp only [List.set_cons_succ, List.set_cons_zero]; exact rfl))
    | ((with_reducible apply q_pl); (with_reducible apply t_first tBytesN); (apply EvC.now; exact rfl); (apply EvC.now; exact rfl); exact rfl; exact hmN; (simp only [List.set_cons_succ, List.set_cons_zero]; exact rfl)))
      refine wpT_nil ?_
      rw [hto]
      refine wpG_one hR (i := 7) (by kernel_rfl) ?_
      clear hR; intro w hR
      refine opCopyN hR Try.underlying22 tBytesSz rfl rfl rfl rfl (Rd.row hR (.head _) (by omega) (by omega) hones) (.head _) (by omega) .head ?_
      clear hR; intro w hR
      refine ⟨hR.drop (List.nil_sublist _), ?_⟩
      simp only [List.set_cons_succ, List.set_cons_zero]
      refine wpG_q hR (i := 8) (by kernel_rfl) rfl rfl (t_numE (op := .add) (EvC.now rfl) (EvC.now rfl) rfl HADD.out) (by (simp only [List.set_cons_succ, List.set_cons_zero]; exact rfl)) (List.nil_sublist _) ?_
      clear hR; intro w hR
      refine wpG_slot hR (i := 9) (by kernel_rfl) rfl rfl (by simp only [List.set_cons_succ, List.set_cons_zero]; exact rfl) ?_
      clear hR; intro w hR
      refine wpG_end hR (by kernel_rfl) ?_
      clear hR; intro w hR
      go_wp2_with fail
      go_round
      case rel => exact ⟨m + min m (N - m), _, rfl, hI2, hR⟩
      case measure => simp [intOf]; omega
    · refine wp_cond_at (nm := false) rfl (by simp; omega) (fun h => absurd h (by decide)) (fun _ => ?_)
      obtain rfl : m = N := by omega
      have HD := Lib.hid (hRepD cur hI)
      go_wp2_with fail
      go_ret
      rw [← HD.out]
      exact ⟨g, rfl, hR⟩
end Go.Proofs.Ytalgadinoaeihaa
