



/- Texts as the numbers of their bytes: what is read of them, cut of them, put together, held against one another; a text turned into bytes, and bytes into a text. No statement of the seat is proved here. -/
import Derived.Test.YtjecckmcjcikdaaDoorSrc
import Derived.Test.YtjecckmcjcikdaaDoorNum
import Derived.Laws.IdiomStrings
namespace Go.Proofs.YtjecckmcjcikdaaDoor
open Go.ChangeShapes Go.WideShapes Go.ChangeAt Go.RowKit
set_option linter.unusedVariables false
set_option linter.unusedSimpArgs false

/-- A text's bytes as numbers. -/
def numsS (s : ByteArray) : List Int := s.data.toList.map fun b => (b.toNat : Int)
theorem numsS_ok (s : ByteArray) : bytesOk (numsS s) := by
  intro n hn
  obtain ⟨b, _, rfl⟩ := List.mem_map.1 hn
  exact ⟨by omega, by have := b.toNat_lt; omega⟩
theorem numsS_len (s : ByteArray) : (numsS s).length = s.size := by
  rw [numsS, List.length_map]; exact Array.length_toList
theorem strOf_nums (s : ByteArray) : strOfNums (numsS s) = s := by
  apply ByteArray.ext
  apply Array.toList_inj.1
  rw [strOfNums_data]
  unfold numsS
  rw [List.map_map]
  conv => rhs; rw [← List.map_id s.data.toList]
  apply List.map_congr_left
  intro b _
  simp
theorem nums_strOf {ns : List Int} (h : bytesOk ns) : numsS (strOfNums ns) = ns := by
  apply strOf_inj (numsS_ok _) h
  exact strOf_nums _
theorem bytesOk.nil : bytesOk [] := fun _ h => nomatch h
theorem bytesOk.cons {n : Int} {ns : List Int} (h : 0 ≤ n ∧ n ≤ 255) (hs : bytesOk ns) : bytesOk (n :: ns) := by
  intro m hm
  cases hm with
  | head => exact h
  | tail _ hm => exact hs m hm
theorem bytesOk.append {a b : List Int} (ha : bytesOk a) (hb : bytesOk b) : bytesOk (a ++ b) := fun n hn => (List.mem_append.1 hn).elim (ha n) (hb n)
theorem bytesOk.take {a : List Int} (ha : bytesOk a) (k : Nat) : bytesOk (a.take k) := fun n hn => ha n (List.mem_of_mem_take hn)
theorem bytesOk.drop {a : List Int} (ha : bytesOk a) (k : Nat) : bytesOk (a.drop k) := fun n hn => ha n (List.mem_of_mem_drop hn)
theorem bytesOk.at {a : List Int} (ha : bytesOk a) {k : Nat} {n : Int} (h : a[k]? = some n) : 0 ≤ n ∧ n ≤ 255 := ha n (List.mem_of_getElem? h)
theorem strOf_len (ns : List Int) : (strOfNums ns).size = ns.length := strOfNums_size ns
theorem strOf_at {ns : List Int} (h : bytesOk ns) {k : Nat} {n : Int} (hk : ns[k]? = some n) (hl : k < (strOfNums ns).size) : (((strOfNums ns)[k]'hl).toNat : Int) = n := by
  have h1 : (strOfNums ns).data.toList[k]? = some ((strOfNums ns)[k]'hl) := by
    rw [Array.getElem?_toList]
    exact Array.getElem?_eq_getElem hl
  rw [strOfNums_data, List.getElem?_map, hk] at h1
  have h6 := Option.some.inj h1
  rw [← h6]
  have := h.at hk
  simp only [UInt8.toNat_ofNat']
  omega
theorem strOf_cut (ns : List Int) (a b : Nat) : (strOfNums ns).extract a b = strOfNums ((ns.drop a).take (b - a)) := by
  apply ByteArray.ext
  apply Array.toList_inj.1
  rw [strOfNums_data, List.map_take, List.map_drop, ← strOfNums_data]
  simp [ByteArray.data_extract, List.extract_eq_take_drop]

section
variable {P : Program} {C : World → Prop} {tp : TypeId} {pos : String} {af : Array Edge} {gd : Option (Nat × Bool)} {ls : List Value} {ds : List Deferred} {c : Bool} {dd : Option Tmp} {t ty ty' : TypeId} {x y z : Operand} {ns ms : List Int}
theorem t_lenN (ht : P.underlying t = some .string) (hx : EvC ls c x (.string (strOfNums ns))) : TIf P C c ⟨dd, .call ⟨.builtin .len, #[x], #[t]⟩, tp, pos, af, gd⟩ ⟨ls.toArray, ds⟩ (.int .i64 ns.length) := by
  refine ⟨fun e => .inl fun w _ => ?_⟩
  unfold execOp
  simp [resolve, invoke, builtin, eval_of (hx.of e), run_len_string _ _ _ _ ht, strOf_len, goInt]
/-- A text's byte. -/
theorem t_atN (ht : P.underlying t = some .string) (hb : bytesOk ns) {q : IntKind} {i n : Int} {k : Nat} (hx : EvC ls c x (.string (strOfNums ns))) (hy : EvC ls c y (.int q i)) (hi : i = k) (hn : ns[k]? = some n) :
    TIf P C c ⟨dd, .index t x y, tp, pos, af, gd⟩ ⟨ls.toArray, ds⟩ (.int .u8 n) := by
  subst hi
  refine ⟨fun e => .inl fun w _ => ?_⟩
  have hk : k < ns.length := (List.getElem?_eq_some_iff.1 hn).1
  have hl : k < (strOfNums ns).size := by rw [strOf_len]; exact hk
  have hr := run_index_string (P := P) (w := w) t (strOfNums ns) q (k : Int) ht
  rw [dif_pos ⟨by omega, by omega⟩] at hr
  have hv : ((((strOfNums ns)[(k : Int).toNat]'(by omega)).toNat : Nat) : Int) = n := by
    have := strOf_at hb hn hl
    simpa using this
  rw [hv] at hr
  unfold execOp
  simp only [eval_of (hx.of e), eval_of (hy.of e)]
  simp [Instr.indexAt, hr]
/-- A text's bytes up to a place; from a place on. -/
theorem t_takeN (ht : P.underlying t = some .string) {q : IntKind} {i : Int} {k : Nat} (hx : EvC ls c x (.string (strOfNums ns))) (hy : EvC ls c y (.int q i)) (hi : i = k) (hk : k ≤ ns.length) :
    TIf P C c ⟨dd, .slice t x none (some y) none, tp, pos, af, gd⟩ ⟨ls.toArray, ds⟩ (.string (strOfNums (ns.take k))) := by
  have h := t_strcut (P := P) (C := C) (tp := tp) (pos := pos) (af := af) (gd := gd) (ds := ds) (dd := dd) ht hx hy hi (by rw [strOf_len]; exact hk)
  rwa [strOf_cut, List.drop_zero, Nat.sub_zero] at h
theorem t_dropN (ht : P.underlying t = some .string) {q : IntKind} {i : Int} {k : Nat} (hx : EvC ls c x (.string (strOfNums ns))) (hy : EvC ls c y (.int q i)) (hi : i = k) (hk : k ≤ ns.length) :
    TIf P C c ⟨dd, .slice t x (some y) none none, tp, pos, af, gd⟩ ⟨ls.toArray, ds⟩ (.string (strOfNums (ns.drop k))) := by
  subst hi
  refine ⟨fun e => .inl fun w _ => ?_⟩
  have k2 : (0 : Int) ≤ (k : Int) ∧ (k : Int) ≤ ((strOfNums ns).size : Int) := ⟨by omega, by rw [strOf_len]; omega⟩
  have hb : (Instr.sliceBounds false (strOfNums ns).size (strOfNums ns).size (some (.int q (k : Int))) none none).run P w = .ok (k, (strOfNums ns).size, (strOfNums ns).size) w := by
    simp [Instr.sliceBounds, Instr.sliceBound, asIntOf, k2]; intro hc; omega
  have hr : (Instr.sliceAt t (.string (strOfNums ns)) (some (.int q (k : Int))) none none).run P w = .ok (.string ((strOfNums ns).extract k (strOfNums ns).size)) w := by
    simp [Instr.sliceAt, Instr.slice, run_underlying ht, hb]
  rw [strOf_cut, strOf_len, show ((ns.drop k).take (ns.length - k)) = ns.drop k from List.take_of_length_le (by rw [List.length_drop]; exact Nat.le_refl _)] at hr
  unfold execOp
  simp [eval_of (hx.of e), eval_of (hy.of e), hr]
/-- Two texts held against one another. -/
theorem t_eqN (ha : bytesOk ns) (hb : bytesOk ms) (hx : EvC ls c x (.string (strOfNums ns))) (hy : EvC ls c y (.string (strOfNums ms))) : TIf P C c ⟨dd, .binOp .eql ty x y ty', tp, pos, af, gd⟩ ⟨ls.toArray, ds⟩ (.bool (decide (ns = ms))) := by
  rw [← strOf_eq ns ms ha hb]; exact t_streq hx hy
theorem t_neN (ha : bytesOk ns) (hb : bytesOk ms) (hx : EvC ls c x (.string (strOfNums ns))) (hy : EvC ls c y (.string (strOfNums ms))) : TIf P C c ⟨dd, .binOp .neq ty x y ty', tp, pos, af, gd⟩ ⟨ls.toArray, ds⟩ (.bool (!decide (ns = ms))) := by
  rw [← strOf_eq ns ms ha hb]; exact t_strne hx hy
/-- Two texts, one behind the other, told as one wishes. -/
theorem t_catE {a b r : List Int} (hx : EvC ls c x (.string (strOfNums a))) (hy : EvC ls c y (.string (strOfNums b))) (hn : a.length + b.length ≤ 1000000) (hr : a ++ b = r) : TIf P C c ⟨dd, .binOp .add ty x y ty', tp, pos, af, gd⟩ ⟨ls.toArray, ds⟩ (.string (strOfNums r)) := by
  subst hr; exact t_cat hx hy hn
end
/-- A text that is a constant, told as its numbers. -/
theorem lit_now {ls : List Value} {c : Bool} {s : ByteArray} {ns : List Int} (h : s = strOfNums ns) : EvC ls c (.const (.string s)) (.string (strOfNums ns)) := by subst h; exact EvC.now rfl
theorem lit_tmp {ls : List Value} {c : Bool} {x : Operand} {s : ByteArray} {ns : List Int} (hx : evalL ls x = some (.string s)) (h : s = strOfNums ns) : EvC ls c x (.string (strOfNums ns)) := by subst h; exact EvC.now hx
/-! ### A text turned into bytes -/
/-- The row that holds them. -/
theorem bytesRow_at {ns : List Int} (h : bytesOk ns) (cap : Nat) {j : Nat} {u : Int} (hu : ns[j]? = some u) : (bytesRow (strOfNums ns) cap)[j]? = some (.int .u8 u) := by
  have hj : j < ns.length := (List.getElem?_eq_some_iff.1 hu).1
  have hb := h.at hu
  unfold bytesRow
  rw [Array.getElem?_append_left (by simpa [strOfNums] using hj), Array.getElem?_map]
  have h1 : (strOfNums ns).data[j]? = some (UInt8.ofNat u.toNat) := by
    rw [← Array.getElem?_toList, strOfNums_data, List.getElem?_map, hu]; rfl
  rw [h1]
  simp only [Option.map_some]
  congr 2
  simp only [UInt8.toNat_ofNat']
  omega
/-- The marked row of a text's bytes: where it lies, what stands there. -/
structure MarkS (w : World) (e : TypeId) (v : Value) (ns : List Int) : Prop where
  ok : bytesOk ns
  way : ∃ (g cap : Nat) (cur : Array Value), v = .slice (some ⟨g, 0, none⟩) ns.length cap ∧ ns.length ≤ cap ∧ w.heap[g]? = some (.cells cur e (cur.size, cur.size + 1)) ∧ ∀ (j : Nat) (u : Int), ns[j]? = some u → cur[j]? = some (Value.int .u8 u)
theorem MarkS.src {w : World} {e : TypeId} {v : Value} {ns : List Int} (h : MarkS w e v ns) : SrcW w v ns := by
  obtain ⟨g, cap, cur, rfl, h1, h2, h3⟩ := h.way
  refine ⟨h.ok, .inr ⟨_, cap, rfl, h1, fun j u hu => ?_⟩⟩
  rw [addr_mid, cell_of_row _ _ _ _ _ _ h2, Nat.zero_add]
  exact h3 j u hu
section
variable {P : Program} {ops : Array Oper} {rest : List Oper} {Q : Exit → Act → World → Prop} {ls : List Value} {ds : List Deferred} {w0 w : World} {l : List RowT} {tp : TypeId} {pos : String} {af : Array Edge} {gd : Option (Nat × Bool)} {d : Tmp} {src dst e : TypeId} {x : Operand} {ns : List Int}
theorem run_bytesN {ρ : Operand → Value} {o : Oper} (hs : P.underlying src = some .string) (hd : P.underlying dst = some (.slice e)) (he : P.underlying e = some (.int .u8)) (hb : bytesOk ns)
    (ho : o.op = .convert src dst x) (hx : ρ x = .string (strOfNums ns)) : ∃ v w', (execOp ρ o).run P w = .ok (.value v) w' ∧ Below w.heap.size w w' ∧ MarkS w' e v ns := by
  have hr := run_bytes_of_string (P := P) w src dst e (strOfNums ns) hs hd he
  rw [strOf_len] at hr
  generalize hc : grownCap w ns.length 0 e = cap at hr
  have hle : ns.length ≤ cap := by rw [← hc]; exact grownCap_ge _ _ _ _
  refine ⟨_, w.drew.alloc (.cells (bytesRow (strOfNums ns) cap) e ((bytesRow (strOfNums ns) cap).size, (bytesRow (strOfNums ns) cap).size + 1)), ?_, (Below.refl _ w).drew.alloc (Nat.le_refl _) _, ⟨hb, ⟨w.heap.size, cap, _, rfl, hle, ?_, fun j u hu => bytesRow_at hb cap hu⟩⟩⟩
  · unfold execOp
    simp only [ho, hx, Sem.run_bind, hr, Result.andThen_ok, Sem.run_pure]
  · show (w.heap.push _)[w.heap.size]? = _
    rw [Array.getElem?_push, if_pos rfl]
theorem wpList_bytesN (hR : Own w0 w l) (hs : P.underlying src = some .string) (hd : P.underlying dst = some (.slice e)) (he : P.underlying e = some (.int .u8)) (hb : bytesOk ns)
    (hgd : Region.wanted ⟨some d, .convert src dst x, tp, pos, af, gd⟩ (yielded ops ls.toArray) = true) (hx : evalL ls x = some (.string (strOfNums ns)))
    (h : ∀ v w', Own w0 w' l → MarkS w' e v ns → wpList P ops Q rest ⟨(ls.set d v).toArray, ds⟩ w') :
    wpList P ops Q (⟨some d, .convert src dst x, tp, pos, af, gd⟩ :: rest) ⟨ls.toArray, ds⟩ w := by
  obtain ⟨v, w', hr, hbl, hM⟩ := run_bytesN (o := ⟨some d, .convert src dst x, tp, pos, af, gd⟩) (w := w) hs hd he hb rfl (eval_of hx)
  exact wpList_run_value hgd hr (by rw [put_list]; exact h v w' (hR.grow hbl) hM)
end
end Go.Proofs.YtjecckmcjcikdaaDoor
