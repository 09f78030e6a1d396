



/- Slices of bytes that are read, wherever they lie ('SrcW', 'Src'): their length, their elements, cuts of them, as a text; what a text's bytes are, and a text appended to a row of the call's own. No statement of the seat is proved here. -/
import Derived.Test.YtjecckmcjcikdaaDoorMany
import Derived.Lib.AppendStr
import Derived.ProofKit
namespace Go.Proofs.YtjecckmcjcikdaaDoor
open Go.ChangeShapes Go.WideShapes Go.ChangeAt Go.RowKit
set_option linter.unusedVariables false
set_option linter.unusedSimpArgs false

theorem Del.perm {x : RowT} {l l' : List RowT} (h : Del x l l') : (x :: l').Perm l := by
  induction h with
  | head => exact List.Perm.refl _
  | tail _ ih => exact (List.Perm.swap _ _ _).trans (ih.cons _)
theorem Own.lead {w0 w : World} {l l' : List RowT} {x : RowT} (h : Own w0 w l) (hd : Del x l l') : Own w0 w (x :: l') := h.perm hd.perm

/-- Bytes that lie somewhere. -/
structure SrcW (w : World) (v : Value) (bs : List Int) : Prop where
  ok : bytesOk bs
  way : (v = .slice none 0 0 ∧ bs = []) ∨ ∃ a cap, v = .slice (some a) bs.length cap ∧ bs.length ≤ cap ∧ ∀ j u, bs[j]? = some u → w.cell? (a.add j) = some (.int .u8 u)
/-- .. not too many. -/
structure Src (w : World) (v : Value) (bs : List Int) : Prop extends SrcW w v bs where
  most : bs.length ≤ 1000000
theorem SrcW.keep {w w' : World} {v : Value} {bs : List Int} (h : SrcW w v bs) (hb : Below w.heap.size w w') : SrcW w' v bs := by
  refine ⟨h.ok, ?_⟩
  rcases h.way with h1 | ⟨a, cap, h1, h2, h3⟩
  · exact .inl h1
  · exact .inr ⟨a, cap, h1, h2, fun j u hu => (hb.cell (World.block_lt_of_cell? w _ (h3 j u hu))).trans (h3 j u hu)⟩
theorem SrcW.ofRw {w0 w : World} {l : List RowT} (hR : Own w0 w l) {g cap n : Nat} {cur : Array Value} {e : TypeId} {bs : List Int} (hm : (g, cur, e) ∈ l) (hS : RwIs 1 cur n cap (cellsB bs)) (hb : bytesOk bs) : SrcW w (.slice (some ⟨g, 0, none⟩) n cap) bs := by
  have hn : n = bs.length := by have := hS.len; rw [cellsB_len] at this; omega
  subst hn
  refine ⟨hb, .inr ⟨⟨g, 0, none⟩, cap, rfl, hS.le, fun j u hu => ?_⟩⟩
  rw [addr_mid, cell_of_row _ _ _ _ _ _ (hR.get hm)]
  exact hS.part.get j _ (by unfold cellsB; rw [List.getElem?_map, hu]; rfl)
theorem SlIs.rw {cur : Array Value} {n cap : Nat} {xs : List Value} (h : SlIs cur n cap xs) : RwIs 1 cur n cap xs :=
  ⟨by rw [h.len, Nat.mul_one], h.le, h.most, by rw [h.size, Nat.mul_one], by rw [Nat.mul_one]; exact h.take⟩
/-- A slice's places from one on up to another. -/
def cutV (v : Value) (l h : Nat) : Value := match v with
  | .slice a n cap => .slice (if cap = l then a else a.map (·.add l)) (h - l) (cap - l)
  | v => v
theorem SrcW.cut {w : World} {v : Value} {bs : List Int} (hS : SrcW w v bs) (l h : Nat) (hl : l ≤ h) (hh : h ≤ bs.length) : SrcW w (cutV v l h) ((bs.take h).drop l) := by
  refine ⟨fun n hn => hS.ok n (List.mem_of_mem_take (List.mem_of_mem_drop hn)), ?_⟩
  rcases hS.way with ⟨rfl, rfl⟩ | ⟨a, cap, rfl, hle, hc⟩
  · have h0 : h = 0 := by simpa using hh
    subst h0
    have l0 : l = 0 := by omega
    subst l0
    exact .inl ⟨rfl, rfl⟩
  · have hlen : ((bs.take h).drop l).length = h - l := by rw [List.length_drop, List.length_take]; omega
    refine .inr ⟨if cap = l then a else a.add l, cap - l, ?_, by rw [hlen]; omega, fun j u hu => ?_⟩
    · unfold cutV
      rw [hlen]
      by_cases hcl : cap = l
      · simp [hcl]
      · simp [hcl]
    · have hj : j < h - l := by rw [← hlen]; exact (List.getElem?_eq_some_iff.1 hu).1
      rw [if_neg (by omega), _root_.Go.Addr.add_add]
      rw [List.getElem?_drop, List.getElem?_take, if_pos (by omega)] at hu
      exact hc _ u hu

section
variable {P : Program}
/-- A bound that is told, or is the end. -/
inductive Bd (d n : Nat) : Option Value → Prop where
  | non : n = d → Bd d n none
  | num {q : IntKind} {i : Int} : i = n → Bd d n (some (.int q i))
theorem run_cutN {w w2 : World} {t e : TypeId} {v : Value} {bs : List Int} (ht : SliceTy P t e) (hS : SrcW w2 v bs) {l h : Nat} {lo hi : Option Value} (b1 : Bd 0 l lo) (b2 : Bd bs.length h hi) (hl : l ≤ h) (hh : h ≤ bs.length) :
    (Instr.sliceAt t v lo hi none).run P w = .ok (cutV v l h) w := by
  obtain ⟨hu, i, z, hinf, _, hsz, _⟩ := ht
  have key : ∃ a cap, v = .slice a bs.length cap ∧ bs.length ≤ cap := by
    rcases hS.way with ⟨rfl, rfl⟩ | ⟨a, cap, rfl, hle, _⟩
    · exact ⟨none, 0, rfl, Nat.le_refl _⟩
    · exact ⟨_, cap, rfl, hle⟩
  obtain ⟨a, cap, rfl, hle⟩ := key
  have k1 : (0 : Int) ≤ (l : Int) ∧ (l : Int) ≤ (h : Int) := ⟨by omega, by omega⟩
  have k2 : (0 : Int) ≤ (h : Int) ∧ (h : Int) ≤ (cap : Int) := ⟨by omega, by omega⟩
  have k3 : (0 : Int) ≤ (bs.length : Int) ∧ (bs.length : Int) ≤ (cap : Int) := ⟨by omega, by omega⟩
  have k4 : l ≤ h := hl
  have k5 : h ≤ cap := by omega
  have k6 : bs.length ≤ cap := hle
  have hb : (Instr.sliceBounds true bs.length cap lo hi none).run P w = .ok (l, h, cap) w := by
    cases b1 with
    | non e1 =>
      subst e1
      cases b2 with
      | non e2 => subst e2; simp [Instr.sliceBounds]
      | num e2 => subst e2; simp [Instr.sliceBounds, Instr.sliceBound, asIntOf, k2]; intro hc; omega
    | num e1 =>
      subst e1
      cases b2 with
      | non e2 => subst e2; simp [Instr.sliceBounds, Instr.sliceBound, asIntOf, k1, k3]; intro hc; omega
      | num e2 => subst e2; simp [Instr.sliceBounds, Instr.sliceBound, asIntOf, k1, k2]; rw [if_pos k5, if_pos k4]
  simp [Instr.sliceAt, Instr.slice, run_underlying hu, hb, sizeOf, typeInfo, hinf, hsz, cutV]
/-- Bytes as a text. -/
theorem run_strW {w : World} {src e dst : TypeId} (ht : TextTy P src e dst) {v : Value} {bs : List Int} (hS : SrcW w v bs) : (convert src dst v).run P w = .ok (.string (strOfNums bs)) w := by
  rcases hS.way with ⟨rfl, rfl⟩ | ⟨a, cap, rfl, hle, hc⟩
  · rw [run_convert_bytes_nil w src e ht.src ht.byte 0 0 dst ht.dst]; rfl
  · have hl : (loadCells a bs.length).run P w = .ok (bs.map (Value.int .u8)).toArray w := by
      have := run_loadCells_list (P := P) w a (bs.map (Value.int .u8)) (fun j u hj => by
        rw [List.getElem?_map] at hj
        cases hb : bs[j]? with
        | none => rw [hb] at hj; exact nomatch hj
        | some x => rw [hb] at hj; obtain rfl := Option.some.inj hj; exact hc j x hb)
      simpa using this
    rw [run_convert_bytes_string w src dst e _ _ cap ht.src ht.byte ht.dst, run_bytesToString w _ _ cap bs hl, foldl_push_bytes]
    simp [strOfNums, ByteArray.empty, ByteArray.emptyWithCapacity]
    rfl
/-- A text's first bytes, as numbers. -/
def strN (s : ByteArray) (k : Nat) : List Int := (s.data.toList.take k).map fun b => (b.toNat : Int)
theorem strN_ok (s : ByteArray) (k : Nat) : bytesOk (strN s k) := by
  intro n hn
  obtain ⟨b, _, rfl⟩ := List.mem_map.1 hn
  have := b.toNat_lt
  omega
theorem strN_len (s : ByteArray) (k : Nat) (h : k ≤ s.size) : (strN s k).length = k := by
  unfold strN
  rw [List.length_map, List.length_take]
  have : s.data.toList.length = s.size := Array.length_toList
  omega
theorem strN_cells (s : ByteArray) (k : Nat) : Lib.strCells (s.extract 0 k) = cellsB (strN s k) := by
  unfold Lib.strCells cellsB strN
  rw [List.map_map]
  have : (s.extract 0 k).data.toList = s.data.toList.take k := by
    rw [ByteArray.data_extract, Array.toList_extract]
    simp only [List.extract_eq_take_drop, List.drop_zero, Nat.sub_zero]
  rw [this]
  rfl
theorem size_cut (s : ByteArray) (k : Nat) (h : k ≤ s.size) : (s.extract 0 k).size = k := by simp [ByteArray.size_extract]; omega
theorem run_strcut {w : World} {t : TypeId} (hu : P.underlying t = some .string) (s : ByteArray) (k : Nat) (q : IntKind) (h : k ≤ s.size) : (Instr.sliceAt t (.string s) none (some (.int q (k : Int))) none).run P w = .ok (.string (s.extract 0 k)) w := by
  have k2 : (0 : Int) ≤ (k : Int) ∧ (k : Int) ≤ (s.size : Int) := ⟨by omega, by omega⟩
  have hb : (Instr.sliceBounds false s.size s.size none (some (.int q (k : Int))) none).run P w = .ok (0, k, s.size) w := by
    simp [Instr.sliceBounds, Instr.sliceBound, asIntOf, k2]; intro hc; omega
  simp [Instr.sliceAt, Instr.slice, run_underlying hu, hb]
/-- The type of bytes, as an append of a text wants it. -/
structure StrTy (P : Program) (t u e : TypeId) : Prop where
  ty : P.underlying t = some (.slice e)
  str : P.underlying u = some .string
  info : ∃ i, P.info? e = some i ∧ i.zero = some (.int .u8 0) ∧ i.size = 1 ∧ i.bytes = 1
theorem StrTy.of {t u e : TypeId} (h : P.underlying t = some (.slice e)) (hu : P.underlying u = some .string) (hi : (P.info? e).map (fun i => (i.zero, i.size, i.bytes)) = some (some (.int .u8 0), 1, 1)) : StrTy P t u e := by
  obtain ⟨i, h1, h2, h3, h4⟩ := info_parts hi
  exact ⟨h, hu, ⟨i, h1, h2, h3, h4⟩⟩
/-- A text appended to a row of the call's own. -/
theorem run_appStr {ρ : Operand → Value} {o : Oper} {w0 w : World} {l l' : List RowT} {t u e : TypeId} {x y : Operand} {g n cap : Nat} {cur : Array Value} {xs : List Value} {s : ByteArray} (ht : StrTy P t u e) (hR : Own w0 w l)
    (ho : o.op = .call { callee := .builtin .append, args := #[x, y], argTypes := #[t, u] }) (hx : ρ x = .slice (some ⟨g, 0, none⟩) n cap) (hy : ρ y = .string s)
    (hd : Del (g, cur, e) l l') (hS : RwIs 1 cur n cap xs) (hsm : n + s.size ≤ 1000000) :
    ∃ h cur' cap2 w', (execOp ρ o).run P w = .ok (.value (.slice (some ⟨h, 0, none⟩) (n + s.size) cap2)) w' ∧ Own w0 w' ((h, cur', e) :: l') ∧ RwIs 1 cur' (n + s.size) cap2 (xs ++ Lib.strCells s) := by
  obtain ⟨i, hinf, hz, hsz, hby⟩ := ht.info
  have hget := hR.get hd.mem
  have hbase := (hR.here _ hd.mem).1
  have hown : w.ownsRow w0.heap.size e 1 (.slice (some ⟨g, 0, none⟩) n cap) n xs :=
    ⟨hS.len, .inr ⟨g, cap, cur, rfl, hbase, hget, hS.le, hS.most, hS.size, hS.take⟩⟩
  obtain ⟨v', w', hrun, hown', hgr, hnil⟩ := Lib.run_append_own_string (P := P) w w0.heap.size t u o.type e i ht.ty ht.str hinf hz hsz hby _ n xs hown s
    (by simp only [maxLen]; omega) (by omega) hR.below.size
  have hat' : v'.ownBlock = some g ∨ v'.ownBlock = some w.heap.size := by
    by_cases hroom : n + s.size ≤ cap
    · have hr := Lib.run_append_room_string (P := P) w t u o.type e i ht.ty ht.str hinf hsz g n cap cur hget s hroom (by have := hS.size; omega)
      rw [hrun] at hr
      injection hr with hr _
      rw [hr]
      exact .inl rfl
    · have hr := Lib.run_append_grow_string (P := P) w t u o.type e i (.int .u8 0) ht.ty ht.str hinf hz ⟨g, 0, none⟩ n cap xs (by rw [hsz]; exact hS.len) (fun j v hv => by
        rw [addr_mid, cell_of_row _ _ _ _ _ _ hget]
        exact hS.part.get j v hv) s (by omega) (by omega) (by rw [hby]; exact growslice_fits (by omega) (by omega))
      rw [hrun] at hr
      injection hr with hr _
      rw [hr]
      exact .inr rfl
  rcases hown'.2 with ⟨rfl, _⟩ | ⟨h, cap2, cur', rfl, hb2, hg2, hle, hmost, hsize, htake⟩
  · exact absurd (hnil.1 rfl).1 (by simp)
  refine ⟨h, cur', cap2, w', ?_, ?_, ⟨hown'.1, hle, hmost, hsize, htake⟩⟩
  · unfold execOp
    simp only [ho, resolve, invoke, builtin, Sem.run_bind, Sem.run_pure, Result.andThen_ok, List.map_toArray, List.map_cons, List.map_nil, hx, hy, hrun]
  · have hap := hd.apart hR.apart
    have hO' : Own w0 w' l' := (hR.drop hd.sub).grown hgr fun q hq => by
      have : g = q := by simpa [Value.ownBlock] using hq
      subst this
      exact ⟨hbase, hap⟩
    refine hO'.cons hb2 hg2 fun y hy he => ?_
    rcases hat' with e1 | e1
    · have : h = g := by simpa [Value.ownBlock] using e1
      exact hap y hy (by rw [he, this])
    · have : h = w.heap.size := by simpa [Value.ownBlock] using e1
      have := hR.lt (hd.sub.subset hy)
      omega
end

section
variable {P : Program}
theorem RwIs.less {k n m cap : Nat} {cur : Array Value} {xs : List Value} (h : RwIs k cur n cap xs) (hm : m ≤ n) : RwIs k cur m cap (xs.take (m * k)) :=
  ⟨by rw [List.length_take, h.len]; exact Nat.min_eq_left (Nat.mul_le_mul_right _ hm), Nat.le_trans hm h.le, h.most, h.size, by rw [← h.take, List.take_take, Nat.min_eq_left (Nat.mul_le_mul_right _ hm)]⟩
/-- An append, behind which the slice that was appended to is still read. -/
theorem run_appKeep {ρ : Operand → Value} {o : Oper} {w0 w : World} {l l' : List RowT} {t e : TypeId} {k : Nat} {x y : Operand} {g g' off n m cap cap' : Nat} {cur cs : Array Value} {xs ys : List Value} {e' : TypeId} (ht : SliceK P t e k) (hR : Own w0 w l)
    (ho : o.op = .call { callee := .builtin .append, args := #[x, y], argTypes := #[t, t] }) (hx : ρ x = .slice (some ⟨g, 0, none⟩) n cap) (hy : ρ y = .slice (some ⟨g', off, none⟩) m cap')
    (hd : Del (g, cur, e) l l') (hS : RwIs k cur n cap xs) (hm : (g', cs, e') ∈ l) (hP : Part cs off ys) (hl : ys.length = m * k) (h1 : ys.all (·.oneCell') = true) (hsm : n + m ≤ 1000000) :
    ∃ h cur' cap2 l2 w', (execOp ρ o).run P w = .ok (.value (.slice (some ⟨h, 0, none⟩) (n + m) cap2)) w' ∧ Own w0 w' (l2 ++ l') ∧ (h, cur', e) ∈ l2 ∧ RwIs k cur' (n + m) cap2 (xs ++ ys) ∧ ∃ cur0, (g, cur0, e) ∈ l2 ∧ RwIs k cur0 n cap xs := by
  obtain ⟨h, cur', cap2, w', hrun, hO, hS'⟩ := run_appR ht hR ho hx hy hd hS hm hP hl h1 hsm
  obtain ⟨i, z, hinf, hz, hsz, hby, hzs⟩ := ht.info
  have hget := hR.get hd.mem
  have hcell : ∀ j u, ys[j]? = some u → w.cell? ((⟨g', off, none⟩ : Addr).add j) = some u := by
    intro j u hu
    rw [addr_mid, cell_of_row _ _ _ _ _ _ (hR.get hm)]
    exact hP.get j u hu
  have hex : ∀ v w2, (Builtin.append_ #[t, t] o.type #[.slice (some ⟨g, 0, none⟩) n cap, .slice (some ⟨g', off, none⟩) m cap']).run P w = .ok v w2 → (execOp ρ o).run P w = .ok (.value v) w2 := by
    intro v w2 hr
    unfold execOp
    simp only [ho, resolve, invoke, builtin, Sem.run_bind, Sem.run_pure, Result.andThen_ok, List.map_toArray, List.map_cons, List.map_nil, hx, hy, hr]
  have htk : (xs ++ ys).take (n * k) = xs := by rw [← hS.len]; exact List.take_left
  by_cases hroom : n + m ≤ cap
  · have hfit : n * i.size + ys.length ≤ cur.size := by rw [hl, hsz, hS.size, ← Nat.add_mul]; exact Nat.mul_le_mul_right _ hroom
    have hr := hex _ _ (run_append_room (P := P) w t o.type e i ht.ty hinf g n cap cur hget ⟨g', off, none⟩ m cap' ys (by rw [hsz]; exact hl) hcell (by simpa using h1) hroom hfit)
    rw [hrun] at hr
    injection hr with hr hw
    injection hr with hr
    injection hr with hr _ hc
    have hgh : h = g := by injection hr with hr; injection hr
    subst hgh
    subst hc
    refine ⟨h, cur', cap2, [(h, cur', e)], w', hrun, hO, .head _, hS', cur', .head _, ?_⟩
    exact (hS'.less (Nat.le_add_right n m)).cast htk
  · have hgr := hex _ _ (run_append_grow (P := P) w t o.type e i z ht.ty hinf hz ⟨g, 0, none⟩ n cap xs (by rw [hsz]; exact hS.len) (fun j u hu => by
      rw [addr_mid, cell_of_row _ _ _ _ _ _ hget]
      exact hS.part.get j u hu) ⟨g', off, none⟩ m cap' ys (by rw [hsz]; exact hl) hcell (by omega) (by omega) (growslice_fits (by omega) (Nat.le_trans (Nat.mul_le_mul hsm hby) (by decide))))
    rw [hrun] at hgr
    injection hgr with hr hw
    injection hr with hr
    injection hr with hr _ _
    have hgh : h = w.heap.size := by injection hr with hr; injection hr
    have hlt := hR.lt hd.mem
    have hkeep : w'.heap[g]? = some (.cells cur e (0, 0)) := by
      rw [hw, Below.heap_alloc _ _ _ (by simpa using hlt)]
      exact hget
    have hne : h ≠ g := by have : g < w.heap.size := hlt; omega
    refine ⟨h, cur', cap2, [(g, cur, e), (h, cur', e)], w', hrun, ?_, .tail _ (.head _), hS', cur, .head _, hS⟩
    refine hO.cons (hR.here _ hd.mem).1 hkeep fun y hy => ?_
    cases hy with
    | head => exact hne
    | tail _ hy => exact hd.apart hR.apart y hy
theorem wpList_appKeep {ops : Array Oper} {rest : List Oper} {tp : TypeId} {pos : String} {af : Array Edge} {gd : Option (Nat × Bool)} {ls : List Value} {ds : List Deferred} {w0 w : World} {l l' : List RowT} {Q : Exit → Act → World → Prop} {d : Tmp} {t e : TypeId} {k : Nat} {x y : Operand} {g g' off n m cap cap' : Nat} {cur cs : Array Value} {xs ys : List Value} {e' : TypeId} (hR : Own w0 w l) (ht : SliceK P t e k)
    (hgd : Region.wanted ⟨some d, .call { callee := .builtin .append, args := #[x, y], argTypes := #[t, t] }, tp, pos, af, gd⟩ (yielded ops ls.toArray) = true)
    (hx : evalL ls x = some (.slice (some ⟨g, 0, none⟩) n cap)) (hy : evalL ls y = some (.slice (some ⟨g', off, none⟩) m cap')) (hd : Del (g, cur, e) l l') (hS : RwIs k cur n cap xs) (hm : (g', cs, e') ∈ l) (hP : Part cs off ys) (hl : ys.length = m * k) (h1 : ys.all (·.oneCell') = true) (hsm : n + m ≤ 1000000)
    (hK : ∀ h cur' cap2 l2 w', Own w0 w' (l2 ++ l') → (h, cur', e) ∈ l2 → RwIs k cur' (n + m) cap2 (xs ++ ys) → (∃ cur0, (g, cur0, e) ∈ l2 ∧ RwIs k cur0 n cap xs) → wpList P ops Q rest ⟨(ls.set d (.slice (some ⟨h, 0, none⟩) (n + m) cap2)).toArray, ds⟩ w') :
    wpList P ops Q (⟨some d, .call { callee := .builtin .append, args := #[x, y], argTypes := #[t, t] }, tp, pos, af, gd⟩ :: rest) ⟨ls.toArray, ds⟩ w := by
  obtain ⟨h, cur', cap2, l2, w', hr, h2, h3, h4, h5⟩ := run_appKeep (o := ⟨some d, .call { callee := .builtin .append, args := #[x, y], argTypes := #[t, t] }, tp, pos, af, gd⟩) ht hR rfl (eval_of hx) (eval_of hy) hd hS hm hP hl h1 hsm
  exact wpList_run_value hgd hr (by rw [put_list]; exact hK h cur' cap2 l2 w' h2 h3 h4 h5)
end

/-! ### Quiet operations -/
section
variable {P : Program} {C : World → Prop} {tp : TypeId} {pos : String} {af : Array Edge} {gd : Option (Nat × Bool)} {ls : List Value} {ds : List Deferred} {c : Bool} {w0 : World} {l : List RowT} {dd : Option Tmp}
theorem t_nilck {x : Operand} {p : Addr} (hx : EvC ls c x (.pointer (some p))) : TIf P C c ⟨dd, .nilCheck x, tp, pos, af, gd⟩ ⟨ls.toArray, ds⟩ (.pointer (some p)) := by
  refine ⟨fun e => .inl fun w _ => ?_⟩
  unfold execOp
  simp only [eval_of (hx.of e)]
  rfl
/-- One cell, wherever it is known. -/
theorem t_cellW {ty : TypeId} (ht : OneTy P ty) {x : Operand} {a : Addr} {v : Value} (hx : EvC ls c x (.pointer (some a))) (hc : ∀ w, C w → w.cell? a = some v) : TIf P C c ⟨dd, .load ty x, tp, pos, af, gd⟩ ⟨ls.toArray, ds⟩ v := by
  obtain ⟨d', hu, hd, _⟩ := ht
  refine ⟨fun e => .inl fun w hC => ?_⟩
  have hagg : (isAgg ty).run P w = .ok false w := by
    unfold isAgg
    rw [Sem.run_bind, run_underlying hu w]
    cases d' <;> simp_all
  have hl : (loadVar ty a).run P w = .ok v w := by
    simp [loadVar, Sem.run_bind, hagg, hc w hC]
  unfold execOp
  simp only [eval_of (hx.of e), Instr.loadAt, Instr.sureAddr, Sem.run_bind, Sem.run_pure, Result.andThen_ok, hl]
/-- .. that lay there before the call. -/
theorem t_oldCell {ty : TypeId} (ht : OneTy P ty) {x : Operand} {a : Addr} {v : Value} (hx : EvC ls c x (.pointer (some a))) (hc : w0.cell? a = some v) : TIf P (fun w => Own w0 w l) c ⟨dd, .load ty x, tp, pos, af, gd⟩ ⟨ls.toArray, ds⟩ v :=
  t_cellW ht hx fun w hC => (hC.below.cell (World.block_lt_of_cell? w0 _ hc)).trans hc
theorem t_lenW {t e' : TypeId} {v : Value} {bs : List Int} {w : World} {x : Operand} (ht : P.underlying t = some (.slice e')) (hx : EvC ls c x v) (hA : SrcW w v bs) : TIf P C c ⟨dd, .call ⟨.builtin .len, #[x], #[t]⟩, tp, pos, af, gd⟩ ⟨ls.toArray, ds⟩ (.int .i64 bs.length) := by
  rcases hA.way with ⟨rfl, rfl⟩ | ⟨a, cap, rfl, _⟩
  · exact t_len ht hx
  · exact t_len ht hx
theorem t_lenSrc {t e' : TypeId} {v : Value} {bs : List Int} {w : World} {x : Operand} (ht : P.underlying t = some (.slice e')) (hx : EvC ls c x v) (hA : Src w v bs) : TIf P C c ⟨dd, .call ⟨.builtin .len, #[x], #[t]⟩, tp, pos, af, gd⟩ ⟨ls.toArray, ds⟩ (.int .i64 bs.length) := t_lenW ht hx hA.toSrcW
/-- A cut: from one on up to another. -/
theorem t_cutLH {t e : TypeId} (ht : SliceTy P t e) {x y z : Operand} {v : Value} {bs : List Int} {w : World} (hS : SrcW w v bs) {q q' : IntKind} {i j : Int} (hx : EvC ls c x v) (hy : EvC ls c y (.int q i)) (hz : EvC ls c z (.int q' j)) {l h : Nat} (e1 : i = l) (e2 : j = h) (hl : l ≤ h) (hh : h ≤ bs.length) :
    TIf P C c ⟨dd, .slice t x (some y) (some z) none, tp, pos, af, gd⟩ ⟨ls.toArray, ds⟩ (cutV v l h) := by
  refine ⟨fun e => .inl fun w' _ => ?_⟩
  have := run_cutN (P := P) (w := w') ht hS (lo := some (.int q i)) (hi := some (.int q' j)) (.num e1) (.num e2) hl hh
  unfold execOp
  simp [eval_of (hx.of e), eval_of (hy.of e), eval_of (hz.of e), this]
theorem t_cutL {t e : TypeId} (ht : SliceTy P t e) {x y : Operand} {v : Value} {bs : List Int} {w : World} (hS : SrcW w v bs) {q : IntKind} {i : Int} (hx : EvC ls c x v) (hy : EvC ls c y (.int q i)) {l : Nat} (e1 : i = l) (hl : l ≤ bs.length) :
    TIf P C c ⟨dd, .slice t x (some y) none none, tp, pos, af, gd⟩ ⟨ls.toArray, ds⟩ (cutV v l bs.length) := by
  refine ⟨fun e => .inl fun w' _ => ?_⟩
  have := run_cutN (P := P) (w := w') ht hS (lo := some (.int q i)) (hi := none) (.num e1) (.non rfl) hl (Nat.le_refl _)
  unfold execOp
  simp [eval_of (hx.of e), eval_of (hy.of e), this]
theorem t_cutH {t e : TypeId} (ht : SliceTy P t e) {x z : Operand} {v : Value} {bs : List Int} {w : World} (hS : SrcW w v bs) {q' : IntKind} {j : Int} (hx : EvC ls c x v) (hz : EvC ls c z (.int q' j)) {h : Nat} (e2 : j = h) (hh : h ≤ bs.length) :
    TIf P C c ⟨dd, .slice t x none (some z) none, tp, pos, af, gd⟩ ⟨ls.toArray, ds⟩ (cutV v 0 h) := by
  refine ⟨fun e => .inl fun w' _ => ?_⟩
  have := run_cutN (P := P) (w := w') ht hS (lo := none) (hi := some (.int q' j)) (.non rfl) (.num e2) (Nat.zero_le _) hh
  unfold execOp
  simp [eval_of (hx.of e), eval_of (hz.of e), this]
theorem t_strW {src e dst : TypeId} (ht : TextTy P src e dst) {x : Operand} {v : Value} {bs : List Int} (hx : EvC ls c x v) (hS : ∀ w, C w → SrcW w v bs) : TIf P C c ⟨dd, .convert src dst x, tp, pos, af, gd⟩ ⟨ls.toArray, ds⟩ (.string (strOfNums bs)) := by
  refine ⟨fun e => .inl fun w hC => ?_⟩
  unfold execOp
  simp only [eval_of (hx.of e), Sem.run_bind, run_strW ht (hS w hC), Result.andThen_ok, Sem.run_pure]
theorem t_minK {ts : Array TypeId} {x y : Operand} {q : IntKind} {a b m : Int} (hx : EvC ls c x (.int q a)) (hy : EvC ls c y (.int q b)) (hm : (if b < a then b else a) = m) : TIf P C c ⟨dd, .call ⟨.builtin .min, #[x, y], ts⟩, tp, pos, af, gd⟩ ⟨ls.toArray, ds⟩ (.int q m) := hm ▸ t_min hx hy
theorem t_remK {ty ty' : TypeId} {x y : Operand} {q : IntKind} {a b m : Int} (hx : EvC ls c x (.int q a)) (hy : EvC ls c y (.int q b)) (hb : b ≠ 0) (hm : a.tmod b = m) : TIf P C c ⟨dd, .binOp .rem ty x y ty', tp, pos, af, gd⟩ ⟨ls.toArray, ds⟩ (.int q m) := by
  subst hm
  refine ⟨fun e => .inl fun w _ => ?_⟩
  unfold execOp
  simp [eval_of (hx.of e), eval_of (hy.of e), eqGuard, binOp, Op.intArith, Op.intDiv, hb]
/-- An element's place in a slice of the call's own, from its first place on. -/
theorem t_sixG {ty e : TypeId} {x ix : Operand} {g n cap k : Nat} {q : IntKind} {j : Int} (hu : P.underlying ty = some (.slice e)) (hz : (P.info? e).map (·.size) = some 1) (hx : EvC ls c x (.slice (some ⟨g, 0, none⟩) n cap)) (hi : EvC ls c ix (.int q j)) (hj : j = k) (hk : k < n) :
    TIf P C c ⟨dd, .indexAddr ty x ix, tp, pos, af, gd⟩ ⟨ls.toArray, ds⟩ (.pointer (some ⟨g, k, none⟩)) := by
  subst hj
  have h := t_six (P := P) (C := C) (tp := tp) (pos := pos) (af := af) (gd := gd) (ds := ds) (dd := dd) hu hz hx hi (by omega)
  rw [addr_mid, Int.toNat_natCast, Nat.mul_one, Nat.zero_add] at h
  exact h
theorem t_strcut {t : TypeId} (hu : P.underlying t = some .string) {x y : Operand} {s : ByteArray} {q : IntKind} {i : Int} {k : Nat} (hx : EvC ls c x (.string s)) (hy : EvC ls c y (.int q i)) (hi : i = k) (hk : k ≤ s.size) :
    TIf P C c ⟨dd, .slice t x none (some y) none, tp, pos, af, gd⟩ ⟨ls.toArray, ds⟩ (.string (s.extract 0 k)) := by
  subst hi
  refine ⟨fun e => .inl fun w _ => ?_⟩
  have := run_strcut (P := P) (w := w) hu s k q hk
  unfold execOp
  simp [eval_of (hx.of e), eval_of (hy.of e), this]
end

theorem t_strsame {P : Program} {C : World → Prop} {tp : TypeId} {pos : String} {af : Array Edge} {gd : Option (Nat × Bool)} {ls : List Value} {ds : List Deferred} {c : Bool} {dd : Option Tmp} {ty ty' : TypeId} {x y : Operand} {a : ByteArray} (hx : EvC ls c x (.string a)) (hy : EvC ls c y (.string a)) : TIf P C c ⟨dd, .binOp .eql ty x y ty', tp, pos, af, gd⟩ ⟨ls.toArray, ds⟩ (.bool true) := by
  have := t_streq (P := P) (C := C) (tp := tp) (pos := pos) (af := af) (gd := gd) (ds := ds) (dd := dd) (ty := ty) (ty' := ty') hx hy
  rw [beq_self_eq_true] at this
  exact this
/-- An operation whose guard does not let it through. -/
theorem wpT1_skipL {P : Program} {ops : Array Oper} {C : World → Prop} {R : Act → Prop} {is : List Nat} {tp : TypeId} {pos : String} {af : Array Edge} {gd : Option (Nat × Bool)} {ls ls' : List Value} {ds : List Deferred} {d : Tmp} {op : Op}
    (hgd : Region.wanted ⟨some d, op, tp, pos, af, gd⟩ (yielded ops ls.toArray) = false) (hls : ls.set d undef = ls') (h : wpT P ops C R is ⟨ls'.toArray, ds⟩) : wpT1 P ops C R is ⟨some d, op, tp, pos, af, gd⟩ ⟨ls.toArray, ds⟩ :=
  wpT1_skip hgd (by rw [put_list, hls]; exact h)

/-! ### In a region that draws its order -/
section
variable {P : Program} {ops : Array Oper} {md : Region.Mode} {Q : Exit → Act → World → Prop} {ls : List Value} {ds : List Deferred} {w0 w : World} {l : List RowT} {tp : TypeId} {pos : String} {af : Array Edge} {gd : Option (Nat × Bool)} {d : Tmp} {i : Nat}
theorem opAppStr (hR : Own w0 w l) {l' : List RowT} {t u e : TypeId} (ht : StrTy P t u e) {x y : Operand} {g n cap : Nat} {cur : Array Value} {xs : List Value} {s : ByteArray} {K : Act → World → Prop}
    (hi : ops.toList[i]? = some ⟨some d, .call { callee := .builtin .append, args := #[x, y], argTypes := #[t, u] }, tp, pos, af, gd⟩) (hg : Region.wanted ⟨some d, .call { callee := .builtin .append, args := #[x, y], argTypes := #[t, u] }, tp, pos, af, gd⟩ (yielded ops ls.toArray) = true)
    (hx : evalL ls x = some (.slice (some ⟨g, 0, none⟩) n cap)) (hy : evalL ls y = some (.string s)) (hd : Del (g, cur, e) l l') (hS : RwIs 1 cur n cap xs) (hsm : n + s.size ≤ 1000000)
    (h : ∀ h cur' cap2 w', Own w0 w' ((h, cur', e) :: l') → RwIs 1 cur' (n + s.size) cap2 (xs ++ Lib.strCells s) → K ⟨(ls.set d (.slice (some ⟨h, 0, none⟩) (n + s.size) cap2)).toArray, ds⟩ w') : wpOp P ops Q i K ⟨ls.toArray, ds⟩ w := by
  obtain ⟨g2, cur', cap2, w', hr, hO, hS'⟩ := run_appStr (o := ⟨some d, .call { callee := .builtin .append, args := #[x, y], argTypes := #[t, u] }, tp, pos, af, gd⟩) ht hR rfl (eval_of hx) (eval_of hy) hd hS hsm
  refine wpOp_kn hi hg hr ?_
  show K ((⟨ls.toArray, ds⟩ : Act).put (some d) _) _
  rw [put_list]
  exact h g2 cur' cap2 w' hO hS'
/-- One alone comes next. -/
theorem wpG_one {lC : List RowT} {n : Nat} {M : Array Bool} {a : Act} (hR : Own w0 w l) (hr : Region.ready md ops M = [i])
    (h : ∀ w, Own w0 w l → wpOp P ops (NoPanic Q) i (fun a' w' => Own w0 w' lC ∧ wpG P md ops (fun w => Own w0 w lC) (NoPanic Q) n (M.setIfInBounds i true) a' w') a w) : wpG P md ops (fun w => Own w0 w lC) (NoPanic Q) (n + 1) M a w := by
  refine wpG_next hr (by simp) ?_
  intro w1 hb _ k hk
  obtain rfl := List.mem_singleton.1 hk
  exact h w1 (hR.grow hb)
theorem opMake (hR : Own w0 w l) {ty : TypeId} {c : Array Value} (hz : ZeroTy P ty c) {K : Act → World → Prop} (hi : ops.toList[i]? = some ⟨some d, .alloc ty, tp, pos, af, none⟩)
    (h : ∀ g w', Own w0 w' ((g, c, ty) :: l) → K ⟨(ls.set d (.pointer (some ⟨g, 0, none⟩))).toArray, ds⟩ w') : wpOp P ops Q i K ⟨ls.toArray, ds⟩ w := by
  refine wpOp_make hR hi rfl rfl hz ?_
  intro g w' hO
  show K ((⟨ls.toArray, ds⟩ : Act).put (some d) _) _
  rw [put_list]
  exact h g w' hO
end
end Go.Proofs.YtjecckmcjcikdaaDoor
