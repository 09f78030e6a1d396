








/- Blocks as a law's arguments: one, and a list of them. No statement of the seat is proved here. -/
import Derived.Test.YtalgadinoaeihaaNearM
import Derived.Test.YtalgadinoaeihaaBlkT
namespace Go.Proofs.Ytalgadinoaeihaa
open Go.ChangeShapes Go.WideShapes Go.ChangeAt Go.RowKit
set_option linter.unusedVariables false
set_option linter.unusedSimpArgs false

section
variable {H : Type} {enc : TypeId × Value → H} {w : World} {base : Nat} {spare : Nat → Bool} {held : Bool}
theorem bytes_of_trod {n : Nat} {c : Value} {x : DataW H × List MemPlace} (h : DataW.trod enc Try.prog w base spare held n 22 [c] = some x) : BytesAt w c := by
  have hC : Try.prog.cellsOf 5 = 1 := by kernel_rfl
  rcases Deep.open_slice1 Try.underlying22 hC h with ⟨h0, _⟩ | ⟨a, len', cap', m, n, V, D, Pl, h0, _, hlc, hcm, hm, _, hx⟩
  · have e : c = .slice none 0 0 := (List.cons.inj h0).1
    rw [e]
    exact ⟨[], ⟨(fun _ h => nomatch h), .inl ⟨rfl, rfl⟩⟩, by simp⟩
  · have e : c = .slice (some a) len' cap' := (List.cons.inj h0).1
    rw [e]
    have hle : len' ≤ m := by rw [hm]; split <;> omega
    have hE : ∀ i, ∃ z : Int, i < len' → (0 ≤ z ∧ z ≤ 255) ∧ w.cell? (a.add i) = some (.int .u8 z) := by
      intro i
      by_cases hi : i < len'
      · obtain ⟨h1, h2⟩ := hx i (by omega)
        obtain ⟨z, hz, wf⟩ := cell1 Try.underlying5 h2 rfl (x := V i) rfl
        exact ⟨z, fun _ => ⟨bounds_u8 wf, by rw [h1, hz]⟩⟩
      · exact ⟨0, fun h => absurd h hi⟩
    obtain ⟨E, hE⟩ := Classical.axiomOfChoice hE
    have hl : ((List.range len').map E).length = len' := by simp
    refine ⟨(List.range len').map E, ⟨fun n hn => ?_, .inr ⟨a, cap', by rw [hl], by rw [hl]; exact hlc, fun j u hu => ?_⟩⟩, by rw [hl]; omega⟩
    · obtain ⟨i, hi, rfl⟩ := List.mem_map.1 hn
      exact (hE i (by simpa using hi)).1
    · rw [List.getElem?_map] at hu
      have hj : j < len' := by
        rcases Nat.lt_or_ge j len' with h | h
        · exact h
        · rw [List.getElem?_eq_none (by simpa using h)] at hu; exact nomatch hu
      rw [List.getElem?_range hj] at hu
      obtain rfl := Option.some.inj hu
      exact (hE j hj).2
/-- A list's structs, each opened by a reading of less fuel. -/
theorem rows_of_trod {α : Type} {k : Nat} {f : α → List Value} {P : Program} {ok : α → Prop} (z0 : α) (hk : ∀ x, (f x).length = k) (hp : 0 < k) (h1 : ∀ z, ok z → (f z).all (·.oneCell') = true) {T E : TypeId} (hu : P.underlying T = some (.slice E)) (hC : P.cellsOf E = k) {fuel : Nat}
    (hel : ∀ {m : Nat} {cs : List Value} {x : DataW H × List MemPlace}, m < fuel → DataW.trod enc P w base spare held m E cs = some x → cs.length = k → ∃ z, ok z ∧ cs = f z)
    {v : Value} {x : DataW H × List MemPlace} (h : DataW.trod enc P w base spare held fuel T [v] = some x) : ∃ zs : List α, (∀ z ∈ zs, ok z) ∧ RowsAt k f w v zs := by
  rcases DataW.trod_slice hu h with ⟨h0, _⟩ | ⟨a, len, cap, elems, rest, n, rfl, h0, _, _, hlc, _, hlen, hx, _⟩
  · have e : v = .slice none 0 0 := (List.cons.inj h0).1
    rw [e]
    exact ⟨[], (fun _ h => nomatch h), ⟨by simp, rfl, .inl ⟨rfl, rfl, rfl⟩⟩⟩
  · have e : v = .slice (some a) len cap := (List.cons.inj h0).1
    rw [e]
    have hE : ∀ i, ∃ z : α, i < len → ok z ∧ ∀ j u, (f z)[j]? = some u → w.cell? ((a.add (i * k)).add j) = some u := by
      intro i
      by_cases hi : i < len
      · have h2 := hx i hi
        rw [hC, List.getElem?_eq_getElem (by omega)] at h2
        obtain ⟨cs', h3, h4⟩ := Option.bind_eq_some_iff.1 h2
        obtain ⟨_, hl, hat⟩ := World.cells?_some h3
        obtain ⟨z, hz, rfl⟩ := hel (Nat.lt_succ_self n) h4 hl
        refine ⟨z, fun _ => ⟨hz, fun j u hu => ?_⟩⟩
        have hj : j < k := by rw [← hk z]; exact (List.getElem?_eq_some_iff.1 hu).1
        rw [hat j hj]; exact hu
      · exact ⟨z0, fun h => absurd h hi⟩
    obtain ⟨E', hE⟩ := Classical.axiomOfChoice hE
    have hcells : ∀ i, i < len → ∀ j u, (f (E' i))[j]? = some u → w.cell? ((a.add (i * k)).add j) = some u := fun i hi => (hE i hi).2
    refine ⟨(List.range len).map E', fun z hz => ?_, ?_⟩
    · obtain ⟨i, hi, rfl⟩ := List.mem_map.1 hz
      exact (hE i (by simpa using hi)).1
    · unfold RowsAt
      rw [List.length_map, List.length_range]
      refine ⟨by rw [flat_len hk]; simp, ?_, .inr ⟨a, cap, rfl, hlc, fun n u hu => ?_⟩⟩
      · rw [List.all_eq_true]
        intro u hu
        obtain ⟨z, hz, hu⟩ := List.mem_flatMap.1 hu
        obtain ⟨i, hi, rfl⟩ := List.mem_map.1 hz
        exact List.all_eq_true.1 (h1 _ (hE i (by simpa using hi)).1) u hu
      · obtain ⟨x, h2, h3⟩ := flat_inv hk hp _ n u hu
        rw [List.getElem?_map] at h2
        have hn : n / k < len := by
          rcases Nat.lt_or_ge (n / k) len with h | h
          · exact h
          · rw [List.getElem?_eq_none (by simpa using h)] at h2; exact nomatch h2
        rw [List.getElem?_range hn] at h2
        obtain rfl := Option.some.inj h2
        have := hcells (n / k) hn (n % k) u h3
        rw [_root_.Go.Addr.add_add, Nat.div_add_mod' n k] at this
        exact this
theorem BlkAt.sls {w : World} {d : BlkV} {z : BlkZ} (h : BlkAt w d z) : IsS d.v ∧ IsS d.x := by
  cases h with
  | mk _ hv _ hx _ _ => exact ⟨hv.isS, ⟨hx.shape⟩⟩
/-- A block, opened. -/
theorem blk_of_trod : ∀ (fuel : Nat) (cs : List Value) (x : DataW H × List MemPlace), DataW.trod enc Try.prog w base spare held fuel 25 cs = some x → cs.length = 3 → ∃ dz : BlkV × BlkZ, BlkAt w dz.1 dz.2 ∧ cs = cellsK dz.1 := by
  intro fuel
  induction fuel using Nat.strongRecOn with
  | _ fuel ih =>
    intro cs x h hl
    obtain ⟨ys, n, rfl, _, _, hy, hf⟩ := DataW.trod_struct Try.underlying25 h
    have hy' : ys.length = 3 := hy
    have c2 : Try.prog.cellsOf 3 = 1 := by kernel_rfl
    have c3 : Try.prog.cellsOf 22 = 1 := by kernel_rfl
    have c4 : Try.prog.cellsOf 23 = 1 := by kernel_rfl
    match cs, hl with
    | [x0, x1, x2], _ =>
      have h0 : DataW.trod enc Try.prog w base spare held n 3 (([x0, x1, x2].drop 0).take (Try.prog.cellsOf 3)) = ys[0]? := hf 0 _ rfl
      rw [c2] at h0
      have h1 : DataW.trod enc Try.prog w base spare held n 22 (([x0, x1, x2].drop 1).take (Try.prog.cellsOf 22)) = ys[1]? := hf 1 _ rfl
      rw [c3] at h1
      have h2 : DataW.trod enc Try.prog w base spare held n 23 (([x0, x1, x2].drop 2).take (Try.prog.cellsOf 23)) = ys[2]? := hf 2 _ rfl
      rw [c4] at h2
      obtain ⟨n0, rfl, w0⟩ := cell1 Try.underlying3 h0 (some_at hy' (by decide)) (x := x0) rfl
      obtain ⟨y1, hy1⟩ := Option.isSome_iff_exists.1 (some_at hy' (show 1 < 3 by decide))
      rw [hy1] at h1
      obtain ⟨bs, hS, hm⟩ := bytes_of_trod (c := x1) h1
      obtain ⟨y2, hy2⟩ := Option.isSome_iff_exists.1 (some_at hy' (show 2 < 3 by decide))
      rw [hy2] at h2
      have hC : Try.prog.cellsOf 25 = 3 := by kernel_rfl
      obtain ⟨zs, hz, hrow⟩ := rows_of_trod (α := BlkV × BlkZ) (f := fun p => cellsK p.1) (ok := fun p => BlkAt w p.1 p.2) (⟨0, nilS, nilS⟩, zeroB) (fun p => cellsK_len p.1) (by decide) (fun p hp => by
        have h3 := one_blk p.1.t (v := p.1.v) (x := p.1.x) hp.sls.1 hp.sls.2
        simpa [cellsK] using h3) Try.underlying23 hC (fun {m cs x} hlt h3 h4 => ih m (by omega) cs x h3 h4) (v := x2) h2
      refine ⟨(⟨n0, x1, x2⟩, .mk n0 bs (zs.map (·.2))), .mk (ds := zs.map (·.1)) (bounds_i64 w0) hS hm ?_ (by simp) (fun i d z hd hz2 => ?_), rfl⟩
      · unfold RowsAt at hrow ⊢
        rw [List.length_map, List.flatMap_map]
        exact hrow
      · rw [List.getElem?_map] at hd hz2
        cases hp : zs[i]? with
        | none => rw [hp] at hd; exact nomatch hd
        | some p =>
          rw [hp] at hd hz2
          obtain rfl := Option.some.inj hd
          obtain rfl := Option.some.inj hz2
          exact hz p (List.mem_of_getElem? hp)
/-- A block that came in. -/
def BlkIn (w : World) (u : Value) : Prop := ∃ d z, u = .agg (encK d.t d.v d.x) ∧ BlkAt w d z
theorem open_block {W : World} {b : Nat} {u : Value} {d : DataW H} {p : List MemPlace} (hk : Value.okWide Try.prog W .any b 25 u) (h : DataW.Trod enc Try.prog w base spare held 25 u d p) : BlkIn w u := by
  obtain ⟨cs, rfl, hl, hc⟩ := open_flat (ts := [3, 22, 23]) Try.underlying25 rfl (by kernel_rfl) (by kernel_rfl) hk
  obtain ⟨fuel, hf⟩ := h
  obtain ⟨dz, hB, he⟩ := blk_of_trod fuel _ _ hf (by show cs.toArray.toList.length = 3; simpa using hl)
  refine ⟨dz.1, dz.2, ?_, hB⟩
  have he2 : cs = cellsK dz.1 := he
  rw [he2]
  simp [cellsK]
/-- Blocks that came in. -/
def BlksAt (w : World) (v : Value) (ds : List BlkV) (l : List BlkZ) : Prop := RowsAt 3 cellsK w v ds ∧ ds.length = l.length ∧ ∀ (i : Nat) (d : BlkV) (z : BlkZ), ds[i]? = some d → l[i]? = some z → BlkAt w d z
theorem BlksAt.keep {w w' : World} {v : Value} {ds : List BlkV} {l : List BlkZ} (h : BlksAt w v ds l) (hb : Below w.heap.size w w') : BlksAt w' v ds l := ⟨h.1.keep hb, h.2.1, fun i d z h1 h2 => (h.2.2 i d z h1 h2).keep hb⟩
theorem BlksAt.own {w0 w : World} {r : List RowT} {v : Value} {ds : List BlkV} {l : List BlkZ} (h : BlksAt w0 v ds l) (hR : Own w0 w r) : BlksAt w v ds l := h.keep hR.below
def BlksIn (w : World) (v : Value) : Prop := ∃ ds l, BlksAt w v ds l
theorem open_blocks {W : World} {b : Nat} {v : Value} {d : DataW H} {p : List MemPlace} (hk : Value.okWide Try.prog W .any b 23 v) (h : DataW.Trod enc Try.prog w base spare held 23 v d p) : BlksIn w v := by
  obtain ⟨a0, len, cap, rfl⟩ := okWide_slice Try.underlying23 hk
  obtain ⟨fuel, hf⟩ := h
  have hC : Try.prog.cellsOf 25 = 3 := by kernel_rfl
  obtain ⟨zs, hz, hrow⟩ := rows_of_trod (α := BlkV × BlkZ) (f := fun p => cellsK p.1) (ok := fun p => BlkAt w p.1 p.2) (⟨0, nilS, nilS⟩, zeroB) (fun p => cellsK_len p.1) (by decide) (fun p hp => by
    have h3 := one_blk p.1.t (v := p.1.v) (x := p.1.x) hp.sls.1 hp.sls.2
    simpa [cellsK] using h3) Try.underlying23 hC (fun {m cs x} _ h3 h4 => blk_of_trod m cs x h3 h4) (v := .slice a0 len cap) hf
  refine ⟨zs.map (·.1), zs.map (·.2), ?_, by simp, fun i d z hd hz2 => ?_⟩
  · unfold RowsAt at hrow ⊢
    rw [List.length_map, List.flatMap_map]
    exact hrow
  · rw [List.getElem?_map] at hd hz2
    cases hp : zs[i]? with
    | none => rw [hp] at hd; exact nomatch hd
    | some p =>
      rw [hp] at hd hz2
      obtain rfl := Option.some.inj hd
      obtain rfl := Option.some.inj hz2
      exact hz p (List.mem_of_getElem? hp)
end
/-- So deep at most, and no more blocks in one than a word tells. -/
def dpB : Nat → BlkZ → Prop
  | 0, _ => False
  | n + 1, .mk _ _ l => l.length ≤ 65535 ∧ ∀ z ∈ l, dpB n z
/-- So deep at most, and what can be told of it. -/
def fitK : Nat → BlkZ → Prop
  | 0, _ => False
  | n + 1, .mk t b l => (0 ≤ t ∧ t ≤ 65535) ∧ b.length ≤ 255 ∧ l.length ≤ 65535 ∧ (l ≠ [] → b = []) ∧ ∀ z ∈ l, fitK n z
theorem fit_dp : ∀ {n : Nat} {z : BlkZ}, fitK n z → dpB n z
  | 0, _, h => h
  | n + 1, .mk _ _ l, h => ⟨h.2.2.1, fun z hz => fit_dp (h.2.2.2.2 z hz)⟩
theorem fit_more : ∀ {n : Nat} {z : BlkZ}, fitK n z → fitK (n + 1) z
  | 0, _, h => h.elim
  | n + 1, .mk _ _ l, ⟨h1, h2, h3, h4, h5⟩ => ⟨h1, h2, h3, h4, fun z hz => fit_more (h5 z hz)⟩
theorem fit_up {n m : Nat} (h : n ≤ m) {z : BlkZ} (hz : fitK n z) : fitK m z := by
  induction h with
  | refl => exact hz
  | step _ ih => exact fit_more ih
theorem may_fit : ∀ {n : Nat} {z : BlkZ}, mayB n z = true → fitK n z
  | 0, _, h => by simp [mayB] at h
  | n + 1, .mk t b [], h => by
    obtain ⟨h1, h2, h3⟩ := may_leaf h
    exact ⟨⟨by omega, h1.2⟩, h3, by simp, fun h => absurd rfl h, fun _ h => nomatch h⟩
  | n + 1, .mk t b (z :: l), h => by
    obtain ⟨h1, h2, h3, h4, h5⟩ := may_node h
    refine ⟨⟨by omega, h1.2⟩, by rw [h2]; simp, h3, fun _ => h2, fun x hx => ?_⟩
    rcases List.mem_cons.1 hx with rfl | hx
    · exact may_fit h4
    · exact may_fit (h5 x hx)
def okSpread (z : BlkZ) : Bool := mayB 8 z && decide ((spreadB z).length ≤ 65536)
theorem BlkAt.okB {w : World} : ∀ (n : Nat) {d : BlkV} {z : BlkZ}, BlkAt w d z → Go.Proofs.Ytalgadinoaeihaa.okB n z
  | 0, _, _, .mk _ hv _ _ _ _ => hv.ok
  | n + 1, _, _, .mk (ds := ds) (l := l) _ hv _ _ hn hd => ⟨hv.ok, fun z hz => by
    obtain ⟨i, hi⟩ := List.getElem?_of_mem hz
    have hlt := (List.getElem?_eq_some_iff.1 hi).1
    exact BlkAt.okB n (hd i (ds[i]'(by omega)) z (List.getElem?_eq_getElem _) hi)⟩
end Go.Proofs.Ytalgadinoaeihaa
