/- Lists of structs as their cells, one behind the other: what stands where; a slice of them that came in. No statement of the seat is proved here. -/
import Derived.Test.YtjecckmcjcikdaaDoorApp
namespace Go.Proofs.YtjecckmcjcikdaaDoor
open Go.ChangeShapes Go.WideShapes Go.ChangeAt Go.RowKit
set_option linter.unusedVariables false
set_option linter.unusedSimpArgs false

section
variable {α : Type} {k : Nat} {f : α → List Value}
theorem flat_len (hk : ∀ x, (f x).length = k) (l : List α) : (l.flatMap f).length = l.length * k := by
  induction l with
  | nil => simp
  | cons x l ih => rw [List.flatMap_cons, List.length_append, hk, ih, List.length_cons, Nat.add_mul, Nat.one_mul, Nat.add_comm]
theorem flat_ones (h1 : ∀ x, (f x).all (·.oneCell') = true) (l : List α) : (l.flatMap f).all (·.oneCell') = true := by
  rw [List.all_eq_true]
  intro u hu
  obtain ⟨x, _, hx⟩ := List.mem_flatMap.1 hu
  exact List.all_eq_true.1 (h1 x) u hx
theorem flat_el (hk : ∀ x, (f x).length = k) : ∀ (l : List α) (i j : Nat) (x : α) (u : Value), l[i]? = some x → (f x)[j]? = some u → (l.flatMap f)[i * k + j]? = some u
  | [], i, j, x, u, h, _ => by simp at h
  | y :: l, 0, j, x, u, h, hu => by
    obtain rfl := Option.some.inj h
    have hj : j < (f y).length := (List.getElem?_eq_some_iff.1 hu).1
    rw [List.flatMap_cons, Nat.zero_mul, Nat.zero_add, List.getElem?_append_left hj]
    exact hu
  | y :: l, i + 1, j, x, u, h, hu => by
    rw [List.flatMap_cons, List.getElem?_append_right (by rw [hk, Nat.add_mul]; omega), hk, show (i + 1) * k + j - k = i * k + j by rw [Nat.add_mul]; omega]
    exact flat_el hk l i j x u (by simpa using h) hu
theorem flat_inv (hk : ∀ x, (f x).length = k) (hp : 0 < k) : ∀ (l : List α) (n : Nat) (u : Value), (l.flatMap f)[n]? = some u → ∃ x, l[n / k]? = some x ∧ (f x)[n % k]? = some u
  | [], n, u, h => by simp at h
  | y :: l, n, u, h => by
    rw [List.flatMap_cons] at h
    by_cases hn : n < k
    · rw [List.getElem?_append_left (by rw [hk]; exact hn)] at h
      exact ⟨y, by rw [Nat.div_eq_of_lt hn]; rfl, by rw [Nat.mod_eq_of_lt hn]; exact h⟩
    · rw [List.getElem?_append_right (by rw [hk]; omega), hk] at h
      obtain ⟨x, h1, h2⟩ := flat_inv hk hp l (n - k) u h
      have e1 : n / k = (n - k) / k + 1 := by
        have := Nat.add_div_right (n - k) hp
        rw [show n - k + k = n by omega] at this
        exact this
      have e2 : (n - k) % k = n % k := by
        have := Nat.add_mod_right (n - k) k
        rw [show n - k + k = n by omega] at this
        exact this.symm
      exact ⟨x, by rw [e1, List.getElem?_cons_succ]; exact h1, by rw [← e2]; exact h2⟩
theorem flat_take (hk : ∀ x, (f x).length = k) : ∀ (l : List α) (j : Nat), (l.take j).flatMap f = (l.flatMap f).take (j * k)
  | [], j => by simp
  | y :: l, 0 => by simp
  | y :: l, j + 1 => by
    rw [List.take_succ_cons, List.flatMap_cons, List.flatMap_cons, flat_take hk l j, Nat.add_mul, Nat.one_mul, Nat.add_comm (j * k) k, List.take_append, hk, show k + j * k - k = j * k by omega, List.take_of_length_le (l := f y) (by rw [hk]; omega)]
/-- An element of a row of structs is put anew; it is part of the row. -/
theorem flat_part {cur : Array Value} {l : List α} {n cap i : Nat} {x : α} (hk : ∀ x, (f x).length = k) (h : RwIs k cur n cap (l.flatMap f)) (hi : l[i]? = some x) : Part cur (i * k) (f x) :=
  ⟨fun j u hu => by have h1 := h.part.get _ u (flat_el hk l i j x u hi hu); rwa [Nat.zero_add] at h1⟩
theorem flat_put {cur : Array Value} {l : List α} {cap i : Nat} (hk : ∀ x, (f x).length = k) (hp : 0 < k) (h : RwIs k cur l.length cap (l.flatMap f)) (hi : i < l.length) (e : α) : RwIs k (putList cur (i * k) (f e)) l.length cap ((l.set i e).flatMap f) := by
  have hle : (i + 1) * k ≤ cap * k := Nat.mul_le_mul_right k (by have := h.le; omega)
  rw [Nat.add_mul, Nat.one_mul] at hle
  refine ⟨by rw [flat_len hk, List.length_set], h.le, h.most, by rw [putList_size, h.size], ?_⟩
  apply List.ext_getElem?
  intro j
  rw [List.getElem?_take, Array.getElem?_toList, putList_get _ _ _ _ (by rw [hk, h.size]; exact hle)]
  by_cases hj : j < l.length * k
  · rw [if_pos hj]
    have hq : j / k < l.length := Nat.div_lt_of_lt_mul (by rwa [Nat.mul_comm])
    have hr : j % k < k := Nat.mod_lt _ hp
    have hjd : j / k * k + j % k = j := Nat.div_add_mod' j k
    obtain ⟨y, hy⟩ : ∃ y, (l.set i e)[j / k]? = some y := ⟨_, List.getElem?_eq_getElem (by simpa using hq)⟩
    obtain ⟨u, hu⟩ : ∃ u, (f y)[j % k]? = some u := ⟨_, List.getElem?_eq_getElem (by rw [hk]; exact hr)⟩
    have h1 := flat_el hk _ _ _ _ _ hy hu
    rw [hjd] at h1
    rw [h1]
    by_cases hqi : j / k = i
    · rw [hqi, List.getElem?_set_self hi] at hy
      obtain rfl := Option.some.inj hy
      subst hqi
      rw [if_pos (by rw [hk]; omega), show j - j / k * k = j % k by omega, hu]
    · rw [List.getElem?_set_ne (Ne.symm hqi)] at hy
      have h2 := flat_el hk _ _ _ _ _ hy hu
      rw [hjd] at h2
      have h3 := h.part.get j u h2
      rw [Nat.zero_add] at h3
      rw [if_neg ?_, h3]
      rintro ⟨ha, hb⟩
      rw [hk] at hb
      exact hqi (Nat.div_eq_of_lt_le ha (by rw [Nat.add_mul, Nat.one_mul]; exact hb))
  · rw [if_neg hj]
    exact (List.getElem?_eq_none (by rw [flat_len hk, List.length_set]; omega)).symm
/-- A slice of structs that came in. -/
theorem rd_flat {w : World} {a : Addr} {len cap : Nat} {E : Nat → α} (hk : ∀ x, (f x).length = k) (hp : 0 < k) (h1 : ∀ x, (f x).all (·.oneCell') = true) (hc : len ≤ cap)
    (h : ∀ i, i < len → ∀ j u, (f (E i))[j]? = some u → w.cell? ((a.add (i * k)).add j) = some u) : Rd w k (.slice (some a) len cap) len (((List.range len).map E).flatMap f) := by
  refine ⟨by rw [flat_len hk]; simp, flat_ones h1 _, .inr ⟨a, cap, rfl, hc, fun n u hu => ?_⟩⟩
  obtain ⟨x, h2, h3⟩ := flat_inv hk hp _ n u hu
  rw [List.getElem?_map] at h2
  have hn : n / k < len := by
    rcases Nat.lt_or_ge (n / k) len with h | h
    · exact h
    · rw [List.getElem?_eq_none (by simpa using h)] at h2; exact nomatch h2
  rw [List.getElem?_range hn] at h2
  obtain rfl := Option.some.inj h2
  have := h (n / k) hn (n % k) u h3
  rw [_root_.Go.Addr.add_add, Nat.div_add_mod' n k] at this
  exact this
/-- An element's cells. -/
theorem Rd.el {w : World} {v : Value} {l : List α} (hk : ∀ x, (f x).length = k) (h : Rd w k v l.length (l.flatMap f)) {i : Nat} {x : α} (hi : l[i]? = some x) :
    ∃ a cap, v = .slice (some a) l.length cap ∧ ∀ j u, (f x)[j]? = some u → w.cell? ((a.add (i * k)).add j) = some u := by
  have hl := (List.getElem?_eq_some_iff.1 hi).1
  rcases h.way with ⟨_, h2, _⟩ | ⟨a, cap, h1, _, h3⟩
  · omega
  · refine ⟨a, cap, h1, fun j u hu => ?_⟩
    rw [_root_.Go.Addr.add_add]
    exact h3 _ u (flat_el hk l i j x u hi hu)
end
section
variable {P : Program} {ops : Array Oper} {rest : List Oper} {Q : Exit → Act → World → Prop} {ls : List Value} {ds : List Deferred} {w0 w : World} {l : List RowT} {tp : TypeId} {pos : String} {af : Array Edge} {gd : Option (Nat × Bool)}
/-- A store into the middle of a row, at a place that an index told. -/
theorem wpList_putMid (hR : Own w0 w l) {ty : TypeId} {n : Nat} (ht : RowTy P ty n) {g off : Nat} {c s c' : Array Value} {t : TypeId} {x y : Operand} {l' : List RowT} (hgd : Region.wanted ⟨none, .store ty x y, tp, pos, af, gd⟩ (yielded ops ls.toArray) = true)
    (hx : evalL ls x = some (.pointer (some ((⟨g, 0, none⟩ : Addr).add off)))) (hy : evalL ls y = some (.agg s)) (hm : (g, c, t) ∈ l) (hp : PutRel c off s.toList c') (hn : s.size = n) (hl : off + n ≤ c.size) (h1 : s.all (·.oneCell') = true) (hu : Upd g c' l l')
    (h : ∀ w', Own w0 w' l' → wpList P ops Q rest ⟨ls.toArray, ds⟩ w') : wpList P ops Q (⟨none, .store ty x y, tp, pos, af, gd⟩ :: rest) ⟨ls.toArray, ds⟩ w :=
  wpList_put hR ht hgd (by rw [hx, addr_mid, Nat.zero_add]) hy hm hp hn hl h1 hu h
end
end Go.Proofs.YtjecckmcjcikdaaDoor
