/- Records as a law's argument: a list of structs whose bytes lie elsewhere. No statement of the seat is proved here. -/
import Derived.Test.YtkmeaadkiakbdaaBytesArg
import Derived.Test.YtkmeaadkiakbdaaFlat
import Derived.Test.YtkmeaadkiakbdaaBase
import Derived.Test.YtkmeaadkiakbdaaRecZ
namespace Go.Proofs.Ytkmeaadkiakbdaa
open Go.ChangeShapes Go.WideShapes Go.ChangeAt Go.RowKit
set_option linter.unusedVariables false
set_option linter.unusedSimpArgs false

section
variable {H : Type} {enc : TypeId × Value → H} {w : World} {base : Nat} {spare : Nat → Bool} {held : Bool}
theorem open_bytesC {fuel : Nat} {cs : List Value} {x : DataW H × List MemPlace} (hf : DataW.trod enc Try.prog w base spare held fuel 22 cs = some x) : ∃ v bs, cs = [v] ∧ SrcW w v bs ∧ bs.length ≤ maxLen := by
  have hC : Try.prog.cellsOf 5 = 1 := by kernel_rfl
  obtain ⟨d, p⟩ := x
  rcases Deep.open_slice1 Try.underlying22 hC hf with ⟨h0, _⟩ | ⟨a, len', cap', m, n, V, D, Pl, h0, _, hlc, hcm, hm, _, hx⟩
  · exact ⟨_, [], h0, ⟨(fun _ h => nomatch h), .inl ⟨rfl, rfl⟩⟩, by simp⟩
  · have hle : len' ≤ m := by rw [hm]; split <;> omega
    have hE : ∀ i, ∃ z : Int, i < len' → (0 ≤ z ∧ z ≤ 255) ∧ w.cell? (a.add i) = some (.int .u8 z) := by
      intro i
      by_cases hi : i < len'
      · obtain ⟨h1, h2⟩ := hx i (by omega)
        obtain ⟨z, hz, wf⟩ := cell1 Try.underlying5 h2 rfl (x := V i) rfl
        exact ⟨z, fun _ => ⟨bounds_u8 wf, by rw [h1, hz]⟩⟩
      · exact ⟨0, fun h => absurd h hi⟩
    obtain ⟨E, hE⟩ := Classical.axiomOfChoice hE
    have hl : ((List.range len').map E).length = len' := by simp
    refine ⟨_, (List.range len').map E, h0, ⟨fun n hn => ?_, .inr ⟨a, cap', by rw [hl], by rw [hl]; exact hlc, fun j u hu => ?_⟩⟩, by rw [hl]; omega⟩
    · obtain ⟨i, hi, rfl⟩ := List.mem_map.1 hn
      exact (hE i (by simpa using hi)).1
    · rw [List.getElem?_map] at hu
      have hj : j < len' := by
        rcases Nat.lt_or_ge j len' with h | h
        · exact h
        · rw [List.getElem?_eq_none (by simpa using h)] at hu; exact nomatch hu
      rw [List.getElem?_range hj] at hu
      obtain rfl := Option.some.inj hu
      exact (hE j hj).2
theorem open_recEl {m : Nat} {cs : List Value} {x : DataW H × List MemPlace} (h : DataW.trod enc Try.prog w base spare held m 26 cs = some x) (hl : cs.length = 2) : ∃ r : RecZ, r.ok w ∧ cs = cellsRec r := by
  obtain ⟨ys, n, rfl, _, _, hy, hf⟩ := DataW.trod_struct Try.underlying26 h
  have c1 : Try.prog.cellsOf 5 = 1 := by kernel_rfl
  have c2 : Try.prog.cellsOf 22 = 1 := by kernel_rfl
  match cs, hl with
  | [x0, x1], _ =>
    have hy' : ys.length = 2 := hy
    have h0 : DataW.trod enc Try.prog w base spare held n 5 (([x0, x1].drop 0).take (Try.prog.cellsOf 5)) = ys[0]? := hf 0 _ rfl
    rw [c1] at h0
    have h1 : DataW.trod enc Try.prog w base spare held n 22 (([x0, x1].drop 1).take (Try.prog.cellsOf 22)) = ys[1]? := hf 1 _ rfl
    rw [c2] at h1
    obtain ⟨n0, rfl, w0⟩ := cell1 Try.underlying5 h0 (some_at hy' (by decide)) (x := x0) rfl
    obtain ⟨y1, hy1⟩ := Option.isSome_iff_exists.1 (some_at hy' (show 1 < 2 by decide))
    rw [hy1] at h1
    obtain ⟨v, bs, hv, hs, hb⟩ := open_bytesC h1
    have : x1 = v := by simpa using hv
    subst this
    exact ⟨⟨n0, x1, bs⟩, ⟨bounds_u8 w0, hs, hb⟩, rfl⟩
def RecsIn (w : World) (v : Value) : Prop := ∃ rs : List RecZ, Recs w v rs
theorem open_recs {W : World} {b : Nat} {v : Value} {d : DataW H} {p : List MemPlace} (hk : Value.okWide Try.prog W .any b 36 v) (h : DataW.Trod enc Try.prog w base spare held 36 v d p) : RecsIn w v := by
  obtain ⟨a0, len, cap, rfl⟩ := okWide_slice Try.underlying36 hk
  obtain ⟨fuel, hf⟩ := h
  have hC : Try.prog.cellsOf 26 = 2 := by kernel_rfl
  rcases Deep.open_slice Try.underlying36 hf with ⟨h0, _⟩ | ⟨a, len', cap', m, n, D, Pl, h0, _, hlc, _, hm, _, hx⟩
  · have e : Value.slice a0 len cap = .slice none 0 0 := (List.cons.inj h0).1
    rw [e]
    exact ⟨[], ⟨(fun _ h => nomatch h), ⟨rfl, rfl, .inl ⟨rfl, rfl, rfl⟩⟩⟩⟩
  · have e : Value.slice a0 len cap = .slice (some a) len' cap' := (List.cons.inj h0).1
    rw [e]
    have hle : len' ≤ m := by rw [hm]; split <;> omega
    have hE : ∀ i, ∃ z : RecZ, i < len' → z.ok w ∧ ∀ j u, (cellsRec z)[j]? = some u → w.cell? ((a.add (i * 2)).add j) = some u := by
      intro i
      by_cases hi : i < len'
      · obtain ⟨cs', h1, h2⟩ := hx i (by omega)
        rw [hC] at h1
        obtain ⟨_, hl, hat⟩ := World.cells?_some h1
        obtain ⟨z, hz, rfl⟩ := open_recEl h2 hl
        refine ⟨z, fun _ => ⟨hz, fun j u hu => ?_⟩⟩
        have hj : j < 2 := (List.getElem?_eq_some_iff.1 hu).1
        rw [hat j hj]; exact hu
      · exact ⟨⟨0, .slice none 0 0, []⟩, fun h => absurd h hi⟩
    obtain ⟨E, hE⟩ := Classical.axiomOfChoice hE
    have hok : ∀ r ∈ (List.range len').map E, r.ok w := by
      intro r hr
      obtain ⟨i, hi, rfl⟩ := List.mem_map.1 hr
      exact (hE i (by simpa using hi)).1
    refine ⟨(List.range len').map E, ⟨hok, ?_⟩⟩
    have hl : ((List.range len').map E).length = len' := by simp
    refine ⟨by rw [flat_len cellsRec_len], recs_one hok, .inr ⟨a, cap', by rw [hl], by rw [hl]; exact hlc, fun q u hu => ?_⟩⟩
    obtain ⟨x, h2, h3⟩ := flat_inv cellsRec_len (by decide) _ q u hu
    rw [List.getElem?_map] at h2
    have hn : q / 2 < len' := by
      rcases Nat.lt_or_ge (q / 2) len' with h | h
      · exact h
      · rw [List.getElem?_eq_none (by simpa using h)] at h2; exact nomatch h2
    rw [List.getElem?_range hn] at h2
    obtain rfl := Option.some.inj h2
    have := (hE (q / 2) hn).2 (q % 2) u h3
    rw [_root_.Go.Addr.add_add, Nat.div_add_mod' q 2] at this
    exact this
end
end Go.Proofs.Ytkmeaadkiakbdaa
