/- What the functions of package data come to: plain mathematics over a source as a state. No statement of the seat is proved here. -/
import Derived.Test.YtalgadinoaeihaaIdxM
import Derived.Test.YtalgadinoaeihaaSegM
namespace Go.Proofs.Ytalgadinoaeihaa
open Go.ChangeShapes Go.WideShapes Go.ChangeAt Go.RowKit
set_option linter.unusedVariables false
set_option linter.unusedSimpArgs false

structure DatZ where
  s : Int
  o : Nat
  b : List Int
def DatZ.ok (d : DatZ) : Prop := (-9223372036854775808 ≤ d.s ∧ d.s ≤ 9223372036854775807) ∧ d.o ≤ 65535 ∧ bytesOk d.b
def zeroD : DatZ := ⟨0, 0, []⟩
/-- Whether data may be. -/
def mayD (d : DatZ) : Bool := decide (1 ≤ d.s) && decide (d.s ≤ 32767) && decide (1 ≤ d.b.length) && decide (d.b.length ≤ 1024) && decide (d.o + d.b.length ≤ 65536)
structure MayD (d : DatZ) : Prop where
  s : 1 ≤ d.s ∧ d.s ≤ 32767
  n : 1 ≤ d.b.length ∧ d.b.length ≤ 1024
  o : d.o + d.b.length ≤ 65536
theorem mayD_iff (d : DatZ) : mayD d = true ↔ MayD d := by
  simp only [mayD, Bool.and_eq_true, decide_eq_true_eq]
  exact ⟨fun ⟨⟨⟨⟨a, b⟩, c⟩, e⟩, f⟩ => ⟨⟨a, b⟩, ⟨c, e⟩, f⟩, fun ⟨⟨a, b⟩, ⟨c, e⟩, f⟩ => ⟨⟨⟨⟨a, b⟩, c⟩, e⟩, f⟩⟩
def datB (d : DatZ) : List Int := idxN d.s ++ (bytesN d.o 2 ++ d.b)
theorem datB_ok {d : DatZ} (h : bytesOk d.b) : bytesOk (datB d) := (idxN_ok _).append ((bytesN_ok _ _).append h)
theorem datB_len (d : DatZ) : d.b.length + 3 ≤ (datB d).length ∧ (datB d).length ≤ d.b.length + 4 := by
  have := idxN_len d.s
  unfold datB
  simp only [List.length_append, bytesN_len]
  omega
/-! ### What is read -/
def datS (bs : List Int) : SrcZ := (numZ (indexZ ⟨bs, 0⟩).2 2).2
def datQ (bs : List Int) : DatZ := ⟨(indexZ ⟨bs, 0⟩).1, (numZ (indexZ ⟨bs, 0⟩).2 2).1.toNat, (datS bs).b⟩
def datE (bs : List Int) : Int := if (datS bs).e ≠ 0 then (datS bs).e else if mayD (datQ bs) = true then 0 else 3
def datR (bs : List Int) : DatZ × Int := if datE bs = 0 then (datQ bs, 0) else (zeroD, datE bs)
theorem dat_got {d : DatZ} (hs : 0 ≤ d.s ∧ d.s ≤ 32767) (ho : d.o ≤ 65535) : datS (datB d) = ⟨d.b, 0⟩ ∧ datQ (datB d) = d := by
  have hi := index_back hs (bytesN d.o 2 ++ d.b) 0
  have hn := num_back d.o 2 d.b 0
  unfold datQ datS datB
  rw [hi]
  dsimp only
  rw [hn]
  refine ⟨rfl, ?_⟩
  obtain ⟨s, o, b⟩ := d
  dsimp only at ho ⊢
  congr 1
  omega
theorem dat_back {d : DatZ} (h : MayD d) (ho : d.o ≤ 65535) : datR (datB d) = (d, 0) := by
  obtain ⟨h1, h2⟩ := dat_got (d := d) ⟨by have := h.s; omega, h.s.2⟩ ho
  unfold datR datE
  rw [h1, h2, (mayD_iff d).2 h]
  simp
theorem wrong_e2 (s : SrcZ) (h : s.e = 0 ∨ s.e = 2) : (wrongZ s 2).e = 0 ∨ (wrongZ s 2).e = 2 := by
  unfold wrongZ; split
  · exact .inr rfl
  · exact h
theorem take_e2 (s : SrcZ) (n : Int) (h : s.e = 0 ∨ s.e = 2) : (takeZ s n).2.e = 0 ∨ (takeZ s n).2.e = 2 := by
  unfold takeZ; split
  · exact h
  · exact wrong_e2 s h
theorem index_e2 (s : SrcZ) (h : s.e = 0 ∨ s.e = 2) : (indexZ s).2.e = 0 ∨ (indexZ s).2.e = 2 := by
  have h1 : (numZ s 1).2.e = 0 ∨ (numZ s 1).2.e = 2 := take_e2 s _ h
  have h2 := take_e2 (numZ s 1).2 1 h1
  unfold indexZ
  split
  · exact h1
  · split
    · exact h2
    · exact h2
theorem datS_e (bs : List Int) : (datS bs).e = 0 ∨ (datS bs).e = 2 := take_e2 _ _ (index_e2 _ (.inl rfl))
/-- Either it is read whole and may be, or nothing is and it says so. -/
theorem dat_any {bs : List Int} (hb : bytesOk bs) :
    ((datR bs).2 = 0 ∧ MayD (datR bs).1 ∧ (datR bs).1.b.length + 3 ≤ bs.length ∧ (datR bs).1.ok) ∨ ((datR bs).1 = zeroD ∧ ((datR bs).2 = 2 ∨ (datR bs).2 = 3)) := by
  have he := datS_e bs
  by_cases h0 : (datS bs).e = 0
  · by_cases hm : mayD (datQ bs) = true
    · have hE : datE bs = 0 := by unfold datE; rw [if_neg (by omega), if_pos hm]
      have hR : datR bs = (datQ bs, 0) := by unfold datR; rw [if_pos hE]
      rw [hR]
      have hM := (mayD_iff _).1 hm
      obtain ⟨e1, l1⟩ := num_eats h0
      obtain ⟨_, l2, i2⟩ := index_eats hb e1
      have hk := idxN_len (indexZ ⟨bs, 0⟩).1
      have hq : (datQ bs).b = (numZ (indexZ ⟨bs, 0⟩).2 2).2.b := rfl
      have hn := num_bd (s := (indexZ ⟨bs, 0⟩).2) (k := 2) (index_okb hb)
      have hp : (256 : Int) ^ 2 = 65536 := by decide
      refine .inl ⟨rfl, hM, ?_, ?_, ?_, ?_⟩
      · rw [hq]
        dsimp only at l2
        omega
      · show -9223372036854775808 ≤ (datQ bs).s ∧ (datQ bs).s ≤ 9223372036854775807
        have := hM.s; omega
      · show (numZ (indexZ ⟨bs, 0⟩).2 2).1.toNat ≤ 65535
        omega
      · exact (take_okb (index_okb hb) _)
    · have hE : datE bs = 3 := by unfold datE; rw [if_neg (by omega), if_neg hm]
      have hR : datR bs = (zeroD, 3) := by unfold datR; rw [if_neg (by omega), hE]
      rw [hR]
      exact .inr ⟨rfl, .inr rfl⟩
  · have hE : datE bs = 2 := by unfold datE; rw [if_pos h0]; omega
    have hR : datR bs = (zeroD, 2) := by unfold datR; rw [if_neg (by omega), hE]
    rw [hR]
    exact .inr ⟨rfl, .inl rfl⟩
/-! ### Bytes in pieces -/
/-- The i-th piece. -/
def pieceD (s : Int) (o : Nat) (bs : List Int) (i : Nat) : DatZ := ⟨s, o + 1024 * i, (bs.drop (1024 * i)).take 1024⟩
def cutN (bs : List Int) : Nat := (bs.length + 1023) / 1024
def cutD (s : Int) (o : Nat) (bs : List Int) : List DatZ := (List.range (cutN bs)).map (pieceD s o bs)
theorem cutD_len (s : Int) (o : Nat) (bs : List Int) : (cutD s o bs).length = cutN bs := by simp [cutD]
theorem cutD_at {s : Int} {o : Nat} {bs : List Int} {i : Nat} (h : i < cutN bs) : (cutD s o bs)[i]? = some (pieceD s o bs i) := by
  unfold cutD
  rw [List.getElem?_map, List.getElem?_range h]
  rfl
/-- How many bytes there are up to a piece. -/
def upD (bs : List Int) (i : Nat) : Nat := min bs.length (1024 * i)
theorem upD_zero (bs : List Int) : upD bs 0 = 0 := by simp [upD]
theorem upD_end (bs : List Int) : upD bs (cutN bs) = bs.length := by unfold upD cutN; omega
theorem piece_len {s : Int} {o : Nat} {bs : List Int} {i : Nat} (h : i < cutN bs) : 1 ≤ (pieceD s o bs i).b.length ∧ (pieceD s o bs i).b.length ≤ 1024 ∧ upD bs i = 1024 * i ∧ upD bs i + (pieceD s o bs i).b.length = upD bs (i + 1) ∧ upD bs (i + 1) ≤ bs.length ∧ (i + 1 < cutN bs → (pieceD s o bs i).b.length = 1024) := by
  unfold pieceD upD cutN at *
  simp only [List.length_take, List.length_drop]
  omega
theorem piece_b {s : Int} {o : Nat} {bs : List Int} {i : Nat} (h : i < cutN bs) : (pieceD s o bs i).b = (bs.take (upD bs (i + 1))).drop (upD bs i) := by
  have hl := piece_len (s := s) (o := o) h
  have h1 : upD bs i + 1024 ≤ bs.length ∨ upD bs (i + 1) = bs.length := by unfold upD; omega
  rw [List.drop_take]
  unfold pieceD
  dsimp only
  rw [hl.2.2.1]
  rcases h1 with h1 | h1
  · have : upD bs (i + 1) - 1024 * i = 1024 := by unfold upD at *; omega
    rw [this]
  · rw [h1, List.take_of_length_le (by rw [List.length_drop]; unfold upD at *; omega), List.take_of_length_le (by rw [List.length_drop]; omega)]
theorem piece_may {s : Int} {o : Nat} {bs : List Int} {i : Nat} (hs : 1 ≤ s ∧ s ≤ 32767) (ho : o + bs.length ≤ 65536) (h : i < cutN bs) : MayD (pieceD s o bs i) := by
  have hl := piece_len (s := s) (o := o) h
  refine ⟨hs, ⟨hl.1, hl.2.1⟩, ?_⟩
  show o + 1024 * i + (pieceD s o bs i).b.length ≤ 65536
  omega
theorem piece_ok {s : Int} {o : Nat} {bs : List Int} (hb : bytesOk bs) (i : Nat) : bytesOk (pieceD s o bs i).b := (hb.drop _).take _
end Go.Proofs.Ytalgadinoaeihaa
