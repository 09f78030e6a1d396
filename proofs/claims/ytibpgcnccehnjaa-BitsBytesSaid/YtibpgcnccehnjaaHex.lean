/- Contracts of bits.Digits and of its twin hansomref01.Hex: both return the text of the last so many hexadecimal digits, 'hexB', and make new memory only. -/
import Derived.Test.YtibpgcnccehnjaaBits
import Derived.Deep.DeepCutAuto
namespace Go.Proofs.Ytibpgcnccehnjaa
open Go.ChangeShapes Go.WideShapes Go.ChangeAt Go.RowKit

theorem Try.info_byte : (Try.prog.info? 5).map (fun i => (i.zero, i.size, i.bytes)) = some (some (.int .u8 0), 1, 1) := by kernel_rfl

/-- A digit's letter; the last so many digits of a number. -/
def digB (d : Int) : UInt8 := UInt8.ofNat (if d < 10 then 48 + d else 55 + d).toNat
def hexB : Nat → Int → List UInt8
  | 0, _ => []
  | k + 1, y => hexB k (y / 16) ++ [digB (y % 16)]
theorem hexB_length (k : Nat) : ∀ y, (hexB k y).length = k := by
  induction k with
  | zero => intro y; rfl
  | succ k ih => intro y; simp [hexB, ih]

def byteV (b : UInt8) : Value := .int .u8 (b.toNat : Int)

theorem hexAt_fin : ∀ n : Fin 16, ((⟨#[48, 49, 50, 51, 52, 53, 54, 55, 56, 57, 65, 66, 67, 68, 69, 70]⟩ : ByteArray)[n.val]'n.isLt) = digB n.val := by decide +kernel
theorem hexAt (d : Int) (h0 : 0 ≤ d) (h1 : d < 16) (h : d.toNat < (⟨#[48, 49, 50, 51, 52, 53, 54, 55, 56, 57, 65, 66, 67, 68, 69, 70]⟩ : ByteArray).size) :
    ((⟨#[48, 49, 50, 51, 52, 53, 54, 55, 56, 57, 65, 66, 67, 68, 69, 70]⟩ : ByteArray)[d.toNat]'h) = digB d := by
  obtain ⟨n, rfl⟩ := Int.eq_ofNat_of_zero_le h0
  exact hexAt_fin ⟨n, by omega⟩
theorem rep_get (m c : Nat) (t : List UInt8) (h : c < m) : ((List.replicate (m - c) (0 : UInt8) ++ t).map byteV)[m - 1 - c]? = some (.int .u8 0) := by
  simp [List.getElem?_append, show m - 1 - c < m - c by omega, byteV]
theorem rep_set (m c : Nat) (t : List UInt8) (h : c < m) (d : UInt8) : ((List.replicate (m - c) (0 : UInt8) ++ t).map byteV).set (m - 1 - c) (.int .u8 (d.toNat : Int)) = (List.replicate (m - (c + 1)) (0 : UInt8) ++ (d :: t)).map byteV := by
  rw [show m - c = (m - (c + 1)) + 1 from by omega, show m - 1 - c = m - (c + 1) from by omega, List.replicate_succ', List.map_append, List.map_append, List.map_append, List.append_assoc, List.set_append_right _ _ (by simp)]
  simp [byteV]

theorem ret_string {l l' : List UInt8} (h : l = l') : Ending.returned (.string ⟨l.toArray⟩) = .returned (.string ⟨l'.toArray⟩) := by rw [h]

/-- So many digits are told: 1 to 8. -/
def manyZ (n : Int) : Nat := if n < 1 then 1 else if n > 8 then 8 else n.toNat

set_option maxHeartbeats 400000 in
theorem digits_any (x n : Int) (w : World) (h0 : 0 ≤ x) (h1 : x ≤ 4294967295) :
    Calls Try.prog 23 #[.int .u32 x, .int .i64 n] w fun e w' => e = .returned (.string ⟨(hexB (manyZ n) x).toArray⟩) ∧ Below w.heap.size w w' := by
  obtain ⟨i0, hi, hz0, hz1, hz2⟩ := info_parts Try.info_byte
  obtain ⟨m, hm⟩ : ∃ m, manyZ n = m := ⟨_, rfl⟩
  rw [hm]
  have h2 : 1 ≤ m := by unfold manyZ at hm; split at hm <;> (try split at hm) <;> omega
  have h3 : m ≤ 8 := by unfold manyZ at hm; split at hm <;> (try split at hm) <;> omega
  have HM := Lib.hid hm
  clear hm
  go_enter Try.func23, Try.ntmps23
  go_upto_region 1 with fail
  go_cut [5] (fun v wx => v = .slice (some ⟨w.heap.size, 0, none⟩) m m ∧ wx.ownsRow w.heap.size 5 1 (.slice (some ⟨w.heap.size, 0, none⟩) m m) m ((List.replicate m (0 : UInt8) ++ []).map byteV) ∧ Below w.heap.size w wx)
  case first =>
    by_cases hlo : n < 1
    · obtain rfl : m = 1 := by have h := HM.out; unfold manyZ at h; rw [if_pos hlo] at h; exact h.symm
      go_wp2_with (first | (at_make; refine wpList_make_full _ rfl _ _ 43 rfl w.heap.size 5 i0 (.int .u8 0) 1 Try.underlying43 hi hz0 hz1 _ _ _ _ 1 rfl rfl rfl rfl (by rw [hz2]; omega) (by unfold maxLen; omega) (Nat.le_refl _) ?_))
      intro w1 hown hgrow
      go_wp2
      go_meet
      exact ⟨rfl, by simpa [Value.cells, toList_madeCells_one, byteV] using hown, (Below.refl _ _).grown hgrow (Nat.le_refl _) (by simp)⟩
    · by_cases hhi : n > 8
      · obtain rfl : m = 8 := by have h := HM.out; unfold manyZ at h; rw [if_neg hlo, if_pos hhi] at h; exact h.symm
        go_wp2_with (first | (at_make; refine wpList_make_full _ rfl _ _ 43 rfl w.heap.size 5 i0 (.int .u8 0) 1 Try.underlying43 hi hz0 hz1 _ _ _ _ 8 rfl rfl rfl rfl (by rw [hz2]; omega) (by unfold maxLen; omega) (Nat.le_refl _) ?_))
        intro w1 hown hgrow
        go_wp2
        go_meet
        exact ⟨rfl, by simpa [Value.cells, toList_madeCells_one, byteV] using hown, (Below.refl _ _).grown hgrow (Nat.le_refl _) (by simp)⟩
      · obtain rfl : n = (m : Int) := by have h := HM.out; unfold manyZ at h; rw [if_neg hlo, if_neg hhi] at h; omega
        go_wp2_with (first | (at_make; refine wpList_make_full _ rfl _ _ 43 rfl w.heap.size 5 i0 (.int .u8 0) 1 Try.underlying43 hi hz0 hz1 _ _ _ _ m rfl rfl rfl rfl (by rw [hz2]; omega) (by unfold maxLen; omega) (Nat.le_refl _) ?_))
        intro w1 hown hgrow
        go_wp2
        go_meet
        exact ⟨rfl, by simpa [Value.cells, toList_madeCells_one, byteV] using hown, (Below.refl _ _).grown hgrow (Nat.le_refl _) (by simp)⟩
  case rest =>
  obtain ⟨rfl, hown', hb1⟩ := hcut
  go_wp2
  go_loopw [0, 6] (fun n i wr => ∃ (c : Nat) (y : Int) (t : List UInt8), c ≤ m ∧ 0 ≤ y ∧ y ≤ 4294967295 ∧ n = .int .u32 y ∧ i = .int .i64 ((m : Int) - 1 - c) ∧ t.length = c ∧ hexB (m - c) y ++ t = hexB m x ∧
      wr.ownsRow w.heap.size 5 1 (.slice (some ⟨w.heap.size, 0, none⟩) m m) m ((List.replicate (m - c) (0 : UInt8) ++ t).map byteV) ∧ Below w.heap.size w wr) (fun _ i _ => (intOf i + 1).toNat)
  case atStart => exact ⟨0, x, [], by omega, by omega, by omega, rfl, by simp, rfl, by simp, by simpa using hown', hb1⟩
  case round =>
    obtain ⟨c, y, t, hc, hy0, hy1, rfl, rfl, ht, hrel, hown, hb⟩ := hrel
    have HR := Lib.hid hrel
    have HT := Lib.hid ht
    clear hrel ht hown' hb1
    by_cases hlt : c < m
    · have hfz := hown.frozenAt (m - 1 - c)
      have hcl := hown.cellAt (m - 1 - c) (by omega)
      rw [rep_get m c t hlt] at hcl
      have HD := Lib.hid (hexAt (y % 16) (by omega) (by omega))
      go_wp2
      go_roundw
      case rel =>
        rw [HD.out]
        obtain ⟨own', hg⟩ := hown.stored (m - 1 - c) (.int .u8 ((digB (y % 16)).toNat : Int))
        rw [rep_set m c t hlt] at own'
        refine ⟨c + 1, y / 16, digB (y % 16) :: t, by omega, by omega, by omega, rfl, by go_num, by simp [HT.out], ?_, own', hb.setCell (Nat.le_refl _) _⟩
        have h := HR.out
        rw [show m - c = (m - (c + 1)) + 1 from by omega] at h
        simpa [hexB] using h
      case measure => simp [intOf]; omega
    · obtain rfl : c = m := by omega
      have hl : t.length = c := HT.out
      have hrun := run_convert_bytes_back (P := Try.prog) wr 43 9 5 ⟨w.heap.size, 0, none⟩ c t Try.underlying43 Try.underlying5 Try.underlying9 (fun j hj => by
        have h := hown.cellAt j (by omega)
        rw [show (Addr.add ⟨w.heap.size, 0, none⟩ j) = ⟨w.heap.size, j, none⟩ from by rw [Addr.add_lit, Nat.zero_add], h]
        rw [Nat.sub_self]
        simp only [List.replicate, List.nil_append, List.getElem?_map, List.getElem?_eq_getElem hj, Option.map_some, byteV])
      rw [hl] at hrun
      clear hl
      go_wp2
      go_ret
      refine ⟨ret_string ?_, hb⟩
      have h := HR.out
      simpa [hexB] using h


/-- One byte, made a string: string([]byte{b}). -/
theorem byteText (W : World) (v : Int) (b : UInt8) (hv : v = (b.toNat : Int)) :
    (convert 43 9 (.slice (some ⟨W.heap.size, 0, none⟩) 1 1)).run Try.prog (W.alloc (.cells #[.int .u8 v] 5)) = .ok (.string ⟨#[b]⟩) (W.alloc (.cells #[.int .u8 v] 5)) := by
  subst hv
  refine run_convert_bytes_back (P := Try.prog) _ 43 9 5 ⟨W.heap.size, 0, none⟩ 1 [b] Try.underlying43 Try.underlying5 Try.underlying9 fun j hj => ?_
  obtain rfl : j = 0 := by simp at hj; omega
  rw [Addr.add_lit, World.cell?_alloc_at _ _ _ _ rfl]
  rfl
theorem digB_lo (d : Int) (h0 : 0 ≤ d) (h : d < 10) : 48 + d = ((digB d).toNat : Int) := by unfold digB; rw [if_pos h]; simp; omega
theorem digB_hi (d : Int) (h0 : ¬ d < 10) (h : d < 16) : 65 + d - 10 = ((digB d).toNat : Int) := by unfold digB; rw [if_neg h0]; simp; omega

set_option maxHeartbeats 400000 in
theorem hex_any (x : Int) (m : Nat) (w : World) (h0 : 0 ≤ x) (h1 : x ≤ 4294967295) (h3 : m ≤ 1000) :
    Calls Try.prog 19 #[.int .u32 x, .int .i64 m] w fun e w' => e = .returned (.string ⟨(hexB m x).toArray⟩) ∧ Below w.heap.size w w' := by
  go_enter Try.func19, Try.ntmps19
  go_wp2
  go_loopw [0, 5, 6, 7] (fun n s i d wr => ∃ (c : Nat) (y : Int) (t : List UInt8), c ≤ m ∧ 0 ≤ y ∧ y ≤ 4294967295 ∧ n = .int .u32 y ∧ s = .string ⟨t.toArray⟩ ∧ i = .int .i64 (c : Int) ∧ t.length = c ∧ hexB (m - c) y ++ t = hexB m x ∧ Below w.heap.size w wr) (fun _ _ i _ _ => m - (intOf i).toNat)
  case atStart => exact ⟨0, x, [], by omega, by omega, by omega, rfl, rfl, rfl, rfl, by simp, Below.refl _ _⟩
  case round =>
    obtain ⟨c, y, t, hc, hy0, hy1, rfl, rfl, rfl, ht, hrel, hb⟩ := hrel
    have HR := Lib.hid hrel
    have HT := Lib.hid ht
    clear hrel ht
    by_cases hlt : c < m
    · by_cases hd : y % 16 < 10
      · have hbt := byteText wr (48 + y % 16) (digB (y % 16)) (digB_lo _ (by omega) hd)
        have hlen : t.length ≤ 1000 := by rw [HT.out]; omega
        go_wp2
        go_roundw
        case rel =>
          refine ⟨c + 1, y / 16, digB (y % 16) :: t, by omega, by omega, by omega, rfl, ?_, by go_num, by simp [HT.out], ?_, hb.alloc hb.size _⟩
          · simp [ByteArray.ext_iff]
          · have h := HR.out
            rw [show m - c = (m - (c + 1)) + 1 from by omega] at h
            simpa [hexB] using h
        case measure => simp [intOf]; omega
      · have hbt := byteText wr (65 + y % 16 - 10) (digB (y % 16)) (digB_hi _ hd (by omega))
        have hlen : t.length ≤ 1000 := by rw [HT.out]; omega
        go_wp2
        go_roundw
        case rel =>
          refine ⟨c + 1, y / 16, digB (y % 16) :: t, by omega, by omega, by omega, rfl, ?_, by go_num, by simp [HT.out], ?_, hb.alloc hb.size _⟩
          · simp [ByteArray.ext_iff]
          · have h := HR.out
            rw [show m - c = (m - (c + 1)) + 1 from by omega] at h
            simpa [hexB] using h
        case measure => simp [intOf]; omega
    · go_wp2
      go_ret
      obtain rfl : c = m := by omega
      refine ⟨ret_string ?_, hb⟩
      have h := HR.out
      simpa [hexB] using h

end Go.Proofs.Ytibpgcnccehnjaa
