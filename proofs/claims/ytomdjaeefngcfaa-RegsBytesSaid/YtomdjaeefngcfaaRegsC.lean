

/- The registers, a word and a pair of numbers as a law's arguments; registers and words are equal to themselves. No statement of the seat is proved here. -/
import Derived.Test.YtomdjaeefngcfaaSame
import Derived.Test.YtomdjaeefngcfaaLaw03
namespace Go.Proofs.Ytomdjaeefngcfaa
open Go.ChangeShapes Go.WideShapes Go.ChangeAt Go.RowKit

theorem tInt : OneTy Try.prog 3 := .of Try.underlying3 rfl (by kernel_rfl)
theorem fit_regs (r : RegsZ) : fitB Try.prog 9 28 (.agg (encRegs r)) = true := by kernel_rfl
theorem fit_val (v : Int) (t : Bool) : fitB Try.prog 9 24 (.agg (encVal v t)) = true := by kernel_rfl
theorem open_regs {w : World} {base : Nat} {v : Value} (h : Value.okWide Try.prog w .any base 28 v) : ∃ r : RegsZ, r.ok ∧ v = .agg (encRegs r) := by
  obtain ⟨cs, rfl, hl, hc⟩ := open_flat (ts := [22, 4, 22, 4, 22, 4, 22, 4, 22, 4, 22, 4, 22, 4, 22, 4, 22, 4, 22, 4, 22, 4, 22, 4, 22, 22]) Try.underlying28 rfl (by kernel_rfl) (by kernel_rfl) h
  match cs, hl with
  | [c0, c1, c2, c3, c4, c5, c6, c7, c8, c9, c10, c11, c12, c13, c14, c15, c16, c17, c18, c19, c20, c21, c22, c23, c24, c25], _ =>
    obtain ⟨n0, rfl, b0⟩ := cell_int Try.underlying22 (hc 0 _ _ rfl rfl)
    obtain ⟨n1, rfl⟩ := cell_bool Try.underlying4 (hc 1 _ _ rfl rfl)
    obtain ⟨n2, rfl, b2⟩ := cell_int Try.underlying22 (hc 2 _ _ rfl rfl)
    obtain ⟨n3, rfl⟩ := cell_bool Try.underlying4 (hc 3 _ _ rfl rfl)
    obtain ⟨n4, rfl, b4⟩ := cell_int Try.underlying22 (hc 4 _ _ rfl rfl)
    obtain ⟨n5, rfl⟩ := cell_bool Try.underlying4 (hc 5 _ _ rfl rfl)
    obtain ⟨n6, rfl, b6⟩ := cell_int Try.underlying22 (hc 6 _ _ rfl rfl)
    obtain ⟨n7, rfl⟩ := cell_bool Try.underlying4 (hc 7 _ _ rfl rfl)
    obtain ⟨n8, rfl, b8⟩ := cell_int Try.underlying22 (hc 8 _ _ rfl rfl)
    obtain ⟨n9, rfl⟩ := cell_bool Try.underlying4 (hc 9 _ _ rfl rfl)
    obtain ⟨n10, rfl, b10⟩ := cell_int Try.underlying22 (hc 10 _ _ rfl rfl)
    obtain ⟨n11, rfl⟩ := cell_bool Try.underlying4 (hc 11 _ _ rfl rfl)
    obtain ⟨n12, rfl, b12⟩ := cell_int Try.underlying22 (hc 12 _ _ rfl rfl)
    obtain ⟨n13, rfl⟩ := cell_bool Try.underlying4 (hc 13 _ _ rfl rfl)
    obtain ⟨n14, rfl, b14⟩ := cell_int Try.underlying22 (hc 14 _ _ rfl rfl)
    obtain ⟨n15, rfl⟩ := cell_bool Try.underlying4 (hc 15 _ _ rfl rfl)
    obtain ⟨n16, rfl, b16⟩ := cell_int Try.underlying22 (hc 16 _ _ rfl rfl)
    obtain ⟨n17, rfl⟩ := cell_bool Try.underlying4 (hc 17 _ _ rfl rfl)
    obtain ⟨n18, rfl, b18⟩ := cell_int Try.underlying22 (hc 18 _ _ rfl rfl)
    obtain ⟨n19, rfl⟩ := cell_bool Try.underlying4 (hc 19 _ _ rfl rfl)
    obtain ⟨n20, rfl, b20⟩ := cell_int Try.underlying22 (hc 20 _ _ rfl rfl)
    obtain ⟨n21, rfl⟩ := cell_bool Try.underlying4 (hc 21 _ _ rfl rfl)
    obtain ⟨n22, rfl, b22⟩ := cell_int Try.underlying22 (hc 22 _ _ rfl rfl)
    obtain ⟨n23, rfl⟩ := cell_bool Try.underlying4 (hc 23 _ _ rfl rfl)
    obtain ⟨n24, rfl, b24⟩ := cell_int Try.underlying22 (hc 24 _ _ rfl rfl)
    obtain ⟨n25, rfl, b25⟩ := cell_int Try.underlying22 (hc 25 _ _ rfl rfl)
    have z : (0 : Int) ≤ 0 ∧ (0 : Int) ≤ 65535 := ⟨by decide, by decide⟩
    refine ⟨⟨(fun k => match k with | 0 => n0 | 1 => n2 | 2 => n4 | 3 => n6 | 4 => n8 | 5 => n10 | 6 => n12 | 7 => n14 | _ => 0), (fun k => match k with | 0 => n1 | 1 => n3 | 2 => n5 | 3 => n7 | 4 => n9 | 5 => n11 | 6 => n13 | 7 => n15 | _ => false), (fun k => match k with | 0 => n16 | 1 => n18 | 2 => n20 | 3 => n22 | _ => 0), (fun k => match k with | 0 => n17 | 1 => n19 | 2 => n21 | 3 => n23 | _ => false), n24, n25⟩, ⟨fun k => ?_, fun k => ?_, b24, b25⟩, rfl⟩
    · match k with
      | 0 => exact b0
      | 1 => exact b2
      | 2 => exact b4
      | 3 => exact b6
      | 4 => exact b8
      | 5 => exact b10
      | 6 => exact b12
      | 7 => exact b14
      | _ + 8 => exact z
    · match k with
      | 0 => exact b16
      | 1 => exact b18
      | 2 => exact b20
      | 3 => exact b22
      | _ + 4 => exact z
theorem open_val {w : World} {base : Nat} {x : Value} (h : Value.okWide Try.prog w .any base 24 x) : ∃ v t, (0 ≤ v ∧ v ≤ 65535) ∧ x = .agg (encVal v t) := by
  obtain ⟨cs, rfl, hl, hc⟩ := open_flat (ts := [22, 4]) Try.underlying24 rfl (by kernel_rfl) (by kernel_rfl) h
  match cs, hl with
  | [c0, c1], _ =>
    obtain ⟨n0, rfl, b0⟩ := cell_int Try.underlying22 (hc 0 _ _ rfl rfl)
    obtain ⟨n1, rfl⟩ := cell_bool Try.underlying4 (hc 1 _ _ rfl rfl)
    exact ⟨n0, n1, b0, rfl⟩
def encPair (n k : Int) : Array Value := #[.int .i64 n, .int .i64 k]
theorem open_pair {w : World} {base : Nat} {x : Value} (h : Value.okWide Try.prog w .any base 29 x) :
    ∃ n k, (-9223372036854775808 ≤ n ∧ n ≤ 9223372036854775807) ∧ (-9223372036854775808 ≤ k ∧ k ≤ 9223372036854775807) ∧ x = .agg (encPair n k) := by
  obtain ⟨cs, rfl, hl, hc⟩ := open_flat (ts := [3, 3]) Try.underlying29 rfl (by kernel_rfl) (by kernel_rfl) h
  match cs, hl with
  | [c0, c1], _ =>
    obtain ⟨n0, rfl, b0⟩ := cell_int Try.underlying3 (hc 0 _ _ rfl rfl)
    obtain ⟨n1, rfl, b1⟩ := cell_int Try.underlying3 (hc 1 _ _ rfl rfl)
    exact ⟨n0, n1, b0, b1, rfl⟩

theorem get_yes (r : RegsZ) (n : Int) (w : World) (ha : 0 ≤ n) (hb : n < 8) :
    Calls Try.prog 8 #[.agg (encRegs r), .int .i64 n] w fun e w' => e = .returned (.agg (encVal (r.g n.toNat) (r.h n.toNat))) ∧ Below w.heap.size w w' := by
  have h := get_any r n w (by omega) (by omega)
  rw [show getV r n = r.g n.toNat from if_pos (inB_yes ha hb), show getT r n = r.h n.toNat from if_pos (inB_yes ha hb)] at h
  exact h
theorem get_no (r : RegsZ) (n : Int) (w : World) (hn : ¬ (0 ≤ n ∧ n < 8)) (h0 : -9223372036854775808 ≤ n) (h1 : n ≤ 9223372036854775807) :
    Calls Try.prog 8 #[.agg (encRegs r), .int .i64 n] w fun e w' => e = .returned (.agg (encVal 0 false)) ∧ Below w.heap.size w w' := by
  have h := get_any r n w h0 h1
  rw [show getV r n = 0 from if_neg (by rw [inB_no hn]; exact Bool.false_ne_true), show getT r n = false from if_neg (by rw [inB_no hn]; exact Bool.false_ne_true)] at h
  exact h
theorem seg_yes (r : RegsZ) (n : Int) (w : World) (ha : 0 ≤ n) (hb : n < 4) :
    Calls Try.prog 9 #[.agg (encRegs r), .int .i64 n] w fun e w' => e = .returned (.agg (encVal (r.s n.toNat) (r.u n.toNat))) ∧ Below w.heap.size w w' := by
  have h := seg_any r n w (by omega) (by omega)
  rw [show segV r n = r.s n.toNat from if_pos (inB_yes ha hb), show segT r n = r.u n.toNat from if_pos (inB_yes ha hb)] at h
  exact h
theorem seg_no (r : RegsZ) (n : Int) (w : World) (hn : ¬ (0 ≤ n ∧ n < 4)) (h0 : -9223372036854775808 ≤ n) (h1 : n ≤ 9223372036854775807) :
    Calls Try.prog 9 #[.agg (encRegs r), .int .i64 n] w fun e w' => e = .returned (.agg (encVal 0 false)) ∧ Below w.heap.size w w' := by
  have h := seg_any r n w h0 h1
  rw [show segV r n = 0 from if_neg (by rw [inB_no hn]; exact Bool.false_ne_true), show segT r n = false from if_neg (by rw [inB_no hn]; exact Bool.false_ne_true)] at h
  exact h
theorem put_yes (r : RegsZ) (n : Int) (v : Int) (t : Bool) (w : World) (ha : 0 ≤ n) (hb : n < 8) :
    Calls Try.prog 5 #[.agg (encRegs r), .int .i64 n, .agg (encVal v t)] w fun e w' => e = .returned (.agg (encRegs (r.putG n.toNat v t))) ∧ Below w.heap.size w w' := by
  have h := put_any r n v t w (by omega) (by omega)
  rw [show r.put n v t = r.putG n.toNat v t from if_pos (inB_yes ha hb)] at h
  exact h
theorem put_no (r : RegsZ) (n : Int) (v : Int) (t : Bool) (w : World) (hn : ¬ (0 ≤ n ∧ n < 8)) (h0 : -9223372036854775808 ≤ n) (h1 : n ≤ 9223372036854775807) :
    Calls Try.prog 5 #[.agg (encRegs r), .int .i64 n, .agg (encVal v t)] w fun e w' => e = .returned (.agg (encRegs r)) ∧ Below w.heap.size w w' := by
  have h := put_any r n v t w h0 h1
  rw [show r.put n v t = r from if_neg (by rw [inB_no hn]; exact Bool.false_ne_true)] at h
  exact h
theorem putSeg_yes (r : RegsZ) (n : Int) (v : Int) (t : Bool) (w : World) (ha : 0 ≤ n) (hb : n < 4) :
    Calls Try.prog 6 #[.agg (encRegs r), .int .i64 n, .agg (encVal v t)] w fun e w' => e = .returned (.agg (encRegs (r.putS n.toNat v t))) ∧ Below w.heap.size w w' := by
  have h := putSeg_any r n v t w (by omega) (by omega)
  rw [show r.putSeg n v t = r.putS n.toNat v t from if_pos (inB_yes ha hb)] at h
  exact h
theorem putSeg_no (r : RegsZ) (n : Int) (v : Int) (t : Bool) (w : World) (hn : ¬ (0 ≤ n ∧ n < 4)) (h0 : -9223372036854775808 ≤ n) (h1 : n ≤ 9223372036854775807) :
    Calls Try.prog 6 #[.agg (encRegs r), .int .i64 n, .agg (encVal v t)] w fun e w' => e = .returned (.agg (encRegs r)) ∧ Below w.heap.size w w' := by
  have h := putSeg_any r n v t w h0 h1
  rw [show r.putSeg n v t = r from if_neg (by rw [inB_no hn]; exact Bool.false_ne_true)] at h
  exact h
end Go.Proofs.Ytomdjaeefngcfaa
