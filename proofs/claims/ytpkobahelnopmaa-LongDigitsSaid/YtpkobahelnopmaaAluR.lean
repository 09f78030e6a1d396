




/- Contracts of the document's own sums, bit by bit: Bit, Size, Cut, of and Signs of hansomref08. No statement of the seat is proved here. -/
import Derived.Test.YtpkobahelnopmaaAluO
import Derived.Test.YtpkobahelnopmaaSrc
namespace Go.Proofs.Ytpkobahelnopmaa
open Go.ChangeShapes Go.WideShapes Go.ChangeAt Go.RowKit
set_option linter.unusedVariables false
set_option linter.unusedSimpArgs false

theorem size_any (wide : Bool) (w : World) :
    Calls Try.prog 9 #[.bool wide] w fun e w' => e = .returned (.int .i64 (sizeN wide : Nat)) ∧ w = w' := by
  cases wide
  · go_enter Try.func9, Try.ntmps9
    go_wp2
    go_ret
    exact ⟨rfl, rfl⟩
  · go_enter Try.func9, Try.ntmps9
    go_wp2
    go_ret
    exact ⟨rfl, rfl⟩
theorem cutR_any (x : Nat) (wide : Bool) (w : World) (h : x ≤ 65535) :
    Calls Try.prog 12 #[.int .u16 x, .bool wide] w fun e w' => e = .returned (.int .u16 (cutN wide x : Nat)) ∧ w = w' := by
  cases wide
  · go_enter Try.func12, Try.ntmps12
    go_wp2
    go_ret
    exact ⟨ret_int (by simp [cutN]), rfl⟩
  · go_enter Try.func12, Try.ntmps12
    go_wp2
    go_ret
    exact ⟨rfl, rfl⟩
set_option maxHeartbeats 400000 in
theorem bit_any (x : Nat) (m : Nat) (w : World) (h1 : x ≤ 65535) (hm : m ≤ 1000) :
    Calls Try.prog 22 #[.int .u16 x, .int .i64 m] w fun e w' => e = .returned (.int .i64 (bitN x m : Nat)) ∧ w = w' := by
  go_enter Try.func22, Try.ntmps22
  go_wp2
  go_loop [0, 5] (fun n i => ∃ (y : Nat) (j : Nat), j ≤ m ∧ y ≤ 65535 ∧ n = .int .u16 y ∧ i = .int .i64 j ∧ y = x / 2 ^ j) (fun _ i => m - (intOf i).toNat)
  case atStart => exact ⟨x, 0, by omega, by omega, rfl, rfl, by simp⟩
  case round =>
    obtain ⟨y, j, hj, hy1, rfl, rfl, hrel⟩ := hrel
    by_cases hlt : j < m
    · have H := Lib.hid hrel
      clear hrel
      go_wp2
      go_round
      case rel =>
        refine ⟨y / 2, j + 1, by omega, by omega, val_int (by omega), by go_num, ?_⟩
        rw [H.out, Nat.div_div_eq_div_mul, Nat.pow_succ]
      case measure => simp [intOf]; omega
    · have H := Lib.hid hrel
      clear hrel
      go_wp2
      go_ret
      refine ⟨ret_int ?_, rfl⟩
      have h := H.out
      rw [show j = m from by omega] at h
      subst h
      simp [bitN]

/-- Bits as cells. -/
def cellsN (xs : List Nat) : List Value := xs.map fun n : Nat => .int .i64 (n : Int)
theorem cellsN_len (xs : List Nat) : (cellsN xs).length = xs.length := by simp [cellsN]
theorem cellsN_snoc (xs : List Nat) (d : Nat) : cellsN (xs ++ [d]) = cellsN xs ++ [.int .i64 (d : Int)] := by simp [cellsN]
/-- Bits that lie somewhere. -/
structure SrcI (w : World) (a : Addr) (xs : List Nat) : Prop where
  get : ∀ (j u : Nat), xs[j]? = some u → w.cell? (a.add j) = some (.int .i64 (u : Int))
theorem tIntI : OneTy Try.prog 3 := .of Try.underlying3 rfl (by kernel_rfl)
theorem iIntI : (Try.prog.info? 3).map (·.size) = some 1 := by kernel_rfl
theorem tInts : SliceTy Try.prog 49 3 := .of (z := .int .i64 0) (b := 8) Try.underlying49 (by kernel_rfl) (by decide) (by rfl)
theorem bI0 : BuiltS Try.prog 49 0 [] 3 #[] := ⟨fun w => by simp [go_sem]⟩
theorem bI1 (x : Int) : BuiltS Try.prog 49 1 [(0, .int .i64 x)] 3 #[.int .i64 x] := ⟨fun w => by simp [go_sem]⟩
theorem take_more {α : Type} {l : List α} {k : Nat} {x : α} (h : l[k]? = some x) : l.take (k + 1) = l.take k ++ [x] := by
  rw [List.take_add_one, h]; rfl
theorem of_step {xs : List Nat} {k x : Nat} (hk : xs[k]? = some x) : ofN (xs.take (k + 1)) = ofN (xs.take k) + x * 2 ^ k := by
  rw [take_more hk, ofN_snoc, List.length_take_of_le (Nat.le_of_lt (List.getElem?_eq_some_iff.1 hk).1)]
theorem of_lt {xs : List Nat} (hb : ∀ x ∈ xs, x ≤ 1) (k : Nat) (hk : k ≤ xs.length) : ofN (xs.take k) < 2 ^ k := by
  have := ofN_lt (xs.take k) fun x hx => hb x (List.mem_of_mem_take hx)
  rwa [List.length_take_of_le hk] at this
set_option maxHeartbeats 1000000 in
theorem of_any (xs : List Nat) (a : Addr) (cap : Nat) (w0 : World) (hS : SrcI w0 a xs) (hb : ∀ x ∈ xs, x ≤ 1) (hl : xs.length ≤ 16) :
    Calls Try.prog 35 #[.slice (some a) xs.length cap] w0 fun e w' => e = .returned (.int .u16 (ofN xs : Nat)) ∧ Below w0.heap.size w0 w' := by
  have hR := Own.start w0
  have HB := Lib.hid hb
  have HS := Lib.hid hS
  clear hb hS
  go_enter Try.func35, Try.ntmps35
  go_wp2_with (first
    | ((with_reducible apply q_ls hR); exact rfl; (with_reducible apply t_len Try.underlying49); (apply EvC.now; exact rfl); (simp only [List.set_cons_succ, List.set_cons_zero]; exact rfl); clear hR; intro w hR)
    | ((with_reducible apply q_ls hR); exact rfl; (with_reducible apply t_six Try.underlying49 iIntI); (apply EvC.now; exact rfl); (apply EvC.now; exact rfl); (constructor <;> omega); (simp only [List.set_cons_succ, List.set_cons_zero]; exact rfl); clear hR; intro w hR)
    | ((with_reducible apply q_ls hR); exact rfl; (with_reducible apply t_oldCell tIntI); (apply EvC.now; exact rfl); (simpa using HC.out); (simp only [List.set_cons_succ, List.set_cons_zero]; exact rfl); clear hR; intro w hR))
  go_loopw [3, 4, 5] (fun n p i wr => ∃ k : Nat, k ≤ xs.length ∧ i = .int .i64 k ∧ n = .int .u16 (ofN (xs.take k) : Nat) ∧ p = .int .u16 (2 ^ k % 65536 : Nat) ∧ Own w0 wr []) (fun _ _ i _ => xs.length - (intOf i).toNat)
  case atStart => exact ⟨0, by omega, rfl, by simp [ofN], rfl, hR⟩
  case round =>
    clear hR
    obtain ⟨k, hk, rfl, rfl, rfl, hR⟩ := hrel
    by_cases hlt : k < xs.length
    · obtain ⟨x, hx⟩ : ∃ x, xs[k]? = some x := ⟨_, List.getElem?_eq_getElem hlt⟩
      have HC := Lib.hid (HS.out.get k x hx)
      have hx1 : x ≤ 1 := HB.out x (List.mem_of_getElem? hx)
      have h1 := of_lt HB.out (k + 1) hlt
      have h0 := of_lt HB.out k hk
      have hst := of_step hx
      have hp : 2 ^ (k + 1) ≤ 2 ^ 16 := Nat.pow_le_pow_right (by decide) (by omega)
      have hp2 : 2 ^ (k + 1) = 2 ^ k * 2 := Nat.pow_succ 2 k
      have HP2 := Lib.hid hp2
      clear hx
      rw [hp2] at h1 hp
      clear hp2
      have HM := Lib.hid (Eq.refl (ofN (xs.take (k + 1))))
      generalize hN : ofN (xs.take k) = N at *
      generalize hM : ofN (xs.take (k + 1)) = M at *
      generalize hP : 2 ^ k = p at *
      have hpm : p % 65536 = p := by omega
      rw [hpm]
      have hst2 : x = 0 ∧ M = N ∨ x = 1 ∧ M = N + p := by
        rcases (by omega : x = 0 ∨ x = 1) with rfl | rfl
        · left; omega
        · right; omega
      have HN : Hid (ofN (xs.take (k + 1)) = M) := Lib.hid hM
      clear hst hN hM hP HM
      go_wp2_with (first
    | ((with_reducible apply q_ls hR); exact rfl; (with_reducible apply t_len Try.underlying49); (apply EvC.now; exact rfl); (simp only [List.set_cons_succ, List.set_cons_zero]; exact rfl); clear hR; intro w hR)
    | ((with_reducible apply q_ls hR); exact rfl; (with_reducible apply t_six Try.underlying49 iIntI); (apply EvC.now; exact rfl); (apply EvC.now; exact rfl); (constructor <;> omega); (simp only [List.set_cons_succ, List.set_cons_zero]; exact rfl); clear hR; intro w hR)
    | ((with_reducible apply q_ls hR); exact rfl; (with_reducible apply t_oldCell tIntI); (apply EvC.now; exact rfl); (simpa using HC.out); (simp only [List.set_cons_succ, List.set_cons_zero]; exact rfl); clear hR; intro w hR))
      go_roundw
      case rel =>
        refine ⟨k + 1, by omega, by go_num, val_int ?_, val_int ?_, hR⟩
        · rw [HN.out, IntKind.wrap_u16, IntKind.wrap_u16]
          rcases hst2 with ⟨rfl, rfl⟩ | ⟨rfl, rfl⟩ <;> omega
        · rw [HP2.out, IntKind.wrap_u16]; rfl
      case measure => simp [intOf]; omega
    · have e : k = xs.length := by omega
      subst e
      go_wp2_with (first
    | ((with_reducible apply q_ls hR); exact rfl; (with_reducible apply t_len Try.underlying49); (apply EvC.now; exact rfl); (simp only [List.set_cons_succ, List.set_cons_zero]; exact rfl); clear hR; intro w hR)
    | ((with_reducible apply q_ls hR); exact rfl; (with_reducible apply t_six Try.underlying49 iIntI); (apply EvC.now; exact rfl); (apply EvC.now; exact rfl); (constructor <;> omega); (simp only [List.set_cons_succ, List.set_cons_zero]; exact rfl); clear hR; intro w hR)
    | ((with_reducible apply q_ls hR); exact rfl; (with_reducible apply t_oldCell tIntI); (apply EvC.now; exact rfl); (simpa using HC.out); (simp only [List.set_cons_succ, List.set_cons_zero]; exact rfl); clear hR; intro w hR))
      go_ret
      exact ⟨ret_int (by rw [List.take_length]), hR.below⟩

theorem top_bit (wide : Bool) (v : Nat) (h : v < 2 * topN wide) : bitN v (sizeN wide - 1) = if topN wide ≤ v then 1 else 0 := by
  have h1 := top_on wide v h
  have h2 := bitN_le v (sizeN wide - 1)
  unfold onB at h1
  split
  · rename_i hv
    rw [decide_eq_true hv] at h1
    exact beq_iff_eq.1 h1
  · rename_i hv
    rw [decide_eq_false hv] at h1
    have := beq_eq_false_iff_ne.1 h1
    omega
theorem eq_zeroR (x : Nat) : ((x : Int) == 0) = (x == 0) := by
  rw [Bool.eq_iff_iff]; simp only [beq_iff_eq]; omega
theorem topbit_any (v : Nat) (wide : Bool) (w : World) (h : v ≤ 65535) (hl : v < 2 * topN wide) :
    Calls Try.prog 22 #[.int .u16 v, .int .i64 (wrap64 ((sizeN wide : Nat) - 1))] w fun e w' => e = .returned (.int .i64 (fl 1 (decide (topN wide ≤ v)) : Nat)) ∧ w = w' := by
  have e : wrap64 (((sizeN wide : Nat) : Int) - 1) = ((sizeN wide - 1 : Nat) : Int) := by cases wide <;> decide +kernel
  rw [e]
  have h2 := bit_any v (sizeN wide - 1) w h (by cases wide <;> decide)
  rw [top_bit wide v hl] at h2
  refine h2.mono fun e w' ⟨h3, h4⟩ => ⟨?_, h4⟩
  rw [h3]
  by_cases hv : topN wide ≤ v
  · rw [if_pos hv, decide_eq_true hv]; rfl
  · rw [if_neg hv, decide_eq_false hv]; rfl
set_option maxHeartbeats 2000000 in
theorem signsR_any (x : Nat) (wide : Bool) (w : World) (h : x ≤ 65535) :
    Calls Try.prog 13 #[.int .u16 x, .bool wide] w fun e w' => e = .returned (.int .u16 (signsN wide x : Nat)) ∧ w = w' := by
  have hc := cutN_le (wide := wide) h
  have hl := cutN_lt (wide := wide) h
  unfold signsN
  generalize hv : cutN wide x = v at *
  have ht := topN_le wide
  have ho := onesZ_bd 8 ((v : Int) % 256)
  have HT := Lib.hid (fun w => topbit_any v wide w hc hl)
  clear hl ht
  have hfl0 : fl 1 false = 0 := rfl
  have hfl1 : fl 1 true = 1 := rfl
  obtain ⟨s, hs⟩ : ∃ s, decide (topN wide ≤ v) = s := ⟨_, rfl⟩
  have HO := Lib.hid (fun w => ones_any ((v : Int) % 256) 8 w (by omega) (by omega) (by omega))
  unfold sumF
  rw [hs] at HT ⊢
  rw [show ev v = (onesZ 8 ((v : Int) % 256) % 2 == 0) by rw [ev, Bool.beq_eq_decide_eq], ← eq_zeroR v]
  generalize onesZ 8 ((v : Int) % 256) = o at *
  clear hs
  cases s
  all_goals
    go_enter Try.func13, Try.ntmps13
    go_wp2_with (first
    | (go_at_call 12; refine (cutR_any _ _ _ (by omega)).mono ?_; rintro e w' ⟨rfl, rfl⟩; rw [hv])
    | (go_at_call 9; refine (size_any _ _).mono ?_; rintro e w' ⟨rfl, rfl⟩)
    | (go_at_call 22; refine (HT.out _).mono ?_; rintro e w' ⟨rfl, rfl⟩)
    | (go_at_call 26; refine (HO.out _).mono ?_; rintro e w' ⟨rfl, rfl⟩))
    all_goals go_ret
    all_goals rename_i h1 h2
    all_goals exact ⟨ret_int (by rw [h1, h2]; decide +kernel), rfl⟩
end Go.Proofs.Ytpkobahelnopmaa
