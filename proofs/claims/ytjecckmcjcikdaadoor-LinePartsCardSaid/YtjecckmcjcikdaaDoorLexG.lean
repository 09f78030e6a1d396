







/- The contract of strings.TrimLeft at blanks, tabs and carriage returns. No statement of the seat is proved here. -/
import Derived.Test.YtjecckmcjcikdaaDoorLexE
import Derived.Test.YtjecckmcjcikdaaDoorNum
namespace Go.Proofs.YtjecckmcjcikdaaDoor
open Go.ChangeShapes Go.WideShapes Go.ChangeAt Go.RowKit
set_option linter.unusedVariables false
set_option linter.unusedSimpArgs false

/-- The set after so many of its letters. -/
def setC (k : Nat) : Array Value := (List.range 256).map (fun i => Value.bool (([32, 9, 13].take k).contains i)) |>.toArray
def partsZ : List Int := [32, 9, 13]
theorem partsZ_ok : bytesOk partsZ := ascii.ok (ascii_of rfl)
theorem lPARTS : (⟨#[32, 9, 13]⟩ : ByteArray) = strOfNums partsZ := rfl
theorem tSetL : RowTy Tryd.prog 59 256 := .of Tryd.underlying59 rfl (by kernel_rfl)
theorem zSetL : ZeroTy Tryd.prog 59 (setC 0) := .of (by kernel_rfl)
theorem iSetL : (Tryd.prog.info? 59).map (·.size) = some 256 := by kernel_rfl
theorem tBoolL : OneTy Tryd.prog 4 := .of Tryd.underlying4 rfl (by kernel_rfl)
theorem iBoolL : (Tryd.prog.info? 4).map (·.size) = some 1 := by kernel_rfl
theorem setC_size (k : Nat) : (setC k).size = 256 := by unfold setC; rw [List.size_toArray, List.length_map, List.length_range]
theorem setC_at {k : Nat} {i : Nat} (h : i < 256) : (setC k)[i]? = some (.bool (([32, 9, 13].take k).contains i)) := by
  unfold setC
  rw [List.getElem?_toArray, List.getElem?_map, List.getElem?_range h]; rfl
theorem setC_put {k : Nat} {x : Int} (hx : partsZ[k]? = some x) : PutRel (setC k) x.toNat [.bool true] (setC (k + 1)) := by
  have hk : k < 3 := (List.getElem?_eq_some_iff.1 hx).1
  match k, hk with
  | 0, _ => obtain rfl : (32 : Int) = x := Option.some.inj hx; exact ⟨by kernel_rfl⟩
  | 1, _ => obtain rfl : (9 : Int) = x := Option.some.inj hx; exact ⟨by kernel_rfl⟩
  | 2, _ => obtain rfl : (13 : Int) = x := Option.some.inj hx; exact ⟨by kernel_rfl⟩
theorem set_blank {c : Int} (hc : 0 ≤ c ∧ c ≤ 255) : (setC 3).toList[c.toNat]? = some (.bool (blankZ c)) := by
  rw [Array.getElem?_toList, setC_at (by omega)]
  congr 2
  unfold blankZ
  rw [Bool.eq_iff_iff]
  simp
  omega
theorem setC_one (k : Nat) : (setC k).all (·.oneCell') = true := by
  unfold setC
  simp [Value.oneCell']
section
variable {P : Program} {C : World → Prop} {tp : TypeId} {pos : String} {af : Array Edge} {gd : Option (Nat × Bool)} {ls : List Value} {ds : List Deferred} {c : Bool} {dd : Option Tmp}
theorem t_pixL {ty e : TypeId} {x ix : Operand} {b n : Nat} {q : IntKind} {j : Int} (hu : P.underlying ty = some (.array n e)) (hz : (P.info? e).map (·.size) = some 1) (hx : EvC ls c x (.pointer (some ⟨b, 0, none⟩))) (hi : EvC ls c ix (.int q j)) (hj : 0 ≤ j ∧ j < n) :
    TIf P C c ⟨dd, .indexAddr ty x ix, tp, pos, af, gd⟩ ⟨ls.toArray, ds⟩ (.pointer (some ⟨b, j.toNat, none⟩)) :=
  ⟨fun h => .inl fun w _ => run_gix hu hz rfl (eval_of (hx.of h)) (eval_of (hi.of h)) hj⟩
end
set_option maxHeartbeats 1000000 in
set_option maxRecDepth 100000 in
theorem setL_any (w0 : World) : Calls Tryd.prog 25 #[.string (strOfNums partsZ)] w0 fun e w' => e = .returned (.tuple #[.agg (setC 3), .bool true]) ∧ Below w0.heap.size w0 w' := by
  have hR := Own.start w0
  have hpl : partsZ.length = 3 := rfl
  generalize hpz : partsZ = p at *
  have hpok : bytesOk p := hpz ▸ partsZ_ok
  have HZ := Lib.hid hpz
  clear hpz
  have hsz := setC_size 3
  have h1 := setC_one 3
  obtain ⟨S, hS⟩ : ∃ S, setC 3 = S := ⟨_, rfl⟩
  rw [hS] at hsz h1 ⊢
  have HS := Lib.hid hS
  clear hS
  go_enter Tryd.func25, Tryd.ntmps25
  go_wp2_with (first
    | ((with_reducible apply wpList_make hR zSetL); exact rfl; clear hR; intro g w hR; simp only [List.set_cons_succ, List.set_cons_zero]))
  go_loopw [4] (fun i wr => ∃ k : Nat, i = .int .i64 k ∧ k ≤ 3 ∧ Own w0 wr [(g, setC k, 59)]) (fun i _ => 3 - (intOf i).toNat)
  case atStart => exact ⟨0, rfl, Nat.zero_le _, hR⟩
  case round =>
    clear hR
    obtain ⟨k, rfl, hk, hR⟩ := hrel
    by_cases hlt : k < 3
    · obtain ⟨x, hx⟩ : ∃ x, p[k]? = some x := ⟨_, List.getElem?_eq_getElem (by omega)⟩
      have hx7 : 0 ≤ x ∧ x ≤ 127 := by
        have := HZ.out ▸ hx
        exact (ascii_of (s := partsZ) rfl).at (by rw [HZ.out]; exact hx)
      have HP := Lib.hid (setC_put (k := k) (x := x) (by rw [HZ.out]; exact hx))
      have HX := Lib.hid hx
      have HL := Lib.hid (show cmpB .lss (k : Int) (p.length : Int) = some true from congrArg some (decide_eq_true (by omega)))
      have HG := Lib.hid (show cmpB .geq x 128 = some false from congrArg some (decide_eq_false (by omega)))
      have HK := Lib.hid (show IntKind.i64.wrap ((k : Int) + 1) = ((k + 1 : Nat) : Int) by rw [IntWalk.i64_in _ (by omega)]; omega)
      have hsk : x.toNat + 1 ≤ (setC k).size := by rw [setC_size]; omega
      clear hx
      go_wp2_with (first
    | ((with_reducible apply q_ls0); exact rfl; (with_reducible apply t_lenN Tryd.underlying9); (apply EvC.now; exact rfl); (simp only [List.set_cons_succ, List.set_cons_zero]; exact rfl))
    | ((with_reducible apply q_ls0); exact rfl; (with_reducible apply t_cmp); (apply EvC.now; exact rfl); (apply EvC.now; exact rfl); (with_reducible first | exact HL.out | exact HG.out); (simp only [List.set_cons_succ, List.set_cons_zero]; exact rfl))
    | ((with_reducible apply q_ls0); exact rfl; (with_reducible apply t_atN Tryd.underlying9 hpok (k := k)); (apply EvC.now; exact rfl); (apply EvC.now; exact rfl); exact rfl; exact HX.out; (simp only [List.set_cons_succ, List.set_cons_zero]; exact rfl))
    | ((with_reducible apply q_ls0); exact rfl; (with_reducible apply t_pixL Tryd.underlying59 iBoolL); (apply EvC.now; exact rfl); (apply EvC.now; exact rfl); (constructor <;> omega); (simp only [List.set_cons_succ, List.set_cons_zero]; exact rfl))
    | ((with_reducible apply wpList_put1 hR tBoolL); exact rfl; exact rfl; exact rfl; (focus (repeat (first | apply List.Mem.head | apply List.Mem.tail | apply List.mem_append_right))); exact HP.out; exact hsk; exact rfl; (focus (repeat (first | apply Upd.head | apply Upd.tail))); clear hR; intro w hR)
    | ((with_reducible apply q_ls0); exact rfl; (with_reducible apply t_numE (op := .add)); (apply EvC.now; exact rfl); (apply EvC.now; exact rfl); exact rfl; exact HK.out; (simp only [List.set_cons_succ, List.set_cons_zero]; exact rfl)))
      go_round
      case rel => exact ⟨k + 1, rfl, hlt, hR⟩
      case measure => simp [intOf]; omega
    · obtain rfl : k = 3 := by omega
      have HL := Lib.hid (show cmpB .lss ((3 : Nat) : Int) (p.length : Int) = some false from congrArg some (decide_eq_false (by omega)))
      rw [HS.out] at hR
      go_wp2_with (first
    | ((with_reducible apply q_ls0); exact rfl; (with_reducible apply t_lenN Tryd.underlying9); (apply EvC.now; exact rfl); (simp only [List.set_cons_succ, List.set_cons_zero]; exact rfl))
    | ((with_reducible apply q_ls0); exact rfl; (with_reducible apply t_cmp); (apply EvC.now; exact rfl); (apply EvC.now; exact rfl); exact HL.out; (simp only [List.set_cons_succ, List.set_cons_zero]; exact rfl))
    | ((with_reducible apply q_ls hR); exact rfl; (with_reducible apply t_part tSetL); (apply EvC.now; exact rfl); (focus (repeat (first | apply List.Mem.head | apply List.Mem.tail | apply List.mem_append_right))); exact extract_all hsz; exact hsz; (simp only [List.set_cons_succ, List.set_cons_zero]; exact rfl); clear hR; intro w hR)
    | ((with_reducible apply wpList_put hR tSetL); exact rfl; exact rfl; exact rfl; (focus (repeat (first | apply List.Mem.head | apply List.Mem.tail | apply List.mem_append_right))); exact putList_all rfl; exact hsz; omega; exact h1; (focus (repeat (first | apply Upd.head | apply Upd.tail))); clear hR; intro w hR))
      (try simp only [Exit.inBlock, Exit.then])
      exact post_row_tmp hR rfl (by rfl) (by rfl) (by (focus (repeat (first | apply List.Mem.head | apply List.Mem.tail | apply List.mem_append_right)))) Tryd.underlying59 rfl iSetL (by exact hsz) (by rfl) ⟨rfl, hR.below⟩
theorem containsL_any {w0 : World} {g : Nat} {T : TypeId} {fr : Nat × Nat} (hg : w0.heap[g]? = some (.cells (setC 3) T fr)) {c : Int} (hc : 0 ≤ c ∧ c ≤ 255) :
    Calls Tryd.prog 34 #[.pointer (some ⟨g, 0, none⟩), .int .u8 c] w0 fun e w' => e = .returned (.bool (blankZ c)) ∧ w' = w0 := by
  have hR := Own.start w0
  have HB := Lib.hid (set_blank hc)
  generalize setC 3 = S at *
  go_enter Tryd.func34, Tryd.ntmps34
  go_wp2_with (first
    | ((with_reducible apply q_ls0); exact rfl; (with_reducible apply t_nilck); (apply EvC.now; exact rfl); (simp only [List.set_cons_succ, List.set_cons_zero]; exact rfl))
    | ((with_reducible apply q_ls0); exact rfl; (with_reducible apply t_pixL Tryd.underlying59 iBoolL); (apply EvC.now; exact rfl); (apply EvC.now; exact rfl); (constructor <;> omega); (simp only [List.set_cons_succ, List.set_cons_zero]; exact rfl))
    | ((with_reducible apply q_ls0); exact rfl; (with_reducible apply t_cellW tBoolL); (apply EvC.now; exact rfl); (exact fun w' h => h ▸ (cell_of_row _ _ _ _ _ _ hg).trans ((Array.getElem?_toList ..).symm.trans HB.out)); (simp only [List.set_cons_succ, List.set_cons_zero]; exact rfl)))
  go_ret
  exact ⟨rfl, rfl⟩
set_option maxHeartbeats 1000000 in
theorem trimSet_any {w0 : World} {g : Nat} {T : TypeId} {fr : Nat × Nat} (hg : w0.heap[g]? = some (.cells (setC 3) T fr)) {s : List Int} (hs : bytesOk s) :
    Calls Tryd.prog 26 #[.string (strOfNums s), .pointer (some ⟨g, 0, none⟩)] w0 fun e w' => e = .returned (.string (strOfNums (s.dropWhile blankZ))) ∧ w' = w0 := by
  have HCA := Lib.hid (fun (c : Int) (hc : 0 ≤ c ∧ c ≤ 255) => containsL_any hg hc)
  clear hg
  go_enter Tryd.func26, Tryd.ntmps26
  go_wp2_with fail
  go_loopw [0] (fun v wr => ∃ t : List Int, v = .string (strOfNums t) ∧ bytesOk t ∧ t.length ≤ s.length ∧ wr = w0 ∧ t.dropWhile blankZ = s.dropWhile blankZ) (fun v _ => match v with | .string b => b.size | _ => 0)
  case atStart => exact ⟨s, rfl, hs, Nat.le_refl _, rfl, rfl⟩
  case round =>
    obtain ⟨t, rfl, ht, hl, rfl, hd⟩ := hrel
    cases t with
    | nil =>
      have HD := Lib.hid hd
      have HG := Lib.hid (show cmpB .gtr (([] : List Int).length : Int) 0 = some false from rfl)
      clear hd
      go_wp2_with (first
    | ((with_reducible apply q_ls0); exact rfl; (with_reducible apply t_lenN Tryd.underlying9); (apply EvC.now; exact rfl); (simp only [List.set_cons_succ, List.set_cons_zero]; exact rfl))
    | ((with_reducible apply q_ls0); exact rfl; (with_reducible apply t_cmp); (apply EvC.now; exact rfl); (apply EvC.now; exact rfl); exact HG.out; (simp only [List.set_cons_succ, List.set_cons_zero]; exact rfl)))
      go_ret
      exact ⟨by rw [← HD.out]; rfl, rfl⟩
    | cons c r =>
      have hcb := ht c (.head _)
      have HC := Lib.hid (show (c :: r)[0]? = some c from rfl)
      have HG := Lib.hid (show cmpB .gtr (((c :: r) : List Int).length : Int) 0 = some true from congrArg some (decide_eq_true (by rw [List.length_cons]; omega)))
      have HT := Lib.hid (show (c :: r).drop 1 = r from rfl)
      have hrl : r.length < (c :: r).length := by rw [List.length_cons]; omega
      have hrk : bytesOk r := fun x hx => ht x (.tail _ hx)
      have h1 : 1 ≤ (c :: r).length := by rw [List.length_cons]; omega
      have HK := Lib.hid (HCA.out _ hcb)
      rw [List.dropWhile_cons] at hd
      generalize hcr : c :: r = u at *
      clear hcr
      cases hb : blankZ c
      · rw [hb] at hd HK
        have HD := Lib.hid hd
        clear hd
        go_wp2_with (first
    | ((with_reducible apply q_ls0); exact rfl; (with_reducible apply t_lenN Tryd.underlying9); (apply EvC.now; exact rfl); (simp only [List.set_cons_succ, List.set_cons_zero]; exact rfl))
    | ((with_reducible apply q_ls0); exact rfl; (with_reducible apply t_cmp); (apply EvC.now; exact rfl); (apply EvC.now; exact rfl); exact HG.out; (simp only [List.set_cons_succ, List.set_cons_zero]; exact rfl))
    | ((with_reducible apply q_ls0); exact rfl; (with_reducible apply t_atN Tryd.underlying9 ht (k := 0)); (apply EvC.now; exact rfl); (apply EvC.now; exact rfl); exact rfl; exact HC.out; (simp only [List.set_cons_succ, List.set_cons_zero]; exact rfl))
    | (go_at_call 34; refine (HK.out).mono ?_; rintro e w' ⟨rfl, rfl⟩))
        go_ret
        exact ⟨by rw [← HD.out]; rfl, rfl⟩
      · rw [hb] at hd HK
        have HD := Lib.hid hd
        clear hd
        go_wp2_with (first
    | ((with_reducible apply q_ls0); exact rfl; (with_reducible apply t_lenN Tryd.underlying9); (apply EvC.now; exact rfl); (simp only [List.set_cons_succ, List.set_cons_zero]; exact rfl))
    | ((with_reducible apply q_ls0); exact rfl; (with_reducible apply t_cmp); (apply EvC.now; exact rfl); (apply EvC.now; exact rfl); exact HG.out; (simp only [List.set_cons_succ, List.set_cons_zero]; exact rfl))
    | ((with_reducible apply q_ls0); exact rfl; (with_reducible apply t_atN Tryd.underlying9 ht (k := 0)); (apply EvC.now; exact rfl); (apply EvC.now; exact rfl); exact rfl; exact HC.out; (simp only [List.set_cons_succ, List.set_cons_zero]; exact rfl))
    | (go_at_call 34; refine (HK.out).mono ?_; rintro e w' ⟨rfl, rfl⟩)
    | ((with_reducible apply q_ls0); exact rfl; (with_reducible apply t_dropE Tryd.underlying9 (k := 1)); (apply EvC.now; exact rfl); (apply EvC.now; exact rfl); exact rfl; exact h1; exact HT.out; (simp only [List.set_cons_succ, List.set_cons_zero]; exact rfl)))
        go_round
        case rel => exact ⟨r, rfl, hrk, by omega, trivial, HD.out⟩
        case measure => simp [strOf_len]; omega
set_option maxHeartbeats 1000000 in
set_option maxRecDepth 100000 in
theorem trim_any {s : List Int} (hs : bytesOk s) (w0 : World) :
    Calls Tryd.prog 22 #[.string (strOfNums s), .string (strOfNums partsZ)] w0 fun e w' => e = .returned (.string (strOfNums (s.dropWhile blankZ))) ∧ Below w0.heap.size w0 w' := by
  have hR := Own.start w0
  have hpok := partsZ_ok
  have HPL := Lib.hid (show cmpB .eql (partsZ.length : Int) 1 = some false from rfl)
  have HPE := Lib.hid (show decide (partsZ = []) = false from rfl)
  have HSET := Lib.hid setL_any
  have HTR := Lib.hid (fun (w : World) (g : Nat) (T : TypeId) (fr : Nat × Nat) (hg : w.heap[g]? = some (.cells (setC 3) T fr)) => trimSet_any hg hs)
  have hsz := setC_size 3
  have hsz0 := setC_size 0
  have h1 := setC_one 3
  generalize setC 3 = S at *
  generalize partsZ = p at *
  cases s with
  | nil =>
    have HE := Lib.hid (show decide (([] : List Int) = []) = true from rfl)
    go_enter Tryd.func22, Tryd.ntmps22
    go_wp2_with (first
    | ((with_reducible apply q_ls0); exact rfl; (with_reducible apply t_eqE .nil .nil); (apply EvC.now; exact rfl); (exact lit_now (ns := []) rfl); exact HE.out; (simp only [List.set_cons_succ, List.set_cons_zero]; exact rfl)))
    go_ret
    exact ⟨rfl, hR.below⟩
  | cons c r =>
    have HE := Lib.hid (show decide (c :: r = []) = false from rfl)
    generalize c :: r = t at *
    go_enter Tryd.func22, Tryd.ntmps22
    go_wp2_with (first
    | ((with_reducible apply q_ls0); exact rfl; (with_reducible apply t_eqE hs .nil); (apply EvC.now; exact rfl); (exact lit_now (ns := []) rfl); exact HE.out; (simp only [List.set_cons_succ, List.set_cons_zero]; exact rfl))
    | ((with_reducible apply q_ls0); exact rfl; (with_reducible apply t_eqE hpok .nil); (apply EvC.now; exact rfl); (exact lit_now (ns := []) rfl); exact HPE.out; (simp only [List.set_cons_succ, List.set_cons_zero]; exact rfl))
    | ((with_reducible apply q_ls0); exact rfl; (with_reducible apply t_lenN Tryd.underlying9); (apply EvC.now; exact rfl); (simp only [List.set_cons_succ, List.set_cons_zero]; exact rfl))
    | ((with_reducible apply q_ls0); exact rfl; (with_reducible apply t_cmp); (apply EvC.now; exact rfl); (apply EvC.now; exact rfl); exact HPL.out; (simp only [List.set_cons_succ, List.set_cons_zero]; exact rfl))
    | (go_at_call 25; refine (HSET.out _).mono ?_; rintro e w' ⟨rfl, hb⟩; replace hR := hR.grow hb; clear hb)
    | ((with_reducible apply wpList_make hR zSetL); exact rfl; clear hR; intro g w hR; simp only [List.set_cons_succ, List.set_cons_zero])
    | ((with_reducible apply wpList_put hR tSetL); exact rfl; exact rfl; exact rfl; (focus (repeat (first | apply List.Mem.head | apply List.Mem.tail | apply List.mem_append_right))); exact putList_all (hsz0.trans hsz.symm); exact hsz; omega; exact h1; (focus (repeat (first | apply Upd.head | apply Upd.tail))); clear hR; intro w hR)
    | (go_at_call 26; refine (HTR.out _ _ _ _ (hR.get (.head _))).mono ?_; rintro e w' ⟨rfl, rfl⟩))
    go_ret
    exact ⟨rfl, hR.below⟩
end Go.Proofs.YtjecckmcjcikdaaDoor
