








/- Pieces as values: their type, how they are built and put; strings.Clone. No statement of the seat is proved here. -/
import Derived.Test.YtjecckmcjcikdaaDoorLexM
import Derived.Test.YtjecckmcjcikdaaDoorMark
import Derived.Test.YtjecckmcjcikdaaDoorAppG
import Derived.Test.YtjecckmcjcikdaaDoorStrs
import Derived.Lib.BufferWrite
import Derived.Lib.UnsafeStr
import Derived.Laws.MakeOwn
import Derived.Laws.Runes
import Derived.WalkKit
namespace Go.Proofs.YtjecckmcjcikdaaDoor
open Go.ChangeShapes Go.WideShapes Go.ChangeAt Go.RowKit
set_option linter.unusedVariables false
set_option linter.unusedSimpArgs false

def encTok (t : TokZ) : Array Value := #[.int .i64 t.k, .string (strOfNums t.s), .int .u64 (t.n : Int), .int .u64 (t.d : Int)]
def cellsTok (t : TokZ) : List Value := (encTok t).toList
theorem iTok : (Tryd.prog.info? 30).map (·.size) = some 4 := by kernel_rfl
theorem tTok : RowTy Tryd.prog 30 4 := .of Tryd.underlying30 rfl iTok
theorem zTok : ZeroTy Tryd.prog 30 (encTok noTok) := .of (by kernel_rfl)
theorem one_tok (t : TokZ) : (encTok t).all (·.oneCell') = true := by simp [encTok, Value.oneCell']
theorem cellsTok_len (t : TokZ) : (cellsTok t).length = 4 := rfl
theorem cellsTok_one (t : TokZ) : (cellsTok t).all (·.oneCell') = true := by simp [cellsTok, encTok, Value.oneCell']
theorem bTok0 : Built Tryd.prog 30 [] (encTok noTok) := ⟨by kernel_rfl⟩
theorem bTokS (k : Int) (s : List Int) : Built Tryd.prog 30 [(0, .int .i64 k), (1, .string (strOfNums s))] (encTok ⟨k, s, 0, 0⟩) := ⟨by kernel_rfl⟩
theorem bTokN (k : Int) (n : Nat) : Built Tryd.prog 30 [(0, .int .i64 k), (2, .int .u64 (n : Int))] (encTok ⟨k, [], n, 0⟩) := ⟨by kernel_rfl⟩
theorem bTokD (k : Int) (n d : Nat) : Built Tryd.prog 30 [(0, .int .i64 k), (2, .int .u64 (n : Int)), (3, .int .u64 (d : Int))] (encTok ⟨k, [], n, d⟩) := ⟨by kernel_rfl⟩
theorem tToksB : SliceB Tryd.prog 31 30 4 40 := .of (z := .agg (encTok noTok)) Tryd.underlying31 (by kernel_rfl) rfl (by decide)
theorem bToks1 (t : TokZ) : BuiltS Tryd.prog 31 1 [(0, .agg (encTok t))] 30 (encTok t) := ⟨fun w => by simp [go_sem, encTok]⟩
theorem encode_ascii {c : Int} (h : 0 ≤ c ∧ c ≤ 127) : Utf8.encode c = strOfNums [c] := by
  have hv : Utf8.valid c = true := by unfold Utf8.valid; simp; omega
  have h1 : c.toNat < 128 := by omega
  unfold Utf8.encode
  simp [hv, h1, strOfNums]
theorem t_letter {P : Program} {C : World → Prop} {tp : TypeId} {pos : String} {af : Array Edge} {gd : Option (Nat × Bool)} {ls : List Value} {ds : List Deferred} {c : Bool} {dd : Option Tmp} {src dst : TypeId} {x : Operand} {q : IntKind} {r : Int} (hs : (P.underlying src).isSome = true) (hd : P.underlying dst = some .string) (hx : EvC ls c x (.int q r)) (hr : 0 ≤ r ∧ r ≤ 127) :
    TIf P C c ⟨dd, .convert src dst x, tp, pos, af, gd⟩ ⟨ls.toArray, ds⟩ (.string (strOfNums [r])) := by
  refine ⟨fun e => .inl fun w _ => ?_⟩
  rw [← encode_ascii hr]
  unfold execOp
  simp only [eval_of (hx.of e), Sem.run_bind, run_convert_int_string w src dst q r hs hd, Result.andThen_ok, Sem.run_pure]
/-! ### A copy of a text -/
theorem iByteU : (Tryd.prog.info? 5).map (fun i => (i.zero, i.size, i.bytes)) = some (some (Value.int .u8 0), 1, 1) := by kernel_rfl
set_option maxHeartbeats 4000000 in
set_option maxRecDepth 100000 in
theorem cloneLite_any (s : ByteArray) (hlim : s.size ≤ 1000000) (w : World) :
    Calls Tryd.prog 45 #[.string s] w fun e w' => e = .returned (.string s) ∧ Below w.heap.size w w' := by
  by_cases h0 : s.size = 0
  · obtain rfl : s = ⟨#[]⟩ := ByteArray.ext (Array.eq_empty_of_size_eq_zero h0)
    go_enter Tryd.func45, Tryd.ntmps45
    go_wp2
    go_ret
    exact ⟨rfl, Below.refl _ _⟩
  · obtain ⟨i0, hi, hz0, hz1, hz2⟩ := info_parts iByteU
    have hone : (Tryd.prog.info? 5).map (·.size) = some 1 := by kernel_rfl
    have hcells : Tryd.prog.cellsOf 5 = 1 := by kernel_rfl
    have hsl : s.data.toList.length = s.size := (Lib.size_eq s).symm
    obtain ⟨M, hM⟩ : ∃ M, M = madeCells (Value.int .u8 0).cells (((s.size : Nat) : Int).toNat * i0.size) := ⟨_, rfl⟩
    have hMs : M.size = s.size := by rw [hM, size_madeCells, hz1]; simp
    have hmake : (Instr.makeSlice 70 (.int .i64 (s.size : Int)) (.int .i64 (s.size : Int))).run Tryd.prog w = .ok (.slice (some ⟨w.heap.size, 0, none⟩) s.size s.size) (w.alloc (.cells M 5)) := by
      have h := run_make (P := Tryd.prog) w 70 5 i0 (.int .u8 0) Tryd.underlying70 hi hz0 .i64 .i64 (s.size : Int) (s.size : Int) (by omega) (by omega) (by rw [hz2]; omega) (by omega)
      rw [← hM] at h
      simpa using h
    clear hM
    have hcopy := Lib.run_copy_row_string (P := Tryd.prog) (w.alloc (.cells M 5)) 70 9 3 5 w.heap.size 0 s.size s.size s M 5 Tryd.underlying70 hone (heap_alloc_new w _) (Nat.le_refl _) (by omega)
    generalize hY : (M.toList.take 0 ++ Lib.byteCells s.data.toList ++ M.toList.drop (0 + s.size)).toArray = Y at hcopy
    have hYl : Y.toList = Lib.byteCells s.data.toList := by
      rw [← hY, List.take_zero, List.nil_append, List.drop_of_length_le (by rw [Array.length_toList]; omega), List.append_nil]
    have hYs : Y.size = s.size := by rw [← Array.length_toList, hYl, Lib.byteCells_length, hsl]
    have hrow : ((w.alloc (.cells M 5)).setRow w.heap.size Y).heap[w.heap.size]? = some (.cells Y 5 (0, 0)) := setRow_heap _ _ M _ 5 (0, 0) (heap_alloc_new w _)
    have hstr := Lib.run_unsafeString_row (P := Tryd.prog) ((w.alloc (.cells M 5)).setRow w.heap.size Y) 83 3 9 5 Tryd.underlying83 hcells w.heap.size Y.size (by unfold World.shape?; rw [hrow]) s.data.toList (fun e => h0 (by rw [← hsl, e]; rfl)) (by omega) (by omega)
      (fun j x hx => Lib.cells_of_row hrow Y.size j _ (by rw [List.take_of_length_le (by rw [Array.length_toList]; exact Nat.le_refl _), hYl]; simp [Lib.byteCells, hx]))
    rw [hsl] at hstr
    clear hY
    go_enter Tryd.func45, Tryd.ntmps45
    go_wp2
    go_ret
    have hb1 : Below w.heap.size w (w.alloc (.cells M 5)) := (Below.refl _ w).alloc (Nat.le_refl _) _
    have hb2 : Below w.heap.size (w.alloc (.cells M 5)) ((w.alloc (.cells M 5)).setRow w.heap.size Y) := ⟨rfl, rfl, rfl, by simp, fun k hk => setRow_other _ _ _ _ (Nat.ne_of_lt hk)⟩
    exact ⟨rfl, Lib.below_freeze (hb1.trans hb2) (p := ⟨w.heap.size, 0, none⟩) (Nat.le_refl _) _⟩
theorem clone_any (s : ByteArray) (hl : s.size ≤ 1000000) (w0 : World) :
    Calls Tryd.prog 39 #[.string s] w0 fun e w' => e = .returned (.string s) ∧ Below w0.heap.size w0 w' := by
  have hR := Own.start w0
  go_enter Tryd.func39, Tryd.ntmps39
  go_wp2_with (first
    | (go_at_call 45; refine (cloneLite_any _ hl _).mono ?_; rintro e w' ⟨rfl, hb⟩; replace hR := hR.grow hb; clear hb))
  go_ret
  exact ⟨rfl, hR.below⟩
end Go.Proofs.YtjecckmcjcikdaaDoor
