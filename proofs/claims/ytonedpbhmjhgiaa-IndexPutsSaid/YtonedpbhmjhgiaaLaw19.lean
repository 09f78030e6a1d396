






/- 'awake' of hansomlaw19, over the contracts of package index; numbers of 32 bits that lie somewhere. No statement of the seat is proved here. -/
import Derived.Test.YtonedpbhmjhgiaaIdx
import Derived.Test.YtonedpbhmjhgiaaStr
import Derived.Test.YtonedpbhmjhgiaaU32s
import Derived.Deep.DeepCutAuto
import Derived.Deep.CutBlock
namespace Go.Proofs.Ytonedpbhmjhgiaa
open Go.ChangeShapes Go.WideShapes Go.ChangeAt Go.RowKit
set_option linter.unusedVariables false
set_option linter.unusedSimpArgs false

theorem tU32 : OneTy Try.prog 22 := .of Try.underlying22 rfl (by kernel_rfl)
theorem iU32 : (Try.prog.info? 22).map (·.size) = some 1 := by kernel_rfl
/-- An element of them. -/
theorem Rd.u32 {w : World} {v : Value} {l : List Nat} {k z : Nat} (h : Rd w 1 v l.length (l.flatMap cellU)) (hk : l[k]? = some z) : ∃ a cap, v = .slice (some a) l.length cap ∧ w.cell? (a.add k) = some (.int .u32 z) := by
  rcases h.way with ⟨_, h0, _⟩ | ⟨a, cap, rfl, h1, h2⟩
  · rw [List.eq_nil_of_length_eq_zero h0] at hk; exact nomatch hk
  · refine ⟨a, cap, rfl, h2 k _ ?_⟩
    have : ∀ (l : List Nat) (k : Nat), l[k]? = some z → (l.flatMap cellU)[k]? = some (.int .u32 z) := by
      intro l
      induction l with
      | nil => intro k hk; exact nomatch hk
      | cons x l ih =>
        intro k hk
        match k, hk with
        | 0, hk => rw [Option.some.inj hk]; rfl
        | k + 1, hk => exact ih k hk
    exact this l k hk
/-- Rows of the call's own, as bytes that lie somewhere. -/
theorem RowsB.src {w w' : World} {e : Ending} {bs : List Int} (h : RowsB w w' e bs) (hb : bytesOk bs) : ∃ v, e = .returned v ∧ Below w.heap.size w w' ∧ SrcW w' v bs := by
  obtain ⟨s, v, rfl, hO, hS⟩ := h
  exact ⟨v, rfl, hO.below, hS.src hO (fun r hr => hr) hb⟩
theorem cmp_nself19 (a : Int) : cmpB .neq a a = some false := congrArg some (by simp)
theorem cmp_self19 (a : Int) : cmpB .eql a a = some true := congrArg some (by simp)
theorem bB5 (a b c d e : Int) : BuiltS Try.prog 24 5 [(0, .int .u8 a), (1, .int .u8 b), (2, .int .u8 c), (3, .int .u8 d), (4, .int .u8 e)] 5 #[.int .u8 a, .int .u8 b, .int .u8 c, .int .u8 d, .int .u8 e] := ⟨fun w => by simp [go_sem]⟩
theorem ok5 : bytesOk [129, 44, 2, 65, 66] := .cons (by decide) (.cons (by decide) (.cons (by decide) (.cons (by decide) (.cons (by decide) .nil))))
theorem ok3 : bytesOk [2, 65, 66] := .cons (by decide) (.cons (by decide) (.cons (by decide) .nil))
theorem ok6566 : bytesOk [65, 66] := .cons (by decide) (.cons (by decide) .nil)
theorem ok300 : bytesOk (idxN 300) := idxN_ok _
theorem idx300 : idxN 300 = [129, 44] := by decide
theorem ok12944 : bytesOk [129, 44] := .cons (by decide) (.cons (by decide) .nil)
theorem lit300 : (⟨#[129, 44]⟩ : ByteArray) = strOfNums [129, 44] := rfl
theorem lit6566 : (⟨#[65, 66]⟩ : ByteArray) = strOfNums [65, 66] := rfl
theorem ixAwake : indexZ ⟨[129, 44, 2, 65, 66], 0⟩ = (300, ⟨[2, 65, 66], 0⟩) := by
  have := index_back (n := 300) (by decide) [2, 65, 66] 0
  rwa [idx300] at this
theorem nmAwake : nameZ ⟨[2, 65, 66], 0⟩ = ([65, 66], ⟨[], 0⟩) := by
  have := name_back (ts := [65, 66]) (by decide) [] 0
  rwa [show nam18 [65, 66] ++ [] = [2, 65, 66] by rfl] at this
theorem okZ {bs : List Int} (h : bytesOk bs) : SrcZ.ok ⟨bs, 0⟩ := ⟨h, fun h => absurd rfl h⟩
set_option maxHeartbeats 1000000 in
theorem awake19_any (w0 : World) :
    Calls Try.prog 6 #[] w0 fun e w' => e = .returned (.bool true) ∧ Below w0.heap.size w0 w' := by
  have hR := Own.start w0
  go_enter Try.func6, Try.ntmps6
  go_wp2_with (first
    | ((with_reducible apply wpList_buildS hR); exact rfl; exact rfl; (exact bB5 _ _ _ _ _); clear hR; intro gb w hR; simp only [List.set_cons_succ, List.set_cons_zero]; (have hS := src_row hR (.head _) rfl ok5 (by decide))))
  have hZ2 := (Since.start w0).own hR
  have hR2 := hR.fresh
  clear hR
  try clear hZ
  have hZ := hZ2
  have hR := hR2
  clear hZ2 hR2
  refine (fromX_any hS (by decide)).mono ?_
  rintro e w1 ⟨g, cs, sr, rfl, hR1, hO⟩
  clear hR hS
  have hR := hR1
  clear hR1
  go_wp2_with fail
  refine (indexX_any hR .head (fun _ h => h) hO (okZ ok5) (by decide)).mono ?_
  rw [ixAwake]
  rintro e w2 ⟨rfl, cs1, hR1, hO1⟩
  clear hR hO
  have hR := hR1
  clear hR1
  go_wp2_with fail
  refine (nameX_any hR .head (fun _ h => h) hO1 (okZ ok3) (by decide)).mono ?_
  rw [nmAwake]
  rintro e w3 ⟨rfl, cs2, hR1, hO2⟩
  clear hR hO1
  have hR := hR1
  clear hR1
  go_wp2_with (first
    | (go_at_call 7; refine (putX_any 300 _ (by decide) (by decide)).mono ?_; rw [idx300]; rintro e w4 ⟨sp, vp, rfl, hOp, hSp⟩; replace hR := hR.join hOp; clear hOp)
    | (go_at_call 22; refine (endX_any hR .head (fun _ h => h) hO2 (okZ .nil) (by decide)).mono ?_; rw [show endZ ⟨[], 0⟩ = ⟨[], 0⟩ from if_pos rfl]; rintro e w' ⟨rfl, cs3, hR3, hO3⟩; clear hR hO2; have hR := hR3; clear hR3)
    | ((with_reducible apply q_ls hR); exact rfl; (with_reducible apply t_eqN ok12944 ok12944); (apply EvC.now; exact rfl); exact lit_now lit300; (simp only [List.set_cons_succ, List.set_cons_zero]; exact rfl); clear hR; intro w hR)
    | ((with_reducible apply q_ls hR); exact rfl; (with_reducible apply t_eqN ok6566 ok6566); (apply EvC.now; exact rfl); exact lit_now lit6566; (simp only [List.set_cons_succ, List.set_cons_zero]; exact rfl); clear hR; intro w hR)
    | ((with_reducible apply q_ls hR); exact rfl; (with_reducible apply t_strW tTextN); (apply EvC.now; exact rfl); (exact fun w hC => hSp.src hC (fun r h => List.mem_append_left _ h) ok12944); (simp only [List.set_cons_succ, List.set_cons_zero]; exact rfl); clear hR hSp; intro w hR; replace hR := hR.right)
    | ((with_reducible apply q_ls hR); exact rfl; ((with_reducible first | apply t_addr (fRec _ (by decide)) | apply t_one tByteR | apply t_one tSlR | apply t_one tIntR) <;> (first | (apply EvC.gv; exact rfl; (with_reducible first | exact Imp.refl _ | (apply Imp.left; exact Imp.refl _) | (apply Imp.right; exact Imp.refl _) | (apply Imp.left; apply Imp.left; exact Imp.refl _))) | (apply EvC.now; exact rfl) | exact rfl | (with_reducible exact EvAll.nil) | (focus (repeat (first | apply EvAll.cons | exact EvAll.nil | (apply EvC.gv; exact rfl; (with_reducible first | exact Imp.refl _ | (apply Imp.left; exact Imp.refl _) | (apply Imp.right; exact Imp.refl _) | (apply Imp.left; apply Imp.left; exact Imp.refl _))) | (apply EvC.now; exact rfl))); done) | exact rfl | (focus (repeat (first | apply List.Mem.head | apply List.Mem.tail | apply List.mem_append_right))))); (simp only [List.set_cons_succ, List.set_cons_zero]; exact rfl); clear hR; intro w hR))
  go_ret
  exact ⟨by simp, (hZ.own hR).below⟩
end Go.Proofs.Ytonedpbhmjhgiaa
