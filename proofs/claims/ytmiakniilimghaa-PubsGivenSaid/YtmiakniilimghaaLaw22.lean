








/- 'awake' of hansomlaw22, over the contracts of package pubs. No statement of the seat is proved here. -/
import Derived.Test.YtmiakniilimghaaPub
import Derived.Deep.DeepCutAuto
import Derived.Deep.CutBlock
namespace Go.Proofs.Ytmiakniilimghaa
open Go.ChangeShapes Go.WideShapes Go.ChangeAt Go.RowKit
set_option linter.unusedVariables false
set_option linter.unusedSimpArgs false

def pA : PubZ := ⟨1, 2, 0, [65], 7⟩
theorem ok65 : bytesOk [65] := .cons (by decide) .nil
theorem pA_ok : pA.ok := ⟨by decide, by decide, by decide, ok65, by decide⟩
theorem bPA : Built Try.prog 25 [(0, .int .i64 1), (1, .int .i64 2), (3, .string ⟨#[65]⟩), (4, .int .u16 7)] (encPub pA) := ⟨by kernel_rfl⟩
theorem givA : givR (pubsB [pA]) = ([pA], 0) := giv_back (by decide) (by decide) (by decide) (.inr rfl) (fun p hp => by rw [List.mem_singleton.1 hp]; exact ⟨rfl, rfl, rfl, by decide, by decide⟩)
theorem lit65 : (⟨#[65]⟩ : ByteArray) = strOfNums [65] := rfl
theorem ok_one {p q : PubZ} (h : p.ok) (hq : q ∈ [p]) : q.ok := by rw [List.mem_singleton.1 hq]; exact h
set_option maxHeartbeats 1000000 in
theorem awake22_any (w0 : World) :
    Calls Try.prog 8 #[] w0 fun e w' => e = .returned (.bool true) ∧ Below w0.heap.size w0 w' := by
  have hR := Own.start w0
  go_enter Try.func8, Try.ntmps8
  go_wp2_with (first
    | ((with_reducible apply wpList_built); exact rfl; exact rfl; exact bPA; (simp only [List.set_cons_succ, List.set_cons_zero]; exact rfl))
    | ((with_reducible apply wpList_buildS hR); exact rfl; exact rfl; (exact bPubs1 _); clear hR; intro gb w hR; simp only [List.set_cons_succ, List.set_cons_zero]; (have hP : RowsAt 5 cellsPub _ _ [pA] := rd_one (z := pA) cellsPub_len cellsPub_one hR (.head _))))
  refine (pubPublics_any _ [pA] hP (fun q hq => ok_one pA_ok hq) (fun q hq => by rw [List.mem_singleton.1 hq]; decide) (by decide) (fun q hq => by rw [List.mem_singleton.1 hq]; decide)).mono ?_
  rintro e w1 h1
  obtain ⟨v1, rfl, hb, hV⟩ := h1.now
  clear h1 hP
  replace hR := hR.grow hb
  have hZ2 := (Since.start w0).own hR
  clear hR hb
  try clear hZ
  have hZ := hZ2
  clear hZ2
  have hR := Own.start w1
  go_wp2_with (first
    | ((with_reducible apply q_ls hR); exact rfl; (with_reducible apply t_fieldV (fvRec _ _)); (apply EvC.now; exact rfl); (simp only [List.set_cons_succ, List.set_cons_zero]; exact rfl); clear hR; intro w hR))
  refine (pubGiven_any (hV.own hR) (by decide) (by decide)).mono ?_
  rw [givA]
  rintro e w2 h2
  obtain ⟨v2, rfl, hb, hG⟩ := h2.now
  clear h2
  replace hR := hR.grow hb
  have hZ2 := (hZ).own hR
  clear hR hb
  try clear hZ
  have hZ := hZ2
  clear hZ2
  have hR := Own.start w2
  obtain ⟨a, cap, rfl, hc⟩ := hG.el cellsPub_len (i := 0) (z := pA) rfl
  have H1 := Lib.hid (show w2.cell? ((a.add ((0 : Int).toNat * 5)).add 1) = some (.int .i64 2) from hc 1 _ rfl)
  have H3 := Lib.hid (show w2.cell? ((a.add ((0 : Int).toNat * 5)).add 3) = some (.string (strOfNums [65])) from hc 3 _ rfl)
  have H4 := Lib.hid (show w2.cell? ((a.add ((0 : Int).toNat * 5)).add 4) = some (.int .u16 7) from hc 4 _ rfl)
  clear hc
  go_wp2_with (first
    | ((with_reducible apply q_ls hR); exact rfl; (with_reducible apply t_lenRd Try.underlying22); (apply EvC.now; exact rfl); exact hG; (simp only [List.set_cons_succ, List.set_cons_zero]; exact rfl); clear hR; intro w hR)
    | ((with_reducible apply q_ls hR); exact rfl; (with_reducible apply t_six Try.underlying22 iPub); (apply EvC.now; exact rfl); (apply EvC.now; exact rfl); (constructor <;> simp); (simp only [List.set_cons_succ, List.set_cons_zero]; exact rfl); clear hR; intro w hR)
    | ((with_reducible apply q_ls hR); exact rfl; (with_reducible apply t_fieldA (fPubA _ (by decide))); (apply EvC.now; exact rfl); (simp only [List.set_cons_succ, List.set_cons_zero]; exact rfl); clear hR; intro w hR)
    | ((with_reducible apply q_ls hR); exact rfl; (with_reducible first | apply t_oldOne tIntR | apply t_oldOne tWordP | apply t_oldOne tStrO); (apply EvC.now; exact rfl); (with_reducible first | exact H1.out | exact H3.out | exact H4.out); exact rfl; (simp only [List.set_cons_succ, List.set_cons_zero]; exact rfl); clear hR; intro w hR)
    | ((with_reducible apply q_ls hR); exact rfl; (with_reducible apply t_eqN ok65 ok65); (apply EvC.now; exact rfl); exact lit_now lit65; (simp only [List.set_cons_succ, List.set_cons_zero]; exact rfl); clear hR; intro w hR))
  go_ret
  exact ⟨by simp, (hZ.own hR).below⟩
end Go.Proofs.Ytmiakniilimghaa
