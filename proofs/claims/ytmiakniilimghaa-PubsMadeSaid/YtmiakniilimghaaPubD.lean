









/- Package pubs: what is read, one by one. No statement of the seat is proved here. -/
import Derived.Test.YtmiakniilimghaaEat
import Derived.Test.YtmiakniilimghaaFnV
import Derived.Test.YtmiakniilimghaaPubT
import Derived.Test.YtmiakniilimghaaSrcG
import Derived.Test.YtmiakniilimghaaNum
namespace Go.Proofs.Ytmiakniilimghaa
open Go.ChangeShapes Go.WideShapes Go.ChangeAt Go.RowKit
set_option linter.unusedVariables false
set_option linter.unusedSimpArgs false

section
variable {w0 w : World} {l X sr : List RowT} {g : Nat} {cs : Array Value} {z : SrcZ}
theorem nameQ_any (hO : Own w0 w l) (hd : Les [(g, cs, 76)] l X) (hY : ∀ r ∈ sr, r ∈ X) (hS : SrcObj w0 sr cs z) (hok : z.ok) (hl : z.b.length ≤ 1000000) :
    Calls Try.prog 34 #[.pointer (some ⟨g, 0, none⟩)] w fun e w' => e = .returned (.string (strOfNums (nameZ z).1)) ∧ ThenS w0 g X sr (indexZ (nameZ z).2).2 w' := by
  have hR := hO
  clear hO
  have hok2 := (name_goes z).ok hok
  have hl2 : (nameZ z).2.b.length ≤ 1000000 := Nat.le_trans (name_goes z).len hl
  obtain ⟨⟨ns, z1⟩, h1⟩ : ∃ p, nameZ z = p := ⟨_, rfl⟩
  rw [h1] at hok2 hl2 ⊢
  dsimp only at hok2 hl2 ⊢
  obtain ⟨⟨i, z2⟩, h2⟩ : ∃ p, indexZ z1 = p := ⟨_, rfl⟩
  rw [h2]
  have HN := Lib.hid h1
  have HI := Lib.hid h2
  clear h1 h2
  go_enter Try.func34, Try.ntmps34
  go_wp2_with (first
    | (go_at_call 30; refine (nameX_any hR hd hY hS (hok) (hl)).mono ?_; rw [HN.out]; rintro e w' ⟨rfl, cs2, hR2, hS2⟩; clear hR hS hd; have hR := hR2; have hS := hS2; have hd : Les [(g, cs2, 76)] ((g, cs2, 76) :: X) X := Les.one; clear hR2 hS2)
    | (go_at_call 25; refine (indexX_any hR hd hY hS hok2 hl2).mono ?_; rw [HI.out]; rintro e w' ⟨rfl, cs3, hR3, hS3⟩))
  go_ret
  exact ⟨rfl, cs3, hR3, hS3⟩
theorem lengthQ_any (hO : Own w0 w l) (hd : Les [(g, cs, 76)] l X) (hY : ∀ r ∈ sr, r ∈ X) (hS : SrcObj w0 sr cs z) (hok : z.ok) (hl : z.b.length ≤ 1000000) (c : Int) :
    Calls Try.prog 38 #[.pointer (some ⟨g, 0, none⟩), .int .i64 c] w fun e w' => e = .returned (.int .u32 ((madL c z).1 % 4294967296)) ∧ ThenS w0 g X sr (madG (madL c z)) w' := by
  have hR := hO
  clear hO
  by_cases h98 : c = 98
  · subst h98
    have hok1 := (long_goes z).ok hok
    have hbd := long_range hok
    rw [show madL 98 z = longZ z from if_pos rfl]
    obtain ⟨⟨n, z1⟩, h1⟩ : ∃ p, longZ z = p := ⟨_, rfl⟩
    rw [h1] at hok1 hbd ⊢
    dsimp only at hok1 hbd ⊢
    have HL := Lib.hid h1
    have HU := Lib.hid (show IntKind.u64.wrap n = n by rw [IntKind.wrap_u64]; omega)
    have HM := Lib.hid (show IntKind.u64.wrap (1 * n) = n by rw [Int.one_mul, IntKind.wrap_u64]; omega)
    clear h1 hbd
    go_enter Try.func38, Try.ntmps38
    have HW := Lib.hid (show IntKind.u32.wrap n = n % 4294967296 from IntKind.wrap_u32 n)
    by_cases hbig : 1048576 < n
    · have HG := Lib.hid (show cmpB .gtr n 1048576 = some true by simp [cmpB]; omega)
      have HV := Lib.hid (show madG (n, z1) = wrongZ z1 8 from if_pos hbig)
      clear hbig
      go_wp2_with (first
        | (go_at_call 48; refine (longX_any hR hd hY hS (hok) (hl)).mono ?_; rw [HL.out]; rintro e w' ⟨rfl, cs2, hR2, hS2⟩; clear hR hS hd; have hR := hR2; have hS := hS2; have hd : Les [(g, cs2, 76)] ((g, cs2, 76) :: X) X := Les.one; clear hR2 hS2)
        | ((with_reducible apply q_ls hR); exact rfl; (with_reducible apply t_conv Try.underlying42 Try.underlying57); (apply EvC.now; exact rfl); exact HU.out; (simp only [List.set_cons_succ, List.set_cons_zero]; exact rfl); clear hR; intro w hR)
        | ((with_reducible apply q_ls hR); exact rfl; (with_reducible apply t_cmp); (apply EvC.now; exact rfl); (apply EvC.now; exact rfl); (first | exact HG.out); (simp only [List.set_cons_succ, List.set_cons_zero]; exact rfl); clear hR; intro w hR)
        | ((with_reducible apply q_ls hR); exact rfl; (with_reducible apply t_numE (op := .mul)); (apply EvC.now; exact rfl); (apply EvC.now; exact rfl); exact rfl; exact HM.out; (simp only [List.set_cons_succ, List.set_cons_zero]; exact rfl); clear hR; intro w hR)
        | ((with_reducible apply q_ls hR); exact rfl; (with_reducible apply t_conv Try.underlying57 Try.underlying42); (apply EvC.now; exact rfl); exact HW.out; (simp only [List.set_cons_succ, List.set_cons_zero]; exact rfl); clear hR; intro w hR)
        | (go_at_call 49; refine (wrongX_any hR hd hY hS hok1 8 (by decide) (by decide) (by decide)).mono ?_; rintro e w' ⟨rfl, cs3, hR3, hS3⟩)
        | ((with_reducible apply q_ls hR); exact rfl; ((with_reducible first | apply t_addr (fRec _ (by decide)) | apply t_addr (fPub _ (by decide)) | apply t_addr (fExt _ (by decide)) | apply t_one tByteR | apply t_one tSlR | apply t_one tIntR | apply t_one tWordP | apply t_one tNumX | apply t_one tStrO | apply t_part tPub | apply t_part tExt) <;> (first | (apply EvC.gv; exact rfl; (with_reducible first | exact Imp.refl _ | (apply Imp.left; exact Imp.refl _) | (apply Imp.right; exact Imp.refl _) | (apply Imp.left; apply Imp.left; exact Imp.refl _))) | (apply EvC.now; exact rfl) | exact rfl | (with_reducible exact EvAll.nil) | (focus (repeat (first | apply EvAll.cons | exact EvAll.nil | (apply EvC.gv; exact rfl; (with_reducible first | exact Imp.refl _ | (apply Imp.left; exact Imp.refl _) | (apply Imp.right; exact Imp.refl _) | (apply Imp.left; apply Imp.left; exact Imp.refl _))) | (apply EvC.now; exact rfl))); done) | (first | exact ext_pub _ | exact ext_ext _) | (focus (repeat (first | apply List.Mem.head | apply List.Mem.tail | apply List.mem_append_right))))); (simp only [List.set_cons_succ, List.set_cons_zero]; exact rfl); clear hR; intro w hR))
      go_ret
      exact ⟨rfl, cs3, hR3, by rw [HV.out]; exact hS3⟩
    · have HG := Lib.hid (show cmpB .gtr n 1048576 = some false by simp [cmpB]; omega)
      have HV := Lib.hid (show madG (n, z1) = z1 from if_neg hbig)
      clear hbig
      go_wp2_with (first
        | (go_at_call 48; refine (longX_any hR hd hY hS (hok) (hl)).mono ?_; rw [HL.out]; rintro e w' ⟨rfl, cs2, hR2, hS2⟩; clear hR hS hd; have hR := hR2; have hS := hS2; have hd : Les [(g, cs2, 76)] ((g, cs2, 76) :: X) X := Les.one; clear hR2 hS2)
        | ((with_reducible apply q_ls hR); exact rfl; (with_reducible apply t_conv Try.underlying42 Try.underlying57); (apply EvC.now; exact rfl); exact HU.out; (simp only [List.set_cons_succ, List.set_cons_zero]; exact rfl); clear hR; intro w hR)
        | ((with_reducible apply q_ls hR); exact rfl; (with_reducible apply t_cmp); (apply EvC.now; exact rfl); (apply EvC.now; exact rfl); (first | exact HG.out); (simp only [List.set_cons_succ, List.set_cons_zero]; exact rfl); clear hR; intro w hR)
        | ((with_reducible apply q_ls hR); exact rfl; (with_reducible apply t_numE (op := .mul)); (apply EvC.now; exact rfl); (apply EvC.now; exact rfl); exact rfl; exact HM.out; (simp only [List.set_cons_succ, List.set_cons_zero]; exact rfl); clear hR; intro w hR)
        | ((with_reducible apply q_ls hR); exact rfl; (with_reducible apply t_conv Try.underlying57 Try.underlying42); (apply EvC.now; exact rfl); exact HW.out; (simp only [List.set_cons_succ, List.set_cons_zero]; exact rfl); clear hR; intro w hR)
        | ((with_reducible apply q_ls hR); exact rfl; ((with_reducible first | apply t_addr (fRec _ (by decide)) | apply t_addr (fPub _ (by decide)) | apply t_addr (fExt _ (by decide)) | apply t_one tByteR | apply t_one tSlR | apply t_one tIntR | apply t_one tWordP | apply t_one tNumX | apply t_one tStrO | apply t_part tPub | apply t_part tExt) <;> (first | (apply EvC.gv; exact rfl; (with_reducible first | exact Imp.refl _ | (apply Imp.left; exact Imp.refl _) | (apply Imp.right; exact Imp.refl _) | (apply Imp.left; apply Imp.left; exact Imp.refl _))) | (apply EvC.now; exact rfl) | exact rfl | (with_reducible exact EvAll.nil) | (focus (repeat (first | apply EvAll.cons | exact EvAll.nil | (apply EvC.gv; exact rfl; (with_reducible first | exact Imp.refl _ | (apply Imp.left; exact Imp.refl _) | (apply Imp.right; exact Imp.refl _) | (apply Imp.left; apply Imp.left; exact Imp.refl _))) | (apply EvC.now; exact rfl))); done) | (first | exact ext_pub _ | exact ext_ext _) | (focus (repeat (first | apply List.Mem.head | apply List.Mem.tail | apply List.mem_append_right))))); (simp only [List.set_cons_succ, List.set_cons_zero]; exact rfl); clear hR; intro w hR))
      go_ret
      exact ⟨rfl, _, hR.les hd, by rw [HV.out]; exact hS⟩
  · by_cases h97 : c = 97
    · subst h97
      have hok2 := (long_goes z).ok hok
      have hl2 : (longZ z).2.b.length ≤ 1000000 := Nat.le_trans (long_goes z).len hl
      have hb1 := long_range hok
      have hb2 := long_range hok2
      have hok1 := (long_goes (longZ z).2).ok hok2
      rw [show madL 97 z = ((longZ z).1 * (longZ (longZ z).2).1, (longZ (longZ z).2).2) from by unfold madL; rw [if_neg (by decide), if_pos rfl]]
      obtain ⟨⟨a, z0⟩, h1⟩ : ∃ p, longZ z = p := ⟨_, rfl⟩
      rw [h1] at hok1 hok2 hl2 hb1 hb2 ⊢
      dsimp only at hok1 hok2 hl2 hb1 hb2 ⊢
      obtain ⟨⟨b, z1⟩, h2⟩ : ∃ p, longZ z0 = p := ⟨_, rfl⟩
      rw [h2] at hok1 hb2 ⊢
      dsimp only at hok1 hb2 ⊢
      obtain ⟨n, hn⟩ : ∃ n, a * b = n := ⟨_, rfl⟩
      have hn0 : 0 ≤ n := by rw [← hn]; exact Int.mul_nonneg hb1.1 hb2.1
      have hn1 : n ≤ 4294967295 * 4294967295 := by rw [← hn]; exact Int.mul_le_mul hb1.2 hb2.2 hb2.1 (by decide)
      have HL := Lib.hid h1
      have HL2 := Lib.hid h2
      have HU := Lib.hid (show IntKind.u64.wrap a = a by rw [IntKind.wrap_u64]; omega)
      have HU2 := Lib.hid (show IntKind.u64.wrap b = b by rw [IntKind.wrap_u64]; omega)
      have HM := Lib.hid (show IntKind.u64.wrap (a * b) = n by rw [hn, IntKind.wrap_u64]; omega)
      rw [hn]
      clear h1 h2 hb1 hb2 hn hn0 hn1 h98
      go_enter Try.func38, Try.ntmps38
      go_upto_region 7 with (first
    | (go_at_call 48; refine (longX_any hR hd hY hS (hok) (hl)).mono ?_; rw [HL.out]; rintro e w' ⟨rfl, cs2, hR2, hS2⟩; clear hR hS hd; have hR := hR2; have hS := hS2; have hd : Les [(g, cs2, 76)] ((g, cs2, 76) :: X) X := Les.one; clear hR2 hS2)
    | ((with_reducible apply q_ls hR); exact rfl; (with_reducible apply t_conv Try.underlying42 Try.underlying57); (apply EvC.now; exact rfl); exact HU.out; (simp only [List.set_cons_succ, List.set_cons_zero]; exact rfl); clear hR; intro w hR)
    | ((with_reducible apply q_ls hR); exact rfl; ((with_reducible first | apply t_addr (fRec _ (by decide)) | apply t_addr (fPub _ (by decide)) | apply t_addr (fExt _ (by decide)) | apply t_one tByteR | apply t_one tSlR | apply t_one tIntR | apply t_one tWordP | apply t_one tNumX | apply t_one tStrO | apply t_part tPub | apply t_part tExt) <;> (first | (apply EvC.gv; exact rfl; (with_reducible first | exact Imp.refl _ | (apply Imp.left; exact Imp.refl _) | (apply Imp.right; exact Imp.refl _) | (apply Imp.left; apply Imp.left; exact Imp.refl _))) | (apply EvC.now; exact rfl) | exact rfl | (with_reducible exact EvAll.nil) | (focus (repeat (first | apply EvAll.cons | exact EvAll.nil | (apply EvC.gv; exact rfl; (with_reducible first | exact Imp.refl _ | (apply Imp.left; exact Imp.refl _) | (apply Imp.right; exact Imp.refl _) | (apply Imp.left; apply Imp.left; exact Imp.refl _))) | (apply EvC.now; exact rfl))); done) | (first | exact ext_pub _ | exact ext_ext _) | (focus (repeat (first | apply List.Mem.head | apply List.Mem.tail | apply List.mem_append_right))))); (simp only [List.set_cons_succ, List.set_cons_zero]; exact rfl); clear hR; intro w hR))
      have HW := Lib.hid (show IntKind.u32.wrap n = n % 4294967296 from IntKind.wrap_u32 n)
      by_cases hbig : 1048576 < n
      · have HG := Lib.hid (show cmpB .gtr n 1048576 = some true by simp [cmpB]; omega)
        have HV := Lib.hid (show madG (n, z1) = wrongZ z1 8 from if_pos hbig)
        clear hbig
        go_wp2_with (first
          | (go_at_call 48; refine (longX_any hR hd hY hS (hok2) (hl2)).mono ?_; rw [HL2.out]; rintro e w' ⟨rfl, cs2, hR2, hS2⟩; clear hR hS hd; have hR := hR2; have hS := hS2; have hd : Les [(g, cs2, 76)] ((g, cs2, 76) :: X) X := Les.one; clear hR2 hS2)
          | ((with_reducible apply q_ls hR); exact rfl; (with_reducible apply t_conv Try.underlying42 Try.underlying57); (apply EvC.now; exact rfl); exact HU2.out; (simp only [List.set_cons_succ, List.set_cons_zero]; exact rfl); clear hR; intro w hR)
          | ((with_reducible apply q_ls hR); exact rfl; (with_reducible apply t_cmp); (apply EvC.now; exact rfl); (apply EvC.now; exact rfl); (first | exact HG.out); (simp only [List.set_cons_succ, List.set_cons_zero]; exact rfl); clear hR; intro w hR)
          | ((with_reducible apply q_ls hR); exact rfl; (with_reducible apply t_numE (op := .mul)); (apply EvC.now; exact rfl); (apply EvC.now; exact rfl); exact rfl; exact HM.out; (simp only [List.set_cons_succ, List.set_cons_zero]; exact rfl); clear hR; intro w hR)
          | ((with_reducible apply q_ls hR); exact rfl; (with_reducible apply t_conv Try.underlying57 Try.underlying42); (apply EvC.now; exact rfl); exact HW.out; (simp only [List.set_cons_succ, List.set_cons_zero]; exact rfl); clear hR; intro w hR)
          | (go_at_call 49; refine (wrongX_any hR hd hY hS hok1 8 (by decide) (by decide) (by decide)).mono ?_; rintro e w' ⟨rfl, cs3, hR3, hS3⟩)
          | ((with_reducible apply q_ls hR); exact rfl; ((with_reducible first | apply t_addr (fRec _ (by decide)) | apply t_addr (fPub _ (by decide)) | apply t_addr (fExt _ (by decide)) | apply t_one tByteR | apply t_one tSlR | apply t_one tIntR | apply t_one tWordP | apply t_one tNumX | apply t_one tStrO | apply t_part tPub | apply t_part tExt) <;> (first | (apply EvC.gv; exact rfl; (with_reducible first | exact Imp.refl _ | (apply Imp.left; exact Imp.refl _) | (apply Imp.right; exact Imp.refl _) | (apply Imp.left; apply Imp.left; exact Imp.refl _))) | (apply EvC.now; exact rfl) | exact rfl | (with_reducible exact EvAll.nil) | (focus (repeat (first | apply EvAll.cons | exact EvAll.nil | (apply EvC.gv; exact rfl; (with_reducible first | exact Imp.refl _ | (apply Imp.left; exact Imp.refl _) | (apply Imp.right; exact Imp.refl _) | (apply Imp.left; apply Imp.left; exact Imp.refl _))) | (apply EvC.now; exact rfl))); done) | (first | exact ext_pub _ | exact ext_ext _) | (focus (repeat (first | apply List.Mem.head | apply List.Mem.tail | apply List.mem_append_right))))); (simp only [List.set_cons_succ, List.set_cons_zero]; exact rfl); clear hR; intro w hR))
        go_ret
        exact ⟨rfl, cs3, hR3, by rw [HV.out]; exact hS3⟩
      · have HG := Lib.hid (show cmpB .gtr n 1048576 = some false by simp [cmpB]; omega)
        have HV := Lib.hid (show madG (n, z1) = z1 from if_neg hbig)
        clear hbig
        go_wp2_with (first
          | (go_at_call 48; refine (longX_any hR hd hY hS (hok2) (hl2)).mono ?_; rw [HL2.out]; rintro e w' ⟨rfl, cs2, hR2, hS2⟩; clear hR hS hd; have hR := hR2; have hS := hS2; have hd : Les [(g, cs2, 76)] ((g, cs2, 76) :: X) X := Les.one; clear hR2 hS2)
          | ((with_reducible apply q_ls hR); exact rfl; (with_reducible apply t_conv Try.underlying42 Try.underlying57); (apply EvC.now; exact rfl); exact HU2.out; (simp only [List.set_cons_succ, List.set_cons_zero]; exact rfl); clear hR; intro w hR)
          | ((with_reducible apply q_ls hR); exact rfl; (with_reducible apply t_cmp); (apply EvC.now; exact rfl); (apply EvC.now; exact rfl); (first | exact HG.out); (simp only [List.set_cons_succ, List.set_cons_zero]; exact rfl); clear hR; intro w hR)
          | ((with_reducible apply q_ls hR); exact rfl; (with_reducible apply t_numE (op := .mul)); (apply EvC.now; exact rfl); (apply EvC.now; exact rfl); exact rfl; exact HM.out; (simp only [List.set_cons_succ, List.set_cons_zero]; exact rfl); clear hR; intro w hR)
          | ((with_reducible apply q_ls hR); exact rfl; (with_reducible apply t_conv Try.underlying57 Try.underlying42); (apply EvC.now; exact rfl); exact HW.out; (simp only [List.set_cons_succ, List.set_cons_zero]; exact rfl); clear hR; intro w hR)
          | ((with_reducible apply q_ls hR); exact rfl; ((with_reducible first | apply t_addr (fRec _ (by decide)) | apply t_addr (fPub _ (by decide)) | apply t_addr (fExt _ (by decide)) | apply t_one tByteR | apply t_one tSlR | apply t_one tIntR | apply t_one tWordP | apply t_one tNumX | apply t_one tStrO | apply t_part tPub | apply t_part tExt) <;> (first | (apply EvC.gv; exact rfl; (with_reducible first | exact Imp.refl _ | (apply Imp.left; exact Imp.refl _) | (apply Imp.right; exact Imp.refl _) | (apply Imp.left; apply Imp.left; exact Imp.refl _))) | (apply EvC.now; exact rfl) | exact rfl | (with_reducible exact EvAll.nil) | (focus (repeat (first | apply EvAll.cons | exact EvAll.nil | (apply EvC.gv; exact rfl; (with_reducible first | exact Imp.refl _ | (apply Imp.left; exact Imp.refl _) | (apply Imp.right; exact Imp.refl _) | (apply Imp.left; apply Imp.left; exact Imp.refl _))) | (apply EvC.now; exact rfl))); done) | (first | exact ext_pub _ | exact ext_ext _) | (focus (repeat (first | apply List.Mem.head | apply List.Mem.tail | apply List.mem_append_right))))); (simp only [List.set_cons_succ, List.set_cons_zero]; exact rfl); clear hR; intro w hR))
        go_ret
        exact ⟨rfl, _, hR.les hd, by rw [HV.out]; exact hS⟩
    · obtain ⟨x, hx, hw⟩ := wrong_is hok (x := 3) (by decide)
      have hokx : SrcZ.ok ⟨[], x⟩ := ⟨(fun _ h => nomatch h), fun _ => rfl⟩
      have hv : madL c z = (0, ⟨[], x⟩) := by unfold madL; rw [if_neg h98, if_neg h97, hw]
      have hg : madG (0, ⟨[], x⟩) = ⟨[], x⟩ := rfl
      rw [hv, hg]
      have H98 := Lib.hid (show cmpB .eql c 98 = some false by simp [cmpB, h98])
      have H97 := Lib.hid (show cmpB .eql c 97 = some false by simp [cmpB, h97])
      have HL := Lib.hid (long_wrong hx)
      have HW := Lib.hid hw
      clear hv hg h98 h97 hw
      go_enter Try.func38, Try.ntmps38
      go_wp2_with (first
    | ((with_reducible apply q_ls hR); exact rfl; (with_reducible apply t_cmp); (apply EvC.now; exact rfl); (apply EvC.now; exact rfl); (first | (first | exact H98.out | exact H97.out)); (simp only [List.set_cons_succ, List.set_cons_zero]; exact rfl); clear hR; intro w hR)
    | (go_at_call 49; refine (wrongX_any hR hd hY hS hok 3 (by decide) (by decide) (by decide)).mono ?_; rw [HW.out]; rintro e w' ⟨rfl, cs2, hR2, hS2⟩; clear hR hS hd; have hR := hR2; have hS := hS2; have hd : Les [(g, cs2, 76)] ((g, cs2, 76) :: X) X := Les.one; clear hR2 hS2)
    | (go_at_call 48; refine (longX_any hR hd hY hS (hokx) ((Nat.zero_le _))).mono ?_; rw [HL.out]; rintro e w' ⟨rfl, cs2, hR2, hS2⟩; clear hR hS hd; have hR := hR2; have hS := hS2; have hd : Les [(g, cs2, 76)] ((g, cs2, 76) :: X) X := Les.one; clear hR2 hS2)
    | ((with_reducible apply q_ls hR); exact rfl; ((with_reducible first | apply t_addr (fRec _ (by decide)) | apply t_addr (fPub _ (by decide)) | apply t_addr (fExt _ (by decide)) | apply t_one tByteR | apply t_one tSlR | apply t_one tIntR | apply t_one tWordP | apply t_one tNumX | apply t_one tStrO | apply t_part tPub | apply t_part tExt) <;> (first | (apply EvC.gv; exact rfl; (with_reducible first | exact Imp.refl _ | (apply Imp.left; exact Imp.refl _) | (apply Imp.right; exact Imp.refl _) | (apply Imp.left; apply Imp.left; exact Imp.refl _))) | (apply EvC.now; exact rfl) | exact rfl | (with_reducible exact EvAll.nil) | (focus (repeat (first | apply EvAll.cons | exact EvAll.nil | (apply EvC.gv; exact rfl; (with_reducible first | exact Imp.refl _ | (apply Imp.left; exact Imp.refl _) | (apply Imp.right; exact Imp.refl _) | (apply Imp.left; apply Imp.left; exact Imp.refl _))) | (apply EvC.now; exact rfl))); done) | (first | exact ext_pub _ | exact ext_ext _) | (focus (repeat (first | apply List.Mem.head | apply List.Mem.tail | apply List.mem_append_right))))); (simp only [List.set_cons_succ, List.set_cons_zero]; exact rfl); clear hR; intro w hR))
      go_ret
      exact ⟨rfl, _, hR, hS⟩
end
end Go.Proofs.Ytmiakniilimghaa
