









/- Package pubs: all that is left of a source, by a closure. No statement of the seat is proved here. -/
import Derived.Test.YtmiakniilimghaaPubF
import Derived.Deep.DeepCutAuto
import Derived.Deep.CutBlock
namespace Go.Proofs.Ytmiakniilimghaa
open Go.ChangeShapes Go.WideShapes Go.ChangeAt Go.RowKit
set_option linter.unusedVariables false
set_option linter.unusedSimpArgs false

def allZ {α : Type} (step : SrcZ → α × SrcZ) : Nat → SrcZ → List α × Int
  | 0, z => ([], z.e)
  | n + 1, z => if z.b = [] then ([], z.e) else ((step z).1 :: (allZ step n (step z).2).1, (allZ step n (step z).2).2)
def allQ {α : Type} (step : SrcZ → α × SrcZ) (z : SrcZ) : List α × Int := if (allZ step z.b.length z).2 = 0 then ((allZ step z.b.length z).1, 0) else ([], (allZ step z.b.length z).2)
theorem allZ_nil {α : Type} {step : SrcZ → α × SrcZ} (n : Nat) (e : Int) : allZ step n ⟨[], e⟩ = ([], e) := by cases n <;> rfl
theorem allZ_succ {α : Type} {step : SrcZ → α × SrcZ} {n : Nat} {z : SrcZ} (h : z.b ≠ []) : allZ step (n + 1) z = ((step z).1 :: (allZ step n (step z).2).1, (allZ step n (step z).2).2) := if_neg h
structure LessQ {α : Type} (step : SrcZ → α × SrcZ) : Prop where
  go : ∀ z, z.ok → z.b ≠ [] → (step z).2.ok ∧ (step z).2.b.length < z.b.length
set_option maxHeartbeats 1000000 in
theorem allP_any {w0 w : World} {l X sr K : List RowT} {g : Nat} {cs0 : Array Value} {z0 : SrcZ} {F : FuncId} {cp : Array Value} {step : SrcZ → PubZ × SrcZ} (hO : Own w0 w l) (hd0 : Les [(g, cs0, 76)] l X) (hY0 : ∀ r ∈ sr, r ∈ X) (hK0 : ∀ r ∈ K, r ∈ X) (hS0 : SrcObj w0 sr cs0 z0) (hok0 : z0.ok) (hl0 : z0.b.length ≤ 1000000)
    (hcf : ∀ (args : Array Value) w, (callFunc F args).run Try.prog w = .ok (.enter F args) w) (hN : NextQ w0 g sr K F cp (fun z => (.agg (encPub (step z).1), (step z).2))) (hst : LessQ step) :
    Calls Try.prog 28 #[.pointer (some ⟨g, 0, none⟩), .func (.func F) #[] cp] w fun e w' => RetR 5 cellsPub w0 w' (fun v => .tuple #[v, .int .i64 (allQ step z0).2]) e (allQ step z0).1 := by
  have hR : Own w0 w ((g, cs0, 76) :: X) := hO.les hd0
  clear hO hd0
  have HF := Lib.hid hcf
  have HQ := Lib.hid hN
  clear hcf hN
  go_enter Try.func28, Try.ntmps28
  go_wp2_with fail
  go_loopw [6] (fun lv wr => ∃ (n : Nat) (acc : List PubZ) (z : SrcZ) (cs : Array Value) (s : List RowT), allZ step z0.b.length z0 = (acc ++ (allZ step n z).1, (allZ step n z).2) ∧ z.b.length ≤ n ∧ z.ok ∧ acc.length + z.b.length ≤ z0.b.length ∧ Sl 25 5 s lv acc.length (acc.flatMap cellsPub) ∧ Own w0 wr (s ++ (g, cs, 76) :: X) ∧ SrcObj w0 sr cs z) (fun lv _ => z0.b.length - lenV lv)
  case atStart => exact ⟨z0.b.length, [], z0, cs0, [], rfl, Nat.le_refl _, hok0, by simp, Sl.nil _ _, hR, hS0⟩
  case round =>
    clear hR hS0
    obtain ⟨n, acc, z, cs, s, hz, hn, hzok, hacc, hL, hR, hS⟩ := hrel
    have hzl : z.b.length ≤ 1000000 := by omega
    have hal : acc.length ≤ 1000000 := by omega
    have hY : ∀ r ∈ sr, r ∈ s ++ X := fun r hr => List.mem_append_right _ (hY0 r hr)
    have hK : ∀ r ∈ K, r ∈ s ++ X := fun r hr => List.mem_append_right _ (hK0 r hr)
    have hd : Les [(g, cs, 76)] (s ++ (g, cs, 76) :: X) (s ++ X) := Les.skip _ Les.one
    by_cases hb : z.b = []
    · have HL := Lib.hid (show cmpB .gtr (z.b.length : Int) 0 = some false by simp [cmpB, hb])
      have hze : allZ step n z = ([], z.e) := by
        obtain ⟨b, e⟩ := z
        obtain rfl : b = [] := hb
        exact allZ_nil n e
      rw [hze, List.append_nil] at hz
      have HH := Lib.hid (show allQ step z0 = if z.e = 0 then (acc, 0) else ([], z.e) by unfold allQ; rw [hz])
      clear hz hze hb hn hacc hK
      obtain ⟨x, hx⟩ : ∃ x, z.e = x := ⟨_, rfl⟩
      have HX := Lib.hid hx
      rw [hx] at HH
      clear hx
      go_upto_region 5 with (first
    | (go_at_call 45; refine (leftX_any hR hd hY hS hzl).mono ?_; rintro e w' ⟨rfl, hb⟩; replace hR := hR.grow hb; clear hb)
    | ((with_reducible apply q_ls hR); exact rfl; (with_reducible apply t_cmp); (apply EvC.now; exact rfl); (apply EvC.now; exact rfl); exact HL.out; (simp only [List.set_cons_succ, List.set_cons_zero]; exact rfl); clear hR; intro w hR)
    | (go_at_call 42; refine (errX_any hR hd hY hS).mono ?_; rw [HX.out]; rintro e w' ⟨rfl, hb⟩; replace hR := hR.grow hb; clear hb))
      clear HX HL
      by_cases hx : x = 0
      · have HE := Lib.hid (show cmpB .neq x 0 = some false by simp [cmpB, hx])
        have HV := Lib.hid (show allQ step z0 = (acc, 0) by rw [HH.out, if_pos hx])
        clear hx HH
        go_wp2_with (first
    | ((with_reducible apply q_ls hR); exact rfl; (with_reducible apply t_cmp); (apply EvC.now; exact rfl); (apply EvC.now; exact rfl); exact HE.out; (simp only [List.set_cons_succ, List.set_cons_zero]; exact rfl); clear hR; intro w hR))
        go_ret2
        rw [HV.out]
        exact ⟨s, _, rfl, hR.drop (List.sublist_append_left _ _), hL.rowsR cellsPub_one⟩
      · have HE := Lib.hid (show cmpB .neq x 0 = some true by simp [cmpB, hx])
        have HV := Lib.hid (show allQ step z0 = ([], x) by rw [HH.out, if_neg hx])
        clear hx HH
        go_wp2_with (first
    | ((with_reducible apply q_ls hR); exact rfl; (with_reducible apply t_cmp); (apply EvC.now; exact rfl); (apply EvC.now; exact rfl); exact HE.out; (simp only [List.set_cons_succ, List.set_cons_zero]; exact rfl); clear hR; intro w hR))
        go_ret2
        rw [HV.out]
        exact ⟨[], _, rfl, hR.drop (List.nil_sublist _), (Sl.nil 25 5).rowsR (zs := []) cellsPub_one⟩
    · have hlen : 0 < z.b.length := List.length_pos_iff.2 hb
      have HL := Lib.hid (show cmpB .gtr (z.b.length : Int) 0 = some true by simp [cmpB]; omega)
      obtain ⟨hok2, hless⟩ := hst.go z hzok hb
      obtain ⟨m, rfl⟩ : ∃ m, n = m + 1 := ⟨n - 1, by omega⟩
      rw [allZ_succ hb] at hz
      obtain ⟨⟨x, z2⟩, hnz⟩ : ∃ p, step z = p := ⟨_, rfl⟩
      rw [hnz] at hok2 hless hz
      dsimp only at hok2 hless hz
      have HZ := Lib.hid hz
      have HLV := Lib.hid hL.lenV
      have HC := Lib.hid (fun (w : World) (l : List RowT) (h1 : Own w0 w l) (h2 : Les [(g, cs, 76)] l (s ++ X)) => HQ.out w l (s ++ X) cs z h1 h2 hY hK hS hzok hzl)
      have HNZ := Lib.hid hnz
      clear hz hb hnz hK
      go_wp2_with (first
    | (go_at_call 45; refine (leftX_any hR hd hY hS hzl).mono ?_; rintro e w' ⟨rfl, hb⟩; replace hR := hR.grow hb; clear hb)
    | ((with_reducible apply q_ls hR); exact rfl; (with_reducible apply t_cmp); (apply EvC.now; exact rfl); (apply EvC.now; exact rfl); exact HL.out; (simp only [List.set_cons_succ, List.set_cons_zero]; exact rfl); clear hR; intro w hR)
    | ((with_reducible apply wpList_fn HF.out); exact rfl; exact rfl; refine (HC.out _ _ hR hd).mono ?_; rw [HNZ.out]; (try dsimp only); rintro e w' ⟨rfl, cs2, hR2, hS2⟩; clear hR hS hd; have hR := hR2; clear hR2; refine ⟨_, rfl, ?_⟩; simp only [List.set_cons_succ, List.set_cons_zero])
    | ((with_reducible apply wpList_buildS hR); exact rfl; exact rfl; (exact bPubs1 _); clear hR; intro gb w hR; simp only [List.set_cons_succ, List.set_cons_zero])
    | ((with_reducible apply wpList_appG hR tPubsB); exact rfl; exact rfl; exact rfl; exact hL; (exact Les.tail (Les.tail (Les.head (s := s)))); (exact rd_one (z := x) cellsPub_len cellsPub_one hR (.head _)); (simp only [maxLen]; omega); omega; clear hR hL; intro s3 v3 w hR hL; simp only [List.set_cons_succ, List.set_cons_zero]))
      go_round
      case rel =>
        refine ⟨m, acc ++ [x], z2, cs2, s3, ?_, by omega, hok2, by simp; omega, ?_, hR.drop (List.Sublist.append (List.Sublist.refl _) (List.sublist_cons_self _ _)), hS2⟩
        · rw [HZ.out]; simp
        · rw [List.length_append, List.flatMap_append]
          exact hL.cast (by simp)
      case measure =>
        rw [HLV.out, hL.lenV]
        omega
set_option maxHeartbeats 1000000 in
theorem allX_any {w0 w : World} {l X sr K : List RowT} {g : Nat} {cs0 : Array Value} {z0 : SrcZ} {F : FuncId} {cp : Array Value} {step : SrcZ → ExtZ × SrcZ} (hO : Own w0 w l) (hd0 : Les [(g, cs0, 76)] l X) (hY0 : ∀ r ∈ sr, r ∈ X) (hK0 : ∀ r ∈ K, r ∈ X) (hS0 : SrcObj w0 sr cs0 z0) (hok0 : z0.ok) (hl0 : z0.b.length ≤ 1000000)
    (hcf : ∀ (args : Array Value) w, (callFunc F args).run Try.prog w = .ok (.enter F args) w) (hN : NextQ w0 g sr K F cp (fun z => (.agg (encExt (step z).1), (step z).2))) (hst : LessQ step) :
    Calls Try.prog 32 #[.pointer (some ⟨g, 0, none⟩), .func (.func F) #[] cp] w fun e w' => RetR 3 cellsExt w0 w' (fun v => .tuple #[v, .int .i64 (allQ step z0).2]) e (allQ step z0).1 := by
  have hR : Own w0 w ((g, cs0, 76) :: X) := hO.les hd0
  clear hO hd0
  have HF := Lib.hid hcf
  have HQ := Lib.hid hN
  clear hcf hN
  go_enter Try.func32, Try.ntmps32
  go_wp2_with fail
  go_loopw [6] (fun lv wr => ∃ (n : Nat) (acc : List ExtZ) (z : SrcZ) (cs : Array Value) (s : List RowT), allZ step z0.b.length z0 = (acc ++ (allZ step n z).1, (allZ step n z).2) ∧ z.b.length ≤ n ∧ z.ok ∧ acc.length + z.b.length ≤ z0.b.length ∧ Sl 44 3 s lv acc.length (acc.flatMap cellsExt) ∧ Own w0 wr (s ++ (g, cs, 76) :: X) ∧ SrcObj w0 sr cs z) (fun lv _ => z0.b.length - lenV lv)
  case atStart => exact ⟨z0.b.length, [], z0, cs0, [], rfl, Nat.le_refl _, hok0, by simp, Sl.nil _ _, hR, hS0⟩
  case round =>
    clear hR hS0
    obtain ⟨n, acc, z, cs, s, hz, hn, hzok, hacc, hL, hR, hS⟩ := hrel
    have hzl : z.b.length ≤ 1000000 := by omega
    have hal : acc.length ≤ 1000000 := by omega
    have hY : ∀ r ∈ sr, r ∈ s ++ X := fun r hr => List.mem_append_right _ (hY0 r hr)
    have hK : ∀ r ∈ K, r ∈ s ++ X := fun r hr => List.mem_append_right _ (hK0 r hr)
    have hd : Les [(g, cs, 76)] (s ++ (g, cs, 76) :: X) (s ++ X) := Les.skip _ Les.one
    by_cases hb : z.b = []
    · have HL := Lib.hid (show cmpB .gtr (z.b.length : Int) 0 = some false by simp [cmpB, hb])
      have hze : allZ step n z = ([], z.e) := by
        obtain ⟨b, e⟩ := z
        obtain rfl : b = [] := hb
        exact allZ_nil n e
      rw [hze, List.append_nil] at hz
      have HH := Lib.hid (show allQ step z0 = if z.e = 0 then (acc, 0) else ([], z.e) by unfold allQ; rw [hz])
      clear hz hze hb hn hacc hK
      obtain ⟨x, hx⟩ : ∃ x, z.e = x := ⟨_, rfl⟩
      have HX := Lib.hid hx
      rw [hx] at HH
      clear hx
      go_upto_region 5 with (first
    | (go_at_call 45; refine (leftX_any hR hd hY hS hzl).mono ?_; rintro e w' ⟨rfl, hb⟩; replace hR := hR.grow hb; clear hb)
    | ((with_reducible apply q_ls hR); exact rfl; (with_reducible apply t_cmp); (apply EvC.now; exact rfl); (apply EvC.now; exact rfl); exact HL.out; (simp only [List.set_cons_succ, List.set_cons_zero]; exact rfl); clear hR; intro w hR)
    | (go_at_call 42; refine (errX_any hR hd hY hS).mono ?_; rw [HX.out]; rintro e w' ⟨rfl, hb⟩; replace hR := hR.grow hb; clear hb))
      clear HX HL
      by_cases hx : x = 0
      · have HE := Lib.hid (show cmpB .neq x 0 = some false by simp [cmpB, hx])
        have HV := Lib.hid (show allQ step z0 = (acc, 0) by rw [HH.out, if_pos hx])
        clear hx HH
        go_wp2_with (first
    | ((with_reducible apply q_ls hR); exact rfl; (with_reducible apply t_cmp); (apply EvC.now; exact rfl); (apply EvC.now; exact rfl); exact HE.out; (simp only [List.set_cons_succ, List.set_cons_zero]; exact rfl); clear hR; intro w hR))
        go_ret2
        rw [HV.out]
        exact ⟨s, _, rfl, hR.drop (List.sublist_append_left _ _), hL.rowsR cellsExt_one⟩
      · have HE := Lib.hid (show cmpB .neq x 0 = some true by simp [cmpB, hx])
        have HV := Lib.hid (show allQ step z0 = ([], x) by rw [HH.out, if_neg hx])
        clear hx HH
        go_wp2_with (first
    | ((with_reducible apply q_ls hR); exact rfl; (with_reducible apply t_cmp); (apply EvC.now; exact rfl); (apply EvC.now; exact rfl); exact HE.out; (simp only [List.set_cons_succ, List.set_cons_zero]; exact rfl); clear hR; intro w hR))
        go_ret2
        rw [HV.out]
        exact ⟨[], _, rfl, hR.drop (List.nil_sublist _), (Sl.nil 44 3).rowsR (zs := []) cellsExt_one⟩
    · have hlen : 0 < z.b.length := List.length_pos_iff.2 hb
      have HL := Lib.hid (show cmpB .gtr (z.b.length : Int) 0 = some true by simp [cmpB]; omega)
      obtain ⟨hok2, hless⟩ := hst.go z hzok hb
      obtain ⟨m, rfl⟩ : ∃ m, n = m + 1 := ⟨n - 1, by omega⟩
      rw [allZ_succ hb] at hz
      obtain ⟨⟨x, z2⟩, hnz⟩ : ∃ p, step z = p := ⟨_, rfl⟩
      rw [hnz] at hok2 hless hz
      dsimp only at hok2 hless hz
      have HZ := Lib.hid hz
      have HLV := Lib.hid hL.lenV
      have HC := Lib.hid (fun (w : World) (l : List RowT) (h1 : Own w0 w l) (h2 : Les [(g, cs, 76)] l (s ++ X)) => HQ.out w l (s ++ X) cs z h1 h2 hY hK hS hzok hzl)
      have HNZ := Lib.hid hnz
      clear hz hb hnz hK
      go_wp2_with (first
    | (go_at_call 45; refine (leftX_any hR hd hY hS hzl).mono ?_; rintro e w' ⟨rfl, hb⟩; replace hR := hR.grow hb; clear hb)
    | ((with_reducible apply q_ls hR); exact rfl; (with_reducible apply t_cmp); (apply EvC.now; exact rfl); (apply EvC.now; exact rfl); exact HL.out; (simp only [List.set_cons_succ, List.set_cons_zero]; exact rfl); clear hR; intro w hR)
    | ((with_reducible apply wpList_fn HF.out); exact rfl; exact rfl; refine (HC.out _ _ hR hd).mono ?_; rw [HNZ.out]; (try dsimp only); rintro e w' ⟨rfl, cs2, hR2, hS2⟩; clear hR hS hd; have hR := hR2; clear hR2; refine ⟨_, rfl, ?_⟩; simp only [List.set_cons_succ, List.set_cons_zero])
    | ((with_reducible apply wpList_buildS hR); exact rfl; exact rfl; (exact bExts1 _); clear hR; intro gb w hR; simp only [List.set_cons_succ, List.set_cons_zero])
    | ((with_reducible apply wpList_appG hR tExtsB); exact rfl; exact rfl; exact rfl; exact hL; (exact Les.tail (Les.tail (Les.head (s := s)))); (exact rd_one (z := x) cellsExt_len cellsExt_one hR (.head _)); (simp only [maxLen]; omega); omega; clear hR hL; intro s3 v3 w hR hL; simp only [List.set_cons_succ, List.set_cons_zero]))
      go_round
      case rel =>
        refine ⟨m, acc ++ [x], z2, cs2, s3, ?_, by omega, hok2, by simp; omega, ?_, hR.drop (List.Sublist.append (List.Sublist.refl _) (List.sublist_cons_self _ _)), hS2⟩
        · rw [HZ.out]; simp
        · rw [List.length_append, List.flatMap_append]
          exact hL.cast (by simp)
      case measure =>
        rw [HLV.out, hL.lenV]
        omega
end Go.Proofs.Ytmiakniilimghaa
