/- The law RecSums (check sums, none and wrong ones, and a byte that is another) returns true whatever the arguments, and each argument reads afterwards as before. There is no condition on the arguments. -/
import Derived.Test.YtkmeaadkiakbdaaRows
import Derived.Test.YtkmeaadkiakbdaaLaw18
import Derived.Test.YtkmeaadkiakbdaaByt
import Derived.Test.YtkmeaadkiakbdaaBytesArg
import Derived.WalkKit
import Derived.ProofKit
import Derived.OpenShut
import Derived.ShutString
import Derived.ChangeOld
import Derived.Below
namespace Go.Proofs.Ytkmeaadkiakbdaa.recSums
open Go.ChangeShapes Go.WideShapes Go.ChangeAt Go.RowKit
open Go.ChangeMaps (open_string shut_string)
set_option linter.unusedVariables false
set_option linter.unusedSimpArgs false

theorem own : ownKnob Try.prog.godebug = none := by kernel_rfl
theorem laidOut : laidOutB Try.prog = true := by kernel_rfl








theorem cmp40 : cmpB .eql 4 0 = some false := rfl
theorem min100 (n : Nat) : (if (100 : Int) < (n : Int) then 100 else (n : Int)) = ((min n 100 : Nat) : Int) := by split <;> omega
def encP (a b : Int) : Array Value := #[.int .i64 a, .int .i64 b]
theorem open_pair {w : World} {base : Nat} {x : Value} (h : Value.okWide Try.prog w .any base 34 x) : ∃ a b : Int, x = .agg (encP a b) := by
  obtain ⟨cs, rfl, hl, hc⟩ := open_flat (ts := [3, 3]) Try.underlying34 rfl (by kernel_rfl) (by kernel_rfl) h
  match cs, hl with
  | [c0, c1], _ =>
    obtain ⟨n0, rfl, b0⟩ := cell_int Try.underlying3 (hc 0 _ _ rfl rfl)
    obtain ⟨n1, rfl, b1⟩ := cell_int Try.underlying3 (hc 1 _ _ rfl rfl)
    exact ⟨n0, n1, rfl⟩
set_option maxHeartbeats 4000000 in
set_option maxRecDepth 100000 in
theorem walk {base : Nat} {w0 : World} (kind : Int) (hk : (Lit.int .u8 kind).wf = true) (v1 : Value) (hB : BytesAt w0 v1) (v2 : Value) (k2 : Value.okWide Try.prog w0 .any base 34 v2) (wi : World) :
    Calls Try.prog 4 #[.int .u8 kind, v1, v2] w0 fun e w' => e = .returned (.bool true) ∧ Below w0.heap.size w0 w' := by
  clear wi
  obtain ⟨body, hS0, hlen⟩ := hB
  have hk := bounds_u8 hk
  obtain ⟨a0, a1, rfl⟩ := open_pair k2
  clear k2
  have hR := Own.start w0
  obtain ⟨n, hn⟩ : ∃ n, min body.length 100 = n := ⟨_, rfl⟩
  have hnb : n ≤ body.length := by omega
  have hn3 : n ≤ 100 := by omega
  have HM := Lib.hid (min100 body.length)
  rw [hn] at HM
  clear hn
  go_enter Try.func4, Try.ntmps4
  go_upto_region 2 with (first
    | ((with_reducible apply wpList_box hR); exact rfl; exact rfl; clear hR; intro g w hR; simp only [List.set_cons_succ, List.set_cons_zero])
    | ((with_reducible apply q_ls hR); exact rfl; (with_reducible apply t_lenW Try.underlying22); (apply EvC.now; exact rfl); exact hS0; (simp only [List.set_cons_succ, List.set_cons_zero]; exact rfl); clear hR; intro w hR)
    | ((with_reducible apply q_ls hR); exact rfl; (with_reducible apply t_minK); (apply EvC.now; exact rfl); (apply EvC.now; exact rfl); (exact HM.out); (simp only [List.set_cons_succ, List.set_cons_zero]; exact rfl); clear hR; intro w hR)
    | ((with_reducible apply q_ls hR); exact rfl; (with_reducible apply t_cutH tBytesN hS0); (apply EvC.now; exact rfl); (apply EvC.now; exact rfl); exact rfl; (exact hnb); (simp only [List.set_cons_succ, List.set_cons_zero]; exact rfl); clear hR; intro w hR))
  have hS := hS0.first n hnb
  obtain ⟨bs, hbs⟩ : ∃ bs, body.take n = bs := ⟨_, rfl⟩
  obtain ⟨vb, hvb⟩ : ∃ vb, cutV v1 0 n = vb := ⟨_, rfl⟩
  have hbl : bs.length ≤ 100 := by rw [← hbs, List.length_take]; omega
  rw [hbs, hvb] at hS
  rw [hvb]
  clear hbs hvb hS0 HM hnb hn3 hlen
  have hbo := hS.ok
  have hro := recN_ok hk hbo
  have hrl := recN_len kind bs
  have HN := Lib.hid (get_none kind bs (by omega))
  have HB := Lib.hid (fun (k : Nat) (x y : Int) h1 h2 h3 h4 h5 => get_bad (kind := kind) (k := k) (x := x) (y := y) hbo (show bs.length ≤ 4000 by omega) h1 h2 h3 h4 h5)
  obtain ⟨rs, hrs⟩ : ∃ rs, recN kind bs = rs := ⟨_, rfl⟩
  rw [hrs] at hro hrl HN HB
  have hrl1 : rs.length ≤ bs.length + 4 := by omega
  have hrl2 : bs.length + 4 ≤ rs.length := by omega
  clear hrl
  have HRS := Lib.hid hrs
  clear hrs
  go_upto_region 3 with (first
    | (go_at_call 6; refine (r18rec_any kind bs _ hk hbo (by omega)).mono ?_; rw [HRS.out]; rintro e w' ⟨rfl, hb⟩; replace hR := hR.grow hb; clear hb)
    | ((with_reducible apply q_ls hR); exact rfl; (with_reducible apply t_strW tTextN); (apply EvC.now; exact rfl); (exact fun w hC => hS.own hC); (simp only [List.set_cons_succ, List.set_cons_zero]; exact rfl); clear hR; intro w hR)
    | ((with_reducible apply wpList_bytesN hR Try.underlying9 Try.underlying22 Try.underlying5 hro); exact rfl; exact rfl; clear hR; intro vm w hR hM; simp only [List.set_cons_succ, List.set_cons_zero]))
  replace hS := hS.own hR
  have hAt := hR.at (.head _)
  have hM2 := hM.src
  clear hM
  have hZ2 := (Since.start w0).own hR
  have hR2 := hR.fresh
  clear hR
  try clear hZ
  have hZ := hZ2
  have hR := hR2
  clear hZ2 hR2
  go_upto_region 4 with (first
    | ((with_reducible apply wpList_buildS hR); exact rfl; exact rfl; (exact bB0); clear hR; intro g9 w hR; simp only [List.set_cons_succ, List.set_cons_zero]; (have hS9 : Sl 5 1 [(g9, #[], 5)] (.slice (some ⟨g9, 0, none⟩) 0 0) 0 [] := (RwIs.all rfl (by decide)).sl))
    | ((with_reducible apply wpList_appG hR tBytesB); exact rfl; exact rfl; exact rfl; exact hS9; (exact Les.head (s := [_])); (exact hM2.rd.own hR); (simp only [maxLen]; omega); omega; clear hR hS9; intro s9 v9 w hR hS9; simp only [List.set_cons_succ, List.set_cons_zero]))
  rw [Nat.zero_add, List.nil_append] at hS9
  rcases hS9.way with ⟨_, _, h0⟩ | ⟨gn, capn, curn, rfl, rfl, hle, hmost, hsz, htk⟩
  · omega
  replace hR : Own _ _ [(gn, curn, 5)] := hR
  have hW : RwIs 1 curn rs.length capn (cellsB rs) := ⟨hS9.len, hle, hmost, hsz, htk⟩
  have hsz1 : curn.size = capn := by rw [hsz, Nat.mul_one]
  have HW2 := Lib.hid (put_byte hW (i := bs.length + 3) (by omega) 0)
  have HPUT := Lib.hid (show PutRel curn (bs.length + 3) [.int .u8 0] (putList curn (bs.length + 3) [.int .u8 0]) from ⟨rfl⟩)
  have HL := Lib.hid (IntWalk.i64_in ((rs.length : Int) - 1) (by omega))
  clear hS9 hW htk
  go_upto_region 5 with (first
    | ((with_reducible apply q_ls hR); exact rfl; (with_reducible apply t_len Try.underlying22); (apply EvC.now; exact rfl); (simp only [List.set_cons_succ, List.set_cons_zero]; exact rfl); clear hR; intro w hR)
    | ((with_reducible apply q_ls hR); exact rfl; (with_reducible apply t_numE); (apply EvC.now; exact rfl); (apply EvC.now; exact rfl); exact rfl; exact HL.out; (simp only [List.set_cons_succ, List.set_cons_zero]; exact rfl); clear hR; intro w hR)
    | ((with_reducible apply q_ls hR); exact rfl; (with_reducible apply t_sixG (k := bs.length + 3) Try.underlying22 iByteR); (apply EvC.now; exact rfl); (apply EvC.now; exact rfl); (omega); (omega); (simp only [List.set_cons_succ, List.set_cons_zero]; exact rfl); clear hR; intro w hR)
    | ((with_reducible apply wpList_put1 hR tByteR); exact rfl; exact rfl; exact rfl; (focus (repeat (first | apply List.Mem.head | apply List.Mem.tail | apply List.mem_append_right))); (exact HPUT.out); (omega); exact rfl; (focus (repeat (first | apply Upd.head | apply Upd.tail))); clear hR; intro w hR))
  have hN := SrcW.ofRw hR (.head _) HW2.out (hro.set _ (by decide))
  clear HW2 HPUT HL
  go_wp2_with fail
  refine (recget_any hN (by rw [List.length_set]; omega)).mono ?_
  rw [HN.out]
  dsimp only
  rintro e w5 ⟨vr, rfl, hb, hG⟩
  replace hS := (hS.own hR).keep hb
  replace hAt := (hAt.own hR).keep hb
  replace hM2 := (hM2.own hR).keep hb
  clear hN HN
  replace hR := hR.grow hb
  have hZ2 := (hZ).own hR
  clear hR hb
  try clear hZ
  have hZ := hZ2
  clear hZ2
  have hR := Own.start w5
  have hT := hAt.get
  obtain ⟨x0, hx0⟩ : ∃ x, a0 % 256 = x := ⟨_, rfl⟩
  have hx0b : 0 ≤ x0 ∧ x0 ≤ 255 := by omega
  have HX0 := Lib.hid ((i64_and255 a0).trans hx0)
  obtain ⟨x1, hx1⟩ : ∃ x, a1 % 256 = x := ⟨_, rfl⟩
  have hx1b : 0 ≤ x1 ∧ x1 ≤ 255 := by omega
  have HX1 := Lib.hid ((i64_and255 a1).trans hx1)
  obtain ⟨r, hr⟩ : ∃ r : Nat, x0 % ((bs.length : Int) + 1) = r := ⟨(x0 % ((bs.length : Int) + 1)).toNat, (Int.toNat_of_nonneg (Int.emod_nonneg _ (by omega))).symm⟩
  have hrb : r ≤ bs.length := by have := Int.emod_lt_of_pos x0 (b := (bs.length : Int) + 1) (by omega); omega
  have HR := Lib.hid ((rem_in hx0b.1).trans hr)
  have HL := Lib.hid (show IntKind.i64.wrap ((rs.length : Int) - 3) = (bs.length : Int) + 1 by rw [IntWalk.i64_in _ (by omega)]; omega)
  have HK := Lib.hid (show IntKind.i64.wrap (3 + (r : Int)) = ((3 + r : Nat) : Int) by rw [IntWalk.i64_in _ (by omega)]; omega)
  obtain ⟨z, hz⟩ : ∃ z, x1 % 255 + 1 = z := ⟨_, rfl⟩
  have hzb : 1 ≤ z ∧ z ≤ 255 := by omega
  have HB1 := Lib.hid (show x1.tmod 255 = z - 1 by rw [rem_in hx1b.1]; omega)
  have HB2 := Lib.hid (show IntKind.i64.wrap (z - 1 + 1) = z by rw [IntWalk.i64_in _ (by omega)]; omega)
  have HB3 := Lib.hid (show IntKind.u8.wrap z = z from IntWalk.u8_in _ (by omega))
  clear hx0 hx1 hr hz
  obtain ⟨k, hk3⟩ : ∃ k, 3 + r = k := ⟨_, rfl⟩
  rw [hk3] at HK
  have hkb : 3 ≤ k ∧ k < rs.length := by omega
  clear hk3
  obtain ⟨x, hx⟩ : ∃ x, rs[k]? = some x := ⟨_, List.getElem?_eq_getElem hkb.2⟩
  have hxb := hro.at hx
  obtain ⟨hyb, hyn⟩ := xor8 hxb hzb
  have HZ := Lib.hid (HB.out k x _ hkb.1 hx hxb hyb hyn)
  clear HB
  go_upto_region 9 with (first
    | ((with_reducible apply wpList_make hR zRec); exact rfl; clear hR; intro g w hR; simp only [List.set_cons_succ, List.set_cons_zero])
    | ((with_reducible apply wpList_put hR tRec); exact rfl; exact rfl; exact rfl; (focus (repeat (first | apply List.Mem.head | apply List.Mem.tail | apply List.mem_append_right))); exact put_rec _ _ _ _; exact rfl; simp; exact one_rec _ hG; (focus (repeat (first | apply Upd.head | apply Upd.tail))); clear hR; intro w hR)
    | ((with_reducible apply q_ls hR); exact rfl; (with_reducible apply t_old tIntR hT); (apply EvC.now; exact rfl); exact rfl; (simp only [List.set_cons_succ, List.set_cons_zero]; exact rfl); clear hR; intro w hR)
    | ((with_reducible apply q_ls hR); exact rfl; (with_reducible apply t_lenW Try.underlying22); (apply EvC.now; exact rfl); exact hM2; (simp only [List.set_cons_succ, List.set_cons_zero]; exact rfl); clear hR; intro w hR)
    | ((with_reducible apply q_ls hR); exact rfl; (with_reducible apply t_rem); (apply EvC.now; exact rfl); (apply EvC.now; exact rfl); (omega); (with_reducible first | exact HR.out | exact HB1.out); (simp only [List.set_cons_succ, List.set_cons_zero]; exact rfl); clear hR; intro w hR)
    | ((with_reducible apply q_ls hR); exact rfl; (with_reducible apply t_numE); (apply EvC.now; exact rfl); (apply EvC.now; exact rfl); exact rfl; (with_reducible first | exact HX0.out | exact HX1.out | exact HL.out | exact HK.out | exact HB2.out); (simp only [List.set_cons_succ, List.set_cons_zero]; exact rfl); clear hR; intro w hR)
    | ((with_reducible apply q_ls hR); exact rfl; (with_reducible apply t_conv Try.underlying3 Try.underlying5); (apply EvC.now; exact rfl); exact HB3.out; (simp only [List.set_cons_succ, List.set_cons_zero]; exact rfl); clear hR; intro w hR)
    | ((with_reducible apply wpList_buildS hR); exact rfl; exact rfl; (exact bB0); clear hR; intro g9 w hR; simp only [List.set_cons_succ, List.set_cons_zero]; (have hS9 : Sl 5 1 [(g9, #[], 5)] (.slice (some ⟨g9, 0, none⟩) 0 0) 0 [] := (RwIs.all rfl (by decide)).sl))
    | ((with_reducible apply wpList_appG hR tBytesB); exact rfl; exact rfl; exact rfl; exact hS9; (exact Les.head (s := [_])); (exact hM2.rd.own hR); (simp only [maxLen]; omega); omega; clear hR hS9; intro s9 v9 w hR hS9; simp only [List.set_cons_succ, List.set_cons_zero]))
  rw [Nat.zero_add, List.nil_append] at hS9
  rcases hS9.way with ⟨_, _, h0⟩ | ⟨gb, capb, curb, rfl, rfl, hle2, hmost2, hsz2, htk2⟩
  · omega
  replace hR : Own _ _ [(gb, curb, 5), (_, #[.int .u8 kind, vr], 26)] := hR
  have hW : RwIs 1 curb rs.length capb (cellsB rs) := ⟨hS9.len, hle2, hmost2, hsz2, htk2⟩
  have hszb : curb.size = capb := by rw [hsz2, Nat.mul_one]
  obtain ⟨y, hy⟩ : ∃ y, bits .xor .u8 x z = y := ⟨_, rfl⟩
  rw [hy] at hyb hyn HZ
  have HY := Lib.hid hy
  have HW2 := Lib.hid (put_byte hW (i := k) hkb.2 y)
  have HAT := Lib.hid (hW.at_ hx)
  have HPUT := Lib.hid (show PutRel curb k [.int .u8 y] (putList curb k [.int .u8 y]) from ⟨rfl⟩)
  obtain ⟨hk3, hkl⟩ := hkb
  clear hS9 hW htk2 hy
  go_upto_region 10 with (first
    | ((with_reducible apply q_ls hR); exact rfl; (with_reducible apply t_sixG (k := k) Try.underlying22 iByteR); (apply EvC.now; exact rfl); (apply EvC.now; exact rfl); (omega); (omega); (simp only [List.set_cons_succ, List.set_cons_zero]; exact rfl); clear hR; intro w hR)
    | ((with_reducible apply q_ls hR); exact rfl; (with_reducible apply t_one tByteR); (apply EvC.now; exact rfl); (focus (repeat (first | apply List.Mem.head | apply List.Mem.tail | apply List.mem_append_right))); (exact HAT.out); (simp only [List.set_cons_succ, List.set_cons_zero]; exact rfl); clear hR; intro w hR)
    | ((with_reducible apply q_ls hR); exact rfl; (with_reducible apply t_numE); (apply EvC.now; exact rfl); (apply EvC.now; exact rfl); exact rfl; exact HY.out; (simp only [List.set_cons_succ, List.set_cons_zero]; exact rfl); clear hR; intro w hR)
    | ((with_reducible apply wpList_put1 hR tByteR); exact rfl; exact rfl; exact rfl; (focus (repeat (first | apply List.Mem.head | apply List.Mem.tail | apply List.mem_append_right))); (exact HPUT.out); (omega); exact rfl; (focus (repeat (first | apply Upd.head | apply Upd.tail))); clear hR; intro w hR))
  have hbo2 := hro.set k hyb
  have hN := SrcW.ofRw hR (.head _) HW2.out hbo2
  obtain ⟨bd, hbd⟩ : ∃ bd, rs.set k y = bd := ⟨_, rfl⟩
  have hbl2 : bd.length = rs.length := by rw [← hbd, List.length_set]
  have hbl3 : bd.length ≤ rs.length := by omega
  have hbl4 : rs.length ≤ bd.length := by omega
  clear hbl2
  rw [hbd] at hN HZ HW2 hbo2
  obtain ⟨q, hq⟩ : ∃ q, bd[bs.length + 3]? = some q := ⟨_, List.getElem?_eq_getElem (by omega)⟩
  have hqb := hbo2.at hq
  have HQ := Lib.hid (RwIs.at_ (ns := bd) (by rw [show bd.length = rs.length by omega]; exact HW2.out) hq)
  rw [show bd.getD (bs.length + 3) 0 = q by rw [List.getD_eq_getElem?_getD, hq]; rfl] at HZ
  clear HW2 HPUT HAT hbd hq
  go_wp2_with fail
  refine (recget_any hN (by omega)).mono ?_
  obtain ⟨Z, hZe⟩ : ∃ Z, getR bd = Z := ⟨_, rfl⟩
  rw [hZe] at HZ ⊢
  clear hZe
  obtain ⟨zk, zb, zn, ze⟩ := Z
  obtain ⟨hze, hzn⟩ := HZ.out
  dsimp only at hze hzn ⊢
  rintro e w6 ⟨vz, rfl, hb, hX⟩
  replace hS := (hS.own hR).keep hb
  replace hG := (hG.own hR).keep hb
  have hAr := (hR.at (.tail _ (.head _))).keep hb
  have hAb := (hR.at (.head _)).keep hb
  clear hN hM2 HZ hT hAt
  replace hR := hR.grow hb
  have hZ2 := (hZ).own hR
  clear hR hb
  try clear hZ
  have hZ := hZ2
  clear hZ2
  have hR := Own.start w6
  have hT1 := hAr.get
  have hT2 := hAb.get
  have HL2 := Lib.hid (IntWalk.i64_in ((rs.length : Int) - 1) (by omega))
  clear hAr hAb
  by_cases hq0 : q = 0
  · rw [if_pos hq0] at hze
    subst hq0 hze
    clear hzn
    go_upto_region 11 with (first
    | ((with_reducible apply wpList_make hR zRec); exact rfl; clear hR; intro g w hR; simp only [List.set_cons_succ, List.set_cons_zero])
    | ((with_reducible apply wpList_put hR tRec); exact rfl; exact rfl; exact rfl; (focus (repeat (first | apply List.Mem.head | apply List.Mem.tail | apply List.mem_append_right))); exact put_rec _ _ _ _; exact rfl; simp; exact one_rec _ hX; (focus (repeat (first | apply Upd.head | apply Upd.tail))); clear hR; intro w hR))
    go_upto_region 12 with fail
    go_upto_region 14 with (first
    | ((with_reducible apply q_ls hR); exact rfl; (with_reducible apply t_len Try.underlying22); (apply EvC.now; exact rfl); (simp only [List.set_cons_succ, List.set_cons_zero]; exact rfl); clear hR; intro w hR)
    | ((with_reducible apply q_ls hR); exact rfl; (with_reducible apply t_numE); (apply EvC.now; exact rfl); (apply EvC.now; exact rfl); exact rfl; exact HL2.out; (simp only [List.set_cons_succ, List.set_cons_zero]; exact rfl); clear hR; intro w hR)
    | ((with_reducible apply q_ls hR); exact rfl; (with_reducible apply t_sixG (k := bs.length + 3) Try.underlying22 iByteR); (apply EvC.now; exact rfl); (apply EvC.now; exact rfl); (omega); (omega); (simp only [List.set_cons_succ, List.set_cons_zero]; exact rfl); clear hR; intro w hR)
    | ((with_reducible apply q_ls hR); exact rfl; (with_reducible apply t_old tByteR hT2); (apply EvC.now; exact rfl); exact HQ.out; (simp only [List.set_cons_succ, List.set_cons_zero]; exact rfl); clear hR; intro w hR))
    refine wp_region_tame hR [0, 1, 2, 3, 4, 5, 6, 7, 8, 9, 10, 11, 12, 13, 14, 15, 16, 17, 18, 19, 20, 21, 22, 23, 24, 25, 26] rfl ?_
    repeat (refine wpT_step rfl ?_; first
        | ((with_reducible apply q_kn); exact rfl; (with_reducible apply t_call Try.call9); (first | (apply EvC.gv; exact rfl; (with_reducible first | exact Imp.refl _ | (apply Imp.left; exact Imp.refl _) | (apply Imp.right; exact Imp.refl _) | (apply Imp.left; apply Imp.left; exact Imp.refl _))) | (apply EvC.now; exact rfl) | exact rfl | (with_reducible exact EvAll.nil) | (focus (repeat (first | apply EvAll.cons | exact EvAll.nil | (apply EvC.gv; exact rfl; (with_reducible first | exact Imp.refl _ | (apply Imp.left; exact Imp.refl _) | (apply Imp.right; exact Imp.refl _) | (apply Imp.left; apply Imp.left; exact Imp.refl _))) | (apply EvC.now; exact rfl))); done) | exact rfl | (focus (repeat (first | apply List.Mem.head | apply List.Mem.tail | apply List.mem_append_right)))); (intro hcc w hC; exact tame_below (awake18_any _) hC); (simp only [List.set_cons_succ, List.set_cons_zero]; exact rfl))
        | ((with_reducible apply q_kn); exact rfl; (with_reducible apply t_strW tTextN); (apply EvC.now; exact rfl); (with_reducible first | exact fun w hC => hG.own hC | exact fun w hC => hS.own hC); (simp only [List.set_cons_succ, List.set_cons_zero]; exact rfl))
        | ((with_reducible apply q_kn); exact rfl; (with_reducible apply t_strsame); (apply EvC.now; exact rfl); (apply EvC.now; exact rfl); (simp only [List.set_cons_succ, List.set_cons_zero]; exact rfl))
        | ((with_reducible apply q_kn); exact rfl; (with_reducible apply t_cmp); (apply EvC.now; exact rfl); (apply EvC.now; exact rfl); (with_reducible first | exact cmp_self _ | exact cmp40); (simp only [List.set_cons_succ, List.set_cons_zero]; exact rfl))
        | ((with_reducible apply q_kn); exact rfl; (with_reducible apply t_old tSlR hT1); (apply EvC.now; exact rfl); exact rfl; (simp only [List.set_cons_succ, List.set_cons_zero]; exact rfl))
        | ((with_reducible apply wpT1_skipL); exact rfl; (simp only [List.set_cons_succ, List.set_cons_zero]; exact rfl))
        | ((with_reducible apply q_kn); exact rfl; (first | ((with_reducible first | apply t_move | apply t_assign | apply t_addr (fRec _ (by decide)) | apply t_one tByteR | apply t_one tSlR | apply t_one tIntR) <;> (first | (apply EvC.gv; exact rfl; (with_reducible first | exact Imp.refl _ | (apply Imp.left; exact Imp.refl _) | (apply Imp.right; exact Imp.refl _) | (apply Imp.left; apply Imp.left; exact Imp.refl _))) | (apply EvC.now; exact rfl) | exact rfl | (with_reducible exact EvAll.nil) | (focus (repeat (first | apply EvAll.cons | exact EvAll.nil | (apply EvC.gv; exact rfl; (with_reducible first | exact Imp.refl _ | (apply Imp.left; exact Imp.refl _) | (apply Imp.right; exact Imp.refl _) | (apply Imp.left; apply Imp.left; exact Imp.refl _))) | (apply EvC.now; exact rfl))); done) | exact rfl | (focus (repeat (first | apply List.Mem.head | apply List.Mem.tail | apply List.mem_append_right))))) | ((with_reducible apply t_pick); (apply EvC.now; exact rfl); (apply EvC.now; exact rfl))); (simp only [List.set_cons_succ, List.set_cons_zero]; exact rfl)))
    refine wpT_nil ?_
    clear hR; intro w hR
    go_wp2_with fail
    go_ret
    exact ⟨rfl, (hZ.own hR).below⟩
  · rw [if_neg hq0] at hze
    subst hze
    obtain rfl := hzn rfl
    go_upto_region 11 with (first
    | ((with_reducible apply wpList_make hR zRec); exact rfl; clear hR; intro g w hR; simp only [List.set_cons_succ, List.set_cons_zero])
    | ((with_reducible apply wpList_put hR tRec); exact rfl; exact rfl; exact rfl; (focus (repeat (first | apply List.Mem.head | apply List.Mem.tail | apply List.mem_append_right))); exact put_rec _ _ _ _; exact rfl; simp; exact one_rec _ hX; (focus (repeat (first | apply Upd.head | apply Upd.tail))); clear hR; intro w hR))
    go_upto_region 12 with fail
    go_upto_region 14 with (first
    | ((with_reducible apply q_ls hR); exact rfl; (with_reducible apply t_len Try.underlying22); (apply EvC.now; exact rfl); (simp only [List.set_cons_succ, List.set_cons_zero]; exact rfl); clear hR; intro w hR)
    | ((with_reducible apply q_ls hR); exact rfl; (with_reducible apply t_numE); (apply EvC.now; exact rfl); (apply EvC.now; exact rfl); exact rfl; exact HL2.out; (simp only [List.set_cons_succ, List.set_cons_zero]; exact rfl); clear hR; intro w hR)
    | ((with_reducible apply q_ls hR); exact rfl; (with_reducible apply t_sixG (k := bs.length + 3) Try.underlying22 iByteR); (apply EvC.now; exact rfl); (apply EvC.now; exact rfl); (omega); (omega); (simp only [List.set_cons_succ, List.set_cons_zero]; exact rfl); clear hR; intro w hR)
    | ((with_reducible apply q_ls hR); exact rfl; (with_reducible apply t_old tByteR hT2); (apply EvC.now; exact rfl); exact HQ.out; (simp only [List.set_cons_succ, List.set_cons_zero]; exact rfl); clear hR; intro w hR))
    refine wp_region_tame hR [0, 1, 2, 3, 4, 5, 6, 7, 8, 9, 10, 11, 12, 13, 14, 15, 16, 17, 18, 19, 20, 21, 22, 23, 24, 25, 26] rfl ?_
    repeat (refine wpT_step rfl ?_; first
        | ((with_reducible apply q_kn); exact rfl; (with_reducible apply t_call Try.call9); (first | (apply EvC.gv; exact rfl; (with_reducible first | exact Imp.refl _ | (apply Imp.left; exact Imp.refl _) | (apply Imp.right; exact Imp.refl _) | (apply Imp.left; apply Imp.left; exact Imp.refl _))) | (apply EvC.now; exact rfl) | exact rfl | (with_reducible exact EvAll.nil) | (focus (repeat (first | apply EvAll.cons | exact EvAll.nil | (apply EvC.gv; exact rfl; (with_reducible first | exact Imp.refl _ | (apply Imp.left; exact Imp.refl _) | (apply Imp.right; exact Imp.refl _) | (apply Imp.left; apply Imp.left; exact Imp.refl _))) | (apply EvC.now; exact rfl))); done) | exact rfl | (focus (repeat (first | apply List.Mem.head | apply List.Mem.tail | apply List.mem_append_right)))); (intro hcc w hC; exact tame_below (awake18_any _) hC); (simp only [List.set_cons_succ, List.set_cons_zero]; exact rfl))
        | ((with_reducible apply q_kn); exact rfl; (with_reducible apply t_strW tTextN); (apply EvC.now; exact rfl); (with_reducible first | exact fun w hC => hG.own hC | exact fun w hC => hS.own hC); (simp only [List.set_cons_succ, List.set_cons_zero]; exact rfl))
        | ((with_reducible apply q_kn); exact rfl; (with_reducible apply t_strsame); (apply EvC.now; exact rfl); (apply EvC.now; exact rfl); (simp only [List.set_cons_succ, List.set_cons_zero]; exact rfl))
        | ((with_reducible apply q_kn); exact rfl; (with_reducible apply t_cmp); (apply EvC.now; exact rfl); (apply EvC.now; exact rfl); (with_reducible first | exact cmp_self _ | exact cmp40); (simp only [List.set_cons_succ, List.set_cons_zero]; exact rfl))
        | ((with_reducible apply q_kn); exact rfl; (with_reducible apply t_old tSlR hT1); (apply EvC.now; exact rfl); exact rfl; (simp only [List.set_cons_succ, List.set_cons_zero]; exact rfl))
        | ((with_reducible apply wpT1_skipL); exact rfl; (simp only [List.set_cons_succ, List.set_cons_zero]; exact rfl))
        | ((with_reducible apply q_kn); exact rfl; (first | ((with_reducible first | apply t_move | apply t_assign | apply t_addr (fRec _ (by decide)) | apply t_one tByteR | apply t_one tSlR | apply t_one tIntR) <;> (first | (apply EvC.gv; exact rfl; (with_reducible first | exact Imp.refl _ | (apply Imp.left; exact Imp.refl _) | (apply Imp.right; exact Imp.refl _) | (apply Imp.left; apply Imp.left; exact Imp.refl _))) | (apply EvC.now; exact rfl) | exact rfl | (with_reducible exact EvAll.nil) | (focus (repeat (first | apply EvAll.cons | exact EvAll.nil | (apply EvC.gv; exact rfl; (with_reducible first | exact Imp.refl _ | (apply Imp.left; exact Imp.refl _) | (apply Imp.right; exact Imp.refl _) | (apply Imp.left; apply Imp.left; exact Imp.refl _))) | (apply EvC.now; exact rfl))); done) | exact rfl | (focus (repeat (first | apply List.Mem.head | apply List.Mem.tail | apply List.mem_append_right))))) | ((with_reducible apply t_pick); (apply EvC.now; exact rfl); (apply EvC.now; exact rfl))); (simp only [List.set_cons_succ, List.set_cons_zero]; exact rfl)))
    refine wpT_nil ?_
    clear hR; intro w hR
    go_wp2_with fail
    go_ret
    exact ⟨rfl, (hZ.own hR).below⟩

set_option maxRecDepth 100000 in
theorem lifted (os : Os) (started : os.Started) (H : Type) (enc : TypeId × Value → H) :
    ReturnsInHanded {} Try.checked os 4 .any (Rows.recSumsSpec.pre6 enc Try.prog Try.f4 Rows.recSumsRow.domain false) (Rows.recSumsSpec.post enc Try.prog Try.f4 false true false false) := by
  refine returnsInHanded_of_change (C := Try.checked) own started (by kernel_rfl) Try.func4
    (ChangeSpec.witness6 (enc := enc) (C := Try.checked) false ⟨#[], #[.int .u8 0, .slice none 0 0, .agg (encP 0 0)], []⟩ 8 (by kernel_rfl) (by kernel_rfl) (by kernel_rfl) (by kernel_rfl)) ?_
  intro W base args ds gs before hval0 hW hcnd _
  have hval : ∀ (j : Nat) t v, Try.f4.params[j]? = some t → args[j]? = some v → Value.okWide Try.prog W .any base t v := hval0
  have hW' := hW
  obtain ⟨p, q, hA0, hV, rfl, hfz, hnd⟩ := hW
  have hA : DataW.TrodAll enc Try.prog W 0 (fun _ => true) true Try.f4.params.toList args.toList ds p := hA0
  rw [Try.params4] at hA hval
  obtain ⟨v0, vs0, d0, ds0, p0, q0, hargs, rfl, rfl, h0, r0⟩ := trodAll_cons hA
  obtain ⟨v1, vs1, d1, ds1, p1, q1, rfl, rfl, rfl, h1, r1⟩ := trodAll_cons r0
  obtain ⟨v2, vs2, d2, ds2, p2, q2, rfl, rfl, rfl, h2, r2⟩ := trodAll_cons r1
  obtain ⟨rfl, rfl, rfl⟩ := trodAll_nil r2
  obtain rfl : args = #[v0, v1, v2] := by cases args; simp_all
  obtain ⟨rfl, rfl⟩ := trodVars_none hV
  obtain ⟨a0, rfl, rfl, rfl, w0⟩ := open_int Try.underlying5 (hval 0 5 v0 rfl rfl) h0
  have k1 := h1
  have lt1 : ∀ x ∈ p1, x.block < W.heap.size := by obtain ⟨m, hm⟩ := k1; exact DataW.trod_lt m _ _ _ hm
  have o1 := open_bytes (hval 1 22 v1 rfl rfl) h1
  have k2 := h2
  have lt2 : ∀ x ∈ p2, x.block < W.heap.size := by obtain ⟨m, hm⟩ := k2; exact DataW.trod_lt m _ _ _ hm
  clear hA0 hval0
  refine (walk a0 w0 v1 o1 v2 (hval 2 34 v2 rfl rfl) W).mono fun e W' ⟨he, bel⟩ => ?_
  subst he
  exact ⟨_, rfl, _, _, _, [], _, [], hW', trodAll_mk1 (shut_bool Try.underlying4 _), (trodAll_cons_mk (shut_int Try.underlying5 w0) (trodAll_cons_mk (Below.trod laidOut (by kernel_rfl) (of_decide_eq_true (by kernel_rfl)) k1 bel lt1) (trodAll_cons_mk (Below.trod laidOut (by kernel_rfl) (of_decide_eq_true (by kernel_rfl)) k2 bel lt2) trodAll_mk0))), rfl, bel.frame _, fun h => by cases h⟩

theorem over : Rows.recSumsRow.holds Try.pinned (OpenSpec.ofChange Rows.recSumsSpec) :=
  OpenClaim.holds_of_wide 4 Try.f4 rfl rfl rfl rfl rfl rfl rfl ⟨rfl, rfl, rfl, rfl, rfl⟩ rfl rfl rfl rfl rfl (by kernel_rfl) Try.func4 (by kernel_rfl)
    (of_decide_eq_true (by kernel_rfl)) (by unfold Func.isWrapper; first | (rw [if_pos (by decide +kernel)]; kernel_rfl) | (rw [if_neg (by decide +kernel)]; exact ⟨rfl, rfl⟩))
    (fun os started H enc _ => lifted os started H enc)

theorem proved : Rows.RecSumsSaid := over
#print axioms proved
end Go.Proofs.Ytkmeaadkiakbdaa.recSums
