









/- The contract of segs.Def. No statement of the seat is proved here. -/
import Derived.Test.YtmdiemebfmnmkaaSegD
namespace Go.Proofs.Ytmdiemebfmnmkaa
open Go.ChangeShapes Go.WideShapes Go.ChangeAt Go.RowKit
set_option linter.unusedVariables false
set_option linter.unusedSimpArgs false

/-! ### From one state of a source to a later one -/
structure Eats (s s' : SrcZ) : Prop where
  ok : s.ok → s'.ok
  len : s'.b.length ≤ s.b.length
  e : (s.e = 0 ∨ s.e = 2) → (s'.e = 0 ∨ s'.e = 2)
theorem Eats.refl (s : SrcZ) : Eats s s := ⟨id, Nat.le_refl _, id⟩
theorem Eats.trans {a b c : SrcZ} (h : Eats a b) (k : Eats b c) : Eats a c := ⟨fun x => k.ok (h.ok x), Nat.le_trans k.len h.len, fun x => k.e (h.e x)⟩
theorem take_eat (s : SrcZ) (n : Int) : Eats s (takeZ s n).2 := by
  refine ⟨fun h => (take_ok h n).2, take_len1 s n, fun h => ?_⟩
  unfold takeZ
  split
  · exact h
  · unfold wrongZ; split
    · exact .inr rfl
    · exact h
theorem num_eat {s s' : SrcZ} {k : Nat} {x : Int} (h : numZ s k = (x, s')) : Eats s s' := by
  have := take_eat s k
  rwa [show (takeZ s k).2 = s' from congrArg Prod.snd h] at this
theorem index_eat {s s' : SrcZ} {x : Int} (h : indexZ s = (x, s')) : Eats s s' := by
  have h1 : Eats s (numZ s 1).2 := take_eat s _
  have h2 := h1.trans (take_eat (numZ s 1).2 1)
  have h3 : Eats s (indexZ s).2 := by
    unfold indexZ
    split
    · exact h1
    · split
      · exact h2
      · exact h2
  rwa [h] at h3
theorem num_bdZ {s s' : SrcZ} {k : Nat} {x : Int} (hok : s.ok) (h : numZ s k = (x, s')) : 0 ≤ x ∧ x < 256 ^ k := by have := num_lt hok k; rwa [h] at this
theorem index_bdZ {s s' : SrcZ} {x : Int} (hok : s.ok) (h : indexZ s = (x, s')) : 0 ≤ x ∧ x ≤ 32767 := by have := index_range hok; rwa [h] at this
/-! ### A segment, as it is read -/
theorem got_parts (bs : List Int) : ∃ f z0 fr o z2 ln z3 nm z4 cl z5 ov z6, numZ ⟨bs, 0⟩ 1 = (f, z0) ∧ ((f / 32 = 0 ∧ ∃ z1, numZ z0 2 = (fr, z1) ∧ numZ z1 1 = (o, z2)) ∨ (f / 32 ≠ 0 ∧ fr = 0 ∧ o = 0 ∧ z2 = z0)) ∧
    numZ z2 2 = (ln, z3) ∧ indexZ z3 = (nm, z4) ∧ indexZ z4 = (cl, z5) ∧ indexZ z5 = (ov, z6) ∧ gotS bs = ⟨⟨f / 32, f / 4 % 8, fr, o, if f / 2 % 2 = 1 then 65536 else ln, nm, cl, ov⟩, f, ln, z6⟩ := by
  obtain ⟨⟨f, z0⟩, h0⟩ : ∃ p, numZ ⟨bs, 0⟩ 1 = p := ⟨_, rfl⟩
  have h12 : ∃ fr o z1 z2, (if f / 32 = 0 then numZ z0 2 else (0, z0)) = (fr, z1) ∧ (if f / 32 = 0 then numZ z1 1 else (0, z1)) = (o, z2) ∧ ((f / 32 = 0 ∧ ∃ z1, numZ z0 2 = (fr, z1) ∧ numZ z1 1 = (o, z2)) ∨ (f / 32 ≠ 0 ∧ fr = 0 ∧ o = 0 ∧ z2 = z0)) := by
    by_cases hf : f / 32 = 0
    · obtain ⟨⟨fr, z1⟩, h1⟩ : ∃ p, numZ z0 2 = p := ⟨_, rfl⟩
      obtain ⟨⟨o, z2⟩, h2⟩ : ∃ p, numZ z1 1 = p := ⟨_, rfl⟩
      exact ⟨fr, o, z1, z2, by rw [if_pos hf, h1], by rw [if_pos hf, h2], .inl ⟨hf, z1, h1, h2⟩⟩
    · exact ⟨0, 0, z0, z0, if_neg hf, if_neg hf, .inr ⟨hf, rfl, rfl, rfl⟩⟩
  obtain ⟨fr, o, z1, z2, h1, h2, hw⟩ := h12
  obtain ⟨⟨ln, z3⟩, h3⟩ : ∃ p, numZ z2 2 = p := ⟨_, rfl⟩
  obtain ⟨⟨nm, z4⟩, h4⟩ : ∃ p, indexZ z3 = p := ⟨_, rfl⟩
  obtain ⟨⟨cl, z5⟩, h5⟩ : ∃ p, indexZ z4 = p := ⟨_, rfl⟩
  obtain ⟨⟨ov, z6⟩, h6⟩ : ∃ p, indexZ z5 = p := ⟨_, rfl⟩
  refine ⟨f, z0, fr, o, z2, ln, z3, nm, z4, cl, z5, ov, z6, h0, hw, h3, h4, h5, h6, ?_⟩
  unfold gotS
  rw [h0]
  dsimp only
  rw [h1]
  dsimp only
  rw [h2]
  dsimp only
  rw [h3]
  dsimp only
  rw [h4]
  dsimp only
  rw [h5]
  dsimp only
  rw [h6]
/-- What the program holds: a length of 2^16 is added to the one beside it. -/
def lenC (f ln : Int) : Int := if f / 2 % 2 = 1 then ln + 65536 else ln
theorem lenC_may {f ln : Int} {a c fr o nm cl ov : Int} (hl : 0 ≤ ln ∧ ln ≤ 65535) (h : mayS ⟨a, c, fr, o, lenC f ln, nm, cl, ov⟩ = true) :
    (f / 2 % 2 = 1 → ln = 0) ∧ lenC f ln = if f / 2 % 2 = 1 then 65536 else ln := by
  have h1 := ((mayS_iff _).1 h).l
  dsimp only at h1
  unfold lenC at h1 ⊢
  split at h1
  · rename_i hw
    refine ⟨fun _ => by omega, ?_⟩
    rw [if_pos hw, if_pos hw]; omega
  · rename_i hw
    exact ⟨fun h => absurd h hw, by rw [if_neg hw, if_neg hw]⟩
theorem lenC_back {f ln : Int} (h : f / 2 % 2 = 1 → ln = 0) : lenC f ln = if f / 2 % 2 = 1 then 65536 else ln := by
  unfold lenC
  split
  · rename_i hw; rw [h hw]; rfl
  · rfl
theorem segOf_yes {bs : List Int} {f ln : Int} {a c fr o nm cl ov : Int} {z6 : SrcZ} (hl : 0 ≤ ln ∧ ln ≤ 65535) (hg : gotS bs = ⟨⟨a, c, fr, o, if f / 2 % 2 = 1 then 65536 else ln, nm, cl, ov⟩, f, ln, z6⟩)
    (he : z6.e = 0) (hb : z6.b = []) (hf : f % 2 = 0) (hm : mayS ⟨a, c, fr, o, lenC f ln, nm, cl, ov⟩ = true) : segOf bs = some ⟨a, c, fr, o, lenC f ln, nm, cl, ov⟩ := by
  obtain ⟨h1, h2⟩ := lenC_may hl hm
  rw [h2] at hm
  unfold segOf
  rw [hg, h2]
  refine if_pos ?_
  unfold goodS
  simp only [Bool.and_eq_true, Bool.or_eq_true, Bool.not_eq_true', decide_eq_true_eq, decide_eq_false_iff_not]
  refine ⟨⟨⟨⟨he, hb⟩, hf⟩, ?_⟩, hm⟩
  by_cases hw : f / 2 % 2 = 1
  · exact .inr (h1 hw)
  · exact .inl hw
theorem segOf_no {bs : List Int} {f ln : Int} {a c fr o nm cl ov : Int} {z6 : SrcZ} (hg : gotS bs = ⟨⟨a, c, fr, o, if f / 2 % 2 = 1 then 65536 else ln, nm, cl, ov⟩, f, ln, z6⟩)
    (h : z6.e ≠ 0 ∨ z6.b ≠ [] ∨ f % 2 ≠ 0 ∨ mayS ⟨a, c, fr, o, lenC f ln, nm, cl, ov⟩ = false) : segOf bs = none := by
  unfold segOf
  rw [hg]
  refine if_neg fun hgd => ?_
  unfold goodS at hgd
  simp only [Bool.and_eq_true, Bool.or_eq_true, Bool.not_eq_true', decide_eq_true_eq, decide_eq_false_iff_not] at hgd
  obtain ⟨⟨⟨⟨he, hb⟩, hf⟩, hw⟩, hm⟩ := hgd
  have hw' : f / 2 % 2 = 1 → ln = 0 := fun h => hw.resolve_left (fun hn => hn h)
  rw [lenC_back hw'] at h
  rcases h with h | h | h | h
  · exact h he
  · exact h hb
  · exact h hf
  · rw [hm] at h; exact nomatch h
theorem and7 {x : Int} (h0 : 0 ≤ x) (h1 : x ≤ 255) : bits .and .u8 x 7 = x % 8 := by
  have := (by decide +kernel : ∀ n : Fin 256, bits .and .u8 ((n.val : Nat) : Int) 7 = ((n.val : Nat) : Int) % 8) ⟨x.toNat, by omega⟩
  rwa [show ((x.toNat : Nat) : Int) = x by omega] at this
theorem and2 {x : Int} (h0 : 0 ≤ x) (h1 : x ≤ 255) : bits .and .u8 x 2 = 2 * (x / 2 % 2) := by
  have := (by decide +kernel : ∀ n : Fin 256, bits .and .u8 ((n.val : Nat) : Int) 2 = 2 * (((n.val : Nat) : Int) / 2 % 2)) ⟨x.toNat, by omega⟩
  rwa [show ((x.toNat : Nat) : Int) = x by omega] at this
theorem and1 {x : Int} (h0 : 0 ≤ x) (h1 : x ≤ 255) : bits .and .u8 x 1 = x % 2 := by
  have := (by decide +kernel : ∀ n : Fin 256, bits .and .u8 ((n.val : Nat) : Int) 1 = ((n.val : Nat) : Int) % 2) ⟨x.toNat, by omega⟩
  rwa [show ((x.toNat : Nat) : Int) = x by omega] at this
theorem t_pixA {P : Program} {C : World → Prop} {tp : TypeId} {pos : String} {af : Array Edge} {gd : Option (Nat × Bool)} {ls : List Value} {ds : List Deferred} {c : Bool} {dd : Option Tmp} {ty e : TypeId} {x ix : Operand} {g n k : Nat} {q : IntKind} {j : Int} (hu : P.underlying ty = some (.array n e)) (hz : (P.info? e).map (·.size) = some 1)
    (hx : EvC ls c x (.pointer (some ⟨g, 0, none⟩))) (hi : EvC ls c ix (.int q j)) (hj : j = k ∧ k < n) : TIf P C c ⟨dd, .indexAddr ty x ix, tp, pos, af, gd⟩ ⟨ls.toArray, ds⟩ (.pointer (some ⟨g, k, none⟩)) := by
  obtain ⟨rfl, h⟩ := hj
  exact ⟨fun h => .inl fun w _ => run_gix hu hz rfl (eval_of (hx.of h)) (eval_of (hi.of h)) (by omega)⟩
theorem bSeg2 (a c : Int) : Built Try.prog 24 [(0, .int .i64 a), (1, .int .i64 c)] (encSeg ⟨a, c, 0, 0, 0, 0, 0, 0⟩) := ⟨by kernel_rfl⟩
theorem bSeg0 : Built Try.prog 24 [] (encSeg zeroS) := ⟨by kernel_rfl⟩
theorem put_n5 (s : SegZ) (x : Int) : PutRel (encSeg s) 5 [.int .i64 x] (encSeg { s with n := x }) := ⟨rfl⟩
theorem put_k6 (s : SegZ) (x : Int) : PutRel (encSeg s) 6 [.int .i64 x] (encSeg { s with k := x }) := ⟨rfl⟩
theorem put_v7 (s : SegZ) (x : Int) : PutRel (encSeg s) 7 [.int .i64 x] (encSeg { s with v := x }) := ⟨rfl⟩
def zK (z3 z4 z5 z6 : SrcZ) : Nat → SrcZ
  | 0 => z3
  | 1 => z4
  | 2 => z5
  | _ => z6
def aK (x y v : Int) : Nat → Array Value
  | 0 => encArr 0 0 0
  | 1 => encArr x 0 0
  | 2 => encArr x y 0
  | _ => encArr x y v
theorem aK_size (x y v : Int) (k : Nat) : (aK x y v k).size = 3 := by
  match k with
  | 0 => rfl
  | 1 => rfl
  | 2 => rfl
  | _ + 3 => rfl
theorem stepK {b : SrcZ} {z3 z4 z5 z6 : SrcZ} {x y v : Int} (t3 : Eats b z3) (t4 : Eats b z4) (t5 : Eats b z5) (e4 : indexZ z3 = (x, z4)) (e5 : indexZ z4 = (y, z5)) (e6 : indexZ z5 = (v, z6)) {k : Nat} (h : k < 3) :
    ∃ n, indexZ (zK z3 z4 z5 z6 k) = (n, zK z3 z4 z5 z6 (k + 1)) ∧ PutRel (aK x y v k) k [.int .i64 n] (aK x y v (k + 1)) ∧ Eats b (zK z3 z4 z5 z6 k) := by
  match k, h with
  | 0, _ => exact ⟨x, e4, ⟨rfl⟩, t3⟩
  | 1, _ => exact ⟨y, e5, ⟨rfl⟩, t4⟩
  | 2, _ => exact ⟨v, e6, ⟨rfl⟩, t5⟩
theorem end_ways {z : SrcZ} (hok : z.ok) (he : z.e = 0 ∨ z.e = 2) : ((endZ z).e = 0 ∧ z.e = 0 ∧ z.b = []) ∨ (((endZ z).e = 2 ∨ (endZ z).e = 3) ∧ (z.e ≠ 0 ∨ z.b ≠ [])) := by
  unfold endZ
  by_cases hb : z.b = []
  · rw [if_pos hb]
    rcases he with he | he
    · exact .inl ⟨he, he, hb⟩
    · exact .inr ⟨.inl he, .inl (by omega)⟩
  · rw [if_neg hb]
    have h0 : z.e = 0 := by
      by_cases h : z.e = 0
      · exact h
      · exact absurd (hok.2 h) hb
    unfold wrongZ
    rw [if_pos h0]
    exact .inr ⟨.inr rfl, .inr hb⟩
set_option maxHeartbeats 4000000 in
set_option maxRecDepth 100000 in
theorem segDef_any {w0 : World} {v : Value} {bs : List Int} (h : SrcW w0 v bs) (hl : bs.length ≤ 1000000) :
    Calls Try.prog 11 #[v] w0 fun e w' => ∃ d x, e = .returned (.tuple #[.agg (encSeg d), .int .i64 x]) ∧ Below w0.heap.size w0 w' ∧ ((segOf bs = some d ∧ x = 0) ∨ (segOf bs = none ∧ d = zeroS ∧ (x = 2 ∨ x = 3))) := by
  have hR := Own.start w0
  have hokb : SrcZ.ok ⟨bs, 0⟩ := ⟨h.ok, fun hn => absurd rfl hn⟩
  obtain ⟨f, z0, fr, o, z2, ln, z3, nm, z4, cl, z5, ov, z6, e0, hw, e3, e4, e5, e6, hg⟩ := got_parts bs
  have t0 := num_eat e0
  have t2 : Eats ⟨bs, 0⟩ z2 := by
    rcases hw with ⟨_, z1, h1, h2⟩ | ⟨_, _, _, rfl⟩
    · exact (t0.trans (num_eat h1)).trans (num_eat h2)
    · exact t0
  have t3 := t2.trans (num_eat e3)
  have t4 := t3.trans (index_eat e4)
  have t5 := t4.trans (index_eat e5)
  have t6 := t5.trans (index_eat e6)
  have hfb : 0 ≤ f ∧ f ≤ 255 := by have := num_bdZ hokb e0; omega
  have hlb : 0 ≤ ln ∧ ln ≤ 65535 := by have := num_bdZ (t2.ok hokb) e3; omega
  obtain ⟨a, ha⟩ : ∃ a, f / 32 = a := ⟨_, rfl⟩
  obtain ⟨q, hq⟩ : ∃ q, f / 4 = q := ⟨_, rfl⟩
  obtain ⟨c, hc⟩ : ∃ c, q % 8 = c := ⟨_, rfl⟩
  obtain ⟨y2, hy2⟩ : ∃ y, 2 * (f / 2 % 2) = y := ⟨_, rfl⟩
  obtain ⟨y1, hy1⟩ : ∃ y, f % 2 = y := ⟨_, rfl⟩
  have H5 := Lib.hid (show f / 2 ^ 5 = a from ha)
  have H2 := Lib.hid (show f / 2 ^ 2 = q from hq)
  have HA := Lib.hid (show bits .and .u8 q 7 = c by rw [← hc]; exact and7 (by omega) (by omega))
  have HC5 := Lib.hid (show IntKind.i64.wrap a = a from IntWalk.i64_in _ (by omega))
  have HC2 := Lib.hid (show IntKind.i64.wrap c = c from IntWalk.i64_in _ (by omega))
  have HCL := Lib.hid (show IntKind.i64.wrap ln = ln from IntWalk.i64_in _ (by omega))
  have HW2 := Lib.hid (show bits .and .u8 f 2 = y2 from (and2 hfb.1 hfb.2).trans hy2)
  have HW1 := Lib.hid (show bits .and .u8 f 1 = y1 from (and1 hfb.1 hfb.2).trans hy1)
  have HLC := Lib.hid (show lenC f ln = if y2 = 0 then ln else ln + 65536 by unfold lenC; rw [← hy2]; split <;> split <;> omega)
  rw [ha, hq, hc] at hg
  rw [ha] at hw
  have HY := Lib.hid (fun hx he hb hm => segOf_yes hlb hg he hb (hy1.trans hx) hm)
  have HN := Lib.hid (fun hx => segOf_no hg hx)
  have HF1 := Lib.hid hy1
  have HT0 := Lib.hid t0; have HT2 := Lib.hid t2; have HT3 := Lib.hid t3; have HT4 := Lib.hid t4; have HT5 := Lib.hid t5; have HT6 := Lib.hid t6
  have HE0 := Lib.hid e0; have HE3 := Lib.hid e3; have HE4 := Lib.hid e4; have HE5 := Lib.hid e5; have HE6 := Lib.hid e6
  have HWAY := Lib.hid hw
  have HAD := Lib.hid (show IntKind.i64.wrap (ln + 65536) = ln + 65536 from IntWalk.i64_in _ (by omega))
  have hlz (z : SrcZ) (t : Eats ⟨bs, 0⟩ z) : z.b.length ≤ 1000000 := Nat.le_trans t.len hl
  clear hg hy1 hy2 hc hq ha hw t0 t2 t3 t4 t5 t6 e0 e3 e4 e5 e6 hfb hlb
  go_enter Try.func11, Try.ntmps11
  go_wp2_with (first
    | ((with_reducible apply wpList_make hR zSeg); exact rfl; clear hR; intro gr w hR; simp only [List.set_cons_succ, List.set_cons_zero]))
  refine (fromG_any hR (src_start h) (fun _ hr => nomatch hr) hl).mono ?_
  rintro e w' ⟨gs, cs, sr, rfl, hO, hS⟩
  clear hR
  have hR := hO
  clear hO
  have hY0 : ∀ r ∈ sr, r ∈ sr ++ [(gr, encSeg zeroS, 24)] := fun r hr => List.mem_append_left _ hr
  go_upto_if 24 with (first
    | (go_at_call 25; refine (byteX_any hR Les.one hY0 hS (hokb) (hl)).mono ?_; rw [HE0.out]; rintro e w' ⟨rfl, cs2, hR2, hS2⟩; clear hR hS; have hR := hR2; have hS := hS2; clear hR2 hS2)
    | ((with_reducible apply q_ls hR); exact rfl; (with_reducible apply t_shrE (k := 5)); (apply EvC.now; exact rfl); (apply EvC.now; exact rfl); exact rfl; (decide); exact H5.out; (simp only [List.set_cons_succ, List.set_cons_zero]; exact rfl); clear hR; intro w hR)
    | ((with_reducible apply q_ls hR); exact rfl; (with_reducible apply t_shrE (k := 2)); (apply EvC.now; exact rfl); (apply EvC.now; exact rfl); exact rfl; (decide); exact H2.out; (simp only [List.set_cons_succ, List.set_cons_zero]; exact rfl); clear hR; intro w hR)
    | ((with_reducible apply q_ls hR); exact rfl; (with_reducible apply t_numE (op := .and)); (apply EvC.now; exact rfl); (apply EvC.now; exact rfl); exact rfl; exact HA.out; (simp only [List.set_cons_succ, List.set_cons_zero]; exact rfl); clear hR; intro w hR)
    | ((with_reducible apply q_ls hR); exact rfl; (with_reducible apply t_conv Try.underlying5 Try.underlying3); (apply EvC.now; exact rfl); (with_reducible first | exact HC5.out | exact HC2.out); (simp only [List.set_cons_succ, List.set_cons_zero]; exact rfl); clear hR; intro w hR)
    | ((with_reducible apply wpList_built); exact rfl; exact rfl; exact bSeg2 _ _; (simp only [List.set_cons_succ, List.set_cons_zero]; exact rfl))
    | ((with_reducible apply wpList_make hR zSeg); exact rfl; clear hR; intro g w hR; simp only [List.set_cons_succ, List.set_cons_zero])
    | ((with_reducible apply wpList_put hR tSeg); exact rfl; exact rfl; exact rfl; (focus (repeat (first | apply List.Mem.head | apply List.Mem.tail | apply List.mem_append_right))); exact put_seg _ _; exact rfl; simp [encSeg]; exact one_seg _; (focus (repeat (first | apply Upd.head | apply Upd.tail | apply Upd.skipC))); clear hR; intro w hR)
    | ((with_reducible apply q_ls hR); exact rfl; ((with_reducible first | apply t_addr (fRec _ (by decide)) | apply t_addr (fSeg _ (by decide)) | apply t_one tByteR | apply t_one tSlR | apply t_one tIntR | apply t_one tWordS | apply t_part tSeg) <;> (first | (apply EvC.gv; exact rfl; (with_reducible first | exact Imp.refl _ | (apply Imp.left; exact Imp.refl _) | (apply Imp.right; exact Imp.refl _) | (apply Imp.left; apply Imp.left; exact Imp.refl _))) | (apply EvC.now; exact rfl) | exact rfl | (with_reducible exact EvAll.nil) | (focus (repeat (first | apply EvAll.cons | exact EvAll.nil | (apply EvC.gv; exact rfl; (with_reducible first | exact Imp.refl _ | (apply Imp.left; exact Imp.refl _) | (apply Imp.right; exact Imp.refl _) | (apply Imp.left; apply Imp.left; exact Imp.refl _))) | (apply EvC.now; exact rfl))); done) | exact ext_seg _ | (focus (repeat (first | apply List.Mem.head | apply List.Mem.tail | apply List.mem_append_right))))); (simp only [List.set_cons_succ, List.set_cons_zero]; exact rfl); clear hR; intro w hR))
  replace hR := hR.les (Les.tail Les.one)
  have hY1 (d : SegZ) : ∀ r ∈ sr, r ∈ (g, encSeg d, 24) :: (sr ++ [(gr, encSeg zeroS, 24)]) := fun r hr => .tail _ (List.mem_append_left _ hr)
  go_cut [] (fun wr => ∃ cs, Own w0 wr ((gs, cs, 66) :: (g, encSeg ⟨a, c, fr, o, 0, 0, 0, 0⟩, 24) :: (sr ++ [(gr, encSeg zeroS, 24)])) ∧ SrcObj w0 sr cs z2)
  case first =>
    rcases HWAY.out with ⟨h0, z1, h1, h2⟩ | ⟨h0, rfl, rfl, rfl⟩
    · refine wp_cond_at (nm := true) rfl (by simp [h0]) (fun _ => ?_) (fun h => absurd h (by decide))
      have u1 := HT0.out.trans (num_eat h1)
      have H1 := Lib.hid h1
      have HB := Lib.hid h2
      clear h0 h1 h2
      go_wp2_with (first
    | (go_at_call 26; refine (wordX_any hR Les.one (hY1 _) hS (HT0.out.ok hokb) (hlz _ HT0.out)).mono ?_; rw [H1.out]; rintro e w' ⟨rfl, cs2, hR2, hS2⟩; clear hR hS; have hR := hR2; have hS := hS2; clear hR2 hS2)
    | (go_at_call 25; refine (byteX_any hR Les.one (hY1 _) hS (u1.ok hokb) (hlz _ u1)).mono ?_; rw [HB.out]; rintro e w' ⟨rfl, cs2, hR2, hS2⟩; clear hR hS; have hR := hR2; have hS := hS2; clear hR2 hS2)
    | ((with_reducible apply wpList_put1 hR tWordS); exact rfl; exact rfl; exact rfl; (focus (repeat (first | apply List.Mem.head | apply List.Mem.tail | apply List.mem_append_right))); (exact put_f _ _); (simp [encSeg]); exact rfl; (focus (repeat (first | apply Upd.head | apply Upd.tail | apply Upd.skipC))); clear hR; intro w hR)
    | ((with_reducible apply wpList_put1 hR tByteR); exact rfl; exact rfl; exact rfl; (focus (repeat (first | apply List.Mem.head | apply List.Mem.tail | apply List.mem_append_right))); (exact put_o _ _); (simp [encSeg]); exact rfl; (focus (repeat (first | apply Upd.head | apply Upd.tail | apply Upd.skipC))); clear hR; intro w hR)
    | ((with_reducible apply q_ls hR); exact rfl; ((with_reducible first | apply t_addr (fRec _ (by decide)) | apply t_addr (fSeg _ (by decide)) | apply t_one tByteR | apply t_one tSlR | apply t_one tIntR | apply t_one tWordS | apply t_part tSeg) <;> (first | (apply EvC.gv; exact rfl; (with_reducible first | exact Imp.refl _ | (apply Imp.left; exact Imp.refl _) | (apply Imp.right; exact Imp.refl _) | (apply Imp.left; apply Imp.left; exact Imp.refl _))) | (apply EvC.now; exact rfl) | exact rfl | (with_reducible exact EvAll.nil) | (focus (repeat (first | apply EvAll.cons | exact EvAll.nil | (apply EvC.gv; exact rfl; (with_reducible first | exact Imp.refl _ | (apply Imp.left; exact Imp.refl _) | (apply Imp.right; exact Imp.refl _) | (apply Imp.left; apply Imp.left; exact Imp.refl _))) | (apply EvC.now; exact rfl))); done) | exact ext_seg _ | (focus (repeat (first | apply List.Mem.head | apply List.Mem.tail | apply List.mem_append_right))))); (simp only [List.set_cons_succ, List.set_cons_zero]; exact rfl); clear hR; intro w hR))
      go_meet
      exact ⟨_, hR, hS⟩
    · refine wp_cond_at (nm := false) rfl (by simp [h0]) (fun h => absurd h (by decide)) (fun _ => ?_)
      go_wp2_with fail
      go_meet
      exact ⟨_, hR, hS⟩
  case rest =>
  clear hR hS
  obtain ⟨cs1, hR, hS⟩ := hcut
  go_upto_if 37 with (first
    | (go_at_call 26; refine (wordX_any hR Les.one (hY1 _) hS (HT2.out.ok hokb) (hlz _ HT2.out)).mono ?_; rw [HE3.out]; rintro e w' ⟨rfl, cs2, hR2, hS2⟩; clear hR hS; have hR := hR2; have hS := hS2; clear hR2 hS2)
    | ((with_reducible apply q_ls hR); exact rfl; (with_reducible apply t_conv Try.underlying22 Try.underlying3); (apply EvC.now; exact rfl); exact HCL.out; (simp only [List.set_cons_succ, List.set_cons_zero]; exact rfl); clear hR; intro w hR)
    | ((with_reducible apply q_ls hR); exact rfl; (with_reducible apply t_numE (op := .and)); (apply EvC.now; exact rfl); (apply EvC.now; exact rfl); exact rfl; exact HW2.out; (simp only [List.set_cons_succ, List.set_cons_zero]; exact rfl); clear hR; intro w hR)
    | ((with_reducible apply wpList_put1 hR tIntR); exact rfl; exact rfl; exact rfl; (focus (repeat (first | apply List.Mem.head | apply List.Mem.tail | apply List.mem_append_right))); (exact put_l _ _); (simp [encSeg]); exact rfl; (focus (repeat (first | apply Upd.head | apply Upd.tail | apply Upd.skipC))); clear hR; intro w hR)
    | ((with_reducible apply q_ls hR); exact rfl; ((with_reducible first | apply t_addr (fRec _ (by decide)) | apply t_addr (fSeg _ (by decide)) | apply t_one tByteR | apply t_one tSlR | apply t_one tIntR | apply t_one tWordS | apply t_part tSeg) <;> (first | (apply EvC.gv; exact rfl; (with_reducible first | exact Imp.refl _ | (apply Imp.left; exact Imp.refl _) | (apply Imp.right; exact Imp.refl _) | (apply Imp.left; apply Imp.left; exact Imp.refl _))) | (apply EvC.now; exact rfl) | exact rfl | (with_reducible exact EvAll.nil) | (focus (repeat (first | apply EvAll.cons | exact EvAll.nil | (apply EvC.gv; exact rfl; (with_reducible first | exact Imp.refl _ | (apply Imp.left; exact Imp.refl _) | (apply Imp.right; exact Imp.refl _) | (apply Imp.left; apply Imp.left; exact Imp.refl _))) | (apply EvC.now; exact rfl))); done) | exact ext_seg _ | (focus (repeat (first | apply List.Mem.head | apply List.Mem.tail | apply List.mem_append_right))))); (simp only [List.set_cons_succ, List.set_cons_zero]; exact rfl); clear hR; intro w hR))
  go_cut [] (fun wr => ∃ cs, Own w0 wr ((gs, cs, 66) :: (g, encSeg ⟨a, c, fr, o, lenC f ln, 0, 0, 0⟩, 24) :: (sr ++ [(gr, encSeg zeroS, 24)])) ∧ SrcObj w0 sr cs z3)
  case first =>
    by_cases hy : y2 = 0
    · refine wp_cond_at (nm := false) rfl (by simp [hy]) (fun h => absurd h (by decide)) (fun _ => ?_)
      go_wp2_with fail
      go_meet
      rw [HLC.out, if_pos hy]
      exact ⟨_, hR, hS⟩
    · refine wp_cond_at (nm := true) rfl (by simp [hy]) (fun _ => ?_) (fun h => absurd h (by decide))
      go_wp2_with (first
    | ((with_reducible apply q_ls hR); exact rfl; (with_reducible apply t_numE (op := .add)); (apply EvC.now; exact rfl); (apply EvC.now; exact rfl); exact rfl; exact HAD.out; (simp only [List.set_cons_succ, List.set_cons_zero]; exact rfl); clear hR; intro w hR)
    | ((with_reducible apply wpList_put1 hR tIntR); exact rfl; exact rfl; exact rfl; (focus (repeat (first | apply List.Mem.head | apply List.Mem.tail | apply List.mem_append_right))); (exact put_l _ _); (simp [encSeg]); exact rfl; (focus (repeat (first | apply Upd.head | apply Upd.tail | apply Upd.skipC))); clear hR; intro w hR)
    | ((with_reducible apply q_ls hR); exact rfl; ((with_reducible first | apply t_addr (fRec _ (by decide)) | apply t_addr (fSeg _ (by decide)) | apply t_one tByteR | apply t_one tSlR | apply t_one tIntR | apply t_one tWordS | apply t_part tSeg) <;> (first | (apply EvC.gv; exact rfl; (with_reducible first | exact Imp.refl _ | (apply Imp.left; exact Imp.refl _) | (apply Imp.right; exact Imp.refl _) | (apply Imp.left; apply Imp.left; exact Imp.refl _))) | (apply EvC.now; exact rfl) | exact rfl | (with_reducible exact EvAll.nil) | (focus (repeat (first | apply EvAll.cons | exact EvAll.nil | (apply EvC.gv; exact rfl; (with_reducible first | exact Imp.refl _ | (apply Imp.left; exact Imp.refl _) | (apply Imp.right; exact Imp.refl _) | (apply Imp.left; apply Imp.left; exact Imp.refl _))) | (apply EvC.now; exact rfl))); done) | exact ext_seg _ | (focus (repeat (first | apply List.Mem.head | apply List.Mem.tail | apply List.mem_append_right))))); (simp only [List.set_cons_succ, List.set_cons_zero]; exact rfl); clear hR; intro w hR))
      go_meet
      rw [HLC.out, if_neg hy]
      exact ⟨_, hR, hS⟩
  case rest =>
  clear hR hS
  obtain ⟨cs2, hR, hS⟩ := hcut
  generalize lenC f ln = lc at *
  clear HLC HAD HW2 HCL HC2 HC5 HA H2 H5 HWAY HE0 HE3
  have HST := Lib.hid (fun (k : Nat) (h : k < 3) => stepK HT3.out HT4.out HT5.out HE4.out HE5.out HE6.out h)
  go_wp2_with (first
    | ((with_reducible apply wpList_make hR zArr); exact rfl; clear hR; intro ga w hR; simp only [List.set_cons_succ, List.set_cons_zero]))
  replace hR := hR.les (Les.tail Les.one)
  go_loopw [42] (fun i wr => ∃ (k : Nat) (cs : Array Value), i = .int .i64 k ∧ k ≤ 3 ∧ Own w0 wr ((gs, cs, 66) :: (ga, aK nm cl ov k, 51) :: (g, encSeg ⟨a, c, fr, o, lc, 0, 0, 0⟩, 24) :: (sr ++ [(gr, encSeg zeroS, 24)])) ∧ SrcObj w0 sr cs (zK z3 z4 z5 z6 k)) (fun i _ => 3 - (intOf i).toNat)
  case atStart => exact ⟨0, cs2, rfl, by decide, hR, hS⟩
  case round =>
    clear hR hS
    obtain ⟨k, cs3, rfl, hk, hR, hS⟩ := hrel
    by_cases hk3 : k < 3
    · obtain ⟨n, hn, hp, ht⟩ := HST.out k hk3
      have HX := Lib.hid hn
      have hsz := aK_size nm cl ov k
      have hY2 : ∀ r ∈ sr, r ∈ (ga, aK nm cl ov k, 51) :: (g, encSeg ⟨a, c, fr, o, lc, 0, 0, 0⟩, 24) :: (sr ++ [(gr, encSeg zeroS, 24)]) := fun r hr => .tail _ (.tail _ (List.mem_append_left _ hr))
      clear hn
      go_wp2_with (first
    | (go_at_call 27; refine (indexX_any hR Les.one hY2 hS (ht.ok hokb) (hlz _ ht)).mono ?_; rw [HX.out]; rintro e w' ⟨rfl, cs2, hR2, hS2⟩; clear hR hS; have hR := hR2; have hS := hS2; clear hR2 hS2)
    | ((with_reducible apply q_ls hR); exact rfl; (with_reducible apply t_pixA (k := k) Try.underlying51 iIntO); (apply EvC.now; exact rfl); (apply EvC.now; exact rfl); (exact ⟨rfl, hk3⟩); (simp only [List.set_cons_succ, List.set_cons_zero]; exact rfl); clear hR; intro w hR)
    | ((with_reducible apply wpList_put1 hR tIntR); exact rfl; exact rfl; exact rfl; (focus (repeat (first | apply List.Mem.head | apply List.Mem.tail | apply List.mem_append_right))); (exact hp); (rw [hsz]; omega); exact rfl; (focus (repeat (first | apply Upd.head | apply Upd.tail | apply Upd.skipC))); clear hR; intro w hR)
    | ((with_reducible apply q_ls hR); exact rfl; ((with_reducible first | apply t_addr (fRec _ (by decide)) | apply t_addr (fSeg _ (by decide)) | apply t_one tByteR | apply t_one tSlR | apply t_one tIntR | apply t_one tWordS | apply t_part tSeg) <;> (first | (apply EvC.gv; exact rfl; (with_reducible first | exact Imp.refl _ | (apply Imp.left; exact Imp.refl _) | (apply Imp.right; exact Imp.refl _) | (apply Imp.left; apply Imp.left; exact Imp.refl _))) | (apply EvC.now; exact rfl) | exact rfl | (with_reducible exact EvAll.nil) | (focus (repeat (first | apply EvAll.cons | exact EvAll.nil | (apply EvC.gv; exact rfl; (with_reducible first | exact Imp.refl _ | (apply Imp.left; exact Imp.refl _) | (apply Imp.right; exact Imp.refl _) | (apply Imp.left; apply Imp.left; exact Imp.refl _))) | (apply EvC.now; exact rfl))); done) | exact ext_seg _ | (focus (repeat (first | apply List.Mem.head | apply List.Mem.tail | apply List.mem_append_right))))); (simp only [List.set_cons_succ, List.set_cons_zero]; exact rfl); clear hR; intro w hR))
      go_round
      case rel => exact ⟨k + 1, _, rfl, by omega, hR, hS⟩
      case measure => simp [intOf]; omega
    · obtain rfl : k = 3 := by omega
      clear hk hk3 HST
      replace hR : Own w0 _ ((gs, cs3, 66) :: (ga, encArr nm cl ov, 51) :: (g, encSeg ⟨a, c, fr, o, lc, 0, 0, 0⟩, 24) :: (sr ++ [(gr, encSeg zeroS, 24)])) := hR
      replace hS : SrcObj w0 sr cs3 z6 := hS
      go_upto_region 15 with fail
      refine wp_region_some hR [(ga, encArr nm cl ov, 51)] (by (focus (repeat (with_reducible first | exact List.Sublist.slnil | exact List.nil_sublist _ | exact List.Sublist.refl _ | exact List.sublist_append_right _ _ | apply List.Sublist.cons_cons | apply List.Sublist.cons | apply sub_rightI)))) [0, 1, 2, 3, 4, 5, 6] 5 (by kernel_rfl) (by kernel_rfl) (by kernel_rfl) rfl ?_
      clear hR; intro hR
      repeat (refine wpT_step rfl ?_; first
    | ((first | (with_reducible apply q_pl) | ((with_reducible apply q_gd); (first | (apply GdBy.gt; exact rfl; exact rfl) | (apply GdBy.gf; exact rfl; exact rfl) | (apply GdBy.t; exact rfl; exact rfl) | (apply GdBy.f; exact rfl; exact rfl)))); (with_reducible apply t_pixA (k := 0) Try.underlying51 iIntO); (first | (apply EvC.gv; exact rfl; (with_reducible first | exact Imp.refl _ | (apply Imp.left; exact Imp.refl _) | (apply Imp.right; exact Imp.refl _) | (apply Imp.left; apply Imp.left; exact Imp.refl _))) | (apply EvC.now; exact rfl) | exact rfl | (with_reducible exact EvAll.nil) | (focus (repeat (first | apply EvAll.cons | exact EvAll.nil | (apply EvC.gv; exact rfl; (with_reducible first | exact Imp.refl _ | (apply Imp.left; exact Imp.refl _) | (apply Imp.right; exact Imp.refl _) | (apply Imp.left; apply Imp.left; exact Imp.refl _))) | (apply EvC.now; exact rfl))); done) | exact ext_seg _ | (focus (repeat (first | apply List.Mem.head | apply List.Mem.tail | apply List.mem_append_right)))); (first | (apply EvC.gv; exact rfl; (with_reducible first | exact Imp.refl _ | (apply Imp.left; exact Imp.refl _) | (apply Imp.right; exact Imp.refl _) | (apply Imp.left; apply Imp.left; exact Imp.refl _))) | (apply EvC.now; exact rfl) | exact rfl | (with_reducible exact EvAll.nil) | (focus (repeat (first | apply EvAll.cons | exact EvAll.nil | (apply EvC.gv; exact rfl; (with_reducible first | exact Imp.refl _ | (apply Imp.left; exact Imp.refl _) | (apply Imp.right; exact Imp.refl _) | (apply Imp.left; apply Imp.left; exact Imp.refl _))) | (apply EvC.now; exact rfl))); done) | exact ext_seg _ | (focus (repeat (first | apply List.Mem.head | apply List.Mem.tail | apply List.mem_append_right)))); (decide); (simp only [List.set_cons_succ, List.set_cons_zero]; exact rfl))
    | ((first | (with_reducible apply q_pl) | ((with_reducible apply q_gd); (first | (apply GdBy.gt; exact rfl; exact rfl) | (apply GdBy.gf; exact rfl; exact rfl) | (apply GdBy.t; exact rfl; exact rfl) | (apply GdBy.f; exact rfl; exact rfl)))); (with_reducible apply t_pixA (k := 1) Try.underlying51 iIntO); (first | (apply EvC.gv; exact rfl; (with_reducible first | exact Imp.refl _ | (apply Imp.left; exact Imp.refl _) | (apply Imp.right; exact Imp.refl _) | (apply Imp.left; apply Imp.left; exact Imp.refl _))) | (apply EvC.now; exact rfl) | exact rfl | (with_reducible exact EvAll.nil) | (focus (repeat (first | apply EvAll.cons | exact EvAll.nil | (apply EvC.gv; exact rfl; (with_reducible first | exact Imp.refl _ | (apply Imp.left; exact Imp.refl _) | (apply Imp.right; exact Imp.refl _) | (apply Imp.left; apply Imp.left; exact Imp.refl _))) | (apply EvC.now; exact rfl))); done) | exact ext_seg _ | (focus (repeat (first | apply List.Mem.head | apply List.Mem.tail | apply List.mem_append_right)))); (first | (apply EvC.gv; exact rfl; (with_reducible first | exact Imp.refl _ | (apply Imp.left; exact Imp.refl _) | (apply Imp.right; exact Imp.refl _) | (apply Imp.left; apply Imp.left; exact Imp.refl _))) | (apply EvC.now; exact rfl) | exact rfl | (with_reducible exact EvAll.nil) | (focus (repeat (first | apply EvAll.cons | exact EvAll.nil | (apply EvC.gv; exact rfl; (with_reducible first | exact Imp.refl _ | (apply Imp.left; exact Imp.refl _) | (apply Imp.right; exact Imp.refl _) | (apply Imp.left; apply Imp.left; exact Imp.refl _))) | (apply EvC.now; exact rfl))); done) | exact ext_seg _ | (focus (repeat (first | apply List.Mem.head | apply List.Mem.tail | apply List.mem_append_right)))); (decide); (simp only [List.set_cons_succ, List.set_cons_zero]; exact rfl))
    | ((first | (with_reducible apply q_pl) | ((with_reducible apply q_gd); (first | (apply GdBy.gt; exact rfl; exact rfl) | (apply GdBy.gf; exact rfl; exact rfl) | (apply GdBy.t; exact rfl; exact rfl) | (apply GdBy.f; exact rfl; exact rfl)))); (with_reducible apply t_pixA (k := 2) Try.underlying51 iIntO); (first | (apply EvC.gv; exact rfl; (with_reducible first | exact Imp.refl _ | (apply Imp.left; exact Imp.refl _) | (apply Imp.right; exact Imp.refl _) | (apply Imp.left; apply Imp.left; exact Imp.refl _))) | (apply EvC.now; exact rfl) | exact rfl | (with_reducible exact EvAll.nil) | (focus (repeat (first | apply EvAll.cons | exact EvAll.nil | (apply EvC.gv; exact rfl; (with_reducible first | exact Imp.refl _ | (apply Imp.left; exact Imp.refl _) | (apply Imp.right; exact Imp.refl _) | (apply Imp.left; apply Imp.left; exact Imp.refl _))) | (apply EvC.now; exact rfl))); done) | exact ext_seg _ | (focus (repeat (first | apply List.Mem.head | apply List.Mem.tail | apply List.mem_append_right)))); (first | (apply EvC.gv; exact rfl; (with_reducible first | exact Imp.refl _ | (apply Imp.left; exact Imp.refl _) | (apply Imp.right; exact Imp.refl _) | (apply Imp.left; apply Imp.left; exact Imp.refl _))) | (apply EvC.now; exact rfl) | exact rfl | (with_reducible exact EvAll.nil) | (focus (repeat (first | apply EvAll.cons | exact EvAll.nil | (apply EvC.gv; exact rfl; (with_reducible first | exact Imp.refl _ | (apply Imp.left; exact Imp.refl _) | (apply Imp.right; exact Imp.refl _) | (apply Imp.left; apply Imp.left; exact Imp.refl _))) | (apply EvC.now; exact rfl))); done) | exact ext_seg _ | (focus (repeat (first | apply List.Mem.head | apply List.Mem.tail | apply List.mem_append_right)))); (decide); (simp only [List.set_cons_succ, List.set_cons_zero]; exact rfl))
    | ((first | (with_reducible apply q_pl) | ((with_reducible apply q_gd); (first | (apply GdBy.gt; exact rfl; exact rfl) | (apply GdBy.gf; exact rfl; exact rfl) | (apply GdBy.t; exact rfl; exact rfl) | (apply GdBy.f; exact rfl; exact rfl)))); (first | ((with_reducible first | apply t_move | apply t_assign | apply t_and | apply t_or | apply t_cmp | apply t_not | apply t_addr (fRec _ (by decide)) | apply t_addr (fSeg _ (by decide)) | apply t_one tByteR | apply t_one tSlR | apply t_one tIntR | apply t_one tWordS | apply t_part tSeg) <;> (first | (apply EvC.gv; exact rfl; (with_reducible first | exact Imp.refl _ | (apply Imp.left; exact Imp.refl _) | (apply Imp.right; exact Imp.refl _) | (apply Imp.left; apply Imp.left; exact Imp.refl _))) | (apply EvC.now; exact rfl) | exact rfl | (with_reducible exact EvAll.nil) | (focus (repeat (first | apply EvAll.cons | exact EvAll.nil | (apply EvC.gv; exact rfl; (with_reducible first | exact Imp.refl _ | (apply Imp.left; exact Imp.refl _) | (apply Imp.right; exact Imp.refl _) | (apply Imp.left; apply Imp.left; exact Imp.refl _))) | (apply EvC.now; exact rfl))); done) | exact ext_seg _ | (focus (repeat (first | apply List.Mem.head | apply List.Mem.tail | apply List.mem_append_right)))))); (simp only [List.set_cons_succ, List.set_cons_zero]; exact rfl)))
      refine wpT_nil ?_
      refine wpG_put1 hR tIntR (i := 7) (by kernel_rfl) rfl rfl rfl (by (focus (repeat (first | apply List.Mem.head | apply List.Mem.tail | apply List.mem_append_right)))) (put_n5 _ _) (by simp [encSeg]) rfl (by (focus (repeat (first | apply Upd.head | apply Upd.tail | apply Upd.skipC)))) (by (focus (repeat (with_reducible first | exact List.Sublist.slnil | exact List.nil_sublist _ | exact List.Sublist.refl _ | exact List.sublist_append_right _ _ | apply List.Sublist.cons_cons | apply List.Sublist.cons | apply sub_rightI)))) ?_
      clear hR; intro w hR
      refine wpG_addr hR (fSeg 6 (by decide)) (i := 8) (by kernel_rfl) rfl rfl (by (simp only [List.set_cons_succ, List.set_cons_zero]; exact rfl)) ?_
      clear hR; intro w hR
      refine wpG_put1 hR tIntR (i := 9) (by kernel_rfl) rfl rfl rfl (by (focus (repeat (first | apply List.Mem.head | apply List.Mem.tail | apply List.mem_append_right)))) (put_k6 _ _) (by simp [encSeg]) rfl (by (focus (repeat (first | apply Upd.head | apply Upd.tail | apply Upd.skipC)))) (by (focus (repeat (with_reducible first | exact List.Sublist.slnil | exact List.nil_sublist _ | exact List.Sublist.refl _ | exact List.sublist_append_right _ _ | apply List.Sublist.cons_cons | apply List.Sublist.cons | apply sub_rightI)))) ?_
      clear hR; intro w hR
      refine wpG_addr hR (fSeg 7 (by decide)) (i := 10) (by kernel_rfl) rfl rfl (by (simp only [List.set_cons_succ, List.set_cons_zero]; exact rfl)) ?_
      clear hR; intro w hR
      refine wpG_put1 hR tIntR (i := 11) (by kernel_rfl) rfl rfl rfl (by (focus (repeat (first | apply List.Mem.head | apply List.Mem.tail | apply List.mem_append_right)))) (put_v7 _ _) (by simp [encSeg]) rfl (by (focus (repeat (first | apply Upd.head | apply Upd.tail | apply Upd.skipC)))) (by (focus (repeat (with_reducible first | exact List.Sublist.slnil | exact List.nil_sublist _ | exact List.Sublist.refl _ | exact List.sublist_append_right _ _ | apply List.Sublist.cons_cons | apply List.Sublist.cons | apply sub_rightI)))) ?_
      clear hR; intro w hR
      refine wpG_end hR (by kernel_rfl) ?_
      clear hR; intro w hR
      have hY3 : ∀ r ∈ sr, r ∈ (ga, encArr nm cl ov, 51) :: (g, encSeg ⟨a, c, fr, o, lc, nm, cl, ov⟩, 24) :: (sr ++ [(gr, encSeg zeroS, 24)]) := fun r hr => .tail _ (.tail _ (List.mem_append_left _ hr))
      go_wp2_with fail
      refine (endX_any hR Les.one hY3 hS (HT6.out.ok hokb) (hlz _ HT6.out)).mono ?_
      rintro e w' ⟨rfl, cs4, hR4, hS4⟩
      clear hR hS
      have hR := hR4
      clear hR4 hS4
      rcases end_ways (HT6.out.ok hokb) (HT6.out.e (.inl rfl)) with ⟨hx, he, hb⟩ | ⟨hx, hno⟩
      · rw [hx]
        have HC := Lib.hid (show cmpB .neq (0 : Int) 0 = some false by simp [cmpB])
        have HM := Lib.hid (fun w => segMay_any ⟨a, c, fr, o, lc, nm, cl, ov⟩ w)
        have HYY := Lib.hid (fun hx hm => HY.out hx he hb hm)
        clear hx he hb HY
        go_upto_region 19 with (first
    | ((with_reducible apply q_ls hR); exact rfl; (with_reducible apply t_cmp); (apply EvC.now; exact rfl); (apply EvC.now; exact rfl); exact HC.out; (simp only [List.set_cons_succ, List.set_cons_zero]; exact rfl); clear hR; intro w hR))
        refine wp_region_tame hR [0, 1, 2, 3, 4, 5, 6, 7] rfl ?_
        repeat (refine wpT_step rfl ?_; first
    | ((first | (with_reducible apply q_pl) | ((with_reducible apply q_gd); (first | (apply GdBy.gt; exact rfl; exact rfl) | (apply GdBy.gf; exact rfl; exact rfl) | (apply GdBy.t; exact rfl; exact rfl) | (apply GdBy.f; exact rfl; exact rfl)))); (with_reducible apply t_numE (op := .and)); (first | (apply EvC.gv; exact rfl; (with_reducible first | exact Imp.refl _ | (apply Imp.left; exact Imp.refl _) | (apply Imp.right; exact Imp.refl _) | (apply Imp.left; apply Imp.left; exact Imp.refl _))) | (apply EvC.now; exact rfl) | exact rfl | (with_reducible exact EvAll.nil) | (focus (repeat (first | apply EvAll.cons | exact EvAll.nil | (apply EvC.gv; exact rfl; (with_reducible first | exact Imp.refl _ | (apply Imp.left; exact Imp.refl _) | (apply Imp.right; exact Imp.refl _) | (apply Imp.left; apply Imp.left; exact Imp.refl _))) | (apply EvC.now; exact rfl))); done) | exact ext_seg _ | (focus (repeat (first | apply List.Mem.head | apply List.Mem.tail | apply List.mem_append_right)))); (first | (apply EvC.gv; exact rfl; (with_reducible first | exact Imp.refl _ | (apply Imp.left; exact Imp.refl _) | (apply Imp.right; exact Imp.refl _) | (apply Imp.left; apply Imp.left; exact Imp.refl _))) | (apply EvC.now; exact rfl) | exact rfl | (with_reducible exact EvAll.nil) | (focus (repeat (first | apply EvAll.cons | exact EvAll.nil | (apply EvC.gv; exact rfl; (with_reducible first | exact Imp.refl _ | (apply Imp.left; exact Imp.refl _) | (apply Imp.right; exact Imp.refl _) | (apply Imp.left; apply Imp.left; exact Imp.refl _))) | (apply EvC.now; exact rfl))); done) | exact ext_seg _ | (focus (repeat (first | apply List.Mem.head | apply List.Mem.tail | apply List.mem_append_right)))); exact rfl; exact HW1.out; (simp only [List.set_cons_succ, List.set_cons_zero]; exact rfl))
    | ((first | (with_reducible apply q_pl) | ((with_reducible apply q_gd); (first | (apply GdBy.gt; exact rfl; exact rfl) | (apply GdBy.gf; exact rfl; exact rfl) | (apply GdBy.t; exact rfl; exact rfl) | (apply GdBy.f; exact rfl; exact rfl)))); (with_reducible apply t_call Try.call9); (first | (apply EvC.gv; exact rfl; (with_reducible first | exact Imp.refl _ | (apply Imp.left; exact Imp.refl _) | (apply Imp.right; exact Imp.refl _) | (apply Imp.left; apply Imp.left; exact Imp.refl _))) | (apply EvC.now; exact rfl) | exact rfl | (with_reducible exact EvAll.nil) | (focus (repeat (first | apply EvAll.cons | exact EvAll.nil | (apply EvC.gv; exact rfl; (with_reducible first | exact Imp.refl _ | (apply Imp.left; exact Imp.refl _) | (apply Imp.right; exact Imp.refl _) | (apply Imp.left; apply Imp.left; exact Imp.refl _))) | (apply EvC.now; exact rfl))); done) | exact ext_seg _ | (focus (repeat (first | apply List.Mem.head | apply List.Mem.tail | apply List.mem_append_right)))); (intro hcc w hC; exact tame_below (HM.out _) hC); (simp only [List.set_cons_succ, List.set_cons_zero]; exact rfl))
    | ((first | (with_reducible apply q_pl) | ((with_reducible apply q_gd); (first | (apply GdBy.gt; exact rfl; exact rfl) | (apply GdBy.gf; exact rfl; exact rfl) | (apply GdBy.t; exact rfl; exact rfl) | (apply GdBy.f; exact rfl; exact rfl)))); (first | ((with_reducible first | apply t_move | apply t_assign | apply t_and | apply t_or | apply t_cmp | apply t_not | apply t_addr (fRec _ (by decide)) | apply t_addr (fSeg _ (by decide)) | apply t_one tByteR | apply t_one tSlR | apply t_one tIntR | apply t_one tWordS | apply t_part tSeg) <;> (first | (apply EvC.gv; exact rfl; (with_reducible first | exact Imp.refl _ | (apply Imp.left; exact Imp.refl _) | (apply Imp.right; exact Imp.refl _) | (apply Imp.left; apply Imp.left; exact Imp.refl _))) | (apply EvC.now; exact rfl) | exact rfl | (with_reducible exact EvAll.nil) | (focus (repeat (first | apply EvAll.cons | exact EvAll.nil | (apply EvC.gv; exact rfl; (with_reducible first | exact Imp.refl _ | (apply Imp.left; exact Imp.refl _) | (apply Imp.right; exact Imp.refl _) | (apply Imp.left; apply Imp.left; exact Imp.refl _))) | (apply EvC.now; exact rfl))); done) | exact ext_seg _ | (focus (repeat (first | apply List.Mem.head | apply List.Mem.tail | apply List.mem_append_right)))))); (simp only [List.set_cons_succ, List.set_cons_zero]; exact rfl))
    | ((with_reducible apply q_gd); (first | (apply GdBy.gt; exact rfl; exact rfl) | (apply GdBy.gf; exact rfl; exact rfl) | (apply GdBy.t; exact rfl; exact rfl) | (apply GdBy.f; exact rfl; exact rfl)); ((with_reducible apply t_num) <;> (first | (apply EvC.gv; exact rfl; (with_reducible first | exact Imp.refl _ | (apply Imp.left; exact Imp.refl _) | (apply Imp.right; exact Imp.refl _) | (apply Imp.left; apply Imp.left; exact Imp.refl _))) | (apply EvC.now; exact rfl) | exact rfl | (with_reducible exact EvAll.nil) | (focus (repeat (first | apply EvAll.cons | exact EvAll.nil | (apply EvC.gv; exact rfl; (with_reducible first | exact Imp.refl _ | (apply Imp.left; exact Imp.refl _) | (apply Imp.right; exact Imp.refl _) | (apply Imp.left; apply Imp.left; exact Imp.refl _))) | (apply EvC.now; exact rfl))); done) | exact ext_seg _ | (focus (repeat (first | apply List.Mem.head | apply List.Mem.tail | apply List.mem_append_right))))); (simp only [List.set_cons_succ, List.set_cons_zero]; exact rfl))
    | ((with_reducible apply wpT1_gpure); (first | (apply GdBy.gt; exact rfl; exact rfl) | (apply GdBy.gf; exact rfl; exact rfl) | (apply GdBy.t; exact rfl; exact rfl) | (apply GdBy.f; exact rfl; exact rfl)); intro K hK; go_simp; refine hK _ ?_; clear hK K; simp only [List.set_cons_succ, List.set_cons_zero])
    | ((with_reducible apply wpT1_pure); exact rfl; intro K hK; go_simp; refine hK _ ?_; clear hK K; simp only [List.set_cons_succ, List.set_cons_zero]))
        refine wpT_nil ?_
        clear hR; intro w hR
        go_upto_if 72 with fail
        by_cases hyes : y1 = 0 ∧ mayS ⟨a, c, fr, o, lc, nm, cl, ov⟩ = true
        · refine wp_cond_at (nm := false) rfl (by simp [hyes.1, hyes.2]) (fun h => absurd h (by decide)) (fun _ => ?_)
          have HV := Lib.hid (HYY.out hyes.1 hyes.2)
          clear hyes
          go_wp2_with (first
    | ((with_reducible apply wpList_put hR tSeg); exact rfl; exact rfl; exact rfl; (focus (repeat (first | apply List.Mem.head | apply List.Mem.tail | apply List.mem_append_right))); exact put_seg _ _; exact rfl; simp [encSeg]; exact one_seg _; (focus (repeat (first | apply Upd.head | apply Upd.tail | apply Upd.skipC))); clear hR; intro w hR)
    | ((with_reducible apply q_ls hR); exact rfl; ((with_reducible first | apply t_addr (fRec _ (by decide)) | apply t_addr (fSeg _ (by decide)) | apply t_one tByteR | apply t_one tSlR | apply t_one tIntR | apply t_one tWordS | apply t_part tSeg) <;> (first | (apply EvC.gv; exact rfl; (with_reducible first | exact Imp.refl _ | (apply Imp.left; exact Imp.refl _) | (apply Imp.right; exact Imp.refl _) | (apply Imp.left; apply Imp.left; exact Imp.refl _))) | (apply EvC.now; exact rfl) | exact rfl | (with_reducible exact EvAll.nil) | (focus (repeat (first | apply EvAll.cons | exact EvAll.nil | (apply EvC.gv; exact rfl; (with_reducible first | exact Imp.refl _ | (apply Imp.left; exact Imp.refl _) | (apply Imp.right; exact Imp.refl _) | (apply Imp.left; apply Imp.left; exact Imp.refl _))) | (apply EvC.now; exact rfl))); done) | exact ext_seg _ | (focus (repeat (first | apply List.Mem.head | apply List.Mem.tail | apply List.mem_append_right))))); (simp only [List.set_cons_succ, List.set_cons_zero]; exact rfl); clear hR; intro w hR))
          (try simp only [Exit.inBlock, Exit.then])
          exact post_row_tmp hR rfl (by rfl) (by rfl) (by (focus (repeat (first | apply List.Mem.head | apply List.Mem.tail | apply List.mem_append_right)))) Try.underlying24 rfl iSeg (by rfl) (by rfl) ⟨_, _, rfl, hR.below, .inl ⟨HV.out, rfl⟩⟩
        · refine wp_cond_at (nm := true) rfl (by simp; by_cases h1 : y1 = 0 <;> simp [h1] at hyes ⊢; simpa using hyes) (fun _ => ?_) (fun h => absurd h (by decide))
          have HV := Lib.hid (HN.out (.inr (.inr (by rw [HF1.out]; by_cases h1 : y1 = 0
                                                     · exact .inr (by simpa [h1] using hyes)
                                                     · exact .inl h1))))
          clear hyes
          go_wp2_with (first
    | ((with_reducible apply wpList_built); exact rfl; exact rfl; exact bSeg0; (simp only [List.set_cons_succ, List.set_cons_zero]; exact rfl))
    | ((with_reducible apply wpList_put hR tSeg); exact rfl; exact rfl; exact rfl; (focus (repeat (first | apply List.Mem.head | apply List.Mem.tail | apply List.mem_append_right))); exact put_seg _ _; exact rfl; simp [encSeg]; exact one_seg _; (focus (repeat (first | apply Upd.head | apply Upd.tail | apply Upd.skipC))); clear hR; intro w hR))
          (try simp only [Exit.inBlock, Exit.then])
          exact post_row_tmp hR rfl (by rfl) (by rfl) (by (focus (repeat (first | apply List.Mem.head | apply List.Mem.tail | apply List.mem_append_right)))) Try.underlying24 rfl iSeg (by rfl) (by rfl) ⟨_, _, rfl, hR.below, .inr ⟨HV.out, rfl, .inr rfl⟩⟩
      · obtain ⟨x, hxe⟩ : ∃ x, (endZ z6).e = x := ⟨_, rfl⟩
        rw [hxe] at hx ⊢
        have HC := Lib.hid (show cmpB .neq x 0 = some true by rcases hx with rfl | rfl <;> rfl)
        have HV := Lib.hid (HN.out (hno.elim .inl fun h => .inr (.inl h)))
        clear hno hxe
        have HX := Lib.hid hx
        clear hx
        go_wp2_with (first
    | ((with_reducible apply q_ls hR); exact rfl; (with_reducible apply t_cmp); (apply EvC.now; exact rfl); (apply EvC.now; exact rfl); exact HC.out; (simp only [List.set_cons_succ, List.set_cons_zero]; exact rfl); clear hR; intro w hR)
    | ((with_reducible apply wpList_built); exact rfl; exact rfl; exact bSeg0; (simp only [List.set_cons_succ, List.set_cons_zero]; exact rfl))
    | ((with_reducible apply wpList_put hR tSeg); exact rfl; exact rfl; exact rfl; (focus (repeat (first | apply List.Mem.head | apply List.Mem.tail | apply List.mem_append_right))); exact put_seg _ _; exact rfl; simp [encSeg]; exact one_seg _; (focus (repeat (first | apply Upd.head | apply Upd.tail | apply Upd.skipC))); clear hR; intro w hR))
        (try simp only [Exit.inBlock, Exit.then])
        exact post_row_tmp hR rfl (by rfl) (by rfl) (by (focus (repeat (first | apply List.Mem.head | apply List.Mem.tail | apply List.mem_append_right)))) Try.underlying24 rfl iSeg (by rfl) (by rfl) ⟨_, _, rfl, hR.below, .inr ⟨HV.out, rfl, HX.out⟩⟩
end Go.Proofs.Ytmdiemebfmnmkaa
