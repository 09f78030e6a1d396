









/- The contract of data.Cut. No statement of the seat is proved here. -/
import Derived.Test.YthklhkpikaopfaaDatA
import Derived.Test.YthklhkpikaopfaaChk
import Derived.Test.YthklhkpikaopfaaMark
namespace Go.Proofs.Ythklhkpikaopfaa
open Go.ChangeShapes Go.WideShapes Go.ChangeAt Go.RowKit
set_option linter.unusedVariables false
set_option linter.unusedSimpArgs false

theorem tDatsB : SliceB Try.prog 42 26 4 64 := .of (z := .agg (encD 0 0 nilV nilV)) Try.underlying42 (by kernel_rfl) rfl (by decide)
theorem tDsR : OneTy Try.prog 42 := .of Try.underlying42 rfl (by kernel_rfl)
theorem bDs1 (s : Int) (o : Nat) {v x : Value} (hv : IsSl v) (hx : IsSl x) : BuiltS Try.prog 42 1 [(0, .agg (encD s o v x))] 26 (encD s o v x) := by
  obtain ⟨a, n, c, rfl⟩ := hv.shape
  obtain ⟨a', n', c', rfl⟩ := hx.shape
  exact ⟨fun w => by simp [go_sem, encD]⟩
theorem rd_oneD {w0 w : World} {l : List RowT} {g : Nat} {s : Int} {o : Nat} {v x : Value} (hv : IsSl v) (hx : IsSl x) (hR : Own w0 w l) (hm : (g, encD s o v x, 26) ∈ l) : Rd w 4 (.slice (some ⟨g, 0, none⟩) 1 1) 1 (encD s o v x).toList := by
  have hi : RwIs 4 (encD s o v x) 1 1 (encD s o v x).toList := (RwIs.all (by simp [encD]) (by decide)).cast (by simp)
  have h : Sl 26 4 [(g, encD s o v x, 26)] (.slice (some ⟨g, 0, none⟩) 1 1) 1 (encD s o v x).toList := hi.sl
  refine h.rd hR (fun y hy => by rw [List.mem_singleton.1 hy]; exact hm) ?_
  have := one_dat s o hv hx
  simpa using this
/-! ### What has come so far -/
/-- How many bytes pieces have. -/
def chkTot (bs : List Int) (pre : List (ChkI bs)) : Nat := (pre.map fun x => (chkB bs x.1).length).sum
theorem chkTot_snoc {bs : List Int} (pre : List (ChkI bs)) (x : ChkI bs) : chkTot bs (pre ++ [x]) = chkTot bs pre + (chkB bs x.1).length := by simp [chkTot]
theorem chkB_len {bs : List Int} (x : ChkI bs) : 1 ≤ (chkB bs x.1).length ∧ (chkB bs x.1).length ≤ 1024 := by
  have := chk_lt x.2
  unfold chkB
  rw [List.length_drop, List.length_take]
  omega
/-- The structs that stand for pieces. -/
structure Pieces (s : Int) (o : Nat) (bs : List Int) (Y : List RowT) (pre : List (ChkI bs)) (ds : List DatV) : Prop where
  len : ds.length = pre.length
  at_ : ∀ (i : Nat) (a : DatV) (x : ChkI bs), ds[i]? = some a → pre[i]? = some x → a.s = s ∧ a.o = (o + chkTot bs (pre.take i)) % 65536 ∧ a.x = nilV ∧ SrcR Y a.v (chkB bs x.1)
  sl : ∀ a ∈ ds, IsSl a.v ∧ a.x = nilV
theorem Pieces.none (s : Int) (o : Nat) (bs : List Int) : Pieces s o bs [] [] [] := ⟨rfl, fun i a x h => by simp at h, fun a h => nomatch h⟩
theorem SrcR.more {Y Z : List RowT} {v : Value} {bs : List Int} (h : SrcR Y v bs) (hs : ∀ r ∈ Y, r ∈ Z) : SrcR Z v bs := fun w0 w l hO hz => h w0 w l hO fun r hr => hz r (hs r hr)
theorem Pieces.snoc {s : Int} {o : Nat} {bs : List Int} {Y s1 : List RowT} {pre : List (ChkI bs)} {ds : List DatV} (h : Pieces s o bs Y pre ds) {x : ChkI bs} {v : Value} (hv : SrcR s1 v (chkB bs x.1)) (hsl : IsSl v) :
    Pieces s o bs (s1 ++ Y) (pre ++ [x]) (ds ++ [⟨s, (o + chkTot bs pre) % 65536, v, nilV⟩]) := by
  refine ⟨by simp [h.len], fun i a y ha hy => ?_, fun a ha => ?_⟩
  · by_cases hi : i < pre.length
    · rw [List.getElem?_append_left (by rw [h.len]; exact hi)] at ha
      rw [List.getElem?_append_left hi] at hy
      obtain ⟨h1, h2, h3, h4⟩ := h.at_ i a y ha hy
      rw [List.take_append_of_le_length (by omega)]
      exact ⟨h1, h2, h3, h4.more fun r hr => List.mem_append_right _ hr⟩
    · have hi2 : i = pre.length := by
        have := (List.getElem?_eq_some_iff.1 hy).1
        simp at this; omega
      subst hi2
      rw [List.getElem?_append_right (by rw [h.len]; exact Nat.le_refl _), h.len, Nat.sub_self] at ha
      rw [List.getElem?_append_right (Nat.le_refl _), Nat.sub_self] at hy
      cases ha; cases hy
      rw [List.take_left']
      · exact ⟨rfl, rfl, rfl, hv.more fun r hr => List.mem_append_left _ hr⟩
      · rfl
  · rcases List.mem_append.1 ha with ha | ha
    · exact h.sl a ha
    · rw [List.mem_singleton.1 ha]; exact ⟨hsl, rfl⟩
/-- Cut's variables, its list and the pieces' own copies. -/
def CutI (w0 : World) (s : Int) (o : Nat) (v : Value) (bs : List Int) (gs go gl g3 g4 : Nat) (pre : List (ChkI bs)) (W : World) : Prop :=
  ∃ (sl Y : List RowT) (lv : Value) (ds : List DatV), Own w0 W ((gl, #[lv], 42) :: (go, #[.int .u16 (((o + chkTot bs pre) % 65536 : Nat) : Int)], 22) :: (gs, #[.int .i64 s], 3) :: (g4, #[.int .i64 1024], 3) :: (g3, #[v], 23) :: (sl ++ Y)) ∧
    Sl 26 4 sl lv ds.length (ds.flatMap cellsD) ∧ Pieces s o bs Y pre ds
theorem cutI_from {w0 : World} {s : Int} {o : Nat} {v : Value} {bs : List Int} {gs go gl g3 g4 B : Nat} (hB : w0.heap.size ≤ B) : OwnFrom B (CutI w0 s o v bs gs go gl g3 g4) := by
  rintro pre W W' row ⟨sl, Y, lv, ds, hR, hS, hP⟩ hg hr
  exact ⟨sl, Y, lv, ds, hR.grownNC hg hB hr, hS, hP⟩
theorem chkUp_at (bs : List Int) : ∀ (k : Nat) (h : k ≤ chkN bs) (i : Nat) (hi : i < k), (chkUp bs k h)[i]? = some ⟨i, by omega⟩
  | 0, _, _, hi => absurd hi (Nat.not_lt_zero _)
  | k + 1, h, i, hi => by
    unfold chkUp
    by_cases hk : i < k
    · rw [List.getElem?_append_left (by rw [chkUp_len]; exact hk)]
      exact chkUp_at bs k _ i hk
    · obtain rfl : i = k := by omega
      rw [List.getElem?_append_right (by rw [chkUp_len]; exact Nat.le_refl _), chkUp_len, Nat.sub_self]
      rfl
theorem chkUp_take (bs : List Int) : ∀ (k : Nat) (h : k ≤ chkN bs) (i : Nat) (hi : i ≤ k), (chkUp bs k h).take i = chkUp bs i (by omega)
  | 0, _, i, hi => by obtain rfl : i = 0 := by omega
                      rfl
  | k + 1, h, i, hi => by
    by_cases hk : i ≤ k
    · show (chkUp bs k _ ++ [_]).take i = _
      rw [List.take_append_of_le_length (by rw [chkUp_len]; exact hk)]
      exact chkUp_take bs k _ i hk
    · obtain rfl : i = k + 1 := by omega
      exact List.take_of_length_le (by rw [chkUp_len]; exact Nat.le_refl _)
theorem chkTot_up (bs : List Int) : ∀ (k : Nat) (h : k ≤ chkN bs), chkTot bs (chkUp bs k h) = min bs.length (1024 * k)
  | 0, _ => by simp [chkUp, chkTot]
  | k + 1, h => by
    have ih := chkTot_up bs k (Nat.le_of_succ_le h)
    have hlt : 1024 * k < bs.length := chk_lt (bs := bs) (i := k) h
    unfold chkUp
    rw [chkTot_snoc, ih]
    unfold chkB
    dsimp only
    rw [List.length_drop, List.length_take]
    omega
theorem chkB_piece (s : Int) (o : Nat) (bs : List Int) (i : Nat) : chkB bs i = (pieceD s o bs i).b := by
  unfold chkB pieceD
  dsimp only
  rw [List.drop_take]
  rcases Nat.le_total bs.length (1024 * i + 1024) with hle | hle
  · rw [Nat.min_eq_left hle, List.take_of_length_le (by rw [List.length_drop]; omega), List.take_of_length_le (by rw [List.length_drop]; omega)]
  · rw [Nat.min_eq_right hle, show 1024 * i + 1024 - 1024 * i = 1024 by omega]
/-! ### A round -/
theorem perm_mid (A s1 s2 Y : List RowT) : (A ++ (s1 ++ (s2 ++ Y))).Perm (s1 ++ (s2 ++ (A ++ Y))) :=
  ((List.perm_append_comm_assoc s2 A Y).append_left s1 |>.trans (List.perm_append_comm_assoc s1 A (s2 ++ Y))).symm
/-- What Cut returns: so many structs in rows of its own, the bytes of each wherever they lie. -/
def RetD (w w' : World) (e : Ending) (l : List DatZ) : Prop := ∃ (v : Value) (ds : List DatV), e = .returned v ∧ Below w.heap.size w w' ∧ RowsAt 4 cellsD w' v ds ∧ ds.length = l.length ∧
  ∀ (i : Nat) (a : DatV) (d : DatZ), ds[i]? = some a → l[i]? = some d → a.s = d.s ∧ a.o = d.o ∧ SrcW w' a.v d.b ∧ IsSl a.x
set_option maxHeartbeats 2000000 in
theorem datCut_any {w0 : World} (s : Int) (o : Nat) {v : Value} {bs : List Int} (hs : 1 ≤ s ∧ s ≤ 32767) (ho : o ≤ 65535) (hb : o + bs.length ≤ 65536) (h : SrcW w0 v bs) :
    Calls Try.prog 12 #[.int .i64 s, .int .u16 (o : Int), v] w0 fun e w' => RetD w0 w' e (cutD s o bs) := by
  have hR := Own.start w0
  obtain ⟨a0, n0, c0, rfl⟩ := h.shapeI
  refine (callsIn_wide (n := 3)).1 ?_
  refine callsIn_of_wp_marks Try.func12 rfl trivial ?_
  refine wpIn_wide.2 ?_
  simp only [Try.ntmps12, List.size_toArray, List.length_cons, List.length_nil, Nat.reduceAdd, Nat.reduceSub, Array.replicate_succ, Array.replicate_zero, List.push_toArray, List.append_toArray, List.nil_append, List.cons_append]
  go_wp2_with (first
    | ((with_reducible apply wpList_boxV hR (v := .int .i64 s)); exact rfl; exact rfl; exact cells_one rfl; clear hR; intro gs w hR; simp only [List.set_cons_succ, List.set_cons_zero])
    | ((with_reducible apply wpList_boxV hR (v := .int .u16 (o : Int))); exact rfl; exact rfl; exact cells_one rfl; clear hR; intro go w hR; simp only [List.set_cons_succ, List.set_cons_zero])
    | ((with_reducible apply wpList_make1 hR (z := .slice none 0 0) (c := #[.slice none 0 0])); (kernel_rfl); exact rfl; exact rfl; clear hR; intro gl w hR; simp only [List.set_cons_succ, List.set_cons_zero])
    | (go_at_call 22; refine (chunk_any (h.own hR)).mono ?_; rintro e w' ⟨g3, g4, rfl, hO⟩; replace hR := hR.join hO; clear hO))
  rename_i K hK
  obtain ⟨wl, hwl⟩ : ∃ wl, wl = w' := ⟨_, rfl⟩
  have hR3 : Own w0 w' [(g4, #[.int .i64 1024], 3), (g3, #[.slice a0 n0 c0], 23)] := hR.drop (List.sublist_append_left _ _)
  have hR5 : Own w0 w' ((gl, #[.slice none 0 0], 42) :: (go, #[.int .u16 (((o + chkTot bs []) % 65536 : Nat) : Int)], 22) :: (gs, #[.int .i64 s], 3) :: (g4, #[.int .i64 1024], 3) :: (g3, #[.slice a0 n0 c0], 23) :: ([] ++ [])) := by
    rw [show (o + chkTot bs []) % 65536 = o by simp [chkTot]; omega]
    exact hR.perm (List.perm_append_comm (l₁ := [_, _, _]) (l₂ := [_, _]))
  have hlt3 : ∀ g ∈ [g3, g4], g < w'.heap.size := by
    intro g hg
    simp only [List.mem_cons, List.not_mem_nil, or_false] at hg
    rcases hg with rfl | rfl
    · exact hR3.lt (.tail _ (.head _))
    · exact hR3.lt (.head _)
  have hlow : w0.heap.size ≤ w'.heap.size := hR3.below.size
  refine (wpIn_wide (n := 3)).1 (wpIn_rangeFunc_ownG (α := ChkI bs) rfl (by decide) (gf := 31) (lb := #[.pointer (some ⟨g3, 0, none⟩), .pointer (some ⟨g4, 0, none⟩)]) rfl trivial (enters_of Try.func31 (by kernel_rfl) rfl)
    (chunkSeq_stops h hR3 (by omega) 2) kpR_t (kpR_b hR3.below.size hlt3) (Below.refl _ _) (fun _ => rfl)
    (CutI w0 s o (.slice a0 n0 c0) bs gs go gl g3 g4) (fun _ _ _ => False) (cutI_from hR3.below.size) (fun _ _ _ _ _ hs _ _ => hs)
    ⟨[], [], .slice none 0 0, [], hR5, Sl.nil _ _, Pieces.none s o bs⟩
    (fun x => { tmps := #[.int .i64 s, .int .u16 (o : Int), .slice a0 n0 c0, .pointer (some ⟨gs, 0, none⟩), .pointer (some ⟨go, 0, none⟩), undef, .slice none 0 0, .pointer (some ⟨gl, 0, none⟩), chkV (.slice a0 n0 c0) bs x.1, .slice a0 n0 c0, .func (.func 31) #[] #[.pointer (some ⟨g3, 0, none⟩), .pointer (some ⟨g4, 0, none⟩)], chkV (.slice a0 n0 c0) bs x.1, undef, undef, undef, undef, undef, undef, undef, undef, undef, undef, undef, undef, undef, undef], defers := [] }) ?assign ?body ?done ?stop)
  case assign =>
    intro l x W K hK
    refine wpR_lit (r := some l) ?_ (by kernel_rfl) ?_
    · rintro ⟨a, w, h⟩; exact h
    simp only [List.zip_toArray, List.zip_cons_cons, List.zip_nil_right, List.size_toArray, List.length_cons, List.length_nil, Nat.zero_add, List.foldl_toArray', List.foldl_cons, List.foldl_nil, List.setIfInBounds_toArray, List.set_cons_succ, List.set_cons_zero]
    repeat (first
    | ((with_reducible apply q_ls0); exact rfl; (with_reducible apply t_assign); (apply EvC.now; exact rfl); (simp only [List.set_cons_succ, List.set_cons_zero]; exact rfl)))
    refine wpList_nil ?_
    exact hK
  case body =>
    rintro l pre x W ⟨sl, Y, lv, ds, hRW, hSl, hP⟩ hlt
    clear hR hR3 hR5 hK
    have hSx0 := chk_src (h.own hRW) x.2
    have hxl := chkB_len x
    obtain ⟨xb, hxb⟩ : ∃ xb, chkB bs x.1 = xb := ⟨_, rfl⟩
    obtain ⟨xv, hxv⟩ : ∃ xv, chkV (.slice a0 n0 c0) bs x.1 = xv := ⟨_, rfl⟩
    rw [hxb] at hxl hSx0
    rw [hxv] at hSx0
    rw [hxv]
    have hSx : ∀ (w : World) (l : List RowT), Own w0 w l → SrcW w xv xb := fun w l hO => by
      have := chk_src (h.own hO) x.2
      rwa [hxb, hxv] at this
    obtain ⟨f, hf⟩ : ∃ f, (o + chkTot bs pre) % 65536 = f := ⟨_, rfl⟩
    rw [hf] at hRW
    have hdl : ds.length ≤ 1000 := by
      have := hP.len
      have : chkN bs ≤ 100 := by unfold chkN; omega
      omega
    have hBx : xb ≠ [] ∧ xb.length ≤ 1000000 := ⟨fun e => by rw [e] at hxl; simp at hxl, by omega⟩
    obtain ⟨f2, hf2⟩ : ∃ f2, (o + chkTot bs (pre ++ [x])) % 65536 = f2 := ⟨_, rfl⟩
    have HC := Lib.hid (show IntKind.u16.wrap ((xb.length : Nat) : Int) = ((xb.length : Nat) : Int) from IntWalk.u16_in _ (by omega))
    have HF := Lib.hid (show IntKind.u16.wrap ((f : Int) + ((xb.length : Nat) : Int)) = (f2 : Int) by
      rw [IntKind.wrap_u16, ← hf2, chkTot_snoc, hxb, ← hf]
      omega)
    obtain ⟨ks, hks⟩ : ∃ ks, ks = gl :: go :: sl.map (·.1) := ⟨_, rfl⟩
    have hgo : go ∈ ks := by rw [hks]; exact .tail _ (.head _)
    have hin : ∀ k ∈ ks, k ∈ ((gl, #[lv], 42) :: (go, #[.int .u16 (f : Int)], 22) :: (gs, #[.int .i64 s], 3) :: (g4, #[.int .i64 1024], 3) :: (g3, #[.slice a0 n0 c0], 23) :: (sl ++ Y) : List RowT).map (·.1) := by
      intro k hk
      rw [hks] at hk
      simp only [List.map_cons, List.map_append, List.mem_cons, List.mem_append] at hk ⊢
      rcases hk with h | h | h
      · exact .inl h
      · exact .inr (.inl h)
      · exact .inr (.inr (.inr (.inr (.inr (.inl h)))))
    have hcells : ∀ k ∈ ks, ∀ o', W.heap[k]? = some o' → o'.isCells = true := fun k hk o' ho' => hRW.isCells (hin k hk) ho'
    have hkge : ∀ k ∈ ks, w0.heap.size ≤ k := by
      intro k hk
      obtain ⟨y, hy, rfl⟩ := List.mem_map.1 (hin k hk)
      exact (hRW.here y hy).1
    have hG : ∀ g ∈ [g3, g4], g ∉ ks := by
      have hap := hRW.apart
      simp only [List.map_cons, List.map_append, List.nodup_cons, List.mem_cons, List.mem_append, not_or] at hap
      obtain ⟨⟨_, _, a1, a2, _⟩, ⟨_, b1, b2, _⟩, _, ⟨_, c1, _⟩, ⟨d1, _⟩, _⟩ := hap
      intro g hg
      rw [hks]
      simp only [List.mem_cons, List.not_mem_nil, or_false] at hg
      simp only [List.mem_cons, not_or]
      rcases hg with rfl | rfl
      · exact ⟨fun e => a2 e.symm, fun e => b2 e.symm, d1⟩
      · exact ⟨fun e => a1 e.symm, fun e => b1 e.symm, c1⟩
    show Code.wpIn (wideR (some l)) _ _ _ _ _ _
    refine wpIn_block (wpIn_seq ?_)
    have hA := (Apart.refl W ks).drew
    have hR := hRW
    refine wpR_some (r := some l) ?_ hR [(go, #[.int .u16 (f : Int)], 22), (gs, #[.int .i64 s], 3)] (by (focus (repeat (with_reducible first | exact List.Sublist.slnil | exact List.nil_sublist _ | exact List.Sublist.refl _ | exact List.sublist_append_right _ _ | apply List.Sublist.cons_cons | apply List.Sublist.cons | apply sub_rightI)))) [1, 2, 3] 6 (by kernel_rfl) (by kernel_rfl) (by kernel_rfl) (by kernel_rfl) rfl ?_
    · rintro ⟨a, w, h⟩; exact h
    clear hR; intro hR
    repeat (refine wpT_step rfl ?_; first
    | ((first | (with_reducible apply q_pl) | ((with_reducible apply q_gd); (first | (apply GdBy.gt; exact rfl; exact rfl) | (apply GdBy.gf; exact rfl; exact rfl) | (apply GdBy.t; exact rfl; exact rfl) | (apply GdBy.f; exact rfl; exact rfl)))); (with_reducible apply t_one tIntR); (first | (apply EvC.gv; exact rfl; (with_reducible first | exact Imp.refl _ | (apply Imp.left; exact Imp.refl _) | (apply Imp.right; exact Imp.refl _) | (apply Imp.left; apply Imp.left; exact Imp.refl _))) | (apply EvC.now; exact rfl) | exact rfl | (with_reducible exact EvAll.nil) | (focus (repeat (first | apply EvAll.cons | exact EvAll.nil | (apply EvC.gv; exact rfl; (with_reducible first | exact Imp.refl _ | (apply Imp.left; exact Imp.refl _) | (apply Imp.right; exact Imp.refl _) | (apply Imp.left; apply Imp.left; exact Imp.refl _))) | (apply EvC.now; exact rfl))); done) | exact ext_dat _ _ _ | (focus (repeat (first | apply List.Mem.head | apply List.Mem.tail | apply List.mem_append_right)))); (focus (repeat (first | apply List.Mem.head | apply List.Mem.tail | apply List.mem_append_right))); exact rfl; (simp only [List.set_cons_succ, List.set_cons_zero]; exact rfl))
    | ((first | (with_reducible apply q_pl) | ((with_reducible apply q_gd); (first | (apply GdBy.gt; exact rfl; exact rfl) | (apply GdBy.gf; exact rfl; exact rfl) | (apply GdBy.t; exact rfl; exact rfl) | (apply GdBy.f; exact rfl; exact rfl)))); (with_reducible apply t_one tWordD); (first | (apply EvC.gv; exact rfl; (with_reducible first | exact Imp.refl _ | (apply Imp.left; exact Imp.refl _) | (apply Imp.right; exact Imp.refl _) | (apply Imp.left; apply Imp.left; exact Imp.refl _))) | (apply EvC.now; exact rfl) | exact rfl | (with_reducible exact EvAll.nil) | (focus (repeat (first | apply EvAll.cons | exact EvAll.nil | (apply EvC.gv; exact rfl; (with_reducible first | exact Imp.refl _ | (apply Imp.left; exact Imp.refl _) | (apply Imp.right; exact Imp.refl _) | (apply Imp.left; apply Imp.left; exact Imp.refl _))) | (apply EvC.now; exact rfl))); done) | exact ext_dat _ _ _ | (focus (repeat (first | apply List.Mem.head | apply List.Mem.tail | apply List.mem_append_right)))); (focus (repeat (first | apply List.Mem.head | apply List.Mem.tail | apply List.mem_append_right))); exact rfl; (simp only [List.set_cons_succ, List.set_cons_zero]; exact rfl))
    | ((first | (with_reducible apply q_pl) | ((with_reducible apply q_gd); (first | (apply GdBy.gt; exact rfl; exact rfl) | (apply GdBy.gf; exact rfl; exact rfl) | (apply GdBy.t; exact rfl; exact rfl) | (apply GdBy.f; exact rfl; exact rfl)))); (first | ((with_reducible first | apply t_move | apply t_assign | apply t_and | apply t_or | apply t_cmp | apply t_not | apply t_addr (fRec _ (by decide)) | apply t_addr (fDat _ (by decide)) | apply t_one tByteR | apply t_one tSlR | apply t_one tIntR | apply t_one tWordD | apply t_one tFixD | apply t_part tDat) <;> (first | (apply EvC.gv; exact rfl; (with_reducible first | exact Imp.refl _ | (apply Imp.left; exact Imp.refl _) | (apply Imp.right; exact Imp.refl _) | (apply Imp.left; apply Imp.left; exact Imp.refl _))) | (apply EvC.now; exact rfl) | exact rfl | (with_reducible exact EvAll.nil) | (focus (repeat (first | apply EvAll.cons | exact EvAll.nil | (apply EvC.gv; exact rfl; (with_reducible first | exact Imp.refl _ | (apply Imp.left; exact Imp.refl _) | (apply Imp.right; exact Imp.refl _) | (apply Imp.left; apply Imp.left; exact Imp.refl _))) | (apply EvC.now; exact rfl))); done) | exact ext_dat _ _ _ | (focus (repeat (first | apply List.Mem.head | apply List.Mem.tail | apply List.mem_append_right)))))); (simp only [List.set_cons_succ, List.set_cons_zero]; exact rfl)))
    refine wpT_nil ?_
    refine wpG_twoK hR hA (i := 0) (j := 4) (by kernel_rfl) ?_ ?_
    · skip
      clear hR hA; intro w hR hA
      refine opQK hR hA (i := 0) rfl rfl (t_one (g := gl) (off := 0) (cs := #[lv]) (v := lv) (t := 42) tDsR (.now rfl) (by (focus (repeat (first | apply List.Mem.head | apply List.Mem.tail | apply List.mem_append_right)))) rfl) (by (simp only [List.set_cons_succ, List.set_cons_zero]; exact rfl)) ?_
      clear hR hA; intro w hR hA
      refine ⟨hR.drop (by (focus (repeat (with_reducible first | exact List.Sublist.slnil | exact List.nil_sublist _ | exact List.Sublist.refl _ | exact List.sublist_append_right _ _ | apply List.Sublist.cons_cons | apply List.Sublist.cons | apply sub_rightI)))), ?_⟩
      refine wpG_oneK hR hA (i := 4) (by kernel_rfl) ?_
      clear hR hA; intro w hR hA
      refine opCallO hR Try.call23 rfl rfl rfl ?_
      refine (clone_any (hSx _ _ hR) hBx.1 hBx.2).mono ?_
      rintro e w2 ⟨s1, v1, rfl, hO, hS1⟩
      replace hA := hA.below hO.below
      replace hR := hR.join hO
      clear hO
      have hv1 : IsSl v1 := ⟨hS1.shapeIdx⟩
      refine ⟨_, rfl, hR.drop (by (focus (repeat (with_reducible first | exact List.Sublist.slnil | exact List.nil_sublist _ | exact List.Sublist.refl _ | exact List.sublist_append_right _ _ | apply List.Sublist.cons_cons | apply List.Sublist.cons | apply sub_rightI)))), ?_⟩
      simp only [List.set_cons_succ, List.set_cons_zero]
      refine wpG_oneK hR hA (i := 5) (by kernel_rfl) ?_
      clear hR hA; intro w hR hA
      refine opQK hR hA (i := 5) rfl rfl (t_built rfl (bD3v s _ hv1)) (by (simp only [List.set_cons_succ, List.set_cons_zero]; exact rfl)) ?_
      clear hR hA; intro w hR hA
      refine ⟨hR.drop (by (focus (repeat (with_reducible first | exact List.Sublist.slnil | exact List.nil_sublist _ | exact List.Sublist.refl _ | exact List.sublist_append_right _ _ | apply List.Sublist.cons_cons | apply List.Sublist.cons | apply sub_rightI)))), ?_⟩
      refine wpG_oneK hR hA (i := 6) (by kernel_rfl) ?_
      clear hR hA; intro w hR hA
      refine opBuildK hR hA (i := 6) rfl rfl rfl (bDs1 _ _ hv1 .nil) ?_
      clear hR hA; intro gb w hR hA
      simp only [List.set_cons_succ, List.set_cons_zero]
      refine ⟨hR.drop (by (focus (repeat (with_reducible first | exact List.Sublist.slnil | exact List.nil_sublist _ | exact List.Sublist.refl _ | exact List.sublist_append_right _ _ | apply List.Sublist.cons_cons | apply List.Sublist.cons | apply sub_rightI)))), ?_⟩
      refine wpG_oneK hR hA (i := 7) (by kernel_rfl) ?_
      clear hR hA; intro w hR hA
      refine opAppK hR hA (i := 7) tDatsB rfl rfl rfl rfl (Les.tail (Les.skip _ (Les.tail (Les.tail (Les.tail (Les.tail (Les.tail Les.head))))))) hSl (rd_oneD hv1 .nil hR (.head _)) (by simp [maxLen]; omega) (by omega) (fun r hr => by rw [hks]; exact .tail _ (.tail _ hr)) ?_
      clear hR hA; intro s2 v2 w hR hS2 hA
      simp only [List.set_cons_succ, List.set_cons_zero]
      obtain ⟨a2, n2, c2, rfl⟩ := hS2.shapeIdx
      refine ⟨hR.drop (by (focus (repeat (with_reducible first | exact List.Sublist.slnil | exact List.nil_sublist _ | exact List.Sublist.refl _ | exact List.sublist_append_right _ _ | apply List.Sublist.cons_cons | apply List.Sublist.cons | apply sub_rightI)))), ?_⟩
      refine wpG_oneK hR hA (i := 8) (by kernel_rfl) ?_
      clear hR hA; intro w hR hA
      refine opPutK hR hA (i := 8) (c' := #[.slice a2 n2 c2]) tDsR rfl rfl rfl rfl (by (focus (repeat (first | apply List.Mem.head | apply List.Mem.tail | apply List.mem_append_right)))) ⟨rfl⟩ (by simp) rfl (by (focus (repeat (first | apply Upd.head | apply Upd.tail | apply Upd.skipC)))) (by rw [hks]; exact .head _) ?_
      clear hR hA; intro w hR hA
      refine ⟨hR.drop (by (focus (repeat (with_reducible first | exact List.Sublist.slnil | exact List.nil_sublist _ | exact List.Sublist.refl _ | exact List.sublist_append_right _ _ | apply List.Sublist.cons_cons | apply List.Sublist.cons | apply sub_rightI)))), ?_⟩
      refine wpG_done (by kernel_rfl) ?_
      intro w3 hb3 _
      replace hR := hR.grow hb3
      replace hA := hA.below hb3
      clear hb3
      show Code.wpIn (wideR (some l)) _ _ _ _ _ _
      refine wpR_lit (r := some l) ?_ (by kernel_rfl) ?_
      · rintro ⟨a, w, h⟩; exact h
      repeat (first
          | ((with_reducible apply q_lsK hR hA); exact rfl; (with_reducible apply t_one tWordD); (apply EvC.now; exact rfl); (focus (repeat (first | apply List.Mem.head | apply List.Mem.tail | apply List.mem_append_right))); exact rfl; (simp only [List.set_cons_succ, List.set_cons_zero]; exact rfl); clear hR hA; intro w hR hA)
          | ((with_reducible apply q_lsK hR hA); exact rfl; (with_reducible apply t_move); (apply EvC.now; exact rfl); (simp only [List.set_cons_succ, List.set_cons_zero]; exact rfl); clear hR hA; intro w hR hA)
          | ((with_reducible apply q_lsK hR hA); exact rfl; (with_reducible apply t_lenW Try.underlying23); (apply EvC.now; exact rfl); exact hSx _ _ hRW; (simp only [List.set_cons_succ, List.set_cons_zero]; exact rfl); clear hR hA; intro w hR hA)
          | ((with_reducible apply q_lsK hR hA); exact rfl; (with_reducible apply t_conv Try.underlying3 Try.underlying22); (apply EvC.now; exact rfl); exact HC.out; (simp only [List.set_cons_succ, List.set_cons_zero]; exact rfl); clear hR hA; intro w hR hA)
          | ((with_reducible apply q_lsK hR hA); exact rfl; (with_reducible apply t_numE (op := .add)); (apply EvC.now; exact rfl); (apply EvC.now; exact rfl); exact rfl; exact HF.out; (simp only [List.set_cons_succ, List.set_cons_zero]; exact rfl); clear hR hA; intro w hR hA)
          | ((with_reducible apply wpList_putK hR hA (c' := #[.int .u16 (f2 : Int)]) tWordD); exact rfl; exact rfl; exact rfl; (focus (repeat (first | apply List.Mem.head | apply List.Mem.tail | apply List.mem_append_right))); exact ⟨rfl⟩; (simp); exact rfl; (focus (repeat (first | apply Upd.head | apply Upd.tail | apply Upd.skipC))); exact hgo; clear hR hA; intro w hR hA))
      refine wpList_nil ?_
      have hP2 := hP.snoc (x := x) (s1 := s1) (v := v1) (by rw [hxb]; exact hS1.srcR (hSx _ _ hRW).ok) hv1
      rw [hf] at hP2
      refine ⟨hA.from _ hcells, hA.kpR hRW.below.size hkge hG, s2, s1 ++ Y, .slice a2 n2 c2, _, ?_, ?_, hP2⟩
      · rw [hf2]
        exact (hR.drop (List.Sublist.append (List.Sublist.refl _) (List.sublist_cons_self _ _))).perm (perm_mid [_, _, _, _, _] s2 s1 Y)
      · rw [List.length_append]
        exact hS2.cast (by rw [List.flatMap_append]; simp [cellsD])
    · skip
      clear hR hA; intro w hR hA
      refine opCallO hR Try.call23 rfl rfl rfl ?_
      refine (clone_any (hSx _ _ hR) hBx.1 hBx.2).mono ?_
      rintro e w2 ⟨s1, v1, rfl, hO, hS1⟩
      replace hA := hA.below hO.below
      replace hR := hR.join hO
      clear hO
      have hv1 : IsSl v1 := ⟨hS1.shapeIdx⟩
      refine ⟨_, rfl, hR.drop (by (focus (repeat (with_reducible first | exact List.Sublist.slnil | exact List.nil_sublist _ | exact List.Sublist.refl _ | exact List.sublist_append_right _ _ | apply List.Sublist.cons_cons | apply List.Sublist.cons | apply sub_rightI)))), ?_⟩
      simp only [List.set_cons_succ, List.set_cons_zero]
      refine wpG_twoK hR hA (i := 0) (j := 5) (by kernel_rfl) ?_ ?_
      · skip
        clear hR hA; intro w hR hA
        refine opQK hR hA (i := 0) rfl rfl (t_one (g := gl) (off := 0) (cs := #[lv]) (v := lv) (t := 42) tDsR (.now rfl) (by (focus (repeat (first | apply List.Mem.head | apply List.Mem.tail | apply List.mem_append_right)))) rfl) (by (simp only [List.set_cons_succ, List.set_cons_zero]; exact rfl)) ?_
        clear hR hA; intro w hR hA
        refine ⟨hR.drop (by (focus (repeat (with_reducible first | exact List.Sublist.slnil | exact List.nil_sublist _ | exact List.Sublist.refl _ | exact List.sublist_append_right _ _ | apply List.Sublist.cons_cons | apply List.Sublist.cons | apply sub_rightI)))), ?_⟩
        refine wpG_oneK hR hA (i := 5) (by kernel_rfl) ?_
        clear hR hA; intro w hR hA
        refine opQK hR hA (i := 5) rfl rfl (t_built rfl (bD3v s _ hv1)) (by (simp only [List.set_cons_succ, List.set_cons_zero]; exact rfl)) ?_
        clear hR hA; intro w hR hA
        refine ⟨hR.drop (by (focus (repeat (with_reducible first | exact List.Sublist.slnil | exact List.nil_sublist _ | exact List.Sublist.refl _ | exact List.sublist_append_right _ _ | apply List.Sublist.cons_cons | apply List.Sublist.cons | apply sub_rightI)))), ?_⟩
        refine wpG_oneK hR hA (i := 6) (by kernel_rfl) ?_
        clear hR hA; intro w hR hA
        refine opBuildK hR hA (i := 6) rfl rfl rfl (bDs1 _ _ hv1 .nil) ?_
        clear hR hA; intro gb w hR hA
        simp only [List.set_cons_succ, List.set_cons_zero]
        refine ⟨hR.drop (by (focus (repeat (with_reducible first | exact List.Sublist.slnil | exact List.nil_sublist _ | exact List.Sublist.refl _ | exact List.sublist_append_right _ _ | apply List.Sublist.cons_cons | apply List.Sublist.cons | apply sub_rightI)))), ?_⟩
        refine wpG_oneK hR hA (i := 7) (by kernel_rfl) ?_
        clear hR hA; intro w hR hA
        refine opAppK hR hA (i := 7) tDatsB rfl rfl rfl rfl (Les.tail (Les.skip _ (Les.tail (Les.tail (Les.tail (Les.tail (Les.tail Les.head))))))) hSl (rd_oneD hv1 .nil hR (.head _)) (by simp [maxLen]; omega) (by omega) (fun r hr => by rw [hks]; exact .tail _ (.tail _ hr)) ?_
        clear hR hA; intro s2 v2 w hR hS2 hA
        simp only [List.set_cons_succ, List.set_cons_zero]
        obtain ⟨a2, n2, c2, rfl⟩ := hS2.shapeIdx
        refine ⟨hR.drop (by (focus (repeat (with_reducible first | exact List.Sublist.slnil | exact List.nil_sublist _ | exact List.Sublist.refl _ | exact List.sublist_append_right _ _ | apply List.Sublist.cons_cons | apply List.Sublist.cons | apply sub_rightI)))), ?_⟩
        refine wpG_oneK hR hA (i := 8) (by kernel_rfl) ?_
        clear hR hA; intro w hR hA
        refine opPutK hR hA (i := 8) (c' := #[.slice a2 n2 c2]) tDsR rfl rfl rfl rfl (by (focus (repeat (first | apply List.Mem.head | apply List.Mem.tail | apply List.mem_append_right)))) ⟨rfl⟩ (by simp) rfl (by (focus (repeat (first | apply Upd.head | apply Upd.tail | apply Upd.skipC)))) (by rw [hks]; exact .head _) ?_
        clear hR hA; intro w hR hA
        refine ⟨hR.drop (by (focus (repeat (with_reducible first | exact List.Sublist.slnil | exact List.nil_sublist _ | exact List.Sublist.refl _ | exact List.sublist_append_right _ _ | apply List.Sublist.cons_cons | apply List.Sublist.cons | apply sub_rightI)))), ?_⟩
        refine wpG_done (by kernel_rfl) ?_
        intro w3 hb3 _
        replace hR := hR.grow hb3
        replace hA := hA.below hb3
        clear hb3
        show Code.wpIn (wideR (some l)) _ _ _ _ _ _
        refine wpR_lit (r := some l) ?_ (by kernel_rfl) ?_
        · rintro ⟨a, w, h⟩; exact h
        repeat (first
            | ((with_reducible apply q_lsK hR hA); exact rfl; (with_reducible apply t_one tWordD); (apply EvC.now; exact rfl); (focus (repeat (first | apply List.Mem.head | apply List.Mem.tail | apply List.mem_append_right))); exact rfl; (simp only [List.set_cons_succ, List.set_cons_zero]; exact rfl); clear hR hA; intro w hR hA)
            | ((with_reducible apply q_lsK hR hA); exact rfl; (with_reducible apply t_move); (apply EvC.now; exact rfl); (simp only [List.set_cons_succ, List.set_cons_zero]; exact rfl); clear hR hA; intro w hR hA)
            | ((with_reducible apply q_lsK hR hA); exact rfl; (with_reducible apply t_lenW Try.underlying23); (apply EvC.now; exact rfl); exact hSx _ _ hRW; (simp only [List.set_cons_succ, List.set_cons_zero]; exact rfl); clear hR hA; intro w hR hA)
            | ((with_reducible apply q_lsK hR hA); exact rfl; (with_reducible apply t_conv Try.underlying3 Try.underlying22); (apply EvC.now; exact rfl); exact HC.out; (simp only [List.set_cons_succ, List.set_cons_zero]; exact rfl); clear hR hA; intro w hR hA)
            | ((with_reducible apply q_lsK hR hA); exact rfl; (with_reducible apply t_numE (op := .add)); (apply EvC.now; exact rfl); (apply EvC.now; exact rfl); exact rfl; exact HF.out; (simp only [List.set_cons_succ, List.set_cons_zero]; exact rfl); clear hR hA; intro w hR hA)
            | ((with_reducible apply wpList_putK hR hA (c' := #[.int .u16 (f2 : Int)]) tWordD); exact rfl; exact rfl; exact rfl; (focus (repeat (first | apply List.Mem.head | apply List.Mem.tail | apply List.mem_append_right))); exact ⟨rfl⟩; (simp); exact rfl; (focus (repeat (first | apply Upd.head | apply Upd.tail | apply Upd.skipC))); exact hgo; clear hR hA; intro w hR hA))
        refine wpList_nil ?_
        have hP2 := hP.snoc (x := x) (s1 := s1) (v := v1) (by rw [hxb]; exact hS1.srcR (hSx _ _ hRW).ok) hv1
        rw [hf] at hP2
        refine ⟨hA.from _ hcells, hA.kpR hRW.below.size hkge hG, s2, s1 ++ Y, .slice a2 n2 c2, _, ?_, ?_, hP2⟩
        · rw [hf2]
          exact (hR.drop (List.Sublist.append (List.Sublist.refl _) (List.sublist_cons_self _ _))).perm (perm_mid [_, _, _, _, _] s2 s1 Y)
        · rw [List.length_append]
          exact hS2.cast (by rw [List.flatMap_append]; simp [cellsD])
      · skip
        clear hR hA; intro w hR hA
        refine opQK hR hA (i := 5) rfl rfl (t_built rfl (bD3v s _ hv1)) (by (simp only [List.set_cons_succ, List.set_cons_zero]; exact rfl)) ?_
        clear hR hA; intro w hR hA
        refine ⟨hR.drop (by (focus (repeat (with_reducible first | exact List.Sublist.slnil | exact List.nil_sublist _ | exact List.Sublist.refl _ | exact List.sublist_append_right _ _ | apply List.Sublist.cons_cons | apply List.Sublist.cons | apply sub_rightI)))), ?_⟩
        refine wpG_twoK hR hA (i := 0) (j := 6) (by kernel_rfl) ?_ ?_
        · skip
          clear hR hA; intro w hR hA
          refine opQK hR hA (i := 0) rfl rfl (t_one (g := gl) (off := 0) (cs := #[lv]) (v := lv) (t := 42) tDsR (.now rfl) (by (focus (repeat (first | apply List.Mem.head | apply List.Mem.tail | apply List.mem_append_right)))) rfl) (by (simp only [List.set_cons_succ, List.set_cons_zero]; exact rfl)) ?_
          clear hR hA; intro w hR hA
          refine ⟨hR.drop (by (focus (repeat (with_reducible first | exact List.Sublist.slnil | exact List.nil_sublist _ | exact List.Sublist.refl _ | exact List.sublist_append_right _ _ | apply List.Sublist.cons_cons | apply List.Sublist.cons | apply sub_rightI)))), ?_⟩
          refine wpG_oneK hR hA (i := 6) (by kernel_rfl) ?_
          clear hR hA; intro w hR hA
          refine opBuildK hR hA (i := 6) rfl rfl rfl (bDs1 _ _ hv1 .nil) ?_
          clear hR hA; intro gb w hR hA
          simp only [List.set_cons_succ, List.set_cons_zero]
          refine ⟨hR.drop (by (focus (repeat (with_reducible first | exact List.Sublist.slnil | exact List.nil_sublist _ | exact List.Sublist.refl _ | exact List.sublist_append_right _ _ | apply List.Sublist.cons_cons | apply List.Sublist.cons | apply sub_rightI)))), ?_⟩
          refine wpG_oneK hR hA (i := 7) (by kernel_rfl) ?_
          clear hR hA; intro w hR hA
          refine opAppK hR hA (i := 7) tDatsB rfl rfl rfl rfl (Les.tail (Les.skip _ (Les.tail (Les.tail (Les.tail (Les.tail (Les.tail Les.head))))))) hSl (rd_oneD hv1 .nil hR (.head _)) (by simp [maxLen]; omega) (by omega) (fun r hr => by rw [hks]; exact .tail _ (.tail _ hr)) ?_
          clear hR hA; intro s2 v2 w hR hS2 hA
          simp only [List.set_cons_succ, List.set_cons_zero]
          obtain ⟨a2, n2, c2, rfl⟩ := hS2.shapeIdx
          refine ⟨hR.drop (by (focus (repeat (with_reducible first | exact List.Sublist.slnil | exact List.nil_sublist _ | exact List.Sublist.refl _ | exact List.sublist_append_right _ _ | apply List.Sublist.cons_cons | apply List.Sublist.cons | apply sub_rightI)))), ?_⟩
          refine wpG_oneK hR hA (i := 8) (by kernel_rfl) ?_
          clear hR hA; intro w hR hA
          refine opPutK hR hA (i := 8) (c' := #[.slice a2 n2 c2]) tDsR rfl rfl rfl rfl (by (focus (repeat (first | apply List.Mem.head | apply List.Mem.tail | apply List.mem_append_right)))) ⟨rfl⟩ (by simp) rfl (by (focus (repeat (first | apply Upd.head | apply Upd.tail | apply Upd.skipC)))) (by rw [hks]; exact .head _) ?_
          clear hR hA; intro w hR hA
          refine ⟨hR.drop (by (focus (repeat (with_reducible first | exact List.Sublist.slnil | exact List.nil_sublist _ | exact List.Sublist.refl _ | exact List.sublist_append_right _ _ | apply List.Sublist.cons_cons | apply List.Sublist.cons | apply sub_rightI)))), ?_⟩
          refine wpG_done (by kernel_rfl) ?_
          intro w3 hb3 _
          replace hR := hR.grow hb3
          replace hA := hA.below hb3
          clear hb3
          show Code.wpIn (wideR (some l)) _ _ _ _ _ _
          refine wpR_lit (r := some l) ?_ (by kernel_rfl) ?_
          · rintro ⟨a, w, h⟩; exact h
          repeat (first
              | ((with_reducible apply q_lsK hR hA); exact rfl; (with_reducible apply t_one tWordD); (apply EvC.now; exact rfl); (focus (repeat (first | apply List.Mem.head | apply List.Mem.tail | apply List.mem_append_right))); exact rfl; (simp only [List.set_cons_succ, List.set_cons_zero]; exact rfl); clear hR hA; intro w hR hA)
              | ((with_reducible apply q_lsK hR hA); exact rfl; (with_reducible apply t_move); (apply EvC.now; exact rfl); (simp only [List.set_cons_succ, List.set_cons_zero]; exact rfl); clear hR hA; intro w hR hA)
              | ((with_reducible apply q_lsK hR hA); exact rfl; (with_reducible apply t_lenW Try.underlying23); (apply EvC.now; exact rfl); exact hSx _ _ hRW; (simp only [List.set_cons_succ, List.set_cons_zero]; exact rfl); clear hR hA; intro w hR hA)
              | ((with_reducible apply q_lsK hR hA); exact rfl; (with_reducible apply t_conv Try.underlying3 Try.underlying22); (apply EvC.now; exact rfl); exact HC.out; (simp only [List.set_cons_succ, List.set_cons_zero]; exact rfl); clear hR hA; intro w hR hA)
              | ((with_reducible apply q_lsK hR hA); exact rfl; (with_reducible apply t_numE (op := .add)); (apply EvC.now; exact rfl); (apply EvC.now; exact rfl); exact rfl; exact HF.out; (simp only [List.set_cons_succ, List.set_cons_zero]; exact rfl); clear hR hA; intro w hR hA)
              | ((with_reducible apply wpList_putK hR hA (c' := #[.int .u16 (f2 : Int)]) tWordD); exact rfl; exact rfl; exact rfl; (focus (repeat (first | apply List.Mem.head | apply List.Mem.tail | apply List.mem_append_right))); exact ⟨rfl⟩; (simp); exact rfl; (focus (repeat (first | apply Upd.head | apply Upd.tail | apply Upd.skipC))); exact hgo; clear hR hA; intro w hR hA))
          refine wpList_nil ?_
          have hP2 := hP.snoc (x := x) (s1 := s1) (v := v1) (by rw [hxb]; exact hS1.srcR (hSx _ _ hRW).ok) hv1
          rw [hf] at hP2
          refine ⟨hA.from _ hcells, hA.kpR hRW.below.size hkge hG, s2, s1 ++ Y, .slice a2 n2 c2, _, ?_, ?_, hP2⟩
          · rw [hf2]
            exact (hR.drop (List.Sublist.append (List.Sublist.refl _) (List.sublist_cons_self _ _))).perm (perm_mid [_, _, _, _, _] s2 s1 Y)
          · rw [List.length_append]
            exact hS2.cast (by rw [List.flatMap_append]; simp [cellsD])
        · skip
          clear hR hA; intro w hR hA
          refine opBuildK hR hA (i := 6) rfl rfl rfl (bDs1 _ _ hv1 .nil) ?_
          clear hR hA; intro gb w hR hA
          simp only [List.set_cons_succ, List.set_cons_zero]
          refine ⟨hR.drop (by (focus (repeat (with_reducible first | exact List.Sublist.slnil | exact List.nil_sublist _ | exact List.Sublist.refl _ | exact List.sublist_append_right _ _ | apply List.Sublist.cons_cons | apply List.Sublist.cons | apply sub_rightI)))), ?_⟩
          refine wpG_oneK hR hA (i := 0) (by kernel_rfl) ?_
          clear hR hA; intro w hR hA
          refine opQK hR hA (i := 0) rfl rfl (t_one (g := gl) (off := 0) (cs := #[lv]) (v := lv) (t := 42) tDsR (.now rfl) (by (focus (repeat (first | apply List.Mem.head | apply List.Mem.tail | apply List.mem_append_right)))) rfl) (by (simp only [List.set_cons_succ, List.set_cons_zero]; exact rfl)) ?_
          clear hR hA; intro w hR hA
          refine ⟨hR.drop (by (focus (repeat (with_reducible first | exact List.Sublist.slnil | exact List.nil_sublist _ | exact List.Sublist.refl _ | exact List.sublist_append_right _ _ | apply List.Sublist.cons_cons | apply List.Sublist.cons | apply sub_rightI)))), ?_⟩
          refine wpG_oneK hR hA (i := 7) (by kernel_rfl) ?_
          clear hR hA; intro w hR hA
          refine opAppK hR hA (i := 7) tDatsB rfl rfl rfl rfl (Les.tail (Les.skip _ (Les.tail (Les.tail (Les.tail (Les.tail (Les.tail Les.head))))))) hSl (rd_oneD hv1 .nil hR (.head _)) (by simp [maxLen]; omega) (by omega) (fun r hr => by rw [hks]; exact .tail _ (.tail _ hr)) ?_
          clear hR hA; intro s2 v2 w hR hS2 hA
          simp only [List.set_cons_succ, List.set_cons_zero]
          obtain ⟨a2, n2, c2, rfl⟩ := hS2.shapeIdx
          refine ⟨hR.drop (by (focus (repeat (with_reducible first | exact List.Sublist.slnil | exact List.nil_sublist _ | exact List.Sublist.refl _ | exact List.sublist_append_right _ _ | apply List.Sublist.cons_cons | apply List.Sublist.cons | apply sub_rightI)))), ?_⟩
          refine wpG_oneK hR hA (i := 8) (by kernel_rfl) ?_
          clear hR hA; intro w hR hA
          refine opPutK hR hA (i := 8) (c' := #[.slice a2 n2 c2]) tDsR rfl rfl rfl rfl (by (focus (repeat (first | apply List.Mem.head | apply List.Mem.tail | apply List.mem_append_right)))) ⟨rfl⟩ (by simp) rfl (by (focus (repeat (first | apply Upd.head | apply Upd.tail | apply Upd.skipC)))) (by rw [hks]; exact .head _) ?_
          clear hR hA; intro w hR hA
          refine ⟨hR.drop (by (focus (repeat (with_reducible first | exact List.Sublist.slnil | exact List.nil_sublist _ | exact List.Sublist.refl _ | exact List.sublist_append_right _ _ | apply List.Sublist.cons_cons | apply List.Sublist.cons | apply sub_rightI)))), ?_⟩
          refine wpG_done (by kernel_rfl) ?_
          intro w3 hb3 _
          replace hR := hR.grow hb3
          replace hA := hA.below hb3
          clear hb3
          show Code.wpIn (wideR (some l)) _ _ _ _ _ _
          refine wpR_lit (r := some l) ?_ (by kernel_rfl) ?_
          · rintro ⟨a, w, h⟩; exact h
          repeat (first
              | ((with_reducible apply q_lsK hR hA); exact rfl; (with_reducible apply t_one tWordD); (apply EvC.now; exact rfl); (focus (repeat (first | apply List.Mem.head | apply List.Mem.tail | apply List.mem_append_right))); exact rfl; (simp only [List.set_cons_succ, List.set_cons_zero]; exact rfl); clear hR hA; intro w hR hA)
              | ((with_reducible apply q_lsK hR hA); exact rfl; (with_reducible apply t_move); (apply EvC.now; exact rfl); (simp only [List.set_cons_succ, List.set_cons_zero]; exact rfl); clear hR hA; intro w hR hA)
              | ((with_reducible apply q_lsK hR hA); exact rfl; (with_reducible apply t_lenW Try.underlying23); (apply EvC.now; exact rfl); exact hSx _ _ hRW; (simp only [List.set_cons_succ, List.set_cons_zero]; exact rfl); clear hR hA; intro w hR hA)
              | ((with_reducible apply q_lsK hR hA); exact rfl; (with_reducible apply t_conv Try.underlying3 Try.underlying22); (apply EvC.now; exact rfl); exact HC.out; (simp only [List.set_cons_succ, List.set_cons_zero]; exact rfl); clear hR hA; intro w hR hA)
              | ((with_reducible apply q_lsK hR hA); exact rfl; (with_reducible apply t_numE (op := .add)); (apply EvC.now; exact rfl); (apply EvC.now; exact rfl); exact rfl; exact HF.out; (simp only [List.set_cons_succ, List.set_cons_zero]; exact rfl); clear hR hA; intro w hR hA)
              | ((with_reducible apply wpList_putK hR hA (c' := #[.int .u16 (f2 : Int)]) tWordD); exact rfl; exact rfl; exact rfl; (focus (repeat (first | apply List.Mem.head | apply List.Mem.tail | apply List.mem_append_right))); exact ⟨rfl⟩; (simp); exact rfl; (focus (repeat (first | apply Upd.head | apply Upd.tail | apply Upd.skipC))); exact hgo; clear hR hA; intro w hR hA))
          refine wpList_nil ?_
          have hP2 := hP.snoc (x := x) (s1 := s1) (v := v1) (by rw [hxb]; exact hS1.srcR (hSx _ _ hRW).ok) hv1
          rw [hf] at hP2
          refine ⟨hA.from _ hcells, hA.kpR hRW.below.size hkge hG, s2, s1 ++ Y, .slice a2 n2 c2, _, ?_, ?_, hP2⟩
          · rw [hf2]
            exact (hR.drop (List.Sublist.append (List.Sublist.refl _) (List.sublist_cons_self _ _))).perm (perm_mid [_, _, _, _, _] s2 s1 Y)
          · rw [List.length_append]
            exact hS2.cast (by rw [List.flatMap_append]; simp [cellsD])
  case done =>
    rintro D ys W hD rfl ⟨sl, Y, lv, ds, hR6, hSl, hP⟩ hK6
    show K _ _
    refine hK _ _ ?_
    dsimp only
    clear hR hR3 hR5
    have hR := hR6
    clear hR6
    have hb6 := hR
    go_wp2_with (first
    | ((with_reducible apply wpList_one hR tDsR); exact rfl; exact rfl; (focus (repeat (first | apply List.Mem.head | apply List.Mem.tail | apply List.mem_append_right))); exact rfl; (simp only [List.set_cons_succ, List.set_cons_zero]; exact rfl)))
    (try simp only [Exit.inBlock, Exit.then])
    refine ⟨by simp, .inl ⟨_, _, rfl, run_takeDeferred hK6, ?_⟩⟩
    refine ⟨_, results_tmp rfl _ _ _, ?_⟩
    have hRD := hR.grownNC (grownBy_putObj' W D (.deferred none)) hlow (fun r e => by cases e; exact ⟨hD, _, hK6, rfl⟩)
    have hones : (ds.flatMap cellsD).all (·.oneCell') = true := by
      rw [List.all_flatMap, List.all_eq_true]
      intro a ha
      obtain ⟨h1, h2⟩ := hP.sl a ha
      have := one_dat a.s a.o h1 (show IsSl a.x by rw [h2]; exact IsSl.nil)
      simpa [cellsD] using this
    have hmY : ∀ r ∈ Y, r ∈ ((gl, #[lv], 42) :: (go, #[.int .u16 (((o + chkTot bs (chkUp bs (chkN bs) (Nat.le_refl _))) % 65536 : Nat) : Int)], 22) :: (gs, #[.int .i64 s], 3) :: (g4, #[.int .i64 1024], 3) :: (g3, #[.slice a0 n0 c0], 23) :: (sl ++ Y) : List RowT) := fun r hr => by simp [hr]
    refine ⟨lv, ds, rfl, hRD.below, hSl.rd hRD (fun r hr => by simp [hr]) hones, ?_, ?_⟩
    · rw [hP.len, chkUp_len, cutD_len]; rfl
    · intro i a d ha hd
      have hi : i < cutN bs := by
        have := (List.getElem?_eq_some_iff.1 hd).1
        rwa [cutD_len] at this
      have hi2 : i < chkN bs := hi
      rw [cutD_at hi] at hd
      cases hd
      obtain ⟨e1, e2, e3, e4⟩ := hP.at_ i a ⟨i, hi2⟩ ha (chkUp_at bs _ _ i hi2)
      have hlt := chk_lt hi2
      rw [chkUp_take bs _ _ i (by omega), chkTot_up] at e2
      refine ⟨e1, ?_, ?_, by rw [e3]; exact IsSl.nil⟩
      · rw [e2]
        show _ = o + 1024 * i
        omega
      · rw [← chkB_piece s o bs i]
        exact e4 _ _ _ hRD hmY
  case stop =>
    rintro D c pre W _ _ hx _
    exact hx.elim
end Go.Proofs.Ythklhkpikaopfaa
