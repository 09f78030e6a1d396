







/- The contracts of package names. No statement of the seat is proved here. -/
import Derived.Test.YtlnicbjnphineaaCom
import Derived.Test.YtlnicbjnphineaaIdx
import Derived.Deep.DeepCutAuto
import Derived.Deep.CutBlock
namespace Go.Proofs.Ytlnicbjnphineaa
open Go.ChangeShapes Go.WideShapes Go.ChangeAt Go.RowKit
set_option linter.unusedVariables false
set_option linter.unusedSimpArgs false

theorem Upd.skipC {g : Nat} {c' : Array Value} {l l' : List RowT} (A : List RowT) (h : Upd g c' l l') : Upd g c' (A ++ l) (A ++ l') := by
  induction A with
  | nil => exact h
  | cons x A ih => exact .tail ih
theorem ret_two {p q : Value} {a b : Int} (h : p = q) (h' : a = b) : Ending.returned (.tuple #[p, .int .i64 a]) = .returned (.tuple #[q, .int .i64 b]) := by rw [h, h']
theorem src_start {w0 : World} {v : Value} {bs : List Int} (h : SrcW w0 v bs) : SrcIn w0 [] v bs := fun w l hO _ => h.own hO
theorem one_recC (k : Int) {e : TypeId} {m n : Nat} {s : List RowT} {v : Value} {xs : List Value} (h : Sl e m s v n xs) : (#[Value.int .u8 k, v] : Array Value).all (·.oneCell') = true := by
  obtain ⟨a, n, c, rfl⟩ := h.shapeIdx
  simp [Value.oneCell']
theorem bRecC (k : Int) {e : TypeId} {m n : Nat} {s : List RowT} {v : Value} {xs : List Value} (h : Sl e m s v n xs) : Built Try.prog 24 [(0, .int .u8 k), (1, v)] #[.int .u8 k, v] := by
  obtain ⟨a, n, c, rfl⟩ := h.shapeIdx
  exact bRecS k a n c
/-! ### A module's name -/
theorem namHeader_any (ts : List Int) (w0 : World) (hb : bytesOk ts) (hl : ts.length ≤ 100000) :
    Calls Try.prog 6 #[.string (strOfNums ts)] w0 fun e w' => RetB w0 w' (fun v => .agg #[.int .u8 128, v]) e (nam18 ts) := by
  have hR := Own.start w0
  go_enter Try.func6, Try.ntmps6
  go_wp2_with (first
    | ((with_reducible apply wpList_make hR zRec); exact rfl; clear hR; intro g w hR; simp only [List.set_cons_succ, List.set_cons_zero])
    | (go_at_call 14; refine (namX_any ts _ hb hl).mono ?_; rintro e w' ⟨s1, v1, rfl, hO, hS1⟩; replace hR := hR.join hO; clear hO)
    | ((with_reducible apply wpList_built); exact rfl; exact rfl; exact bRecC _ hS1; (simp only [List.set_cons_succ, List.set_cons_zero]; exact rfl))
    | ((with_reducible apply wpList_put hR tRec); exact rfl; exact rfl; exact rfl; (focus (repeat (first | apply List.Mem.head | apply List.Mem.tail | apply List.mem_append_right))); exact put_rec _ _ _ _; exact rfl; simp; exact one_recC _ hS1; (focus (repeat (first | apply Upd.head | apply Upd.tail | apply Upd.skipC))); clear hR; intro w hR))
  (try simp only [Exit.inBlock, Exit.then])
  exact post_row hR rfl (by rfl) (by (focus (repeat (first | apply List.Mem.head | apply List.Mem.tail | apply List.mem_append_right)))) Try.underlying24 rfl iRec (by rfl) (by rfl) ⟨s1, _, rfl, hR.drop (List.sublist_append_left _ _), hS1.srcR (nam18_ok hb)⟩
set_option maxHeartbeats 1000000 in
theorem namName_any {w0 : World} {v : Value} {bs : List Int} (h : SrcW w0 v bs) (hl : bs.length ≤ 1000000) :
    Calls Try.prog 7 #[v] w0 fun e w' => e = .returned (.tuple #[.string (strOfNums (hdrR bs).1), .int .i64 (hdrR bs).2]) ∧ Below w0.heap.size w0 w' := by
  have hR := Own.start w0
  have hok1 : SrcZ.ok ⟨bs, 0⟩ := ⟨h.ok, fun hn => absurd rfl hn⟩
  obtain ⟨⟨ns, s2⟩, hn⟩ : ∃ p, nameZ ⟨bs, 0⟩ = p := ⟨_, rfl⟩
  have hok2 : s2.ok := by have := (take_ok (take_ok hok1 1).2 (numZ ⟨bs, 0⟩ 1).1).2; rwa [show (takeZ (takeZ ⟨bs, 0⟩ 1).2 (numZ ⟨bs, 0⟩ 1).1).2 = s2 from congrArg Prod.snd hn] at this
  have hl2 : s2.b.length ≤ 1000000 := by
    have h1 := take_len1 (numZ ⟨bs, 0⟩ 1).2 (numZ ⟨bs, 0⟩ 1).1
    rw [show (takeZ (numZ ⟨bs, 0⟩ 1).2 (numZ ⟨bs, 0⟩ 1).1).2 = s2 from congrArg Prod.snd hn] at h1
    have h2 := take_len1 ⟨bs, 0⟩ 1
    exact Nat.le_trans h1 (Nat.le_trans h2 hl)
  obtain ⟨x, hx⟩ : ∃ x, (endZ s2).e = x := ⟨_, rfl⟩
  have HH := Lib.hid (show hdrR bs = if x = 0 then (ns, 0) else ([], x) by unfold hdrR; rw [hn]; dsimp only; rw [hx])
  have HN := Lib.hid hn
  have HX := Lib.hid hx
  clear hn hx
  go_enter Try.func7, Try.ntmps7
  go_wp2_with fail
  refine (fromG_any hR (src_start h) (fun _ hr => nomatch hr) hl).mono ?_
  rintro e w' ⟨g, cs, sr, rfl, hO, hS⟩
  clear hR
  have hR := hO
  have hY : ∀ r ∈ sr, r ∈ sr ++ ([] : List RowT) := fun r hr => List.mem_append_left _ hr
  clear hO
  go_wp2_with fail
  refine (nameX_any hR Les.one hY hS hok1 hl).mono ?_
  rw [HN.out]
  rintro e w' ⟨rfl, cs2, hR2, hS2⟩
  clear hR hS
  have hR := hR2
  clear hR2
  go_wp2_with fail
  refine (endX_any hR Les.one hY hS2 hok2 hl2).mono ?_
  rw [HX.out]
  rintro e w' ⟨rfl, cs3, hR3, hS3⟩
  clear hR hS2
  have hR := hR3
  clear hR3 hS3
  by_cases hx : x = 0
  · have HE := Lib.hid (show cmpB .neq x 0 = some false by simp [cmpB, hx])
    have HV := Lib.hid (show hdrR bs = (ns, 0) by rw [HH.out, if_pos hx])
    clear hx
    go_wp2_with (first
    | ((with_reducible apply q_ls hR); exact rfl; (with_reducible apply t_cmp); (apply EvC.now; exact rfl); (apply EvC.now; exact rfl); exact HE.out; (simp only [List.set_cons_succ, List.set_cons_zero]; exact rfl); clear hR; intro w hR))
    go_ret2
    rw [HV.out]
    exact ⟨rfl, hR.below⟩
  · have HE := Lib.hid (show cmpB .neq x 0 = some true by simp [cmpB, hx])
    have HV := Lib.hid (show hdrR bs = ([], x) by rw [HH.out, if_neg hx])
    clear hx
    go_wp2_with (first
    | ((with_reducible apply q_ls hR); exact rfl; (with_reducible apply t_cmp); (apply EvC.now; exact rfl); (apply EvC.now; exact rfl); exact HE.out; (simp only [List.set_cons_succ, List.set_cons_zero]; exact rfl); clear hR; intro w hR))
    go_ret2
    rw [HV.out]
    exact ⟨rfl, hR.below⟩
/-! ### Names, one behind the other -/
theorem nams_most : ∀ {ts : List (List Int)} {k : Nat}, ((ts.take k).flatMap nam18).length ≤ 256 * k
  | _, 0 => by simp
  | [], k + 1 => by simp
  | t :: ts, k + 1 => by
    have h1 := nams_most (ts := ts) (k := k)
    have h2 := nam18_len t
    rw [List.take_succ_cons, List.flatMap_cons, List.length_append]
    omega
theorem nams_more {ts : List (List Int)} {k : Nat} {t : List Int} (h : ts[k]? = some t) : (ts.take (k + 1)).flatMap nam18 = (ts.take k).flatMap nam18 ++ nam18 t := by
  rw [List.take_add_one, h, List.flatMap_append]; simp
theorem nams_ok {ts : List (List Int)} (h : ∀ t ∈ ts, bytesOk t) : bytesOk (ts.flatMap nam18) := by
  intro n hn
  obtain ⟨t, ht, hm⟩ := List.mem_flatMap.1 hn
  exact nam18_ok (h t ht) n hm
theorem tStrC : OneTy Try.prog 9 := tStrO
set_option maxHeartbeats 1000000 in
theorem namList_any {w0 : World} {v : Value} {ts : List (List Int)} (h : Strs w0 v ts) (hn : ts.length ≤ 1000) (hl : ∀ t ∈ ts, t.length ≤ 1000) :
    Calls Try.prog 10 #[v] w0 fun e w' => RetB w0 w' (fun v => .agg #[.int .u8 150, v]) e (ts.flatMap nam18) := by
  have hR := Own.start w0
  go_enter Try.func10, Try.ntmps10
  go_wp2_with (first
    | ((with_reducible apply wpList_make hR zRec); exact rfl; clear hR; intro g w hR; simp only [List.set_cons_succ, List.set_cons_zero])
    | ((with_reducible apply q_ls hR); exact rfl; (with_reducible apply t_lenRd Try.underlying32); (apply EvC.now; exact rfl); exact h.rd; (simp only [List.set_cons_succ, List.set_cons_zero]; exact rfl); clear hR; intro w hR))
  go_loopw [3, 8] (fun b i wr => ∃ (k : Nat) (s : List RowT), i = .int .i64 k ∧ k ≤ ts.length ∧ Sl 5 1 s b ((ts.take k).flatMap nam18).length (cellsB ((ts.take k).flatMap nam18)) ∧ Own w0 wr (s ++ [(g, #[.int .u8 0, .slice none 0 0], 24)])) (fun _ i _ => ts.length - (intOf i).toNat)
  case atStart => exact ⟨0, [], rfl, Nat.zero_le _, Sl.nil _ _, hR⟩
  case round =>
    clear hR
    obtain ⟨k, s, rfl, hk, hS, hR⟩ := hrel
    by_cases hkl : k < ts.length
    · obtain ⟨t, ht⟩ : ∃ t, ts[k]? = some t := ⟨_, List.getElem?_eq_getElem hkl⟩
      have htm := List.mem_of_getElem? ht
      have hbt := h.ok t htm
      have hlt := hl t htm
      have hmore := nams_more ht
      have hmost := nams_most (ts := ts) (k := k)
      have hnl := nam18_len t
      obtain ⟨a, cap, rfl, hc⟩ := h.el ht
      have HC := Lib.hid (show w0.cell? (a.add (k * 1)) = some (.string (strOfNums t)) by rw [Nat.mul_one]; exact hc)
      have HM := Lib.hid hmore
      obtain ⟨xs, hxs⟩ : ∃ xs, (ts.take k).flatMap nam18 = xs := ⟨_, rfl⟩
      rw [hxs] at hS hmost
      rw [hxs] at HM
      have hkl' : (k : Int) < (ts.length : Int) := by omega
      have hn1 : (nam18 t).length ≤ 256 := by omega
      have hx1 : xs.length ≤ 256000 := by omega
      clear hmore hc ht hxs hnl hmost
      go_wp2_with (first
    | ((with_reducible apply q_ls hR); exact rfl; (with_reducible apply t_six Try.underlying32 iStrO); (apply EvC.now; exact rfl); (apply EvC.now; exact rfl); (constructor <;> omega); (simp only [List.set_cons_succ, List.set_cons_zero]; exact rfl); clear hR; intro w hR)
    | ((with_reducible apply q_ls hR); exact rfl; (with_reducible apply t_oldCell tStrO); (apply EvC.now; exact rfl); (simpa using HC.out); (simp only [List.set_cons_succ, List.set_cons_zero]; exact rfl); clear hR; intro w hR)
    | (go_at_call 14; refine (namX_any t _ hbt (by omega)).mono ?_; rintro e w' ⟨s1, v1, rfl, hO, hS1⟩; replace hR := hR.join hO; clear hO)
    | ((with_reducible apply wpList_appG hR tBytesI); exact rfl; exact rfl; exact rfl; exact hS; (exact Les.skip _ (Les.head (s := s))); (exact hS1.rd hR (fun r hr => List.mem_append_left _ hr) (by simp [cellsB, List.all_map, Value.oneCell'])); (simp [maxLen]; omega); (simp; omega); clear hR hS; intro s3 v3 w hR hS; simp only [List.set_cons_succ, List.set_cons_zero]))
      go_round
      case rel =>
        refine ⟨k + 1, s3, rfl, by omega, ?_, hR.drop (List.Sublist.append (List.Sublist.refl _) (List.sublist_append_right _ _))⟩
        rw [HM.out, List.length_append, cellsB_append]
        exact hS
      case measure => first | (simp [intOf]; done) | (simp [intOf]; omega)
    · have hke : ts.take k = ts := List.take_of_length_le (by omega)
      rw [hke] at hS
      go_wp2_with (first
    | ((with_reducible apply wpList_built); exact rfl; exact rfl; exact bRecC _ hS; (simp only [List.set_cons_succ, List.set_cons_zero]; exact rfl))
    | ((with_reducible apply wpList_put hR tRec); exact rfl; exact rfl; exact rfl; (focus (repeat (first | apply List.Mem.head | apply List.Mem.tail | apply List.mem_append_right))); exact put_rec _ _ _ _; exact rfl; simp; exact one_recC _ hS; (focus (repeat (first | apply Upd.head | apply Upd.tail | apply Upd.skipC))); clear hR; intro w hR))
      (try simp only [Exit.inBlock, Exit.then])
      exact post_row hR rfl (by rfl) (by (focus (repeat (first | apply List.Mem.head | apply List.Mem.tail | apply List.mem_append_right)))) Try.underlying24 rfl iRec (by rfl) (by rfl) ⟨s, _, rfl, hR.drop (List.sublist_append_left _ _), hS.srcR (nams_ok h.ok)⟩
/-! ### Names that are read -/
def lenV (v : Value) : Nat := match v with
  | .slice _ n _ => n
  | _ => 0
theorem Sl.lenV {e : TypeId} {k n : Nat} {s : List RowT} {v : Value} {xs : List Value} (h : Sl e k s v n xs) : lenV v = n := by
  rcases h.way with ⟨_, h1, h2⟩ | ⟨g, c, _, _, h1, _⟩
  · subst h1; exact h2.symm
  · subst h1; rfl
theorem name_okZ {s : SrcZ} (h : s.ok) : bytesOk (nameZ s).1 ∧ (nameZ s).2.ok := take_ok (take_ok h 1).2 _
theorem name_lenZ (s : SrcZ) : (nameZ s).2.b.length ≤ s.b.length := Nat.le_trans (take_len1 (numZ s 1).2 (numZ s 1).1) (take_len1 s 1)
theorem name_lessZ {s : SrcZ} (h : s.b ≠ []) : (nameZ s).2.b.length < s.b.length := by
  obtain ⟨b, e⟩ := s
  cases b with
  | nil => exact absurd rfl h
  | cons a r =>
    have h1 := take_len1 (numZ ⟨a :: r, e⟩ 1).2 (numZ ⟨a :: r, e⟩ 1).1
    rw [num_one] at h1
    exact Nat.lt_of_le_of_lt (by unfold nameZ; rw [num_one]; exact h1) (Nat.lt_succ_self _)
theorem bStrC (t : List Int) : BuiltS Try.prog 32 1 [(0, .string (strOfNums t))] 9 #[.string (strOfNums t)] := bStrs1 _
set_option maxHeartbeats 1000000 in
theorem namNames_any {w0 : World} {v : Value} {bs : List Int} (h : SrcW w0 v bs) (hl : bs.length ≤ 1000000) :
    Calls Try.prog 11 #[v] w0 fun e w' => RetT w0 w' (fun v => .tuple #[v, .int .i64 (namsR bs).2]) e (namsR bs).1 := by
  have hR := Own.start w0
  have hok1 : SrcZ.ok ⟨bs, 0⟩ := ⟨h.ok, fun hn => absurd rfl hn⟩
  go_enter Try.func11, Try.ntmps11
  go_wp2_with fail
  refine (fromG_any hR (src_start h) (fun _ hr => nomatch hr) hl).mono ?_
  rintro e w' ⟨g, cs, sr, rfl, hO, hS⟩
  clear hR
  have hR := hO
  rw [List.append_nil] at hR
  clear hO
  go_wp2_with fail
  go_loopw [4] (fun l wr => ∃ (n : Nat) (acc : List (List Int)) (z : SrcZ) (cs : Array Value) (s : List RowT), namsZ bs.length ⟨bs, 0⟩ = (acc ++ (namsZ n z).1, (namsZ n z).2) ∧ z.b.length ≤ n ∧ z.ok ∧ acc.length + z.b.length ≤ bs.length ∧ (∀ t ∈ acc, bytesOk t) ∧ Sl 9 1 s l acc.length (acc.flatMap cellT) ∧ Own w0 wr (s ++ (g, cs, 52) :: sr) ∧ SrcObj w0 sr cs z) (fun l _ => bs.length - lenV l)
  case atStart => exact ⟨bs.length, [], ⟨bs, 0⟩, cs, [], rfl, Nat.le_refl _, hok1, by simp, (fun _ h => nomatch h), Sl.nil _ _, hR, hS⟩
  case round =>
    clear hR hS
    obtain ⟨n, acc, z, cs, s, hz, hn, hzok, hacc, hbt, hL, hR, hS⟩ := hrel
    have hzl : z.b.length ≤ 1000000 := by omega
    have hal : acc.length ≤ 1000000 := by omega
    have hY : ∀ r ∈ sr, r ∈ s ++ sr := fun r hr => List.mem_append_right _ hr
    have hd : Les [(g, cs, 52)] (s ++ (g, cs, 52) :: sr) (s ++ sr) := Les.skip _ Les.one
    by_cases hb : z.b = []
    · have HL := Lib.hid (show cmpB .gtr (z.b.length : Int) 0 = some false by simp [cmpB, hb])
      have hze : namsZ n z = ([], z.e) := by
        obtain ⟨b, e⟩ := z
        obtain rfl : b = [] := hb
        exact namsZ_nil n e
      rw [hze, List.append_nil] at hz
      have HH := Lib.hid (show namsR bs = if z.e = 0 then (acc, 0) else ([], z.e) by unfold namsR; rw [hz])
      clear hz hze hb hn hacc
      obtain ⟨x, hx⟩ : ∃ x, z.e = x := ⟨_, rfl⟩
      have HX := Lib.hid hx
      go_upto_region 6 with (first
    | (go_at_call 18; refine (leftX_any hR hd hY hS hzl).mono ?_; rintro e w' ⟨rfl, hb⟩; replace hR := hR.grow hb; clear hb)
    | ((with_reducible apply q_ls hR); exact rfl; (with_reducible apply t_cmp); (apply EvC.now; exact rfl); (apply EvC.now; exact rfl); exact HL.out; (simp only [List.set_cons_succ, List.set_cons_zero]; exact rfl); clear hR; intro w hR)
    | (go_at_call 19; refine (errX_any hR hd hY hS).mono ?_; rw [HX.out]; rintro e w' ⟨rfl, hb⟩; replace hR := hR.grow hb; clear hb))
      rw [hx] at HH
      clear hx HX HL
      by_cases hx : x = 0
      · have HE := Lib.hid (show cmpB .neq x 0 = some false by simp [cmpB, hx])
        have HV := Lib.hid (show namsR bs = (acc, 0) by rw [HH.out, if_pos hx])
        clear hx HH
        go_wp2_with (first
    | ((with_reducible apply q_ls hR); exact rfl; (with_reducible apply t_cmp); (apply EvC.now; exact rfl); (apply EvC.now; exact rfl); exact HE.out; (simp only [List.set_cons_succ, List.set_cons_zero]; exact rfl); clear hR; intro w hR))
        go_ret2
        rw [HV.out]
        exact ⟨s, _, rfl, hR.drop (List.sublist_append_left _ _), hL.strsR hbt⟩
      · have HE := Lib.hid (show cmpB .neq x 0 = some true by simp [cmpB, hx])
        have HV := Lib.hid (show namsR bs = ([], x) by rw [HH.out, if_neg hx])
        clear hx HH
        go_wp2_with (first
    | ((with_reducible apply q_ls hR); exact rfl; (with_reducible apply t_cmp); (apply EvC.now; exact rfl); (apply EvC.now; exact rfl); exact HE.out; (simp only [List.set_cons_succ, List.set_cons_zero]; exact rfl); clear hR; intro w hR))
        go_ret2
        rw [HV.out]
        exact ⟨[], _, rfl, hR.drop (List.nil_sublist _), (Sl.nil 9 1).strsR (ts := []) (fun _ h => nomatch h)⟩
    · have hlen : 0 < z.b.length := List.length_pos_iff.2 hb
      have HL := Lib.hid (show cmpB .gtr (z.b.length : Int) 0 = some true by simp [cmpB]; omega)
      obtain ⟨⟨ns, z2⟩, hnz⟩ : ∃ p, nameZ z = p := ⟨_, rfl⟩
      have hok2 := name_okZ hzok
      have hless := name_lessZ hb
      rw [hnz] at hok2 hless
      dsimp only at hok2 hless
      obtain ⟨m, rfl⟩ : ∃ m, n = m + 1 := ⟨n - 1, by omega⟩
      have hstep : namsZ (m + 1) z = (ns :: (namsZ m z2).1, (namsZ m z2).2) := by
        show (if z.b = [] then ([], z.e) else ((nameZ z).1 :: (namsZ m (nameZ z).2).1, (namsZ m (nameZ z).2).2)) = _
        rw [if_neg hb, hnz]
      rw [hstep] at hz
      have HZ := Lib.hid hz
      have HN := Lib.hid hnz
      have HLV := Lib.hid hL.lenV
      clear hz hstep hb hnz
      have hone : ([Value.string (strOfNums ns)] : List Value).all (·.oneCell') = true := cellT_one ns
      go_wp2_with (first
    | (go_at_call 18; refine (leftX_any hR hd hY hS hzl).mono ?_; rintro e w' ⟨rfl, hb⟩; replace hR := hR.grow hb; clear hb)
    | ((with_reducible apply q_ls hR); exact rfl; (with_reducible apply t_cmp); (apply EvC.now; exact rfl); (apply EvC.now; exact rfl); exact HL.out; (simp only [List.set_cons_succ, List.set_cons_zero]; exact rfl); clear hR; intro w hR)
    | (go_at_call 16; refine (nameX_any hR hd hY hS hzok hzl).mono ?_; rw [HN.out]; rintro e w' ⟨rfl, cs2, hR2, hS2⟩; clear hR hS; have hR := hR2; clear hR2)
    | ((with_reducible apply wpList_buildS hR); exact rfl; exact rfl; (exact bStrC _); clear hR; intro gb w hR; simp only [List.set_cons_succ, List.set_cons_zero])
    | ((with_reducible apply wpList_appG hR tStrsB); exact rfl; exact rfl; exact rfl; exact hL; (exact Les.tail (Les.tail (Les.head (s := s)))); (exact rd_str hR (.head _)); (simp [maxLen]; omega); omega; clear hR hL; intro s3 v3 w hR hL; simp only [List.set_cons_succ, List.set_cons_zero]))
      go_round
      case rel =>
        refine ⟨m, acc ++ [ns], z2, cs2, s3, ?_, by omega, hok2.2, by simp; omega, ?_, ?_, hR.drop (List.Sublist.append (List.Sublist.refl _) (List.sublist_cons_self _ _)), hS2⟩
        · rw [HZ.out]; simp
        · intro t ht
          rcases List.mem_append.1 ht with ht | ht
          · exact hbt t ht
          · rw [List.mem_singleton.1 ht]; exact hok2.1
        · rw [List.length_append, List.flatMap_append]
          exact hL.cast (by simp [cellT])
      case measure =>
        rw [HLV.out, hL.lenV]
        omega
/-! ### Remarks -/
def TCOMT : TypeId := 38
theorem bComC (a b : Int) : Built Try.prog 38 [(0, .int .u8 a), (1, .int .u8 b)] (encCom ⟨a, b, []⟩) := ⟨by kernel_rfl⟩
theorem bCom0 : Built Try.prog 38 [] (encCom ⟨0, 0, []⟩) := ⟨by kernel_rfl⟩
set_option maxHeartbeats 1000000 in
theorem namRemark_any (c : ComZ) (w0 : World) (h : c.ok) (hl : c.t.length ≤ 100000) :
    Calls Try.prog 12 #[.agg (encCom c)] w0 fun e w' => RetB w0 w' (fun v => .agg #[.int .u8 136, v]) e (comB c) := by
  have hR := Own.start w0
  obtain ⟨a, b, t⟩ := c
  have HSZ := Lib.hid (strOf_len t)
  have hbt : bytesOk t := h.2.2
  replace hl : t.length ≤ 100000 := hl
  go_enter Try.func12, Try.ntmps12
  go_wp2_with (first
    | ((with_reducible apply wpList_box hR); exact rfl; exact rfl; clear hR; intro g w hR; simp only [List.set_cons_succ, List.set_cons_zero])
    | ((with_reducible apply wpList_make hR zRec); exact rfl; clear hR; intro g w hR; simp only [List.set_cons_succ, List.set_cons_zero])
    | ((with_reducible apply q_ls hR); exact rfl; ((with_reducible first | apply t_addr (fRec _ (by decide)) | apply t_addr (fCom _ (by decide)) | apply t_one tByteR | apply t_one tSlR | apply t_one tIntR | apply t_one tStrO | apply t_part tCom) <;> (first | (apply EvC.gv; exact rfl; (with_reducible first | exact Imp.refl _ | (apply Imp.left; exact Imp.refl _) | (apply Imp.right; exact Imp.refl _) | (apply Imp.left; apply Imp.left; exact Imp.refl _))) | (apply EvC.now; exact rfl) | exact rfl | (with_reducible exact EvAll.nil) | (focus (repeat (first | apply EvAll.cons | exact EvAll.nil | (apply EvC.gv; exact rfl; (with_reducible first | exact Imp.refl _ | (apply Imp.left; exact Imp.refl _) | (apply Imp.right; exact Imp.refl _) | (apply Imp.left; apply Imp.left; exact Imp.refl _))) | (apply EvC.now; exact rfl))); done) | exact ext_com _ | (focus (repeat (first | apply List.Mem.head | apply List.Mem.tail | apply List.mem_append_right))))); (simp only [List.set_cons_succ, List.set_cons_zero]; exact rfl); clear hR; intro w hR)
    | ((with_reducible apply wpList_buildS hR); exact rfl; exact rfl; (exact bB2 _ _); clear hR; intro gb w hR; simp only [List.set_cons_succ, List.set_cons_zero])
    | ((with_reducible apply wpList_appStr hR tStrI); exact rfl; exact rfl; exact rfl; (exact (RwIs.all (k := 1) (n := 2) (c := #[Value.int .u8 a, Value.int .u8 b]) rfl (by decide))); (rw [HSZ.out]; omega); clear hR; intro g2 cur2 cap2 w hR hS; simp only [List.set_cons_succ, List.set_cons_zero])
    | ((with_reducible apply wpList_built); exact rfl; exact rfl; exact bRecS _ _ _ _; (simp only [List.set_cons_succ, List.set_cons_zero]; exact rfl))
    | ((with_reducible apply wpList_put hR tRec); exact rfl; exact rfl; exact rfl; (focus (repeat (first | apply List.Mem.head | apply List.Mem.tail | apply List.mem_append_right))); exact put_rec _ _ _ _; exact rfl; simp; (simp [Value.oneCell']); (focus (repeat (first | apply Upd.head | apply Upd.tail | apply Upd.skipC))); clear hR; intro w hR))
  rw [strCellsI hbt] at hS
  (try simp only [Exit.inBlock, Exit.then])
  exact post_row hR rfl (by rfl) (by (focus (repeat (first | apply List.Mem.head | apply List.Mem.tail | apply List.mem_append_right)))) Try.underlying24 rfl iRec (by rfl) (by rfl) ⟨[_], _, rfl, hR.drop (by (focus (repeat (with_reducible first | exact List.Sublist.slnil | exact List.nil_sublist _ | exact List.Sublist.refl _ | exact List.sublist_append_right _ _ | apply List.Sublist.cons_cons | apply List.Sublist.cons | apply sub_rightI)))), (hS.sl.cast (ys := cellsB (comB ⟨a, b, t⟩)) rfl).srcR (comB_ok h)⟩
theorem com_two (bs : List Int) : ∃ a b t e, numZ ⟨bs, 0⟩ 1 = (a, (numZ ⟨bs, 0⟩ 1).2) ∧ numZ (numZ ⟨bs, 0⟩ 1).2 1 = (b, ⟨t, e⟩) ∧ ((e = 0 ∧ comR bs = (⟨a, b, t⟩, 0) ∧ t.length ≤ bs.length) ∨ (e = 2 ∧ comR bs = (⟨0, 0, []⟩, 2))) := by
  match bs with
  | [] => exact ⟨0, 0, [], 2, rfl, rfl, .inr ⟨rfl, rfl⟩⟩
  | [a] =>
    have h1 : numZ ⟨[a], 0⟩ 1 = (a, ⟨[], 0⟩) := num_one
    refine ⟨a, 0, [], 2, ?_, ?_, .inr ⟨rfl, rfl⟩⟩ <;> rw [h1]
    rfl
  | a :: b :: t =>
    have h1 : numZ ⟨a :: b :: t, 0⟩ 1 = (a, ⟨b :: t, 0⟩) := num_one
    have h2 : numZ ⟨b :: t, 0⟩ 1 = (b, ⟨t, 0⟩) := num_one
    refine ⟨a, b, t, 0, ?_, ?_, .inl ⟨rfl, rfl, by simp; omega⟩⟩ <;> rw [h1]
    exact h2
set_option maxHeartbeats 1000000 in
theorem namComment_any {w0 : World} {v : Value} {bs : List Int} (h : SrcW w0 v bs) (hl : bs.length ≤ 1000000) :
    Calls Try.prog 13 #[v] w0 fun e w' => e = .returned (.tuple #[.agg (encCom (comR bs).1), .int .i64 (comR bs).2]) ∧ Below w0.heap.size w0 w' := by
  have hR := Own.start w0
  have hok1 : SrcZ.ok ⟨bs, 0⟩ := ⟨h.ok, fun hn => absurd rfl hn⟩
  obtain ⟨a, b, t, x, hn1, hn2, hway⟩ := com_two bs
  have hok2 : (numZ ⟨bs, 0⟩ 1).2.ok := (take_ok hok1 1).2
  have hl2 : (numZ ⟨bs, 0⟩ 1).2.b.length ≤ 1000000 := Nat.le_trans (take_len1 ⟨bs, 0⟩ 1) hl
  have hok3 : SrcZ.ok ⟨t, x⟩ := by have := (take_ok hok2 1).2; rwa [show (takeZ (numZ ⟨bs, 0⟩ 1).2 1).2 = ⟨t, x⟩ from congrArg Prod.snd hn2] at this
  obtain ⟨s1, hs1⟩ : ∃ s1, (numZ ⟨bs, 0⟩ 1).2 = s1 := ⟨_, rfl⟩
  rw [hs1] at hn1 hn2 hok2 hl2
  have HN1 := Lib.hid hn1
  have HN2 := Lib.hid hn2
  clear hn1 hn2 hs1
  go_enter Try.func13, Try.ntmps13
  go_wp2_with (first
    | ((with_reducible apply wpList_make hR zCom); exact rfl; clear hR; intro g w hR; simp only [List.set_cons_succ, List.set_cons_zero]))
  refine (fromG_any hR (src_start h) (fun _ hr => nomatch hr) hl).mono ?_
  rintro e w' ⟨gs, cs, sr, rfl, hO, hS⟩
  clear hR
  have hR := hO
  clear hO
  have hY : ∀ r ∈ sr, r ∈ sr ++ [(g, encCom ⟨0, 0, []⟩, 38)] := fun r hr => List.mem_append_left _ hr
  go_wp2_with fail
  refine (byteX_any hR Les.one hY hS hok1 hl).mono ?_
  rw [HN1.out]
  rintro e w' ⟨rfl, cs2, hR2, hS2⟩
  clear hR hS
  have hR := hR2
  clear hR2
  go_wp2_with fail
  refine (byteX_any hR Les.one hY hS2 hok2 hl2).mono ?_
  rw [HN2.out]
  rintro e w' ⟨rfl, cs3, hR3, hS3⟩
  clear hR hS2
  have hR := hR3
  clear hR3
  rcases hway with ⟨rfl, hc, htl⟩ | ⟨rfl, hc⟩
  · have HC := Lib.hid hc
    have HE := Lib.hid (show cmpB .neq (0 : Int) 0 = some false by simp [cmpB])
    have ht1 : t.length ≤ 1000000 := by omega
    have HL := Lib.hid hok3
    have hbt : bytesOk t := hok3.1
    have HT : Hid (takeZ ⟨t, 0⟩ (t.length : Int) = (t, ⟨[], 0⟩)) := Lib.hid (by have := take_in (a := t) (r := []) (e := 0) (n := t.length) rfl; rwa [List.append_nil] at this)
    clear hc htl hok3
    go_upto_region 4 with (first
    | ((with_reducible apply wpList_built); exact rfl; exact rfl; exact bComC _ _; (simp only [List.set_cons_succ, List.set_cons_zero]; exact rfl))
    | ((with_reducible apply wpList_make hR zCom); exact rfl; clear hR; intro g2 w hR; simp only [List.set_cons_succ, List.set_cons_zero])
    | ((with_reducible apply wpList_put hR tCom); exact rfl; exact rfl; exact rfl; (focus (repeat (first | apply List.Mem.head | apply List.Mem.tail | apply List.mem_append_right))); exact put_com _ _; exact rfl; simp [encCom]; exact one_com _; (focus (repeat (first | apply Upd.head | apply Upd.tail | apply Upd.skipC))); clear hR; intro w hR)
    | (go_at_call 19; refine (errX_any hR (Les.tail Les.one) (fun r hr => .tail _ (List.mem_append_left _ hr)) hS3).mono ?_; rintro e w' ⟨rfl, hb⟩; replace hR := hR.grow hb; clear hb))
    go_wp2_with (first
    | ((with_reducible apply q_ls hR); exact rfl; (with_reducible apply t_cmp); (apply EvC.now; exact rfl); (apply EvC.now; exact rfl); exact HE.out; (simp only [List.set_cons_succ, List.set_cons_zero]; exact rfl); clear hR; intro w hR)
    | (go_at_call 18; refine (leftX_any hR (Les.tail Les.one) (fun r hr => .tail _ (List.mem_append_left _ hr)) hS3 ht1).mono ?_; rintro e w' ⟨rfl, hb⟩; replace hR := hR.grow hb; clear hb)
    | (go_at_call 21; refine (takeX_any hR (Les.tail Les.one) (fun r hr => .tail _ (List.mem_append_left _ hr)) hS3 HL.out ht1 _ (by omega) (by omega)).mono ?_; rw [HT.out]; rintro e w' ⟨vt, rfl, ⟨cs4, hR4, hS4⟩, hvt⟩; clear hR hS3; have hR := hR4; clear hR4)
    | ((with_reducible apply q_ls hR); exact rfl; (with_reducible apply t_strW tTextN); (apply EvC.now; exact rfl); (exact fun w hC => hvt w _ hC (fun r hr => .tail _ (.tail _ (List.mem_append_left _ hr)))); (simp only [List.set_cons_succ, List.set_cons_zero]; exact rfl); clear hR; intro w hR)
    | ((with_reducible apply wpList_put1 hR tStrO); exact rfl; exact rfl; exact rfl; (focus (repeat (first | apply List.Mem.head | apply List.Mem.tail | apply List.mem_append_right))); (exact put_text _ _); (simp [encCom]); exact rfl; (focus (repeat (first | apply Upd.head | apply Upd.tail | apply Upd.skipC))); clear hR; intro w hR)
    | ((with_reducible apply wpList_put hR tCom); exact rfl; exact rfl; exact rfl; (focus (repeat (first | apply List.Mem.head | apply List.Mem.tail | apply List.mem_append_right))); exact put_com _ _; exact rfl; simp [encCom]; exact one_com _; (focus (repeat (first | apply Upd.head | apply Upd.tail | apply Upd.skipC))); clear hR; intro w hR)
    | ((with_reducible apply q_ls hR); exact rfl; ((with_reducible first | apply t_addr (fRec _ (by decide)) | apply t_addr (fCom _ (by decide)) | apply t_one tByteR | apply t_one tSlR | apply t_one tIntR | apply t_one tStrO | apply t_part tCom) <;> (first | (apply EvC.gv; exact rfl; (with_reducible first | exact Imp.refl _ | (apply Imp.left; exact Imp.refl _) | (apply Imp.right; exact Imp.refl _) | (apply Imp.left; apply Imp.left; exact Imp.refl _))) | (apply EvC.now; exact rfl) | exact rfl | (with_reducible exact EvAll.nil) | (focus (repeat (first | apply EvAll.cons | exact EvAll.nil | (apply EvC.gv; exact rfl; (with_reducible first | exact Imp.refl _ | (apply Imp.left; exact Imp.refl _) | (apply Imp.right; exact Imp.refl _) | (apply Imp.left; apply Imp.left; exact Imp.refl _))) | (apply EvC.now; exact rfl))); done) | exact ext_com _ | (focus (repeat (first | apply List.Mem.head | apply List.Mem.tail | apply List.mem_append_right))))); (simp only [List.set_cons_succ, List.set_cons_zero]; exact rfl); clear hR; intro w hR))
    (try simp only [Exit.inBlock, Exit.then])
    exact post_row_tmp hR rfl (by rfl) (by rfl) (by (focus (repeat (first | apply List.Mem.head | apply List.Mem.tail | apply List.mem_append_right)))) Try.underlying38 rfl iCom (by rfl) (by rfl) ⟨by rw [HC.out]; rfl, hR.below⟩
  · have HC := Lib.hid hc
    have HE := Lib.hid (show cmpB .neq (2 : Int) 0 = some true by simp [cmpB])
    clear hc
    go_wp2_with (first
    | ((with_reducible apply wpList_built); exact rfl; exact rfl; exact bComC _ _; (simp only [List.set_cons_succ, List.set_cons_zero]; exact rfl))
    | ((with_reducible apply wpList_built); exact rfl; exact rfl; exact bCom0; (simp only [List.set_cons_succ, List.set_cons_zero]; exact rfl))
    | ((with_reducible apply wpList_make hR zCom); exact rfl; clear hR; intro g w hR; simp only [List.set_cons_succ, List.set_cons_zero])
    | ((with_reducible apply wpList_put hR tCom); exact rfl; exact rfl; exact rfl; (focus (repeat (first | apply List.Mem.head | apply List.Mem.tail | apply List.mem_append_right))); exact put_com _ _; exact rfl; simp [encCom]; exact one_com _; (focus (repeat (first | apply Upd.head | apply Upd.tail | apply Upd.skipC))); clear hR; intro w hR)
    | (go_at_call 19; refine (errX_any hR (Les.tail Les.one) (fun r hr => .tail _ (List.mem_append_left _ hr)) hS3).mono ?_; rintro e w' ⟨rfl, hb⟩; replace hR := hR.grow hb; clear hb)
    | ((with_reducible apply q_ls hR); exact rfl; (with_reducible apply t_cmp); (apply EvC.now; exact rfl); (apply EvC.now; exact rfl); exact HE.out; (simp only [List.set_cons_succ, List.set_cons_zero]; exact rfl); clear hR; intro w hR))
    (try simp only [Exit.inBlock, Exit.then])
    exact post_row_tmp hR rfl (by rfl) (by rfl) (by (focus (repeat (first | apply List.Mem.head | apply List.Mem.tail | apply List.mem_append_right)))) Try.underlying38 rfl iCom (by rfl) (by rfl) ⟨by rw [HC.out]; rfl, hR.below⟩
end Go.Proofs.Ytlnicbjnphineaa
