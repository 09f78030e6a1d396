








/- 'piece' of hansomlaw28. No statement of the seat is proved here. -/
import Derived.Test.YtjgkhhbjmheihaaDoorLaw28
namespace Go.Proofs.YtjgkhhbjmheihaaDoor
open Go.ChangeShapes Go.WideShapes Go.ChangeAt Go.RowKit
set_option linter.unusedVariables false
set_option linter.unusedSimpArgs false

def tabN : List Int := [97, 98, 99, 88, 89, 90, 48, 49, 57, 95, 64, 63, 36]
def tabT : List Int := [97, 98, 32, 59, 44, 34, 40, 49]
theorem lTABN : (⟨#[97, 98, 99, 88, 89, 90, 48, 49, 57, 95, 64, 63, 36]⟩ : ByteArray) = strOfNums tabN := rfl
theorem lTABT : (⟨#[97, 98, 32, 59, 44, 34, 40, 49]⟩ : ByteArray) = strOfNums tabT := rfl
theorem tabN_ok : bytesOk tabN := ascii.ok (ascii_of rfl)
theorem tabT_ok : bytesOk tabT := ascii.ok (ascii_of rfl)
def atN (m : Nat) (c : Int) : Int := tabN.getD m 0
def pickN (c : Int) : Int := tabN.getD (c % 13).toNat 0
def pickT (c : Int) : Int := tabT.getD (c % 8).toNat 0
theorem tab_at {T : List Int} {m : Nat} (h : m < T.length) : T[m]? = some (T.getD m 0) := by
  rw [List.getD_eq_getElem?_getD, List.getElem?_eq_getElem h]; rfl
theorem pickN_mem (c : Int) : pickN c ∈ tabN := List.mem_of_getElem? (tab_at (T := tabN) (show (c % 13).toNat < 13 by omega))
theorem pickT_mem (c : Int) : pickT c ∈ tabT := List.mem_of_getElem? (tab_at (T := tabT) (show (c % 8).toNat < 8 by omega))
def nameP (s : List Int) (k : Nat) : List Int := 81 :: (s.take k).map pickN
def textP (s : List Int) (k : Nat) : List Int := (s.take k).map pickT
theorem nameP_more {s : List Int} {k : Nat} {c : Int} (h : s[k]? = some c) : nameP s k ++ [pickN c] = nameP s (k + 1) := by
  unfold nameP; rw [List.take_add_one, h]; simp
theorem textP_more {s : List Int} {k : Nat} {c : Int} (h : s[k]? = some c) : textP s k ++ [pickT c] = textP s (k + 1) := by
  unfold textP; rw [List.take_add_one, h]; simp
theorem nameP_len (s : List Int) (k : Nat) : (nameP s k).length ≤ k + 1 := by unfold nameP; rw [List.length_cons, List.length_map, List.length_take]; omega
theorem textP_len (s : List Int) (k : Nat) : (textP s k).length ≤ k := by unfold textP; rw [List.length_map, List.length_take]; omega
theorem tabN_all : ∀ c ∈ tabN, namedZ c = true ∧ readZ c = true := by decide
theorem tabT_all : ∀ c ∈ tabT, c ≠ 39 ∧ readZ c = true := by decide
theorem nameP_in (s : List Int) (k : Nat) : ∀ c ∈ (s.take k).map pickN, c ∈ tabN := by
  intro c hc
  obtain ⟨x, _, rfl⟩ := List.mem_map.1 hc
  exact pickN_mem x
theorem textP_in (s : List Int) (k : Nat) : ∀ c ∈ textP s k, c ∈ tabT := by
  intro c hc
  obtain ⟨x, _, rfl⟩ := List.mem_map.1 hc
  exact pickT_mem x
theorem nameP_reads (s : List Int) (k : Nat) : ReadsAs (nameP s k) ⟨1, upS (nameP s k), 0, 0⟩ :=
  reads_name rfl rfl (fun c hc => (tabN_all c (nameP_in s k c hc)).1) (fun c hc => by cases hc with | head => rfl | tail _ hc => exact (tabN_all c (nameP_in s k c hc)).2) rfl (by decide)
theorem textP_reads (s : List Int) (k : Nat) : ReadsAs (39 :: textP s k ++ [39]) ⟨3, textP s k, 0, 0⟩ :=
  reads_text (fun h => (tabT_all 39 (textP_in s k 39 h)).1 rfl) fun c hc => (tabT_all c (textP_in s k c hc)).2
/-- What a law's piece is: its text, and what it must be read as. -/
def pieceP (k : Nat) (s : List Int) (n : Nat) : List Int × TokZ :=
  match k % 5 with
  | 0 => (nameP s 5, ⟨1, upS (nameP s 5), 0, 0⟩)
  | 1 => (decS (n % 16777216), ⟨2, [], n % 16777216, 0⟩)
  | 2 => (39 :: textP s 5 ++ [39], ⟨3, textP s 5, 0, 0⟩)
  | 3 => (decS (n % 256) ++ 37 :: decS (n / 256 % 256), ⟨5, [], n % 256, n / 256 % 256⟩)
  | _ => ([signsZ.getD (n % 12) 0], ⟨4, [signsZ.getD (n % 12) 0], 0, 0⟩)
theorem signP_mem (n : Nat) : signsZ.getD (n % 12) 0 ∈ signsZ := List.mem_of_getElem? (tab_at (T := signsZ) (show n % 12 < 12 by omega))
theorem pieceP_ok (k : Nat) (s : List Int) (n : Nat) : ReadsAs (pieceP k s n).1 (pieceP k s n).2 ∧ (pieceP k s n).1.length ≤ 10 ∧ (pieceP k s n).2.ok := by
  have h5 : k % 5 < 5 := Nat.mod_lt _ (by decide)
  unfold pieceP
  have hasc : ∀ {p : List Int} {t : TokZ}, ReadsAs p t → bytesOk p := fun h => h.all.ascii.ok
  generalize k % 5 = r at *
  match r, h5 with
  | 0, _ =>
    have h := nameP_reads s 5
    exact ⟨h, by have := nameP_len s 5; show (nameP s 5).length ≤ 10; omega, ⟨⟨z_le rfl, z_le rfl⟩, h.all.ascii.up.ok, Nat.zero_le _, Nat.zero_le _⟩⟩
  | 1, _ =>
    have hm : n % 16777216 ≤ mostZ := by have : n % 16777216 < 16777216 := Nat.mod_lt _ (by decide); unfold mostZ; omega
    have h := reads_num hm
    have hl := decS_len (n % 16777216) 8 (by have : n % 16777216 < 16777216 := Nat.mod_lt _ (by decide); omega) (by decide)
    exact ⟨h, by show (decS (n % 16777216)).length ≤ 10; omega, ⟨⟨z_le rfl, z_le rfl⟩, .nil, hm, Nat.zero_le _⟩⟩
  | 2, _ =>
    have h := textP_reads s 5
    exact ⟨h, by have := textP_len s 5; (try dsimp only); simp; omega, ⟨⟨z_le rfl, z_le rfl⟩, fun c hc => hasc h c (List.mem_append_left _ (.tail _ hc)), Nat.zero_le _, Nat.zero_le _⟩⟩
  | 3, _ =>
    have hm : n % 256 ≤ mostZ := by have : n % 256 < 256 := Nat.mod_lt _ (by decide); unfold mostZ; omega
    have hm2 : n / 256 % 256 ≤ mostZ := by have : n / 256 % 256 < 256 := Nat.mod_lt _ (by decide); unfold mostZ; omega
    have h := reads_ratio hm hm2
    have hl := decS_len (n % 256) 3 (by have : n % 256 < 256 := Nat.mod_lt _ (by decide); omega) (by decide)
    have hl2 := decS_len (n / 256 % 256) 3 (by have : n / 256 % 256 < 256 := Nat.mod_lt _ (by decide); omega) (by decide)
    exact ⟨h, by (try dsimp only); simp; omega, ⟨⟨z_le rfl, z_le rfl⟩, .nil, hm, hm2⟩⟩
  | 4, _ =>
    have h := reads_sign (signP_mem n)
    exact ⟨h, by simp, ⟨⟨z_le rfl, z_le rfl⟩, hasc h, Nat.zero_le _, Nat.zero_le _⟩⟩
  | r + 5, h => exact absurd h (by omega)
/-! ### The walk -/
/-- A slot, and behind it a struct in a cell. -/
theorem post_tmp_row {P : Program} {fn : Func} {R : Ending → World → Prop} {a : Act} {w0 w : World} {l : List RowT} (hR : Own w0 w l) {p q : Tmp} {ty : TypeId} (h : fn.results = #[.tmp q, .cell p ty]) {g : Nat} {t : TypeId} {cs : Array Value} {d : TypeDesc} {n : Nat} {v : Value}
    (hp : a.tmps.getD p undef = .pointer (some ⟨g, 0, none⟩)) (hq : a.tmps.getD q undef = v) (hm : (g, cs, t) ∈ l) (hu : P.underlying ty = some d) (hd : (match d with | .struct _ | .array _ _ => true | _ => false) = true) (hi : (P.info? ty).map (·.size) = some n) (hn : cs.size = n)
    (hdf : a.defers = []) (hR2 : R (.returned (.tuple #[v, .agg cs])) w) : bodyPost P fn R .ret a w := by
  refine bodyPost_ret ?_ hdf hR2
  have hp' : a.tmps[p]?.getD undef = .pointer (some ⟨g, 0, none⟩) := by simpa using hp
  have hq' : a.tmps[q]?.getD undef = v := by simpa using hq
  simp [results, h, hp', hq', asAddr, run_loadVar_row w g t ty cs (0, 0) d (hR.get hm) hu hd (by rw [hi, hn])]
theorem and64 (n k m : Nat) (hk : k ≤ 63) (hm : m + 1 = 2 ^ k) : bits .and .u64 (n : Int) (m : Int) = ((n % (m + 1) : Nat) : Int) := by
  have hm2 : m < 2 ^ 63 := by have := Nat.pow_le_pow_right (show 0 < 2 by decide) hk; omega
  have h3 : (BitVec.ofInt 64 (m : Int)).toNat = 2 ^ k - 1 := by rw [BitVec.toNat_ofInt]; omega
  have key : (BitVec.ofInt 64 (n : Int) &&& BitVec.ofInt 64 (m : Int)).toNat = ((n : Int) % ((2 ^ 64 : Nat) : Int)).toNat % 2 ^ k := by
    rw [BitVec.toNat_and, BitVec.toNat_ofInt, h3, Nat.and_two_pow_sub_one_eq_mod]
  show IntKind.u64.wrap ((BitVec.ofInt 64 (n : Int) &&& BitVec.ofInt 64 (m : Int)).toNat : Nat) = ((n % (m + 1) : Nat) : Int)
  have h5 : ((n : Int) % ((2 ^ 64 : Nat) : Int)).toNat = n % 2 ^ 64 := by omega
  have h6 : n % 2 ^ 64 % 2 ^ k = n % 2 ^ k := Nat.mod_mod_of_dvd _ (Nat.pow_dvd_pow 2 (by omega))
  have h7 : n % 2 ^ k < 2 ^ k := Nat.mod_lt _ (by omega)
  rw [key, h5, h6, IntKind.wrap_u64, hm]
  omega
def PieceGoal (k : Nat) (s : List Int) (n : Nat) (w0 : World) (e : Ending) (w' : World) : Prop := e = .returned (.tuple #[.string (strOfNums (pieceP k s n).1), .agg (encTok (pieceP k s n).2)]) ∧ Below w0.heap.size w0 w'
set_option maxHeartbeats 8000000 in
set_option maxRecDepth 100000 in
theorem piece28_any (k : Nat) (hk : k ≤ 255) {s : List Int} (hs : bytesOk s) (n : Nat) (hn : n ≤ 18446744073709551615) (w0 : World) :
    Calls Tryd.prog 5 #[.int .i64 (k : Int), .string (strOfNums s), .int .u64 (n : Int)] w0 (PieceGoal k s n w0) := by
  have hR := Own.start w0
  have HR := Lib.hid (show (k : Int).tmod 5 = ((k % 5 : Nat) : Int) by rw [rem_in (by omega)]; omega)
  have h5 : k % 5 < 5 := Nat.mod_lt _ (by decide)
  go_enter Tryd.func5, Tryd.ntmps5
  go_wp2_with (first
    | ((with_reducible apply wpList_make hR zTok); exact rfl; clear hR; intro g w hR; simp only [List.set_cons_succ, List.set_cons_zero]))
  go_loopw [8, 9] (fun nm i wr => ∃ j : Nat, i = .int .i64 j ∧ j ≤ 5 ∧ j ≤ s.length ∧ nm = .string (strOfNums (nameP s j)) ∧ Own w0 wr [(g, encTok noTok, 28)]) (fun _ i _ => 5 - (intOf i).toNat)
  case atStart => exact ⟨0, rfl, Nat.zero_le _, Nat.zero_le _, rfl, hR⟩
  case round =>
    clear hR
    obtain ⟨j, rfl, hj, hjs, rfl, hR⟩ := hrel
    by_cases hlt : j < s.length ∧ j < 5
    · obtain ⟨c, hc⟩ : ∃ c, s[j]? = some c := ⟨_, List.getElem?_eq_getElem hlt.1⟩
      have hcb := hs.at hc
      have HL := Lib.hid (show cmpB .lss (j : Int) (s.length : Int) = some true from congrArg some (decide_eq_true (by omega)))
      have HL2 := Lib.hid (show cmpB .lss (j : Int) 5 = some true from congrArg some (decide_eq_true (by omega)))
      have HC := Lib.hid hc
      have HM := Lib.hid (show c.tmod 13 = (((c % 13).toNat : Nat) : Int) by rw [rem_in hcb.1]; omega)
      have HT := Lib.hid (show tabN[(c % 13).toNat]? = some (pickN c) from tab_at (T := tabN) (show (c % 13).toNat < 13 by omega))
      have HX := Lib.hid (nameP_more hc)
      have hxb : 0 ≤ pickN c ∧ pickN c ≤ 255 := tabN_ok _ (pickN_mem c)
      have hcl : (nameP s j).length + [pickN c].length ≤ 1000000 := by have := nameP_len s j; simp only [List.length_cons, List.length_nil]; omega
      have HK := Lib.hid (show IntKind.i64.wrap ((j : Int) + 1) = ((j + 1 : Nat) : Int) by rw [IntWalk.i64_in _ (by omega)]; omega)
      obtain ⟨hl1, hl2⟩ := hlt
      generalize nameP s j = nm1 at *
      generalize pickN c = x at *
      generalize (c % 13).toNat = m at *
      clear hc HR
      go_wp2_with (first
          | ((with_reducible apply q_ls0); exact rfl; (with_reducible apply t_lenN Tryd.underlying9); (apply EvC.now; exact rfl); (simp only [List.set_cons_succ, List.set_cons_zero]; exact rfl))
          | ((with_reducible apply q_ls0); exact rfl; (with_reducible apply t_cmp (op := .lss)); (apply EvC.now; exact rfl); (apply EvC.now; exact rfl); (with_reducible first | exact HL.out | exact HL2.out); (simp only [List.set_cons_succ, List.set_cons_zero]; exact rfl))
          | ((with_reducible apply q_ls0); exact rfl; (with_reducible apply t_atN Tryd.underlying9 hs (k := j)); (apply EvC.now; exact rfl); (apply EvC.now; exact rfl); exact rfl; exact HC.out; (simp only [List.set_cons_succ, List.set_cons_zero]; exact rfl))
          | ((with_reducible apply q_ls0); exact rfl; (with_reducible apply t_rem); (apply EvC.now; exact rfl); (apply EvC.now; exact rfl); decide; exact HM.out; (simp only [List.set_cons_succ, List.set_cons_zero]; exact rfl))
          | ((with_reducible apply q_ls0); exact rfl; (with_reducible apply t_atN Tryd.underlying9 tabN_ok); (exact lit_now lTABN); (apply EvC.now; exact rfl); exact rfl; exact HT.out; (simp only [List.set_cons_succ, List.set_cons_zero]; exact rfl))
          | ((with_reducible apply wpList_buildS hR); exact rfl; exact rfl; (exact bL1 _); clear hR; intro gb w hR; simp only [List.set_cons_succ, List.set_cons_zero])
          | ((with_reducible apply q_ls hR); exact rfl; (with_reducible apply t_strW tTextL); (apply EvC.now; exact rfl); (exact fun w hC => src_rowL hC (.head _) hxb); (simp only [List.set_cons_succ, List.set_cons_zero]; exact rfl); clear hR; intro w hR)
          | ((with_reducible apply q_ls hR); exact rfl; (with_reducible apply t_catE); (apply EvC.now; exact rfl); (apply EvC.now; exact rfl); exact hcl; exact HX.out; (simp only [List.set_cons_succ, List.set_cons_zero]; exact rfl); clear hR; intro w hR)
          | ((with_reducible apply q_ls hR); exact rfl; (with_reducible apply t_numE (op := .add)); (apply EvC.now; exact rfl); (apply EvC.now; exact rfl); exact rfl; exact HK.out; (simp only [List.set_cons_succ, List.set_cons_zero]; exact rfl); clear hR; intro w hR))
      go_round
      case rel => exact ⟨j + 1, rfl, by omega, by omega, rfl, hR.drop (List.Sublist.cons _ (List.Sublist.refl _))⟩
      case measure => simp [intOf]; omega
    · have hnm : nameP s j = nameP s 5 := by
        unfold nameP
        by_cases h : j = 5
        · rw [h]
        · rw [List.take_of_length_le (show s.length ≤ j by omega), List.take_of_length_le (show s.length ≤ 5 by omega)]
      rw [hnm]
      have hnl := nameP_len s 5
      have hnk := (nameP_reads s 5).all.ascii.ok
      have HUP := Lib.hid (upper_any hnk (by omega))
      have hG : ∀ p t, pieceP k s n = (p, t) → ∀ e w', e = Ending.returned (.tuple #[.string (strOfNums p), .agg (encTok t)]) ∧ Below w0.heap.size w0 w' → PieceGoal k s n w0 e w' := fun p t h e w' hk => by
        unfold PieceGoal; rw [h]; exact hk
      have hpp : pieceP k s n = (match k % 5 with
        | 0 => (nameP s 5, (⟨1, upS (nameP s 5), 0, 0⟩ : TokZ))
        | 1 => (decS (n % 16777216), ⟨2, [], n % 16777216, 0⟩)
        | 2 => (39 :: textP s 5 ++ [39], ⟨3, textP s 5, 0, 0⟩)
        | 3 => (decS (n % 256) ++ 37 :: decS (n / 256 % 256), ⟨5, [], n % 256, n / 256 % 256⟩)
        | _ => ([signsZ.getD (n % 12) 0], ⟨4, [signsZ.getD (n % 12) 0], 0, 0⟩)) := rfl
      clear hnm
      generalize k % 5 = r at *
      have hlen := hs
      go_upto_region 3 with fail
      refine wp_region_tame hR [0, 1, 2, 3, 4, 5, 6, 7] rfl ?_
      repeat (refine wpT_step rfl ?_; first
    | ((first | (with_reducible apply q_pl) | ((with_reducible apply q_gd); (first | (apply GdBy.gt; exact rfl; exact rfl) | (apply GdBy.gf; exact rfl; exact rfl) | (apply GdBy.t; exact rfl; exact rfl) | (apply GdBy.f; exact rfl; exact rfl)))); (with_reducible apply t_lenN Tryd.underlying9); (first | (apply EvC.gv; exact rfl; (with_reducible first | exact Imp.refl _ | (apply Imp.left; exact Imp.refl _) | (apply Imp.right; exact Imp.refl _) | (apply Imp.left; apply Imp.left; exact Imp.refl _))) | (apply EvC.now; exact rfl) | exact rfl | (with_reducible exact EvAll.nil) | (focus (repeat (first | apply EvAll.cons | exact EvAll.nil | (apply EvC.gv; exact rfl; (with_reducible first | exact Imp.refl _ | (apply Imp.left; exact Imp.refl _) | (apply Imp.right; exact Imp.refl _) | (apply Imp.left; apply Imp.left; exact Imp.refl _))) | (apply EvC.now; exact rfl))); done) | exact rfl | (focus (repeat (first | apply List.Mem.head | apply List.Mem.tail | apply List.mem_append_right)))); (simp only [List.set_cons_succ, List.set_cons_zero]; exact rfl))
    | ((first | (with_reducible apply q_pl) | ((with_reducible apply q_gd); (first | (apply GdBy.gt; exact rfl; exact rfl) | (apply GdBy.gf; exact rfl; exact rfl) | (apply GdBy.t; exact rfl; exact rfl) | (apply GdBy.f; exact rfl; exact rfl)))); (first | ((with_reducible first | apply t_move | apply t_assign | apply t_and | apply t_or | apply t_cmp | apply t_not | fail | fail) <;> (first | (apply EvC.gv; exact rfl; (with_reducible first | exact Imp.refl _ | (apply Imp.left; exact Imp.refl _) | (apply Imp.right; exact Imp.refl _) | (apply Imp.left; apply Imp.left; exact Imp.refl _))) | (apply EvC.now; exact rfl) | exact rfl | (with_reducible exact EvAll.nil) | (focus (repeat (first | apply EvAll.cons | exact EvAll.nil | (apply EvC.gv; exact rfl; (with_reducible first | exact Imp.refl _ | (apply Imp.left; exact Imp.refl _) | (apply Imp.right; exact Imp.refl _) | (apply Imp.left; apply Imp.left; exact Imp.refl _))) | (apply EvC.now; exact rfl))); done) | exact rfl | (focus (repeat (first | apply List.Mem.head | apply List.Mem.tail | apply List.mem_append_right)))))); (simp only [List.set_cons_succ, List.set_cons_zero]; exact rfl)))
      refine wpT_nil ?_
      clear hR; intro w hR
      go_upto_if 20 with fail
      refine wp_cond_at (nm := false) rfl (by rw [Bool.and_eq_false_iff]; by_cases h : j < s.length; exact .inr (decide_eq_false (by omega)); exact .inl (decide_eq_false (by omega))) (fun h => absurd h (by decide)) (fun _ => ?_)
      clear hlt hj hjs
      match r, h5 with
      | 0, _ =>
        have HPZ := Lib.hid (hG _ _ hpp)
        clear hpp hG
        go_wp2_with (first
    | ((with_reducible apply q_ls0); exact rfl; (with_reducible apply t_rem); (apply EvC.now; exact rfl); (apply EvC.now; exact rfl); decide; exact HR.out; (simp only [List.set_cons_succ, List.set_cons_zero]; exact rfl))
    | (go_at_call 8; refine (HUP.out _).mono ?_; rintro e w' ⟨rfl, hb⟩; replace hR := hR.grow hb; clear hb)
    | ((with_reducible apply wpList_make hR zTok); exact rfl; clear hR; intro g w hR; simp only [List.set_cons_succ, List.set_cons_zero])
    | ((with_reducible apply wpList_built); exact rfl; exact rfl; exact bTokS _ _; (simp only [List.set_cons_succ, List.set_cons_zero]; exact rfl))
    | ((with_reducible apply wpList_put hR tTok); exact rfl; exact rfl; exact rfl; (focus (repeat (first | apply List.Mem.head | apply List.Mem.tail | apply List.mem_append_right))); exact putList_all rfl; exact rfl; (exact Nat.le_refl 4); exact one_tok _; (focus (repeat (first | apply Upd.head | apply Upd.tail))); clear hR; intro w hR))
        (try simp only [Exit.inBlock, Exit.then])
        exact post_tmp_row hR rfl (by rfl) (by rfl) (by (focus (repeat (first | apply List.Mem.head | apply List.Mem.tail | apply List.mem_append_right)))) Tryd.underlying28 rfl iTok (by rfl) (by rfl) (HPZ.out _ _ ⟨rfl, hR.below⟩)
      | 1, _ =>
        have HPZ := Lib.hid (hG _ _ hpp)
        clear hpp hG
        have HA := Lib.hid (show bits .and .u64 (n : Int) 16777215 = ((n % 16777216 : Nat) : Int) from and64 n 24 16777215 (by decide) (by decide))
        have hm : n % 16777216 ≤ mostZ := by have : n % 16777216 < 16777216 := Nat.mod_lt _ (by decide); unfold mostZ; omega
        have HT := Lib.hid (text28_any _ hm)
        generalize n % 16777216 = q at *
        go_wp2_with (first
    | ((with_reducible apply q_ls0); exact rfl; (with_reducible apply t_rem); (apply EvC.now; exact rfl); (apply EvC.now; exact rfl); decide; exact HR.out; (simp only [List.set_cons_succ, List.set_cons_zero]; exact rfl))
    | ((with_reducible apply q_ls0); exact rfl; (with_reducible apply t_numE (op := .and)); (apply EvC.now; exact rfl); (apply EvC.now; exact rfl); exact rfl; exact HA.out; (simp only [List.set_cons_succ, List.set_cons_zero]; exact rfl))
    | (go_at_call 9; refine (HT.out _).mono ?_; rintro e w' ⟨rfl, hb⟩; replace hR := hR.grow hb; clear hb)
    | ((with_reducible apply wpList_make hR zTok); exact rfl; clear hR; intro g w hR; simp only [List.set_cons_succ, List.set_cons_zero])
    | ((with_reducible apply wpList_built); exact rfl; exact rfl; exact bTokN _ _; (simp only [List.set_cons_succ, List.set_cons_zero]; exact rfl))
    | ((with_reducible apply wpList_put hR tTok); exact rfl; exact rfl; exact rfl; (focus (repeat (first | apply List.Mem.head | apply List.Mem.tail | apply List.mem_append_right))); exact putList_all rfl; exact rfl; (exact Nat.le_refl 4); exact one_tok _; (focus (repeat (first | apply Upd.head | apply Upd.tail))); clear hR; intro w hR))
        (try simp only [Exit.inBlock, Exit.then])
        exact post_tmp_row hR rfl (by rfl) (by rfl) (by (focus (repeat (first | apply List.Mem.head | apply List.Mem.tail | apply List.mem_append_right)))) Tryd.underlying28 rfl iTok (by rfl) (by rfl) (HPZ.out _ _ ⟨rfl, hR.below⟩)
      | 2, _ =>
        have HPZ := Lib.hid (hG _ _ hpp)
        clear hpp hG HUP hnk hnl
        go_wp2_with (first
    | ((with_reducible apply q_ls0); exact rfl; (with_reducible apply t_rem); (apply EvC.now; exact rfl); (apply EvC.now; exact rfl); decide; exact HR.out; (simp only [List.set_cons_succ, List.set_cons_zero]; exact rfl)))
        clear HR
        go_loopw [10, 11] (fun nm i wr => ∃ j : Nat, i = .int .i64 j ∧ j ≤ 5 ∧ j ≤ s.length ∧ nm = .string (strOfNums (textP s j)) ∧ Own w0 wr [(g, encTok noTok, 28)]) (fun _ i _ => 5 - (intOf i).toNat)
        case atStart => exact ⟨0, rfl, Nat.zero_le _, Nat.zero_le _, rfl, hR⟩
        case round =>
          clear hR
          obtain ⟨j, rfl, hj, hjs, rfl, hR⟩ := hrel
          by_cases hlt : j < s.length ∧ j < 5
          · obtain ⟨c, hc⟩ : ∃ c, s[j]? = some c := ⟨_, List.getElem?_eq_getElem hlt.1⟩
            have hcb := hs.at hc
            have HL := Lib.hid (show cmpB .lss (j : Int) (s.length : Int) = some true from congrArg some (decide_eq_true (by omega)))
            have HL2 := Lib.hid (show cmpB .lss (j : Int) 5 = some true from congrArg some (decide_eq_true (by omega)))
            have HC := Lib.hid hc
            have HM := Lib.hid (show c.tmod 8 = (((c % 8).toNat : Nat) : Int) by rw [rem_in hcb.1]; omega)
            have HT := Lib.hid (show tabT[(c % 8).toNat]? = some (pickT c) from tab_at (T := tabT) (show (c % 8).toNat < 8 by omega))
            have HX := Lib.hid (textP_more hc)
            have hxb : 0 ≤ pickT c ∧ pickT c ≤ 255 := tabT_ok _ (pickT_mem c)
            have hcl : (textP s j).length + [pickT c].length ≤ 1000000 := by have := textP_len s j; simp only [List.length_cons, List.length_nil]; omega
            have HK := Lib.hid (show IntKind.i64.wrap ((j : Int) + 1) = ((j + 1 : Nat) : Int) by rw [IntWalk.i64_in _ (by omega)]; omega)
            obtain ⟨hl1, hl2⟩ := hlt
            generalize textP s j = nm1 at *
            generalize pickT c = x at *
            generalize (c % 8).toNat = m at *
            clear hc
            go_wp2_with (first
                | ((with_reducible apply q_ls0); exact rfl; (with_reducible apply t_lenN Tryd.underlying9); (apply EvC.now; exact rfl); (simp only [List.set_cons_succ, List.set_cons_zero]; exact rfl))
                | ((with_reducible apply q_ls0); exact rfl; (with_reducible apply t_cmp (op := .lss)); (apply EvC.now; exact rfl); (apply EvC.now; exact rfl); (with_reducible first | exact HL.out | exact HL2.out); (simp only [List.set_cons_succ, List.set_cons_zero]; exact rfl))
                | ((with_reducible apply q_ls0); exact rfl; (with_reducible apply t_atN Tryd.underlying9 hs (k := j)); (apply EvC.now; exact rfl); (apply EvC.now; exact rfl); exact rfl; exact HC.out; (simp only [List.set_cons_succ, List.set_cons_zero]; exact rfl))
                | ((with_reducible apply q_ls0); exact rfl; (with_reducible apply t_rem); (apply EvC.now; exact rfl); (apply EvC.now; exact rfl); decide; exact HM.out; (simp only [List.set_cons_succ, List.set_cons_zero]; exact rfl))
                | ((with_reducible apply q_ls0); exact rfl; (with_reducible apply t_atN Tryd.underlying9 tabT_ok); (exact lit_now lTABT); (apply EvC.now; exact rfl); exact rfl; exact HT.out; (simp only [List.set_cons_succ, List.set_cons_zero]; exact rfl))
                | ((with_reducible apply wpList_buildS hR); exact rfl; exact rfl; (exact bL1 _); clear hR; intro gb w hR; simp only [List.set_cons_succ, List.set_cons_zero])
                | ((with_reducible apply q_ls hR); exact rfl; (with_reducible apply t_strW tTextL); (apply EvC.now; exact rfl); (exact fun w hC => src_rowL hC (.head _) hxb); (simp only [List.set_cons_succ, List.set_cons_zero]; exact rfl); clear hR; intro w hR)
                | ((with_reducible apply q_ls hR); exact rfl; (with_reducible apply t_catE); (apply EvC.now; exact rfl); (apply EvC.now; exact rfl); exact hcl; exact HX.out; (simp only [List.set_cons_succ, List.set_cons_zero]; exact rfl); clear hR; intro w hR)
                | ((with_reducible apply q_ls hR); exact rfl; (with_reducible apply t_numE (op := .add)); (apply EvC.now; exact rfl); (apply EvC.now; exact rfl); exact rfl; exact HK.out; (simp only [List.set_cons_succ, List.set_cons_zero]; exact rfl); clear hR; intro w hR))
            go_round
            case rel => exact ⟨j + 1, rfl, by omega, by omega, rfl, hR.drop (List.Sublist.cons _ (List.Sublist.refl _))⟩
            case measure => simp [intOf]; omega
          · have hnm : textP s j = textP s 5 := by
              unfold textP
              by_cases h : j = 5
              · rw [h]
              · rw [List.take_of_length_le (show s.length ≤ j by omega), List.take_of_length_le (show s.length ≤ 5 by omega)]
            rw [hnm]
            have htl := textP_len s 5
            have hc1 : [(39 : Int)].length + (textP s 5).length ≤ 1000000 := by simp only [List.length_cons, List.length_nil]; omega
            have hc2 : (39 :: textP s 5).length + [(39 : Int)].length ≤ 1000000 := by simp only [List.length_cons, List.length_nil]; omega
            have HX1 := Lib.hid (show [39] ++ textP s 5 = 39 :: textP s 5 from rfl)
            generalize textP s 5 = tp at *
            generalize hfu : 39 :: tp = fu at *
            have HX2 := Lib.hid (show fu ++ [39] = fu ++ [39] from rfl)
            clear hnm hfu
            go_upto_region 14 with fail
            refine wp_region_tame hR [0, 1, 2, 3, 4, 5, 6, 7] rfl ?_
            repeat (refine wpT_step rfl ?_; first
    | ((first | (with_reducible apply q_pl) | ((with_reducible apply q_gd); (first | (apply GdBy.gt; exact rfl; exact rfl) | (apply GdBy.gf; exact rfl; exact rfl) | (apply GdBy.t; exact rfl; exact rfl) | (apply GdBy.f; exact rfl; exact rfl)))); (with_reducible apply t_lenN Tryd.underlying9); (first | (apply EvC.gv; exact rfl; (with_reducible first | exact Imp.refl _ | (apply Imp.left; exact Imp.refl _) | (apply Imp.right; exact Imp.refl _) | (apply Imp.left; apply Imp.left; exact Imp.refl _))) | (apply EvC.now; exact rfl) | exact rfl | (with_reducible exact EvAll.nil) | (focus (repeat (first | apply EvAll.cons | exact EvAll.nil | (apply EvC.gv; exact rfl; (with_reducible first | exact Imp.refl _ | (apply Imp.left; exact Imp.refl _) | (apply Imp.right; exact Imp.refl _) | (apply Imp.left; apply Imp.left; exact Imp.refl _))) | (apply EvC.now; exact rfl))); done) | exact rfl | (focus (repeat (first | apply List.Mem.head | apply List.Mem.tail | apply List.mem_append_right)))); (simp only [List.set_cons_succ, List.set_cons_zero]; exact rfl))
    | ((first | (with_reducible apply q_pl) | ((with_reducible apply q_gd); (first | (apply GdBy.gt; exact rfl; exact rfl) | (apply GdBy.gf; exact rfl; exact rfl) | (apply GdBy.t; exact rfl; exact rfl) | (apply GdBy.f; exact rfl; exact rfl)))); (first | ((with_reducible first | apply t_move | apply t_assign | apply t_and | apply t_or | apply t_cmp | apply t_not | fail | fail) <;> (first | (apply EvC.gv; exact rfl; (with_reducible first | exact Imp.refl _ | (apply Imp.left; exact Imp.refl _) | (apply Imp.right; exact Imp.refl _) | (apply Imp.left; apply Imp.left; exact Imp.refl _))) | (apply EvC.now; exact rfl) | exact rfl | (with_reducible exact EvAll.nil) | (focus (repeat (first | apply EvAll.cons | exact EvAll.nil | (apply EvC.gv; exact rfl; (with_reducible first | exact Imp.refl _ | (apply Imp.left; exact Imp.refl _) | (apply Imp.right; exact Imp.refl _) | (apply Imp.left; apply Imp.left; exact Imp.refl _))) | (apply EvC.now; exact rfl))); done) | exact rfl | (focus (repeat (first | apply List.Mem.head | apply List.Mem.tail | apply List.mem_append_right)))))); (simp only [List.set_cons_succ, List.set_cons_zero]; exact rfl)))
            refine wpT_nil ?_
            clear hR; intro w hR
            go_upto_if 57 with fail
            refine wp_cond_at (nm := false) rfl (by rw [Bool.and_eq_false_iff]; by_cases h : j < s.length; exact .inr (decide_eq_false (by omega)); exact .inl (decide_eq_false (by omega))) (fun h => absurd h (by decide)) (fun _ => ?_)
            go_wp2_with (first
    | ((with_reducible apply q_ls hR); exact rfl; (with_reducible apply t_catE); (exact lit_now (ns := [39]) rfl); (apply EvC.now; exact rfl); exact hc1; exact HX1.out; (simp only [List.set_cons_succ, List.set_cons_zero]; exact rfl); clear hR; intro w hR)
    | ((with_reducible apply q_ls hR); exact rfl; (with_reducible apply t_catE); (apply EvC.now; exact rfl); (exact lit_now (ns := [39]) rfl); exact hc2; exact HX2.out; (simp only [List.set_cons_succ, List.set_cons_zero]; exact rfl); clear hR; intro w hR)
    | ((with_reducible apply wpList_make hR zTok); exact rfl; clear hR; intro g w hR; simp only [List.set_cons_succ, List.set_cons_zero])
    | ((with_reducible apply wpList_built); exact rfl; exact rfl; exact bTokS _ _; (simp only [List.set_cons_succ, List.set_cons_zero]; exact rfl))
    | ((with_reducible apply wpList_put hR tTok); exact rfl; exact rfl; exact rfl; (focus (repeat (first | apply List.Mem.head | apply List.Mem.tail | apply List.mem_append_right))); exact putList_all rfl; exact rfl; (exact Nat.le_refl 4); exact one_tok _; (focus (repeat (first | apply Upd.head | apply Upd.tail))); clear hR; intro w hR))
            (try simp only [Exit.inBlock, Exit.then])
            exact post_tmp_row hR rfl (by rfl) (by rfl) (by (focus (repeat (first | apply List.Mem.head | apply List.Mem.tail | apply List.mem_append_right)))) Tryd.underlying28 rfl iTok (by rfl) (by rfl) (HPZ.out _ _ ⟨rfl, hR.below⟩)
      | 3, _ =>
        have HPZ := Lib.hid (hG _ _ hpp)
        clear hpp hG HUP hnk hnl
        have HA := Lib.hid (show bits .and .u64 (n : Int) 255 = ((n % 256 : Nat) : Int) from and64 n 8 255 (by decide) (by decide))
        have HS := Lib.hid (show (n : Int) / 2 ^ 8 = ((n / 256 : Nat) : Int) by omega)
        have HB := Lib.hid (show bits .and .u64 ((n / 256 : Nat) : Int) 255 = ((n / 256 % 256 : Nat) : Int) from and64 (n / 256) 8 255 (by decide) (by decide))
        have hq1 : n % 256 ≤ 255 := by have : n % 256 < 256 := Nat.mod_lt _ (by decide); omega
        have hq2 : n / 256 % 256 ≤ 255 := by have : n / 256 % 256 < 256 := Nat.mod_lt _ (by decide); omega
        generalize n / 256 % 256 = q2 at *
        generalize n / 256 = n2 at *
        generalize n % 256 = q1 at *
        have HT := Lib.hid (fun (q : Nat) (h : q ≤ 255) => text28_any q (by unfold mostZ; omega))
        have hl1 := decS_len q1 3 (by omega) (by decide)
        have hl2 := decS_len q2 3 (by omega) (by decide)
        have HX2 := Lib.hid (show (decS q1 ++ [37]) ++ decS q2 = decS q1 ++ 37 :: decS q2 by simp)
        have hc1 : (decS q1).length + [(37 : Int)].length ≤ 1000000 := by simp only [List.length_cons, List.length_nil]; omega
        have hc2 : (decS q1 ++ [37]).length + (decS q2).length ≤ 1000000 := by simp; omega
        generalize hf : decS q1 ++ [37] = f1 at *
        have HX1 := Lib.hid hf
        generalize hfu : decS q1 ++ 37 :: decS q2 = full at *
        clear hf hfu
        go_wp2_with (first
    | ((with_reducible apply q_ls0); exact rfl; (with_reducible apply t_rem); (apply EvC.now; exact rfl); (apply EvC.now; exact rfl); decide; exact HR.out; (simp only [List.set_cons_succ, List.set_cons_zero]; exact rfl))
    | ((with_reducible apply q_ls0); exact rfl; (with_reducible apply t_numE (op := .and)); (apply EvC.now; exact rfl); (apply EvC.now; exact rfl); exact rfl; (with_reducible first | exact HA.out | exact HB.out); (simp only [List.set_cons_succ, List.set_cons_zero]; exact rfl))
    | ((with_reducible apply q_ls0); exact rfl; (with_reducible apply t_shrE (k := 8)); (apply EvC.now; exact rfl); (apply EvC.now; exact rfl); exact rfl; decide; exact HS.out; (simp only [List.set_cons_succ, List.set_cons_zero]; exact rfl))
    | (go_at_call 9; refine (HT.out _ (by assumption) _).mono ?_; rintro e w' ⟨rfl, hb⟩; replace hR := hR.grow hb; clear hb)
    | ((with_reducible apply q_ls hR); exact rfl; (with_reducible apply t_catE); (apply EvC.now; exact rfl); (exact lit_now (ns := [37]) rfl); exact hc1; exact HX1.out; (simp only [List.set_cons_succ, List.set_cons_zero]; exact rfl); clear hR; intro w hR)
    | ((with_reducible apply q_ls hR); exact rfl; (with_reducible apply t_catE); (apply EvC.now; exact rfl); (apply EvC.now; exact rfl); exact hc2; exact HX2.out; (simp only [List.set_cons_succ, List.set_cons_zero]; exact rfl); clear hR; intro w hR)
    | ((with_reducible apply wpList_make hR zTok); exact rfl; clear hR; intro g w hR; simp only [List.set_cons_succ, List.set_cons_zero])
    | ((with_reducible apply wpList_built); exact rfl; exact rfl; exact bTokD _ _ _; (simp only [List.set_cons_succ, List.set_cons_zero]; exact rfl))
    | ((with_reducible apply wpList_put hR tTok); exact rfl; exact rfl; exact rfl; (focus (repeat (first | apply List.Mem.head | apply List.Mem.tail | apply List.mem_append_right))); exact putList_all rfl; exact rfl; (exact Nat.le_refl 4); exact one_tok _; (focus (repeat (first | apply Upd.head | apply Upd.tail))); clear hR; intro w hR))
        (try simp only [Exit.inBlock, Exit.then])
        exact post_tmp_row hR rfl (by rfl) (by rfl) (by (focus (repeat (first | apply List.Mem.head | apply List.Mem.tail | apply List.mem_append_right)))) Tryd.underlying28 rfl iTok (by rfl) (by rfl) (HPZ.out _ _ ⟨rfl, hR.below⟩)
      | 4, _ =>
        have HPZ := Lib.hid (hG _ _ hpp)
        clear hpp hG HUP hnk hnl
        have HM := Lib.hid (show (n : Int).tmod 12 = ((n % 12 : Nat) : Int) by rw [rem_in (by omega)]; omega)
        have HT := Lib.hid (show signsZ[n % 12]? = some (signsZ.getD (n % 12) 0) from tab_at (T := signsZ) (show n % 12 < 12 by omega))
        have hcb : 0 ≤ signsZ.getD (n % 12) 0 ∧ signsZ.getD (n % 12) 0 ≤ 255 := signsZ_ok _ (signP_mem n)
        generalize signsZ.getD (n % 12) 0 = c at *
        generalize n % 12 = m at *
        go_upto_region 21 with (first
    | ((with_reducible apply q_ls0); exact rfl; (with_reducible apply t_rem); (apply EvC.now; exact rfl); (apply EvC.now; exact rfl); decide; (with_reducible first | exact HR.out | exact HM.out); (simp only [List.set_cons_succ, List.set_cons_zero]; exact rfl))
    | ((with_reducible apply q_ls0); exact rfl; (with_reducible apply t_atN Tryd.underlying9 signsZ_ok); (exact lit_now lSIGNS); (apply EvC.now; exact rfl); exact rfl; exact HT.out; (simp only [List.set_cons_succ, List.set_cons_zero]; exact rfl)))
        refine wp_region_some hR [] (List.nil_sublist _) [0, 3] 7 (by kernel_rfl) (by kernel_rfl) (by kernel_rfl) rfl ?_
        clear hR; intro hR
        repeat (refine wpT_step rfl ?_; first
    | ((first | (with_reducible apply q_pl) | ((with_reducible apply q_gd); (first | (apply GdBy.gt; exact rfl; exact rfl) | (apply GdBy.gf; exact rfl; exact rfl) | (apply GdBy.t; exact rfl; exact rfl) | (apply GdBy.f; exact rfl; exact rfl)))); (first | ((with_reducible first | apply t_move | apply t_assign | apply t_and | apply t_or | apply t_cmp | apply t_not | fail | fail) <;> (first | (apply EvC.gv; exact rfl; (with_reducible first | exact Imp.refl _ | (apply Imp.left; exact Imp.refl _) | (apply Imp.right; exact Imp.refl _) | (apply Imp.left; apply Imp.left; exact Imp.refl _))) | (apply EvC.now; exact rfl) | exact rfl | (with_reducible exact EvAll.nil) | (focus (repeat (first | apply EvAll.cons | exact EvAll.nil | (apply EvC.gv; exact rfl; (with_reducible first | exact Imp.refl _ | (apply Imp.left; exact Imp.refl _) | (apply Imp.right; exact Imp.refl _) | (apply Imp.left; apply Imp.left; exact Imp.refl _))) | (apply EvC.now; exact rfl))); done) | exact rfl | (focus (repeat (first | apply List.Mem.head | apply List.Mem.tail | apply List.mem_append_right)))))); (simp only [List.set_cons_succ, List.set_cons_zero]; exact rfl)))
        refine wpT_nil ?_
        repeat' (first
          | (refine wpG_two hR (i := 1) (j := 4) (by decide +kernel) ?_ ?_)
          | (refine wpG_two hR (i := 1) (j := 5) (by decide +kernel) ?_ ?_)
          | (refine wpG_two hR (i := 1) (j := 6) (by decide +kernel) ?_ ?_)
          | (refine wpG_two hR (i := 2) (j := 4) (by decide +kernel) ?_ ?_)
          | (refine wpG_two hR (i := 2) (j := 5) (by decide +kernel) ?_ ?_)
          | (refine wpG_two hR (i := 2) (j := 6) (by decide +kernel) ?_ ?_)
          | (refine wpG_two hR (i := 4) (j := 7) (by decide +kernel) ?_ ?_)
          | (refine wpG_two hR (i := 5) (j := 7) (by decide +kernel) ?_ ?_)
          | (refine wpG_two hR (i := 6) (j := 7) (by decide +kernel) ?_ ?_)
          | (refine wpG_one hR (i := 1) (by decide +kernel) ?_)
          | (refine wpG_one hR (i := 2) (by decide +kernel) ?_)
          | (refine wpG_one hR (i := 4) (by decide +kernel) ?_)
          | (refine wpG_one hR (i := 5) (by decide +kernel) ?_)
          | (refine wpG_one hR (i := 6) (by decide +kernel) ?_)
          | (refine wpG_one hR (i := 7) (by decide +kernel) ?_)
          | (clear hR; intro w hR; refine opBuildS hR rfl rfl rfl (bL1 _) ?_; clear hR; intro gk w hR; refine ⟨hR.drop (List.nil_sublist _), ?_⟩; simp only [List.set_cons_succ, List.set_cons_zero])
          | (clear hR; intro w hR; refine opQ hR rfl rfl (t_strW tTextL (EvC.now rfl) (fun w hC => src_rowL hC (by (focus (repeat (first | apply List.Mem.head | apply List.Mem.tail | apply List.mem_append_right)))) hcb)) (by (simp only [List.set_cons_succ, List.set_cons_zero]; exact rfl)) ?_; clear hR; intro w hR; refine ⟨hR.drop (List.nil_sublist _), ?_⟩)
          | (clear hR; intro w hR; refine opQ hR rfl rfl (t_built rfl (bTokS _ _)) (by (simp only [List.set_cons_succ, List.set_cons_zero]; exact rfl)) ?_; clear hR; intro w hR; refine ⟨hR.drop (List.nil_sublist _), ?_⟩)
          | (clear hR; intro w hR; refine opQ hR rfl rfl (t_assign (EvC.now rfl)) (by (simp only [List.set_cons_succ, List.set_cons_zero]; exact rfl)) ?_; clear hR; intro w hR; refine ⟨hR.drop (List.nil_sublist _), ?_⟩))
        all_goals
          refine wpG_put (c := encTok noTok) hR tTok (i := 8) (by kernel_rfl) rfl rfl rfl (by (focus (repeat (first | apply List.Mem.head | apply List.Mem.tail | apply List.mem_append_right)))) (putList_all rfl) rfl (Nat.le_refl 4) (one_tok _) (by (focus (repeat (first | apply Upd.head | apply Upd.tail)))) (List.nil_sublist _) ?_
          clear hR; intro w hR
          refine wpG_end hR (by kernel_rfl) ?_
          clear hR; intro w hR
          go_wp2_with fail
          exact post_tmp_row hR rfl (by rfl) (by rfl) (by (focus (repeat (first | apply List.Mem.head | apply List.Mem.tail | apply List.mem_append_right)))) Tryd.underlying28 rfl iTok (by rfl) (by rfl) (HPZ.out _ _ ⟨rfl, hR.below⟩)
      | r + 5, h => exact absurd h (by omega)
end Go.Proofs.YtjgkhhbjmheihaaDoor
