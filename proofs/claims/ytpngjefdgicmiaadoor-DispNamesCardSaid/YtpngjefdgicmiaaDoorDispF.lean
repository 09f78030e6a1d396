





/- The contract of strings.Fields on words of ASCII that one blank parts, and of slices.Index over texts. No statement of the seat is proved here. -/
import Derived.Test.YtpngjefdgicmiaaDoorDispT
import Derived.Test.YtpngjefdgicmiaaDoorMake
import Derived.Deep.DeepCutAuto
import Derived.Deep.CutBlock
namespace Go.Proofs.YtpngjefdgicmiaaDoor
open Go.ChangeShapes Go.WideShapes Go.ChangeAt Go.RowKit
set_option linter.unusedVariables false
set_option linter.unusedSimpArgs false

/-! ### Words, and a blank between each two -/
structure WOk (w : List Int) : Prop where
  ne : w ≠ []
  ok : ∀ c ∈ w, (0 ≤ c ∧ c ≤ 127) ∧ spV c.toNat = 0
def tailW : List (List Int) → List Int
  | [] => []
  | w :: B => 32 :: (w ++ tailW B)
def joinW : List (List Int) → List Int
  | [] => []
  | w :: B => w ++ tailW B
def cellsW (L : List (List Int)) : List Value := L.map fun ns => .string (strOfNums ns)
theorem cellsW_one (L : List (List Int)) : (cellsW L).all (·.oneCell') = true := by
  unfold cellsW; rw [List.all_map]; exact List.all_eq_true.2 fun _ _ => rfl
theorem tailW_ok : ∀ {B : List (List Int)}, (∀ w ∈ B, WOk w) → ∀ c ∈ tailW B, 0 ≤ c ∧ c ≤ 127
  | [], _, c, h => nomatch h
  | w :: B, hw, c, h => by
    cases h with
    | head => exact ⟨by decide, by decide⟩
    | tail _ h =>
      rcases List.mem_append.1 h with h | h
      · exact ((hw w (.head _)).ok c h).1
      · exact tailW_ok (fun x hx => hw x (.tail _ hx)) c h
theorem joinW_ok : ∀ {ws : List (List Int)}, (∀ w ∈ ws, WOk w) → ∀ c ∈ joinW ws, 0 ≤ c ∧ c ≤ 127
  | [], _, c, h => nomatch h
  | w :: B, hw, c, h => by
    rcases List.mem_append.1 h with h | h
    · exact ((hw w (.head _)).ok c h).1
    · exact tailW_ok (fun x hx => hw x (.tail _ hx)) c h
/-- How many words begin from here on. -/
def cntF : Int → Int → List Int → Int
  | _, n, [] => n
  | a, n, c :: r => cntF (spV c.toNat) (bif a == 1 && spV c.toNat == 0 then n + 1 else n) r
theorem cntF_in (n : Int) (t : List Int) : ∀ w : List Int, (∀ c ∈ w, (0 ≤ c ∧ c ≤ 127) ∧ spV c.toNat = 0) → cntF 0 n (w ++ t) = cntF 0 n t
  | [], _ => rfl
  | c :: w, h => by
    have h1 := (h c (.head _)).2
    show cntF (spV c.toNat) (bif (0 : Int) == 1 && spV c.toNat == 0 then n + 1 else n) (w ++ t) = _
    rw [h1]
    exact cntF_in n t w fun x hx => h x (.tail _ hx)
theorem cntF_word (n : Int) (t : List Int) {w : List Int} (h : WOk w) : cntF 1 n (w ++ t) = cntF 0 (n + 1) t := by
  obtain ⟨hne, hok⟩ := h
  cases w with
  | nil => exact absurd rfl hne
  | cons c w =>
    have h1 := (hok c (.head _)).2
    show cntF (spV c.toNat) (bif (1 : Int) == 1 && spV c.toNat == 0 then n + 1 else n) (w ++ t) = _
    rw [h1]
    exact cntF_in (n + 1) t w fun x hx => hok x (.tail _ hx)
theorem cntF_tail : ∀ (B : List (List Int)) (n : Int), (∀ w ∈ B, WOk w) → cntF 0 n (tailW B) = n + B.length
  | [], n, _ => by simp [tailW, cntF]
  | w :: B, n, h => by
    show cntF (spV (32 : Int).toNat) (bif (0 : Int) == 1 && _ then n + 1 else n) (w ++ tailW B) = _
    rw [show spV (32 : Int).toNat = 1 by rfl]
    show cntF 1 n (w ++ tailW B) = _
    rw [cntF_word n _ (h w (.head _)), cntF_tail B (n + 1) fun x hx => h x (.tail _ hx), List.length_cons]
    omega
theorem cntF_all {ws : List (List Int)} (hne : ws ≠ []) (h : ∀ w ∈ ws, WOk w) : cntF 1 0 (joinW ws) = ws.length := by
  cases ws with
  | nil => exact absurd rfl hne
  | cons w B =>
    show cntF 1 0 (w ++ tailW B) = _
    rw [cntF_word 0 _ (h w (.head _)), cntF_tail B _ fun x hx => h x (.tail _ hx), List.length_cons]
    omega
theorem tailW_len : ∀ (B : List (List Int)), B.length ≤ (tailW B).length
  | [] => Nat.le_refl _
  | w :: B => by
    have := tailW_len B
    show (w :: B).length ≤ (32 :: (w ++ tailW B)).length
    simp only [List.length_cons, List.length_append]; omega
theorem joinW_len {ws : List (List Int)} (h : ∀ w ∈ ws, WOk w) : ws.length ≤ (joinW ws).length := by
  cases ws with
  | nil => exact Nat.le_refl _
  | cons w B =>
    have h1 := tailW_len B
    have h2 : w.length ≠ 0 := fun h0 => (h w (.head _)).ne (List.eq_nil_of_length_eq_zero h0)
    show (w :: B).length ≤ (w ++ tailW B).length
    simp only [List.length_cons, List.length_append]; omega
/-- The row while it is filled. -/
def fillW (n : Nat) (A : List (List Int)) : List Value := cellsW A ++ List.replicate (n - A.length) (.string ⟨#[]⟩)
theorem fillW_len {n : Nat} {A : List (List Int)} (h : A.length ≤ n) : (fillW n A).length = n := by
  unfold fillW cellsW; simp; omega
theorem fillW_full {n : Nat} {A : List (List Int)} (h : A.length = n) : fillW n A = cellsW A := by
  unfold fillW; rw [h, Nat.sub_self]; simp
theorem fillW_put {n : Nat} {A : List (List Int)} (w : List Int) (h : A.length < n) : PutRel (fillW n A).toArray A.length [.string (strOfNums w)] (fillW n (A ++ [w])).toArray := by
  have hl : (fillW n A).toArray.size = n := by rw [List.size_toArray, fillW_len (by omega)]
  constructor
  apply Array.ext_getElem?
  intro j
  rw [putList_get _ _ _ _ (by simp only [List.length_cons, List.length_nil]; omega)]
  simp only [List.length_cons, List.length_nil, List.getElem?_toArray]
  unfold fillW cellsW
  by_cases hj : j = A.length
  · subst hj
    rw [if_pos (by omega), Nat.sub_self]
    simp
  · rw [if_neg (by omega)]
    by_cases hlt : j < A.length
    · rw [List.getElem?_append_left (by simpa using hlt), List.getElem?_append_left (by simp; omega), List.map_append, List.getElem?_append_left (by simpa using hlt)]
    · rw [List.getElem?_append_right (by simp; omega), List.getElem?_append_right (by simp; omega)]
      simp only [List.length_map, List.length_append, List.length_cons, List.length_nil]
      rw [List.getElem?_replicate, List.getElem?_replicate]
      by_cases hjn : j < n
      · rw [if_pos (by omega), if_pos (by omega)]
      · rw [if_neg (by omega), if_neg (by omega)]

/-- The text begins with a word. -/
theorem first_at {ws : List (List Int)} {s : List Int} (hne : ws ≠ []) (h : ∀ w ∈ ws, WOk w) (hs : joinW ws = s) : ∃ c, s[0]? = some c ∧ spV c.toNat = 0 := by
  subst hs
  cases ws with
  | nil => exact absurd rfl hne
  | cons w B =>
    obtain ⟨hne, hok⟩ := h w (.head _)
    cases w with
    | nil => exact absurd rfl hne
    | cons c w => exact ⟨c, rfl, (hok c (.head _)).2⟩
/-! ### Places in such a text -/
theorem at_in {P w R : List Int} {k q : Nat} {c : Int} (hq : q = P.length + k) (hc : w[k]? = some c) : (P ++ (w ++ R))[q]? = some c := by
  subst hq
  rw [List.getElem?_append_right (by omega), Nat.add_sub_cancel_left, List.getElem?_append_left (List.getElem?_eq_some_iff.1 hc).1, hc]
theorem at_end {P w R : List Int} {q : Nat} {c : Int} (hq : q = P.length + w.length) : (P ++ (w ++ c :: R))[q]? = some c := by
  subst hq
  rw [List.getElem?_append_right (by omega), Nat.add_sub_cancel_left, List.getElem?_append_right (by omega), Nat.sub_self]; rfl
theorem cut_in {P w R : List Int} {p q : Nat} (hp : p = P.length) (hq : q = p + w.length) : ((P ++ (w ++ R)).drop p).take (q - p) = w := by
  subst hp hq
  rw [List.drop_left, Nat.add_sub_cancel_left, List.take_left]
theorem cut_last {P w : List Int} {p : Nat} (hp : p = P.length) : (P ++ (w ++ [])).drop p = w := by
  subst hp
  rw [List.drop_left, List.append_nil]
/-- The loop over the words. -/
def FldIs (ws : List (List Int)) (s : List Int) (n g : Nat) (w0 : World) (na fs i : Value) (wr : World) : Prop :=
  ∃ (A : List (List Int)) (w : List Int) (B : List (List Int)) (P : List Int) (k a p q : Nat), ws = A ++ w :: B ∧ s = P ++ (w ++ tailW B) ∧ a = A.length ∧ p = P.length ∧ q = p + k ∧ k ≤ w.length ∧
    na = .int .i64 a ∧ fs = .int .i64 p ∧ i = .int .i64 q ∧ Own w0 wr [(g, (fillW n A).toArray, 9)]
/-! ### Bits -/
theorem u8_or7 {a b : Int} (h0 : 0 ≤ a) (h1 : a ≤ 127) (h2 : 0 ≤ b) (h3 : b ≤ 127) : 0 ≤ bits .or .u8 a b ∧ bits .or .u8 a b ≤ 127 := by
  have ha : (BitVec.ofInt 8 a).toNat < 2 ^ 7 := by rw [BitVec.toNat_ofInt]; omega
  have hb : (BitVec.ofInt 8 b).toNat < 2 ^ 7 := by rw [BitVec.toNat_ofInt]; omega
  have hor : (BitVec.ofInt 8 a ||| BitVec.ofInt 8 b).toNat < 2 ^ 7 := by rw [BitVec.toNat_or]; exact Nat.or_lt_two_pow ha hb
  have e : bits .or .u8 a b = IntKind.u8.wrap ((BitVec.ofInt 8 a ||| BitVec.ofInt 8 b).toNat : Nat) := rfl
  rw [e, IntKind.wrap_u8]
  omega
section
variable {P : Program} {C : World → Prop} {tp : TypeId} {pos : String} {af : Array Edge} {gd : Option (Nat × Bool)} {ls : List Value} {ds : List Deferred} {c : Bool} {dd : Option Tmp}
theorem t_com {ty : TypeId} {x : Operand} {a m : Int} (hx : EvC ls c x (.int .i64 a)) (hm : bits .xor .i64 (-1) a = m) : TIf P C c ⟨dd, .unOp .xor ty x, tp, pos, af, gd⟩ ⟨ls.toArray, ds⟩ (.int .i64 m) := by
  subst hm
  refine ⟨fun e => .inl fun w _ => ?_⟩
  unfold execOp
  simp [eval_of (hx.of e), Op.unary, intBits_xor, IntKind.signed]
theorem t_eqNK {ty ty' : TypeId} {x y : Operand} {ns ms : List Int} {b : Bool} (ha : bytesOk ns) (hb : bytesOk ms) (hd : decide (ns = ms) = b) (hx : EvC ls c x (.string (strOfNums ns))) (hy : EvC ls c y (.string (strOfNums ms))) : TIf P C c ⟨dd, .binOp .eql ty x y ty', tp, pos, af, gd⟩ ⟨ls.toArray, ds⟩ (.bool b) := by
  subst hd; exact t_eqN ha hb hx hy
/-- A text's bytes from a place up to another one. -/
theorem t_midN {t : TypeId} {x y z : Operand} {ns r : List Int} (ht : P.underlying t = some .string) {q q' : IntKind} {i j : Int} {a b : Nat} (hx : EvC ls c x (.string (strOfNums ns))) (hy : EvC ls c y (.int q i)) (hz : EvC ls c z (.int q' j)) (hi : i = a) (hj : j = b) (hab : a ≤ b) (hb : b ≤ ns.length) (hr : (ns.drop a).take (b - a) = r) :
    TIf P C c ⟨dd, .slice t x (some y) (some z) none, tp, pos, af, gd⟩ ⟨ls.toArray, ds⟩ (.string (strOfNums r)) := by
  subst hi hj hr
  refine ⟨fun e => .inl fun w _ => ?_⟩
  have k2 : (0 : Int) ≤ (a : Int) ∧ (a : Int) ≤ (b : Int) := ⟨by omega, by omega⟩
  have k3 : (0 : Int) ≤ (b : Int) ∧ (b : Int) ≤ ((strOfNums ns).size : Int) := ⟨by omega, by rw [strOf_len]; omega⟩
  have k4 : b ≤ (strOfNums ns).size := by rw [strOf_len]; omega
  have hbd : (Instr.sliceBounds false (strOfNums ns).size (strOfNums ns).size (some (.int q (a : Int))) (some (.int q' (b : Int))) none).run P w = .ok (a, b, (strOfNums ns).size) w := by
    simp [Instr.sliceBounds, Instr.sliceBound, asIntOf, k2, k3, k4]
    intro hc; omega
  have hr : (Instr.sliceAt t (.string (strOfNums ns)) (some (.int q (a : Int))) (some (.int q' (b : Int))) none).run P w = .ok (.string ((strOfNums ns).extract a b)) w := by
    simp [Instr.sliceAt, Instr.slice, run_underlying ht, hbd]
  rw [strOf_cut] at hr
  unfold execOp
  simp [eval_of (hx.of e), eval_of (hy.of e), eval_of (hz.of e), hr]
end
theorem com0 : bits .xor .i64 (-1) 0 = -1 := by decide
theorem com1 : bits .xor .i64 (-1) 1 = -2 := by decide
theorem and00 : bits .and .i64 0 (-1) = 0 := by decide
theorem and01 : bits .and .i64 0 (-2) = 0 := by decide
theorem and10 : bits .and .i64 1 (-1) = 1 := by decide
theorem and11 : bits .and .i64 1 (-2) = 0 := by decide
theorem spV_two (c : Nat) : spV c = 0 ∨ spV c = 1 := by
  unfold spV
  cases (Nat.ble 9 c && Nat.ble c 13) || Nat.beq c 32
  · exact .inl rfl
  · exact .inr rfl
theorem tByteF : OneTy Tryd.prog 5 := .of Tryd.underlying5 rfl (by kernel_rfl)
theorem iByteF : (Tryd.prog.info? 5).map (·.size) = some 1 := by kernel_rfl
theorem tStrF : OneTy Tryd.prog 9 := .of Tryd.underlying9 rfl (by kernel_rfl)
theorem iStrF : (Tryd.prog.info? 9).map (·.size) = some 1 := by kernel_rfl
theorem zStrF : (Tryd.prog.info? 9).map (fun i => (i.zero, i.size, i.bytes)) = some (some (Value.string ⟨#[]⟩), 1, 16) := by kernel_rfl
theorem zStrF1 : (Value.string ⟨#[]⟩).cells = #[.string ⟨#[]⟩] := rfl

/-- The first loop: how many words there are. -/
def CntIs (s : List Int) (m : Nat) (w0 : World) (n a x i : Value) (wr : World) : Prop :=
  ∃ (k : Nat) (u v z : Int), i = .int .i64 k ∧ k ≤ s.length ∧ a = .int .i64 u ∧ (u = 0 ∨ u = 1) ∧ n = .int .i64 v ∧ 0 ≤ v ∧ v ≤ k ∧ cntF u v (s.drop k) = m ∧ x = .int .u8 z ∧ 0 ≤ z ∧ z ≤ 127 ∧ Own w0 wr []
set_option maxHeartbeats 4000000 in
set_option maxRecDepth 100000 in
theorem fields_any (ws : List (List Int)) (hne : ws ≠ []) (hw : ∀ w ∈ ws, WOk w) (hl : (joinW ws).length ≤ 1000000) (w0 : World) (hT : Tabs w0) :
    Calls Tryd.prog 20 #[.string (strOfNums (joinW ws))] w0 fun e w' => ∃ v, e = .returned v ∧ Below w0.heap.size w0 w' ∧ Rd w' 1 v ws.length (cellsW ws) := by
  have hR := Own.start w0
  obtain ⟨t0, fr0, hT0⟩ := hT.spc
  have h127 := joinW_ok hw
  have hcnt := cntF_all hne hw
  have hml := joinW_len hw
  obtain ⟨s, hs⟩ : ∃ s, joinW ws = s := ⟨_, rfl⟩
  rw [hs] at h127 hcnt hl hml ⊢
  have hso : bytesOk s := fun c hc => ⟨(h127 c hc).1, by have := (h127 c hc).2; omega⟩
  have HJ := Lib.hid hs
  clear hs
  go_enter Tryd.func20, Tryd.ntmps20
  go_wp2_with fail
  go_loopw [3, 4, 5, 6] (CntIs s ws.length w0) (fun _ _ _ i _ => s.length - (intOf i).toNat)
  case atStart => exact ⟨0, 1, 0, 0, rfl, Nat.zero_le _, rfl, .inr rfl, rfl, by omega, by omega, by simpa using hcnt, rfl, by omega, by omega, hR⟩
  case round =>
    clear hR
    obtain ⟨k, u, v, z, rfl, hk, rfl, hu, rfl, hv0, hv1, hcn, rfl, hz0, hz1, hR⟩ := hrel
    by_cases hlt : k < s.length
    · obtain ⟨c, hc⟩ : ∃ c, s[k]? = some c := ⟨_, List.getElem?_eq_getElem hlt⟩
      obtain ⟨hc0, hc1⟩ := h127 c (List.mem_of_getElem? hc)
      have hd : s.drop k = c :: s.drop (k + 1) := by
        rw [List.drop_eq_getElem_cons hlt]
        rw [List.getElem?_eq_getElem hlt] at hc
        rw [Option.some.inj hc]
      rw [hd] at hcn
      have hcn' : cntF (spV c.toNat) (bif u == 1 && spV c.toNat == 0 then v + 1 else v) (s.drop (k + 1)) = ws.length := hcn
      clear hcn hd
      have hsp := spc_at hc0 (by omega)
      have HC := Lib.hid hc
      have HS := Lib.hid (show spcC.toList[c.toNat]? = some (.int .u8 (spV c.toNat)) by rw [Array.getElem?_toList]; exact hsp)
      obtain ⟨hx0, hx1⟩ := u8_or7 hz0 hz1 hc0 hc1
      obtain ⟨y, hy⟩ : ∃ y, bits .or .u8 z c = y := ⟨_, rfl⟩
      rw [hy] at hx0 hx1
      have HX := Lib.hid hy
      clear hy hc hsp
      have htwo := spV_two c.toNat
      generalize spV c.toNat = q at *
      rcases hu with rfl | rfl <;> rcases htwo with rfl | rfl
      · have hu : (0 : Int) = 0 := rfl
        have HU := Lib.hid hu
        clear hu
        go_wp2_with (first
            | ((with_reducible apply q_ls hR); exact rfl; (with_reducible apply t_lenN Tryd.underlying9); (apply EvC.now; exact rfl); (simp only [List.set_cons_succ, List.set_cons_zero]; exact rfl); clear hR; intro w hR)
            | ((with_reducible apply q_ls hR); exact rfl; (with_reducible apply t_atN Tryd.underlying9 hso); (apply EvC.now; exact rfl); (apply EvC.now; exact rfl); exact rfl; exact HC.out; (simp only [List.set_cons_succ, List.set_cons_zero]; exact rfl); clear hR; intro w hR)
            | ((with_reducible apply q_ls hR); exact rfl; (with_reducible apply t_gix Tryd.underlying49 iByteF); (apply EvC.now; exact rfl); (constructor <;> omega); (simp only [List.set_cons_succ, List.set_cons_zero]; exact rfl); clear hR; intro w hR)
            | ((with_reducible apply q_ls hR); exact rfl; (with_reducible apply t_old tByteF hT0); (apply EvC.now; exact rfl); exact HS.out; (simp only [List.set_cons_succ, List.set_cons_zero]; exact rfl); clear hR; intro w hR)
            | ((with_reducible apply q_ls hR); exact rfl; (with_reducible apply t_conv Tryd.underlying5 Tryd.underlying3); (apply EvC.now; exact rfl); exact IntWalk.i64_in _ (by omega); (simp only [List.set_cons_succ, List.set_cons_zero]; exact rfl); clear hR; intro w hR)
            | ((with_reducible apply q_ls hR); exact rfl; (with_reducible apply t_com); (apply EvC.now; exact rfl); (with_reducible first | exact com0 | exact com1); (simp only [List.set_cons_succ, List.set_cons_zero]; exact rfl); clear hR; intro w hR)
            | ((with_reducible apply q_ls hR); exact rfl; (with_reducible apply t_numE (op := .and)); (apply EvC.now; exact rfl); (apply EvC.now; exact rfl); exact rfl; (with_reducible first | exact and00 | exact and01 | exact and10 | exact and11); (simp only [List.set_cons_succ, List.set_cons_zero]; exact rfl); clear hR; intro w hR)
            | ((with_reducible apply q_ls hR); exact rfl; (with_reducible apply t_numE (op := .or)); (apply EvC.now; exact rfl); (apply EvC.now; exact rfl); exact rfl; exact HX.out; (simp only [List.set_cons_succ, List.set_cons_zero]; exact rfl); clear hR; intro w hR))
        go_round
        case rel => exact ⟨k + 1, 0, v, y, rfl, by omega, rfl, .inl rfl, by simp, hv0, by omega, hcn', rfl, hx0, hx1, hR.drop (List.nil_sublist _)⟩
        case measure => simp [intOf]; omega
      · have hu : (0 : Int) = 0 := rfl
        have HU := Lib.hid hu
        clear hu
        go_wp2_with (first
            | ((with_reducible apply q_ls hR); exact rfl; (with_reducible apply t_lenN Tryd.underlying9); (apply EvC.now; exact rfl); (simp only [List.set_cons_succ, List.set_cons_zero]; exact rfl); clear hR; intro w hR)
            | ((with_reducible apply q_ls hR); exact rfl; (with_reducible apply t_atN Tryd.underlying9 hso); (apply EvC.now; exact rfl); (apply EvC.now; exact rfl); exact rfl; exact HC.out; (simp only [List.set_cons_succ, List.set_cons_zero]; exact rfl); clear hR; intro w hR)
            | ((with_reducible apply q_ls hR); exact rfl; (with_reducible apply t_gix Tryd.underlying49 iByteF); (apply EvC.now; exact rfl); (constructor <;> omega); (simp only [List.set_cons_succ, List.set_cons_zero]; exact rfl); clear hR; intro w hR)
            | ((with_reducible apply q_ls hR); exact rfl; (with_reducible apply t_old tByteF hT0); (apply EvC.now; exact rfl); exact HS.out; (simp only [List.set_cons_succ, List.set_cons_zero]; exact rfl); clear hR; intro w hR)
            | ((with_reducible apply q_ls hR); exact rfl; (with_reducible apply t_conv Tryd.underlying5 Tryd.underlying3); (apply EvC.now; exact rfl); exact IntWalk.i64_in _ (by omega); (simp only [List.set_cons_succ, List.set_cons_zero]; exact rfl); clear hR; intro w hR)
            | ((with_reducible apply q_ls hR); exact rfl; (with_reducible apply t_com); (apply EvC.now; exact rfl); (with_reducible first | exact com0 | exact com1); (simp only [List.set_cons_succ, List.set_cons_zero]; exact rfl); clear hR; intro w hR)
            | ((with_reducible apply q_ls hR); exact rfl; (with_reducible apply t_numE (op := .and)); (apply EvC.now; exact rfl); (apply EvC.now; exact rfl); exact rfl; (with_reducible first | exact and00 | exact and01 | exact and10 | exact and11); (simp only [List.set_cons_succ, List.set_cons_zero]; exact rfl); clear hR; intro w hR)
            | ((with_reducible apply q_ls hR); exact rfl; (with_reducible apply t_numE (op := .or)); (apply EvC.now; exact rfl); (apply EvC.now; exact rfl); exact rfl; exact HX.out; (simp only [List.set_cons_succ, List.set_cons_zero]; exact rfl); clear hR; intro w hR))
        go_round
        case rel => exact ⟨k + 1, 1, v, y, rfl, by omega, rfl, .inr rfl, by simp, hv0, by omega, hcn', rfl, hx0, hx1, hR.drop (List.nil_sublist _)⟩
        case measure => simp [intOf]; omega
      · have hu : (0 : Int) = 0 := rfl
        have HU := Lib.hid hu
        clear hu
        go_wp2_with (first
            | ((with_reducible apply q_ls hR); exact rfl; (with_reducible apply t_lenN Tryd.underlying9); (apply EvC.now; exact rfl); (simp only [List.set_cons_succ, List.set_cons_zero]; exact rfl); clear hR; intro w hR)
            | ((with_reducible apply q_ls hR); exact rfl; (with_reducible apply t_atN Tryd.underlying9 hso); (apply EvC.now; exact rfl); (apply EvC.now; exact rfl); exact rfl; exact HC.out; (simp only [List.set_cons_succ, List.set_cons_zero]; exact rfl); clear hR; intro w hR)
            | ((with_reducible apply q_ls hR); exact rfl; (with_reducible apply t_gix Tryd.underlying49 iByteF); (apply EvC.now; exact rfl); (constructor <;> omega); (simp only [List.set_cons_succ, List.set_cons_zero]; exact rfl); clear hR; intro w hR)
            | ((with_reducible apply q_ls hR); exact rfl; (with_reducible apply t_old tByteF hT0); (apply EvC.now; exact rfl); exact HS.out; (simp only [List.set_cons_succ, List.set_cons_zero]; exact rfl); clear hR; intro w hR)
            | ((with_reducible apply q_ls hR); exact rfl; (with_reducible apply t_conv Tryd.underlying5 Tryd.underlying3); (apply EvC.now; exact rfl); exact IntWalk.i64_in _ (by omega); (simp only [List.set_cons_succ, List.set_cons_zero]; exact rfl); clear hR; intro w hR)
            | ((with_reducible apply q_ls hR); exact rfl; (with_reducible apply t_com); (apply EvC.now; exact rfl); (with_reducible first | exact com0 | exact com1); (simp only [List.set_cons_succ, List.set_cons_zero]; exact rfl); clear hR; intro w hR)
            | ((with_reducible apply q_ls hR); exact rfl; (with_reducible apply t_numE (op := .and)); (apply EvC.now; exact rfl); (apply EvC.now; exact rfl); exact rfl; (with_reducible first | exact and00 | exact and01 | exact and10 | exact and11); (simp only [List.set_cons_succ, List.set_cons_zero]; exact rfl); clear hR; intro w hR)
            | ((with_reducible apply q_ls hR); exact rfl; (with_reducible apply t_numE (op := .or)); (apply EvC.now; exact rfl); (apply EvC.now; exact rfl); exact rfl; exact HX.out; (simp only [List.set_cons_succ, List.set_cons_zero]; exact rfl); clear hR; intro w hR))
        go_round
        case rel => exact ⟨k + 1, 0, v + 1, y, rfl, by omega, rfl, .inl rfl, by simp, by omega, by omega, hcn', rfl, hx0, hx1, hR.drop (List.nil_sublist _)⟩
        case measure => simp [intOf]; omega
      · have hu : (0 : Int) = 0 := rfl
        have HU := Lib.hid hu
        clear hu
        go_wp2_with (first
            | ((with_reducible apply q_ls hR); exact rfl; (with_reducible apply t_lenN Tryd.underlying9); (apply EvC.now; exact rfl); (simp only [List.set_cons_succ, List.set_cons_zero]; exact rfl); clear hR; intro w hR)
            | ((with_reducible apply q_ls hR); exact rfl; (with_reducible apply t_atN Tryd.underlying9 hso); (apply EvC.now; exact rfl); (apply EvC.now; exact rfl); exact rfl; exact HC.out; (simp only [List.set_cons_succ, List.set_cons_zero]; exact rfl); clear hR; intro w hR)
            | ((with_reducible apply q_ls hR); exact rfl; (with_reducible apply t_gix Tryd.underlying49 iByteF); (apply EvC.now; exact rfl); (constructor <;> omega); (simp only [List.set_cons_succ, List.set_cons_zero]; exact rfl); clear hR; intro w hR)
            | ((with_reducible apply q_ls hR); exact rfl; (with_reducible apply t_old tByteF hT0); (apply EvC.now; exact rfl); exact HS.out; (simp only [List.set_cons_succ, List.set_cons_zero]; exact rfl); clear hR; intro w hR)
            | ((with_reducible apply q_ls hR); exact rfl; (with_reducible apply t_conv Tryd.underlying5 Tryd.underlying3); (apply EvC.now; exact rfl); exact IntWalk.i64_in _ (by omega); (simp only [List.set_cons_succ, List.set_cons_zero]; exact rfl); clear hR; intro w hR)
            | ((with_reducible apply q_ls hR); exact rfl; (with_reducible apply t_com); (apply EvC.now; exact rfl); (with_reducible first | exact com0 | exact com1); (simp only [List.set_cons_succ, List.set_cons_zero]; exact rfl); clear hR; intro w hR)
            | ((with_reducible apply q_ls hR); exact rfl; (with_reducible apply t_numE (op := .and)); (apply EvC.now; exact rfl); (apply EvC.now; exact rfl); exact rfl; (with_reducible first | exact and00 | exact and01 | exact and10 | exact and11); (simp only [List.set_cons_succ, List.set_cons_zero]; exact rfl); clear hR; intro w hR)
            | ((with_reducible apply q_ls hR); exact rfl; (with_reducible apply t_numE (op := .or)); (apply EvC.now; exact rfl); (apply EvC.now; exact rfl); exact rfl; exact HX.out; (simp only [List.set_cons_succ, List.set_cons_zero]; exact rfl); clear hR; intro w hR))
        go_round
        case rel => exact ⟨k + 1, 1, v, y, rfl, by omega, rfl, .inr rfl, by simp, hv0, by omega, hcn', rfl, hx0, hx1, hR.drop (List.nil_sublist _)⟩
        case measure => simp [intOf]; omega
    · obtain rfl : k = s.length := by omega
      rw [List.drop_length] at hcn
      obtain rfl : v = ws.length := hcn
      have hml2 : ws.length ≤ 1000000 := by omega
      clear hu hv0 hv1
      go_wp2_with (first
    | ((with_reducible apply q_ls hR); exact rfl; (with_reducible apply t_lenN Tryd.underlying9); (apply EvC.now; exact rfl); (simp only [List.set_cons_succ, List.set_cons_zero]; exact rfl); clear hR; intro w hR)
    | ((with_reducible apply wpList_makeRow hR Tryd.underlying33 zStrF zStrF1 (Nat.le_of_ble_eq_true rfl)); exact rfl; exact rfl; exact rfl; (omega); clear hR; intro g w hR; simp only [List.set_cons_succ, List.set_cons_zero]))
      obtain ⟨n, hn⟩ : ∃ n, ws.length = n := ⟨_, rfl⟩
      have HN := Lib.hid hn
      rw [hn] at hR hml hml2 ⊢
      clear hn
      obtain ⟨c0, hc0⟩ : ∃ c0, s[0]? = some c0 ∧ spV c0.toNat = 0 := first_at hne hw HJ.out
      have hlen0 : 0 < s.length := (List.getElem?_eq_some_iff.1 hc0.1).1
      have hcc0 := h127 c0 (List.mem_of_getElem? hc0.1)
      have HC := Lib.hid hc0.1
      have HS := Lib.hid (show spcC.toList[c0.toNat]? = some (.int .u8 0) by rw [Array.getElem?_toList, spc_at hcc0.1 (by omega), hc0.2])
      have HL := Lib.hid (show cmpB .lss 0 (s.length : Int) = some true from congrArg some (decide_eq_true (by omega)))
      clear hc0
      go_loopw [12] (fun i wr => i = .int .i64 0 ∧ Own w0 wr [(g, (List.replicate n (Value.string ⟨#[]⟩)).toArray, 9)]) (fun _ _ => 0)
      case atStart => exact ⟨rfl, hR⟩
      case round =>
        clear hR
        obtain ⟨rfl, hR⟩ := hrel
        go_wp2_with (first
    | ((with_reducible apply q_ls hR); exact rfl; (with_reducible apply t_lenN Tryd.underlying9); (apply EvC.now; exact rfl); (simp only [List.set_cons_succ, List.set_cons_zero]; exact rfl); clear hR; intro w hR)
    | ((with_reducible apply q_ls hR); exact rfl; (with_reducible apply t_cmp (op := .lss)); (apply EvC.now; exact rfl); (apply EvC.now; exact rfl); exact HL.out; (simp only [List.set_cons_succ, List.set_cons_zero]; exact rfl); clear hR; intro w hR)
    | ((with_reducible apply q_ls hR); exact rfl; (with_reducible apply t_atN Tryd.underlying9 hso (k := 0)); (apply EvC.now; exact rfl); (apply EvC.now; exact rfl); (first | exact rfl | omega); exact HC.out; (simp only [List.set_cons_succ, List.set_cons_zero]; exact rfl); clear hR; intro w hR)
    | ((with_reducible apply q_ls hR); exact rfl; (with_reducible apply t_gix Tryd.underlying49 iByteF); (apply EvC.now; exact rfl); (constructor <;> omega); (simp only [List.set_cons_succ, List.set_cons_zero]; exact rfl); clear hR; intro w hR)
    | ((with_reducible apply q_ls hR); exact rfl; (with_reducible apply t_old tByteF hT0); (apply EvC.now; exact rfl); exact HS.out; (simp only [List.set_cons_succ, List.set_cons_zero]; exact rfl); clear hR; intro w hR))
        obtain ⟨w1, B1, rfl⟩ : ∃ w1 B1, ws = w1 :: B1 := by
          cases ws with
          | nil => exact absurd rfl hne
          | cons w1 B1 => exact ⟨w1, B1, rfl⟩
        clear HC HS HL hcc0 hlen0
        go_loopw [10, 11, 12] (FldIs (w1 :: B1) s n g w0) (fun _ _ i _ => s.length - (intOf i).toNat)
        case atStart => exact ⟨[], w1, B1, [], 0, 0, 0, 0, rfl, HJ.out.symm, rfl, rfl, rfl, Nat.zero_le _, rfl, rfl, rfl, by simpa [fillW, cellsW] using hR⟩
        case round =>
          clear hR
          obtain ⟨A, wc, B, P, k, a, p, q, hws, hse, ha, hp, hq, hk, rfl, rfl, rfl, hR⟩ := hrel
          have hwok : WOk wc := hw wc (by rw [hws]; simp)
          have hsl : s.length = p + (wc.length + (tailW B).length) := by rw [hse, List.length_append, List.length_append, hp]
          have han : a < n := by have := HN.out; rw [hws] at this; simp at this; omega
          by_cases hkw : k < wc.length
          · obtain ⟨c, hc⟩ : ∃ c, wc[k]? = some c := ⟨_, List.getElem?_eq_getElem hkw⟩
            obtain ⟨⟨hc0, hc1⟩, hcs⟩ := hwok.ok c (List.mem_of_getElem? hc)
            have HC := Lib.hid (show s[q]? = some c by rw [hse]; exact at_in (by omega) hc)
            have HS := Lib.hid (show spcC.toList[c.toNat]? = some (.int .u8 0) by rw [Array.getElem?_toList, spc_at hc0 (by omega), hcs])
            have HL := Lib.hid (show cmpB .lss (q : Int) (s.length : Int) = some true from congrArg some (decide_eq_true (by omega)))
            have HI := Lib.hid hws
            have HE := Lib.hid hse
            have HA := Lib.hid ha
            have HP := Lib.hid hp
            have HQ := Lib.hid hq
            have hql : q < s.length := by omega
            clear hws hse ha hp hq hsl hc hcs
            go_wp2_with (first
    | ((with_reducible apply q_ls hR); exact rfl; (with_reducible apply t_lenN Tryd.underlying9); (apply EvC.now; exact rfl); (simp only [List.set_cons_succ, List.set_cons_zero]; exact rfl); clear hR; intro w hR)
    | ((with_reducible apply q_ls hR); exact rfl; (with_reducible apply t_cmp (op := .lss)); (apply EvC.now; exact rfl); (apply EvC.now; exact rfl); exact HL.out; (simp only [List.set_cons_succ, List.set_cons_zero]; exact rfl); clear hR; intro w hR)
    | ((with_reducible apply q_ls hR); exact rfl; (with_reducible apply t_atN Tryd.underlying9 hso (k := q)); (apply EvC.now; exact rfl); (apply EvC.now; exact rfl); (first | exact rfl | omega); exact HC.out; (simp only [List.set_cons_succ, List.set_cons_zero]; exact rfl); clear hR; intro w hR)
    | ((with_reducible apply q_ls hR); exact rfl; (with_reducible apply t_gix Tryd.underlying49 iByteF); (apply EvC.now; exact rfl); (constructor <;> omega); (simp only [List.set_cons_succ, List.set_cons_zero]; exact rfl); clear hR; intro w hR)
    | ((with_reducible apply q_ls hR); exact rfl; (with_reducible apply t_old tByteF hT0); (apply EvC.now; exact rfl); exact HS.out; (simp only [List.set_cons_succ, List.set_cons_zero]; exact rfl); clear hR; intro w hR))
            go_round
            case rel => exact ⟨A, wc, B, P, k + 1, a, p, q + 1, HI.out, HE.out, HA.out, HP.out, by have := HQ.out; omega, hkw, rfl, rfl, by simp, hR.drop (List.Sublist.refl _)⟩
            case measure => simp [intOf]; omega
          · obtain rfl : k = wc.length := by omega
            have hsz : (fillW n A).toArray.size = n := by rw [List.size_toArray, fillW_len (by omega)]
            have HPUT := Lib.hid (show PutRel (fillW n A).toArray a [.string (strOfNums wc)] (fillW n (A ++ [wc])).toArray by rw [ha]; exact fillW_put wc (by omega))
            have HSZ := Lib.hid (show a + 1 ≤ (fillW n A).toArray.size by omega)
            have hwl : wc.length ≠ 0 := fun h0 => hwok.ne (List.eq_nil_of_length_eq_zero h0)
            cases B with
            | nil =>
              have hqs : s.length = q := by rw [hsl, hq]; rfl
              have HL := Lib.hid (show cmpB .lss (q : Int) (s.length : Int) = some false from congrArg some (decide_eq_false (by omega)))
              have HL2 := Lib.hid (show cmpB .lss (p : Int) (s.length : Int) = some true from congrArg some (decide_eq_true (by omega)))
              have HCUT := Lib.hid (show s.drop p = wc by rw [hse]; exact cut_last hp)
              have hps : p ≤ s.length := by omega
              have HI := Lib.hid hws
              have HA := Lib.hid ha
              clear hws hse ha hp hq hsl hqs hsz hwl
              go_wp2_with (first
    | ((with_reducible apply q_ls hR); exact rfl; (with_reducible apply t_lenN Tryd.underlying9); (apply EvC.now; exact rfl); (simp only [List.set_cons_succ, List.set_cons_zero]; exact rfl); clear hR; intro w hR)
    | ((with_reducible apply q_ls hR); exact rfl; (with_reducible apply t_cmp (op := .lss)); (apply EvC.now; exact rfl); (apply EvC.now; exact rfl); (with_reducible first | exact HL.out | exact HL2.out); (simp only [List.set_cons_succ, List.set_cons_zero]; exact rfl); clear hR; intro w hR)
    | ((with_reducible apply q_ls hR); exact rfl; (with_reducible apply t_dropN Tryd.underlying9 (k := p)); (apply EvC.now; exact rfl); (apply EvC.now; exact rfl); exact rfl; omega; (simp only [List.set_cons_succ, List.set_cons_zero]; exact rfl); clear hR; intro w hR)
    | ((with_reducible apply q_ls hR); exact rfl; (with_reducible apply t_sixG (k := a) Tryd.underlying33 iStrF); (apply EvC.now; exact rfl); (apply EvC.now; exact rfl); exact rfl; omega; (simp only [List.set_cons_succ, List.set_cons_zero]; exact rfl); clear hR; intro w hR)
    | ((with_reducible apply wpList_put1 hR tStrF); exact rfl; exact rfl; exact rfl; (focus (repeat (first | apply List.Mem.head | apply List.Mem.tail | apply List.mem_append_right))); (rw [HCUT.out]; exact HPUT.out); exact HSZ.out; exact rfl; (focus (repeat (first | apply Upd.head | apply Upd.tail))); clear hR; intro w hR))
              go_ret
              refine ⟨_, rfl, hR.below, ?_⟩
              rw [HN.out]
              have hws := HI.out
              have hlen : (A ++ [wc]).length = n := by rw [← hws]; exact HN.out
              have hful : fillW n (A ++ [wc]) = cellsW (w1 :: B1) := by rw [fillW_full hlen, hws]
              rw [hful] at hR
              have hcl : (cellsW (w1 :: B1)).length = n := by unfold cellsW; rw [List.length_map]; exact HN.out
              have h : Sl 9 1 [(g, (cellsW (w1 :: B1)).toArray, 9)] (.slice (some ⟨g, 0, none⟩) n n) n (cellsW (w1 :: B1)) := (RwIs.all (by rw [List.size_toArray, hcl, Nat.mul_one]) hml2).sl
              exact h.rd hR (fun r hr => by rw [List.mem_singleton.1 hr]; exact .head _) (cellsW_one _)
            | cons w2 B2 =>
              have hwok2 : WOk w2 := hw w2 (by rw [hws]; simp)
              obtain ⟨c2, hc2⟩ : ∃ c2, w2[0]? = some c2 := ⟨_, List.getElem?_eq_getElem (Nat.pos_of_ne_zero fun h0 => hwok2.ne (List.eq_nil_of_length_eq_zero h0))⟩
              obtain ⟨⟨hc0, hc1⟩, hcs⟩ := hwok2.ok c2 (List.mem_of_getElem? hc2)
              have hse2 : s = (P ++ (wc ++ [32])) ++ (w2 ++ tailW B2) := by rw [hse]; simp [tailW]
              have hsl2 : s.length = (P.length + (wc.length + 1)) + (w2.length + (tailW B2).length) := by rw [hse2]; simp; omega
              have hw2l : w2.length ≠ 0 := fun h0 => hwok2.ne (List.eq_nil_of_length_eq_zero h0)
              have HC1 := Lib.hid (show s[q]? = some 32 by rw [hse]; exact at_end (by omega))
              have HC2 := Lib.hid (show s[q + 1]? = some c2 by rw [hse2]; exact at_in (k := 0) (by simp; omega) hc2)
              have HS1 := Lib.hid (show spcC.toList[(32 : Int).toNat]? = some (.int .u8 1) by rw [Array.getElem?_toList, spc_at (by decide) (by decide)]; rfl)
              have HS2 := Lib.hid (show spcC.toList[c2.toNat]? = some (.int .u8 0) by rw [Array.getElem?_toList, spc_at hc0 (by omega), hcs])
              have HL := Lib.hid (show cmpB .lss (q : Int) (s.length : Int) = some true from congrArg some (decide_eq_true (by omega)))
              have HL2 := Lib.hid (show cmpB .lss ((q : Int) + 1) (s.length : Int) = some true from congrArg some (decide_eq_true (by omega)))
              have HCUT := Lib.hid (show (s.drop p).take (q - p) = wc by rw [hse]; exact cut_in hp hq)
              have hpq : p ≤ q := by omega
              have hqs : q ≤ s.length := by omega
              have HI := Lib.hid hws
              have HE := Lib.hid hse2
              have HA := Lib.hid ha
              have HP := Lib.hid (show q + 1 = (P ++ (wc ++ [32])).length by simp; omega)
              have HM := Lib.hid (show s.length - (q + 1) < s.length - q by omega)
              clear hws hse hse2 hsl2 ha hp hq hsl hsz hwl hw2l hc2 hcs
              go_wp2_with (first
    | ((with_reducible apply q_ls hR); exact rfl; (with_reducible apply t_lenN Tryd.underlying9); (apply EvC.now; exact rfl); (simp only [List.set_cons_succ, List.set_cons_zero]; exact rfl); clear hR; intro w hR)
    | ((with_reducible apply q_ls hR); exact rfl; (with_reducible apply t_cmp (op := .lss)); (apply EvC.now; exact rfl); (apply EvC.now; exact rfl); (with_reducible first | exact HL.out | exact HL2.out); (simp only [List.set_cons_succ, List.set_cons_zero]; exact rfl); clear hR; intro w hR)
    | ((with_reducible apply q_ls hR); exact rfl; (with_reducible apply t_atN Tryd.underlying9 hso (k := q)); (apply EvC.now; exact rfl); (apply EvC.now; exact rfl); exact rfl; exact HC1.out; (simp only [List.set_cons_succ, List.set_cons_zero]; exact rfl); clear hR; intro w hR)
    | ((with_reducible apply q_ls hR); exact rfl; (with_reducible apply t_atN Tryd.underlying9 hso (k := q + 1)); (apply EvC.now; exact rfl); (apply EvC.now; exact rfl); omega; exact HC2.out; (simp only [List.set_cons_succ, List.set_cons_zero]; exact rfl); clear hR; intro w hR)
    | ((with_reducible apply q_ls hR); exact rfl; (with_reducible apply t_gix Tryd.underlying49 iByteF); (apply EvC.now; exact rfl); (constructor <;> omega); (simp only [List.set_cons_succ, List.set_cons_zero]; exact rfl); clear hR; intro w hR)
    | ((with_reducible apply q_ls hR); exact rfl; (with_reducible apply t_old tByteF hT0); (apply EvC.now; exact rfl); (with_reducible first | exact HS1.out | exact HS2.out); (simp only [List.set_cons_succ, List.set_cons_zero]; exact rfl); clear hR; intro w hR)
    | ((with_reducible apply q_ls hR); exact rfl; (with_reducible apply t_midN Tryd.underlying9 (a := p) (b := q)); (apply EvC.now; exact rfl); (apply EvC.now; exact rfl); (apply EvC.now; exact rfl); exact rfl; exact rfl; exact hpq; exact hqs; exact HCUT.out; (simp only [List.set_cons_succ, List.set_cons_zero]; exact rfl); clear hR; intro w hR)
    | ((with_reducible apply q_ls hR); exact rfl; (with_reducible apply t_sixG (k := a) Tryd.underlying33 iStrF); (apply EvC.now; exact rfl); (apply EvC.now; exact rfl); exact rfl; omega; (simp only [List.set_cons_succ, List.set_cons_zero]; exact rfl); clear hR; intro w hR)
    | ((with_reducible apply wpList_put1 hR tStrF); exact rfl; exact rfl; exact rfl; (focus (repeat (first | apply List.Mem.head | apply List.Mem.tail | apply List.mem_append_right))); exact HPUT.out; exact HSZ.out; exact rfl; (focus (repeat (first | apply Upd.head | apply Upd.tail))); clear hR; intro w hR))
              go_loopw [12] (fun i wr => i = .int .i64 ((q : Int) + 1) ∧ Own w0 wr [(g, (fillW n (A ++ [wc])).toArray, 9)]) (fun _ _ => 0)
              case atStart => exact ⟨rfl, hR⟩
              case round =>
                clear hR
                obtain ⟨rfl, hR⟩ := hrel
                go_wp2_with (first
    | ((with_reducible apply q_ls hR); exact rfl; (with_reducible apply t_lenN Tryd.underlying9); (apply EvC.now; exact rfl); (simp only [List.set_cons_succ, List.set_cons_zero]; exact rfl); clear hR; intro w hR)
    | ((with_reducible apply q_ls hR); exact rfl; (with_reducible apply t_cmp (op := .lss)); (apply EvC.now; exact rfl); (apply EvC.now; exact rfl); (with_reducible first | exact HL.out | exact HL2.out); (simp only [List.set_cons_succ, List.set_cons_zero]; exact rfl); clear hR; intro w hR)
    | ((with_reducible apply q_ls hR); exact rfl; (with_reducible apply t_atN Tryd.underlying9 hso (k := q)); (apply EvC.now; exact rfl); (apply EvC.now; exact rfl); exact rfl; exact HC1.out; (simp only [List.set_cons_succ, List.set_cons_zero]; exact rfl); clear hR; intro w hR)
    | ((with_reducible apply q_ls hR); exact rfl; (with_reducible apply t_atN Tryd.underlying9 hso (k := q + 1)); (apply EvC.now; exact rfl); (apply EvC.now; exact rfl); omega; exact HC2.out; (simp only [List.set_cons_succ, List.set_cons_zero]; exact rfl); clear hR; intro w hR)
    | ((with_reducible apply q_ls hR); exact rfl; (with_reducible apply t_gix Tryd.underlying49 iByteF); (apply EvC.now; exact rfl); (constructor <;> omega); (simp only [List.set_cons_succ, List.set_cons_zero]; exact rfl); clear hR; intro w hR)
    | ((with_reducible apply q_ls hR); exact rfl; (with_reducible apply t_old tByteF hT0); (apply EvC.now; exact rfl); (with_reducible first | exact HS1.out | exact HS2.out); (simp only [List.set_cons_succ, List.set_cons_zero]; exact rfl); clear hR; intro w hR)
    | ((with_reducible apply q_ls hR); exact rfl; (with_reducible apply t_midN Tryd.underlying9 (a := p) (b := q)); (apply EvC.now; exact rfl); (apply EvC.now; exact rfl); (apply EvC.now; exact rfl); exact rfl; exact rfl; exact hpq; exact hqs; exact HCUT.out; (simp only [List.set_cons_succ, List.set_cons_zero]; exact rfl); clear hR; intro w hR)
    | ((with_reducible apply q_ls hR); exact rfl; (with_reducible apply t_sixG (k := a) Tryd.underlying33 iStrF); (apply EvC.now; exact rfl); (apply EvC.now; exact rfl); exact rfl; omega; (simp only [List.set_cons_succ, List.set_cons_zero]; exact rfl); clear hR; intro w hR)
    | ((with_reducible apply wpList_put1 hR tStrF); exact rfl; exact rfl; exact rfl; (focus (repeat (first | apply List.Mem.head | apply List.Mem.tail | apply List.mem_append_right))); exact HPUT.out; exact HSZ.out; exact rfl; (focus (repeat (first | apply Upd.head | apply Upd.tail))); clear hR; intro w hR))
                go_round
                case rel =>
                  have hws := HI.out
                  exact ⟨A ++ [wc], w2, B2, P ++ (wc ++ [32]), 0, a + 1, q + 1, q + 1, by rw [hws]; simp, HE.out, by rw [HA.out]; simp, HP.out, rfl, Nat.zero_le _, rfl, rfl, rfl, hR.drop (List.Sublist.refl _)⟩
                case measure => have := HM.out; simp [intOf]; omega
/-! ### The first of some texts -/
def idxI (t : List Int) : Int → List (List Int) → Int
  | _, [] => -1
  | k, x :: r => bif decide (t = x) then k else idxI t (k + 1) r
theorem index_any {w0 : World} {v : Value} {L : List (List Int)} (h : Rd w0 1 v L.length (cellsW L)) (hl : L.length ≤ 1000000) (t : List Int) (ht : bytesOk t) (hL : ∀ x ∈ L, bytesOk x) :
    Calls Tryd.prog 19 #[v, .string (strOfNums t)] w0 fun e w' => e = .returned (.int .i64 (idxI t 0 L)) ∧ Below w0.heap.size w0 w' := by
  have hR := Own.start w0
  go_enter Tryd.func19, Tryd.ntmps19
  go_wp2_with (first
    | ((with_reducible apply q_ls hR); exact rfl; (with_reducible apply t_lenRd Tryd.underlying33); (apply EvC.now; exact rfl); exact h; (simp only [List.set_cons_succ, List.set_cons_zero]; exact rfl); clear hR; intro w hR))
  go_loopw [8] (fun i wr => ∃ k : Nat, i = .int .i64 k ∧ k ≤ L.length ∧ idxI t k (L.drop k) = idxI t 0 L ∧ Own w0 wr []) (fun i _ => L.length - (intOf i).toNat)
  case atStart => exact ⟨0, rfl, Nat.zero_le _, rfl, hR⟩
  case round =>
    clear hR
    obtain ⟨k, rfl, hk, hrel, hR⟩ := hrel
    have HR := Lib.hid hrel
    clear hrel
    by_cases hlt : k < L.length
    · obtain ⟨x, hx⟩ : ∃ x, L[k]? = some x := ⟨_, List.getElem?_eq_getElem hlt⟩
      have hxo := hL x (List.mem_of_getElem? hx)
      have hd : L.drop k = x :: L.drop (k + 1) := by
        rw [List.drop_eq_getElem_cons hlt]
        rw [List.getElem?_eq_getElem hlt] at hx
        rw [Option.some.inj hx]
      have HD := Lib.hid hd
      have hc : (cellsW L)[k]? = some (.string (strOfNums x)) := by unfold cellsW; rw [List.getElem?_map, hx]; rfl
      rcases h.way with ⟨_, h2, _⟩ | ⟨a, cap, rfl, hle, hcell⟩
      · omega
      have HC := Lib.hid (show w0.cell? (a.add (k * 1)) = some (.string (strOfNums x)) by rw [Nat.mul_one]; exact hcell _ _ hc)
      clear hcell hc hx hd
      by_cases htx : t = x
      · have HT := Lib.hid (show decide (t = x) = true from decide_eq_true htx)
        have HV := Lib.hid (show idxI t 0 L = k by rw [← HR.out, HD.out]; show (bif decide (t = x) then (k : Int) else _) = _; rw [HT.out]; rfl)
        clear htx
        go_wp2_with (first
    | ((with_reducible apply q_ls hR); exact rfl; (with_reducible apply t_six Tryd.underlying33 iStrF); (apply EvC.now; exact rfl); (apply EvC.now; exact rfl); (constructor <;> omega); (simp only [List.set_cons_succ, List.set_cons_zero]; exact rfl); clear hR; intro w hR)
    | ((with_reducible apply q_ls hR); exact rfl; (with_reducible apply t_oldOne tStrF); (apply EvC.now; exact rfl); exact HC.out; exact rfl; (simp only [List.set_cons_succ, List.set_cons_zero]; exact rfl); clear hR; intro w hR)
    | ((with_reducible apply q_ls hR); exact rfl; (with_reducible apply t_eqNK ht hxo HT.out); (apply EvC.now; exact rfl); (apply EvC.now; exact rfl); (simp only [List.set_cons_succ, List.set_cons_zero]; exact rfl); clear hR; intro w hR))
        go_ret
        exact ⟨by rw [HV.out]; rfl, hR.below⟩
      · have HT := Lib.hid (show decide (t = x) = false from decide_eq_false htx)
        have HV := Lib.hid (show idxI t ((k + 1 : Nat) : Int) (L.drop (k + 1)) = idxI t 0 L by rw [← HR.out, HD.out]; show _ = (bif decide (t = x) then (k : Int) else _); rw [HT.out]; rfl)
        clear htx
        go_wp2_with (first
    | ((with_reducible apply q_ls hR); exact rfl; (with_reducible apply t_six Tryd.underlying33 iStrF); (apply EvC.now; exact rfl); (apply EvC.now; exact rfl); (constructor <;> omega); (simp only [List.set_cons_succ, List.set_cons_zero]; exact rfl); clear hR; intro w hR)
    | ((with_reducible apply q_ls hR); exact rfl; (with_reducible apply t_oldOne tStrF); (apply EvC.now; exact rfl); exact HC.out; exact rfl; (simp only [List.set_cons_succ, List.set_cons_zero]; exact rfl); clear hR; intro w hR)
    | ((with_reducible apply q_ls hR); exact rfl; (with_reducible apply t_eqNK ht hxo HT.out); (apply EvC.now; exact rfl); (apply EvC.now; exact rfl); (simp only [List.set_cons_succ, List.set_cons_zero]; exact rfl); clear hR; intro w hR))
        go_round
        case rel => exact ⟨k + 1, by simp, hlt, HV.out, hR.drop (List.nil_sublist _)⟩
        case measure => simp [intOf]; omega
    · obtain rfl : k = L.length := by omega
      have HV := Lib.hid (show idxI t 0 L = -1 by rw [← HR.out, List.drop_length]; rfl)
      go_wp2_with fail
      go_ret
      exact ⟨by rw [HV.out]; rfl, hR.below⟩
end Go.Proofs.YtpngjefdgicmiaaDoor
