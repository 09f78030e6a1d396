






/- The contracts of package index: its sources. No statement of the seat is proved here. -/
import Derived.Test.YtimciiaajlfkoaaIdxA
namespace Go.Proofs.Ytimciiaajlfkoaa
open Go.ChangeShapes Go.WideShapes Go.ChangeAt Go.RowKit
set_option linter.unusedVariables false
set_option linter.unusedSimpArgs false

/-! ### Numbers, the lowest byte first -/
theorem le_lt : ∀ {l : List Int}, bytesOk l → 0 ≤ leZ l ∧ leZ l < 256 ^ l.length
  | [], _ => by simp [leZ]
  | n :: l, h => by
    have h1 := h n (.head _)
    have h2 := le_lt (l := l) (fun m hm => h m (.tail _ hm))
    have e : (256 : Int) ^ (l.length + 1) = 256 ^ l.length * 256 := Int.pow_succ _ _
    simp only [leZ, List.length_cons, e]
    omega
theorem le_append : ∀ (a b : List Int), leZ (a ++ b) = leZ a + 256 ^ a.length * leZ b
  | [], b => by simp [leZ]
  | n :: a, b => by
    have e : (256 : Int) ^ (a.length + 1) = 256 * 256 ^ a.length := by rw [Int.pow_succ, Int.mul_comm]
    simp only [List.cons_append, leZ, le_append a b, List.length_cons, e, Int.mul_add, Int.mul_assoc]
    omega
theorem le_more {bs : List Int} {k : Nat} {n : Int} (h : bs[k]? = some n) : leZ (bs.take (k + 1)) = leZ (bs.take k) + n * 2 ^ (8 * k) := by
  have hk : k < bs.length := (List.getElem?_eq_some_iff.1 h).1
  rw [List.take_add_one, h, le_append, List.length_take, show min k bs.length = k by omega]
  simp only [Option.toList, leZ]
  rw [show (256 : Int) ^ k = 2 ^ (8 * k) by rw [Int.pow_mul]; rfl, Int.mul_comm]
  simp
theorem or_at {a b : Int} {k : Nat} (h0 : 0 ≤ a) (h1 : a < 256 ^ k) (hb : 0 ≤ b ∧ b ≤ 255) (hk : k ≤ 3) : bits .or .u32 a (b * 2 ^ (8 * k)) = a + b * 2 ^ (8 * k) := by
  obtain ⟨x, rfl⟩ := Int.eq_ofNat_of_zero_le h0
  obtain ⟨y, rfl⟩ := Int.eq_ofNat_of_zero_le hb.1
  have hy : y ≤ 255 := by omega
  have hm : (2 : Int) ^ (8 * k) = ((2 ^ (8 * k) : Nat) : Int) := by simp
  have hx : x < 2 ^ (8 * k) := by
    rw [show (256 : Int) ^ k = 2 ^ (8 * k) by rw [Int.pow_mul]; rfl, hm] at h1
    exact Int.ofNat_lt.1 h1
  have h2 : 2 ^ (8 * k) ≤ 16777216 := Nat.le_trans (Nat.pow_le_pow_right (by decide) (show 8 * k ≤ 24 by omega)) (by decide)
  have h3 : y * 2 ^ (8 * k) ≤ 255 * 2 ^ (8 * k) := Nat.mul_le_mul_right _ hy
  rw [hm, ← Int.natCast_mul, ← Int.natCast_add]
  rw [u32_or_nat x _ (by omega) (by omega)]
  congr 1
  have := Nat.two_pow_add_eq_or_of_lt hx y
  rw [Nat.or_comm, Nat.mul_comm y, ← this]
  omega
/-! ### Types -/
theorem iSrcI : (Try.prog.info? 76).map (·.size) = some 2 := by kernel_rfl
theorem tSrcI : RowTy Try.prog 76 2 := .of Try.underlying76 rfl iSrcI
theorem fSrcI (k : Nat) (h : k < 2) : FieldAt Try.prog 76 k k := by
  match k, h with
  | 0, _ => exact ⟨fun g w => by simp [go_sem, Instr.fieldAt, fieldPlace]⟩
  | 1, _ => exact ⟨fun g w => by simp [go_sem, Instr.fieldAt, fieldPlace]⟩
theorem tSlI : OneTy Try.prog 29 := .of Try.underlying29 rfl (by kernel_rfl)
theorem tErrI : OneTy Try.prog 43 := .of Try.underlying43 rfl (by kernel_rfl)
theorem bSrcI (a : Option Addr) (n c : Nat) : Built Try.prog 76 [(0, .slice a n c)] #[.slice a n c, .int .i64 0] := ⟨by kernel_rfl⟩
theorem put_rest (v v' : Value) (e : Int) : PutRel #[v, .int .i64 e] 0 [v'] #[v', .int .i64 e] := ⟨rfl⟩
theorem put_err (v : Value) (e e' : Int) : PutRel #[v, .int .i64 e] 1 [.int .i64 e'] #[v, .int .i64 e'] := ⟨rfl⟩
/-! ### Bytes that are cut -/
theorem SrcW.shapeI {w : World} {v : Value} {bs : List Int} (h : SrcW w v bs) : ∃ a n c, v = .slice a n c := by
  rcases h.way with ⟨rfl, _⟩ | ⟨a, c, rfl, _⟩
  · exact ⟨_, _, _, rfl⟩
  · exact ⟨_, _, _, rfl⟩
def cut3V (v : Value) (h : Nat) : Value := match v with
  | .slice a _ _ => .slice (if h = 0 then a else a.map (·.add 0)) h h
  | v => v
theorem SrcW.cut3 {w : World} {v : Value} {bs : List Int} (hS : SrcW w v bs) (h : Nat) (hh : h ≤ bs.length) : SrcW w (cut3V v h) (bs.take h) := by
  refine ⟨hS.ok.take _, ?_⟩
  rcases hS.way with ⟨rfl, rfl⟩ | ⟨a, cap, rfl, hle, hc⟩
  · have h0 : h = 0 := by simpa using hh
    subst h0
    exact .inl ⟨rfl, rfl⟩
  · have hlen : (bs.take h).length = h := by rw [List.length_take]; omega
    refine .inr ⟨if h = 0 then a else a.add 0, h, ?_, by omega, fun j u hu => ?_⟩
    · unfold cut3V
      rw [hlen]
      by_cases hh0 : h = 0
      · simp [hh0]
      · simp [hh0]
    · have hj : j < h := by rw [← hlen]; exact (List.getElem?_eq_some_iff.1 hu).1
      rw [if_neg (by omega), _root_.Go.Addr.add_add, Nat.zero_add]
      rw [List.getElem?_take, if_pos (by omega)] at hu
      exact hc _ u hu
theorem run_cut3 {P : Program} {w w2 : World} {t e : TypeId} {v : Value} {bs : List Int} (ht : SliceTy P t e) (hS : SrcW w2 v bs) {q q' : IntKind} {h : Nat} (hh : h ≤ bs.length) :
    (Instr.sliceAt t v none (some (.int q (h : Int))) (some (.int q' (h : Int)))).run P w = .ok (cut3V v h) w := by
  obtain ⟨hu, i, z, hinf, _, hsz, _⟩ := ht
  obtain ⟨a, cap, rfl, hle⟩ : ∃ a cap, v = .slice a bs.length cap ∧ bs.length ≤ cap := by
    rcases hS.way with ⟨rfl, rfl⟩ | ⟨a, cap, rfl, hle, _⟩
    · exact ⟨none, 0, rfl, Nat.le_refl _⟩
    · exact ⟨_, cap, rfl, hle⟩
  have k1 : (0 : Int) ≤ (h : Int) ∧ (h : Int) ≤ (cap : Int) := ⟨by omega, by omega⟩
  have k2 : h ≤ cap := by omega
  have hb : (Instr.sliceBounds true bs.length cap none (some (.int q (h : Int))) (some (.int q' (h : Int)))).run P w = .ok (0, h, h) w := by
    simp [Instr.sliceBounds, Instr.sliceBound, asIntOf, k1, k2]
  simp [Instr.sliceAt, Instr.slice, run_underlying hu, hb, sizeOf, typeInfo, hinf, hsz, cut3V]
section
variable {P : Program} {C : World → Prop} {tp : TypeId} {pos : String} {af : Array Edge} {gd : Option (Nat × Bool)} {ls : List Value} {ds : List Deferred} {c : Bool} {dd : Option Tmp}
theorem t_cut3 {t e : TypeId} (ht : SliceTy P t e) {x y z : Operand} {v : Value} {bs : List Int} {w : World} (hS : SrcW w v bs) {q q' : IntKind} {i j : Int} (hx : EvC ls c x v) (hy : EvC ls c y (.int q i)) (hz : EvC ls c z (.int q' j)) {h : Nat} (e1 : i = h) (e2 : j = h) (hh : h ≤ bs.length) :
    TIf P C c ⟨dd, .slice t x none (some y) (some z), tp, pos, af, gd⟩ ⟨ls.toArray, ds⟩ (cut3V v h) := by
  subst e1 e2
  refine ⟨fun e => .inl fun w' _ => ?_⟩
  have := run_cut3 (P := P) (w := w') ht hS (q := q) (q' := q') hh
  unfold execOp
  simp [eval_of (hx.of e), eval_of (hy.of e), eval_of (hz.of e), this]
end
theorem SrcW.elI {w : World} {a : Addr} {m cap : Nat} {bs : List Int} (h : SrcW w (.slice (some a) m cap) bs) {k : Nat} {n : Int} (hk : bs[k]? = some n) : w.cell? (a.add k) = some (.int .u8 n) := by
  rcases h.way with ⟨h1, _⟩ | ⟨a', cap', h1, _, h3⟩
  · exact nomatch h1
  · cases h1
    exact h3 k n hk
theorem Sl.shapeIdx {e : TypeId} {k n : Nat} {s : List RowT} {v : Value} {xs : List Value} (h : Sl e k s v n xs) : ∃ a n c, v = .slice a n c := by
  rcases h.way with ⟨_, h1, _⟩ | ⟨g, c, _, _, h1, _⟩
  · exact ⟨_, _, _, h1⟩
  · exact ⟨_, _, _, h1⟩
theorem SrcW.el' {w : World} {v : Value} {bs : List Int} (h : SrcW w v bs) {k : Nat} {n : Int} (hk : bs[k]? = some n) : ∃ a cap, v = .slice (some a) bs.length cap ∧ bs.length ≤ cap := by
  rcases h.way with ⟨_, h2⟩ | ⟨a, cap, h1, h2, _⟩
  · subst h2; exact nomatch hk
  · exact ⟨a, cap, h1, h2⟩
/-! ### Sources -/
/-- Bytes that lie in rows that stay. -/
def SrcIn (w0 : World) (sr : List RowT) (v : Value) (bs : List Int) : Prop := ∀ (w : World) (l : List RowT), Own w0 w l → (∀ r ∈ sr, r ∈ l) → SrcW w v bs
/-- A source's struct row 'cs' beside its bytes' rows 'sr', which stay as they are; what lay at the base 'w0' stays, too. -/
structure SrcObj (w0 : World) (sr : List RowT) (cs : Array Value) (s : SrcZ) : Prop where
  way : ∃ v, cs = #[v, .int .i64 s.e] ∧ SrcR sr v s.b
def ThenS (w0 : World) (g : Nat) (X sr : List RowT) (s : SrcZ) (w : World) : Prop := ∃ cs, Own w0 w ((g, cs, 76) :: X) ∧ SrcObj w0 sr cs s
theorem SrcR.noneI (sr : List RowT) : SrcR sr (.slice none 0 0) [] := fun _ w _ _ _ => .none w
theorem SrcR.srcIn {sr : List RowT} {v : Value} {bs : List Int} (h : SrcR sr v bs) (w0 : World) : SrcIn w0 sr v bs := fun w l hO hs => h w0 w l hO hs
theorem fromG_any {w0 w : World} {l Y : List RowT} {v : Value} {bs : List Int} (hO : Own w0 w l) (hv : SrcIn w0 Y v bs) (hY : ∀ r ∈ Y, r ∈ l) (hl : bs.length ≤ 1000000) :
    Calls Try.prog 27 #[v] w fun e w' => ∃ g cs sr, e = .returned (.pointer (some ⟨g, 0, none⟩)) ∧ Own w0 w' ((g, cs, 76) :: (sr ++ l)) ∧ SrcObj w0 sr cs ⟨bs, 0⟩ := by
  have hR := hO
  have hok := (hv w l hO hY).ok
  clear hO
  go_enter Try.func27, Try.ntmps27
  go_wp2_with (first
    | ((with_reducible apply wpList_appG hR tBytesI); exact rfl; exact rfl; exact rfl; exact (Sl.nil _ _); (exact Les.head (s := [])); exact (hv _ _ hR hY).rd; (simp [maxLen]; omega); (simp; omega); clear hR; intro s2 v2 w hR hS2; (obtain ⟨a2, n2, c2, rfl⟩ := hS2.shapeIdx); simp only [List.set_cons_succ, List.set_cons_zero])
    | ((with_reducible apply wpList_built); exact rfl; exact rfl; exact bSrcI _ _ _; (simp only [List.set_cons_succ, List.set_cons_zero]; exact rfl))
    | ((with_reducible apply wpList_box hR); exact rfl; exact rfl; clear hR; intro g w hR; simp only [List.set_cons_succ, List.set_cons_zero]))
  go_ret
  rw [Nat.zero_add] at hS2
  exact ⟨_, _, s2, rfl, hR, ⟨_, rfl, fun _ w l hO hs => hS2.src hO hs hok⟩⟩
theorem fromX_any {w : World} {v : Value} {bs : List Int} (h : SrcW w v bs) (hl : bs.length ≤ 1000000) :
    Calls Try.prog 27 #[v] w fun e w' => ∃ g cs sr, e = .returned (.pointer (some ⟨g, 0, none⟩)) ∧ Own w w' ((g, cs, 76) :: sr) ∧ SrcObj w sr cs ⟨bs, 0⟩ := by
  refine (fromG_any (Own.start w) (Y := []) (fun w' l hO _ => h.own hO) (fun _ h => nomatch h) hl).mono ?_
  rintro e w' ⟨g, cs, sr, rfl, hO, hS⟩
  rw [List.append_nil] at hO
  exact ⟨g, cs, sr, rfl, hO, hS⟩
section
variable {w0 w : World} {l X sr : List RowT} {g : Nat} {cs : Array Value} {s : SrcZ}
theorem errX_any (hO : Own w0 w l) (hd : Les [(g, cs, 76)] l X) (hY : ∀ r ∈ sr, r ∈ X) (hS : SrcObj w0 sr cs s) :
    Calls Try.prog 33 #[.pointer (some ⟨g, 0, none⟩)] w fun e w' => e = .returned (.int .i64 s.e) ∧ Below w.heap.size w w' := by
  obtain ⟨v, rfl, hv⟩ := hS.way
  have hT := (hO.les hd).get (.head _)
  clear hO hd
  have hR := Own.start w
  go_enter Try.func33, Try.ntmps33
  go_wp2_with (first
    | ((with_reducible apply q_ls hR); exact rfl; (with_reducible apply t_nilck); (apply EvC.now; exact rfl); (simp only [List.set_cons_succ, List.set_cons_zero]; exact rfl); clear hR; intro w hR)
    | ((with_reducible apply q_ls hR); exact rfl; (with_reducible apply t_old tErrI hT); (apply EvC.now; exact rfl); exact rfl; (simp only [List.set_cons_succ, List.set_cons_zero]; exact rfl); clear hR; intro w hR)
    | ((with_reducible apply q_ls hR); exact rfl; ((with_reducible first | apply t_addr (fSrcI _ (by decide))) <;> (first | (apply EvC.gv; exact rfl; (with_reducible first | exact Imp.refl _ | (apply Imp.left; exact Imp.refl _) | (apply Imp.right; exact Imp.refl _) | (apply Imp.left; apply Imp.left; exact Imp.refl _))) | (apply EvC.now; exact rfl) | exact rfl | (with_reducible exact EvAll.nil) | (focus (repeat (first | apply EvAll.cons | exact EvAll.nil | (apply EvC.gv; exact rfl; (with_reducible first | exact Imp.refl _ | (apply Imp.left; exact Imp.refl _) | (apply Imp.right; exact Imp.refl _) | (apply Imp.left; apply Imp.left; exact Imp.refl _))) | (apply EvC.now; exact rfl))); done) | exact rfl | (focus (repeat (first | apply List.Mem.head | apply List.Mem.tail | apply List.mem_append_right))))); (simp only [List.set_cons_succ, List.set_cons_zero]; exact rfl); clear hR; intro w hR))
  go_ret
  exact ⟨rfl, hR.below⟩
theorem leftX_any (hO : Own w0 w l) (hd : Les [(g, cs, 76)] l X) (hY : ∀ r ∈ sr, r ∈ X) (hS : SrcObj w0 sr cs s) (hl : s.b.length ≤ 1000000) :
    Calls Try.prog 28 #[.pointer (some ⟨g, 0, none⟩)] w fun e w' => e = .returned (.int .i64 s.b.length) ∧ Below w.heap.size w w' := by
  obtain ⟨v, rfl, hv⟩ := hS.way
  have hT := (hO.les hd).get (.head _)
  have hz := hv w0 w _ (hO.les hd) (fun r hr => .tail _ (hY r hr))
  clear hO hd
  have hR := Own.start w
  go_enter Try.func28, Try.ntmps28
  go_wp2_with (first
    | ((with_reducible apply q_ls hR); exact rfl; (with_reducible apply t_nilck); (apply EvC.now; exact rfl); (simp only [List.set_cons_succ, List.set_cons_zero]; exact rfl); clear hR; intro w hR)
    | ((with_reducible apply q_ls hR); exact rfl; (with_reducible apply t_old tSlI hT); (apply EvC.now; exact rfl); exact rfl; (simp only [List.set_cons_succ, List.set_cons_zero]; exact rfl); clear hR; intro w hR)
    | ((with_reducible apply q_ls hR); exact rfl; (with_reducible apply t_lenW Try.underlying29); (apply EvC.now; exact rfl); exact hz; (simp only [List.set_cons_succ, List.set_cons_zero]; exact rfl); clear hR; intro w hR)
    | ((with_reducible apply q_ls hR); exact rfl; ((with_reducible first | apply t_addr (fSrcI _ (by decide))) <;> (first | (apply EvC.gv; exact rfl; (with_reducible first | exact Imp.refl _ | (apply Imp.left; exact Imp.refl _) | (apply Imp.right; exact Imp.refl _) | (apply Imp.left; apply Imp.left; exact Imp.refl _))) | (apply EvC.now; exact rfl) | exact rfl | (with_reducible exact EvAll.nil) | (focus (repeat (first | apply EvAll.cons | exact EvAll.nil | (apply EvC.gv; exact rfl; (with_reducible first | exact Imp.refl _ | (apply Imp.left; exact Imp.refl _) | (apply Imp.right; exact Imp.refl _) | (apply Imp.left; apply Imp.left; exact Imp.refl _))) | (apply EvC.now; exact rfl))); done) | exact rfl | (focus (repeat (first | apply List.Mem.head | apply List.Mem.tail | apply List.mem_append_right))))); (simp only [List.set_cons_succ, List.set_cons_zero]; exact rfl); clear hR; intro w hR))
  go_ret
  exact ⟨rfl, hR.below⟩
theorem ThenS.same {w0 w : World} {g : Nat} {X sr : List RowT} {cs : Array Value} {s : SrcZ} (hR : Own w0 w ((g, cs, 76) :: X)) (hS : SrcObj w0 sr cs s) : ThenS w0 g X sr s w := ⟨cs, hR, hS⟩
theorem wrongX_any (hO : Own w0 w l) (hd : Les [(g, cs, 76)] l X) (hY : ∀ r ∈ sr, r ∈ X) (hS : SrcObj w0 sr cs s) (hok : s.ok) (x : Int) (hx : x ≠ 0) (h0 : -9223372036854775808 ≤ x) (h1 : x ≤ 9223372036854775807) :
    Calls Try.prog 32 #[.pointer (some ⟨g, 0, none⟩), .int .i64 x] w fun e w' => e = .returned (.tuple #[]) ∧ ThenS w0 g X sr (wrongZ s x) w' := by
  have hR : Own w0 w ((g, cs, 76) :: X) := hO.les hd
  clear hO hd
  have HX := Lib.hid (show cmpB .eql x 0 = some false by simp [cmpB, hx])
  by_cases he : s.e = 0
  · have HE := Lib.hid (show cmpB .neq s.e 0 = some false by simp [cmpB, he])
    have HW := Lib.hid (show wrongZ s x = ⟨[], x⟩ from if_pos he)
    clear he
    go_enter Try.func32, Try.ntmps32
    go_upto_region 0 with fail
    refine wp_region_tame hR [0, 1, 2, 3, 4, 5, 6] rfl ?_
    repeat (refine wpT_step rfl ?_; first
    | ((first | (with_reducible apply q_pl) | ((with_reducible apply q_gd); (first | (apply GdBy.gt; exact rfl; exact rfl) | (apply GdBy.gf; exact rfl; exact rfl) | (apply GdBy.t; exact rfl; exact rfl) | (apply GdBy.f; exact rfl; exact rfl)))); (with_reducible apply t_call Try.call33); (first | (apply EvC.gv; exact rfl; (with_reducible first | exact Imp.refl _ | (apply Imp.left; exact Imp.refl _) | (apply Imp.right; exact Imp.refl _) | (apply Imp.left; apply Imp.left; exact Imp.refl _))) | (apply EvC.now; exact rfl) | exact rfl | (with_reducible exact EvAll.nil) | (focus (repeat (first | apply EvAll.cons | exact EvAll.nil | (apply EvC.gv; exact rfl; (with_reducible first | exact Imp.refl _ | (apply Imp.left; exact Imp.refl _) | (apply Imp.right; exact Imp.refl _) | (apply Imp.left; apply Imp.left; exact Imp.refl _))) | (apply EvC.now; exact rfl))); done) | exact rfl | (focus (repeat (first | apply List.Mem.head | apply List.Mem.tail | apply List.mem_append_right)))); (intro hcc w hC; exact tame_below (errX_any hC Les.one hY hS) hC); (simp only [List.set_cons_succ, List.set_cons_zero]; exact rfl))
    | ((first | (with_reducible apply q_pl) | ((with_reducible apply q_gd); (first | (apply GdBy.gt; exact rfl; exact rfl) | (apply GdBy.gf; exact rfl; exact rfl) | (apply GdBy.t; exact rfl; exact rfl) | (apply GdBy.f; exact rfl; exact rfl)))); (with_reducible apply t_cmp); (first | (apply EvC.gv; exact rfl; (with_reducible first | exact Imp.refl _ | (apply Imp.left; exact Imp.refl _) | (apply Imp.right; exact Imp.refl _) | (apply Imp.left; apply Imp.left; exact Imp.refl _))) | (apply EvC.now; exact rfl) | exact rfl | (with_reducible exact EvAll.nil) | (focus (repeat (first | apply EvAll.cons | exact EvAll.nil | (apply EvC.gv; exact rfl; (with_reducible first | exact Imp.refl _ | (apply Imp.left; exact Imp.refl _) | (apply Imp.right; exact Imp.refl _) | (apply Imp.left; apply Imp.left; exact Imp.refl _))) | (apply EvC.now; exact rfl))); done) | exact rfl | (focus (repeat (first | apply List.Mem.head | apply List.Mem.tail | apply List.mem_append_right)))); (first | (apply EvC.gv; exact rfl; (with_reducible first | exact Imp.refl _ | (apply Imp.left; exact Imp.refl _) | (apply Imp.right; exact Imp.refl _) | (apply Imp.left; apply Imp.left; exact Imp.refl _))) | (apply EvC.now; exact rfl) | exact rfl | (with_reducible exact EvAll.nil) | (focus (repeat (first | apply EvAll.cons | exact EvAll.nil | (apply EvC.gv; exact rfl; (with_reducible first | exact Imp.refl _ | (apply Imp.left; exact Imp.refl _) | (apply Imp.right; exact Imp.refl _) | (apply Imp.left; apply Imp.left; exact Imp.refl _))) | (apply EvC.now; exact rfl))); done) | exact rfl | (focus (repeat (first | apply List.Mem.head | apply List.Mem.tail | apply List.mem_append_right)))); (first | exact HE.out | exact HX.out); (simp only [List.set_cons_succ, List.set_cons_zero]; exact rfl))
    | ((first | (with_reducible apply q_pl) | ((with_reducible apply q_gd); (first | (apply GdBy.gt; exact rfl; exact rfl) | (apply GdBy.gf; exact rfl; exact rfl) | (apply GdBy.t; exact rfl; exact rfl) | (apply GdBy.f; exact rfl; exact rfl)))); (first | ((with_reducible first | apply t_move | apply t_assign | apply t_and | apply t_or | apply t_cmp | apply t_not | apply t_addr (fSrcI _ (by decide)) | apply t_one tSlI | apply t_one tErrI) <;> (first | (apply EvC.gv; exact rfl; (with_reducible first | exact Imp.refl _ | (apply Imp.left; exact Imp.refl _) | (apply Imp.right; exact Imp.refl _) | (apply Imp.left; apply Imp.left; exact Imp.refl _))) | (apply EvC.now; exact rfl) | exact rfl | (with_reducible exact EvAll.nil) | (focus (repeat (first | apply EvAll.cons | exact EvAll.nil | (apply EvC.gv; exact rfl; (with_reducible first | exact Imp.refl _ | (apply Imp.left; exact Imp.refl _) | (apply Imp.right; exact Imp.refl _) | (apply Imp.left; apply Imp.left; exact Imp.refl _))) | (apply EvC.now; exact rfl))); done) | exact rfl | (focus (repeat (first | apply List.Mem.head | apply List.Mem.tail | apply List.mem_append_right)))))); (simp only [List.set_cons_succ, List.set_cons_zero]; exact rfl)))
    refine wpT_nil ?_
    clear hR; intro w hR
    obtain ⟨v, rfl, hv⟩ := hS.way
    go_wp2_with (first
    | ((with_reducible apply q_ls hR); exact rfl; (with_reducible apply t_nilck); (apply EvC.now; exact rfl); (simp only [List.set_cons_succ, List.set_cons_zero]; exact rfl); clear hR; intro w hR)
    | ((with_reducible apply wpList_put1 hR tSlI); exact rfl; exact rfl; exact rfl; (focus (repeat (first | apply List.Mem.head | apply List.Mem.tail | apply List.mem_append_right))); (exact put_rest _ _ _); (simp); exact rfl; (focus (repeat (first | apply Upd.head | apply Upd.tail))); clear hR; intro w hR)
    | ((with_reducible apply wpList_put1 hR tErrI); exact rfl; exact rfl; exact rfl; (focus (repeat (first | apply List.Mem.head | apply List.Mem.tail | apply List.mem_append_right))); (exact put_err _ _ _); (simp); exact rfl; (focus (repeat (first | apply Upd.head | apply Upd.tail))); clear hR; intro w hR)
    | ((with_reducible apply q_ls hR); exact rfl; ((with_reducible first | apply t_addr (fSrcI _ (by decide))) <;> (first | (apply EvC.gv; exact rfl; (with_reducible first | exact Imp.refl _ | (apply Imp.left; exact Imp.refl _) | (apply Imp.right; exact Imp.refl _) | (apply Imp.left; apply Imp.left; exact Imp.refl _))) | (apply EvC.now; exact rfl) | exact rfl | (with_reducible exact EvAll.nil) | (focus (repeat (first | apply EvAll.cons | exact EvAll.nil | (apply EvC.gv; exact rfl; (with_reducible first | exact Imp.refl _ | (apply Imp.left; exact Imp.refl _) | (apply Imp.right; exact Imp.refl _) | (apply Imp.left; apply Imp.left; exact Imp.refl _))) | (apply EvC.now; exact rfl))); done) | exact rfl | (focus (repeat (first | apply List.Mem.head | apply List.Mem.tail | apply List.mem_append_right))))); (simp only [List.set_cons_succ, List.set_cons_zero]; exact rfl); clear hR; intro w hR))
    go_end0
    refine ⟨rfl, _, hR, ?_⟩
    rw [HW.out]
    exact ⟨_, rfl, SrcR.noneI _⟩
  · have HE := Lib.hid (show cmpB .neq s.e 0 = some true by simp [cmpB, he])
    have HW := Lib.hid (show wrongZ s x = s from if_neg he)
    clear he
    go_enter Try.func32, Try.ntmps32
    go_upto_region 0 with fail
    refine wp_region_tame hR [0, 1, 2, 3, 4, 5, 6] rfl ?_
    repeat (refine wpT_step rfl ?_; first
    | ((first | (with_reducible apply q_pl) | ((with_reducible apply q_gd); (first | (apply GdBy.gt; exact rfl; exact rfl) | (apply GdBy.gf; exact rfl; exact rfl) | (apply GdBy.t; exact rfl; exact rfl) | (apply GdBy.f; exact rfl; exact rfl)))); (with_reducible apply t_call Try.call33); (first | (apply EvC.gv; exact rfl; (with_reducible first | exact Imp.refl _ | (apply Imp.left; exact Imp.refl _) | (apply Imp.right; exact Imp.refl _) | (apply Imp.left; apply Imp.left; exact Imp.refl _))) | (apply EvC.now; exact rfl) | exact rfl | (with_reducible exact EvAll.nil) | (focus (repeat (first | apply EvAll.cons | exact EvAll.nil | (apply EvC.gv; exact rfl; (with_reducible first | exact Imp.refl _ | (apply Imp.left; exact Imp.refl _) | (apply Imp.right; exact Imp.refl _) | (apply Imp.left; apply Imp.left; exact Imp.refl _))) | (apply EvC.now; exact rfl))); done) | exact rfl | (focus (repeat (first | apply List.Mem.head | apply List.Mem.tail | apply List.mem_append_right)))); (intro hcc w hC; exact tame_below (errX_any hC Les.one hY hS) hC); (simp only [List.set_cons_succ, List.set_cons_zero]; exact rfl))
    | ((first | (with_reducible apply q_pl) | ((with_reducible apply q_gd); (first | (apply GdBy.gt; exact rfl; exact rfl) | (apply GdBy.gf; exact rfl; exact rfl) | (apply GdBy.t; exact rfl; exact rfl) | (apply GdBy.f; exact rfl; exact rfl)))); (with_reducible apply t_cmp); (first | (apply EvC.gv; exact rfl; (with_reducible first | exact Imp.refl _ | (apply Imp.left; exact Imp.refl _) | (apply Imp.right; exact Imp.refl _) | (apply Imp.left; apply Imp.left; exact Imp.refl _))) | (apply EvC.now; exact rfl) | exact rfl | (with_reducible exact EvAll.nil) | (focus (repeat (first | apply EvAll.cons | exact EvAll.nil | (apply EvC.gv; exact rfl; (with_reducible first | exact Imp.refl _ | (apply Imp.left; exact Imp.refl _) | (apply Imp.right; exact Imp.refl _) | (apply Imp.left; apply Imp.left; exact Imp.refl _))) | (apply EvC.now; exact rfl))); done) | exact rfl | (focus (repeat (first | apply List.Mem.head | apply List.Mem.tail | apply List.mem_append_right)))); (first | (apply EvC.gv; exact rfl; (with_reducible first | exact Imp.refl _ | (apply Imp.left; exact Imp.refl _) | (apply Imp.right; exact Imp.refl _) | (apply Imp.left; apply Imp.left; exact Imp.refl _))) | (apply EvC.now; exact rfl) | exact rfl | (with_reducible exact EvAll.nil) | (focus (repeat (first | apply EvAll.cons | exact EvAll.nil | (apply EvC.gv; exact rfl; (with_reducible first | exact Imp.refl _ | (apply Imp.left; exact Imp.refl _) | (apply Imp.right; exact Imp.refl _) | (apply Imp.left; apply Imp.left; exact Imp.refl _))) | (apply EvC.now; exact rfl))); done) | exact rfl | (focus (repeat (first | apply List.Mem.head | apply List.Mem.tail | apply List.mem_append_right)))); (first | exact HE.out | exact HX.out); (simp only [List.set_cons_succ, List.set_cons_zero]; exact rfl))
    | ((first | (with_reducible apply q_pl) | ((with_reducible apply q_gd); (first | (apply GdBy.gt; exact rfl; exact rfl) | (apply GdBy.gf; exact rfl; exact rfl) | (apply GdBy.t; exact rfl; exact rfl) | (apply GdBy.f; exact rfl; exact rfl)))); (first | ((with_reducible first | apply t_move | apply t_assign | apply t_and | apply t_or | apply t_cmp | apply t_not | apply t_addr (fSrcI _ (by decide)) | apply t_one tSlI | apply t_one tErrI) <;> (first | (apply EvC.gv; exact rfl; (with_reducible first | exact Imp.refl _ | (apply Imp.left; exact Imp.refl _) | (apply Imp.right; exact Imp.refl _) | (apply Imp.left; apply Imp.left; exact Imp.refl _))) | (apply EvC.now; exact rfl) | exact rfl | (with_reducible exact EvAll.nil) | (focus (repeat (first | apply EvAll.cons | exact EvAll.nil | (apply EvC.gv; exact rfl; (with_reducible first | exact Imp.refl _ | (apply Imp.left; exact Imp.refl _) | (apply Imp.right; exact Imp.refl _) | (apply Imp.left; apply Imp.left; exact Imp.refl _))) | (apply EvC.now; exact rfl))); done) | exact rfl | (focus (repeat (first | apply List.Mem.head | apply List.Mem.tail | apply List.mem_append_right)))))); (simp only [List.set_cons_succ, List.set_cons_zero]; exact rfl)))
    refine wpT_nil ?_
    clear hR; intro w hR
    go_wp2_with fail
    (try simp only [Exit.inBlock, Exit.then])
    refine bodyPost_ret (results_none rfl _ _ _) rfl ?_
    rw [HW.out]
    exact ⟨rfl, cs, hR, hS⟩
theorem SrcR.cut3I {v : Value} {bs : List Int} (h : SrcR sr v bs) (n : Nat) (hn : n ≤ bs.length) : SrcR sr (cut3V v n) (bs.take n) := fun w0 w l hO hs => (h w0 w l hO hs).cut3 n hn
theorem SrcR.restI {v : Value} {bs : List Int} (h : SrcR sr v bs) (n : Nat) (hn : n ≤ bs.length) : SrcR sr (cutV v n bs.length) (bs.drop n) := fun w0 w l hO hs => by
  have := (h w0 w l hO hs).cut n bs.length hn (Nat.le_refl _)
  rwa [List.take_length] at this
theorem takeX_any (hO : Own w0 w l) (hd : Les [(g, cs, 76)] l X) (hY : ∀ r ∈ sr, r ∈ X) (hS : SrcObj w0 sr cs s) (hok : s.ok) (hl : s.b.length ≤ 1000000) (n : Int) (h0 : -9223372036854775808 ≤ n) (h1 : n ≤ 9223372036854775807) :
    Calls Try.prog 50 #[.pointer (some ⟨g, 0, none⟩), .int .i64 n] w fun e w' => ∃ v, e = .returned v ∧ ThenS w0 g X sr (takeZ s n).2 w' ∧ SrcR sr v (takeZ s n).1 := by
  have hR : Own w0 w ((g, cs, 76) :: X) := hO.les hd
  have hS2 := hS
  obtain ⟨v, rfl, hv⟩ := hS.way
  have hz := hv w0 w _ hR (fun r hr => .tail _ (hY r hr))
  clear hO hd hS
  go_enter Try.func50, Try.ntmps50
  go_upto_region 3 with fail
  refine wp_region_tame hR [0, 1, 2, 3, 4, 5, 6, 7, 8, 9, 10] rfl ?_
  repeat (refine wpT_step rfl ?_; first
    | ((first | (with_reducible apply q_pl) | ((with_reducible apply q_gd); (first | (apply GdBy.gt; exact rfl; exact rfl) | (apply GdBy.gf; exact rfl; exact rfl) | (apply GdBy.t; exact rfl; exact rfl) | (apply GdBy.f; exact rfl; exact rfl)))); (with_reducible apply t_nilck); (first | (apply EvC.gv; exact rfl; (with_reducible first | exact Imp.refl _ | (apply Imp.left; exact Imp.refl _) | (apply Imp.right; exact Imp.refl _) | (apply Imp.left; apply Imp.left; exact Imp.refl _))) | (apply EvC.now; exact rfl) | exact rfl | (with_reducible exact EvAll.nil) | (focus (repeat (first | apply EvAll.cons | exact EvAll.nil | (apply EvC.gv; exact rfl; (with_reducible first | exact Imp.refl _ | (apply Imp.left; exact Imp.refl _) | (apply Imp.right; exact Imp.refl _) | (apply Imp.left; apply Imp.left; exact Imp.refl _))) | (apply EvC.now; exact rfl))); done) | exact rfl | (focus (repeat (first | apply List.Mem.head | apply List.Mem.tail | apply List.mem_append_right)))); (simp only [List.set_cons_succ, List.set_cons_zero]; exact rfl))
    | ((first | (with_reducible apply q_pl) | ((with_reducible apply q_gd); (first | (apply GdBy.gt; exact rfl; exact rfl) | (apply GdBy.gf; exact rfl; exact rfl) | (apply GdBy.t; exact rfl; exact rfl) | (apply GdBy.f; exact rfl; exact rfl)))); (with_reducible apply t_lenW Try.underlying29); (first | (apply EvC.gv; exact rfl; (with_reducible first | exact Imp.refl _ | (apply Imp.left; exact Imp.refl _) | (apply Imp.right; exact Imp.refl _) | (apply Imp.left; apply Imp.left; exact Imp.refl _))) | (apply EvC.now; exact rfl) | exact rfl | (with_reducible exact EvAll.nil) | (focus (repeat (first | apply EvAll.cons | exact EvAll.nil | (apply EvC.gv; exact rfl; (with_reducible first | exact Imp.refl _ | (apply Imp.left; exact Imp.refl _) | (apply Imp.right; exact Imp.refl _) | (apply Imp.left; apply Imp.left; exact Imp.refl _))) | (apply EvC.now; exact rfl))); done) | exact rfl | (focus (repeat (first | apply List.Mem.head | apply List.Mem.tail | apply List.mem_append_right)))); exact hz; (simp only [List.set_cons_succ, List.set_cons_zero]; exact rfl))
    | ((first | (with_reducible apply q_pl) | ((with_reducible apply q_gd); (first | (apply GdBy.gt; exact rfl; exact rfl) | (apply GdBy.gf; exact rfl; exact rfl) | (apply GdBy.t; exact rfl; exact rfl) | (apply GdBy.f; exact rfl; exact rfl)))); (first | ((with_reducible first | apply t_move | apply t_assign | apply t_and | apply t_or | apply t_cmp | apply t_not | apply t_addr (fSrcI _ (by decide)) | apply t_one tSlI | apply t_one tErrI) <;> (first | (apply EvC.gv; exact rfl; (with_reducible first | exact Imp.refl _ | (apply Imp.left; exact Imp.refl _) | (apply Imp.right; exact Imp.refl _) | (apply Imp.left; apply Imp.left; exact Imp.refl _))) | (apply EvC.now; exact rfl) | exact rfl | (with_reducible exact EvAll.nil) | (focus (repeat (first | apply EvAll.cons | exact EvAll.nil | (apply EvC.gv; exact rfl; (with_reducible first | exact Imp.refl _ | (apply Imp.left; exact Imp.refl _) | (apply Imp.right; exact Imp.refl _) | (apply Imp.left; apply Imp.left; exact Imp.refl _))) | (apply EvC.now; exact rfl))); done) | exact rfl | (focus (repeat (first | apply List.Mem.head | apply List.Mem.tail | apply List.mem_append_right)))))); (simp only [List.set_cons_succ, List.set_cons_zero]; exact rfl)))
  refine wpT_nil ?_
  clear hR; intro w hR
  go_upto_if 18 with fail
  by_cases hb : n < 0 ∨ (s.b.length : Int) < n
  · have HT := Lib.hid (take_short hb)
    refine wp_cond_at (nm := true) rfl (by simp; omega) (fun _ => ?_) (fun h => absurd h (by decide))
    clear hb
    go_wp2_with (first
    | (go_at_call 32; refine (wrongX_any hR Les.one hY hS2 hok 2 (by decide) (by decide) (by decide)).mono ?_; rintro e w' ⟨rfl, hW⟩; clear hR))
    go_ret
    rw [HT.out]
    exact ⟨_, rfl, hW, SrcR.noneI _⟩
  · obtain ⟨m, rfl⟩ : ∃ m : Nat, n = m := Int.eq_ofNat_of_zero_le (by omega)
    have hm : m ≤ s.b.length := by omega
    have HT := Lib.hid (show takeZ s m = (s.b.take m, ⟨s.b.drop m, s.e⟩) by unfold takeZ; rw [if_pos (by omega), Int.toNat_natCast])
    refine wp_cond_at (nm := false) rfl (by simp; omega) (fun h => absurd h (by decide)) (fun _ => ?_)
    obtain ⟨a, nn, c, rfl⟩ := hz.shapeI
    clear hb hS2
    go_wp2_with (first
    | ((with_reducible apply q_ls hR); exact rfl; (with_reducible apply t_nilck); (apply EvC.now; exact rfl); (simp only [List.set_cons_succ, List.set_cons_zero]; exact rfl); clear hR; intro w hR)
    | ((with_reducible apply q_ls hR); exact rfl; (with_reducible apply t_cut3 tBytesN hz (h := m)); (apply EvC.now; exact rfl); (apply EvC.now; exact rfl); (apply EvC.now; exact rfl); exact rfl; exact rfl; exact hm; (simp only [List.set_cons_succ, List.set_cons_zero]; exact rfl); clear hR; intro w hR)
    | ((with_reducible apply q_ls hR); exact rfl; (with_reducible apply t_cutL tBytesN hz (l := m)); (apply EvC.now; exact rfl); (apply EvC.now; exact rfl); exact rfl; exact hm; (simp only [List.set_cons_succ, List.set_cons_zero]; exact rfl); clear hR; intro w hR)
    | ((with_reducible apply wpList_put1 hR tSlI); exact rfl; exact rfl; exact rfl; (focus (repeat (first | apply List.Mem.head | apply List.Mem.tail | apply List.mem_append_right))); (exact put_rest _ _ _); (simp); exact rfl; (focus (repeat (first | apply Upd.head | apply Upd.tail))); clear hR; intro w hR)
    | ((with_reducible apply q_ls hR); exact rfl; ((with_reducible first | apply t_addr (fSrcI _ (by decide)) | apply t_one tSlI | apply t_one tErrI) <;> (first | (apply EvC.gv; exact rfl; (with_reducible first | exact Imp.refl _ | (apply Imp.left; exact Imp.refl _) | (apply Imp.right; exact Imp.refl _) | (apply Imp.left; apply Imp.left; exact Imp.refl _))) | (apply EvC.now; exact rfl) | exact rfl | (with_reducible exact EvAll.nil) | (focus (repeat (first | apply EvAll.cons | exact EvAll.nil | (apply EvC.gv; exact rfl; (with_reducible first | exact Imp.refl _ | (apply Imp.left; exact Imp.refl _) | (apply Imp.right; exact Imp.refl _) | (apply Imp.left; apply Imp.left; exact Imp.refl _))) | (apply EvC.now; exact rfl))); done) | exact rfl | (focus (repeat (first | apply List.Mem.head | apply List.Mem.tail | apply List.mem_append_right))))); (simp only [List.set_cons_succ, List.set_cons_zero]; exact rfl); clear hR; intro w hR))
    go_ret
    rw [HT.out]
    exact ⟨_, rfl, ⟨_, hR, _, rfl, hv.restI m hm⟩, hv.cut3I m hm⟩
/-! ### Numbers -/
theorem take_len1 (s : SrcZ) (n : Int) : (takeZ s n).2.b.length ≤ s.b.length := by
  unfold takeZ
  split
  · simp
  · unfold wrongZ
    split <;> simp
theorem take_len2 (s : SrcZ) (k : Nat) : (takeZ s k).1.length ≤ k := by
  unfold takeZ
  split
  · simp; omega
  · simp
set_option maxHeartbeats 1000000 in
theorem numX_any (hO : Own w0 w l) (hd : Les [(g, cs, 76)] l X) (hY : ∀ r ∈ sr, r ∈ X) (hS : SrcObj w0 sr cs s) (hok : s.ok) (hl : s.b.length ≤ 1000000) (m : Nat) (hm : m ≤ 4) :
    Calls Try.prog 41 #[.pointer (some ⟨g, 0, none⟩), .int .i64 m] w fun e w' => e = .returned (.int .u32 (numZ s m).1) ∧ ThenS w0 g X sr (numZ s m).2 w' := by
  have hR : Own w0 w ((g, cs, 76) :: X) := hO.les hd
  clear hO hd
  have hbok := (take_ok hok m).1
  have hbl := take_len2 s m
  show Calls _ _ _ _ fun e w' => e = .returned (.int .u32 (leZ (takeZ s m).1)) ∧ ThenS w0 g X sr (takeZ s m).2 w'
  obtain ⟨bs, hbs⟩ : ∃ bs, (takeZ s m).1 = bs := ⟨_, rfl⟩
  obtain ⟨s2, hs2⟩ : ∃ s2, (takeZ s m).2 = s2 := ⟨_, rfl⟩
  rw [hbs, hs2]
  rw [hbs] at hbok hbl
  have HB := Lib.hid hbs
  have HD := Lib.hid hs2
  clear hbs hs2
  go_enter Try.func41, Try.ntmps41
  go_wp2_with fail
  refine (takeX_any hR Les.one hY hS hok hl m (by omega) (by omega)).mono ?_
  rintro e w' ⟨v, rfl, hT, hv⟩
  rw [HD.out] at hT
  rw [HB.out] at hv
  obtain ⟨cs2, hR2, hS2⟩ := hT
  clear hR hS HB HD
  have hR := hR2
  clear hR2
  have hsub : ∀ r ∈ sr, r ∈ (g, cs2, 76) :: X := fun r hr => .tail _ (hY r hr)
  have hz := hv _ _ _ hR hsub
  have HS := Lib.hid hS2
  clear hS2
  go_wp2_with (first
    | ((with_reducible apply q_ls hR); exact rfl; (with_reducible apply t_lenW Try.underlying29); (apply EvC.now; exact rfl); exact hz; (simp only [List.set_cons_succ, List.set_cons_zero]; exact rfl); clear hR; intro w hR))
  go_loopw [5, 12] (fun n i wr => ∃ k : Nat, i = .int .i64 k ∧ k ≤ bs.length ∧ n = .int .u32 (leZ (bs.take k)) ∧ Own w0 wr ((g, cs2, 76) :: X)) (fun _ i _ => bs.length - (intOf i).toNat)
  case atStart => exact ⟨0, rfl, Nat.zero_le _, by simp [leZ], hR⟩
  case round =>
    clear hR
    obtain ⟨k, rfl, hk, rfl, hR⟩ := hrel
    by_cases hkl : k < bs.length
    · obtain ⟨n, hn⟩ : ∃ n, bs[k]? = some n := ⟨_, List.getElem?_eq_getElem hkl⟩
      have hbn := hbok.at hn
      have hmore := le_more hn
      have hlt := le_lt (hbok.take k)
      rw [List.length_take, show min k bs.length = k by omega] at hlt
      obtain ⟨a, hcap, rfl, _⟩ := hz.el' hn
      have HC : Hid (∀ w, Own w0 w ((g, cs2, 76) :: X) → w.cell? (a.add (k * 1)) = some (.int .u8 n)) := Lib.hid (fun w hC => by rw [Nat.mul_one]; exact (hv _ w _ hC hsub).elI hn)
      generalize leZ (bs.take k) = x at *
      have HM := Lib.hid (show IntKind.i64.wrap (8 * (k : Int)) = ((8 * k : Nat) : Int) by rw [IntKind.wrap_i64]; omega)
      have hp : (2 : Int) ^ (8 * k) ≤ 16777216 := by
        have : (2 : Nat) ^ (8 * k) ≤ 16777216 := Nat.le_trans (Nat.pow_le_pow_right (by decide) (show 8 * k ≤ 24 by omega)) (by decide)
        have e : (2 : Int) ^ (8 * k) = ((2 ^ (8 * k) : Nat) : Int) := (Int.natCast_pow 2 (8 * k)).symm
        rw [e]
        exact Int.ofNat_le.2 this
      have hp0 : (0 : Int) < 2 ^ (8 * k) := Int.pow_pos (by decide)
      have hq : 0 ≤ n * 2 ^ (8 * k) ∧ n * 2 ^ (8 * k) ≤ 4278190080 := by
        refine ⟨Int.mul_nonneg hbn.1 (by omega), ?_⟩
        have := Int.mul_le_mul hbn.2 hp (by omega) (by decide)
        omega
      have HH := Lib.hid (show IntKind.u32.wrap (n * 2 ^ (8 * k)) = n * 2 ^ (8 * k) by rw [IntKind.wrap_u32]; omega)
      have HO := Lib.hid (or_at hlt.1 hlt.2 hbn (show k ≤ 3 by omega))
      have HN := Lib.hid (show IntKind.u32.wrap n = n by rw [IntKind.wrap_u32]; omega)
      have HV := Lib.hid hmore
      have h8 : 8 * k ≤ 32 := by omega
      have hkl' : (k : Int) < (bs.length : Int) := by omega
      clear hmore hn hq hp hp0 hlt hz hv hok
      go_wp2_with (first
    | ((with_reducible apply q_ls hR); exact rfl; (with_reducible apply t_six Try.underlying29 iByteI); (apply EvC.now; exact rfl); (apply EvC.now; exact rfl); (constructor <;> omega); (simp only [List.set_cons_succ, List.set_cons_zero]; exact rfl); clear hR; intro w hR)
    | ((with_reducible apply q_ls hR); exact rfl; (with_reducible apply t_cellW tByteI); (apply EvC.now; exact rfl); exact HC.out; (simp only [List.set_cons_succ, List.set_cons_zero]; exact rfl); clear hR; intro w hR)
    | ((with_reducible apply q_ls hR); exact rfl; (with_reducible apply t_conv Try.underlying5 Try.underlying77); (apply EvC.now; exact rfl); exact HN.out; (simp only [List.set_cons_succ, List.set_cons_zero]; exact rfl); clear hR; intro w hR)
    | ((with_reducible apply q_ls hR); exact rfl; (with_reducible apply t_numE (op := .mul)); (apply EvC.now; exact rfl); (apply EvC.now; exact rfl); exact rfl; exact HM.out; (simp only [List.set_cons_succ, List.set_cons_zero]; exact rfl); clear hR; intro w hR)
    | ((with_reducible apply q_ls hR); exact rfl; (with_reducible apply t_shlE (k := 8 * k)); (apply EvC.now; exact rfl); (apply EvC.now; exact rfl); exact rfl; exact h8; exact HH.out; (simp only [List.set_cons_succ, List.set_cons_zero]; exact rfl); clear hR; intro w hR)
    | ((with_reducible apply q_ls hR); exact rfl; (with_reducible apply t_numE (op := .or)); (apply EvC.now; exact rfl); (apply EvC.now; exact rfl); exact rfl; exact HO.out; (simp only [List.set_cons_succ, List.set_cons_zero]; exact rfl); clear hR; intro w hR))
      go_round
      case rel => exact ⟨k + 1, rfl, by omega, by rw [HV.out], hR⟩
      case measure => first | (simp [intOf]; done) | (simp [intOf]; omega)
    · have hke : bs.take k = bs := List.take_of_length_le (by omega)
      rw [hke]
      go_wp2_with fail
      go_ret
      exact ⟨rfl, _, hR, HS.out⟩
theorem num_lt (hok : s.ok) (m : Nat) : 0 ≤ (numZ s m).1 ∧ (numZ s m).1 < 256 ^ m := by
  have h := le_lt (take_ok hok m).1
  have h2 := Nat.pow_le_pow_right (show 0 < 256 by decide) (take_len2 s m)
  have e : ∀ k : Nat, (256 : Int) ^ k = ((256 ^ k : Nat) : Int) := fun k => (Int.natCast_pow 256 k).symm
  refine ⟨h.1, Int.lt_of_lt_of_le h.2 ?_⟩
  rw [e, e]
  exact Int.ofNat_le.2 h2
theorem byte_bd (hok : s.ok) : 0 ≤ (numZ s 1).1 ∧ (numZ s 1).1 ≤ 255 := by have := num_lt hok 1; omega
theorem byteX_any (hO : Own w0 w l) (hd : Les [(g, cs, 76)] l X) (hY : ∀ r ∈ sr, r ∈ X) (hS : SrcObj w0 sr cs s) (hok : s.ok) (hl : s.b.length ≤ 1000000) :
    Calls Try.prog 29 #[.pointer (some ⟨g, 0, none⟩)] w fun e w' => e = .returned (.int .u8 (numZ s 1).1) ∧ ThenS w0 g X sr (numZ s 1).2 w' := by
  have hb := byte_bd hok
  have HC := Lib.hid (show IntKind.u8.wrap (numZ s 1).1 = (numZ s 1).1 by rw [IntKind.wrap_u8]; omega)
  go_enter Try.func29, Try.ntmps29
  go_wp2_with (first
    | (go_at_call 41; refine (numX_any hO hd hY hS hok hl 1 (by decide)).mono ?_; rintro e w' ⟨rfl, hT⟩))
  go_ret
  exact ⟨by first | rfl | exact ret_int HC.out, hT⟩
theorem wordX_any (hO : Own w0 w l) (hd : Les [(g, cs, 76)] l X) (hY : ∀ r ∈ sr, r ∈ X) (hS : SrcObj w0 sr cs s) (hok : s.ok) (hl : s.b.length ≤ 1000000) :
    Calls Try.prog 45 #[.pointer (some ⟨g, 0, none⟩)] w fun e w' => e = .returned (.int .u16 (numZ s 2).1) ∧ ThenS w0 g X sr (numZ s 2).2 w' := by
  have hb := num_lt hok 2
  have HC := Lib.hid (show IntKind.u16.wrap (numZ s 2).1 = (numZ s 2).1 by rw [IntKind.wrap_u16]; omega)
  clear hb
  go_enter Try.func45, Try.ntmps45
  go_wp2_with (first
    | (go_at_call 41; refine (numX_any hO hd hY hS hok hl 2 (by decide)).mono ?_; rintro e w' ⟨rfl, hT⟩))
  go_ret
  exact ⟨by first | rfl | exact ret_int HC.out, hT⟩
/-! ### An index, a length -/
theorem idx_ways (hok : s.ok) (h : ¬ (numZ s 1).1 < 128) : ∃ a r, s = ⟨a :: r, 0⟩ := by
  obtain ⟨b, e⟩ := s
  cases b with
  | nil => exact absurd (by rw [num_none (by decide)]; show (0 : Int) < 128; decide) h
  | cons a r =>
    by_cases he : e = 0
    · subst he; exact ⟨a, r, rfl⟩
    · exact nomatch hok.2 he
theorem andNotI {a : Int} (h0 : 128 ≤ a) (h1 : a ≤ 255) : bits .andNot .u8 a 128 = a - 128 := by
  obtain ⟨k, rfl⟩ := Int.eq_ofNat_of_zero_le (show 0 ≤ a by omega)
  have e := u8_andNot_nat k 128 (by omega) (by omega)
  have e2 : k &&& (255 - 128) = k % 2 ^ 7 := Nat.and_two_pow_sub_one_eq_mod k 7
  rw [e2] at e
  refine e.trans ?_
  omega
set_option maxHeartbeats 1000000 in
theorem indexX_any (hO : Own w0 w l) (hd : Les [(g, cs, 76)] l X) (hY : ∀ r ∈ sr, r ∈ X) (hS : SrcObj w0 sr cs s) (hok : s.ok) (hl : s.b.length ≤ 1000000) :
    Calls Try.prog 51 #[.pointer (some ⟨g, 0, none⟩)] w fun e w' => e = .returned (.int .i64 (indexZ s).1) ∧ ThenS w0 g X sr (indexZ s).2 w' := by
  have hR : Own w0 w ((g, cs, 76) :: X) := hO.les hd
  clear hO hd
  have hb := byte_bd hok
  by_cases hs : (numZ s 1).1 < 128
  · have HI := Lib.hid (show indexZ s = numZ s 1 from if_pos hs)
    have HC := Lib.hid (show IntKind.i64.wrap (numZ s 1).1 = (numZ s 1).1 from IntWalk.i64_in _ (by omega))
    have HL := Lib.hid (show cmpB .lss (numZ s 1).1 128 = some true from congrArg some (decide_eq_true hs))
    clear hs
    go_enter Try.func51, Try.ntmps51
    go_wp2_with fail
    refine (byteX_any hR Les.one hY hS hok hl).mono ?_
    rintro e w' ⟨rfl, cs2, hR2, hS2⟩
    clear hR hS
    have hR := hR2
    clear hR2
    go_wp2_with (first
    | ((with_reducible apply q_ls hR); exact rfl; (with_reducible apply t_cmp); (apply EvC.now; exact rfl); (apply EvC.now; exact rfl); exact HL.out; (simp only [List.set_cons_succ, List.set_cons_zero]; exact rfl); clear hR; intro w hR)
    | ((with_reducible apply q_ls hR); exact rfl; (with_reducible apply t_conv Try.underlying5 Try.underlying3); (apply EvC.now; exact rfl); exact HC.out; (simp only [List.set_cons_succ, List.set_cons_zero]; exact rfl); clear hR; intro w hR))
    go_ret
    rw [HI.out]
    exact ⟨rfl, cs2, hR, hS2⟩
  · obtain ⟨a, r, rfl⟩ := idx_ways hok hs
    have hn1 : numZ ⟨a :: r, 0⟩ 1 = (a, ⟨r, 0⟩) := num_one
    rw [hn1] at hb hs
    dsimp only at hb hs
    have hok2 : SrcZ.ok ⟨r, 0⟩ := ⟨fun m hm => hok.1 m (.tail _ hm), fun h => absurd rfl h⟩
    have hl2 : (SrcZ.mk r 0).b.length ≤ 1000000 := Nat.le_trans (Nat.le_succ _) hl
    have HL := Lib.hid (show cmpB .lss a 128 = some false from congrArg some (decide_eq_false hs))
    have HN := Lib.hid hn1
    clear hn1
    cases r with
    | nil =>
      have HI := Lib.hid (show indexZ ⟨[a], 0⟩ = (0, ⟨[], 2⟩) by unfold indexZ; rw [HN.out]; dsimp only; rw [if_neg hs, take_short (.inr (by simp))]; rfl)
      have HN2 := Lib.hid (show numZ ⟨[], 0⟩ 1 = (0, ⟨[], 2⟩) from num_none (by decide))
      clear hs
      go_enter Try.func51, Try.ntmps51
      go_wp2_with fail
      refine (byteX_any hR Les.one hY hS hok hl).mono ?_
      rw [HN.out]
      rintro e w' ⟨rfl, cs2, hR2, hS2⟩
      clear hR hS
      have hR := hR2
      clear hR2
      go_wp2_with (first
    | ((with_reducible apply q_ls hR); exact rfl; (with_reducible apply t_cmp); (apply EvC.now; exact rfl); (apply EvC.now; exact rfl); exact HL.out; (simp only [List.set_cons_succ, List.set_cons_zero]; exact rfl); clear hR; intro w hR)
    | (go_at_call 29; refine (byteX_any hR Les.one hY hS2 hok2 hl2).mono ?_; rw [HN2.out]; rintro e w' ⟨rfl, cs3, hR2, hS3⟩; clear hR; have hR := hR2; clear hR2)
    | (go_at_call 33; refine (errX_any hR Les.one hY hS3).mono ?_; rintro e w' ⟨rfl, hb⟩; replace hR := hR.grow hb; clear hb))
      go_ret
      rw [HI.out]
      exact ⟨rfl, cs3, hR, hS3⟩
    | cons n r =>
      have hbn := hok2.1 n (.head _)
      have HI := Lib.hid (show indexZ ⟨a :: n :: r, 0⟩ = ((a - 128) * 256 + n, ⟨r, 0⟩) by unfold indexZ; rw [HN.out]; dsimp only; rw [if_neg hs, show takeZ ⟨n :: r, 0⟩ 1 = ([n], ⟨r, 0⟩) from take_in (a := [n]) rfl])
      have HN2 := Lib.hid (show numZ ⟨n :: r, 0⟩ 1 = (n, ⟨r, 0⟩) from num_one)
      have HA : Hid (∀ w, Calls Try.prog 55 #[.int .u8 n, .int .u8 (bits .andNot .u8 a 128)] w fun e w' => e = .returned (.int .u16 ((a - 128) * 256 + n)) ∧ w = w') :=
        Lib.hid (fun w => by rw [andNotI (show 128 ≤ a by omega) hb.2]; exact wordI_any _ _ _ hbn.1 hbn.2 (by omega) (by omega))
      have HC := Lib.hid (show IntKind.i64.wrap ((a - 128) * 256 + n) = (a - 128) * 256 + n from IntWalk.i64_in _ (by omega))
      have ha : 128 ≤ a := by omega
      clear hs
      go_enter Try.func51, Try.ntmps51
      go_wp2_with fail
      refine (byteX_any hR Les.one hY hS hok hl).mono ?_
      rw [HN.out]
      rintro e w' ⟨rfl, cs2, hR2, hS2⟩
      clear hR hS
      have hR := hR2
      clear hR2
      go_wp2_with (first
    | ((with_reducible apply q_ls hR); exact rfl; (with_reducible apply t_cmp); (apply EvC.now; exact rfl); (apply EvC.now; exact rfl); exact HL.out; (simp only [List.set_cons_succ, List.set_cons_zero]; exact rfl); clear hR; intro w hR)
    | (go_at_call 29; refine (byteX_any hR Les.one hY hS2 hok2 hl2).mono ?_; rw [HN2.out]; rintro e w' ⟨rfl, cs3, hR2, hS3⟩; clear hR; have hR := hR2; clear hR2)
    | (go_at_call 33; refine (errX_any hR Les.one hY hS3).mono ?_; rintro e w' ⟨rfl, hb⟩; replace hR := hR.grow hb; clear hb)
    | (go_at_call 55; refine (HA.out _).mono ?_; rintro e w' ⟨rfl, rfl⟩)
    | ((with_reducible apply q_ls hR); exact rfl; (with_reducible apply t_conv Try.underlying22 Try.underlying3); (apply EvC.now; exact rfl); exact HC.out; (simp only [List.set_cons_succ, List.set_cons_zero]; exact rfl); clear hR; intro w hR))
      go_ret
      rw [HI.out]
      exact ⟨rfl, cs3, hR, hS3⟩
end
/-! ### Of none -/
theorem errX_nil (w : World) : Calls Try.prog 33 #[.pointer none] w fun e w' => e = .returned (.int .i64 1) ∧ Below w.heap.size w w' := by
  go_enter Try.func33, Try.ntmps33
  go_wp2
  (try simp only [Exit.inBlock, Exit.then])
  exact bodyPost_ret (results_tmp rfl _ _ _) rfl ⟨rfl, Below.refl _ _⟩
theorem leftX_nil (w : World) : Calls Try.prog 28 #[.pointer none] w fun e w' => e = .returned (.int .i64 0) ∧ Below w.heap.size w w' := by
  go_enter Try.func28, Try.ntmps28
  go_wp2
  (try simp only [Exit.inBlock, Exit.then])
  exact bodyPost_ret (results_tmp rfl _ _ _) rfl ⟨rfl, Below.refl _ _⟩
theorem takeX_nil (n : Int) (w : World) : Calls Try.prog 50 #[.pointer none, .int .i64 n] w fun e w' => ∃ v, e = .returned v ∧ Below w.heap.size w w' ∧ SrcW w' v [] := by
  go_enter Try.func50, Try.ntmps50
  go_wp2
  (try simp only [Exit.inBlock, Exit.then])
  exact bodyPost_ret (results_tmp rfl _ _ _) rfl ⟨_, rfl, Below.refl _ _, .none _⟩
theorem wrongX_nil (x : Int) (w0 : World) : Calls Try.prog 32 #[.pointer none, .int .i64 x] w0 fun e w' => e = .returned (.tuple #[]) ∧ Below w0.heap.size w0 w' := by
  have hR := Own.start w0
  have HE := Lib.hid (show cmpB .neq (1 : Int) 0 = some true from rfl)
  go_enter Try.func32, Try.ntmps32
  go_upto_region 0 with fail
  refine wp_region_tame hR [0, 1, 2, 3, 4, 5, 6] rfl ?_
  repeat (refine wpT_step rfl ?_; first
    | ((first | (with_reducible apply q_pl) | ((with_reducible apply q_gd); (first | (apply GdBy.gt; exact rfl; exact rfl) | (apply GdBy.gf; exact rfl; exact rfl) | (apply GdBy.t; exact rfl; exact rfl) | (apply GdBy.f; exact rfl; exact rfl)))); (with_reducible apply t_call Try.call33); (first | (apply EvC.gv; exact rfl; (with_reducible first | exact Imp.refl _ | (apply Imp.left; exact Imp.refl _) | (apply Imp.right; exact Imp.refl _) | (apply Imp.left; apply Imp.left; exact Imp.refl _))) | (apply EvC.now; exact rfl) | exact rfl | (with_reducible exact EvAll.nil) | (focus (repeat (first | apply EvAll.cons | exact EvAll.nil | (apply EvC.gv; exact rfl; (with_reducible first | exact Imp.refl _ | (apply Imp.left; exact Imp.refl _) | (apply Imp.right; exact Imp.refl _) | (apply Imp.left; apply Imp.left; exact Imp.refl _))) | (apply EvC.now; exact rfl))); done) | exact rfl | (focus (repeat (first | apply List.Mem.head | apply List.Mem.tail | apply List.mem_append_right)))); (intro hcc w hC; exact tame_below (errX_nil _) hC); (simp only [List.set_cons_succ, List.set_cons_zero]; exact rfl))
    | ((first | (with_reducible apply q_pl) | ((with_reducible apply q_gd); (first | (apply GdBy.gt; exact rfl; exact rfl) | (apply GdBy.gf; exact rfl; exact rfl) | (apply GdBy.t; exact rfl; exact rfl) | (apply GdBy.f; exact rfl; exact rfl)))); (with_reducible apply t_cmp); (first | (apply EvC.gv; exact rfl; (with_reducible first | exact Imp.refl _ | (apply Imp.left; exact Imp.refl _) | (apply Imp.right; exact Imp.refl _) | (apply Imp.left; apply Imp.left; exact Imp.refl _))) | (apply EvC.now; exact rfl) | exact rfl | (with_reducible exact EvAll.nil) | (focus (repeat (first | apply EvAll.cons | exact EvAll.nil | (apply EvC.gv; exact rfl; (with_reducible first | exact Imp.refl _ | (apply Imp.left; exact Imp.refl _) | (apply Imp.right; exact Imp.refl _) | (apply Imp.left; apply Imp.left; exact Imp.refl _))) | (apply EvC.now; exact rfl))); done) | exact rfl | (focus (repeat (first | apply List.Mem.head | apply List.Mem.tail | apply List.mem_append_right)))); (first | (apply EvC.gv; exact rfl; (with_reducible first | exact Imp.refl _ | (apply Imp.left; exact Imp.refl _) | (apply Imp.right; exact Imp.refl _) | (apply Imp.left; apply Imp.left; exact Imp.refl _))) | (apply EvC.now; exact rfl) | exact rfl | (with_reducible exact EvAll.nil) | (focus (repeat (first | apply EvAll.cons | exact EvAll.nil | (apply EvC.gv; exact rfl; (with_reducible first | exact Imp.refl _ | (apply Imp.left; exact Imp.refl _) | (apply Imp.right; exact Imp.refl _) | (apply Imp.left; apply Imp.left; exact Imp.refl _))) | (apply EvC.now; exact rfl))); done) | exact rfl | (focus (repeat (first | apply List.Mem.head | apply List.Mem.tail | apply List.mem_append_right)))); exact HE.out; (simp only [List.set_cons_succ, List.set_cons_zero]; exact rfl))
    | ((first | (with_reducible apply q_pl) | ((with_reducible apply q_gd); (first | (apply GdBy.gt; exact rfl; exact rfl) | (apply GdBy.gf; exact rfl; exact rfl) | (apply GdBy.t; exact rfl; exact rfl) | (apply GdBy.f; exact rfl; exact rfl)))); (first | ((with_reducible first | apply t_move | apply t_assign | apply t_and | apply t_or | apply t_cmp | apply t_not | apply t_addr (fSrcI _ (by decide)) | apply t_one tSlI | apply t_one tErrI) <;> (first | (apply EvC.gv; exact rfl; (with_reducible first | exact Imp.refl _ | (apply Imp.left; exact Imp.refl _) | (apply Imp.right; exact Imp.refl _) | (apply Imp.left; apply Imp.left; exact Imp.refl _))) | (apply EvC.now; exact rfl) | exact rfl | (with_reducible exact EvAll.nil) | (focus (repeat (first | apply EvAll.cons | exact EvAll.nil | (apply EvC.gv; exact rfl; (with_reducible first | exact Imp.refl _ | (apply Imp.left; exact Imp.refl _) | (apply Imp.right; exact Imp.refl _) | (apply Imp.left; apply Imp.left; exact Imp.refl _))) | (apply EvC.now; exact rfl))); done) | exact rfl | (focus (repeat (first | apply List.Mem.head | apply List.Mem.tail | apply List.mem_append_right)))))); (simp only [List.set_cons_succ, List.set_cons_zero]; exact rfl)))
  refine wpT_nil ?_
  clear hR; intro w hR
  go_upto_if 10 with fail
  refine wp_cond_at (nm := true) rfl (by simp) (fun _ => ?_) (fun h => absurd h (by decide))
  go_wp2_with fail
  (try simp only [Exit.inBlock, Exit.then])
  exact bodyPost_ret (results_none rfl _ _ _) rfl ⟨rfl, hR.below⟩
theorem numX_nil (n : Int) (w0 : World) : Calls Try.prog 41 #[.pointer none, .int .i64 n] w0 fun e w' => e = .returned (.int .u32 0) ∧ Below w0.heap.size w0 w' := by
  have hR := Own.start w0
  go_enter Try.func41, Try.ntmps41
  go_wp2_with (first
    | (go_at_call 50; refine (takeX_nil _ _).mono ?_; rintro e w' ⟨v, rfl, hb, hz⟩; replace hR := hR.grow hb; clear hb)
    | ((with_reducible apply q_ls hR); exact rfl; (with_reducible apply t_lenW Try.underlying29); (apply EvC.now; exact rfl); exact hz; (simp only [List.set_cons_succ, List.set_cons_zero]; exact rfl); clear hR; intro w hR))
  go_loopw [5, 12] (fun n i wr => i = .int .i64 0 ∧ n = .int .u32 0 ∧ Own w0 wr []) (fun _ i _ => 0)
  case atStart => exact ⟨rfl, rfl, hR⟩
  case round =>
    clear hR
    obtain ⟨rfl, rfl, hR⟩ := hrel
    go_wp2_with fail
    go_ret
    exact ⟨rfl, hR.below⟩
theorem byteX_nil (w0 : World) : Calls Try.prog 29 #[.pointer none] w0 fun e w' => e = .returned (.int .u8 0) ∧ Below w0.heap.size w0 w' := by
  have hR := Own.start w0
  go_enter Try.func29, Try.ntmps29
  go_wp2_with (first
    | (go_at_call 41; refine (numX_nil _ _).mono ?_; rintro e w' ⟨rfl, hb⟩; replace hR := hR.grow hb; clear hb))
  go_ret
  exact ⟨rfl, hR.below⟩
end Go.Proofs.Ytimciiaajlfkoaa
