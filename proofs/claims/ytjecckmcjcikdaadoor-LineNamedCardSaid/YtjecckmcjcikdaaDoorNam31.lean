









/- The thirteen words of hansomlaw31's LineNamed, and what lines with them say. No statement of the seat is proved here. -/
import Derived.Test.YtjecckmcjcikdaaDoorLaw31
namespace Go.Proofs.YtjecckmcjcikdaaDoor
open Go.ChangeShapes Go.WideShapes Go.ChangeAt Go.RowKit
set_option linter.unusedVariables false
set_option linter.unusedSimpArgs false
set_option maxRecDepth 100000

theorem strs_row {w0 w : World} {l : List RowT} (hR : Own w0 w l) {g : Nat} {c : Array Value} {e : TypeId} {ts : List (List Int)} {n : Nat} (hm : (g, c, e) ∈ l) (hn : ts.length = n) (hc : c.toList = ts.flatMap cellT) (hok : ∀ t ∈ ts, bytesOk t) (hl : n ≤ 1000) : Strs w (.slice (some ⟨g, 0, none⟩) n n) ts := by
  subst hn
  have hlen : (ts.flatMap cellT).length = ts.length := by rw [flat_len cellT_len, Nat.mul_one]
  have hsz : c.size = ts.length := by rw [← hlen, ← hc]; simp
  have hS : Sl e 1 [(g, c, e)] (.slice (some ⟨g, 0, none⟩) ts.length ts.length) ts.length (ts.flatMap cellT) :=
    ⟨by rw [hlen, Nat.mul_one], .inr ⟨g, ts.length, c, rfl, rfl, Nat.le_refl _, by simp [maxLen]; omega, by rw [hsz, Nat.mul_one], by rw [hc, Nat.mul_one]; exact List.take_of_length_le (by omega)⟩⟩
  exact hS.strs hR (fun x hx => by rw [List.mem_singleton.1 hx]; exact hm) hok
theorem t_eqbK {P : Program} {C : World → Prop} {tp : TypeId} {pos : String} {af : Array Edge} {gd : Option (Nat × Bool)} {ls : List Value} {ds : List Deferred} {c : Bool} {dd : Option Tmp} {ty ty' : TypeId} {x y : Operand} {a b r : Bool} (hu : P.underlying ty = some .bool) (hx : EvC ls c x (.bool a)) (hy : EvC ls c y (.bool b)) (hd : (a == b) = r) : TIf P C c ⟨dd, .binOp .eql ty x y ty', tp, pos, af, gd⟩ ⟨ls.toArray, ds⟩ (.bool r) := hd ▸ t_eqb hu hx hy
def wMOV : List Int := [77, 79, 86]
def wORG : List Int := [79, 82, 71]
def wNAME : List Int := [78, 65, 77, 69]
def wNAMEb : List Int := [78, 65, 77, 69, 32]
def wNAMEc : List Int := [78, 65, 77, 69, 58, 32]
def w5 : List Int := [32, 53]
def wNIL : List Int := []
theorem lwMOV : (⟨#[77, 79, 86]⟩ : ByteArray) = strOfNums wMOV := rfl
theorem okwMOV : bytesOk wMOV := ascii.ok (ascii_of rfl)
theorem lwORG : (⟨#[79, 82, 71]⟩ : ByteArray) = strOfNums wORG := rfl
theorem okwORG : bytesOk wORG := ascii.ok (ascii_of rfl)
theorem lwNAME : (⟨#[78, 65, 77, 69]⟩ : ByteArray) = strOfNums wNAME := rfl
theorem okwNAME : bytesOk wNAME := ascii.ok (ascii_of rfl)
theorem lwNAMEb : (⟨#[78, 65, 77, 69, 32]⟩ : ByteArray) = strOfNums wNAMEb := rfl
theorem okwNAMEb : bytesOk wNAMEb := ascii.ok (ascii_of rfl)
theorem lwNAMEc : (⟨#[78, 65, 77, 69, 58, 32]⟩ : ByteArray) = strOfNums wNAMEc := rfl
theorem okwNAMEc : bytesOk wNAMEc := ascii.ok (ascii_of rfl)
theorem lw5 : (⟨#[32, 53]⟩ : ByteArray) = strOfNums w5 := rfl
theorem okw5 : bytesOk w5 := ascii.ok (ascii_of rfl)
theorem lwNIL : (⟨#[]⟩ : ByteArray) = strOfNums wNIL := rfl
theorem okwNIL : bytesOk wNIL := ascii.ok (ascii_of rfl)
def tab31 : List (List Int) := [sSEGMENT, sENDS, sGROUP, sEQU, sIS, sPROC, sENDP, sDB, sDW, sDD, sDQ, wMOV, wORG]
theorem tab31_ok : ∀ t ∈ tab31, bytesOk t := by
  intro t ht
  simp only [tab31, List.mem_cons, List.not_mem_nil, or_false] at ht
  rcases ht with rfl | rfl | rfl | rfl | rfl | rfl | rfl | rfl | rfl | rfl | rfl | rfl | rfl <;> exact ascii.ok (ascii_of rfl)
def tabC31 : Array Value := (tab31.flatMap cellT).toArray
theorem bStr13 (a b c d e f g h i j k l m : ByteArray) : BuiltS Tryd.prog 23 13 [(0, .string a), (1, .string b), (2, .string c), (3, .string d), (4, .string e), (5, .string f), (6, .string g), (7, .string h), (8, .string i), (9, .string j), (10, .string k), (11, .string l), (12, .string m)] 9 #[.string a, .string b, .string c, .string d, .string e, .string f, .string g, .string h, .string i, .string j, .string k, .string l, .string m] := ⟨fun w => by simp [go_sem]⟩
def nmS (c : Bool) (w : List Int) : List Int := ((if c then wNAMEc else wNAMEb) ++ w) ++ w5
def nmOk (c : Bool) (k : Nat) (w : List Int) : Bool :=
  decide ((parseZ (nmS c w)).2 = 0) && (if c || decide (k < 11) then
    decide ((parseZ (nmS c w)).1.label = wNAME) && decide ((parseZ (nmS c w)).1.op = w) && ((parseZ (nmS c w)).1.colon == c) && decide ((parseZ (nmS c w)).1.args.length = 1)
  else decide ((parseZ (nmS c w)).1.label = wNIL) && decide ((parseZ (nmS c w)).1.op = wNAME) && decide ((parseZ (nmS c w)).1.args.length = 1) && decide (((parseZ (nmS c w)).1.args.headD []).length = 2))
theorem nm_all : ((List.range 13).all fun k => (nmOk true k (tab31.getD k []) && nmOk false k (tab31.getD k [])) && (namedW (tab31.getD k []) == decide (k < 11))) = true := by decide +kernel
/-- What such a line says. -/
structure NmP (c : Bool) (k : Nat) (w : List Int) : Prop where
  el : tab31[k]? = some w
  ok : bytesOk w
  short : w.length ≤ 10
  named : namedW w = decide (k < 11)
  way : ∃ z, parseZ (nmS c w) = (z, 0) ∧ ((c || decide (k < 11)) = true → decide (z.label = wNAME) = true ∧ decide (z.op = w) = true ∧ (z.colon == c) = true ∧ z.args.length = 1) ∧ ((c || decide (k < 11)) = false → decide (z.label = wNIL) = true ∧ decide (z.op = wNAME) = true ∧ z.args.length = 1 ∧ ∃ p, z.args[0]? = some p ∧ p.length = 2)
theorem nm_p {k : Nat} (hk : k < 13) (c : Bool) : ∃ w, NmP c k w := by
  have h := List.all_eq_true.1 nm_all k (List.mem_range.2 hk)
  simp only [Bool.and_eq_true] at h
  obtain ⟨⟨h1, h2⟩, h3⟩ := h
  have hc : nmOk c k (tab31.getD k []) = true := by cases c <;> assumption
  obtain ⟨w, hw⟩ : ∃ w, tab31[k]? = some w := ⟨_, List.getElem?_eq_getElem (show k < tab31.length from hk)⟩
  have hg : tab31.getD k [] = w := by rw [List.getD_eq_getElem?_getD, hw]; rfl
  rw [hg] at hc h3
  unfold nmOk at hc
  simp only [Bool.and_eq_true] at hc
  obtain ⟨h4, h5⟩ := hc
  refine ⟨w, hw, tab31_ok w (List.mem_of_getElem? hw), ?_, eq_of_beq h3, (parseZ (nmS c w)).1, Prod.ext rfl (of_decide_eq_true h4), fun hy => ?_, fun hy => ?_⟩
  · have := List.all_eq_true.1 (show (tab31.all fun t => decide (t.length ≤ 10)) = true from by decide +kernel) w (List.mem_of_getElem? hw)
    exact of_decide_eq_true this
  · rw [if_pos hy] at h5
    simp only [Bool.and_eq_true] at h5
    exact ⟨h5.1.1.1, h5.1.1.2, h5.1.2, of_decide_eq_true h5.2⟩
  · rw [if_neg (by rw [hy]; decide)] at h5
    simp only [Bool.and_eq_true] at h5
    refine ⟨h5.1.1.1, h5.1.1.2, of_decide_eq_true h5.1.2, ?_⟩
    have hl := of_decide_eq_true h5.1.2
    have hp := of_decide_eq_true h5.2
    revert hl hp
    cases (parseZ (nmS c w)).1.args with
    | nil => intro hl; exact nomatch hl
    | cons p r => intro _ hp; exact ⟨p, rfl, hp⟩
end Go.Proofs.YtjecckmcjcikdaaDoor
