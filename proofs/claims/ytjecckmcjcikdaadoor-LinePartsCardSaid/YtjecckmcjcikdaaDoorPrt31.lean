









/- The lines that hansomlaw31's LineParts lays, and what they say. No walk, no statement of the seat is proved here. -/
import Derived.Test.YtjecckmcjcikdaaDoorNam31
namespace Go.Proofs.YtjecckmcjcikdaaDoor
set_option linter.unusedVariables false
set_option linter.unusedSimpArgs false
set_option maxRecDepth 100000

def wHEREc : List Int := [104, 101, 114, 101, 58, 32]
def wHERE : List Int := [72, 69, 82, 69]
def wmov : List Int := [109, 111, 118]
def wTAIL : List Int := [32, 59, 32, 109, 111, 114, 101, 44, 32, 97, 110, 100, 32, 109, 111, 114, 101]
def wBL : List Int := [32]
def wa : List Int := [32, 97]
def w12 : List Int := [32, 40, 49, 44, 50, 41]
def wb : List Int := [32, 91, 98, 93]
def wq : List Int := [32, 39, 44, 39]
def wB : List Int := [66]
def tab6 : List (List Int) := [sLOCK, sREP, sREPE, sREPZ, sREPNE, sREPNZ]
def argS : Nat → List Int
  | 0 => wa
  | 1 => w12
  | 2 => wb
  | _ => wq
def argT : Nat → List TokZ
  | 0 => [⟨1, wA, 0, 0⟩]
  | 1 => [⟨4, sOPEN, 0, 0⟩, ⟨2, [], 1, 0⟩, ⟨4, sCOMMA, 0, 0⟩, ⟨2, [], 2, 0⟩, ⟨4, sCLOSE, 0, 0⟩]
  | 2 => [⟨4, sIN, 0, 0⟩, ⟨1, wB, 0, 0⟩, ⟨4, sEND, 0, 0⟩]
  | _ => [⟨3, sCOMMA, 0, 0⟩]
def joinS : List Nat → List Int
  | [] => []
  | k :: r => argS k ++ r.flatMap fun k => sCOMMA ++ argS k
theorem joinS_one (k : Nat) : joinS [k] = argS k := by simp [joinS]
theorem joinS_more {ks : List Nat} (h : ks ≠ []) (k : Nat) : (joinS ks ++ sCOMMA) ++ argS k = joinS (ks ++ [k]) := by
  cases ks with
  | nil => exact absurd rfl h
  | cons x r => simp [joinS]
def labS (b : Bool) : List Int := if b then wHEREc else []
def preS (p : Option Nat) : List Int := match p with
  | none => []
  | some j => tab6.getD j [] ++ wBL
def txtS (b : Bool) (p : Option Nat) (ks : List Nat) : List Int := (((labS b ++ preS p) ++ wmov) ++ joinS ks) ++ wTAIL
def preW (p : Option Nat) : List (List Int) := match p with
  | none => []
  | some j => [tab6.getD j []]
def zPrt (b : Bool) (p : Option Nat) (ks : List Nat) : StmZ := ⟨if b then wHERE else [], b, preW p, wMOV, ks.map argT⟩
def listsN : Nat → List (List Nat)
  | 0 => [[]]
  | n + 1 => (listsN n).flatMap fun x => (List.range 4).map fun k => k :: x
theorem mem_listsN : ∀ ks : List Nat, (∀ k ∈ ks, k < 4) → ks ∈ listsN ks.length
  | [], _ => .head _
  | k :: r, h => List.mem_flatMap.2 ⟨r, mem_listsN r (fun x hx => h x (.tail _ hx)), List.mem_map.2 ⟨k, List.mem_range.2 (h k (.head _)), rfl⟩⟩
def lists4 : List (List Nat) := listsN 0 ++ (listsN 1 ++ (listsN 2 ++ (listsN 3 ++ listsN 4)))
theorem mem_lists4 {ks : List Nat} (h : ∀ k ∈ ks, k < 4) (hl : ks.length ≤ 4) : ks ∈ lists4 := by
  have hm := mem_listsN ks h
  have hn : ks.length = 0 ∨ ks.length = 1 ∨ ks.length = 2 ∨ ks.length = 3 ∨ ks.length = 4 := by omega
  unfold lists4
  simp only [List.mem_append]
  rcases hn with e | e | e | e | e <;> rw [e] at hm
  · exact .inl hm
  · exact .inr (.inl hm)
  · exact .inr (.inr (.inl hm))
  · exact .inr (.inr (.inr (.inl hm)))
  · exact .inr (.inr (.inr (.inr hm)))
/-! ### Pieces, one after the other -/
theorem scan_step {f : Nat} {s : List Int} {c : Int} {r : List Int} {t : TokZ} {n : Nat} {l : List TokZ} (h1 : s.dropWhile blankZ = c :: r) (h2 : c ≠ 59) (h3 : pieceZ (c :: r) = (t, n)) (hn : n ≠ 0) {d : List Int} (hd : (c :: r).drop n = d) (h4 : scanZ f d = some l) : scanZ (f + 1) s = some (t :: l) := by
  subst hd
  rw [scan_cons h1]
  unfold scanStep
  rw [if_neg h2, h3]
  dsimp only
  rw [if_neg hn, h4]
theorem scan_fuel : ∀ (f : Nat) (s : List Int) (l : List TokZ) (f' : Nat), scanZ f s = some l → s.length < f' → scanZ f' s = some l
  | 0, s, l, f', h, _ => nomatch h
  | f + 1, s, l, f', h, hf => by
    obtain ⟨f', rfl⟩ : ∃ k, f' = k + 1 := ⟨f' - 1, by omega⟩
    have hl := dropWhile_len blankZ s
    cases hu : s.dropWhile blankZ with
    | nil => rw [scan_nil hu] at h ⊢; exact h
    | cons c r =>
      rw [hu] at hl
      rw [scan_cons hu] at h ⊢
      unfold scanStep at h ⊢
      split at h
      · rename_i h59
        rw [if_pos h59]; exact h
      · rename_i h59
        rw [if_neg h59]
        split at h
        · exact nomatch h
        · rename_i hn
          rw [if_neg hn]
          cases hs : scanZ f ((c :: r).drop (pieceZ (c :: r)).2) with
          | none => rw [hs] at h; exact nomatch h
          | some l' =>
            have hd : ((c :: r).drop (pieceZ (c :: r)).2).length < f' := by rw [List.length_drop]; rw [List.length_cons] at *; omega
            rw [hs] at h
            rw [scan_fuel f _ l' f' hs hd]
            exact h
theorem scan_blank (f : Nat) (s : List Int) : scanZ (f + 1) (32 :: s) = scanZ (f + 1) s := rfl
def tHERE : TokZ := ⟨1, wHERE, 0, 0⟩
def tCOL : TokZ := ⟨4, sCOLON, 0, 0⟩
def tMOV : TokZ := ⟨1, wMOV, 0, 0⟩
theorem scan_here {f : Nat} {s : List Int} {l : List TokZ} (h : scanZ (f + 1) s = some l) : scanZ (f + 3) (wHEREc ++ s) = some (tHERE :: tCOL :: l) :=
  scan_step (c := 104) (r := [101, 114, 101, 58, 32] ++ s) (n := 4) (d := 58 :: 32 :: s) rfl (by decide) rfl (by decide) rfl (scan_step (c := 58) (r := [32] ++ s) (n := 1) (d := 32 :: s) rfl (by decide) rfl (by decide) rfl ((scan_blank f s).trans h))
theorem scan_mov {f : Nat} {s : List Int} {l : List TokZ} (h : scanZ (f + 1) (32 :: s) = some l) : scanZ (f + 2) (wmov ++ 32 :: s) = some (tMOV :: l) :=
  scan_step (c := 109) (r := [111, 118] ++ 32 :: s) (n := 3) (d := 32 :: s) rfl (by decide) rfl (by decide) rfl h
theorem scan_pre {j : Nat} (hj : j < 6) {f : Nat} {s : List Int} {l : List TokZ} (h : scanZ (f + 1) s = some l) : scanZ (f + 2) ((tab6.getD j [] ++ wBL) ++ s) = some (⟨1, tab6.getD j [], 0, 0⟩ :: l) := by
  have hb := (scan_blank f s).trans h
  match j, hj with
  | 0, _ => exact scan_step (c := 76) (r := [79, 67, 75] ++ 32 :: s) (n := 4) (d := 32 :: s) rfl (by decide) rfl (by decide) rfl hb
  | 1, _ => exact scan_step (c := 82) (r := [69, 80] ++ 32 :: s) (n := 3) (d := 32 :: s) rfl (by decide) rfl (by decide) rfl hb
  | 2, _ => exact scan_step (c := 82) (r := [69, 80, 69] ++ 32 :: s) (n := 4) (d := 32 :: s) rfl (by decide) rfl (by decide) rfl hb
  | 3, _ => exact scan_step (c := 82) (r := [69, 80, 90] ++ 32 :: s) (n := 4) (d := 32 :: s) rfl (by decide) rfl (by decide) rfl hb
  | 4, _ => exact scan_step (c := 82) (r := [69, 80, 78, 69] ++ 32 :: s) (n := 5) (d := 32 :: s) rfl (by decide) rfl (by decide) rfl hb
  | 5, _ => exact scan_step (c := 82) (r := [69, 80, 78, 90] ++ 32 :: s) (n := 5) (d := 32 :: s) rfl (by decide) rfl (by decide) rfl hb
def joinT : List Nat → List TokZ
  | [] => []
  | k :: r => argT k ++ r.flatMap fun k => ⟨4, sCOMMA, 0, 0⟩ :: argT k
def labT (b : Bool) : List TokZ := if b then [tHERE, tCOL] else []
def preT (p : Option Nat) : List TokZ := match p with
  | none => []
  | some j => [⟨1, tab6.getD j [], 0, 0⟩]
def headT (b : Bool) (p : Option Nat) (X : List TokZ) : List TokZ := labT b ++ (preT p ++ tMOV :: X)
theorem args_all : (lists4.all fun ks => decide (scanZ 30 (joinS ks ++ wTAIL) = some (joinT ks))) = true := by decide +kernel
def pres7 : List (Option Nat) := [none, some 0, some 1, some 2, some 3, some 4, some 5]
def stmOk (b : Bool) (ks : List Nat) : Bool := pres7.all fun p => decide (stmtZ (headT b p (joinT ks)) = (zPrt b p ks, 0))
theorem stm_all : (lists4.all fun ks => stmOk true ks && stmOk false ks) = true := by decide +kernel
theorem join_blank (ks : List Nat) : ∃ r, joinS ks ++ wTAIL = 32 :: r := by
  cases ks with
  | nil => exact ⟨_, rfl⟩
  | cons k r =>
    match k with
    | 0 => exact ⟨_, rfl⟩
    | 1 => exact ⟨_, rfl⟩
    | 2 => exact ⟨_, rfl⟩
    | k + 3 => exact ⟨_, rfl⟩
theorem scan_head (b : Bool) {p : Option Nat} (hp : ∀ j, p = some j → j < 6) {s : List Int} {l : List TokZ} (h : scanZ 30 (32 :: s) = some l) : ∃ f, scanZ f (((labS b ++ preS p) ++ wmov) ++ 32 :: s) = some (headT b p l) := by
  have hm := scan_mov (f := 29) h
  cases p with
  | none =>
    cases b with
    | false => exact ⟨_, hm⟩
    | true => exact ⟨_, scan_here (f := 30) hm⟩
  | some j =>
    have hq := scan_pre (hp j rfl) (f := 30) hm
    cases b with
    | false =>
      refine ⟨32, ?_⟩
      show scanZ 32 (((tab6.getD j [] ++ wBL) ++ wmov) ++ 32 :: s) = _
      rw [List.append_assoc (tab6.getD j [] ++ wBL)]
      exact hq
    | true =>
      refine ⟨34, ?_⟩
      show scanZ 34 (((wHEREc ++ (tab6.getD j [] ++ wBL)) ++ wmov) ++ 32 :: s) = _
      rw [List.append_assoc (wHEREc ++ (tab6.getD j [] ++ wBL)), List.append_assoc wHEREc]
      exact scan_here (f := 31) hq
theorem argS_ok (k : Nat) : (argS k).length ≤ 6 ∧ ∀ c ∈ argS k, readZ c = true := by
  match k with
  | 0 => exact ⟨by decide, by decide⟩
  | 1 => exact ⟨by decide, by decide⟩
  | 2 => exact ⟨by decide, by decide⟩
  | k + 3 => exact ⟨(by decide : wq.length ≤ 6), (by decide : ∀ c ∈ wq, readZ c = true)⟩
theorem joinS_ok (ks : List Nat) : (joinS ks).length ≤ 7 * ks.length ∧ ∀ c ∈ joinS ks, readZ c = true := by
  cases ks with
  | nil => exact ⟨Nat.le_refl _, fun _ h => nomatch h⟩
  | cons k r =>
    have h : (r.flatMap fun k => sCOMMA ++ argS k).length ≤ 7 * r.length ∧ ∀ c ∈ r.flatMap (fun k => sCOMMA ++ argS k), readZ c = true := by
      refine ⟨?_, fun c hc => ?_⟩
      · induction r with
        | nil => exact Nat.le_refl _
        | cons x r ih =>
          have := (argS_ok x).1
          rw [List.flatMap_cons, List.length_append, List.length_append, List.length_cons]
          have e : sCOMMA.length = 1 := rfl
          omega
      · obtain ⟨x, _, hx⟩ := List.mem_flatMap.1 hc
        rcases List.mem_append.1 hx with hx | hx
        · exact (by decide : ∀ c ∈ sCOMMA, readZ c = true) c hx
        · exact (argS_ok x).2 c hx
    have h1 := argS_ok k
    refine ⟨?_, fun c hc => ?_⟩
    · show (argS k ++ _).length ≤ _
      rw [List.length_append, List.length_cons]
      omega
    · rcases List.mem_append.1 hc with hc | hc
      · exact h1.2 c hc
      · exact h.2 c hc
theorem pre_ok {p : Option Nat} (hp : ∀ j, p = some j → j < 6) : (preS p).length ≤ 6 ∧ (∀ c ∈ preS p, readZ c = true) ∧ ∀ t ∈ preW p, bytesOk t := by
  cases p with
  | none => exact ⟨by decide, (fun _ h => nomatch h), fun _ h => nomatch h⟩
  | some j =>
    match j, hp j rfl with
    | 0, _ => exact ⟨by decide, by decide, fun t ht => by rw [List.mem_singleton.1 ht]; exact ascii.ok (ascii_of rfl)⟩
    | 1, _ => exact ⟨by decide, by decide, fun t ht => by rw [List.mem_singleton.1 ht]; exact ascii.ok (ascii_of rfl)⟩
    | 2, _ => exact ⟨by decide, by decide, fun t ht => by rw [List.mem_singleton.1 ht]; exact ascii.ok (ascii_of rfl)⟩
    | 3, _ => exact ⟨by decide, by decide, fun t ht => by rw [List.mem_singleton.1 ht]; exact ascii.ok (ascii_of rfl)⟩
    | 4, _ => exact ⟨by decide, by decide, fun t ht => by rw [List.mem_singleton.1 ht]; exact ascii.ok (ascii_of rfl)⟩
    | 5, _ => exact ⟨by decide, by decide, fun t ht => by rw [List.mem_singleton.1 ht]; exact ascii.ok (ascii_of rfl)⟩
theorem lab_ok (b : Bool) : (labS b).length ≤ 6 ∧ ∀ c ∈ labS b, readZ c = true := by cases b <;> exact ⟨by decide, by decide⟩
theorem txt_ok (b : Bool) {p : Option Nat} (hp : ∀ j, p = some j → j < 6) {ks : List Nat} (hl : ks.length ≤ 4) : (txtS b p ks).length ≤ 60 ∧ ∀ c ∈ txtS b p ks, readZ c = true := by
  have h1 := lab_ok b
  have h2 := pre_ok hp
  have h3 := joinS_ok ks
  have e1 : wmov.length = 3 := rfl
  have e2 : wTAIL.length = 17 := rfl
  refine ⟨?_, fun c hc => ?_⟩
  · unfold txtS
    simp only [List.length_append]
    omega
  · unfold txtS at hc
    simp only [List.mem_append] at hc
    rcases hc with (((hc | hc) | hc) | hc) | hc
    · exact h1.2 c hc
    · exact h2.2.1 c hc
    · exact (by decide : ∀ c ∈ wmov, readZ c = true) c hc
    · exact h3.2 c hc
    · exact (by decide : ∀ c ∈ wTAIL, readZ c = true) c hc
theorem parse_prt (b : Bool) {p : Option Nat} (hp : ∀ j, p = some j → j < 6) {ks : List Nat} (hk : ∀ k ∈ ks, k < 4) (hl : ks.length ≤ 4) : parseZ (txtS b p ks) = (zPrt b p ks, 0) := by
  have hm := mem_lists4 hk hl
  have ha := of_decide_eq_true (List.all_eq_true.1 args_all ks hm)
  have hs0 := List.all_eq_true.1 stm_all ks hm
  rw [Bool.and_eq_true] at hs0
  have hs1 : stmOk b ks = true := by cases b <;> simp_all
  have hpm : p ∈ pres7 := by
    cases p with
    | none => exact .head _
    | some j =>
      match j, hp j rfl with
      | 0, _ => simp [pres7]
      | 1, _ => simp [pres7]
      | 2, _ => simp [pres7]
      | 3, _ => simp [pres7]
      | 4, _ => simp [pres7]
      | 5, _ => simp [pres7]
  have hst := of_decide_eq_true (List.all_eq_true.1 hs1 p hpm)
  obtain ⟨r, hr⟩ := join_blank ks
  rw [hr] at ha
  obtain ⟨f, hf⟩ := scan_head b hp ha
  rw [← hr, ← List.append_assoc] at hf
  replace hf : scanZ f (txtS b p ks) = some (headT b p (joinT ks)) := hf
  obtain ⟨h1, h2⟩ := txt_ok b hp hl
  have hz : lineZ (txtS b p ks) = (headT b p (joinT ks), 0) := by
    unfold lineZ
    rw [if_neg (by omega), if_neg (runZ_full h2), scan_fuel f _ _ ((txtS b p ks).length + 1) hf (Nat.lt_succ_self _)]
    rfl
  unfold parseZ
  rw [hz]
  exact hst
end Go.Proofs.YtjecckmcjcikdaaDoor
