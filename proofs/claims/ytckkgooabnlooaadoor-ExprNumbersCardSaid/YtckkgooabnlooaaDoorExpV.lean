/- What is true of all that pieces come to (plain mathematics): at most one base and one index; pieces are used up; where they are followed far enough, they come to something. No statement of the seat is proved here. -/
import Derived.Test.YtckkgooabnlooaaDoorExpM
namespace Go.Proofs.YtckkgooabnlooaaDoor
open Go.ChangeShapes Go.WideShapes Go.ChangeAt Go.RowKit
set_option linter.unusedVariables false
set_option linter.unusedSimpArgs false

/-- At most one base, at most one index. -/
structure Few (p : PartZ) : Prop where
  ba : 0 ≤ p.ba ∧ p.ba ≤ 2
  ix : 0 ≤ p.ix ∧ p.ix ≤ 2
def Job.few : Job → Prop
  | .lo _ p => Few p
  | .ol p => Few p
  | _ => True
theorem few_val (v : ValZ) : Few (valPart v) := ⟨⟨by show (0 : Int) ≤ 0; decide, by show (0 : Int) ≤ 2; decide⟩, ⟨by show (0 : Int) ≤ 0; decide, by show (0 : Int) ≤ 2; decide⟩⟩
theorem few_reg (n : Int) : Few (regPart n) := ⟨⟨by show (0 : Int) ≤ 0; decide, by show (0 : Int) ≤ 2; decide⟩, ⟨by show (0 : Int) ≤ 0; decide, by show (0 : Int) ≤ 2; decide⟩⟩
theorem wrap64_small {x : Int} (h : 0 ≤ x ∧ x ≤ 2) : wrap64 x = x := by unfold wrap64; omega
theorem few_join {p q r : PartZ} {v : ValZ} (hp : Few p) (hq : Few q) (h : joinZ p q v = some r) : Few r := by
  unfold joinZ at h
  cases hj : joinOkB p q
  · rw [hj] at h; exact nomatch h
  · rw [hj] at h
    obtain rfl := Option.some.inj h
    unfold joinOkB mostOneB at hj
    simp only [Bool.and_eq_true, Bool.or_eq_true, decide_eq_true_eq] at hj
    have h1 := hp.ba
    have h2 := hp.ix
    have h3 := hq.ba
    have h4 := hq.ix
    refine ⟨?_, ?_⟩
    · show 0 ≤ wrap64 (p.ba + q.ba) ∧ wrap64 (p.ba + q.ba) ≤ 2
      rw [wrap64_small (by omega)]; omega
    · show 0 ≤ wrap64 (p.ix + q.ix) ∧ wrap64 (p.ix + q.ix) ≤ 2
      rw [wrap64_small (by omega)]; omega
theorem few_sure {p q r : PartZ} {z : ValZ × Bool} (hp : Few p) (hq : Few q) (h : sureJoinZ p q z = some r) : Few r := by
  unfold sureJoinZ at h
  cases hz : z.2
  · rw [hz] at h; exact nomatch h
  · rw [hz] at h; exact few_join hp hq h
theorem few_added {p q r : PartZ} (hp : Few p) (hq : Few q) (h : addedZ p q = some r) : Few r := by
  unfold addedZ at h
  cases hz : (!p.al && !q.al)
  · rw [hz] at h; exact nomatch h
  · rw [hz] at h; exact few_sure hp hq h
theorem few_together {s : List Int} {p q r : PartZ} (hp : Few p) (hq : Few q) (h : togetherZ s p q = some r) : Few r := by
  unfold togetherZ at h
  split at h
  · exact few_added hp hq h
  · split at h
    · unfold takenZ at h
      cases hz : (!p.al && valuedZ q)
      · rw [hz] at h; exact nomatch h
      · rw [hz] at h; exact few_sure hp hq h
    · unfold doneZ at h
      cases hz : (valuedZ p && valuedZ q)
      · rw [hz] at h; exact nomatch h
      · rw [hz] at h; exact few_sure hp hq h
theorem few_worded {s : List Int} {p r : PartZ} (hp : Few p) (h : wordedZ s p = some r) : Few r := by
  have hs : ∀ {z : ValZ × Bool}, sureV p z = some r → Few r := by
    intro z hz
    unfold sureV at hz
    cases hb : z.2
    · rw [hb] at hz; exact nomatch hz
    · rw [hb] at hz; obtain rfl := Option.some.inj hz; exact ⟨hp.ba, hp.ix⟩
  have hw : ∀ {n : Int}, wantedZ p n = some r → Few r := by
    intro n hz
    unfold wantedZ at hz
    cases hb : (!p.al && !countsZ p)
    · rw [hb] at hz; exact nomatch hz
    · rw [hb] at hz; obtain rfl := Option.some.inj hz; exact ⟨hp.ba, hp.ix⟩
  unfold wordedZ at h
  split at h
  · cases hb : valuedZ p
    · rw [hb] at h; exact nomatch h
    · rw [hb] at h; obtain rfl := Option.some.inj h; exact hp
  split at h
  · cases hb : valuedZ p
    · rw [hb] at h; exact nomatch h
    · rw [hb] at h; exact hs h
  split at h
  · cases hb : valuedZ p
    · rw [hb] at h; exact nomatch h
    · rw [hb] at h; exact hs h
  split at h
  · exact hw h
  split at h
  · cases hb : (!decide (p.v.f = 0) || !p.v.k)
    · rw [hb] at h; exact nomatch h
    · rw [hb] at h; exact hw h
  split at h
  · obtain rfl := Option.some.inj h; exact ⟨hp.ba, hp.ix⟩
  · obtain rfl := Option.some.inj h; exact hp
theorem few_counting {a : List Int} {r : PartZ} (h : countingZ a = some r) : Few r := by
  unfold countingZ at h
  repeat' split at h
  all_goals first | (obtain rfl := Option.some.inj h; exact ⟨⟨by simp, by simp⟩, ⟨by simp, by simp⟩⟩) | (simp at h)
theorem few_named {tb : TabZ} {b : Bool} {a : List Int} {r : PartZ} (h : namedZ' tb b a = some r) : Few r := by
  unfold namedZ' at h
  cases hb : (decide (wordStrZ a = 0) && !decide (a = sPTR))
  · rw [hb] at h; exact nomatch h
  · rw [hb, cond_true] at h
    split at h
    · cases b
      · obtain rfl := Option.some.inj h; exact few_reg _
      · exact few_counting h
    · split at h
      · obtain rfl := Option.some.inj h; exact few_val _
      · obtain rfl := Option.some.inj h; exact few_val _
/-- A reader's function whose parts are such. -/
def FewM (m : St → Rs PartZ) : Prop := ∀ s p s2, m s = .ok p s2 → Few p
theorem few_deep {m : St → Rs PartZ} (h : FewM m) : FewM (deepM m) := by
  intro s p s2 hm
  unfold deepM at hm
  split at hm
  · exact nomatch hm
  · rcases hr : m (deepS s) with ⟨q, s3⟩ | e | _
    · rw [hr] at hm
      injection hm with h1 h2
      rw [← h1]; exact h _ _ _ hr
    · rw [hr] at hm; exact nomatch hm
    · rw [hr] at hm; exact nomatch hm
theorem must_few {p q : PartZ} {s s2 : St} {c : List Int} (hp : Few p) (h : mustM p s c = .ok q s2) : Few q := by
  unfold mustM at h
  rcases hl : s.l with _ | ⟨t, r⟩
  · rw [hl] at h; exact nomatch h
  · rw [hl] at h
    cases hb : isZ t 4 c
    · simp only [hb, cond_false] at h; exact nomatch h
    · simp only [hb, cond_true, Rs.ok.injEq] at h; rw [← h.1]; exact hp
theorem few_bracket {ex : St → Rs PartZ} (h : FewM ex) (a : List Int) : FewM (fun s => bracketM ex s a) := by
  intro s p s2 hm
  simp only at hm
  unfold bracketM at hm
  split at hm
  · rcases hr : deepM ex s with ⟨q, s3⟩ | e | _
    · rw [hr] at hm; exact must_few (few_deep h _ _ _ hr) hm
    · rw [hr] at hm; exact nomatch hm
    · rw [hr] at hm; exact nomatch hm
  · split at hm
    · rcases hr : deepM ex (inS s) with ⟨q, s3⟩ | e | _
      · rw [hr] at hm; exact must_few (p := { q with me := true }) ⟨(few_deep h _ _ _ hr).ba, (few_deep h _ _ _ hr).ix⟩ hm
      · rw [hr] at hm; exact nomatch hm
      · rw [hr] at hm; exact nomatch hm
    · exact nomatch hm
theorem few_first {tb : TabZ} {ex : St → Rs PartZ} (h : FewM ex) : FewM (firstM tb ex) := by
  intro s p s2 hm
  unfold firstM at hm
  rcases hl : s.l with _ | ⟨t, r⟩
  · rw [hl] at hm; exact nomatch hm
  rw [hl] at hm
  simp only at hm
  unfold firstT at hm
  split at hm
  · injection hm with h1 h2; rw [← h1]; exact few_val _
  split at hm
  · cases hb : (decide (t.s.length = 1) || decide (t.s.length = 2))
    · rw [hb] at hm; exact nomatch hm
    · rw [hb] at hm; injection hm with h1 h2; rw [← h1]; exact few_val _
  split at hm
  · rcases hn : namedZ' tb (decide (0 < s.i)) t.s with _ | q
    · rw [hn] at hm; exact nomatch hm
    · rw [hn] at hm; injection hm with h1 h2; rw [← h1]; exact few_named hn
  split at hm
  · exact few_bracket h t.s _ _ _ hm
  · exact nomatch hm
theorem few_ahead {ah on : St → Rs PartZ} (h1 : FewM ah) (h2 : FewM on) : FewM (aheadM ah on) := by
  intro s p s2 hm
  unfold aheadM at hm
  cases hl : leadsZ (nextZ s)
  · rw [hl, cond_false] at hm
    cases hp : (decide ((nextZ s).k = 1) && !decide (pointedZ (nextZ s).s = 0))
    · rw [hp, cond_false] at hm
      cases hg : segB s
      · rw [hg] at hm; exact h2 _ _ _ hm
      · rw [hg, cond_true] at hm
        rcases hr : deepM ah (tailS (tailS s)) with ⟨q, s3⟩ | e | _
        · rw [hr] at hm
          injection hm with e1 e2
          rw [← e1]; exact ⟨(few_deep h1 _ _ _ hr).ba, (few_deep h1 _ _ _ hr).ix⟩
        · rw [hr] at hm; exact nomatch hm
        · rw [hr] at hm; exact nomatch hm
    · rw [hp, cond_true] at hm
      unfold ptrM at hm
      rcases hl2 : (tailS s).l with _ | ⟨t, r⟩
      · rw [hl2] at hm; exact nomatch hm
      · rw [hl2] at hm
        simp only at hm
        cases hb : isZ t 1 sPTR
        · rw [hb] at hm; exact nomatch hm
        · rw [hb, cond_true] at hm
          rcases hr : deepM ah { tailS s with l := r } with ⟨q, s3⟩ | e | _
          · rw [hr] at hm
            injection hm with e1 e2
            rw [← e1]; exact ⟨(few_deep h1 _ _ _ hr).ba, (few_deep h1 _ _ _ hr).ix⟩
          · rw [hr] at hm; exact nomatch hm
          · rw [hr] at hm; exact nomatch hm
  · rw [hl, cond_true] at hm
    rcases hr : deepM ah (tailS s) with ⟨q, s3⟩ | e | _
    · rw [hr] at hm
      have hm' : orBad (wordedZ (nextZ s).s q) s3 = .ok p s2 := hm
      rcases hw : wordedZ (nextZ s).s q with _ | z
      · rw [hw] at hm'; exact nomatch hm'
      · rw [hw] at hm'
        injection hm' with e1 e2
        rw [← e1]; exact few_worded (few_deep h1 _ _ _ hr) hw
    · rw [hr] at hm; exact nomatch hm
    · rw [hr] at hm; exact nomatch hm
theorem parse_few (tb : TabZ) : ∀ (n : Nat) (j : Job), j.few → FewM (parseM tb n j) := by
  intro n
  induction n with
  | zero => intro j _ s p s2 h; exact nomatch h
  | succ n ih =>
    intro j hj s p s2 h
    cases j with
    | ex k =>
      have h' : andThen (parseM tb n .ah s) (fun p s1 => parseM tb n (.lo k p) s1) = .ok p s2 := h
      rcases hr : parseM tb n .ah s with ⟨q, s3⟩ | e | _
      · rw [hr] at h'
        exact ih (.lo k q) (ih .ah trivial _ _ _ hr) _ _ _ h'
      · rw [hr] at h'; exact nomatch h'
      · rw [hr] at h'; exact nomatch h'
    | lo k q =>
      by_cases hlt : strengthZ (nextZ s) < k
      · rw [show parseM tb (n + 1) (.lo k q) s = .ok q s from if_pos hlt] at h
        injection h with e1 e2; rw [← e1]; exact hj
      · obtain ⟨l, d, m, i⟩ := s
        rcases l with _ | ⟨t, r⟩
        · rw [show parseM tb (n + 1) (.lo k q) ⟨[], d, m, i⟩ = .bad 3 from if_neg hlt] at h; exact nomatch h
        · have h' : andThen (parseM tb n (.ex (strengthZ t + 1)) ⟨r, d, m, i⟩) (fun z s2 => meetR (togetherZ t.s q z) fun p' => parseM tb n (.lo k p') s2) = .ok p s2 := (if_neg hlt).symm.trans h
          rcases hr : parseM tb n (.ex (strengthZ t + 1)) ⟨r, d, m, i⟩ with ⟨z, s3⟩ | e | _
          · rw [hr] at h'
            have h2 : (meetR (togetherZ t.s q z) fun p' => parseM tb n (.lo k p') s3) = .ok p s2 := h'
            rcases hz : togetherZ t.s q z with _ | y
            · rw [hz] at h2; exact nomatch h2
            · rw [hz] at h2
              exact ih (.lo k y) (few_together hj (ih (.ex (strengthZ t + 1)) trivial _ _ _ hr) hz) _ _ _ h2
          · rw [hr] at h'; exact nomatch h'
          · rw [hr] at h'; exact nomatch h'
    | ah => exact few_ahead (ih .ah trivial) (ih .on trivial) _ _ _ h
    | on =>
      have h' : andThen (firstM tb (parseM tb n (.ex 1)) s) (fun p s1 => parseM tb n (.ol p) s1) = .ok p s2 := h
      rcases hr : firstM tb (parseM tb n (.ex 1)) s with ⟨q, s3⟩ | e | _
      · rw [hr] at h'
        exact ih (.ol q) (few_first (ih (.ex 1) trivial) _ _ _ hr) _ _ _ h'
      · rw [hr] at h'; exact nomatch h'
      · rw [hr] at h'; exact nomatch h'
    | ol q =>
      have h' : (bif isZ (nextZ s) 4 sIN then andThen (firstM tb (parseM tb n (.ex 1)) s) (fun z s1 => meetR (addedZ q z) fun p' => parseM tb n (.ol p') s1) else .ok q s) = .ok p s2 := h
      cases hb : isZ (nextZ s) 4 sIN
      · rw [hb] at h'; injection h' with e1 e2; rw [← e1]; exact hj
      · rw [hb, cond_true] at h'
        rcases hr : firstM tb (parseM tb n (.ex 1)) s with ⟨z, s3⟩ | e | _
        · rw [hr] at h'
          have h2 : (meetR (addedZ q z) fun p' => parseM tb n (.ol p') s3) = .ok p s2 := h'
          rcases hz : addedZ q z with _ | y
          · rw [hz] at h2; exact nomatch h2
          · rw [hz] at h2
            exact ih (.ol y) (few_added hj (few_first (ih (.ex 1) trivial) _ _ _ hr) hz) _ _ _ h2
        · rw [hr] at h'; exact nomatch h'
        · rw [hr] at h'; exact nomatch h'
theorem parse_bd (tb : TabZ) (n : Nat) (j : Job) (hj : j.few) (s : St) (p : PartZ) (s2 : St) (h : parseM tb n j s = .ok p s2) : (0 ≤ p.ba ∧ p.ba ≤ 2) ∧ (0 ≤ p.ix ∧ p.ix ≤ 2) :=
  ⟨(parse_few tb n j hj s p s2 h).ba, (parse_few tb n j hj s p s2 h).ix⟩
end Go.Proofs.YtckkgooabnlooaaDoor
