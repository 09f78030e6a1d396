/- Blocks that may be, small, near to whatever blocks: as the reference has them. Plain mathematics. No statement of the seat is proved here. -/
import Derived.Test.YtalgadinoaeihaaIterM
namespace Go.Proofs.Ytalgadinoaeihaa
open Go.ChangeShapes Go.WideShapes Go.ChangeAt Go.RowKit
set_option linter.unusedVariables false
set_option linter.unusedSimpArgs false

/-- So deep less one. -/
def nearB : Nat → BlkZ → BlkZ
  | 0, .mk t b _ => .mk (t % 4 + 1) (t % 256 :: b.take 5) []
  | _ + 1, .mk t b [] => .mk (t % 4 + 1) (t % 256 :: b.take 5) []
  | n + 1, .mk t _ (z :: l) => .mk (t % 4 + 1) [] (nearB n z :: (l.take 2).map (nearB n))
/-- All bytes are bytes, up to a depth. -/
def okB : Nat → BlkZ → Prop
  | 0, .mk _ b _ => bytesOk b
  | n + 1, .mk _ b l => bytesOk b ∧ ∀ z ∈ l, okB n z
theorem near_leaf (t : Int) {b : List Int} (hb : bytesOk b) (n : Nat) : smB (n + 1) (.mk (t % 4 + 1) (t % 256 :: b.take 5) []) :=
  ⟨by omega, .cons (by omega) (hb.take 5), by simp only [List.length_cons, List.length_take]; omega, by simp, fun _ h => nomatch h⟩
theorem near_sm : ∀ (n : Nat) (z : BlkZ), okB n z → smB (n + 1) (nearB n z)
  | 0, .mk t b l, h => near_leaf t h 0
  | n + 1, .mk t b [], h => near_leaf t h.1 (n + 1)
  | n + 1, .mk t b (z :: l), h => by
    refine ⟨by omega, .nil, by simp, by simp only [List.length_cons, List.length_map, List.length_take]; omega, ?_⟩
    intro x hx
    rcases List.mem_cons.1 hx with rfl | hx
    · exact near_sm n z (h.2 z (.head _))
    · obtain ⟨y, hy, rfl⟩ := List.mem_map.1 hx
      exact near_sm n y (h.2 y (.tail _ (List.mem_of_mem_take hy)))
theorem near_may : ∀ (n : Nat) (z : BlkZ), mayB (n + 1) (nearB n z) = true
  | 0, .mk t b l => by
    simp only [nearB, mayB, List.length_cons, List.length_take, Bool.and_eq_true, decide_eq_true_eq]
    omega
  | n + 1, .mk t b [] => by
    simp only [nearB, mayB, List.length_cons, List.length_take, Bool.and_eq_true, decide_eq_true_eq]
    omega
  | n + 1, .mk t b (z :: l) => by
    have h1 := near_may n z
    have h2 : ((l.take 2).map (nearB n)).all (mayB (n + 1)) = true := by
      rw [List.all_eq_true]
      intro x hx
      obtain ⟨y, _, rfl⟩ := List.mem_map.1 hx
      exact near_may n y
    have h3 : ((l.take 2).map (nearB n)).length ≤ 2 := by rw [List.length_map, List.length_take]; omega
    unfold nearB
    unfold mayB
    simp only [Bool.and_eq_true, decide_eq_true_eq]
    exact ⟨by omega, ⟨trivial, by omega⟩, h1, h2⟩
theorem may_more : ∀ {n : Nat} {z : BlkZ}, mayB n z = true → mayB (n + 1) z = true
  | 0, _, h => by simp [mayB] at h
  | n + 1, .mk t b [], h => by
    have := may_leaf h
    unfold mayB
    simp only [Bool.and_eq_true, decide_eq_true_eq]
    omega
  | n + 1, .mk t b (z :: l), h => by
    obtain ⟨h1, h2, h3, h4, h5⟩ := may_node h
    unfold mayB
    simp only [Bool.and_eq_true, decide_eq_true_eq, List.all_eq_true]
    exact ⟨h1, ⟨h2, h3⟩, may_more h4, fun x hx => may_more (h5 x hx)⟩
theorem may_up {n m : Nat} (h : n ≤ m) {z : BlkZ} (hz : mayB n z = true) : mayB m z = true := by
  induction h with
  | refl => exact hz
  | step _ ih => exact may_more ih
/-! ### A record of blocks -/
/-- How many bytes it spreads to, 65537 at most: as it is counted. -/
def bigB (z : BlkZ) : Bool := decide (65536 < (spreadB z).length)
def runI (o : Nat) : Nat → List Int → SrcZ → List Int × Int
  | 0, a, s => (a, s.e)
  | n + 1, a, s =>
    if s.b = [] then (a, s.e)
    else if (blkR 8 s).2.e ≠ 0 then (a, (blkR 8 s).2.e)
    else if mayB 8 (blkR 8 s).1 = false then (a, 3)
    else if bigB (blkR 8 s).1 = true ∨ 65536 < o + a.length + (spreadB (blkR 8 s).1).length then (a, 8)
    else runI o n (a ++ spreadB (blkR 8 s).1) (blkR 8 s).2
theorem runI_nil (o n : Nat) (a : List Int) (e : Int) : runI o n a ⟨[], e⟩ = (a, e) := by cases n <;> rfl
theorem putB_len4 : ∀ (z : BlkZ), 5 ≤ (putB z).length
  | .mk t b [] => by
    have := nam18_len b
    simp only [putB, List.length_append, bytesN_len]; omega
  | .mk t b (z :: l) => by
    have := putB_len4 z
    simp only [putB, List.length_append, bytesN_len]; omega
theorem runI_one {o n : Nat} {a : List Int} {z : BlkZ} (hm : mayB 8 z = true) (hs : o + a.length + (spreadB z).length ≤ 65536) (r : List Int) :
    runI o (n + 1) a ⟨putB z ++ r, 0⟩ = runI o n (a ++ spreadB z) ⟨r, 0⟩ := by
  have h1 := putB_len4 z
  have h2 : putB z ++ r ≠ [] := by
    intro h
    have := congrArg List.length h
    rw [List.length_append, List.length_nil] at this
    omega
  have h3 := blk_back 8 z hm r
  conv => lhs; unfold runI
  rw [if_neg h2, h3]
  dsimp only
  rw [if_neg (by decide), if_neg (by rw [hm]; decide), if_neg (by unfold bigB; simp only [decide_eq_true_eq]; omega)]
theorem runI_back {o : Nat} : ∀ {l : List BlkZ} (n : Nat) (a : List Int), (∀ z ∈ l, mayB 8 z = true) → o + a.length + (spreadL l).length ≤ 65536 → (putL l).length ≤ n → runI o n a ⟨putL l, 0⟩ = (a ++ spreadL l, 0)
  | [], n, a, _, _, _ => by rw [putL, runI_nil, spreadL, List.append_nil]
  | z :: l, n, a, h, hs, hn => by
    have h1 := putB_len4 z
    simp only [spreadL, putL, List.length_append] at hs hn
    obtain ⟨m, rfl⟩ : ∃ m, n = m + 1 := ⟨n - 1, by omega⟩
    simp only [spreadL, putL]
    rw [runI_one (h z (.head _)) (by omega), runI_back m _ (fun x hx => h x (.tail _ hx)) (by rw [List.length_append]; omega) (by omega), List.append_assoc]
def getI (bs : List Int) : (Int × Nat × List Int) × Int :=
  let p0 := indexZ ⟨bs, 0⟩
  let p1 := numZ p0.2 2
  let r := runI p1.1.toNat p1.2.b.length [] p1.2
  let e := if r.2 ≠ 0 then r.2 else if p0.1 = 0 ∨ r.1 = [] then 3 else 0
  if e = 0 then ((p0.1, p1.1.toNat, r.1), 0) else ((0, 0, []), e)
def recI (s : Int) (o : Nat) (l : List BlkZ) : List Int := idxN s ++ (bytesN o 2 ++ putL l)
theorem spread_some : ∀ (n : Nat) (z : BlkZ), mayB n z = true → 1 ≤ (spreadB z).length
  | 0, _, h => by simp [mayB] at h
  | n + 1, .mk t b [], h => by
    obtain ⟨h1, h2, h3⟩ := may_leaf h
    simp only [spreadB, spreadL, List.append_nil, flat_rep]
    exact Nat.mul_pos (by omega) (by omega)
  | n + 1, .mk t b (z :: l), h => by
    obtain ⟨h1, h2, h3, h4, h5⟩ := may_node h
    have := spread_some n z h4
    simp only [spreadB, spreadL, flat_rep, List.length_append]
    exact Nat.mul_pos (by omega) (by omega)
theorem getI_back {s : Int} {o : Nat} {z : BlkZ} {l : List BlkZ} (hs : 1 ≤ s ∧ s ≤ 32767) (ho : o ≤ 65535) (h : ∀ x ∈ z :: l, mayB 8 x = true) (hl : o + (spreadL (z :: l)).length ≤ 65536) :
    getI (recI s o (z :: l)) = ((s, o, spreadL (z :: l)), 0) := by
  have h1 := index_back (n := s) ⟨by omega, hs.2⟩ (bytesN o 2 ++ putL (z :: l)) 0
  have h2 := num_back o 2 (putL (z :: l)) 0
  have h3 : ((o % 256 ^ 2 : Nat) : Int).toNat = o := by rw [Int.toNat_natCast]; omega
  have h4 := runI_back (o := o) (l := z :: l) (putL (z :: l)).length [] h (by simpa using hl) (Nat.le_refl _)
  rw [List.nil_append] at h4
  have h5 : spreadL (z :: l) ≠ [] := by
    intro hc
    have h6 := spread_some 8 z (h z (.head _))
    have := congrArg List.length hc
    simp only [spreadL, List.length_append, List.length_nil] at this
    omega
  unfold getI recI
  rw [h1]
  dsimp only
  rw [h2]
  dsimp only
  rw [h3, h4]
  dsimp only
  have h6 : ¬ (s = 0 ∨ spreadL (z :: l) = []) := by
    rintro (h | h)
    · omega
    · exact h5 h
  have h7 : (if (0 : Int) ≠ 0 then (0 : Int) else if s = 0 ∨ spreadL (z :: l) = [] then 3 else 0) = 0 := by rw [if_neg (by decide), if_neg h6]
  rw [h7]
  rfl
end Go.Proofs.Ytalgadinoaeihaa
