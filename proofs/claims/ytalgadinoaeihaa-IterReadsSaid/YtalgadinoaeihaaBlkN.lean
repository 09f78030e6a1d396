








/- Blocks in rows of a call's own: leaves, and those of one block. No statement of the seat is proved here. -/
import Derived.Test.YtalgadinoaeihaaBlkA
import Derived.Test.YtalgadinoaeihaaNear24
import Derived.Test.YtalgadinoaeihaaMarkG
namespace Go.Proofs.Ytalgadinoaeihaa
open Go.ChangeShapes Go.WideShapes Go.ChangeAt Go.RowKit
set_option linter.unusedVariables false
set_option linter.unusedSimpArgs false

theorem bKb (t : Int) {v : Value} (hv : IsS v) : Built Try.prog 25 [(0, .int .i64 t), (1, v)] (encK t v nilS) := by
  obtain ⟨a, n, c, rfl⟩ := hv.shape
  exact ⟨by kernel_rfl⟩
theorem bKx (t : Int) {x : Value} (hx : IsS x) : Built Try.prog 25 [(0, .int .i64 t), (2, x)] (encK t nilS x) := by
  obtain ⟨a, n, c, rfl⟩ := hx.shape
  exact ⟨by kernel_rfl⟩
theorem bKt (t : Int) : Built Try.prog 25 [(0, .int .i64 t)] (encK t nilS nilS) := ⟨by kernel_rfl⟩
theorem bKv {v : Value} (hv : IsS v) : Built Try.prog 25 [(1, v)] (encK 0 v nilS) := by
  obtain ⟨a, n, c, rfl⟩ := hv.shape
  exact ⟨by kernel_rfl⟩
/-- One block in a row, as a slice. -/
def oneS (g : Nat) : Value := .slice (some ⟨g, 0, none⟩) 1 1
theorem oneS_is (g : Nat) : IsS (oneS g) := ⟨⟨_, _, _, rfl⟩⟩
theorem rows_blk1 {w0 w : World} {l : List RowT} {g : Nat} {d : BlkV} (hR : Own w0 w l) (hm : (g, encK d.t d.v d.x, 25) ∈ l) (hv : IsS d.v) (hx : IsS d.x) : RowsAt 3 cellsK w (oneS g) [d] := by
  have hi : RwIs 3 (encK d.t d.v d.x) 1 1 (encK d.t d.v d.x).toList := RwIs.all rfl (by decide)
  have h : Sl 25 3 [(g, encK d.t d.v d.x, 25)] (oneS g) 1 (encK d.t d.v d.x).toList := hi.sl
  have h2 := h.rd hR (fun x hx => by rw [List.mem_singleton.1 hx]; exact hm) (by simpa using one_blk d.t hv hx)
  unfold RowsAt
  simpa [cellsK] using h2
theorem BlkR.leaf {s : List RowT} {t : Int} {v : Value} {bs : List Int} (ht : -9223372036854775808 ≤ t ∧ t ≤ 9223372036854775807) (hv : SrcR s v bs) (hm : bs.length ≤ maxLen) : BlkR s ⟨t, v, nilS⟩ (.mk t bs []) :=
  fun wb w l hO hs => .leaf ht (hv wb w l hO hs) hm
theorem BlkR.one {s : List RowT} {t : Int} {g : Nat} {d : BlkV} {z : BlkZ} (ht : -9223372036854775808 ≤ t ∧ t ≤ 9223372036854775807) (h : BlkR s d z) (hv : IsS d.v) (hx : IsS d.x) : BlkR ((g, encK d.t d.v d.x, 25) :: s) ⟨t, nilS, oneS g⟩ (.mk t [] [z]) :=
  fun wb w l hO hs => .mk (ds := [d]) ht (SrcW.none w) (by simp [maxLen]) (rows_blk1 hO (hs _ (.head _)) hv hx) rfl (fun i d' z' h1 h2 => by
    cases i with
    | zero =>
      obtain rfl := Option.some.inj h1
      obtain rfl := Option.some.inj h2
      exact h wb w l hO (fun r hr => hs r (.tail _ hr))
    | succ i => simp at h1)
theorem BlkR.more {s s' : List RowT} {d : BlkV} {z : BlkZ} (h : BlkR s d z) (hs : ∀ r ∈ s, r ∈ s') : BlkR s' d z := fun wb w l hO hm => h wb w l hO fun r hr => hm r (hs r hr)
theorem BlkR.blks {s : List RowT} {g : Nat} {d : BlkV} {z : BlkZ} (h : BlkR s d z) (hv : IsS d.v) (hx : IsS d.x) {wb w : World} {l : List RowT} (hO : Own wb w l) (hs : ∀ r ∈ s, r ∈ l) (hm : (g, encK d.t d.v d.x, 25) ∈ l) : BlksAt w (oneS g) [d] [z] :=
  ⟨rows_blk1 hO hm hv hx, rfl, fun i d' z' h1 h2 => by
    cases i with
    | zero =>
      obtain rfl := Option.some.inj h1
      obtain rfl := Option.some.inj h2
      exact h wb w l hO hs
    | succ i => simp at h1⟩
end Go.Proofs.Ytalgadinoaeihaa
