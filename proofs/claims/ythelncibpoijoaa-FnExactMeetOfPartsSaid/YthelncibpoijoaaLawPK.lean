/- Statements of laws that make an array variable. -/
import Derived.Test.YthelncibpoijoaaLawPt
namespace Go.Proofs.Ythelncibpoijoaa
open Go.RowKit Go.ChangeShapes

/-- An array variable that a statement has made and filled. -/
def LeftA (W : World) (r : List Int) (v : Value) (wx : World) : Prop := ∃ g, v = .pointer (some ⟨g, 0, none⟩) ∧ W.heap.size ≤ g ∧ Row8 wx g .u8 r ∧ Below W.heap.size W wx

theorem hold8 {W W' : World} {ga gb : Nat} {a b : List Int} (ha : Row8 W ga .u8 a) (hb : Row8 W gb .u8 b) (h : Below W.heap.size W W') :
    (W'.cell? ⟨ga, 0, none⟩ = some (.int .u8 (at8 a 0)) ∧ W'.cell? ⟨ga, 1, none⟩ = some (.int .u8 (at8 a 1)) ∧ W'.cell? ⟨ga, 2, none⟩ = some (.int .u8 (at8 a 2)) ∧ W'.cell? ⟨ga, 3, none⟩ = some (.int .u8 (at8 a 3)) ∧ W'.cell? ⟨ga, 4, none⟩ = some (.int .u8 (at8 a 4)) ∧ W'.cell? ⟨ga, 5, none⟩ = some (.int .u8 (at8 a 5)) ∧ W'.cell? ⟨ga, 6, none⟩ = some (.int .u8 (at8 a 6)) ∧ W'.cell? ⟨ga, 7, none⟩ = some (.int .u8 (at8 a 7)))
    ∧ (W'.cell? ⟨gb, 0, none⟩ = some (.int .u8 (at8 b 0)) ∧ W'.cell? ⟨gb, 1, none⟩ = some (.int .u8 (at8 b 1)) ∧ W'.cell? ⟨gb, 2, none⟩ = some (.int .u8 (at8 b 2)) ∧ W'.cell? ⟨gb, 3, none⟩ = some (.int .u8 (at8 b 3)) ∧ W'.cell? ⟨gb, 4, none⟩ = some (.int .u8 (at8 b 4)) ∧ W'.cell? ⟨gb, 5, none⟩ = some (.int .u8 (at8 b 5)) ∧ W'.cell? ⟨gb, 6, none⟩ = some (.int .u8 (at8 b 6)) ∧ W'.cell? ⟨gb, 7, none⟩ = some (.int .u8 (at8 b 7)))
    ∧ Below W.heap.size W W' := ⟨(ha.below h).flat, (hb.below h).flat, h⟩

/-- A world behind eight stores. -/
def set8 (w : World) (g : Nat) (v0 v1 v2 v3 v4 v5 v6 v7 : Value) : World := ((((((((w.setCell ⟨g, 0, none⟩ v0).setCell ⟨g, 1, none⟩ v1).setCell ⟨g, 2, none⟩ v2).setCell ⟨g, 3, none⟩ v3).setCell ⟨g, 4, none⟩ v4).setCell ⟨g, 5, none⟩ v5).setCell ⟨g, 6, none⟩ v6).setCell ⟨g, 7, none⟩ v7)

end Go.Proofs.Ythelncibpoijoaa
