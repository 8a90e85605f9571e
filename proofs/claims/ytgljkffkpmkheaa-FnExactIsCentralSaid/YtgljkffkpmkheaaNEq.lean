/- Normal forms: small bounds; equal ones are found equal by the laws' own function. -/
import Derived.Test.YtgljkffkpmkheaaNfP
import Derived.Test.YtgljkffkpmkheaaBase7
namespace Go.Proofs.Ytgljkffkpmkheaa
open Go.RowKit Go.ChangeShapes

theorem norm_small {s p : Int} {rs : List (List Int)} (h : normB s p rs = true) : -200 ≤ p ∧ p ≤ 200 ∧ rs.length ≤ 200 := by
  have := (normB_iff s p rs).1 h
  exact ⟨this.2.1.1, this.2.1.2, this.2.2.1⟩

theorem eqNormal_yesn (s p : Int) (a b : Option Addr) (n m ca cb : Nat) (rs : List (List Int)) (w : World) (ha : ReadsA w a n rs) (hb : ReadsA w b m rs) (hn : n ≤ 1048576) :
    Calls Try.prog 24 #[.agg #[.int .i64 s, .int .i64 p, .slice a n ca], .agg #[.int .i64 s, .int .i64 p, .slice b m cb]] w fun e w' => e = .returned (.bool true) ∧ Below w.heap.size w w' := by
  obtain rfl := ha.same hb
  exact eqNormal_yes s p a b n ca cb rs w ha hb hn

end Go.Proofs.Ytgljkffkpmkheaa
