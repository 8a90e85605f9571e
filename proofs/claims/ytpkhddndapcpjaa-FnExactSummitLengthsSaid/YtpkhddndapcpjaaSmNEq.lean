/- Normal forms: small bounds; equal ones are found equal by the laws' own function. -/
import Derived.Test.YtpkhddndapcpjaaSmPB
import Derived.Test.YtpkhddndapcpjaaSmBB
namespace Go.Proofs.Ytpkhddndapcpjaa
open Go.RowKit Go.ChangeShapes

theorem eqNormal_yesn (s p : Int) (a b : Option Addr) (n m ca cb : Nat) (rs : List (List Int)) (w : World) (ha : ReadsA w a n rs) (hb : ReadsA w b m rs) (hn : n ≤ 1048576) :
  Calls Try.prog 10 #[.agg #[.int .i64 s, .int .i64 p, .slice a n ca], .agg #[.int .i64 s, .int .i64 p, .slice b m cb]] w fun e w' => e = .returned (.bool true) ∧ Below w.heap.size w w' := by
 obtain rfl := ha.same hb
 exact eqNormal_yes s p a b n ca cb rs w ha hb hn

end Go.Proofs.Ytpkhddndapcpjaa

