/- An own slice holds at most as much as its capacity. -/
import Derived.Test.YtckdhnpnkgmikaaDoorKit3
namespace Go.Proofs.YtckdhnpnkgmikaaDoor
open Go.RowKit

theorem Own.cap_ge {B : Nat} {w : World} {a : Option Addr} {m c : Nat} {l : List Int} (h : Own B w a m c l) : m ≤ c := by
  rcases h.2 with ⟨hv, h0⟩ | ⟨g, c', cur, hv, hB, hh, hn, _⟩
  · omega
  · simp only [Value.slice.injEq] at hv
    omega

end Go.Proofs.YtckdhnpnkgmikaaDoor
