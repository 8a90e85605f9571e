/- Plain: decycling. -/
import Derived.Test.YthpmehhfhngnbaaIbMB
namespace Go.Proofs.Ythpmehhfhngnbaa

theorem Nl.take {n : Nat} {l : List (List Int)} (h : Nl n l) (k : Nat) : Nl n (l.take k) :=
 ⟨fun x hx => h.sims x (List.mem_of_mem_take hx), wl_at.2 (fun j hj => by
  rw [List.length_take] at hj
  rw [rowAt_take (by omega), rowAt_take (by omega)]
  exact wl_at.1 h.wl j (by omega)), fun x hx => h.n1 x (List.mem_of_mem_take hx), fun x hx => h.nh x (List.mem_of_mem_take hx)⟩

end Go.Proofs.Ythpmehhfhngnbaa

