/- Where a loop over the parts of a dual form has come to; comparisons of parts. -/
import Derived.Test.YtlgipimjhfmilaaDKit11
import Derived.Test.YtlgipimjhfmilaaIIs
import Derived.Test.YtlgipimjhfmilaaQB
namespace Go.Proofs.Ytlgipimjhfmilaa
open Go.RowKit Go.ChangeShapes

/-- Where the loop over the parts has come to. -/
structure AtDu (w wr : World) (m : Nat) (p : Int) (a : Option Addr) (n cap : Nat) : Prop where
  box : At3 wr w.heap.size (.int .i64 m) (.int .i64 p) (.slice a n cap)
  bel : Below w.heap.size w wr

theorem AtDu.below {w wr W : World} {m : Nat} {p : Int} {a : Option Addr} {n cap : Nat} (h : AtDu w wr m p a n cap) (hb : Below wr.heap.size wr W) : AtDu w W m p a n cap := ⟨h.box.below hb, below_go h.bel hb h.bel.size⟩
theorem AtDu.alloc {w wr : World} {m : Nat} {p : Int} {a : Option Addr} {n cap : Nat} (h : AtDu w wr m p a n cap) (o : Obj) : AtDu w (wr.alloc o) m p a n cap := h.below ((Below.refl _ _).alloc (Nat.le_refl _) o)
theorem AtDu.drew {w wr : World} {m : Nat} {p : Int} {a : Option Addr} {n cap : Nat} (h : AtDu w wr m p a n cap) : AtDu w wr.drew m p a n cap := h.below (Below.refl _ _).drew

theorem At3.cell2 {w : World} {g : Nat} {u v x : Value} (h : At3 w g u v x) : w.cell? ⟨g, 2, none⟩ = some x := h.2.1.2.2

/-- Two arrays of eight bytes are compared (parts). -/
theorem equalD (l m : List Int) (hl : l.length = 8) (hm : m.length = 8) (w : World) :
    Sem.run Try.prog (Op.equalIn 10000 59 (arr8 .u8 l) (arr8 .u8 m)) w = .ok (decide (l = m)) w := by
  obtain ⟨i0, hi, hz0, hz1, hz2⟩ := info_parts infoByte
  have hu : Try.prog.underlying 59 = some (.array 8 5) := by kernel_rfl
  have hc : Try.prog.cellsOf 5 = 1 := by kernel_rfl
  refine (run_equalIn_array w 9999 (cells8 .u8 l) (cells8 .u8 m) hu hi).trans ?_
  rw [hc, eqItems8 9998 l m w _ (fun j hj => List.mem_range.1 hj), all8_eq l m hl hm]

theorem meetL_len (n : Nat) (h8 : n ≤ 8) (p q : List Int) : (meetP n p q).length = 8 := mapR_len _ _ h8

end Go.Proofs.Ytlgipimjhfmilaa
