/- The pipeline of a braid's letters; what a braid makes of a free word: the program. -/
import Derived.Test.YtehcbamfendbaaaSeMg15
import Derived.Test.YtehcbamfendbaaaSeIs2
import Derived.BigQuiet
import Derived.Deep.QuietTactic
namespace Go.Proofs.Ytehcbamfendbaaa
open Go.RowKit Go.ChangeShapes

theorem infoStep : (Try.prog.info? 157).map (fun i => (i.zero, i.size, i.bytes)) = some (some .nilFunc, 1, 8) := by kernel_rfl

/-- A slice of the letters' steps. -/
def OwnF (B : Nat) (w : World) (v : Value) (n : Nat) (ls : List Int) : Prop := w.ownsRow B 157 1 v n (ls.map stepV)

theorem OwnF.form {B : Nat} {w : World} {v : Value} {n : Nat} {ls : List Int} (h : OwnF B w v n ls) : ∃ a cap, v = .slice a n cap := by
 rcases h.2 with ⟨hv, h0⟩ | ⟨g, c, cur, hv, _⟩
 ·subst h0; exact ⟨_, _, hv⟩
 ·exact ⟨_, _, hv⟩

theorem below_grownF {B : Nat} {w wr w1 : World} {v : Value} {n : Nat} {e : TypeId} {size : Nat} {xs : List Value} {o : Obj} (hbl : Below B w wr) (hs : B ≤ wr.heap.size) (hr : wr.ownsRow B e size v n xs) (hg : (wr.alloc o).grownBy w1 v.ownBlock) : Below B w w1 := by
 refine (hbl.alloc hs o).grown hg (by simp; omega) fun j ej => ?_
 rcases hr.2 with ⟨rfl, _⟩ | ⟨g, cap, cur, rfl, hb, _, _⟩
 ·simp [Value.ownBlock] at ej
 ·obtain rfl : g = j := by simpa [Value.ownBlock] using ej
  exact hb

theorem step_new (w : World) (l : Int) (t : TypeId) : ∀ j u, [stepV l][j]? = some u → (w.alloc (.cells #[stepV l] t)).cell? ((⟨w.heap.size, 0, none⟩ : Addr).add j) = some u := by
 intro j u hj
 match j, hj with
 | 0, hj => simp at hj; subst hj; simp [Addr.add]

theorem step_cell (l : Int) : ∀ u ∈ [stepV l], u.oneCell' = true := by
 intro u hu
 simp at hu
 subst hu
 rfl

set_option maxRecDepth 100000 in
set_option maxHeartbeats 1000000 in
theorem pipeline_any (s : Int) (a : Option Addr) (n cap : Nat) (ls : List Int) (w : World) (hr : Reads w a n ls) (hn : n ≤ 1048576) :
  Calls Try.prog 138 #[.agg #[.int .i64 s, .slice a n cap]] w fun e w' => ∃ v, e = .returned v ∧ OwnF w.heap.size w' v n ls ∧ Below w.heap.size w w' := by
 obtain ⟨i0, hi, hz0, hz1, hz2⟩ := info_parts infoStep
 have HL := Lib.hid hr.len
 have A := Lib.hid (At2.new w (.int .i64 s) (.slice a n cap) 29)
 have hb0 := below1 w (.cells #[.int .i64 s, .slice a n cap] 29)
 have HR := Lib.hid hr; clear hr
 obtain ⟨qA1, qA2, qA3, qA4, qA5⟩ := A.out
 go_enter Try.func138, Try.ntmps138
 go_wp2
 clear qA1 qA2 qA3 qA4 qA5
 go_loopw [3, 9] (fun v i wr => ∃ k : Nat, k ≤ n ∧ i = .int .i64 k ∧ OwnF w.heap.size wr v k (ls.take k) ∧ Below w.heap.size w wr) (fun _ i _ => n - (intOf i).toNat)
 case atStart => exact ⟨0, Nat.zero_le _, rfl, World.ownsRow_nil _ _ _ _, hb0⟩
 case round =>
  obtain ⟨k, hk, rfl, ho, hbl⟩ := hrel
  by_cases hlt : k < n
  ·obtain ⟨b, off, rfl, hb, hc⟩ := HR.out.cells (by omega)
   obtain ⟨l, hl⟩ : ∃ l, l = ls.getD k 0 := ⟨_, rfl⟩
   have h1 : wr.cell? ⟨b, off + k, none⟩ = some (.int .i64 l) := by rw [hl]; exact (hbl.cell (by exact hb)).trans (hc _ hlt)
   have HX := Lib.hid hl; clear hl hc
   have hz : w.heap.size ≤ wr.heap.size := hbl.size
   have HO := Lib.hid ho; have HB := Lib.hid hbl; clear ho hbl
   go_wp2_with (at_builtin; refine wpList_append_own _ rfl _ _ 143 rfl w.heap.size 157 i0 .nilFunc 1 8 Try.underlying143 hi hz0 hz1 hz2 rfl (by decide) _ _ _ rfl (World.ownsRow.alloc HO.out _) ⟨wr.heap.size, 0, none⟩ 1 1 [stepV l] rfl rfl (step_new wr l _) (step_cell _) (by unfold maxLen; omega) (by omega) (by simp; omega) ?_)
   intro v' w1 hown' hgrow _
   have ho' : OwnF w.heap.size w1 v' (k + 1) (ls.take (k + 1)) := by
    have e : ls.take (k + 1) = ls.take k ++ [l] := by rw [take_snoc ls k (by have := HL.out; omega), HX.out]
    rw [e, OwnF, List.map_append, List.map_take]
    exact hown'
   have HB' := Lib.hid (below_grownF HB.out hz HO.out hgrow)
   have HO' := Lib.hid ho'
   clear hown' hgrow ho'
   go_wp2
   go_roundw
   case rel => exact ⟨k + 1, by omega, by go_num, HO'.out, HB'.out⟩
   case measure => simp [intOf]; omega
  ·have hkn : k = n := by omega
   have HK := Lib.hid hkn; clear hkn
   go_wp2
   go_ret
   rw [HK.out, List.take_of_length_le (by have := HL.out; omega)] at ho
   exact ⟨_, rfl, ho, hbl⟩

end Go.Proofs.Ytehcbamfendbaaa

