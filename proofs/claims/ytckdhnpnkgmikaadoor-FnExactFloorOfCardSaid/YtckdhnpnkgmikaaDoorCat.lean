/- The door behind which the panics of the reduction stay: the deferred closure, in both modes; handleFree. -/
import Derived.Test.YtckdhnpnkgmikaaDoorRdn
import Derived.Defers
import Derived.Recover
import Derived.Laws.Pointers
namespace Go.Proofs.YtckdhnpnkgmikaaDoor
open Go.RowKit Go.ChangeShapes

theorem assert_error (ep : Value) (w : World) :
    Sem.run Tryd.prog (Instr.typeAssert (.iface 90 ep) 20 72 true) w = .ok (.tuple #[.iface 90 ep, .bool true]) w := by
  kernel_rfl

theorem assert_nil (w : World) :
    Sem.run Tryd.prog (Instr.typeAssert .nilIface 20 72 true) w = .ok (.tuple #[.nilIface, .bool false]) w := by
  kernel_rfl

set_option maxHeartbeats 400000 in
theorem catch_panicking (p q : Addr) (ep : Value) (v1 v2 : Value) (older : List PanicEntry) (w : World) (hc : w.cell? p = some v1) (hz : w.frozen? p = false) (hc2 : w.cell? q = some v2) (hz2 : w.frozen? q = false) (hpq : p.block ≠ q.block) :
    CallsD Tryd.prog 53 #[.pointer (some p), .pointer (some q)] (.panicking ({ v := .iface 90 ep, recovered := false } :: older)) w fun e u' w' =>
      e = .returned (.tuple #[]) ∧ u' = .panicking ({ v := .iface 90 ep, recovered := true } :: older) ∧ w' = (w.setCell p (.slice none 0 0)).setCell q (.int .i64 3) := by
  have h1 := assert_error ep w
  refine callsD_of_wpS Tryd.func53 rfl fun c₀ cs hu => ?_
  have e1 : (w.setCell p (.slice none 0 0)).cell? q = some v2 := (World.cell?_setCell_other _ _ _ _ (fun e => hpq (congrArg Addr.block e))).trans hc2
  have e2 : (w.setCell p (.slice none 0 0)).frozen? q = false := by simpa using hz2
  apply wpS_seq
  apply wpS_region
  simp [wpOpsS, go_sem, recoverD, hu, Tryd.ntmps53, Exit.thenS, h1]
  apply wpS_seq
  apply wpS_region
  simp [wpOpsS, go_sem, Exit.thenS, Array.replicate]
  refine wpS_cond (t := true) (by simp [Act.eval]) ?_
  simp only [if_true]
  apply wpS_region
  simp [wpOpsS, go_sem, hc, hz, e1, e2, bodyPostS, results, Tryd.results53]

theorem catch_idle (p q : Addr) (w : World) :
    CallsD Tryd.prog 53 #[.pointer (some p), .pointer (some q)] .returning w fun e u' w' => e = .returned (.tuple #[]) ∧ u' = .returning ∧ w' = w := by
  have h1 := assert_nil w
  refine callsD_of_wpS Tryd.func53 rfl fun c₀ cs hu => ?_
  apply wpS_seq
  apply wpS_region
  simp [wpOpsS, go_sem, recoverD, hu, Tryd.ntmps53, Exit.thenS, h1]
  apply wpS_seq
  apply wpS_region
  simp [wpOpsS, go_sem, Exit.thenS, Array.replicate]
  refine wpS_cond (t := false) (by simp [Act.eval]) ?_
  simp only [Bool.false_eq_true, if_false]
  refine wpS_of_wp (wp_skip ?_)
  cases c₀
  simp_all [bodyPostS, results, Tryd.results53]

/-- A slice reads as it did behind a store into another block. -/
theorem Reads.other {w : World} {a : Option Addr} {n g : Nat} {xs : List Int} (h : Reads w a n xs) (hg : n = 0 ∨ ∀ x, a = some x → x.block ≠ g) (o : Nat) (u : Value) : Reads (w.setCell ⟨g, o, none⟩ u) a n xs := by
  refine ⟨h.1, ?_⟩
  rcases h.2 with h0 | ⟨b, off, ha, hc⟩
  · exact .inl h0
  · rcases hg with h0 | hg
    · exact .inl h0
    · refine .inr ⟨b, off, ha, fun j hj => ?_⟩
      have hne := hg _ ha
      rw [World.cell?_setCell_other _ _ _ _ (fun e => hne (congrArg Addr.block e).symm)]
      exact hc j hj

/-- What handleFree gives: a word, or the error's code. -/
def HfPost (w : World) (r : Option (List Int)) (e : Ending) (w' : World) : Prop :=
  (match r with
  | some ys => ∃ b m c, e = .returned (.tuple #[.slice b m c, .int .i64 0]) ∧ Reads w' b m ys
  | none => e = .returned (.tuple #[.slice none 0 0, .int .i64 3])) ∧ Below w.heap.size w w'

set_option maxRecDepth 100000 in
set_option maxHeartbeats 1000000 in
theorem handleFree_any (a : Option Addr) (n cap : Nat) (xs : List Int) (ep : Value) (w : World) (hr : Reads w a n xs) (hx : Lt8 xs) (hn : n ≤ 300000) (hcap : n ≤ cap)
    (hg : w.cell? ⟨0, 0, none⟩ = some (.iface 90 ep)) :
    Calls Tryd.prog 39 #[.slice a n cap] w (HfPost w (red 3000 xs)) := by
  have HR := Lib.hid hr; clear hr
  have HX1 := Lib.hid hx; clear hx
  have HG := Lib.hid hg; clear hg
  have hmf : ∀ (fn : Fn) (first cap : Array Value) (w : World), (Instr.makeFunc fn first cap).run Tryd.prog w = .ok (.func fn first cap) w := fun _ _ _ _ => rfl
  go_enter_defers Tryd.func39, Tryd.ntmps39
  have F0 := Lib.hid ((At1.place w (.slice none 0 0) 22 w.heap.size rfl).alloc (.cells #[.int .i64 0] 2))
  have C0 := Lib.hid (At1.place (w.alloc (.cells #[.slice none 0 0] 22)) (.int .i64 0) 2 (w.heap.size + 1) (by simp))
  have BB := Lib.hid (below2 w (.cells #[.slice none 0 0] 22) (.cells #[.int .i64 0] 2))
  have R := Lib.hid ((HR.out.alloc (.cells #[.slice none 0 0] 22)).alloc (.cells #[.int .i64 0] 2))
  have hold : n = 0 ∨ ∀ x, a = some x → x.block < w.heap.size := by
    rcases Nat.eq_zero_or_pos n with h0 | h0
    · exact .inl h0
    · obtain ⟨b, off, rfl, hb, _⟩ := HR.out.cells h0
      exact .inr fun x hx => by cases hx; exact hb
  go_wp2_with fail
  refine (reduction_any _ _ _ xs _ ep _ R.out HX1.out hn hcap ((BB.out.cell (World.block_lt_of_cell? _ _ HG.out)).trans HG.out)).mono ?_
  rintro e w1 ⟨hp, hb⟩
  replace F0 := Lib.hid (F0.out.below hb)
  replace C0 := Lib.hid (C0.out.below hb)
  have z1 := C0.out.1
  replace BB := Lib.hid (below_go BB.out hb BB.out.size)
  clear hb
  cases hrd : red 3000 xs with
  | none =>
    rw [hrd] at hp
    obtain rfl := hp
    clear hrd
    refine leaves_cons (f := 53) (args := #[.pointer (some ⟨w.heap.size, 0, none⟩), .pointer (some ⟨w.heap.size + 1, 0, none⟩)]) (by simp) (by simp [go_sem]) ?_
    refine (catch_panicking ⟨w.heap.size, 0, none⟩ ⟨w.heap.size + 1, 0, none⟩ ep _ _ [] _ F0.out.2.1 F0.out.2.2 C0.out.2.1 C0.out.2.2 (by simp)).mono ?_
    rintro e u' w'' ⟨rfl, rfl, rfl⟩
    have g1 : (((w1.setCell ⟨w.heap.size, 0, none⟩ (.slice none 0 0)).setCell ⟨w.heap.size + 1, 0, none⟩ (.int .i64 3)).cell? ⟨w.heap.size, 0, none⟩) = some (.slice none 0 0) :=
      (World.cell?_setCell_other _ _ _ _ (by simp)).trans (World.cell?_setCell_same _ _ _ F0.out.2.1)
    have g2 : (((w1.setCell ⟨w.heap.size, 0, none⟩ (.slice none 0 0)).setCell ⟨w.heap.size + 1, 0, none⟩ (.int .i64 3)).cell? ⟨w.heap.size + 1, 0, none⟩) = some (.int .i64 3) :=
      World.cell?_setCell_same _ _ _ ((World.cell?_setCell_other _ _ _ _ (by simp)).trans C0.out.2.1)
    simp only [Leaves, settle, List.dropWhile]
    exact ⟨.tuple #[.slice none 0 0, .int .i64 3], by simp [results, Tryd.results39, go_sem, g1, g2], rfl, (BB.out.setCell (by simp) _).setCell (by simp) _⟩
  | some ys =>
    rw [hrd] at hp
    obtain ⟨b, m, c, rfl, hy, _, hpl⟩ := hp
    have HRE := Lib.hid hrd
    clear hrd
    obtain ⟨f1, f2, f3⟩ := F0.out
    obtain ⟨c1, c2, c3⟩ := C0.out
    go_wp2
    refine leaves_cons (f := 53) (args := #[.pointer (some ⟨w.heap.size, 0, none⟩), .pointer (some ⟨w.heap.size + 1, 0, none⟩)]) (by simp) (by simp [go_sem]) ?_
    refine (catch_idle ⟨w.heap.size, 0, none⟩ ⟨w.heap.size + 1, 0, none⟩ _).mono ?_
    rintro e u' w'' ⟨rfl, rfl, rfl⟩
    have g1 : (((w1.setCell ⟨w.heap.size, 0, none⟩ (.slice b m c)).setCell ⟨w.heap.size + 1, 0, none⟩ (.int .i64 0)).cell? ⟨w.heap.size, 0, none⟩) = some (.slice b m c) :=
      (World.cell?_setCell_other _ _ _ _ (by simp)).trans (World.cell?_setCell_same _ _ _ f2)
    have g2 : (((w1.setCell ⟨w.heap.size, 0, none⟩ (.slice b m c)).setCell ⟨w.heap.size + 1, 0, none⟩ (.int .i64 0)).cell? ⟨w.heap.size + 1, 0, none⟩) = some (.int .i64 0) :=
      World.cell?_setCell_same _ _ _ ((World.cell?_setCell_other _ _ _ _ (by simp)).trans c2)
    simp only [Leaves, settle]
    refine ⟨.tuple #[.slice b m c, .int .i64 0], by simp [results, Tryd.results39, go_sem, g1, g2], ?_, (BB.out.setCell (by simp) _).setCell (by simp) _⟩
    rw [HRE.out]
    refine ⟨b, m, c, rfl, ?_⟩
    have hne : m = 0 ∨ ∀ x, b = some x → x.block ≠ w.heap.size ∧ x.block ≠ w.heap.size + 1 := by
      rcases hpl with ⟨rfl, rfl⟩ | h
      · exact hold.imp id (fun h x hx => by have := h x hx; omega)
      · exact .inr fun x hx => by have := h x hx; simp at this; omega
    exact Reads.other (Reads.other hy (hne.imp id fun h x hx => (h x hx).1) 0 _) (hne.imp id fun h x hx => (h x hx).2) 0 _

end Go.Proofs.YtckdhnpnkgmikaaDoor
