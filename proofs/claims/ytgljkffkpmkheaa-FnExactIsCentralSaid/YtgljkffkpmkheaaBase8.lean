/- Contracts of the small functions that the laws on normal forms call, continued: numbers are written into the factors and found there again. -/
import Derived.Test.YtgljkffkpmkheaaBase7
import Derived.Test.YtgljkffkpmkheaaBase3
import Derived.Deep.LoopGhost
namespace Go.Proofs.Ytgljkffkpmkheaa
open Go.RowKit Go.ChangeShapes

/-- The first t bytes of the rows are the numbers from m on. -/
def mixA (m : Int) (rs : List (List Int)) (t : Nat) : List (List Int) :=
  (List.range rs.length).map fun j => (List.range 8).map fun i => if 8 * j + i < t then (m + ((8 * j + i : Nat) : Int)) % 256 else at8 (rowAt rs j) i

/-- All bytes are the numbers from m on. -/
def marksA (m : Int) (n : Nat) : List (List Int) := (List.range n).map fun j => (List.range 8).map fun i => (m + ((8 * j + i : Nat) : Int)) % 256

theorem at8_range8 (f : Nat → Int) (i : Nat) (hi : i < 8) : at8 ((List.range 8).map f) i = f i := by
  unfold at8
  simp [List.getD, hi]

theorem rowAt_range (n : Nat) (f : Nat → List Int) (j : Nat) (hj : j < n) : rowAt ((List.range n).map f) j = f j := by
  unfold rowAt
  simp [List.getD, hj]

theorem rows_ext {rs ts : List (List Int)} (hl : rs.length = ts.length) (h : ∀ j, j < rs.length → rowAt rs j = rowAt ts j) : rs = ts := by
  refine List.ext_getElem hl fun j h1 h2 => ?_
  have := h j h1
  unfold rowAt at this
  simpa [List.getD, h1, h2] using this

theorem mixA_len (m : Int) (rs : List (List Int)) (t : Nat) : (mixA m rs t).length = rs.length := by simp [mixA]

theorem mixA_at (m : Int) (rs : List (List Int)) (t j i : Nat) (hj : j < rs.length) (hi : i < 8) : at8 (rowAt (mixA m rs t) j) i = if 8 * j + i < t then (m + ((8 * j + i : Nat) : Int)) % 256 else at8 (rowAt rs j) i := by
  unfold mixA
  rw [rowAt_range _ _ _ hj, at8_range8 _ _ hi]

theorem mixA_rows (m : Int) (rs : List (List Int)) (t : Nat) : Rows8 (mixA m rs t) := by
  intro r hr
  obtain ⟨j, _, rfl⟩ := List.mem_map.1 hr
  simp

theorem mixA_zero (m : Int) (rs : List (List Int)) (h : Rows8 rs) : mixA m rs 0 = rs := by
  refine rows_ext (mixA_len _ _ _) fun j hj => ?_
  rw [mixA_len] at hj
  refine ext8 ((mixA_rows m rs 0).at (by rw [mixA_len]; exact hj)) (h.at hj) fun i hi => ?_
  rw [mixA_at _ _ _ _ _ hj hi, if_neg (by omega)]

theorem mixA_all (m : Int) (rs : List (List Int)) : mixA m rs (8 * rs.length) = marksA m rs.length := by
  refine rows_ext (by simp [mixA, marksA]) fun j hj => ?_
  rw [mixA_len] at hj
  unfold mixA marksA
  rw [rowAt_range _ _ _ hj, rowAt_range _ _ _ hj]
  refine List.map_congr_left fun i hi => ?_
  have := List.mem_range.1 hi
  rw [if_pos (by omega)]

theorem mixA_step (m : Int) (rs : List (List Int)) (j i : Nat) (hj : j < rs.length) (hi : i < 8) :
    (mixA m rs (8 * j + i)).set j ((rowAt (mixA m rs (8 * j + i)) j).set i ((m + ((8 * j + i : Nat) : Int)) % 256)) = mixA m rs (8 * j + (i + 1)) := by
  have hl : (rowAt (mixA m rs (8 * j + i)) j).length = 8 := (mixA_rows m rs _).at (by rw [mixA_len]; exact hj)
  refine rows_ext (by rw [List.length_set, mixA_len, mixA_len]) fun p hp => ?_
  rw [List.length_set, mixA_len] at hp
  rw [rowAt_set _ _ _ _ (by rw [mixA_len]; exact hj)]
  by_cases e : j = p
  · subst e
    rw [if_pos rfl]
    refine ext8 (by rw [List.length_set]; exact hl) ((mixA_rows m rs _).at (by rw [mixA_len]; exact hj)) fun q hq => ?_
    rw [at8_set _ _ _ _ (by rw [hl]; exact hi), mixA_at _ _ _ _ _ hj hq, mixA_at _ _ _ _ _ hj hq]
    by_cases e2 : i = q
    · subst e2
      rw [if_pos rfl, if_pos (by omega)]
    · rw [if_neg e2]
      by_cases e3 : 8 * j + q < 8 * j + i
      · rw [if_pos e3, if_pos (by omega)]
      · rw [if_neg e3, if_neg (by omega)]
  · rw [if_neg e]
    refine ext8 ((mixA_rows m rs _).at (by rw [mixA_len]; exact hp)) ((mixA_rows m rs _).at (by rw [mixA_len]; exact hp)) fun q hq => ?_
    rw [mixA_at _ _ _ _ _ hp hq, mixA_at _ _ _ _ _ hp hq]
    by_cases e3 : 8 * p + q < 8 * j + i
    · rw [if_pos e3, if_pos (by omega)]
    · rw [if_neg e3, if_neg (by omega)]

theorem grown_step {w wr w' : World} {r : Option Nat} (h : w.grownBy wr r) (k : wr.grownBy w' r) : w.grownBy w' r :=
  ⟨k.os.trans h.os, k.tape.trans h.tape, k.output.trans h.output, Nat.le_trans h.size k.size, fun j hj hne => (k.block j (Nat.lt_of_lt_of_le hj h.size) hne).trans (h.block j hj hne)⟩

theorem grown_set (w : World) (g o : Nat) (v : Value) : w.grownBy (w.setCell ⟨g, o, none⟩ v) (some g) :=
  ⟨rfl, rfl, rfl, by simp, fun k _ hk => heap_setCell_other w ⟨g, o, none⟩ k v (fun e => hk (by simp [e]))⟩

set_option maxRecDepth 100000 in
set_option maxHeartbeats 1000000 in
theorem markSimpleS_any (B : Nat) (a : Option Addr) (n cap : Nat) (rs : List (List Int)) (m : Int) (w : World) (ho : OwnA B w a n cap rs) (hn : n ≤ 1048576) (h0 : 0 ≤ m) (h1 : m ≤ 4294967296) :
    Calls Try.prog 74 #[.slice a n cap, .int .i64 m] w fun e w' => e = .returned (.int .i64 (m + ((8 * n : Nat) : Int))) ∧ OwnA B w' a n cap (marksA m n) ∧ w.grownBy w' (rowOf a) := by
  have HL := Lib.hid ho.len
  rcases Nat.eq_zero_or_pos n with hz | hz
  · subst hz
    have HO := Lib.hid ho; clear ho
    go_enter Try.func74, Try.ntmps74
    go_wp2
    refine wp_loop_rounds 1 ?_; rw [rounds_succ]
    go_wp2
    go_ret
    have hx : rs = [] := List.eq_nil_of_length_eq_zero HL.out
    rw [hx] at HO
    exact ⟨by simp, HO.out, World.grownBy.refl _ _⟩
  · obtain ⟨g, rfl, hB, hg⟩ := ho.block hz
    have HO := Lib.hid ho; clear ho
    have HM : Hid (mixA m rs 0 = rs) := Lib.hid (mixA_zero m rs HO.out.rows)
    go_enter Try.func74, Try.ntmps74
    go_wp2
    go_loopg [1, 5] n (fun gh v i wr => ∃ k : Nat, k ≤ n ∧ gh + k = n ∧ i = .int .i64 k ∧ v = .int .i64 (m + ((8 * k : Nat) : Int)) ∧ OwnA B wr (some ⟨g, 0, none⟩) n cap (mixA m rs (8 * k)) ∧ w.grownBy wr (some g))
    case atStart => exact ⟨0, Nat.zero_le _, rfl, rfl, by simp, by rw [HM.out]; exact HO.out, World.grownBy.refl _ _⟩
    case round =>
      obtain ⟨k, hk, hgk, rfl, rfl, hor, hgr⟩ := hrel
      have HOR := Lib.hid hor; clear hor
      have HGR := Lib.hid hgr; clear hgr
      by_cases hlt : k < n
      · obtain ⟨go, rfl⟩ : ∃ go, go = gk := ⟨_, rfl⟩
        go_wp2
        go_loopg [1, 6] 8 (fun gh v i wr => ∃ j : Nat, j ≤ 8 ∧ gh + j = 8 ∧ i = .int .i64 j ∧ v = .int .i64 (m + ((8 * k + j : Nat) : Int)) ∧ OwnA B wr (some ⟨g, 0, none⟩) n cap (mixA m rs (8 * k + j)) ∧ w.grownBy wr (some g))
        case atStart => exact ⟨0, Nat.zero_le _, rfl, rfl, by simp, HOR.out, HGR.out⟩
        case round =>
          obtain ⟨j, hj, hgj, rfl, rfl, hor, hgr⟩ := hrel
          clear HOR HGR
          have HOR := Lib.hid hor; clear hor
          have HGR := Lib.hid hgr; clear hgr
          by_cases hlj : j < 8
          · have c1 := HOR.out.cellAt k hlt j hlj
            have f1 := HOR.out.frozenAt (k * 8 + j)
            go_wp2
            go_roundg (gk - 1)
            case measure => omega
            case rel =>
              refine ⟨j + 1, by omega, by omega, by go_num, by go_num, ?_, grown_step HGR.out (grown_set _ _ _ _)⟩
              have := HOR.out.store1 k hlt j hlj ((m + ((8 * k + j : Nat) : Int)) % 256)
              rw [mixA_step m rs k j (by rw [HL.out]; exact hlt) hlj] at this
              simpa using this
          · have hj8 : j = 8 := by omega
            subst hj8
            go_wp2
            go_roundg (go - 1)
            case measure => omega
            case rel => exact ⟨k + 1, by omega, by omega, by go_num, by go_num, HOR.out, HGR.out⟩
      · have hkn : k = n := by omega
        go_wp2
        go_ret
        subst hkn
        refine ⟨rfl, ?_, HGR.out⟩
        have := HOR.out
        rw [← HL.out, mixA_all, HL.out] at this
        exact this

set_option maxRecDepth 100000 in
set_option maxHeartbeats 1000000 in
theorem markNormal_any (B : Nat) (s p : Int) (a : Option Addr) (n cap : Nat) (rs : List (List Int)) (m : Int) (w : World) (ho : OwnA B w a n cap rs) (hn : n ≤ 1048576) (h0 : 0 ≤ m) (h1 : m ≤ 4294967296) :
    Calls Try.prog 27 #[.agg #[.int .i64 s, .int .i64 p, .slice a n cap], .int .i64 m] w fun e w' => e = .returned (.int .i64 (m + ((8 * n : Nat) : Int))) ∧ OwnA B w' a n cap (marksA m n) ∧ w.grownBy w' (rowOf a) := by
  have HO := Lib.hid ho; clear ho
  go_enter Try.func27, Try.ntmps27
  go_wp2_with (go_at_call 74; refine (markSimpleS_any B _ _ _ rs _ _ (HO.out.alloc _) hn h0 h1).mono ?_; rintro e w1 ⟨rfl, ho1, hg1⟩)
  go_ret
  exact ⟨rfl, ho1, grown_behind (below1 w _) hg1⟩

set_option maxRecDepth 100000 in
set_option maxHeartbeats 1000000 in
theorem heldSimpleS_any (a : Option Addr) (n cap : Nat) (m : Int) (w : World) (hr : ReadsA w a n (marksA m n)) (hn : n ≤ 1048576) (h0 : 0 ≤ m) (h1 : m ≤ 4294967296) :
    Calls Try.prog 75 #[.slice a n cap, .int .i64 m] w fun e w' => e = .returned (.int .i64 (m + ((8 * n : Nat) : Int))) ∧ w = w' := by
  rcases Nat.eq_zero_or_pos n with hz | hz
  · subst hz
    clear hr
    go_enter Try.func75, Try.ntmps75
    go_wp2
    refine wp_loop_rounds 1 ?_; rw [rounds_succ]
    go_wp2
    go_ret
    exact ⟨by simp, rfl⟩
  · obtain ⟨b, off, rfl, hb, hc⟩ := hr.cells hz
    clear hr
    have HC := Lib.hid hc; clear hc
    go_enter Try.func75, Try.ntmps75
    go_wp2
    go_loopg [1, 5] n (fun gh v i wr => ∃ k : Nat, k ≤ n ∧ gh + k = n ∧ i = .int .i64 k ∧ v = .int .i64 (m + ((8 * k : Nat) : Int)) ∧ w = wr)
    case atStart => exact ⟨0, Nat.zero_le _, rfl, rfl, by simp, rfl⟩
    case round =>
      obtain ⟨k, hk, hgk, rfl, rfl, rfl⟩ := hrel
      by_cases hlt : k < n
      · obtain ⟨go, rfl⟩ : ∃ go, go = gk := ⟨_, rfl⟩
        go_wp2
        go_loopg [1, 6] 8 (fun gh v i wr => ∃ j : Nat, j ≤ 8 ∧ gh + j = 8 ∧ i = .int .i64 j ∧ v = .int .i64 (m + ((8 * k + j : Nat) : Int)) ∧ w = wr)
        case atStart => exact ⟨0, Nat.zero_le _, rfl, rfl, by simp, rfl⟩
        case round =>
          obtain ⟨j, hj, hgj, rfl, rfl, rfl⟩ := hrel
          by_cases hlj : j < 8
          · have c1 : w.cell? ⟨b, off + k * 8 + j, none⟩ = some (.int .u8 ((m + (8 * (k : Int) + (j : Int))) % 256)) := by
              rw [HC.out k hlt j hlj]
              unfold marksA
              rw [rowAt_range _ _ _ hlt, at8_range8 _ _ hlj]
              simp
            have t1 : (((m + (8 * (k : Int) + (j : Int))) % 256) != ((m + (8 * (k : Int) + (j : Int))) % 256)) = false := by simp
            go_wp2
            go_roundg (gk - 1)
            case measure => omega
            case rel => exact ⟨j + 1, by omega, by omega, by go_num, by go_num, rfl⟩
          · have hj8 : j = 8 := by omega
            subst hj8
            go_wp2
            go_roundg (go - 1)
            case measure => omega
            case rel => exact ⟨k + 1, by omega, by omega, by go_num, by go_num, rfl⟩
      · have hkn : k = n := by omega
        go_wp2
        go_ret
        subst hkn
        exact ⟨rfl, rfl⟩

set_option maxRecDepth 100000 in
set_option maxHeartbeats 1000000 in
theorem heldNormal_any (s p : Int) (a : Option Addr) (n cap : Nat) (m : Int) (w : World) (hr : ReadsA w a n (marksA m n)) (hn : n ≤ 1048576) (h0 : 0 ≤ m) (h1 : m ≤ 4294967296) :
    Calls Try.prog 28 #[.agg #[.int .i64 s, .int .i64 p, .slice a n cap], .int .i64 m] w fun e w' => e = .returned (.int .i64 (m + ((8 * n : Nat) : Int))) ∧ Below w.heap.size w w' := by
  have HR := Lib.hid hr; clear hr
  go_enter Try.func28, Try.ntmps28
  go_wp2_with (go_at_call 75; refine (heldSimpleS_any _ _ _ _ _ (HR.out.alloc _) hn h0 h1).mono ?_; rintro e w1 ⟨rfl, rfl⟩)
  go_ret
  exact ⟨rfl, below1 w _⟩

/-- The slice of rows is the call's own, in a block from lo to hi - 1. -/
def OwnAIn (lo hi : Nat) (w : World) (a : Option Addr) (n cap : Nat) (rs : List (List Int)) : Prop := OwnA lo w a n cap rs ∧ ∀ x, a = some x → x.block < hi

theorem OwnAIn.below {lo hi : Nat} {w w' : World} {a : Option Addr} {n cap : Nat} {rs : List (List Int)} (h : OwnAIn lo hi w a n cap rs) (k : Below w.heap.size w w') : OwnAIn lo hi w' a n cap rs := ⟨h.1.below k, h.2⟩
theorem OwnAIn.alloc {lo hi : Nat} {w : World} {a : Option Addr} {n cap : Nat} {rs : List (List Int)} (h : OwnAIn lo hi w a n cap rs) (o : Obj) : OwnAIn lo hi (w.alloc o) a n cap rs := ⟨h.1.alloc o, h.2⟩
theorem OwnAIn.drew {lo hi : Nat} {w : World} {a : Option Addr} {n cap : Nat} {rs : List (List Int)} (h : OwnAIn lo hi w a n cap rs) : OwnAIn lo hi w.drew a n cap rs := h
theorem OwnAIn.reads {lo hi : Nat} {w : World} {a : Option Addr} {n cap : Nat} {rs : List (List Int)} (h : OwnAIn lo hi w a n cap rs) : ReadsA w a n rs := h.1.reads
theorem OwnA.within {B : Nat} {w : World} {a : Option Addr} {n cap : Nat} {rs : List (List Int)} (h : OwnA B w a n cap rs) : OwnAIn B w.heap.size w a n cap rs := ⟨h, fun x hx => (h.lo x hx).2⟩

theorem OwnAIn.wrote {l r lo hi : Nat} {w w' : World} {a : Option Addr} {n cap : Nat} {rs : List (List Int)} (h : OwnAIn l r w a n cap rs) (k : Wrote lo hi w w') (hd : r ≤ lo ∨ hi ≤ l) : OwnAIn l r w' a n cap rs := by
  refine ⟨⟨h.1.1, h.1.2.1, ?_⟩, h.2⟩
  rcases h.1.2.2 with h2 | ⟨g, c, cur, hv, hg, hh, rr⟩
  · exact .inl h2
  · have hgr : g < r := by
      simp only [Value.slice.injEq] at hv
      exact h.2 _ hv.1
    exact .inr ⟨g, c, cur, hv, hg, by rw [k.block g (by obtain ⟨hlt, _⟩ := Array.getElem?_eq_some_iff.1 hh; exact hlt) (by omega)]; exact hh, rr⟩

theorem OwnAIn.writes {lo hi : Nat} {w w' : World} {a : Option Addr} {n cap : Nat} {rs : List (List Int)} (h : OwnAIn lo hi w a n cap rs) (k : w.grownBy w' (a.map (·.block))) : Wrote lo hi w w' := by
  refine ⟨k.os, k.tape, k.output, k.size, fun j hj hd => k.block j hj fun e => ?_⟩
  cases a with
  | none => cases e
  | some x =>
    simp only [Option.map_some, Option.some.injEq] at e
    have h1 := (h.1.lo x rfl).1
    have h2 := h.2 x rfl
    omega

/-- The slice of rows that was there before. -/
def ReadsAOld (hi : Nat) (w : World) (a : Option Addr) (n : Nat) (rs : List (List Int)) : Prop := ReadsA w a n rs ∧ (n = 0 ∨ ∃ b off, a = some ⟨b, off, none⟩ ∧ b < hi)

theorem ReadsA.old {w : World} {a : Option Addr} {n : Nat} {rs : List (List Int)} (h : ReadsA w a n rs) : ReadsAOld w.heap.size w a n rs := by
  refine ⟨h, ?_⟩
  rcases Nat.eq_zero_or_pos n with h0 | h0
  · exact .inl h0
  · obtain ⟨b, off, ha, hb, _⟩ := h.cells h0
    exact .inr ⟨b, off, ha, hb⟩

theorem ReadsAOld.below {hi : Nat} {w w' : World} {a : Option Addr} {n : Nat} {rs : List (List Int)} (h : ReadsAOld hi w a n rs) (k : Below w.heap.size w w') : ReadsAOld hi w' a n rs := ⟨h.1.below k, h.2⟩
theorem ReadsAOld.alloc {hi : Nat} {w : World} {a : Option Addr} {n : Nat} {rs : List (List Int)} (h : ReadsAOld hi w a n rs) (o : Obj) : ReadsAOld hi (w.alloc o) a n rs := ⟨h.1.alloc o, h.2⟩
theorem ReadsAOld.drew {hi : Nat} {w : World} {a : Option Addr} {n : Nat} {rs : List (List Int)} (h : ReadsAOld hi w a n rs) : ReadsAOld hi w.drew a n rs := h

theorem ReadsAOld.wrote {lo hi top : Nat} {w w' : World} {a : Option Addr} {n : Nat} {rs : List (List Int)} (h : ReadsAOld lo w a n rs) (k : Wrote hi top w w') (hd : lo ≤ hi) : ReadsAOld lo w' a n rs := by
  refine ⟨⟨h.1.1, h.1.2.1, ?_⟩, h.2⟩
  rcases h.1.2.2 with h0 | ⟨b, off, ha, hc⟩
  · exact .inl h0
  · rcases h.2 with h0 | ⟨b', off', ha', hb⟩
    · exact .inl h0
    · rw [ha] at ha'
      cases ha'
      refine .inr ⟨b, off, ha, fun j hj i hi => ?_⟩
      have := World.block_lt_of_cell? _ _ (hc j hj i hi)
      rw [World.cell?_of_block (w := w) (k.block b this (by omega))]
      exact hc j hj i hi

theorem markNormal_in (lo hi : Nat) (s p : Int) (a : Option Addr) (n cap : Nat) (rs : List (List Int)) (m : Int) (w : World) (ho : OwnAIn lo hi w a n cap rs) (hn : n ≤ 1048576) (h0 : 0 ≤ m) (h1 : m ≤ 4294967296) :
    Calls Try.prog 27 #[.agg #[.int .i64 s, .int .i64 p, .slice a n cap], .int .i64 m] w fun e w' => e = .returned (.int .i64 (m + ((8 * n : Nat) : Int))) ∧ OwnAIn lo hi w' a n cap (marksA m n) ∧ Wrote lo hi w w' :=
  (markNormal_any lo s p a n cap rs m w ho.1 hn h0 h1).mono fun _ _ ⟨he, h2, h3⟩ => ⟨he, ⟨h2, ho.2⟩, ho.writes h3⟩

end Go.Proofs.Ytgljkffkpmkheaa
