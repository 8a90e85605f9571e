/- The pipeline of a braid's letters; what a braid makes of a free word: the program. -/
import Derived.Test.YtmlejlediflaaaaPss
import Derived.Test.YtmlejlediflaaaaFwI
namespace Go.Proofs.Ytmlejlediflaaaa
open Go.RowKit Go.ChangeShapes

theorem infoStep : (Try.prog.info? 109).map (fun i => (i.zero, i.size, i.bytes)) = some (some .nilFunc, 1, 8) := by kernel_rfl

/-- A slice of the letters' steps. -/
def OwnF (B : Nat) (w : World) (v : Value) (n : Nat) (ls : List Int) : Prop := w.ownsRow B 109 1 v n (ls.map stepV)

theorem OwnF.form {B : Nat} {w : World} {v : Value} {n : Nat} {ls : List Int} (h : OwnF B w v n ls) : ∃ a cap, v = .slice a n cap := by
  rcases h.2 with ⟨hv, h0⟩ | ⟨g, c, cur, hv, _⟩
  · subst h0; exact ⟨_, _, hv⟩
  · exact ⟨_, _, hv⟩

theorem below_grownF {B : Nat} {w wr w1 : World} {v : Value} {n : Nat} {e : TypeId} {size : Nat} {xs : List Value} {o : Obj} (hbl : Below B w wr) (hs : B ≤ wr.heap.size) (hr : wr.ownsRow B e size v n xs) (hg : (wr.alloc o).grownBy w1 v.ownBlock) : Below B w w1 := by
  refine (hbl.alloc hs o).grown hg (by simp; omega) fun j ej => ?_
  rcases hr.2 with ⟨rfl, _⟩ | ⟨g, cap, cur, rfl, hb, _, _⟩
  · simp [Value.ownBlock] at ej
  · obtain rfl : g = j := by simpa [Value.ownBlock] using ej
    exact hb

theorem step_new (w : World) (l : Int) (t : TypeId) : ∀ j u, [stepV l][j]? = some u → (w.alloc (.cells #[stepV l] t)).cell? ((⟨w.heap.size, 0, none⟩ : Addr).add j) = some u := by
  intro j u hj
  match j, hj with
  | 0, hj => simp at hj; subst hj; simp [Addr.add]

theorem step_cell (l : Int) : ∀ u ∈ [stepV l], u.oneCell' = true := by
  intro u hu
  simp at hu
  subst hu
  rfl

set_option maxRecDepth 100000 in
set_option maxHeartbeats 1000000 in
theorem pipeline_any (s : Int) (a : Option Addr) (n cap : Nat) (ls : List Int) (w : World) (hr : Reads w a n ls) (hn : n ≤ 1048576) :
    Calls Try.prog 88 #[.agg #[.int .i64 s, .slice a n cap]] w fun e w' => ∃ v, e = .returned v ∧ OwnF w.heap.size w' v n ls ∧ Below w.heap.size w w' := by
  obtain ⟨i0, hi, hz0, hz1, hz2⟩ := info_parts infoStep
  have HL := Lib.hid hr.len
  have A := Lib.hid (At2.new w (.int .i64 s) (.slice a n cap) 24)
  have hb0 := below1 w (.cells #[.int .i64 s, .slice a n cap] 24)
  have HR := Lib.hid hr; clear hr
  obtain ⟨qA1, qA2, qA3, qA4, qA5⟩ := A.out
  go_enter Try.func88, Try.ntmps88
  go_wp2
  clear qA1 qA2 qA3 qA4 qA5
  go_loopw [3, 9] (fun v i wr => ∃ k : Nat, k ≤ n ∧ i = .int .i64 k ∧ OwnF w.heap.size wr v k (ls.take k) ∧ Below w.heap.size w wr) (fun _ i _ => n - (intOf i).toNat)
  case atStart => exact ⟨0, Nat.zero_le _, rfl, World.ownsRow_nil _ _ _ _, hb0⟩
  case round =>
    obtain ⟨k, hk, rfl, ho, hbl⟩ := hrel
    by_cases hlt : k < n
    · obtain ⟨b, off, rfl, hb, hc⟩ := HR.out.cells (by omega)
      obtain ⟨l, hl⟩ : ∃ l, l = ls.getD k 0 := ⟨_, rfl⟩
      have h1 : wr.cell? ⟨b, off + k, none⟩ = some (.int .i64 l) := by rw [hl]; exact (hbl.cell (by exact hb)).trans (hc _ hlt)
      have HX := Lib.hid hl; clear hl hc
      have hz : w.heap.size ≤ wr.heap.size := hbl.size
      have HO := Lib.hid ho; have HB := Lib.hid hbl; clear ho hbl
      go_wp2_with (at_builtin; refine wpList_append_own _ rfl _ _ 84 rfl w.heap.size 109 i0 .nilFunc 1 8 Try.underlying84 hi hz0 hz1 hz2 rfl (by decide) _ _ _ rfl (World.ownsRow.alloc HO.out _) ⟨wr.heap.size, 0, none⟩ 1 1 [stepV l] rfl rfl (step_new wr l _) (step_cell _) (by unfold maxLen; omega) (by omega) (by simp; omega) ?_)
      intro v' w1 hown' hgrow _
      have ho' : OwnF w.heap.size w1 v' (k + 1) (ls.take (k + 1)) := by
        have e : ls.take (k + 1) = ls.take k ++ [l] := by rw [take_snoc ls k (by have := HL.out; omega), HX.out]
        rw [e, OwnF, List.map_append, List.map_take]
        exact hown'
      have HB' := Lib.hid (below_grownF HB.out hz HO.out hgrow)
      have HO' := Lib.hid ho'
      clear hown' hgrow ho'
      go_wp2
      go_roundw
      case rel => exact ⟨k + 1, by omega, by go_num, HO'.out, HB'.out⟩
      case measure => simp [intOf]; omega
    · have hkn : k = n := by omega
      have HK := Lib.hid hkn; clear hkn
      go_wp2
      go_ret
      rw [HK.out, List.take_of_length_le (by have := HL.out; omega)] at ho
      exact ⟨_, rfl, ho, hbl⟩

/-- What a braid makes of a free word, and the code. -/
def mActFree (s : Int) (ls xs : List Int) : List Int × Int := if isBraid s ls = true ∧ isFree s xs = true then mPass ls xs else ([], 1)

theorem letters_bd {s : Int} {ls : List Int} (h : isBraid s ls = true) : ∀ l ∈ ls, -100 < l ∧ l < 100 := by
  obtain ⟨h1, h2, _, h4⟩ := (isBraid_iff s ls).1 h
  intro l hl
  have := h4 l hl
  omega

set_option maxRecDepth 100000 in
set_option maxHeartbeats 1000000 in
theorem implActOnFree_any {s : Int} {a b : Option Addr} {n m cap capb : Nat} {ls xs : List Int} {w : World} {fxs : List Int} {fc : Int} (hr : Reads w a n ls) (_hf : Fits ls) (hn : n ≤ 1048576) (hr2 : Reads w b m xs) (hm : m ≤ 1048576) (hM : mActFree s ls xs = (fxs, fc)) :
    Calls Try.prog 52 #[.agg #[.int .i64 s, .slice a n cap], .slice b m capb] w (RetInts w fxs fc) := by
  have R := Lib.hid (hr.alloc (.cells #[.int .i64 s, .slice a n cap] 24)); clear hr
  have T := Lib.hid (hr2.alloc (.cells #[.int .i64 s, .slice a n cap] 24)); clear hr2
  have A := Lib.hid (At2.new w (.int .i64 s) (.slice a n cap) 24)
  have BB := Lib.hid (below1 w (.cells #[.int .i64 s, .slice a n cap] 24))
  obtain ⟨qA1, qA2, qA3, qA4, qA5⟩ := A.out
  by_cases hbr : isBraid s ls = true
  · by_cases hfr : isFree s xs = true
    · rw [mActFree, if_pos ⟨hbr, hfr⟩] at hM
      have HM := Lib.hid hM; clear hM
      have HSX := Lib.hid (small_of_isFree hfr)
      have HLB := Lib.hid (letters_bd hbr)
      have hm4 : m ≤ 4000 := by have := len_of_isFree hfr; have := T.out.len; omega
      go_enter Try.func52, Try.ntmps52
      go_wp2_with fail
      refine (implIsBraid_any s a n cap ls _ R.out hn).mono ?_
      rintro e w1 ⟨rfl, hb⟩
      clear qA1 qA2 qA3 qA4 qA5
      replace R := Lib.hid (R.out.below hb); replace T := Lib.hid (T.out.below hb); replace A := Lib.hid (A.out.below hb)
      replace BB := Lib.hid (below_go BB.out hb (by simp)); clear hb
      obtain ⟨qA1, qA2, qA3, qA4, qA5⟩ := A.out
      go_wp2_with fail
      refine (isFreeWord_any s b m capb xs _ T.out hm).mono ?_
      rintro e w2 ⟨rfl, hb⟩
      clear qA1 qA2 qA3 qA4 qA5
      replace R := Lib.hid (R.out.below hb); replace T := Lib.hid (T.out.below hb); replace A := Lib.hid (A.out.below hb)
      replace BB := Lib.hid (below_go BB.out hb BB.out.size); clear hb
      obtain ⟨qA1, qA2, qA3, qA4, qA5⟩ := A.out
      go_wp2_with fail
      refine (pipeline_any s a n cap ls _ R.out hn).mono ?_
      rintro e w3 ⟨v3, rfl, ho, hb⟩
      clear qA1 qA2 qA3 qA4 qA5
      have z2 := BB.out.size
      have hlen := R.out.len
      replace T := Lib.hid (T.out.below hb)
      replace BB := Lib.hid (below_go BB.out hb z2)
      have z3 := BB.out.size
      obtain ⟨ga, cs, rfl⟩ := ho.form
      have hcell : (n = 0 ∨ ∃ g, ga = some ⟨g, 0, none⟩ ∧ g < w3.heap.size ∧ ∀ j (h : j < ls.length), w3.cell? ⟨g, j, none⟩ = some (stepV ls[j])) := by
        rcases Nat.eq_zero_or_pos n with h0 | h0
        · exact .inl h0
        · right
          rcases ho.2 with ⟨hv, h1⟩ | ⟨g, c, cur, hv, hB, hh, _⟩
          · omega
          · obtain ⟨rfl, _, rfl⟩ := Value.slice.injEq .. ▸ hv
            refine ⟨g, rfl, (Array.getElem?_eq_some_iff.1 hh).1, fun j hj => ?_⟩
            have := World.ownsRow.cellAt ho j (by omega)
            rw [this]
            simp [hj]
      have HO := Lib.hid hcell; clear hcell ho hb
      have hgp : ∃ g, (n = 0 ∨ ga = some ⟨g, 0, none⟩) ∧ (n = 0 ∨ g < w3.heap.size) ∧ ∀ j (h : j < ls.length), w3.cell? ⟨g, j, none⟩ = some (stepV ls[j]) := by
        rcases HO.out with h0 | ⟨g, h1, h2, h3⟩
        · exact ⟨0, .inl h0, .inl h0, fun j hj => by omega⟩
        · exact ⟨g, .inr h1, .inr h2, h3⟩
      obtain ⟨g, g1, g2, g3⟩ := hgp
      have G1 := Lib.hid g1; have G2 := Lib.hid g2; have G3 := Lib.hid g3; have HLN := Lib.hid hlen; clear g1 g2 g3 hlen HO
      go_wp2_with fail
      refine (passed_any 4000 (by omega) (by omega) g n cs ls b m capb xs w3 HLN.out hn G2.out G3.out HLB.out T.out HSX.out hm4 ga G1.out ((mPassM_4000 _ _).trans HM.out)).mono ?_
      rintro e w4 ⟨a4, n4, c4, rfl, hl, ho, hb⟩
      have O := Lib.hid ho; replace BB := Lib.hid (below_go BB.out hb z3); clear ho hb
      go_wp2
      go_ret2
      exact ⟨a4, n4, c4, rfl, hl, O.out.mono z3, BB.out⟩
    · rw [mActFree, if_neg (fun h => hfr h.2)] at hM
      obtain ⟨rfl, rfl⟩ := Prod.mk.injEq .. ▸ hM
      have hf' : isFree s xs = false := by simpa using hfr
      clear hfr hM
      go_enter Try.func52, Try.ntmps52
      go_wp2_with fail
      refine (implIsBraid_any s a n cap ls _ R.out hn).mono ?_
      rintro e w1 ⟨rfl, hb⟩
      clear qA1 qA2 qA3 qA4 qA5
      replace T := Lib.hid (T.out.below hb); replace A := Lib.hid (A.out.below hb)
      replace BB := Lib.hid (below_go BB.out hb (by simp)); clear hb
      obtain ⟨qA1, qA2, qA3, qA4, qA5⟩ := A.out
      go_wp2_with fail
      refine (isFreeWord_any s b m capb xs _ T.out hm).mono ?_
      rintro e w2 ⟨rfl, hb⟩
      replace BB := Lib.hid (below_go BB.out hb BB.out.size); clear hb
      clear qA1 qA2 qA3 qA4 qA5
      go_wp2
      go_ret2
      exact ⟨none, 0, 0, rfl, by omega, Own.nil _ _, BB.out⟩
  · rw [mActFree, if_neg (fun h => hbr h.1)] at hM
    obtain ⟨rfl, rfl⟩ := Prod.mk.injEq .. ▸ hM
    have hf' : isBraid s ls = false := by simpa using hbr
    clear hbr hM
    go_enter Try.func52, Try.ntmps52
    go_wp2_with fail
    refine (implIsBraid_any s a n cap ls _ R.out hn).mono ?_
    rintro e w1 ⟨rfl, hb⟩
    replace BB := Lib.hid (below_go BB.out hb (by simp)); clear hb
    clear qA1 qA2 qA3 qA4 qA5
    go_wp2
    go_ret2
    exact ⟨none, 0, 0, rfl, by omega, Own.nil _ _, BB.out⟩

end Go.Proofs.Ytmlejlediflaaaa
