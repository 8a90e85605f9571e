/- Braids that act alike: the model's answer, the program's. -/
import Derived.Test.YtmlejlediflaaaaIImg
import Derived.Test.YtmlejlediflaaaaSameI
import Derived.Test.YtmlejlediflaaaaBrs
import Derived.Deep.RegionHeld3
namespace Go.Proofs.Ytmlejlediflaaaa
open Go.RowKit Go.ChangeShapes

/-- Whether two words of n strands have the same images, and the code. -/
def mSA (n : Nat) (xs ys : List Int) : Bool × Int :=
  match imgs xs n with
  | none => (false, 3)
  | some l1 => match imgs ys n with
    | none => (false, 3)
    | some l2 => (decide (l1 = l2), 0)

def mSameAct (s : Int) (xs : List Int) (t : Int) (ys : List Int) : Bool × Int :=
  if isBraid s xs = true ∧ isBraid t ys = true then (if s = t then mSA s.toNat xs ys else (false, 2)) else (false, 1)

theorem rows_eq (rs ts : List RowV) (hl : rs.length = ts.length) (h : ∀ j (h1 : j < rs.length) (h2 : j < ts.length), rs[j].xs = ts[j].xs) : rs.map RowV.xs = ts.map RowV.xs := by
  apply List.ext_getElem
  · simp [hl]
  · intro j h1 h2
    simp only [List.getElem_map]
    exact h j (by simpa using h1) (by simpa using h2)

theorem rows_ne (rs ts : List RowV) (j : Nat) (h1 : j < rs.length) (h2 : j < ts.length) (h : rs[j].xs ≠ ts[j].xs) : rs.map RowV.xs ≠ ts.map RowV.xs := fun e => by
  apply h
  have := congrArg (fun l => l[j]?) e
  simp only [List.getElem?_map, List.getElem?_eq_getElem h1, List.getElem?_eq_getElem h2, Option.map_some] at this
  exact Option.some.inj this

set_option maxRecDepth 100000 in
set_option maxHeartbeats 1000000 in
theorem equalFunc_any (ad bd : Option Addr) (m c d : Nat) (rs ts : List RowV) (w : World) (hr : ReadsSS w ad m rs) (ht : ReadsSS w bd m ts) (hm : m ≤ 1048576) :
    Calls Try.prog 93 #[.slice ad m c, .slice bd m d, .func (.func 94) #[] #[]] w fun e w' => e = .returned (.bool (decide (rs.map RowV.xs = ts.map RowV.xs))) ∧ Below w.heap.size w w' := by
  have HR := Lib.hid hr; have HT := Lib.hid ht; have HLR := Lib.hid hr.1; have HLT := Lib.hid ht.1; clear hr ht
  have t0 : ((m : Int) != (m : Int)) = false := by simp
  go_enter Try.func93, Try.ntmps93
  go_wp2
  go_loopw [17] (fun i wr => ∃ k : Nat, k ≤ m ∧ i = .int .i64 k ∧ Hid (∀ j (h1 : j < rs.length) (h2 : j < ts.length), j < k → rs[j].xs = ts[j].xs) ∧ Below w.heap.size w wr) (fun i _ => m - (intOf i).toNat)
  case atStart => exact ⟨0, Nat.zero_le _, rfl, Lib.hid (fun j _ _ h => by omega), Below.refl _ _⟩
  case round =>
    obtain ⟨k, hk, rfl, HS, hb⟩ := hrel
    have HB := Lib.hid hb; clear hb
    obtain ⟨wo, rfl⟩ : ∃ x, x = wr := ⟨_, rfl⟩
    by_cases hlt : k < m
    · have kr : k < rs.length := by rw [HLR.out]; exact hlt
      have kt : k < ts.length := by rw [HLT.out]; exact hlt
      obtain ⟨g1, o1, rfl, hc1⟩ := HR.out.2.1.resolve_left (by omega)
      obtain ⟨g2, o2, rfl, hc2⟩ := HT.out.2.1.resolve_left (by omega)
      have x1 := hc1 k kr
      have x2 := hc2 k kt
      have c1 := (HB.out.cell (p := ⟨g1, o1 + k, none⟩) (World.block_lt_of_cell? _ _ x1)).trans x1
      have c2 := (HB.out.cell (p := ⟨g2, o2 + k, none⟩) (World.block_lt_of_cell? _ _ x2)).trans x2
      have R1 := Lib.hid ((HR.out.2.2 rs[k] (List.getElem_mem kr)).1.below HB.out)
      have R2 := Lib.hid ((HT.out.2.2 ts[k] (List.getElem_mem kt)).1.below HB.out)
      have hb1 := (HR.out.2.2 rs[k] (List.getElem_mem kr)).2
      obtain ⟨r1, hr1⟩ : ∃ r, r = rs[k] := ⟨_, rfl⟩
      obtain ⟨r2, hr2⟩ : ∃ r, r = ts[k] := ⟨_, rfl⟩
      rw [← hr1] at c1 R1 hb1
      rw [← hr2] at c2 R2
      have HR1 := Lib.hid hr1; have HR2 := Lib.hid hr2; clear hr1 hr2 x1 x2 hc1 hc2
      have k0 : 0 ≤ (k : Int) := by omega
      have k1 : (k : Int) < (m : Int) := by omega
      go_wp2_with fail
      refine (slEqual_any r1.a r2.a r1.n r2.n r1.cap r2.cap r1.xs r2.xs _ R1.out R2.out (by unfold maxLen; omega)).mono ?_
      rintro e w1 ⟨rfl, hb⟩
      have B1 := Lib.hid (below_go HB.out hb HB.out.size); clear hb
      by_cases he : r1.xs = r2.xs
      · have HE := Lib.hid he
        have t1 : decide (r1.xs = r2.xs) = true := decide_eq_true he
        clear he
        go_wp2
        go_roundw
        case rel =>
          refine ⟨k + 1, by omega, by go_num, Lib.hid fun j h1 h2 hj => ?_, B1.out⟩
          by_cases hjk : j = k
          · subst hjk; rw [← HR1.out, ← HR2.out]; exact HE.out
          · exact HS.out j h1 h2 (by omega)
        case measure => simp [intOf]; omega
      · have t1 : decide (r1.xs = r2.xs) = false := decide_eq_false he
        have hne := rows_ne rs ts k kr kt (by rw [← HR1.out, ← HR2.out]; exact he)
        have HN := Lib.hid hne; clear hne he
        go_wp2
        go_ret
        exact ⟨ret_bool (decide_eq_false HN.out).symm, B1.out⟩
    · have hkm : k = m := by omega
      have he := rows_eq rs ts (by rw [HLR.out, HLT.out]) (fun j h1 h2 => HS.out j h1 h2 (by rw [hkm, ← HLR.out]; exact h1))
      have HE := Lib.hid he; clear he hkm
      go_wp2
      go_ret
      exact ⟨ret_bool (decide_eq_true HE.out).symm, HB.out⟩

end Go.Proofs.Ytmlejlediflaaaa
