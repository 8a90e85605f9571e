/- Merged texts. -/
import Derived.Test.YtehcbamfendbaaaSeFreP
import Derived.Test.YtehcbamfendbaaaSeValI
import Derived.Lib.AppendZeros
import Derived.Lib.Hide
import Derived.Test.YtehcbamfendbaaaSeMg11

/- slices.Clone over numbers. -/
namespace Go.Proofs.Ytehcbamfendbaaa
open Go.RowKit Go.ChangeShapes

theorem cloneI_any (a : Option Addr) (n cap : Nat) (xs : List Int) (w : World) (hr : Reads w a n xs) (hn : n ≤ 1048576) :
  Calls Try.prog 75 #[.slice a n cap] w (MadeInts w n xs) := by
 obtain ⟨i0, hi, hz0, hz1, hz2⟩ := info_parts infoInt
 cases a with
 | none =>
  have h0 : n = 0 ∧ xs = [] := by
   rcases hr.2 with h | ⟨b, off, ha, _⟩
   ·have := hr.len; subst h; exact ⟨rfl, List.eq_nil_of_length_eq_zero this⟩
   ·cases ha
  obtain ⟨rfl, rfl⟩ := h0
  clear hr
  have heq : ∀ W, Sem.run Try.prog (binOp BinOp.eql 22 (.slice none 0 cap) (.slice none 0 0)) W = .ok (.bool true) W := fun W => by kernel_rfl
  go_enter Try.func75, Try.ntmps75
  go_wp2
  go_ret
  exact ⟨_, _, rfl, Own.nil _ _, Below.refl _ _⟩
 | some ad =>
  have R := Lib.hid hr; clear hr
  have heq : ∀ W, Sem.run Try.prog (binOp BinOp.eql 22 (.slice (some ad) n cap) (.slice none 0 0)) W = .ok (.bool false) W := fun W => by kernel_rfl
  go_enter Try.func75, Try.ntmps75
  go_wp2_with (at_builtin; refine wpList_append_ints rfl _ _ 22 rfl w.heap.size i0 Try.underlying22 hi hz0 hz1 hz2 _ _ _ rfl (OwnV.empty w) _ _ _ xs rfl (R.out.alloc _) (by omega) (by simp) ?_)
  intro v' w1 ho hg
  have ho' : OwnV w.heap.size w1 v' n xs := by simpa using ho
  have HB := Lib.hid (below_appended5 (below1 w (.cells #[] 2)) (by simp) (OwnV.empty w) hg)
  clear ho hg
  obtain ⟨av, cv, rfl, ho2⟩ := ho'.form
  have HO := Lib.hid ho2; clear ho' ho2
  go_wp2
  go_ret
  exact ⟨_, _, rfl, HO.out, HB.out⟩

end Go.Proofs.Ytehcbamfendbaaa

/- Merged texts. -/

/- slices.Concat over numbers; free words within the limit. -/
namespace Go.Proofs.Ytehcbamfendbaaa
open Go.RowKit Go.Shelf Go.ChangeShapes

/-- .. where the limit is another one. -/
def mLimM (c : Int) (ys : List Int) : List Int × Int := if c < ((joinF [] ys).length : Int) then ([], 3) else (joinF [] ys, 0)

end Go.Proofs.Ytehcbamfendbaaa

/- What braids make of free words: the program. -/
namespace Go.Proofs.Ytehcbamfendbaaa
open Go.RowKit Go.Shelf Go.ChangeShapes

theorem joinF_small (xs ys : List Int) (hx : Small xs) (hy : Small ys) : Small (joinF xs ys) := by
 induction ys generalizing xs with
 | nil => exact hx
 | cons y ys ih =>
  show Small (joinF (freeStep xs y) ys)
  refine ih _ ?_ (fun z hz => hy z (List.mem_cons_of_mem _ hz))
  intro z hz
  unfold freeStep at hz
  split at hz
  ·exact hx z (List.dropLast_subset _ hz)
  ·rcases List.mem_append.1 hz with h | h
   ·exact hx z h
   ·obtain rfl := List.mem_singleton.1 h
    exact hy _ List.mem_cons_self

theorem actL_small (l : Int) (h1 : -100 < l) (h2 : l < 100) (xs : List Int) (h : Small xs) : Small (actL l xs) := by
 intro z hz
 obtain ⟨x, hx, hzx⟩ := List.mem_flatMap.1 hz
 exact putsL_small l x h1 h2 (h x hx).1 (h x hx).2 z hzx

theorem withoutPairsN_ys {gf N : Nat} {lb : Array Value} {zs : List Sm} {ys : List Int} (w : World) (hrun : ∀ args W, (callFunc gf args).run Try.prog W = .ok (.enter gf args) W) (hs : ∀ n, 1 ≤ n → SeqAt n gf lb (fun x : Sm => #[Value.int .i64 x.1]) w.heap.size zs N w) (hlen : N ≤ 1048576) (hz : zs.map (fun y : Sm => y.1) = ys) (q : Nat) (hq : q = (joinF [] ys).length) :
  Calls Try.prog 160 #[.func (.func gf) #[] lb] w (MadeInts w q (joinF [] ys)) := by
 subst hz; subst hq
 exact withoutPairsN_any w hrun hs hlen

set_option maxRecDepth 100000 in
set_option maxHeartbeats 1000000 in
theorem limitedFreeN_any {gf N : Nat} {lb : Array Value} {zs : List Sm} {ys : List Int} (c : Int) (hc : c ≤ 1048576) (w : World) (hrun : ∀ args W, (callFunc gf args).run Try.prog W = .ok (.enter gf args) W) (hs : ∀ n, 1 ≤ n → SeqAt n gf lb (fun x : Sm => #[Value.int .i64 x.1]) w.heap.size zs N w) (hlen : N ≤ 1048576) (hz : zs.map (fun y : Sm => y.1) = ys) {fxs : List Int} {fc : Int} (hM : mLimM c ys = (fxs, fc)) :
  Calls Try.prog 153 #[.func (.func gf) #[] lb, .int .i64 c] w (RetInts w fxs fc) := by
 have HS := Lib.hid hs; clear hs
 have HR := Lib.hid hrun; clear hrun
 obtain ⟨q, hqe⟩ : ∃ q, q = (joinF [] ys).length := ⟨_, rfl⟩
 have HZ := Lib.hid hz; clear hz
 by_cases hq : c < ((joinF [] ys).length : Int)
 ·simp only [mLimM, if_pos hq, Prod.mk.injEq] at hM
  obtain ⟨rfl, rfl⟩ := hM
  rw [← hqe] at hq
  have HQ := Lib.hid hqe; clear hqe
  go_enter Try.func153, Try.ntmps153
  go_wp2_with fail
  refine (withoutPairsN_ys w HR.out HS.out hlen HZ.out q HQ.out).mono ?_
  rintro e w1 ⟨a1, c1, rfl, ho, hb⟩
  have HB := Lib.hid hb; clear hb ho
  go_wp2
  go_ret2
  exact ⟨_, 0, 0, rfl, by omega, Own.nil _ _, HB.out⟩
 ·simp only [mLimM, if_neg hq, Prod.mk.injEq] at hM
  obtain ⟨rfl, rfl⟩ := hM
  rw [← hqe] at hq
  have HQ := Lib.hid hqe; clear hqe
  go_enter Try.func153, Try.ntmps153
  go_wp2_with fail
  refine (withoutPairsN_ys w HR.out HS.out hlen HZ.out q HQ.out).mono ?_
  rintro e w1 ⟨a1, c1, rfl, ho, hb⟩
  have HB := Lib.hid hb; have HO := Lib.hid ho; clear hb ho
  go_wp2
  go_ret2
  exact ⟨_, q, _, rfl, by omega, HO.out, HB.out⟩

/-- A letter's step, as a value. -/
def stepV (l : Int) : Value := .func (.func 152) #[.int .i64 l] #[]

set_option maxHeartbeats 1000000 in
theorem act_any (l : Int) (gf : Nat) (lb : Array Value) (w : World) :
  Calls Try.prog 152 #[.int .i64 l, .func (.func gf) #[] lb] w fun e w' => e = .returned (.func (.func 158) #[] #[.pointer (some ⟨w.heap.size + 1, 0, none⟩), .pointer (some ⟨w.heap.size, 0, none⟩)])
   ∧ w' = (w.alloc (.cells #[.int .i64 l] 102)).alloc (.cells #[.func (.func gf) #[] lb] 160) := by
 go_enter Try.func152, Try.ntmps152
 go_wp2
 go_ret
 exact ⟨rfl, rfl⟩

/-- .. where the limit is another one. -/
def actFM (c : Int) : List Int → List Int → Option (List Int)
 | [], now => some now
 | l :: ls, now => if c < ((joinF [] (actL l now)).length : Int) then none else actFM c ls (joinF [] (actL l now))

def mPassM (c : Int) (ls xs : List Int) : List Int × Int := match actFM c ls xs with | some ys => (ys, 0) | none => ([], 3)

theorem mPassM_nil (c : Int) (xs : List Int) : mPassM c [] xs = (xs, 0) := rfl
theorem mPassM_cons (c l : Int) (ls xs : List Int) : mPassM c (l :: ls) xs = if c < ((joinF [] (actL l xs)).length : Int) then ([], 3) else mPassM c ls (joinF [] (actL l xs)) := by
 unfold mPassM
 rw [actFM]
 by_cases h : c < ((joinF [] (actL l xs)).length : Int)
 ·rw [if_pos h, if_pos h]
 ·rw [if_neg h, if_neg h]

set_option maxRecDepth 100000 in
set_option maxHeartbeats 2000000 in
theorem passed_any (c : Int) (hc0 : 0 ≤ c) (hc4 : c ≤ 4000) (g m cs : Nat) (ls : List Int) (a : Option Addr) (n cap : Nat) (xs : List Int) (w : World) (hml : ls.length = m) (hm : m ≤ 1048576) (hg : m = 0 ∨ g < w.heap.size) (hst : ∀ j (h : j < ls.length), w.cell? ⟨g, j, none⟩ = some (stepV ls[j])) (hl8 : ∀ l ∈ ls, -100 < l ∧ l < 100)
  (hr : Reads w a n xs) (hsx : Small xs) (hn : n ≤ 4000) (ga : Option Addr) (hga : m = 0 ∨ ga = some ⟨g, 0, none⟩) {fxs : List Int} {fc : Int} (hM : mPassM c ls xs = (fxs, fc)) :
  Calls Try.prog 139 #[.slice ga m cs, .slice a n cap, .int .i64 c] w (RetInts w fxs fc) := by
 have R := Lib.hid hr; clear hr
 have HST := Lib.hid hst; have HL8 := Lib.hid hl8; have HML := Lib.hid hml; clear hst hl8 hml
 have HSX := Lib.hid hsx; have HM := Lib.hid hM; clear hsx hM
 have HG := Lib.hid hg; have HGA := Lib.hid hga; clear hg hga
 go_enter Try.func139, Try.ntmps139
 go_wp2_with fail
 refine (cloneI_any a n cap xs _ R.out (by omega)).mono ?_
 rintro e w1 ⟨a1, c1, rfl, ho, hb⟩
 have HO := Lib.hid ho; have HB := Lib.hid hb; clear ho hb
 go_wp2
 go_loopw [1, 16] (fun v i wr => ∃ (k : Nat) (now : List Int) (av : Option Addr) (nv cv : Nat), k ≤ m ∧ i = .int .i64 k ∧ v = .slice av nv cv ∧ nv ≤ 4000 ∧ Own w.heap.size wr av nv cv now ∧ Small now ∧ mPassM c (ls.drop k) now = (fxs, fc) ∧ Below w.heap.size w wr) (fun _ i _ => m - (intOf i).toNat)
 case atStart => exact ⟨0, xs, a1, n, c1, Nat.zero_le _, rfl, rfl, hn, HO.out, HSX.out, HM.out, HB.out⟩
 case round =>
  obtain ⟨k, now, av, nv, cv, hk, rfl, rfl, hnv, hov, hsn, hpm, hbv⟩ := hrel
  have HOV := Lib.hid hov; have HSN := Lib.hid hsn; have HPM := Lib.hid hpm; have HBV := Lib.hid hbv; clear hov hsn hpm hbv
  by_cases hlt : k < m
  ·have hkl : k < ls.length := by rw [HML.out]; exact hlt
   obtain ⟨l, hl⟩ : ∃ l, l = ls[k] := ⟨_, rfl⟩
   have hlb := HL8.out l (by rw [hl]; exact List.getElem_mem hkl)
   have hpm := HPM.out
   rw [List.drop_eq_getElem_cons hkl, ← hl, mPassM_cons] at hpm
   have hc := HST.out k hkl
   rw [← hl] at hc
   obtain rfl : ga = some ⟨g, 0, none⟩ := HGA.out.resolve_left (by omega)
   have hgl : g < w.heap.size := HG.out.resolve_left (by omega)
   have c0 := (HBV.out.cell (p := ⟨g, k, none⟩) hgl).trans hc
   have hpm2 := Lib.hid hpm; clear hpm hc
   have HL := Lib.hid hl; clear hl
   obtain ⟨hl1, hl2⟩ := hlb
   unfold stepV at c0
   have hz := HBV.out.size
   go_wp2_with fail
   refine (values_any _ _ _ _).mono ?_
   rintro e w2 ⟨rfl, hw2⟩
   obtain ⟨zs, hzs⟩ := sm_of now HSN.out
   have hzl : zs.length ≤ 4000 := by have h1 := congrArg List.length hzs; rw [List.length_map] at h1; have := HOV.out.len; omega
   have hsq := values_seq (wr.heap.size + 1 + 1 + 1) av nv cv now zs wr HOV.out.reads hzs (by omega) (by omega)
   rw [← hw2] at hsq
   have hs2 : w2.heap.size = wr.heap.size + 1 := by rw [hw2]; simp
   have hb2 : Below wr.heap.size wr w2 := by rw [hw2]; exact below1 wr _
   clear hw2
   have HSQ := Lib.hid hsq; have HS2 := Lib.hid hs2; have HB2 := Lib.hid hb2; clear hsq hs2 hb2
   go_wp2_with fail
   refine (act_any l _ _ w2).mono ?_
   rintro e w3 ⟨rfl, hw3⟩
   have b3 : Below w2.heap.size w2 w3 := by rw [hw3]; exact below2 w2 _ _
   have hs3 : w3.heap.size = wr.heap.size + 1 + 1 + 1 := by rw [hw3]; simp [HS2.out]
   have c3 : w3.cell? ⟨w2.heap.size, 0, none⟩ = some (.int .i64 l) := by rw [hw3]; exact ((Boxed.new w2 102 (.int .i64 l)).alloc _).cell
   have c4 : w3.cell? ⟨w2.heap.size + 1, 0, none⟩ = some (.func (.func 161) #[] #[.pointer (some ⟨wr.heap.size, 0, none⟩)]) := by
    have := (Boxed.new (w2.alloc (.cells #[.int .i64 l] 102)) 160 (.func (.func 161) #[] #[.pointer (some ⟨wr.heap.size, 0, none⟩)])).cell
    rw [World.size_alloc] at this
    rw [hw3]; exact this
   have sq3 := HSQ.out.below b3
   have hat := fun q => act_seq l hl1 hl2 sq3 (w2.heap.size + 1) w2.heap.size (by have := HS2.out; omega) (by have := HS2.out; omega) (by omega) c4 c3 q
   have hfv := flat_val l hl1 hl2 zs
   rw [hzs] at hfv
   have hb3 : Below w.heap.size w w3 := (HBV.out.trans (HB2.out.mono hz)).trans (b3.mono (by have := HS2.out; omega))
   have HAT : Hid (∀ q, 1 ≤ q → SeqAt q 158 #[.pointer (some ⟨w2.heap.size + 1, 0, none⟩), .pointer (some ⟨w2.heap.size, 0, none⟩)] (fun x : Sm => #[Value.int .i64 x.1]) w3.heap.size (zs.flatMap (psS l hl1 hl2)) (3 * zs.length) w3) := Lib.hid (fun q _ => by rw [hs3]; exact hat q)
   have hjs : Small (joinF [] (actL l now)) := joinF_small _ _ (fun _ h => by cases h) (actL_small l hl1 hl2 now HSN.out)
   have HJS := Lib.hid hjs; have HFV := Lib.hid hfv; have HB3 := Lib.hid hb3; have HS3 := Lib.hid hs3
   clear hjs hfv hb3 hat sq3 c3 c4 b3 hw3 hs3
   have hz3 := HB3.out.size
   have hrun : ∀ args W, (callFunc 158 args).run Try.prog W = .ok (.enter 158 args) W := enters_of Try.func158 (by kernel_rfl) rfl
   have HRUN := Lib.hid hrun; clear hrun
   obtain ⟨q, hq⟩ : ∃ q, q = (joinF [] (actL l now)).length := ⟨_, rfl⟩
   by_cases hq4 : c < (q : Int)
   ·have hpm := hpm2.out
    rw [← hq, if_pos hq4] at hpm
    obtain ⟨rfl, rfl⟩ := Prod.mk.injEq .. ▸ hpm
    have hml : mLimM c (actL l now) = ([], 3) := by rw [mLimM, ← hq, if_pos hq4]
    have HML2 := Lib.hid hml; clear hml hq hpm
    go_wp2_with fail
    refine (limitedFreeN_any c (by omega) w3 HRUN.out HAT.out (by omega) HFV.out HML2.out).mono ?_
    rintro e w4 ⟨a4, n4, c4, rfl, hl4, ho4, hb4⟩
    have HB4 := Lib.hid hb4; clear hb4 ho4
    have t1 : ((3 : Int) != 0) = true := by simp
    go_wp2
    go_ret2
    exact ⟨none, 0, 0, rfl, by omega, Own.nil _ _, HB3.out.trans (HB4.out.mono hz3)⟩
   ·have hpm := hpm2.out
    rw [← hq, if_neg hq4] at hpm
    have hml : mLimM c (actL l now) = (joinF [] (actL l now), 0) := by rw [mLimM, ← hq, if_neg hq4]
    have HML2 := Lib.hid hml; have HPM2 := Lib.hid hpm; have HQ := Lib.hid hq; clear hml hq hpm
    go_wp2_with fail
    refine (limitedFreeN_any c (by omega) w3 HRUN.out HAT.out (by omega) HFV.out HML2.out).mono ?_
    rintro e w4 ⟨a4, n4, c4, rfl, hl4, ho4, hb4⟩
    have hn4 : n4 ≤ 4000 := by have := ho4.len; have := HQ.out; omega
    have HB4 := Lib.hid hb4; have HO4 := Lib.hid ho4; clear hb4 ho4
    go_wp2
    go_roundw
    case rel => exact ⟨k + 1, _, a4, n4, c4, by omega, by go_num, rfl, hn4, HO4.out.mono hz3, HJS.out, HPM2.out, HB3.out.trans (HB4.out.mono hz3)⟩
    case measure => simp [intOf]; omega
  ·have hkm : k = m := by omega
   have HK := Lib.hid hkm; clear hkm
   go_wp2
   go_ret2
   have hp := HPM.out
   rw [HK.out, ← HML.out, List.drop_length, mPassM_nil] at hp
   obtain ⟨rfl, rfl⟩ := Prod.mk.injEq .. ▸ hp
   exact ⟨av, nv, cv, rfl, by omega, HOV.out, HBV.out⟩

end Go.Proofs.Ytehcbamfendbaaa
