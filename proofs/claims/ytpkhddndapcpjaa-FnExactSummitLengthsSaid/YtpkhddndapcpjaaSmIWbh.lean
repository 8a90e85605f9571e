/- The program: weighed factors with one more behind them. -/
import Derived.Test.YtpkhddndapcpjaaSmBB
import Derived.Test.YtpkhddndapcpjaaSmKit15
import Derived.Test.YtpkhddndapcpjaaSmIRows
import Derived.Test.YtpkhddndapcpjaaSmIIs
import Derived.Test.YtpkhddndapcpjaaSmKK
import Derived.Test.YtpkhddndapcpjaaSmPB
import Derived.Test.YtpkhddndapcpjaaSmIWgh
import Derived.Deep.RegionHeld3
import Derived.Deep.DeepCutAuto
import Derived.Deep.RegionLawGrows
namespace Go.Proofs.Ytpkhddndapcpjaa
open Go.RowKit Go.ChangeShapes

/-- The walk stops: what is ahead is weighed. -/
theorem pass_stop {n : Nat} {l : List (List Int)} {x : List Int} {rows : List (List Int)} {j : Nat} (h : PassAt n l x rows (j + 1)) (hl : Sims n l) (hr : Sims n rows) (hw : Wl n l) (e : (both n (rowAt rows j) (rowAt rows (j + 1))).1 = rowAt rows j) : rows.reverse = sweep n l.reverse x := by
 obtain ⟨h1, h2, h3, h4⟩ := h
 have ha := hr _ (rowAt_getElem (l := rows) (j := j) (by omega))
 have hx := hr _ (rowAt_getElem (l := rows) (j := j + 1) (by omega))
 have hwg := wgt_of_both ha hx e
 have hch : Chain n (l.take (j + 1)).reverse := chain_rev (by
  refine wl_at.2 fun t ht => ?_
  simp at ht
  rw [rowAt_take (by omega), rowAt_take (by omega)]
  exact wl_at.1 hw t (by omega))
 have e1 : (l.take (j + 1)).reverse = rowAt rows j :: (l.take j).reverse := by
  rw [List.take_succ_eq_append_getElem (by omega), List.reverse_append, h3 j (by omega), rowAt_lt (by omega)]
  rfl
 have e2 : sweep n (l.take (j + 1)).reverse (rowAt rows (j + 1)) = rowAt rows (j + 1) :: (l.take (j + 1)).reverse := by
  refine sweep_same (fun y hy => hl y (List.mem_of_mem_take (by simpa using hy))) hx ?_
  rw [e1] at hch ⊢
  exact ⟨hwg, hch⟩
 rw [h4, e2]
 have e3 : rows.take (j + 1) = l.take (j + 1) := by
  refine rows_ext (by simp; omega) fun t ht => ?_
  simp at ht
  rw [rowAt_take (by omega), rowAt_take (by omega), h3 t (by omega)]
 have e4 : rows = rows.take (j + 1) ++ rowAt rows (j + 1) :: rows.drop (j + 1 + 1) := by
  conv => lhs; rw [← List.take_append_drop (j + 1) rows, List.drop_eq_getElem_cons (by omega)]
  rw [rowAt_lt (by omega)]
 conv => lhs; rw [e4]
 rw [List.reverse_append, List.reverse_cons, e3, List.append_assoc]
 rfl

theorem pass_done {n : Nat} {l : List (List Int)} {x : List Int} {rows : List (List Int)} (h : PassAt n l x rows 0) : rows.reverse = sweep n l.reverse x := pass_end h

/-- Where the loop has come to. -/
structure AtWb (w wx : World) (gb c : Nat) (rows : List (List Int)) (len : Nat) : Prop where
 own : OwnA (w.heap.size + 1) wx (some ⟨gb, 0, none⟩) len c rows
 bel : Below w.heap.size w wx
 hi : gb < wx.heap.size
 lo : w.heap.size + 1 ≤ gb

theorem AtWb.below {w wx W : World} {gb c len : Nat} {rows : List (List Int)} (h : AtWb w wx gb c rows len) (k : Below wx.heap.size wx W) : AtWb w W gb c rows len :=
 ⟨h.own.below k, h.bel.trans (k.mono h.bel.size), Nat.lt_of_lt_of_le h.hi k.size, h.lo⟩

theorem AtWb.store {w wx : World} {gb c len : Nat} {rows : List (List Int)} (h : AtWb w wx gb c rows len) (j : Nat) (hj : j < len) (r : List Int) (hr : r.length = 8) :
  AtWb w ((((((((wx.setCell ⟨gb, j * 8, none⟩ (.int .u8 (at8 r 0))).setCell ⟨gb, j * 8 + 1, none⟩ (.int .u8 (at8 r 1))).setCell ⟨gb, j * 8 + 2, none⟩ (.int .u8 (at8 r 2))).setCell ⟨gb, j * 8 + 3, none⟩ (.int .u8 (at8 r 3))).setCell ⟨gb, j * 8 + 4, none⟩ (.int .u8 (at8 r 4))).setCell ⟨gb, j * 8 + 5, none⟩ (.int .u8 (at8 r 5))).setCell ⟨gb, j * 8 + 6, none⟩ (.int .u8 (at8 r 6))).setCell ⟨gb, j * 8 + 7, none⟩ (.int .u8 (at8 r 7))) gb c (rows.set j r) len :=
 have hlo := h.lo
 ⟨h.own.store j hj r hr, below_fill8a h.bel gb (by omega) _ _ _ _ _ _ _ _ _, by have := h.hi; simpa [World.setCell] using this, h.lo⟩

/-- What withBehind gives. -/
def RetWB (w : World) (n : Nat) (R : List (List Int)) (e : Ending) (w' : World) : Prop :=
 ∃ gb c, e = .returned (.slice (some ⟨gb, 0, none⟩) (n + 1 : Nat) c) ∧ OwnA w.heap.size w' (some ⟨gb, 0, none⟩) (n + 1) c R ∧ Below w.heap.size w w'

set_option maxRecDepth 100000 in
set_option maxHeartbeats 4000000 in
theorem withBehind_any (F : FuncId) (m : Nat) (a : Option Addr) (n cap : Nat) (l : List (List Int)) (s : List Int) (w : World) (hr : ReadsA w a n l) (hcap : n ≤ cap) (hl : Nl m l) (hss : Sim m s) (hn : n ≤ 100000)
  (hcall : ∀ (args : Array Value) (W : World), Sem.run Try.prog (callFunc F args) W = .ok (.enter F args) W)
  (hF : ∀ ra rb, Sim m ra → Sim m rb → ∀ W, Calls Try.prog F #[arr8 .u8 ra, arr8 .u8 rb, .int .i64 m] W (RetTwo W (both m ra rb).1 (both m ra rb).2)) :
  Calls Try.prog 76 #[.slice a n cap, arr8 .u8 s, .int .i64 m, .func (.func F) #[] #[]] w (RetWB w n (sweep m l.reverse s).reverse) := by
 obtain ⟨i0, hi, hz0, hz1, hz2⟩ := info_parts infoSimple
 have HL := Lib.hid hl; clear hl
 have SS := Lib.hid hss; clear hss
 have HF := Lib.hid hF; clear hF
 have HN := Lib.hid hr.len
 have Rd := Lib.hid hr
 have hnone : a = none → n = 0 := fun h => by
  rcases hr.2.2 with h0 | ⟨b, off, ha, _⟩
  ·exact h0
  ·rw [h] at ha; cases ha
 have HNONE := Lib.hid hnone
 clear hr hnone
 have hlen := Lib.hid SS.out.len
 go_enter Try.func76, Try.ntmps76
 have X := Lib.hid (Row8.place w .u8 s 53 w.heap.size rfl hlen.out)
 have B := Lib.hid (below1 w (.cells #[.int .u8 (at8 s 0), .int .u8 (at8 s 1), .int .u8 (at8 s 2), .int .u8 (at8 s 3), .int .u8 (at8 s 4), .int .u8 (at8 s 5), .int .u8 (at8 s 6), .int .u8 (at8 s 7)] 53))
 replace Rd := Lib.hid (Rd.out.alloc (.cells #[.int .u8 (at8 s 0), .int .u8 (at8 s 1), .int .u8 (at8 s 2), .int .u8 (at8 s 3), .int .u8 (at8 s 4), .int .u8 (at8 s 5), .int .u8 (at8 s 6), .int .u8 (at8 s 7)] 53))
 have zy : Hid ((w.alloc (.cells #[.int .u8 (at8 s 0), .int .u8 (at8 s 1), .int .u8 (at8 s 2), .int .u8 (at8 s 3), .int .u8 (at8 s 4), .int .u8 (at8 s 5), .int .u8 (at8 s 6), .int .u8 (at8 s 7)] 53)).heap.size = w.heap.size + 1) := Lib.hid (by simp)
 obtain ⟨W1, hW1⟩ : ∃ W1, W1 = w.alloc (.cells #[.int .u8 (at8 s 0), .int .u8 (at8 s 1), .int .u8 (at8 s 2), .int .u8 (at8 s 3), .int .u8 (at8 s 4), .int .u8 (at8 s 5), .int .u8 (at8 s 6), .int .u8 (at8 s 7)] 53) := ⟨_, rfl⟩
 have hc1 : (n : Int) ≤ (cap : Int) := by omega
 go_upto_region 2 with fail
 rw [← hW1] at X B Rd zy ⊢
 clear hW1
 have hcf : n < n + 1 := Nat.lt_succ_self n
 have KB : Hid (Below W1.heap.size W1 W1.drew) := Lib.hid (Below.refl W1.heap.size W1).drew
 have SH : Hid (∀ W, Below W1.heap.size W1 W → W.cell? ⟨w.heap.size, 0, none⟩ = some (.int .u8 (at8 s 0)) ∧ W.cell? ⟨w.heap.size, 1, none⟩ = some (.int .u8 (at8 s 1)) ∧ W.cell? ⟨w.heap.size, 2, none⟩ = some (.int .u8 (at8 s 2)) ∧ W.cell? ⟨w.heap.size, 3, none⟩ = some (.int .u8 (at8 s 3)) ∧ W.cell? ⟨w.heap.size, 4, none⟩ = some (.int .u8 (at8 s 4)) ∧ W.cell? ⟨w.heap.size, 5, none⟩ = some (.int .u8 (at8 s 5)) ∧ W.cell? ⟨w.heap.size, 6, none⟩ = some (.int .u8 (at8 s 6)) ∧ W.cell? ⟨w.heap.size, 7, none⟩ = some (.int .u8 (at8 s 7))) := Lib.hid fun W h => (X.out.below h).flat
 refine wp_region_held_drew (S := (fun w' => w'.cell? ⟨w.heap.size, 0, none⟩ = some (.int .u8 (at8 s 0)) ∧ w'.cell? ⟨w.heap.size, 1, none⟩ = some (.int .u8 (at8 s 1)) ∧ w'.cell? ⟨w.heap.size, 2, none⟩ = some (.int .u8 (at8 s 2)) ∧ w'.cell? ⟨w.heap.size, 3, none⟩ = some (.int .u8 (at8 s 3)) ∧ w'.cell? ⟨w.heap.size, 4, none⟩ = some (.int .u8 (at8 s 4)) ∧ w'.cell? ⟨w.heap.size, 5, none⟩ = some (.int .u8 (at8 s 5)) ∧ w'.cell? ⟨w.heap.size, 6, none⟩ = some (.int .u8 (at8 s 6)) ∧ w'.cell? ⟨w.heap.size, 7, none⟩ = some (.int .u8 (at8 s 7)))) (by kernel_rfl) ?_ (fun hHeld => ?_)
 ·with_reducible exact SH.out _ KB.out
 refine wpAnyH_take (i := 0) (oi := { dst := some 16, op := Op.move (Operand.tmp 0), type := 26, pos := "l03_normal.go:83", after := #[], guard := none }) (v := ?_) rfl (by kernel_rfl) (by kernel_rfl) (by kernel_rfl) (fun _ _ _ h => h) (Or.inl ⟨by rfl, ?_⟩) (by assumption) ?_
 rotate_left
 ·intro w hSw
  (try dsimp only at hSw)
  go_simp
  try with_reducible rfl
 try simp only [Act.put, List.setIfInBounds_toArray, List.set_cons_zero, List.set_cons_succ]
 refine wpAnyH_take (i := 1) (oi := { dst := some 17, op := Op.move (Operand.tmp 9), type := 3, pos := "l03_normal.go:83", after := #[], guard := none }) (v := ?_) rfl (by kernel_rfl) (by kernel_rfl) (by kernel_rfl) (fun _ _ _ h => h) (Or.inl ⟨by rfl, ?_⟩) (by assumption) ?_
 rotate_left
 ·intro w hSw
  (try dsimp only at hSw)
  go_simp
  try with_reducible rfl
 try simp only [Act.put, List.setIfInBounds_toArray, List.set_cons_zero, List.set_cons_succ]
 refine wpAnyH_take (i := 2) (oi := { dst := some 18, op := Op.move (Operand.tmp 9), type := 3, pos := "l03_normal.go:83", after := #[], guard := none }) (v := ?_) rfl (by kernel_rfl) (by kernel_rfl) (by kernel_rfl) (fun _ _ _ h => h) (Or.inl ⟨by rfl, ?_⟩) (by assumption) ?_
 rotate_left
 ·intro w hSw
  (try dsimp only at hSw)
  go_simp
  try with_reducible rfl
 try simp only [Act.put, List.setIfInBounds_toArray, List.set_cons_zero, List.set_cons_succ]
 refine wpAnyH_take (i := 3) (oi := { dst := some 19, op := Op.slice 26 (Operand.tmp 16) none (some (Operand.tmp 17)) (some (Operand.tmp 18)), type := 26, pos := "l03_normal.go:83", after := #[{ on := 0, ground := Ground.data }, { on := 1, ground := Ground.data }, { on := 2, ground := Ground.data }], guard := none }) (v := ?_) rfl (by kernel_rfl) (by kernel_rfl) (by kernel_rfl) (fun _ _ _ h => h) (Or.inl ⟨by rfl, ?_⟩) (by assumption) ?_
 rotate_left
 ·intro w hSw
  (try dsimp only at hSw)
  go_simp
  try with_reducible rfl
 try simp only [Act.put, List.setIfInBounds_toArray, List.set_cons_zero, List.set_cons_succ]
 refine wpAnyH_take (i := 4) (oi := { dst := some 20, op := Op.load 53 (Operand.tmp 5), type := 53, pos := "l03_normal.go:83", after := #[], guard := none }) (v := ?_) rfl (by kernel_rfl) (by kernel_rfl) (by kernel_rfl) (fun _ _ _ h => h) (Or.inl ⟨by rfl, ?_⟩) (by assumption) ?_
 rotate_left
 ·intro w hSw
  (try dsimp only at hSw)
  go_simp
  try with_reducible rfl
 try simp only [Act.put, List.setIfInBounds_toArray, List.set_cons_zero, List.set_cons_succ]
 refine wpAnyH_ready (rs := [5]) (by kernel_rfl) (by simp) ?_
 refine AllReadyH.cons (o := { dst := some 21, op := Op.buildSlice 26 1 #[(0, Operand.tmp 20)], type := 26, pos := "l03_normal.go:83", after := #[{ on := 4, ground := Ground.data }], guard := none }) rfl (fun K hK => ?_) ?_
 ·go_simp
  have Y : Hid (ReadsA (W1.alloc (.cells #[.int .u8 (at8 s 0), .int .u8 (at8 s 1), .int .u8 (at8 s 2), .int .u8 (at8 s 3), .int .u8 (at8 s 4), .int .u8 (at8 s 5), .int .u8 (at8 s 6), .int .u8 (at8 s 7)] 53)).drew (some ⟨W1.heap.size, 0, none⟩) 1 [s]) := Lib.hid (reads_at W1 s hlen.out 53 (by simp))
  replace KB : Hid (Below W1.heap.size W1 (W1.alloc (.cells #[.int .u8 (at8 s 0), .int .u8 (at8 s 1), .int .u8 (at8 s 2), .int .u8 (at8 s 3), .int .u8 (at8 s 4), .int .u8 (at8 s 5), .int .u8 (at8 s 6), .int .u8 (at8 s 7)] 53)).drew) := Lib.hid (KB.out.alloc KB.out.size (.cells #[.int .u8 (at8 s 0), .int .u8 (at8 s 1), .int .u8 (at8 s 2), .int .u8 (at8 s 3), .int .u8 (at8 s 4), .int .u8 (at8 s 5), .int .u8 (at8 s 6), .int .u8 (at8 s 7)] 53))
  refine hK.out _ _ ?_ (fun hHeld => ?_)
  ·with_reducible exact SH.out _ KB.out
  clear hK K
  try simp only [Act.put, List.setIfInBounds_toArray, List.set_cons_zero, List.set_cons_succ]
  refine wpAnyH_ready (rs := [6]) (by kernel_rfl) (by simp) ?_
  refine AllReadyH.cons (o := { dst := some 22, op := Op.call { callee := Callee.builtin Builtin.append, args := #[Operand.tmp 19, Operand.tmp 21], argTypes := #[26, 26] }, type := 26, pos := "l03_normal.go:83", after := #[{ on := 3, ground := Ground.data }, { on := 5, ground := Ground.data }], guard := none }) rfl (fun K hK => ?_) ?_
  ·refine step_append_grows rfl _ _ 26 rfl 53 i0 _ 8 8 Try.underlying26 hi hz0 hz1 hz2 rfl (by decide) a n n (flat8 l) rfl (fun h => ⟨HNONE.out h, HNONE.out h⟩) (by rw [flat8_len, HN.out]) (fun ad had j u hj => (Rd.out.below KB.out).news_at had j u hj) _ 1 1 (flat8 [s]) rfl (by rfl) (fun j u hj => Y.out.news j u hj) (flat8_cells _) hcf (by unfold maxLen; omega) (by omega) ?_
   intro v' w5 hown hgrow
   have hO5 := owned_new hown KB.out.size HL.out.sims SS.out
   replace KB := Lib.hid (below_grown0 KB.out hgrow KB.out.size)
   obtain ⟨gb, c5, rfl, hO, hgb1, hgb2⟩ := hO5
   clear hown hgrow
   refine hK.out _ _ ?_ (fun hHeld => ?_)
   ·with_reducible exact SH.out _ KB.out
   clear hK K
   try simp only [Act.put, List.setIfInBounds_toArray, List.set_cons_zero, List.set_cons_succ]
   refine wpAnyH_ready (rs := [7]) (by kernel_rfl) (by simp) ?_
   refine AllReadyH.cons (o := { dst := some 10, op := Op.assign (Operand.tmp 22), type := 26, pos := "l03_normal.go:83", after := #[{ on := 6, ground := Ground.data }, { on := 6, ground := Ground.chain }, { on := 0, ground := Ground.phase }, { on := 1, ground := Ground.phase }, { on := 2, ground := Ground.phase }, { on := 3, ground := Ground.phase }, { on := 4, ground := Ground.phase }, { on := 5, ground := Ground.phase }, { on := 6, ground := Ground.phase }], guard := none }) rfl (fun K hK => ?_) ?_
   ·go_simp
    refine hK.out _ _ ?_ (fun hHeld => ?_)
    ·with_reducible exact SH.out _ KB.out
    clear hK K
    try simp only [Act.put, List.setIfInBounds_toArray, List.set_cons_zero, List.set_cons_succ]
    refine wpAnyH_done (by kernel_rfl) ?_ _
    have F := Lib.hid (AtWb.mk (hO.mono (by have := zy.out; omega)) (B.out.trans (KB.out.mono (by have := zy.out; omega))) hgb2 (by have := zy.out; omega))
    have HSZ : Hid (w.heap.size + 1 ≤ gb) := Lib.hid (by have := zy.out; omega)
    clear X B Rd SH KB Y hO
    go_wp2_with fail
    go_loopg [11] n (fun g v wx => ∃ rows, v = .int .i64 (g : Nat) ∧ g ≤ n ∧ AtWb w wx gb c5 rows (n + 1) ∧ Sims m rows ∧ PassAt m l s rows g)
    case atStart => exact ⟨_, rfl, Nat.le_refl _, F.out, Sims.app HL.out.sims (Sims.cons SS.out Sims.nil), by have := pass_start m l s; rw [HN.out] at this; exact this⟩
    case round =>
     obtain ⟨rows, rfl, hg, hF, hS, hP⟩ := hrel
     clear F
     have F := Lib.hid hF
     have S := Lib.hid hS
     have P := Lib.hid hP
     clear hF hS hP
     by_cases hk0 : gk = 0
     ·subst hk0
      have HEND : Hid (rows = (sweep m l.reverse s).reverse) := Lib.hid (by rw [← pass_done P.out, List.reverse_reverse])
      clear P
      go_wp2
      try rw [Exit.noGoto_ret]
      exact bodyPost_ret (v := .slice (some ⟨gb, 0, none⟩) (n + 1 : Nat) c5) (by simp [results, Try.results76, go_sem]) rfl ⟨gb, c5, rfl, by rw [← HEND.out]; exact F.out.own.mono (Nat.le_succ _), F.out.bel⟩
     ·obtain ⟨k, rfl⟩ : ∃ k, gk = k + 1 := ⟨gk - 1, by omega⟩
      have rl := F.out.own.len
      obtain ⟨ra, hra⟩ : ∃ ra, ra = rowAt rows k := ⟨_, rfl⟩
      obtain ⟨rb, hrb⟩ : ∃ rb, rb = rowAt rows (k + 1) := ⟨_, rfl⟩
      have HA := Lib.hid hra
      have HB := Lib.hid hrb
      have SA : Hid (Sim m ra) := Lib.hid (by rw [hra]; exact S.out _ (rowAt_getElem (by omega)))
      have SB : Hid (Sim m rb) := Lib.hid (by rw [hrb]; exact S.out _ (rowAt_getElem (by omega)))
      have HRA : Hid (∀ W, AtWb w W gb c5 rows (n + 1) → Cells8 W gb (k * 8) ra) := Lib.hid fun W h => by rw [HA.out]; exact h.own.cellAt k (by omega)
      have HRB : Hid (∀ W, AtWb w W gb c5 rows (n + 1) → Cells8 W gb ((k + 1) * 8) rb) := Lib.hid fun W h => by rw [HB.out]; exact h.own.cellAt (k + 1) (by omega)
      clear hra hrb
      have hw1 : IntKind.i64.wrap ((((k + 1 : Nat) : Int)) - 1) = (k : Int) := by rw [show (((k + 1 : Nat) : Int)) - 1 = (k : Int) by omega]; exact IntWalk.i64_in _ (by omega)
      have hw2 : IntKind.i64.wrap ((k : Int) + 1 - 1) = (k : Int) := by rw [show (k : Int) + 1 - 1 = (k : Int) by omega]; exact IntWalk.i64_in _ (by omega)
      have hw3 : IntKind.i64.wrap (k : Int) = (k : Int) := IntWalk.i64_in _ (by omega)
      have hi1 : (k : Int) < (((n + 1 : Nat)) : Int) := by omega
      have hi2 : (((k + 1 : Nat)) : Int) < (((n + 1 : Nat)) : Int) := by omega
      have hi3 : (0 : Int) ≤ (((k + 1 : Nat)) : Int) := by omega
      have hi4 : (0 : Int) ≤ (k : Int) := by omega
      have hi5 : (k : Int) < (n : Int) + 1 := by omega
      have hi6 : (k : Int) + 1 < (n : Int) + 1 := by omega
      have ht1 : ((((k + 1 : Nat)) : Int)).toNat = k + 1 := by omega
      have ht2 : ((k : Int) + 1).toNat = k + 1 := by omega
      have ht3 : (0 : Int) ≤ (k : Int) + 1 := by omega
      go_upto_region 6 with fail
      have hsz := HSZ.out
      have HHI := Lib.hid F.out.hi
      obtain ⟨xa, xb, hx⟩ : ∃ xa xb, both m ra rb = (xa, xb) := ⟨_, _, rfl⟩
      have HX := Lib.hid hx
      clear hx
      have LA : Hid (Sim m xa ∧ Sim m xb) := Lib.hid (by have h := both_sim SA.out SB.out; rw [HX.out] at h; exact h)
      have LL : Hid (xa.length = 8 ∧ xb.length = 8) := Lib.hid ⟨LA.out.1.len, LA.out.2.len⟩
      go_cut [12, 13] from 28 to 42 (fun s9 s10 wx => ∃ g9 g10, s9 = .pointer (some ⟨g9, 0, none⟩) ∧ s10 = .pointer (some ⟨g10, 0, none⟩) ∧ Row8 wx g9 .u8 xa ∧ Row8 wx g10 .u8 xb ∧ AtWb w wx gb c5 rows (n + 1) ∧ g9 ≠ gb ∧ g10 ≠ gb)
      case first =>
       have KB : Hid (Below wr.heap.size wr wr.drew) := Lib.hid (Below.refl wr.heap.size wr).drew
       have SH : Hid (∀ W, Below wr.heap.size wr W → (W.cell? ⟨gb, k * 8, none⟩ = some (.int .u8 (at8 ra 0)) ∧ W.cell? ⟨gb, k * 8 + 1, none⟩ = some (.int .u8 (at8 ra 1)) ∧ W.cell? ⟨gb, k * 8 + 2, none⟩ = some (.int .u8 (at8 ra 2)) ∧ W.cell? ⟨gb, k * 8 + 3, none⟩ = some (.int .u8 (at8 ra 3)) ∧ W.cell? ⟨gb, k * 8 + 4, none⟩ = some (.int .u8 (at8 ra 4)) ∧ W.cell? ⟨gb, k * 8 + 5, none⟩ = some (.int .u8 (at8 ra 5)) ∧ W.cell? ⟨gb, k * 8 + 6, none⟩ = some (.int .u8 (at8 ra 6)) ∧ W.cell? ⟨gb, k * 8 + 7, none⟩ = some (.int .u8 (at8 ra 7))) ∧ (W.cell? ⟨gb, (k + 1) * 8, none⟩ = some (.int .u8 (at8 rb 0)) ∧ W.cell? ⟨gb, (k + 1) * 8 + 1, none⟩ = some (.int .u8 (at8 rb 1)) ∧ W.cell? ⟨gb, (k + 1) * 8 + 2, none⟩ = some (.int .u8 (at8 rb 2)) ∧ W.cell? ⟨gb, (k + 1) * 8 + 3, none⟩ = some (.int .u8 (at8 rb 3)) ∧ W.cell? ⟨gb, (k + 1) * 8 + 4, none⟩ = some (.int .u8 (at8 rb 4)) ∧ W.cell? ⟨gb, (k + 1) * 8 + 5, none⟩ = some (.int .u8 (at8 rb 5)) ∧ W.cell? ⟨gb, (k + 1) * 8 + 6, none⟩ = some (.int .u8 (at8 rb 6)) ∧ W.cell? ⟨gb, (k + 1) * 8 + 7, none⟩ = some (.int .u8 (at8 rb 7)))) := Lib.hid fun W h => ⟨(HRA.out _ (F.out.below h)).flat, (HRB.out _ (F.out.below h)).flat⟩
       refine wp_region_held_drew (S := (fun w' => (w'.cell? ⟨gb, k * 8, none⟩ = some (.int .u8 (at8 ra 0)) ∧ w'.cell? ⟨gb, k * 8 + 1, none⟩ = some (.int .u8 (at8 ra 1)) ∧ w'.cell? ⟨gb, k * 8 + 2, none⟩ = some (.int .u8 (at8 ra 2)) ∧ w'.cell? ⟨gb, k * 8 + 3, none⟩ = some (.int .u8 (at8 ra 3)) ∧ w'.cell? ⟨gb, k * 8 + 4, none⟩ = some (.int .u8 (at8 ra 4)) ∧ w'.cell? ⟨gb, k * 8 + 5, none⟩ = some (.int .u8 (at8 ra 5)) ∧ w'.cell? ⟨gb, k * 8 + 6, none⟩ = some (.int .u8 (at8 ra 6)) ∧ w'.cell? ⟨gb, k * 8 + 7, none⟩ = some (.int .u8 (at8 ra 7))) ∧ (w'.cell? ⟨gb, (k + 1) * 8, none⟩ = some (.int .u8 (at8 rb 0)) ∧ w'.cell? ⟨gb, (k + 1) * 8 + 1, none⟩ = some (.int .u8 (at8 rb 1)) ∧ w'.cell? ⟨gb, (k + 1) * 8 + 2, none⟩ = some (.int .u8 (at8 rb 2)) ∧ w'.cell? ⟨gb, (k + 1) * 8 + 3, none⟩ = some (.int .u8 (at8 rb 3)) ∧ w'.cell? ⟨gb, (k + 1) * 8 + 4, none⟩ = some (.int .u8 (at8 rb 4)) ∧ w'.cell? ⟨gb, (k + 1) * 8 + 5, none⟩ = some (.int .u8 (at8 rb 5)) ∧ w'.cell? ⟨gb, (k + 1) * 8 + 6, none⟩ = some (.int .u8 (at8 rb 6)) ∧ w'.cell? ⟨gb, (k + 1) * 8 + 7, none⟩ = some (.int .u8 (at8 rb 7))))) (by kernel_rfl) ?_ (fun hHeld => ?_)
       ·with_reducible exact SH.out _ KB.out
       refine wpAnyH_take (i := 0) (oi := { dst := some 29, op := Op.move (Operand.tmp 3), type := 77, pos := "l03_normal.go:85", after := #[], guard := none }) (v := ?_) rfl (by kernel_rfl) (by kernel_rfl) (by kernel_rfl) (fun _ _ _ h => h) (Or.inl ⟨by rfl, ?_⟩) (by assumption) ?_
       rotate_left
       ·intro w hSw
        (try dsimp only at hSw)
        go_simp
        try with_reducible rfl
       try simp only [Act.put, List.setIfInBounds_toArray, List.set_cons_zero, List.set_cons_succ]
       refine wpAnyH_take (i := 1) (oi := { dst := some 30, op := Op.move (Operand.tmp 10), type := 26, pos := "l03_normal.go:85", after := #[], guard := none }) (v := ?_) rfl (by kernel_rfl) (by kernel_rfl) (by kernel_rfl) (fun _ _ _ h => h) (Or.inl ⟨by rfl, ?_⟩) (by assumption) ?_
       rotate_left
       ·intro w hSw
        (try dsimp only at hSw)
        go_simp
        try with_reducible rfl
       try simp only [Act.put, List.setIfInBounds_toArray, List.set_cons_zero, List.set_cons_succ]
       refine wpAnyH_take (i := 2) (oi := { dst := some 31, op := Op.move (Operand.tmp 11), type := 3, pos := "l03_normal.go:85", after := #[], guard := none }) (v := ?_) rfl (by kernel_rfl) (by kernel_rfl) (by kernel_rfl) (fun _ _ _ h => h) (Or.inl ⟨by rfl, ?_⟩) (by assumption) ?_
       rotate_left
       ·intro w hSw
        (try dsimp only at hSw)
        go_simp
        try with_reducible rfl
       try simp only [Act.put, List.setIfInBounds_toArray, List.set_cons_zero, List.set_cons_succ]
       refine wpAnyH_take (i := 3) (oi := { dst := some 32, op := Op.binOp BinOp.sub 3 (Operand.tmp 31) (Operand.const (Value.int IntKind.i64 1)) 3, type := 3, pos := "l03_normal.go:85", after := #[{ on := 2, ground := Ground.data }], guard := none }) (v := ?_) rfl (by kernel_rfl) (by kernel_rfl) (by kernel_rfl) (fun _ _ _ h => h) (Or.inl ⟨by rfl, ?_⟩) (by assumption) ?_
       rotate_left
       ·intro w hSw
        (try dsimp only at hSw)
        go_simp
        try with_reducible rfl
       try simp only [Act.put, List.setIfInBounds_toArray, List.set_cons_zero, List.set_cons_succ]
       refine wpAnyH_take (i := 4) (oi := { dst := some 33, op := Op.indexAddr 26 (Operand.tmp 30) (Operand.tmp 32), type := 0, pos := "l03_normal.go:85", after := #[{ on := 1, ground := Ground.data }, { on := 3, ground := Ground.data }], guard := none }) (v := ?_) rfl (by kernel_rfl) (by kernel_rfl) (by kernel_rfl) (fun _ _ _ h => h) (Or.inl ⟨by rfl, ?_⟩) (by assumption) ?_
       rotate_left
       ·intro w hSw
        (try dsimp only at hSw)
        go_simp
        try with_reducible rfl
       try simp only [Act.put, List.setIfInBounds_toArray, List.set_cons_zero, List.set_cons_succ]
       refine wpAnyH_take (i := 5) (oi := { dst := some 34, op := Op.load 53 (Operand.tmp 33), type := 53, pos := "l03_normal.go:85", after := #[{ on := 4, ground := Ground.data }], guard := none }) (v := ?_) rfl (by kernel_rfl) (by kernel_rfl) (by kernel_rfl) (fun _ _ _ h => h) (Or.inl ⟨by rfl, ?_⟩) (by assumption) ?_
       rotate_left
       ·intro w hSw
        (try dsimp only at hSw)
        go_simp
        try with_reducible rfl
       try simp only [Act.put, List.setIfInBounds_toArray, List.set_cons_zero, List.set_cons_succ]
       refine wpAnyH_take (i := 6) (oi := { dst := some 35, op := Op.move (Operand.tmp 10), type := 26, pos := "l03_normal.go:85", after := #[], guard := none }) (v := ?_) rfl (by kernel_rfl) (by kernel_rfl) (by kernel_rfl) (fun _ _ _ h => h) (Or.inl ⟨by rfl, ?_⟩) (by assumption) ?_
       rotate_left
       ·intro w hSw
        (try dsimp only at hSw)
        go_simp
        try with_reducible rfl
       try simp only [Act.put, List.setIfInBounds_toArray, List.set_cons_zero, List.set_cons_succ]
       refine wpAnyH_take (i := 7) (oi := { dst := some 36, op := Op.move (Operand.tmp 11), type := 3, pos := "l03_normal.go:85", after := #[], guard := none }) (v := ?_) rfl (by kernel_rfl) (by kernel_rfl) (by kernel_rfl) (fun _ _ _ h => h) (Or.inl ⟨by rfl, ?_⟩) (by assumption) ?_
       rotate_left
       ·intro w hSw
        (try dsimp only at hSw)
        go_simp
        try with_reducible rfl
       try simp only [Act.put, List.setIfInBounds_toArray, List.set_cons_zero, List.set_cons_succ]
       refine wpAnyH_take (i := 8) (oi := { dst := some 37, op := Op.indexAddr 26 (Operand.tmp 35) (Operand.tmp 36), type := 0, pos := "l03_normal.go:85", after := #[{ on := 6, ground := Ground.data }, { on := 7, ground := Ground.data }], guard := none }) (v := ?_) rfl (by kernel_rfl) (by kernel_rfl) (by kernel_rfl) (fun _ _ _ h => h) (Or.inl ⟨by rfl, ?_⟩) (by assumption) ?_
       rotate_left
       ·intro w hSw
        (try dsimp only at hSw)
        go_simp
        try with_reducible rfl
       try simp only [Act.put, List.setIfInBounds_toArray, List.set_cons_zero, List.set_cons_succ]
       refine wpAnyH_take (i := 9) (oi := { dst := some 38, op := Op.load 53 (Operand.tmp 37), type := 53, pos := "l03_normal.go:85", after := #[{ on := 8, ground := Ground.data }], guard := none }) (v := ?_) rfl (by kernel_rfl) (by kernel_rfl) (by kernel_rfl) (fun _ _ _ h => h) (Or.inl ⟨by rfl, ?_⟩) (by assumption) ?_
       rotate_left
       ·intro w hSw
        (try dsimp only at hSw)
        go_simp
        try with_reducible rfl
       try simp only [Act.put, List.setIfInBounds_toArray, List.set_cons_zero, List.set_cons_succ]
       refine wpAnyH_take (i := 10) (oi := { dst := some 39, op := Op.move (Operand.tmp 2), type := 2, pos := "l03_normal.go:85", after := #[], guard := none }) (v := ?_) rfl (by kernel_rfl) (by kernel_rfl) (by kernel_rfl) (fun _ _ _ h => h) (Or.inl ⟨by rfl, ?_⟩) (by assumption) ?_
       rotate_left
       ·intro w hSw
        (try dsimp only at hSw)
        go_simp
        try with_reducible rfl
       try simp only [Act.put, List.setIfInBounds_toArray, List.set_cons_zero, List.set_cons_succ]
       refine wpAnyH_ready (rs := [11, 15, 16]) (by kernel_rfl) (by simp) ?_
       refine AllReadyH.cons (o := { dst := some 40, op := Op.call { callee := Callee.value (Operand.tmp 29), args := #[Operand.tmp 34, Operand.tmp 38, Operand.tmp 39], argTypes := #[53, 53, 2] }, type := 76, pos := "l03_normal.go:85", after := #[{ on := 0, ground := Ground.data }, { on := 5, ground := Ground.data }, { on := 9, ground := Ground.data }, { on := 10, ground := Ground.data }], guard := none }) rfl (fun K hK => ?_) ?_
       ·go_simp
        refine (HF.out ra rb SA.out SB.out _).mono ?_
        rw [HX.out]
        rintro e w3 ⟨rfl, gg⟩
        have z3 := gg.size
        (try simp at z3)
        replace KB := Lib.hid (below_go KB.out gg KB.out.size)
        clear gg
        go_wp2_with fail
        refine hK.out _ _ ?_ (fun hHeld => ?_)
        ·with_reducible exact SH.out _ KB.out
        clear hK K
        try simp only [Act.put, List.setIfInBounds_toArray, List.set_cons_zero, List.set_cons_succ]
        refine wpAnyH_take (i := 12) (oi := { dst := some 28, op := Op.move (Operand.tmp 40), type := 76, pos := "l03_normal.go:85", after := #[{ on := 11, ground := Ground.data }], guard := none }) (v := ?_) rfl (by kernel_rfl) (by kernel_rfl) (by kernel_rfl) (fun _ _ _ h => h) (Or.inl ⟨by rfl, ?_⟩) (by assumption) ?_
        rotate_left
        ·intro w hSw
         (try dsimp only at hSw)
         go_simp
         try with_reducible rfl
        try simp only [Act.put, List.setIfInBounds_toArray, List.set_cons_zero, List.set_cons_succ]
        refine wpAnyH_take (i := 13) (oi := { dst := some 41, op := Op.extract (Operand.tmp 28) 0, type := 53, pos := "l03_normal.go:85", after := #[{ on := 12, ground := Ground.data }], guard := none }) (v := ?_) rfl (by kernel_rfl) (by kernel_rfl) (by kernel_rfl) (fun _ _ _ h => h) (Or.inl ⟨by rfl, ?_⟩) (by assumption) ?_
        rotate_left
        ·intro w hSw
         (try dsimp only at hSw)
         go_simp
         try with_reducible rfl
        try simp only [Act.put, List.setIfInBounds_toArray, List.set_cons_zero, List.set_cons_succ]
        refine wpAnyH_take (i := 14) (oi := { dst := some 42, op := Op.extract (Operand.tmp 28) 1, type := 53, pos := "l03_normal.go:85", after := #[{ on := 12, ground := Ground.data }, { on := 17, ground := Ground.gcOnly Departure.lateStores }], guard := none }) (v := ?_) rfl (by kernel_rfl) (by kernel_rfl) (by kernel_rfl) (fun _ _ _ h => h) (Or.inl ⟨by rfl, ?_⟩) (by assumption) ?_
        rotate_left
        ·intro w hSw
         (try dsimp only at hSw)
         go_simp
         try with_reducible rfl
        try simp only [Act.put, List.setIfInBounds_toArray, List.set_cons_zero, List.set_cons_succ]
        refine wpAnyH_ready (rs := [15, 16]) (by kernel_rfl) (by simp) ?_
        refine AllReadyH.cons (o := { dst := some 12, op := Op.alloc 53, type := 0, pos := "l03_normal.go:85", after := #[], guard := none }) rfl (fun K hK => ?_) ?_
        ·go_simp
         have R9 : Hid (Row8 (w3.alloc (.cells #[.int .u8 0, .int .u8 0, .int .u8 0, .int .u8 0, .int .u8 0, .int .u8 0, .int .u8 0, .int .u8 0] 53)) (w3.heap.size) .u8 [0, 0, 0, 0, 0, 0, 0, 0]) := Lib.hid ((Row8.zeros w3 .u8 53 (w3.heap.size) (by simp)))
         replace KB : Hid (Below wr.heap.size wr (w3.alloc (.cells #[.int .u8 0, .int .u8 0, .int .u8 0, .int .u8 0, .int .u8 0, .int .u8 0, .int .u8 0, .int .u8 0] 53))) := Lib.hid (KB.out.alloc KB.out.size (.cells #[.int .u8 0, .int .u8 0, .int .u8 0, .int .u8 0, .int .u8 0, .int .u8 0, .int .u8 0, .int .u8 0] 53))
         obtain ⟨V9, hV⟩ : ∃ V, V = (w3.alloc (.cells #[.int .u8 0, .int .u8 0, .int .u8 0, .int .u8 0, .int .u8 0, .int .u8 0, .int .u8 0, .int .u8 0] 53)) := ⟨_, rfl⟩
         rw [← hV] at KB R9 ⊢
         clear hV
         have zV9 := R9.out.lt
         refine hK.out _ _ ?_ (fun hHeld => ?_)
         ·with_reducible exact SH.out _ KB.out
         clear hK K
         try simp only [Act.put, List.setIfInBounds_toArray, List.set_cons_zero, List.set_cons_succ]
         refine wpAnyH_ready (rs := [16]) (by kernel_rfl) (by simp) ?_
         refine AllReadyH.cons (o := { dst := some 13, op := Op.alloc 53, type := 0, pos := "l03_normal.go:85", after := #[], guard := none }) rfl (fun K hK => ?_) ?_
         ·go_simp
          replace R9 : Hid (Row8 (V9.alloc (.cells #[.int .u8 0, .int .u8 0, .int .u8 0, .int .u8 0, .int .u8 0, .int .u8 0, .int .u8 0, .int .u8 0] 53)) (w3.heap.size) .u8 [0, 0, 0, 0, 0, 0, 0, 0]) := Lib.hid (R9.out.alloc (.cells #[.int .u8 0, .int .u8 0, .int .u8 0, .int .u8 0, .int .u8 0, .int .u8 0, .int .u8 0, .int .u8 0] 53))
          have R10 : Hid (Row8 (V9.alloc (.cells #[.int .u8 0, .int .u8 0, .int .u8 0, .int .u8 0, .int .u8 0, .int .u8 0, .int .u8 0, .int .u8 0] 53)) (V9.heap.size) .u8 [0, 0, 0, 0, 0, 0, 0, 0]) := Lib.hid ((Row8.zeros V9 .u8 53 (V9.heap.size) (by simp)))
          replace KB : Hid (Below wr.heap.size wr (V9.alloc (.cells #[.int .u8 0, .int .u8 0, .int .u8 0, .int .u8 0, .int .u8 0, .int .u8 0, .int .u8 0, .int .u8 0] 53))) := Lib.hid (KB.out.alloc KB.out.size (.cells #[.int .u8 0, .int .u8 0, .int .u8 0, .int .u8 0, .int .u8 0, .int .u8 0, .int .u8 0, .int .u8 0] 53))
          obtain ⟨V10, hV⟩ : ∃ V, V = (V9.alloc (.cells #[.int .u8 0, .int .u8 0, .int .u8 0, .int .u8 0, .int .u8 0, .int .u8 0, .int .u8 0, .int .u8 0] 53)) := ⟨_, rfl⟩
          rw [← hV] at KB R9 R10 ⊢
          clear hV
          have zV10 := R10.out.lt
          refine hK.out _ _ ?_ (fun hHeld => ?_)
          ·with_reducible exact SH.out _ KB.out
          clear hK K
          try simp only [Act.put, List.setIfInBounds_toArray, List.set_cons_zero, List.set_cons_succ]
          refine wpAnyH_ready (rs := [17]) (by kernel_rfl) (by simp) ?_
          refine AllReadyH.cons (o := { dst := none, op := Op.store 53 (Operand.tmp 12) (Operand.tmp 41), type := 0, pos := "l03_normal.go:85", after := #[{ on := 15, ground := Ground.data }, { on := 13, ground := Ground.data }, { on := 11, ground := Ground.chain }, { on := 0, ground := Ground.phase }, { on := 1, ground := Ground.phase }, { on := 2, ground := Ground.phase }, { on := 3, ground := Ground.phase }, { on := 4, ground := Ground.phase }, { on := 5, ground := Ground.phase }, { on := 6, ground := Ground.phase }, { on := 7, ground := Ground.phase }, { on := 8, ground := Ground.phase }, { on := 9, ground := Ground.phase }, { on := 10, ground := Ground.phase }, { on := 11, ground := Ground.phase }, { on := 12, ground := Ground.phase }, { on := 13, ground := Ground.phase }, { on := 14, ground := Ground.textOnly Departure.lateStores }, { on := 15, ground := Ground.phase }, { on := 16, ground := Ground.phase }], guard := none }) rfl (fun K hK => ?_) ?_
          ·obtain ⟨⟨d0, d1, d2, d3⟩, d4, d5, d6, d7⟩ := R9.out.all
           obtain ⟨⟨f0, f1, f2, f3⟩, f4, f5, f6, f7⟩ := R9.out.frees
           go_simp
           clear d0 d1 d2 d3 d4 d5 d6 d7 f0 f1 f2 f3 f4 f5 f6 f7
           replace R9 := Lib.hid (R9.out.fill xa LL.out.1)
           replace R10 := Lib.hid (R10.out.past (w3.heap.size) (by omega) (.int .u8 (at8 xa 0)) (.int .u8 (at8 xa 1)) (.int .u8 (at8 xa 2)) (.int .u8 (at8 xa 3)) (.int .u8 (at8 xa 4)) (.int .u8 (at8 xa 5)) (.int .u8 (at8 xa 6)) (.int .u8 (at8 xa 7)))
           replace KB := Lib.hid (below_fill8 KB.out (w3.heap.size) (by omega) (.int .u8 (at8 xa 0)) (.int .u8 (at8 xa 1)) (.int .u8 (at8 xa 2)) (.int .u8 (at8 xa 3)) (.int .u8 (at8 xa 4)) (.int .u8 (at8 xa 5)) (.int .u8 (at8 xa 6)) (.int .u8 (at8 xa 7)))
           obtain ⟨V6, hV6⟩ : ∃ V, V = ((((((((V10.setCell ⟨w3.heap.size, 0, none⟩ (.int .u8 (at8 xa 0))).setCell ⟨w3.heap.size, 1, none⟩ (.int .u8 (at8 xa 1))).setCell ⟨w3.heap.size, 2, none⟩ (.int .u8 (at8 xa 2))).setCell ⟨w3.heap.size, 3, none⟩ (.int .u8 (at8 xa 3))).setCell ⟨w3.heap.size, 4, none⟩ (.int .u8 (at8 xa 4))).setCell ⟨w3.heap.size, 5, none⟩ (.int .u8 (at8 xa 5))).setCell ⟨w3.heap.size, 6, none⟩ (.int .u8 (at8 xa 6))).setCell ⟨w3.heap.size, 7, none⟩ (.int .u8 (at8 xa 7))) := ⟨_, rfl⟩
           rw [← hV6] at R9 R10 KB ⊢
           clear hV6
           refine hK.out _ _ ?_ (fun hHeld => ?_)
           ·with_reducible exact SH.out _ KB.out
           clear hK K
           try simp only [Act.put, List.setIfInBounds_toArray, List.set_cons_zero, List.set_cons_succ]
           refine wpAnyH_ready (rs := [18]) (by kernel_rfl) (by simp) ?_
           refine AllReadyH.cons (o := { dst := none, op := Op.store 53 (Operand.tmp 13) (Operand.tmp 42), type := 0, pos := "l03_normal.go:85", after := #[{ on := 16, ground := Ground.data }, { on := 14, ground := Ground.data }, { on := 17, ground := Ground.chain }, { on := 0, ground := Ground.phase }, { on := 1, ground := Ground.phase }, { on := 2, ground := Ground.phase }, { on := 3, ground := Ground.phase }, { on := 4, ground := Ground.phase }, { on := 5, ground := Ground.phase }, { on := 6, ground := Ground.phase }, { on := 7, ground := Ground.phase }, { on := 8, ground := Ground.phase }, { on := 9, ground := Ground.phase }, { on := 10, ground := Ground.phase }, { on := 11, ground := Ground.phase }, { on := 12, ground := Ground.phase }, { on := 13, ground := Ground.phase }, { on := 14, ground := Ground.phase }, { on := 15, ground := Ground.phase }, { on := 16, ground := Ground.phase }, { on := 17, ground := Ground.phase }], guard := none }) rfl (fun K hK => ?_) ?_
           ·obtain ⟨⟨d0, d1, d2, d3⟩, d4, d5, d6, d7⟩ := R10.out.all
            obtain ⟨⟨f0, f1, f2, f3⟩, f4, f5, f6, f7⟩ := R10.out.frees
            go_simp
            clear d0 d1 d2 d3 d4 d5 d6 d7 f0 f1 f2 f3 f4 f5 f6 f7
            replace R10 := Lib.hid (R10.out.fill xb LL.out.2)
            replace R9 := Lib.hid (R9.out.past (V9.heap.size) (by omega) (.int .u8 (at8 xb 0)) (.int .u8 (at8 xb 1)) (.int .u8 (at8 xb 2)) (.int .u8 (at8 xb 3)) (.int .u8 (at8 xb 4)) (.int .u8 (at8 xb 5)) (.int .u8 (at8 xb 6)) (.int .u8 (at8 xb 7)))
            replace KB := Lib.hid (below_fill8 KB.out (V9.heap.size) (by omega) (.int .u8 (at8 xb 0)) (.int .u8 (at8 xb 1)) (.int .u8 (at8 xb 2)) (.int .u8 (at8 xb 3)) (.int .u8 (at8 xb 4)) (.int .u8 (at8 xb 5)) (.int .u8 (at8 xb 6)) (.int .u8 (at8 xb 7)))
            obtain ⟨V7, hV7⟩ : ∃ V, V = ((((((((V6.setCell ⟨V9.heap.size, 0, none⟩ (.int .u8 (at8 xb 0))).setCell ⟨V9.heap.size, 1, none⟩ (.int .u8 (at8 xb 1))).setCell ⟨V9.heap.size, 2, none⟩ (.int .u8 (at8 xb 2))).setCell ⟨V9.heap.size, 3, none⟩ (.int .u8 (at8 xb 3))).setCell ⟨V9.heap.size, 4, none⟩ (.int .u8 (at8 xb 4))).setCell ⟨V9.heap.size, 5, none⟩ (.int .u8 (at8 xb 5))).setCell ⟨V9.heap.size, 6, none⟩ (.int .u8 (at8 xb 6))).setCell ⟨V9.heap.size, 7, none⟩ (.int .u8 (at8 xb 7))) := ⟨_, rfl⟩
            rw [← hV7] at R9 R10 KB ⊢
            clear hV7
            refine hK.out _ _ ?_ (fun hHeld => ?_)
            ·with_reducible exact SH.out _ KB.out
            clear hK K
            try simp only [Act.put, List.setIfInBounds_toArray, List.set_cons_zero, List.set_cons_succ]
            refine wpAnyH_done (by kernel_rfl) ?_ _
            go_wp2_with fail
            go_meet
            have hhi := HHI.out
            exact ⟨_, _, rfl, rfl, R9.out, R10.out, F.out.below KB.out, by omega, by omega⟩
           exact AllReadyH.nil
          exact AllReadyH.nil
         exact AllReadyH.nil
        refine AllReadyH.cons (o := { dst := some 13, op := Op.alloc 53, type := 0, pos := "l03_normal.go:85", after := #[], guard := none }) rfl (fun K hK => ?_) ?_
        ·go_simp
         have R10 : Hid (Row8 (w3.alloc (.cells #[.int .u8 0, .int .u8 0, .int .u8 0, .int .u8 0, .int .u8 0, .int .u8 0, .int .u8 0, .int .u8 0] 53)) (w3.heap.size) .u8 [0, 0, 0, 0, 0, 0, 0, 0]) := Lib.hid ((Row8.zeros w3 .u8 53 (w3.heap.size) (by simp)))
         replace KB : Hid (Below wr.heap.size wr (w3.alloc (.cells #[.int .u8 0, .int .u8 0, .int .u8 0, .int .u8 0, .int .u8 0, .int .u8 0, .int .u8 0, .int .u8 0] 53))) := Lib.hid (KB.out.alloc KB.out.size (.cells #[.int .u8 0, .int .u8 0, .int .u8 0, .int .u8 0, .int .u8 0, .int .u8 0, .int .u8 0, .int .u8 0] 53))
         obtain ⟨V10, hV⟩ : ∃ V, V = (w3.alloc (.cells #[.int .u8 0, .int .u8 0, .int .u8 0, .int .u8 0, .int .u8 0, .int .u8 0, .int .u8 0, .int .u8 0] 53)) := ⟨_, rfl⟩
         rw [← hV] at KB R10 ⊢
         clear hV
         have zV10 := R10.out.lt
         refine hK.out _ _ ?_ (fun hHeld => ?_)
         ·with_reducible exact SH.out _ KB.out
         clear hK K
         try simp only [Act.put, List.setIfInBounds_toArray, List.set_cons_zero, List.set_cons_succ]
         refine wpAnyH_ready (rs := [15]) (by kernel_rfl) (by simp) ?_
         refine AllReadyH.cons (o := { dst := some 12, op := Op.alloc 53, type := 0, pos := "l03_normal.go:85", after := #[], guard := none }) rfl (fun K hK => ?_) ?_
         ·go_simp
          replace R10 : Hid (Row8 (V10.alloc (.cells #[.int .u8 0, .int .u8 0, .int .u8 0, .int .u8 0, .int .u8 0, .int .u8 0, .int .u8 0, .int .u8 0] 53)) (w3.heap.size) .u8 [0, 0, 0, 0, 0, 0, 0, 0]) := Lib.hid (R10.out.alloc (.cells #[.int .u8 0, .int .u8 0, .int .u8 0, .int .u8 0, .int .u8 0, .int .u8 0, .int .u8 0, .int .u8 0] 53))
          have R9 : Hid (Row8 (V10.alloc (.cells #[.int .u8 0, .int .u8 0, .int .u8 0, .int .u8 0, .int .u8 0, .int .u8 0, .int .u8 0, .int .u8 0] 53)) (V10.heap.size) .u8 [0, 0, 0, 0, 0, 0, 0, 0]) := Lib.hid ((Row8.zeros V10 .u8 53 (V10.heap.size) (by simp)))
          replace KB : Hid (Below wr.heap.size wr (V10.alloc (.cells #[.int .u8 0, .int .u8 0, .int .u8 0, .int .u8 0, .int .u8 0, .int .u8 0, .int .u8 0, .int .u8 0] 53))) := Lib.hid (KB.out.alloc KB.out.size (.cells #[.int .u8 0, .int .u8 0, .int .u8 0, .int .u8 0, .int .u8 0, .int .u8 0, .int .u8 0, .int .u8 0] 53))
          obtain ⟨V9, hV⟩ : ∃ V, V = (V10.alloc (.cells #[.int .u8 0, .int .u8 0, .int .u8 0, .int .u8 0, .int .u8 0, .int .u8 0, .int .u8 0, .int .u8 0] 53)) := ⟨_, rfl⟩
          rw [← hV] at KB R9 R10 ⊢
          clear hV
          have zV9 := R9.out.lt
          refine hK.out _ _ ?_ (fun hHeld => ?_)
          ·with_reducible exact SH.out _ KB.out
          clear hK K
          try simp only [Act.put, List.setIfInBounds_toArray, List.set_cons_zero, List.set_cons_succ]
          refine wpAnyH_ready (rs := [17]) (by kernel_rfl) (by simp) ?_
          refine AllReadyH.cons (o := { dst := none, op := Op.store 53 (Operand.tmp 12) (Operand.tmp 41), type := 0, pos := "l03_normal.go:85", after := #[{ on := 15, ground := Ground.data }, { on := 13, ground := Ground.data }, { on := 11, ground := Ground.chain }, { on := 0, ground := Ground.phase }, { on := 1, ground := Ground.phase }, { on := 2, ground := Ground.phase }, { on := 3, ground := Ground.phase }, { on := 4, ground := Ground.phase }, { on := 5, ground := Ground.phase }, { on := 6, ground := Ground.phase }, { on := 7, ground := Ground.phase }, { on := 8, ground := Ground.phase }, { on := 9, ground := Ground.phase }, { on := 10, ground := Ground.phase }, { on := 11, ground := Ground.phase }, { on := 12, ground := Ground.phase }, { on := 13, ground := Ground.phase }, { on := 14, ground := Ground.textOnly Departure.lateStores }, { on := 15, ground := Ground.phase }, { on := 16, ground := Ground.phase }], guard := none }) rfl (fun K hK => ?_) ?_
          ·obtain ⟨⟨d0, d1, d2, d3⟩, d4, d5, d6, d7⟩ := R9.out.all
           obtain ⟨⟨f0, f1, f2, f3⟩, f4, f5, f6, f7⟩ := R9.out.frees
           go_simp
           clear d0 d1 d2 d3 d4 d5 d6 d7 f0 f1 f2 f3 f4 f5 f6 f7
           replace R9 := Lib.hid (R9.out.fill xa LL.out.1)
           replace R10 := Lib.hid (R10.out.past (V10.heap.size) (by omega) (.int .u8 (at8 xa 0)) (.int .u8 (at8 xa 1)) (.int .u8 (at8 xa 2)) (.int .u8 (at8 xa 3)) (.int .u8 (at8 xa 4)) (.int .u8 (at8 xa 5)) (.int .u8 (at8 xa 6)) (.int .u8 (at8 xa 7)))
           replace KB := Lib.hid (below_fill8 KB.out (V10.heap.size) (by omega) (.int .u8 (at8 xa 0)) (.int .u8 (at8 xa 1)) (.int .u8 (at8 xa 2)) (.int .u8 (at8 xa 3)) (.int .u8 (at8 xa 4)) (.int .u8 (at8 xa 5)) (.int .u8 (at8 xa 6)) (.int .u8 (at8 xa 7)))
           obtain ⟨V6, hV6⟩ : ∃ V, V = ((((((((V9.setCell ⟨V10.heap.size, 0, none⟩ (.int .u8 (at8 xa 0))).setCell ⟨V10.heap.size, 1, none⟩ (.int .u8 (at8 xa 1))).setCell ⟨V10.heap.size, 2, none⟩ (.int .u8 (at8 xa 2))).setCell ⟨V10.heap.size, 3, none⟩ (.int .u8 (at8 xa 3))).setCell ⟨V10.heap.size, 4, none⟩ (.int .u8 (at8 xa 4))).setCell ⟨V10.heap.size, 5, none⟩ (.int .u8 (at8 xa 5))).setCell ⟨V10.heap.size, 6, none⟩ (.int .u8 (at8 xa 6))).setCell ⟨V10.heap.size, 7, none⟩ (.int .u8 (at8 xa 7))) := ⟨_, rfl⟩
           rw [← hV6] at R9 R10 KB ⊢
           clear hV6
           refine hK.out _ _ ?_ (fun hHeld => ?_)
           ·with_reducible exact SH.out _ KB.out
           clear hK K
           try simp only [Act.put, List.setIfInBounds_toArray, List.set_cons_zero, List.set_cons_succ]
           refine wpAnyH_ready (rs := [18]) (by kernel_rfl) (by simp) ?_
           refine AllReadyH.cons (o := { dst := none, op := Op.store 53 (Operand.tmp 13) (Operand.tmp 42), type := 0, pos := "l03_normal.go:85", after := #[{ on := 16, ground := Ground.data }, { on := 14, ground := Ground.data }, { on := 17, ground := Ground.chain }, { on := 0, ground := Ground.phase }, { on := 1, ground := Ground.phase }, { on := 2, ground := Ground.phase }, { on := 3, ground := Ground.phase }, { on := 4, ground := Ground.phase }, { on := 5, ground := Ground.phase }, { on := 6, ground := Ground.phase }, { on := 7, ground := Ground.phase }, { on := 8, ground := Ground.phase }, { on := 9, ground := Ground.phase }, { on := 10, ground := Ground.phase }, { on := 11, ground := Ground.phase }, { on := 12, ground := Ground.phase }, { on := 13, ground := Ground.phase }, { on := 14, ground := Ground.phase }, { on := 15, ground := Ground.phase }, { on := 16, ground := Ground.phase }, { on := 17, ground := Ground.phase }], guard := none }) rfl (fun K hK => ?_) ?_
           ·obtain ⟨⟨d0, d1, d2, d3⟩, d4, d5, d6, d7⟩ := R10.out.all
            obtain ⟨⟨f0, f1, f2, f3⟩, f4, f5, f6, f7⟩ := R10.out.frees
            go_simp
            clear d0 d1 d2 d3 d4 d5 d6 d7 f0 f1 f2 f3 f4 f5 f6 f7
            replace R10 := Lib.hid (R10.out.fill xb LL.out.2)
            replace R9 := Lib.hid (R9.out.past (w3.heap.size) (by omega) (.int .u8 (at8 xb 0)) (.int .u8 (at8 xb 1)) (.int .u8 (at8 xb 2)) (.int .u8 (at8 xb 3)) (.int .u8 (at8 xb 4)) (.int .u8 (at8 xb 5)) (.int .u8 (at8 xb 6)) (.int .u8 (at8 xb 7)))
            replace KB := Lib.hid (below_fill8 KB.out (w3.heap.size) (by omega) (.int .u8 (at8 xb 0)) (.int .u8 (at8 xb 1)) (.int .u8 (at8 xb 2)) (.int .u8 (at8 xb 3)) (.int .u8 (at8 xb 4)) (.int .u8 (at8 xb 5)) (.int .u8 (at8 xb 6)) (.int .u8 (at8 xb 7)))
            obtain ⟨V7, hV7⟩ : ∃ V, V = ((((((((V6.setCell ⟨w3.heap.size, 0, none⟩ (.int .u8 (at8 xb 0))).setCell ⟨w3.heap.size, 1, none⟩ (.int .u8 (at8 xb 1))).setCell ⟨w3.heap.size, 2, none⟩ (.int .u8 (at8 xb 2))).setCell ⟨w3.heap.size, 3, none⟩ (.int .u8 (at8 xb 3))).setCell ⟨w3.heap.size, 4, none⟩ (.int .u8 (at8 xb 4))).setCell ⟨w3.heap.size, 5, none⟩ (.int .u8 (at8 xb 5))).setCell ⟨w3.heap.size, 6, none⟩ (.int .u8 (at8 xb 6))).setCell ⟨w3.heap.size, 7, none⟩ (.int .u8 (at8 xb 7))) := ⟨_, rfl⟩
            rw [← hV7] at R9 R10 KB ⊢
            clear hV7
            refine hK.out _ _ ?_ (fun hHeld => ?_)
            ·with_reducible exact SH.out _ KB.out
            clear hK K
            try simp only [Act.put, List.setIfInBounds_toArray, List.set_cons_zero, List.set_cons_succ]
            refine wpAnyH_done (by kernel_rfl) ?_ _
            go_wp2_with fail
            go_meet
            have hhi := HHI.out
            exact ⟨_, _, rfl, rfl, R9.out, R10.out, F.out.below KB.out, by omega, by omega⟩
           exact AllReadyH.nil
          exact AllReadyH.nil
         exact AllReadyH.nil
        exact AllReadyH.nil
       refine AllReadyH.cons (o := { dst := some 12, op := Op.alloc 53, type := 0, pos := "l03_normal.go:85", after := #[], guard := none }) rfl (fun K hK => ?_) ?_
       ·go_simp
        have R9 : Hid (Row8 (wr.alloc (.cells #[.int .u8 0, .int .u8 0, .int .u8 0, .int .u8 0, .int .u8 0, .int .u8 0, .int .u8 0, .int .u8 0] 53)).drew (wr.heap.size) .u8 [0, 0, 0, 0, 0, 0, 0, 0]) := Lib.hid ((Row8.zeros wr .u8 53 (wr.heap.size) (by simp)).drew)
        replace KB : Hid (Below wr.heap.size wr (wr.alloc (.cells #[.int .u8 0, .int .u8 0, .int .u8 0, .int .u8 0, .int .u8 0, .int .u8 0, .int .u8 0, .int .u8 0] 53)).drew) := Lib.hid (KB.out.alloc KB.out.size (.cells #[.int .u8 0, .int .u8 0, .int .u8 0, .int .u8 0, .int .u8 0, .int .u8 0, .int .u8 0, .int .u8 0] 53))
        refine hK.out _ _ ?_ (fun hHeld => ?_)
        ·with_reducible exact SH.out _ KB.out
        clear hK K
        try simp only [Act.put, List.setIfInBounds_toArray, List.set_cons_zero, List.set_cons_succ]
        refine wpAnyH_ready (rs := [11, 16]) (by kernel_rfl) (by simp) ?_
        refine AllReadyH.cons (o := { dst := some 40, op := Op.call { callee := Callee.value (Operand.tmp 29), args := #[Operand.tmp 34, Operand.tmp 38, Operand.tmp 39], argTypes := #[53, 53, 2] }, type := 76, pos := "l03_normal.go:85", after := #[{ on := 0, ground := Ground.data }, { on := 5, ground := Ground.data }, { on := 9, ground := Ground.data }, { on := 10, ground := Ground.data }], guard := none }) rfl (fun K hK => ?_) ?_
        ·go_simp
         refine (HF.out ra rb SA.out SB.out _).mono ?_
         rw [HX.out]
         rintro e w3 ⟨rfl, gg⟩
         have z3 := gg.size
         (try simp at z3)
         replace R9 := Lib.hid (R9.out.below gg)
         replace KB := Lib.hid (below_go KB.out gg KB.out.size)
         clear gg
         go_wp2_with fail
         refine hK.out _ _ ?_ (fun hHeld => ?_)
         ·with_reducible exact SH.out _ KB.out
         clear hK K
         try simp only [Act.put, List.setIfInBounds_toArray, List.set_cons_zero, List.set_cons_succ]
         refine wpAnyH_take (i := 12) (oi := { dst := some 28, op := Op.move (Operand.tmp 40), type := 76, pos := "l03_normal.go:85", after := #[{ on := 11, ground := Ground.data }], guard := none }) (v := ?_) rfl (by kernel_rfl) (by kernel_rfl) (by kernel_rfl) (fun _ _ _ h => h) (Or.inl ⟨by rfl, ?_⟩) (by assumption) ?_
         rotate_left
         ·intro w hSw
          (try dsimp only at hSw)
          go_simp
          try with_reducible rfl
         try simp only [Act.put, List.setIfInBounds_toArray, List.set_cons_zero, List.set_cons_succ]
         refine wpAnyH_take (i := 13) (oi := { dst := some 41, op := Op.extract (Operand.tmp 28) 0, type := 53, pos := "l03_normal.go:85", after := #[{ on := 12, ground := Ground.data }], guard := none }) (v := ?_) rfl (by kernel_rfl) (by kernel_rfl) (by kernel_rfl) (fun _ _ _ h => h) (Or.inl ⟨by rfl, ?_⟩) (by assumption) ?_
         rotate_left
         ·intro w hSw
          (try dsimp only at hSw)
          go_simp
          try with_reducible rfl
         try simp only [Act.put, List.setIfInBounds_toArray, List.set_cons_zero, List.set_cons_succ]
         refine wpAnyH_take (i := 14) (oi := { dst := some 42, op := Op.extract (Operand.tmp 28) 1, type := 53, pos := "l03_normal.go:85", after := #[{ on := 12, ground := Ground.data }, { on := 17, ground := Ground.gcOnly Departure.lateStores }], guard := none }) (v := ?_) rfl (by kernel_rfl) (by kernel_rfl) (by kernel_rfl) (fun _ _ _ h => h) (Or.inl ⟨by rfl, ?_⟩) (by assumption) ?_
         rotate_left
         ·intro w hSw
          (try dsimp only at hSw)
          go_simp
          try with_reducible rfl
         try simp only [Act.put, List.setIfInBounds_toArray, List.set_cons_zero, List.set_cons_succ]
         refine wpAnyH_ready (rs := [16]) (by kernel_rfl) (by simp) ?_
         refine AllReadyH.cons (o := { dst := some 13, op := Op.alloc 53, type := 0, pos := "l03_normal.go:85", after := #[], guard := none }) rfl (fun K hK => ?_) ?_
         ·go_simp
          replace R9 : Hid (Row8 (w3.alloc (.cells #[.int .u8 0, .int .u8 0, .int .u8 0, .int .u8 0, .int .u8 0, .int .u8 0, .int .u8 0, .int .u8 0] 53)) (wr.heap.size) .u8 [0, 0, 0, 0, 0, 0, 0, 0]) := Lib.hid (R9.out.alloc (.cells #[.int .u8 0, .int .u8 0, .int .u8 0, .int .u8 0, .int .u8 0, .int .u8 0, .int .u8 0, .int .u8 0] 53))
          have R10 : Hid (Row8 (w3.alloc (.cells #[.int .u8 0, .int .u8 0, .int .u8 0, .int .u8 0, .int .u8 0, .int .u8 0, .int .u8 0, .int .u8 0] 53)) (w3.heap.size) .u8 [0, 0, 0, 0, 0, 0, 0, 0]) := Lib.hid ((Row8.zeros w3 .u8 53 (w3.heap.size) (by simp)))
          replace KB : Hid (Below wr.heap.size wr (w3.alloc (.cells #[.int .u8 0, .int .u8 0, .int .u8 0, .int .u8 0, .int .u8 0, .int .u8 0, .int .u8 0, .int .u8 0] 53))) := Lib.hid (KB.out.alloc KB.out.size (.cells #[.int .u8 0, .int .u8 0, .int .u8 0, .int .u8 0, .int .u8 0, .int .u8 0, .int .u8 0, .int .u8 0] 53))
          obtain ⟨V10, hV⟩ : ∃ V, V = (w3.alloc (.cells #[.int .u8 0, .int .u8 0, .int .u8 0, .int .u8 0, .int .u8 0, .int .u8 0, .int .u8 0, .int .u8 0] 53)) := ⟨_, rfl⟩
          rw [← hV] at KB R9 R10 ⊢
          clear hV
          have zV10 := R10.out.lt
          refine hK.out _ _ ?_ (fun hHeld => ?_)
          ·with_reducible exact SH.out _ KB.out
          clear hK K
          try simp only [Act.put, List.setIfInBounds_toArray, List.set_cons_zero, List.set_cons_succ]
          refine wpAnyH_ready (rs := [17]) (by kernel_rfl) (by simp) ?_
          refine AllReadyH.cons (o := { dst := none, op := Op.store 53 (Operand.tmp 12) (Operand.tmp 41), type := 0, pos := "l03_normal.go:85", after := #[{ on := 15, ground := Ground.data }, { on := 13, ground := Ground.data }, { on := 11, ground := Ground.chain }, { on := 0, ground := Ground.phase }, { on := 1, ground := Ground.phase }, { on := 2, ground := Ground.phase }, { on := 3, ground := Ground.phase }, { on := 4, ground := Ground.phase }, { on := 5, ground := Ground.phase }, { on := 6, ground := Ground.phase }, { on := 7, ground := Ground.phase }, { on := 8, ground := Ground.phase }, { on := 9, ground := Ground.phase }, { on := 10, ground := Ground.phase }, { on := 11, ground := Ground.phase }, { on := 12, ground := Ground.phase }, { on := 13, ground := Ground.phase }, { on := 14, ground := Ground.textOnly Departure.lateStores }, { on := 15, ground := Ground.phase }, { on := 16, ground := Ground.phase }], guard := none }) rfl (fun K hK => ?_) ?_
          ·obtain ⟨⟨d0, d1, d2, d3⟩, d4, d5, d6, d7⟩ := R9.out.all
           obtain ⟨⟨f0, f1, f2, f3⟩, f4, f5, f6, f7⟩ := R9.out.frees
           go_simp
           clear d0 d1 d2 d3 d4 d5 d6 d7 f0 f1 f2 f3 f4 f5 f6 f7
           replace R9 := Lib.hid (R9.out.fill xa LL.out.1)
           replace R10 := Lib.hid (R10.out.past (wr.heap.size) (by omega) (.int .u8 (at8 xa 0)) (.int .u8 (at8 xa 1)) (.int .u8 (at8 xa 2)) (.int .u8 (at8 xa 3)) (.int .u8 (at8 xa 4)) (.int .u8 (at8 xa 5)) (.int .u8 (at8 xa 6)) (.int .u8 (at8 xa 7)))
           replace KB := Lib.hid (below_fill8 KB.out (wr.heap.size) (by omega) (.int .u8 (at8 xa 0)) (.int .u8 (at8 xa 1)) (.int .u8 (at8 xa 2)) (.int .u8 (at8 xa 3)) (.int .u8 (at8 xa 4)) (.int .u8 (at8 xa 5)) (.int .u8 (at8 xa 6)) (.int .u8 (at8 xa 7)))
           obtain ⟨V6, hV6⟩ : ∃ V, V = ((((((((V10.setCell ⟨wr.heap.size, 0, none⟩ (.int .u8 (at8 xa 0))).setCell ⟨wr.heap.size, 1, none⟩ (.int .u8 (at8 xa 1))).setCell ⟨wr.heap.size, 2, none⟩ (.int .u8 (at8 xa 2))).setCell ⟨wr.heap.size, 3, none⟩ (.int .u8 (at8 xa 3))).setCell ⟨wr.heap.size, 4, none⟩ (.int .u8 (at8 xa 4))).setCell ⟨wr.heap.size, 5, none⟩ (.int .u8 (at8 xa 5))).setCell ⟨wr.heap.size, 6, none⟩ (.int .u8 (at8 xa 6))).setCell ⟨wr.heap.size, 7, none⟩ (.int .u8 (at8 xa 7))) := ⟨_, rfl⟩
           rw [← hV6] at R9 R10 KB ⊢
           clear hV6
           refine hK.out _ _ ?_ (fun hHeld => ?_)
           ·with_reducible exact SH.out _ KB.out
           clear hK K
           try simp only [Act.put, List.setIfInBounds_toArray, List.set_cons_zero, List.set_cons_succ]
           refine wpAnyH_ready (rs := [18]) (by kernel_rfl) (by simp) ?_
           refine AllReadyH.cons (o := { dst := none, op := Op.store 53 (Operand.tmp 13) (Operand.tmp 42), type := 0, pos := "l03_normal.go:85", after := #[{ on := 16, ground := Ground.data }, { on := 14, ground := Ground.data }, { on := 17, ground := Ground.chain }, { on := 0, ground := Ground.phase }, { on := 1, ground := Ground.phase }, { on := 2, ground := Ground.phase }, { on := 3, ground := Ground.phase }, { on := 4, ground := Ground.phase }, { on := 5, ground := Ground.phase }, { on := 6, ground := Ground.phase }, { on := 7, ground := Ground.phase }, { on := 8, ground := Ground.phase }, { on := 9, ground := Ground.phase }, { on := 10, ground := Ground.phase }, { on := 11, ground := Ground.phase }, { on := 12, ground := Ground.phase }, { on := 13, ground := Ground.phase }, { on := 14, ground := Ground.phase }, { on := 15, ground := Ground.phase }, { on := 16, ground := Ground.phase }, { on := 17, ground := Ground.phase }], guard := none }) rfl (fun K hK => ?_) ?_
           ·obtain ⟨⟨d0, d1, d2, d3⟩, d4, d5, d6, d7⟩ := R10.out.all
            obtain ⟨⟨f0, f1, f2, f3⟩, f4, f5, f6, f7⟩ := R10.out.frees
            go_simp
            clear d0 d1 d2 d3 d4 d5 d6 d7 f0 f1 f2 f3 f4 f5 f6 f7
            replace R10 := Lib.hid (R10.out.fill xb LL.out.2)
            replace R9 := Lib.hid (R9.out.past (w3.heap.size) (by omega) (.int .u8 (at8 xb 0)) (.int .u8 (at8 xb 1)) (.int .u8 (at8 xb 2)) (.int .u8 (at8 xb 3)) (.int .u8 (at8 xb 4)) (.int .u8 (at8 xb 5)) (.int .u8 (at8 xb 6)) (.int .u8 (at8 xb 7)))
            replace KB := Lib.hid (below_fill8 KB.out (w3.heap.size) (by omega) (.int .u8 (at8 xb 0)) (.int .u8 (at8 xb 1)) (.int .u8 (at8 xb 2)) (.int .u8 (at8 xb 3)) (.int .u8 (at8 xb 4)) (.int .u8 (at8 xb 5)) (.int .u8 (at8 xb 6)) (.int .u8 (at8 xb 7)))
            obtain ⟨V7, hV7⟩ : ∃ V, V = ((((((((V6.setCell ⟨w3.heap.size, 0, none⟩ (.int .u8 (at8 xb 0))).setCell ⟨w3.heap.size, 1, none⟩ (.int .u8 (at8 xb 1))).setCell ⟨w3.heap.size, 2, none⟩ (.int .u8 (at8 xb 2))).setCell ⟨w3.heap.size, 3, none⟩ (.int .u8 (at8 xb 3))).setCell ⟨w3.heap.size, 4, none⟩ (.int .u8 (at8 xb 4))).setCell ⟨w3.heap.size, 5, none⟩ (.int .u8 (at8 xb 5))).setCell ⟨w3.heap.size, 6, none⟩ (.int .u8 (at8 xb 6))).setCell ⟨w3.heap.size, 7, none⟩ (.int .u8 (at8 xb 7))) := ⟨_, rfl⟩
            rw [← hV7] at R9 R10 KB ⊢
            clear hV7
            refine hK.out _ _ ?_ (fun hHeld => ?_)
            ·with_reducible exact SH.out _ KB.out
            clear hK K
            try simp only [Act.put, List.setIfInBounds_toArray, List.set_cons_zero, List.set_cons_succ]
            refine wpAnyH_done (by kernel_rfl) ?_ _
            go_wp2_with fail
            go_meet
            have hhi := HHI.out
            exact ⟨_, _, rfl, rfl, R9.out, R10.out, F.out.below KB.out, by omega, by omega⟩
           exact AllReadyH.nil
          exact AllReadyH.nil
         exact AllReadyH.nil
        refine AllReadyH.cons (o := { dst := some 13, op := Op.alloc 53, type := 0, pos := "l03_normal.go:85", after := #[], guard := none }) rfl (fun K hK => ?_) ?_
        ·go_simp
         replace R9 : Hid (Row8 ((wr.alloc (.cells #[.int .u8 0, .int .u8 0, .int .u8 0, .int .u8 0, .int .u8 0, .int .u8 0, .int .u8 0, .int .u8 0] 53)).alloc (.cells #[.int .u8 0, .int .u8 0, .int .u8 0, .int .u8 0, .int .u8 0, .int .u8 0, .int .u8 0, .int .u8 0] 53)).drew (wr.heap.size) .u8 [0, 0, 0, 0, 0, 0, 0, 0]) := Lib.hid (R9.out.alloc (.cells #[.int .u8 0, .int .u8 0, .int .u8 0, .int .u8 0, .int .u8 0, .int .u8 0, .int .u8 0, .int .u8 0] 53))
         have R10 : Hid (Row8 ((wr.alloc (.cells #[.int .u8 0, .int .u8 0, .int .u8 0, .int .u8 0, .int .u8 0, .int .u8 0, .int .u8 0, .int .u8 0] 53)).alloc (.cells #[.int .u8 0, .int .u8 0, .int .u8 0, .int .u8 0, .int .u8 0, .int .u8 0, .int .u8 0, .int .u8 0] 53)).drew (wr.heap.size + 1) .u8 [0, 0, 0, 0, 0, 0, 0, 0]) := Lib.hid ((Row8.zeros (wr.alloc (.cells #[.int .u8 0, .int .u8 0, .int .u8 0, .int .u8 0, .int .u8 0, .int .u8 0, .int .u8 0, .int .u8 0] 53)) .u8 53 (wr.heap.size + 1) (by simp)).drew)
         replace KB : Hid (Below wr.heap.size wr ((wr.alloc (.cells #[.int .u8 0, .int .u8 0, .int .u8 0, .int .u8 0, .int .u8 0, .int .u8 0, .int .u8 0, .int .u8 0] 53)).alloc (.cells #[.int .u8 0, .int .u8 0, .int .u8 0, .int .u8 0, .int .u8 0, .int .u8 0, .int .u8 0, .int .u8 0] 53)).drew) := Lib.hid (KB.out.alloc KB.out.size (.cells #[.int .u8 0, .int .u8 0, .int .u8 0, .int .u8 0, .int .u8 0, .int .u8 0, .int .u8 0, .int .u8 0] 53))
         refine hK.out _ _ ?_ (fun hHeld => ?_)
         ·with_reducible exact SH.out _ KB.out
         clear hK K
         try simp only [Act.put, List.setIfInBounds_toArray, List.set_cons_zero, List.set_cons_succ]
         refine wpAnyH_ready (rs := [11]) (by kernel_rfl) (by simp) ?_
         refine AllReadyH.cons (o := { dst := some 40, op := Op.call { callee := Callee.value (Operand.tmp 29), args := #[Operand.tmp 34, Operand.tmp 38, Operand.tmp 39], argTypes := #[53, 53, 2] }, type := 76, pos := "l03_normal.go:85", after := #[{ on := 0, ground := Ground.data }, { on := 5, ground := Ground.data }, { on := 9, ground := Ground.data }, { on := 10, ground := Ground.data }], guard := none }) rfl (fun K hK => ?_) ?_
         ·go_simp
          refine (HF.out ra rb SA.out SB.out _).mono ?_
          rw [HX.out]
          rintro e w3 ⟨rfl, gg⟩
          have z3 := gg.size
          (try simp at z3)
          replace R9 := Lib.hid (R9.out.below gg)
          replace R10 := Lib.hid (R10.out.below gg)
          replace KB := Lib.hid (below_go KB.out gg KB.out.size)
          clear gg
          go_wp2_with fail
          refine hK.out _ _ ?_ (fun hHeld => ?_)
          ·with_reducible exact SH.out _ KB.out
          clear hK K
          try simp only [Act.put, List.setIfInBounds_toArray, List.set_cons_zero, List.set_cons_succ]
          refine wpAnyH_take (i := 12) (oi := { dst := some 28, op := Op.move (Operand.tmp 40), type := 76, pos := "l03_normal.go:85", after := #[{ on := 11, ground := Ground.data }], guard := none }) (v := ?_) rfl (by kernel_rfl) (by kernel_rfl) (by kernel_rfl) (fun _ _ _ h => h) (Or.inl ⟨by rfl, ?_⟩) (by assumption) ?_
          rotate_left
          ·intro w hSw
           (try dsimp only at hSw)
           go_simp
           try with_reducible rfl
          try simp only [Act.put, List.setIfInBounds_toArray, List.set_cons_zero, List.set_cons_succ]
          refine wpAnyH_take (i := 13) (oi := { dst := some 41, op := Op.extract (Operand.tmp 28) 0, type := 53, pos := "l03_normal.go:85", after := #[{ on := 12, ground := Ground.data }], guard := none }) (v := ?_) rfl (by kernel_rfl) (by kernel_rfl) (by kernel_rfl) (fun _ _ _ h => h) (Or.inl ⟨by rfl, ?_⟩) (by assumption) ?_
          rotate_left
          ·intro w hSw
           (try dsimp only at hSw)
           go_simp
           try with_reducible rfl
          try simp only [Act.put, List.setIfInBounds_toArray, List.set_cons_zero, List.set_cons_succ]
          refine wpAnyH_take (i := 14) (oi := { dst := some 42, op := Op.extract (Operand.tmp 28) 1, type := 53, pos := "l03_normal.go:85", after := #[{ on := 12, ground := Ground.data }, { on := 17, ground := Ground.gcOnly Departure.lateStores }], guard := none }) (v := ?_) rfl (by kernel_rfl) (by kernel_rfl) (by kernel_rfl) (fun _ _ _ h => h) (Or.inl ⟨by rfl, ?_⟩) (by assumption) ?_
          rotate_left
          ·intro w hSw
           (try dsimp only at hSw)
           go_simp
           try with_reducible rfl
          try simp only [Act.put, List.setIfInBounds_toArray, List.set_cons_zero, List.set_cons_succ]
          refine wpAnyH_ready (rs := [17]) (by kernel_rfl) (by simp) ?_
          refine AllReadyH.cons (o := { dst := none, op := Op.store 53 (Operand.tmp 12) (Operand.tmp 41), type := 0, pos := "l03_normal.go:85", after := #[{ on := 15, ground := Ground.data }, { on := 13, ground := Ground.data }, { on := 11, ground := Ground.chain }, { on := 0, ground := Ground.phase }, { on := 1, ground := Ground.phase }, { on := 2, ground := Ground.phase }, { on := 3, ground := Ground.phase }, { on := 4, ground := Ground.phase }, { on := 5, ground := Ground.phase }, { on := 6, ground := Ground.phase }, { on := 7, ground := Ground.phase }, { on := 8, ground := Ground.phase }, { on := 9, ground := Ground.phase }, { on := 10, ground := Ground.phase }, { on := 11, ground := Ground.phase }, { on := 12, ground := Ground.phase }, { on := 13, ground := Ground.phase }, { on := 14, ground := Ground.textOnly Departure.lateStores }, { on := 15, ground := Ground.phase }, { on := 16, ground := Ground.phase }], guard := none }) rfl (fun K hK => ?_) ?_
          ·obtain ⟨⟨d0, d1, d2, d3⟩, d4, d5, d6, d7⟩ := R9.out.all
           obtain ⟨⟨f0, f1, f2, f3⟩, f4, f5, f6, f7⟩ := R9.out.frees
           go_simp
           clear d0 d1 d2 d3 d4 d5 d6 d7 f0 f1 f2 f3 f4 f5 f6 f7
           replace R9 := Lib.hid (R9.out.fill xa LL.out.1)
           replace R10 := Lib.hid (R10.out.past (wr.heap.size) (by omega) (.int .u8 (at8 xa 0)) (.int .u8 (at8 xa 1)) (.int .u8 (at8 xa 2)) (.int .u8 (at8 xa 3)) (.int .u8 (at8 xa 4)) (.int .u8 (at8 xa 5)) (.int .u8 (at8 xa 6)) (.int .u8 (at8 xa 7)))
           replace KB := Lib.hid (below_fill8 KB.out (wr.heap.size) (by omega) (.int .u8 (at8 xa 0)) (.int .u8 (at8 xa 1)) (.int .u8 (at8 xa 2)) (.int .u8 (at8 xa 3)) (.int .u8 (at8 xa 4)) (.int .u8 (at8 xa 5)) (.int .u8 (at8 xa 6)) (.int .u8 (at8 xa 7)))
           obtain ⟨V6, hV6⟩ : ∃ V, V = ((((((((w3.setCell ⟨wr.heap.size, 0, none⟩ (.int .u8 (at8 xa 0))).setCell ⟨wr.heap.size, 1, none⟩ (.int .u8 (at8 xa 1))).setCell ⟨wr.heap.size, 2, none⟩ (.int .u8 (at8 xa 2))).setCell ⟨wr.heap.size, 3, none⟩ (.int .u8 (at8 xa 3))).setCell ⟨wr.heap.size, 4, none⟩ (.int .u8 (at8 xa 4))).setCell ⟨wr.heap.size, 5, none⟩ (.int .u8 (at8 xa 5))).setCell ⟨wr.heap.size, 6, none⟩ (.int .u8 (at8 xa 6))).setCell ⟨wr.heap.size, 7, none⟩ (.int .u8 (at8 xa 7))) := ⟨_, rfl⟩
           rw [← hV6] at R9 R10 KB ⊢
           clear hV6
           refine hK.out _ _ ?_ (fun hHeld => ?_)
           ·with_reducible exact SH.out _ KB.out
           clear hK K
           try simp only [Act.put, List.setIfInBounds_toArray, List.set_cons_zero, List.set_cons_succ]
           refine wpAnyH_ready (rs := [18]) (by kernel_rfl) (by simp) ?_
           refine AllReadyH.cons (o := { dst := none, op := Op.store 53 (Operand.tmp 13) (Operand.tmp 42), type := 0, pos := "l03_normal.go:85", after := #[{ on := 16, ground := Ground.data }, { on := 14, ground := Ground.data }, { on := 17, ground := Ground.chain }, { on := 0, ground := Ground.phase }, { on := 1, ground := Ground.phase }, { on := 2, ground := Ground.phase }, { on := 3, ground := Ground.phase }, { on := 4, ground := Ground.phase }, { on := 5, ground := Ground.phase }, { on := 6, ground := Ground.phase }, { on := 7, ground := Ground.phase }, { on := 8, ground := Ground.phase }, { on := 9, ground := Ground.phase }, { on := 10, ground := Ground.phase }, { on := 11, ground := Ground.phase }, { on := 12, ground := Ground.phase }, { on := 13, ground := Ground.phase }, { on := 14, ground := Ground.phase }, { on := 15, ground := Ground.phase }, { on := 16, ground := Ground.phase }, { on := 17, ground := Ground.phase }], guard := none }) rfl (fun K hK => ?_) ?_
           ·obtain ⟨⟨d0, d1, d2, d3⟩, d4, d5, d6, d7⟩ := R10.out.all
            obtain ⟨⟨f0, f1, f2, f3⟩, f4, f5, f6, f7⟩ := R10.out.frees
            go_simp
            clear d0 d1 d2 d3 d4 d5 d6 d7 f0 f1 f2 f3 f4 f5 f6 f7
            replace R10 := Lib.hid (R10.out.fill xb LL.out.2)
            replace R9 := Lib.hid (R9.out.past (wr.heap.size + 1) (by omega) (.int .u8 (at8 xb 0)) (.int .u8 (at8 xb 1)) (.int .u8 (at8 xb 2)) (.int .u8 (at8 xb 3)) (.int .u8 (at8 xb 4)) (.int .u8 (at8 xb 5)) (.int .u8 (at8 xb 6)) (.int .u8 (at8 xb 7)))
            replace KB := Lib.hid (below_fill8 KB.out (wr.heap.size + 1) (by omega) (.int .u8 (at8 xb 0)) (.int .u8 (at8 xb 1)) (.int .u8 (at8 xb 2)) (.int .u8 (at8 xb 3)) (.int .u8 (at8 xb 4)) (.int .u8 (at8 xb 5)) (.int .u8 (at8 xb 6)) (.int .u8 (at8 xb 7)))
            obtain ⟨V7, hV7⟩ : ∃ V, V = ((((((((V6.setCell ⟨wr.heap.size + 1, 0, none⟩ (.int .u8 (at8 xb 0))).setCell ⟨wr.heap.size + 1, 1, none⟩ (.int .u8 (at8 xb 1))).setCell ⟨wr.heap.size + 1, 2, none⟩ (.int .u8 (at8 xb 2))).setCell ⟨wr.heap.size + 1, 3, none⟩ (.int .u8 (at8 xb 3))).setCell ⟨wr.heap.size + 1, 4, none⟩ (.int .u8 (at8 xb 4))).setCell ⟨wr.heap.size + 1, 5, none⟩ (.int .u8 (at8 xb 5))).setCell ⟨wr.heap.size + 1, 6, none⟩ (.int .u8 (at8 xb 6))).setCell ⟨wr.heap.size + 1, 7, none⟩ (.int .u8 (at8 xb 7))) := ⟨_, rfl⟩
            rw [← hV7] at R9 R10 KB ⊢
            clear hV7
            refine hK.out _ _ ?_ (fun hHeld => ?_)
            ·with_reducible exact SH.out _ KB.out
            clear hK K
            try simp only [Act.put, List.setIfInBounds_toArray, List.set_cons_zero, List.set_cons_succ]
            refine wpAnyH_done (by kernel_rfl) ?_ _
            go_wp2_with fail
            go_meet
            have hhi := HHI.out
            exact ⟨_, _, rfl, rfl, R9.out, R10.out, F.out.below KB.out, by omega, by omega⟩
           exact AllReadyH.nil
          exact AllReadyH.nil
         exact AllReadyH.nil
        exact AllReadyH.nil
       refine AllReadyH.cons (o := { dst := some 13, op := Op.alloc 53, type := 0, pos := "l03_normal.go:85", after := #[], guard := none }) rfl (fun K hK => ?_) ?_
       ·go_simp
        have R10 : Hid (Row8 (wr.alloc (.cells #[.int .u8 0, .int .u8 0, .int .u8 0, .int .u8 0, .int .u8 0, .int .u8 0, .int .u8 0, .int .u8 0] 53)).drew (wr.heap.size) .u8 [0, 0, 0, 0, 0, 0, 0, 0]) := Lib.hid ((Row8.zeros wr .u8 53 (wr.heap.size) (by simp)).drew)
        replace KB : Hid (Below wr.heap.size wr (wr.alloc (.cells #[.int .u8 0, .int .u8 0, .int .u8 0, .int .u8 0, .int .u8 0, .int .u8 0, .int .u8 0, .int .u8 0] 53)).drew) := Lib.hid (KB.out.alloc KB.out.size (.cells #[.int .u8 0, .int .u8 0, .int .u8 0, .int .u8 0, .int .u8 0, .int .u8 0, .int .u8 0, .int .u8 0] 53))
        refine hK.out _ _ ?_ (fun hHeld => ?_)
        ·with_reducible exact SH.out _ KB.out
        clear hK K
        try simp only [Act.put, List.setIfInBounds_toArray, List.set_cons_zero, List.set_cons_succ]
        refine wpAnyH_ready (rs := [11, 15]) (by kernel_rfl) (by simp) ?_
        refine AllReadyH.cons (o := { dst := some 40, op := Op.call { callee := Callee.value (Operand.tmp 29), args := #[Operand.tmp 34, Operand.tmp 38, Operand.tmp 39], argTypes := #[53, 53, 2] }, type := 76, pos := "l03_normal.go:85", after := #[{ on := 0, ground := Ground.data }, { on := 5, ground := Ground.data }, { on := 9, ground := Ground.data }, { on := 10, ground := Ground.data }], guard := none }) rfl (fun K hK => ?_) ?_
        ·go_simp
         refine (HF.out ra rb SA.out SB.out _).mono ?_
         rw [HX.out]
         rintro e w3 ⟨rfl, gg⟩
         have z3 := gg.size
         (try simp at z3)
         replace R10 := Lib.hid (R10.out.below gg)
         replace KB := Lib.hid (below_go KB.out gg KB.out.size)
         clear gg
         go_wp2_with fail
         refine hK.out _ _ ?_ (fun hHeld => ?_)
         ·with_reducible exact SH.out _ KB.out
         clear hK K
         try simp only [Act.put, List.setIfInBounds_toArray, List.set_cons_zero, List.set_cons_succ]
         refine wpAnyH_take (i := 12) (oi := { dst := some 28, op := Op.move (Operand.tmp 40), type := 76, pos := "l03_normal.go:85", after := #[{ on := 11, ground := Ground.data }], guard := none }) (v := ?_) rfl (by kernel_rfl) (by kernel_rfl) (by kernel_rfl) (fun _ _ _ h => h) (Or.inl ⟨by rfl, ?_⟩) (by assumption) ?_
         rotate_left
         ·intro w hSw
          (try dsimp only at hSw)
          go_simp
          try with_reducible rfl
         try simp only [Act.put, List.setIfInBounds_toArray, List.set_cons_zero, List.set_cons_succ]
         refine wpAnyH_take (i := 13) (oi := { dst := some 41, op := Op.extract (Operand.tmp 28) 0, type := 53, pos := "l03_normal.go:85", after := #[{ on := 12, ground := Ground.data }], guard := none }) (v := ?_) rfl (by kernel_rfl) (by kernel_rfl) (by kernel_rfl) (fun _ _ _ h => h) (Or.inl ⟨by rfl, ?_⟩) (by assumption) ?_
         rotate_left
         ·intro w hSw
          (try dsimp only at hSw)
          go_simp
          try with_reducible rfl
         try simp only [Act.put, List.setIfInBounds_toArray, List.set_cons_zero, List.set_cons_succ]
         refine wpAnyH_take (i := 14) (oi := { dst := some 42, op := Op.extract (Operand.tmp 28) 1, type := 53, pos := "l03_normal.go:85", after := #[{ on := 12, ground := Ground.data }, { on := 17, ground := Ground.gcOnly Departure.lateStores }], guard := none }) (v := ?_) rfl (by kernel_rfl) (by kernel_rfl) (by kernel_rfl) (fun _ _ _ h => h) (Or.inl ⟨by rfl, ?_⟩) (by assumption) ?_
         rotate_left
         ·intro w hSw
          (try dsimp only at hSw)
          go_simp
          try with_reducible rfl
         try simp only [Act.put, List.setIfInBounds_toArray, List.set_cons_zero, List.set_cons_succ]
         refine wpAnyH_ready (rs := [15]) (by kernel_rfl) (by simp) ?_
         refine AllReadyH.cons (o := { dst := some 12, op := Op.alloc 53, type := 0, pos := "l03_normal.go:85", after := #[], guard := none }) rfl (fun K hK => ?_) ?_
         ·go_simp
          replace R10 : Hid (Row8 (w3.alloc (.cells #[.int .u8 0, .int .u8 0, .int .u8 0, .int .u8 0, .int .u8 0, .int .u8 0, .int .u8 0, .int .u8 0] 53)) (wr.heap.size) .u8 [0, 0, 0, 0, 0, 0, 0, 0]) := Lib.hid (R10.out.alloc (.cells #[.int .u8 0, .int .u8 0, .int .u8 0, .int .u8 0, .int .u8 0, .int .u8 0, .int .u8 0, .int .u8 0] 53))
          have R9 : Hid (Row8 (w3.alloc (.cells #[.int .u8 0, .int .u8 0, .int .u8 0, .int .u8 0, .int .u8 0, .int .u8 0, .int .u8 0, .int .u8 0] 53)) (w3.heap.size) .u8 [0, 0, 0, 0, 0, 0, 0, 0]) := Lib.hid ((Row8.zeros w3 .u8 53 (w3.heap.size) (by simp)))
          replace KB : Hid (Below wr.heap.size wr (w3.alloc (.cells #[.int .u8 0, .int .u8 0, .int .u8 0, .int .u8 0, .int .u8 0, .int .u8 0, .int .u8 0, .int .u8 0] 53))) := Lib.hid (KB.out.alloc KB.out.size (.cells #[.int .u8 0, .int .u8 0, .int .u8 0, .int .u8 0, .int .u8 0, .int .u8 0, .int .u8 0, .int .u8 0] 53))
          obtain ⟨V9, hV⟩ : ∃ V, V = (w3.alloc (.cells #[.int .u8 0, .int .u8 0, .int .u8 0, .int .u8 0, .int .u8 0, .int .u8 0, .int .u8 0, .int .u8 0] 53)) := ⟨_, rfl⟩
          rw [← hV] at KB R9 R10 ⊢
          clear hV
          have zV9 := R9.out.lt
          refine hK.out _ _ ?_ (fun hHeld => ?_)
          ·with_reducible exact SH.out _ KB.out
          clear hK K
          try simp only [Act.put, List.setIfInBounds_toArray, List.set_cons_zero, List.set_cons_succ]
          refine wpAnyH_ready (rs := [17]) (by kernel_rfl) (by simp) ?_
          refine AllReadyH.cons (o := { dst := none, op := Op.store 53 (Operand.tmp 12) (Operand.tmp 41), type := 0, pos := "l03_normal.go:85", after := #[{ on := 15, ground := Ground.data }, { on := 13, ground := Ground.data }, { on := 11, ground := Ground.chain }, { on := 0, ground := Ground.phase }, { on := 1, ground := Ground.phase }, { on := 2, ground := Ground.phase }, { on := 3, ground := Ground.phase }, { on := 4, ground := Ground.phase }, { on := 5, ground := Ground.phase }, { on := 6, ground := Ground.phase }, { on := 7, ground := Ground.phase }, { on := 8, ground := Ground.phase }, { on := 9, ground := Ground.phase }, { on := 10, ground := Ground.phase }, { on := 11, ground := Ground.phase }, { on := 12, ground := Ground.phase }, { on := 13, ground := Ground.phase }, { on := 14, ground := Ground.textOnly Departure.lateStores }, { on := 15, ground := Ground.phase }, { on := 16, ground := Ground.phase }], guard := none }) rfl (fun K hK => ?_) ?_
          ·obtain ⟨⟨d0, d1, d2, d3⟩, d4, d5, d6, d7⟩ := R9.out.all
           obtain ⟨⟨f0, f1, f2, f3⟩, f4, f5, f6, f7⟩ := R9.out.frees
           go_simp
           clear d0 d1 d2 d3 d4 d5 d6 d7 f0 f1 f2 f3 f4 f5 f6 f7
           replace R9 := Lib.hid (R9.out.fill xa LL.out.1)
           replace R10 := Lib.hid (R10.out.past (w3.heap.size) (by omega) (.int .u8 (at8 xa 0)) (.int .u8 (at8 xa 1)) (.int .u8 (at8 xa 2)) (.int .u8 (at8 xa 3)) (.int .u8 (at8 xa 4)) (.int .u8 (at8 xa 5)) (.int .u8 (at8 xa 6)) (.int .u8 (at8 xa 7)))
           replace KB := Lib.hid (below_fill8 KB.out (w3.heap.size) (by omega) (.int .u8 (at8 xa 0)) (.int .u8 (at8 xa 1)) (.int .u8 (at8 xa 2)) (.int .u8 (at8 xa 3)) (.int .u8 (at8 xa 4)) (.int .u8 (at8 xa 5)) (.int .u8 (at8 xa 6)) (.int .u8 (at8 xa 7)))
           obtain ⟨V6, hV6⟩ : ∃ V, V = ((((((((V9.setCell ⟨w3.heap.size, 0, none⟩ (.int .u8 (at8 xa 0))).setCell ⟨w3.heap.size, 1, none⟩ (.int .u8 (at8 xa 1))).setCell ⟨w3.heap.size, 2, none⟩ (.int .u8 (at8 xa 2))).setCell ⟨w3.heap.size, 3, none⟩ (.int .u8 (at8 xa 3))).setCell ⟨w3.heap.size, 4, none⟩ (.int .u8 (at8 xa 4))).setCell ⟨w3.heap.size, 5, none⟩ (.int .u8 (at8 xa 5))).setCell ⟨w3.heap.size, 6, none⟩ (.int .u8 (at8 xa 6))).setCell ⟨w3.heap.size, 7, none⟩ (.int .u8 (at8 xa 7))) := ⟨_, rfl⟩
           rw [← hV6] at R9 R10 KB ⊢
           clear hV6
           refine hK.out _ _ ?_ (fun hHeld => ?_)
           ·with_reducible exact SH.out _ KB.out
           clear hK K
           try simp only [Act.put, List.setIfInBounds_toArray, List.set_cons_zero, List.set_cons_succ]
           refine wpAnyH_ready (rs := [18]) (by kernel_rfl) (by simp) ?_
           refine AllReadyH.cons (o := { dst := none, op := Op.store 53 (Operand.tmp 13) (Operand.tmp 42), type := 0, pos := "l03_normal.go:85", after := #[{ on := 16, ground := Ground.data }, { on := 14, ground := Ground.data }, { on := 17, ground := Ground.chain }, { on := 0, ground := Ground.phase }, { on := 1, ground := Ground.phase }, { on := 2, ground := Ground.phase }, { on := 3, ground := Ground.phase }, { on := 4, ground := Ground.phase }, { on := 5, ground := Ground.phase }, { on := 6, ground := Ground.phase }, { on := 7, ground := Ground.phase }, { on := 8, ground := Ground.phase }, { on := 9, ground := Ground.phase }, { on := 10, ground := Ground.phase }, { on := 11, ground := Ground.phase }, { on := 12, ground := Ground.phase }, { on := 13, ground := Ground.phase }, { on := 14, ground := Ground.phase }, { on := 15, ground := Ground.phase }, { on := 16, ground := Ground.phase }, { on := 17, ground := Ground.phase }], guard := none }) rfl (fun K hK => ?_) ?_
           ·obtain ⟨⟨d0, d1, d2, d3⟩, d4, d5, d6, d7⟩ := R10.out.all
            obtain ⟨⟨f0, f1, f2, f3⟩, f4, f5, f6, f7⟩ := R10.out.frees
            go_simp
            clear d0 d1 d2 d3 d4 d5 d6 d7 f0 f1 f2 f3 f4 f5 f6 f7
            replace R10 := Lib.hid (R10.out.fill xb LL.out.2)
            replace R9 := Lib.hid (R9.out.past (wr.heap.size) (by omega) (.int .u8 (at8 xb 0)) (.int .u8 (at8 xb 1)) (.int .u8 (at8 xb 2)) (.int .u8 (at8 xb 3)) (.int .u8 (at8 xb 4)) (.int .u8 (at8 xb 5)) (.int .u8 (at8 xb 6)) (.int .u8 (at8 xb 7)))
            replace KB := Lib.hid (below_fill8 KB.out (wr.heap.size) (by omega) (.int .u8 (at8 xb 0)) (.int .u8 (at8 xb 1)) (.int .u8 (at8 xb 2)) (.int .u8 (at8 xb 3)) (.int .u8 (at8 xb 4)) (.int .u8 (at8 xb 5)) (.int .u8 (at8 xb 6)) (.int .u8 (at8 xb 7)))
            obtain ⟨V7, hV7⟩ : ∃ V, V = ((((((((V6.setCell ⟨wr.heap.size, 0, none⟩ (.int .u8 (at8 xb 0))).setCell ⟨wr.heap.size, 1, none⟩ (.int .u8 (at8 xb 1))).setCell ⟨wr.heap.size, 2, none⟩ (.int .u8 (at8 xb 2))).setCell ⟨wr.heap.size, 3, none⟩ (.int .u8 (at8 xb 3))).setCell ⟨wr.heap.size, 4, none⟩ (.int .u8 (at8 xb 4))).setCell ⟨wr.heap.size, 5, none⟩ (.int .u8 (at8 xb 5))).setCell ⟨wr.heap.size, 6, none⟩ (.int .u8 (at8 xb 6))).setCell ⟨wr.heap.size, 7, none⟩ (.int .u8 (at8 xb 7))) := ⟨_, rfl⟩
            rw [← hV7] at R9 R10 KB ⊢
            clear hV7
            refine hK.out _ _ ?_ (fun hHeld => ?_)
            ·with_reducible exact SH.out _ KB.out
            clear hK K
            try simp only [Act.put, List.setIfInBounds_toArray, List.set_cons_zero, List.set_cons_succ]
            refine wpAnyH_done (by kernel_rfl) ?_ _
            go_wp2_with fail
            go_meet
            have hhi := HHI.out
            exact ⟨_, _, rfl, rfl, R9.out, R10.out, F.out.below KB.out, by omega, by omega⟩
           exact AllReadyH.nil
          exact AllReadyH.nil
         exact AllReadyH.nil
        refine AllReadyH.cons (o := { dst := some 12, op := Op.alloc 53, type := 0, pos := "l03_normal.go:85", after := #[], guard := none }) rfl (fun K hK => ?_) ?_
        ·go_simp
         replace R10 : Hid (Row8 ((wr.alloc (.cells #[.int .u8 0, .int .u8 0, .int .u8 0, .int .u8 0, .int .u8 0, .int .u8 0, .int .u8 0, .int .u8 0] 53)).alloc (.cells #[.int .u8 0, .int .u8 0, .int .u8 0, .int .u8 0, .int .u8 0, .int .u8 0, .int .u8 0, .int .u8 0] 53)).drew (wr.heap.size) .u8 [0, 0, 0, 0, 0, 0, 0, 0]) := Lib.hid (R10.out.alloc (.cells #[.int .u8 0, .int .u8 0, .int .u8 0, .int .u8 0, .int .u8 0, .int .u8 0, .int .u8 0, .int .u8 0] 53))
         have R9 : Hid (Row8 ((wr.alloc (.cells #[.int .u8 0, .int .u8 0, .int .u8 0, .int .u8 0, .int .u8 0, .int .u8 0, .int .u8 0, .int .u8 0] 53)).alloc (.cells #[.int .u8 0, .int .u8 0, .int .u8 0, .int .u8 0, .int .u8 0, .int .u8 0, .int .u8 0, .int .u8 0] 53)).drew (wr.heap.size + 1) .u8 [0, 0, 0, 0, 0, 0, 0, 0]) := Lib.hid ((Row8.zeros (wr.alloc (.cells #[.int .u8 0, .int .u8 0, .int .u8 0, .int .u8 0, .int .u8 0, .int .u8 0, .int .u8 0, .int .u8 0] 53)) .u8 53 (wr.heap.size + 1) (by simp)).drew)
         replace KB : Hid (Below wr.heap.size wr ((wr.alloc (.cells #[.int .u8 0, .int .u8 0, .int .u8 0, .int .u8 0, .int .u8 0, .int .u8 0, .int .u8 0, .int .u8 0] 53)).alloc (.cells #[.int .u8 0, .int .u8 0, .int .u8 0, .int .u8 0, .int .u8 0, .int .u8 0, .int .u8 0, .int .u8 0] 53)).drew) := Lib.hid (KB.out.alloc KB.out.size (.cells #[.int .u8 0, .int .u8 0, .int .u8 0, .int .u8 0, .int .u8 0, .int .u8 0, .int .u8 0, .int .u8 0] 53))
         refine hK.out _ _ ?_ (fun hHeld => ?_)
         ·with_reducible exact SH.out _ KB.out
         clear hK K
         try simp only [Act.put, List.setIfInBounds_toArray, List.set_cons_zero, List.set_cons_succ]
         refine wpAnyH_ready (rs := [11]) (by kernel_rfl) (by simp) ?_
         refine AllReadyH.cons (o := { dst := some 40, op := Op.call { callee := Callee.value (Operand.tmp 29), args := #[Operand.tmp 34, Operand.tmp 38, Operand.tmp 39], argTypes := #[53, 53, 2] }, type := 76, pos := "l03_normal.go:85", after := #[{ on := 0, ground := Ground.data }, { on := 5, ground := Ground.data }, { on := 9, ground := Ground.data }, { on := 10, ground := Ground.data }], guard := none }) rfl (fun K hK => ?_) ?_
         ·go_simp
          refine (HF.out ra rb SA.out SB.out _).mono ?_
          rw [HX.out]
          rintro e w3 ⟨rfl, gg⟩
          have z3 := gg.size
          (try simp at z3)
          replace R9 := Lib.hid (R9.out.below gg)
          replace R10 := Lib.hid (R10.out.below gg)
          replace KB := Lib.hid (below_go KB.out gg KB.out.size)
          clear gg
          go_wp2_with fail
          refine hK.out _ _ ?_ (fun hHeld => ?_)
          ·with_reducible exact SH.out _ KB.out
          clear hK K
          try simp only [Act.put, List.setIfInBounds_toArray, List.set_cons_zero, List.set_cons_succ]
          refine wpAnyH_take (i := 12) (oi := { dst := some 28, op := Op.move (Operand.tmp 40), type := 76, pos := "l03_normal.go:85", after := #[{ on := 11, ground := Ground.data }], guard := none }) (v := ?_) rfl (by kernel_rfl) (by kernel_rfl) (by kernel_rfl) (fun _ _ _ h => h) (Or.inl ⟨by rfl, ?_⟩) (by assumption) ?_
          rotate_left
          ·intro w hSw
           (try dsimp only at hSw)
           go_simp
           try with_reducible rfl
          try simp only [Act.put, List.setIfInBounds_toArray, List.set_cons_zero, List.set_cons_succ]
          refine wpAnyH_take (i := 13) (oi := { dst := some 41, op := Op.extract (Operand.tmp 28) 0, type := 53, pos := "l03_normal.go:85", after := #[{ on := 12, ground := Ground.data }], guard := none }) (v := ?_) rfl (by kernel_rfl) (by kernel_rfl) (by kernel_rfl) (fun _ _ _ h => h) (Or.inl ⟨by rfl, ?_⟩) (by assumption) ?_
          rotate_left
          ·intro w hSw
           (try dsimp only at hSw)
           go_simp
           try with_reducible rfl
          try simp only [Act.put, List.setIfInBounds_toArray, List.set_cons_zero, List.set_cons_succ]
          refine wpAnyH_take (i := 14) (oi := { dst := some 42, op := Op.extract (Operand.tmp 28) 1, type := 53, pos := "l03_normal.go:85", after := #[{ on := 12, ground := Ground.data }, { on := 17, ground := Ground.gcOnly Departure.lateStores }], guard := none }) (v := ?_) rfl (by kernel_rfl) (by kernel_rfl) (by kernel_rfl) (fun _ _ _ h => h) (Or.inl ⟨by rfl, ?_⟩) (by assumption) ?_
          rotate_left
          ·intro w hSw
           (try dsimp only at hSw)
           go_simp
           try with_reducible rfl
          try simp only [Act.put, List.setIfInBounds_toArray, List.set_cons_zero, List.set_cons_succ]
          refine wpAnyH_ready (rs := [17]) (by kernel_rfl) (by simp) ?_
          refine AllReadyH.cons (o := { dst := none, op := Op.store 53 (Operand.tmp 12) (Operand.tmp 41), type := 0, pos := "l03_normal.go:85", after := #[{ on := 15, ground := Ground.data }, { on := 13, ground := Ground.data }, { on := 11, ground := Ground.chain }, { on := 0, ground := Ground.phase }, { on := 1, ground := Ground.phase }, { on := 2, ground := Ground.phase }, { on := 3, ground := Ground.phase }, { on := 4, ground := Ground.phase }, { on := 5, ground := Ground.phase }, { on := 6, ground := Ground.phase }, { on := 7, ground := Ground.phase }, { on := 8, ground := Ground.phase }, { on := 9, ground := Ground.phase }, { on := 10, ground := Ground.phase }, { on := 11, ground := Ground.phase }, { on := 12, ground := Ground.phase }, { on := 13, ground := Ground.phase }, { on := 14, ground := Ground.textOnly Departure.lateStores }, { on := 15, ground := Ground.phase }, { on := 16, ground := Ground.phase }], guard := none }) rfl (fun K hK => ?_) ?_
          ·obtain ⟨⟨d0, d1, d2, d3⟩, d4, d5, d6, d7⟩ := R9.out.all
           obtain ⟨⟨f0, f1, f2, f3⟩, f4, f5, f6, f7⟩ := R9.out.frees
           go_simp
           clear d0 d1 d2 d3 d4 d5 d6 d7 f0 f1 f2 f3 f4 f5 f6 f7
           replace R9 := Lib.hid (R9.out.fill xa LL.out.1)
           replace R10 := Lib.hid (R10.out.past (wr.heap.size + 1) (by omega) (.int .u8 (at8 xa 0)) (.int .u8 (at8 xa 1)) (.int .u8 (at8 xa 2)) (.int .u8 (at8 xa 3)) (.int .u8 (at8 xa 4)) (.int .u8 (at8 xa 5)) (.int .u8 (at8 xa 6)) (.int .u8 (at8 xa 7)))
           replace KB := Lib.hid (below_fill8 KB.out (wr.heap.size + 1) (by omega) (.int .u8 (at8 xa 0)) (.int .u8 (at8 xa 1)) (.int .u8 (at8 xa 2)) (.int .u8 (at8 xa 3)) (.int .u8 (at8 xa 4)) (.int .u8 (at8 xa 5)) (.int .u8 (at8 xa 6)) (.int .u8 (at8 xa 7)))
           obtain ⟨V6, hV6⟩ : ∃ V, V = ((((((((w3.setCell ⟨wr.heap.size + 1, 0, none⟩ (.int .u8 (at8 xa 0))).setCell ⟨wr.heap.size + 1, 1, none⟩ (.int .u8 (at8 xa 1))).setCell ⟨wr.heap.size + 1, 2, none⟩ (.int .u8 (at8 xa 2))).setCell ⟨wr.heap.size + 1, 3, none⟩ (.int .u8 (at8 xa 3))).setCell ⟨wr.heap.size + 1, 4, none⟩ (.int .u8 (at8 xa 4))).setCell ⟨wr.heap.size + 1, 5, none⟩ (.int .u8 (at8 xa 5))).setCell ⟨wr.heap.size + 1, 6, none⟩ (.int .u8 (at8 xa 6))).setCell ⟨wr.heap.size + 1, 7, none⟩ (.int .u8 (at8 xa 7))) := ⟨_, rfl⟩
           rw [← hV6] at R9 R10 KB ⊢
           clear hV6
           refine hK.out _ _ ?_ (fun hHeld => ?_)
           ·with_reducible exact SH.out _ KB.out
           clear hK K
           try simp only [Act.put, List.setIfInBounds_toArray, List.set_cons_zero, List.set_cons_succ]
           refine wpAnyH_ready (rs := [18]) (by kernel_rfl) (by simp) ?_
           refine AllReadyH.cons (o := { dst := none, op := Op.store 53 (Operand.tmp 13) (Operand.tmp 42), type := 0, pos := "l03_normal.go:85", after := #[{ on := 16, ground := Ground.data }, { on := 14, ground := Ground.data }, { on := 17, ground := Ground.chain }, { on := 0, ground := Ground.phase }, { on := 1, ground := Ground.phase }, { on := 2, ground := Ground.phase }, { on := 3, ground := Ground.phase }, { on := 4, ground := Ground.phase }, { on := 5, ground := Ground.phase }, { on := 6, ground := Ground.phase }, { on := 7, ground := Ground.phase }, { on := 8, ground := Ground.phase }, { on := 9, ground := Ground.phase }, { on := 10, ground := Ground.phase }, { on := 11, ground := Ground.phase }, { on := 12, ground := Ground.phase }, { on := 13, ground := Ground.phase }, { on := 14, ground := Ground.phase }, { on := 15, ground := Ground.phase }, { on := 16, ground := Ground.phase }, { on := 17, ground := Ground.phase }], guard := none }) rfl (fun K hK => ?_) ?_
           ·obtain ⟨⟨d0, d1, d2, d3⟩, d4, d5, d6, d7⟩ := R10.out.all
            obtain ⟨⟨f0, f1, f2, f3⟩, f4, f5, f6, f7⟩ := R10.out.frees
            go_simp
            clear d0 d1 d2 d3 d4 d5 d6 d7 f0 f1 f2 f3 f4 f5 f6 f7
            replace R10 := Lib.hid (R10.out.fill xb LL.out.2)
            replace R9 := Lib.hid (R9.out.past (wr.heap.size) (by omega) (.int .u8 (at8 xb 0)) (.int .u8 (at8 xb 1)) (.int .u8 (at8 xb 2)) (.int .u8 (at8 xb 3)) (.int .u8 (at8 xb 4)) (.int .u8 (at8 xb 5)) (.int .u8 (at8 xb 6)) (.int .u8 (at8 xb 7)))
            replace KB := Lib.hid (below_fill8 KB.out (wr.heap.size) (by omega) (.int .u8 (at8 xb 0)) (.int .u8 (at8 xb 1)) (.int .u8 (at8 xb 2)) (.int .u8 (at8 xb 3)) (.int .u8 (at8 xb 4)) (.int .u8 (at8 xb 5)) (.int .u8 (at8 xb 6)) (.int .u8 (at8 xb 7)))
            obtain ⟨V7, hV7⟩ : ∃ V, V = ((((((((V6.setCell ⟨wr.heap.size, 0, none⟩ (.int .u8 (at8 xb 0))).setCell ⟨wr.heap.size, 1, none⟩ (.int .u8 (at8 xb 1))).setCell ⟨wr.heap.size, 2, none⟩ (.int .u8 (at8 xb 2))).setCell ⟨wr.heap.size, 3, none⟩ (.int .u8 (at8 xb 3))).setCell ⟨wr.heap.size, 4, none⟩ (.int .u8 (at8 xb 4))).setCell ⟨wr.heap.size, 5, none⟩ (.int .u8 (at8 xb 5))).setCell ⟨wr.heap.size, 6, none⟩ (.int .u8 (at8 xb 6))).setCell ⟨wr.heap.size, 7, none⟩ (.int .u8 (at8 xb 7))) := ⟨_, rfl⟩
            rw [← hV7] at R9 R10 KB ⊢
            clear hV7
            refine hK.out _ _ ?_ (fun hHeld => ?_)
            ·with_reducible exact SH.out _ KB.out
            clear hK K
            try simp only [Act.put, List.setIfInBounds_toArray, List.set_cons_zero, List.set_cons_succ]
            refine wpAnyH_done (by kernel_rfl) ?_ _
            go_wp2_with fail
            go_meet
            have hhi := HHI.out
            exact ⟨_, _, rfl, rfl, R9.out, R10.out, F.out.below KB.out, by omega, by omega⟩
           exact AllReadyH.nil
          exact AllReadyH.nil
         exact AllReadyH.nil
        exact AllReadyH.nil
       exact AllReadyH.nil
      case rest =>
       obtain ⟨g9, g10, rfl, rfl, hR9, hR10, hF, hn9, hn10⟩ := hcut
       clear F
       have F := Lib.hid hF
       have R9 := Lib.hid hR9
       have R10 := Lib.hid hR10
       clear hF hR9 hR10
       go_upto_region 7 with fail
       replace F := Lib.hid (F.out.below (Below.refl wc.heap.size wc).drew)
       replace R9 := Lib.hid R9.out.drew
       replace R10 := Lib.hid R10.out.drew
       by_cases he : xa = ra
       ·have heq : ∀ W, Sem.run Try.prog (Op.equalIn 10000 53 (arr8 .u8 xa) (arr8 .u8 ra)) W = .ok true W := fun W => by rw [equal8 xa ra LL.out.1 SA.out.len W, decide_eq_true he]
        have HE := Lib.hid he; clear he
        refine wp_region_held_drew (S := (fun w' => (w'.cell? ⟨g9, 0, none⟩ = some (.int .u8 (at8 xa 0)) ∧ w'.cell? ⟨g9, 1, none⟩ = some (.int .u8 (at8 xa 1)) ∧ w'.cell? ⟨g9, 2, none⟩ = some (.int .u8 (at8 xa 2)) ∧ w'.cell? ⟨g9, 3, none⟩ = some (.int .u8 (at8 xa 3)) ∧ w'.cell? ⟨g9, 4, none⟩ = some (.int .u8 (at8 xa 4)) ∧ w'.cell? ⟨g9, 5, none⟩ = some (.int .u8 (at8 xa 5)) ∧ w'.cell? ⟨g9, 6, none⟩ = some (.int .u8 (at8 xa 6)) ∧ w'.cell? ⟨g9, 7, none⟩ = some (.int .u8 (at8 xa 7))) ∧ (w'.cell? ⟨gb, k * 8, none⟩ = some (.int .u8 (at8 ra 0)) ∧ w'.cell? ⟨gb, k * 8 + 1, none⟩ = some (.int .u8 (at8 ra 1)) ∧ w'.cell? ⟨gb, k * 8 + 2, none⟩ = some (.int .u8 (at8 ra 2)) ∧ w'.cell? ⟨gb, k * 8 + 3, none⟩ = some (.int .u8 (at8 ra 3)) ∧ w'.cell? ⟨gb, k * 8 + 4, none⟩ = some (.int .u8 (at8 ra 4)) ∧ w'.cell? ⟨gb, k * 8 + 5, none⟩ = some (.int .u8 (at8 ra 5)) ∧ w'.cell? ⟨gb, k * 8 + 6, none⟩ = some (.int .u8 (at8 ra 6)) ∧ w'.cell? ⟨gb, k * 8 + 7, none⟩ = some (.int .u8 (at8 ra 7))))) (by kernel_rfl) ?_ (fun hHeld => ?_)
        ·with_reducible exact ⟨R9.out.flat, (HRA.out _ F.out).flat⟩
        refine wpAnyH_take (i := 0) (oi := { dst := some 43, op := Op.load 53 (Operand.tmp 12), type := 53, pos := "l03_normal.go:86", after := #[], guard := none }) (v := ?_) rfl (by kernel_rfl) (by kernel_rfl) (by kernel_rfl) (fun _ _ _ h => h) (Or.inl ⟨by rfl, ?_⟩) (by assumption) ?_
        rotate_left
        ·intro w hSw
         (try dsimp only at hSw)
         go_simp
         try with_reducible rfl
        try simp only [Act.put, List.setIfInBounds_toArray, List.set_cons_zero, List.set_cons_succ]
        refine wpAnyH_take (i := 1) (oi := { dst := some 44, op := Op.move (Operand.tmp 10), type := 26, pos := "l03_normal.go:86", after := #[], guard := none }) (v := ?_) rfl (by kernel_rfl) (by kernel_rfl) (by kernel_rfl) (fun _ _ _ h => h) (Or.inl ⟨by rfl, ?_⟩) (by assumption) ?_
        rotate_left
        ·intro w hSw
         (try dsimp only at hSw)
         go_simp
         try with_reducible rfl
        try simp only [Act.put, List.setIfInBounds_toArray, List.set_cons_zero, List.set_cons_succ]
        refine wpAnyH_take (i := 2) (oi := { dst := some 45, op := Op.move (Operand.tmp 11), type := 3, pos := "l03_normal.go:86", after := #[], guard := none }) (v := ?_) rfl (by kernel_rfl) (by kernel_rfl) (by kernel_rfl) (fun _ _ _ h => h) (Or.inl ⟨by rfl, ?_⟩) (by assumption) ?_
        rotate_left
        ·intro w hSw
         (try dsimp only at hSw)
         go_simp
         try with_reducible rfl
        try simp only [Act.put, List.setIfInBounds_toArray, List.set_cons_zero, List.set_cons_succ]
        refine wpAnyH_take (i := 3) (oi := { dst := some 46, op := Op.binOp BinOp.sub 3 (Operand.tmp 45) (Operand.const (Value.int IntKind.i64 1)) 3, type := 3, pos := "l03_normal.go:86", after := #[{ on := 2, ground := Ground.data }], guard := none }) (v := ?_) rfl (by kernel_rfl) (by kernel_rfl) (by kernel_rfl) (fun _ _ _ h => h) (Or.inl ⟨by rfl, ?_⟩) (by assumption) ?_
        rotate_left
        ·intro w hSw
         (try dsimp only at hSw)
         go_simp
         try with_reducible rfl
        try simp only [Act.put, List.setIfInBounds_toArray, List.set_cons_zero, List.set_cons_succ]
        refine wpAnyH_take (i := 4) (oi := { dst := some 47, op := Op.indexAddr 26 (Operand.tmp 44) (Operand.tmp 46), type := 0, pos := "l03_normal.go:86", after := #[{ on := 1, ground := Ground.data }, { on := 3, ground := Ground.data }], guard := none }) (v := ?_) rfl (by kernel_rfl) (by kernel_rfl) (by kernel_rfl) (fun _ _ _ h => h) (Or.inl ⟨by rfl, ?_⟩) (by assumption) ?_
        rotate_left
        ·intro w hSw
         (try dsimp only at hSw)
         go_simp
         try with_reducible rfl
        try simp only [Act.put, List.setIfInBounds_toArray, List.set_cons_zero, List.set_cons_succ]
        refine wpAnyH_take (i := 5) (oi := { dst := some 48, op := Op.load 53 (Operand.tmp 47), type := 53, pos := "l03_normal.go:86", after := #[{ on := 4, ground := Ground.data }], guard := none }) (v := ?_) rfl (by kernel_rfl) (by kernel_rfl) (by kernel_rfl) (fun _ _ _ h => h) (Or.inl ⟨by rfl, ?_⟩) (by assumption) ?_
        rotate_left
        ·intro w hSw
         (try dsimp only at hSw)
         go_simp
         try with_reducible rfl
        try simp only [Act.put, List.setIfInBounds_toArray, List.set_cons_zero, List.set_cons_succ]
        refine wpAnyH_ready (rs := [6]) (by kernel_rfl) (by simp) ?_
        refine AllReadyH.cons (o := { dst := some 49, op := Op.binOp BinOp.eql 53 (Operand.tmp 43) (Operand.tmp 48) 53, type := 4, pos := "l03_normal.go:86", after := #[{ on := 0, ground := Ground.data }, { on := 5, ground := Ground.data }], guard := none }) rfl (fun K hK => ?_) ?_
        ·go_simp
         refine hK.out _ _ ?_ (fun hHeld => ?_)
         ·with_reducible exact ⟨R9.out.flat, (HRA.out _ F.out).flat⟩
         clear hK K
         try simp only [Act.put, List.setIfInBounds_toArray, List.set_cons_zero, List.set_cons_succ]
         refine wpAnyH_done (by kernel_rfl) ?_ _
         obtain ⟨wd, hwd⟩ : ∃ V, V = wc.drew := ⟨_, rfl⟩
         rw [← hwd] at F R9 R10 ⊢
         clear hwd heq
         have HEND : Hid (rows = (sweep m l.reverse s).reverse) := Lib.hid (by rw [← pass_stop P.out HL.out.sims S.out HL.out.wl (by rw [← HA.out, ← HB.out, HX.out]; exact HE.out), List.reverse_reverse])
         clear P
         go_wp2
         try rw [Exit.noGoto_ret]
         exact bodyPost_ret (v := .slice (some ⟨gb, 0, none⟩) (n + 1 : Nat) c5) (by simp [results, Try.results76, go_sem]) rfl ⟨gb, c5, rfl, by rw [← HEND.out]; exact F.out.own.mono (Nat.le_succ _), F.out.bel⟩
        exact AllReadyH.nil
       ·have heq : ∀ W, Sem.run Try.prog (Op.equalIn 10000 53 (arr8 .u8 xa) (arr8 .u8 ra)) W = .ok false W := fun W => by rw [equal8 xa ra LL.out.1 SA.out.len W, decide_eq_false he]
        have HE := Lib.hid he; clear he
        refine wp_region_held_drew (S := (fun w' => (w'.cell? ⟨g9, 0, none⟩ = some (.int .u8 (at8 xa 0)) ∧ w'.cell? ⟨g9, 1, none⟩ = some (.int .u8 (at8 xa 1)) ∧ w'.cell? ⟨g9, 2, none⟩ = some (.int .u8 (at8 xa 2)) ∧ w'.cell? ⟨g9, 3, none⟩ = some (.int .u8 (at8 xa 3)) ∧ w'.cell? ⟨g9, 4, none⟩ = some (.int .u8 (at8 xa 4)) ∧ w'.cell? ⟨g9, 5, none⟩ = some (.int .u8 (at8 xa 5)) ∧ w'.cell? ⟨g9, 6, none⟩ = some (.int .u8 (at8 xa 6)) ∧ w'.cell? ⟨g9, 7, none⟩ = some (.int .u8 (at8 xa 7))) ∧ (w'.cell? ⟨gb, k * 8, none⟩ = some (.int .u8 (at8 ra 0)) ∧ w'.cell? ⟨gb, k * 8 + 1, none⟩ = some (.int .u8 (at8 ra 1)) ∧ w'.cell? ⟨gb, k * 8 + 2, none⟩ = some (.int .u8 (at8 ra 2)) ∧ w'.cell? ⟨gb, k * 8 + 3, none⟩ = some (.int .u8 (at8 ra 3)) ∧ w'.cell? ⟨gb, k * 8 + 4, none⟩ = some (.int .u8 (at8 ra 4)) ∧ w'.cell? ⟨gb, k * 8 + 5, none⟩ = some (.int .u8 (at8 ra 5)) ∧ w'.cell? ⟨gb, k * 8 + 6, none⟩ = some (.int .u8 (at8 ra 6)) ∧ w'.cell? ⟨gb, k * 8 + 7, none⟩ = some (.int .u8 (at8 ra 7))))) (by kernel_rfl) ?_ (fun hHeld => ?_)
        ·with_reducible exact ⟨R9.out.flat, (HRA.out _ F.out).flat⟩
        refine wpAnyH_take (i := 0) (oi := { dst := some 43, op := Op.load 53 (Operand.tmp 12), type := 53, pos := "l03_normal.go:86", after := #[], guard := none }) (v := ?_) rfl (by kernel_rfl) (by kernel_rfl) (by kernel_rfl) (fun _ _ _ h => h) (Or.inl ⟨by rfl, ?_⟩) (by assumption) ?_
        rotate_left
        ·intro w hSw
         (try dsimp only at hSw)
         go_simp
         try with_reducible rfl
        try simp only [Act.put, List.setIfInBounds_toArray, List.set_cons_zero, List.set_cons_succ]
        refine wpAnyH_take (i := 1) (oi := { dst := some 44, op := Op.move (Operand.tmp 10), type := 26, pos := "l03_normal.go:86", after := #[], guard := none }) (v := ?_) rfl (by kernel_rfl) (by kernel_rfl) (by kernel_rfl) (fun _ _ _ h => h) (Or.inl ⟨by rfl, ?_⟩) (by assumption) ?_
        rotate_left
        ·intro w hSw
         (try dsimp only at hSw)
         go_simp
         try with_reducible rfl
        try simp only [Act.put, List.setIfInBounds_toArray, List.set_cons_zero, List.set_cons_succ]
        refine wpAnyH_take (i := 2) (oi := { dst := some 45, op := Op.move (Operand.tmp 11), type := 3, pos := "l03_normal.go:86", after := #[], guard := none }) (v := ?_) rfl (by kernel_rfl) (by kernel_rfl) (by kernel_rfl) (fun _ _ _ h => h) (Or.inl ⟨by rfl, ?_⟩) (by assumption) ?_
        rotate_left
        ·intro w hSw
         (try dsimp only at hSw)
         go_simp
         try with_reducible rfl
        try simp only [Act.put, List.setIfInBounds_toArray, List.set_cons_zero, List.set_cons_succ]
        refine wpAnyH_take (i := 3) (oi := { dst := some 46, op := Op.binOp BinOp.sub 3 (Operand.tmp 45) (Operand.const (Value.int IntKind.i64 1)) 3, type := 3, pos := "l03_normal.go:86", after := #[{ on := 2, ground := Ground.data }], guard := none }) (v := ?_) rfl (by kernel_rfl) (by kernel_rfl) (by kernel_rfl) (fun _ _ _ h => h) (Or.inl ⟨by rfl, ?_⟩) (by assumption) ?_
        rotate_left
        ·intro w hSw
         (try dsimp only at hSw)
         go_simp
         try with_reducible rfl
        try simp only [Act.put, List.setIfInBounds_toArray, List.set_cons_zero, List.set_cons_succ]
        refine wpAnyH_take (i := 4) (oi := { dst := some 47, op := Op.indexAddr 26 (Operand.tmp 44) (Operand.tmp 46), type := 0, pos := "l03_normal.go:86", after := #[{ on := 1, ground := Ground.data }, { on := 3, ground := Ground.data }], guard := none }) (v := ?_) rfl (by kernel_rfl) (by kernel_rfl) (by kernel_rfl) (fun _ _ _ h => h) (Or.inl ⟨by rfl, ?_⟩) (by assumption) ?_
        rotate_left
        ·intro w hSw
         (try dsimp only at hSw)
         go_simp
         try with_reducible rfl
        try simp only [Act.put, List.setIfInBounds_toArray, List.set_cons_zero, List.set_cons_succ]
        refine wpAnyH_take (i := 5) (oi := { dst := some 48, op := Op.load 53 (Operand.tmp 47), type := 53, pos := "l03_normal.go:86", after := #[{ on := 4, ground := Ground.data }], guard := none }) (v := ?_) rfl (by kernel_rfl) (by kernel_rfl) (by kernel_rfl) (fun _ _ _ h => h) (Or.inl ⟨by rfl, ?_⟩) (by assumption) ?_
        rotate_left
        ·intro w hSw
         (try dsimp only at hSw)
         go_simp
         try with_reducible rfl
        try simp only [Act.put, List.setIfInBounds_toArray, List.set_cons_zero, List.set_cons_succ]
        refine wpAnyH_ready (rs := [6]) (by kernel_rfl) (by simp) ?_
        refine AllReadyH.cons (o := { dst := some 49, op := Op.binOp BinOp.eql 53 (Operand.tmp 43) (Operand.tmp 48) 53, type := 4, pos := "l03_normal.go:86", after := #[{ on := 0, ground := Ground.data }, { on := 5, ground := Ground.data }], guard := none }) rfl (fun K hK => ?_) ?_
        ·go_simp
         refine hK.out _ _ ?_ (fun hHeld => ?_)
         ·with_reducible exact ⟨R9.out.flat, (HRA.out _ F.out).flat⟩
         clear hK K
         try simp only [Act.put, List.setIfInBounds_toArray, List.set_cons_zero, List.set_cons_succ]
         refine wpAnyH_done (by kernel_rfl) ?_ _
         obtain ⟨wd, hwd⟩ : ∃ V, V = wc.drew := ⟨_, rfl⟩
         rw [← hwd] at F R9 R10 ⊢
         clear hwd heq
         go_upto_region 8 with fail
         replace F := Lib.hid (F.out.below (Below.refl wd.heap.size wd).drew)
         replace R9 := Lib.hid R9.out.drew
         replace R10 := Lib.hid R10.out.drew
         refine wp_region_held_drew (S := (fun w' => (w'.cell? ⟨g9, 0, none⟩ = some (.int .u8 (at8 xa 0)) ∧ w'.cell? ⟨g9, 1, none⟩ = some (.int .u8 (at8 xa 1)) ∧ w'.cell? ⟨g9, 2, none⟩ = some (.int .u8 (at8 xa 2)) ∧ w'.cell? ⟨g9, 3, none⟩ = some (.int .u8 (at8 xa 3)) ∧ w'.cell? ⟨g9, 4, none⟩ = some (.int .u8 (at8 xa 4)) ∧ w'.cell? ⟨g9, 5, none⟩ = some (.int .u8 (at8 xa 5)) ∧ w'.cell? ⟨g9, 6, none⟩ = some (.int .u8 (at8 xa 6)) ∧ w'.cell? ⟨g9, 7, none⟩ = some (.int .u8 (at8 xa 7))) ∧ (w'.cell? ⟨g10, 0, none⟩ = some (.int .u8 (at8 xb 0)) ∧ w'.cell? ⟨g10, 1, none⟩ = some (.int .u8 (at8 xb 1)) ∧ w'.cell? ⟨g10, 2, none⟩ = some (.int .u8 (at8 xb 2)) ∧ w'.cell? ⟨g10, 3, none⟩ = some (.int .u8 (at8 xb 3)) ∧ w'.cell? ⟨g10, 4, none⟩ = some (.int .u8 (at8 xb 4)) ∧ w'.cell? ⟨g10, 5, none⟩ = some (.int .u8 (at8 xb 5)) ∧ w'.cell? ⟨g10, 6, none⟩ = some (.int .u8 (at8 xb 6)) ∧ w'.cell? ⟨g10, 7, none⟩ = some (.int .u8 (at8 xb 7))))) (by kernel_rfl) ?_ (fun hHeld => ?_)
         ·with_reducible exact ⟨R9.out.flat, R10.out.flat⟩
         refine wpAnyH_take (i := 0) (oi := { dst := some 50, op := Op.move (Operand.tmp 10), type := 26, pos := "l03_normal.go:89", after := #[], guard := none }) (v := ?_) rfl (by kernel_rfl) (by kernel_rfl) (by kernel_rfl) (fun _ _ _ h => h) (Or.inl ⟨by rfl, ?_⟩) (by assumption) ?_
         rotate_left
         ·intro w hSw
          (try dsimp only at hSw)
          go_simp
          try with_reducible rfl
         try simp only [Act.put, List.setIfInBounds_toArray, List.set_cons_zero, List.set_cons_succ]
         refine wpAnyH_take (i := 1) (oi := { dst := some 51, op := Op.move (Operand.tmp 11), type := 3, pos := "l03_normal.go:89", after := #[], guard := none }) (v := ?_) rfl (by kernel_rfl) (by kernel_rfl) (by kernel_rfl) (fun _ _ _ h => h) (Or.inl ⟨by rfl, ?_⟩) (by assumption) ?_
         rotate_left
         ·intro w hSw
          (try dsimp only at hSw)
          go_simp
          try with_reducible rfl
         try simp only [Act.put, List.setIfInBounds_toArray, List.set_cons_zero, List.set_cons_succ]
         refine wpAnyH_take (i := 2) (oi := { dst := some 52, op := Op.binOp BinOp.sub 3 (Operand.tmp 51) (Operand.const (Value.int IntKind.i64 1)) 3, type := 3, pos := "l03_normal.go:89", after := #[{ on := 1, ground := Ground.data }], guard := none }) (v := ?_) rfl (by kernel_rfl) (by kernel_rfl) (by kernel_rfl) (fun _ _ _ h => h) (Or.inl ⟨by rfl, ?_⟩) (by assumption) ?_
         rotate_left
         ·intro w hSw
          (try dsimp only at hSw)
          go_simp
          try with_reducible rfl
         try simp only [Act.put, List.setIfInBounds_toArray, List.set_cons_zero, List.set_cons_succ]
         refine wpAnyH_take (i := 3) (oi := { dst := some 53, op := Op.move (Operand.tmp 10), type := 26, pos := "l03_normal.go:89", after := #[{ on := 8, ground := Ground.gcOnly Departure.lateStores }], guard := none }) (v := ?_) rfl (by kernel_rfl) (by kernel_rfl) (by kernel_rfl) (fun _ _ _ h => h) (Or.inl ⟨by rfl, ?_⟩) (by assumption) ?_
         rotate_left
         ·intro w hSw
          (try dsimp only at hSw)
          go_simp
          try with_reducible rfl
         try simp only [Act.put, List.setIfInBounds_toArray, List.set_cons_zero, List.set_cons_succ]
         refine wpAnyH_take (i := 4) (oi := { dst := some 54, op := Op.move (Operand.tmp 11), type := 3, pos := "l03_normal.go:89", after := #[{ on := 8, ground := Ground.gcOnly Departure.lateStores }], guard := none }) (v := ?_) rfl (by kernel_rfl) (by kernel_rfl) (by kernel_rfl) (fun _ _ _ h => h) (Or.inl ⟨by rfl, ?_⟩) (by assumption) ?_
         rotate_left
         ·intro w hSw
          (try dsimp only at hSw)
          go_simp
          try with_reducible rfl
         try simp only [Act.put, List.setIfInBounds_toArray, List.set_cons_zero, List.set_cons_succ]
         refine wpAnyH_take (i := 5) (oi := { dst := some 55, op := Op.load 53 (Operand.tmp 12), type := 53, pos := "l03_normal.go:89", after := #[], guard := none }) (v := ?_) rfl (by kernel_rfl) (by kernel_rfl) (by kernel_rfl) (fun _ _ _ h => h) (Or.inl ⟨by rfl, ?_⟩) (by assumption) ?_
         rotate_left
         ·intro w hSw
          (try dsimp only at hSw)
          go_simp
          try with_reducible rfl
         try simp only [Act.put, List.setIfInBounds_toArray, List.set_cons_zero, List.set_cons_succ]
         refine wpAnyH_take (i := 6) (oi := { dst := some 56, op := Op.load 53 (Operand.tmp 13), type := 53, pos := "l03_normal.go:89", after := #[{ on := 8, ground := Ground.gcOnly Departure.lateStores }], guard := none }) (v := ?_) rfl (by kernel_rfl) (by kernel_rfl) (by kernel_rfl) (fun _ _ _ h => h) (Or.inl ⟨by rfl, ?_⟩) (by assumption) ?_
         rotate_left
         ·intro w hSw
          (try dsimp only at hSw)
          go_simp
          try with_reducible rfl
         try simp only [Act.put, List.setIfInBounds_toArray, List.set_cons_zero, List.set_cons_succ]
         refine wpAnyH_ready (rs := [7]) (by kernel_rfl) (by simp) ?_
         refine AllReadyH.cons (o := { dst := some 57, op := Op.indexAddr 26 (Operand.tmp 50) (Operand.tmp 52), type := 0, pos := "l03_normal.go:89", after := #[{ on := 0, ground := Ground.data }, { on := 2, ground := Ground.data }, { on := 0, ground := Ground.phase }, { on := 1, ground := Ground.phase }, { on := 2, ground := Ground.phase }, { on := 3, ground := Ground.textOnly Departure.lateStores }, { on := 4, ground := Ground.textOnly Departure.lateStores }, { on := 5, ground := Ground.phase }, { on := 6, ground := Ground.textOnly Departure.lateStores }], guard := none }) rfl (fun K hK => ?_) ?_
         ·go_simp
          refine hK.out _ _ ?_ (fun hHeld => ?_)
          ·with_reducible exact ⟨R9.out.flat, R10.out.flat⟩
          clear hK K
          try simp only [Act.put, List.setIfInBounds_toArray, List.set_cons_zero, List.set_cons_succ]
          refine wpAnyH_ready (rs := [8]) (by kernel_rfl) (by simp) ?_
          refine AllReadyH.cons (o := { dst := none, op := Op.store 53 (Operand.tmp 57) (Operand.tmp 55), type := 0, pos := "l03_normal.go:89", after := #[{ on := 7, ground := Ground.data }, { on := 5, ground := Ground.data }, { on := 0, ground := Ground.phase }, { on := 1, ground := Ground.phase }, { on := 2, ground := Ground.phase }, { on := 3, ground := Ground.textOnly Departure.lateStores }, { on := 4, ground := Ground.textOnly Departure.lateStores }, { on := 5, ground := Ground.phase }, { on := 6, ground := Ground.textOnly Departure.lateStores }], guard := none }) rfl (fun K hK => ?_) ?_
          ·obtain ⟨V0, hV0⟩ : ∃ V, V = wd.drew := ⟨_, rfl⟩
           rw [← hV0] at F R9 R10 ⊢
           clear hV0
           obtain ⟨d0, d1, d2, d3, d4, d5, d6, d7⟩ := (HRA.out _ F.out).flat
           have f0 := F.out.own.frozenAt (k * 8)
           have f1 := F.out.own.frozenAt (k * 8 + 1)
           have f2 := F.out.own.frozenAt (k * 8 + 2)
           have f3 := F.out.own.frozenAt (k * 8 + 3)
           have f4 := F.out.own.frozenAt (k * 8 + 4)
           have f5 := F.out.own.frozenAt (k * 8 + 5)
           have f6 := F.out.own.frozenAt (k * 8 + 6)
           have f7 := F.out.own.frozenAt (k * 8 + 7)
           go_simp
           clear d0 d1 d2 d3 d4 d5 d6 d7 f0 f1 f2 f3 f4 f5 f6 f7
           replace F := Lib.hid (F.out.store k (by omega) xa LL.out.1)
           replace R9 := Lib.hid (R9.out.pastAt gb (k * 8) hn9.symm (.int .u8 (at8 xa 0)) (.int .u8 (at8 xa 1)) (.int .u8 (at8 xa 2)) (.int .u8 (at8 xa 3)) (.int .u8 (at8 xa 4)) (.int .u8 (at8 xa 5)) (.int .u8 (at8 xa 6)) (.int .u8 (at8 xa 7)))
           replace R10 := Lib.hid (R10.out.pastAt gb (k * 8) hn10.symm (.int .u8 (at8 xa 0)) (.int .u8 (at8 xa 1)) (.int .u8 (at8 xa 2)) (.int .u8 (at8 xa 3)) (.int .u8 (at8 xa 4)) (.int .u8 (at8 xa 5)) (.int .u8 (at8 xa 6)) (.int .u8 (at8 xa 7)))
           obtain ⟨V8, hV8⟩ : ∃ V, V = ((((((((V0.setCell ⟨gb, k * 8, none⟩ (.int .u8 (at8 xa 0))).setCell ⟨gb, k * 8 + 1, none⟩ (.int .u8 (at8 xa 1))).setCell ⟨gb, k * 8 + 2, none⟩ (.int .u8 (at8 xa 2))).setCell ⟨gb, k * 8 + 3, none⟩ (.int .u8 (at8 xa 3))).setCell ⟨gb, k * 8 + 4, none⟩ (.int .u8 (at8 xa 4))).setCell ⟨gb, k * 8 + 5, none⟩ (.int .u8 (at8 xa 5))).setCell ⟨gb, k * 8 + 6, none⟩ (.int .u8 (at8 xa 6))).setCell ⟨gb, k * 8 + 7, none⟩ (.int .u8 (at8 xa 7))) := ⟨_, rfl⟩
           rw [← hV8] at F R9 R10 ⊢
           clear hV8
           have HRB2 : Hid (∀ W, AtWb w W gb c5 (rows.set k xa) (n + 1) → Cells8 W gb ((k + 1) * 8) rb) := Lib.hid fun W h => by
            have h9 := h.own.cellAt (k + 1) (by omega)
            rw [rowAt_set rows k (k + 1) _ (by omega), if_neg (by omega), ← HB.out] at h9
            exact h9
           refine hK.out _ _ ?_ (fun hHeld => ?_)
           ·with_reducible exact ⟨R9.out.flat, R10.out.flat⟩
           clear hK K
           try simp only [Act.put, List.setIfInBounds_toArray, List.set_cons_zero, List.set_cons_succ]
           refine wpAnyH_ready (rs := [9]) (by kernel_rfl) (by simp) ?_
           refine AllReadyH.cons (o := { dst := some 58, op := Op.indexAddr 26 (Operand.tmp 53) (Operand.tmp 54), type := 0, pos := "l03_normal.go:89", after := #[{ on := 3, ground := Ground.data }, { on := 4, ground := Ground.data }, { on := 0, ground := Ground.phase }, { on := 1, ground := Ground.phase }, { on := 2, ground := Ground.phase }, { on := 3, ground := Ground.phase }, { on := 4, ground := Ground.phase }, { on := 5, ground := Ground.phase }, { on := 6, ground := Ground.phase }, { on := 7, ground := Ground.phase }, { on := 8, ground := Ground.phase }], guard := none }) rfl (fun K hK => ?_) ?_
           ·go_simp
            refine hK.out _ _ ?_ (fun hHeld => ?_)
            ·with_reducible exact ⟨R9.out.flat, R10.out.flat⟩
            clear hK K
            try simp only [Act.put, List.setIfInBounds_toArray, List.set_cons_zero, List.set_cons_succ]
            refine wpAnyH_ready (rs := [10]) (by kernel_rfl) (by simp) ?_
            refine AllReadyH.cons (o := { dst := none, op := Op.store 53 (Operand.tmp 58) (Operand.tmp 56), type := 0, pos := "l03_normal.go:89", after := #[{ on := 9, ground := Ground.data }, { on := 6, ground := Ground.data }, { on := 8, ground := Ground.chain }, { on := 0, ground := Ground.phase }, { on := 1, ground := Ground.phase }, { on := 2, ground := Ground.phase }, { on := 3, ground := Ground.phase }, { on := 4, ground := Ground.phase }, { on := 5, ground := Ground.phase }, { on := 6, ground := Ground.phase }, { on := 7, ground := Ground.phase }, { on := 8, ground := Ground.phase }], guard := none }) rfl (fun K hK => ?_) ?_
            ·obtain ⟨d0, d1, d2, d3, d4, d5, d6, d7⟩ := (HRB2.out _ F.out).flat
             have f0 := F.out.own.frozenAt ((k + 1) * 8)
             have f1 := F.out.own.frozenAt ((k + 1) * 8 + 1)
             have f2 := F.out.own.frozenAt ((k + 1) * 8 + 2)
             have f3 := F.out.own.frozenAt ((k + 1) * 8 + 3)
             have f4 := F.out.own.frozenAt ((k + 1) * 8 + 4)
             have f5 := F.out.own.frozenAt ((k + 1) * 8 + 5)
             have f6 := F.out.own.frozenAt ((k + 1) * 8 + 6)
             have f7 := F.out.own.frozenAt ((k + 1) * 8 + 7)
             go_simp
             clear d0 d1 d2 d3 d4 d5 d6 d7 f0 f1 f2 f3 f4 f5 f6 f7
             replace F := Lib.hid (F.out.store (k + 1) (by omega) xb LL.out.2)
             replace R9 := Lib.hid (R9.out.pastAt gb ((k + 1) * 8) hn9.symm (.int .u8 (at8 xb 0)) (.int .u8 (at8 xb 1)) (.int .u8 (at8 xb 2)) (.int .u8 (at8 xb 3)) (.int .u8 (at8 xb 4)) (.int .u8 (at8 xb 5)) (.int .u8 (at8 xb 6)) (.int .u8 (at8 xb 7)))
             replace R10 := Lib.hid (R10.out.pastAt gb ((k + 1) * 8) hn10.symm (.int .u8 (at8 xb 0)) (.int .u8 (at8 xb 1)) (.int .u8 (at8 xb 2)) (.int .u8 (at8 xb 3)) (.int .u8 (at8 xb 4)) (.int .u8 (at8 xb 5)) (.int .u8 (at8 xb 6)) (.int .u8 (at8 xb 7)))
             obtain ⟨V9, hV9⟩ : ∃ V, V = ((((((((V8.setCell ⟨gb, (k + 1) * 8, none⟩ (.int .u8 (at8 xb 0))).setCell ⟨gb, (k + 1) * 8 + 1, none⟩ (.int .u8 (at8 xb 1))).setCell ⟨gb, (k + 1) * 8 + 2, none⟩ (.int .u8 (at8 xb 2))).setCell ⟨gb, (k + 1) * 8 + 3, none⟩ (.int .u8 (at8 xb 3))).setCell ⟨gb, (k + 1) * 8 + 4, none⟩ (.int .u8 (at8 xb 4))).setCell ⟨gb, (k + 1) * 8 + 5, none⟩ (.int .u8 (at8 xb 5))).setCell ⟨gb, (k + 1) * 8 + 6, none⟩ (.int .u8 (at8 xb 6))).setCell ⟨gb, (k + 1) * 8 + 7, none⟩ (.int .u8 (at8 xb 7))) := ⟨_, rfl⟩
             rw [← hV9] at F R9 R10 ⊢
             clear hV9
             refine hK.out _ _ ?_ (fun hHeld => ?_)
             ·with_reducible exact ⟨R9.out.flat, R10.out.flat⟩
             clear hK K
             try simp only [Act.put, List.setIfInBounds_toArray, List.set_cons_zero, List.set_cons_succ]
             refine wpAnyH_done (by kernel_rfl) ?_ _
             go_wp2
             go_roundg k
             case measure => omega
             case rel =>
              have e1 : both m (rowAt rows k) (rowAt rows (k + 1)) = (xa, xb) := by rw [← HA.out, ← HB.out]; exact HX.out
              have e2 := pass_step P.out
              rw [e1] at e2
              exact ⟨_, by go_num, by omega, F.out, set_sims (set_sims S.out LA.out.1) LA.out.2, e2⟩
            exact AllReadyH.nil
           exact AllReadyH.nil
          exact AllReadyH.nil
         exact AllReadyH.nil
        exact AllReadyH.nil
   exact AllReadyH.nil
  exact AllReadyH.nil
 exact AllReadyH.nil

end Go.Proofs.Ytpkhddndapcpjaa

