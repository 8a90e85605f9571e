/- Merged texts. -/
import Derived.Test.YtehcbamfendbaaaSeQA
import Derived.Deep.RegionHeld3
import Derived.Deep.DeepCutAuto
import Derived.RangeFuncBox

/- The laws' comparison of slices of slices of numbers: equal ones. -/
namespace Go.Proofs.Ytehcbamfendbaaa
open Go.RowKit Go.ChangeShapes

set_option maxRecDepth 100000 in
set_option maxHeartbeats 1000000 in
theorem eqInt64SS_yes (ad bd : Option Addr) (m c d : Nat) (rs ts : List RowV) (w : World) (hr : ReadsSS w ad m rs) (ht : ReadsSS w bd m ts) (he : rs.map (·.xs) = ts.map (·.xs)) (hm : m ≤ 1048576) :
  Calls Try.prog 20 #[.slice ad m c, .slice bd m d] w fun e w' => e = .returned (.bool true) ∧ Below w.heap.size w w' := by
 have e1 : ((m : Int) != (m : Int)) = false := by simp
 have HL := Lib.hid hr.1
 have HL2 := Lib.hid ht.1
 have HR := Lib.hid hr; clear hr
 have HS := Lib.hid ht; clear ht
 have HE := Lib.hid he; clear he
 go_enter Try.func20, Try.ntmps20
 go_wp2
 go_loopg [5] m (fun g i wx => ∃ j : Nat, j ≤ m ∧ g + j = m ∧ i = .int .i64 j ∧ Below w.heap.size w wx)
 case atStart => exact ⟨0, Nat.zero_le _, rfl, rfl, Below.refl _ _⟩
 case round =>
  obtain ⟨j, hj, hgj, rfl, hb⟩ := hrel
  have BB := Lib.hid hb; clear hb
  by_cases hlt : j < m
  ·have hjl : j < rs.length := by rw [HL.out]; exact hlt
   have hjt : j < ts.length := by rw [HL2.out]; exact hlt
   obtain ⟨b, off, rfl, hc⟩ := (HR.out.below BB.out).2.1.resolve_left (by omega)
   obtain ⟨b2, off2, rfl, hc2⟩ := (HS.out.below BB.out).2.1.resolve_left (by omega)
   have c0 := hc j hjl
   have d0 := hc2 j hjt
   obtain ⟨hrow, hn⟩ := (HR.out.below BB.out).2.2 _ (List.getElem_mem hjl)
   obtain ⟨hrow2, hn2⟩ := (HS.out.below BB.out).2.2 _ (List.getElem_mem hjt)
   have hxe : rs[j].xs = ts[j].xs := by
    have h := congrArg (fun l => l[j]?) HE.out
    simpa [List.getElem?_map, List.getElem?_eq_getElem hjl, List.getElem?_eq_getElem hjt] using h
   rw [← hxe] at hrow2
   clear hc hc2 hxe
   obtain ⟨x, hx⟩ : ∃ x, x = rs[j] := ⟨_, rfl⟩
   obtain ⟨y, hy⟩ : ∃ y, y = ts[j] := ⟨_, rfl⟩
   rw [← hx] at c0 hn hrow hrow2
   rw [← hy] at d0 hn2 hrow2
   clear hx hy
   obtain ⟨xb, xa, xn, xc, xs⟩ := x
   obtain ⟨yb, ya, yn, yc, ys⟩ := y
   simp only at c0 d0 hn hn2 hrow hrow2
   have RX := Lib.hid hrow
   have RY := Lib.hid hrow2
   have CC : Hid (∀ X, Below wr.heap.size wr X → X.cell? ⟨b, off + j, none⟩ = some (.slice xa xn xc) ∧ X.cell? ⟨b2, off2 + j, none⟩ = some (.slice ya yn yc)) := Lib.hid fun X h => ⟨(h.cell (World.block_lt_of_cell? _ _ c0)).trans c0, (h.cell (World.block_lt_of_cell? _ _ d0)).trans d0⟩
   have KB : Hid (Below wr.heap.size wr wr.drew) := Lib.hid (Below.refl wr.heap.size wr).drew
   clear hrow hrow2 c0 d0
   go_upto_region 6 with fail
   refine wp_region_held_drew (S := (fun w' => w'.cell? ⟨b, off + j, none⟩ = some (.slice xa xn xc) ∧ w'.cell? ⟨b2, off2 + j, none⟩ = some (.slice ya yn yc))) (by kernel_rfl) ?_ (fun hHeld => ?_)
   ·with_reducible exact CC.out _ KB.out
   refine wpAnyH_take (i := 0) (oi := { dst := some 17, op := Op.move (Operand.tmp 0), type := 26, pos := "exact.go:130", after := #[], guard := none }) (v := ?_) rfl (by kernel_rfl) (by kernel_rfl) (by kernel_rfl) (fun _ _ _ h => h) (Or.inl ⟨by rfl, ?_⟩) (by assumption) ?_
   rotate_left
   ·intro w hSw
    (try dsimp only at hSw)
    go_simp
    try with_reducible rfl
   try simp only [Act.put, List.setIfInBounds_toArray, List.set_cons_zero, List.set_cons_succ]
   refine wpAnyH_take (i := 1) (oi := { dst := some 18, op := Op.move (Operand.tmp 5), type := 3, pos := "exact.go:130", after := #[], guard := none }) (v := ?_) rfl (by kernel_rfl) (by kernel_rfl) (by kernel_rfl) (fun _ _ _ h => h) (Or.inl ⟨by rfl, ?_⟩) (by assumption) ?_
   rotate_left
   ·intro w hSw
    (try dsimp only at hSw)
    go_simp
    try with_reducible rfl
   try simp only [Act.put, List.setIfInBounds_toArray, List.set_cons_zero, List.set_cons_succ]
   refine wpAnyH_take (i := 2) (oi := { dst := some 19, op := Op.indexAddr 26 (Operand.tmp 17) (Operand.tmp 18), type := 0, pos := "exact.go:130", after := #[{ on := 0, ground := Ground.data }, { on := 1, ground := Ground.data }], guard := none }) (v := ?_) rfl (by kernel_rfl) (by kernel_rfl) (by kernel_rfl) (fun _ _ _ h => h) (Or.inl ⟨by rfl, ?_⟩) (by assumption) ?_
   rotate_left
   ·intro w hSw
    (try dsimp only at hSw)
    go_simp
    try with_reducible rfl
   try simp only [Act.put, List.setIfInBounds_toArray, List.set_cons_zero, List.set_cons_succ]
   refine wpAnyH_take (i := 3) (oi := { dst := some 20, op := Op.load 22 (Operand.tmp 19), type := 22, pos := "exact.go:130", after := #[{ on := 2, ground := Ground.data }], guard := none }) (v := ?_) rfl (by kernel_rfl) (by kernel_rfl) (by kernel_rfl) (fun _ _ _ h => h) (Or.inl ⟨by rfl, ?_⟩) (by assumption) ?_
   rotate_left
   ·intro w hSw
    (try dsimp only at hSw)
    go_simp
    try with_reducible rfl
   try simp only [Act.put, List.setIfInBounds_toArray, List.set_cons_zero, List.set_cons_succ]
   refine wpAnyH_take (i := 4) (oi := { dst := some 21, op := Op.move (Operand.tmp 1), type := 26, pos := "exact.go:130", after := #[], guard := none }) (v := ?_) rfl (by kernel_rfl) (by kernel_rfl) (by kernel_rfl) (fun _ _ _ h => h) (Or.inl ⟨by rfl, ?_⟩) (by assumption) ?_
   rotate_left
   ·intro w hSw
    (try dsimp only at hSw)
    go_simp
    try with_reducible rfl
   try simp only [Act.put, List.setIfInBounds_toArray, List.set_cons_zero, List.set_cons_succ]
   refine wpAnyH_take (i := 5) (oi := { dst := some 22, op := Op.move (Operand.tmp 5), type := 3, pos := "exact.go:130", after := #[], guard := none }) (v := ?_) rfl (by kernel_rfl) (by kernel_rfl) (by kernel_rfl) (fun _ _ _ h => h) (Or.inl ⟨by rfl, ?_⟩) (by assumption) ?_
   rotate_left
   ·intro w hSw
    (try dsimp only at hSw)
    go_simp
    try with_reducible rfl
   try simp only [Act.put, List.setIfInBounds_toArray, List.set_cons_zero, List.set_cons_succ]
   refine wpAnyH_take (i := 6) (oi := { dst := some 23, op := Op.indexAddr 26 (Operand.tmp 21) (Operand.tmp 22), type := 0, pos := "exact.go:130", after := #[{ on := 4, ground := Ground.data }, { on := 5, ground := Ground.data }], guard := none }) (v := ?_) rfl (by kernel_rfl) (by kernel_rfl) (by kernel_rfl) (fun _ _ _ h => h) (Or.inl ⟨by rfl, ?_⟩) (by assumption) ?_
   rotate_left
   ·intro w hSw
    (try dsimp only at hSw)
    go_simp
    try with_reducible rfl
   try simp only [Act.put, List.setIfInBounds_toArray, List.set_cons_zero, List.set_cons_succ]
   refine wpAnyH_take (i := 7) (oi := { dst := some 24, op := Op.load 22 (Operand.tmp 23), type := 22, pos := "exact.go:130", after := #[{ on := 6, ground := Ground.data }], guard := none }) (v := ?_) rfl (by kernel_rfl) (by kernel_rfl) (by kernel_rfl) (fun _ _ _ h => h) (Or.inl ⟨by rfl, ?_⟩) (by assumption) ?_
   rotate_left
   ·intro w hSw
    (try dsimp only at hSw)
    go_simp
    try with_reducible rfl
   try simp only [Act.put, List.setIfInBounds_toArray, List.set_cons_zero, List.set_cons_succ]
   refine wpAnyH_ready (rs := [8]) (by kernel_rfl) (by simp) ?_
   refine AllReadyH.cons (o := { dst := some 25, op := Op.call { callee := Callee.value (Operand.func 61), args := #[Operand.tmp 20, Operand.tmp 24], argTypes := #[22, 22] }, type := 4, pos := "exact.go:130", after := #[{ on := 3, ground := Ground.data }, { on := 7, ground := Ground.data }], guard := none }) rfl (fun K hK => ?_) ?_
   ·go_simp
    refine (eqInt64S_yes xa ya xn yn xc yc xs _ (RX.out.below KB.out) (RY.out.below KB.out) hn).mono ?_
    rintro e u1 ⟨rfl, gg⟩
    replace KB := Lib.hid (below_go KB.out gg KB.out.size)
    clear gg
    go_wp2_with fail
    refine hK.out _ _ ?_ (fun hHeld => ?_)
    ·with_reducible exact CC.out _ KB.out
    clear hK K
    try simp only [Act.put, List.setIfInBounds_toArray, List.set_cons_zero, List.set_cons_succ]
    refine wpAnyH_take (i := 9) (oi := { dst := some 26, op := Op.unOp UnOp.not 4 (Operand.tmp 25), type := 4, pos := "exact.go:130", after := #[{ on := 8, ground := Ground.data }], guard := none }) (v := ?_) rfl (by kernel_rfl) (by kernel_rfl) (by kernel_rfl) (fun _ _ _ h => h) (Or.inl ⟨by rfl, ?_⟩) (by assumption) ?_
    rotate_left
    ·intro w hSw
     (try dsimp only at hSw)
     go_simp
     try with_reducible rfl
    try simp only [Act.put, List.setIfInBounds_toArray, List.set_cons_zero, List.set_cons_succ]
    refine wpAnyH_done (by kernel_rfl) ?_ _
    replace BB := Lib.hid (below_go BB.out KB.out BB.out.size)
    go_wp2
    go_roundg (gk - 1)
    case measure => omega
    case rel => exact ⟨j + 1, by omega, by omega, by go_num, BB.out⟩
   exact AllReadyH.nil
  ·have hjm : j = m := by omega
   clear hjm
   go_wp2
   go_ret
   exact ⟨rfl, BB.out⟩

end Go.Proofs.Ytehcbamfendbaaa

/- Rows of any shape in slices of slices of numbers: appended, stored. No function of the program is spoken of. -/
namespace Go.Proofs.Ytehcbamfendbaaa
open Go.RowKit Go.ChangeShapes

/-- What lies in new blocks has a block to itself. -/
theorem own_block {B : Nat} {w : World} {a : Option Addr} {n cap : Nat} {xs : List Int} (h : Own B w a n cap xs) (hB : B < w.heap.size) : ∃ b, B ≤ b ∧ b < w.heap.size ∧ OwnIn b (b + 1) w a n cap xs := by
 cases a with
 | none => exact ⟨B, Nat.le_refl _, hB, h, fun x hx => by cases hx⟩
 | some x =>
  have hl := h.lo x rfl
  refine ⟨x.block, hl.1, hl.2, ⟨h.1, ?_⟩, fun y hy => by cases hy; exact Nat.lt_succ_self _⟩
  rcases h.2 with ⟨h0, _⟩ | ⟨g, c, cur, hv, _, r⟩
  ·cases h0
  ·refine .inr ⟨g, c, cur, hv, ?_, r⟩
   simp only [Value.slice.injEq, Option.some.injEq] at hv
   rw [hv.1]
   exact Nat.le_refl _

/-- A row of any shape is appended, whose block b is beside all of them. -/
theorem GrowSS.appendR {B b j cap : Nat} {w w1 : World} {v v' : Value} {m : Nat} {rs : List RowV} {a : Option Addr} {xs : List Int} {o : Obj} (h : GrowSS B w v m rs) (ho : OwnIn b (b + 1) w a j cap xs) (hj : j ≤ 1048576) (hb1 : B ≤ b) (hb2 : b < w.heap.size) (hg : ∀ x ∈ rs, x.b < b) (hv : ∀ k, v.ownBlock = some k → k < b)
  (hown : w1.ownsRow B 22 1 v' (m + 1) (rs.map RowV.val ++ [.slice a j cap])) (hgr : (w.alloc o).grownBy w1 v.ownBlock) (hat : v'.ownBlock = v.ownBlock ∨ v'.ownBlock = some (w.heap.size + 1)) :
  GrowSS B w1 v' (m + 1) (rs ++ [⟨b, a, j, cap, xs⟩]) := by
 have hal : (w.alloc o).heap.size = w.heap.size + 1 := by simp
 have hs : w.heap.size + 1 ≤ w1.heap.size := by have := hgr.size; omega
 have old : ∀ k, k < w.heap.size → some k ≠ v.ownBlock → w1.heap[k]? = w.heap[k]? := fun k hk hne => by
  rw [hgr.block k (by simp; omega) hne]
  exact ((Below.refl w.heap.size w).alloc (Nat.le_refl _) o).block k hk
 have hvg : some b ≠ v.ownBlock := fun e => by have := hv b e.symm; omega
 refine ⟨by rw [List.map_append]; exact hown, fun x hx => ?_, fun i k hi hk hne => ?_, fun x hx => ?_⟩
 ·rcases List.mem_append.1 hx with hx | hx
  ·obtain ⟨h1, h2, h3, h4⟩ := h.row x hx
   refine ⟨h1.heap fun k k1 k2 k3 => old k k3 ?_, h2, h3, by omega⟩
   have : k = x.b := by omega
   subst this
   exact fun e => h.sep x hx e.symm
  ·simp only [List.mem_singleton] at hx
   subst hx
   refine ⟨ho.heap fun k k1 k2 k3 => old k k3 ?_, hj, hb1, by show b < _; omega⟩
   have : k = b := by omega
   subst this
   exact hvg
 ·simp only [List.length_append, List.length_singleton] at hi hk
  rw [List.getElem_append, List.getElem_append]
  by_cases e1 : i < rs.length
  ·by_cases e2 : k < rs.length
   ·rw [dif_pos e1, dif_pos e2]
    exact h.dif i k e1 e2 hne
   ·rw [dif_pos e1, dif_neg e2]
    have := hg _ (List.getElem_mem e1)
    simp only [List.getElem_singleton]
    omega
  ·by_cases e2 : k < rs.length
   ·rw [dif_neg e1, dif_pos e2]
    have := hg _ (List.getElem_mem e2)
    simp only [List.getElem_singleton]
    omega
   ·omega
 ·rcases List.mem_append.1 hx with hx | hx
  ·rcases hat with e | e
   ·rw [e]; exact h.sep x hx
   ·rw [e]
    have := (h.row x hx).2.2.2
    simp only [ne_eq, Option.some.injEq]
    omega
  ·simp only [List.mem_singleton] at hx
   subst hx
   rcases hat with e | e
   ·rw [e]; exact fun e2 => hvg e2.symm
   ·rw [e]
    simp only [ne_eq, Option.some.injEq]
    omega

/-- A slice of M rows that was made, of which the first k have been stored. -/
structure FillSS (B : Nat) (w : World) (g M k : Nat) (rs : List RowV) : Prop where
 own : w.ownsRow B 22 1 (.slice (some ⟨g, 0, none⟩) M M) M (rs.map RowV.val ++ List.replicate (M - k) (.slice none 0 0))
 len : rs.length = k
 le : k ≤ M
 row : ∀ x ∈ rs, OwnIn x.b (x.b + 1) w x.a x.n x.cap x.xs ∧ x.n ≤ 1048576 ∧ g < x.b ∧ x.b < w.heap.size
 dif : ∀ i j (hi : i < rs.length) (hj : j < rs.length), i ≠ j → rs[i].b ≠ rs[j].b

theorem FillSS.lt {B : Nat} {w : World} {g M k : Nat} {rs : List RowV} (h : FillSS B w g M k rs) : B ≤ g ∧ g < w.heap.size := World.ownsRow.lt h.own g rfl

theorem FillSS.below {B : Nat} {w w' : World} {g M k : Nat} {rs : List RowV} (h : FillSS B w g M k rs) (hb : Below w.heap.size w w') : FillSS B w' g M k rs :=
 ⟨ownsRow_heap h.own fun j hj => hb.block j (by have := World.ownsRow.lt h.own j hj; omega), h.len, h.le, fun x hx => ⟨(h.row x hx).1.below hb, (h.row x hx).2.1, (h.row x hx).2.2.1, Nat.lt_of_lt_of_le (h.row x hx).2.2.2 hb.size⟩, h.dif⟩

/-- The next row is stored. -/
theorem FillSS.store {B b j cap : Nat} {w : World} {g M k : Nat} {rs : List RowV} {a : Option Addr} {xs : List Int} (h : FillSS B w g M k rs) (hk : k < M) (ho : OwnIn b (b + 1) w a j cap xs) (hj : j ≤ 1048576) (hb1 : g < b) (hb2 : b < w.heap.size) (hg : ∀ x ∈ rs, x.b < b) :
  FillSS B (w.setCell ⟨g, k, none⟩ (.slice a j cap)) g M (k + 1) (rs ++ [⟨b, a, j, cap, xs⟩]) := by
 obtain ⟨h1, h2⟩ := World.ownsRow.stored h.own k (.slice a j cap)
 have hl := h.len
 have e : (rs.map RowV.val ++ List.replicate (M - k) (Value.slice none 0 0)).set k (Value.slice a j cap) = (rs ++ [(⟨b, a, j, cap, xs⟩ : RowV)]).map RowV.val ++ List.replicate (M - (k + 1)) (Value.slice none 0 0) := by
  obtain ⟨q, hq⟩ : ∃ q, M - k = q + 1 := ⟨M - k - 1, by omega⟩
  rw [hq, show M - (k + 1) = q by omega, List.replicate_succ, List.map_append, List.set_append, if_neg (by simp; omega)]
  simp [hl, RowV.val]
 rw [e] at h1
 have kept : ∀ (u : Nat), u ≠ g → (w.setCell ⟨g, k, none⟩ (.slice a j cap)).heap[u]? = w.heap[u]? := fun u hu => Below.heap_setCell w ⟨g, k, none⟩ _ u hu
 have hsz : (w.setCell ⟨g, k, none⟩ (.slice a j cap)).heap.size = w.heap.size := by simp [World.setCell]
 refine ⟨h1, by simp [hl], by omega, fun x hx => ?_, fun i u hi hu hne => ?_⟩
 ·rcases List.mem_append.1 hx with hx | hx
  ·obtain ⟨r1, r2, r3, r4⟩ := h.row x hx
   exact ⟨r1.heap fun u u1 u2 _ => kept u (by omega), r2, r3, by rw [hsz]; exact r4⟩
  ·simp only [List.mem_singleton] at hx
   subst hx
   exact ⟨ho.heap fun u u1 u2 _ => kept u (by omega), hj, hb1, by rw [hsz]; exact hb2⟩
 ·simp only [List.length_append, List.length_singleton] at hi hu
  rw [List.getElem_append, List.getElem_append]
  by_cases e1 : i < rs.length
  ·by_cases e2 : u < rs.length
   ·rw [dif_pos e1, dif_pos e2]
    exact h.dif i u e1 e2 hne
   ·rw [dif_pos e1, dif_neg e2]
    have := hg _ (List.getElem_mem e1)
    simp only [List.getElem_singleton]
    omega
  ·by_cases e2 : u < rs.length
   ·rw [dif_neg e1, dif_pos e2]
    have := hg _ (List.getElem_mem e2)
    simp only [List.getElem_singleton]
    omega
   ·omega

/-- All rows have been stored. -/
theorem FillSS.full {B : Nat} {w : World} {g M : Nat} {rs : List RowV} (h : FillSS B w g M M rs) : GrowSS B w (.slice (some ⟨g, 0, none⟩) M M) M rs := by
 have h1 := h.own
 rw [Nat.sub_self, List.replicate_zero, List.append_nil] at h1
 exact ⟨h1, fun x hx => ⟨(h.row x hx).1, (h.row x hx).2.1, by have := h.lt; have := (h.row x hx).2.2.1; omega, (h.row x hx).2.2.2⟩, h.dif, fun x hx e => by
  have := (h.row x hx).2.2.1
  have e2 : g = x.b := by simpa [Value.ownBlock] using e
  omega⟩

/-- What a function that hands back a slice of slices and a code gives. -/
def RetSSN (w : World) (ls : List (List Int)) (c : Int) (e : Ending) (w' : World) : Prop :=
 ∃ a cap rs, e = .returned (.tuple #[.slice a rs.length cap, .int .i64 c]) ∧ rs.map RowV.xs = ls ∧ GrowSS w.heap.size w' (.slice a rs.length cap) rs.length rs ∧ Below w.heap.size w w'

theorem OwnSS.drew {lo hi : Nat} {w : World} {ad : Option Addr} {m : Nat} {rs : List RowV} (h : OwnSS lo hi w ad m rs) : OwnSS lo hi w.drew ad m rs := h

theorem totS_bd (rs : List RowV) (h : ∀ x ∈ rs, x.n ≤ 1048576) : totS rs ≤ rs.length * 1048576 := by
 induction rs with
 | nil => exact Nat.zero_le _
 | cons x l ih =>
  have h1 := h x (by simp)
  have h2 := ih fun y hy => h y (by simp [hy])
  simp only [totS, List.length_cons]
  omega

end Go.Proofs.Ytehcbamfendbaaa
