/- Partitions as rows: what is computed of a row of numbers, in a form that is quickly computed: packed rows, ways, least numbers, crossings. No program is spoken of. -/
import Derived.Test.YtehcbamfendbaaaQA
namespace Go.Proofs.Ytehcbamfendbaaa

/-- If, without a match. -/
noncomputable def ite2 {α : Type} (b : Bool) (t f : α) : α := @Bool.rec (fun _ => α) f t b
noncomputable def notB (b : Bool) : Bool := @Bool.rec (fun _ => Bool) true false b
/-- The number at a place of a packed row; a row packed. -/
noncomputable def gtN (P x : Nat) : Nat := Nat.mod (Nat.div P (Nat.pow 8 x)) 8
noncomputable def pkN (f : Nat → Nat) (n : Nat) : Nat := @Nat.rec (fun _ => Nat) 0 (fun k ih => Nat.add ih (Nat.mul (f k) (Nat.pow 8 k))) n
/-- The least of the first k + 1 numbers on the way from x. -/
noncomputable def cmin (f : Nat → Nat) (k : Nat) : Nat → Nat := @Nat.rec (fun _ => Nat → Nat) (fun x => x) (fun _ ih x => (fun m => ite2 (Nat.ble x m) x m) (ih (f x))) k
/-- On the way from y, is x the least until it comes? -/
noncomputable def isMin (f : Nat → Nat) (x k : Nat) : Nat → Bool := @Nat.rec (fun _ => Nat → Bool) (fun _ => true) (fun _ ih y => ite2 (Nat.ble y x) (Nat.beq y x) (ih (f y))) k
/-- How many of the first n numbers are the least of their ways. -/
noncomputable def cycs (f : Nat → Nat) (m n : Nat) : Nat := @Nat.rec (fun _ => Nat) 0 (fun k ih => ite2 (isMin f k m (f k)) (Nat.succ ih) ih) n
noncomputable def fnN (f : Nat → Nat) (v k : Nat) : Nat → Nat := @Nat.rec (fun _ => Nat → Nat) (fun _ => 0) (fun _ ih i => ite2 (Nat.beq (f i) v) i (ih (Nat.succ i))) k
noncomputable def allN (p : Nat → Bool) (n : Nat) : Bool := @Nat.rec (fun _ => Bool) true (fun k ih => ite2 (p k) ih false) n
noncomputable def upN (L : Nat → Nat) (x : Nat) (k : Nat) : Nat → Nat := @Nat.rec (fun _ => Nat → Nat) (fun _ => L x) (fun _ ih y => ite2 (Nat.beq (L y) (L x)) y (ih (Nat.succ y))) k
/-- The next greater number that is like x, or the least one. -/
noncomputable def mdN (L : Nat → Nat) (n x : Nat) : Nat := upN L x (Nat.sub (Nat.sub n 1) x) (Nat.succ x)
noncomputable def crN (L : Nat → Nat) (n : Nat) : Bool :=
  notB (allN (fun d => allN (fun c => allN (fun b => ite2 (Nat.beq (L b) (L d)) (allN (fun a => ite2 (Nat.beq (L a) (L c)) (Nat.beq (L a) (L b)) true) b) true) c) d) n)
/-- Is the row that of a noncrossing partition? -/
noncomputable def ncN (f L : Nat → Nat) (n : Nat) : Bool := ite2 (allN (fun x => Nat.beq (mdN L n x) (f x)) n) (notB (crN L n)) false
/-- The complement's row. -/
noncomputable def kN (f : Nat → Nat) (n x : Nat) : Nat := Nat.mod (Nat.succ (fnN f x n 0)) n
/-- Both tests agree, and the complement of a noncrossing partition is one. -/
noncomputable def tstK (f : Nat → Nat) (n : Nat) (K : Nat) : Bool :=
  ite2 (Nat.beq (Nat.add (cycs f n n) (cycs (gtN K) n n)) (Nat.succ n)) (ite2 (ncN f (cmin f n) n) (ncN (gtN K) (cmin (gtN K) n) n) false) (notB (ncN f (cmin f n) n))
noncomputable def tstN (n : Nat) (P : Nat) : Bool := tstK (gtN P) n (pkN (kN (gtN P) n) n)
/-- The test at all rows that go on from here; used: the numbers taken, as bits. -/
noncomputable def chkN (T : Nat → Bool) (n : Nat) (k : Nat) : Nat → Nat → Bool :=
  @Nat.rec (fun _ => Nat → Nat → Bool) (fun _ P => T P) (fun k ih used P => allN (fun v => ite2 (Nat.testBit used v) true (ih (Nat.lor used (Nat.pow 2 v)) (Nat.add P (Nat.mul v (Nat.pow 8 k))))) n) k

end Go.Proofs.Ytehcbamfendbaaa
