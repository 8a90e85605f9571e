/- Plain: summits. -/
import Derived.Test.YtpkhddndapcpjaaSuDecP
namespace Go.Proofs.Ytpkhddndapcpjaa

/-- Steps until one is better. -/
def riseN (step : Int × List (List Int) → Int × List (List Int)) (good : Int × List (List Int) → Bool) : Nat → Int × List (List Int) → Option (Int × List (List Int))
 | 0, _ => none
 | k + 1, x => if good (step x) = true then some (step x) else riseN step good k (step x)

def cycS (m : Nat) (x : Int × List (List Int)) : Int × List (List Int) := cycN m x.1 x.2
def decS (m : Nat) (x : Int × List (List Int)) : Int × List (List Int) := decN m x.1 x.2
def upG (x y : Int × List (List Int)) : Bool := decide (x.1 < y.1)
def downG (x y : Int × List (List Int)) : Bool := decide (y.1 + (y.2.length : Int) < x.1 + (x.2.length : Int))
def upN (m c : Nat) (x : Int × List (List Int)) : Option (Int × List (List Int)) := riseN (cycS m) (upG x) c x
def downN (m c : Nat) (x : Int × List (List Int)) : Option (Int × List (List Int)) := riseN (decS m) (downG x) c x

/-- The summit, within so many rounds. -/
def summitN (m c : Nat) : Nat → Int × List (List Int) → Int × List (List Int)
 | 0, x => x
 | f + 1, x => match upN m c x with
  | some y => summitN m c f y
  | none => match downN m c x with
   | some y => summitN m c f y
   | none => x

/-- y comes of x by steps. -/
structure Got (m : Nat) (x y : Int × List (List Int)) : Prop where
 nl : Nl m y.2
 len : y.2.length ≤ x.2.length
 low : x.1 ≤ y.1
 top : y.1 + (y.2.length : Int) ≤ x.1 + (x.2.length : Int)

theorem Got.refl {m : Nat} {x : Int × List (List Int)} (h : Nl m x.2) : Got m x x := ⟨h, Nat.le_refl _, Int.le_refl _, Int.le_refl _⟩

theorem Got.cyc {m : Nat} {x y : Int × List (List Int)} (h : Got m x y) : Got m x (cycS m y) := by
 have h1 := cycN_len (m := m) (p := y.1) (l := y.2) (e := (cycS m y).1) (kf := (cycS m y).2) rfl
 exact ⟨cycN_nl h.nl (e := (cycS m y).1) (kf := (cycS m y).2) rfl, Nat.le_trans h1.1 h.len, Int.le_trans h.low h1.2.1, Int.le_trans h1.2.2 h.top⟩

theorem Got.dec {m : Nat} {x y : Int × List (List Int)} (h : Got m x y) : Got m x (decS m y) := by
 have h1 := decN_len (m := m) (p := y.1) (l := y.2) (e := (decS m y).1) (kf := (decS m y).2) rfl
 exact ⟨decN_nl h.nl (e := (decS m y).1) (kf := (decS m y).2) rfl, Nat.le_trans h1.1 h.len, Int.le_trans h.low h1.2.1, Int.le_trans h1.2.2 h.top⟩

theorem Got.up {m : Nat} {x y : Int × List (List Int)} (h : Got m x y) (hg : upG x y = true) : y.2.length < x.2.length := by
 unfold upG at hg
 have h1 := of_decide_eq_true hg
 have h2 := h.top
 omega

theorem Got.down {m : Nat} {x y : Int × List (List Int)} (h : Got m x y) (hg : downG x y = true) : y.2.length < x.2.length := by
 unfold downG at hg
 have h1 := of_decide_eq_true hg
 have h2 := h.low
 omega

theorem Got.trans {m : Nat} {x y z : Int × List (List Int)} (h : Got m x y) (k : Got m y z) : Got m x z := ⟨k.nl, Nat.le_trans k.len h.len, Int.le_trans h.low k.low, Int.le_trans k.top h.top⟩

theorem summitN_up {m c f : Nat} {x y : Int × List (List Int)} (h : upN m c x = some y) : summitN m c (f + 1) x = summitN m c f y := by rw [summitN, h]
theorem summitN_down {m c f : Nat} {x y : Int × List (List Int)} (h : upN m c x = none) (h2 : downN m c x = some y) : summitN m c (f + 1) x = summitN m c f y := by rw [summitN, h, h2]
theorem summitN_end {m c : Nat} {x : Int × List (List Int)} (h : upN m c x = none) (h2 : downN m c x = none) : ∀ f, summitN m c f x = x
 | 0 => rfl
 | f + 1 => by rw [summitN, h, h2]

theorem riseN_got {m : Nat} {step : Int × List (List Int) → Int × List (List Int)} {good : Int × List (List Int) → Bool} {x : Int × List (List Int)} (hs : ∀ y, Got m x y → Got m x (step y)) : ∀ {c : Nat} {z y : Int × List (List Int)}, Got m x z → riseN step good c z = some y → Got m x y ∧ good y = true
 | 0, z, y, _, h => by rw [riseN] at h; cases h
 | c + 1, z, y, hz, h => by
  rw [riseN] at h
  split at h
  ·rename_i hg
   simp only [Option.some.injEq] at h
   subst h
   exact ⟨hs z hz, hg⟩
  ·exact riseN_got hs (hs z hz) h

theorem upN_some {m c : Nat} {x y : Int × List (List Int)} (h : Nl m x.2) (hr : upN m c x = some y) : Got m x y ∧ y.2.length < x.2.length := by
 have h1 := riseN_got (fun _ k => k.cyc) (Got.refl h) hr
 exact ⟨h1.1, h1.1.up h1.2⟩

theorem downN_some {m c : Nat} {x y : Int × List (List Int)} (h : Nl m x.2) (hr : downN m c x = some y) : Got m x y ∧ y.2.length < x.2.length := by
 have h1 := riseN_got (fun _ k => k.dec) (Got.refl h) hr
 exact ⟨h1.1, h1.1.down h1.2⟩

/-- The number of steps. -/
def stepsN (m : Nat) : Nat := m * (m - 1) / 2

theorem summitN_got {m c : Nat} : ∀ (f : Nat) {x : Int × List (List Int)}, Nl m x.2 → Got m x (summitN m c f x)
 | 0, _, h => Got.refl h
 | f + 1, x, h => by
  rw [summitN]
  cases h1 : upN m c x with
  | some y => exact (upN_some h h1).1.trans (summitN_got f (upN_some h h1).1.nl)
  | none =>
   cases h2 : downN m c x with
   | some y => exact (downN_some h h2).1.trans (summitN_got f (downN_some h h2).1.nl)
   | none => exact Got.refl h

end Go.Proofs.Ytpkhddndapcpjaa

