/- Venues as plain data: what may be, as plain functions of lists and numbers (no program in it). -/
namespace Go.Proofs.Ytbmmjbklfheghaa.Ven
set_option linter.unusedVariables false
set_option maxRecDepth 100000

structure Seat where
  row : Int
  x : Int
  y : Int
  kind : Int
deriving DecidableEq, Inhabited
structure Pole where
  x : Int
  y : Int
  r : Int
deriving DecidableEq, Inhabited
structure Ven where
  seats : List Seat
  gap : Int
  radius : Int
  kills : List Int
  poles : List Pole
deriving DecidableEq, Inhabited

def lengthB (n : Int) : Bool := decide (1 ≤ n) && decide (n ≤ 1048576)
def distB (n : Int) : Bool := decide (0 ≤ n) && decide (n ≤ 1048576)
def coordB (n : Int) : Bool := decide (-1048576 ≤ n) && decide (n ≤ 1048576)
def rowB (n : Int) : Bool := decide (0 ≤ n) && decide (n < 1000)
def kindB (n : Int) : Bool := decide (0 ≤ n) && decide (n ≤ 2)
def standsB (x y : Int) : Bool := coordB x && coordB y
def isSeatB (k n : Int) : Bool := decide (0 ≤ k) && decide (k < n)
def cmpI (a b : Int) : Int := if a < b then -1 else if b < a then 1 else 0
def cmpS (a b : Seat) : Int := if cmpI a.row b.row = 0 then cmpI a.x b.x else cmpI a.row b.row
def ltS (a b : Seat) : Bool := decide (a.row < b.row) || (decide (a.row = b.row) && decide (a.x < b.x))
def seatB (s : Seat) : Bool := rowB s.row && standsB s.x s.y && kindB s.kind
def poleB (p : Pole) : Bool := standsB p.x p.y && lengthB p.r
/-- Does 'p' hold of all numbers below 'n'? -/
def upB (n : Nat) (p : Nat → Bool) : Bool := (List.range n).all p
def okSeat (l : List Seat) (i : Nat) : Bool := seatB l[i]! && (i == 0 || ltS l[i - 1]! l[i]!)
def okKill (l : List Int) (n : Int) (i : Nat) : Bool := isSeatB l[i]! n && (i == 0 || decide (l[i - 1]! < l[i]!))
def seatsB (l : List Seat) : Bool := decide (1 ≤ l.length) && decide (l.length ≤ 4096) && upB l.length (okSeat l)
def killsB (l : List Int) (n : Int) : Bool := decide (l.length ≤ 200) && upB l.length (okKill l n)
def okPole (l : List Pole) (i : Nat) : Bool := poleB l[i]!
def polesB (l : List Pole) : Bool := decide (l.length ≤ 200) && upB l.length (okPole l)
def tSeats : List UInt8 := [115, 101, 97, 116, 115]
def tGap : List UInt8 := [103, 97, 112]
def tRadius : List UInt8 := [114, 97, 100, 105, 117, 115]
def tKills : List UInt8 := [107, 105, 108, 108, 115]
def tPoles : List UInt8 := [112, 111, 108, 101, 115]
def wrongL (v : Ven) : List UInt8 :=
  if seatsB v.seats = false then tSeats else if lengthB v.gap = false then tGap else if distB v.radius = false then tRadius
  else if killsB v.kills v.seats.length = false then tKills else if polesB v.poles = false then tPoles else []
def mayB (v : Ven) : Bool := seatsB v.seats && lengthB v.gap && distB v.radius && killsB v.kills v.seats.length && polesB v.poles
theorem mayB_wrong (v : Ven) : (wrongL v = []) = (mayB v = true) := by
  unfold wrongL mayB tSeats tGap tRadius tKills tPoles
  cases seatsB v.seats <;> cases lengthB v.gap <;> cases distB v.radius <;> cases killsB v.kills v.seats.length <;> cases polesB v.poles <;> simp

theorem upB_iff (n : Nat) (p : Nat → Bool) : upB n p = true ↔ ∀ i, i < n → p i = true := by unfold upB; simp
theorem upB_hit (n : Nat) (p : Nat → Bool) (k : Nat) (hk : k < n) (h : p k = false) : upB n p = false := by
  cases hc : upB n p with
  | false => rfl
  | true => rw [(upB_iff n p).1 hc k hk] at h; cases h
theorem upB_all (n : Nat) (p : Nat → Bool) (h : ∀ i, i < n → p i = true) : upB n p = true := (upB_iff n p).2 h

theorem ltS_cmp (a b : Seat) : ltS a b = decide (cmpS a b < 0) := by
  unfold ltS cmpS cmpI
  by_cases h1 : a.row < b.row
  · simp [h1]
  · by_cases h2 : b.row < a.row
    · have : ¬ a.row = b.row := by omega
      simp [h1, h2, this]
    · have h3 : a.row = b.row := by omega
      simp [h3]
      by_cases h4 : a.x < b.x
      · simp [h4]
      · by_cases h5 : b.x < a.x <;> simp [h4, h5]
theorem ltS_iff (a b : Seat) : ltS a b = true ↔ a.row < b.row ∨ a.row = b.row ∧ a.x < b.x := by unfold ltS; simp
end Go.Proofs.Ytbmmjbklfheghaa.Ven
