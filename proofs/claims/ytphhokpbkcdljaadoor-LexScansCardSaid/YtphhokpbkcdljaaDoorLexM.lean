/- Plain mathematics: texts cut into tokens. Conditions: none. -/
namespace Go.Proofs.YtphhokpbkcdljaaDoor
def keysL : List (List UInt8) := [[97, 110, 100], [97, 110, 100, 97, 108, 115, 111], [99, 97, 115, 101], [100, 97, 116, 97, 116, 121, 112, 101], [100, 105, 118], [101, 108, 115, 101], [101, 110, 100], [101, 120, 99, 101, 112, 116, 105, 111, 110], [102, 110], [102, 117, 110], [104, 97, 110, 100, 108, 101], [105, 102], [105, 110], [105, 116, 111, 115], [108, 101, 116], [109, 111, 100], [110, 111, 116], [111, 102], [111, 114, 100], [111, 114, 101, 108, 115, 101], [114, 97, 105, 115, 101], [114, 101, 102], [115, 105, 122, 101], [115, 116, 114], [116, 104, 101, 110], [118, 97, 108]]
def capsL : List (List UInt8) := [[116, 114, 117, 101], [102, 97, 108, 115, 101], [110, 105, 108]]
def signsL : List (List UInt8) := [[45, 62], [61, 62], [58, 58], [58, 61], [60, 61], [62, 61], [60, 62], [61], [60], [62], [43], [45], [42], [94], [33], [126], [40], [41], [44], [59], [124], [95]]
def isDg (c : UInt8) : Bool := decide (48 ≤ c.toNat) && decide (c.toNat ≤ 57)
def isSm (c : UInt8) : Bool := decide (97 ≤ c.toNat) && decide (c.toNat ≤ 122)
def isLg (c : UInt8) : Bool := decide (65 ≤ c.toNat) && decide (c.toNat ≤ 90)
def isBl (c : UInt8) : Bool := decide (c.toNat = 9) || decide (c.toNat = 10) || decide (c.toNat = 13) || decide (c.toNat = 32)
def part0 (c : UInt8) : Bool := isSm c || isLg c || isDg c || decide (c.toNat = 95)
def part1 (c : UInt8) : Bool := part0 c || decide (c.toNat = 39)
structure Tok where
  kind : Nat
  text : List UInt8
  num : Nat
/-- how many bytes a comment takes behind its beginning, so many being open -/
def com (l : List UInt8) (d : Nat) : Option Nat :=
  if _h : l = [] then none
  else if l.take 2 = [40, 42] then (com (l.drop 2) (d + 1)).map (· + 2)
  else if l.take 2 = [42, 41] then if d = 1 then some 2 else (com (l.drop 2) (d - 1)).map (· + 2)
  else (com (l.drop 1) d).map (· + 1)
termination_by l.length
decreasing_by all_goals (have := List.length_pos_iff.2 _h; simp; omega)
/-- blanks and comments -/
def blk (l : List UInt8) : Nat × Bool :=
  if _h : l = [] then (0, true)
  else if isBl (l.headD 0) = true then ((blk (l.drop 1)).1 + 1, (blk (l.drop 1)).2)
  else if l.take 2 = [40, 42] then
    match com (l.drop 2) 1 with
    | none => (0, false)
    | some n => ((blk (l.drop (n + 2))).1 + (n + 2), (blk (l.drop (n + 2))).2)
  else (0, true)
termination_by l.length
decreasing_by all_goals (have := List.length_pos_iff.2 _h; simp; omega)
def run (p : UInt8 → Bool) (l : List UInt8) : Nat := (l.takeWhile p).length
def dvl (l : List UInt8) : Nat := l.foldl (fun a c => a * 10 + (c.toNat - 48)) 0
def d16 (c : UInt8) : Option Nat := if isDg c = true then some (c.toNat - 48) else if 65 ≤ c.toNat ∧ c.toNat ≤ 70 then some (c.toNat - 55) else none
/-- the first sign of what stands in quotes, and how long it is -/
def sgn : List UInt8 → Option (UInt8 × Nat)
  | [] => none
  | c :: r =>
    if c.toNat < 32 ∨ 126 < c.toNat ∨ c.toNat = 34 then none
    else if c.toNat ≠ 92 then some (c, 1)
    else match r with
      | [] => none
      | x :: r =>
        if x.toNat = 34 ∨ x.toNat = 92 then some (x, 2)
        else if x.toNat = 110 then some (10, 2)
        else if x.toNat = 116 then some (9, 2)
        else if x.toNat = 120 then
          match r with
          | y :: z :: _ => match d16 y, d16 z with
            | some a, some b => some (UInt8.ofNat (16 * a + b), 4)
            | _, _ => none
          | _ => none
        else none
theorem sgn_cons (c : UInt8) (r : List UInt8) : sgn (c :: r) =
    if c.toNat < 32 ∨ 126 < c.toNat ∨ c.toNat = 34 then none
    else if c.toNat ≠ 92 then some (c, 1)
    else match r with
      | [] => none
      | x :: r =>
        if x.toNat = 34 ∨ x.toNat = 92 then some (x, 2)
        else if x.toNat = 110 then some (10, 2)
        else if x.toNat = 116 then some (9, 2)
        else if x.toNat = 120 then
          match r with
          | y :: z :: _ => match d16 y, d16 z with
            | some a, some b => some (UInt8.ofNat (16 * a + b), 4)
            | _, _ => none
          | _ => none
        else none := rfl
theorem sgn_pos {l : List UInt8} {x : UInt8 × Nat} (h : sgn l = some x) : 1 ≤ x.2 ∧ x.2 ≤ 4 ∧ x.2 ≤ l.length := by
  unfold sgn at h
  split at h
  · cases h
  · rename_i c r
    split at h
    · cases h
    · split at h
      · injection h with h; subst h; simp
      · split at h
        · cases h
        · split at h
          · injection h with h; subst h; simp
          · split at h
            · injection h with h; subst h; simp
            · split at h
              · injection h with h; subst h; simp
              · split at h
                · split at h
                  · split at h
                    · injection h with h; subst h; simp
                    · cases h
                  · cases h
                · cases h
/-- a text behind its first quote: what it says, and how long it is -/
def txt (l : List UInt8) : Option (List UInt8 × Nat) :=
  if l.headD 0 = 34 then some ([], 1)
  else match _h : sgn l with
    | none => none
    | some x => (txt (l.drop x.2)).map fun y => (x.1 :: y.1, y.2 + x.2)
termination_by l.length
decreasing_by (have := sgn_pos _h; simp; omega)
def maxI : Nat := 4611686018427387903
def numL (s : List UInt8) : Option Nat := if s ≠ [] ∧ s.all isDg = true ∧ dvl s ≤ maxI then some (dvl s) else none
def quotedL : List UInt8 → Option (List UInt8)
  | [] => none
  | c :: r => if c.toNat = 34 then match txt r with
      | some y => if y.2 = r.length then some y.1 else none
      | none => none
    else none
theorem quotedL_cons (c : UInt8) (r : List UInt8) : quotedL (c :: r) = if c.toNat = 34 then match txt r with
      | some y => if y.2 = r.length then some y.1 else none
      | none => none
    else none := rfl
def wordL : List UInt8 → Bool
  | [] => false
  | c :: r => (isSm c || isLg c) && r.all part1
def tvarL : List UInt8 → Bool
  | c :: d :: r => decide (c.toNat = 39) && isSm d && r.all part0
  | _ => false
def kindW (s : List UInt8) : Nat := if s ∈ keysL then 6 else if isLg (s.headD 0) = true ∨ s ∈ capsL then 4 else 3
/-- the token whose text is just this one -/
def tokL (s : List UInt8) : Option Tok :=
  match numL s with
  | some n => some ⟨1, [], n⟩
  | none => match quotedL s with
    | some t => some ⟨2, t, 0⟩
    | none => if wordL s = true then some ⟨kindW s, s, 0⟩ else if tvarL s = true then some ⟨5, s, 0⟩ else if s ∈ signsL then some ⟨7, s, 0⟩ else none
/-- the longest of so many bytes at most -/
def down (l : List UInt8) : Nat → Option (Tok × Nat)
  | 0 => none
  | n + 1 => match tokL (l.take (n + 1)) with
    | some t => some (t, n + 1)
    | none => down l n
def longL (l : List UInt8) : Option (Tok × Nat) :=
  if run isDg l > 0 then (tokL (l.take (run isDg l))).map (·, run isDg l) else down l l.length
/-- the sign that a text begins with -/
def signP (l : List UInt8) : Option (List UInt8) := signsL.find? fun s => decide (l.take s.length = s)
/-- the token that a text begins with, as the program cuts it -/
def cutL (l : List UInt8) : Option (Tok × Nat) :=
  match l with
  | [] => none
  | c :: r =>
    if isDg c = true then (if dvl (l.take (run isDg l)) ≤ maxI then some (⟨1, [], dvl (l.take (run isDg l))⟩, run isDg l) else none)
    else if c.toNat = 34 then (txt r).map fun y => (⟨2, y.1, 0⟩, y.2 + 1)
    else if isSm c = true ∨ isLg c = true then some (⟨kindW (l.take (run part1 r + 1)), l.take (run part1 r + 1), 0⟩, run part1 r + 1)
    else if c.toNat = 39 ∧ isSm (r.headD 0) = true then some (⟨5, l.take (run part0 r + 1), 0⟩, run part0 r + 1)
    else (signP l).map fun s => (⟨7, s, 0⟩, s.length)
end Go.Proofs.YtphhokpbkcdljaaDoor
