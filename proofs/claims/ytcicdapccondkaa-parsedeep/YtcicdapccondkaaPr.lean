/- Expressions out of tokens, as a function. -/
import Derived.Test.YtcicdapccondkaaTx
namespace Go.Proofs.Ytcicdapccondkaa
set_option linter.unusedSimpArgs false
set_option maxRecDepth 20000
set_option maxHeartbeats 4000000

abbrev Er := Nat × Int
abbrev Rz (α : Type) := Option (Sum Er (α × Nat))
def bnd {α β : Type} (r : Rz α) (f : α → Nat → Rz β) : Rz β :=
  match r with
  | none => none
  | some (.inl e) => some (.inl e)
  | some (.inr (a, j)) => f a j
def okR {α : Type} (a : α) (j : Nat) : Rz α := some (.inr (a, j))
def noR {α : Type} (p : Nat) (e : Int) : Rz α := some (.inl (p, e))
def needP (T : List Tt) (k : Int) (t : List UInt8) (i : Nat) : Rz Tt := if isT (tkI T i) k [t] then okR (tkI T i) (i + 1) else noR i 70
def nd (k : Int) (t : Tt) (l : List X) : X := mkX k [] 0 t.2 l
def tnd (k : Int) (t : Tt) (l : List X) : X := mkX k t.1.2.1 0 t.2 l
def nnd (k : Int) (t : Tt) : X := mkX k [] t.1.2.2 t.2 []
/-- Parts with a sign between any two. -/
def lineP (T : List Tt) (k : Int) (L : List (List UInt8)) (part : Nat → Rz X) : Nat → X → Nat → Rz X
  | 0, _, _ => none
  | f + 1, n, i => if isT (tkI T i) k L then bnd (part (i + 1)) fun m j => lineP T k L part f (tnd 8 (tkI T i) [n, m]) j else okR n i
/-- A sign ahead, as often as it stands there. -/
def prefP (T : List Tt) (k : Int) (t : List UInt8) (operand : Nat → Nat → Rz X) : Nat → Nat → Nat → Rz X
  | 0, _, _ => none
  | f + 1, i, op => if isT (tkI T i) k [t] then (if op = 100 then noR i 71 else bnd (prefP T k t operand f (i + 1) (op + 1)) fun m j => okR (tnd 7 (tkI T i) [m]) j) else operand i op
/-- A list, behind its first thing. -/
def listP (T : List Tt) (E : Nat → Rz X) : Nat → List X → Nat → Rz (List X)
  | 0, _, _ => none
  | f + 1, l, i => if isT (tkI T i) 6 [[44]] then bnd (E (i + 1)) fun x j => listP T E f (l ++ [x]) j else okR l i
def whenP (T : List Tt) (E : Nat → Rz X) (i : Nat) : Rz (List X) := bnd (needP T 2 [119, 104, 101, 110] i) fun _ i => bnd (E i) fun c i => bnd (needP T 2 [116, 104, 101, 110] i) fun _ i => bnd (E i) fun x i => okR [c, x] i
def whensP (T : List Tt) (E : Nat → Rz X) : Nat → List X → Nat → Rz (List X)
  | 0, _, _ => none
  | f + 1, l, i => if isT (tkI T i) 2 [[119, 104, 101, 110]] then bnd (whenP T E i) fun m j => whensP T E f (l ++ m) j else okR l i
def listE (T : List Tt) (E : Nat → Rz X) (f i : Nat) : Rz (List X) := bnd (E i) fun x j => listP T E f [x] j
def choiceP (T : List Tt) (E : Nat → Rz X) (f i : Nat) : Rz X :=
  bnd (whenP T E (i + 1)) fun l j => bnd (whensP T E f l j) fun l j =>
    if isT (tkI T j) 2 [[101, 108, 115, 101]] then bnd (E (j + 1)) fun x j => bnd (needP T 2 [101, 110, 100] j) fun _ j => okR (nd 12 (tkI T i) (l ++ [x])) j
    else bnd (needP T 2 [101, 110, 100] j) fun t j => okR (nd 12 (tkI T i) (l ++ [nd 1 t []])) j
def aggE (T : List Tt) (E : Nat → Rz X) (i : Nat) (m : Int) (j : Nat) : Rz X := bnd (E j) fun x j => bnd (needP T 6 [41] j) fun _ j => okR (mkX 14 (tkI T i).1.2.1 m (tkI T i).2 [x]) j
def aggP (T : List Tt) (E : Nat → Rz X) (i : Nat) : Rz X :=
  bnd (needP T 6 [40] (i + 1)) fun _ j =>
    if (tkI T i).1.2.1 = [99, 111, 117, 110, 116] ∧ isT (tkI T j) 6 [[42]] = true then bnd (needP T 6 [41] (j + 1)) fun _ j => okR (tnd 14 (tkI T i) []) j
    else if isT (tkI T j) 2 [[100, 105, 115, 116, 105, 110, 99, 116]] then aggE T E i 1 (j + 1) else aggE T E i 0 j
def aggW : List (List UInt8) := [[99, 111, 117, 110, 116], [115, 117, 109], [97, 118, 103], [109, 105, 110], [109, 97, 120], [102, 105, 114, 115, 116], [108, 97, 115, 116]]
def wordP (T : List Tt) (E : Nat → Rz X) (f i : Nat) : Rz X :=
  if (tkI T i).1.2.1 = [110, 117, 108, 108] then okR (nd 1 (tkI T i) []) (i + 1)
  else if (tkI T i).1.2.1 = [102, 97, 108, 115, 101] then okR (nd 2 (tkI T i) []) (i + 1)
  else if (tkI T i).1.2.1 = [116, 114, 117, 101] then okR (mkX 2 [] 1 (tkI T i).2 []) (i + 1)
  else if aggW.contains (tkI T i).1.2.1 then aggP T E i
  else if (tkI T i).1.2.1 = [99, 97, 115, 101] then choiceP T E f i
  else noR i 70
def callP (T : List Tt) (E : Nat → Rz X) (f i : Nat) : Rz X :=
  if isT (tkI T (i + 2)) 6 [[41]] then bnd (needP T 6 [41] (i + 2)) fun _ j => okR (tnd 13 (tkI T i) []) j
  else bnd (listE T E f (i + 2)) fun l j => bnd (needP T 6 [41] j) fun _ j => okR (tnd 13 (tkI T i) l) j
def namedP (T : List Tt) (E : Nat → Rz X) (f i : Nat) : Rz X :=
  if isT (tkI T (i + 1)) 6 [[40]] then callP T E f i
  else if isT (tkI T (i + 1)) 6 [[46]] = true ∧ (tkI T (i + 2)).1.1 = 1 then okR (mkX 6 (tkI T (i + 2)).1.2.1 0 (tkI T i).2 [tnd 15 (tkI T i) []]) (i + 3)
  else okR (tnd 6 (tkI T i) []) (i + 1)
def brackP (T : List Tt) (E : Nat → Rz X) (i : Nat) : Rz X := bnd (needP T 6 [40] i) fun _ j => bnd (E j) fun x j => bnd (needP T 6 [41] j) fun _ j => okR x j
def primP (T : List Tt) (E : Nat → Nat → Rz X) (f i op : Nat) : Rz X :=
  if (tkI T i).1.1 = 3 then okR (nnd 3 (tkI T i)) (i + 1)
  else if (tkI T i).1.1 = 4 then okR (nnd 4 (tkI T i)) (i + 1)
  else if (tkI T i).1.1 = 5 then okR (tnd 5 (tkI T i) []) (i + 1)
  else if (tkI T i).1.1 = 1 then namedP T (fun j => E j op) f i
  else if (tkI T i).1.1 = 2 then wordP T (fun j => E j op) f i
  else if (tkI T i).1.1 = 6 then brackP T (fun j => E j op) i
  else noR i 70
def minusP (T : List Tt) (E : Nat → Nat → Rz X) (f i op : Nat) : Rz X := prefP T 6 [45] (primP T E f) f i op
def prodP (T : List Tt) (E : Nat → Nat → Rz X) (f i op : Nat) : Rz X := bnd (minusP T E f i op) (lineP T 6 [[42], [47], [37]] (fun j => minusP T E f j op) f)
def sumP (T : List Tt) (E : Nat → Nat → Rz X) (f i op : Nat) : Rz X := bnd (prodP T E f i op) (lineP T 6 [[43], [45]] (fun j => prodP T E f j op) f)
def isNP (T : List Tt) (x : X) (i : Nat) : Rz X :=
  if isT (tkI T (i + 1)) 2 [[110, 111, 116]] then bnd (needP T 2 [110, 117, 108, 108] (i + 2)) fun _ j => okR (mkX 9 [] 1 (tkI T i).2 [x]) j
  else bnd (needP T 2 [110, 117, 108, 108] (i + 1)) fun _ j => okR (nd 9 (tkI T i) [x]) j
def betP (T : List Tt) (S : Nat → Rz X) (x : X) (i : Nat) : Rz X := bnd (S (i + 1)) fun lo j => bnd (needP T 2 [97, 110, 100] j) fun _ j => bnd (S j) fun hi j => okR (nd 10 (tkI T i) [x, lo, hi]) j
def inP (T : List Tt) (E : Nat → Rz X) (f : Nat) (x : X) (i : Nat) : Rz X := bnd (needP T 6 [40] (i + 1)) fun _ j => bnd (listE T E f j) fun l j => bnd (needP T 6 [41] j) fun _ j => okR (nd 11 (tkI T i) (x :: l)) j
def cmpL : List (List UInt8) := [[61], [33, 61], [60], [60, 61], [62], [62, 61]]
def testP (T : List Tt) (E : Nat → Nat → Rz X) (f i op : Nat) : Rz X :=
  bnd (sumP T E f i op) fun x j =>
    if isT (tkI T j) 6 cmpL then bnd (sumP T E f (j + 1) op) fun y k => okR (tnd 8 (tkI T j) [x, y]) k
    else if isT (tkI T j) 2 [[105, 115]] then isNP T x j
    else if isT (tkI T j) 2 [[98, 101, 116, 119, 101, 101, 110]] then betP T (fun k => sumP T E f k op) x j
    else if isT (tkI T j) 2 [[105, 110]] then inP T (fun k => E k op) f x j
    else if isT (tkI T j) 2 [[110, 111, 116]] then
      (if isT (tkI T (j + 1)) 2 [[98, 101, 116, 119, 101, 101, 110]] then bnd (betP T (fun k => sumP T E f k op) x (j + 1)) fun y k => okR (tnd 7 (tkI T j) [y]) k
       else if isT (tkI T (j + 1)) 2 [[105, 110]] then bnd (inP T (fun k => E k op) f x (j + 1)) fun y k => okR (tnd 7 (tkI T j) [y]) k
       else okR x j)
    else okR x j
def notP (T : List Tt) (E : Nat → Nat → Rz X) (f i op : Nat) : Rz X := prefP T 2 [110, 111, 116] (testP T E f) f i op
def andP (T : List Tt) (E : Nat → Nat → Rz X) (f i op : Nat) : Rz X := bnd (notP T E f i op) (lineP T 2 [[97, 110, 100]] (fun j => notP T E f j op) f)
def orP (T : List Tt) (E : Nat → Nat → Rz X) (f i op : Nat) : Rz X := bnd (andP T E f i op) (lineP T 2 [[111, 114]] (fun j => andP T E f j op) f)
/-- Expressions, with so much fuel: from the token i on, with op open. -/
def exP (T : List Tt) : Nat → Nat → Nat → Rz X
  | 0, _, _ => none
  | f + 1, i, op => if op = 100 then noR i 71 else orP T (exP T f) f i (op + 1)
end Go.Proofs.Ytcicdapccondkaa
