/- The tokens of bytes, as a function; what the calls read of the package variables. -/
import Derived.Test.YtcemogaacicnfaaGreatDoorCls
import Derived.Test.YtcemogaacicnfaaGreatDoorShelfL
import Derived.Test.YtcemogaacicnfaaGreatDoorShelfA
import Derived.Lib.ItoaMem
import Derived.Lib.AppendIntMem
import Derived.Shelf.Unicode.DecodeSlow
namespace Go.Proofs.YtcemogaacicnfaaGreatDoor
open Go.ChangeShapes Go.WideShapes Go.ChangeAt Go.RowKit

/-- The words. -/
def wdL : List (List UInt8) := [[97, 108, 108], [97, 110, 100], [97, 115], [97, 118, 103], [98, 101, 116, 119, 101, 101, 110], [98, 121], [99, 97, 115, 101], [99, 111, 110, 116, 101, 120, 116], [99, 111, 117, 110, 116], [99, 114, 101, 97, 116, 101], [100, 101, 108, 101, 116, 101], [100, 101, 115, 99], [100, 105, 115, 116, 105, 110, 99, 116], [101, 108, 115, 101], [101, 110, 100], [101, 118, 101, 110, 116, 115], [101, 118, 101, 114, 121], [102, 97, 108, 115, 101], [102, 105, 114, 115, 116], [102, 114, 111, 109], [103, 114, 111, 117, 112], [104, 97, 118, 105, 110, 103], [105, 110], [105, 110, 115, 101, 114, 116], [105, 110, 116, 111], [105, 114, 115, 116, 114, 101, 97, 109], [105, 115], [105, 115, 116, 114, 101, 97, 109], [108, 97, 115, 116], [109, 97, 116, 99, 104, 101, 100], [109, 97, 120], [109, 101, 114, 103, 101], [109, 105, 110], [109, 115], [110, 111, 116], [110, 117, 108, 108], [111, 110], [111, 114], [111, 114, 100, 101, 114], [111, 117, 116, 112, 117, 116], [111, 118, 101, 114, 108, 97, 112, 112, 105, 110, 103], [112, 97, 114, 116, 105, 116, 105, 111, 110], [112, 97, 116, 116, 101, 114, 110], [114, 115, 116, 114, 101, 97, 109], [115, 99, 104, 101, 109, 97], [115, 101, 108, 101, 99, 116], [115, 101, 116], [115, 110, 97, 112, 115, 104, 111, 116], [115, 116, 97, 114, 116], [115, 117, 109], [116, 104, 101, 110], [116, 105, 109, 101, 114], [116, 114, 117, 101], [117, 112, 100, 97, 116, 101], [119, 104, 101, 110], [119, 104, 101, 114, 101], [119, 105, 110, 100, 111, 119], [119, 105, 116, 104, 105, 110]]
def wd (i : Nat) : List UInt8 := wdL.getD i []
/-- A token: its kind, its text, its number. -/
abbrev Tk := Int × List UInt8 × Int
def tkV (t : Tk) (a : Int) : Value := .agg #[.int .i64 t.1, .string (bsA t.2.1), .int .i64 t.2.2, .int .i64 a]
def tk0 : Tk := (0, [], 0)
def lineN (l : List UInt8) : Int := if Lib.indexByte l 10 ≥ 0 then Lib.indexByte l 10 else l.length
def noteN (l : List UInt8) : Int := if Lib.index (l.drop 2) [42, 47] < 0 then 0 else 2 + Lib.index (l.drop 2) [42, 47] + 2
def shortS : List UInt8 := [60, 62, 61, 43, 45, 42, 47, 37, 40, 41, 44, 46, 59, 91, 93, 35]
def sgn2 (l : List UInt8) : Bool := decide (1 < l.length) && (l.take 2 == [60, 61] || l.take 2 == [62, 61] || l.take 2 == [33, 61] || l.take 2 == [45, 62])
def sgnN (l : List UInt8) : Nat := if sgn2 l then 2 else if Lib.indexByte shortS (l.headD 0) ≥ 0 then 1 else 0
def sgnP (l : List UInt8) : Tk × Int × Int := if sgnN l = 0 then (tk0, 0, 50) else ((6, l.take (sgnN l), 0), sgnN l, 0)
def msN (u : List UInt8) : Int := if u = [109, 115] then 1 else if u = [115] then 1000 else if u = [109] then 60000 else if u = [104] then 3600000 else if u = [100] then 86400000 else 0
def whlP (k : Int) (d : List UInt8) : Tk × Int := match Lib.atoiAll d with
  | .ok v => ((k, [], v), 0)
  | _ => (tk0, 51)
def frcL (s : List UInt8) : List UInt8 := if Lib.hasPrefix s [46] then s.tail.take (ldN dgB s.tail) else []
def decP (d b : List UInt8) : Tk × Int := if 4 < b.length then (tk0, 50) else whlP 4 (d ++ b ++ Lib.repeatL [48] (4 - b.length))
def perP (d : List UInt8) (u : Int) : Tk × Int := if (whlP 7 d).2 ≠ 0 ∨ (whlP 7 d).1.2.2 > 1099511627776 / u then (tk0, 51) else ((7, [], (whlP 7 d).1.2.2 * u), 0)
/-- What the calls read of the package variables. -/
structure Rdy (w : World) : Prop where
  words : ∀ i, i < 58 → w.cell? ⟨3, i, none⟩ = some (.string (bsA (wd i)))
  mx : ∃ m, w.cell? ⟨2, 0, none⟩ = some (.int .i64 m)
  utf : Lib.Utf8Tabs 0 1 w
  pow : Lib.TabIs Tryz.prog w "internal/strconv.uint64pow10" .u64 Lib.pow10Tab
  es : ∃ ev, w.cell? ⟨5, 0, none⟩ = some ev ∧ (ev = .nilIface ∨ ∃ te pe, ev = .iface te pe)
  er : ∃ ev, w.cell? ⟨6, 0, none⟩ = some ev ∧ (ev = .nilIface ∨ ∃ te pe, ev = .iface te pe)
theorem Rdy.below {w w' : World} (h : Rdy w) (hb : Below w.heap.size w w') : Rdy w' where
  words := fun i hi => cell_below hb (h.words i hi)
  mx := by obtain ⟨m, hm⟩ := h.mx; exact ⟨m, cell_below hb hm⟩
  utf := ⟨fun c hc => cell_below hb (h.utf.1 c hc), fun i hi => ⟨cell_below hb (h.utf.2 i hi).1, cell_below hb (h.utf.2 i hi).2⟩⟩
  pow := Lib.tabBelow_of_tabIs h.pow _ hb
  es := by obtain ⟨m, hm, h2⟩ := h.es; exact ⟨m, cell_below hb hm, h2⟩
  er := by obtain ⟨m, hm, h2⟩ := h.er; exact ⟨m, cell_below hb hm, h2⟩
theorem Rdy.alloc {w : World} (h : Rdy w) (o : Obj) : Rdy (w.alloc o) := h.below ((Below.refl _ _).alloc (Nat.le_refl _) o)
end Go.Proofs.YtcemogaacicnfaaGreatDoor
