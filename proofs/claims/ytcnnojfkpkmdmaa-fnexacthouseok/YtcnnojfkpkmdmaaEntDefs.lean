
/- When an entry of the book is right: the words for it. No program in it. -/
import Derived.Test.YtcnnojfkpkmdmaaEntries
import Derived.Test.YtcnnojfkpkmdmaaLines6
namespace Go.Proofs.Ytcnnojfkpkmdmaa
open Go.ChangeShapes Go.WideShapes Go.ChangeAt Go.RowKit
set_option linter.unusedVariables false

def restB (k f l m : Int) (d : List Int) : Bool := decide (k = 0) && (decide (f = 0) && (decide (l = 0) && (decide (m = 0) && decide (d.length = 0))))
def fromB (k f l : Int) : Bool := if k ≤ 2 then betw f 0 3 else decide (f = 5) && !decide (l = 0)
def loadB (k m : Int) (d : List Int) : Bool := if k = 4 then betw m 0 3 && isL d else decide (m = 0) && decide (d.length = 0)
def busyB (k f l m : Int) (d : List Int) : Bool := betw k 1 4 && (betw l 0 4 && (fromB k f l && loadB k m d))
def whoB (o s : Int) : Bool := betw o (-1) 3 && (betw s 0 15 && !(decide (0 ≤ o) && !decide (s = 0)))
def entB (u : EntryD) : Bool := whoB u.1 u.2.1 && (if u.2.2.1 then busyB u.2.2.2.1 u.2.2.2.2.1 u.2.2.2.2.2.1 u.2.2.2.2.2.2.1 u.2.2.2.2.2.2.2 else restB u.2.2.2.1 u.2.2.2.2.1 u.2.2.2.2.2.1 u.2.2.2.2.2.2.1 u.2.2.2.2.2.2.2)
theorem eb {o s : Int} {b : Bool} {k f l m : Int} {d : List Int} : entB (o, s, b, k, f, l, m, d) = (whoB o s && (if b then busyB k f l m d else restB k f l m d)) := rfl
end Go.Proofs.Ytcnnojfkpkmdmaa
