/-
  Package repute: what acts make of a book (lists alone).
-/
import Derived.Test.YtdcogjlcbdkdcaaDoorRepLive
import Derived.Test.YtdcogjlcbdkdcaaDoorRepActs
namespace Go.Proofs.YtdcogjlcbdkdcaaDoor
open Go.RowKit
set_option linter.unusedVariables false
set_option linter.unusedSimpArgs false

def act3 (lim rst : Int) (n : Nat) (us : List Up) (a : A3) : List Up :=
  if a.1 = 0 then upd us a.2.1 (agreeUp lim) else if a.1 = 1 then dissentL lim rst n a.2.1 a.2.2 us else if a.1 = 2 then upd us a.2.1 (silentUp lim)
  else if a.1 = 3 then us.map (backOne lim a.2.2) else us
def acts3 (lim rst : Int) (n : Nat) (us : List Up) (l : List A3) : List Up := l.foldl (act3 lim rst n) us
theorem acts3_snoc {lim rst : Int} {n : Nat} {us : List Up} {l : List A3} {k : Nat} {a : A3} (h : l[k]? = some a) : acts3 lim rst n us (l.take (k + 1)) = act3 lim rst n (acts3 lim rst n us (l.take k)) a := by
  unfold acts3
  rw [List.take_add_one, h, List.foldl_append]
  rfl

end Go.Proofs.YtdcogjlcbdkdcaaDoor
