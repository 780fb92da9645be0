/- The list of a set's places: plain, no condition. -/
import Derived.Test.YtncidajjeccbkaaBitN
import Derived.Test.YtncidajjeccbkaaWhere
import Derived.Test.YtncidajjeccbkaaBits8
namespace Go.Proofs.Ytncidajjeccbkaa.edge
open Go.RowKit own pp nums bitn mk
set_option linter.unusedVariables false
set_option linter.unusedSimpArgs false

/-- The voters of a set. -/
def bitsL (n k : Nat) : List Int := pwh.placesTo (fun i => dg k i == 1) n
theorem bits_len (n k : Nat) : (bitsL n k).length ≤ n := pwh.placesTo_length _ _
theorem bits_digit (k n i : Nat) (h : i < n) : (bitw.bitsTo k n).getD i 0 = ((k / 2 ^ i % 2 : Nat) : Int) := by simp [bitw.bitsTo, List.getD_eq_getElem?_getD, h]
end Go.Proofs.Ytncidajjeccbkaa.edge
