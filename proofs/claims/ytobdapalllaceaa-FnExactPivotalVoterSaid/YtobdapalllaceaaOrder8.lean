/- The walk of the test of an order, up to eight numbers. -/
import Derived.Test.YtobdapalllaceaaPermQ
import Derived.Test.YtobdapalllaceaaDiff
namespace Go.Proofs.Ytobdapalllaceaa.order8
open Go.RowKit own pp nums has permp
set_option linter.unusedVariables false
set_option linter.unusedSimpArgs false

theorem infoBool : (Try.prog.info? 4).map (fun i => (i.zero, i.size, i.bytes)) = some (some (.bool false), 1, 1) := by kernel_rfl
theorem order_len_w (n : Nat) (a' : Option Addr) (to : List Int) (c' : Nat) (w : World) (h4 : n ≤ 8) (hl : to.length ≠ n) :
    Calls Try.prog 64 #[.slice a' to.length c', .int .i64 n] w (RetB false w) := diffw.order_len_w n a' to c' w h4 hl
theorem order_any (n : Nat) (a' : Option Addr) (to : List Int) (c' : Nat) (w : World) (hq : ints.Reads .i64 w a' to) (h4 : n ≤ 8) (ok : Bool) (h : Hid (orderB n to = ok)) :
    Calls Try.prog 64 #[.slice a' to.length c', .int .i64 n] w (RetB ok w) := diffw.order_any n a' to c' w hq h4 ok h
end Go.Proofs.Ytobdapalllaceaa.order8
