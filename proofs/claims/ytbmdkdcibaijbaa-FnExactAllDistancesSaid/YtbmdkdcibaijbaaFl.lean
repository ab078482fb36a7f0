/- A closed fact of the program, reckoned once: it is a great one. -/
import Derived.Test.YtbmdkdcibaijbaaRows
namespace Go.Proofs.Ytbmdkdcibaijbaa

theorem Try.liftsFinal : Try.checked.prog.liftsFinal = false := by kernel_rfl

end Go.Proofs.Ytbmdkdcibaijbaa
