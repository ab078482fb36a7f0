/- A closed fact of the program, reckoned once: it is a great one. -/
import Derived.Test.YtbmdkdcibaijbaaRows
namespace Go.Proofs.Ytbmdkdcibaijbaa

theorem Try.mayEnter : Try.checked.prog.mayEnter = true := by kernel_rfl

end Go.Proofs.Ytbmdkdcibaijbaa
