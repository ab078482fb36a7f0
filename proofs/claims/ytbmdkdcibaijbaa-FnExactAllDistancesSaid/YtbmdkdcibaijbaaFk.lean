/- A closed fact of the program, reckoned once: it is a great one. -/
import Derived.Test.YtbmdkdcibaijbaaRows
namespace Go.Proofs.Ytbmdkdcibaijbaa

theorem Try.make : Try.checked.prog.make = some .cut := by kernel_rfl

end Go.Proofs.Ytbmdkdcibaijbaa
