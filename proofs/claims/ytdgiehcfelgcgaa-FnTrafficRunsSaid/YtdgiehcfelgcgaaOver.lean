/- Three facts of the program that every row of a plain seat wants, once for all (each costs some 40 seconds and 5 GB). -/
import Derived.Test.YtdgiehcfelgcgaaProg
import Derived.WalkKit
import Derived.ProofKit
namespace Go.Proofs.Ytdgiehcfelgcgaa
theorem ov_may : Try.prog.mayEnter = true := by kernel_rfl
theorem ov_lift : Try.prog.liftsFinal = false := by kernel_rfl
theorem ov_make : Try.prog.make = some .cut := by kernel_rfl
end Go.Proofs.Ytdgiehcfelgcgaa
