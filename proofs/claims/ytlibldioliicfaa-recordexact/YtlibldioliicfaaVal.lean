import Derived.Test.YtlibldioliicfaaDec8
import Derived.Test.YtlibldioliicfaaEnc5
import Derived.Test.YtlibldioliicfaaSame
namespace Go.Proofs.Ytlibldioliicfaa
open Go.RowKit Go.QK
/-! Values that the first lines of every statement ask for. -/
def rA : RecM := ⟨301, 5, 5, 300, 0, 0, 0, 0, 0, 0, 0, 0, 0, 0, [], [], 0⟩
def rA0 : RecM := ⟨0, 5, 5, 300, 0, 0, 0, 0, 0, 0, 0, 0, 0, 0, [], [], 0⟩
def rP : RecM := ⟨0, 8, 0, 0, 0, 0, 0, 0, 0, 0, 0, 0, 0, 0, [⟨5, 9, false, true⟩], [⟨0, 4⟩], 6⟩
def rZ1 : RecM := ⟨0, 1, 0, 0, 0, 0, 0, 0, 0, 0, 0, 0, 0, 0, [], [], 0⟩
set_option maxRecDepth 100000
theorem vA1 : chkE rA = 0 := by decide +kernel
theorem vA2 : chkE rA0 = 0 := by decide +kernel
theorem vP1 : chkE rP = 0 := by decide +kernel
theorem vZ : chkE zeroR = 70 := by decide +kernel
theorem vZ1 : chkE rZ1 = 23 := by decide +kernel
theorem vA3 : encB rA = [5, 5, 172, 2] := by decide +kernel
theorem vP3 : encB rP = [8, 6, 1, 5, 9, 2, 1, 0, 4] := by decide +kernel
theorem vA4 : decM [5, 5, 172, 2] = (rA0, 0) := by kernel_rfl
theorem vP4 : decM [8, 6, 1, 5, 9, 2, 1, 0, 4] = (rP, 0) := by kernel_rfl
theorem fitsA : Fits rA := by unfold Fits rA; simp
theorem fitsP : Fits rP := by unfold Fits rP; simp
end Go.Proofs.Ytlibldioliicfaa
