/-
  The chapter's two examples, reckoned by the kernel: the first bytes of the sums of no bytes and of three.
-/
import Derived.Test.YtcpkkicpkmjagaaDoorDigY
import Derived.KernelRfl
namespace Go.Proofs.YtcpkkicpkmjagaaDoor

theorem ex_empty : (endS (addH Hs0 ⟨#[]⟩)).data.toList.take 6 = [227, 176, 196, 66, 152, 252] := by kernel_rfl
theorem ex_abc : (endS (addH Hs0 ⟨#[97, 98, 99]⟩)).data.toList.take 6 = [186, 120, 22, 191, 143, 1] := by kernel_rfl
end Go.Proofs.YtcpkkicpkmjagaaDoor
