/-
  awake, the statements' own: it answers true.
-/
import Derived.Test.YtapfbcpbiagogaaCoeC
namespace Go.Proofs.Ytapfbcpbiagogaa
open Go.RowKit Go.Shelf

def awL10 : List ByteArray := [⟨#[97]⟩, ⟨#[]⟩]
theorem aw_list10 : lstR10 awL10 = .tuple #[.string ⟨#[0, 0, 0, 2, 0, 0, 0, 1, 97, 0, 0, 0, 0]⟩, .int .i64 0] := by kernel_rfl
theorem aw_tl10 : tlV10 ⟨#[0, 0, 0, 2, 0, 0, 0, 1, 97, 0, 0, 0, 0, 120]⟩ 0 = (awL10, 13, 0) := by kernel_rfl
theorem aw_tn10 : tnR10 ⟨#[120, 0, 0, 1, 2]⟩ 1 = .tuple #[.int .i64 258, .agg #[.string ⟨#[120, 0, 0, 1, 2]⟩, .int .i64 5], .int .i64 0] := by kernel_rfl
theorem aw_tt10 : ttR10 ⟨#[0, 0, 0, 1]⟩ 0 = .tuple #[.string ⟨#[]⟩, .agg #[.string ⟨#[0, 0, 0, 1]⟩, .int .i64 0], .int .i64 10] := by kernel_rfl
theorem aw_num10 : numR10 (-1) = .tuple #[.string ⟨#[]⟩, .int .i64 1] := by kernel_rfl
theorem aw_end10 : endV10 ⟨#[0, 0, 0, 2, 0, 0, 0, 1, 97, 0, 0, 0, 0, 120]⟩ 13 = 13 := by kernel_rfl
theorem aw_in10 {W : World} {g : Nat} (h : Is W g 9 #[.string ⟨#[97]⟩, .string ⟨#[]⟩]) : InV W (some ⟨g, 0, none⟩) (tL10 awL10) := fun j u hj => ⟨g, 0, rfl, h.lt, by
  rw [Nat.zero_add, h.cell]
  match j, hj with
  | 0, hj => exact hj
  | 1, hj => exact hj⟩

end Go.Proofs.Ytapfbcpbiagogaa
