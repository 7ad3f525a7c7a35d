/-
  Layer 12, plain: what the chapter's example comes to.
-/
import Derived.Test.YtglcckpkbnppoaaBuzA
namespace Go.Proofs.Ytglcckpkbnppoaa
open Go.RowKit Go.Shelf

def exA12 : ByteArray := nulN10 16
def exB12 : ByteArray := ⟨#[0, 0, 0, 8]⟩ ++ nulN10 12
def exS0 : Sto12 := ⟨new12 8, 0, 0⟩
def exS1 : Sto12 := ⟨(new12 8).set 0 ⟨1, exA12, cell12 1⟩, 1, 0⟩
def exS2 : Sto12 := ⟨exS1.B.set 1 ⟨1, exB12, cell12 2⟩, 2, 0⟩
def exS3 : Sto12 := ⟨exS2.B.set 0 gon12, 1, 1⟩
theorem ex_new : newV12 8 = (exS0, 0) := by kernel_rfl
theorem ex_new9 : newV12 9 = (⟨[], 0, 0⟩, 1) := by kernel_rfl
theorem ex_put1 : putV12 exS0 exA12 (cell12 1) = (exS1, 0) := by kernel_rfl
theorem ex_put2 : putV12 exS1 exB12 (cell12 2) = (exS2, 0) := by kernel_rfl
theorem ex_put3 : putV12 exS0 ⟨#[97]⟩ (cell12 1) = (exS0, 1) := by kernel_rfl
theorem ex_get2 : getV12 exS2 exB12 = (cell12 2, true) := by kernel_rfl
theorem ex_del : delV12 exS2 exA12 = (exS3, true, 0) := by kernel_rfl
theorem ex_get3 : getV12 exS3 exA12 = (⟨#[]⟩, false) := by kernel_rfl
theorem ex_right : right12 exS3 = true := by kernel_rfl
theorem ex_home : homV12 exB12 8 = 0 := by kernel_rfl
theorem ex_all : all12 exS3.B = [(exB12, cell12 2)] := by kernel_rfl
theorem ex_len : exS2.B.length = 8 := by kernel_rfl
theorem ex_at : exS2.B[1]? = some ⟨1, exB12, cell12 2⟩ := by kernel_rfl
end Go.Proofs.Ytglcckpkbnppoaa
