/-
  A text of which one byte is another one. Nothing of the program stands here.
-/
import Derived.Test.YtjfeloimlgfocaaAesN
namespace Go.Proofs.Ytjfeloimlgfocaa
open Go.RowKit Go.Shelf

def btN (s : ByteArray) (j : Nat) : Nat := (natL s).getD j 0
theorem btN_get {s : ByteArray} {j : Nat} (h : j < s.size) : (s[j].toNat : Int) = (btN s j : Int) := by
  have : (natL s)[j]? = some s[j].toNat := by
    rw [natL, List.getElem?_map, Array.getElem?_toList]
    rw [show s.data[j]? = some s[j] from Array.getElem?_eq_getElem h]
    rfl
  rw [btN, List.getD_eq_getElem?_getD, this]
  rfl
theorem btN_lt (s : ByteArray) (j : Nat) : btN s j < 256 := by
  rw [btN, List.getD_eq_getElem?_getD]
  cases h : (natL s)[j]? with
  | none => exact (by decide : (0 : Nat) < 256)
  | some v => exact natL_lt s v (List.mem_of_getElem? h)
def flipN (X : ByteArray) (K z : Nat) : ByteArray := X.extract 0 K ++ strN [z] ++ X.extract (K + 1) X.size
theorem flipN_size (X : ByteArray) (K z : Nat) (h : K < X.size) : (flipN X K z).size = X.size := by
  simp only [flipN, ByteArray.size_append, ByteArray.size_extract, strN_size, List.length_singleton]; omega
theorem flipN_at (X : ByteArray) (K z : Nat) (h : K < X.size) (hz : z < 256) : btN (flipN X K z) K = z := by
  have e : natL (flipN X K z) = (natL X).take K ++ [z] ++ natL (X.extract (K + 1) X.size) := by
    have happ : ∀ a b : ByteArray, natL (a ++ b) = natL a ++ natL b := fun a b => by simp [natL]
    rw [flipN, happ, happ, natL_extract, List.drop_zero, Nat.sub_zero, strN_nat (fun x hx => by rw [List.mem_singleton] at hx; omega)]
  have hl : ((natL X).take K).length = K := by rw [List.length_take, natL_len]; omega
  rw [btN, e, List.append_assoc, List.getD_eq_getElem?_getD, List.getElem?_append_right (by omega), hl, Nat.sub_self]
  rfl
theorem flipN_ne (X : ByteArray) (K z : Nat) (h : K < X.size) (hz : z < 256) (hne : z ≠ btN X K) : X ≠ flipN X K z := by
  intro e
  have := flipN_at X K z h hz
  rw [← e] at this
  exact hne this.symm
theorem xorN_ne {a q : Nat} (h : q ≠ 0) : a ^^^ q ≠ a := fun e => by
  have e2 : a ^^^ (a ^^^ q) = a ^^^ a := by rw [e]
  rw [← Nat.xor_assoc, Nat.xor_self, Nat.zero_xor] at e2
  exact h e2
theorem neL {U E : ByteArray} (h : U ≠ E) : ¬ U.toList = E.toList := fun e => h (by
  rw [ByteArray.toList_eq, ByteArray.toList_eq] at e
  cases U; cases E
  exact congrArg ByteArray.mk (Array.toList_inj.1 e))
theorem beqL {U E : ByteArray} (h : U ≠ E) : (U.toList == E.toList) = false := by simpa using neL h
end Go.Proofs.Ytjfeloimlgfocaa
