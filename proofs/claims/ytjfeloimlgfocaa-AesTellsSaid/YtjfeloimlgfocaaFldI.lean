/-
  Plain facts on layer 3: what undoes a byte, what stands for it, what undoes that. Nothing of the program stands here.
-/
import Derived.Test.YtjfeloimlgfocaaFldP
namespace Go.Proofs.Ytjfeloimlgfocaa

def TI : List Nat := [0, 1, 141, 246, 203, 82, 123, 209, 232, 79, 41, 192, 176, 225, 229, 199, 116, 180, 170, 75, 153, 43, 96, 95, 88, 63, 253, 204, 255, 64, 238, 178, 58, 110, 90, 241, 85, 77, 168, 201, 193, 10, 152, 21, 48, 68, 162, 194, 44, 69, 146, 108, 243, 57, 102, 66, 242, 53, 32, 111, 119, 187, 89, 25, 29, 254, 55, 103, 45, 49, 245, 105, 167, 100, 171, 19, 84, 37, 233, 9, 237, 92, 5, 202, 76, 36, 135, 191, 24, 62, 34, 240, 81, 236, 97, 23, 22, 94, 175, 211, 73, 166, 54, 67, 244, 71, 145, 223, 51, 147, 33, 59, 121, 183, 151, 133, 16, 181, 186, 60, 182, 112, 208, 6, 161, 250, 129, 130, 131, 126, 127, 128, 150, 115, 190, 86, 155, 158, 149, 217, 247, 2, 185, 164, 222, 106, 50, 109, 216, 138, 132, 114, 42, 20, 159, 136, 249, 220, 137, 154, 251, 124, 46, 195, 143, 184, 101, 72, 38, 200, 18, 74, 206, 231, 210, 98, 12, 224, 31, 239, 17, 117, 120, 113, 165, 142, 118, 61, 189, 188, 134, 87, 11, 40, 47, 163, 218, 212, 228, 15, 169, 39, 83, 4, 27, 252, 172, 230, 122, 7, 174, 99, 197, 219, 226, 234, 148, 139, 196, 213, 157, 248, 144, 107, 177, 13, 214, 235, 198, 14, 207, 173, 8, 78, 215, 227, 93, 80, 30, 179, 91, 35, 56, 52, 104, 70, 3, 140, 221, 156, 125, 160, 205, 26, 65, 28]
def TS : List Nat := [99, 124, 119, 123, 242, 107, 111, 197, 48, 1, 103, 43, 254, 215, 171, 118, 202, 130, 201, 125, 250, 89, 71, 240, 173, 212, 162, 175, 156, 164, 114, 192, 183, 253, 147, 38, 54, 63, 247, 204, 52, 165, 229, 241, 113, 216, 49, 21, 4, 199, 35, 195, 24, 150, 5, 154, 7, 18, 128, 226, 235, 39, 178, 117, 9, 131, 44, 26, 27, 110, 90, 160, 82, 59, 214, 179, 41, 227, 47, 132, 83, 209, 0, 237, 32, 252, 177, 91, 106, 203, 190, 57, 74, 76, 88, 207, 208, 239, 170, 251, 67, 77, 51, 133, 69, 249, 2, 127, 80, 60, 159, 168, 81, 163, 64, 143, 146, 157, 56, 245, 188, 182, 218, 33, 16, 255, 243, 210, 205, 12, 19, 236, 95, 151, 68, 23, 196, 167, 126, 61, 100, 93, 25, 115, 96, 129, 79, 220, 34, 42, 144, 136, 70, 238, 184, 20, 222, 94, 11, 219, 224, 50, 58, 10, 73, 6, 36, 92, 194, 211, 172, 98, 145, 149, 228, 121, 231, 200, 55, 109, 141, 213, 78, 169, 108, 86, 244, 234, 101, 122, 174, 8, 186, 120, 37, 46, 28, 166, 180, 198, 232, 221, 116, 31, 75, 189, 139, 138, 112, 62, 181, 102, 72, 3, 246, 14, 97, 53, 87, 185, 134, 193, 29, 158, 225, 248, 152, 17, 105, 217, 142, 148, 155, 30, 135, 233, 206, 85, 40, 223, 140, 161, 137, 13, 191, 230, 66, 104, 65, 153, 45, 15, 176, 84, 187, 22]
def TB : List Nat := [82, 9, 106, 213, 48, 54, 165, 56, 191, 64, 163, 158, 129, 243, 215, 251, 124, 227, 57, 130, 155, 47, 255, 135, 52, 142, 67, 68, 196, 222, 233, 203, 84, 123, 148, 50, 166, 194, 35, 61, 238, 76, 149, 11, 66, 250, 195, 78, 8, 46, 161, 102, 40, 217, 36, 178, 118, 91, 162, 73, 109, 139, 209, 37, 114, 248, 246, 100, 134, 104, 152, 22, 212, 164, 92, 204, 93, 101, 182, 146, 108, 112, 72, 80, 253, 237, 185, 218, 94, 21, 70, 87, 167, 141, 157, 132, 144, 216, 171, 0, 140, 188, 211, 10, 247, 228, 88, 5, 184, 179, 69, 6, 208, 44, 30, 143, 202, 63, 15, 2, 193, 175, 189, 3, 1, 19, 138, 107, 58, 145, 17, 65, 79, 103, 220, 234, 151, 242, 207, 206, 240, 180, 230, 115, 150, 172, 116, 34, 231, 173, 53, 133, 226, 249, 55, 232, 28, 117, 223, 110, 71, 241, 26, 113, 29, 41, 197, 137, 111, 183, 98, 14, 170, 24, 190, 27, 252, 86, 62, 75, 198, 210, 121, 32, 154, 219, 192, 254, 120, 205, 90, 244, 31, 221, 168, 51, 136, 7, 199, 49, 177, 18, 16, 89, 39, 128, 236, 95, 96, 81, 127, 169, 25, 181, 74, 13, 45, 229, 122, 159, 147, 201, 156, 239, 160, 224, 59, 77, 174, 42, 245, 176, 200, 235, 187, 60, 131, 83, 153, 97, 23, 43, 4, 126, 186, 119, 214, 38, 225, 105, 20, 99, 85, 33, 12, 125]
/-- what undoes a byte; what stands for it; what undoes that. -/
def invN (a : Nat) : Nat := TI.getD a 0
def subN (a : Nat) : Nat := TS.getD a 0
def backN (a : Nat) : Nat := TB.getD a 0
theorem inv_all : all1 (fun a => decide (invN a < 256) && decide (subN a < 256) && decide (backN a < 256) && (mulN a (invN a) == if a == 0 then 0 else 1) && (invN (invN a) == a) && (backN (subN a) == a) && (subN (backN a) == a) && (subN a != a) && ((subN a ^^^ a) != 255)) = true := by kernel_rfl
structure InvAt (a : Nat) : Prop where
  i : invN a < 256
  s : subN a < 256
  b : backN a < 256
  m : mulN a (invN a) = if a = 0 then 0 else 1
  ii : invN (invN a) = a
  bs : backN (subN a) = a
  sb : subN (backN a) = a
  n : subN a ≠ a
  n2 : subN a ^^^ a ≠ 255
theorem inv_at {a : Nat} (ha : a < 256) : InvAt a := by
  have := all1_of inv_all ha
  simp only [Bool.and_eq_true, beq_iff_eq, bne_iff_ne, decide_eq_true_eq] at this
  obtain ⟨⟨⟨⟨⟨⟨⟨⟨h1, h2⟩, h3⟩, h4⟩, h5⟩, h6⟩, h7⟩, h8⟩, h9⟩ := this
  exact ⟨h1, h2, h3, h4, h5, h6, h7, h8, h9⟩
/-- just one byte undoes another one. -/
theorem inv_one {a b : Nat} (ha : a < 256) (hb : b < 256) (h : mulN a b = 1) : b = invN a := by
  have h0 : a ≠ 0 := by
    rintro rfl
    rw [mulN_comm (by decide) hb, mulN_zero] at h
    cases h
  have hi := inv_at ha
  have hm := hi.m
  rw [if_neg h0] at hm
  have e : mulN (mulN (invN a) a) b = mulN (invN a) (mulN a b) := mulN_assoc hi.i ha hb
  rw [mulN_comm hi.i ha, hm, h, mulN_one, mulN_comm (by decide) hb, mulN_one] at e
  exact e
theorem back_one {a b : Nat} (hb : b < 256) (h : subN b = a) : b = backN a := by
  rw [← h]; exact (inv_at hb).bs.symm
/-- a byte bent: each bit the exclusive or of five, and one of 99. -/
def bitX (b i : Nat) : Nat := (b / 2 ^ i ^^^ b / 2 ^ ((i + 4) % 8) ^^^ b / 2 ^ ((i + 5) % 8) ^^^ b / 2 ^ ((i + 6) % 8) ^^^ b / 2 ^ ((i + 7) % 8) ^^^ 99 / 2 ^ i) % 2
def bentN (b : Nat) : Nat := bitX b 0 + 2 * bitX b 1 + 4 * bitX b 2 + 8 * bitX b 3 + 16 * bitX b 4 + 32 * bitX b 5 + 64 * bitX b 6 + 128 * bitX b 7
theorem bent_all : all1 (fun a => bentN (invN a) == subN a) = true := by kernel_rfl
theorem bent_inv {a : Nat} (ha : a < 256) : bentN (invN a) = subN a := by simpa using all1_of bent_all ha
/-- what stands for a byte, but for 99, is linear in what undoes it. -/
def linS (i : Nat) : Nat := bentN i ^^^ 99
theorem linS_bits : all1 (fun x => linS x == (pick1 (x.testBit 0) (linS 1) ^^^ pick1 (x.testBit 1) (linS 2) ^^^ pick1 (x.testBit 2) (linS 4) ^^^ pick1 (x.testBit 3) (linS 8) ^^^ pick1 (x.testBit 4) (linS 16) ^^^ pick1 (x.testBit 5) (linS 32) ^^^ pick1 (x.testBit 6) (linS 64) ^^^ pick1 (x.testBit 7) (linS 128))) = true := by kernel_rfl
theorem linS_xor {a b : Nat} (ha : a < 256) (hb : b < 256) : linS (a ^^^ b) = linS a ^^^ linS b := by
  have h1 := all1_of linS_bits ha
  have h2 := all1_of linS_bits hb
  have h3 := all1_of linS_bits (xor_lt ha hb)
  simp only [beq_iff_eq] at h1 h2 h3
  rw [h1, h2, h3]
  simp only [Nat.testBit_xor, pick1_xor]
  ac_rfl
theorem sub_shift {a b : Nat} (ha : a < 256) (hb : b < 256) : subN (invN (invN a ^^^ invN b)) = subN a ^^^ subN b ^^^ subN 0 := by
  have ia := (inv_at ha).i
  have ib := (inv_at hb).i
  have hx := xor_lt ia ib
  have ic := (inv_at hx).i
  rw [← bent_inv ic, (inv_at hx).ii, ← bent_inv ha, ← bent_inv hb]
  have h := linS_xor ia ib
  unfold linS at h
  have h0 : subN 0 = 99 := rfl
  rw [h0]
  have e : bentN (invN a ^^^ invN b) = (bentN (invN a ^^^ invN b) ^^^ 99) ^^^ 99 := by rw [Nat.xor_assoc, Nat.xor_self, Nat.xor_zero]
  rw [e, h]
  have e2 : bentN (invN a) ^^^ 99 ^^^ (bentN (invN b) ^^^ 99) ^^^ 99 = (bentN (invN a) ^^^ bentN (invN b) ^^^ 99) ^^^ (99 ^^^ 99) := by ac_rfl
  rw [e2, Nat.xor_self, Nat.xor_zero]
end Go.Proofs.Ytjfeloimlgfocaa
