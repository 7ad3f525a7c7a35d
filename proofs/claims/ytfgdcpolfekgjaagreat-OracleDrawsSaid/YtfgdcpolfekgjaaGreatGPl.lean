/-
  Which of n things a raw number speaks of: the plain function. Nothing of the program stands here.
  Plain facts on layer 3: products of bytes as sums of powers. Nothing of the program stands here.
  Plain facts on layer 3: columns of four bytes, mixed. Nothing of the program stands here.
  Plain facts on layer 3: what undoes a byte, what stands for it, what undoes that. Nothing of the program stands here.
  Plain facts on layer 4: blocks of sixteen bytes, rounds and what undoes them. Nothing of the program stands here.
  Plain facts on layer 4: the words of a key, expanded. Nothing of the program stands here.
  Plain facts on layer 5: counters as numbers, blocks of keys, texts put together with them. Nothing of the program stands here.
  Chapter 4's example, reckoned in steps. Nothing of the program stands here.
-/
import Derived.WalkKit
import Derived.KernelRfl
namespace Go.Proofs.YtfgdcpolfekgjaaGreat

/-- which of n things a raw number speaks of. -/
def pickN (c n : Int) : Int := (if c < 0 then -(c + 1) else c) % n
theorem pickN_bd (c n : Int) (hn : 0 < n) : 0 ≤ pickN c n ∧ pickN c n < n := ⟨Int.emod_nonneg _ (by omega), Int.emod_lt_of_pos _ hn⟩
end Go.Proofs.YtfgdcpolfekgjaaGreat
namespace Go.Proofs.YtfgdcpolfekgjaaGreat

/-- a byte times x. -/
def xt (x : Nat) : Nat := if 128 ≤ x then (x * 2 % 256) ^^^ 27 else x * 2 % 256
def pick1 (b : Bool) (x : Nat) : Nat := if b then x else 0
/-- the product of two bytes: bit by bit. -/
def mulN (a b : Nat) : Nat :=
  pick1 (b.testBit 0) a ^^^ pick1 (b.testBit 1) (xt a) ^^^ pick1 (b.testBit 2) (xt (xt a)) ^^^ pick1 (b.testBit 3) (xt (xt (xt a))) ^^^
  pick1 (b.testBit 4) (xt (xt (xt (xt a)))) ^^^ pick1 (b.testBit 5) (xt (xt (xt (xt (xt a))))) ^^^ pick1 (b.testBit 6) (xt (xt (xt (xt (xt (xt a)))))) ^^^ pick1 (b.testBit 7) (xt (xt (xt (xt (xt (xt (xt a)))))))

/-- for all bytes. -/
def all1 (p : Nat → Bool) : Bool := (List.range 256).all p
theorem all1_of {p : Nat → Bool} (h : all1 p = true) {a : Nat} (ha : a < 256) : p a = true := List.all_eq_true.1 h a (List.mem_range.2 ha)
theorem xor_lt {a b : Nat} (ha : a < 256) (hb : b < 256) : a ^^^ b < 256 := Nat.xor_lt_two_pow (n := 8) ha hb
theorem xt_lt {a : Nat} (_ : a < 256) : xt a < 256 := by
  unfold xt
  split
  · exact xor_lt (Nat.mod_lt _ (by decide)) (by decide)
  · exact Nat.mod_lt _ (by decide)
theorem pick1_lt {p : Bool} {x : Nat} (h : x < 256) : pick1 p x < 256 := by
  cases p
  · show 0 < 256
    decide
  · exact h
theorem mulN_lt {a b : Nat} (ha : a < 256) : mulN a b < 256 := by
  have h1 := xt_lt ha
  have h2 := xt_lt h1
  have h3 := xt_lt h2
  have h4 := xt_lt h3
  have h5 := xt_lt h4
  have h6 := xt_lt h5
  have h7 := xt_lt h6
  exact xor_lt (xor_lt (xor_lt (xor_lt (xor_lt (xor_lt (xor_lt (pick1_lt ha) (pick1_lt h1)) (pick1_lt h2)) (pick1_lt h3)) (pick1_lt h4)) (pick1_lt h5)) (pick1_lt h6)) (pick1_lt h7)
/-- what is linear is told by the eight powers of 2. -/
structure Lin (f : Nat → Nat) : Prop where
  zero : f 0 = 0
  add : ∀ a b, a < 256 → b < 256 → f (a ^^^ b) = f a ^^^ f b
def bitsOf (x : Nat) : Nat := (x &&& 1) ^^^ (x &&& 2) ^^^ (x &&& 4) ^^^ (x &&& 8) ^^^ (x &&& 16) ^^^ (x &&& 32) ^^^ (x &&& 64) ^^^ (x &&& 128)
theorem bitsOf_all : all1 (fun x => bitsOf x == x && ((x &&& 1 == 0 || x &&& 1 == 1) && (x &&& 2 == 0 || x &&& 2 == 2) && (x &&& 4 == 0 || x &&& 4 == 4) && (x &&& 8 == 0 || x &&& 8 == 8) && (x &&& 16 == 0 || x &&& 16 == 16) && (x &&& 32 == 0 || x &&& 32 == 32) && (x &&& 64 == 0 || x &&& 64 == 64) && (x &&& 128 == 0 || x &&& 128 == 128))) = true := by kernel_rfl
theorem Lin.ext {f g : Nat → Nat} (hf : Lin f) (hg : Lin g) (h1 : f 1 = g 1) (h2 : f 2 = g 2) (h4 : f 4 = g 4) (h8 : f 8 = g 8) (h16 : f 16 = g 16) (h32 : f 32 = g 32) (h64 : f 64 = g 64) (h128 : f 128 = g 128)
    {x : Nat} (hx : x < 256) : f x = g x := by
  have h := all1_of bitsOf_all hx
  simp only [Bool.and_eq_true, Bool.or_eq_true, beq_iff_eq] at h
  obtain ⟨he, ⟨⟨⟨⟨⟨⟨⟨c1, c2⟩, c4⟩, c8⟩, c16⟩, c32⟩, c64⟩, c128⟩⟩ := h
  rw [← he]
  unfold bitsOf
  have z := hf.zero
  have z' := hg.zero
  have k1 : f (x &&& 1) = g (x &&& 1) ∧ (x &&& 1) < 256 := by rcases c1 with e | e <;> rw [e] <;> simp_all
  have k2 : f (x &&& 2) = g (x &&& 2) ∧ (x &&& 2) < 256 := by rcases c2 with e | e <;> rw [e] <;> simp_all
  have k4 : f (x &&& 4) = g (x &&& 4) ∧ (x &&& 4) < 256 := by rcases c4 with e | e <;> rw [e] <;> simp_all
  have k8 : f (x &&& 8) = g (x &&& 8) ∧ (x &&& 8) < 256 := by rcases c8 with e | e <;> rw [e] <;> simp_all
  have k16 : f (x &&& 16) = g (x &&& 16) ∧ (x &&& 16) < 256 := by rcases c16 with e | e <;> rw [e] <;> simp_all
  have k32 : f (x &&& 32) = g (x &&& 32) ∧ (x &&& 32) < 256 := by rcases c32 with e | e <;> rw [e] <;> simp_all
  have k64 : f (x &&& 64) = g (x &&& 64) ∧ (x &&& 64) < 256 := by rcases c64 with e | e <;> rw [e] <;> simp_all
  have k128 : f (x &&& 128) = g (x &&& 128) ∧ (x &&& 128) < 256 := by rcases c128 with e | e <;> rw [e] <;> simp_all
  generalize x &&& 1 = x1 at *
  generalize x &&& 2 = x2 at *
  generalize x &&& 4 = x4 at *
  generalize x &&& 8 = x8 at *
  generalize x &&& 16 = x16 at *
  generalize x &&& 32 = x32 at *
  generalize x &&& 64 = x64 at *
  generalize x &&& 128 = x128 at *
  have l2 := xor_lt k1.2 k2.2
  have l4 := xor_lt l2 k4.2
  have l8 := xor_lt l4 k8.2
  have l16 := xor_lt l8 k16.2
  have l32 := xor_lt l16 k32.2
  have l64 := xor_lt l32 k64.2
  rw [hf.add _ _ l64 k128.2, hf.add _ _ l32 k64.2, hf.add _ _ l16 k32.2, hf.add _ _ l8 k16.2, hf.add _ _ l4 k8.2, hf.add _ _ l2 k4.2, hf.add _ _ k1.2 k2.2,
    hg.add _ _ l64 k128.2, hg.add _ _ l32 k64.2, hg.add _ _ l16 k32.2, hg.add _ _ l8 k16.2, hg.add _ _ l4 k8.2, hg.add _ _ l2 k4.2, hg.add _ _ k1.2 k2.2,
    k1.1, k2.1, k4.1, k8.1, k16.1, k32.1, k64.1, k128.1]
theorem Lin.xor {f g : Nat → Nat} (hf : Lin f) (hg : Lin g) : Lin (fun x => f x ^^^ g x) :=
  ⟨by show f 0 ^^^ g 0 = 0; rw [hf.zero, hg.zero]; rfl, fun a b ha hb => by show f (a ^^^ b) ^^^ g (a ^^^ b) = _; rw [hf.add a b ha hb, hg.add a b ha hb]; ac_rfl⟩
def P8 : List Nat := [1, 2, 4, 8, 16, 32, 64, 128]
theorem Lin.same {f g : Nat → Nat} (hf : Lin f) (hg : Lin g) (h : ∀ p ∈ P8, f p = g p) {x : Nat} (hx : x < 256) : f x = g x :=
  hf.ext hg (h 1 (by decide)) (h 2 (by decide)) (h 4 (by decide)) (h 8 (by decide)) (h 16 (by decide)) (h 32 (by decide)) (h 64 (by decide)) (h 128 (by decide)) hx
end Go.Proofs.YtfgdcpolfekgjaaGreat
namespace Go.Proofs.YtfgdcpolfekgjaaGreat

/-- four bytes. -/
structure C4 where
  a : Nat
  b : Nat
  c : Nat
  d : Nat
structure C4.Ok (x : C4) : Prop where
  a : x.a < 256
  b : x.b < 256
  c : x.c < 256
  d : x.d < 256
def mixC (x : C4) : C4 :=
  ⟨mulN 2 x.a ^^^ mulN 3 x.b ^^^ x.c ^^^ x.d, mulN 2 x.b ^^^ mulN 3 x.c ^^^ x.d ^^^ x.a, mulN 2 x.c ^^^ mulN 3 x.d ^^^ x.a ^^^ x.b, mulN 2 x.d ^^^ mulN 3 x.a ^^^ x.b ^^^ x.c⟩
theorem mixC_ok {x : C4} (h : x.Ok) : (mixC x).Ok :=
  ⟨xor_lt (xor_lt (xor_lt (mulN_lt (by decide)) (mulN_lt (by decide))) h.c) h.d, xor_lt (xor_lt (xor_lt (mulN_lt (by decide)) (mulN_lt (by decide))) h.d) h.a,
   xor_lt (xor_lt (xor_lt (mulN_lt (by decide)) (mulN_lt (by decide))) h.a) h.b, xor_lt (xor_lt (xor_lt (mulN_lt (by decide)) (mulN_lt (by decide))) h.b) h.c⟩
end Go.Proofs.YtfgdcpolfekgjaaGreat
namespace Go.Proofs.YtfgdcpolfekgjaaGreat

def TI : List Nat := [0, 1, 141, 246, 203, 82, 123, 209, 232, 79, 41, 192, 176, 225, 229, 199, 116, 180, 170, 75, 153, 43, 96, 95, 88, 63, 253, 204, 255, 64, 238, 178, 58, 110, 90, 241, 85, 77, 168, 201, 193, 10, 152, 21, 48, 68, 162, 194, 44, 69, 146, 108, 243, 57, 102, 66, 242, 53, 32, 111, 119, 187, 89, 25, 29, 254, 55, 103, 45, 49, 245, 105, 167, 100, 171, 19, 84, 37, 233, 9, 237, 92, 5, 202, 76, 36, 135, 191, 24, 62, 34, 240, 81, 236, 97, 23, 22, 94, 175, 211, 73, 166, 54, 67, 244, 71, 145, 223, 51, 147, 33, 59, 121, 183, 151, 133, 16, 181, 186, 60, 182, 112, 208, 6, 161, 250, 129, 130, 131, 126, 127, 128, 150, 115, 190, 86, 155, 158, 149, 217, 247, 2, 185, 164, 222, 106, 50, 109, 216, 138, 132, 114, 42, 20, 159, 136, 249, 220, 137, 154, 251, 124, 46, 195, 143, 184, 101, 72, 38, 200, 18, 74, 206, 231, 210, 98, 12, 224, 31, 239, 17, 117, 120, 113, 165, 142, 118, 61, 189, 188, 134, 87, 11, 40, 47, 163, 218, 212, 228, 15, 169, 39, 83, 4, 27, 252, 172, 230, 122, 7, 174, 99, 197, 219, 226, 234, 148, 139, 196, 213, 157, 248, 144, 107, 177, 13, 214, 235, 198, 14, 207, 173, 8, 78, 215, 227, 93, 80, 30, 179, 91, 35, 56, 52, 104, 70, 3, 140, 221, 156, 125, 160, 205, 26, 65, 28]
def TS : List Nat := [99, 124, 119, 123, 242, 107, 111, 197, 48, 1, 103, 43, 254, 215, 171, 118, 202, 130, 201, 125, 250, 89, 71, 240, 173, 212, 162, 175, 156, 164, 114, 192, 183, 253, 147, 38, 54, 63, 247, 204, 52, 165, 229, 241, 113, 216, 49, 21, 4, 199, 35, 195, 24, 150, 5, 154, 7, 18, 128, 226, 235, 39, 178, 117, 9, 131, 44, 26, 27, 110, 90, 160, 82, 59, 214, 179, 41, 227, 47, 132, 83, 209, 0, 237, 32, 252, 177, 91, 106, 203, 190, 57, 74, 76, 88, 207, 208, 239, 170, 251, 67, 77, 51, 133, 69, 249, 2, 127, 80, 60, 159, 168, 81, 163, 64, 143, 146, 157, 56, 245, 188, 182, 218, 33, 16, 255, 243, 210, 205, 12, 19, 236, 95, 151, 68, 23, 196, 167, 126, 61, 100, 93, 25, 115, 96, 129, 79, 220, 34, 42, 144, 136, 70, 238, 184, 20, 222, 94, 11, 219, 224, 50, 58, 10, 73, 6, 36, 92, 194, 211, 172, 98, 145, 149, 228, 121, 231, 200, 55, 109, 141, 213, 78, 169, 108, 86, 244, 234, 101, 122, 174, 8, 186, 120, 37, 46, 28, 166, 180, 198, 232, 221, 116, 31, 75, 189, 139, 138, 112, 62, 181, 102, 72, 3, 246, 14, 97, 53, 87, 185, 134, 193, 29, 158, 225, 248, 152, 17, 105, 217, 142, 148, 155, 30, 135, 233, 206, 85, 40, 223, 140, 161, 137, 13, 191, 230, 66, 104, 65, 153, 45, 15, 176, 84, 187, 22]
def TB : List Nat := [82, 9, 106, 213, 48, 54, 165, 56, 191, 64, 163, 158, 129, 243, 215, 251, 124, 227, 57, 130, 155, 47, 255, 135, 52, 142, 67, 68, 196, 222, 233, 203, 84, 123, 148, 50, 166, 194, 35, 61, 238, 76, 149, 11, 66, 250, 195, 78, 8, 46, 161, 102, 40, 217, 36, 178, 118, 91, 162, 73, 109, 139, 209, 37, 114, 248, 246, 100, 134, 104, 152, 22, 212, 164, 92, 204, 93, 101, 182, 146, 108, 112, 72, 80, 253, 237, 185, 218, 94, 21, 70, 87, 167, 141, 157, 132, 144, 216, 171, 0, 140, 188, 211, 10, 247, 228, 88, 5, 184, 179, 69, 6, 208, 44, 30, 143, 202, 63, 15, 2, 193, 175, 189, 3, 1, 19, 138, 107, 58, 145, 17, 65, 79, 103, 220, 234, 151, 242, 207, 206, 240, 180, 230, 115, 150, 172, 116, 34, 231, 173, 53, 133, 226, 249, 55, 232, 28, 117, 223, 110, 71, 241, 26, 113, 29, 41, 197, 137, 111, 183, 98, 14, 170, 24, 190, 27, 252, 86, 62, 75, 198, 210, 121, 32, 154, 219, 192, 254, 120, 205, 90, 244, 31, 221, 168, 51, 136, 7, 199, 49, 177, 18, 16, 89, 39, 128, 236, 95, 96, 81, 127, 169, 25, 181, 74, 13, 45, 229, 122, 159, 147, 201, 156, 239, 160, 224, 59, 77, 174, 42, 245, 176, 200, 235, 187, 60, 131, 83, 153, 97, 23, 43, 4, 126, 186, 119, 214, 38, 225, 105, 20, 99, 85, 33, 12, 125]
/-- what undoes a byte; what stands for it; what undoes that. -/
def invN (a : Nat) : Nat := TI.getD a 0
def subN (a : Nat) : Nat := TS.getD a 0
def backN (a : Nat) : Nat := TB.getD a 0
theorem inv_all : all1 (fun a => decide (invN a < 256) && decide (subN a < 256) && decide (backN a < 256) && (mulN a (invN a) == if a == 0 then 0 else 1) && (invN (invN a) == a) && (backN (subN a) == a) && (subN (backN a) == a) && (subN a != a) && ((subN a ^^^ a) != 255)) = true := by kernel_rfl
structure InvAt (a : Nat) : Prop where
  i : invN a < 256
  s : subN a < 256
  b : backN a < 256
  m : mulN a (invN a) = if a = 0 then 0 else 1
  ii : invN (invN a) = a
  bs : backN (subN a) = a
  sb : subN (backN a) = a
  n : subN a ≠ a
  n2 : subN a ^^^ a ≠ 255
theorem inv_at {a : Nat} (ha : a < 256) : InvAt a := by
  have := all1_of inv_all ha
  simp only [Bool.and_eq_true, beq_iff_eq, bne_iff_ne, decide_eq_true_eq] at this
  obtain ⟨⟨⟨⟨⟨⟨⟨⟨h1, h2⟩, h3⟩, h4⟩, h5⟩, h6⟩, h7⟩, h8⟩, h9⟩ := this
  exact ⟨h1, h2, h3, h4, h5, h6, h7, h8, h9⟩
end Go.Proofs.YtfgdcpolfekgjaaGreat
namespace Go.Proofs.YtfgdcpolfekgjaaGreat

/-- a block: sixteen bytes. -/
structure Blk (s : List Nat) : Prop where
  len : s.length = 16
  lt : ∀ x ∈ s, x < 256
theorem list16 {α : Type} {s : List α} (h : s.length = 16) : ∃ a0 a1 a2 a3 a4 a5 a6 a7 a8 a9 a10 a11 a12 a13 a14 a15, s = [a0, a1, a2, a3, a4, a5, a6, a7, a8, a9, a10, a11, a12, a13, a14, a15] := by
  match s, h with
  | [a0, a1, a2, a3, a4, a5, a6, a7, a8, a9, a10, a11, a12, a13, a14, a15], _ => exact ⟨_, _, _, _, _, _, _, _, _, _, _, _, _, _, _, _, rfl⟩
/-- four bytes as a list. -/
def C4.nl (x : C4) : List Nat := [x.a, x.b, x.c, x.d]
theorem C4.nl_lt {x : C4} (h : x.Ok) : ∀ y ∈ x.nl, y < 256 := by
  intro y hy
  simp only [C4.nl, List.mem_cons, List.not_mem_nil, or_false] at hy
  rcases hy with rfl | rfl | rfl | rfl
  · exact h.a
  · exact h.b
  · exact h.c
  · exact h.d
/-- a column of a list. -/
def colN (s : List Nat) (c : Nat) : C4 := ⟨s.getD (4 * c) 0, s.getD (4 * c + 1) 0, s.getD (4 * c + 2) 0, s.getD (4 * c + 3) 0⟩
theorem getD_lt {s : List Nat} (h : ∀ x ∈ s, x < 256) (i : Nat) : s.getD i 0 < 256 := by
  rw [List.getD_eq_getElem?_getD]
  by_cases hi : i < s.length
  · rw [List.getElem?_eq_getElem hi]; exact h _ (List.getElem_mem hi)
  · rw [List.getElem?_eq_none (by omega)]; decide
theorem colN_ok {s : List Nat} (h : ∀ x ∈ s, x < 256) (c : Nat) : (colN s c).Ok := ⟨getD_lt h _, getD_lt h _, getD_lt h _, getD_lt h _⟩
def mixL (s : List Nat) : List Nat := (mixC (colN s 0)).nl ++ (mixC (colN s 1)).nl ++ (mixC (colN s 2)).nl ++ (mixC (colN s 3)).nl
def shiftL (s : List Nat) (b : Nat) : List Nat := (List.range 16).map fun i => s.getD (4 * ((i / 4 + b * (i % 4)) % 4) + i % 4) 0
def xorB (a b : List Nat) : List Nat := List.zipWith (· ^^^ ·) a b
def subL (s : List Nat) : List Nat := s.map subN
def backL (s : List Nat) : List Nat := s.map backN

theorem Blk.map {s : List Nat} (h : Blk s) {f : Nat → Nat} (hf : ∀ x, x < 256 → f x < 256) : Blk (s.map f) :=
  ⟨by rw [List.length_map, h.len], fun x hx => by
    obtain ⟨y, hy, rfl⟩ := List.mem_map.1 hx
    exact hf y (h.lt y hy)⟩
theorem Blk.sub {s : List Nat} (h : Blk s) : Blk (subL s) := h.map fun _ hx => (inv_at hx).s
theorem Blk.back {s : List Nat} (h : Blk s) : Blk (backL s) := h.map fun _ hx => (inv_at hx).b
theorem Blk.xor {s k : List Nat} (h : Blk s) (hk : Blk k) : Blk (xorB s k) :=
  ⟨by rw [xorB, List.length_zipWith, h.len, hk.len]; rfl, fun x hx => by
    obtain ⟨i, hi, rfl⟩ := List.getElem_of_mem hx
    simp only [xorB, List.getElem_zipWith]
    exact xor_lt (h.lt _ (List.getElem_mem _)) (hk.lt _ (List.getElem_mem _))⟩
theorem Blk.shift {s : List Nat} (h : Blk s) (b : Nat) : Blk (shiftL s b) :=
  ⟨by simp [shiftL], fun x hx => by
    obtain ⟨y, hy, rfl⟩ := List.mem_map.1 hx
    exact getD_lt h.lt _⟩
theorem Blk.cols {f : C4 → C4} (hf : ∀ x : C4, x.Ok → (f x).Ok) {s : List Nat} (h : Blk s) : Blk ((f (colN s 0)).nl ++ (f (colN s 1)).nl ++ (f (colN s 2)).nl ++ (f (colN s 3)).nl) :=
  ⟨rfl, fun x hx => by
    simp only [List.mem_append] at hx
    rcases hx with ((hx | hx) | hx) | hx
    · exact C4.nl_lt (hf _ (colN_ok h.lt 0)) x hx
    · exact C4.nl_lt (hf _ (colN_ok h.lt 1)) x hx
    · exact C4.nl_lt (hf _ (colN_ok h.lt 2)) x hx
    · exact C4.nl_lt (hf _ (colN_ok h.lt 3)) x hx⟩
theorem Blk.mix {s : List Nat} (h : Blk s) : Blk (mixL s) := Blk.cols (fun _ => mixC_ok) h
/-- a round, and what undoes it; in the last one nothing is mixed. -/
def rndN (k : List Nat) (m : Bool) (s : List Nat) : List Nat := xorB (if m then mixL (shiftL (subL s) 1) else shiftL (subL s) 1) k
theorem Blk.rnd {s k : List Nat} (h : Blk s) (hk : Blk k) (m : Bool) : Blk (rndN k m s) := by
  unfold rndN
  cases m
  · exact (h.sub.shift 1).xor hk
  · exact (h.sub.shift 1).mix.xor hk
/-- a block behind so many rounds of R. -/
def encN (K : Nat → List Nat) (R : Nat) (s : List Nat) : Nat → List Nat
  | 0 => xorB s (K 0)
  | i + 1 => rndN (K (i + 1)) (decide (i + 1 < R)) (encN K R s i)
def encB (K : Nat → List Nat) (R : Nat) (s : List Nat) : List Nat := encN K R s R
section
variable {K : Nat → List Nat} {R : Nat}
theorem encN_blk (hK : ∀ i, i ≤ R → Blk (K i)) {s : List Nat} (h : Blk s) : ∀ i, i ≤ R → Blk (encN K R s i)
  | 0, _ => h.xor (hK 0 (by omega))
  | i + 1, hi => (encN_blk hK h i (by omega)).rnd (hK (i + 1) hi) _
theorem encB_blk (hK : ∀ i, i ≤ R → Blk (K i)) {s : List Nat} (h : Blk s) : Blk (encB K R s) := encN_blk hK h R (Nat.le_refl _)
end
end Go.Proofs.YtfgdcpolfekgjaaGreat
namespace Go.Proofs.YtfgdcpolfekgjaaGreat

/-- the first byte put together with c. -/
def hdX (c : Nat) : List Nat → List Nat
  | [] => []
  | x :: xs => (x ^^^ c) :: xs
/-- the word ahead, turned, where the rule asks for it. -/
def keyT (n i c : Nat) (t : List Nat) : List Nat :=
  let t1 := if i % n = 0 then hdX c (subL (t.drop 1 ++ t.take 1)) else t
  if n = 8 ∧ i % 8 = 4 then subL t1 else t1
/-- one word more. -/
def expS (n : Nat) (st : List Nat × Nat) (i : Nat) : List Nat × Nat :=
  (st.1 ++ xorB ((st.1.drop (4 * (i - n))).take 4) (keyT n i st.2 (st.1.drop (4 * i - 4))), if i % n = 0 then mulN 2 st.2 else st.2)
/-- so many words behind the key's own. -/
def expN (key : List Nat) (n : Nat) : Nat → List Nat × Nat
  | 0 => (key, 1)
  | j + 1 => expS n (expN key n j) (n + j)
/-- a key's round keys, one behind the other. -/
def expB (key : List Nat) : List Nat := (expN key (key.length / 4) (3 * (key.length / 4) + 28)).1
theorem hdX_len (c : Nat) (t : List Nat) : (hdX c t).length = t.length := by cases t <;> rfl
theorem keyT_len (n i c : Nat) {t : List Nat} (h : t.length = 4) : (keyT n i c t).length = 4 := by
  unfold keyT
  have h1 : (if i % n = 0 then hdX c (subL (t.drop 1 ++ t.take 1)) else t).length = 4 := by
    split
    · rw [hdX_len, subL, List.length_map, List.length_append, List.length_drop, List.length_take, h]; rfl
    · exact h
  dsimp only
  split
  · rw [subL, List.length_map]; exact h1
  · exact h1
theorem subL_lt {t : List Nat} (h : ∀ x ∈ t, x < 256) : ∀ x ∈ subL t, x < 256 := fun x hx => by
  obtain ⟨y, hy, rfl⟩ := List.mem_map.1 hx
  exact (inv_at (h y hy)).s
theorem hdX_lt {c : Nat} (hc : c < 256) {t : List Nat} (h : ∀ x ∈ t, x < 256) : ∀ x ∈ hdX c t, x < 256 := by
  cases t with
  | nil => exact h
  | cons y ys =>
    intro x hx
    rcases List.mem_cons.1 hx with rfl | hx
    · exact xor_lt (h y (List.mem_cons_self ..)) hc
    · exact h x (List.mem_cons_of_mem _ hx)
theorem keyT_lt (n i : Nat) {c : Nat} (hc : c < 256) {t : List Nat} (h : ∀ x ∈ t, x < 256) : ∀ x ∈ keyT n i c t, x < 256 := by
  unfold keyT
  have h1 : ∀ x ∈ (if i % n = 0 then hdX c (subL (t.drop 1 ++ t.take 1)) else t), x < 256 := by
    split
    · refine hdX_lt hc (subL_lt fun x hx => ?_)
      rcases List.mem_append.1 hx with hx | hx
      · exact h x (List.mem_of_mem_drop hx)
      · exact h x (List.mem_of_mem_take hx)
    · exact h
  dsimp only
  split
  · exact subL_lt h1
  · exact h1
theorem xorB_lt {a b : List Nat} (ha : ∀ x ∈ a, x < 256) (hb : ∀ x ∈ b, x < 256) : ∀ x ∈ xorB a b, x < 256 := fun x hx => by
  obtain ⟨i, hi, rfl⟩ := List.getElem_of_mem hx
  simp only [xorB, List.getElem_zipWith]
  exact xor_lt (ha _ (List.getElem_mem _)) (hb _ (List.getElem_mem _))
section
variable {key : List Nat} {n : Nat}
theorem expN_len (hk : key.length = 4 * n) (hn : 1 ≤ n) (j : Nat) : (expN key n j).1.length = 4 * (n + j) := by
  induction j with
  | zero => exact hk
  | succ j ih =>
    show (_ ++ xorB _ _).length = _
    rw [List.length_append, ih, xorB, List.length_zipWith, keyT_len _ _ _ (by rw [List.length_drop, ih]; omega), List.length_take, List.length_drop, ih]
    omega
theorem expN_lt (hk : ∀ x ∈ key, x < 256) (j : Nat) : (∀ x ∈ (expN key n j).1, x < 256) ∧ (expN key n j).2 < 256 := by
  induction j with
  | zero => exact ⟨hk, (by decide : 1 < 256)⟩
  | succ j ih =>
    refine ⟨fun x hx => ?_, ?_⟩
    · rcases List.mem_append.1 hx with hx | hx
      · exact ih.1 x hx
      · exact xorB_lt (fun y hy => ih.1 y (List.mem_of_mem_drop (List.mem_of_mem_take hy))) (keyT_lt _ _ ih.2 fun y hy => ih.1 y (List.mem_of_mem_drop hy)) x hx
    · show (if (n + j) % n = 0 then mulN 2 (expN key n j).2 else (expN key n j).2) < 256
      split
      · exact mulN_lt (by decide)
      · exact ih.2
/-- what was there stays. -/
theorem expN_add (j m : Nat) : ∃ r, (expN key n (j + m)).1 = (expN key n j).1 ++ r := by
  induction m with
  | zero => exact ⟨[], by simp⟩
  | succ m ih =>
    obtain ⟨r, hr⟩ := ih
    refine ⟨r ++ xorB (((expN key n (j + m)).1.drop (4 * (n + (j + m) - n))).take 4) (keyT n (n + (j + m)) (expN key n (j + m)).2 ((expN key n (j + m)).1.drop (4 * (n + (j + m)) - 4))), ?_⟩
    rw [← List.append_assoc, ← hr]
    rfl
theorem expN_take (hk : key.length = 4 * n) (hn : 1 ≤ n) {j J : Nat} (h : j ≤ J) : (expN key n J).1.take (4 * (n + j)) = (expN key n j).1 := by
  obtain ⟨m, rfl⟩ : ∃ m, J = j + m := ⟨J - j, by omega⟩
  obtain ⟨r, hr⟩ := expN_add (key := key) (n := n) j m
  rw [hr, ← expN_len hk hn j, List.take_left]
theorem getD_app_right {a b : List Nat} {i : Nat} (h : a.length ≤ i) : (a ++ b).getD i 0 = b.getD (i - a.length) 0 := by
  rw [List.getD_eq_getElem?_getD, List.getD_eq_getElem?_getD, List.getElem?_append_right h]
theorem xorB_getD {a b : List Nat} (h : a.length = b.length) (i : Nat) : (xorB a b).getD i 0 = a.getD i 0 ^^^ b.getD i 0 := by
  rw [List.getD_eq_getElem?_getD, List.getD_eq_getElem?_getD, List.getD_eq_getElem?_getD, xorB, List.getElem?_zipWith]
  by_cases hi : i < a.length
  · rw [List.getElem?_eq_getElem hi, List.getElem?_eq_getElem (by omega)]; rfl
  · rw [List.getElem?_eq_none (by omega), List.getElem?_eq_none (by omega)]; rfl
end
theorem expB_len {key : List Nat} (h : key.length = 16 ∨ key.length = 32) : (expB key).length = 4 * key.length + 112 := by
  unfold expB
  rcases h with h | h
  · rw [expN_len (by rw [h]) (by rw [h]; decide), h]
  · rw [expN_len (by rw [h]) (by rw [h]; decide), h]
theorem expB_lt {key : List Nat} (hk : ∀ x ∈ key, x < 256) : ∀ x ∈ expB key, x < 256 := (expN_lt hk _).1
/-- the round keys, by their number. -/
def keyK (key : List Nat) (r : Nat) : List Nat := ((expB key).drop (16 * r)).take 16
/-- how many rounds. -/
def rndsN (key : List Nat) : Nat := key.length / 4 + 6
theorem keyK_blk {key : List Nat} (h : key.length = 16 ∨ key.length = 32) (hk : ∀ x ∈ key, x < 256) {r : Nat} (hr : r ≤ rndsN key) : Blk (keyK key r) :=
  ⟨by
    have := expB_len h
    unfold rndsN at hr
    rw [keyK, List.length_take, List.length_drop, this]
    omega, fun x hx => expB_lt hk x (List.mem_of_mem_drop (List.mem_of_mem_take hx))⟩
/-- a block, encrypted; decrypted. -/
def aesE (key s : List Nat) : List Nat := encB (keyK key) (rndsN key) s
section
variable {key s t : List Nat} (h : key.length = 16 ∨ key.length = 32) (hk : ∀ x ∈ key, x < 256)
include h hk
theorem aesE_blk (hs : Blk s) : Blk (aesE key s) := encB_blk (fun _ => keyK_blk h hk) hs
end
end Go.Proofs.YtfgdcpolfekgjaaGreat
namespace Go.Proofs.YtfgdcpolfekgjaaGreat

/-- the number of bytes, the highest one first. -/
def numB (L : List Nat) : Nat := L.foldl (fun a b => a * 256 + b) 0
theorem numB_snoc (L : List Nat) (x : Nat) : numB (L ++ [x]) = numB L * 256 + x := by simp [numB]
/-- k bytes of a number. -/
def dig : Nat → Nat → List Nat
  | 0, _ => []
  | k + 1, N => dig k (N / 256) ++ [N % 256]
theorem dig_len : ∀ k N, (dig k N).length = k
  | 0, _ => rfl
  | k + 1, N => by rw [dig, List.length_append, dig_len k]; rfl
theorem dig_lt : ∀ k N, ∀ x ∈ dig k N, x < 256
  | 0, _ => fun x hx => by cases hx
  | k + 1, N => fun x hx => by
    rcases List.mem_append.1 hx with h | h
    · exact dig_lt k _ x h
    · rw [List.mem_singleton] at h; subst h; exact Nat.mod_lt _ (by decide)
theorem numB_dig : ∀ k N, numB (dig k N) = N % 256 ^ k
  | 0, N => by rw [Nat.pow_zero, Nat.mod_one]; rfl
  | k + 1, N => by rw [dig, numB_snoc, numB_dig k, Nat.pow_succ, Nat.mul_comm (256 ^ k) 256, Nat.mod_mul]; omega
theorem dig_numB : ∀ k (L : List Nat), L.length = k → (∀ x ∈ L, x < 256) → dig k (numB L) = L
  | 0, L, h, _ => by rw [List.length_eq_zero_iff.1 h]; rfl
  | k + 1, L, h, hb => by
    have hne : L ≠ [] := fun e => by rw [e] at h; cases h
    have hd := List.dropLast_concat_getLast hne
    have hx : L.getLast hne < 256 := hb _ (List.getLast_mem hne)
    have hl : L.dropLast.length = k := by rw [List.length_dropLast, h]; rfl
    have hm : ∀ x ∈ L.dropLast, x < 256 := fun x hx => hb x (List.dropLast_subset L hx)
    generalize L.getLast hne = x at *
    generalize L.dropLast = M at *
    rw [← hd, numB_snoc, dig, show (numB M * 256 + x) / 256 = numB M by omega, show (numB M * 256 + x) % 256 = x by omega, dig_numB k M hl hm]
theorem dig_mod (k N : Nat) : dig k (N % 256 ^ k) = dig k N := by
  rw [← numB_dig k N, dig_numB k _ (dig_len k N) (dig_lt k N)]
theorem dig_congr {k M N : Nat} (h : M % 256 ^ k = N % 256 ^ k) : dig k M = dig k N := by rw [← dig_mod k M, h, dig_mod]
/-- the counter that is n further. -/
def nextN (c : List Nat) (n : Nat) : List Nat := dig 16 (numB c + n)
theorem nextN_blk (c : List Nat) (n : Nat) : Blk (nextN c n) := ⟨dig_len _ _, dig_lt _ _⟩
theorem nextN_add (c : List Nat) (m n : Nat) : nextN (nextN c m) n = nextN c (m + n) := by
  unfold nextN
  rw [numB_dig]
  apply dig_congr
  rw [Nat.add_mod, Nat.mod_mod, ← Nat.add_mod, Nat.add_assoc]
theorem nextN_zero {c : List Nat} (h : Blk c) : nextN c 0 = c := by
  unfold nextN
  rw [Nat.add_zero, dig_numB 16 c h.len h.lt]
theorem nextN_step (c : List Nat) (n : Nat) : nextN (nextN c n) 1 = nextN c (n + 1) := nextN_add c n 1

/-- the i-th byte of the keys. -/
def kbN (key c : List Nat) (i : Nat) : Nat := (aesE key (nextN c (i / 16))).getD (i % 16) 0
def keysN (key c : List Nat) (n : Nat) : List Nat := (List.range n).map (kbN key c)
theorem keysN_len (key c : List Nat) (n : Nat) : (keysN key c n).length = n := by simp [keysN]
theorem keysN_get (key c : List Nat) {n i : Nat} (h : i < n) : (keysN key c n).getD i 0 = kbN key c i := by
  rw [keysN, List.getD_eq_getElem?_getD, List.getElem?_map, List.getElem?_range h]
  rfl
theorem keysN_take (key c : List Nat) {m n : Nat} (h : m ≤ n) : (keysN key c n).take m = keysN key c m := by
  rw [keysN, keysN, ← List.map_take, List.take_range, Nat.min_eq_left h]
section
variable {key : List Nat} (h : key.length = 16 ∨ key.length = 32) (hk : ∀ x ∈ key, x < 256) (c : List Nat)
include h hk
theorem kbN_lt (i : Nat) : kbN key c i < 256 := by
  unfold kbN
  rw [List.getD_eq_getElem?_getD]
  cases e : (aesE key (nextN c (i / 16)))[i % 16]? with
  | none => exact (by decide : (0 : Nat) < 256)
  | some v => exact (aesE_blk h hk (nextN_blk c _)).lt v (List.mem_of_getElem? e)
theorem keysN_lt (n : Nat) : ∀ x ∈ keysN key c n, x < 256 := fun x hx => by
  obtain ⟨i, _, rfl⟩ := List.mem_map.1 hx
  exact kbN_lt h hk c i
theorem keysN_block (m : Nat) : keysN key c (16 * m + 16) = keysN key c (16 * m) ++ aesE key (nextN c m) := by
  have hl := (aesE_blk h hk (nextN_blk c m)).len
  apply List.ext_getElem?
  intro i
  by_cases hi : i < 16 * m
  · rw [List.getElem?_append_left (by rw [keysN_len]; exact hi), keysN, keysN, List.getElem?_map, List.getElem?_map, List.getElem?_range (by omega), List.getElem?_range hi]
  · rw [List.getElem?_append_right (by rw [keysN_len]; omega), keysN_len, keysN, List.getElem?_map]
    by_cases h2 : i < 16 * m + 16
    · rw [List.getElem?_range h2, Option.map_some, kbN, show i / 16 = m by omega, show i % 16 = i - 16 * m by omega, List.getD_eq_getElem?_getD, List.getElem?_eq_getElem (by omega)]
      rfl
    · rw [List.getElem?_eq_none (by simp; omega), List.getElem?_eq_none (by omega)]
      rfl
end
/-- a text, put together with the keys. -/
def xorS (key c s : List Nat) : List Nat := xorB s (keysN key c s.length)
theorem xorS_len (key c s : List Nat) : (xorS key c s).length = s.length := by rw [xorS, xorB, List.length_zipWith, keysN_len, Nat.min_self]
theorem xorS_get (key c s : List Nat) {i : Nat} (h : i < s.length) : (xorS key c s).getD i 0 = s.getD i 0 ^^^ kbN key c i := by
  rw [xorS, xorB_getD (keysN_len key c s.length).symm, keysN_get key c h]
theorem getD_ext {a b : List Nat} (hl : a.length = b.length) (h : ∀ i, i < a.length → a.getD i 0 = b.getD i 0) : a = b := by
  apply List.ext_getElem hl
  intro i h1 h2
  have := h i h1
  rwa [List.getD_eq_getElem?_getD, List.getD_eq_getElem?_getD, List.getElem?_eq_getElem h1, List.getElem?_eq_getElem h2] at this
theorem xorS_back (key c s : List Nat) : xorS key c (xorS key c s) = s := by
  apply getD_ext (by rw [xorS_len, xorS_len])
  intro i hi
  rw [xorS_len, xorS_len] at hi
  rw [xorS_get key c _ (by rw [xorS_len]; exact hi), xorS_get key c s hi, Nat.xor_assoc, Nat.xor_self, Nat.xor_zero]
theorem xorS_lt {key : List Nat} (h : key.length = 16 ∨ key.length = 32) (hk : ∀ x ∈ key, x < 256) (c : List Nat) {s : List Nat} (hs : ∀ x ∈ s, x < 256) : ∀ x ∈ xorS key c s, x < 256 := xorB_lt hs (keysN_lt h hk c _)
end Go.Proofs.YtfgdcpolfekgjaaGreat
namespace Go.Proofs.YtfgdcpolfekgjaaGreat
end Go.Proofs.YtfgdcpolfekgjaaGreat

