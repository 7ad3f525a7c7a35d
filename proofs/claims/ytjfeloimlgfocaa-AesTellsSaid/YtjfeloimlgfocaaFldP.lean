/-
  Plain facts on layer 3: products of bytes as sums of powers. Nothing of the program stands here.
-/
import Derived.KernelRfl
namespace Go.Proofs.Ytjfeloimlgfocaa

/-- a byte times x. -/
def xt (x : Nat) : Nat := if 128 ≤ x then (x * 2 % 256) ^^^ 27 else x * 2 % 256
def pick1 (b : Bool) (x : Nat) : Nat := if b then x else 0
/-- the product of two bytes: bit by bit. -/
def mulN (a b : Nat) : Nat :=
  pick1 (b.testBit 0) a ^^^ pick1 (b.testBit 1) (xt a) ^^^ pick1 (b.testBit 2) (xt (xt a)) ^^^ pick1 (b.testBit 3) (xt (xt (xt a))) ^^^
  pick1 (b.testBit 4) (xt (xt (xt (xt a)))) ^^^ pick1 (b.testBit 5) (xt (xt (xt (xt (xt a))))) ^^^ pick1 (b.testBit 6) (xt (xt (xt (xt (xt (xt a)))))) ^^^ pick1 (b.testBit 7) (xt (xt (xt (xt (xt (xt (xt a)))))))

/-- for all bytes. -/
def all1 (p : Nat → Bool) : Bool := (List.range 256).all p
theorem all1_of {p : Nat → Bool} (h : all1 p = true) {a : Nat} (ha : a < 256) : p a = true := List.all_eq_true.1 h a (List.mem_range.2 ha)
def all2 (p : Nat → Nat → Bool) : Bool := (List.range 256).all fun a => (List.range 256).all fun b => p a b
theorem all2_of {p : Nat → Nat → Bool} (h : all2 p = true) {a b : Nat} (ha : a < 256) (hb : b < 256) : p a b = true :=
  List.all_eq_true.1 (List.all_eq_true.1 h a (List.mem_range.2 ha)) b (List.mem_range.2 hb)

theorem pick1_xor (p q : Bool) (x : Nat) : pick1 (p ^^ q) x = pick1 p x ^^^ pick1 q x := by
  cases p <;> cases q <;> simp [pick1]
theorem mulN_xor (a b c : Nat) : mulN a (b ^^^ c) = mulN a b ^^^ mulN a c := by
  simp only [mulN, Nat.testBit_xor, pick1_xor]
  ac_rfl
theorem mulN_comm_all : all2 (fun a b => mulN a b == mulN b a) = true := by kernel_rfl
theorem mulN_comm {a b : Nat} (ha : a < 256) (hb : b < 256) : mulN a b = mulN b a := by simpa using all2_of mulN_comm_all ha hb
theorem xor_lt {a b : Nat} (ha : a < 256) (hb : b < 256) : a ^^^ b < 256 := Nat.xor_lt_two_pow (n := 8) ha hb
theorem xt_lt {a : Nat} (_ : a < 256) : xt a < 256 := by
  unfold xt
  split
  · exact xor_lt (Nat.mod_lt _ (by decide)) (by decide)
  · exact Nat.mod_lt _ (by decide)
theorem pick1_lt {p : Bool} {x : Nat} (h : x < 256) : pick1 p x < 256 := by
  cases p
  · show 0 < 256
    decide
  · exact h
theorem mulN_lt {a b : Nat} (ha : a < 256) : mulN a b < 256 := by
  have h1 := xt_lt ha
  have h2 := xt_lt h1
  have h3 := xt_lt h2
  have h4 := xt_lt h3
  have h5 := xt_lt h4
  have h6 := xt_lt h5
  have h7 := xt_lt h6
  exact xor_lt (xor_lt (xor_lt (xor_lt (xor_lt (xor_lt (xor_lt (pick1_lt ha) (pick1_lt h1)) (pick1_lt h2)) (pick1_lt h3)) (pick1_lt h4)) (pick1_lt h5)) (pick1_lt h6)) (pick1_lt h7)
theorem mulN_xor_left {a b c : Nat} (ha : a < 256) (hb : b < 256) (hc : c < 256) : mulN (a ^^^ b) c = mulN a c ^^^ mulN b c := by
  rw [mulN_comm (xor_lt ha hb) hc, mulN_xor, mulN_comm ha hc, mulN_comm hb hc]
theorem mulN_zero (a : Nat) : mulN a 0 = 0 := by simp [mulN, pick1]
theorem mulN_one (a : Nat) : mulN a 1 = a := by
  have e : mulN a 1 = a ^^^ 0 ^^^ 0 ^^^ 0 ^^^ 0 ^^^ 0 ^^^ 0 ^^^ 0 := rfl
  rw [e]
  simp
/-- what is linear is told by the eight powers of 2. -/
structure Lin (f : Nat → Nat) : Prop where
  zero : f 0 = 0
  add : ∀ a b, a < 256 → b < 256 → f (a ^^^ b) = f a ^^^ f b
def bitsOf (x : Nat) : Nat := (x &&& 1) ^^^ (x &&& 2) ^^^ (x &&& 4) ^^^ (x &&& 8) ^^^ (x &&& 16) ^^^ (x &&& 32) ^^^ (x &&& 64) ^^^ (x &&& 128)
theorem bitsOf_all : all1 (fun x => bitsOf x == x && ((x &&& 1 == 0 || x &&& 1 == 1) && (x &&& 2 == 0 || x &&& 2 == 2) && (x &&& 4 == 0 || x &&& 4 == 4) && (x &&& 8 == 0 || x &&& 8 == 8) && (x &&& 16 == 0 || x &&& 16 == 16) && (x &&& 32 == 0 || x &&& 32 == 32) && (x &&& 64 == 0 || x &&& 64 == 64) && (x &&& 128 == 0 || x &&& 128 == 128))) = true := by kernel_rfl
theorem Lin.ext {f g : Nat → Nat} (hf : Lin f) (hg : Lin g) (h1 : f 1 = g 1) (h2 : f 2 = g 2) (h4 : f 4 = g 4) (h8 : f 8 = g 8) (h16 : f 16 = g 16) (h32 : f 32 = g 32) (h64 : f 64 = g 64) (h128 : f 128 = g 128)
    {x : Nat} (hx : x < 256) : f x = g x := by
  have h := all1_of bitsOf_all hx
  simp only [Bool.and_eq_true, Bool.or_eq_true, beq_iff_eq] at h
  obtain ⟨he, ⟨⟨⟨⟨⟨⟨⟨c1, c2⟩, c4⟩, c8⟩, c16⟩, c32⟩, c64⟩, c128⟩⟩ := h
  rw [← he]
  unfold bitsOf
  have z := hf.zero
  have z' := hg.zero
  have k1 : f (x &&& 1) = g (x &&& 1) ∧ (x &&& 1) < 256 := by rcases c1 with e | e <;> rw [e] <;> simp_all
  have k2 : f (x &&& 2) = g (x &&& 2) ∧ (x &&& 2) < 256 := by rcases c2 with e | e <;> rw [e] <;> simp_all
  have k4 : f (x &&& 4) = g (x &&& 4) ∧ (x &&& 4) < 256 := by rcases c4 with e | e <;> rw [e] <;> simp_all
  have k8 : f (x &&& 8) = g (x &&& 8) ∧ (x &&& 8) < 256 := by rcases c8 with e | e <;> rw [e] <;> simp_all
  have k16 : f (x &&& 16) = g (x &&& 16) ∧ (x &&& 16) < 256 := by rcases c16 with e | e <;> rw [e] <;> simp_all
  have k32 : f (x &&& 32) = g (x &&& 32) ∧ (x &&& 32) < 256 := by rcases c32 with e | e <;> rw [e] <;> simp_all
  have k64 : f (x &&& 64) = g (x &&& 64) ∧ (x &&& 64) < 256 := by rcases c64 with e | e <;> rw [e] <;> simp_all
  have k128 : f (x &&& 128) = g (x &&& 128) ∧ (x &&& 128) < 256 := by rcases c128 with e | e <;> rw [e] <;> simp_all
  generalize x &&& 1 = x1 at *
  generalize x &&& 2 = x2 at *
  generalize x &&& 4 = x4 at *
  generalize x &&& 8 = x8 at *
  generalize x &&& 16 = x16 at *
  generalize x &&& 32 = x32 at *
  generalize x &&& 64 = x64 at *
  generalize x &&& 128 = x128 at *
  have l2 := xor_lt k1.2 k2.2
  have l4 := xor_lt l2 k4.2
  have l8 := xor_lt l4 k8.2
  have l16 := xor_lt l8 k16.2
  have l32 := xor_lt l16 k32.2
  have l64 := xor_lt l32 k64.2
  rw [hf.add _ _ l64 k128.2, hf.add _ _ l32 k64.2, hf.add _ _ l16 k32.2, hf.add _ _ l8 k16.2, hf.add _ _ l4 k8.2, hf.add _ _ l2 k4.2, hf.add _ _ k1.2 k2.2,
    hg.add _ _ l64 k128.2, hg.add _ _ l32 k64.2, hg.add _ _ l16 k32.2, hg.add _ _ l8 k16.2, hg.add _ _ l4 k8.2, hg.add _ _ l2 k4.2, hg.add _ _ k1.2 k2.2,
    k1.1, k2.1, k4.1, k8.1, k16.1, k32.1, k64.1, k128.1]
theorem lin_mul {a : Nat} : Lin (mulN a) := ⟨mulN_zero a, fun b c _ _ => mulN_xor a b c⟩
theorem lin_mulL {b : Nat} (hb : b < 256) : Lin (fun a => mulN a b) := ⟨by show mulN 0 b = 0; rw [mulN_comm (by decide) hb, mulN_zero], fun a c ha hc => mulN_xor_left ha hc hb⟩
theorem Lin.comp {f g : Nat → Nat} (hf : Lin f) (hg : Lin g) (hl : ∀ x, x < 256 → g x < 256) : Lin (fun x => f (g x)) :=
  ⟨by show f (g 0) = 0; rw [hg.zero, hf.zero], fun a b ha hb => by show f (g (a ^^^ b)) = _; rw [hg.add a b ha hb, hf.add _ _ (hl a ha) (hl b hb)]⟩
theorem Lin.xor {f g : Nat → Nat} (hf : Lin f) (hg : Lin g) : Lin (fun x => f x ^^^ g x) :=
  ⟨by show f 0 ^^^ g 0 = 0; rw [hf.zero, hg.zero]; rfl, fun a b ha hb => by show f (a ^^^ b) ^^^ g (a ^^^ b) = _; rw [hf.add a b ha hb, hg.add a b ha hb]; ac_rfl⟩
def P8 : List Nat := [1, 2, 4, 8, 16, 32, 64, 128]
theorem P8_lt {p : Nat} (h : p ∈ P8) : p < 256 := by
  simp only [P8, List.mem_cons, List.not_mem_nil, or_false] at h
  omega
theorem Lin.same {f g : Nat → Nat} (hf : Lin f) (hg : Lin g) (h : ∀ p ∈ P8, f p = g p) {x : Nat} (hx : x < 256) : f x = g x :=
  hf.ext hg (h 1 (by decide)) (h 2 (by decide)) (h 4 (by decide)) (h 8 (by decide)) (h 16 (by decide)) (h 32 (by decide)) (h 64 (by decide)) (h 128 (by decide)) hx
theorem assoc_basis : P8.all (fun i => P8.all fun j => P8.all fun k => mulN (mulN i j) k == mulN i (mulN j k)) = true := by kernel_rfl
theorem mulN_assoc {a b c : Nat} (ha : a < 256) (hb : b < 256) (hc : c < 256) : mulN (mulN a b) c = mulN a (mulN b c) := by
  refine Lin.same (f := fun c => mulN (mulN a b) c) (g := fun c => mulN a (mulN b c)) lin_mul (lin_mul.comp lin_mul fun x hx => mulN_lt hb) (fun k hk => ?_) hc
  refine Lin.same (f := fun b => mulN (mulN a b) k) (g := fun b => mulN a (mulN b k)) ((lin_mulL (P8_lt hk)).comp lin_mul fun x _ => mulN_lt ha) (lin_mul.comp (lin_mulL (P8_lt hk)) fun x hx => mulN_lt hx) (fun j hj => ?_) hb
  refine Lin.same (f := fun a => mulN (mulN a j) k) (g := fun a => mulN a (mulN j k)) ((lin_mulL (P8_lt hk)).comp (lin_mulL (P8_lt hj)) fun x hx => mulN_lt hx) (lin_mulL (mulN_lt (P8_lt hj))) (fun i hi => ?_) ha
  have := List.all_eq_true.1 (List.all_eq_true.1 (List.all_eq_true.1 assoc_basis i hi) j hj) k hk
  simpa using this
theorem mulN_null_all : all2 (fun a b => (mulN a b == 0) == (a == 0 || b == 0)) = true := by kernel_rfl
theorem mulN_null {a b : Nat} (ha : a < 256) (hb : b < 256) : (mulN a b == 0) = (a == 0 || b == 0) := by simpa using all2_of mulN_null_all ha hb
theorem square_add {a b : Nat} (ha : a < 256) (hb : b < 256) : mulN (a ^^^ b) (a ^^^ b) = mulN a a ^^^ mulN b b := by
  rw [mulN_xor, mulN_xor_left ha hb ha, mulN_xor_left ha hb hb, mulN_comm hb ha]
  have e : (mulN a a ^^^ mulN a b ^^^ (mulN a b ^^^ mulN b b)) = mulN a a ^^^ (mulN a b ^^^ mulN a b) ^^^ mulN b b := by ac_rfl
  rw [e, Nat.xor_self, Nat.xor_zero]
/-- a byte multiplied with itself so often. -/
def powN (a : Nat) : Nat → Nat
  | 0 => 1
  | n + 1 => mulN (powN a n) a
theorem powN_lt (a : Nat) (n : Nat) : powN a n < 256 := by
  induction n with
  | zero => show 1 < 256; decide
  | succ n ih => exact mulN_lt ih
theorem powN_add {a : Nat} (ha : a < 256) (m n : Nat) : powN a (m + n) = mulN (powN a m) (powN a n) := by
  induction n with
  | zero => rw [Nat.add_zero]; show _ = mulN _ 1; rw [mulN_one]
  | succ n ih => rw [← Nat.add_assoc, powN, ih, powN, mulN_assoc (powN_lt a m) (powN_lt a n) ha]
theorem powN_mul {a : Nat} (ha : a < 256) (m n : Nat) : powN a (m * n) = powN (powN a m) n := by
  induction n with
  | zero => rfl
  | succ n ih => rw [Nat.mul_succ, powN_add ha, ih, powN]
def T15 : List Nat := [0, 1, 47, 53, 57, 102, 194, 239, 29, 232, 64, 102, 1, 1, 102, 171, 54, 211, 171, 74, 53, 8, 64, 53, 47, 239, 47, 99, 64, 171, 239, 179, 179, 29, 232, 239, 239, 54, 8, 211, 194, 29, 99, 232, 53, 74, 194, 53, 57, 99, 102, 8, 57, 54, 211, 102, 53, 102, 239, 53, 102, 239, 74, 179, 74, 29, 54, 102, 171, 211, 102, 232, 102, 29, 179, 171, 99, 102, 232, 8, 1, 1, 54, 74, 211, 179, 171, 99, 194, 171, 8, 57, 1, 1, 194, 57, 29, 47, 211, 47, 64, 232, 99, 54, 29, 8, 179, 57, 232, 74, 64, 57, 194, 102, 64, 211, 102, 179, 194, 54, 64, 47, 102, 47, 8, 99, 74, 102, 8, 171, 54, 232, 179, 99, 64, 74, 239, 211, 232, 194, 64, 194, 171, 239, 64, 239, 54, 171, 74, 8, 239, 29, 211, 57, 64, 179, 171, 57, 99, 29, 47, 232, 47, 194, 179, 194, 8, 54, 232, 57, 74, 239, 239, 57, 211, 99, 1, 1, 239, 8, 99, 239, 29, 54, 47, 74, 47, 179, 1, 1, 29, 211, 54, 47, 57, 47, 232, 171, 57, 74, 53, 99, 171, 53, 211, 232, 179, 8, 54, 179, 99, 194, 74, 194, 29, 171, 171, 47, 8, 47, 53, 211, 29, 53, 1, 1, 64, 99, 53, 54, 232, 53, 64, 8, 74, 211, 1, 1, 179, 232, 53, 179, 57, 53, 64, 54, 57, 29, 99, 74, 211, 194, 8, 194, 64, 29]
theorem T15_is : (List.range 256).map (fun a => powN a 15) = T15 := by kernel_rfl
theorem T17_is : T15.map (fun q => powN q 17) = 0 :: List.replicate 255 1 := by kernel_rfl
theorem pow255 {a : Nat} (ha : a < 256) : powN a 255 = if a = 0 then 0 else 1 := by
  have h1 : ((List.range 256).map (fun a => powN a 15)).map (fun q => powN q 17) = 0 :: List.replicate 255 1 := by rw [T15_is, T17_is]
  have h2 := congrArg (·[a]?) h1
  simp only [List.map_map, List.getElem?_map, List.getElem?_range ha, Option.map_some, Function.comp] at h2
  rw [show 255 = 15 * 17 from rfl, powN_mul ha]
  cases a with
  | zero => exact Option.some.inj h2
  | succ a =>
    rw [List.getElem?_cons_succ, List.getElem?_replicate, if_pos (by omega)] at h2
    rw [Option.some.inj h2, if_neg (by omega)]
theorem lin_id : Lin (fun x => x) := ⟨rfl, fun _ _ _ _ => rfl⟩
end Go.Proofs.Ytjfeloimlgfocaa
