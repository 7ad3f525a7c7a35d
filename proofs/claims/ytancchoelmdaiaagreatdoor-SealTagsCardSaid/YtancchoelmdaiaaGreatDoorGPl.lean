/-
  Plain facts on layer 3: products of bytes as sums of powers. Nothing of the program stands here.
  Plain facts on layer 3: columns of four bytes, mixed. Nothing of the program stands here.
  Plain facts on layer 3: what undoes a byte, what stands for it, what undoes that. Nothing of the program stands here.
  Plain facts on layer 4: blocks of sixteen bytes, rounds and what undoes them. Nothing of the program stands here.
  Plain facts on layer 4: the words of a key, expanded. Nothing of the program stands here.
  Plain facts on layer 5: counters as numbers, blocks of keys, texts put together with them. Nothing of the program stands here.
  Chapter 4's example, reckoned in steps. Nothing of the program stands here.
  Which of n things a raw number speaks of: the plain function. Nothing of the program stands here.
-/
import Derived.KernelRfl
import Derived.WalkKit
namespace Go.Proofs.YtancchoelmdaiaaGreatDoor

/-- a byte times x. -/
def xt (x : Nat) : Nat := if 128 ≤ x then (x * 2 % 256) ^^^ 27 else x * 2 % 256
def pick1 (b : Bool) (x : Nat) : Nat := if b then x else 0
/-- the product of two bytes: bit by bit. -/
def mulN (a b : Nat) : Nat :=
  pick1 (b.testBit 0) a ^^^ pick1 (b.testBit 1) (xt a) ^^^ pick1 (b.testBit 2) (xt (xt a)) ^^^ pick1 (b.testBit 3) (xt (xt (xt a))) ^^^
  pick1 (b.testBit 4) (xt (xt (xt (xt a)))) ^^^ pick1 (b.testBit 5) (xt (xt (xt (xt (xt a))))) ^^^ pick1 (b.testBit 6) (xt (xt (xt (xt (xt (xt a)))))) ^^^ pick1 (b.testBit 7) (xt (xt (xt (xt (xt (xt (xt a)))))))

/-- for all bytes. -/
def all1 (p : Nat → Bool) : Bool := (List.range 256).all p
theorem all1_of {p : Nat → Bool} (h : all1 p = true) {a : Nat} (ha : a < 256) : p a = true := List.all_eq_true.1 h a (List.mem_range.2 ha)
def all2 (p : Nat → Nat → Bool) : Bool := (List.range 256).all fun a => (List.range 256).all fun b => p a b
theorem all2_of {p : Nat → Nat → Bool} (h : all2 p = true) {a b : Nat} (ha : a < 256) (hb : b < 256) : p a b = true :=
  List.all_eq_true.1 (List.all_eq_true.1 h a (List.mem_range.2 ha)) b (List.mem_range.2 hb)

theorem pick1_xor (p q : Bool) (x : Nat) : pick1 (p ^^ q) x = pick1 p x ^^^ pick1 q x := by
  cases p <;> cases q <;> simp [pick1]
theorem mulN_xor (a b c : Nat) : mulN a (b ^^^ c) = mulN a b ^^^ mulN a c := by
  simp only [mulN, Nat.testBit_xor, pick1_xor]
  ac_rfl
theorem mulN_comm_all : all2 (fun a b => mulN a b == mulN b a) = true := by kernel_rfl
theorem mulN_comm {a b : Nat} (ha : a < 256) (hb : b < 256) : mulN a b = mulN b a := by simpa using all2_of mulN_comm_all ha hb
theorem xor_lt {a b : Nat} (ha : a < 256) (hb : b < 256) : a ^^^ b < 256 := Nat.xor_lt_two_pow (n := 8) ha hb
theorem xt_lt {a : Nat} (_ : a < 256) : xt a < 256 := by
  unfold xt
  split
  · exact xor_lt (Nat.mod_lt _ (by decide)) (by decide)
  · exact Nat.mod_lt _ (by decide)
theorem pick1_lt {p : Bool} {x : Nat} (h : x < 256) : pick1 p x < 256 := by
  cases p
  · show 0 < 256
    decide
  · exact h
theorem mulN_lt {a b : Nat} (ha : a < 256) : mulN a b < 256 := by
  have h1 := xt_lt ha
  have h2 := xt_lt h1
  have h3 := xt_lt h2
  have h4 := xt_lt h3
  have h5 := xt_lt h4
  have h6 := xt_lt h5
  have h7 := xt_lt h6
  exact xor_lt (xor_lt (xor_lt (xor_lt (xor_lt (xor_lt (xor_lt (pick1_lt ha) (pick1_lt h1)) (pick1_lt h2)) (pick1_lt h3)) (pick1_lt h4)) (pick1_lt h5)) (pick1_lt h6)) (pick1_lt h7)
theorem mulN_xor_left {a b c : Nat} (ha : a < 256) (hb : b < 256) (hc : c < 256) : mulN (a ^^^ b) c = mulN a c ^^^ mulN b c := by
  rw [mulN_comm (xor_lt ha hb) hc, mulN_xor, mulN_comm ha hc, mulN_comm hb hc]
theorem mulN_zero (a : Nat) : mulN a 0 = 0 := by simp [mulN, pick1]
theorem mulN_one (a : Nat) : mulN a 1 = a := by
  have e : mulN a 1 = a ^^^ 0 ^^^ 0 ^^^ 0 ^^^ 0 ^^^ 0 ^^^ 0 ^^^ 0 := rfl
  rw [e]
  simp
/-- what is linear is told by the eight powers of 2. -/
structure Lin (f : Nat → Nat) : Prop where
  zero : f 0 = 0
  add : ∀ a b, a < 256 → b < 256 → f (a ^^^ b) = f a ^^^ f b
def bitsOf (x : Nat) : Nat := (x &&& 1) ^^^ (x &&& 2) ^^^ (x &&& 4) ^^^ (x &&& 8) ^^^ (x &&& 16) ^^^ (x &&& 32) ^^^ (x &&& 64) ^^^ (x &&& 128)
theorem bitsOf_all : all1 (fun x => bitsOf x == x && ((x &&& 1 == 0 || x &&& 1 == 1) && (x &&& 2 == 0 || x &&& 2 == 2) && (x &&& 4 == 0 || x &&& 4 == 4) && (x &&& 8 == 0 || x &&& 8 == 8) && (x &&& 16 == 0 || x &&& 16 == 16) && (x &&& 32 == 0 || x &&& 32 == 32) && (x &&& 64 == 0 || x &&& 64 == 64) && (x &&& 128 == 0 || x &&& 128 == 128))) = true := by kernel_rfl
theorem Lin.ext {f g : Nat → Nat} (hf : Lin f) (hg : Lin g) (h1 : f 1 = g 1) (h2 : f 2 = g 2) (h4 : f 4 = g 4) (h8 : f 8 = g 8) (h16 : f 16 = g 16) (h32 : f 32 = g 32) (h64 : f 64 = g 64) (h128 : f 128 = g 128)
    {x : Nat} (hx : x < 256) : f x = g x := by
  have h := all1_of bitsOf_all hx
  simp only [Bool.and_eq_true, Bool.or_eq_true, beq_iff_eq] at h
  obtain ⟨he, ⟨⟨⟨⟨⟨⟨⟨c1, c2⟩, c4⟩, c8⟩, c16⟩, c32⟩, c64⟩, c128⟩⟩ := h
  rw [← he]
  unfold bitsOf
  have z := hf.zero
  have z' := hg.zero
  have k1 : f (x &&& 1) = g (x &&& 1) ∧ (x &&& 1) < 256 := by rcases c1 with e | e <;> rw [e] <;> simp_all
  have k2 : f (x &&& 2) = g (x &&& 2) ∧ (x &&& 2) < 256 := by rcases c2 with e | e <;> rw [e] <;> simp_all
  have k4 : f (x &&& 4) = g (x &&& 4) ∧ (x &&& 4) < 256 := by rcases c4 with e | e <;> rw [e] <;> simp_all
  have k8 : f (x &&& 8) = g (x &&& 8) ∧ (x &&& 8) < 256 := by rcases c8 with e | e <;> rw [e] <;> simp_all
  have k16 : f (x &&& 16) = g (x &&& 16) ∧ (x &&& 16) < 256 := by rcases c16 with e | e <;> rw [e] <;> simp_all
  have k32 : f (x &&& 32) = g (x &&& 32) ∧ (x &&& 32) < 256 := by rcases c32 with e | e <;> rw [e] <;> simp_all
  have k64 : f (x &&& 64) = g (x &&& 64) ∧ (x &&& 64) < 256 := by rcases c64 with e | e <;> rw [e] <;> simp_all
  have k128 : f (x &&& 128) = g (x &&& 128) ∧ (x &&& 128) < 256 := by rcases c128 with e | e <;> rw [e] <;> simp_all
  generalize x &&& 1 = x1 at *
  generalize x &&& 2 = x2 at *
  generalize x &&& 4 = x4 at *
  generalize x &&& 8 = x8 at *
  generalize x &&& 16 = x16 at *
  generalize x &&& 32 = x32 at *
  generalize x &&& 64 = x64 at *
  generalize x &&& 128 = x128 at *
  have l2 := xor_lt k1.2 k2.2
  have l4 := xor_lt l2 k4.2
  have l8 := xor_lt l4 k8.2
  have l16 := xor_lt l8 k16.2
  have l32 := xor_lt l16 k32.2
  have l64 := xor_lt l32 k64.2
  rw [hf.add _ _ l64 k128.2, hf.add _ _ l32 k64.2, hf.add _ _ l16 k32.2, hf.add _ _ l8 k16.2, hf.add _ _ l4 k8.2, hf.add _ _ l2 k4.2, hf.add _ _ k1.2 k2.2,
    hg.add _ _ l64 k128.2, hg.add _ _ l32 k64.2, hg.add _ _ l16 k32.2, hg.add _ _ l8 k16.2, hg.add _ _ l4 k8.2, hg.add _ _ l2 k4.2, hg.add _ _ k1.2 k2.2,
    k1.1, k2.1, k4.1, k8.1, k16.1, k32.1, k64.1, k128.1]
theorem lin_mul {a : Nat} : Lin (mulN a) := ⟨mulN_zero a, fun b c _ _ => mulN_xor a b c⟩
theorem lin_mulL {b : Nat} (hb : b < 256) : Lin (fun a => mulN a b) := ⟨by show mulN 0 b = 0; rw [mulN_comm (by decide) hb, mulN_zero], fun a c ha hc => mulN_xor_left ha hc hb⟩
theorem Lin.comp {f g : Nat → Nat} (hf : Lin f) (hg : Lin g) (hl : ∀ x, x < 256 → g x < 256) : Lin (fun x => f (g x)) :=
  ⟨by show f (g 0) = 0; rw [hg.zero, hf.zero], fun a b ha hb => by show f (g (a ^^^ b)) = _; rw [hg.add a b ha hb, hf.add _ _ (hl a ha) (hl b hb)]⟩
theorem Lin.xor {f g : Nat → Nat} (hf : Lin f) (hg : Lin g) : Lin (fun x => f x ^^^ g x) :=
  ⟨by show f 0 ^^^ g 0 = 0; rw [hf.zero, hg.zero]; rfl, fun a b ha hb => by show f (a ^^^ b) ^^^ g (a ^^^ b) = _; rw [hf.add a b ha hb, hg.add a b ha hb]; ac_rfl⟩
def P8 : List Nat := [1, 2, 4, 8, 16, 32, 64, 128]
theorem P8_lt {p : Nat} (h : p ∈ P8) : p < 256 := by
  simp only [P8, List.mem_cons, List.not_mem_nil, or_false] at h
  omega
theorem Lin.same {f g : Nat → Nat} (hf : Lin f) (hg : Lin g) (h : ∀ p ∈ P8, f p = g p) {x : Nat} (hx : x < 256) : f x = g x :=
  hf.ext hg (h 1 (by decide)) (h 2 (by decide)) (h 4 (by decide)) (h 8 (by decide)) (h 16 (by decide)) (h 32 (by decide)) (h 64 (by decide)) (h 128 (by decide)) hx
theorem assoc_basis : P8.all (fun i => P8.all fun j => P8.all fun k => mulN (mulN i j) k == mulN i (mulN j k)) = true := by kernel_rfl
theorem mulN_assoc {a b c : Nat} (ha : a < 256) (hb : b < 256) (hc : c < 256) : mulN (mulN a b) c = mulN a (mulN b c) := by
  refine Lin.same (f := fun c => mulN (mulN a b) c) (g := fun c => mulN a (mulN b c)) lin_mul (lin_mul.comp lin_mul fun x hx => mulN_lt hb) (fun k hk => ?_) hc
  refine Lin.same (f := fun b => mulN (mulN a b) k) (g := fun b => mulN a (mulN b k)) ((lin_mulL (P8_lt hk)).comp lin_mul fun x _ => mulN_lt ha) (lin_mul.comp (lin_mulL (P8_lt hk)) fun x hx => mulN_lt hx) (fun j hj => ?_) hb
  refine Lin.same (f := fun a => mulN (mulN a j) k) (g := fun a => mulN a (mulN j k)) ((lin_mulL (P8_lt hk)).comp (lin_mulL (P8_lt hj)) fun x hx => mulN_lt hx) (lin_mulL (mulN_lt (P8_lt hj))) (fun i hi => ?_) ha
  have := List.all_eq_true.1 (List.all_eq_true.1 (List.all_eq_true.1 assoc_basis i hi) j hj) k hk
  simpa using this
theorem mulN_null_all : all2 (fun a b => (mulN a b == 0) == (a == 0 || b == 0)) = true := by kernel_rfl
theorem mulN_null {a b : Nat} (ha : a < 256) (hb : b < 256) : (mulN a b == 0) = (a == 0 || b == 0) := by simpa using all2_of mulN_null_all ha hb
theorem square_add {a b : Nat} (ha : a < 256) (hb : b < 256) : mulN (a ^^^ b) (a ^^^ b) = mulN a a ^^^ mulN b b := by
  rw [mulN_xor, mulN_xor_left ha hb ha, mulN_xor_left ha hb hb, mulN_comm hb ha]
  have e : (mulN a a ^^^ mulN a b ^^^ (mulN a b ^^^ mulN b b)) = mulN a a ^^^ (mulN a b ^^^ mulN a b) ^^^ mulN b b := by ac_rfl
  rw [e, Nat.xor_self, Nat.xor_zero]
/-- a byte multiplied with itself so often. -/
def powN (a : Nat) : Nat → Nat
  | 0 => 1
  | n + 1 => mulN (powN a n) a
theorem powN_lt (a : Nat) (n : Nat) : powN a n < 256 := by
  induction n with
  | zero => show 1 < 256; decide
  | succ n ih => exact mulN_lt ih
theorem powN_add {a : Nat} (ha : a < 256) (m n : Nat) : powN a (m + n) = mulN (powN a m) (powN a n) := by
  induction n with
  | zero => rw [Nat.add_zero]; show _ = mulN _ 1; rw [mulN_one]
  | succ n ih => rw [← Nat.add_assoc, powN, ih, powN, mulN_assoc (powN_lt a m) (powN_lt a n) ha]
theorem powN_mul {a : Nat} (ha : a < 256) (m n : Nat) : powN a (m * n) = powN (powN a m) n := by
  induction n with
  | zero => rfl
  | succ n ih => rw [Nat.mul_succ, powN_add ha, ih, powN]
def T15 : List Nat := [0, 1, 47, 53, 57, 102, 194, 239, 29, 232, 64, 102, 1, 1, 102, 171, 54, 211, 171, 74, 53, 8, 64, 53, 47, 239, 47, 99, 64, 171, 239, 179, 179, 29, 232, 239, 239, 54, 8, 211, 194, 29, 99, 232, 53, 74, 194, 53, 57, 99, 102, 8, 57, 54, 211, 102, 53, 102, 239, 53, 102, 239, 74, 179, 74, 29, 54, 102, 171, 211, 102, 232, 102, 29, 179, 171, 99, 102, 232, 8, 1, 1, 54, 74, 211, 179, 171, 99, 194, 171, 8, 57, 1, 1, 194, 57, 29, 47, 211, 47, 64, 232, 99, 54, 29, 8, 179, 57, 232, 74, 64, 57, 194, 102, 64, 211, 102, 179, 194, 54, 64, 47, 102, 47, 8, 99, 74, 102, 8, 171, 54, 232, 179, 99, 64, 74, 239, 211, 232, 194, 64, 194, 171, 239, 64, 239, 54, 171, 74, 8, 239, 29, 211, 57, 64, 179, 171, 57, 99, 29, 47, 232, 47, 194, 179, 194, 8, 54, 232, 57, 74, 239, 239, 57, 211, 99, 1, 1, 239, 8, 99, 239, 29, 54, 47, 74, 47, 179, 1, 1, 29, 211, 54, 47, 57, 47, 232, 171, 57, 74, 53, 99, 171, 53, 211, 232, 179, 8, 54, 179, 99, 194, 74, 194, 29, 171, 171, 47, 8, 47, 53, 211, 29, 53, 1, 1, 64, 99, 53, 54, 232, 53, 64, 8, 74, 211, 1, 1, 179, 232, 53, 179, 57, 53, 64, 54, 57, 29, 99, 74, 211, 194, 8, 194, 64, 29]
theorem T15_is : (List.range 256).map (fun a => powN a 15) = T15 := by kernel_rfl
theorem T17_is : T15.map (fun q => powN q 17) = 0 :: List.replicate 255 1 := by kernel_rfl
theorem pow255 {a : Nat} (ha : a < 256) : powN a 255 = if a = 0 then 0 else 1 := by
  have h1 : ((List.range 256).map (fun a => powN a 15)).map (fun q => powN q 17) = 0 :: List.replicate 255 1 := by rw [T15_is, T17_is]
  have h2 := congrArg (·[a]?) h1
  simp only [List.map_map, List.getElem?_map, List.getElem?_range ha, Option.map_some, Function.comp] at h2
  rw [show 255 = 15 * 17 from rfl, powN_mul ha]
  cases a with
  | zero => exact Option.some.inj h2
  | succ a =>
    rw [List.getElem?_cons_succ, List.getElem?_replicate, if_pos (by omega)] at h2
    rw [Option.some.inj h2, if_neg (by omega)]
theorem lin_id : Lin (fun x => x) := ⟨rfl, fun _ _ _ _ => rfl⟩
end Go.Proofs.YtancchoelmdaiaaGreatDoor
namespace Go.Proofs.YtancchoelmdaiaaGreatDoor

/-- four bytes. -/
structure C4 where
  a : Nat
  b : Nat
  c : Nat
  d : Nat
structure C4.Ok (x : C4) : Prop where
  a : x.a < 256
  b : x.b < 256
  c : x.c < 256
  d : x.d < 256
def mixC (x : C4) : C4 :=
  ⟨mulN 2 x.a ^^^ mulN 3 x.b ^^^ x.c ^^^ x.d, mulN 2 x.b ^^^ mulN 3 x.c ^^^ x.d ^^^ x.a, mulN 2 x.c ^^^ mulN 3 x.d ^^^ x.a ^^^ x.b, mulN 2 x.d ^^^ mulN 3 x.a ^^^ x.b ^^^ x.c⟩
def xorC (x y : C4) : C4 := ⟨x.a ^^^ y.a, x.b ^^^ y.b, x.c ^^^ y.c, x.d ^^^ y.d⟩
theorem mixC_ok {x : C4} (h : x.Ok) : (mixC x).Ok :=
  ⟨xor_lt (xor_lt (xor_lt (mulN_lt (by decide)) (mulN_lt (by decide))) h.c) h.d, xor_lt (xor_lt (xor_lt (mulN_lt (by decide)) (mulN_lt (by decide))) h.d) h.a,
   xor_lt (xor_lt (xor_lt (mulN_lt (by decide)) (mulN_lt (by decide))) h.a) h.b, xor_lt (xor_lt (xor_lt (mulN_lt (by decide)) (mulN_lt (by decide))) h.b) h.c⟩
theorem mixC_xor (x y : C4) : mixC (xorC x y) = xorC (mixC x) (mixC y) := by
  simp only [mixC, xorC, mulN_xor]
  congr 1 <;> ac_rfl
theorem mixC_turn (x : C4) : mixC ⟨x.b, x.c, x.d, x.a⟩ = ⟨(mixC x).b, (mixC x).c, (mixC x).d, (mixC x).a⟩ := rfl
theorem one_all : all1 (fun a => mulN 2 a ^^^ mulN 3 a ^^^ a ^^^ a == a) = true := by kernel_rfl
theorem mixC_same {a : Nat} (ha : a < 256) : mixC ⟨a, a, a, a⟩ = ⟨a, a, a, a⟩ := by
  have : mulN 2 a ^^^ mulN 3 a ^^^ a ^^^ a = a := by simpa using all1_of one_all ha
  simp only [mixC, this]
theorem sq_all : all1 (fun x => (mulN 2 (mulN 2 x) ^^^ mulN 3 x ^^^ x ^^^ mulN 3 x == mulN 5 x) && (mulN 2 (mulN 3 x) ^^^ mulN 3 (mulN 2 x) ^^^ x ^^^ x == 0) && (mulN 2 x ^^^ mulN 3 (mulN 3 x) ^^^ mulN 2 x ^^^ x == mulN 4 x) && (mulN 2 x ^^^ mulN 3 x ^^^ mulN 3 x ^^^ mulN 2 x == 0)
    && (mulN 5 (mulN 5 x) ^^^ mulN 4 (mulN 4 x) == x) && (mulN 5 (mulN 4 x) ^^^ mulN 4 (mulN 5 x) == 0)) = true := by kernel_rfl
theorem sq_at {x : Nat} (hx : x < 256) : (mulN 2 (mulN 2 x) ^^^ mulN 3 x ^^^ x ^^^ mulN 3 x = mulN 5 x) ∧ (mulN 2 (mulN 3 x) ^^^ mulN 3 (mulN 2 x) ^^^ x ^^^ x = 0) ∧ (mulN 2 x ^^^ mulN 3 (mulN 3 x) ^^^ mulN 2 x ^^^ x = mulN 4 x) ∧ (mulN 2 x ^^^ mulN 3 x ^^^ mulN 3 x ^^^ mulN 2 x = 0)
    ∧ (mulN 5 (mulN 5 x) ^^^ mulN 4 (mulN 4 x) = x) ∧ (mulN 5 (mulN 4 x) ^^^ mulN 4 (mulN 5 x) = 0) := by
  have := all1_of sq_all hx
  simp only [Bool.and_eq_true, beq_iff_eq] at this
  obtain ⟨⟨⟨⟨⟨h1, h2⟩, h3⟩, h4⟩, h5⟩, h6⟩ := this
  exact ⟨h1, h2, h3, h4, h5, h6⟩
theorem coord2 {a b c d : Nat} (ha : a < 256) (hb : b < 256) (hc : c < 256) (hd : d < 256) :
    mulN 2 (mulN 2 a ^^^ mulN 3 b ^^^ c ^^^ d) ^^^ mulN 3 (mulN 2 b ^^^ mulN 3 c ^^^ d ^^^ a) ^^^ (mulN 2 c ^^^ mulN 3 d ^^^ a ^^^ b) ^^^ (mulN 2 d ^^^ mulN 3 a ^^^ b ^^^ c) = mulN 5 a ^^^ mulN 4 c := by
  obtain ⟨a1, _, _, _, _, _⟩ := sq_at ha
  obtain ⟨_, b2, _, _, _, _⟩ := sq_at hb
  obtain ⟨_, _, c3, _, _, _⟩ := sq_at hc
  obtain ⟨_, _, _, d4, _, _⟩ := sq_at hd
  simp only [mulN_xor]
  have e : mulN 2 (mulN 2 a) ^^^ mulN 2 (mulN 3 b) ^^^ mulN 2 c ^^^ mulN 2 d ^^^ (mulN 3 (mulN 2 b) ^^^ mulN 3 (mulN 3 c) ^^^ mulN 3 d ^^^ mulN 3 a) ^^^ (mulN 2 c ^^^ mulN 3 d ^^^ a ^^^ b) ^^^ (mulN 2 d ^^^ mulN 3 a ^^^ b ^^^ c)
      = (mulN 2 (mulN 2 a) ^^^ mulN 3 a ^^^ a ^^^ mulN 3 a) ^^^ (mulN 2 (mulN 3 b) ^^^ mulN 3 (mulN 2 b) ^^^ b ^^^ b) ^^^ (mulN 2 c ^^^ mulN 3 (mulN 3 c) ^^^ mulN 2 c ^^^ c) ^^^ (mulN 2 d ^^^ mulN 3 d ^^^ mulN 3 d ^^^ mulN 2 d) := by ac_rfl
  rw [e, a1, b2, c3, d4]
  simp
theorem mixC_2 {x : C4} (h : x.Ok) : mixC (mixC x) = ⟨mulN 5 x.a ^^^ mulN 4 x.c, mulN 5 x.b ^^^ mulN 4 x.d, mulN 5 x.c ^^^ mulN 4 x.a, mulN 5 x.d ^^^ mulN 4 x.b⟩ := by
  have h1 := coord2 h.a h.b h.c h.d
  have h2 := coord2 h.b h.c h.d h.a
  have h3 := coord2 h.c h.d h.a h.b
  have h4 := coord2 h.d h.a h.b h.c
  rw [mixC, mixC]
  simp only [h1, h2, h3, h4]
theorem mixC_4 {x : C4} (h : x.Ok) : mixC (mixC (mixC (mixC x))) = x := by
  have k := mixC_ok (mixC_ok h)
  rw [mixC_2 k, mixC_2 h]
  have key : ∀ {a c : Nat}, a < 256 → c < 256 → mulN 5 (mulN 5 a ^^^ mulN 4 c) ^^^ mulN 4 (mulN 5 c ^^^ mulN 4 a) = a := fun {a c} ha hc => by
    obtain ⟨_, _, _, _, a5, _⟩ := sq_at ha
    obtain ⟨_, _, _, _, _, c6⟩ := sq_at hc
    simp only [mulN_xor]
    have e : mulN 5 (mulN 5 a) ^^^ mulN 5 (mulN 4 c) ^^^ (mulN 4 (mulN 5 c) ^^^ mulN 4 (mulN 4 a)) = (mulN 5 (mulN 5 a) ^^^ mulN 4 (mulN 4 a)) ^^^ (mulN 5 (mulN 4 c) ^^^ mulN 4 (mulN 5 c)) := by ac_rfl
    rw [e, a5, c6]
    simp
  simp only [key h.a h.c, key h.b h.d, key h.c h.a, key h.d h.b]
end Go.Proofs.YtancchoelmdaiaaGreatDoor
namespace Go.Proofs.YtancchoelmdaiaaGreatDoor

def TI : List Nat := [0, 1, 141, 246, 203, 82, 123, 209, 232, 79, 41, 192, 176, 225, 229, 199, 116, 180, 170, 75, 153, 43, 96, 95, 88, 63, 253, 204, 255, 64, 238, 178, 58, 110, 90, 241, 85, 77, 168, 201, 193, 10, 152, 21, 48, 68, 162, 194, 44, 69, 146, 108, 243, 57, 102, 66, 242, 53, 32, 111, 119, 187, 89, 25, 29, 254, 55, 103, 45, 49, 245, 105, 167, 100, 171, 19, 84, 37, 233, 9, 237, 92, 5, 202, 76, 36, 135, 191, 24, 62, 34, 240, 81, 236, 97, 23, 22, 94, 175, 211, 73, 166, 54, 67, 244, 71, 145, 223, 51, 147, 33, 59, 121, 183, 151, 133, 16, 181, 186, 60, 182, 112, 208, 6, 161, 250, 129, 130, 131, 126, 127, 128, 150, 115, 190, 86, 155, 158, 149, 217, 247, 2, 185, 164, 222, 106, 50, 109, 216, 138, 132, 114, 42, 20, 159, 136, 249, 220, 137, 154, 251, 124, 46, 195, 143, 184, 101, 72, 38, 200, 18, 74, 206, 231, 210, 98, 12, 224, 31, 239, 17, 117, 120, 113, 165, 142, 118, 61, 189, 188, 134, 87, 11, 40, 47, 163, 218, 212, 228, 15, 169, 39, 83, 4, 27, 252, 172, 230, 122, 7, 174, 99, 197, 219, 226, 234, 148, 139, 196, 213, 157, 248, 144, 107, 177, 13, 214, 235, 198, 14, 207, 173, 8, 78, 215, 227, 93, 80, 30, 179, 91, 35, 56, 52, 104, 70, 3, 140, 221, 156, 125, 160, 205, 26, 65, 28]
def TS : List Nat := [99, 124, 119, 123, 242, 107, 111, 197, 48, 1, 103, 43, 254, 215, 171, 118, 202, 130, 201, 125, 250, 89, 71, 240, 173, 212, 162, 175, 156, 164, 114, 192, 183, 253, 147, 38, 54, 63, 247, 204, 52, 165, 229, 241, 113, 216, 49, 21, 4, 199, 35, 195, 24, 150, 5, 154, 7, 18, 128, 226, 235, 39, 178, 117, 9, 131, 44, 26, 27, 110, 90, 160, 82, 59, 214, 179, 41, 227, 47, 132, 83, 209, 0, 237, 32, 252, 177, 91, 106, 203, 190, 57, 74, 76, 88, 207, 208, 239, 170, 251, 67, 77, 51, 133, 69, 249, 2, 127, 80, 60, 159, 168, 81, 163, 64, 143, 146, 157, 56, 245, 188, 182, 218, 33, 16, 255, 243, 210, 205, 12, 19, 236, 95, 151, 68, 23, 196, 167, 126, 61, 100, 93, 25, 115, 96, 129, 79, 220, 34, 42, 144, 136, 70, 238, 184, 20, 222, 94, 11, 219, 224, 50, 58, 10, 73, 6, 36, 92, 194, 211, 172, 98, 145, 149, 228, 121, 231, 200, 55, 109, 141, 213, 78, 169, 108, 86, 244, 234, 101, 122, 174, 8, 186, 120, 37, 46, 28, 166, 180, 198, 232, 221, 116, 31, 75, 189, 139, 138, 112, 62, 181, 102, 72, 3, 246, 14, 97, 53, 87, 185, 134, 193, 29, 158, 225, 248, 152, 17, 105, 217, 142, 148, 155, 30, 135, 233, 206, 85, 40, 223, 140, 161, 137, 13, 191, 230, 66, 104, 65, 153, 45, 15, 176, 84, 187, 22]
def TB : List Nat := [82, 9, 106, 213, 48, 54, 165, 56, 191, 64, 163, 158, 129, 243, 215, 251, 124, 227, 57, 130, 155, 47, 255, 135, 52, 142, 67, 68, 196, 222, 233, 203, 84, 123, 148, 50, 166, 194, 35, 61, 238, 76, 149, 11, 66, 250, 195, 78, 8, 46, 161, 102, 40, 217, 36, 178, 118, 91, 162, 73, 109, 139, 209, 37, 114, 248, 246, 100, 134, 104, 152, 22, 212, 164, 92, 204, 93, 101, 182, 146, 108, 112, 72, 80, 253, 237, 185, 218, 94, 21, 70, 87, 167, 141, 157, 132, 144, 216, 171, 0, 140, 188, 211, 10, 247, 228, 88, 5, 184, 179, 69, 6, 208, 44, 30, 143, 202, 63, 15, 2, 193, 175, 189, 3, 1, 19, 138, 107, 58, 145, 17, 65, 79, 103, 220, 234, 151, 242, 207, 206, 240, 180, 230, 115, 150, 172, 116, 34, 231, 173, 53, 133, 226, 249, 55, 232, 28, 117, 223, 110, 71, 241, 26, 113, 29, 41, 197, 137, 111, 183, 98, 14, 170, 24, 190, 27, 252, 86, 62, 75, 198, 210, 121, 32, 154, 219, 192, 254, 120, 205, 90, 244, 31, 221, 168, 51, 136, 7, 199, 49, 177, 18, 16, 89, 39, 128, 236, 95, 96, 81, 127, 169, 25, 181, 74, 13, 45, 229, 122, 159, 147, 201, 156, 239, 160, 224, 59, 77, 174, 42, 245, 176, 200, 235, 187, 60, 131, 83, 153, 97, 23, 43, 4, 126, 186, 119, 214, 38, 225, 105, 20, 99, 85, 33, 12, 125]
/-- what undoes a byte; what stands for it; what undoes that. -/
def invN (a : Nat) : Nat := TI.getD a 0
def subN (a : Nat) : Nat := TS.getD a 0
def backN (a : Nat) : Nat := TB.getD a 0
theorem inv_all : all1 (fun a => decide (invN a < 256) && decide (subN a < 256) && decide (backN a < 256) && (mulN a (invN a) == if a == 0 then 0 else 1) && (invN (invN a) == a) && (backN (subN a) == a) && (subN (backN a) == a) && (subN a != a) && ((subN a ^^^ a) != 255)) = true := by kernel_rfl
structure InvAt (a : Nat) : Prop where
  i : invN a < 256
  s : subN a < 256
  b : backN a < 256
  m : mulN a (invN a) = if a = 0 then 0 else 1
  ii : invN (invN a) = a
  bs : backN (subN a) = a
  sb : subN (backN a) = a
  n : subN a ≠ a
  n2 : subN a ^^^ a ≠ 255
theorem inv_at {a : Nat} (ha : a < 256) : InvAt a := by
  have := all1_of inv_all ha
  simp only [Bool.and_eq_true, beq_iff_eq, bne_iff_ne, decide_eq_true_eq] at this
  obtain ⟨⟨⟨⟨⟨⟨⟨⟨h1, h2⟩, h3⟩, h4⟩, h5⟩, h6⟩, h7⟩, h8⟩, h9⟩ := this
  exact ⟨h1, h2, h3, h4, h5, h6, h7, h8, h9⟩
/-- just one byte undoes another one. -/
theorem inv_one {a b : Nat} (ha : a < 256) (hb : b < 256) (h : mulN a b = 1) : b = invN a := by
  have h0 : a ≠ 0 := by
    rintro rfl
    rw [mulN_comm (by decide) hb, mulN_zero] at h
    cases h
  have hi := inv_at ha
  have hm := hi.m
  rw [if_neg h0] at hm
  have e : mulN (mulN (invN a) a) b = mulN (invN a) (mulN a b) := mulN_assoc hi.i ha hb
  rw [mulN_comm hi.i ha, hm, h, mulN_one, mulN_comm (by decide) hb, mulN_one] at e
  exact e
theorem back_one {a b : Nat} (hb : b < 256) (h : subN b = a) : b = backN a := by
  rw [← h]; exact (inv_at hb).bs.symm
/-- a byte bent: each bit the exclusive or of five, and one of 99. -/
def bitX (b i : Nat) : Nat := (b / 2 ^ i ^^^ b / 2 ^ ((i + 4) % 8) ^^^ b / 2 ^ ((i + 5) % 8) ^^^ b / 2 ^ ((i + 6) % 8) ^^^ b / 2 ^ ((i + 7) % 8) ^^^ 99 / 2 ^ i) % 2
def bentN (b : Nat) : Nat := bitX b 0 + 2 * bitX b 1 + 4 * bitX b 2 + 8 * bitX b 3 + 16 * bitX b 4 + 32 * bitX b 5 + 64 * bitX b 6 + 128 * bitX b 7
theorem bent_all : all1 (fun a => bentN (invN a) == subN a) = true := by kernel_rfl
theorem bent_inv {a : Nat} (ha : a < 256) : bentN (invN a) = subN a := by simpa using all1_of bent_all ha
/-- what stands for a byte, but for 99, is linear in what undoes it. -/
def linS (i : Nat) : Nat := bentN i ^^^ 99
theorem linS_bits : all1 (fun x => linS x == (pick1 (x.testBit 0) (linS 1) ^^^ pick1 (x.testBit 1) (linS 2) ^^^ pick1 (x.testBit 2) (linS 4) ^^^ pick1 (x.testBit 3) (linS 8) ^^^ pick1 (x.testBit 4) (linS 16) ^^^ pick1 (x.testBit 5) (linS 32) ^^^ pick1 (x.testBit 6) (linS 64) ^^^ pick1 (x.testBit 7) (linS 128))) = true := by kernel_rfl
theorem linS_xor {a b : Nat} (ha : a < 256) (hb : b < 256) : linS (a ^^^ b) = linS a ^^^ linS b := by
  have h1 := all1_of linS_bits ha
  have h2 := all1_of linS_bits hb
  have h3 := all1_of linS_bits (xor_lt ha hb)
  simp only [beq_iff_eq] at h1 h2 h3
  rw [h1, h2, h3]
  simp only [Nat.testBit_xor, pick1_xor]
  ac_rfl
theorem sub_shift {a b : Nat} (ha : a < 256) (hb : b < 256) : subN (invN (invN a ^^^ invN b)) = subN a ^^^ subN b ^^^ subN 0 := by
  have ia := (inv_at ha).i
  have ib := (inv_at hb).i
  have hx := xor_lt ia ib
  have ic := (inv_at hx).i
  rw [← bent_inv ic, (inv_at hx).ii, ← bent_inv ha, ← bent_inv hb]
  have h := linS_xor ia ib
  unfold linS at h
  have h0 : subN 0 = 99 := rfl
  rw [h0]
  have e : bentN (invN a ^^^ invN b) = (bentN (invN a ^^^ invN b) ^^^ 99) ^^^ 99 := by rw [Nat.xor_assoc, Nat.xor_self, Nat.xor_zero]
  rw [e, h]
  have e2 : bentN (invN a) ^^^ 99 ^^^ (bentN (invN b) ^^^ 99) ^^^ 99 = (bentN (invN a) ^^^ bentN (invN b) ^^^ 99) ^^^ (99 ^^^ 99) := by ac_rfl
  rw [e2, Nat.xor_self, Nat.xor_zero]
end Go.Proofs.YtancchoelmdaiaaGreatDoor
namespace Go.Proofs.YtancchoelmdaiaaGreatDoor

/-- a block: sixteen bytes. -/
structure Blk (s : List Nat) : Prop where
  len : s.length = 16
  lt : ∀ x ∈ s, x < 256
theorem list16 {α : Type} {s : List α} (h : s.length = 16) : ∃ a0 a1 a2 a3 a4 a5 a6 a7 a8 a9 a10 a11 a12 a13 a14 a15, s = [a0, a1, a2, a3, a4, a5, a6, a7, a8, a9, a10, a11, a12, a13, a14, a15] := by
  match s, h with
  | [a0, a1, a2, a3, a4, a5, a6, a7, a8, a9, a10, a11, a12, a13, a14, a15], _ => exact ⟨_, _, _, _, _, _, _, _, _, _, _, _, _, _, _, _, rfl⟩
/-- four bytes as a list. -/
def C4.nl (x : C4) : List Nat := [x.a, x.b, x.c, x.d]
theorem C4.nl_lt {x : C4} (h : x.Ok) : ∀ y ∈ x.nl, y < 256 := by
  intro y hy
  simp only [C4.nl, List.mem_cons, List.not_mem_nil, or_false] at hy
  rcases hy with rfl | rfl | rfl | rfl
  · exact h.a
  · exact h.b
  · exact h.c
  · exact h.d
/-- a column of a list. -/
def colN (s : List Nat) (c : Nat) : C4 := ⟨s.getD (4 * c) 0, s.getD (4 * c + 1) 0, s.getD (4 * c + 2) 0, s.getD (4 * c + 3) 0⟩
theorem getD_lt {s : List Nat} (h : ∀ x ∈ s, x < 256) (i : Nat) : s.getD i 0 < 256 := by
  rw [List.getD_eq_getElem?_getD]
  by_cases hi : i < s.length
  · rw [List.getElem?_eq_getElem hi]; exact h _ (List.getElem_mem hi)
  · rw [List.getElem?_eq_none (by omega)]; decide
theorem colN_ok {s : List Nat} (h : ∀ x ∈ s, x < 256) (c : Nat) : (colN s c).Ok := ⟨getD_lt h _, getD_lt h _, getD_lt h _, getD_lt h _⟩
def mixL (s : List Nat) : List Nat := (mixC (colN s 0)).nl ++ (mixC (colN s 1)).nl ++ (mixC (colN s 2)).nl ++ (mixC (colN s 3)).nl
def unC3 (x : C4) : C4 := mixC (mixC (mixC x))
def unmixL (s : List Nat) : List Nat := (unC3 (colN s 0)).nl ++ (unC3 (colN s 1)).nl ++ (unC3 (colN s 2)).nl ++ (unC3 (colN s 3)).nl
def shiftL (s : List Nat) (b : Nat) : List Nat := (List.range 16).map fun i => s.getD (4 * ((i / 4 + b * (i % 4)) % 4) + i % 4) 0
def xorB (a b : List Nat) : List Nat := List.zipWith (· ^^^ ·) a b
def subL (s : List Nat) : List Nat := s.map subN
def backL (s : List Nat) : List Nat := s.map backN

theorem Blk.map {s : List Nat} (h : Blk s) {f : Nat → Nat} (hf : ∀ x, x < 256 → f x < 256) : Blk (s.map f) :=
  ⟨by rw [List.length_map, h.len], fun x hx => by
    obtain ⟨y, hy, rfl⟩ := List.mem_map.1 hx
    exact hf y (h.lt y hy)⟩
theorem Blk.sub {s : List Nat} (h : Blk s) : Blk (subL s) := h.map fun _ hx => (inv_at hx).s
theorem Blk.back {s : List Nat} (h : Blk s) : Blk (backL s) := h.map fun _ hx => (inv_at hx).b
theorem backL_subL {s : List Nat} (h : Blk s) : backL (subL s) = s := by
  rw [backL, subL, List.map_map]
  conv => rhs; rw [← List.map_id s]
  exact List.map_congr_left fun x hx => (inv_at (h.lt x hx)).bs
theorem subL_backL {s : List Nat} (h : Blk s) : subL (backL s) = s := by
  rw [backL, subL, List.map_map]
  conv => rhs; rw [← List.map_id s]
  exact List.map_congr_left fun x hx => (inv_at (h.lt x hx)).sb
theorem Blk.xor {s k : List Nat} (h : Blk s) (hk : Blk k) : Blk (xorB s k) :=
  ⟨by rw [xorB, List.length_zipWith, h.len, hk.len]; rfl, fun x hx => by
    obtain ⟨i, hi, rfl⟩ := List.getElem_of_mem hx
    simp only [xorB, List.getElem_zipWith]
    exact xor_lt (h.lt _ (List.getElem_mem _)) (hk.lt _ (List.getElem_mem _))⟩
theorem xorB_xorB {s k : List Nat} (h : s.length = k.length) : xorB (xorB s k) k = s := by
  apply List.ext_getElem
  · simp [xorB, h]
  · intro i h1 h2
    simp only [xorB, List.getElem_zipWith]
    rw [Nat.xor_assoc, Nat.xor_self, Nat.xor_zero]
theorem Blk.shift {s : List Nat} (h : Blk s) (b : Nat) : Blk (shiftL s b) :=
  ⟨by simp [shiftL], fun x hx => by
    obtain ⟨y, hy, rfl⟩ := List.mem_map.1 hx
    exact getD_lt h.lt _⟩
theorem shift_31 {s : List Nat} (h : s.length = 16) : shiftL (shiftL s 1) 3 = s := by
  obtain ⟨a0, a1, a2, a3, a4, a5, a6, a7, a8, a9, a10, a11, a12, a13, a14, a15, rfl⟩ := list16 h
  rfl
theorem shift_13 {s : List Nat} (h : s.length = 16) : shiftL (shiftL s 3) 1 = s := by
  obtain ⟨a0, a1, a2, a3, a4, a5, a6, a7, a8, a9, a10, a11, a12, a13, a14, a15, rfl⟩ := list16 h
  rfl
theorem Blk.cols {f : C4 → C4} (hf : ∀ x : C4, x.Ok → (f x).Ok) {s : List Nat} (h : Blk s) : Blk ((f (colN s 0)).nl ++ (f (colN s 1)).nl ++ (f (colN s 2)).nl ++ (f (colN s 3)).nl) :=
  ⟨rfl, fun x hx => by
    simp only [List.mem_append] at hx
    rcases hx with ((hx | hx) | hx) | hx
    · exact C4.nl_lt (hf _ (colN_ok h.lt 0)) x hx
    · exact C4.nl_lt (hf _ (colN_ok h.lt 1)) x hx
    · exact C4.nl_lt (hf _ (colN_ok h.lt 2)) x hx
    · exact C4.nl_lt (hf _ (colN_ok h.lt 3)) x hx⟩
theorem Blk.mix {s : List Nat} (h : Blk s) : Blk (mixL s) := Blk.cols (fun _ => mixC_ok) h
theorem unC3_ok {x : C4} (h : x.Ok) : (unC3 x).Ok := mixC_ok (mixC_ok (mixC_ok h))
theorem Blk.unmix {s : List Nat} (h : Blk s) : Blk (unmixL s) := Blk.cols (fun _ => unC3_ok) h
theorem cols_cols {f g : C4 → C4} (s : List Nat) (hfg : ∀ c, g (f (colN s c)) = colN s c) (h : s.length = 16) (u : List Nat)
    (hu : u = (f (colN s 0)).nl ++ (f (colN s 1)).nl ++ (f (colN s 2)).nl ++ (f (colN s 3)).nl) : (g (colN u 0)).nl ++ (g (colN u 1)).nl ++ (g (colN u 2)).nl ++ (g (colN u 3)).nl = s := by
  have c0 : colN u 0 = f (colN s 0) := by rw [hu]; rfl
  have c1 : colN u 1 = f (colN s 1) := by rw [hu]; rfl
  have c2 : colN u 2 = f (colN s 2) := by rw [hu]; rfl
  have c3 : colN u 3 = f (colN s 3) := by rw [hu]; rfl
  rw [c0, c1, c2, c3, hfg, hfg, hfg, hfg]
  obtain ⟨a0, a1, a2, a3, a4, a5, a6, a7, a8, a9, a10, a11, a12, a13, a14, a15, rfl⟩ := list16 h
  rfl
theorem unmix_mix {s : List Nat} (h : Blk s) : unmixL (mixL s) = s :=
  cols_cols (f := mixC) (g := unC3) s (fun c => mixC_4 (colN_ok h.lt c)) h.len _ rfl
theorem mix_unmix {s : List Nat} (h : Blk s) : mixL (unmixL s) = s :=
  cols_cols (f := unC3) (g := mixC) s (fun c => mixC_4 (colN_ok h.lt c)) h.len _ rfl

/-- a round, and what undoes it; in the last one nothing is mixed. -/
def rndN (k : List Nat) (m : Bool) (s : List Nat) : List Nat := xorB (if m then mixL (shiftL (subL s) 1) else shiftL (subL s) 1) k
def undN (k : List Nat) (m : Bool) (s : List Nat) : List Nat := backL (shiftL (if m then unmixL (xorB s k) else xorB s k) 3)
theorem Blk.rnd {s k : List Nat} (h : Blk s) (hk : Blk k) (m : Bool) : Blk (rndN k m s) := by
  unfold rndN
  cases m
  · exact (h.sub.shift 1).xor hk
  · exact (h.sub.shift 1).mix.xor hk
theorem Blk.und {s k : List Nat} (h : Blk s) (hk : Blk k) (m : Bool) : Blk (undN k m s) := by
  unfold undN
  cases m
  · exact ((h.xor hk).shift 3).back
  · exact ((h.xor hk).unmix.shift 3).back
theorem und_rnd {s k : List Nat} (h : Blk s) (hk : Blk k) (m : Bool) : undN k m (rndN k m s) = s := by
  have h1 := h.sub.shift 1
  unfold undN rndN
  cases m
  · simp only [Bool.false_eq_true, if_false]
    rw [xorB_xorB (by rw [h1.len, hk.len]), shift_31 h.sub.len, backL_subL h]
  · simp only [if_true]
    rw [xorB_xorB (by rw [h1.mix.len, hk.len]), unmix_mix h1, shift_31 h.sub.len, backL_subL h]
theorem rnd_und {s k : List Nat} (h : Blk s) (hk : Blk k) (m : Bool) : rndN k m (undN k m s) = s := by
  have h1 := h.xor hk
  unfold undN rndN
  cases m
  · simp only [Bool.false_eq_true, if_false]
    rw [subL_backL (h1.shift 3), shift_13 h1.len, xorB_xorB (by rw [h.len, hk.len])]
  · simp only [if_true]
    rw [subL_backL (h1.unmix.shift 3), shift_13 h1.unmix.len, mix_unmix h1, xorB_xorB (by rw [h.len, hk.len])]

/-- a block behind so many rounds of R. -/
def encN (K : Nat → List Nat) (R : Nat) (s : List Nat) : Nat → List Nat
  | 0 => xorB s (K 0)
  | i + 1 => rndN (K (i + 1)) (decide (i + 1 < R)) (encN K R s i)
/-- a block of which so many rounds are undone, from the last one on. -/
def decN (K : Nat → List Nat) (R : Nat) (s : List Nat) : Nat → List Nat
  | 0 => s
  | j + 1 => undN (K (R - j)) (decide (R - j < R)) (decN K R s j)
def encB (K : Nat → List Nat) (R : Nat) (s : List Nat) : List Nat := encN K R s R
def decB (K : Nat → List Nat) (R : Nat) (s : List Nat) : List Nat := xorB (decN K R s R) (K 0)
section
variable {K : Nat → List Nat} {R : Nat}
theorem encN_blk (hK : ∀ i, i ≤ R → Blk (K i)) {s : List Nat} (h : Blk s) : ∀ i, i ≤ R → Blk (encN K R s i)
  | 0, _ => h.xor (hK 0 (by omega))
  | i + 1, hi => (encN_blk hK h i (by omega)).rnd (hK (i + 1) hi) _
theorem decN_blk (hK : ∀ i, i ≤ R → Blk (K i)) {s : List Nat} (h : Blk s) : ∀ j, j ≤ R → Blk (decN K R s j)
  | 0, _ => h
  | j + 1, hj => (decN_blk hK h j (by omega)).und (hK (R - j) (by omega)) _
theorem encB_blk (hK : ∀ i, i ≤ R → Blk (K i)) {s : List Nat} (h : Blk s) : Blk (encB K R s) := encN_blk hK h R (Nat.le_refl _)
theorem decB_blk (hK : ∀ i, i ≤ R → Blk (K i)) {s : List Nat} (h : Blk s) : Blk (decB K R s) := (decN_blk hK h R (Nat.le_refl _)).xor (hK 0 (by omega))
theorem dec_enc (hK : ∀ i, i ≤ R → Blk (K i)) {s : List Nat} (h : Blk s) : decB K R (encB K R s) = s := by
  have key : ∀ j, j ≤ R → decN K R (encB K R s) j = encN K R s (R - j) := by
    intro j
    induction j with
    | zero => intro _; rfl
    | succ j ih =>
      intro hj
      obtain ⟨m, hm⟩ : ∃ m, R - j = m + 1 := ⟨R - j - 1, by omega⟩
      have e : R - (j + 1) = m := by omega
      show undN (K (R - j)) (decide (R - j < R)) (decN K R (encB K R s) j) = _
      rw [ih (by omega), e, hm]
      show undN (K (m + 1)) (decide (m + 1 < R)) (rndN (K (m + 1)) (decide (m + 1 < R)) (encN K R s m)) = _
      exact und_rnd (encN_blk hK h m (by omega)) (hK (m + 1) (by omega)) _
  unfold decB
  rw [key R (Nat.le_refl _), Nat.sub_self]
  show xorB (xorB s (K 0)) (K 0) = s
  exact xorB_xorB (by rw [h.len, (hK 0 (by omega)).len])
theorem enc_dec (hK : ∀ i, i ≤ R → Blk (K i)) {s : List Nat} (h : Blk s) : encB K R (decB K R s) = s := by
  have key : ∀ i, i ≤ R → encN K R (decB K R s) i = decN K R s (R - i) := by
    intro i
    induction i with
    | zero =>
      intro _
      show xorB (xorB (decN K R s R) (K 0)) (K 0) = decN K R s R
      exact xorB_xorB (by rw [(decN_blk hK h R (Nat.le_refl _)).len, (hK 0 (by omega)).len])
    | succ i ih =>
      intro hi
      obtain ⟨m, hm⟩ : ∃ m, R - i = m + 1 := ⟨R - i - 1, by omega⟩
      have e : R - (i + 1) = m := by omega
      have e2 : R - m = i + 1 := by omega
      show rndN (K (i + 1)) (decide (i + 1 < R)) (encN K R (decB K R s) i) = _
      rw [ih (by omega), e, hm]
      show rndN (K (i + 1)) (decide (i + 1 < R)) (undN (K (R - m)) (decide (R - m < R)) (decN K R s m)) = _
      rw [e2]
      exact rnd_und (decN_blk hK h m (by omega)) (hK (i + 1) (by omega)) _
  unfold encB
  rw [key R (Nat.le_refl _), Nat.sub_self]
  rfl
/-- unlike blocks are encrypted to unlike blocks. -/
theorem enc_inj (hK : ∀ i, i ≤ R → Blk (K i)) {s t : List Nat} (hs : Blk s) (ht : Blk t) (h : encB K R s = encB K R t) : s = t := by
  rw [← dec_enc hK hs, h, dec_enc hK ht]
end
end Go.Proofs.YtancchoelmdaiaaGreatDoor
namespace Go.Proofs.YtancchoelmdaiaaGreatDoor

/-- the first byte put together with c. -/
def hdX (c : Nat) : List Nat → List Nat
  | [] => []
  | x :: xs => (x ^^^ c) :: xs
/-- the word ahead, turned, where the rule asks for it. -/
def keyT (n i c : Nat) (t : List Nat) : List Nat :=
  let t1 := if i % n = 0 then hdX c (subL (t.drop 1 ++ t.take 1)) else t
  if n = 8 ∧ i % 8 = 4 then subL t1 else t1
/-- one word more. -/
def expS (n : Nat) (st : List Nat × Nat) (i : Nat) : List Nat × Nat :=
  (st.1 ++ xorB ((st.1.drop (4 * (i - n))).take 4) (keyT n i st.2 (st.1.drop (4 * i - 4))), if i % n = 0 then mulN 2 st.2 else st.2)
/-- so many words behind the key's own. -/
def expN (key : List Nat) (n : Nat) : Nat → List Nat × Nat
  | 0 => (key, 1)
  | j + 1 => expS n (expN key n j) (n + j)
/-- a key's round keys, one behind the other. -/
def expB (key : List Nat) : List Nat := (expN key (key.length / 4) (3 * (key.length / 4) + 28)).1
theorem hdX_len (c : Nat) (t : List Nat) : (hdX c t).length = t.length := by cases t <;> rfl
theorem keyT_len (n i c : Nat) {t : List Nat} (h : t.length = 4) : (keyT n i c t).length = 4 := by
  unfold keyT
  have h1 : (if i % n = 0 then hdX c (subL (t.drop 1 ++ t.take 1)) else t).length = 4 := by
    split
    · rw [hdX_len, subL, List.length_map, List.length_append, List.length_drop, List.length_take, h]; rfl
    · exact h
  dsimp only
  split
  · rw [subL, List.length_map]; exact h1
  · exact h1
theorem subL_lt {t : List Nat} (h : ∀ x ∈ t, x < 256) : ∀ x ∈ subL t, x < 256 := fun x hx => by
  obtain ⟨y, hy, rfl⟩ := List.mem_map.1 hx
  exact (inv_at (h y hy)).s
theorem hdX_lt {c : Nat} (hc : c < 256) {t : List Nat} (h : ∀ x ∈ t, x < 256) : ∀ x ∈ hdX c t, x < 256 := by
  cases t with
  | nil => exact h
  | cons y ys =>
    intro x hx
    rcases List.mem_cons.1 hx with rfl | hx
    · exact xor_lt (h y (List.mem_cons_self ..)) hc
    · exact h x (List.mem_cons_of_mem _ hx)
theorem keyT_lt (n i : Nat) {c : Nat} (hc : c < 256) {t : List Nat} (h : ∀ x ∈ t, x < 256) : ∀ x ∈ keyT n i c t, x < 256 := by
  unfold keyT
  have h1 : ∀ x ∈ (if i % n = 0 then hdX c (subL (t.drop 1 ++ t.take 1)) else t), x < 256 := by
    split
    · refine hdX_lt hc (subL_lt fun x hx => ?_)
      rcases List.mem_append.1 hx with hx | hx
      · exact h x (List.mem_of_mem_drop hx)
      · exact h x (List.mem_of_mem_take hx)
    · exact h
  dsimp only
  split
  · exact subL_lt h1
  · exact h1
theorem xorB_lt {a b : List Nat} (ha : ∀ x ∈ a, x < 256) (hb : ∀ x ∈ b, x < 256) : ∀ x ∈ xorB a b, x < 256 := fun x hx => by
  obtain ⟨i, hi, rfl⟩ := List.getElem_of_mem hx
  simp only [xorB, List.getElem_zipWith]
  exact xor_lt (ha _ (List.getElem_mem _)) (hb _ (List.getElem_mem _))
section
variable {key : List Nat} {n : Nat}
theorem expN_len (hk : key.length = 4 * n) (hn : 1 ≤ n) (j : Nat) : (expN key n j).1.length = 4 * (n + j) := by
  induction j with
  | zero => exact hk
  | succ j ih =>
    show (_ ++ xorB _ _).length = _
    rw [List.length_append, ih, xorB, List.length_zipWith, keyT_len _ _ _ (by rw [List.length_drop, ih]; omega), List.length_take, List.length_drop, ih]
    omega
theorem expN_lt (hk : ∀ x ∈ key, x < 256) (j : Nat) : (∀ x ∈ (expN key n j).1, x < 256) ∧ (expN key n j).2 < 256 := by
  induction j with
  | zero => exact ⟨hk, (by decide : 1 < 256)⟩
  | succ j ih =>
    refine ⟨fun x hx => ?_, ?_⟩
    · rcases List.mem_append.1 hx with hx | hx
      · exact ih.1 x hx
      · exact xorB_lt (fun y hy => ih.1 y (List.mem_of_mem_drop (List.mem_of_mem_take hy))) (keyT_lt _ _ ih.2 fun y hy => ih.1 y (List.mem_of_mem_drop hy)) x hx
    · show (if (n + j) % n = 0 then mulN 2 (expN key n j).2 else (expN key n j).2) < 256
      split
      · exact mulN_lt (by decide)
      · exact ih.2
/-- what was there stays. -/
theorem expN_add (j m : Nat) : ∃ r, (expN key n (j + m)).1 = (expN key n j).1 ++ r := by
  induction m with
  | zero => exact ⟨[], by simp⟩
  | succ m ih =>
    obtain ⟨r, hr⟩ := ih
    refine ⟨r ++ xorB (((expN key n (j + m)).1.drop (4 * (n + (j + m) - n))).take 4) (keyT n (n + (j + m)) (expN key n (j + m)).2 ((expN key n (j + m)).1.drop (4 * (n + (j + m)) - 4))), ?_⟩
    rw [← List.append_assoc, ← hr]
    rfl
theorem expN_take (hk : key.length = 4 * n) (hn : 1 ≤ n) {j J : Nat} (h : j ≤ J) : (expN key n J).1.take (4 * (n + j)) = (expN key n j).1 := by
  obtain ⟨m, rfl⟩ : ∃ m, J = j + m := ⟨J - j, by omega⟩
  obtain ⟨r, hr⟩ := expN_add (key := key) (n := n) j m
  rw [hr, ← expN_len hk hn j, List.take_left]
theorem getD_app_left {a b : List Nat} {i : Nat} (h : i < a.length) : (a ++ b).getD i 0 = a.getD i 0 := by
  rw [List.getD_eq_getElem?_getD, List.getD_eq_getElem?_getD, List.getElem?_append_left h]
theorem getD_app_right {a b : List Nat} {i : Nat} (h : a.length ≤ i) : (a ++ b).getD i 0 = b.getD (i - a.length) 0 := by
  rw [List.getD_eq_getElem?_getD, List.getD_eq_getElem?_getD, List.getElem?_append_right h]
theorem expN_get (hk : key.length = 4 * n) (hn : 1 ≤ n) {j J i : Nat} (h : j ≤ J) (hi : i < 4 * (n + j)) : (expN key n J).1.getD i 0 = (expN key n j).1.getD i 0 := by
  obtain ⟨m, rfl⟩ : ∃ m, J = j + m := ⟨J - j, by omega⟩
  obtain ⟨r, hr⟩ := expN_add (key := key) (n := n) j m
  rw [hr]
  exact getD_app_left (by rw [expN_len hk hn]; exact hi)
theorem xorB_getD {a b : List Nat} (h : a.length = b.length) (i : Nat) : (xorB a b).getD i 0 = a.getD i 0 ^^^ b.getD i 0 := by
  rw [List.getD_eq_getElem?_getD, List.getD_eq_getElem?_getD, List.getD_eq_getElem?_getD, xorB, List.getElem?_zipWith]
  by_cases hi : i < a.length
  · rw [List.getElem?_eq_getElem hi, List.getElem?_eq_getElem (by omega)]; rfl
  · rw [List.getElem?_eq_none (by omega), List.getElem?_eq_none (by omega)]; rfl
/-- a word's byte: that of the word n ahead, and of the one ahead as the rule has it. -/
theorem expN_word (hk : key.length = 4 * n) (hn : 1 ≤ n) {j J b : Nat} (h : j < J) (hb : b < 4) :
    (expN key n J).1.getD (4 * (n + j) + b) 0 = (expN key n J).1.getD (4 * j + b) 0 ^^^ (keyT n (n + j) (expN key n j).2 ((expN key n j).1.drop (4 * (n + j) - 4))).getD b 0 := by
  have hl := expN_len hk hn j
  rw [expN_get hk hn (j := j + 1) (J := J) (by omega) (by omega), expN_get hk hn (j := j) (J := J) (i := 4 * j + b) (by omega) (by omega)]
  show ((expN key n j).1 ++ xorB _ _).getD _ 0 = _
  rw [getD_app_right (by omega), xorB_getD (by rw [keyT_len _ _ _ (by rw [List.length_drop, hl]; omega), List.length_take, List.length_drop, hl]; omega)]
  congr 1
  · rw [List.getD_eq_getElem?_getD, List.getD_eq_getElem?_getD, hl, List.getElem?_take, List.getElem?_drop, if_pos (by omega)]
    congr 2
    omega
  · rw [hl]; congr 1; omega
/-- a word that the rule leaves alone. -/
theorem expN_plain (hk : key.length = 4 * n) (hn : 1 ≤ n) {j J b : Nat} (h : j < J) (hb : b < 4) (h1 : (n + j) % n ≠ 0) (h2 : ¬ (n = 8 ∧ (n + j) % 8 = 4)) :
    (expN key n J).1.getD (4 * (n + j) + b) 0 = (expN key n J).1.getD (4 * (n + j) + b - 4) 0 ^^^ (expN key n J).1.getD (4 * j + b) 0 := by
  rw [expN_word hk hn h hb, Nat.xor_comm]
  congr 1
  unfold keyT
  dsimp only
  rw [if_neg h2, if_neg h1, expN_get hk hn (j := j) (J := J) (i := 4 * (n + j) + b - 4) (by omega) (by omega), List.getD_eq_getElem?_getD, List.getD_eq_getElem?_getD, List.getElem?_drop]
  congr 2
  omega
end
theorem expB_len {key : List Nat} (h : key.length = 16 ∨ key.length = 32) : (expB key).length = 4 * key.length + 112 := by
  unfold expB
  rcases h with h | h
  · rw [expN_len (by rw [h]) (by rw [h]; decide), h]
  · rw [expN_len (by rw [h]) (by rw [h]; decide), h]
theorem expB_lt {key : List Nat} (hk : ∀ x ∈ key, x < 256) : ∀ x ∈ expB key, x < 256 := (expN_lt hk _).1
/-- a key's round keys begin with it. -/
theorem expB_take {key : List Nat} (h : key.length = 16 ∨ key.length = 32) : (expB key).take key.length = key := by
  unfold expB
  rcases h with h | h
  · have := expN_take (key := key) (n := key.length / 4) (by rw [h]) (by rw [h]; decide) (j := 0) (J := 3 * (key.length / 4) + 28) (by omega)
    rw [h] at this ⊢
    exact this
  · have := expN_take (key := key) (n := key.length / 4) (by rw [h]) (by rw [h]; decide) (j := 0) (J := 3 * (key.length / 4) + 28) (by omega)
    rw [h] at this ⊢
    exact this
theorem expB_inj {k l : List Nat} (h : k.length = 16 ∨ k.length = 32) (hl : l.length = k.length) (he : expB k = expB l) : k = l := by
  rw [← expB_take h, he, ← hl, expB_take (by rw [hl]; exact h)]
/-- the round keys, by their number. -/
def keyK (key : List Nat) (r : Nat) : List Nat := ((expB key).drop (16 * r)).take 16
/-- how many rounds. -/
def rndsN (key : List Nat) : Nat := key.length / 4 + 6
theorem keyK_blk {key : List Nat} (h : key.length = 16 ∨ key.length = 32) (hk : ∀ x ∈ key, x < 256) {r : Nat} (hr : r ≤ rndsN key) : Blk (keyK key r) :=
  ⟨by
    have := expB_len h
    unfold rndsN at hr
    rw [keyK, List.length_take, List.length_drop, this]
    omega, fun x hx => expB_lt hk x (List.mem_of_mem_drop (List.mem_of_mem_take hx))⟩
/-- a block, encrypted; decrypted. -/
def aesE (key s : List Nat) : List Nat := encB (keyK key) (rndsN key) s
def aesD (key s : List Nat) : List Nat := decB (keyK key) (rndsN key) s
section
variable {key s t : List Nat} (h : key.length = 16 ∨ key.length = 32) (hk : ∀ x ∈ key, x < 256)
include h hk
theorem aesE_blk (hs : Blk s) : Blk (aesE key s) := encB_blk (fun _ => keyK_blk h hk) hs
theorem aesD_blk (hs : Blk s) : Blk (aesD key s) := decB_blk (fun _ => keyK_blk h hk) hs
theorem aesD_E (hs : Blk s) : aesD key (aesE key s) = s := dec_enc (fun _ => keyK_blk h hk) hs
theorem aesE_D (hs : Blk s) : aesE key (aesD key s) = s := enc_dec (fun _ => keyK_blk h hk) hs
theorem aesE_inj (hs : Blk s) (ht : Blk t) (he : aesE key s = aesE key t) : s = t := enc_inj (fun _ => keyK_blk h hk) hs ht he
end
end Go.Proofs.YtancchoelmdaiaaGreatDoor
namespace Go.Proofs.YtancchoelmdaiaaGreatDoor

/-- the number of bytes, the highest one first. -/
def numB (L : List Nat) : Nat := L.foldl (fun a b => a * 256 + b) 0
theorem numB_snoc (L : List Nat) (x : Nat) : numB (L ++ [x]) = numB L * 256 + x := by simp [numB]
/-- k bytes of a number. -/
def dig : Nat → Nat → List Nat
  | 0, _ => []
  | k + 1, N => dig k (N / 256) ++ [N % 256]
theorem dig_len : ∀ k N, (dig k N).length = k
  | 0, _ => rfl
  | k + 1, N => by rw [dig, List.length_append, dig_len k]; rfl
theorem dig_lt : ∀ k N, ∀ x ∈ dig k N, x < 256
  | 0, _ => fun x hx => by cases hx
  | k + 1, N => fun x hx => by
    rcases List.mem_append.1 hx with h | h
    · exact dig_lt k _ x h
    · rw [List.mem_singleton] at h; subst h; exact Nat.mod_lt _ (by decide)
theorem numB_dig : ∀ k N, numB (dig k N) = N % 256 ^ k
  | 0, N => by rw [Nat.pow_zero, Nat.mod_one]; rfl
  | k + 1, N => by rw [dig, numB_snoc, numB_dig k, Nat.pow_succ, Nat.mul_comm (256 ^ k) 256, Nat.mod_mul]; omega
theorem dig_numB : ∀ k (L : List Nat), L.length = k → (∀ x ∈ L, x < 256) → dig k (numB L) = L
  | 0, L, h, _ => by rw [List.length_eq_zero_iff.1 h]; rfl
  | k + 1, L, h, hb => by
    have hne : L ≠ [] := fun e => by rw [e] at h; cases h
    have hd := List.dropLast_concat_getLast hne
    have hx : L.getLast hne < 256 := hb _ (List.getLast_mem hne)
    have hl : L.dropLast.length = k := by rw [List.length_dropLast, h]; rfl
    have hm : ∀ x ∈ L.dropLast, x < 256 := fun x hx => hb x (List.dropLast_subset L hx)
    generalize L.getLast hne = x at *
    generalize L.dropLast = M at *
    rw [← hd, numB_snoc, dig, show (numB M * 256 + x) / 256 = numB M by omega, show (numB M * 256 + x) % 256 = x by omega, dig_numB k M hl hm]
theorem numB_lt {k : Nat} {L : List Nat} (h : L.length = k) (hb : ∀ x ∈ L, x < 256) : numB L < 256 ^ k := by
  have := numB_dig k (numB L)
  rw [dig_numB k L h hb] at this
  rw [this]
  exact Nat.mod_lt _ (Nat.pow_pos (by decide))
theorem dig_mod (k N : Nat) : dig k (N % 256 ^ k) = dig k N := by
  rw [← numB_dig k N, dig_numB k _ (dig_len k N) (dig_lt k N)]
theorem dig_congr {k M N : Nat} (h : M % 256 ^ k = N % 256 ^ k) : dig k M = dig k N := by rw [← dig_mod k M, h, dig_mod]
theorem dig_inj {k M N : Nat} (h : dig k M = dig k N) : M % 256 ^ k = N % 256 ^ k := by rw [← numB_dig k M, h, numB_dig]

/-- the counter that is n further. -/
def nextN (c : List Nat) (n : Nat) : List Nat := dig 16 (numB c + n)
theorem nextN_blk (c : List Nat) (n : Nat) : Blk (nextN c n) := ⟨dig_len _ _, dig_lt _ _⟩
theorem nextN_add (c : List Nat) (m n : Nat) : nextN (nextN c m) n = nextN c (m + n) := by
  unfold nextN
  rw [numB_dig]
  apply dig_congr
  rw [Nat.add_mod, Nat.mod_mod, ← Nat.add_mod, Nat.add_assoc]
theorem nextN_zero {c : List Nat} (h : Blk c) : nextN c 0 = c := by
  unfold nextN
  rw [Nat.add_zero, dig_numB 16 c h.len h.lt]
theorem nextN_inj {c : List Nat} {m n : Nat} (hm : m < 256 ^ 15) (hn : n < 256 ^ 15) (h : nextN c m = nextN c n) : m = n := by
  have := dig_inj h
  have hp : (256 : Nat) ^ 16 = 340282366920938463463374607431768211456 := by decide
  have hp15 : (256 : Nat) ^ 15 = 1329227995784915872903807060280344576 := by decide
  rw [hp] at this
  rw [hp15] at hm hn
  omega
/-- a counter's own number tells all the others. -/
theorem nextN_num {c d : List Nat} {m n : Nat} (h : (numB c + m) % 256 ^ 16 = (numB d + n) % 256 ^ 16) : nextN c m = nextN d n := dig_congr h
theorem nextN_step (c : List Nat) (n : Nat) : nextN (nextN c n) 1 = nextN c (n + 1) := nextN_add c n 1

/-- the i-th byte of the keys. -/
def kbN (key c : List Nat) (i : Nat) : Nat := (aesE key (nextN c (i / 16))).getD (i % 16) 0
def keysN (key c : List Nat) (n : Nat) : List Nat := (List.range n).map (kbN key c)
theorem keysN_len (key c : List Nat) (n : Nat) : (keysN key c n).length = n := by simp [keysN]
theorem keysN_get (key c : List Nat) {n i : Nat} (h : i < n) : (keysN key c n).getD i 0 = kbN key c i := by
  rw [keysN, List.getD_eq_getElem?_getD, List.getElem?_map, List.getElem?_range h]
  rfl
theorem keysN_take (key c : List Nat) {m n : Nat} (h : m ≤ n) : (keysN key c n).take m = keysN key c m := by
  rw [keysN, keysN, ← List.map_take, List.take_range, Nat.min_eq_left h]
theorem kbN_shift (key c : List Nat) (n i : Nat) : kbN key (nextN c n) i = kbN key c (16 * n + i) := by
  unfold kbN
  rw [nextN_add, show (16 * n + i) / 16 = n + i / 16 by omega, show (16 * n + i) % 16 = i % 16 by omega]
section
variable {key : List Nat} (h : key.length = 16 ∨ key.length = 32) (hk : ∀ x ∈ key, x < 256) (c : List Nat)
include h hk
theorem kbN_lt (i : Nat) : kbN key c i < 256 := by
  unfold kbN
  rw [List.getD_eq_getElem?_getD]
  cases e : (aesE key (nextN c (i / 16)))[i % 16]? with
  | none => exact (by decide : (0 : Nat) < 256)
  | some v => exact (aesE_blk h hk (nextN_blk c _)).lt v (List.mem_of_getElem? e)
theorem keysN_lt (n : Nat) : ∀ x ∈ keysN key c n, x < 256 := fun x hx => by
  obtain ⟨i, _, rfl⟩ := List.mem_map.1 hx
  exact kbN_lt h hk c i
theorem keysN_block (m : Nat) : keysN key c (16 * m + 16) = keysN key c (16 * m) ++ aesE key (nextN c m) := by
  have hl := (aesE_blk h hk (nextN_blk c m)).len
  apply List.ext_getElem?
  intro i
  by_cases hi : i < 16 * m
  · rw [List.getElem?_append_left (by rw [keysN_len]; exact hi), keysN, keysN, List.getElem?_map, List.getElem?_map, List.getElem?_range (by omega), List.getElem?_range hi]
  · rw [List.getElem?_append_right (by rw [keysN_len]; omega), keysN_len, keysN, List.getElem?_map]
    by_cases h2 : i < 16 * m + 16
    · rw [List.getElem?_range h2, Option.map_some, kbN, show i / 16 = m by omega, show i % 16 = i - 16 * m by omega, List.getD_eq_getElem?_getD, List.getElem?_eq_getElem (by omega)]
      rfl
    · rw [List.getElem?_eq_none (by simp; omega), List.getElem?_eq_none (by omega)]
      rfl
theorem keysN_mid {n i : Nat} (hi : 16 * i + 16 ≤ n) : ((keysN key c n).drop (16 * i)).take 16 = aesE key (nextN c i) := by
  have h1 := keysN_take key c (m := 16 * i + 16) (n := n) hi
  rw [keysN_block h hk] at h1
  have h2 := congrArg (fun l => l.drop (16 * i)) h1
  simp only [List.drop_take, List.drop_append_of_le_length (show 16 * i ≤ (keysN key c (16 * i)).length by rw [keysN_len]; exact Nat.le_refl _), List.drop_of_length_le (show (keysN key c (16 * i)).length ≤ 16 * i by rw [keysN_len]; exact Nat.le_refl _), List.nil_append] at h2
  rw [show 16 * i + 16 - 16 * i = 16 by omega] at h2
  exact h2
end
/-- a text, put together with the keys. -/
def xorS (key c s : List Nat) : List Nat := xorB s (keysN key c s.length)
theorem xorS_len (key c s : List Nat) : (xorS key c s).length = s.length := by rw [xorS, xorB, List.length_zipWith, keysN_len, Nat.min_self]
theorem xorS_get (key c s : List Nat) {i : Nat} (h : i < s.length) : (xorS key c s).getD i 0 = s.getD i 0 ^^^ kbN key c i := by
  rw [xorS, xorB_getD (keysN_len key c s.length).symm, keysN_get key c h]
theorem getD_ext {a b : List Nat} (hl : a.length = b.length) (h : ∀ i, i < a.length → a.getD i 0 = b.getD i 0) : a = b := by
  apply List.ext_getElem hl
  intro i h1 h2
  have := h i h1
  rwa [List.getD_eq_getElem?_getD, List.getD_eq_getElem?_getD, List.getElem?_eq_getElem h1, List.getElem?_eq_getElem h2] at this
theorem xorS_back (key c s : List Nat) : xorS key c (xorS key c s) = s := by
  apply getD_ext (by rw [xorS_len, xorS_len])
  intro i hi
  rw [xorS_len, xorS_len] at hi
  rw [xorS_get key c _ (by rw [xorS_len]; exact hi), xorS_get key c s hi, Nat.xor_assoc, Nat.xor_self, Nat.xor_zero]
theorem xorS_lt {key : List Nat} (h : key.length = 16 ∨ key.length = 32) (hk : ∀ x ∈ key, x < 256) (c : List Nat) {s : List Nat} (hs : ∀ x ∈ s, x < 256) : ∀ x ∈ xorS key c s, x < 256 := xorB_lt hs (keysN_lt h hk c _)
theorem xorS_parts (key c : List Nat) {a b : List Nat} {n : Nat} (ha : a.length = 16 * n) : xorS key c (a ++ b) = xorS key c a ++ xorS key (nextN c n) b := by
  apply getD_ext (by rw [xorS_len, List.length_append, List.length_append, xorS_len, xorS_len])
  intro i hi
  rw [xorS_len, List.length_append] at hi
  rw [xorS_get key c _ (by rw [List.length_append]; exact hi)]
  by_cases h : i < a.length
  · rw [getD_app_left h, getD_app_left (by rw [xorS_len]; exact h), xorS_get key c a h]
  · rw [getD_app_right (by omega), getD_app_right (by rw [xorS_len]; omega), xorS_len, xorS_get key _ b (by omega), kbN_shift, ← ha, show a.length + (i - a.length) = i by omega]
theorem xorS_zero (key c : List Nat) (n : Nat) : xorS key c (List.replicate n 0) = keysN key c n := by
  apply getD_ext (by rw [xorS_len, List.length_replicate, keysN_len])
  intro i hi
  rw [xorS_len, List.length_replicate] at hi
  rw [xorS_get key c _ (by rw [List.length_replicate]; exact hi), keysN_get key c hi, List.getD_eq_getElem?_getD, List.getElem?_replicate, if_pos hi]
  exact Nat.zero_xor _
theorem xorS_sums (key c : List Nat) {s t : List Nat} {i : Nat} (hs : i < s.length) (ht : i < t.length) : (xorS key c s).getD i 0 ^^^ (xorS key c t).getD i 0 = s.getD i 0 ^^^ t.getD i 0 := by
  rw [xorS_get key c s hs, xorS_get key c t ht, Nat.xor_assoc, Nat.xor_comm (kbN key c i), Nat.xor_assoc, Nat.xor_self, Nat.xor_zero]
end Go.Proofs.YtancchoelmdaiaaGreatDoor
namespace Go.Proofs.YtancchoelmdaiaaGreatDoor
def exK : List Nat := [0, 1, 2, 3, 4, 5, 6, 7, 8, 9, 10, 11, 12, 13, 14, 15]
def exB : List Nat := [0, 17, 34, 51, 68, 85, 102, 119, 136, 153, 170, 187, 204, 221, 238, 255]
def exE : List Nat := [0, 1, 2, 3, 4, 5, 6, 7, 8, 9, 10, 11, 12, 13, 14, 15, 214, 170, 116, 253, 210, 175, 114, 250, 218, 166, 120, 241, 214, 171, 118, 254, 182, 146, 207, 11, 100, 61, 189, 241, 190, 155, 197, 0, 104, 48, 179, 254, 182, 255, 116, 78, 210, 194, 201, 191, 108, 89, 12, 191, 4, 105, 191, 65, 71, 247, 247, 188, 149, 53, 62, 3, 249, 108, 50, 188, 253, 5, 141, 253, 60, 170, 163, 232, 169, 159, 157, 235, 80, 243, 175, 87, 173, 246, 34, 170, 94, 57, 15, 125, 247, 166, 146, 150, 167, 85, 61, 193, 10, 163, 31, 107, 20, 249, 112, 26, 227, 95, 226, 140, 68, 10, 223, 77, 78, 169, 192, 38, 71, 67, 135, 53, 164, 28, 101, 185, 224, 22, 186, 244, 174, 191, 122, 210, 84, 153, 50, 209, 240, 133, 87, 104, 16, 147, 237, 156, 190, 44, 151, 78, 19, 17, 29, 127, 227, 148, 74, 23, 243, 7, 167, 139, 77, 43, 48, 197]
theorem exp0 : expN exK 4 0 = (exK, 1) := rfl
theorem exp1 : expN exK 4 1 = ([0, 1, 2, 3, 4, 5, 6, 7, 8, 9, 10, 11, 12, 13, 14, 15, 214, 170, 116, 253], 2) := by
  show expS 4 (expN exK 4 0) (4 + 0) = _
  rw [exp0]
  kernel_rfl
theorem exp2 : expN exK 4 2 = ([0, 1, 2, 3, 4, 5, 6, 7, 8, 9, 10, 11, 12, 13, 14, 15, 214, 170, 116, 253, 210, 175, 114, 250], 2) := by
  show expS 4 (expN exK 4 1) (4 + 1) = _
  rw [exp1]
  kernel_rfl
theorem exp3 : expN exK 4 3 = ([0, 1, 2, 3, 4, 5, 6, 7, 8, 9, 10, 11, 12, 13, 14, 15, 214, 170, 116, 253, 210, 175, 114, 250, 218, 166, 120, 241], 2) := by
  show expS 4 (expN exK 4 2) (4 + 2) = _
  rw [exp2]
  kernel_rfl
theorem exp4 : expN exK 4 4 = ([0, 1, 2, 3, 4, 5, 6, 7, 8, 9, 10, 11, 12, 13, 14, 15, 214, 170, 116, 253, 210, 175, 114, 250, 218, 166, 120, 241, 214, 171, 118, 254], 2) := by
  show expS 4 (expN exK 4 3) (4 + 3) = _
  rw [exp3]
  kernel_rfl
theorem exp5 : expN exK 4 5 = ([0, 1, 2, 3, 4, 5, 6, 7, 8, 9, 10, 11, 12, 13, 14, 15, 214, 170, 116, 253, 210, 175, 114, 250, 218, 166, 120, 241, 214, 171, 118, 254, 182, 146, 207, 11], 4) := by
  show expS 4 (expN exK 4 4) (4 + 4) = _
  rw [exp4]
  kernel_rfl
theorem exp6 : expN exK 4 6 = ([0, 1, 2, 3, 4, 5, 6, 7, 8, 9, 10, 11, 12, 13, 14, 15, 214, 170, 116, 253, 210, 175, 114, 250, 218, 166, 120, 241, 214, 171, 118, 254, 182, 146, 207, 11, 100, 61, 189, 241], 4) := by
  show expS 4 (expN exK 4 5) (4 + 5) = _
  rw [exp5]
  kernel_rfl
theorem exp7 : expN exK 4 7 = ([0, 1, 2, 3, 4, 5, 6, 7, 8, 9, 10, 11, 12, 13, 14, 15, 214, 170, 116, 253, 210, 175, 114, 250, 218, 166, 120, 241, 214, 171, 118, 254, 182, 146, 207, 11, 100, 61, 189, 241, 190, 155, 197, 0], 4) := by
  show expS 4 (expN exK 4 6) (4 + 6) = _
  rw [exp6]
  kernel_rfl
theorem exp8 : expN exK 4 8 = ([0, 1, 2, 3, 4, 5, 6, 7, 8, 9, 10, 11, 12, 13, 14, 15, 214, 170, 116, 253, 210, 175, 114, 250, 218, 166, 120, 241, 214, 171, 118, 254, 182, 146, 207, 11, 100, 61, 189, 241, 190, 155, 197, 0, 104, 48, 179, 254], 4) := by
  show expS 4 (expN exK 4 7) (4 + 7) = _
  rw [exp7]
  kernel_rfl
theorem exp9 : expN exK 4 9 = ([0, 1, 2, 3, 4, 5, 6, 7, 8, 9, 10, 11, 12, 13, 14, 15, 214, 170, 116, 253, 210, 175, 114, 250, 218, 166, 120, 241, 214, 171, 118, 254, 182, 146, 207, 11, 100, 61, 189, 241, 190, 155, 197, 0, 104, 48, 179, 254, 182, 255, 116, 78], 8) := by
  show expS 4 (expN exK 4 8) (4 + 8) = _
  rw [exp8]
  kernel_rfl
theorem exp10 : expN exK 4 10 = ([0, 1, 2, 3, 4, 5, 6, 7, 8, 9, 10, 11, 12, 13, 14, 15, 214, 170, 116, 253, 210, 175, 114, 250, 218, 166, 120, 241, 214, 171, 118, 254, 182, 146, 207, 11, 100, 61, 189, 241, 190, 155, 197, 0, 104, 48, 179, 254, 182, 255, 116, 78, 210, 194, 201, 191], 8) := by
  show expS 4 (expN exK 4 9) (4 + 9) = _
  rw [exp9]
  kernel_rfl
theorem exp11 : expN exK 4 11 = ([0, 1, 2, 3, 4, 5, 6, 7, 8, 9, 10, 11, 12, 13, 14, 15, 214, 170, 116, 253, 210, 175, 114, 250, 218, 166, 120, 241, 214, 171, 118, 254, 182, 146, 207, 11, 100, 61, 189, 241, 190, 155, 197, 0, 104, 48, 179, 254, 182, 255, 116, 78, 210, 194, 201, 191, 108, 89, 12, 191], 8) := by
  show expS 4 (expN exK 4 10) (4 + 10) = _
  rw [exp10]
  kernel_rfl
theorem exp12 : expN exK 4 12 = ([0, 1, 2, 3, 4, 5, 6, 7, 8, 9, 10, 11, 12, 13, 14, 15, 214, 170, 116, 253, 210, 175, 114, 250, 218, 166, 120, 241, 214, 171, 118, 254, 182, 146, 207, 11, 100, 61, 189, 241, 190, 155, 197, 0, 104, 48, 179, 254, 182, 255, 116, 78, 210, 194, 201, 191, 108, 89, 12, 191, 4, 105, 191, 65], 8) := by
  show expS 4 (expN exK 4 11) (4 + 11) = _
  rw [exp11]
  kernel_rfl
theorem exp13 : expN exK 4 13 = ([0, 1, 2, 3, 4, 5, 6, 7, 8, 9, 10, 11, 12, 13, 14, 15, 214, 170, 116, 253, 210, 175, 114, 250, 218, 166, 120, 241, 214, 171, 118, 254, 182, 146, 207, 11, 100, 61, 189, 241, 190, 155, 197, 0, 104, 48, 179, 254, 182, 255, 116, 78, 210, 194, 201, 191, 108, 89, 12, 191, 4, 105, 191, 65, 71, 247, 247, 188], 16) := by
  show expS 4 (expN exK 4 12) (4 + 12) = _
  rw [exp12]
  kernel_rfl
theorem exp14 : expN exK 4 14 = ([0, 1, 2, 3, 4, 5, 6, 7, 8, 9, 10, 11, 12, 13, 14, 15, 214, 170, 116, 253, 210, 175, 114, 250, 218, 166, 120, 241, 214, 171, 118, 254, 182, 146, 207, 11, 100, 61, 189, 241, 190, 155, 197, 0, 104, 48, 179, 254, 182, 255, 116, 78, 210, 194, 201, 191, 108, 89, 12, 191, 4, 105, 191, 65, 71, 247, 247, 188, 149, 53, 62, 3], 16) := by
  show expS 4 (expN exK 4 13) (4 + 13) = _
  rw [exp13]
  kernel_rfl
theorem exp15 : expN exK 4 15 = ([0, 1, 2, 3, 4, 5, 6, 7, 8, 9, 10, 11, 12, 13, 14, 15, 214, 170, 116, 253, 210, 175, 114, 250, 218, 166, 120, 241, 214, 171, 118, 254, 182, 146, 207, 11, 100, 61, 189, 241, 190, 155, 197, 0, 104, 48, 179, 254, 182, 255, 116, 78, 210, 194, 201, 191, 108, 89, 12, 191, 4, 105, 191, 65, 71, 247, 247, 188, 149, 53, 62, 3, 249, 108, 50, 188], 16) := by
  show expS 4 (expN exK 4 14) (4 + 14) = _
  rw [exp14]
  kernel_rfl
theorem exp16 : expN exK 4 16 = ([0, 1, 2, 3, 4, 5, 6, 7, 8, 9, 10, 11, 12, 13, 14, 15, 214, 170, 116, 253, 210, 175, 114, 250, 218, 166, 120, 241, 214, 171, 118, 254, 182, 146, 207, 11, 100, 61, 189, 241, 190, 155, 197, 0, 104, 48, 179, 254, 182, 255, 116, 78, 210, 194, 201, 191, 108, 89, 12, 191, 4, 105, 191, 65, 71, 247, 247, 188, 149, 53, 62, 3, 249, 108, 50, 188, 253, 5, 141, 253], 16) := by
  show expS 4 (expN exK 4 15) (4 + 15) = _
  rw [exp15]
  kernel_rfl
theorem exp17 : expN exK 4 17 = ([0, 1, 2, 3, 4, 5, 6, 7, 8, 9, 10, 11, 12, 13, 14, 15, 214, 170, 116, 253, 210, 175, 114, 250, 218, 166, 120, 241, 214, 171, 118, 254, 182, 146, 207, 11, 100, 61, 189, 241, 190, 155, 197, 0, 104, 48, 179, 254, 182, 255, 116, 78, 210, 194, 201, 191, 108, 89, 12, 191, 4, 105, 191, 65, 71, 247, 247, 188, 149, 53, 62, 3, 249, 108, 50, 188, 253, 5, 141, 253, 60, 170, 163, 232], 32) := by
  show expS 4 (expN exK 4 16) (4 + 16) = _
  rw [exp16]
  kernel_rfl
theorem exp18 : expN exK 4 18 = ([0, 1, 2, 3, 4, 5, 6, 7, 8, 9, 10, 11, 12, 13, 14, 15, 214, 170, 116, 253, 210, 175, 114, 250, 218, 166, 120, 241, 214, 171, 118, 254, 182, 146, 207, 11, 100, 61, 189, 241, 190, 155, 197, 0, 104, 48, 179, 254, 182, 255, 116, 78, 210, 194, 201, 191, 108, 89, 12, 191, 4, 105, 191, 65, 71, 247, 247, 188, 149, 53, 62, 3, 249, 108, 50, 188, 253, 5, 141, 253, 60, 170, 163, 232, 169, 159, 157, 235], 32) := by
  show expS 4 (expN exK 4 17) (4 + 17) = _
  rw [exp17]
  kernel_rfl
theorem exp19 : expN exK 4 19 = ([0, 1, 2, 3, 4, 5, 6, 7, 8, 9, 10, 11, 12, 13, 14, 15, 214, 170, 116, 253, 210, 175, 114, 250, 218, 166, 120, 241, 214, 171, 118, 254, 182, 146, 207, 11, 100, 61, 189, 241, 190, 155, 197, 0, 104, 48, 179, 254, 182, 255, 116, 78, 210, 194, 201, 191, 108, 89, 12, 191, 4, 105, 191, 65, 71, 247, 247, 188, 149, 53, 62, 3, 249, 108, 50, 188, 253, 5, 141, 253, 60, 170, 163, 232, 169, 159, 157, 235, 80, 243, 175, 87], 32) := by
  show expS 4 (expN exK 4 18) (4 + 18) = _
  rw [exp18]
  kernel_rfl
theorem exp20 : expN exK 4 20 = ([0, 1, 2, 3, 4, 5, 6, 7, 8, 9, 10, 11, 12, 13, 14, 15, 214, 170, 116, 253, 210, 175, 114, 250, 218, 166, 120, 241, 214, 171, 118, 254, 182, 146, 207, 11, 100, 61, 189, 241, 190, 155, 197, 0, 104, 48, 179, 254, 182, 255, 116, 78, 210, 194, 201, 191, 108, 89, 12, 191, 4, 105, 191, 65, 71, 247, 247, 188, 149, 53, 62, 3, 249, 108, 50, 188, 253, 5, 141, 253, 60, 170, 163, 232, 169, 159, 157, 235, 80, 243, 175, 87, 173, 246, 34, 170], 32) := by
  show expS 4 (expN exK 4 19) (4 + 19) = _
  rw [exp19]
  kernel_rfl
theorem exp21 : expN exK 4 21 = ([0, 1, 2, 3, 4, 5, 6, 7, 8, 9, 10, 11, 12, 13, 14, 15, 214, 170, 116, 253, 210, 175, 114, 250, 218, 166, 120, 241, 214, 171, 118, 254, 182, 146, 207, 11, 100, 61, 189, 241, 190, 155, 197, 0, 104, 48, 179, 254, 182, 255, 116, 78, 210, 194, 201, 191, 108, 89, 12, 191, 4, 105, 191, 65, 71, 247, 247, 188, 149, 53, 62, 3, 249, 108, 50, 188, 253, 5, 141, 253, 60, 170, 163, 232, 169, 159, 157, 235, 80, 243, 175, 87, 173, 246, 34, 170, 94, 57, 15, 125], 64) := by
  show expS 4 (expN exK 4 20) (4 + 20) = _
  rw [exp20]
  kernel_rfl
theorem exp22 : expN exK 4 22 = ([0, 1, 2, 3, 4, 5, 6, 7, 8, 9, 10, 11, 12, 13, 14, 15, 214, 170, 116, 253, 210, 175, 114, 250, 218, 166, 120, 241, 214, 171, 118, 254, 182, 146, 207, 11, 100, 61, 189, 241, 190, 155, 197, 0, 104, 48, 179, 254, 182, 255, 116, 78, 210, 194, 201, 191, 108, 89, 12, 191, 4, 105, 191, 65, 71, 247, 247, 188, 149, 53, 62, 3, 249, 108, 50, 188, 253, 5, 141, 253, 60, 170, 163, 232, 169, 159, 157, 235, 80, 243, 175, 87, 173, 246, 34, 170, 94, 57, 15, 125, 247, 166, 146, 150], 64) := by
  show expS 4 (expN exK 4 21) (4 + 21) = _
  rw [exp21]
  kernel_rfl
theorem exp23 : expN exK 4 23 = ([0, 1, 2, 3, 4, 5, 6, 7, 8, 9, 10, 11, 12, 13, 14, 15, 214, 170, 116, 253, 210, 175, 114, 250, 218, 166, 120, 241, 214, 171, 118, 254, 182, 146, 207, 11, 100, 61, 189, 241, 190, 155, 197, 0, 104, 48, 179, 254, 182, 255, 116, 78, 210, 194, 201, 191, 108, 89, 12, 191, 4, 105, 191, 65, 71, 247, 247, 188, 149, 53, 62, 3, 249, 108, 50, 188, 253, 5, 141, 253, 60, 170, 163, 232, 169, 159, 157, 235, 80, 243, 175, 87, 173, 246, 34, 170, 94, 57, 15, 125, 247, 166, 146, 150, 167, 85, 61, 193], 64) := by
  show expS 4 (expN exK 4 22) (4 + 22) = _
  rw [exp22]
  kernel_rfl
theorem exp24 : expN exK 4 24 = ([0, 1, 2, 3, 4, 5, 6, 7, 8, 9, 10, 11, 12, 13, 14, 15, 214, 170, 116, 253, 210, 175, 114, 250, 218, 166, 120, 241, 214, 171, 118, 254, 182, 146, 207, 11, 100, 61, 189, 241, 190, 155, 197, 0, 104, 48, 179, 254, 182, 255, 116, 78, 210, 194, 201, 191, 108, 89, 12, 191, 4, 105, 191, 65, 71, 247, 247, 188, 149, 53, 62, 3, 249, 108, 50, 188, 253, 5, 141, 253, 60, 170, 163, 232, 169, 159, 157, 235, 80, 243, 175, 87, 173, 246, 34, 170, 94, 57, 15, 125, 247, 166, 146, 150, 167, 85, 61, 193, 10, 163, 31, 107], 64) := by
  show expS 4 (expN exK 4 23) (4 + 23) = _
  rw [exp23]
  kernel_rfl
theorem exp25 : expN exK 4 25 = ([0, 1, 2, 3, 4, 5, 6, 7, 8, 9, 10, 11, 12, 13, 14, 15, 214, 170, 116, 253, 210, 175, 114, 250, 218, 166, 120, 241, 214, 171, 118, 254, 182, 146, 207, 11, 100, 61, 189, 241, 190, 155, 197, 0, 104, 48, 179, 254, 182, 255, 116, 78, 210, 194, 201, 191, 108, 89, 12, 191, 4, 105, 191, 65, 71, 247, 247, 188, 149, 53, 62, 3, 249, 108, 50, 188, 253, 5, 141, 253, 60, 170, 163, 232, 169, 159, 157, 235, 80, 243, 175, 87, 173, 246, 34, 170, 94, 57, 15, 125, 247, 166, 146, 150, 167, 85, 61, 193, 10, 163, 31, 107, 20, 249, 112, 26], 128) := by
  show expS 4 (expN exK 4 24) (4 + 24) = _
  rw [exp24]
  kernel_rfl
theorem exp26 : expN exK 4 26 = ([0, 1, 2, 3, 4, 5, 6, 7, 8, 9, 10, 11, 12, 13, 14, 15, 214, 170, 116, 253, 210, 175, 114, 250, 218, 166, 120, 241, 214, 171, 118, 254, 182, 146, 207, 11, 100, 61, 189, 241, 190, 155, 197, 0, 104, 48, 179, 254, 182, 255, 116, 78, 210, 194, 201, 191, 108, 89, 12, 191, 4, 105, 191, 65, 71, 247, 247, 188, 149, 53, 62, 3, 249, 108, 50, 188, 253, 5, 141, 253, 60, 170, 163, 232, 169, 159, 157, 235, 80, 243, 175, 87, 173, 246, 34, 170, 94, 57, 15, 125, 247, 166, 146, 150, 167, 85, 61, 193, 10, 163, 31, 107, 20, 249, 112, 26, 227, 95, 226, 140], 128) := by
  show expS 4 (expN exK 4 25) (4 + 25) = _
  rw [exp25]
  kernel_rfl
theorem exp27 : expN exK 4 27 = ([0, 1, 2, 3, 4, 5, 6, 7, 8, 9, 10, 11, 12, 13, 14, 15, 214, 170, 116, 253, 210, 175, 114, 250, 218, 166, 120, 241, 214, 171, 118, 254, 182, 146, 207, 11, 100, 61, 189, 241, 190, 155, 197, 0, 104, 48, 179, 254, 182, 255, 116, 78, 210, 194, 201, 191, 108, 89, 12, 191, 4, 105, 191, 65, 71, 247, 247, 188, 149, 53, 62, 3, 249, 108, 50, 188, 253, 5, 141, 253, 60, 170, 163, 232, 169, 159, 157, 235, 80, 243, 175, 87, 173, 246, 34, 170, 94, 57, 15, 125, 247, 166, 146, 150, 167, 85, 61, 193, 10, 163, 31, 107, 20, 249, 112, 26, 227, 95, 226, 140, 68, 10, 223, 77], 128) := by
  show expS 4 (expN exK 4 26) (4 + 26) = _
  rw [exp26]
  kernel_rfl
theorem exp28 : expN exK 4 28 = ([0, 1, 2, 3, 4, 5, 6, 7, 8, 9, 10, 11, 12, 13, 14, 15, 214, 170, 116, 253, 210, 175, 114, 250, 218, 166, 120, 241, 214, 171, 118, 254, 182, 146, 207, 11, 100, 61, 189, 241, 190, 155, 197, 0, 104, 48, 179, 254, 182, 255, 116, 78, 210, 194, 201, 191, 108, 89, 12, 191, 4, 105, 191, 65, 71, 247, 247, 188, 149, 53, 62, 3, 249, 108, 50, 188, 253, 5, 141, 253, 60, 170, 163, 232, 169, 159, 157, 235, 80, 243, 175, 87, 173, 246, 34, 170, 94, 57, 15, 125, 247, 166, 146, 150, 167, 85, 61, 193, 10, 163, 31, 107, 20, 249, 112, 26, 227, 95, 226, 140, 68, 10, 223, 77, 78, 169, 192, 38], 128) := by
  show expS 4 (expN exK 4 27) (4 + 27) = _
  rw [exp27]
  kernel_rfl
theorem exp29 : expN exK 4 29 = ([0, 1, 2, 3, 4, 5, 6, 7, 8, 9, 10, 11, 12, 13, 14, 15, 214, 170, 116, 253, 210, 175, 114, 250, 218, 166, 120, 241, 214, 171, 118, 254, 182, 146, 207, 11, 100, 61, 189, 241, 190, 155, 197, 0, 104, 48, 179, 254, 182, 255, 116, 78, 210, 194, 201, 191, 108, 89, 12, 191, 4, 105, 191, 65, 71, 247, 247, 188, 149, 53, 62, 3, 249, 108, 50, 188, 253, 5, 141, 253, 60, 170, 163, 232, 169, 159, 157, 235, 80, 243, 175, 87, 173, 246, 34, 170, 94, 57, 15, 125, 247, 166, 146, 150, 167, 85, 61, 193, 10, 163, 31, 107, 20, 249, 112, 26, 227, 95, 226, 140, 68, 10, 223, 77, 78, 169, 192, 38, 71, 67, 135, 53], 27) := by
  show expS 4 (expN exK 4 28) (4 + 28) = _
  rw [exp28]
  kernel_rfl
theorem exp30 : expN exK 4 30 = ([0, 1, 2, 3, 4, 5, 6, 7, 8, 9, 10, 11, 12, 13, 14, 15, 214, 170, 116, 253, 210, 175, 114, 250, 218, 166, 120, 241, 214, 171, 118, 254, 182, 146, 207, 11, 100, 61, 189, 241, 190, 155, 197, 0, 104, 48, 179, 254, 182, 255, 116, 78, 210, 194, 201, 191, 108, 89, 12, 191, 4, 105, 191, 65, 71, 247, 247, 188, 149, 53, 62, 3, 249, 108, 50, 188, 253, 5, 141, 253, 60, 170, 163, 232, 169, 159, 157, 235, 80, 243, 175, 87, 173, 246, 34, 170, 94, 57, 15, 125, 247, 166, 146, 150, 167, 85, 61, 193, 10, 163, 31, 107, 20, 249, 112, 26, 227, 95, 226, 140, 68, 10, 223, 77, 78, 169, 192, 38, 71, 67, 135, 53, 164, 28, 101, 185], 27) := by
  show expS 4 (expN exK 4 29) (4 + 29) = _
  rw [exp29]
  kernel_rfl
theorem exp31 : expN exK 4 31 = ([0, 1, 2, 3, 4, 5, 6, 7, 8, 9, 10, 11, 12, 13, 14, 15, 214, 170, 116, 253, 210, 175, 114, 250, 218, 166, 120, 241, 214, 171, 118, 254, 182, 146, 207, 11, 100, 61, 189, 241, 190, 155, 197, 0, 104, 48, 179, 254, 182, 255, 116, 78, 210, 194, 201, 191, 108, 89, 12, 191, 4, 105, 191, 65, 71, 247, 247, 188, 149, 53, 62, 3, 249, 108, 50, 188, 253, 5, 141, 253, 60, 170, 163, 232, 169, 159, 157, 235, 80, 243, 175, 87, 173, 246, 34, 170, 94, 57, 15, 125, 247, 166, 146, 150, 167, 85, 61, 193, 10, 163, 31, 107, 20, 249, 112, 26, 227, 95, 226, 140, 68, 10, 223, 77, 78, 169, 192, 38, 71, 67, 135, 53, 164, 28, 101, 185, 224, 22, 186, 244], 27) := by
  show expS 4 (expN exK 4 30) (4 + 30) = _
  rw [exp30]
  kernel_rfl
theorem exp32 : expN exK 4 32 = ([0, 1, 2, 3, 4, 5, 6, 7, 8, 9, 10, 11, 12, 13, 14, 15, 214, 170, 116, 253, 210, 175, 114, 250, 218, 166, 120, 241, 214, 171, 118, 254, 182, 146, 207, 11, 100, 61, 189, 241, 190, 155, 197, 0, 104, 48, 179, 254, 182, 255, 116, 78, 210, 194, 201, 191, 108, 89, 12, 191, 4, 105, 191, 65, 71, 247, 247, 188, 149, 53, 62, 3, 249, 108, 50, 188, 253, 5, 141, 253, 60, 170, 163, 232, 169, 159, 157, 235, 80, 243, 175, 87, 173, 246, 34, 170, 94, 57, 15, 125, 247, 166, 146, 150, 167, 85, 61, 193, 10, 163, 31, 107, 20, 249, 112, 26, 227, 95, 226, 140, 68, 10, 223, 77, 78, 169, 192, 38, 71, 67, 135, 53, 164, 28, 101, 185, 224, 22, 186, 244, 174, 191, 122, 210], 27) := by
  show expS 4 (expN exK 4 31) (4 + 31) = _
  rw [exp31]
  kernel_rfl
theorem exp33 : expN exK 4 33 = ([0, 1, 2, 3, 4, 5, 6, 7, 8, 9, 10, 11, 12, 13, 14, 15, 214, 170, 116, 253, 210, 175, 114, 250, 218, 166, 120, 241, 214, 171, 118, 254, 182, 146, 207, 11, 100, 61, 189, 241, 190, 155, 197, 0, 104, 48, 179, 254, 182, 255, 116, 78, 210, 194, 201, 191, 108, 89, 12, 191, 4, 105, 191, 65, 71, 247, 247, 188, 149, 53, 62, 3, 249, 108, 50, 188, 253, 5, 141, 253, 60, 170, 163, 232, 169, 159, 157, 235, 80, 243, 175, 87, 173, 246, 34, 170, 94, 57, 15, 125, 247, 166, 146, 150, 167, 85, 61, 193, 10, 163, 31, 107, 20, 249, 112, 26, 227, 95, 226, 140, 68, 10, 223, 77, 78, 169, 192, 38, 71, 67, 135, 53, 164, 28, 101, 185, 224, 22, 186, 244, 174, 191, 122, 210, 84, 153, 50, 209], 54) := by
  show expS 4 (expN exK 4 32) (4 + 32) = _
  rw [exp32]
  kernel_rfl
theorem exp34 : expN exK 4 34 = ([0, 1, 2, 3, 4, 5, 6, 7, 8, 9, 10, 11, 12, 13, 14, 15, 214, 170, 116, 253, 210, 175, 114, 250, 218, 166, 120, 241, 214, 171, 118, 254, 182, 146, 207, 11, 100, 61, 189, 241, 190, 155, 197, 0, 104, 48, 179, 254, 182, 255, 116, 78, 210, 194, 201, 191, 108, 89, 12, 191, 4, 105, 191, 65, 71, 247, 247, 188, 149, 53, 62, 3, 249, 108, 50, 188, 253, 5, 141, 253, 60, 170, 163, 232, 169, 159, 157, 235, 80, 243, 175, 87, 173, 246, 34, 170, 94, 57, 15, 125, 247, 166, 146, 150, 167, 85, 61, 193, 10, 163, 31, 107, 20, 249, 112, 26, 227, 95, 226, 140, 68, 10, 223, 77, 78, 169, 192, 38, 71, 67, 135, 53, 164, 28, 101, 185, 224, 22, 186, 244, 174, 191, 122, 210, 84, 153, 50, 209, 240, 133, 87, 104], 54) := by
  show expS 4 (expN exK 4 33) (4 + 33) = _
  rw [exp33]
  kernel_rfl
theorem exp35 : expN exK 4 35 = ([0, 1, 2, 3, 4, 5, 6, 7, 8, 9, 10, 11, 12, 13, 14, 15, 214, 170, 116, 253, 210, 175, 114, 250, 218, 166, 120, 241, 214, 171, 118, 254, 182, 146, 207, 11, 100, 61, 189, 241, 190, 155, 197, 0, 104, 48, 179, 254, 182, 255, 116, 78, 210, 194, 201, 191, 108, 89, 12, 191, 4, 105, 191, 65, 71, 247, 247, 188, 149, 53, 62, 3, 249, 108, 50, 188, 253, 5, 141, 253, 60, 170, 163, 232, 169, 159, 157, 235, 80, 243, 175, 87, 173, 246, 34, 170, 94, 57, 15, 125, 247, 166, 146, 150, 167, 85, 61, 193, 10, 163, 31, 107, 20, 249, 112, 26, 227, 95, 226, 140, 68, 10, 223, 77, 78, 169, 192, 38, 71, 67, 135, 53, 164, 28, 101, 185, 224, 22, 186, 244, 174, 191, 122, 210, 84, 153, 50, 209, 240, 133, 87, 104, 16, 147, 237, 156], 54) := by
  show expS 4 (expN exK 4 34) (4 + 34) = _
  rw [exp34]
  kernel_rfl
theorem exp36 : expN exK 4 36 = ([0, 1, 2, 3, 4, 5, 6, 7, 8, 9, 10, 11, 12, 13, 14, 15, 214, 170, 116, 253, 210, 175, 114, 250, 218, 166, 120, 241, 214, 171, 118, 254, 182, 146, 207, 11, 100, 61, 189, 241, 190, 155, 197, 0, 104, 48, 179, 254, 182, 255, 116, 78, 210, 194, 201, 191, 108, 89, 12, 191, 4, 105, 191, 65, 71, 247, 247, 188, 149, 53, 62, 3, 249, 108, 50, 188, 253, 5, 141, 253, 60, 170, 163, 232, 169, 159, 157, 235, 80, 243, 175, 87, 173, 246, 34, 170, 94, 57, 15, 125, 247, 166, 146, 150, 167, 85, 61, 193, 10, 163, 31, 107, 20, 249, 112, 26, 227, 95, 226, 140, 68, 10, 223, 77, 78, 169, 192, 38, 71, 67, 135, 53, 164, 28, 101, 185, 224, 22, 186, 244, 174, 191, 122, 210, 84, 153, 50, 209, 240, 133, 87, 104, 16, 147, 237, 156, 190, 44, 151, 78], 54) := by
  show expS 4 (expN exK 4 35) (4 + 35) = _
  rw [exp35]
  kernel_rfl
theorem exp37 : expN exK 4 37 = ([0, 1, 2, 3, 4, 5, 6, 7, 8, 9, 10, 11, 12, 13, 14, 15, 214, 170, 116, 253, 210, 175, 114, 250, 218, 166, 120, 241, 214, 171, 118, 254, 182, 146, 207, 11, 100, 61, 189, 241, 190, 155, 197, 0, 104, 48, 179, 254, 182, 255, 116, 78, 210, 194, 201, 191, 108, 89, 12, 191, 4, 105, 191, 65, 71, 247, 247, 188, 149, 53, 62, 3, 249, 108, 50, 188, 253, 5, 141, 253, 60, 170, 163, 232, 169, 159, 157, 235, 80, 243, 175, 87, 173, 246, 34, 170, 94, 57, 15, 125, 247, 166, 146, 150, 167, 85, 61, 193, 10, 163, 31, 107, 20, 249, 112, 26, 227, 95, 226, 140, 68, 10, 223, 77, 78, 169, 192, 38, 71, 67, 135, 53, 164, 28, 101, 185, 224, 22, 186, 244, 174, 191, 122, 210, 84, 153, 50, 209, 240, 133, 87, 104, 16, 147, 237, 156, 190, 44, 151, 78, 19, 17, 29, 127], 108) := by
  show expS 4 (expN exK 4 36) (4 + 36) = _
  rw [exp36]
  kernel_rfl
theorem exp38 : expN exK 4 38 = ([0, 1, 2, 3, 4, 5, 6, 7, 8, 9, 10, 11, 12, 13, 14, 15, 214, 170, 116, 253, 210, 175, 114, 250, 218, 166, 120, 241, 214, 171, 118, 254, 182, 146, 207, 11, 100, 61, 189, 241, 190, 155, 197, 0, 104, 48, 179, 254, 182, 255, 116, 78, 210, 194, 201, 191, 108, 89, 12, 191, 4, 105, 191, 65, 71, 247, 247, 188, 149, 53, 62, 3, 249, 108, 50, 188, 253, 5, 141, 253, 60, 170, 163, 232, 169, 159, 157, 235, 80, 243, 175, 87, 173, 246, 34, 170, 94, 57, 15, 125, 247, 166, 146, 150, 167, 85, 61, 193, 10, 163, 31, 107, 20, 249, 112, 26, 227, 95, 226, 140, 68, 10, 223, 77, 78, 169, 192, 38, 71, 67, 135, 53, 164, 28, 101, 185, 224, 22, 186, 244, 174, 191, 122, 210, 84, 153, 50, 209, 240, 133, 87, 104, 16, 147, 237, 156, 190, 44, 151, 78, 19, 17, 29, 127, 227, 148, 74, 23], 108) := by
  show expS 4 (expN exK 4 37) (4 + 37) = _
  rw [exp37]
  kernel_rfl
theorem exp39 : expN exK 4 39 = ([0, 1, 2, 3, 4, 5, 6, 7, 8, 9, 10, 11, 12, 13, 14, 15, 214, 170, 116, 253, 210, 175, 114, 250, 218, 166, 120, 241, 214, 171, 118, 254, 182, 146, 207, 11, 100, 61, 189, 241, 190, 155, 197, 0, 104, 48, 179, 254, 182, 255, 116, 78, 210, 194, 201, 191, 108, 89, 12, 191, 4, 105, 191, 65, 71, 247, 247, 188, 149, 53, 62, 3, 249, 108, 50, 188, 253, 5, 141, 253, 60, 170, 163, 232, 169, 159, 157, 235, 80, 243, 175, 87, 173, 246, 34, 170, 94, 57, 15, 125, 247, 166, 146, 150, 167, 85, 61, 193, 10, 163, 31, 107, 20, 249, 112, 26, 227, 95, 226, 140, 68, 10, 223, 77, 78, 169, 192, 38, 71, 67, 135, 53, 164, 28, 101, 185, 224, 22, 186, 244, 174, 191, 122, 210, 84, 153, 50, 209, 240, 133, 87, 104, 16, 147, 237, 156, 190, 44, 151, 78, 19, 17, 29, 127, 227, 148, 74, 23, 243, 7, 167, 139], 108) := by
  show expS 4 (expN exK 4 38) (4 + 38) = _
  rw [exp38]
  kernel_rfl
theorem exp40 : expN exK 4 40 = ([0, 1, 2, 3, 4, 5, 6, 7, 8, 9, 10, 11, 12, 13, 14, 15, 214, 170, 116, 253, 210, 175, 114, 250, 218, 166, 120, 241, 214, 171, 118, 254, 182, 146, 207, 11, 100, 61, 189, 241, 190, 155, 197, 0, 104, 48, 179, 254, 182, 255, 116, 78, 210, 194, 201, 191, 108, 89, 12, 191, 4, 105, 191, 65, 71, 247, 247, 188, 149, 53, 62, 3, 249, 108, 50, 188, 253, 5, 141, 253, 60, 170, 163, 232, 169, 159, 157, 235, 80, 243, 175, 87, 173, 246, 34, 170, 94, 57, 15, 125, 247, 166, 146, 150, 167, 85, 61, 193, 10, 163, 31, 107, 20, 249, 112, 26, 227, 95, 226, 140, 68, 10, 223, 77, 78, 169, 192, 38, 71, 67, 135, 53, 164, 28, 101, 185, 224, 22, 186, 244, 174, 191, 122, 210, 84, 153, 50, 209, 240, 133, 87, 104, 16, 147, 237, 156, 190, 44, 151, 78, 19, 17, 29, 127, 227, 148, 74, 23, 243, 7, 167, 139, 77, 43, 48, 197], 108) := by
  show expS 4 (expN exK 4 39) (4 + 39) = _
  rw [exp39]
  kernel_rfl
theorem exE_is : expB exK = exE := by
  show (expN exK 4 40).1 = _
  rw [exp40]
  rfl
theorem exKey (r : Nat) : keyK exK r = (exE.drop (16 * r)).take 16 := by rw [keyK, exE_is]
theorem enc0 : encN (keyK exK) 10 exB 0 = [0, 16, 32, 48, 64, 80, 96, 112, 128, 144, 160, 176, 192, 208, 224, 240] := by
  show xorB exB (keyK exK 0) = _
  rw [exKey]
  kernel_rfl
theorem enc1 : encN (keyK exK) 10 exB 1 = [137, 216, 16, 232, 133, 90, 206, 104, 45, 24, 67, 216, 203, 18, 143, 228] := by
  show rndN (keyK exK (0 + 1)) (decide (0 + 1 < 10)) (encN (keyK exK) 10 exB 0) = _
  rw [exKey, enc0]
  kernel_rfl
theorem enc2 : encN (keyK exK) 10 exB 2 = [73, 21, 89, 143, 85, 229, 215, 160, 218, 202, 148, 250, 31, 10, 99, 247] := by
  show rndN (keyK exK (1 + 1)) (decide (1 + 1 < 10)) (encN (keyK exK) 10 exB 1) = _
  rw [exKey, enc1]
  kernel_rfl
theorem enc3 : encN (keyK exK) 10 exB 3 = [250, 99, 106, 40, 37, 179, 57, 201, 64, 102, 138, 49, 87, 36, 77, 23] := by
  show rndN (keyK exK (2 + 1)) (decide (2 + 1 < 10)) (encN (keyK exK) 10 exB 2) = _
  rw [exKey, enc2]
  kernel_rfl
theorem enc4 : encN (keyK exK) 10 exB 4 = [36, 114, 64, 35, 105, 102, 179, 250, 110, 210, 117, 50, 136, 66, 91, 108] := by
  show rndN (keyK exK (3 + 1)) (decide (3 + 1 < 10)) (encN (keyK exK) 10 exB 3) = _
  rw [exKey, enc3]
  kernel_rfl
theorem enc5 : encN (keyK exK) 10 exB 5 = [200, 22, 119, 188, 155, 122, 201, 59, 37, 2, 121, 146, 176, 38, 25, 150] := by
  show rndN (keyK exK (4 + 1)) (decide (4 + 1 < 10)) (encN (keyK exK) 10 exB 4) = _
  rw [exKey, enc4]
  kernel_rfl
theorem enc6 : encN (keyK exK) 10 exB 6 = [198, 47, 225, 9, 247, 94, 237, 195, 204, 121, 57, 93, 132, 249, 207, 93] := by
  show rndN (keyK exK (5 + 1)) (decide (5 + 1 < 10)) (encN (keyK exK) 10 exB 5) = _
  rw [exKey, enc5]
  kernel_rfl
theorem enc7 : encN (keyK exK) 10 exB 7 = [209, 135, 108, 15, 121, 196, 48, 10, 180, 85, 148, 173, 214, 111, 244, 31] := by
  show rndN (keyK exK (6 + 1)) (decide (6 + 1 < 10)) (encN (keyK exK) 10 exB 6) = _
  rw [exKey, enc6]
  kernel_rfl
theorem enc8 : encN (keyK exK) 10 exB 8 = [253, 227, 186, 210, 5, 229, 208, 215, 53, 71, 150, 78, 241, 254, 55, 241] := by
  show rndN (keyK exK (7 + 1)) (decide (7 + 1 < 10)) (encN (keyK exK) 10 exB 7) = _
  rw [exKey, enc7]
  kernel_rfl
theorem enc9 : encN (keyK exK) 10 exB 9 = [189, 110, 124, 61, 242, 181, 119, 158, 11, 97, 33, 110, 139, 16, 182, 137] := by
  show rndN (keyK exK (8 + 1)) (decide (8 + 1 < 10)) (encN (keyK exK) 10 exB 8) = _
  rw [exKey, enc8]
  kernel_rfl
theorem enc10 : encN (keyK exK) 10 exB 10 = [105, 196, 224, 216, 106, 123, 4, 48, 216, 205, 183, 128, 112, 180, 197, 90] := by
  show rndN (keyK exK (9 + 1)) (decide (9 + 1 < 10)) (encN (keyK exK) 10 exB 9) = _
  rw [exKey, enc9]
  kernel_rfl
theorem exEnc : aesE exK exB = [105, 196, 224, 216, 106, 123, 4, 48, 216, 205, 183, 128, 112, 180, 197, 90] := enc10
end Go.Proofs.YtancchoelmdaiaaGreatDoor
namespace Go.Proofs.YtancchoelmdaiaaGreatDoor

/-- which of n things a raw number speaks of. -/
def pickN (c n : Int) : Int := (if c < 0 then -(c + 1) else c) % n
theorem pickN_bd (c n : Int) (hn : 0 < n) : 0 ≤ pickN c n ∧ pickN c n < n := ⟨Int.emod_nonneg _ (by omega), Int.emod_lt_of_pos _ hn⟩
end Go.Proofs.YtancchoelmdaiaaGreatDoor
