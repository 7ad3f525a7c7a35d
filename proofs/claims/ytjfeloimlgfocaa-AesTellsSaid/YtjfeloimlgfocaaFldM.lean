/-
  Plain facts on layer 3: columns of four bytes, mixed. Nothing of the program stands here.
-/
import Derived.Test.YtjfeloimlgfocaaFldP
namespace Go.Proofs.Ytjfeloimlgfocaa

/-- four bytes. -/
structure C4 where
  a : Nat
  b : Nat
  c : Nat
  d : Nat
structure C4.Ok (x : C4) : Prop where
  a : x.a < 256
  b : x.b < 256
  c : x.c < 256
  d : x.d < 256
def mixC (x : C4) : C4 :=
  ⟨mulN 2 x.a ^^^ mulN 3 x.b ^^^ x.c ^^^ x.d, mulN 2 x.b ^^^ mulN 3 x.c ^^^ x.d ^^^ x.a, mulN 2 x.c ^^^ mulN 3 x.d ^^^ x.a ^^^ x.b, mulN 2 x.d ^^^ mulN 3 x.a ^^^ x.b ^^^ x.c⟩
def xorC (x y : C4) : C4 := ⟨x.a ^^^ y.a, x.b ^^^ y.b, x.c ^^^ y.c, x.d ^^^ y.d⟩
theorem mixC_ok {x : C4} (h : x.Ok) : (mixC x).Ok :=
  ⟨xor_lt (xor_lt (xor_lt (mulN_lt (by decide)) (mulN_lt (by decide))) h.c) h.d, xor_lt (xor_lt (xor_lt (mulN_lt (by decide)) (mulN_lt (by decide))) h.d) h.a,
   xor_lt (xor_lt (xor_lt (mulN_lt (by decide)) (mulN_lt (by decide))) h.a) h.b, xor_lt (xor_lt (xor_lt (mulN_lt (by decide)) (mulN_lt (by decide))) h.b) h.c⟩
theorem mixC_xor (x y : C4) : mixC (xorC x y) = xorC (mixC x) (mixC y) := by
  simp only [mixC, xorC, mulN_xor]
  congr 1 <;> ac_rfl
theorem mixC_turn (x : C4) : mixC ⟨x.b, x.c, x.d, x.a⟩ = ⟨(mixC x).b, (mixC x).c, (mixC x).d, (mixC x).a⟩ := rfl
theorem one_all : all1 (fun a => mulN 2 a ^^^ mulN 3 a ^^^ a ^^^ a == a) = true := by kernel_rfl
theorem mixC_same {a : Nat} (ha : a < 256) : mixC ⟨a, a, a, a⟩ = ⟨a, a, a, a⟩ := by
  have : mulN 2 a ^^^ mulN 3 a ^^^ a ^^^ a = a := by simpa using all1_of one_all ha
  simp only [mixC, this]
theorem sq_all : all1 (fun x => (mulN 2 (mulN 2 x) ^^^ mulN 3 x ^^^ x ^^^ mulN 3 x == mulN 5 x) && (mulN 2 (mulN 3 x) ^^^ mulN 3 (mulN 2 x) ^^^ x ^^^ x == 0) && (mulN 2 x ^^^ mulN 3 (mulN 3 x) ^^^ mulN 2 x ^^^ x == mulN 4 x) && (mulN 2 x ^^^ mulN 3 x ^^^ mulN 3 x ^^^ mulN 2 x == 0)
    && (mulN 5 (mulN 5 x) ^^^ mulN 4 (mulN 4 x) == x) && (mulN 5 (mulN 4 x) ^^^ mulN 4 (mulN 5 x) == 0)) = true := by kernel_rfl
theorem sq_at {x : Nat} (hx : x < 256) : (mulN 2 (mulN 2 x) ^^^ mulN 3 x ^^^ x ^^^ mulN 3 x = mulN 5 x) ∧ (mulN 2 (mulN 3 x) ^^^ mulN 3 (mulN 2 x) ^^^ x ^^^ x = 0) ∧ (mulN 2 x ^^^ mulN 3 (mulN 3 x) ^^^ mulN 2 x ^^^ x = mulN 4 x) ∧ (mulN 2 x ^^^ mulN 3 x ^^^ mulN 3 x ^^^ mulN 2 x = 0)
    ∧ (mulN 5 (mulN 5 x) ^^^ mulN 4 (mulN 4 x) = x) ∧ (mulN 5 (mulN 4 x) ^^^ mulN 4 (mulN 5 x) = 0) := by
  have := all1_of sq_all hx
  simp only [Bool.and_eq_true, beq_iff_eq] at this
  obtain ⟨⟨⟨⟨⟨h1, h2⟩, h3⟩, h4⟩, h5⟩, h6⟩ := this
  exact ⟨h1, h2, h3, h4, h5, h6⟩
theorem coord2 {a b c d : Nat} (ha : a < 256) (hb : b < 256) (hc : c < 256) (hd : d < 256) :
    mulN 2 (mulN 2 a ^^^ mulN 3 b ^^^ c ^^^ d) ^^^ mulN 3 (mulN 2 b ^^^ mulN 3 c ^^^ d ^^^ a) ^^^ (mulN 2 c ^^^ mulN 3 d ^^^ a ^^^ b) ^^^ (mulN 2 d ^^^ mulN 3 a ^^^ b ^^^ c) = mulN 5 a ^^^ mulN 4 c := by
  obtain ⟨a1, _, _, _, _, _⟩ := sq_at ha
  obtain ⟨_, b2, _, _, _, _⟩ := sq_at hb
  obtain ⟨_, _, c3, _, _, _⟩ := sq_at hc
  obtain ⟨_, _, _, d4, _, _⟩ := sq_at hd
  simp only [mulN_xor]
  have e : mulN 2 (mulN 2 a) ^^^ mulN 2 (mulN 3 b) ^^^ mulN 2 c ^^^ mulN 2 d ^^^ (mulN 3 (mulN 2 b) ^^^ mulN 3 (mulN 3 c) ^^^ mulN 3 d ^^^ mulN 3 a) ^^^ (mulN 2 c ^^^ mulN 3 d ^^^ a ^^^ b) ^^^ (mulN 2 d ^^^ mulN 3 a ^^^ b ^^^ c)
      = (mulN 2 (mulN 2 a) ^^^ mulN 3 a ^^^ a ^^^ mulN 3 a) ^^^ (mulN 2 (mulN 3 b) ^^^ mulN 3 (mulN 2 b) ^^^ b ^^^ b) ^^^ (mulN 2 c ^^^ mulN 3 (mulN 3 c) ^^^ mulN 2 c ^^^ c) ^^^ (mulN 2 d ^^^ mulN 3 d ^^^ mulN 3 d ^^^ mulN 2 d) := by ac_rfl
  rw [e, a1, b2, c3, d4]
  simp
theorem mixC_2 {x : C4} (h : x.Ok) : mixC (mixC x) = ⟨mulN 5 x.a ^^^ mulN 4 x.c, mulN 5 x.b ^^^ mulN 4 x.d, mulN 5 x.c ^^^ mulN 4 x.a, mulN 5 x.d ^^^ mulN 4 x.b⟩ := by
  have h1 := coord2 h.a h.b h.c h.d
  have h2 := coord2 h.b h.c h.d h.a
  have h3 := coord2 h.c h.d h.a h.b
  have h4 := coord2 h.d h.a h.b h.c
  rw [mixC, mixC]
  simp only [h1, h2, h3, h4]
theorem mixC_4 {x : C4} (h : x.Ok) : mixC (mixC (mixC (mixC x))) = x := by
  have k := mixC_ok (mixC_ok h)
  rw [mixC_2 k, mixC_2 h]
  have key : ∀ {a c : Nat}, a < 256 → c < 256 → mulN 5 (mulN 5 a ^^^ mulN 4 c) ^^^ mulN 4 (mulN 5 c ^^^ mulN 4 a) = a := fun {a c} ha hc => by
    obtain ⟨_, _, _, _, a5, _⟩ := sq_at ha
    obtain ⟨_, _, _, _, _, c6⟩ := sq_at hc
    simp only [mulN_xor]
    have e : mulN 5 (mulN 5 a) ^^^ mulN 5 (mulN 4 c) ^^^ (mulN 4 (mulN 5 c) ^^^ mulN 4 (mulN 4 a)) = (mulN 5 (mulN 5 a) ^^^ mulN 4 (mulN 4 a)) ^^^ (mulN 5 (mulN 4 c) ^^^ mulN 4 (mulN 5 c)) := by ac_rfl
    rw [e, a5, c6]
    simp
  simp only [key h.a h.c, key h.b h.d, key h.c h.a, key h.d h.b]
end Go.Proofs.Ytjfeloimlgfocaa
