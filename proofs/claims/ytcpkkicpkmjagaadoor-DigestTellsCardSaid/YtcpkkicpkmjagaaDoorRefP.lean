/-
  Plain facts: words in their range; the document's own way of a round is the program's.
-/
import Derived.Test.YtcpkkicpkmjagaaDoorDigM
namespace Go.Proofs.YtcpkkicpkmjagaaDoor

def okW (x : Int) : Prop := 0 ≤ x ∧ x < 4294967296
structure S8.Ok (s : S8) : Prop where
  a : okW s.a
  b : okW s.b
  c : okW s.c
  d : okW s.d
  e : okW s.e
  f : okW s.f
  g : okW s.g
  h : okW s.h
theorem okW_mod (x : Int) : okW (x % 4294967296) := ⟨Int.emod_nonneg _ (by omega), Int.emod_lt_of_pos _ (by omega)⟩
theorem rnd_ok {s : S8} (h : s.Ok) (m : Int) : (rnd s m).Ok := ⟨okW_mod _, h.a, h.b, h.c, okW_mod _, h.e, h.f, h.g⟩
theorem rounds_ok {s : S8} (h : s.Ok) (ws : List Int) (k : Nat) : (rounds ws k s).Ok := by
  induction k with
  | zero => exact h
  | succ k ih => rw [rounds_succ]; exact rnd_ok ih _
theorem not_word {e : Int} (h : okW e) : bits BinOp.xor IntKind.u32 IntKind.u32.max e = 4294967295 - e := by
  obtain ⟨h0, h1⟩ := h
  have hm : IntKind.u32.max = 4294967295 := rfl
  rw [hm, u32_xor _ _ (by omega) (by omega) h0 h1]
  obtain ⟨n, rfl⟩ := Int.eq_ofNat_of_zero_le h0
  have hn : n < 4294967296 := by omega
  have e1 : ((4294967295 : Int).toNat ^^^ ((n : Int)).toNat : Nat) = 4294967295 - n := by
    show (4294967295 ^^^ n : Nat) = _
    have hx : (BitVec.allOnes 32 ^^^ BitVec.ofNat 32 n).toNat = 4294967295 - n := by
      rw [BitVec.allOnes_xor, BitVec.toNat_not, BitVec.toNat_ofNat, Nat.mod_eq_of_lt (by omega)]
    rw [BitVec.toNat_xor, BitVec.toNat_allOnes, BitVec.toNat_ofNat, Nat.mod_eq_of_lt (by omega)] at hx
    exact hx
  rw [e1]
  omega
/-- a round in the document's own way. -/
def rndR (s : S8) (k w : Int) : S8 :=
  ⟨(s.h + bigE s.e + bits BinOp.xor IntKind.u32 (bits BinOp.and IntKind.u32 s.e s.f) (bits BinOp.and IntKind.u32 (4294967295 - s.e) s.g) + k + w + (bigA s.a + maj s.a s.b s.c)) % 4294967296, s.a, s.b, s.c,
   (s.d + (s.h + bigE s.e + bits BinOp.xor IntKind.u32 (bits BinOp.and IntKind.u32 s.e s.f) (bits BinOp.and IntKind.u32 (4294967295 - s.e) s.g) + k + w)) % 4294967296, s.e, s.f, s.g⟩
theorem rndR_rnd {s : S8} (h : s.Ok) (k w : Int) : rndR s k w = rnd s ((k + w) % 4294967296) := by
  unfold rndR rnd
  rw [show cho s.e s.f s.g = bits BinOp.xor IntKind.u32 (bits BinOp.and IntKind.u32 s.e s.f) (bits BinOp.and IntKind.u32 (4294967295 - s.e) s.g) by rw [cho, not_word h.e]]
  generalize bits BinOp.xor IntKind.u32 (bits BinOp.and IntKind.u32 s.e s.f) (bits BinOp.and IntKind.u32 (4294967295 - s.e) s.g) = c
  generalize bigE s.e = E
  generalize bigA s.a + maj s.a s.b s.c = A
  congr 1 <;> omega
end Go.Proofs.YtcpkkicpkmjagaaDoor
