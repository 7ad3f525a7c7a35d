/-
  Contracts of aes.Expand, aes.Encrypt and aes.Decrypt, whatever the key and the block. No conditions.
-/
import Derived.Test.YtjfeloimlgfocaaAesM
import Derived.Test.YtjfeloimlgfocaaAesN
import Derived.Test.YtjfeloimlgfocaaAesQ
namespace Go.Proofs.Ytjfeloimlgfocaa
open Go.RowKit Go.Shelf

def may2 (key block : ByteArray) : Bool := mayB key && decide (block.size = 16)
/-- what is told, and with which error. -/
def expV (key : ByteArray) : ByteArray := if mayB key then strN (expB (natL key)) else ⟨#[]⟩
def errV (b : Bool) : Int := if b then 0 else 1
def encV (key block : ByteArray) : ByteArray := if may2 key block then strN (aesE (natL key) (natL block)) else ⟨#[]⟩
def decV (key block : ByteArray) : ByteArray := if may2 key block then strN (aesD (natL key) (natL block)) else ⟨#[]⟩
theorem KeyN.of {key : ByteArray} (h : mayB key = true) : KeyN (natL key) (key.size / 4) := by
  have : key.size = 16 ∨ key.size = 32 := by simpa [mayB] using h
  exact ⟨by rw [natL_len]; omega, by omega⟩
theorem KeyN.may {key : ByteArray} (h : key.size = 16 ∨ key.size = 32) : mayB key = true := by simpa [mayB] using h
theorem expand_any (key : ByteArray) (w : World) :
    Calls Try.prog 11 #[.string key] w fun e w' => e = .returned (.tuple #[.string (expV key), .int .i64 (errV (mayB key))]) ∧ Below w.heap.size w w' := by
  cases h : mayB key with
  | true => simpa [expV, errV, h] using expand_ok key _ w (KeyN.of h)
  | false => simpa [expV, errV, h] using (expand_no key w h).mono fun e w' ⟨h1, h2⟩ => (⟨h1, h2 ▸ Below.refl _ _⟩ : _ ∧ Below w.heap.size w w')
theorem encrypt_any (key block : ByteArray) (w : World) :
    Calls Try.prog 13 #[.string key, .string block] w fun e w' => e = .returned (.tuple #[.string (encV key block), .int .i64 (errV (may2 key block))]) ∧ Below w.heap.size w w' := by
  cases h : mayB key with
  | true =>
    by_cases hb : block.size = 16
    · simpa [encV, errV, may2, h, hb] using encrypt_ok key block _ w (KeyN.of h) hb
    · simpa [encV, errV, may2, h, hb] using (encrypt_noblock key block w h hb).mono fun e w' ⟨h1, h2⟩ => (⟨h1, h2 ▸ Below.refl _ _⟩ : _ ∧ Below w.heap.size w w')
  | false => simpa [encV, errV, may2, h] using (encrypt_nokey key block w h).mono fun e w' ⟨h1, h2⟩ => (⟨h1, h2 ▸ Below.refl _ _⟩ : _ ∧ Below w.heap.size w w')
theorem decrypt_any (key block : ByteArray) (w : World) :
    Calls Try.prog 15 #[.string key, .string block] w fun e w' => e = .returned (.tuple #[.string (decV key block), .int .i64 (errV (may2 key block))]) ∧ Below w.heap.size w w' := by
  cases h : mayB key with
  | true =>
    by_cases hb : block.size = 16
    · simpa [decV, errV, may2, h, hb] using decrypt_ok key block _ w (KeyN.of h) hb
    · simpa [decV, errV, may2, h, hb] using (decrypt_noblock key block w h hb).mono fun e w' ⟨h1, h2⟩ => (⟨h1, h2 ▸ Below.refl _ _⟩ : _ ∧ Below w.heap.size w w')
  | false => simpa [decV, errV, may2, h] using (decrypt_nokey key block w h).mono fun e w' ⟨h1, h2⟩ => (⟨h1, h2 ▸ Below.refl _ _⟩ : _ ∧ Below w.heap.size w w')
section
variable {key block : ByteArray}
theorem may2_of (hk : mayB key = true) (hb : block.size = 16) : may2 key block = true := by simp [may2, hk, hb]
theorem natL_key (hk : mayB key = true) : (natL key).length = 16 ∨ (natL key).length = 32 := (KeyN.of hk).or
theorem strN_natL (s : ByteArray) : strN (natL s) = s := natL_inj (strN_nat (natL_lt s))
theorem encV_ok (hk : mayB key = true) (hb : block.size = 16) : encV key block = strN (aesE (natL key) (natL block)) := by rw [encV, may2_of hk hb, if_pos rfl]
theorem decV_ok (hk : mayB key = true) (hb : block.size = 16) : decV key block = strN (aesD (natL key) (natL block)) := by rw [decV, may2_of hk hb, if_pos rfl]
theorem encV_size (hk : mayB key = true) (hb : block.size = 16) : (encV key block).size = 16 := by rw [encV_ok hk hb, strN_size, (aesE_blk (natL_key hk) (natL_lt key) (natL_blk hb)).len]
theorem decV_size (hk : mayB key = true) (hb : block.size = 16) : (decV key block).size = 16 := by rw [decV_ok hk hb, strN_size, (aesD_blk (natL_key hk) (natL_lt key) (natL_blk hb)).len]
theorem decV_encV (hk : mayB key = true) (hb : block.size = 16) : decV key (encV key block) = block := by
  rw [decV_ok hk (encV_size hk hb), encV_ok hk hb, strN_nat (aesE_blk (natL_key hk) (natL_lt key) (natL_blk hb)).lt, aesD_E (natL_key hk) (natL_lt key) (natL_blk hb), strN_natL]
theorem encV_decV (hk : mayB key = true) (hb : block.size = 16) : encV key (decV key block) = block := by
  rw [encV_ok hk (decV_size hk hb), decV_ok hk hb, strN_nat (aesD_blk (natL_key hk) (natL_lt key) (natL_blk hb)).lt, aesE_D (natL_key hk) (natL_lt key) (natL_blk hb), strN_natL]
theorem encV_inj {other : ByteArray} (hk : mayB key = true) (hb : block.size = 16) (ho : other.size = 16) (h : encV key block = encV key other) : block = other := by
  have := congrArg (decV key) h
  rwa [decV_encV hk hb, decV_encV hk ho] at this
theorem expV_size (hk : mayB key = true) : (expV key).size = 4 * key.size + 112 := by rw [expV, if_pos hk, strN_size, expB_len (natL_key hk), natL_len]
theorem expV_ok (hk : mayB key = true) : expV key = strN (expB (natL key)) := by rw [expV, if_pos hk]
end
end Go.Proofs.Ytjfeloimlgfocaa
