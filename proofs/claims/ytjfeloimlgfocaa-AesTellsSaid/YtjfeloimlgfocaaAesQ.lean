/-
  Contracts of aes.Expand, aes.Encrypt and aes.Decrypt, where they refuse. Conditions: the key has neither 16 nor 32 bytes, or the block not 16.
-/
import Derived.Test.YtjfeloimlgfocaaAesL
namespace Go.Proofs.Ytjfeloimlgfocaa
open Go.RowKit Go.Shelf

/-- may a key be? -/
def mayB (key : ByteArray) : Bool := decide (key.size = 16) || decide (key.size = 32)
theorem rightKey_is (key : ByteArray) {b : Bool} (h : mayB key = b) (w : World) : Calls Try.prog 19 #[.string key] w fun e w' => e = .returned (.bool b) ∧ w = w' := by
  have := rightKey_any key w
  rw [show (decide (key.size = 16) || decide (key.size = 32)) = mayB key from rfl, h] at this
  exact this

set_option maxRecDepth 100000 in
set_option maxHeartbeats 1000000 in
theorem expand_no (key : ByteArray) (w : World) (h : mayB key = false) :
    Calls Try.prog 11 #[.string key] w fun e w' => e = .returned (.tuple #[.string ⟨#[]⟩, .int .i64 1]) ∧ w = w' := by
  have HK := Lib.hid (fun w => rightKey_is key h w)
  clear h
  go_enter Try.func11, Try.ntmps11
  go_wp2_with (go_at_call 19; refine (HK.out _).mono ?_; rintro e w' ⟨rfl, rfl⟩)
  go_ret2
  exact ⟨rfl, rfl⟩

set_option maxRecDepth 100000 in
set_option maxHeartbeats 1000000 in
theorem encrypt_nokey (key block : ByteArray) (w : World) (h : mayB key = false) :
    Calls Try.prog 13 #[.string key, .string block] w fun e w' => e = .returned (.tuple #[.string ⟨#[]⟩, .int .i64 1]) ∧ w = w' := by
  have HK := Lib.hid (fun w => rightKey_is key h w)
  clear h
  go_enter Try.func13, Try.ntmps13
  go_wp2_with (go_at_call 19; refine (HK.out _).mono ?_; rintro e w' ⟨rfl, rfl⟩)
  go_ret2
  exact ⟨rfl, rfl⟩

set_option maxRecDepth 100000 in
set_option maxHeartbeats 1000000 in
theorem encrypt_noblock (key block : ByteArray) (w : World) (h : mayB key = true) (hb : block.size ≠ 16) :
    Calls Try.prog 13 #[.string key, .string block] w fun e w' => e = .returned (.tuple #[.string ⟨#[]⟩, .int .i64 1]) ∧ w = w' := by
  have HK := Lib.hid (fun w => rightKey_is key h w)
  have e16 : ((block.size : Int) != 16) = true := by simp; omega
  clear h hb
  go_enter Try.func13, Try.ntmps13
  go_wp2_with (go_at_call 19; refine (HK.out _).mono ?_; rintro e w' ⟨rfl, rfl⟩)
  go_ret2
  exact ⟨rfl, rfl⟩

set_option maxRecDepth 100000 in
set_option maxHeartbeats 1000000 in
theorem decrypt_nokey (key block : ByteArray) (w : World) (h : mayB key = false) :
    Calls Try.prog 15 #[.string key, .string block] w fun e w' => e = .returned (.tuple #[.string ⟨#[]⟩, .int .i64 1]) ∧ w = w' := by
  have HK := Lib.hid (fun w => rightKey_is key h w)
  clear h
  go_enter Try.func15, Try.ntmps15
  go_wp2_with (go_at_call 19; refine (HK.out _).mono ?_; rintro e w' ⟨rfl, rfl⟩)
  go_ret2
  exact ⟨rfl, rfl⟩

set_option maxRecDepth 100000 in
set_option maxHeartbeats 1000000 in
theorem decrypt_noblock (key block : ByteArray) (w : World) (h : mayB key = true) (hb : block.size ≠ 16) :
    Calls Try.prog 15 #[.string key, .string block] w fun e w' => e = .returned (.tuple #[.string ⟨#[]⟩, .int .i64 1]) ∧ w = w' := by
  have HK := Lib.hid (fun w => rightKey_is key h w)
  have e16 : ((block.size : Int) != 16) = true := by simp; omega
  clear h hb
  go_enter Try.func15, Try.ntmps15
  go_wp2_with (go_at_call 19; refine (HK.out _).mono ?_; rintro e w' ⟨rfl, rfl⟩)
  go_ret2
  exact ⟨rfl, rfl⟩
end Go.Proofs.Ytjfeloimlgfocaa
