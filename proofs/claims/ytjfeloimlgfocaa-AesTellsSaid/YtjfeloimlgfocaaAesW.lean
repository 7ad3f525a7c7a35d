/-
  Contracts of the statements' own helpers of layer 4: awake answers true, pick the remainder, Key and Chunk so many bytes of a text with noughts behind. Condition of Key and Chunk: the text is no longer than a text may be.
-/
import Derived.Test.YtjfeloimlgfocaaAesR
import Derived.Test.YtjfeloimlgfocaaAesX
import Derived.Test.YtjfeloimlgfocaaPick
import Derived.OwnWalk
import Derived.SizedLaws
namespace Go.Proofs.Ytjfeloimlgfocaa
open Go.RowKit Go.Shelf

/-- n noughts. -/
def nulB (n : Nat) : ByteArray := strOfNums (List.replicate n 0)
theorem nulB_size (n : Nat) : (nulB n).size = n := by rw [nulB, strOfNums_size, List.length_replicate]
/-- the cells of n noughts. -/
def nulC (n : Nat) : Array Value := (List.replicate n (Value.int .u8 0)).toArray
theorem run_makeN (W : World) (n : Nat) (h : n ≤ 2000000) :
    (Instr.makeSlice 33 (.int .i64 (n : Int)) (.int .i64 (n : Int))).run Try.prog W = .ok (.slice (some ⟨W.heap.size, 0, none⟩) n n) (W.alloc (.cells (nulC n) 5)) := by
  obtain ⟨i0, hi, hz0, hz1, hz2⟩ := infoThree infoU8
  have h1 := run_make (P := Try.prog) W 33 5 i0 (.int .u8 0) Try.underlying33 hi hz0 .i64 .i64 (n : Int) (n : Int) (by omega) (by omega) (by rw [hz2]; omega) (by omega)
  rw [hz1, Int.toNat_natCast, Nat.mul_one] at h1
  have e : madeCells (Value.int .u8 0).cells n = nulC n := by
    apply Array.toList_inj.1
    show (madeCells #[.int .u8 0] n).toList = _
    rw [toList_madeCells_one]
    simp [nulC]
  rw [e] at h1
  exact h1
theorem run_convN {W : World} {g n : Nat} (h : Is W g 5 (nulC n)) :
    (convert 33 9 (.slice (some ⟨g, 0, none⟩) n n)).run Try.prog W = .ok (.string (nulB n)) W :=
  run_convert_bytes_arg (P := Try.prog) W 33 5 Try.underlying33 Try.underlying5 g 0 n n (List.replicate n 0) (by simp) (fun i hi => by
    rw [Nat.zero_add, h.cell, nulC]
    simp [hi]) 9 Try.underlying9

set_option maxHeartbeats 1000000 in
theorem pick4_any (c n : Int) (w : World) (h0 : -9223372036854775808 ≤ c) (h1 : c ≤ 9223372036854775807) (hn : 0 < n) (hn2 : n ≤ 9223372036854775807) :
    Calls Try.prog 17 #[.int .i64 c, .int .i64 n] w fun e w' => e = .returned (.int .i64 (pickN c n)) ∧ w = w' := by
  by_cases hc : c < 0
  · have hd : pickN c n = (-(c + 1)) % n := by simp [pickN, hc]
    rw [hd]
    clear hd
    go_enter Try.func17, Try.ntmps17
    go_wp2
    go_ret
    refine ⟨?_, rfl⟩
    have e : -((c + 1).tmod n) = (-(c + 1)) % n := by rw [← Int.neg_tmod, Int.tmod_eq_emod_of_nonneg (by omega)]
    rw [← e]
    rfl
  · have hd : pickN c n = c % n := by simp [pickN, hc]
    rw [hd]
    clear hd
    go_enter Try.func17, Try.ntmps17
    go_wp2
    go_ret
    exact ⟨rfl, rfl⟩

/-- a key, and a block, of a text. -/
def keyB (s : ByteArray) (l : Bool) : ByteArray := (s ++ nulB 32).extract 0 (if l then 32 else 16)
def chunkB (s : ByteArray) : ByteArray := (s ++ nulB 16).extract 0 16
theorem keyB_size (s : ByteArray) (l : Bool) : (keyB s l).size = if l then 32 else 16 := by
  cases l <;> simp [keyB, nulB_size] <;> omega
theorem keyB_may (s : ByteArray) (l : Bool) : mayB (keyB s l) = true := KeyN.may (by rw [keyB_size]; cases l <;> simp)
theorem chunkB_size (s : ByteArray) : (chunkB s).size = 16 := by simp [chunkB, nulB_size]

set_option maxRecDepth 100000 in
set_option maxHeartbeats 1000000 in
theorem key_any (s : ByteArray) (l : Bool) (w : World) (hs : s.size ≤ reachBytes) :
    Calls Try.prog 9 #[.string s, .bool l] w fun e w' => e = .returned (.string (keyB s l)) ∧ Below w.heap.size w w' := by
  replace hs : s.size < 2 ^ 47 := Nat.lt_of_le_of_lt hs reachBytes_lt
  have mk : ∀ W : World, (Instr.makeSlice 33 (.int .i64 32) (.int .i64 32)).run Try.prog W = .ok (.slice (some ⟨W.heap.size, 0, none⟩) 32 32) (W.alloc (.cells (nulC 32) 5)) := fun W => run_makeN W 32 (by omega)
  have cv := run_convN (Is.new w 5 (nulC 32))
  have hl : ¬ (9223372036854775807 < s.size + (nulB 32).size) := by rw [nulB_size]; omega
  have hz : (s ++ nulB 32).size = s.size + 32 := by rw [ByteArray.size_append, nulB_size]
  have hB : Below w.heap.size w (w.alloc (.cells (nulC 32) 5)) := (Below.refl _ _).alloc (Nat.le_refl _) _
  cases l with
  | true =>
    have HE := Lib.hid (show keyB s true = (s ++ nulB 32).extract 0 32 from rfl)
    generalize keyB s true = R at *
    go_enter Try.func9, Try.ntmps9
    go_wp2
    go_ret
    exact ⟨by rw [HE.out]; rfl, hB⟩
  | false =>
    have HE := Lib.hid (show keyB s false = (s ++ nulB 32).extract 0 16 from rfl)
    generalize keyB s false = R at *
    go_enter Try.func9, Try.ntmps9
    go_wp2
    go_ret
    exact ⟨by rw [HE.out]; rfl, hB⟩
set_option maxRecDepth 100000 in
set_option maxHeartbeats 1000000 in
theorem chunk_any (s : ByteArray) (w : World) (hs : s.size ≤ reachBytes) :
    Calls Try.prog 10 #[.string s] w fun e w' => e = .returned (.string (chunkB s)) ∧ Below w.heap.size w w' := by
  replace hs : s.size < 2 ^ 47 := Nat.lt_of_le_of_lt hs reachBytes_lt
  have mk : ∀ W : World, (Instr.makeSlice 33 (.int .i64 16) (.int .i64 16)).run Try.prog W = .ok (.slice (some ⟨W.heap.size, 0, none⟩) 16 16) (W.alloc (.cells (nulC 16) 5)) := fun W => run_makeN W 16 (by omega)
  have cv := run_convN (Is.new w 5 (nulC 16))
  have hl : ¬ (9223372036854775807 < s.size + (nulB 16).size) := by rw [nulB_size]; omega
  have hz : (s ++ nulB 16).size = s.size + 16 := by rw [ByteArray.size_append, nulB_size]
  have hB : Below w.heap.size w (w.alloc (.cells (nulC 16) 5)) := (Below.refl _ _).alloc (Nat.le_refl _) _
  have HE := Lib.hid (show chunkB s = (s ++ nulB 16).extract 0 16 from rfl)
  generalize chunkB s = R at *
  go_enter Try.func10, Try.ntmps10
  go_wp2
  go_ret
  exact ⟨by rw [HE.out]; rfl, hB⟩

def exKb : ByteArray := ⟨#[0, 1, 2, 3, 4, 5, 6, 7, 8, 9, 10, 11, 12, 13, 14, 15]⟩
def exBb : ByteArray := ⟨#[0, 17, 34, 51, 68, 85, 102, 119, 136, 153, 170, 187, 204, 221, 238, 255]⟩
def exCb : ByteArray := ⟨#[105, 196, 224, 216, 106, 123, 4, 48, 216, 205, 183, 128, 112, 180, 197, 90]⟩
theorem exEncV : encV exKb exBb = exCb := by
  rw [encV_ok (key := exKb) rfl rfl, show natL exKb = exK from rfl, show natL exBb = exB from rfl, exEnc]
  rfl
theorem exDecV : decV exKb exCb = exBb := by
  have := decV_encV (key := exKb) (block := exBb) rfl rfl
  rwa [exEncV] at this

set_option maxRecDepth 100000 in
set_option maxHeartbeats 1000000 in
theorem awake4_any (w : World) :
    Calls Try.prog 8 #[] w fun e w' => e = .returned (.bool true) ∧ Below w.heap.size w w' := by
  have m1 : ∀ w, Calls Try.prog 13 #[.string exKb, .string exBb] w fun e w' => e = .returned (.tuple #[.string exCb, .int .i64 0]) ∧ Below w.heap.size w w' := fun w => by
    have := encrypt_any exKb exBb w
    rwa [exEncV, show errV (may2 exKb exBb) = 0 from rfl] at this
  have m2 : ∀ w, Calls Try.prog 15 #[.string exKb, .string exCb] w fun e w' => e = .returned (.tuple #[.string exBb, .int .i64 0]) ∧ Below w.heap.size w w' := fun w => by
    have := decrypt_any exKb exCb w
    rwa [exDecV, show errV (may2 exKb exCb) = 0 from rfl] at this
  have m3 : ∀ w, Calls Try.prog 11 #[.string exKb] w fun e w' => e = .returned (.tuple #[.string (expV exKb), .int .i64 0]) ∧ Below w.heap.size w w' := fun w => expand_any exKb w
  have m4 : ∀ w, Calls Try.prog 11 #[.string (exKb ++ exKb)] w fun e w' => e = .returned (.tuple #[.string (expV (exKb ++ exKb)), .int .i64 0]) ∧ Below w.heap.size w w' := fun w => expand_any (exKb ++ exKb) w
  have m5 : ∀ w, Calls Try.prog 13 #[.string exKb, .string ⟨#[120]⟩] w fun e w' => e = .returned (.tuple #[.string ⟨#[]⟩, .int .i64 1]) ∧ Below w.heap.size w w' := fun w => encrypt_any exKb ⟨#[120]⟩ w
  have m6 : ∀ w, Calls Try.prog 11 #[.string ⟨#[120]⟩] w fun e w' => e = .returned (.tuple #[.string ⟨#[]⟩, .int .i64 1]) ∧ Below w.heap.size w w' := fun w => expand_any ⟨#[120]⟩ w
  have z3 : ((expV exKb).size : Int) = 176 := by rw [expV_size (key := exKb) rfl]; rfl
  have z4 : ((expV (exKb ++ exKb)).size : Int) = 240 := by rw [expV_size (key := exKb ++ exKb) rfl]; rfl
  have M1 := Lib.hid m1
  have M2 := Lib.hid m2
  have M3 := Lib.hid m3
  have M4 := Lib.hid m4
  have M5 := Lib.hid m5
  have M6 := Lib.hid m6
  clear m1 m2 m3 m4 m5 m6
  generalize expV exKb = X3 at *
  generalize expV (exKb ++ exKb) = X4 at *
  simp only [exKb, exBb, exCb] at M1 M2 M3 M4 M5
  go_enter Try.func8, Try.ntmps8
  go_wp2_with fail
  refine (M1.out _).mono ?_
  rintro e w1 ⟨rfl, hb1⟩
  go_wp2_with fail
  refine (M2.out _).mono ?_
  rintro e w2 ⟨rfl, hb2⟩
  go_wp2_with fail
  refine (M3.out _).mono ?_
  rintro e w3 ⟨rfl, hb3⟩
  go_wp2_with fail
  refine (M4.out _).mono ?_
  rintro e w4 ⟨rfl, hb4⟩
  go_wp2_with fail
  refine (M5.out _).mono ?_
  rintro e w5 ⟨rfl, hb5⟩
  go_wp2_with fail
  refine (M6.out _).mono ?_
  rintro e w6 ⟨rfl, hb6⟩
  go_wp2
  go_ret
  have s1 := hb1.size
  have s2 := hb2.size
  have s3 := hb3.size
  have s4 := hb4.size
  have s5 := hb5.size
  exact ⟨rfl, ((((hb1.trans (hb2.mono s1)).trans (hb3.mono (by omega))).trans (hb4.mono (by omega))).trans (hb5.mono (by omega))).trans (hb6.mono (by omega))⟩
end Go.Proofs.Ytjfeloimlgfocaa
