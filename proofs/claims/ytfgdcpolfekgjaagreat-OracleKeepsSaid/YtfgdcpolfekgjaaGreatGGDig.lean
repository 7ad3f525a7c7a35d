/-
  Plain functions of layer 1 (words, rounds, the schedule), in the spelling of the walks, and small facts on them; nothing of the program stands here.
  Contracts of digest.turn and digest.round: each answers the plain function of the same kind; conditions: none beyond the shapes of the arguments.
  Contracts of digest.wordAt and digest.schedule: the word at a place; the 64 words of a block. Conditions: the block has 64 bytes.
  Contract of digest.mix: what a block of 64 bytes makes of eight words. Conditions: the block has 64 bytes; the table of round words holds what its initialiser lays.
  Contracts of digest.blocks (the iterator over a text's whole blocks) and digest.mixAll. Conditions: the text is no longer than memory allows; the tables hold what their initialisers lay.
  Contracts of digest.Right, digest.New, strings.Clone, digest.wordBytes, digest.padding. Conditions: texts of at most a million and some bytes.
  Contracts of digest.wordBytes and digest.padding: the 32 bytes of eight words; what stands behind a text of so many bytes. Conditions: at most 1048576 bytes.
  Contracts of digest.Add: how a text is added to a sum on its way. Conditions: the text is at most 2^40 bytes; the tables hold what their initialisers lay.
  Contracts of digest.Add with an error, digest.End, digest.Compress and digest.Sum. Conditions: the tables hold what their initialisers lay.
-/
import Derived.Test.YtfgdcpolfekgjaaGreatGKit
import Derived.WalkKit
import Derived.Laws.BitsAllLaws
import Derived.Test.YtfgdcpolfekgjaaGreatProg
import Derived.IntWalk
import Derived.StillTailTactics
import Derived.RangeFuncNested
import Derived.RangeFuncBound
import Derived.RangeFuncCalls
import Derived.RangeFuncLeaves
import Derived.Shelf.Abstract
import Derived.Shelf.RegionOpen
import Derived.OwnWalkIn
import Derived.TacticsInMore
import Derived.LoopNIn
import Derived.LoopIn
import Derived.Lib.Strings
import Derived.Lib.Walk
import Derived.Lib.BufferWrite
import Derived.Lib.UnsafeStr
import Derived.Laws.MakeOwn
import Derived.Laws.BytesArg
import Derived.Laws.OwnMore
import Derived.OwnWalk
import Derived.Deep.RegionHeld3
namespace Go.Proofs.YtfgdcpolfekgjaaGreat

/-- a word, turned to the right. -/
def tw (n x : Int) : Int := bits BinOp.or IntKind.u32 (x / 2 ^ n.toNat) (x * 2 ^ (32 - n).toNat % 4294967296)
def bigE (e : Int) : Int := bits BinOp.xor IntKind.u32 (bits BinOp.xor IntKind.u32 (tw 6 e) (tw 11 e)) (tw 25 e)
def bigA (a : Int) : Int := bits BinOp.xor IntKind.u32 (bits BinOp.xor IntKind.u32 (tw 2 a) (tw 13 a)) (tw 22 a)
def cho (e f g : Int) : Int := bits BinOp.xor IntKind.u32 (bits BinOp.and IntKind.u32 e f) (bits BinOp.and IntKind.u32 (bits BinOp.xor IntKind.u32 IntKind.u32.max e) g)
def maj (a b c : Int) : Int := bits BinOp.xor IntKind.u32 (bits BinOp.xor IntKind.u32 (bits BinOp.and IntKind.u32 a b) (bits BinOp.and IntKind.u32 a c)) (bits BinOp.and IntKind.u32 b c)
/-- eight words. -/
structure S8 where
  a : Int
  b : Int
  c : Int
  d : Int
  e : Int
  f : Int
  g : Int
  h : Int
abbrev S8.arr (s : S8) : Array Value := #[.int .u32 s.a, .int .u32 s.b, .int .u32 s.c, .int .u32 s.d, .int .u32 s.e, .int .u32 s.f, .int .u32 s.g, .int .u32 s.h]
theorem arr_one (s : S8) : s.arr.all (·.oneCell') = true := by
  rw [Array.all_eq_true_iff_forall_mem]
  intro v hv
  simp only [S8.arr, List.mem_toArray, List.mem_cons, List.not_mem_nil, or_false] at hv
  rcases hv with rfl | rfl | rfl | rfl | rfl | rfl | rfl | rfl <;> rfl
/-- one round; m: the round's word and the block's. -/
def rnd (s : S8) (m : Int) : S8 :=
  ⟨(s.h + bigE s.e + cho s.e s.f s.g + m + (bigA s.a + maj s.a s.b s.c)) % 4294967296, s.a, s.b, s.c, (s.d + (s.h + bigE s.e + cho s.e s.f s.g + m)) % 4294967296, s.e, s.f, s.g⟩

/-- the byte at a place. -/
def bt (s : ByteArray) (j : Nat) : Int := ((s.data.toList.getD j 0).toNat : Int)
theorem bt_get {s : ByteArray} {j : Nat} (h : j < s.size) : (s[j].toNat : Int) = bt s j := by
  have : s.data.toList.getD j 0 = s[j] := by
    rw [List.getD_eq_getElem?_getD, List.getElem?_eq_getElem (by simpa using h)]; rfl
  rw [bt, this]
theorem bt_bd (s : ByteArray) (j : Nat) : 0 ≤ bt s j ∧ bt s j < 256 := by
  have := UInt8.toNat_lt (s.data.toList.getD j 0)
  unfold bt; omega
/-- the word at a place: four bytes, the highest one first. -/
def wd (s : ByteArray) (i : Nat) : Int := 16777216 * bt s (i * 4) + 65536 * bt s (i * 4 + 1) + 256 * bt s (i * 4 + 2) + bt s (i * 4 + 3)
theorem or_word {p q r t : Int} (hp : 0 ≤ p ∧ p < 256) (hq : 0 ≤ q ∧ q < 256) (hr : 0 ≤ r ∧ r < 256) (ht : 0 ≤ t ∧ t < 256) :
    bits BinOp.or IntKind.u32 (bits BinOp.or IntKind.u32 (bits BinOp.or IntKind.u32 (p % 4294967296 * 16777216 % 4294967296) (q % 4294967296 * 65536 % 4294967296)) (r % 4294967296 * 256 % 4294967296)) (t % 4294967296)
      = 16777216 * p + 65536 * q + 256 * r + t := by
  rw [show p % 4294967296 * 16777216 % 4294967296 = 16777216 * p by omega, show q % 4294967296 * 65536 % 4294967296 = 65536 * q by omega, show r % 4294967296 * 256 % 4294967296 = 256 * r by omega, show t % 4294967296 = t by omega]
  have h1 : bits BinOp.or IntKind.u32 (16777216 * p) (65536 * q) = 16777216 * p + 65536 * q := by
    rw [u32_or _ _ (by omega) (by omega) (by omega) (by omega), nat_join 24 _ _ (by omega) (by omega)]; omega
  have h2 : bits BinOp.or IntKind.u32 (16777216 * p + 65536 * q) (256 * r) = 16777216 * p + 65536 * q + 256 * r := by
    rw [u32_or _ _ (by omega) (by omega) (by omega) (by omega), nat_join 16 _ _ (by omega) (by omega)]; omega
  have h3 : bits BinOp.or IntKind.u32 (16777216 * p + 65536 * q + 256 * r) t = 16777216 * p + 65536 * q + 256 * r + t := by
    rw [u32_or _ _ (by omega) (by omega) (by omega) (by omega), nat_join 8 _ _ (by omega) (by omega)]; omega
  rw [h1, h2, h3]

def sigX (x : Int) : Int := bits BinOp.xor IntKind.u32 (bits BinOp.xor IntKind.u32 (tw 7 x) (tw 18 x)) (x / 8)
def sigY (y : Int) : Int := bits BinOp.xor IntKind.u32 (bits BinOp.xor IntKind.u32 (tw 17 y) (tw 19 y)) (y / 1024)
def at_ (l : List Int) (j : Nat) : Int := l[j]?.getD 0
/-- the schedule's next word. -/
def nxt (l : List Int) : Int := (at_ l (l.length - 16) + at_ l (l.length - 7) + sigX (at_ l (l.length - 15)) + sigY (at_ l (l.length - 2))) % 4294967296
/-- a block's words, and n of those that follow. -/
def schN (s : ByteArray) : Nat → List Int
  | 0 => (List.range 16).map (wd s)
  | n + 1 => schN s n ++ [nxt (schN s n)]
theorem schN_length (s : ByteArray) (n : Nat) : (schN s n).length = 16 + n := by
  induction n with
  | zero => simp [schN]
  | succ n ih => simp [schN, ih]; omega
/-- a row of 64 words of which the first are those of l. -/
def row64 (l : List Int) : Array Value := ((l ++ List.replicate (64 - l.length) 0).map (Value.int .u32)).toArray
theorem row64_size (l : List Int) (h : l.length ≤ 64) : (row64 l).size = 64 := by simp [row64]; omega
theorem row64_one (l : List Int) : (row64 l).all (·.oneCell') = true := by
  rw [Array.all_eq_true_iff_forall_mem]
  intro v hv
  simp only [row64, List.mem_toArray, List.mem_map] at hv
  obtain ⟨x, _, rfl⟩ := hv
  rfl
theorem row64_get (l : List Int) (j : Nat) (h : j < l.length) : (row64 l)[j]? = some (.int .u32 (at_ l j)) := by
  simp only [row64, List.getElem?_toArray, List.getElem?_map, List.getElem?_append_left h]
  simp [at_, h]
theorem row64_set (l : List Int) (x : Int) (h : l.length < 64) : (row64 l).setIfInBounds l.length (.int .u32 x) = row64 (l ++ [x]) := by
  have e : 64 - l.length = (64 - (l.length + 1)) + 1 := by omega
  simp [row64, e, List.replicate_succ]
theorem row64_zero (l : List Int) (j : Nat) (h : l.length ≤ j) (h' : j < 64) : (row64 l)[j]? = some (.int .u32 0) := by
  simp only [row64, List.getElem?_toArray, List.getElem?_map, List.getElem?_append_right h]
  rw [List.getElem?_replicate, if_pos (by omega)]; rfl
/-- the round words, the first words: any. -/
class Tabs where
  K : List Int
  H : S8
section
variable [Tabs]
def KW : List Int := Tabs.K
def H0 : S8 := Tabs.H
end
def S8.get (s : S8) : Nat → Int
  | 0 => s.a | 1 => s.b | 2 => s.c | 3 => s.d | 4 => s.e | 5 => s.f | 6 => s.g | _ => s.h
section
variable [Tabs]
/-- k rounds. -/
def rounds (ws : List Int) (k : Nat) (s : S8) : S8 := (List.range k).foldl (fun s i => rnd s ((at_ KW i + at_ ws i) % 4294967296)) s
theorem rounds_succ (ws : List Int) (k : Nat) (s : S8) : rounds ws (k + 1) s = rnd (rounds ws k s) ((at_ KW k + at_ ws k) % 4294967296) := by
  simp [rounds, List.range_succ]
end
/-- eight words, by a function. -/
def arrF (f : Nat → Int) : Array Value := ((List.range 8).map fun j => Value.int .u32 (f j)).toArray
theorem arr_arrF (s : S8) : s.arr = arrF s.get := rfl
theorem arrF_size (f : Nat → Int) : (arrF f).size = 8 := by simp [arrF]
theorem arrF_get (f : Nat → Int) (j : Nat) (h : j < 8) : (arrF f)[j]? = some (.int .u32 (f j)) := by
  simp [arrF, h]
theorem arrF_congr {f g : Nat → Int} (h : ∀ j, j < 8 → f j = g j) : arrF f = arrF g := by
  unfold arrF; congr 1; exact List.map_congr_left fun j hj => by rw [h j (List.mem_range.1 hj)]
theorem arrF_set (f : Nat → Int) (k : Nat) (x : Int) : (arrF f).setIfInBounds k (.int .u32 x) = arrF (fun j => if j = k then x else f j) := by
  apply Array.ext_getElem?
  intro i
  rw [Array.getElem?_setIfInBounds]
  by_cases hi : i < 8
  · rw [arrF_get _ _ hi, arrF_get _ _ hi, arrF_size]
    by_cases e : k = i
    · subst e; simp [hi]
    · rw [if_neg e, if_neg (fun h => e h.symm)]
  · have e1 : (arrF f)[i]? = none := by rw [Array.getElem?_eq_none_iff, arrF_size]; omega
    have e2 : (arrF (fun j => if j = k then x else f j))[i]? = none := by rw [Array.getElem?_eq_none_iff, arrF_size]; omega
    rw [e1, e2, arrF_size]
    split
    · rename_i h; rw [if_neg (by omega)]
    · rfl
def addS (h s : S8) : S8 := ⟨(h.a + s.a) % 4294967296, (h.b + s.b) % 4294967296, (h.c + s.c) % 4294967296, (h.d + s.d) % 4294967296, (h.e + s.e) % 4294967296, (h.f + s.f) % 4294967296, (h.g + s.g) % 4294967296, (h.h + s.h) % 4294967296⟩
theorem addS_get (h s : S8) (j : Nat) : (addS h s).get j = (h.get j + s.get j) % 4294967296 := by
  unfold S8.get; split <;> rfl
section
variable [Tabs]
/-- what a block makes of eight words. -/
def mixSD (h : S8) (s : ByteArray) : S8 := addS h (rounds (schN s 48) 64 h)
end
end Go.Proofs.YtfgdcpolfekgjaaGreat
namespace Go.Proofs.YtfgdcpolfekgjaaGreat
open Go.RowKit
variable [Tabs]

set_option maxHeartbeats 400000 in
omit [Tabs] in
theorem turn_any (n x : Int) (w : World) (h0 : 0 ≤ n) (h1 : n ≤ 32) :
    Calls Tryz.prog 220 #[.int .u64 n, .int .u32 x] w fun e w' => e = .returned (.int .u32 (tw n x)) ∧ w = w' := by
  go_enter Tryz.func220, Tryz.ntmps220
  go_wp2
  go_ret
  exact ⟨rfl, rfl⟩

set_option maxHeartbeats 1000000 in
omit [Tabs] in
theorem round_any (s : S8) (m : Int) (w : World) :
    Calls Tryz.prog 213 #[.agg s.arr, .int .u32 m] w fun e w' => e = .returned (.agg (rnd s m).arr) ∧ Below w.heap.size w w' := by
  obtain ⟨a, b, c, d, e, f, g, h⟩ := s
  have hs : IntKind.u32.signed = false := rfl
  go_enter Tryz.func213, Tryz.ntmps213
  go_wp2
  go_quiet (fail)
  go_wp2
  go_quiet ((go_at_call 220; exact qadd (turn_any _ _ _ (by omega) (by omega))))
  go_wp2_with (go_at_call 220; refine (turn_any _ _ _ (by omega) (by omega)).mono ?_; rintro e w' ⟨rfl, rfl⟩)
  refine bodyPost_ret (results_cell_row Tryz.results213 _ _ (w.heap.size + 1) 133 (rnd ⟨a, b, c, d, e, f, g, h⟩ m).arr (0, 0) _ rfl (heap_alloc2_new w _ _) Tryz.underlying133 rfl (by kernel_rfl)) rfl ⟨rfl, ?_⟩
  exact belowN (((Below.refl _ _).alloc (Nat.le_refl _) _).alloc (by simp) _) _
end Go.Proofs.YtfgdcpolfekgjaaGreat
namespace Go.Proofs.YtfgdcpolfekgjaaGreat
open Go.RowKit
variable [Tabs]

set_option maxHeartbeats 1000000 in
omit [Tabs] in
theorem wordAt_any (s : ByteArray) (i : Nat) (w : World) (hi : i * 4 + 3 < s.size) (hs : s.size ≤ 64) :
    Calls Tryz.prog 219 #[.string s, .int .i64 i] w fun e w' => e = .returned (.int .u32 (wd s i)) ∧ ∃ n, w' = w.drewN n := by
  have hi0 : i * 4 < s.size := by omega
  have hi1 : i * 4 + 1 < s.size := by omega
  have hi2 : i * 4 + 2 < s.size := by omega
  have h0 : (i : Int) * 4 < s.size := by omega
  have h1 : (i : Int) * 4 + 1 < s.size := by omega
  have h2 : (i : Int) * 4 + 2 < s.size := by omega
  have h3 : (i : Int) * 4 + 3 < s.size := by omega
  have hq : (0 : Int) ≤ (i : Int) * 4 := by omega
  have hq1 : (0 : Int) ≤ (i : Int) * 4 + 1 := by omega
  have hq2 : (0 : Int) ≤ (i : Int) * 4 + 2 := by omega
  have hq3 : (0 : Int) ≤ (i : Int) * 4 + 3 := by omega
  have e1 := IntWalk.i64_in ((i : Int) * 4 + 1) (by omega)
  have e2 := IntWalk.i64_in ((i : Int) * 4 + 2) (by omega)
  have e3 := IntWalk.i64_in ((i : Int) * 4 + 3) (by omega)
  have t0 : ((i : Int) * 4).toNat = i * 4 := by omega
  have t1 : ((i : Int) * 4 + 1).toNat = i * 4 + 1 := by omega
  have t2 : ((i : Int) * 4 + 2).toNat = i * 4 + 2 := by omega
  have t3 : ((i : Int) * 4 + 3).toNat = i * 4 + 3 := by omega
  go_enter Tryz.func219, Tryz.ntmps219
  go_wp2
  go_quiet (fail)
  go_wp2
  go_ret
  refine ⟨?_, nq, rfl⟩
  have hw := or_word (bt_bd s (i * 4)) (bt_bd s (i * 4 + 1)) (bt_bd s (i * 4 + 2)) (bt_bd s (i * 4 + 3))
  rw [← bt_get hi0, ← bt_get hi1, ← bt_get hi2, ← bt_get hi] at hw
  simp only [wd, ← bt_get hi0, ← bt_get hi1, ← bt_get hi2, ← bt_get hi, ← hw]
  rfl

set_option maxRecDepth 100000 in
set_option maxHeartbeats 2000000 in
omit [Tabs] in
theorem schedule_any (s : ByteArray) (w : World) (hs : s.size = 64) :
    Calls Tryz.prog 212 #[.string s] w fun e w' => e = .returned (.agg (row64 (schN s 48))) ∧ Below w.heap.size w w' := by
  have hs1 : s.size ≤ 64 := by omega
  have hs2 : 64 ≤ s.size := by omega
  clear hs
  have hz := Tryz.zeroValue156
  go_enter Tryz.func212, Tryz.ntmps212
  go_wp2
  go_loopw [8] (fun i wr => ∃ k : Nat, k ≤ 16 ∧ i = .int .i64 k ∧ Is wr (w.heap.size + 1) 156 (row64 ((List.range k).map (wd s))) ∧ Is wr w.heap.size 156 (row64 []) ∧ Below w.heap.size w wr)
    (fun i _ => 16 - (intOf i).toNat)
  case atStart =>
    refine ⟨0, by omega, rfl, ?_, ?_, ?_⟩
    · exact heap_alloc2_new w _ _
    · exact heap_alloc2_old w _ _
    · exact ((Below.refl _ _).alloc (Nat.le_refl _) _).alloc (by simp) _
  case round =>
    obtain ⟨k, hk, rfl, hI, hJ, hB⟩ := hrel
    by_cases hlt : k < 16
    · have hc : wr.cell? ⟨w.heap.size + 1, k, none⟩ = some (.int .u32 0) := by
        rw [hI.cell]; exact row64_zero _ _ (by simp) (by omega)
      have hf : wr.frozen? ⟨w.heap.size + 1, k, none⟩ = false := hI.frozen k
      go_wp2_with (go_at_call 219; refine (wordAt_any _ _ _ (by omega) (by omega)).mono ?_; rintro e w' ⟨rfl, nq, rfl⟩)
      go_roundw
      case rel =>
        refine ⟨k + 1, by omega, by go_num, ?_, hJ.far (by simp) _, (belowN hB _).setCell (by simp) _⟩
        have := (hI.drewN nq).set k (.int .u32 (wd s k))
        rw [List.range_succ, List.map_append]
        have h2 := row64_set ((List.range k).map (wd s)) (wd s k) (by simp; omega)
        simp only [List.length_map, List.length_range] at h2
        rw [h2] at this
        exact this
      case measure => simp [intOf]; omega
    · have hI0 : Is wr (w.heap.size + 1) 156 (row64 (schN s (16 - 16))) := by
        have hk16 : k = 16 := by omega
        rw [hk16] at hI
        exact hI
      clear hI
      go_wp2
      go_loopw [5] (fun i wr => ∃ k : Nat, 16 ≤ k ∧ k ≤ 64 ∧ i = .int .i64 k ∧ Is wr (w.heap.size + 1) 156 (row64 (schN s (k - 16))) ∧ Is wr w.heap.size 156 (row64 []) ∧ Below w.heap.size w wr)
        (fun i _ => 64 - (intOf i).toNat)
      case atStart =>
        exact ⟨16, by omega, by omega, rfl, hI0, hJ, hB⟩
      case round =>
        clear hI0 hJ hB
        obtain ⟨k, hk0, hk, rfl, hI, hJ, hB⟩ := hrel
        by_cases hlt : k < 64
        · have hlen := schN_length s (k - 16)
          have c15 : wr.cell? ⟨w.heap.size + 1, k - 15, none⟩ = some (.int .u32 (at_ (schN s (k - 16)) (k - 15))) := (hI.cell _).trans (row64_get _ _ (by omega))
          have c2 : wr.cell? ⟨w.heap.size + 1, k - 2, none⟩ = some (.int .u32 (at_ (schN s (k - 16)) (k - 2))) := (hI.cell _).trans (row64_get _ _ (by omega))
          have c16 : wr.cell? ⟨w.heap.size + 1, k - 16, none⟩ = some (.int .u32 (at_ (schN s (k - 16)) (k - 16))) := (hI.cell _).trans (row64_get _ _ (by omega))
          have c7 : wr.cell? ⟨w.heap.size + 1, k - 7, none⟩ = some (.int .u32 (at_ (schN s (k - 16)) (k - 7))) := (hI.cell _).trans (row64_get _ _ (by omega))
          have c0 : wr.cell? ⟨w.heap.size + 1, k, none⟩ = some (.int .u32 0) := (hI.cell _).trans (row64_zero _ _ (by omega) (by omega))
          have hf : wr.frozen? ⟨w.heap.size + 1, k, none⟩ = false := hI.frozen k
          have HL := Lib.hid hlen
          clear hlen
          have b15 : (0 : Int) ≤ (k : Int) - 15 := by omega
          have b2 : (0 : Int) ≤ (k : Int) - 2 := by omega
          have b16 : (0 : Int) ≤ (k : Int) - 16 := by omega
          have b7 : (0 : Int) ≤ (k : Int) - 7 := by omega
          have g16 : (16 : Int) ≤ k := by omega
          have g7 : (7 : Int) ≤ k := by omega
          have l15 : (k : Int) - 15 < 64 := by omega
          have l2 : (k : Int) - 2 < 64 := by omega
          have l16 : (k : Int) - 16 < 64 := by omega
          have l7 : (k : Int) - 7 < 64 := by omega
          have e15 := IntWalk.i64_in ((k : Int) - 15) (by omega)
          have e2 := IntWalk.i64_in ((k : Int) - 2) (by omega)
          have e16 := IntWalk.i64_in ((k : Int) - 16) (by omega)
          have e7 := IntWalk.i64_in ((k : Int) - 7) (by omega)
          have t15 : ((k : Int) - 15).toNat = k - 15 := by omega
          have t2 : ((k : Int) - 2).toNat = k - 2 := by omega
          have t16 : ((k : Int) - 16).toNat = k - 16 := by omega
          have t7 : ((k : Int) - 7).toNat = k - 7 := by omega
          go_wp2
          go_quiet (fail)
          go_wp2
          refine wp_region_still_tail 29 (by kernel_rfl) (by kernel_rfl) ?_
          change wpStill _ _ (wr.drewN (nq + 1)) (fun a' => wpList _ _ _ _ a' (wr.drewN (nq + 1))) _ _
          simp only [List.take_succ_cons, List.take_zero, List.drop_succ_cons, List.drop_zero]
          repeat (first | still_step | still_call (qstill (turn_any _ _ _ (by omega) (by omega))))
          refine wpStill_nil ?_
          go_wp2
          go_roundw
          case rel =>
            refine ⟨k + 1, by omega, by omega, by go_num, ?_, hJ.far (by simp) _, (belowN hB _).setCell (by simp) _⟩
            have h1 := (hI.drewN (nq + 1)).set k (.int .u32 (nxt (schN s (k - 16))))
            have h2 := row64_set (schN s (k - 16)) (nxt (schN s (k - 16))) (by rw [HL.out]; omega)
            have hl : (schN s (k - 16)).length = k := by rw [HL.out]; omega
            rw [hl] at h2
            rw [h2] at h1
            rw [show k + 1 - 16 = (k - 16) + 1 by omega, schN]
            have e : nxt (schN s (k - 16)) = (at_ (schN s (k - 16)) (k - 16) + at_ (schN s (k - 16)) (k - 7) + sigX (at_ (schN s (k - 16)) (k - 15)) + sigY (at_ (schN s (k - 16)) (k - 2))) % 4294967296 := by rw [nxt, hl]
            generalize nxt (schN s (k - 16)) = x at *
            subst e
            exact h1
          case measure => simp [intOf]; omega
        · have hk64 : k = 64 := by omega
          subst hk64
          have hsz : (Tryz.prog.info? 156).map (·.size) = some (row64 (schN s 48)).size := by rw [row64_size _ (by rw [schN_length]; omega)]; kernel_rfl
          have HS := Lib.hid hsz
          clear hsz
          have ho : (row64 []).size = (row64 (schN s 48)).size := by rw [row64_size _ (by simp), row64_size _ (by rw [schN_length]; omega)]
          have HO := Lib.hid ho
          clear ho
          go_wp2_with (first
            | (refine wpList_load_row rfl 156 _ rfl (w.heap.size + 1) rfl _ _ _ _ hI Tryz.underlying156 rfl HS.out ?_)
            | (refine wpList_store_row rfl 156 _ _ rfl w.heap.size (row64 (schN s 48)) rfl rfl _ _ hJ HS.out HO.out (row64_one _) ?_))
          refine bodyPost_ret (results_cell_row Tryz.results212 _ _ w.heap.size 156 (row64 (schN s 48)) (0, 0) _ rfl (hJ.row _) Tryz.underlying156 rfl HS.out) rfl ⟨rfl, ?_⟩
          exact belowRow hB (Nat.le_refl _) _
end Go.Proofs.YtfgdcpolfekgjaaGreat
namespace Go.Proofs.YtfgdcpolfekgjaaGreat
open Go.RowKit
variable [Tabs]

/-- eight words stored one by one. -/
abbrev set8 (w : World) (g : Nat) (s : S8) : World := ((((((((w.setCell ⟨g, 0, none⟩ (.int .u32 s.a)).setCell ⟨g, 1, none⟩ (.int .u32 s.b)).setCell ⟨g, 2, none⟩ (.int .u32 s.c)).setCell ⟨g, 3, none⟩ (.int .u32 s.d)).setCell ⟨g, 4, none⟩ (.int .u32 s.e)).setCell ⟨g, 5, none⟩ (.int .u32 s.f)).setCell ⟨g, 6, none⟩ (.int .u32 s.g)).setCell ⟨g, 7, none⟩ (.int .u32 s.h))
omit [Tabs] in
theorem Is.set8 {w : World} {g : Nat} {t : TypeId} {s : S8} (h : Is w g t s.arr) (s' : S8) : Is (set8 w g s') g t s'.arr := by
  have := (((((((h.set 0 (.int .u32 s'.a)).set 1 (.int .u32 s'.b)).set 2 (.int .u32 s'.c)).set 3 (.int .u32 s'.d)).set 4 (.int .u32 s'.e)).set 5 (.int .u32 s'.f)).set 6 (.int .u32 s'.g)).set 7 (.int .u32 s'.h)
  simpa using this
omit [Tabs] in
theorem heap_set8 (w : World) (g k : Nat) (s : S8) (h : k ≠ g) : (set8 w g s).heap[k]? = w.heap[k]? := by
  simp only [set8]
  repeat rw [heap_setCell_other _ _ _ _ (by simpa using h)]
omit [Tabs] in
theorem Is.far8 {w : World} {g : Nat} {t : TypeId} {cs : Array Value} (h : Is w g t cs) {k : Nat} (hk : g ≠ k) (s : S8) : Is (Go.Proofs.YtfgdcpolfekgjaaGreat.set8 w k s) g t cs := (heap_set8 w k g s hk).trans h
omit [Tabs] in
theorem below8 {B : Nat} {a w : World} (h : Below B a w) {g : Nat} (hg : B ≤ g) (s : S8) : Below B a (set8 w g s) :=
  (((((((h.setCell hg _).setCell hg _).setCell hg _).setCell hg _).setCell hg _).setCell hg _).setCell hg _).setCell hg _

/-- the tables hold what their initialisers lay. -/
structure Tab (w : World) : Prop where
  k : ∀ i, i < 64 → w.cell? ⟨1, i, none⟩ = some (.int .u32 (at_ KW i))
  h : ∀ i, i < 8 → w.cell? ⟨0, i, none⟩ = some (.int .u32 (H0.get i))
  two : 2 ≤ w.heap.size
theorem Tab.below {w w' : World} {B : Nat} (h : Tab w) (hb : Below B w w') (hB : 2 ≤ B) : Tab w' :=
  ⟨fun i hi => (hb.cell (p := ⟨1, i, none⟩) (by show 1 < B; omega)).trans (h.k i hi), fun i hi => (hb.cell (p := ⟨0, i, none⟩) (by show 0 < B; omega)).trans (h.h i hi), Nat.le_trans h.two hb.size⟩
theorem Tab.drewN {w : World} (h : Tab w) (n : Nat) : Tab (w.drewN n) := ⟨h.k, h.h, h.two⟩

set_option maxRecDepth 100000 in
set_option maxHeartbeats 400000 in
theorem dmix_any (h : S8) (s : ByteArray) (w : World) (hs : s.size = 64) (hT : Tab w) :
    Calls Tryz.prog 200 #[.agg h.arr, .string s] w fun e w' => e = .returned (.agg (mixSD h s).arr) ∧ Below w.heap.size w w' := by
  have HS := Lib.hid hs
  clear hs
  go_enter Tryz.func200, Tryz.ntmps200
  go_wp2_with fail
  refine (schedule_any _ _ HS.out).mono ?_
  rintro e w1 ⟨rfl, hb1⟩
  have hRs : (row64 (schN s 48)).size = 64 := row64_size _ (by rw [schN_length]; omega)
  have hRg : ∀ j, j < 64 → (row64 (schN s 48))[j]? = some (.int .u32 (at_ (schN s 48) j)) := fun j hj => row64_get _ _ (by rw [schN_length]; omega)
  have hRo := row64_one (schN s 48)
  generalize row64 (schN s 48) = R at *
  have h64 : (Tryz.prog.info? 156).map (·.size) = some R.size := by rw [hRs]; kernel_rfl
  have HRs := Lib.hid hRs
  have HRg := Lib.hid hRg
  have HRo := Lib.hid hRo
  have H64 := Lib.hid h64
  clear hRs hRg hRo h64
  have hA1 : Is w1 w.heap.size 133 h.arr := Is.below (heap_alloc2_old w _ _) hb1 (by simp; omega)
  have hZ1 : Is w1 (w.heap.size + 1) 133 (S8.mk 0 0 0 0 0 0 0 0).arr := Is.below (heap_alloc2_new w _ _) hb1 (by simp)
  have hB1 : Below w.heap.size w w1 := (((Below.refl _ _).alloc (Nat.le_refl _) _).alloc (by simp) _).trans (hb1.mono (by simp; omega))
  have hlt1 : w.heap.size + 1 < w1.heap.size := hZ1.lt
  clear hb1
  go_wp2_with (first
    | (refine wpList_store_row rfl 156 _ _ rfl w1.heap.size R rfl rfl _ _ (heap_alloc_new w1 _) H64.out (by rw [HRs.out]; rfl) HRo.out ?_; rw [World.setRow_alloc_new])
    | (refine wpList_load_row rfl 133 _ rfl w.heap.size rfl _ _ _ _ (hA1.alloc _) Tryz.underlying133 rfl (by kernel_rfl) ?_))
  go_loopw [12] (fun i wr => ∃ k : Nat, k ≤ 64 ∧ i = .int .i64 k ∧ Is wr (w1.heap.size + 1) 133 (rounds (schN s 48) k h).arr ∧ Is wr w1.heap.size 156 R ∧ Is wr w.heap.size 133 h.arr ∧ Is wr (w.heap.size + 1) 133 (S8.mk 0 0 0 0 0 0 0 0).arr ∧ Below w.heap.size w wr)
    (fun i _ => 64 - (intOf i).toNat)
  case atStart =>
    refine ⟨0, by omega, rfl, ?_, ?_, ?_, ?_, ?_⟩
    · exact heap_alloc2_new w1 _ _
    · exact heap_alloc2_old w1 _ _
    · exact (hA1.alloc _).alloc _
    · exact (hZ1.alloc _).alloc _
    · exact (hB1.alloc (by omega) _).alloc (by simp; omega) _
  case round =>
    obtain ⟨k, hk, rfl, hS, hW, hA, hZ, hB⟩ := hrel
    by_cases hlt : k < 64
    · have hTr : Tab wr := hT.below hB hT.two
      have cK := hTr.k k hlt
      have cW : wr.cell? ⟨w1.heap.size, k, none⟩ = some (.int .u32 (at_ (schN s 48) k)) := (hW.cell _).trans (HRg.out k hlt)
      generalize hsr : rounds (schN s 48) k h = sr at *
      have HSR := Lib.hid hsr
      clear hsr
      have c0 := hS.cell 0
      have c1 := hS.cell 1
      have c2 := hS.cell 2
      have c3 := hS.cell 3
      have c4 := hS.cell 4
      have c5 := hS.cell 5
      have c6 := hS.cell 6
      have c7 := hS.cell 7
      go_wp2
      refine wp_region_still_tail 8 (by kernel_rfl) (by kernel_rfl) ?_
      change wpStill _ _ (wr.drewN 1) (fun a' => wpList _ _ _ _ a' (wr.drewN 1)) _ _
      simp only [List.take_succ_cons, List.take_zero, List.drop_succ_cons, List.drop_zero]
      repeat still_step
      refine wpStill_nil ?_
      go_wp2_with fail
      refine (round_any sr _ _).mono ?_
      rintro e w2 ⟨rfl, hb2⟩
      have hS2 : Is w2 (w1.heap.size + 1) 133 sr.arr := Is.below (hS.drewN 1) hb2 hS.lt
      have hW2 : Is w2 w1.heap.size 156 R := Is.below (hW.drewN 1) hb2 hW.lt
      have hA2 : Is w2 w.heap.size 133 h.arr := Is.below (hA.drewN 1) hb2 hA.lt
      have hZ2 : Is w2 (w.heap.size + 1) 133 (S8.mk 0 0 0 0 0 0 0 0).arr := Is.below (hZ.drewN 1) hb2 hZ.lt
      have hB2 : Below w.heap.size w w2 := (belowN hB 1).trans (hb2.mono hB.size)
      clear hb2 cK cW c0 c1 c2 c3 c4 c5 c6 c7 hS hW hA hZ hB hTr
      go_wp2_with (refine wpList_store_row rfl 133 _ _ rfl (w1.heap.size + 1) (rnd sr ((at_ KW k + at_ (schN s 48) k) % 4294967296)).arr rfl rfl _ _ hS2 (by kernel_rfl) rfl (arr_one _) ?_)
      go_roundw
      case rel =>
        refine ⟨k + 1, by omega, by go_num, ?_, hW2.rowFar (by omega) _, hA2.rowFar (by omega) _, hZ2.rowFar (by omega) _, belowRow hB2 (by omega) _⟩
        rw [rounds_succ, HSR.out]
        exact hS2.row _
      case measure => simp [intOf]; omega
    · have hS0 : Is wr (w1.heap.size + 1) 133 (rounds (schN s 48) 64 h).arr := by
        have e : k = 64 := by omega
        rw [e] at hS
        exact hS
      clear hS
      generalize hsr : rounds (schN s 48) 64 h = sr at *
      have HSR := Lib.hid hsr
      clear hsr
      go_wp2
      go_loopw [25] (fun i wr => ∃ k : Nat, k ≤ 8 ∧ i = .int .i64 k ∧ Is wr (w1.heap.size + 1) 133 sr.arr ∧ Is wr w.heap.size 133 (arrF fun j => if j < k then (h.get j + sr.get j) % 4294967296 else h.get j) ∧ Is wr (w.heap.size + 1) 133 (S8.mk 0 0 0 0 0 0 0 0).arr ∧ Below w.heap.size w wr)
        (fun i _ => 8 - (intOf i).toNat)
      case atStart =>
        refine ⟨0, by omega, rfl, hS0, ?_, hZ, hB⟩
        rw [arr_arrF] at hA
        exact hA
      case round =>
        clear hS0 hA hZ hB hW
        obtain ⟨k, hk, rfl, hS, hA, hZ, hB⟩ := hrel
        by_cases hlt : k < 8
        · have cS : wr.cell? ⟨w1.heap.size + 1, k, none⟩ = some (.int .u32 (sr.get k)) := (hS.cell _).trans (by rw [arr_arrF]; exact arrF_get _ _ hlt)
          have cA : wr.cell? ⟨w.heap.size, k, none⟩ = some (.int .u32 (h.get k)) := (hA.cell _).trans (by rw [arrF_get _ _ hlt]; simp)
          have fA : wr.frozen? ⟨w.heap.size, k, none⟩ = false := hA.frozen k
          have HA := Lib.hid hA
          clear hA
          go_wp2
          refine wp_region_still_tail 8 (by kernel_rfl) (by kernel_rfl) ?_
          change wpStill _ _ (wr.drewN 1) (fun a' => wpList _ _ _ _ a' (wr.drewN 1)) _ _
          simp only [List.take_succ_cons, List.take_zero, List.drop_succ_cons, List.drop_zero]
          repeat still_step
          refine wpStill_nil ?_
          go_wp2
          go_roundw
          case rel =>
            refine ⟨k + 1, by omega, by go_num, (hS.far (by simp; omega) _), ?_, (hZ.far (by simp) _), (belowN hB _).setCell (by simp) _⟩
            have h1 := (HA.out.drewN 1).set k (.int .u32 ((h.get k + sr.get k) % 4294967296))
            rw [arrF_set] at h1
            have e : arrF (fun j => if j = k then (h.get k + sr.get k) % 4294967296 else if j < k then (h.get j + sr.get j) % 4294967296 else h.get j) = arrF (fun j => if j < k + 1 then (h.get j + sr.get j) % 4294967296 else h.get j) := by
              refine arrF_congr fun j _ => ?_
              by_cases e1 : j = k
              · subst e1; simp
              · rw [if_neg e1]
                by_cases e2 : j < k
                · rw [if_pos e2, if_pos (by omega)]
                · rw [if_neg e2, if_neg (by omega)]
            rw [e] at h1
            exact h1
          case measure => simp [intOf]; omega
        · have hA0 : Is wr w.heap.size 133 (mixSD h s).arr := by
            have e : k = 8 := by omega
            subst e
            rw [arr_arrF]
            have e2 : arrF (mixSD h s).get = arrF (fun j => if j < 8 then (h.get j + sr.get j) % 4294967296 else h.get j) := by
              refine arrF_congr fun j hj => ?_
              rw [if_pos hj, mixSD, addS_get, HSR.out]
            rw [e2]
            exact hA
          clear hA
          generalize hmx : mixSD h s = mx at hA0
          have HM := Lib.hid hmx
          clear hmx
          go_wp2_with (first
            | (refine wpList_load_row rfl 133 _ rfl w.heap.size rfl _ _ _ _ hA0 Tryz.underlying133 rfl (by kernel_rfl) ?_)
            | (refine wpList_store_row rfl 133 _ _ rfl (w.heap.size + 1) mx.arr rfl rfl _ _ hZ (by kernel_rfl) rfl (arr_one _) ?_))
          refine bodyPost_ret (results_cell_row Tryz.results200 _ _ (w.heap.size + 1) 133 mx.arr (0, 0) _ rfl (hZ.row _) Tryz.underlying133 rfl (by kernel_rfl)) rfl ⟨by rw [HM.out], ?_⟩
          exact belowRow hB (by omega) _
end Go.Proofs.YtfgdcpolfekgjaaGreat
namespace Go.Proofs.YtfgdcpolfekgjaaGreat
open Go.RowKit Go.Shelf
variable [Tabs]
attribute [local go_sem] Oper.semAt_some

/-- a block: 64 bytes. -/
abbrev B64 := { x : ByteArray // x.size = 64 }
/-- the block at a place. -/
def blk (s : ByteArray) (j : Nat) : B64 :=
  if h : j * 64 + 64 ≤ s.size then ⟨s.extract (j * 64) (j * 64 + 64), by simp; omega⟩ else ⟨⟨Array.replicate 64 0⟩, by simp [ByteArray.size]⟩
def blks (s : ByteArray) (k : Nat) : List B64 := (List.range k).map (blk s)
omit [Tabs] in
theorem blks_succ (s : ByteArray) (k : Nat) : blks s (k + 1) = blks s k ++ [blk s k] := by simp [blks, List.range_succ]
def mixLD (h : S8) (l : List B64) : S8 := l.foldl (fun h b => mixSD h b.1) h
theorem mixL_snoc (h : S8) (l : List B64) (b : B64) : mixLD h (l ++ [b]) = mixSD (mixLD h l) b.1 := by simp [mixLD]
/-- what all whole blocks of a text make of eight words. -/
def mixT (h : S8) (s : ByteArray) : S8 := mixLD h (blks s (s.size / 64))

/-- one block is as it was. -/
def SameAtD (b : Nat) (W W' : World) : Prop := W'.heap[b]? = W.heap[b]?
omit [Tabs] in
theorem Is.keptD {W W' : World} {g : Nat} {t : TypeId} {cs : Array Value} {row : Option Nat} (h : Is W g t cs) (hg : W.grownBy W' row) (hr : ∀ r, row = some r → ∃ o : Obj, W.heap[r]? = some o ∧ o.isCells = false) : Is W' g t cs :=
  (grownBy_keeps_cells hg hr h rfl).trans h
omit [Tabs] in
theorem keeps_of_below {W W' : World} (h : Below W.heap.size W W') : KeepsOthers W W' :=
  ⟨h.size, fun k _ hk _ => (h.block k (Array.getElem?_eq_some_iff.1 hk).1).trans hk⟩

set_option maxRecDepth 100000 in
set_option maxHeartbeats 1000000 in
omit [Tabs] in
theorem blocks1_in (F : Fence) (n : Nat) (h6 : F.fn 211) (hro : F.round = none) (hn : 1 ≤ n) (l Bn : Nat) (s : ByteArray) (hs : s.size ≤ 9223372036854775000) (J Jx : List B64 → World → Prop)
    (hY : ∀ pre x W, J pre W → pre.length < s.size / 64 → YieldAt F (n - 1) Tryz.prog l #[.string x.1] W fun e W' =>
      (e = .returned (.bool true) ∧ J (pre ++ [x]) W' ∧ SameAtD Bn W W') ∨ (e = .returned (.bool false) ∧ Jx (pre ++ [x]) W'))
    (W : World) (hBn : W.cell? ⟨Bn, 0, none⟩ = some (.string s)) (h0 : J [] W) :
    CallsIn F n Tryz.prog 211 #[.func (.yield l) #[] #[], .pointer (some ⟨Bn, 0, none⟩)] W fun e W' => (∃ v, e = .returned v) ∧
      ((∃ ys, ys = blks s (s.size / 64) ∧ J ys W') ∨ (∃ pre, True ∧ Jx pre W')) := by
  refine callsIn_of_wp Tryz.func211 rfl h6 ?_ hro
  simp only [Tryz.ntmps211, List.size_toArray, List.length_cons, List.length_nil, Nat.reduceAdd, Nat.reduceSub, Array.replicate_succ, Array.replicate_zero, List.push_toArray, List.append_toArray, List.nil_append, List.cons_append]
  gi_wp2
  gi_loopw [3] (fun p wr => ∃ k : Nat, p = .int .i64 ((k * 64 : Nat) : Int) ∧ k * 64 ≤ s.size ∧ wr.cell? ⟨Bn, 0, none⟩ = some (.string s) ∧ J (blks s k) wr)
    (fun p _ => s.size - (intOf p).toNat)
  case atStart =>
    exact ⟨0, rfl, by omega, hBn, h0⟩
  case round =>
    obtain ⟨k, rfl, hk, hc, hJ⟩ := hrel
    obtain ⟨p, hp⟩ : ∃ p, p = k * 64 := ⟨_, rfl⟩
    rw [← hp] at hk ⊢
    by_cases hle : p + 64 ≤ s.size
    · have hb : (blk s k).1 = s.extract p (p + 64) := by
        unfold blk
        rw [dif_pos (by omega)]
        show s.extract (k * 64) (k * 64 + 64) = _
        rw [hp]
      obtain ⟨fn, tmps, assign, body, hy, hR⟩ := hY (blks s k) (blk s k) wr hJ (by simp [blks]; omega)
      rw [hb] at hy
      have HP := Lib.hid hp
      have HB := Lib.hid hb
      clear hp hb
      have HR := Lib.hid hR
      clear hR
      have hi1 : (p : Int) + 64 ≤ (s.size : Int) := by omega
      have hsl : ∀ wx : World, (Instr.slice 9 (.string s) (some (.int .i64 (p : Int))) (some (.int .i64 ((p : Int) + 64))) none).run Tryz.prog wx = .ok (.string (s.extract p (p + 64))) wx := fun wx => by
        have := run_slice_string (P := Tryz.prog) (w := wx) 9 s .i64 .i64 (p : Int) ((p : Int) + 64) Tryz.underlying9 (by omega) (by omega) (by omega)
        rw [show ((p : Int) + 64).toNat = p + 64 by omega, Int.toNat_natCast] at this
        exact this
      gi_wp2
      refine HR.out.mono ?_
      rintro e W3 (⟨rfl, hJ3, hk3⟩ | ⟨rfl, hJx3⟩)
      · have hc3 : W3.cell? ⟨Bn, 0, none⟩ = some (.string s) := (World.cell?_of_block (w := wr) (a := ⟨Bn, 0, none⟩) hk3).trans hc
        gi_wp2
        go_roundw
        case rel =>
          refine ⟨k + 1, ?_, ?_, hc3, ?_⟩
          · have := HP.out; rw [show (k + 1) * 64 = p + 64 by omega]; rfl
          · have := HP.out; omega
          · rw [blks_succ]; exact hJ3
        case measure => simp [intOf]; omega
      · gi_wp2
        refine bodyPost_ret (results_none rfl _ _ _) rfl ?_
        exact ⟨⟨_, rfl⟩, .inr ⟨_, trivial, hJx3⟩⟩
    · have hi1 : ¬ (p : Int) + 64 ≤ (s.size : Int) := by omega
      have he : blks s (s.size / 64) = blks s k := by rw [show s.size / 64 = k by omega]
      have HE := Lib.hid he
      clear he hp
      gi_wp2
      go_end0
      exact ⟨⟨_, rfl⟩, .inl (by rw [HE.out]; exact hJ)⟩

set_option maxHeartbeats 1000000 in
omit [Tabs] in
theorem blocks_in (F : Fence) (n : Nat) (h5 : F.fn 199) (hro : F.round = none) (s : ByteArray) (w : World) :
    CallsIn F n Tryz.prog 199 #[.string s] w fun e w' => e = .returned (.func (.func 211) #[] #[.pointer (some ⟨w.heap.size, 0, none⟩)]) ∧ w' = w.alloc (.cells #[.string s] 9) := by
  refine callsIn_of_wp Tryz.func199 rfl h5 ?_ hro
  simp only [Tryz.ntmps199, List.size_toArray, List.length_cons, List.length_nil, Nat.reduceAdd, Nat.reduceSub, Array.replicate_succ, Array.replicate_zero, List.push_toArray, List.append_toArray, List.nil_append, List.cons_append]
  gi_wp2
  go_ret
  exact ⟨rfl, rfl⟩

omit [Tabs] in
theorem blocks_stops (F : Fence) (n : Nat) (h6 : F.fn 211) (hro : F.round = none) (hn : 1 ≤ n) (Bn : Nat) (s : ByteArray) (hs : s.size ≤ 9223372036854775000) (w : World) (hBn : Bn < w.heap.size)
    (hc : w.cell? ⟨Bn, 0, none⟩ = some (.string s)) :
    SeqStopsK F n Tryz.prog 211 #[.pointer (some ⟨Bn, 0, none⟩)] (fun x : B64 => #[Value.string x.1]) (SameAtD Bn) (fun ys => ys = blks s (s.size / 64)) (fun _ => True) (s.size / 64) w := fun l J Jx W hW _ _ hY h0 =>
  blocks1_in F n h6 hro hn l Bn s hs J Jx hY W ((hW.cell (p := ⟨Bn, 0, none⟩) hBn).trans hc) h0

set_option maxRecDepth 100000 in
set_option maxHeartbeats 1000000 in
theorem mixAll_any (h : S8) (s : ByteArray) (w : World) (hs : s.size ≤ 9223372036854775000) (hT : Tab w) :
    Calls Tryz.prog 186 #[.agg h.arr, .string s] w fun e w' => e = .returned (.agg (mixT h s).arr) ∧ Below w.heap.size w w' := by
  refine (callsIn_wide (n := 5)).1 ?_
  refine callsIn_of_wp_marks Tryz.func186 rfl trivial ?_ rfl
  simp only [Tryz.ntmps186, List.size_toArray, List.length_cons, List.length_nil, Nat.reduceAdd, Nat.reduceSub, Array.replicate_succ, Array.replicate_zero, List.push_toArray, List.append_toArray, List.nil_append, List.cons_append]
  gi_wp2_with (refine ⟨trivial, ?_⟩; gi_at_call 199; refine (blocks_in Fence.wide _ trivial rfl _ _).mono ?_; rintro e w' ⟨rfl, rfl⟩)
  have i0 : Is (((w.alloc (.cells h.arr 133)).alloc (.cells (S8.mk 0 0 0 0 0 0 0 0).arr 133)).alloc (.cells #[.string s] 9)) w.heap.size 133 h.arr := ((Is.new w _ _).alloc _).alloc _
  have i1 : Is (((w.alloc (.cells h.arr 133)).alloc (.cells (S8.mk 0 0 0 0 0 0 0 0).arr 133)).alloc (.cells #[.string s] 9)) (w.heap.size + 1) 133 (S8.mk 0 0 0 0 0 0 0 0).arr := Is.alloc (heap_alloc2_new w _ _) _
  have i2 : Is (((w.alloc (.cells h.arr 133)).alloc (.cells (S8.mk 0 0 0 0 0 0 0 0).arr 133)).alloc (.cells #[.string s] 9)) (w.heap.size + 1 + 1) 9 #[.string s] := by
    have := Is.new ((w.alloc (.cells h.arr 133)).alloc (.cells (S8.mk 0 0 0 0 0 0 0 0).arr 133)) 9 #[.string s]
    simpa using this
  have hB0 : Below w.heap.size w (((w.alloc (.cells h.arr 133)).alloc (.cells (S8.mk 0 0 0 0 0 0 0 0).arr 133)).alloc (.cells #[.string s] 9)) := (((Below.refl _ _).alloc (Nat.le_refl _) _).alloc (by simp) _).alloc (by simp; omega) _
  have hsz : (((w.alloc (.cells h.arr 133)).alloc (.cells (S8.mk 0 0 0 0 0 0 0 0).arr 133)).alloc (.cells #[.string s] 9)).heap.size = w.heap.size + 1 + 1 + 1 := by simp
  change Code.wpIn _ _ _ _ _ _ (((w.alloc (.cells h.arr 133)).alloc (.cells (S8.mk 0 0 0 0 0 0 0 0).arr 133)).alloc (.cells #[.string s] 9))
  generalize ((w.alloc (.cells h.arr 133)).alloc (.cells (S8.mk 0 0 0 0 0 0 0 0).arr 133)).alloc (.cells #[.string s] 9) = W0 at *
  have HSZ := Lib.hid hsz
  clear hsz
  refine wpIn_rangeFunc_ownF rfl (by omega) (gf := 211) (lb := #[.pointer (some ⟨w.heap.size + 1 + 1, 0, none⟩)]) rfl trivial (enters_of Tryz.func211 (by kernel_rfl) rfl)
    (blocks_stops Fence.wide _ trivial rfl (by omega) (w.heap.size + 1 + 1) s hs W0 (by rw [HSZ.out]; omega) (i2.cell 0)) (fun h1 h2 => Eq.trans h2 h1) (fun W l o o' hl _ _ _ => World.putObj_heap_other (by rw [HSZ.out] at hl; omega)) (Below.refl _ _) (fun _ => rfl)
    (fun pre W => (Is W w.heap.size 133 (mixLD h pre).arr ∧ Is W (w.heap.size + 1) 133 (S8.mk 0 0 0 0 0 0 0 0).arr ∧ Is W (w.heap.size + 1 + 1) 9 #[.string s]) ∧ Below w.heap.size w W)
    (fun _ _ _ => False)
    (OwnFrom.and (fun s A B row hs hg hr => ⟨hs.1.keptD hg (fun r e => (hr r e).2), hs.2.1.keptD hg (fun r e => (hr r e).2), hs.2.2.keptD hg (fun r e => (hr r e).2)⟩) (ownFrom_below (Nat.le_refl _) (by rw [HSZ.out]; omega)))
    (fun _ _ _ _ _ hs _ _ => hs)
    ⟨⟨i0, i1, i2⟩, hB0⟩
    (fun x => { tmps := #[.agg h.arr, .string s, .pointer (some ⟨w.heap.size, 0, none⟩), undef, .pointer (some ⟨w.heap.size + 1, 0, none⟩), .string x.1, .string s, .func (.func 211) #[] #[.pointer (some ⟨w.heap.size + 1 + 1, 0, none⟩)], .string x.1, undef, undef, undef, undef], defers := [] }) ?assign ?body ?done ?stop
  case assign =>
    intro l x W K hK
    gi_wp2
    exact hK
  case body =>
    rintro l pre x W ⟨⟨j0, j1, j2⟩, hB⟩ _
    have hTW : Tab W := hT.below hB hT.two
    generalize hm : mixLD h pre = m at *
    have HM := Lib.hid hm
    clear hm
    have c0 := j0.cell 0
    have c1 := j0.cell 1
    have c2 := j0.cell 2
    have c3 := j0.cell 3
    have c4 := j0.cell 4
    have c5 := j0.cell 5
    have c6 := j0.cell 6
    have c7 := j0.cell 7
    gi_wp2_with (refine ⟨trivial, ?_⟩; gi_at_call 200; refine (CallsIn.inRound l (callsIn_wide.2 (dmix_any m x.1 W x.2 hTW))).mono ?_; rintro e w2 ⟨rfl, hb2⟩; clear c0 c1 c2 c3 c4 c5 c6 c7; have k0 : Is w2 w.heap.size 133 m.arr := j0.below hb2 j0.lt; have c0 := k0.cell 0; have c1 := k0.cell 1; have c2 := k0.cell 2; have c3 := k0.cell 3; have c4 := k0.cell 4; have c5 := k0.cell 5; have c6 := k0.cell 6; have c7 := k0.cell 7; have f0 := k0.frozen 0; have f1 := k0.frozen 1; have f2 := k0.frozen 2; have f3 := k0.frozen 3; have f4 := k0.frozen 4; have f5 := k0.frozen 5; have f6 := k0.frozen 6; have f7 := k0.frozen 7)
    have hw2 : Below w.heap.size w w2 := hB.trans (hb2.mono hB.size)
    have k1 : Is w2 (w.heap.size + 1) 133 (S8.mk 0 0 0 0 0 0 0 0).arr := j1.below hb2 j1.lt
    have k2 : Is w2 (w.heap.size + 1 + 1) 9 #[.string s] := j2.below hb2 j2.lt
    refine ⟨(keeps_of_below hb2).trans ?_, ?_, ⟨⟨?_, k1.far8 (by omega) _, k2.far8 (by omega) _⟩, below8 hw2 (Nat.le_refl _) _⟩⟩
    · refine ((((((((KeepsOthers.setCell _ _ _).trans (KeepsOthers.setCell _ _ _)).trans (KeepsOthers.setCell _ _ _)).trans (KeepsOthers.setCell _ _ _)).trans (KeepsOthers.setCell _ _ _)).trans (KeepsOthers.setCell _ _ _)).trans (KeepsOthers.setCell _ _ _)).trans (KeepsOthers.setCell _ _ _))
    · exact (heap_set8 w2 w.heap.size (w.heap.size + 1 + 1) (mixSD m x.1) (by omega)).trans (hb2.block _ j2.lt)
    · rw [mixL_snoc, HM.out]
      exact k0.set8 _
  case done =>
    rintro D ys W hD rfl ⟨⟨j0, j1, j2⟩, hB⟩ hK
    generalize hm : mixLD h (blks s (s.size / 64)) = m at *
    have HM := Lib.hid hm
    clear hm
    have c0 := j0.cell 0
    have c1 := j0.cell 1
    have c2 := j0.cell 2
    have c3 := j0.cell 3
    have c4 := j0.cell 4
    have c5 := j0.cell 5
    have c6 := j0.cell 6
    have c7 := j0.cell 7
    have d0 := j1.cell 0
    have d1 := j1.cell 1
    have d2 := j1.cell 2
    have d3 := j1.cell 3
    have d4 := j1.cell 4
    have d5 := j1.cell 5
    have d6 := j1.cell 6
    have d7 := j1.cell 7
    have f0 := j1.frozen 0
    have f1 := j1.frozen 1
    have f2 := j1.frozen 2
    have f3 := j1.frozen 3
    have f4 := j1.frozen 4
    have f5 := j1.frozen 5
    have f6 := j1.frozen 6
    have f7 := j1.frozen 7
    gi_wp2
    rw [HSZ.out] at hD
    have hr : Is (set8 W (w.heap.size + 1) m) (w.heap.size + 1) 133 m.arr := j1.set8 m
    have hKr : (set8 W (w.heap.size + 1) m).heap[D]? = some (.deferred (some [])) := (heap_set8 W (w.heap.size + 1) D m (by omega)).trans hK
    have hBr : Below w.heap.size w (set8 W (w.heap.size + 1) m) := below8 hB (by omega) m
    change bodyPostM _ _ _ _ _ _ _ (set8 W (w.heap.size + 1) m)
    generalize set8 W (w.heap.size + 1) m = WR at *
    refine ⟨by simp, .inl ⟨_, _, rfl, run_takeDeferred hKr, ?_⟩⟩
    refine ⟨_, results_cell_row Tryz.results186 _ _ (w.heap.size + 1) 133 m.arr (0, 0) _ rfl ((World.putObj_heap_other (by omega)).trans hr) Tryz.underlying133 rfl (by kernel_rfl), by rw [mixT, HM.out], ?_⟩
    exact hBr.trans (belowK_b (w := w) (Nat.le_refl _) WR D _ _ (by omega) hKr rfl rfl)
  case stop =>
    rintro D c pre W _ _ h _
    exact h.elim
end Go.Proofs.YtfgdcpolfekgjaaGreat
namespace Go.Proofs.YtfgdcpolfekgjaaGreat
open Go.RowKit
variable [Tabs]

/-- a sum on its way. -/
structure Hs where
  h : S8
  r : ByteArray
  m : Int
abbrev Hs.arr (x : Hs) : Array Value := #[.int .u32 x.h.a, .int .u32 x.h.b, .int .u32 x.h.c, .int .u32 x.h.d, .int .u32 x.h.e, .int .u32 x.h.f, .int .u32 x.h.g, .int .u32 x.h.h, .string x.r, .int .i64 x.m]
/-- a sum on its way stored cell by cell. -/
abbrev setH (w : World) (g : Nat) (x : Hs) : World := ((set8 w g x.h).setCell ⟨g, 8, none⟩ (.string x.r)).setCell ⟨g, 9, none⟩ (.int .i64 x.m)
omit [Tabs] in
theorem Is.setH {w : World} {g : Nat} {t : TypeId} {x : Hs} (h : Is w g t x.arr) (y : Hs) : Is (setH w g y) g t y.arr := by
  have := (((((((((h.set 0 (.int .u32 y.h.a)).set 1 (.int .u32 y.h.b)).set 2 (.int .u32 y.h.c)).set 3 (.int .u32 y.h.d)).set 4 (.int .u32 y.h.e)).set 5 (.int .u32 y.h.f)).set 6 (.int .u32 y.h.g)).set 7 (.int .u32 y.h.h)).set 8 (.string y.r)).set 9 (.int .i64 y.m)
  simpa using this
omit [Tabs] in
theorem belowH {B : Nat} {a w : World} (h : Below B a w) {g : Nat} (hg : B ≤ g) (x : Hs) : Below B a (setH w g x) := ((below8 h hg x.h).setCell hg _).setCell hg _
/-- may it be? -/
def rightBD (x : Hs) : Bool := decide (0 ≤ x.m) && decide (x.m ≤ 1048576) && ((x.r.size : Int) == x.m % 64)

set_option maxRecDepth 100000 in
set_option maxHeartbeats 1000000 in
omit [Tabs] in
theorem dright_any (x : Hs) (w : World) :
    Calls Tryz.prog 185 #[.agg x.arr] w fun e w' => e = .returned (.bool (rightBD x)) ∧ Below w.heap.size w w' := by
  by_cases h0 : 0 ≤ x.m
  · by_cases h1 : x.m ≤ 1048576
    · have hb : rightBD x = ((x.r.size : Int) == x.m % 64) := by simp [rightBD, h0, h1]
      rw [hb]
      clear hb
      go_enter Tryz.func185, Tryz.ntmps185
      go_wp2
      go_ret
      exact ⟨rfl, (Below.refl _ _).alloc (Nat.le_refl _) _⟩
    · have hb : rightBD x = false := by simp [rightBD, h1]
      rw [hb]
      clear hb
      have hd : decide (x.m ≤ 1048576) = false := by simpa using h1
      go_enter Tryz.func185, Tryz.ntmps185
      go_wp2
      go_ret
      exact ⟨rfl, (Below.refl _ _).alloc (Nat.le_refl _) _⟩
  · have hb : rightBD x = false := by simp [rightBD, h0]
    rw [hb]
    clear hb
    have hd : decide (0 ≤ x.m) = false := by simpa using h0
    go_enter Tryz.func185, Tryz.ntmps185
    go_wp2
    go_ret
    exact ⟨rfl, (Below.refl _ _).alloc (Nat.le_refl _) _⟩

/-- the sum of nothing yet. -/
def Hs0 : Hs := ⟨H0, ⟨#[]⟩, 0⟩
set_option maxRecDepth 100000 in
set_option maxHeartbeats 1000000 in
theorem new_any (w : World) (hT : Tab w) :
    Calls Tryz.prog 167 #[] w fun e w' => e = .returned (.agg Hs0.arr) ∧ Below w.heap.size w w' := by
  have c0 : w.cell? ⟨0, 0, none⟩ = some (.int .u32 H0.a) := hT.h 0 (by omega)
  have c1 : w.cell? ⟨0, 1, none⟩ = some (.int .u32 H0.b) := hT.h 1 (by omega)
  have c2 : w.cell? ⟨0, 2, none⟩ = some (.int .u32 H0.c) := hT.h 2 (by omega)
  have c3 : w.cell? ⟨0, 3, none⟩ = some (.int .u32 H0.d) := hT.h 3 (by omega)
  have c4 : w.cell? ⟨0, 4, none⟩ = some (.int .u32 H0.e) := hT.h 4 (by omega)
  have c5 : w.cell? ⟨0, 5, none⟩ = some (.int .u32 H0.f) := hT.h 5 (by omega)
  have c6 : w.cell? ⟨0, 6, none⟩ = some (.int .u32 H0.g) := hT.h 6 (by omega)
  have c7 : w.cell? ⟨0, 7, none⟩ = some (.int .u32 H0.h) := hT.h 7 (by omega)
  have h2 : 0 < w.heap.size := by have := hT.two; omega
  go_enter Tryz.func167, Tryz.ntmps167
  go_wp2
  refine bodyPost_ret (results_cell_row Tryz.results167 _ _ w.heap.size 135 Hs0.arr (0, 0) _ rfl (heap_alloc_new w _) Tryz.underlying135 rfl (by kernel_rfl)) rfl ⟨rfl, ?_⟩
  exact (Below.refl _ _).alloc (Nat.le_refl _) _

omit [Tabs] in
theorem infoByte : (Tryz.prog.info? 5).map (fun i => (i.zero, i.size, i.bytes)) = some (some (.int .u8 0), 1, 1) := by kernel_rfl
set_option maxHeartbeats 4000000 in
set_option maxRecDepth 100000 in
omit [Tabs] in
theorem clone_lite (s : ByteArray) (w : World) (hlim : s.size ≤ 281474976710656) :
    Calls Tryz.prog 201 #[.string s] w fun e w' => e = .returned (.string s) ∧ Below w.heap.size w w' := by
  by_cases h0 : s.size = 0
  · have hs : s = ⟨#[]⟩ := by
      apply ByteArray.ext
      exact Array.eq_empty_of_size_eq_zero h0
    subst hs
    go_enter Tryz.func201, Tryz.ntmps201
    go_wp2
    go_ret
    exact ⟨rfl, Below.refl _ _⟩
  · obtain ⟨i0, hi, hz0, hz1, hz2⟩ := info_parts infoByte
    have hinfo : (Tryz.prog.info? 5).map (·.size) = some 1 := by rw [hi]; simp [hz1]
    have hco : Tryz.prog.cellsOf 5 = 1 := by kernel_rfl
    obtain ⟨M, hM⟩ : ∃ M, M = madeCells (Value.int .u8 0).cells (((s.size : Nat) : Int).toNat * i0.size) := ⟨_, rfl⟩
    have hMs : M.size = s.size := by rw [hM, size_madeCells, hz1]; simp
    have hmk : ∀ W : World, (Instr.makeSlice 63 (.int .i64 (s.size : Int)) (.int .i64 (s.size : Int))).run Tryz.prog W = .ok (.slice (some ⟨W.heap.size, 0, none⟩) s.size s.size) (W.alloc (.cells M 5)) := fun W => by
      have h := run_make (P := Tryz.prog) W 63 5 i0 (.int .u8 0) Tryz.underlying63 hi hz0 .i64 .i64 (s.size : Int) (s.size : Int) (by omega) (by omega) (by rw [hz2]; omega) (by omega)
      rw [← hM] at h
      simpa using h
    clear hM
    have hcp := Lib.run_copy_row_string (P := Tryz.prog) (w.alloc (.cells M 5)) 63 9 3 5 w.heap.size 0 s.size s.size s M 5 Tryz.underlying63 hinfo (heap_alloc_new w _) (Nat.le_refl _) (by omega)
    obtain ⟨Y, hY⟩ : ∃ Y, Y = (M.toList.take 0 ++ Lib.byteCells s.data.toList ++ M.toList.drop (0 + s.size)).toArray := ⟨_, rfl⟩
    rw [← hY] at hcp
    have hYl : Y.toList = Lib.byteCells s.data.toList := by
      rw [hY, List.toList_toArray, List.take_zero, List.nil_append, List.drop_of_length_le (by rw [Array.length_toList]; omega), List.append_nil]
    have hYs : Y.size = s.size := by rw [← Array.length_toList, hYl, Lib.byteCells_length, ← Lib.size_eq]
    have hgY : ((w.alloc (.cells M 5)).setRow w.heap.size Y).heap[w.heap.size]? = some (.cells Y 5 (0, 0)) := setRow_heap _ _ M _ 5 (0, 0) (heap_alloc_new w _)
    have hne : s.data.toList ≠ [] := fun e => h0 (by rw [Lib.size_eq, e]; rfl)
    have hUS := Lib.run_unsafeString_row (P := Tryz.prog) ((w.alloc (.cells M 5)).setRow w.heap.size Y) 172 3 9 5 Tryz.underlying172 hco w.heap.size Y.size (by unfold World.shape?; rw [hgY]) s.data.toList hne (by rw [← Lib.size_eq]; omega) (by rw [← Lib.size_eq]; omega)
      (fun j x hx => Lib.cells_of_row hgY Y.size j _ (by rw [List.take_of_length_le (by rw [Array.length_toList]; exact Nat.le_refl _), hYl]; simp [Lib.byteCells, hx]))
    rw [← Lib.size_eq] at hUS
    clear hY
    go_enter Tryz.func201, Tryz.ntmps201
    go_wp2
    go_ret
    have hb1 : Below w.heap.size w (w.alloc (.cells M 5)) := (Below.refl _ w).alloc (Nat.le_refl _) _
    exact ⟨rfl, Lib.below_freeze (belowRow hb1 (Nat.le_refl _) Y) (p := ⟨w.heap.size, 0, none⟩) (Nat.le_refl _) _⟩

set_option maxHeartbeats 400000 in
omit [Tabs] in
theorem clone_any (s : ByteArray) (w : World) (hlim : s.size ≤ 281474976710656) :
    Calls Tryz.prog 187 #[.string s] w fun e w' => e = .returned (.string s) ∧ Below w.heap.size w w' := by
  go_enter Tryz.func187, Tryz.ntmps187
  go_wp2_with fail
  refine (clone_lite _ _ hlim).mono ?_
  rintro e w1 ⟨rfl, hb⟩
  go_wp2
  go_ret
  exact ⟨rfl, hb⟩
end Go.Proofs.YtfgdcpolfekgjaaGreat
namespace Go.Proofs.YtfgdcpolfekgjaaGreat
open Go.RowKit
variable [Tabs]

/-- a word's four bytes, the highest one first. -/
def b4 (x : Int) : List Int := [x / 16777216 % 256, x / 65536 % 256, x / 256 % 256, x % 256]
def wbTo (h : S8) (k : Nat) : List Int := (List.range k).flatMap fun j => b4 (h.get j)
omit [Tabs] in
theorem wbTo_succ (h : S8) (k : Nat) : wbTo h (k + 1) = wbTo h k ++ b4 (h.get k) := by simp [wbTo, List.range_succ]
omit [Tabs] in
theorem wbTo_length (h : S8) (k : Nat) : (wbTo h k).length = 4 * k := by
  induction k with
  | zero => rfl
  | succ k ih => rw [wbTo_succ, List.length_append, ih]; simp [b4]; omega
omit [Tabs] in
theorem index8 (h : S8) (k : Nat) (hk : k < 8) (w : World) : (Instr.index 133 (.agg h.arr) (.int .i64 (k : Int))).run Tryz.prog w = .ok (.int .u32 (h.get k)) w := by
  rcases (by omega : k = 0 ∨ k = 1 ∨ k = 2 ∨ k = 3 ∨ k = 4 ∨ k = 5 ∨ k = 6 ∨ k = 7) with rfl | rfl | rfl | rfl | rfl | rfl | rfl | rfl
  all_goals kernel_rfl
omit [Tabs] in
theorem cells4 (w : World) (t : TypeId) (a b c d : Value) : ∀ j u, [a, b, c, d][j]? = some u → (w.alloc (.cells #[a, b, c, d] t)).cell? ((⟨w.heap.size, 0, none⟩ : Addr).add j) = some u := by
  intro j u hj
  have hadd : (⟨w.heap.size, 0, none⟩ : Addr).add j = ⟨w.heap.size, j, none⟩ := by unfold Addr.add; split <;> simp_all
  rw [hadd, World.cell?_alloc_at _ _ _ _ rfl]
  simpa using hj

set_option maxRecDepth 100000 in
set_option maxHeartbeats 1000000 in
omit [Tabs] in
theorem wordBytes_any (h : S8) (w : World) :
    Calls Tryz.prog 188 #[.agg h.arr] w fun e w' => e = .returned (.string (strOfNums (wbTo h 8))) ∧ Below w.heap.size w w' := by
  obtain ⟨i0, hi, hz0, hz1, hz2⟩ := info_parts infoByte
  obtain ⟨wm, hmk, hown0, hg0⟩ := run_make_own (P := Tryz.prog) (w.alloc (.cells h.arr 133)) w.heap.size 63 5 i0 (.int .u8 0) 1 Tryz.underlying63 hi hz0 hz1 .i64 .i64 32 (by rw [hz2]; omega) (by unfold maxLen; omega) (by simp)
  simp only [World.size_alloc] at hmk hown0
  rw [show (((32 : Nat) : Int)) = 32 from rfl] at hmk
  have hB0 : Below w.heap.size w wm := ((Below.refl _ _).alloc (Nat.le_refl _) _).grown hg0 (by simp) (fun k e => by cases e)
  have iA : Is wm w.heap.size 133 h.arr := (hg0.block _ (by simp) (by simp)).trans (Is.new w _ _)
  have c0 := iA.cell 0
  have c1 := iA.cell 1
  have c2 := iA.cell 2
  have c3 := iA.cell 3
  have c4 := iA.cell 4
  have c5 := iA.cell 5
  have c6 := iA.cell 6
  have c7 := iA.cell 7
  go_enter Tryz.func188, Tryz.ntmps188
  go_wp2
  clear hmk c0 c1 c2 c3 c4 c5 c6 c7
  go_loopw [3, 8] (fun v i wr => ∃ k : Nat, k ≤ 8 ∧ i = .int .i64 k ∧ wr.ownsRow w.heap.size 5 1 v (4 * k) ((wbTo h k).map (Value.int .u8)) ∧ Below w.heap.size w wr)
    (fun _ i _ => 8 - (intOf i).toNat)
  case atStart => exact ⟨0, by omega, rfl, hown0, hB0⟩
  case round =>
    obtain ⟨k, hk, rfl, hown, hB⟩ := hrel
    by_cases hlt : k < 8
    · have hix := index8 h k hlt
      go_wp2_with (at_builtin; refine wpList_append_own _ rfl _ _ 63 rfl w.heap.size 5 i0 (.int .u8 0) 1 1 Tryz.underlying63 hi hz0 hz1 hz2 rfl (by decide) _ _ _ rfl (hown.alloc _) ⟨wr.heap.size, 0, none⟩ 4 4 [.int .u8 (h.get k / 16777216 % 256), .int .u8 (h.get k / 65536 % 256), .int .u8 (h.get k / 256 % 256), .int .u8 (h.get k % 256)] rfl rfl ?c1 ?c2 ?c3 ?c4 ?c5 ?_)
      case c1 => exact cells4 wr _ _ _ _ _
      case c2 => intro u hu; simp only [List.mem_cons, List.not_mem_nil, or_false] at hu; rcases hu with rfl | rfl | rfl | rfl <;> rfl
      case c3 => unfold maxLen; omega
      case c4 => omega
      case c5 => have := hB.size; simp; omega
      intro v' w1 hown' hgrow _
      have hB1 : Below w.heap.size w w1 := (hB.alloc hB.size _).grown hgrow (by have := hB.size; simp; omega) (fun g e => (hown.lt g e).1)
      have hown1 : w1.ownsRow w.heap.size 5 1 v' (4 * (k + 1)) ((wbTo h (k + 1)).map (Value.int .u8)) := by
        rw [wbTo_succ, List.map_append]
        exact hown'
      clear hown' hgrow hown hB hix
      go_wp2
      go_roundw
      case rel => exact ⟨k + 1, by omega, by go_num, hown1, hB1⟩
      case measure => simp [intOf]; omega
    · have hown8 : wr.ownsRow w.heap.size 5 1 u3 32 ((wbTo h 8).map (Value.int .u8)) := by
        have e : k = 8 := by omega
        rw [e] at hown
        exact hown
      obtain ⟨g, cap, rfl⟩ := ownsRow_succ hown8
      have hcv := run_convert_bytes_arg (P := Tryz.prog) wr 63 5 Tryz.underlying63 Tryz.underlying5 g 0 32 cap (wbTo h 8) (wbTo_length h 8) (fun i hi => by
        rw [Nat.zero_add, hown8.cellAt i (by omega)]
        have hl := wbTo_length h 8
        rw [List.getElem?_map, List.getElem?_eq_getElem (by omega), List.getD_eq_getElem?_getD, List.getElem?_eq_getElem (by omega)]
        rfl) 9 Tryz.underlying9
      generalize hst : strOfNums (wbTo h 8) = st at hcv
      have HST := Lib.hid hst
      clear hst hown hown8
      go_wp2
      go_ret
      exact ⟨by rw [HST.out]; rfl, hB⟩

/-- the eight bytes that tell 8 times m, the highest one first. -/
def lenTo (m : Int) (k : Nat) : List Int := (List.range k).map fun j => m * 8 / 2 ^ (56 - 8 * j) % 256
omit [Tabs] in
theorem lenTo_succ (m : Int) (k : Nat) : lenTo m (k + 1) = lenTo m k ++ [m * 8 / 2 ^ (56 - 8 * k) % 256] := by simp [lenTo, List.range_succ]
omit [Tabs] in
theorem lenTo_length (m : Int) (k : Nat) : (lenTo m k).length = k := by simp [lenTo]
def noughts (m : Int) : Nat := ((119 - m % 64) % 64).toNat
def padTo (m : Int) (k : Nat) : List Int := 128 :: (List.replicate (noughts m) 0 ++ lenTo m k)
omit [Tabs] in
theorem padTo_length (m : Int) (k : Nat) : (padTo m k).length = 1 + noughts m + k := by simp [padTo, lenTo_length]; omega
omit [Tabs] in
theorem padTo_succ (m : Int) (k : Nat) : padTo m (k + 1) = padTo m k ++ [m * 8 / 2 ^ (56 - 8 * k) % 256] := by simp [padTo, lenTo_succ]
omit [Tabs] in
theorem noughts_lt (m : Int) : noughts m < 64 := by unfold noughts; omega

set_option maxRecDepth 100000 in
set_option maxHeartbeats 1000000 in
omit [Tabs] in
theorem padding_any (m : Int) (w : World) (h0 : 0 ≤ m) (h1 : m ≤ 1048576) :
    Calls Tryz.prog 189 #[.int .i64 m] w fun e w' => e = .returned (.string (strOfNums (padTo m 8))) ∧ Below w.heap.size w w' := by
  obtain ⟨i0, hi, hz0, hz1, hz2⟩ := info_parts infoByte
  have hzl := noughts_lt m
  have hz : (119 - m % 64) % 64 = (noughts m : Int) := by unfold noughts; omega
  have hpl := padTo_length m 8
  obtain ⟨z, ez⟩ : ∃ z, z = noughts m := ⟨_, rfl⟩
  rw [← ez] at hzl hz hpl
  have hmk0 := run_make (P := Tryz.prog) w 63 5 i0 (.int .u8 0) Tryz.underlying63 hi hz0 .i64 .i64 (1 + (z : Int)) (1 + (z : Int) + 8) (by omega) (by omega) (by rw [hz2]; omega) (by omega)
  have hown0 : (w.alloc (.cells (madeCells (Value.int .u8 0).cells ((1 + (z : Int) + 8).toNat * i0.size)) 5)).ownsRow w.heap.size 5 1 (.slice (some ⟨w.heap.size, 0, none⟩) (1 + z) (1 + z + 8)) (1 + z) (List.replicate (1 + z) (.int .u8 0)) := by
    refine ⟨by simp, .inr ⟨w.heap.size, 1 + z + 8, _, rfl, Nat.le_refl _, heap_alloc_new w _, by omega, by unfold maxLen; omega, ?_, ?_⟩⟩
    · rw [size_madeCells, hz1]; omega
    · show List.take _ (madeCells #[.int .u8 0] _).toList = _
      rw [toList_madeCells_one, List.take_replicate, hz1]
      congr 1; omega
  rw [show (1 + (z : Int)).toNat = 1 + z by omega, show (1 + (z : Int) + 8).toNat = 1 + z + 8 by omega] at hmk0
  rw [show (1 + (z : Int) + 8).toNat = 1 + z + 8 by omega] at hown0
  have hBm : Below w.heap.size w (w.alloc (.cells (madeCells (Value.int .u8 0).cells ((1 + z + 8) * i0.size)) 5)) := (Below.refl _ _).alloc (Nat.le_refl _) _
  generalize w.alloc (.cells (madeCells (Value.int .u8 0).cells ((1 + z + 8) * i0.size)) 5) = wm at *
  have hc0 : wm.cell? ⟨w.heap.size, 0, none⟩ = some (.int .u8 0) := by rw [hown0.cellAt 0 (by omega), List.getElem?_replicate, if_pos (by omega)]
  have hf0 : wm.frozen? ⟨w.heap.size, 0, none⟩ = false := hown0.frozenAt 0
  have hst := (hown0.stored 0 (.int .u8 128)).1
  have hl0 : (List.replicate (1 + z) (Value.int .u8 0)).set 0 (.int .u8 128) = (padTo m 0).map (Value.int .u8) := by
    rw [Nat.add_comm, List.replicate_succ]
    simp [padTo, lenTo, ← ez]
  rw [hl0] at hst
  clear hl0 hown0
  have HST := Lib.hid hst
  have HPL := Lib.hid hpl
  have HEZ := Lib.hid ez
  clear hst hpl ez
  go_enter Tryz.func189, Tryz.ntmps189
  go_wp2
  clear hz hmk0 hc0 hf0
  generalize (119 - m % 64) % 64 = q
  go_loopw [4, 6] (fun v i wr => ∃ k : Nat, k ≤ 8 ∧ i = .int .i64 (56 - 8 * (k : Int)) ∧ wr.ownsRow w.heap.size 5 1 v (1 + z + k) ((padTo m k).map (Value.int .u8)) ∧ Below w.heap.size w wr)
    (fun _ i _ => (intOf i + 8).toNat)
  case atStart => exact ⟨0, by omega, rfl, HST.out, hBm.setCell (Nat.le_refl _) _⟩
  case round =>
    clear HST hBm
    obtain ⟨k, hk, rfl, hown, hB⟩ := hrel
    by_cases hlt : k < 8
    · have ht : (56 - 8 * (k : Int)).toNat = 56 - 8 * k := by omega
      have hd : decide (0 ≤ 56 - 8 * (k : Int)) = true := by simp; omega
      have hn : (0 : Int) ≤ 56 - 8 * (k : Int) := by omega
      have hn2 : 56 - 8 * (k : Int) ≤ 56 := by omega
      go_wp2_with (at_builtin; refine wpList_append_own _ rfl _ _ 63 rfl w.heap.size 5 i0 (.int .u8 0) 1 1 Tryz.underlying63 hi hz0 hz1 hz2 rfl (by decide) _ _ _ rfl (hown.alloc _) ⟨wr.heap.size, 0, none⟩ 1 1 [.int .u8 (m * 8 / 2 ^ (56 - 8 * k) % 256)] rfl rfl ?c1 ?c2 ?c3 ?c4 ?c5 ?_)
      case c1 =>
        intro j u hj
        match j, hj with
        | 0, hj => simp at hj; subst hj; simp [Addr.add]
      case c2 => intro u hu; simp only [List.mem_cons, List.not_mem_nil, or_false] at hu; subst hu; rfl
      case c3 => unfold maxLen; omega
      case c4 => omega
      case c5 => have := hB.size; simp; omega
      intro v' w1 hown' hgrow _
      have hB1 : Below w.heap.size w w1 := (hB.alloc hB.size _).grown hgrow (by have := hB.size; simp; omega) (fun g e => (hown.lt g e).1)
      have hown1 : w1.ownsRow w.heap.size 5 1 v' (1 + z + (k + 1)) ((padTo m (k + 1)).map (Value.int .u8)) := by
        rw [padTo_succ, List.map_append]
        exact hown'
      clear hown' hgrow hown hB ht hd
      go_wp2
      go_roundw
      case rel => exact ⟨k + 1, by omega, by go_num, hown1, hB1⟩
      case measure => simp [intOf]; omega
    · have hown8 : wr.ownsRow w.heap.size 5 1 u4 (1 + z + 8) ((padTo m 8).map (Value.int .u8)) := by
        have e : k = 8 := by omega
        rw [e] at hown
        exact hown
      obtain ⟨g, cap, rfl⟩ := ownsRow_succ hown8
      have hcv := run_convert_bytes_arg (P := Tryz.prog) wr 63 5 Tryz.underlying63 Tryz.underlying5 g 0 (1 + z + 8) cap (padTo m 8) HPL.out (fun i hi => by
        rw [Nat.zero_add, hown8.cellAt i (by omega)]
        have hl := HPL.out
        rw [List.getElem?_map, List.getElem?_eq_getElem (by omega), List.getD_eq_getElem?_getD, List.getElem?_eq_getElem (by omega)]
        rfl) 9 Tryz.underlying9
      generalize hst : strOfNums (padTo m 8) = st at hcv
      have HST := Lib.hid hst
      have hd : decide (0 ≤ 56 - 8 * (k : Int)) = false := by simp; omega
      have hn : ¬ (0 : Int) ≤ 56 - 8 * (k : Int) := by omega
      clear hst hown hown8
      go_wp2
      go_ret
      exact ⟨by rw [HST.out]; rfl, hB⟩
end Go.Proofs.YtfgdcpolfekgjaaGreat
namespace Go.Proofs.YtfgdcpolfekgjaaGreat
open Go.RowKit
variable [Tabs]

def HsZ : Hs := ⟨⟨0, 0, 0, 0, 0, 0, 0, 0⟩, ⟨#[]⟩, 0⟩
/-- a text added: the text's whole blocks are mixed in, the rest is kept. -/
def addH (x : Hs) (s : ByteArray) : Hs :=
  ⟨mixT x.h (x.r ++ s), (x.r ++ s).extract ((x.r ++ s).size - (x.r ++ s).size % 64) (x.r ++ s).size, x.m + s.size⟩

set_option maxRecDepth 100000 in
set_option maxHeartbeats 400000 in
theorem add_ok (x : Hs) (s : ByteArray) (w : World) (hT : Tab w) (hr : rightBD x = true) (hs : (s.size : Int) ≤ 1048576 - x.m) :
    Calls Tryz.prog 166 #[.agg x.arr, .string s] w fun e w' => e = .returned (.tuple #[.agg (addH x s).arr, .int .i64 0]) ∧ Below w.heap.size w w' := by
  have hr' := hr
  simp only [rightBD, Bool.and_eq_true, decide_eq_true_eq, beq_iff_eq] at hr'
  obtain ⟨⟨h0, h1⟩, h2⟩ := hr'
  have hrs : x.r.size < 64 := by omega
  have HR := Lib.hid hr
  have H2 := Lib.hid h2
  clear hr h2
  have htxt : (x.r ++ s).size = x.r.size + s.size := by simp
  have HX := Lib.hid htxt
  go_enter Tryz.func166, Tryz.ntmps166
  go_wp2_with fail
  refine (dright_any x _).mono ?_
  rintro e w1 ⟨rfl, hb1⟩
  rw [HR.out]
  have iX : Is w1 w.heap.size 135 x.arr := Is.below (heap_alloc2_old w _ _) hb1 (by simp; omega)
  have iZ : Is w1 (w.heap.size + 1) 135 HsZ.arr := Is.below (heap_alloc2_new w _ _) hb1 (by simp)
  have hB1 : Below w.heap.size w w1 := (((Below.refl _ _).alloc (Nat.le_refl _) _).alloc (by simp) _).trans (hb1.mono (by simp; omega))
  have hT1 : Tab w1 := hT.below hB1 hT.two
  clear hb1 htxt
  have c8 : w1.cell? ⟨w.heap.size, 8, none⟩ = some (.string x.r) := iX.cell 8
  have c9 : w1.cell? ⟨w.heap.size, 9, none⟩ = some (.int .i64 x.m) := iX.cell 9
  have hgt : decide (1048576 - x.m < (s.size : Int)) = false := by simp; omega
  go_wp2
  obtain ⟨T, hTe⟩ : ∃ T, T = x.r ++ s := ⟨_, rfl⟩
  have hTs : T.size = x.r.size + s.size := by rw [hTe]; exact HX.out
  obtain ⟨p, hp⟩ : ∃ p, p = T.size - T.size % 64 := ⟨_, rfl⟩
  have hpI : (x.r.size : Int) + (s.size : Int) - ((x.r.size : Int) + (s.size : Int)) % 64 = (p : Int) := by omega
  rw [← hTe, hpI]
  have hsl : ∀ wx : World, (Instr.slice 9 (.string T) (some (.int .i64 (p : Int))) none none).run Tryz.prog wx = .ok (.string (T.extract p T.size)) wx := fun wx => by
    have := run_slice_string_l (P := Tryz.prog) (w := wx) (t := 9) (s := T) Tryz.underlying9 .i64 (p : Int) (by omega) (by omega)
    rw [Int.toNat_natCast] at this
    exact this
  have hTb : T.size ≤ 9223372036854775000 := by omega
  have hTc : T.size ≤ 1048639 := by omega
  have hEb : (T.extract p T.size).size ≤ 281474976710656 := by simp; omega
  have HTe := Lib.hid hTe
  have HTs := Lib.hid hTs
  have HP := Lib.hid hp
  clear hTe hTs hp hpI
  generalize hE : T.extract p T.size = E at *
  have HE := Lib.hid hE
  clear hE
  have a0 : w1.cell? ⟨w.heap.size, 0, none⟩ = some (.int .u32 x.h.a) := iX.cell 0
  have a1 : w1.cell? ⟨w.heap.size, 1, none⟩ = some (.int .u32 x.h.b) := iX.cell 1
  have a2 : w1.cell? ⟨w.heap.size, 2, none⟩ = some (.int .u32 x.h.c) := iX.cell 2
  have a3 : w1.cell? ⟨w.heap.size, 3, none⟩ = some (.int .u32 x.h.d) := iX.cell 3
  have a4 : w1.cell? ⟨w.heap.size, 4, none⟩ = some (.int .u32 x.h.e) := iX.cell 4
  have a5 : w1.cell? ⟨w.heap.size, 5, none⟩ = some (.int .u32 x.h.f) := iX.cell 5
  have a6 : w1.cell? ⟨w.heap.size, 6, none⟩ = some (.int .u32 x.h.g) := iX.cell 6
  have a7 : w1.cell? ⟨w.heap.size, 7, none⟩ = some (.int .u32 x.h.h) := iX.cell 7
  have a9 : w1.cell? ⟨w.heap.size, 9, none⟩ = some (.int .i64 x.m) := iX.cell 9
  have hwm := IntWalk.i64_in (x.m + (s.size : Int)) (by omega)
  go_region_held3 (fun w' => w'.cell? ⟨w.heap.size, 0, none⟩ = some (.int .u32 x.h.a) ∧ w'.cell? ⟨w.heap.size, 1, none⟩ = some (.int .u32 x.h.b) ∧ w'.cell? ⟨w.heap.size, 2, none⟩ = some (.int .u32 x.h.c) ∧ w'.cell? ⟨w.heap.size, 3, none⟩ = some (.int .u32 x.h.d) ∧ w'.cell? ⟨w.heap.size, 4, none⟩ = some (.int .u32 x.h.e) ∧ w'.cell? ⟨w.heap.size, 5, none⟩ = some (.int .u32 x.h.f) ∧ w'.cell? ⟨w.heap.size, 6, none⟩ = some (.int .u32 x.h.g) ∧ w'.cell? ⟨w.heap.size, 7, none⟩ = some (.int .u32 x.h.h) ∧ w'.cell? ⟨w.heap.size, 9, none⟩ = some (.int .i64 x.m))
    (go_keep)
    (first
      | (go_at_call 186; refine (mixAll_any x.h T _ hTb (hT1.drewN 1)).mono ?_; rintro e w2 ⟨rfl, hb2⟩; generalize hmm : mixT x.h T = mm; have HMM := Lib.hid hmm; clear hmm; have j2 : Is w2 w.heap.size 135 x.arr := Is.below (iX.drewN 1) hb2 iX.lt; have k2 : Is w2 (w.heap.size + 1) 135 HsZ.arr := Is.below (iZ.drewN 1) hb2 iZ.lt; have hB2 : Below w.heap.size w w2 := (belowN hB1 1).trans (hb2.mono hB1.size); have b0 : w2.cell? ⟨w.heap.size, 0, none⟩ = some (.int .u32 x.h.a) := j2.cell 0; have b1 : w2.cell? ⟨w.heap.size, 1, none⟩ = some (.int .u32 x.h.b) := j2.cell 1; have b2 : w2.cell? ⟨w.heap.size, 2, none⟩ = some (.int .u32 x.h.c) := j2.cell 2; have b3 : w2.cell? ⟨w.heap.size, 3, none⟩ = some (.int .u32 x.h.d) := j2.cell 3; have b4 : w2.cell? ⟨w.heap.size, 4, none⟩ = some (.int .u32 x.h.e) := j2.cell 4; have b5 : w2.cell? ⟨w.heap.size, 5, none⟩ = some (.int .u32 x.h.f) := j2.cell 5; have b6 : w2.cell? ⟨w.heap.size, 6, none⟩ = some (.int .u32 x.h.g) := j2.cell 6; have b7 : w2.cell? ⟨w.heap.size, 7, none⟩ = some (.int .u32 x.h.h) := j2.cell 7; have b9 : w2.cell? ⟨w.heap.size, 9, none⟩ = some (.int .i64 x.m) := j2.cell 9; clear hb2 a0 a1 a2 a3 a4 a5 a6 a7 a9 c8 c9)
      | (go_at_call 187; refine (clone_any E _ hEb).mono ?_; rintro e w3 ⟨rfl, hb3⟩; have j3 : Is w3 w.heap.size 135 x.arr := Is.below j2 hb3 j2.lt; have k3 : Is w3 (w.heap.size + 1) 135 HsZ.arr := Is.below k2 hb3 k2.lt; have hB3 : Below w.heap.size w w3 := hB2.trans (hb3.mono hB2.size); have z0 : w3.cell? ⟨w.heap.size + 1, 0, none⟩ = some (.int .u32 0) := k3.cell 0; have z1 : w3.cell? ⟨w.heap.size + 1, 1, none⟩ = some (.int .u32 0) := k3.cell 1; have z2 : w3.cell? ⟨w.heap.size + 1, 2, none⟩ = some (.int .u32 0) := k3.cell 2; have z3 : w3.cell? ⟨w.heap.size + 1, 3, none⟩ = some (.int .u32 0) := k3.cell 3; have z4 : w3.cell? ⟨w.heap.size + 1, 4, none⟩ = some (.int .u32 0) := k3.cell 4; have z5 : w3.cell? ⟨w.heap.size + 1, 5, none⟩ = some (.int .u32 0) := k3.cell 5; have z6 : w3.cell? ⟨w.heap.size + 1, 6, none⟩ = some (.int .u32 0) := k3.cell 6; have z7 : w3.cell? ⟨w.heap.size + 1, 7, none⟩ = some (.int .u32 0) := k3.cell 7; have z8 : w3.cell? ⟨w.heap.size + 1, 8, none⟩ = some (.string ⟨#[]⟩) := k3.cell 8; have z9 : w3.cell? ⟨w.heap.size + 1, 9, none⟩ = some (.int .i64 0) := k3.cell 9; have y0 := k3.frozen 0; have y1 := k3.frozen 1; have y2 := k3.frozen 2; have y3 := k3.frozen 3; have y4 := k3.frozen 4; have y5 := k3.frozen 5; have y6 := k3.frozen 6; have y7 := k3.frozen 7; have y8 := k3.frozen 8; have y9 := k3.frozen 9; have d0 : w3.cell? ⟨w.heap.size, 0, none⟩ = some (.int .u32 x.h.a) := j3.cell 0; have d1 : w3.cell? ⟨w.heap.size, 1, none⟩ = some (.int .u32 x.h.b) := j3.cell 1; have d2 : w3.cell? ⟨w.heap.size, 2, none⟩ = some (.int .u32 x.h.c) := j3.cell 2; have d3 : w3.cell? ⟨w.heap.size, 3, none⟩ = some (.int .u32 x.h.d) := j3.cell 3; have d4 : w3.cell? ⟨w.heap.size, 4, none⟩ = some (.int .u32 x.h.e) := j3.cell 4; have d5 : w3.cell? ⟨w.heap.size, 5, none⟩ = some (.int .u32 x.h.f) := j3.cell 5; have d6 : w3.cell? ⟨w.heap.size, 6, none⟩ = some (.int .u32 x.h.g) := j3.cell 6; have d7 : w3.cell? ⟨w.heap.size, 7, none⟩ = some (.int .u32 x.h.h) := j3.cell 7; have d9 : w3.cell? ⟨w.heap.size, 9, none⟩ = some (.int .i64 x.m) := j3.cell 9; clear hb3 b0 b1 b2 b3 b4 b5 b6 b7 b9))
  go_wp2
  have hr : Is (setH w3 (w.heap.size + 1) ⟨mm, E, x.m + s.size⟩) (w.heap.size + 1) 135 (Hs.mk mm E (x.m + s.size)).arr := k3.setH _
  have hBr : Below w.heap.size w (setH w3 (w.heap.size + 1) ⟨mm, E, x.m + s.size⟩) := belowH hB3 (by omega) _
  refine bodyPost_ret (results_row_tmp Tryz.results166 _ _ (w.heap.size + 1) 135 (Hs.mk mm E (x.m + s.size)).arr (0, 0) _ rfl hr Tryz.underlying135 rfl (by kernel_rfl)) rfl ⟨?_, hBr⟩
  rw [addH, ← HTe.out, HMM.out, ← HP.out, HE.out]
  rfl
end Go.Proofs.YtfgdcpolfekgjaaGreat
namespace Go.Proofs.YtfgdcpolfekgjaaGreat
open Go.RowKit
variable [Tabs]

omit [Tabs] in
theorem Hs.one (x : Hs) : x.arr.all (·.oneCell') = true := by
  rw [Array.all_eq_true_iff_forall_mem]
  intro v hv
  simp only [Hs.arr, List.mem_toArray, List.mem_cons, List.not_mem_nil, or_false] at hv
  rcases hv with rfl | rfl | rfl | rfl | rfl | rfl | rfl | rfl | rfl | rfl <;> rfl

/-- the sum's bytes. -/
def endS (x : Hs) : ByteArray := strOfNums (wbTo (mixT x.h (x.r ++ strOfNums (padTo x.m 8))) 8)

omit [Tabs] in
theorem nolong {a b : Nat} (ha : a < 64) (hb : b ≤ 72) : ¬ (9223372036854775807 < a + b) := by omega
omit [Tabs] in
theorem str_size (l : List Int) : (strOfNums l).size = l.length := by simp [strOfNums, ByteArray.size]

set_option maxRecDepth 100000 in
set_option maxHeartbeats 1000000 in
theorem end_ok (x : Hs) (w : World) (hT : Tab w) (hr : rightBD x = true) :
    Calls Tryz.prog 168 #[.agg x.arr] w fun e w' => e = .returned (.tuple #[.string (endS x), .int .i64 0]) ∧ Below w.heap.size w w' := by
  have hr' := hr
  simp only [rightBD, Bool.and_eq_true, decide_eq_true_eq, beq_iff_eq] at hr'
  obtain ⟨⟨h0, h1⟩, h2⟩ := hr'
  have hrs : x.r.size < 64 := by omega
  have HR := Lib.hid hr
  clear hr h2
  have hps : (strOfNums (padTo x.m 8)).size ≤ 72 := by rw [str_size, padTo_length]; have := noughts_lt x.m; omega
  have hts : (x.r ++ strOfNums (padTo x.m 8)).size ≤ 9223372036854775000 := by simp; omega
  have HTS := Lib.hid hts
  clear hts
  have HPS := Lib.hid hps
  clear hps
  go_enter Tryz.func168, Tryz.ntmps168
  go_wp2_with fail
  refine (dright_any x _).mono ?_
  rintro e w1 ⟨rfl, hb1⟩
  rw [HR.out]
  have iX : Is w1 w.heap.size 135 x.arr := Is.below (heap_alloc_new w _) hb1 (by simp)
  have hB1 : Below w.heap.size w w1 := ((Below.refl _ _).alloc (Nat.le_refl _) _).trans (hb1.mono (by simp))
  have hT1 : Tab w1 := hT.below hB1 hT.two
  clear hb1
  go_wp2
  have a0 : w1.cell? ⟨w.heap.size, 0, none⟩ = some (.int .u32 x.h.a) := iX.cell 0
  have a1 : w1.cell? ⟨w.heap.size, 1, none⟩ = some (.int .u32 x.h.b) := iX.cell 1
  have a2 : w1.cell? ⟨w.heap.size, 2, none⟩ = some (.int .u32 x.h.c) := iX.cell 2
  have a3 : w1.cell? ⟨w.heap.size, 3, none⟩ = some (.int .u32 x.h.d) := iX.cell 3
  have a4 : w1.cell? ⟨w.heap.size, 4, none⟩ = some (.int .u32 x.h.e) := iX.cell 4
  have a5 : w1.cell? ⟨w.heap.size, 5, none⟩ = some (.int .u32 x.h.f) := iX.cell 5
  have a6 : w1.cell? ⟨w.heap.size, 6, none⟩ = some (.int .u32 x.h.g) := iX.cell 6
  have a7 : w1.cell? ⟨w.heap.size, 7, none⟩ = some (.int .u32 x.h.h) := iX.cell 7
  have a8 : w1.cell? ⟨w.heap.size, 8, none⟩ = some (.string x.r) := iX.cell 8
  have a9 : w1.cell? ⟨w.heap.size, 9, none⟩ = some (.int .i64 x.m) := iX.cell 9
  go_region_held3 (fun w' => w'.cell? ⟨w.heap.size, 0, none⟩ = some (.int .u32 x.h.a) ∧ w'.cell? ⟨w.heap.size, 1, none⟩ = some (.int .u32 x.h.b) ∧ w'.cell? ⟨w.heap.size, 2, none⟩ = some (.int .u32 x.h.c) ∧ w'.cell? ⟨w.heap.size, 3, none⟩ = some (.int .u32 x.h.d) ∧ w'.cell? ⟨w.heap.size, 4, none⟩ = some (.int .u32 x.h.e) ∧ w'.cell? ⟨w.heap.size, 5, none⟩ = some (.int .u32 x.h.f) ∧ w'.cell? ⟨w.heap.size, 6, none⟩ = some (.int .u32 x.h.g) ∧ w'.cell? ⟨w.heap.size, 7, none⟩ = some (.int .u32 x.h.h) ∧ w'.cell? ⟨w.heap.size, 8, none⟩ = some (.string x.r) ∧ w'.cell? ⟨w.heap.size, 9, none⟩ = some (.int .i64 x.m))
    (go_keep)
    (first
      | (go_at_call 189; refine (padding_any x.m _ h0 h1).mono ?_; rintro e w2 ⟨rfl, hb2⟩; generalize hpp : strOfNums (padTo x.m 8) = pp at HTS HPS ⊢; have HPP := Lib.hid hpp; clear hpp; have hps := HPS.out; have hnl := nolong hrs hps; have j2 : Is w2 w.heap.size 135 x.arr := Is.below (iX.drewN 1) hb2 iX.lt; have hB2 : Below w.heap.size w w2 := (belowN hB1 1).trans (hb2.mono hB1.size); have b0 : w2.cell? ⟨w.heap.size, 0, none⟩ = some (.int .u32 x.h.a) := j2.cell 0; have b1 : w2.cell? ⟨w.heap.size, 1, none⟩ = some (.int .u32 x.h.b) := j2.cell 1; have b2 : w2.cell? ⟨w.heap.size, 2, none⟩ = some (.int .u32 x.h.c) := j2.cell 2; have b3 : w2.cell? ⟨w.heap.size, 3, none⟩ = some (.int .u32 x.h.d) := j2.cell 3; have b4 : w2.cell? ⟨w.heap.size, 4, none⟩ = some (.int .u32 x.h.e) := j2.cell 4; have b5 : w2.cell? ⟨w.heap.size, 5, none⟩ = some (.int .u32 x.h.f) := j2.cell 5; have b6 : w2.cell? ⟨w.heap.size, 6, none⟩ = some (.int .u32 x.h.g) := j2.cell 6; have b7 : w2.cell? ⟨w.heap.size, 7, none⟩ = some (.int .u32 x.h.h) := j2.cell 7; have b8 : w2.cell? ⟨w.heap.size, 8, none⟩ = some (.string x.r) := j2.cell 8; have b9 : w2.cell? ⟨w.heap.size, 9, none⟩ = some (.int .i64 x.m) := j2.cell 9; clear hb2 a0 a1 a2 a3 a4 a5 a6 a7 a8 a9)
      | (go_at_call 186; refine (mixAll_any x.h _ _ HTS.out (hT.below hB2 hT.two)).mono ?_; rintro e w3 ⟨rfl, hb3⟩; generalize hmm : mixT x.h (x.r ++ pp) = mm; have HMM := Lib.hid hmm; clear hmm; have j3 : Is w3 w.heap.size 135 x.arr := Is.below j2 hb3 j2.lt; have hB3 : Below w.heap.size w w3 := hB2.trans (hb3.mono hB2.size); have d0 : w3.cell? ⟨w.heap.size, 0, none⟩ = some (.int .u32 x.h.a) := j3.cell 0; have d1 : w3.cell? ⟨w.heap.size, 1, none⟩ = some (.int .u32 x.h.b) := j3.cell 1; have d2 : w3.cell? ⟨w.heap.size, 2, none⟩ = some (.int .u32 x.h.c) := j3.cell 2; have d3 : w3.cell? ⟨w.heap.size, 3, none⟩ = some (.int .u32 x.h.d) := j3.cell 3; have d4 : w3.cell? ⟨w.heap.size, 4, none⟩ = some (.int .u32 x.h.e) := j3.cell 4; have d5 : w3.cell? ⟨w.heap.size, 5, none⟩ = some (.int .u32 x.h.f) := j3.cell 5; have d6 : w3.cell? ⟨w.heap.size, 6, none⟩ = some (.int .u32 x.h.g) := j3.cell 6; have d7 : w3.cell? ⟨w.heap.size, 7, none⟩ = some (.int .u32 x.h.h) := j3.cell 7; have d8 : w3.cell? ⟨w.heap.size, 8, none⟩ = some (.string x.r) := j3.cell 8; have d9 : w3.cell? ⟨w.heap.size, 9, none⟩ = some (.int .i64 x.m) := j3.cell 9; clear hb3 b0 b1 b2 b3 b4 b5 b6 b7 b8 b9)
      | (go_at_call 188; refine (wordBytes_any mm _).mono ?_; rintro e w4 ⟨rfl, hb4⟩; generalize hss : strOfNums (wbTo mm 8) = ss; have HSS := Lib.hid hss; clear hss; have j4 : Is w4 w.heap.size 135 x.arr := Is.below j3 hb4 j3.lt; have hB4 : Below w.heap.size w w4 := hB3.trans (hb4.mono hB3.size); have c0 : w4.cell? ⟨w.heap.size, 0, none⟩ = some (.int .u32 x.h.a) := j4.cell 0; have c1 : w4.cell? ⟨w.heap.size, 1, none⟩ = some (.int .u32 x.h.b) := j4.cell 1; have c2 : w4.cell? ⟨w.heap.size, 2, none⟩ = some (.int .u32 x.h.c) := j4.cell 2; have c3 : w4.cell? ⟨w.heap.size, 3, none⟩ = some (.int .u32 x.h.d) := j4.cell 3; have c4 : w4.cell? ⟨w.heap.size, 4, none⟩ = some (.int .u32 x.h.e) := j4.cell 4; have c5 : w4.cell? ⟨w.heap.size, 5, none⟩ = some (.int .u32 x.h.f) := j4.cell 5; have c6 : w4.cell? ⟨w.heap.size, 6, none⟩ = some (.int .u32 x.h.g) := j4.cell 6; have c7 : w4.cell? ⟨w.heap.size, 7, none⟩ = some (.int .u32 x.h.h) := j4.cell 7; have c8 : w4.cell? ⟨w.heap.size, 8, none⟩ = some (.string x.r) := j4.cell 8; have c9 : w4.cell? ⟨w.heap.size, 9, none⟩ = some (.int .i64 x.m) := j4.cell 9; clear hb4 d0 d1 d2 d3 d4 d5 d6 d7 d8 d9))
  go_wp2
  go_ret2
  exact ⟨by rw [endS, HPP.out, HMM.out, HSS.out]; rfl, hB4⟩

theorem right_add {x : Hs} {s : ByteArray} (hr : rightBD x = true) (hs : (s.size : Int) ≤ 1048576 - x.m) : rightBD (addH x s) = true := by
  simp only [rightBD, Bool.and_eq_true, decide_eq_true_eq, beq_iff_eq] at hr ⊢
  obtain ⟨⟨h0, h1⟩, h2⟩ := hr
  simp only [addH, ByteArray.size_extract, ByteArray.size_append]
  refine ⟨⟨by omega, by omega⟩, ?_⟩
  omega
theorem right_new : rightBD Hs0 = true := rfl

set_option maxRecDepth 100000 in
set_option maxHeartbeats 1000000 in
theorem sum_ok (s : ByteArray) (w : World) (hT : Tab w) (hs : s.size ≤ 1048576) :
    Calls Tryz.prog 160 #[.string s] w fun e w' => e = .returned (.tuple #[.string (endS (addH Hs0 s)), .int .i64 0]) ∧ Below w.heap.size w w' := by
  have hle : (s.size : Int) ≤ 1048576 - Hs0.m := by show (s.size : Int) ≤ 1048576 - 0; omega
  have hr := right_add right_new hle
  have HLE := Lib.hid hle
  have HR := Lib.hid hr
  clear hle hr
  go_enter Tryz.func160, Tryz.ntmps160
  go_wp2_with fail
  refine (new_any _ hT).mono ?_
  rintro e w1 ⟨rfl, hb1⟩
  go_wp2_with fail
  refine (add_ok Hs0 s _ (hT.below hb1 hT.two) right_new HLE.out).mono ?_
  rintro e w2 ⟨rfl, hb2⟩
  generalize hy : addH Hs0 s = y at HR ⊢
  have HY := Lib.hid hy
  clear hy
  have hB2 : Below w.heap.size w w2 := hb1.trans (hb2.mono hb1.size)
  clear hb1 hb2
  go_wp2_with fail
  have hB3 := hB2.alloc hB2.size (.cells y.arr 135)
  refine (end_ok y _ (hT.below hB3 hT.two) HR.out).mono ?_
  rintro e w3 ⟨rfl, hb3⟩
  have hB4 : Below w.heap.size w w3 := hB3.trans (hb3.mono hB3.size)
  clear hb3 hB3 hB2
  generalize hes : endS y = es
  have HES := Lib.hid hes
  clear hes
  go_wp2
  go_ret2
  exact ⟨by rw [HY.out, HES.out]; rfl, hB4⟩
end Go.Proofs.YtfgdcpolfekgjaaGreat

