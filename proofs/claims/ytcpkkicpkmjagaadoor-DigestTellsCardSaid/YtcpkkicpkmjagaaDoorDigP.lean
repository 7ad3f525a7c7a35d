/-
  Plain functions of layer 1 (words, rounds, the schedule), in the spelling of the walks, and small facts on them; nothing of the program stands here.
-/
import Derived.WalkKit
import Derived.Laws.BitsAllLaws
namespace Go.Proofs.YtcpkkicpkmjagaaDoor

/-- a word, turned to the right. -/
def tw (n x : Int) : Int := bits BinOp.or IntKind.u32 (x / 2 ^ n.toNat) (x * 2 ^ (32 - n).toNat % 4294967296)
def bigE (e : Int) : Int := bits BinOp.xor IntKind.u32 (bits BinOp.xor IntKind.u32 (tw 6 e) (tw 11 e)) (tw 25 e)
def bigA (a : Int) : Int := bits BinOp.xor IntKind.u32 (bits BinOp.xor IntKind.u32 (tw 2 a) (tw 13 a)) (tw 22 a)
def cho (e f g : Int) : Int := bits BinOp.xor IntKind.u32 (bits BinOp.and IntKind.u32 e f) (bits BinOp.and IntKind.u32 (bits BinOp.xor IntKind.u32 IntKind.u32.max e) g)
def maj (a b c : Int) : Int := bits BinOp.xor IntKind.u32 (bits BinOp.xor IntKind.u32 (bits BinOp.and IntKind.u32 a b) (bits BinOp.and IntKind.u32 a c)) (bits BinOp.and IntKind.u32 b c)
/-- eight words. -/
structure S8 where
  a : Int
  b : Int
  c : Int
  d : Int
  e : Int
  f : Int
  g : Int
  h : Int
abbrev S8.arr (s : S8) : Array Value := #[.int .u32 s.a, .int .u32 s.b, .int .u32 s.c, .int .u32 s.d, .int .u32 s.e, .int .u32 s.f, .int .u32 s.g, .int .u32 s.h]
theorem arr_one (s : S8) : s.arr.all (·.oneCell') = true := by
  rw [Array.all_eq_true_iff_forall_mem]
  intro v hv
  simp only [S8.arr, List.mem_toArray, List.mem_cons, List.not_mem_nil, or_false] at hv
  rcases hv with rfl | rfl | rfl | rfl | rfl | rfl | rfl | rfl <;> rfl
/-- one round; m: the round's word and the block's. -/
def rnd (s : S8) (m : Int) : S8 :=
  ⟨(s.h + bigE s.e + cho s.e s.f s.g + m + (bigA s.a + maj s.a s.b s.c)) % 4294967296, s.a, s.b, s.c, (s.d + (s.h + bigE s.e + cho s.e s.f s.g + m)) % 4294967296, s.e, s.f, s.g⟩

/-- the byte at a place. -/
def bt (s : ByteArray) (j : Nat) : Int := ((s.data.toList.getD j 0).toNat : Int)
theorem bt_get {s : ByteArray} {j : Nat} (h : j < s.size) : (s[j].toNat : Int) = bt s j := by
  have : s.data.toList.getD j 0 = s[j] := by
    rw [List.getD_eq_getElem?_getD, List.getElem?_eq_getElem (by simpa using h)]; rfl
  rw [bt, this]
theorem bt_bd (s : ByteArray) (j : Nat) : 0 ≤ bt s j ∧ bt s j < 256 := by
  have := UInt8.toNat_lt (s.data.toList.getD j 0)
  unfold bt; omega
/-- the word at a place: four bytes, the highest one first. -/
def wd (s : ByteArray) (i : Nat) : Int := 16777216 * bt s (i * 4) + 65536 * bt s (i * 4 + 1) + 256 * bt s (i * 4 + 2) + bt s (i * 4 + 3)
theorem or_word {p q r t : Int} (hp : 0 ≤ p ∧ p < 256) (hq : 0 ≤ q ∧ q < 256) (hr : 0 ≤ r ∧ r < 256) (ht : 0 ≤ t ∧ t < 256) :
    bits BinOp.or IntKind.u32 (bits BinOp.or IntKind.u32 (bits BinOp.or IntKind.u32 (p % 4294967296 * 16777216 % 4294967296) (q % 4294967296 * 65536 % 4294967296)) (r % 4294967296 * 256 % 4294967296)) (t % 4294967296)
      = 16777216 * p + 65536 * q + 256 * r + t := by
  rw [show p % 4294967296 * 16777216 % 4294967296 = 16777216 * p by omega, show q % 4294967296 * 65536 % 4294967296 = 65536 * q by omega, show r % 4294967296 * 256 % 4294967296 = 256 * r by omega, show t % 4294967296 = t by omega]
  have h1 : bits BinOp.or IntKind.u32 (16777216 * p) (65536 * q) = 16777216 * p + 65536 * q := by
    rw [u32_or _ _ (by omega) (by omega) (by omega) (by omega), nat_join 24 _ _ (by omega) (by omega)]; omega
  have h2 : bits BinOp.or IntKind.u32 (16777216 * p + 65536 * q) (256 * r) = 16777216 * p + 65536 * q + 256 * r := by
    rw [u32_or _ _ (by omega) (by omega) (by omega) (by omega), nat_join 16 _ _ (by omega) (by omega)]; omega
  have h3 : bits BinOp.or IntKind.u32 (16777216 * p + 65536 * q + 256 * r) t = 16777216 * p + 65536 * q + 256 * r + t := by
    rw [u32_or _ _ (by omega) (by omega) (by omega) (by omega), nat_join 8 _ _ (by omega) (by omega)]; omega
  rw [h1, h2, h3]

def sigX (x : Int) : Int := bits BinOp.xor IntKind.u32 (bits BinOp.xor IntKind.u32 (tw 7 x) (tw 18 x)) (x / 8)
def sigY (y : Int) : Int := bits BinOp.xor IntKind.u32 (bits BinOp.xor IntKind.u32 (tw 17 y) (tw 19 y)) (y / 1024)
def at_ (l : List Int) (j : Nat) : Int := l[j]?.getD 0
/-- the schedule's next word. -/
def nxt (l : List Int) : Int := (at_ l (l.length - 16) + at_ l (l.length - 7) + sigX (at_ l (l.length - 15)) + sigY (at_ l (l.length - 2))) % 4294967296
/-- a block's words, and n of those that follow. -/
def schN (s : ByteArray) : Nat → List Int
  | 0 => (List.range 16).map (wd s)
  | n + 1 => schN s n ++ [nxt (schN s n)]
theorem schN_length (s : ByteArray) (n : Nat) : (schN s n).length = 16 + n := by
  induction n with
  | zero => simp [schN]
  | succ n ih => simp [schN, ih]; omega
/-- a row of 64 words of which the first are those of l. -/
def row64 (l : List Int) : Array Value := ((l ++ List.replicate (64 - l.length) 0).map (Value.int .u32)).toArray
theorem row64_size (l : List Int) (h : l.length ≤ 64) : (row64 l).size = 64 := by simp [row64]; omega
theorem row64_one (l : List Int) : (row64 l).all (·.oneCell') = true := by
  rw [Array.all_eq_true_iff_forall_mem]
  intro v hv
  simp only [row64, List.mem_toArray, List.mem_map] at hv
  obtain ⟨x, _, rfl⟩ := hv
  rfl
theorem row64_get (l : List Int) (j : Nat) (h : j < l.length) : (row64 l)[j]? = some (.int .u32 (at_ l j)) := by
  simp only [row64, List.getElem?_toArray, List.getElem?_map, List.getElem?_append_left h]
  simp [at_, h]
theorem row64_set (l : List Int) (x : Int) (h : l.length < 64) : (row64 l).setIfInBounds l.length (.int .u32 x) = row64 (l ++ [x]) := by
  have e : 64 - l.length = (64 - (l.length + 1)) + 1 := by omega
  simp [row64, e, List.replicate_succ]
theorem row64_zero (l : List Int) (j : Nat) (h : l.length ≤ j) (h' : j < 64) : (row64 l)[j]? = some (.int .u32 0) := by
  simp only [row64, List.getElem?_toArray, List.getElem?_map, List.getElem?_append_right h]
  rw [List.getElem?_replicate, if_pos (by omega)]; rfl
/-- the round words, the first words. -/
def KW : List Int := [1116352408, 1899447441, 3049323471, 3921009573, 961987163, 1508970993, 2453635748, 2870763221, 3624381080, 310598401, 607225278, 1426881987, 1925078388, 2162078206, 2614888103, 3248222580, 3835390401, 4022224774, 264347078, 604807628, 770255983, 1249150122, 1555081692, 1996064986, 2554220882, 2821834349, 2952996808, 3210313671, 3336571891, 3584528711, 113926993, 338241895, 666307205, 773529912, 1294757372, 1396182291, 1695183700, 1986661051, 2177026350, 2456956037, 2730485921, 2820302411, 3259730800, 3345764771, 3516065817, 3600352804, 4094571909, 275423344, 430227734, 506948616, 659060556, 883997877, 958139571, 1322822218, 1537002063, 1747873779, 1955562222, 2024104815, 2227730452, 2361852424, 2428436474, 2756734187, 3204031479, 3329325298]
def H0 : S8 := ⟨1779033703, 3144134277, 1013904242, 2773480762, 1359893119, 2600822924, 528734635, 1541459225⟩
def S8.get (s : S8) : Nat → Int
  | 0 => s.a | 1 => s.b | 2 => s.c | 3 => s.d | 4 => s.e | 5 => s.f | 6 => s.g | _ => s.h
/-- k rounds. -/
def rounds (ws : List Int) (k : Nat) (s : S8) : S8 := (List.range k).foldl (fun s i => rnd s ((at_ KW i + at_ ws i) % 4294967296)) s
theorem rounds_succ (ws : List Int) (k : Nat) (s : S8) : rounds ws (k + 1) s = rnd (rounds ws k s) ((at_ KW k + at_ ws k) % 4294967296) := by
  simp [rounds, List.range_succ]
/-- eight words, by a function. -/
def arrF (f : Nat → Int) : Array Value := ((List.range 8).map fun j => Value.int .u32 (f j)).toArray
theorem arr_arrF (s : S8) : s.arr = arrF s.get := rfl
theorem arrF_size (f : Nat → Int) : (arrF f).size = 8 := by simp [arrF]
theorem arrF_get (f : Nat → Int) (j : Nat) (h : j < 8) : (arrF f)[j]? = some (.int .u32 (f j)) := by
  simp [arrF, h]
theorem arrF_congr {f g : Nat → Int} (h : ∀ j, j < 8 → f j = g j) : arrF f = arrF g := by
  unfold arrF; congr 1; exact List.map_congr_left fun j hj => by rw [h j (List.mem_range.1 hj)]
theorem arrF_set (f : Nat → Int) (k : Nat) (x : Int) : (arrF f).setIfInBounds k (.int .u32 x) = arrF (fun j => if j = k then x else f j) := by
  apply Array.ext_getElem?
  intro i
  rw [Array.getElem?_setIfInBounds]
  by_cases hi : i < 8
  · rw [arrF_get _ _ hi, arrF_get _ _ hi, arrF_size]
    by_cases e : k = i
    · subst e; simp [hi]
    · rw [if_neg e, if_neg (fun h => e h.symm)]
  · have e1 : (arrF f)[i]? = none := by rw [Array.getElem?_eq_none_iff, arrF_size]; omega
    have e2 : (arrF (fun j => if j = k then x else f j))[i]? = none := by rw [Array.getElem?_eq_none_iff, arrF_size]; omega
    rw [e1, e2, arrF_size]
    split
    · rename_i h; rw [if_neg (by omega)]
    · rfl
def addS (h s : S8) : S8 := ⟨(h.a + s.a) % 4294967296, (h.b + s.b) % 4294967296, (h.c + s.c) % 4294967296, (h.d + s.d) % 4294967296, (h.e + s.e) % 4294967296, (h.f + s.f) % 4294967296, (h.g + s.g) % 4294967296, (h.h + s.h) % 4294967296⟩
theorem addS_get (h s : S8) (j : Nat) : (addS h s).get j = (h.get j + s.get j) % 4294967296 := by
  unfold S8.get; split <;> rfl
/-- what a block makes of eight words. -/
def mixS (h : S8) (s : ByteArray) : S8 := addS h (rounds (schN s 48) 64 h)
end Go.Proofs.YtcpkkicpkmjagaaDoor
