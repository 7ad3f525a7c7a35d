/-
  Contract of stream.further: the counter that is so many further. Conditions: a counter of 16 bytes; a number from 0 to 2^40.
  Contract of stream.together: the exclusive or of two texts of one length. Condition: at most 65536 bytes.
  Contracts of sync.Once's Do (not yet done, and done), of one goroutine, where the Once stands anywhere in a block. Conditions: the lock is free.
  Contracts of (*pad).hasKey and (*pad).right, the first time and later. Condition: the pad's sync.Once is free.
  Contracts of stream.counters (the iterator over counters) and stream.Next. Conditions: a counter of 16 bytes; at most 65536 counters; a number from 0 to 2^40.
  Rows that grow in rounds of a range over a function; worlds that are as they were but for one block. Nothing of the program stands here.
  Contracts of (*pad).bytes. Condition: the pad's sync.Once is free.
  Contracts of (*pad).bytes where it refuses, and of stream.Next, stream.Keys and stream.Xor, whatever they are asked. No conditions.
  Contracts of stream.Next, stream.Keys and stream.Xor, whatever they are asked. Condition of Next: none; of Keys: none; of Xor: a text is no longer than a text may be.
  Two texts.
  What the statements of layer 5 ask of counters and texts; contracts without error. Nothing of the statements' walks stands here.
-/
import Derived.Test.YtfgdcpolfekgjaaGreatGPl
import Derived.Test.YtfgdcpolfekgjaaGreatGAe1
import Derived.Test.YtfgdcpolfekgjaaGreatGAe3
import Derived.Test.YtfgdcpolfekgjaaGreatGAe2
import Derived.Test.YtfgdcpolfekgjaaGreatGKit
import Derived.Laws.IdiomStrings
import Derived.Lib.BufStepsIn
import Derived.Lib.OthersKept
import Derived.RangeFuncFrom
import Derived.Lib.MinMax
namespace Go.Proofs.YtfgdcpolfekgjaaGreat
open Go.RowKit Go.Shelf

/-- block g holds the bytes L (and perhaps more behind them), none of them frozen. -/
structure Bys (w : World) (g : Nat) (L : List Nat) : Prop where
  lt : g < w.heap.size
  cell : ∀ i, i < L.length → w.cell? ⟨g, i, none⟩ = some (.int .u8 (L.getD i 0 : Int))
  fr : ∀ i, i < L.length → w.frozen? ⟨g, i, none⟩ = false
theorem Bys.drew {w : World} {g : Nat} {L : List Nat} (h : Bys w g L) : Bys w.drew g L := ⟨h.lt, h.cell, h.fr⟩
theorem Bys.set {w : World} {g : Nat} {L : List Nat} (h : Bys w g L) {i : Nat} (hi : i < L.length) (y : Nat) : Bys (w.setCell ⟨g, i, none⟩ (.int .u8 (y : Int))) g (L.set i y) := by
  refine ⟨by have := h.lt; simpa [World.setCell] using this, fun j hj => ?_, fun j hj => ?_⟩
  · rw [List.length_set] at hj
    by_cases e : i = j
    · subst e
      rw [World.cell?_setCell_same w _ _ (h.cell i hi), List.getD_eq_getElem?_getD, List.getElem?_set_self hj]
      rfl
    · rw [World.cell?_setCell_other _ _ _ _ (fun x => e (congrArg Addr.off x)), h.cell j hj, List.getD_eq_getElem?_getD, List.getD_eq_getElem?_getD, List.getElem?_set_ne e]
  · rw [List.length_set] at hj
    have := h.fr j hj
    go_simp
theorem Bys.below {B g : Nat} {w w' : World} {L : List Nat} (h : Bys w g L) (hb : Below B w w') (hg : g < B) : Bys w' g L :=
  ⟨Nat.lt_of_lt_of_le h.lt hb.size, fun i hi => (hb.cell (p := ⟨g, i, none⟩) hg).trans (h.cell i hi), fun i hi => by
    have e := hb.block g hg
    have := h.fr i hi
    unfold World.frozen? at this ⊢
    simp only at this ⊢
    rw [e]
    exact this⟩
/-- '[]byte(s)'. -/
theorem conv_in (w : World) (s : ByteArray) : ∃ cap W, (convert 9 63 (.string s)).run Tryz.prog w = .ok (.slice (some ⟨w.heap.size, 0, none⟩) s.size cap) W ∧ Bys W w.heap.size (natL s) ∧ Below w.heap.size w W ∧ W.heap.size = w.heap.size + 1 := by
  refine ⟨_, _, run_bytes_of_string w _ _ _ s Tryz.underlying9 Tryz.underlying63 Tryz.underlying5, ⟨by simp, fun i hi => ?_, fun i hi => ?_⟩, ?_, by simp⟩
  · rw [natL_len] at hi
    have h1 := World.cell?_alloc_mark w.drew (bytesRow s (grownCap w s.size 0 5)) 5 ((bytesRow s (grownCap w s.size 0 5)).size, (bytesRow s (grownCap w s.size 0 5)).size + 1) i
    rw [show w.drew.heap.size = w.heap.size from rfl] at h1
    rw [h1, bytesRow_at s _ i hi, natL, List.getD_eq_getElem?_getD, List.getElem?_map, Array.getElem?_toList, Array.getElem?_eq_getElem hi]
    rfl
  · rw [natL_len] at hi
    have h1 := World.frozen?_alloc_mark w.drew (bytesRow s (grownCap w s.size 0 5)) 5 (bytesRow s (grownCap w s.size 0 5)).size ((bytesRow s (grownCap w s.size 0 5)).size + 1) i
    rw [show w.drew.heap.size = w.heap.size from rfl] at h1
    rw [h1]
    have : (bytesRow s (grownCap w s.size 0 5)).size = s.size + (grownCap w s.size 0 5 - s.size) := by
      simp [bytesRow]
    simp
    omega
  · have h0 : Below w.heap.size w w.drew := ⟨rfl, rfl, rfl, Nat.le_refl _, fun _ _ => rfl⟩
    exact h0.alloc (Nat.le_refl _) _
/-- 'string(b)'. -/
theorem conv_out {W : World} {g : Nat} {L : List Nat} (h : Bys W g L) {k : Nat} (hk : L.length = k) (cap : Nat) :
    (convert 63 9 (.slice (some ⟨g, 0, none⟩) k cap)).run Tryz.prog W = .ok (.string (strN L)) W :=
  run_convert_bytes_arg (P := Tryz.prog) W 63 5 Tryz.underlying63 Tryz.underlying5 g 0 k cap (L.map fun x : Nat => (x : Int)) (by rw [List.length_map, hk]) (fun i hi => by
    rw [Nat.zero_add, h.cell i (by omega), List.getD_eq_getElem?_getD, List.getD_eq_getElem?_getD, List.getElem?_map, List.getElem?_eq_getElem (by omega : i < L.length)]
    rfl) 9 Tryz.underlying9

theorem numB_go (L : List Nat) : ∀ a, L.foldl (fun a b => a * 256 + b) a = a * 256 ^ L.length + numB L := by
  induction L with
  | nil => intro a; simp [numB]
  | cons x L ih =>
    intro a
    have e : numB (x :: L) = (0 * 256 + x) * 256 ^ L.length + numB L := ih _
    rw [List.foldl_cons, ih, e, List.length_cons, Nat.pow_succ, Nat.zero_mul, Nat.zero_add]
    rw [Nat.add_mul, Nat.mul_assoc, Nat.mul_comm 256 (256 ^ L.length), Nat.add_assoc]
theorem numB_cons (x : Nat) (L : List Nat) : numB (x :: L) = x * 256 ^ L.length + numB L := by
  have e : numB (x :: L) = (0 * 256 + x) * 256 ^ L.length + numB L := numB_go L _
  rw [e, Nat.zero_mul, Nat.zero_add]
theorem dig_cons (k N : Nat) : dig (k + 1) N = (N / 256 ^ k % 256) :: dig k N := by
  induction k generalizing N with
  | zero => simp [dig]
  | succ k ih =>
    rw [dig, ih, dig, List.cons_append, Nat.div_div_eq_div_mul, Nat.pow_succ, Nat.mul_comm 256]
/-- a counter behind k rounds, from its end on; and what is carried. -/
def sofar (c : List Nat) (n k : Nat) : Nat := numB (c.drop (16 - k)) + n
def rowK (c : List Nat) (n k : Nat) : List Nat := c.take (16 - k) ++ dig k (sofar c n k)
section
variable {c : List Nat} (hc : c.length = 16) {k : Nat} (hk : k < 16) (n : Nat)
theorem rowK_all : rowK c n 16 = nextN c n := by rw [rowK, sofar, Nat.sub_self, List.take_zero, List.drop_zero]; rfl
include hc
theorem rowK_len (hk : k ≤ 16) : (rowK c n k).length = 16 := by rw [rowK, List.length_append, dig_len, List.length_take]; omega
theorem rowK_zero : rowK c n 0 = c := by rw [rowK, dig, List.append_nil, List.take_of_length_le (by omega)]
theorem sofar_zero : sofar c n 0 = n := by rw [sofar, List.drop_of_length_le (by omega)]; exact Nat.zero_add n
include hk
theorem sofar_succ : sofar c n (k + 1) = c.getD (15 - k) 0 * 256 ^ k + sofar c n k := by
  have hd : c.drop (16 - (k + 1)) = c.getD (15 - k) 0 :: c.drop (16 - k) := by
    rw [show 16 - (k + 1) = 15 - k by omega, List.drop_eq_getElem_cons (by omega : 15 - k < c.length), show 15 - k + 1 = 16 - k by omega, List.getD_eq_getElem?_getD, List.getElem?_eq_getElem (by omega : 15 - k < c.length)]
    rfl
  rw [sofar, hd, numB_cons, sofar, List.length_drop, show c.length - (16 - k) = k by omega]
  omega
theorem sofar_div : sofar c n (k + 1) / 256 ^ k = sofar c n k / 256 ^ k + c.getD (15 - k) 0 := by
  rw [sofar_succ hc hk, Nat.mul_comm, Nat.mul_add_div (Nat.pow_pos (by decide)), Nat.add_comm]
theorem sofar_div2 : sofar c n (k + 1) / 256 ^ (k + 1) = (sofar c n k / 256 ^ k + c.getD (15 - k) 0) / 256 := by
  rw [Nat.pow_succ, ← Nat.div_div_eq_div_mul, sofar_div hc hk]
theorem rowK_at : (rowK c n k).getD (15 - k) 0 = c.getD (15 - k) 0 := by
  rw [rowK, List.getD_eq_getElem?_getD, List.getElem?_append_left (by rw [List.length_take]; omega), List.getElem?_take, if_pos (by omega), ← List.getD_eq_getElem?_getD]
theorem rowK_set : (rowK c n k).set (15 - k) ((sofar c n k / 256 ^ k + c.getD (15 - k) 0) % 256) = rowK c n (k + 1) := by
  have ht : c.take (16 - k) = c.take (15 - k) ++ [c.getD (15 - k) 0] := by
    rw [show 16 - k = (15 - k) + 1 by omega, List.take_add_one, List.getD_eq_getElem?_getD, List.getElem?_eq_getElem (by omega : 15 - k < c.length)]
    rfl
  have hl : (c.take (15 - k)).length = 15 - k := by rw [List.length_take]; omega
  have hm : dig k (sofar c n k) = dig k (sofar c n (k + 1)) := dig_congr (by rw [sofar_succ hc hk, Nat.add_comm, Nat.add_mul_mod_self_right])
  rw [rowK, rowK, ht, List.append_assoc, List.set_append_right _ _ (by omega), hl, Nat.sub_self, List.singleton_append, List.set_cons_zero, dig_cons, sofar_div hc hk, hm, show 16 - (k + 1) = 15 - k by omega]
end
theorem sofar_bound {c : List Nat} (hc : c.length = 16) (hb : ∀ x ∈ c, x < 256) {n : Nat} (hn : n ≤ 1099511627776) : ∀ k, k ≤ 16 → sofar c n k / 256 ^ k ≤ 1099511627776
  | 0, _ => by rw [sofar_zero hc, Nat.pow_zero, Nat.div_one]; exact hn
  | k + 1, h => by
    rw [sofar_div2 hc (by omega)]
    have := sofar_bound hc hb hn k (by omega)
    have : c.getD (15 - k) 0 < 256 := by
      rw [List.getD_eq_getElem?_getD, List.getElem?_eq_getElem (by omega : 15 - k < c.length)]
      exact hb _ (List.getElem_mem _)
    omega

set_option maxRecDepth 100000 in
set_option maxHeartbeats 1000000 in
theorem further_any (s : ByteArray) (n : Nat) (w : World) (hs : s.size = 16) (hn : n ≤ 1099511627776) :
    Calls Tryz.prog 173 #[.string s, .int .i64 (n : Int)] w fun e w' => e = .returned (.string (strN (nextN (natL s) n))) ∧ Below w.heap.size w w' := by
  obtain ⟨cap, W, hcv, iG, hB0, hsz⟩ := conv_in w s
  rw [hs] at hcv
  have hl : (natL s).length = 16 := by rw [natL_len, hs]
  have hb := natL_lt s
  have HL := Lib.hid hl
  have HB := Lib.hid (sofar_bound hl hb hn)
  have HX := Lib.hid (fun k (hk : k < 16) => show (natL s).getD (15 - k) 0 < 256 by
      rw [List.getD_eq_getElem?_getD, List.getElem?_eq_getElem (by omega : 15 - k < (natL s).length)]
      exact hb _ (List.getElem_mem _))
  have HS := Lib.hid hs
  generalize natL s = c at *
  clear hl hb hs hsz
  go_enter Tryz.func173, Tryz.ntmps173
  go_wp2
  obtain ⟨g, hg⟩ : ∃ g, g = w.heap.size := ⟨_, rfl⟩
  have q1 : w.heap.size ≤ g := by omega
  rw [← hg] at iG ⊢
  clear hg hcv
  go_loopw [1, 6] (fun m i wr => ∃ k : Nat, k ≤ 16 ∧ i = .int .i64 (15 - (k : Int)) ∧ m = .int .i64 ((sofar c n k / 256 ^ k : Nat) : Int) ∧ Bys wr g (rowK c n k) ∧ Below w.heap.size w wr)
    (fun _ i _ => (intOf i + 1).toNat)
  case atStart => exact ⟨0, by omega, rfl, by rw [sofar_zero HL.out, Nat.pow_zero, Nat.div_one], by rw [rowK_zero HL.out]; exact iG, hB0⟩
  case round =>
    clear iG hB0
    obtain ⟨k, hk, rfl, rfl, iG, hB⟩ := hrel
    by_cases hlt : k < 16
    · have hi1 : (0 : Int) ≤ 15 - (k : Int) := by omega
      have hi2 : 15 - (k : Int) < 16 := by omega
      have hlen := rowK_len HL.out n (k := k) hk
      have hat := rowK_at HL.out hlt n
      have hc0 := iG.cell (15 - k) (by omega)
      rw [hat] at hc0
      have hf0 := iG.fr (15 - k) (by omega)
      have hx := HX.out k hlt
      have hm := HB.out k hk
      have HST := Lib.hid (rowK_set HL.out hlt n)
      have HD2 := Lib.hid (sofar_div2 HL.out hlt n)
      have HLE := Lib.hid hlen
      generalize c.getD (15 - k) 0 = x at *
      generalize sofar c n k / 256 ^ k = m at *
      have e1 : (15 - (k : Int)).toNat = 15 - k := by omega
      have w1 : IntKind.i64.wrap ((m : Int) + (x : Int)) = ((m + x : Nat) : Int) := by rw [IntWalk.i64_in _ (by omega)]; omega
      clear hat hlen
      go_wp2
      have e2 : (((m : Int) + (x : Int)) % 256) = (((m + x) % 256 : Nat) : Int) := by omega
      have mG := iG.set (i := 15 - k) (by rw [HLE.out]; omega) ((m + x) % 256)
      rw [HST.out] at mG
      refine ⟨⟨k + 1, by omega, by go_num, by rw [HD2.out]; congr 1, by rw [e2]; exact mG, hB.setCell (p := ⟨g, 15 - k, none⟩) q1 _⟩, by simp [intOf]; omega⟩
    · obtain rfl : k = 16 := by omega
      have hlen := rowK_len HL.out n (k := 16) (by omega)
      have hcv := conv_out iG hlen cap
      rw [rowK_all] at hcv
      generalize hst : strN (nextN c n) = st at hcv
      have HST := Lib.hid hst
      clear hst
      go_wp2
      go_ret
      exact ⟨by rw [HST.out]; rfl, hB⟩
end Go.Proofs.YtfgdcpolfekgjaaGreat
namespace Go.Proofs.YtfgdcpolfekgjaaGreat
open Go.RowKit Go.Shelf

set_option maxRecDepth 100000 in
set_option maxHeartbeats 1000000 in
theorem together_any (a b : ByteArray) (w : World) (hab : a.size = b.size) (hn : a.size ≤ 65536) :
    Calls Tryz.prog 159 #[.string a, .string b] w fun e w' => e = .returned (.string (strN (xorB (natL a) (natL b)))) ∧ Below w.heap.size w w' := by
  obtain ⟨cap, W, hcv, iG, hB0, hsz⟩ := conv_in w a
  have HA := Lib.hid (natL_len a)
  have HXY := Lib.hid (show (natL a).length = (natL b).length by rw [natL_len, natL_len, hab])
  have HG := Lib.hid (fun k (hk : k < b.size) => (btN_get hk : (b[k].toNat : Int) = _))
  have hbb : ∀ k, btN b k = (natL b).getD k 0 := fun _ => rfl
  have HBL := Lib.hid (fun k => btN_lt b k)
  have HAL := Lib.hid (fun k => btN_lt a k)
  have hba : ∀ k, btN a k = (natL a).getD k 0 := fun _ => rfl
  have HN := Lib.hid hn
  have HAB := Lib.hid hab
  obtain ⟨m, hm⟩ : ∃ m, m = a.size := ⟨_, rfl⟩
  clear hsz hab
  rw [← hm] at hcv
  clear hn
  have HM := Lib.hid hm
  clear hm
  go_enter Tryz.func159, Tryz.ntmps159
  go_wp2
  obtain ⟨g, hg⟩ : ∃ g, g = w.heap.size := ⟨_, rfl⟩
  have q1 : w.heap.size ≤ g := by omega
  rw [← hg] at iG ⊢
  clear hg hcv
  go_loopw [11] (fun i wr => ∃ k : Nat, k ≤ m ∧ i = .int .i64 (k : Int) ∧ Bys wr g (xorTo (natL a) (natL b) k) ∧ Below w.heap.size w wr)
    (fun i _ => m - (intOf i).toNat)
  case atStart => exact ⟨0, by omega, rfl, by rw [xorTo_zero]; exact iG, hB0⟩
  case round =>
    clear iG hB0
    obtain ⟨k, hk, rfl, iG, hB⟩ := hrel
    by_cases hlt : k < m
    · have hi1 : (k : Int) < (m : Int) := by omega
      have hkl : k < (natL a).length := by rw [HA.out, ← HM.out]; exact hlt
      have hkb : k < b.size := by rw [← HAB.out, ← HM.out]; exact hlt
      have hkB : (k : Int) < (b.size : Int) := by omega
      have hm6 : m ≤ 65536 := by rw [HM.out]; exact HN.out
      have hcl := iG.cell k (by rw [xorTo_length _ _ _ HXY.out]; exact hkl)
      rw [xorTo_get _ _ _ HXY.out hkl] at hcl
      have hf := iG.fr k (by rw [xorTo_length _ _ _ HXY.out]; exact hkl)
      have hgb := HG.out k hkb
      rw [hbb] at hgb
      have hx := u8_xor_nat _ _ (HAL.out k) (HBL.out k)
      rw [hba, hbb] at hx
      have hst := xorTo_succ (natL a) (natL b) k HXY.out hkl
      generalize (natL a).getD k 0 = x at *
      generalize (natL b).getD k 0 = y at *
      have HST := Lib.hid hst
      have HX := Lib.hid hx
      have mG := iG.set (i := k) (by rw [xorTo_length _ _ _ HXY.out]; exact hkl) (x ^^^ y)
      rw [hst, ← hx] at mG
      have MG := Lib.hid mG
      clear hst hx hkl mG iG
      go_wp2
      go_region
      go_wp2
      exact ⟨⟨k + 1, by omega, by go_num, MG.out.drew, belowD (hB.setCell (p := ⟨g, k, none⟩) q1 _)⟩, by simp [intOf]; omega⟩
    · obtain rfl : k = m := by omega
      have hl := xorTo_length (natL a) (natL b) k HXY.out
      rw [HA.out, ← HM.out] at hl
      have hcv := conv_out iG hl cap
      rw [xorTo_all _ _ _ (by rw [HA.out, ← HM.out]; exact Nat.le_refl _) (by rw [← HXY.out, HA.out, ← HM.out]; exact Nat.le_refl _)] at hcv
      generalize hst : strN (xorB (natL a) (natL b)) = st at hcv
      have HST := Lib.hid hst
      clear hst
      go_wp2
      go_ret
      exact ⟨by rw [HST.out]; rfl, hB⟩
end Go.Proofs.YtfgdcpolfekgjaaGreat
namespace Go.Proofs.YtfgdcpolfekgjaaGreat
open Go.RowKit Go.Shelf

/-- a block's cells, by whether its Once is done, its lock's state and one more value; the Once stands at o. -/
structure OnceAt (C : Int → Int → Value → Array Value) (o : Nat) : Prop where
  done : ∀ d st v, (C d st v)[o]? = some (.int .u32 d)
  lock : ∀ d st v, (C d st v)[o + 1]? = some (.int .i32 st)
  setD : ∀ d st v x, (C d st v).setIfInBounds o (.int .u32 x) = C x st v
  setL : ∀ d st v x, (C d st v).setIfInBounds (o + 1) (.int .i32 x) = C d x v
variable (F : FuncId) (T : TypeId)

set_option maxRecDepth 100000 in
set_option maxHeartbeats 1600000 in
/-- '(*sync.Once).doSlow', not yet done and the lock free. -/
theorem once_slow {C : Int → Int → Value → Array Value} {o : Nat} (hC : OnceAt C o) (s : Nat) (pl : Addr) (v0 : Value) (Q : Value → World → Prop) (w : World) (hs : Is w s T (C 0 0 v0))
    (hcl : Is (w.setCell ⟨s, o + 1, none⟩ (.int .i32 1)) s T (C 0 1 v0) → Calls Tryz.prog F #[.pointer (some pl)] (w.setCell ⟨s, o + 1, none⟩ (.int .i32 1)) fun e W' => e = .returned (.tuple #[]) ∧ ∃ v, Is W' s T (C 0 1 v) ∧ Q v W')
    (hE : Enters Tryz.prog F) (hQ : ∀ v W i u, Q v W → Q v (W.setCell ⟨s, i, none⟩ u)) (hQd : ∀ v W, Q v W → Q v W.drew) :
    Calls Tryz.prog 191 #[.pointer (some ⟨s, o, none⟩), .func (.func F) #[] #[.pointer (some pl)]] w fun e w' => e = .returned (.tuple #[]) ∧ ∃ v, Is w' s T (C 1 0 v) ∧ Q v w' := by
  have h1 : Is (w.setCell ⟨s, o + 1, none⟩ (.int .i32 1)) s T (C 0 1 v0) := by
    have := hs.set (o + 1) (.int .i32 1)
    rwa [hC.setL] at this
  have H1 := Lib.hid h1
  have HCL := Lib.hid (hcl h1)
  have hl := bool_load ⟨s, o, none⟩ 0 (w.setCell ⟨s, o + 1, none⟩ (.int .i32 1)) ((h1.cell o).trans (hC.done _ _ _))
  have c2 : w.cell? ⟨s, o + 1, none⟩ = some (.int .i32 0) := (hs.cell (o + 1)).trans (hC.lock _ _ _)
  have f2 := hs.frozen (o + 1)
  clear hcl h1 hs
  have hen := hE #[.pointer (some pl)]
  have hnot : ∀ (x : Bool) (w : World), (Op.unary .not (.bool x)).run Tryz.prog w = .ok (.bool (!x)) w := fun _ _ => rfl
  go_enter_defers Tryz.func191, Tryz.ntmps191
  go_wp2_with (first | (go_at_call 203; refine (lock_free ⟨s, o + 1, none⟩ _ (by go_simp) (by go_simp)).mono ?_; rintro e w' ⟨rfl, rfl⟩) | (go_at_call 190; refine hl.mono ?_; rintro e w' ⟨rfl, rfl⟩))
  refine HCL.out.mono ?_
  rintro e W ⟨rfl, v, hW, hv⟩
  go_wp2
  refine leaves_cons (f := 205) (args := #[.pointer (some ⟨s, o, none⟩), .bool true]) (by simp) (by simp [go_sem]) ?_
  refine (store_deferred ⟨s, o, none⟩ (.int .u32 0) .returning _ ((hW.cell o).trans (hC.done _ _ _)) (hW.frozen o)).mono ?_
  rintro e u' w'' ⟨rfl, rfl, rfl⟩
  have hW2 : Is (W.drew.setCell ⟨s, o, none⟩ (.int .u32 1)) s T (C 1 1 v) := by
    have := Is.set (w := W.drew) hW o (.int .u32 1)
    rwa [hC.setD] at this
  have hv2 := hQ _ _ o (.int .u32 1) (hQd _ _ hv)
  refine leaves_cons (f := 204) (args := #[.pointer (some ⟨s, o + 1, none⟩)]) (by simp [settle]) (by simp [go_sem]) ?_
  refine (unlock_deferred ⟨s, o + 1, none⟩ _ _ ((hW2.cell (o + 1)).trans (hC.lock _ _ _)) (hW2.frozen (o + 1))).mono ?_
  rintro e u' w'' ⟨rfl, rfl, rfl⟩
  have hW3 : Is ((W.drew.setCell ⟨s, o, none⟩ (.int .u32 1)).setCell ⟨s, o + 1, none⟩ (.int .i32 0)) s T (C 1 0 v) := by
    have := hW2.set (o + 1) (.int .i32 0)
    rwa [hC.setL] at this
  have hv3 := hQ _ _ (o + 1) (.int .i32 0) hv2
  simp [Leaves, settle, results, Tryz.results191]
  exact ⟨v, hW3, hv3⟩

set_option maxRecDepth 100000 in
set_option maxHeartbeats 1600000 in
/-- '(*sync.Once).Do', not yet done, the lock free. -/
theorem once_first {C : Int → Int → Value → Array Value} {o : Nat} (hC : OnceAt C o) (s : Nat) (pl : Addr) (v0 : Value) (Q : Value → World → Prop) (w : World) (hs : Is w s T (C 0 0 v0))
    (hcl : Is (w.setCell ⟨s, o + 1, none⟩ (.int .i32 1)) s T (C 0 1 v0) → Calls Tryz.prog F #[.pointer (some pl)] (w.setCell ⟨s, o + 1, none⟩ (.int .i32 1)) fun e W' => e = .returned (.tuple #[]) ∧ ∃ v, Is W' s T (C 0 1 v) ∧ Q v W')
    (hE : Enters Tryz.prog F) (hQ : ∀ v W i u, Q v W → Q v (W.setCell ⟨s, i, none⟩ u)) (hQd : ∀ v W, Q v W → Q v W.drew) :
    Calls Tryz.prog 169 #[.pointer (some ⟨s, o, none⟩), .func (.func F) #[] #[.pointer (some pl)]] w fun e w' => e = .returned (.tuple #[]) ∧ ∃ v, Is w' s T (C 1 0 v) ∧ Q v w' := by
  have HS := Lib.hid (once_slow F T hC s pl v0 Q w hs hcl hE hQ hQd)
  have hl := bool_load ⟨s, o, none⟩ _ w ((hs.cell o).trans (hC.done _ _ _))
  clear hcl hE hQ hQd hs
  have hnot : ∀ (x : Bool) (w : World), (Op.unary .not (.bool x)).run Tryz.prog w = .ok (.bool (!x)) w := fun _ _ => rfl
  go_enter Tryz.func169, Tryz.ntmps169
  go_wp2_with (first | (go_at_call 191; refine HS.out.mono ?_; rintro e w' ⟨rfl, hx⟩) | (go_at_call 190; refine hl.mono ?_; rintro e w' ⟨rfl, rfl⟩))
  go_end0
  exact ⟨rfl, hx⟩

set_option maxRecDepth 100000 in
/-- '(*sync.Once).Do', done already: the function is not called. -/
theorem once_done {C : Int → Int → Value → Array Value} {o : Nat} (hC : OnceAt C o) (s : Nat) (v fv : Value) (w : World) (hs : Is w s T (C 1 0 v)) :
    Calls Tryz.prog 169 #[.pointer (some ⟨s, o, none⟩), fv] w fun e w' => e = .returned (.tuple #[]) ∧ w' = w := by
  have hl := bool_load ⟨s, o, none⟩ _ w ((hs.cell o).trans (hC.done _ _ _))
  have hnot : ∀ (x : Bool) (w : World), (Op.unary .not (.bool x)).run Tryz.prog w = .ok (.bool (!x)) w := fun _ _ => rfl
  clear hs
  go_enter Tryz.func169, Tryz.ntmps169
  go_wp2_with (go_at_call 190; refine hl.mono ?_; rintro e w' ⟨rfl, rfl⟩)
  go_end0
  exact ⟨rfl, rfl⟩
end Go.Proofs.YtfgdcpolfekgjaaGreat
namespace Go.Proofs.YtfgdcpolfekgjaaGreat
open Go.RowKit Go.Shelf

/-- a pad's cells. -/
abbrev padC (key ctr : ByteArray) (d st : Int) (v : Value) : Array Value := #[.string key, .string ctr, .int .u32 d, .int .i32 st, .int .u32 0, v]
theorem padOnce (key ctr : ByteArray) : OnceAt (padC key ctr) 2 := ⟨fun _ _ _ => rfl, fun _ _ _ => rfl, fun _ _ _ _ => rfl, fun _ _ _ _ => rfl⟩
/-- a pad that has not been asked for its key, or has. -/
def PadAt (w : World) (s : Nat) (key ctr : ByteArray) : Prop :=
  Is w s 220 (padC key ctr 0 0 (.bool false)) ∨ Is w s 220 (padC key ctr 1 0 (.bool (mayB key)))
def Asked (w : World) (s : Nat) (key ctr : ByteArray) : Prop := Is w s 220 (padC key ctr 1 0 (.bool (mayB key)))

set_option maxRecDepth 100000 in
set_option maxHeartbeats 1000000 in
theorem hk1_any (s : Nat) (pl : Addr) (key ctr : ByteArray) (v0 : Value) (w : World) (hs : Is w s 220 (padC key ctr 0 1 v0)) (cp : w.cell? pl = some (.pointer (some ⟨s, 0, none⟩))) (hpl : pl.block < w.heap.size) :
    Calls Tryz.prog 170 #[.pointer (some pl)] w fun e w' => e = .returned (.tuple #[]) ∧ ∃ v, Is w' s 220 (padC key ctr 0 1 v) ∧ (v = .bool (mayB key) ∧ w.grownBy w' (some s)) := by
  have HE := Lib.hid (expand_any key w)
  have c0 : w.cell? ⟨s, 0, none⟩ = some (.string key) := hs.cell 0
  have HS := Lib.hid hs
  have HCP := Lib.hid cp
  have hsl := hs.lt
  clear hs
  cases hb : mayB key with
  | true =>
    rw [hb] at HE
    change Hid (Calls _ _ _ _ fun e w' => e = .returned (.tuple #[.string (expV key), .int .i64 0]) ∧ _) at HE
    generalize expV key = X at *
    clear hb
    go_enter Tryz.func170, Tryz.ntmps170
    go_wp2_with (go_at_call 171; refine HE.out.mono ?_; rintro e w1 ⟨rfl, h1⟩; have jS := HS.out.below h1 hsl; have jp := (h1.cell (p := pl) hpl).trans HCP.out; have j5 := jS.cell 5; have f5 := jS.frozen 5)
    go_end0
    exact ⟨rfl, _, jS.set 5 (.bool true), rfl, ((grownOf h1).but (some s)).trans (grownSet w1 ⟨s, 5, none⟩ _)⟩
  | false =>
    rw [hb] at HE
    change Hid (Calls _ _ _ _ fun e w' => e = .returned (.tuple #[.string (expV key), .int .i64 1]) ∧ _) at HE
    generalize expV key = X at *
    clear hb
    go_enter Tryz.func170, Tryz.ntmps170
    go_wp2_with (go_at_call 171; refine HE.out.mono ?_; rintro e w1 ⟨rfl, h1⟩; have jS := HS.out.below h1 hsl; have jp := (h1.cell (p := pl) hpl).trans HCP.out; have j5 := jS.cell 5; have f5 := jS.frozen 5)
    go_end0
    exact ⟨rfl, _, jS.set 5 (.bool false), rfl, ((grownOf h1).but (some s)).trans (grownSet w1 ⟨s, 5, none⟩ _)⟩

set_option maxRecDepth 100000 in
set_option maxHeartbeats 1000000 in
theorem hasKey_any (s : Nat) (key ctr : ByteArray) (w : World) (hs : PadAt w s key ctr) :
    Calls Tryz.prog 163 #[.pointer (some ⟨s, 0, none⟩)] w fun e w' => e = .returned (.bool (mayB key)) ∧ Asked w' s key ctr ∧ w.grownBy w' (some s) := by
  obtain ⟨W1, hW1⟩ : ∃ W1, W1 = w.alloc (.cells #[.pointer (some ⟨s, 0, none⟩)] 226) := ⟨_, rfl⟩
  have iP : Is W1 w.heap.size 226 #[.pointer (some ⟨s, 0, none⟩)] := by rw [hW1]; exact Is.new w _ _
  have hB1 : Below w.heap.size w W1 := by rw [hW1]; exact (Below.refl _ _).alloc (Nat.le_refl _) _
  have hsl : s < w.heap.size := by rcases hs with h | h <;> exact h.lt
  have hps : s ≠ w.heap.size := by omega
  have cP := iP.cell 0
  have hmf : ∀ (fn : Fn) (first cap : Array Value) (w : World), (Instr.makeFunc fn first cap).run Tryz.prog w = .ok (.func fn first cap) w := fun _ _ _ _ => rfl
  have HG0 := Lib.hid (grownOf hB1)
  have hdo : ∀ fv, fv = .func (.func 170) #[] #[.pointer (some ⟨w.heap.size, 0, none⟩)] → Calls Tryz.prog 169 #[.pointer (some ⟨s, 2, none⟩), fv] W1 fun e w' => e = .returned (.tuple #[]) ∧ Asked w' s key ctr ∧ W1.grownBy w' (some s) := by
    rintro fv rfl
    rcases hs with hs | hs
    · have iS := hs.below hB1 hs.lt
      refine (once_first 170 220 (padOnce key ctr) s ⟨w.heap.size, 0, none⟩ _ (fun v W => v = .bool (mayB key) ∧ W1.grownBy W (some s)) W1 iS (fun h1 => ?_) (enters_of Tryz.func170 (by kernel_rfl) rfl) (fun v W i u h => ⟨h.1, h.2.trans (grownSet W ⟨s, i, none⟩ u)⟩) (fun v W h => ⟨h.1, grownDrew h.2⟩)).mono ?_
      · have iP2 := iP.far (p := ⟨s, 3, none⟩) (Ne.symm hps) (.int .i32 1)
        refine (hk1_any s ⟨w.heap.size, 0, none⟩ key ctr _ _ h1 (iP2.cell 0) iP2.lt).mono ?_
        rintro e W' ⟨rfl, v, g1, g2, g3⟩
        exact ⟨rfl, v, g1, g2, (grownSet W1 ⟨s, 3, none⟩ _).trans g3⟩
      · rintro e W' ⟨rfl, v, g1, rfl, g3⟩
        exact ⟨rfl, g1, g3⟩
    · have iS := hs.below hB1 hs.lt
      refine (once_done 220 (padOnce key ctr) s _ _ W1 iS).mono ?_
      rintro e W' ⟨rfl, rfl⟩
      exact ⟨rfl, iS, (grownOf (Below.refl _ _)).but (some s)⟩
  have HDO := Lib.hid (hdo _ rfl)
  have hW := hW1.symm
  clear hs hdo hB1 hW1
  go_enter Tryz.func163, Tryz.ntmps163
  go_wp2_with (go_at_call 169; refine HDO.out.mono ?_; rintro e W2 ⟨rfl, iS2, hgr⟩; have iP2 : Is W2 w.heap.size 226 #[.pointer (some ⟨s, 0, none⟩)] := (hgr.block _ iP.lt (by intro hx; cases hx; exact hps rfl)).trans iP; have cP2 := iP2.cell 0; have cS5 : W2.cell? ⟨s, 5, none⟩ = some (.bool (mayB key)) := iS2.cell 5)
  refine bodyPost_ret (v := .bool (mayB key)) (by simp [results, Tryz.results163, go_sem]) rfl ⟨rfl, iS2, (HG0.out.but (some s)).trans hgr⟩

def rightB (key ctr : ByteArray) : Bool := mayB key && decide (ctr.size = 16)
set_option maxRecDepth 100000 in
set_option maxHeartbeats 1000000 in
theorem right_any (s : Nat) (key ctr : ByteArray) (w : World) (hs : PadAt w s key ctr) :
    Calls Tryz.prog 157 #[.pointer (some ⟨s, 0, none⟩)] w fun e w' => e = .returned (.bool (rightB key ctr)) ∧ Asked w' s key ctr ∧ w.grownBy w' (some s) := by
  have HK := Lib.hid (hasKey_any s key ctr w hs)
  clear hs
  have HR := Lib.hid (show rightB key ctr = (mayB key && decide (ctr.size = 16)) from rfl)
  generalize rightB key ctr = R at *
  cases hb : mayB key with
  | false =>
    rw [hb] at HK HR
    go_enter Tryz.func157, Tryz.ntmps157
    go_wp2_with (go_at_call 163; refine HK.out.mono ?_; rintro e w1 ⟨rfl, iS, hg⟩)
    go_ret
    exact ⟨by rw [HR.out]; rfl, iS, hg⟩
  | true =>
    rw [hb] at HK HR
    by_cases h16 : ctr.size = 16
    · have d1 : decide ((ctr.size : Int) = 16) = true := by simp; omega
      have HR2 : R = true := by rw [HR.out, h16]; rfl
      go_enter Tryz.func157, Tryz.ntmps157
      go_wp2_with (go_at_call 163; refine HK.out.mono ?_; rintro e w1 ⟨rfl, iS, hg⟩; have c1 : w1.cell? ⟨s, 1, none⟩ = some (.string ctr) := Is.cell iS 1)
      go_ret
      exact ⟨by rw [HR2]; rfl, iS, hg⟩
    · have d1 : ((ctr.size : Int) == 16) = false := by simp; omega
      have HR2 : R = false := by rw [HR.out]; simp [h16]
      go_enter Tryz.func157, Tryz.ntmps157
      go_wp2_with (go_at_call 163; refine HK.out.mono ?_; rintro e w1 ⟨rfl, iS, hg⟩; have c1 : w1.cell? ⟨s, 1, none⟩ = some (.string ctr) := Is.cell iS 1)
      go_ret
      exact ⟨by rw [HR2]; rfl, iS, hg⟩
end Go.Proofs.YtfgdcpolfekgjaaGreat
namespace Go.Proofs.YtfgdcpolfekgjaaGreat
open Go.RowKit Go.Shelf
attribute [local go_sem] Oper.semAt_some

abbrev B16 := { x : ByteArray // x.size = 16 }
/-- the counters, as texts. -/
def ctrS (c : ByteArray) (i : Nat) : ByteArray := strN (nextN (natL c) i)
theorem ctrS_size (c : ByteArray) (i : Nat) : (ctrS c i).size = 16 := by rw [ctrS, strN_size, (nextN_blk _ _).len]
theorem ctrS_zero {c : ByteArray} (h : c.size = 16) : ctrS c 0 = c := by rw [ctrS, nextN_zero (natL_blk h), strN_natL]
theorem ctrS_nat (c : ByteArray) (i : Nat) : natL (ctrS c i) = nextN (natL c) i := strN_nat (nextN_blk _ _).lt
theorem ctrS_succ (c : ByteArray) (i : Nat) : ctrS (ctrS c i) 1 = ctrS c (i + 1) := by rw [ctrS, ctrS_nat, nextN_step, ctrS]
def ctr (c : ByteArray) (i : Nat) : B16 := ⟨ctrS c i, ctrS_size c i⟩
def ctrs (c : ByteArray) (k : Nat) : List B16 := (List.range k).map (ctr c)
theorem ctrs_succ (c : ByteArray) (k : Nat) : ctrs c (k + 1) = ctrs c k ++ [ctr c k] := by simp [ctrs, List.range_succ]
theorem ctrs_length (c : ByteArray) (k : Nat) : (ctrs c k).length = k := by simp [ctrs]

set_option maxRecDepth 100000 in
set_option maxHeartbeats 1000000 in
theorem counters1_in (n : Nat) (hn : 1 ≤ n) (l Bc Bn : Nat) (c : ByteArray) (hc : c.size = 16) (N : Nat) (hN : N ≤ 65536) (J Jx : List B16 → World → Prop)
    (W : World) (hJ : AbidesFrom W.heap.size J)
    (hY : ∀ pre x W, J pre W → pre.length < N → YieldAt Fence.wide (n - 1) Tryz.prog l #[.string x.1] W fun e W' =>
      (e = .returned (.bool true) ∧ J (pre ++ [x]) W' ∧ True) ∨ (e = .returned (.bool false) ∧ Jx (pre ++ [x]) W'))
    (hBc : Is W Bc 9 #[.string c]) (hBn : Is W Bn 3 #[.int .i64 (N : Int)]) (h0 : J [] W) :
    CallsIn Fence.wide n Tryz.prog 172 #[.func (.yield l) #[] #[], .pointer (some ⟨Bc, 0, none⟩), .pointer (some ⟨Bn, 0, none⟩)] W fun e W' => (∃ v, e = .returned v) ∧
      ((∃ ys, ys = ctrs c N ∧ J ys W') ∨ (∃ pre, True ∧ Jx pre W')) := by
  have cc := hBc.cell 0
  have cn := hBn.cell 0
  have HC := Lib.hid hc
  clear hc
  refine callsIn_of_wp Tryz.func172 rfl trivial ?_ rfl
  simp only [Tryz.ntmps172, List.size_toArray, List.length_cons, List.length_nil, Nat.reduceAdd, Nat.reduceSub, Array.replicate_succ, Array.replicate_zero, List.push_toArray, List.append_toArray, List.nil_append, List.cons_append]
  gi_wp2
  clear cc cn hBc hBn
  gi_loopw [4, 7] (fun a i wr => ∃ k : Nat, a = .string (ctrS c k) ∧ i = .int .i64 (k : Int) ∧ k ≤ N ∧ J (ctrs c k) wr)
    (fun _ i _ => N - (intOf i).toNat)
  case atStart => exact ⟨0, by rw [ctrS_zero HC.out], rfl, by omega, h0⟩
  case round =>
    clear h0
    obtain ⟨k, rfl, rfl, hk, hJk⟩ := hrel
    by_cases hlt : k < N
    · have hl1 : (k : Int) < (N : Int) := by omega
      obtain ⟨fn, tmps, assign, body, hy, hR⟩ := hY (ctrs c k) (ctr c k) wr hJk (by rw [ctrs_length]; exact hlt)
      rw [show (ctr c k).1 = ctrS c k from rfl] at hy
      have HF := Lib.hid (fun w => further_any (ctrS c k) 1 w (ctrS_size c k) (by omega))
      have HS := Lib.hid (show strN (nextN (natL (ctrS c k)) 1) = ctrS c (k + 1) from ctrS_succ c k)
      have HR := Lib.hid hR
      clear hR
      gi_wp2
      refine HR.out.mono ?_
      rintro e W3 (⟨rfl, hJ3, _⟩ | ⟨rfl, hJx3⟩)
      · gi_wp2_with (refine ⟨trivial, ?_⟩; gi_at_call 173; refine (callsIn_wide.2 (HF.out _)).mono ?_; rintro e W4 ⟨rfl, hb4⟩; rw [HS.out])
        go_roundw
        case rel =>
          refine ⟨k + 1, rfl, by go_num, by omega, ?_⟩
          rw [ctrs_succ]
          exact hJ _ _ _ none hJ3 (grownOf hb4) (fun r e => by cases e)
        case measure => simp [intOf]; omega
      · gi_wp2
        refine bodyPost_ret (results_none rfl _ _ _) rfl ?_
        exact ⟨⟨_, rfl⟩, .inr ⟨_, trivial, hJx3⟩⟩
    · have hl1 : ¬ (k : Int) < (N : Int) := by omega
      obtain rfl : k = N := by omega
      gi_wp2
      go_end0
      exact ⟨⟨_, rfl⟩, .inl hJk⟩

set_option maxRecDepth 100000 in
set_option maxHeartbeats 1000000 in
theorem counters_in (n : Nat) (c : ByteArray) (N : Int) (w : World) :
    CallsIn Fence.wide n Tryz.prog 164 #[.string c, .int .i64 N] w fun e w' => e = .returned (.func (.func 172) #[] #[.pointer (some ⟨w.heap.size, 0, none⟩), .pointer (some ⟨w.heap.size + 1, 0, none⟩)]) ∧
      w' = (w.alloc (.cells #[.string c] 9)).alloc (.cells #[.int .i64 N] 3) := by
  refine callsIn_of_wp Tryz.func164 rfl trivial ?_ rfl
  simp only [Tryz.ntmps164, List.size_toArray, List.length_cons, List.length_nil, Nat.reduceAdd, Nat.reduceSub, Array.replicate_succ, Array.replicate_zero, List.push_toArray, List.append_toArray, List.nil_append, List.cons_append]
  gi_wp2
  go_ret
  exact ⟨rfl, rfl⟩

theorem counters_stops (n : Nat) (hn : 1 ≤ n) (Bc Bn : Nat) (c : ByteArray) (hc : c.size = 16) (N : Nat) (hN : N ≤ 65536) (w : World)
    (hBc : Is w Bc 9 #[.string c]) (hBn : Is w Bn 3 #[.int .i64 (N : Int)]) :
    SeqStopsK Fence.wide n Tryz.prog 172 #[.pointer (some ⟨Bc, 0, none⟩), .pointer (some ⟨Bn, 0, none⟩)] (fun x : B16 => #[Value.string x.1]) (fun _ _ => True) (fun ys => ys = ctrs c N) (fun _ => True) N w := fun l J Jx W hW hJ _ hY h0 =>
  counters1_in n hn l Bc Bn c hc N hN J Jx W hJ hY (hBc.below hW hBc.lt) (hBn.below hW hBn.lt) h0

end Go.Proofs.YtfgdcpolfekgjaaGreat
namespace Go.Proofs.YtfgdcpolfekgjaaGreat
open Go.RowKit Go.Shelf

theorem rf_kept {W W' : World} {base : Nat} {e : TypeId} {v : Value} {n : Nat} {xs : List Value} {row : Option Nat} (h : W.ownsRowF base e 1 v n xs) (hg : W.grownBy W' row) (hr : ∀ r, row = some r → ∃ o : Obj, W.heap[r]? = some o ∧ o.isCells = false) : W'.ownsRowF base e 1 v n xs := by
  refine h.kept hg ?_
  cases hv : v.ownBlock with
  | none => exact .inl rfl
  | some g =>
    refine .inr fun e => ?_
    obtain ⟨o, ho, hc⟩ := hr g e.symm
    obtain ⟨c, fz, hk⟩ := Lib.ownsRowF_kind h g hv
    rw [hk] at ho
    cases ho
    cases hc
theorem rf_form {W : World} {base : Nat} {e : TypeId} {v : Value} {n : Nat} {xs : List Value} (h : W.ownsRowF base e 1 v n xs) (hn : 0 < n) : ∃ g cap, v = .slice (some ⟨g, 0, none⟩) n cap := by
  rcases h.2 with ⟨_, h0⟩ | ⟨g, cap, _, _, rfl, _⟩
  · omega
  · exact ⟨g, cap, rfl⟩
theorem rf_cap {W : World} {base : Nat} {e : TypeId} {g n L cap : Nat} {xs : List Value} (h : W.ownsRowF base e 1 (.slice (some ⟨g, 0, none⟩) L cap) n xs) : n ≤ cap := by
  rcases h.2 with ⟨h, _⟩ | ⟨g2, cap2, cur2, fz2, h, _, _, _, h2, _⟩
  · cases h
  · cases h; exact h2
theorem rf_others {W W' : World} {row : Option Nat} (hg : W.grownBy W' row) (hr : ∀ r, row = some r → ∃ o : Obj, W.heap[r]? = some o ∧ o.isCells = true) : KeepsOthers W W' :=
  ⟨hg.size, fun k o hk ho => (hg.block k (Array.getElem?_eq_some_iff.1 hk).1 (fun e => by
    obtain ⟨o', h1, h2⟩ := hr k e.symm
    rw [hk] at h1
    cases h1
    rw [ho] at h2
    cases h2)).trans hk⟩
theorem rf_below {W W' : World} (h : Below W.heap.size W W') : KeepsOthers W W' := rf_others (grownOf h) (fun r e => by cases e)
theorem rf_nat (s : ByteArray) : Lib.strCells s = nL (natL s) := by
  simp [Lib.strCells, nL, natL]
theorem rf_belowFrom {β : Type} {B : Nat} {w0 : World} (h : w0.heap.size ≤ B) : OwnFrom B (fun (_ : β) W => Below w0.heap.size w0 W) := fun _ A A' row hs hg hr => hs.grown hg (by have := hs.size; omega) (fun k e => by have := (hr k e).1; omega)

/-- all blocks below B but s are as they were. -/
structure But (B s : Nat) (w w' : World) : Prop where
  os : w'.os = w.os
  tape : w'.tape = w.tape
  output : w'.output = w.output
  size : w.heap.size ≤ w'.heap.size
  block : ∀ k, k < B → k ≠ s → w'.heap[k]? = w.heap[k]?
section
variable {B s : Nat} {w w' w'' : World}
theorem But.refl (B s : Nat) (w : World) : But B s w w := ⟨rfl, rfl, rfl, Nat.le_refl _, fun _ _ _ => rfl⟩
theorem But.trans (h : But B s w w') (k : But B s w' w'') : But B s w w'' := ⟨k.os.trans h.os, k.tape.trans h.tape, k.output.trans h.output, Nat.le_trans h.size k.size, fun i h1 h2 => (k.block i h1 h2).trans (h.block i h1 h2)⟩
theorem But.mono {C : Nat} (h : But C s w w') (hb : B ≤ C) : But B s w w' := ⟨h.os, h.tape, h.output, h.size, fun i h1 h2 => h.block i (by omega) h2⟩
theorem But.ofBelow (h : Below B w w') : But B s w w' := ⟨h.os, h.tape, h.output, h.size, fun i h1 _ => h.block i h1⟩
theorem But.ofGrown (h : w.grownBy w' (some s)) : But w.heap.size s w w' := ⟨h.os, h.tape, h.output, h.size, fun i h1 h2 => h.block i h1 (by simpa using h2)⟩
theorem But.set (h : But B s w w') {p : Addr} (hp : B ≤ p.block) (v : Value) : But B s w (w'.setCell p v) := ⟨h.os, h.tape, h.output, by have := h.size; simpa [World.setCell] using this, fun i h1 h2 => (heap_setCell_other w' p i v (by omega)).trans (h.block i h1 h2)⟩
theorem But.put (h : But B s w w') {l : Nat} {o : Obj} (hl : B ≤ l) : But B s w (w'.putObj l o) := ⟨h.os, h.tape, h.output, by rw [World.putObj_size]; exact h.size, fun i h1 h2 => (World.putObj_heap_other (by omega)).trans (h.block i h1 h2)⟩
theorem But.below (h : But B s w w') {C : Nat} (hC : C ≤ B) (hs : C ≤ s) : Below C w w' := ⟨h.os, h.tape, h.output, h.size, fun i h1 => h.block i (by omega) (by omega)⟩
theorem But.is {g : Nat} {t : TypeId} {cs : Array Value} (h : But B s w w') (hi : Is w g t cs) (hg : g < B) (hs : g ≠ s) : Is w' g t cs := (h.block g hg hs).trans hi
end
end Go.Proofs.YtfgdcpolfekgjaaGreat
namespace Go.Proofs.YtfgdcpolfekgjaaGreat
open Go.RowKit Go.Shelf
attribute [local go_sem] Oper.semAt_some

/-- the blocks of keys, one behind the other. -/
def flatK (key : ByteArray) (l : List B16) : List Nat := l.flatMap fun x => natL (encV key x.1)
theorem flatK_snoc (key : ByteArray) (l : List B16) (x : B16) : flatK key (l ++ [x]) = flatK key l ++ natL (encV key x.1) := by simp [flatK]
theorem flatK_ctrs {key : ByteArray} (hk : mayB key = true) (c : ByteArray) (k : Nat) : flatK key (ctrs c k) = keysN (natL key) (natL c) (16 * k) := by
  induction k with
  | zero => rfl
  | succ k ih =>
    rw [ctrs_succ, flatK_snoc, ih, show 16 * (k + 1) = 16 * k + 16 by omega, keysN_block (natL_key hk) (natL_lt key)]
    show _ ++ natL (encV key (ctrS c k)) = _
    rw [encV_ok hk (ctrS_size c k), ctrS_nat, strN_nat (aesE_blk (natL_key hk) (natL_lt key) (nextN_blk _ _)).lt]

def keyS (key ctr : ByteArray) (N : Nat) : ByteArray := strN (keysN (natL key) (natL ctr) N)

set_option maxRecDepth 100000 in
set_option maxHeartbeats 1000000 in
theorem bytes_ok (s : Nat) (key ctr : ByteArray) (N : Nat) (w : World) (hs : PadAt w s key ctr) (hr : rightB key ctr = true) (hN : N ≤ 65536) :
    Calls Tryz.prog 158 #[.pointer (some ⟨s, 0, none⟩), .int .i64 (N : Int)] w fun e w' => e = .returned (.tuple #[.string (keyS key ctr N), .int .i64 0]) ∧ Asked w' s key ctr ∧ But w.heap.size s w w' := by
  obtain ⟨i0, hi, hz0, hz1, hz2⟩ := infoThree infoU8
  have hk : mayB key = true := by simp only [rightB, Bool.and_eq_true] at hr; exact hr.1
  have hc16 : ctr.size = 16 := by simp only [rightB, Bool.and_eq_true, decide_eq_true_eq] at hr; exact hr.2
  have hsl : s < w.heap.size := by rcases hs with h | h <;> exact h.lt
  have HR := Lib.hid (fun W h => right_any s key ctr W h)
  rw [hr] at HR
  have HPA := Lib.hid (fun W (hb : Below w.heap.size w W) => (show PadAt W s key ctr by
    rcases hs with h | h
    · exact .inl (h.below hb h.lt)
    · exact .inr (h.below hb h.lt)))
  have HK := Lib.hid hk
  have HC := Lib.hid hc16
  clear hs hr hk hc16
  refine (callsIn_wide (n := 5)).1 ?_
  refine callsIn_of_wp_marks Tryz.func158 rfl trivial ?_ rfl
  simp only [Tryz.ntmps158, List.size_toArray, List.length_cons, List.length_nil, Nat.reduceAdd, Nat.reduceSub, Array.replicate_succ, Array.replicate_zero, List.push_toArray, List.append_toArray, List.nil_append, List.cons_append]
  have hN0 : (0 : Int) ≤ (N : Int) := by omega
  have hN1 : (N : Int) ≤ 65536 := by omega
  have d3 : decide ((N : Int) < 0) = false := by simp
  have d4 : decide (65536 < (N : Int)) = false := by simp; omega
  obtain ⟨W1, hW1⟩ : ∃ W1, W1 = (((w.alloc (.cells #[.pointer (some ⟨s, 0, none⟩)] 226)).alloc (.cells #[.string ⟨#[]⟩] 9)).alloc (.cells #[.int .i64 0] 35)) := ⟨_, rfl⟩
  have iP1 : Is W1 w.heap.size 226 #[.pointer (some ⟨s, 0, none⟩)] := by rw [hW1]; exact ((Is.new w _ _).alloc _).alloc _
  have iT1 : Is W1 (w.heap.size + 1) 9 #[.string ⟨#[]⟩] := by rw [hW1]; exact Is.alloc (heap_alloc2_new w _ _) _
  have iE1 : Is W1 (w.heap.size + 1 + 1) 35 #[.int .i64 0] := by
    have := Is.new ((w.alloc (.cells #[.pointer (some ⟨s, 0, none⟩)] 226)).alloc (.cells #[.string ⟨#[]⟩] 9)) 35 #[.int .i64 0]
    rw [hW1]
    simpa using this
  have hB1 : Below w.heap.size w W1 := by rw [hW1]; exact (((Below.refl _ _).alloc (Nat.le_refl _) _).alloc (by simp) _).alloc (by simp; omega) _
  have cP1 := iP1.cell 0
  have hW := hW1.symm
  have hCA := Lib.hid (HR.out W1 (HPA.out W1 hB1))
  obtain ⟨B2, hB2⟩ : ∃ B2, B2 = w.heap.size := ⟨_, rfl⟩
  obtain ⟨B4, hB4⟩ : ∃ B4, B4 = w.heap.size + 1 := ⟨_, rfl⟩
  obtain ⟨B5, hB5⟩ : ∃ B5, B5 = w.heap.size + 1 + 1 := ⟨_, rfl⟩
  have q2 : B2 ≠ s := by omega
  have q4 : B4 ≠ s := by omega
  have q5 : B5 ≠ s := by omega
  have q45 : B4 ≠ B5 := by omega
  have Q2 := Lib.hid (show w.heap.size ≤ B2 by omega)
  have Q4 := Lib.hid (show w.heap.size ≤ B4 by omega)
  have Q5 := Lib.hid (show w.heap.size ≤ B5 by omega)
  have HB1 := Lib.hid hB1
  rw [← hB2] at iP1
  rw [← hB4] at iT1
  rw [← hB5] at iE1
  clear hW1 hB1
  gi_wp2
  refine ⟨trivial, (callsIn_wide.2 hCA.out).mono ?_⟩
  rintro e Wa ⟨rfl, iA, hgr⟩
  rw [← hB5, ← hB4, ← hB2]
  have iP : Is Wa B2 226 #[.pointer (some ⟨s, 0, none⟩)] := (hgr.block _ iP1.lt (by simpa using q2)).trans iP1
  have iT : Is Wa B4 9 #[.string ⟨#[]⟩] := (hgr.block _ iT1.lt (by simpa using q4)).trans iT1
  have iE : Is Wa B5 35 #[.int .i64 0] := (hgr.block _ iE1.lt (by simpa using q5)).trans iE1
  have hBA : But w.heap.size s w Wa := (But.ofBelow HB1.out).trans ((But.ofGrown hgr).mono HB1.out.size)
  clear hW hB2 hB4 hB5 iP1 iT1 iE1 cP1 hgr
  have cA1 : Wa.cell? ⟨s, 1, none⟩ = some (.string ctr) := Is.cell iA 1
  have cP : Wa.cell? ⟨B2, 0, none⟩ = some (.pointer (some ⟨s, 0, none⟩)) := iP.cell 0
  gi_wp2_with (first
    | (gi_at_make; refine wpListIn_make_own _ rfl _ _ 63 rfl Wa.heap.size 5 i0 (.int .u8 0) 1 Tryz.underlying63 hi hz0 hz1 .i64 .i64 ((N : Int) + 16) (N + 16) rfl rfl (by omega) (by rw [hz2]; omega) (by unfold maxLen; omega) (Nat.le_refl _) ?_; intro wm hown0 hg0; have hBm : Below Wa.heap.size Wa wm := (Below.refl _ _).grown hg0 (Nat.le_refl _) (fun k e => by cases e); have hBo : Below Wa.heap.size Wa (wm.alloc (.cells #[.slice (some ⟨Wa.heap.size, 0, none⟩) 0 (N + 16)] 63)) := hBm.alloc hBm.size _; have cP' := (hBo.cell (p := ⟨B2, 0, none⟩) iP.lt).trans cP; have cA1' := (hBo.cell (p := ⟨s, 1, none⟩) (Is.lt iA)).trans cA1)
    | (refine ⟨trivial, ?_⟩; gi_at_call 164; refine (counters_in _ ctr _ _).mono ?_; rintro e w' ⟨rfl, rfl⟩))
  have eM : ((N : Int) + 16 - 1) / 16 = (((N + 15) / 16 : Nat) : Int) := by omega
  rw [eM]
  obtain ⟨M, hM⟩ : ∃ M, M = (N + 15) / 16 := ⟨_, rfl⟩
  rw [← hM]
  have hM6 : M ≤ 65536 := by omega
  have HM := Lib.hid hM
  clear eM hM
  have iO := ((Is.new wm 63 #[.slice (some ⟨Wa.heap.size, 0, none⟩) 0 (N + 16)]).alloc (.cells #[.string ctr] 9)).alloc (.cells #[.int .i64 (M : Int)] 3)
  have iC : Is (((wm.alloc (.cells #[.slice (some ⟨Wa.heap.size, 0, none⟩) 0 (N + 16)] 63)).alloc (.cells #[.string ctr] 9)).alloc (.cells #[.int .i64 (M : Int)] 3)) (wm.heap.size + 1) 9 #[.string ctr] := Is.alloc (heap_alloc2_new wm _ _) _
  have iN : Is (((wm.alloc (.cells #[.slice (some ⟨Wa.heap.size, 0, none⟩) 0 (N + 16)] 63)).alloc (.cells #[.string ctr] 9)).alloc (.cells #[.int .i64 (M : Int)] 3)) (wm.heap.size + 1 + 1) 3 #[.int .i64 (M : Int)] := by
    have := Is.new ((wm.alloc (.cells #[.slice (some ⟨Wa.heap.size, 0, none⟩) 0 (N + 16)] 63)).alloc (.cells #[.string ctr] 9)) 3 #[.int .i64 (M : Int)]
    simpa using this
  have hown := (((World.ownsRowF_of hown0).alloc (.cells #[.slice (some ⟨Wa.heap.size, 0, none⟩) 0 (N + 16)] 63)).alloc (.cells #[.string ctr] 9)).alloc (.cells #[.int .i64 (M : Int)] 3)
  have hB0 : Below Wa.heap.size Wa (((wm.alloc (.cells #[.slice (some ⟨Wa.heap.size, 0, none⟩) 0 (N + 16)] 63)).alloc (.cells #[.string ctr] 9)).alloc (.cells #[.int .i64 (M : Int)] 3)) := (hBo.alloc hBo.size _).alloc (by have := hBo.size; simp at this ⊢; omega) _
  change Code.wpIn _ _ _ _ _ _ (((wm.alloc (.cells #[.slice (some ⟨Wa.heap.size, 0, none⟩) 0 (N + 16)] 63)).alloc (.cells #[.string ctr] 9)).alloc (.cells #[.int .i64 (M : Int)] 3))
  generalize ((wm.alloc (.cells #[.slice (some ⟨Wa.heap.size, 0, none⟩) 0 (N + 16)] 63)).alloc (.cells #[.string ctr] 9)).alloc (.cells #[.int .i64 (M : Int)] 3) = W0 at *
  obtain ⟨Bo, hBoe⟩ : ∃ Bo, Bo = wm.heap.size := ⟨_, rfl⟩
  obtain ⟨Bc, hBce⟩ : ∃ Bc, Bc = wm.heap.size + 1 := ⟨_, rfl⟩
  obtain ⟨Bn, hBne⟩ : ∃ Bn, Bn = wm.heap.size + 1 + 1 := ⟨_, rfl⟩
  rw [← hBne, ← hBce, ← hBoe]
  rw [← hBoe] at iO
  rw [← hBce] at iC
  rw [← hBne] at iN
  have HBo := Lib.hid (show Wa.heap.size ≤ Bo by rw [hBoe]; exact hBm.size)
  clear hBoe hBce hBne hBm hBo hg0 hown0 cP' cA1' d3 d4 wm
  have cA0 : Wa.cell? ⟨s, 0, none⟩ = some (.string key) := Is.cell iA 0
  have hAl : s < Wa.heap.size := Is.lt iA
  have hPl := iP.lt
  have HWa := Lib.hid hB0.size
  refine wpIn_rangeFunc_ownF rfl (by omega) (gf := 172) (lb := #[.pointer (some ⟨Bc, 0, none⟩), .pointer (some ⟨Bn, 0, none⟩)]) rfl trivial (enters_of Tryz.func172 (by kernel_rfl) rfl)
    (counters_stops _ (by omega) Bc Bn ctr HC.out M hM6 W0 iC iN)
    (fun _ _ => trivial) (fun _ _ _ _ _ _ _ _ => trivial) (Below.refl _ _) (fun _ => rfl)
    (fun pre W => (∃ g cap, Is W Bo 63 #[.slice (some ⟨g, 0, none⟩) (16 * pre.length) cap] ∧ W.ownsRowF Wa.heap.size 5 1 (.slice (some ⟨g, 0, none⟩) (16 * pre.length) cap) (16 * pre.length) (nL (flatK key pre))) ∧ Below Wa.heap.size Wa W)
    (fun _ _ _ => False)
    (OwnFrom.and (fun s A B row hs hg hr => by
      obtain ⟨g, cap, h1, h2⟩ := hs
      exact ⟨g, cap, h1.kept hg (fun r e => (hr r e).2), rf_kept h2 hg (fun r e => (hr r e).2)⟩) (rf_belowFrom hB0.size))
    (fun _ _ _ _ _ hs _ _ => hs)
    ⟨⟨_, _, iO, hown⟩, hB0⟩
    (fun x => { tmps := #[.pointer (some ⟨s, 0, none⟩), .int .i64 (N : Int), .pointer (some ⟨B2, 0, none⟩), undef, .pointer (some ⟨B4, 0, none⟩), .pointer (some ⟨B5, 0, none⟩), .pointer (some ⟨Bo, 0, none⟩), .string x.1, undef, undef, .pointer (some ⟨s, 0, none⟩), .bool true, .bool false, .bool false, .int .i64 (N : Int), .bool false, .bool false, .bool false, .int .i64 (N : Int), .bool false, .bool false, .int .i64 (N : Int), .int .i64 ((N : Int) + 16), .slice (some ⟨Wa.heap.size, 0, none⟩) 0 (N + 16), .pointer (some ⟨s, 0, none⟩), .pointer (some ⟨s, 0, none⟩), .pointer (some ⟨s, 1, none⟩), .string ctr, .int .i64 (N : Int), .int .i64 ((N : Int) + 16), .int .i64 ((N : Int) + 16 - 1), .int .i64 (M : Int), .func (.func 172) #[] #[.pointer (some ⟨Bc, 0, none⟩), .pointer (some ⟨Bn, 0, none⟩)], .string x.1, undef, undef, undef, undef, undef, undef, undef, undef, undef, undef, undef, undef, undef, undef, undef, undef, undef, undef, undef], defers := [] }) ?assign ?body ?done ?stop
  case assign =>
    intro l x W K hK
    gi_wp2
    exact hK
  case body =>
    rintro l pre x W ⟨⟨g, cap, jO, hw⟩, hB⟩ hpl
    have HEN := Lib.hid (encrypt_any key x.1 W)
    rw [may2_of HK.out x.2] at HEN
    change Hid (Calls _ _ _ _ fun e w' => e = .returned (.tuple #[.string (encV key x.1), .int .i64 0]) ∧ _) at HEN
    have HX2 := Lib.hid (encV_size HK.out x.2)
    have HFS := Lib.hid (flatK_snoc key pre x)
    generalize encV key x.1 = X at *
    have c2 : W.cell? ⟨B2, 0, none⟩ = some (.pointer (some ⟨s, 0, none⟩)) := (hB.cell (p := ⟨B2, 0, none⟩) hPl).trans cP
    have c0 : W.cell? ⟨s, 0, none⟩ = some (.string key) := (hB.cell (p := ⟨s, 0, none⟩) hAl).trans cA0
    obtain ⟨L, hL⟩ : ∃ L, L = 16 * pre.length := ⟨_, rfl⟩
    have hL2 : L ≤ 1048576 := by omega
    rw [← hL] at jO hw
    have HL := Lib.hid hL
    clear hL
    gi_wp2
    refine ⟨trivial, (callsIn_wide.2 HEN.out).mono ?_⟩
    rintro e W2 ⟨rfl, hb2⟩
    have jO2 := jO.below hb2 jO.lt
    have hw2 := rf_kept hw (grownOf hb2) (fun r e => by cases e)
    have hB2 : Below Wa.heap.size Wa W2 := hB.trans (hb2.mono hB.size)
    have HK0 := Lib.hid (rf_below hb2)
    have c3 := jO2.cell 0
    have nO := Lib.ownBlock_neF hw2 jO2 (by decide)
    have hkd := Lib.ownsRowF_kind hw2
    have hlt := hw2.lt
    clear jO hw hB hb2 c2 c0
    gi_wp2_with (gi_at_builtin; refine Lib.wpListIn_append_own_stringF _ rfl _ _ 63 9 rfl Wa.heap.size 5 i0 Tryz.underlying63 Tryz.underlying9 hi hz0 hz1 hz2 (.slice (some ⟨g, 0, none⟩) L cap) _ _ rfl hw2 X rfl (by rw [HX2.out]; unfold maxLen; omega) (by rw [HX2.out]; omega) hB2.size ?_; intro v' w3 hw3 hg3 _; rw [HX2.out] at hw3; obtain ⟨g', cap', rfl⟩ := rf_form hw3 (by omega); have k3 : Is w3 Bo 63 #[.slice (some ⟨g, 0, none⟩) L cap] := (hg3.block Bo jO2.lt (Ne.symm nO)).trans jO2; have c3 := k3.cell 0; have f3 := k3.frozen 0)
    have m3 := Lib.ownBlock_neF hw3 k3 (by decide)
    have hBw : Below Wa.heap.size W2 w3 := (Below.refl _ _).grown hg3 hB2.size (fun k e => (hlt k e).1)
    have hk1 : KeepsOthers W2 w3 := rf_others hg3 (fun r e => by obtain ⟨c, fz, h⟩ := hkd r e; exact ⟨_, h, rfl⟩)
    have hOw : Wa.heap.size ≤ Bo := HBo.out
    have eL : 16 * (pre ++ [x]).length = L + 16 := by rw [HL.out, List.length_append, List.length_singleton]; omega
    have hw4 : (w3.setCell ⟨Bo, 0, none⟩ (.slice (some ⟨g', 0, none⟩) (L + 16) cap')).ownsRowF Wa.heap.size 5 1 (.slice (some ⟨g', 0, none⟩) (L + 16) cap') (L + 16) (nL (flatK key (pre ++ [x]))) := by
      rw [HFS.out, show nL (flatK key pre ++ natL X) = nL (flatK key pre) ++ nL (natL X) by simp [nL], ← rf_nat]
      exact hw3.kept (grownSet _ _ _) (.inr m3)
    refine ⟨(HK0.out.trans hk1).trans (KeepsOthers.setCell _ _ _), trivial, ⟨⟨g', cap', ?_, ?_⟩, (hB2.trans hBw).setCell hOw _⟩⟩
    · rw [eL]
      exact k3.set 0 _
    · rw [eL]
      exact hw4
  case done =>
    rintro D ys W hD rfl ⟨⟨g, cap, jO, hw⟩, hB⟩ hK
    rw [ctrs_length] at jO hw
    rw [flatK_ctrs HK.out] at hw
    have HTK := Lib.hid (keysN_take (natL key) (natL ctr) (m := N) (n := 16 * M) (by have := HM.out; omega))
    have HFL := Lib.hid (keysN_len (natL key) (natL ctr) (16 * M))
    have HKS := Lib.hid (show keyS key ctr N = strN (keysN (natL key) (natL ctr) N) from rfl)
    have HLN := Lib.hid (keysN_len (natL key) (natL ctr) N)
    generalize keysN (natL key) (natL ctr) (16 * M) = fl at *
    generalize keysN (natL key) (natL ctr) N = R at *
    generalize hks : keyS key ctr N = KS at *
    have HKE := Lib.hid hks
    clear hks
    have hcap := rf_cap hw
    have hNL : N ≤ 16 * M := by have := HM.out; omega
    have hcv := run_convert_bytes_arg (P := Tryz.prog) W 63 5 Tryz.underlying63 Tryz.underlying5 g 0 N cap (R.map fun x : Nat => (x : Int)) (by rw [List.length_map, HLN.out]) (fun i hi => by
      have h1 := hw.cells rfl i (.int .u8 ((R.map fun x : Nat => (x : Int)).getD i 0)) (by
        rw [nL, List.getElem?_map, List.getElem?_eq_getElem (by rw [HFL.out]; omega), List.getD_eq_getElem?_getD, List.getElem?_map, ← HTK.out, List.getElem?_take, if_pos hi, List.getElem?_eq_getElem (by rw [HFL.out]; omega)]
        rfl)
      have hadd : (⟨g, 0, none⟩ : Addr).add i = ⟨g, 0 + i, none⟩ := Addr.add_mid g 0 i
      rw [hadd] at h1
      exact h1) 9 Tryz.underlying9
    rw [← strN, ← HKS.out] at hcv
    have c0 := jO.cell 0
    have hc1 : (N : Int) ≤ (cap : Int) := by omega
    have kT := iT.below hB iT.lt
    have kE := iE.below hB iE.lt
    have c4 := kT.cell 0
    have f4 := kT.frozen 0
    have lT := iT.lt
    have lE := iE.lt
    have mE := kE.far (p := ⟨B4, 0, none⟩) (Ne.symm q45) (.string KS)
    have c5 := mE.cell 0
    have f5 := mE.frozen 0
    have HC16 := Lib.hid (show N ≤ 16 * M from hNL)
    clear hNL
    gi_wp2
    have nT : Is ((W.setCell ⟨B4, 0, none⟩ (.string KS)).setCell ⟨B5, 0, none⟩ (.int .i64 0)) B4 9 #[.string KS] := (kT.set 0 _).far (p := ⟨B5, 0, none⟩) q45 _
    have nE : Is ((W.setCell ⟨B4, 0, none⟩ (.string KS)).setCell ⟨B5, 0, none⟩ (.int .i64 0)) B5 35 #[.int .i64 0] := mE.set 0 _
    have nA' : Is ((W.setCell ⟨B4, 0, none⟩ (.string KS)).setCell ⟨B5, 0, none⟩ (.int .i64 0)) s 220 (padC key ctr 1 0 (.bool (mayB key))) := ((Is.below iA hB hAl).far (p := ⟨B4, 0, none⟩) (Ne.symm q4) _).far (p := ⟨B5, 0, none⟩) (Ne.symm q5) _
    have hBu : But w.heap.size s w ((W.setCell ⟨B4, 0, none⟩ (.string KS)).setCell ⟨B5, 0, none⟩ (.int .i64 0)) := ((hBA.trans ((But.ofBelow hB).mono hBA.size)).set (p := ⟨B4, 0, none⟩) Q4.out _).set (p := ⟨B5, 0, none⟩) Q5.out _
    have hK2 : ((W.setCell ⟨B4, 0, none⟩ (.string KS)).setCell ⟨B5, 0, none⟩ (.int .i64 0)).heap[D]? = some (.deferred (some [])) := (heap_setCell_other _ ⟨B5, 0, none⟩ D _ (by show D ≠ B5; have := HWa.out; omega)).trans ((heap_setCell_other W ⟨B4, 0, none⟩ D _ (by show D ≠ B4; have := HWa.out; omega)).trans hK)
    have hDB : w.heap.size ≤ D := by have := HWa.out; have := hBA.size; omega
    generalize (W.setCell ⟨B4, 0, none⟩ (.string KS)).setCell ⟨B5, 0, none⟩ (.int .i64 0) = WZ at *
    refine ⟨by simp, .inl ⟨_, _, rfl, run_takeDeferred hK2, ?_⟩⟩
    have pT := (nT.putObj (o' := .deferred none) hK2 rfl).cell 0
    have pE := (nE.putObj (o' := .deferred none) hK2 rfl).cell 0
    have pA := nA'.putObj (o' := .deferred none) hK2 rfl
    refine ⟨.tuple #[.string KS, .int .i64 0], by simp [results, Tryz.results158, go_sem, pT, pE], by rw [HKE.out], pA, ?_⟩
    exact hBu.put hDB
  case stop =>
    rintro D c pre W _ _ h _
    exact h.elim
end Go.Proofs.YtfgdcpolfekgjaaGreat
namespace Go.Proofs.YtfgdcpolfekgjaaGreat
open Go.RowKit Go.Shelf

set_option maxRecDepth 100000 in
set_option maxHeartbeats 1000000 in
theorem bytes_no (s : Nat) (key ctr : ByteArray) (N : Int) (w : World) (hs : PadAt w s key ctr) (hr : rightB key ctr = false ∨ (rightB key ctr = true ∧ (N < 0 ∨ 65536 < N))) :
    Calls Tryz.prog 158 #[.pointer (some ⟨s, 0, none⟩), .int .i64 N] w fun e w' => e = .returned (.tuple #[.string ⟨#[]⟩, .int .i64 1]) ∧ Asked w' s key ctr ∧ But w.heap.size s w w' := by
  have hsl : s < w.heap.size := by rcases hs with h | h <;> exact h.lt
  have HR := Lib.hid (fun W h => right_any s key ctr W h)
  have HPA := Lib.hid (fun W (hb : Below w.heap.size w W) => (show PadAt W s key ctr by
    rcases hs with h | h
    · exact .inl (h.below hb h.lt)
    · exact .inr (h.below hb h.lt)))
  clear hs
  obtain ⟨W1, hW1⟩ : ∃ W1, W1 = (((w.alloc (.cells #[.pointer (some ⟨s, 0, none⟩)] 226)).alloc (.cells #[.string ⟨#[]⟩] 9)).alloc (.cells #[.int .i64 0] 35)) := ⟨_, rfl⟩
  have iP1 : Is W1 w.heap.size 226 #[.pointer (some ⟨s, 0, none⟩)] := by rw [hW1]; exact ((Is.new w _ _).alloc _).alloc _
  have iT1 : Is W1 (w.heap.size + 1) 9 #[.string ⟨#[]⟩] := by rw [hW1]; exact Is.alloc (heap_alloc2_new w _ _) _
  have iE1 : Is W1 (w.heap.size + 1 + 1) 35 #[.int .i64 0] := by
    have := Is.new ((w.alloc (.cells #[.pointer (some ⟨s, 0, none⟩)] 226)).alloc (.cells #[.string ⟨#[]⟩] 9)) 35 #[.int .i64 0]
    rw [hW1]
    simpa using this
  have hB1 : Below w.heap.size w W1 := by rw [hW1]; exact (((Below.refl _ _).alloc (Nat.le_refl _) _).alloc (by simp) _).alloc (by simp; omega) _
  have cP1 := iP1.cell 0
  have hW := hW1.symm
  have hCA := Lib.hid (HR.out W1 (HPA.out W1 hB1))
  obtain ⟨B2, hB2⟩ : ∃ B2, B2 = w.heap.size := ⟨_, rfl⟩
  obtain ⟨B4, hB4⟩ : ∃ B4, B4 = w.heap.size + 1 := ⟨_, rfl⟩
  obtain ⟨B5, hB5⟩ : ∃ B5, B5 = w.heap.size + 1 + 1 := ⟨_, rfl⟩
  have q4 : B4 ≠ s := by omega
  have q5 : B5 ≠ s := by omega
  have q45 : B4 ≠ B5 := by omega
  have Q4 := Lib.hid (show w.heap.size ≤ B4 by omega)
  have Q5 := Lib.hid (show w.heap.size ≤ B5 by omega)
  have HB1 := Lib.hid hB1
  rw [← hB4] at iT1
  rw [← hB5] at iE1
  clear hW1 hB1 HR HPA
  generalize rightB key ctr = R at *
  have HH : (R = false) ∨ (R = true ∧ decide (N < 0) = true) ∨ (R = true ∧ decide (N < 0) = false ∧ decide (65536 < N) = true) := by
    rcases hr with h | ⟨h, h2⟩
    · exact .inl h
    · by_cases h3 : N < 0
      · exact .inr (.inl ⟨h, by simpa using h3⟩)
      · exact .inr (.inr ⟨h, by simpa using h3, by simp; omega⟩)
  clear hr
  rcases HH with rfl | ⟨rfl, d3⟩ | ⟨rfl, d3, d4⟩
  all_goals
    go_enter Tryz.func158, Tryz.ntmps158
    go_wp2_with fail
    refine hCA.out.mono ?_
    rintro e Wa ⟨rfl, iA, hgr⟩
    have iT : Is Wa B4 9 #[.string ⟨#[]⟩] := (hgr.block _ iT1.lt (by simpa using q4)).trans iT1
    have iE : Is Wa B5 35 #[.int .i64 0] := (hgr.block _ iE1.lt (by simpa using q5)).trans iE1
    have hBA : But w.heap.size s w Wa := (But.ofBelow HB1.out).trans ((But.ofGrown hgr).mono HB1.out.size)
    rw [← hB5, ← hB4, ← hB2]
    clear hW hB2 hB4 hB5 iP1 iT1 iE1 cP1 hgr hCA
    have c4 := iT.cell 0
    have f4 := iT.frozen 0
    have mE := iE.far (p := ⟨B4, 0, none⟩) (Ne.symm q45) (.string ⟨#[]⟩)
    have c5 := mE.cell 0
    have f5 := mE.frozen 0
    go_wp2
    have nT : Is ((Wa.setCell ⟨B4, 0, none⟩ (.string ⟨#[]⟩)).setCell ⟨B5, 0, none⟩ (.int .i64 1)) B4 9 #[.string ⟨#[]⟩] := (iT.set 0 _).far (p := ⟨B5, 0, none⟩) q45 _
    have nE : Is ((Wa.setCell ⟨B4, 0, none⟩ (.string ⟨#[]⟩)).setCell ⟨B5, 0, none⟩ (.int .i64 1)) B5 35 #[.int .i64 1] := mE.set 0 _
    have nA' : Is ((Wa.setCell ⟨B4, 0, none⟩ (.string ⟨#[]⟩)).setCell ⟨B5, 0, none⟩ (.int .i64 1)) s 220 (padC key ctr 1 0 (.bool (mayB key))) := ((show Is Wa s 220 _ from iA).far (p := ⟨B4, 0, none⟩) (Ne.symm q4) _).far (p := ⟨B5, 0, none⟩) (Ne.symm q5) _
    have hBu : But w.heap.size s w ((Wa.setCell ⟨B4, 0, none⟩ (.string ⟨#[]⟩)).setCell ⟨B5, 0, none⟩ (.int .i64 1)) := (hBA.set (p := ⟨B4, 0, none⟩) Q4.out _).set (p := ⟨B5, 0, none⟩) Q5.out _
    generalize (Wa.setCell ⟨B4, 0, none⟩ (.string ⟨#[]⟩)).setCell ⟨B5, 0, none⟩ (.int .i64 1) = WZ at *
    have pT := nT.cell 0
    have pE := nE.cell 0
    exact bodyPost_ret (v := .tuple #[.string ⟨#[]⟩, .int .i64 1]) (by simp [results, Tryz.results158, go_sem, pT, pE]) rfl ⟨rfl, nA', hBu⟩
end Go.Proofs.YtfgdcpolfekgjaaGreat
namespace Go.Proofs.YtfgdcpolfekgjaaGreat
open Go.RowKit Go.Shelf

/-- what Keys and Xor tell. -/
def keyV (key ctr : ByteArray) (n : Int) : ByteArray := if rightB key ctr && decide (0 ≤ n) && decide (n ≤ 65536) then keyS key ctr n.toNat else ⟨#[]⟩
def keyE (key ctr : ByteArray) (n : Int) : Int := if rightB key ctr && decide (0 ≤ n) && decide (n ≤ 65536) then 0 else 1
def xorV (key ctr s : ByteArray) : ByteArray := if rightB key ctr && decide (s.size ≤ 65536) then strN (xorS (natL key) (natL ctr) (natL s)) else ⟨#[]⟩
def xorE (key ctr s : ByteArray) : Int := if rightB key ctr then (if s.size ≤ 65536 then 0 else 2) else 1
theorem keyS_size (key ctr : ByteArray) (N : Nat) : (keyS key ctr N).size = N := by rw [keyS, strN_size, keysN_len]
theorem keyS_nat {key : ByteArray} (ctr : ByteArray) (hr : rightB key ctr = true) (N : Nat) : natL (keyS key ctr N) = keysN (natL key) (natL ctr) N :=
  strN_nat (keysN_lt (natL_key (by simp only [rightB, Bool.and_eq_true] at hr; exact hr.1)) (natL_lt key) (natL ctr) N)

theorem bytes_any (s : Nat) (key ctr : ByteArray) (N : Int) (w : World) (hs : PadAt w s key ctr) :
    Calls Tryz.prog 158 #[.pointer (some ⟨s, 0, none⟩), .int .i64 N] w fun e w' => e = .returned (.tuple #[.string (keyV key ctr N), .int .i64 (keyE key ctr N)]) ∧ Asked w' s key ctr ∧ But w.heap.size s w w' := by
  unfold keyV keyE
  by_cases hr : rightB key ctr = true
  · by_cases h0 : 0 ≤ N
    · by_cases h1 : N ≤ 65536
      · obtain ⟨M, rfl⟩ : ∃ M : Nat, N = (M : Int) := ⟨N.toNat, by omega⟩
        have e : (rightB key ctr && decide ((0 : Int) ≤ (M : Int)) && decide ((M : Int) ≤ 65536)) = true := by simp [hr]; omega
        rw [if_pos e, if_pos e, Int.toNat_natCast]
        exact bytes_ok s key ctr M w hs hr (by omega)
      · have e : ¬ ((rightB key ctr && decide ((0 : Int) ≤ N) && decide (N ≤ 65536)) = true) := by simp [hr]; omega
        rw [if_neg e, if_neg e]
        exact bytes_no s key ctr N w hs (.inr ⟨hr, .inr (by omega)⟩)
    · have e : ¬ ((rightB key ctr && decide ((0 : Int) ≤ N) && decide (N ≤ 65536)) = true) := by simp [hr]; omega
      rw [if_neg e, if_neg e]
      exact bytes_no s key ctr N w hs (.inr ⟨hr, .inl (by omega)⟩)
  · have hf : rightB key ctr = false := by simpa using hr
    have e : ¬ ((rightB key ctr && decide ((0 : Int) ≤ N) && decide (N ≤ 65536)) = true) := by simp [hf]
    rw [if_neg e, if_neg e]
    exact bytes_no s key ctr N w hs (.inl hf)

/-- a pad that has just been made. -/
theorem padNew (w : World) (key ctr : ByteArray) : PadAt (w.alloc (.cells (padC key ctr 0 0 (.bool false)) 220)) w.heap.size key ctr := .inl (Is.new w _ _)

set_option maxRecDepth 100000 in
set_option maxHeartbeats 1000000 in
theorem xor_any (key ctr s : ByteArray) (w : World) :
    Calls Tryz.prog 147 #[.string key, .string ctr, .string s] w fun e w' => e = .returned (.tuple #[.string (xorV key ctr s), .int .i64 (xorE key ctr s)]) ∧ Below w.heap.size w w' := by
  have HRR := Lib.hid (right_any w.heap.size key ctr _ (padNew w key ctr))
  have hB : Below w.heap.size w (w.alloc (.cells (padC key ctr 0 0 (.bool false)) 220)) := (Below.refl _ _).alloc (Nat.le_refl _) _
  have HBY := Lib.hid (fun W h => bytes_any w.heap.size key ctr (s.size : Int) W h)
  have hr0 : ∀ b, rightB key ctr = b → (b = true → mayB key = true) := by
    rintro b rfl h
    simp only [rightB, Bool.and_eq_true] at h
    exact h.1
  unfold xorV xorE
  by_cases hr : rightB key ctr = true
  · by_cases hl : s.size ≤ 65536
    · have e1 : (rightB key ctr && decide (s.size ≤ 65536)) = true := by simp [hr, hl]
      rw [if_pos e1, if_pos hr, if_pos hl]
      have d1 : decide (65536 < (s.size : Int)) = false := by simp; omega
      have hkv : keyV key ctr (s.size : Int) = keyS key ctr s.size := by
        unfold keyV
        rw [if_pos (by simp [hr]; omega), Int.toNat_natCast]
      have hke : keyE key ctr (s.size : Int) = 0 := by
        unfold keyE
        rw [if_pos (by simp [hr]; omega)]
      rw [hr] at HRR
      rw [hkv, hke] at HBY
      have HT := Lib.hid (fun W => together_any s (keyS key ctr s.size) W (keyS_size key ctr s.size).symm hl)
      rw [keyS_nat ctr hr] at HT
      rw [← natL_len s] at HT
      rw [show xorB (natL s) (keysN (natL key) (natL ctr) (natL s).length) = xorS (natL key) (natL ctr) (natL s) from rfl, natL_len s] at HT
      generalize keyS key ctr s.size = K at *
      generalize strN (xorS (natL key) (natL ctr) (natL s)) = R at *
      clear hr hl e1 hkv hke hr0
      go_enter Tryz.func147, Tryz.ntmps147
      go_wp2_with fail
      refine HRR.out.mono ?_
      rintro e w1 ⟨rfl, iA, hg⟩
      have hB1 : Below w.heap.size w w1 := hB.trans ((But.ofGrown hg).below (by simp) (Nat.le_refl _))
      clear HRR hg hB
      go_wp2_with fail
      refine (HBY.out w1 (.inr iA)).mono ?_
      rintro e w2 ⟨rfl, _, hb⟩
      have hB2 : Below w.heap.size w w2 := hB1.trans (hb.below hB1.size (Nat.le_refl _))
      clear HBY hb hB1 iA
      go_wp2_with fail
      refine (HT.out w2).mono ?_
      rintro e w3 ⟨rfl, hb⟩
      have hB3 : Below w.heap.size w w3 := hB2.trans (hb.mono hB2.size)
      clear hB2 hb HT
      go_wp2
      go_ret2
      exact ⟨rfl, hB3⟩
    · have e1 : ¬ ((rightB key ctr && decide (s.size ≤ 65536)) = true) := by simp [hr]; omega
      rw [if_neg e1, if_pos hr, if_neg hl]
      have d1 : decide (65536 < (s.size : Int)) = true := by simp; omega
      rw [hr] at HRR
      clear hr hl e1 hr0 HBY
      go_enter Tryz.func147, Tryz.ntmps147
      go_wp2_with fail
      refine HRR.out.mono ?_
      rintro e w1 ⟨rfl, iA, hg⟩
      have hB1 : Below w.heap.size w w1 := hB.trans ((But.ofGrown hg).below (by simp) (Nat.le_refl _))
      clear HRR hg hB iA
      go_wp2
      go_ret2
      exact ⟨rfl, hB1⟩
  · have hf : rightB key ctr = false := by simpa using hr
    have e1 : ¬ ((rightB key ctr && decide (s.size ≤ 65536)) = true) := by simp [hf]
    rw [if_neg e1, if_neg hr]
    have hkv : keyV key ctr (s.size : Int) = ⟨#[]⟩ := by
      unfold keyV
      rw [if_neg (by simp [hf])]
    have hke : keyE key ctr (s.size : Int) = 1 := by
      unfold keyE
      rw [if_neg (by simp [hf])]
    rw [hf] at HRR
    rw [hkv, hke] at HBY
    clear hr hf e1 hkv hke hr0
    go_enter Tryz.func147, Tryz.ntmps147
    go_wp2_with fail
    refine HRR.out.mono ?_
    rintro e w1 ⟨rfl, iA, hg⟩
    have hB1 : Below w.heap.size w w1 := hB.trans ((But.ofGrown hg).below (by simp) (Nat.le_refl _))
    clear HRR hg hB
    go_wp2_with fail
    refine (HBY.out w1 (.inr iA)).mono ?_
    rintro e w2 ⟨rfl, _, hb⟩
    have hB2 : Below w.heap.size w w2 := hB1.trans (hb.below hB1.size (Nat.le_refl _))
    clear HBY hb hB1 iA
    go_wp2
    go_ret2
    exact ⟨rfl, hB2⟩

end Go.Proofs.YtfgdcpolfekgjaaGreat
namespace Go.Proofs.YtfgdcpolfekgjaaGreat
open Go.RowKit Go.Shelf

end Go.Proofs.YtfgdcpolfekgjaaGreat
namespace Go.Proofs.YtfgdcpolfekgjaaGreat
open Go.RowKit Go.Shelf

/-- a text, put together with the keys. -/
def xorT (key ctr s : ByteArray) : ByteArray := strN (xorS (natL key) (natL ctr) (natL s))
theorem right_of {key ctr : ByteArray} (hk : mayB key = true) (hc : ctr.size = 16) : rightB key ctr = true := by rw [rightB, hk, hc]; rfl
theorem xor_fine (key ctr s : ByteArray) (w : World) (hk : mayB key = true) (hc : ctr.size = 16) (hs : s.size ≤ 65536) :
    Calls Tryz.prog 147 #[.string key, .string ctr, .string s] w fun e w' => e = .returned (.tuple #[.string (xorT key ctr s), .int .i64 0]) ∧ Below w.heap.size w w' := by
  have := xor_any key ctr s w
  rwa [xorV, xorE, right_of hk hc, if_pos (by simpa using hs), if_pos rfl, if_pos hs] at this
section
variable {key ctr : ByteArray} (hk : mayB key = true)
include hk
theorem xorT_nat (s : ByteArray) : natL (xorT key ctr s) = xorS (natL key) (natL ctr) (natL s) := strN_nat (xorS_lt (natL_key hk) (natL_lt key) _ (natL_lt s))
theorem xorT_back (s : ByteArray) : xorT key ctr (xorT key ctr s) = s := by
  rw [xorT, xorT_nat hk, xorS_back, strN_natL]
end
theorem xorT_size (key ctr s : ByteArray) : (xorT key ctr s).size = s.size := by rw [xorT, strN_size, xorS_len, natL_len]
end Go.Proofs.YtfgdcpolfekgjaaGreat

