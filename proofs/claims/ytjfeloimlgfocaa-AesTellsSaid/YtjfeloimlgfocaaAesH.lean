/-
  Contract of aes.squaresOf. Conditions: the words of a key, expanded, lie in a block of their own.
-/
import Derived.Test.YtjfeloimlgfocaaAesG
namespace Go.Proofs.Ytjfeloimlgfocaa
open Go.RowKit Go.Shelf

/-- 'copy(dst, src)' of slices whose elements have several cells each. -/
theorem run_copy_wide {P : Program} (w : World) (dT sT ty elem : TypeId) (size k b o dLen dCap : Nat) (a : Addr) (sLen sCap : Nat) (cs : List Value)
    (hu : P.underlying dT = some (.slice elem)) (hs : (P.info? elem).map (·.size) = some size) (hk : Nat.min sLen dLen = k) (hn : cs.length = k * size)
    (hsrc : ∀ j v, cs[j]? = some v → w.cell? (a.add j) = some v) (ht : w.there b o cs.length) (h1 : ∀ v ∈ cs, v.oneCell' = true) :
    (Builtin.copy_ #[dT, sT] ty #[.slice (some ⟨b, o, none⟩) dLen dCap, .slice (some a) sLen sCap]).run P w = .ok (goInt k) (w.setCells b o cs) := by
  have hl := run_loadCells_list (P := P) w a cs hsrc
  have hst := run_storeCells_cells (P := P) b o cs 0 w (fun j hj => (ht j hj).1) (fun j hj => (ht j hj).2) h1
  cases hq : P.info? elem with
  | none => simp [hq] at hs
  | some i =>
    have hi : i.size = size := by simpa [hq] using hs
    simp [Builtin.copy_, run_underlying hu, Builtin.lenOf, Builtin.firstCells, sizeOf, typeInfo, hq, hi, hk, ← hn, hl, hst]

/-- block k of sixteen bytes. -/
def sqL (D : List Nat) (k : Nat) : List Nat := (D.drop (k * 16)).take 16
theorem keyK_sq (key : List Nat) (r : Nat) : keyK key r = sqL (expB key) r := by rw [keyK, sqL, Nat.mul_comm]

set_option maxRecDepth 100000 in
set_option maxHeartbeats 1000000 in
theorem squaresOf_any (D : List Nat) (n g : Nat) (w : World) (hD : D.length = n * 16) (hn : n ≤ 15) (hn1 : 1 ≤ n) (hG : Is w g 58 (nA D)) :
    Calls Try.prog 56 #[.slice (some ⟨g, 0, none⟩) (4 * n) (4 * n)] w fun e w' => ∃ h, e = .returned (.slice (some ⟨h, 0, none⟩) n n) ∧ Is w' h 60 (nA D) ∧ w.heap.size ≤ h ∧ Below w.heap.size w w' := by
  obtain ⟨i0, hi, hz0, hz1, hz2⟩ := infoThree infoSquare
  have HI := Lib.hid hi
  have HZ0 := Lib.hid hz0
  have HZ1 := Lib.hid hz1
  have HZ2 := Lib.hid hz2
  have HDL := Lib.hid hD
  have HD := Lib.hid (show D.length = (zers (n * 16)).length by rw [hD, zers_len])
  have HZ := Lib.hid (zers_len (n * 16))
  obtain ⟨m, hm⟩ : ∃ m, m = 4 * n := ⟨_, rfl⟩
  rw [← hm]
  have HM := Lib.hid hm
  have hq : (m : Int) / 4 = (n : Int) := by omega
  have hm60 : m ≤ 60 := by omega
  have hm4 : m ≤ 4 * n := by omega
  have hm5 : 4 * n ≤ m := by omega
  clear hi hz0 hz1 hz2 hD hm
  go_enter Try.func56, Try.ntmps56
  go_wp2_with (refine wpList_make_full _ rfl _ _ 52 rfl w.heap.size 60 i0 (.agg (nA zer16)) 16 Try.underlying52 HI.out HZ0.out HZ1.out .i64 .i64 _ _ n rfl rfl rfl rfl (by rw [HZ2.out]; omega) (by unfold maxLen; omega) (Nat.le_refl _) ?_; intro wm hown hg; rw [show (Value.agg (nA zer16)).cells = nA zer16 from rfl, made_zers16] at hown; obtain ⟨iH, hgB⟩ := owned_is hown; have hB0 : Below w.heap.size w wm := (Below.refl _ _).grown hg (Nat.le_refl _) (fun k e => by cases e))
  have iG : Is wm g 58 (nA D) := hG.below hB0 hG.lt
  obtain ⟨h, hh⟩ : ∃ h, h = w.heap.size := ⟨_, rfl⟩
  rw [← hh] at iH
  rw [← hh]
  have q1 : w.heap.size ≤ h := by omega
  have q2 : g ≠ h := by have := hG.lt; omega
  clear hh hown hg hgB hq hG
  go_loopw [11] (fun a wr => ∃ i : Nat, i ≤ n ∧ a = .int .i64 (i : Int) ∧ Is wr h 60 (nA (thru D (zers (n * 16)) (i * 16))) ∧ Is wr g 58 (nA D) ∧ Below w.heap.size w wr)
    (fun a _ => n - (intOf a).toNat)
  case atStart => exact ⟨0, by omega, rfl, by rw [Nat.zero_mul, thru_zero]; exact iH, iG, hB0⟩
  case round =>
    clear iG iH hB0
    obtain ⟨i, hi, rfl, iH, iG, hB⟩ := hrel
    by_cases hlt : i < n
    · have hi1 : (i : Int) < (n : Int) := by omega
      have hi0 : (0 : Int) ≤ (i : Int) := by omega
      have hl16 : (nL (sqL D i)).length = 4 * 4 := by rw [nL_len, sqL, List.length_take, List.length_drop, HDL.out]; omega
      have hrg := nA_range (w := wr.drew) iG (i * 16) 16
      have hcp := run_copy_wide (P := Try.prog) wr.drew 85 85 3 58 4 4 h (i * 16) 4 4 ⟨g, i * 4 * 4, none⟩ (m - i * 4) (m - i * 4) (nL (sqL D i)) Try.underlying85 info4 (Nat.min_eq_right (by omega)) hl16 (fun j v hj => by
        have := hrg j v hj
        rw [Addr.add_mid, show i * 4 * 4 = i * 16 by omega]; exact this) (by rw [hl16]; exact nA_there (w := wr.drew) iH (i * 16) _ (by rw [thru_len HD.out, HZ.out]; omega)) (fun u hu => by obtain ⟨x, _, rfl⟩ := List.mem_map.1 hu; rfl)
      have w1 : IntKind.i64.wrap ((i : Int) * 4) = ((i * 4 : Nat) : Int) := by rw [IntWalk.i64_in _ (by omega)]; omega
      have hle1 : ((i * 4 : Nat) : Int) ≤ (m : Int) := by omega
      have hle2 : i * 4 ≤ m := by omega
      have hle0 : (0 : Int) ≤ ((i * 4 : Nat) : Int) := by omega
      have hne : ¬ m = i * 4 := by omega
      have hne2 : ¬ i * 4 = m := by omega
      clear hl16 hrg
      go_wp2
      go_region
      clear hcp w1
      go_wp2
      go_roundw
      case rel =>
        have mH := Is.setCells (w := wr.drew) (nL (sqL D i)) (i * 16) iH
        rw [sqL, setAll_thru HD.out _ _ (by rw [HZ.out]; omega), show i * 16 + 16 = (i + 1) * 16 by omega] at mH
        exact ⟨i + 1, by omega, by go_num, mH, Is.farCells (w := wr.drew) q2 _ _ iG, belowCells (w := wr.drew) q1 _ _ (belowD hB)⟩
      case measure => simp [intOf]; omega
    · have hi1 : ¬ (i : Int) < (n : Int) := by omega
      rw [thru_all HD.out (by rw [HZ.out]; omega)] at iH
      go_wp2
      exact bodyPost_ret (v := .slice (some ⟨h, 0, none⟩) n n) (by simp [results, Try.results56, go_sem]) rfl ⟨h, rfl, iH, q1, hB⟩
end Go.Proofs.Ytjfeloimlgfocaa
