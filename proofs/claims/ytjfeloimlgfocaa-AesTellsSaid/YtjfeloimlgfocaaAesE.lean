/-
  Contracts of aes.squareOf and (square).text. Conditions: a text of 16 bytes; a block of bytes.
-/
import Derived.Test.YtjfeloimlgfocaaAesD
import Derived.Lib.UnsafeStr
import Derived.OwnWalk
import Derived.Laws.BytesArg
namespace Go.Proofs.Ytjfeloimlgfocaa
open Go.RowKit Go.Shelf

/-- a text's bytes as numbers. -/
def natL (s : ByteArray) : List Nat := s.data.toList.map UInt8.toNat
theorem natL_len (s : ByteArray) : (natL s).length = s.size := by rw [natL, List.length_map, Array.length_toList]; rfl
theorem natL_lt (s : ByteArray) : ∀ x ∈ natL s, x < 256 := fun x hx => by
  obtain ⟨y, _, rfl⟩ := List.mem_map.1 hx
  exact y.toNat_lt
theorem natL_blk {s : ByteArray} (h : s.size = 16) : Blk (natL s) := ⟨by rw [natL_len, h], natL_lt s⟩
theorem natL_inj {s t : ByteArray} (h : natL s = natL t) : s = t := by
  have h2 : s.data.toList = t.data.toList := List.map_inj_right (fun x y hxy => UInt8.toNat_inj.1 hxy) |>.1 h
  cases s; cases t
  congr
  exact Array.toList_inj.1 h2
theorem natL_extract (s : ByteArray) (a b : Nat) : natL (s.extract a b) = ((natL s).drop a).take (b - a) := by
  simp [natL, ByteArray.data_extract, List.map_drop, List.map_take, List.extract_eq_take_drop]

/-- 'copy(dst, s)', s a text that is longer than dst, or as long: dst is filled. -/
theorem run_copy_string_fills {P : Program} (w : World) (dT sT ty elem : TypeId) (b o dLen dCap : Nat) (t : ByteArray)
    (hu : P.underlying dT = some (.slice elem)) (hs : (P.info? elem).map (·.size) = some 1) (hle : dLen ≤ t.size) (ht : w.there b o dLen) :
    (Builtin.copy_ #[dT, sT] ty #[.slice (some ⟨b, o, none⟩) dLen dCap, .string t]).run P w = .ok (goInt dLen) (w.setCells b o (nL ((natL t).take dLen))) := by
  have hmin : Nat.min t.size dLen = dLen := Nat.min_eq_right hle
  have hl : (nL ((natL t).take dLen)).length = dLen := by rw [nL_len, List.length_take, natL_len]; omega
  have hst := run_storeCells_cells (P := P) b o (nL ((natL t).take dLen)) 0 w (by rw [hl]; exact fun j hj => (ht j hj).1) (by rw [hl]; exact fun j hj => (ht j hj).2) (by
    intro v hv
    obtain ⟨x, _, rfl⟩ := List.mem_map.1 hv
    rfl)
  have htk : List.take dLen (List.map (fun b : UInt8 => Value.int IntKind.u8 (b.toNat : Int)) t.data.toList) = nL ((natL t).take dLen) := by
    simp [nL, natL, List.map_take]
    rfl
  simp only [Nat.add_zero] at hst
  cases hq : P.info? elem with
  | none => simp [hq] at hs
  | some i =>
    simp [Builtin.copy_, run_underlying hu, Builtin.lenOf, Builtin.firstCells, sizeOf, typeInfo, hq, hmin]
    rw [htk, hst]
    simp [Result.andThen]

theorem info8 : (Try.prog.info? 5).map (·.size) = some 1 := by kernel_rfl

set_option maxRecDepth 100000 in
set_option maxHeartbeats 1000000 in
theorem squareOf_any (s : ByteArray) (w : World) (hs : s.size = 16) :
    Calls Try.prog 25 #[.string s] w fun e w' => e = .returned (.agg (nA (natL s))) ∧ Below w.heap.size w w' := by
  have hz : #[Value.int .u8 0, .int .u8 0, .int .u8 0, .int .u8 0, .int .u8 0, .int .u8 0, .int .u8 0, .int .u8 0, .int .u8 0, .int .u8 0, .int .u8 0, .int .u8 0, .int .u8 0, .int .u8 0, .int .u8 0, .int .u8 0] = nA zer16 := rfl
  have HS := Lib.hid hs
  have HD := Lib.hid (show (natL s).length = zer16.length by rw [natL_len, hs]; rfl)
  have HZ := Lib.hid (show zer16.length = 16 from rfl)
  have h15 : 15 < s.size := by omega
  have h17 : s.size < 17 := by omega
  clear hs
  go_enter Try.func25, Try.ntmps25
  go_wp2
  clear hz
  have iR : Is ((w.alloc (.cells (nA zer16) 60)).alloc (.cells (nA zer16) 60)) w.heap.size 60 (nA zer16) := (Is.new w _ _).alloc _
  have iO : Is ((w.alloc (.cells (nA zer16) 60)).alloc (.cells (nA zer16) 60)) (w.heap.size + 1) 60 (nA zer16) := heap_alloc2_new w _ _
  have hB0 : Below w.heap.size w ((w.alloc (.cells (nA zer16) 60)).alloc (.cells (nA zer16) 60)) := ((Below.refl _ _).alloc (Nat.le_refl _) _).alloc (by simp) _
  generalize ((w.alloc (.cells (nA zer16) 60)).alloc (.cells (nA zer16) 60)) = W0 at *
  obtain ⟨Br, hBr⟩ : ∃ Br, Br = w.heap.size := ⟨_, rfl⟩
  obtain ⟨Bo, hBo⟩ : ∃ Bo, Bo = w.heap.size + 1 := ⟨_, rfl⟩
  rw [← hBo, ← hBr]
  rw [← hBr] at iR
  rw [← hBo] at iO
  have q1 : w.heap.size ≤ Bo := by omega
  have q2 : w.heap.size ≤ Br := by omega
  have q3 : Br ≠ Bo := by omega
  clear hBr hBo
  go_loopw [5] (fun i wr => ∃ c : Nat, c ≤ 4 ∧ i = .int .i64 (c : Int) ∧ Is wr Bo 60 (nA (thru (natL s) zer16 (c * 4))) ∧ Is wr Br 60 (nA zer16) ∧ Below w.heap.size w wr)
    (fun i _ => 4 - (intOf i).toNat)
  case atStart => exact ⟨0, by omega, rfl, by rw [Nat.zero_mul, thru_zero]; exact iO, iR, hB0⟩
  case round =>
    clear iO iR hB0
    obtain ⟨c, hc, rfl, iO, iR, hB⟩ := hrel
    by_cases hlt : c < 4
    · have hi1 : (c : Int) < 4 := by omega
      have hc0 : (0 : Int) ≤ (c : Int) := by omega
      have hcp := run_copy_string_fills (P := Try.prog) wr.drew 33 9 3 5 Bo (c * 4) 4 4 (s.extract (c * 4) s.size) Try.underlying33 info8 (by rw [ByteArray.size_extract]; omega) (nA_there (w := wr.drew) iO (c * 4) 4 (by rw [thru_len HD.out, HZ.out]; omega))
      have hcol : ((natL (s.extract (c * 4) s.size)).take 4) = colL (natL s) c := by
        rw [natL_extract, List.take_take, HS.out, colL]; congr 1; omega
      rw [hcol] at hcp
      have w1 : IntKind.i64.wrap ((c : Int) * 4) = ((c * 4 : Nat) : Int) := by rw [IntWalk.i64_in _ (by omega)]; omega
      have hle1 : ((c * 4 : Nat) : Int) ≤ (s.size : Int) := by omega
      have hle0 : (0 : Int) ≤ ((c * 4 : Nat) : Int) := by omega
      go_wp2
      go_region
      clear hcp w1 hcol
      go_wp2
      go_roundw
      case rel =>
        have mO := Is.setCells (w := wr.drew) (nL (colL (natL s) c)) (c * 4) iO
        rw [colL, setAll_thru HD.out _ _ (by rw [HZ.out]; omega), show c * 4 + 4 = (c + 1) * 4 by omega] at mO
        exact ⟨c + 1, by omega, by go_num, mO, Is.farCells (w := wr.drew) q3 _ _ iR, belowCells (w := wr.drew) q1 _ _ (belowD hB)⟩
      case measure => simp [intOf]; omega
    · have hi1 : ¬ (c : Int) < 4 := by omega
      obtain rfl : c = 4 := by omega
      rw [thru_all HD.out (by rw [HZ.out]; omega)] at iO
      have hl : (natL s).length = 16 := by rw [natL_len, HS.out]
      have hone := nA_one (natL s)
      have hin : (Try.prog.info? 60).map (·.size) = some (nA (natL s)).size := by rw [nA_size, hl]; exact info16
      have hs2 : (nA (natL s)).size = 16 := by rw [nA_size, hl]
      generalize hR : nA (natL s) = R at *
      have HR := Lib.hid hR
      clear hR hl
      go_wp2_with (first
        | (refine wpList_load_row rfl 60 _ rfl Bo rfl _ _ _ _ iO Try.underlying60 rfl hin ?_)
        | (refine wpList_store_row rfl 60 _ _ rfl Br R rfl rfl _ _ iR hin (by rw [hs2]; rfl) hone ?_))
      refine bodyPost_ret (results_cell_row Try.results25 _ _ Br 60 R (0, 0) _ rfl (iR.row _) Try.underlying60 rfl hin) rfl ⟨by rw [HR.out], ?_⟩
      exact belowRow hB q2 _
/-- bytes as a text. -/
def strN (S : List Nat) : ByteArray := strOfNums (S.map fun x : Nat => (x : Int))
theorem strN_nat {S : List Nat} (h : ∀ x ∈ S, x < 256) : natL (strN S) = S := by
  rw [natL, strN, strOfNums_data, List.map_map, List.map_map]
  conv => rhs; rw [← List.map_id S]
  refine List.map_congr_left fun x hx => ?_
  simp only [Function.comp_apply, Int.toNat_natCast, id_eq]
  rw [UInt8.toNat_ofNat']
  exact Nat.mod_eq_of_lt (h x hx)
theorem strN_size (S : List Nat) : (strN S).size = S.length := by rw [strN, strOfNums_size, List.length_map]
theorem infoU8 : (Try.prog.info? 5).map (fun i => (i.zero, i.size, i.bytes)) = some (some (.int .u8 0), 1, 1) := by kernel_rfl
theorem infoThree {P : Program} {t : TypeId} {z : Value} {s b : Nat} (h : (P.info? t).map (fun i => (i.zero, i.size, i.bytes)) = some (some z, s, b)) : ∃ i, P.info? t = some i ∧ i.zero = some z ∧ i.size = s ∧ i.bytes = b := by
  cases hq : P.info? t with
  | none => rw [hq] at h; cases h
  | some i =>
    rw [hq] at h
    simp only [Option.map_some, Option.some.injEq, Prod.mk.injEq] at h
    exact ⟨i, rfl, h.1, h.2.1, h.2.2⟩
theorem idx_col (S : List Nat) (k : Nat) (hk : k < 4) (W : World) : (Instr.index 60 (.agg (nA S)) (.int .i64 (k : Int))).run Try.prog W = .ok (.agg (nA (colL S k))) W := by
  have hsz : ∀ W, (sizeOf 58).run Try.prog W = .ok 4 W := fun W => by
    have := info4
    cases hq : Try.prog.info? 58 with
    | none => rw [hq] at this; cases this
    | some i =>
      rw [hq] at this
      simp only [Option.map_some, Option.some.injEq] at this
      simp [sizeOf, typeInfo, hq, this]
  have hag : ∀ W, (isAgg 58).run Try.prog W = .ok true W := fun W => by
    unfold isAgg
    rw [Sem.run_bind, run_underlying Try.underlying58 W]
    rfl
  have hex : (nA S).extract (k * 4) (k * 4 + 4) = nA (colL S k) := by
    simp [nA, colL, List.map_take, List.map_drop, List.extract_eq_take_drop]
  simp [Instr.index, asIntOf, run_underlying Try.underlying60, part, hsz, hag, hex]
  intro h
  omega

set_option maxRecDepth 100000 in
set_option maxHeartbeats 1000000 in
theorem text_any (S : List Nat) (w : World) (hS : S.length = 16) :
    Calls Try.prog 21 #[.agg (nA S)] w fun e w' => e = .returned (.string (strN S)) ∧ Below w.heap.size w w' := by
  obtain ⟨i0, hi, hz0, hz1, hz2⟩ := infoThree infoU8
  have HI := Lib.hid hi
  have HZ0 := Lib.hid hz0
  have HZ1 := Lib.hid hz1
  have HZ2 := Lib.hid hz2
  have HS := Lib.hid hS
  have hin : (Try.prog.info? 60).map (·.size) = some (nA S).size := by rw [nA_size, hS]; exact info16
  clear hi hz0 hz1 hz2 hS
  go_enter Try.func21, Try.ntmps21
  have iX : Is (w.alloc (.cells (nA S) 60)) w.heap.size 60 (nA S) := Is.new w _ _
  have hB0 : Below w.heap.size w (w.alloc (.cells (nA S) 60)) := (Below.refl _ _).alloc (Nat.le_refl _) _
  go_wp2_with (first
    | (refine wpList_make_own _ rfl _ _ 33 rfl w.heap.size 5 i0 (.int .u8 0) 1 Try.underlying33 HI.out HZ0.out HZ1.out .i64 .i64 16 16 rfl rfl rfl (by rw [HZ2.out]; omega) (by unfold maxLen; omega) (by simp) ?_; intro wm hown hg; have jX : Is wm w.heap.size 60 (nA S) := (hg.block _ (by simp) (by simp)).trans iX; have jB : Below w.heap.size w wm := hB0.grown hg (by simp) (fun k e => by cases e))
    | (refine wpList_load_row rfl 60 _ rfl w.heap.size rfl _ _ _ _ jX Try.underlying60 rfl hin ?_))
  rw [show (w.alloc (.cells (nA S) 60)).heap.size = w.heap.size + 1 by simp] at hown
  clear hg iX hB0 jX hin
  obtain ⟨g, hg⟩ : ∃ g, g = w.heap.size + 1 := ⟨_, rfl⟩
  rw [← hg] at hown
  rw [← hg]
  have hgB : w.heap.size ≤ g := by omega
  clear hg
  go_loopw [3, 8] (fun v i wr => ∃ k : Nat, k ≤ 4 ∧ i = .int .i64 (k : Int) ∧ v = .slice (some ⟨g, 0, none⟩) (k * 4) 16 ∧ wr.ownsRow w.heap.size 5 1 (.slice (some ⟨g, 0, none⟩) (k * 4) 16) (k * 4) (nL (S.take (k * 4))) ∧ Below w.heap.size w wr)
    (fun _ i _ => 4 - (intOf i).toNat)
  case atStart => exact ⟨0, by omega, rfl, rfl, by rw [Nat.zero_mul, List.take_zero]; exact hown, jB⟩
  case round =>
    clear hown jB
    obtain ⟨k, hk, rfl, rfl, hown, hB⟩ := hrel
    by_cases hlt : k < 4
    · have hi1 : (k : Int) < 4 := by omega
      have hidx := idx_col S k hlt
      have hcl := colL_len HS.out hlt
      have hcA : (Try.prog.info? 58).map (·.size) = some (nA (colL S k)).size := by rw [nA_size, hcl]; exact info4
      have hc2 : (nA (colL S k)).size = 4 := by rw [nA_size, hcl]
      have hone := nA_one (colL S k)
      have happ : nL (S.take (k * 4)) ++ nL (colL S k) = nL (S.take ((k + 1) * 4)) := by
        rw [nL, nL, nL, ← List.map_append, colL, show (k + 1) * 4 = k * 4 + 4 by omega, List.take_add]
      have HAP := Lib.hid happ
      have HCL := Lib.hid hcl
      have HC2 := Lib.hid hc2
      have iC : Is (wr.alloc (.cells (nA (colL S k)) 58)) wr.heap.size 58 (nA (colL S k)) := Is.new wr _ _
      have hrg := nA_range iC 0 4
      rw [List.drop_zero, List.take_of_length_le (by rw [hcl]; exact Nat.le_refl _)] at hrg
      have hown2 := hown.alloc (.cells (nA (colL S k)) 58)
      have hB2 := hB.alloc hB.size (.cells (nA (colL S k)) 58)
      clear happ hcl hc2
      generalize hcc : nA (colL S k) = C at *
      have HCC := Lib.hid hcc
      clear hcc
      go_wp2_with (first
        | (refine wpList_store_row rfl 58 _ _ rfl wr.heap.size C rfl rfl _ _ (heap_alloc_new wr _) hcA (by rw [HC2.out]; rfl) hone ?_; rw [World.setRow_alloc_new])
        | (refine wpList_append_fits _ rfl _ _ 33 rfl w.heap.size 5 i0 1 Try.underlying33 HI.out HZ1.out g (k * 4) 16 _ rfl hown2 ⟨wr.heap.size, 0, none⟩ 4 4 (nL (colL S k)) rfl (by rw [nL_len, HCL.out]) (fun j u hj => by have h0 := hrg j u hj; rw [Nat.zero_add] at h0; rw [Addr.add_mid, Nat.zero_add]; exact h0) (fun u hu => by obtain ⟨x, _, rfl⟩ := List.mem_map.1 hu; rfl) (by omega) ?_; intro wa hown3 hg3))
      have hB3 : Below w.heap.size w wa := hB2.grown hg3 (by have := hB.size; simp; omega) (fun k e => by cases e; exact hgB)
      rw [HAP.out, show k * 4 + 4 = (k + 1) * 4 by omega] at hown3
      go_roundw
      case rel => exact ⟨k + 1, by omega, by go_num, by rw [show k * 4 + 4 = (k + 1) * 4 by omega], hown3, hB3⟩
      case measure => simp [intOf]; omega
    · have hi1 : ¬ (k : Int) < 4 := by omega
      obtain rfl : k = 4 := by omega
      rw [List.take_of_length_le (by rw [HS.out]; exact Nat.le_refl _)] at hown
      have hcv := run_convert_bytes_arg (P := Try.prog) wr 33 5 Try.underlying33 Try.underlying5 g 0 16 16 (S.map fun x : Nat => (x : Int)) (by rw [List.length_map, HS.out]) (fun i hi => by
        rw [Nat.zero_add, hown.cellAt i (by omega), nL, List.getElem?_map, List.getD_eq_getElem?_getD, List.getElem?_map, List.getElem?_eq_getElem (by rw [HS.out]; exact hi)]
        rfl) 9 Try.underlying9
      rw [← strN] at hcv
      go_wp2
      go_ret
      exact ⟨rfl, hB⟩
end Go.Proofs.Ytjfeloimlgfocaa
