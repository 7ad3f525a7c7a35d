/-
  Contracts of the document's own answer for layer 4: May, Expand, Encrypt, Decrypt tell what the program tells. No conditions.
-/
import Derived.Test.YtjfeloimlgfocaaRefW
namespace Go.Proofs.Ytjfeloimlgfocaa
open Go.RowKit Go.Shelf

set_option maxRecDepth 100000 in
theorem rmay_any (key : ByteArray) (w : World) : Calls Try.prog 22 #[.string key] w fun e w' => e = .returned (.bool (mayB key)) ∧ w = w' := by
  by_cases h1 : key.size = 16
  · have e1 : ((key.size : Int) == 16) = true := by simp; omega
    have H := Lib.hid (show mayB key = true by simp [mayB, h1])
    clear h1
    go_enter Try.func22, Try.ntmps22
    go_wp2
    go_ret
    exact ⟨by rw [H.out]; rfl, rfl⟩
  · have e1 : ((key.size : Int) == 16) = false := by simp; omega
    by_cases h2 : key.size = 32
    · have e2 : ((key.size : Int) == 32) = true := by simp; omega
      have H := Lib.hid (show mayB key = true by simp [mayB, h2])
      clear h1 h2
      go_enter Try.func22, Try.ntmps22
      go_wp2
      go_ret
      exact ⟨by rw [H.out]; rfl, rfl⟩
    · have e2 : ((key.size : Int) == 32) = false := by simp; omega
      have H := Lib.hid (show mayB key = false by simp [mayB, h1, h2])
      clear h1 h2
      go_enter Try.func22, Try.ntmps22
      go_wp2
      go_ret
      exact ⟨by rw [H.out]; rfl, rfl⟩
theorem rmay_is (key : ByteArray) {b : Bool} (h : mayB key = b) (w : World) : Calls Try.prog 22 #[.string key] w fun e w' => e = .returned (.bool b) ∧ w = w' := by
  have := rmay_any key w
  rwa [h] at this
theorem rexpanded_any (key : ByteArray) (w : World) (h : mayB key = true) :
    Calls Try.prog 23 #[.string key, .agg (nA TS)] w fun e w' => e = .returned (.string (strN (expB (natL key)))) ∧ Below w.heap.size w w' := by
  have hs : key.size = 16 ∨ key.size = 32 := by simpa [mayB] using h
  rcases hs with hs | hs
  · have := rexp_4 key w hs
    rw [show expB (natL key) = (expN (natL key) 4 40).1 by rw [expB, natL_len, hs]]
    exact this
  · have := rexp_8 key w hs
    rw [show expB (natL key) = (expN (natL key) 8 52).1 by rw [expB, natL_len, hs]]
    exact this
set_option maxRecDepth 100000 in
set_option maxHeartbeats 1000000 in
theorem rexpand_any (key : ByteArray) (w : World) :
    Calls Try.prog 12 #[.string key] w fun e w' => e = .returned (.tuple #[.string (expV key), .int .i64 (errV (mayB key))]) ∧ Below w.heap.size w w' := by
  cases h : mayB key with
  | true =>
    have HM := Lib.hid (fun w => rmay_is key h w)
    have RS := Lib.hid rsubs_any
    have RX := Lib.hid (fun w => rexpanded_any key w h)
    rw [expV_ok h, show errV true = 0 from rfl]
    generalize strN (expB (natL key)) = X at *
    generalize nA TS = RT at *
    clear h
    go_enter Try.func12, Try.ntmps12
    go_wp2_with fail
    refine (HM.out _).mono ?_
    rintro e w' ⟨rfl, rfl⟩
    go_wp2_with fail
    refine (RS.out _).mono ?_
    rintro e w1 ⟨rfl, h1⟩
    go_wp2_with fail
    refine (RX.out _).mono ?_
    rintro e w2 ⟨rfl, h2⟩
    go_wp2
    go_ret2
    exact ⟨rfl, h1.trans (h2.mono h1.size)⟩
  | false =>
    have HM := Lib.hid (fun w => rmay_is key h w)
    rw [expV, h, show errV false = 1 from rfl]
    clear h
    go_enter Try.func12, Try.ntmps12
    go_wp2_with (go_at_call 22; refine (HM.out _).mono ?_; rintro e w' ⟨rfl, rfl⟩)
    go_ret2
    exact ⟨rfl, Below.refl _ _⟩

set_option maxRecDepth 100000 in
set_option maxHeartbeats 1000000 in
theorem rencrypt_nokey (key block : ByteArray) (w : World) (h : mayB key = false) :
    Calls Try.prog 14 #[.string key, .string block] w fun e w' => e = .returned (.tuple #[.string ⟨#[]⟩, .int .i64 1]) ∧ w = w' := by
  have HK := Lib.hid (fun w => rmay_is key h w)
  clear h
  go_enter Try.func14, Try.ntmps14
  go_wp2_with (go_at_call 22; refine (HK.out _).mono ?_; rintro e w' ⟨rfl, rfl⟩)
  go_ret2
  exact ⟨rfl, rfl⟩
set_option maxRecDepth 100000 in
set_option maxHeartbeats 1000000 in
theorem rencrypt_noblock (key block : ByteArray) (w : World) (h : mayB key = true) (hb : block.size ≠ 16) :
    Calls Try.prog 14 #[.string key, .string block] w fun e w' => e = .returned (.tuple #[.string ⟨#[]⟩, .int .i64 1]) ∧ w = w' := by
  have HK := Lib.hid (fun w => rmay_is key h w)
  have e16 : ((block.size : Int) != 16) = true := by simp; omega
  clear h hb
  go_enter Try.func14, Try.ntmps14
  go_wp2_with (go_at_call 22; refine (HK.out _).mono ?_; rintro e w' ⟨rfl, rfl⟩)
  go_ret2
  exact ⟨rfl, rfl⟩

set_option maxRecDepth 100000 in
set_option maxHeartbeats 1000000 in
theorem rdecrypt_nokey (key block : ByteArray) (w : World) (h : mayB key = false) :
    Calls Try.prog 16 #[.string key, .string block] w fun e w' => e = .returned (.tuple #[.string ⟨#[]⟩, .int .i64 1]) ∧ w = w' := by
  have HK := Lib.hid (fun w => rmay_is key h w)
  clear h
  go_enter Try.func16, Try.ntmps16
  go_wp2_with (go_at_call 22; refine (HK.out _).mono ?_; rintro e w' ⟨rfl, rfl⟩)
  go_ret2
  exact ⟨rfl, rfl⟩
set_option maxRecDepth 100000 in
set_option maxHeartbeats 1000000 in
theorem rdecrypt_noblock (key block : ByteArray) (w : World) (h : mayB key = true) (hb : block.size ≠ 16) :
    Calls Try.prog 16 #[.string key, .string block] w fun e w' => e = .returned (.tuple #[.string ⟨#[]⟩, .int .i64 1]) ∧ w = w' := by
  have HK := Lib.hid (fun w => rmay_is key h w)
  have e16 : ((block.size : Int) != 16) = true := by simp; omega
  clear h hb
  go_enter Try.func16, Try.ntmps16
  go_wp2_with (go_at_call 22; refine (HK.out _).mono ?_; rintro e w' ⟨rfl, rfl⟩)
  go_ret2
  exact ⟨rfl, rfl⟩

theorem aesE_run (key s : List Nat) : encN (rkN (expB key)) (rndsN key) s (rndsN key) = aesE key s := rfl
theorem expB_rnds {key : ByteArray} (h : mayB key = true) : (expB (natL key)).length = 16 * (rndsN (natL key) + 1) ∧ rndsN (natL key) ≤ 20 := by
  have hs : key.size = 16 ∨ key.size = 32 := by simpa [mayB] using h
  rw [expB_len (natL_key h), rndsN, natL_len]
  omega
theorem ts_row : (nA (zers 256)).size = (nA TS).size := by rw [nA_size, nA_size, ts_len, zers_len]
theorem tb_row : (nA (zers 256)).size = (nA TB).size := by rw [nA_size, nA_size, tb_len, zers_len]
set_option maxRecDepth 100000 in
set_option maxHeartbeats 2000000 in
theorem rencrypt_ok (key block : ByteArray) (w : World) (h : mayB key = true) (hb : block.size = 16) :
    Calls Try.prog 14 #[.string key, .string block] w fun e w' => e = .returned (.tuple #[.string (strN (aesE (natL key) (natL block))), .int .i64 0]) ∧ Below w.heap.size w w' := by
  obtain ⟨i6, hi6, hz6⟩ := info256
  have HM := Lib.hid (fun w => rmay_is key h w)
  have RS := Lib.hid rsubs_any
  have CX := Lib.hid (fun w => rexpanded_any key w h)
  have cr := fun w => rrun_any (expB (natL key)) (natL block) (rndsN (natL key)) w (expB_lt (natL_lt key)) (expB_rnds h).1 (expB_rnds h).2 (natL_blk hb)
  rw [aesE_run, strN_natL] at cr
  have CR := Lib.hid cr
  have hin := ts_in
  have hone := nA_one TS
  have hrow := ts_row
  have e16 : ((block.size : Int) != 16) = false := by rw [hb]; rfl
  generalize strN (aesE (natL key) (natL block)) = OUT at *
  generalize strN (expB (natL key)) = EX at *
  generalize nA TS = RT at *
  clear h hb cr
  go_enter Try.func14, Try.ntmps14
  go_wp2_with fail
  refine (HM.out _).mono ?_
  rintro e w' ⟨rfl, rfl⟩
  go_wp2_with fail
  refine (RS.out _).mono ?_
  rintro e w1 ⟨rfl, h1⟩
  have iT : Is (w1.alloc (.cells RT 63)) w1.heap.size 63 RT := Is.new w1 _ _
  have hB := h1.alloc h1.size (.cells RT 63)
  obtain ⟨W0, hW0⟩ : ∃ W0, W0 = w1.alloc (.cells RT 63) := ⟨_, rfl⟩
  rw [← hW0] at iT hB
  have HW0 := Lib.hid hW0
  clear hW0 h1
  go_wp2_with (first
    | (refine wpList_alloc_nA rfl 63 rfl (zers 256) hi6 hz6 ?_)
    | (refine wpList_store_row rfl 63 _ _ rfl w1.heap.size RT rfl rfl _ _ (heap_alloc_new w1 _) hin hrow hone ?_; rw [World.setRow_alloc_new, ← HW0.out]))
  obtain ⟨Bt, hBt⟩ : ∃ Bt, Bt = w1.heap.size := ⟨_, rfl⟩
  rw [← hBt] at iT ⊢
  clear hBt
  have iTD : Is W0.drew Bt 63 RT := iT
  have hBD : Below w.heap.size w W0.drew := belowN hB 1
  refine wp_region_held_drew (S := fun W => Is W Bt 63 RT) (by kernel_rfl) iTD (fun hS => ?_)
  change wpAnyH _ _ (opsOf Try.f14 4) _ _ 8 (Array.replicate 8 false) _ _
  refine wpAnyH_pure (i := 0) (o := { dst := some 16, op := Op.move (Operand.tmp 0), type := 9, pos := "ref.go:85", after := #[], guard := none }) (v := .string key) (by kernel_rfl) (by kernel_rfl) (by kernel_rfl) (by kernel_rfl) (fun _ _ _ h => h) (by kernel_rfl) (fun w hSw => by kernel_rfl) hS ?_
  simp only [Act.put, List.setIfInBounds_toArray, List.set_cons_succ, List.set_cons_zero]
  refine wpAnyH_pure (i := 1) (o := { dst := some 17, op := Op.load 63 (Operand.tmp 6), type := 63, pos := "ref.go:85", after := #[], guard := none }) (v := .agg RT) (by kernel_rfl) (by kernel_rfl) (by kernel_rfl) (by kernel_rfl) (fun _ _ _ h => h) (by kernel_rfl) (fun w hSw => by exact run_load_rowO rfl rfl hSw Try.underlying63 rfl hin) hS ?_
  simp only [Act.put, List.setIfInBounds_toArray, List.set_cons_succ, List.set_cons_zero]
  refine wpAnyH_pure (i := 3) (o := { dst := some 19, op := Op.move (Operand.tmp 1), type := 9, pos := "ref.go:85", after := #[], guard := none }) (v := .string block) (by kernel_rfl) (by kernel_rfl) (by kernel_rfl) (by kernel_rfl) (fun _ _ _ h => h) (by kernel_rfl) (fun w hSw => by kernel_rfl) hS ?_
  simp only [Act.put, List.setIfInBounds_toArray, List.set_cons_succ, List.set_cons_zero]
  refine wpAnyH_pure (i := 4) (o := { dst := some 20, op := Op.load 63 (Operand.tmp 6), type := 63, pos := "ref.go:85", after := #[], guard := none }) (v := .agg RT) (by kernel_rfl) (by kernel_rfl) (by kernel_rfl) (by kernel_rfl) (fun _ _ _ h => h) (by kernel_rfl) (fun w hSw => by exact run_load_rowO rfl rfl hSw Try.underlying63 rfl hin) hS ?_
  simp only [Act.put, List.setIfInBounds_toArray, List.set_cons_succ, List.set_cons_zero]
  refine wpAnyH_call (i := 2) (o := { dst := some 18, op := Op.call { callee := Callee.value (Operand.func 23), args := #[Operand.tmp 16, Operand.tmp 17], argTypes := #[9, 63] }, type := 9, pos := "ref.go:85", after := #[{ on := 0, ground := Ground.data }, { on := 1, ground := Ground.data }], guard := none }) (by kernel_rfl) (by kernel_rfl) (by kernel_rfl) (fun w => by kernel_rfl) ((CX.out _).mono ?_)
  rintro e v1 ⟨rfl, hb⟩
  have iT1 := iTD.below hb iTD.lt
  have hB1 : Below w.heap.size w v1 := hBD.trans (hb.mono hBD.size)
  clear hb
  refine ⟨_, rfl, iT1, ?_⟩
  try simp only [Act.put, List.setIfInBounds_toArray, List.set_cons_succ, List.set_cons_zero]
  refine wpAnyH_call (i := 5) (o := { dst := some 21, op := Op.call { callee := Callee.value (Operand.func 33), args := #[Operand.tmp 18, Operand.tmp 19, Operand.tmp 20], argTypes := #[9, 9, 63] }, type := 9, pos := "ref.go:85", after := #[{ on := 2, ground := Ground.data }, { on := 3, ground := Ground.data }, { on := 4, ground := Ground.data }, { on := 2, ground := Ground.chain }], guard := none }) (by kernel_rfl) (by kernel_rfl) (by kernel_rfl) (fun w => by kernel_rfl) ((CR.out _).mono ?_)
  rintro e v2 ⟨rfl, hb⟩
  have iT2 := iT1.below hb iT1.lt
  have hB2 : Below w.heap.size w v2 := hB1.trans (hb.mono hB1.size)
  clear hb
  refine ⟨_, rfl, iT2, ?_⟩
  try simp only [Act.put, List.setIfInBounds_toArray, List.set_cons_succ, List.set_cons_zero]
  refine wpAnyH_pure (i := 6) (o := { dst := some 4, op := Op.assign (Operand.tmp 21), type := 9, pos := "ref.go:85", after := #[{ on := 5, ground := Ground.data }, { on := 5, ground := Ground.chain }, { on := 0, ground := Ground.phase }, { on := 1, ground := Ground.phase }, { on := 2, ground := Ground.phase }, { on := 3, ground := Ground.phase }, { on := 4, ground := Ground.phase }, { on := 5, ground := Ground.phase }], guard := none }) (v := .string OUT) (by kernel_rfl) (by kernel_rfl) (by kernel_rfl) (by kernel_rfl) (fun _ _ _ h => h) (by kernel_rfl) (fun w hSw => by go_simp) iT2 ?_
  simp only [Act.put, List.setIfInBounds_toArray, List.set_cons_succ, List.set_cons_zero]
  refine wpAnyH_pure (i := 7) (o := { dst := some 5, op := Op.assign (Operand.const (Value.int IntKind.i64 0)), type := 27, pos := "ref.go:85", after := #[{ on := 6, ground := Ground.chain }, { on := 0, ground := Ground.phase }, { on := 1, ground := Ground.phase }, { on := 2, ground := Ground.phase }, { on := 3, ground := Ground.phase }, { on := 4, ground := Ground.phase }, { on := 5, ground := Ground.phase }, { on := 6, ground := Ground.phase }], guard := none }) (v := .int .i64 0) (by kernel_rfl) (by kernel_rfl) (by kernel_rfl) (by kernel_rfl) (fun _ _ _ h => h) (by kernel_rfl) (fun w hSw => by go_simp) iT2 ?_
  simp only [Act.put, List.setIfInBounds_toArray, List.set_cons_succ, List.set_cons_zero]
  refine wpAnyH_done (by kernel_rfl) ?_ _
  go_wp2
  go_ret2
  exact ⟨rfl, hB2⟩
theorem mix3 (S : List Nat) : mixL (mixL (mixL S)) = unmixL S := rfl
set_option maxRecDepth 100000 in
set_option maxHeartbeats 4000000 in
theorem rdecrypt_ok (key block : ByteArray) (w : World) (h : mayB key = true) (hb : block.size = 16) :
    Calls Try.prog 16 #[.string key, .string block] w fun e w' => e = .returned (.tuple #[.string (strN (aesD (natL key) (natL block))), .int .i64 0]) ∧ Below w.heap.size w w' := by
  obtain ⟨i6, hi6, hz6⟩ := info256
  have HM := Lib.hid (fun w => rmay_is key h w)
  have RS := Lib.hid rsubs_any
  have RK := Lib.hid rbacks_any
  have CX := Lib.hid (fun w => rexpanded_any key w h)
  have hinB := tb_in
  have hone := nA_one TB
  have hrow := tb_row
  have BK := Lib.hid lBack
  have e16 : ((block.size : Int) != 16) = false := by rw [hb]; rfl
  obtain ⟨E, hE⟩ : ∃ E, E = expB (natL key) := ⟨_, rfl⟩
  obtain ⟨R, hR⟩ : ∃ R, R = rndsN (natL key) := ⟨_, rfl⟩
  have hEb : ∀ x ∈ E, x < 256 := by rw [hE]; exact expB_lt (natL_lt key)
  have hl : E.length = 16 * (R + 1) := by rw [hE, hR]; exact (expB_rnds h).1
  have hR20 : R ≤ 20 := by rw [hR]; exact (expB_rnds h).2
  have hD : aesD (natL key) (natL block) = xorB (decN (rkN E) R (natL block) R) (rkN E 0) := by rw [hE, hR]; rfl
  have hS := natL_blk hb
  have hbs : block = strN (natL block) := (strN_natL block).symm
  rw [hD]
  rw [← hE] at CX
  clear hD hE hR h hb
  generalize natL block = S at *
  have HBS := Lib.hid hbs
  clear hbs
  have HK := Lib.hid (fun r (h : r ≤ R) => rkN_blk hEb (r := r) (by omega))
  have HB := Lib.hid (fun i (h : i ≤ R) => decN_blk (K := rkN E) (R := R) HK.out hS i h)
  have hz : ((strN E).size : Int) = 16 * ((R : Int) + 1) := by rw [strN_size, hl]; omega
  have hq1 : (16 * ((R : Int) + 1)).tdiv 16 = (R : Int) + 1 := by rw [Int.tdiv_eq_ediv_of_nonneg (by omega)]; omega
  have hq2 : (16 * ((R : Int) + 1)) / 16 = (R : Int) + 1 := by omega
  have s0 : ∀ wx : World, (Instr.slice 9 (.string (strN E)) none (some (.int .i64 16)) none).run Try.prog wx = .ok (.string (strN (rkN E 0))) wx := fun wx => run_slice_to Try.underlying9 hEb 16 16 rfl (by omega) wx
  have HSL := Lib.hid (fun r (h : r ≤ R) (wx : World) => run_slice_mid (P := Try.prog) (t := 9) Try.underlying9 hEb (16 * r) (16 * r + 16) (16 * (r : Int)) (16 * (r : Int) + 16) (by omega) (by omega) (by omega) (by omega) wx)
  generalize hEE : strN E = EE at *
  generalize nA TS = RT at *
  generalize nA TB = RB at *
  clear hEE hEb hl
  go_enter Try.func16, Try.ntmps16
  go_wp2_with fail
  refine (HM.out _).mono ?_
  rintro e w' ⟨rfl, rfl⟩
  go_wp2_with fail
  refine (RK.out _).mono ?_
  rintro e w1 ⟨rfl, h1⟩
  have iT : Is (w1.alloc (.cells RB 63)) w1.heap.size 63 RB := Is.new w1 _ _
  have hB := h1.alloc h1.size (.cells RB 63)
  obtain ⟨W0, hW0⟩ : ∃ W0, W0 = w1.alloc (.cells RB 63) := ⟨_, rfl⟩
  rw [← hW0] at iT hB
  have HW0 := Lib.hid hW0
  clear hW0 h1
  go_wp2_with (first
    | (refine wpList_alloc_nA rfl 63 rfl (zers 256) hi6 hz6 ?_)
    | (refine wpList_store_row rfl 63 _ _ rfl w1.heap.size RB rfl rfl _ _ (heap_alloc_new w1 _) hinB hrow hone ?_; rw [World.setRow_alloc_new, ← HW0.out]))
  obtain ⟨Bt, hBt⟩ : ∃ Bt, Bt = w1.heap.size := ⟨_, rfl⟩
  rw [← hBt] at iT ⊢
  clear hBt
  refine (RS.out _).mono ?_
  rintro e w2 ⟨rfl, h2⟩
  have iT2 := iT.below h2 iT.lt
  have hB2 : Below w.heap.size w w2 := hB.trans (h2.mono hB.size)
  clear h2 iT hB
  go_wp2_with fail
  refine (CX.out _).mono ?_
  rintro e w3 ⟨rfl, h3⟩
  have iT3 := iT2.below h3 iT2.lt
  have hB3 : Below w.heap.size w w3 := hB2.trans (h3.mono hB2.size)
  clear h3 iT2 hB2
  go_wp2
  go_loopw [9, 10] (fun t i wr => ∃ q : Nat, q ≤ R ∧ i = .int .i64 (q : Int) ∧ t = .string (strN (decN (rkN E) R S (R - q))) ∧ Is wr Bt 63 RB ∧ Below w.heap.size w wr)
    (fun _ i _ => (intOf i).toNat)
  case atStart => exact ⟨R, Nat.le_refl _, rfl, by rw [Nat.sub_self]; exact congrArg Value.string HBS.out, iT3, hB3⟩
  case round =>
    clear iT3 hB3 hz hq1 hq2
    obtain ⟨q, hq1, rfl, rfl, iT, hB⟩ := hrel
    by_cases hlt : 1 ≤ q
    · have hd1 : (1 : Int) ≤ (q : Int) := by omega
      have bV := HB.out (R - q) (by omega)
      have bK := HK.out q hq1
      have hst : decN (rkN E) R S (R - (q - 1)) = undN (rkN E q) (decide (q < R)) (decN (rkN E) R S (R - q)) := by
        rw [show R - (q - 1) = (R - q) + 1 by omega]
        show undN (rkN E (R - (R - q))) (decide (R - (R - q) < R)) _ = _
        rw [show R - (R - q) = q by omega]
      have hsl := fun wx => HSL.out q hq1 wx
      simp only [show 16 * q + 16 - 16 * q = 16 by omega] at hsl
      change ∀ wx, _ = Result.ok (Value.string (strN (rkN E q))) wx at hsl
      generalize decN (rkN E) R S (R - q) = V at *
      generalize rkN E q = KK at *
      have C1 := Lib.hid (fun w => lXor V KK w (by rw [bV.len]; omega) (by rw [bV.len]; omega) (by rw [bV.len, bK.len]) bV.lt bK.lt)
      have bX := bV.xor bK
      have hqm : (q : Int) - 1 = ((q - 1 : Nat) : Int) := by omega
      by_cases hm : q < R
      · have hd2 : (q : Int) < (R : Int) := by omega
        rw [show decide (q < R) = true by simpa using hm] at hst
        change _ = backL (shiftL (unmixL (xorB V KK)) 3) at hst
        rw [← mix3] at hst
        generalize xorB V KK = X at *
        have M1 := Lib.hid (fun w => lMix bX w)
        have M2 := Lib.hid (fun w => lMix bX.mix w)
        have M3 := Lib.hid (fun w => lMix bX.mix.mix w)
        have bY := bX.mix.mix.mix
        have XC := Lib.hid (rfl : strN (mixL (mixL (mixL X))) = strN (mixL (mixL (mixL X))))
        generalize mixL (mixL (mixL X)) = Y at *
        have C2 := Lib.hid (fun w => lSh3 bY w)
        have bZ := bY.shift 3
        have C3 := Lib.hid (fun w => BK.out (shiftL Y 3) w (by rw [bZ.len]; omega) (by rw [bZ.len]; omega) bZ.lt)
        have HST := Lib.hid hst
        clear hst XC
        generalize backL (shiftL Y 3) = Z at *
        generalize shiftL Y 3 = Y3 at *
        generalize hZS : strN Z = ZS at *
        have HZS := Lib.hid hZS
        clear hZS
        generalize strN Y = XS at *
        go_wp2_with fail
        refine (C1.out _).mono ?_
        rintro e v0 ⟨rfl, hb⟩
        replace iT := iT.below hb iT.lt
        replace hB := hB.trans (hb.mono hB.size)
        clear hb
        go_wp2_with fail
        refine (M1.out _).mono ?_
        rintro e v0 ⟨rfl, hb⟩
        replace iT := iT.below hb iT.lt
        replace hB := hB.trans (hb.mono hB.size)
        clear hb
        go_wp2_with fail
        refine (M2.out _).mono ?_
        rintro e v0 ⟨rfl, hb⟩
        replace iT := iT.below hb iT.lt
        replace hB := hB.trans (hb.mono hB.size)
        clear hb
        go_wp2_with fail
        refine (M3.out _).mono ?_
        rintro e v0 ⟨rfl, hb⟩
        replace iT := iT.below hb iT.lt
        replace hB := hB.trans (hb.mono hB.size)
        clear hb
        go_wp2
        have iTD : Is v0.drew Bt 63 RB := iT
        have hBD : Below w.heap.size w v0.drew := belowN hB 1
        refine wp_region_held_drew (S := fun W => Is W Bt 63 RB) (by kernel_rfl) iTD (fun hS => ?_)
        change wpAnyH _ _ (opsOf Try.f16 13) _ _ 5 (Array.replicate 5 false) _ _
        refine wpAnyH_pure (i := 0) (o := { dst := some 49, op := Op.move (Operand.tmp 9), type := 9, pos := "ref.go:117", after := #[], guard := none }) (v := .string XS) (by kernel_rfl) (by kernel_rfl) (by kernel_rfl) (by kernel_rfl) (fun _ _ _ h => h) (by kernel_rfl) (fun w hSw => by kernel_rfl) hS ?_
        simp only [Act.put, List.setIfInBounds_toArray, List.set_cons_succ, List.set_cons_zero]
        refine wpAnyH_pure (i := 2) (o := { dst := some 51, op := Op.load 63 (Operand.tmp 6), type := 63, pos := "ref.go:117", after := #[], guard := none }) (v := .agg RB) (by kernel_rfl) (by kernel_rfl) (by kernel_rfl) (by kernel_rfl) (fun _ _ _ h => h) (by kernel_rfl) (fun w hSw => by exact run_load_rowO rfl rfl hSw Try.underlying63 rfl hinB) hS ?_
        simp only [Act.put, List.setIfInBounds_toArray, List.set_cons_succ, List.set_cons_zero]
        refine wpAnyH_call (i := 1) (o := { dst := some 50, op := Op.call { callee := Callee.value (Operand.func 41), args := #[Operand.tmp 49, Operand.const (Value.int IntKind.i64 3)], argTypes := #[9, 3] }, type := 9, pos := "ref.go:117", after := #[{ on := 0, ground := Ground.data }], guard := none }) (by kernel_rfl) (by kernel_rfl) (by kernel_rfl) (fun w => by kernel_rfl) ((C2.out _).mono ?_)
        rintro e v1 ⟨rfl, hb⟩
        have iT1 := iTD.below hb iTD.lt
        have hB1 : Below w.heap.size w v1 := hBD.trans (hb.mono hBD.size)
        clear hb
        refine ⟨_, rfl, iT1, ?_⟩
        try simp only [Act.put, List.setIfInBounds_toArray, List.set_cons_succ, List.set_cons_zero]
        refine wpAnyH_call (i := 3) (o := { dst := some 52, op := Op.call { callee := Callee.value (Operand.func 40), args := #[Operand.tmp 50, Operand.tmp 51], argTypes := #[9, 63] }, type := 9, pos := "ref.go:117", after := #[{ on := 1, ground := Ground.data }, { on := 2, ground := Ground.data }, { on := 1, ground := Ground.chain }], guard := none }) (by kernel_rfl) (by kernel_rfl) (by kernel_rfl) (fun w => by kernel_rfl) ((C3.out _).mono ?_)
        rintro e v2 ⟨rfl, hb⟩
        have iT2 := iT1.below hb iT1.lt
        have hB2 : Below w.heap.size w v2 := hB1.trans (hb.mono hB1.size)
        clear hb
        refine ⟨_, rfl, iT2, ?_⟩
        try simp only [Act.put, List.setIfInBounds_toArray, List.set_cons_succ, List.set_cons_zero]
        refine wpAnyH_pure (i := 4) (o := { dst := some 9, op := Op.assign (Operand.tmp 52), type := 9, pos := "ref.go:117", after := #[{ on := 3, ground := Ground.data }, { on := 3, ground := Ground.chain }, { on := 0, ground := Ground.phase }, { on := 1, ground := Ground.phase }, { on := 2, ground := Ground.phase }, { on := 3, ground := Ground.phase }], guard := none }) (v := .string ZS) (by kernel_rfl) (by kernel_rfl) (by kernel_rfl) (by kernel_rfl) (fun _ _ _ h => h) (by kernel_rfl) (fun w hSw => by go_simp) iT2 ?_
        simp only [Act.put, List.setIfInBounds_toArray, List.set_cons_succ, List.set_cons_zero]
        refine wpAnyH_done (by kernel_rfl) ?_ _
        go_wp2
        go_roundw
        case rel => exact ⟨q - 1, by omega, by first | rfl | rw [hqm], by rw [HST.out, HZS.out], iT2, hB2⟩
        case measure => simp [intOf]; omega
      · have hd2 : ¬ (q : Int) < (R : Int) := by omega
        rw [show decide (q < R) = false by simpa using hm] at hst
        change _ = backL (shiftL (xorB V KK) 3) at hst
        generalize xorB V KK = X at *
        have C2 := Lib.hid (fun w => lSh3 bX w)
        have bZ := bX.shift 3
        have C3 := Lib.hid (fun w => BK.out (shiftL X 3) w (by rw [bZ.len]; omega) (by rw [bZ.len]; omega) bZ.lt)
        have HST := Lib.hid hst
        clear hst
        generalize backL (shiftL X 3) = Z at *
        generalize shiftL X 3 = Y3 at *
        generalize hZS : strN Z = ZS at *
        have HZS := Lib.hid hZS
        clear hZS
        generalize strN X = XS at *
        go_wp2_with fail
        refine (C1.out _).mono ?_
        rintro e v0 ⟨rfl, hb⟩
        replace iT := iT.below hb iT.lt
        replace hB := hB.trans (hb.mono hB.size)
        clear hb
        go_wp2
        have iTD : Is v0.drew Bt 63 RB := iT
        have hBD : Below w.heap.size w v0.drew := belowN hB 1
        refine wp_region_held_drew (S := fun W => Is W Bt 63 RB) (by kernel_rfl) iTD (fun hS => ?_)
        change wpAnyH _ _ (opsOf Try.f16 13) _ _ 5 (Array.replicate 5 false) _ _
        refine wpAnyH_pure (i := 0) (o := { dst := some 49, op := Op.move (Operand.tmp 9), type := 9, pos := "ref.go:117", after := #[], guard := none }) (v := .string XS) (by kernel_rfl) (by kernel_rfl) (by kernel_rfl) (by kernel_rfl) (fun _ _ _ h => h) (by kernel_rfl) (fun w hSw => by kernel_rfl) hS ?_
        simp only [Act.put, List.setIfInBounds_toArray, List.set_cons_succ, List.set_cons_zero]
        refine wpAnyH_pure (i := 2) (o := { dst := some 51, op := Op.load 63 (Operand.tmp 6), type := 63, pos := "ref.go:117", after := #[], guard := none }) (v := .agg RB) (by kernel_rfl) (by kernel_rfl) (by kernel_rfl) (by kernel_rfl) (fun _ _ _ h => h) (by kernel_rfl) (fun w hSw => by exact run_load_rowO rfl rfl hSw Try.underlying63 rfl hinB) hS ?_
        simp only [Act.put, List.setIfInBounds_toArray, List.set_cons_succ, List.set_cons_zero]
        refine wpAnyH_call (i := 1) (o := { dst := some 50, op := Op.call { callee := Callee.value (Operand.func 41), args := #[Operand.tmp 49, Operand.const (Value.int IntKind.i64 3)], argTypes := #[9, 3] }, type := 9, pos := "ref.go:117", after := #[{ on := 0, ground := Ground.data }], guard := none }) (by kernel_rfl) (by kernel_rfl) (by kernel_rfl) (fun w => by kernel_rfl) ((C2.out _).mono ?_)
        rintro e v1 ⟨rfl, hb⟩
        have iT1 := iTD.below hb iTD.lt
        have hB1 : Below w.heap.size w v1 := hBD.trans (hb.mono hBD.size)
        clear hb
        refine ⟨_, rfl, iT1, ?_⟩
        try simp only [Act.put, List.setIfInBounds_toArray, List.set_cons_succ, List.set_cons_zero]
        refine wpAnyH_call (i := 3) (o := { dst := some 52, op := Op.call { callee := Callee.value (Operand.func 40), args := #[Operand.tmp 50, Operand.tmp 51], argTypes := #[9, 63] }, type := 9, pos := "ref.go:117", after := #[{ on := 1, ground := Ground.data }, { on := 2, ground := Ground.data }, { on := 1, ground := Ground.chain }], guard := none }) (by kernel_rfl) (by kernel_rfl) (by kernel_rfl) (fun w => by kernel_rfl) ((C3.out _).mono ?_)
        rintro e v2 ⟨rfl, hb⟩
        have iT2 := iT1.below hb iT1.lt
        have hB2 : Below w.heap.size w v2 := hB1.trans (hb.mono hB1.size)
        clear hb
        refine ⟨_, rfl, iT2, ?_⟩
        try simp only [Act.put, List.setIfInBounds_toArray, List.set_cons_succ, List.set_cons_zero]
        refine wpAnyH_pure (i := 4) (o := { dst := some 9, op := Op.assign (Operand.tmp 52), type := 9, pos := "ref.go:117", after := #[{ on := 3, ground := Ground.data }, { on := 3, ground := Ground.chain }, { on := 0, ground := Ground.phase }, { on := 1, ground := Ground.phase }, { on := 2, ground := Ground.phase }, { on := 3, ground := Ground.phase }], guard := none }) (v := .string ZS) (by kernel_rfl) (by kernel_rfl) (by kernel_rfl) (by kernel_rfl) (fun _ _ _ h => h) (by kernel_rfl) (fun w hSw => by go_simp) iT2 ?_
        simp only [Act.put, List.setIfInBounds_toArray, List.set_cons_succ, List.set_cons_zero]
        refine wpAnyH_done (by kernel_rfl) ?_ _
        go_wp2
        go_roundw
        case rel => exact ⟨q - 1, by omega, by first | rfl | rw [hqm], by rw [HST.out, HZS.out], iT2, hB2⟩
        case measure => simp [intOf]; omega
    · obtain rfl : q = 0 := by omega
      rw [Nat.sub_zero]
      have bV := HB.out R (Nat.le_refl _)
      have bK := HK.out 0 (by omega)
      generalize hV : decN (rkN E) R S R = V at *
      generalize hKK : rkN E 0 = KK at *
      have HV := Lib.hid hV
      have HKK := Lib.hid hKK
      clear hV hKK
      have C1 := Lib.hid (fun w => lXor V KK w (by rw [bV.len]; omega) (by rw [bV.len]; omega) (by rw [bV.len, bK.len]) bV.lt bK.lt)
      generalize hO : strN (xorB V KK) = OUT at *
      have HO := Lib.hid hO
      clear hO
      go_wp2_with fail
      refine (C1.out _).mono ?_
      rintro e v0 ⟨rfl, hb⟩
      go_wp2
      go_ret2
      exact ⟨by rw [HV.out, HKK.out, HO.out]; rfl, hB.trans (hb.mono hB.size)⟩
theorem rencrypt_any (key block : ByteArray) (w : World) :
    Calls Try.prog 14 #[.string key, .string block] w fun e w' => e = .returned (.tuple #[.string (encV key block), .int .i64 (errV (may2 key block))]) ∧ Below w.heap.size w w' := by
  cases h : mayB key with
  | true =>
    by_cases hb : block.size = 16
    · simpa [encV, errV, may2, h, hb] using rencrypt_ok key block w h hb
    · simpa [encV, errV, may2, h, hb] using (rencrypt_noblock key block w h hb).mono fun e w' ⟨h1, h2⟩ => (⟨h1, h2 ▸ Below.refl _ _⟩ : _ ∧ Below w.heap.size w w')
  | false => simpa [encV, errV, may2, h] using (rencrypt_nokey key block w h).mono fun e w' ⟨h1, h2⟩ => (⟨h1, h2 ▸ Below.refl _ _⟩ : _ ∧ Below w.heap.size w w')
theorem rdecrypt_any (key block : ByteArray) (w : World) :
    Calls Try.prog 16 #[.string key, .string block] w fun e w' => e = .returned (.tuple #[.string (decV key block), .int .i64 (errV (may2 key block))]) ∧ Below w.heap.size w w' := by
  cases h : mayB key with
  | true =>
    by_cases hb : block.size = 16
    · simpa [decV, errV, may2, h, hb] using rdecrypt_ok key block w h hb
    · simpa [decV, errV, may2, h, hb] using (rdecrypt_noblock key block w h hb).mono fun e w' ⟨h1, h2⟩ => (⟨h1, h2 ▸ Below.refl _ _⟩ : _ ∧ Below w.heap.size w w')
  | false => simpa [decV, errV, may2, h] using (rdecrypt_nokey key block w h).mono fun e w' ⟨h1, h2⟩ => (⟨h1, h2 ▸ Below.refl _ _⟩ : _ ∧ Below w.heap.size w w')
end Go.Proofs.Ytjfeloimlgfocaa
