/-
  Layer 6, plain: the two keys, what a box is made of.
  The two keys that are made of one; all on which a box hangs.
  What hides a text, and a hidden text's tag: the two methods of all on which a box hangs.
  Contracts of Keys, Seal and Open.
  Boxes, plain: what stands ahead of the last sixteen bytes, and these; sealed and opened.
-/
import Derived.Test.YtfgdcpolfekgjaaGreatGGMac
import Derived.Test.YtfgdcpolfekgjaaGreatGSea
import Derived.Test.YtfgdcpolfekgjaaGreatGKit
import Derived.Test.YtfgdcpolfekgjaaGreatGAe3
import Derived.Lib.MinMax
namespace Go.Proofs.YtfgdcpolfekgjaaGreat
open Go.RowKit Go.Shelf
variable [Tabs]

def strmB : ByteArray := ⟨#[115, 116, 114, 101, 97, 109]⟩
def tagN : ByteArray := ⟨#[116, 97, 103]⟩
/-- the two keys that are made of one. -/
def skB (key : ByteArray) : ByteArray := drv (keyL key) strmB 32
def tkB (key : ByteArray) : ByteArray := drv (keyL key) tagN 32
/-- what a text is encrypted to; its tag; its box. -/
def hidB (key n x : ByteArray) : ByteArray := xorT (skB key) n x
def tagF (tk n w c : ByteArray) : ByteArray := (tagB (keyL tk) (frB n w c)).extract 0 16
def tgB (key n w c : ByteArray) : ByteArray := tagF (tkB key) n w c
def boxB (key n w x : ByteArray) : ByteArray := hidB key n x ++ tgB key n w (hidB key n x)
theorem drv6_size (X : List Int) (name : ByteArray) (N : Nat) : (drv X name N).size = N := by
  rw [drv, str_size, List.length_take, flatL_length, prts_length]; omega
end Go.Proofs.YtfgdcpolfekgjaaGreat
namespace Go.Proofs.YtfgdcpolfekgjaaGreat
open Go.RowKit Go.Shelf
variable [Tabs]

omit [Tabs] in
theorem keySz (b : Bool) (n m : Nat) (h : decide (n = m) = b) : ((n : Int) == (m : Int)) = b := by
  cases b
  · have := of_decide_eq_false h
    simp; omega
  · have := of_decide_eq_true h
    subst this; simp
omit [Tabs] in
theorem slr_info (a b c d : ByteArray) : (Tryz.prog.info? 180).map (·.size) = some (#[Value.string a, .string b, .string c, .string d] : Array Value).size := by kernel_rfl
omit [Tabs] in
theorem slr_one (a b c d : ByteArray) : (#[Value.string a, .string b, .string c, .string d] : Array Value).all (·.oneCell') = true := by simp [Value.oneCell']

set_option maxRecDepth 100000 in
set_option maxHeartbeats 1000000 in
theorem ofKey_ok (key : ByteArray) (w : World) (hT : Tab w) (hk : key.size = 32) :
    Calls Tryz.prog 145 #[.string key] w fun e w' => e = .returned (.agg #[.string (skB key), .string (tkB key), .string ⟨#[]⟩, .string ⟨#[]⟩]) ∧ Below w.heap.size w w' := by
  have hq : ((key.size : Int) == 32) = true := keySz true _ 32 (by simp [hk])
  have h1 : ∀ w, Tab w → Calls Tryz.prog 125 #[.string key, .string ⟨#[115, 116, 114, 101, 97, 109]⟩, .int .i64 32] w fun e w' => e = .returned (.tuple #[.string (skB key), .int .i64 0]) ∧ Below w.heap.size w w' := fun w hT => derive_ok key strmB 32 w hT (by omega) (by decide) (by decide)
  have h2 : ∀ w, Tab w → Calls Tryz.prog 125 #[.string key, .string ⟨#[116, 97, 103]⟩, .int .i64 32] w fun e w' => e = .returned (.tuple #[.string (tkB key), .int .i64 0]) ∧ Below w.heap.size w w' := fun w hT => derive_ok key tagN 32 w hT (by omega) (by decide) (by decide)
  generalize skB key = sk at *
  generalize tkB key = tk at *
  have H1 := Lib.hid h1
  have H2 := Lib.hid h2
  clear h1 h2 hk
  go_enter Tryz.func145, Tryz.ntmps145
  go_wp2_with fail
  refine (must_yes 1 _).mono ?_
  rintro e w1 ⟨rfl, rfl⟩
  have hB0 : Below w.heap.size w (w.alloc (.cells #[.string ⟨#[]⟩, .string ⟨#[]⟩, .string ⟨#[]⟩, .string ⟨#[]⟩] 180)) := (Below.refl _ _).alloc (Nat.le_refl _) _
  have hI0 : Is (w.alloc (.cells #[.string ⟨#[]⟩, .string ⟨#[]⟩, .string ⟨#[]⟩, .string ⟨#[]⟩] 180)) w.heap.size 180 #[.string ⟨#[]⟩, .string ⟨#[]⟩, .string ⟨#[]⟩, .string ⟨#[]⟩] := Is.new w _ _
  have hlt0 : w.heap.size < (w.alloc (.cells #[.string ⟨#[]⟩, .string ⟨#[]⟩, .string ⟨#[]⟩, .string ⟨#[]⟩] 180)).heap.size := by simp
  go_wp2_with fail
  refine (H1.out _ (hT.below hB0 hT.two)).mono ?_
  rintro e w2 ⟨rfl, hb2⟩
  have hB2 := hB0.trans (hb2.mono hB0.size)
  have hI2 := hI0.below hb2 hlt0
  have hlt2 : w.heap.size < w2.heap.size := hI2.lt
  clear hb2 hI0 hlt0 hB0
  go_wp2_with fail
  refine (sound_ok sk _).mono ?_
  rintro e w3 ⟨rfl, rfl⟩
  go_wp2_with fail
  refine (H2.out _ (hT.below hB2 hT.two)).mono ?_
  rintro e w3 ⟨rfl, hb3⟩
  have hB3 := hB2.trans (hb3.mono hB2.size)
  have hI3 := hI2.below hb3 hlt2
  clear hb3 hI2 hB2 hlt2
  go_wp2_with fail
  refine (sound_ok tk _).mono ?_
  rintro e w4 ⟨rfl, rfl⟩
  go_wp2_with (refine wpList_store_row rfl 180 _ _ rfl w.heap.size #[.string sk, .string tk, .string ⟨#[]⟩, .string ⟨#[]⟩] rfl rfl _ _ hI3 (slr_info _ _ _ _) rfl (slr_one _ _ _ _) ?_)
  exact bodyPost_ret (results_cell_row Tryz.results145 _ _ w.heap.size 180 _ (0, 0) _ rfl (hI3.row _) Tryz.underlying180 rfl (slr_info _ _ _ _)) rfl ⟨rfl, belowRow hB3 (Nat.le_refl _) _⟩

set_option maxRecDepth 100000 in
set_option maxHeartbeats 1000000 in
theorem ofAll_ok (key n wi : ByteArray) (w : World) (hT : Tab w) (hk : key.size = 32) (hn : n.size = 16) (hw : wi.size ≤ 4096) :
    Calls Tryz.prog 131 #[.string key, .string n, .string wi] w fun e w' => e = .returned (.agg #[.string (skB key), .string (tkB key), .string n, .string wi]) ∧ Below w.heap.size w w' := by
  have hq : ((n.size : Int) == 16) = true := keySz true _ 16 (by simp [hn])
  have hle : (wi.size : Int) ≤ 4096 := by omega
  have h1 := fun w hT => ofKey_ok key w hT hk
  generalize skB key = sk at *
  generalize tkB key = tk at *
  have H1 := Lib.hid h1
  clear h1 hk hn hw
  go_enter Tryz.func131, Tryz.ntmps131
  go_wp2_with fail
  refine (must_yes 1 _).mono ?_
  rintro e w1 ⟨rfl, rfl⟩
  have hB0 : Below w.heap.size w (w.alloc (.cells #[.string ⟨#[]⟩, .string ⟨#[]⟩, .string ⟨#[]⟩, .string ⟨#[]⟩] 180)) := (Below.refl _ _).alloc (Nat.le_refl _) _
  have hI0 : Is (w.alloc (.cells #[.string ⟨#[]⟩, .string ⟨#[]⟩, .string ⟨#[]⟩, .string ⟨#[]⟩] 180)) w.heap.size 180 #[.string ⟨#[]⟩, .string ⟨#[]⟩, .string ⟨#[]⟩, .string ⟨#[]⟩] := Is.new w _ _
  have hlt0 : w.heap.size < (w.alloc (.cells #[.string ⟨#[]⟩, .string ⟨#[]⟩, .string ⟨#[]⟩, .string ⟨#[]⟩] 180)).heap.size := by simp
  go_wp2_with fail
  refine (H1.out _ (hT.below hB0 hT.two)).mono ?_
  rintro e w2 ⟨rfl, hb2⟩
  have hB2 := hB0.trans (hb2.mono hB0.size)
  have hI2 := hI0.below hb2 hlt0
  have hlt2 : w.heap.size < w2.heap.size := hI2.lt
  clear hb2 hI0 hlt0 hB0
  have hA := hI2.alloc (.cells #[Value.string sk, .string tk, .string n, .string wi] 180)
  have hBA := hB2.alloc hB2.size (.cells #[Value.string sk, .string tk, .string n, .string wi] 180)
  go_wp2_with (refine wpList_store_row rfl 180 _ _ rfl w.heap.size #[.string sk, .string tk, .string n, .string wi] rfl rfl _ _ hA (slr_info _ _ _ _) rfl (slr_one _ _ _ _) ?_)
  exact bodyPost_ret (results_cell_row Tryz.results131 _ _ w.heap.size 180 _ (0, 0) _ rfl (hA.row _) Tryz.underlying180 rfl (slr_info _ _ _ _)) rfl ⟨rfl, belowRow hBA (Nat.le_refl _) _⟩

end Go.Proofs.YtfgdcpolfekgjaaGreat
namespace Go.Proofs.YtfgdcpolfekgjaaGreat
open Go.RowKit Go.Shelf
variable [Tabs]

set_option maxRecDepth 100000 in
set_option maxHeartbeats 1000000 in
omit [Tabs] in
theorem shide_any (sk tk n wi x : ByteArray) (w : World) (hk : mayB sk = true) (hn : n.size = 16) (hx : x.size ≤ 65536) :
    Calls Tryz.prog 133 #[.agg #[.string sk, .string tk, .string n, .string wi], .string x] w fun e w' => e = .returned (.string (xorT sk n x)) ∧ Below w.heap.size w w' := by
  have hB0 : Below w.heap.size w (w.alloc (.cells #[.string sk, .string tk, .string n, .string wi] 180)) := (Below.refl _ _).alloc (Nat.le_refl _) _
  have h1 := fun w => xor_fine sk n x w hk hn hx
  generalize xorT sk n x = y at *
  have H1 := Lib.hid h1
  clear h1
  go_enter Tryz.func133, Tryz.ntmps133
  go_wp2_with fail
  refine (H1.out _).mono ?_
  rintro e w2 ⟨rfl, hb2⟩
  go_wp2_with fail
  refine (sound_ok y _).mono ?_
  rintro e w3 ⟨rfl, rfl⟩
  go_wp2
  go_ret
  exact ⟨rfl, hB0.trans (hb2.mono hB0.size)⟩

set_option maxRecDepth 100000 in
set_option maxHeartbeats 1000000 in
theorem stag_any (sk tk n wi c : ByteArray) (w : World) (hT : Tab w) (hk : tk.size ≤ 1000) (hn : n.size ≤ 65552) (hw : wi.size ≤ 65552) (hc : c.size ≤ 65552) :
    Calls Tryz.prog 134 #[.agg #[.string sk, .string tk, .string n, .string wi], .string c] w fun e w' => e = .returned (.string (tagF tk n wi c)) ∧ Below w.heap.size w w' := by
  have hB0 : Below w.heap.size w (w.alloc (.cells #[.string sk, .string tk, .string n, .string wi] 180)) := (Below.refl _ _).alloc (Nat.le_refl _) _
  have hI0 : Is (w.alloc (.cells #[.string sk, .string tk, .string n, .string wi] 180)) w.heap.size 180 #[.string sk, .string tk, .string n, .string wi] := Is.new w _ _
  have hF := frB_size n wi c
  have hM := tagB_size (keyL tk) (frB n wi c)
  generalize hFe : frB n wi c = F at *
  generalize hMe : tagB (keyL tk) F = M at *
  have hR : tagF tk n wi c = M.extract 0 16 := by rw [tagF, hFe, hMe]
  rw [hR]
  have HFE := Lib.hid hFe
  have HME := Lib.hid hMe
  have HF := Lib.hid hF
  have HM := Lib.hid hM
  clear hF hM hR hFe hMe
  go_enter Tryz.func134, Tryz.ntmps134
  go_wp2
  have hI1 : Is ((w.alloc (.cells #[.string sk, .string tk, .string n, .string wi] 180)).alloc (.cells #[.string n, .string wi, .string c] 9)).drew w.heap.size 180 #[.string sk, .string tk, .string n, .string wi] := (hI0.alloc _)
  have hB1 : Below w.heap.size w ((w.alloc (.cells #[.string sk, .string tk, .string n, .string wi] 180)).alloc (.cells #[.string n, .string wi, .string c] 9)).drew := belowD (hB0.alloc hB0.size _)
  have hI2 : Is ((w.alloc (.cells #[.string sk, .string tk, .string n, .string wi] 180)).alloc (.cells #[.string n, .string wi, .string c] 9)).drew (w.heap.size + 1) 9 #[.string n, .string wi, .string c] := by
    have h := Is.new (w.alloc (.cells #[.string sk, .string tk, .string n, .string wi] 180)) 9 #[.string n, .string wi, .string c]
    rw [show (w.alloc (.cells #[.string sk, .string tk, .string n, .string wi] 180)).heap.size = w.heap.size + 1 by simp] at h
    exact h
  have hlt1 : w.heap.size < ((w.alloc (.cells #[.string sk, .string tk, .string n, .string wi] 180)).alloc (.cells #[.string n, .string wi, .string c] 9)).drew.heap.size := hI1.lt
  have hsl : ∀ wx : World, (Instr.slice 9 (.string M) none (some (.int .i64 16)) none).run Tryz.prog wx = .ok (.string (M.extract 0 16)) wx := fun wx =>
    run_slice_string_h (P := Tryz.prog) (w := wx) (t := 9) (s := M) Tryz.underlying9 .i64 16 (by omega) (by rw [HM.out]; decide)
  have HSL := Lib.hid hsl
  clear hsl
  refine wp_region_held_drew (S := fun W => Is W w.heap.size 180 #[.string sk, .string tk, .string n, .string wi] ∧ Below w.heap.size w W) (by kernel_rfl) ⟨hI0, belowD hB0⟩ (fun hS => ?_)
  change wpAnyH _ _ (opsOf Tryz.f134 1) _ _ 15 (Array.replicate 15 false) _ _
  refine wpAnyH_pure (i := 0) (v := .pointer (some ⟨w.heap.size, 1, none⟩)) (at_nth rfl) (by kernel_rfl) (by kernel_rfl) (by kernel_rfl) (fun _ _ _ h => h) (by kernel_rfl) (fun w hSw => by go_simp) hS ?_
  simp only [Act.put, List.setIfInBounds_toArray, List.set_cons_succ, List.set_cons_zero]
  refine wpAnyH_pure (i := 1) (v := .string tk) (at_nth rfl) (by kernel_rfl) (by kernel_rfl) (by kernel_rfl) (fun _ _ _ h => h) (by kernel_rfl) (fun w hSw => by (have hc := hSw.1.cell 1; simp only [List.getElem?_toArray, List.getElem?_cons_succ, List.getElem?_cons_zero] at hc; go_simp)) hS ?_
  simp only [Act.put, List.setIfInBounds_toArray, List.set_cons_succ, List.set_cons_zero]
  refine wpAnyH_pure (i := 2) (v := .pointer (some ⟨w.heap.size, 2, none⟩)) (at_nth rfl) (by kernel_rfl) (by kernel_rfl) (by kernel_rfl) (fun _ _ _ h => h) (by kernel_rfl) (fun w hSw => by go_simp) hS ?_
  simp only [Act.put, List.setIfInBounds_toArray, List.set_cons_succ, List.set_cons_zero]
  refine wpAnyH_pure (i := 3) (v := .string n) (at_nth rfl) (by kernel_rfl) (by kernel_rfl) (by kernel_rfl) (fun _ _ _ h => h) (by kernel_rfl) (fun w hSw => by (have hc := hSw.1.cell 2; simp only [List.getElem?_toArray, List.getElem?_cons_succ, List.getElem?_cons_zero] at hc; go_simp)) hS ?_
  simp only [Act.put, List.setIfInBounds_toArray, List.set_cons_succ, List.set_cons_zero]
  refine wpAnyH_pure (i := 4) (v := .pointer (some ⟨w.heap.size, 3, none⟩)) (at_nth rfl) (by kernel_rfl) (by kernel_rfl) (by kernel_rfl) (fun _ _ _ h => h) (by kernel_rfl) (fun w hSw => by go_simp) hS ?_
  simp only [Act.put, List.setIfInBounds_toArray, List.set_cons_succ, List.set_cons_zero]
  refine wpAnyH_pure (i := 5) (v := .string wi) (at_nth rfl) (by kernel_rfl) (by kernel_rfl) (by kernel_rfl) (fun _ _ _ h => h) (by kernel_rfl) (fun w hSw => by (have hc := hSw.1.cell 3; simp only [List.getElem?_toArray, List.getElem?_cons_succ, List.getElem?_cons_zero] at hc; go_simp)) hS ?_
  simp only [Act.put, List.setIfInBounds_toArray, List.set_cons_succ, List.set_cons_zero]
  refine wpAnyH_pure (i := 6) (v := .string c) (at_nth rfl) (by kernel_rfl) (by kernel_rfl) (by kernel_rfl) (fun _ _ _ h => h) (by kernel_rfl) (fun w hSw => by kernel_rfl) hS ?_
  simp only [Act.put, List.setIfInBounds_toArray, List.set_cons_succ, List.set_cons_zero]
  refine wpAnyH_step (i := 7) (by kernel_rfl) (at_nth rfl) (by kernel_rfl) (fun Kc hKc => ?_)
  go_simp
  refine hKc.out _ _ ⟨hI1, hB1⟩ (fun _ => ?_)
  clear hKc Kc
  try simp only [Act.put, List.setIfInBounds_toArray, List.set_cons_succ, List.set_cons_zero]
  refine wpAnyH_call (i := 8) (by kernel_rfl) (at_nth rfl) (by kernel_rfl) (fun w => by kernel_rfl) ((frames_any n wi c (w.heap.size + 1) _ hI2 hn hw hc).mono ?_)
  rintro e w2 ⟨he, hb2⟩
  rw [HFE.out] at he
  subst he
  have hB2 := hB1.trans (hb2.mono hB1.size)
  have hI3 := hI1.below hb2 hlt1
  refine ⟨_, rfl, ⟨hI3, hB2⟩, ?_⟩
  try simp only [Act.put, List.setIfInBounds_toArray, List.set_cons_succ, List.set_cons_zero]
  refine wpAnyH_call (i := 9) (by kernel_rfl) (at_nth rfl) (by kernel_rfl) (fun w => by kernel_rfl) ((mac_ok tk F _ (hT.below hB2 hT.two) hk (by rw [HF.out]; omega)).mono ?_)
  rintro e w3 ⟨he, hb3⟩
  rw [HME.out] at he
  subst he
  have hlt3 := hI3.lt
  have hB3 := hB2.trans (hb3.mono hB2.size)
  have hI4 := hI3.below hb3 hlt3
  refine ⟨_, rfl, ⟨hI4, hB3⟩, ?_⟩
  try simp only [Act.put, List.setIfInBounds_toArray, List.set_cons_succ, List.set_cons_zero]
  refine wpAnyH_pure (i := 10) (v := .string M) (at_nth rfl) (by kernel_rfl) (by kernel_rfl) (by kernel_rfl) (fun _ _ _ h => h) (by kernel_rfl) (fun w hSw => by kernel_rfl) ⟨hI4, hB3⟩ ?_
  simp only [Act.put, List.setIfInBounds_toArray, List.set_cons_succ, List.set_cons_zero]
  refine wpAnyH_pure (i := 11) (v := .int .i64 0) (at_nth rfl) (by kernel_rfl) (by kernel_rfl) (by kernel_rfl) (fun _ _ _ h => h) (by kernel_rfl) (fun w hSw => by kernel_rfl) ⟨hI4, hB3⟩ ?_
  simp only [Act.put, List.setIfInBounds_toArray, List.set_cons_succ, List.set_cons_zero]
  refine wpAnyH_call (i := 12) (by kernel_rfl) (at_nth rfl) (by kernel_rfl) (fun w => by kernel_rfl) ((sound_ok M _).mono ?_)
  rintro e w4 ⟨rfl, rfl⟩
  refine ⟨_, rfl, ⟨hI4, hB3⟩, ?_⟩
  try simp only [Act.put, List.setIfInBounds_toArray, List.set_cons_succ, List.set_cons_zero]
  refine wpAnyH_pure (i := 13) (v := .string (M.extract 0 16)) (at_nth rfl) (by kernel_rfl) (by kernel_rfl) (by kernel_rfl) (fun _ _ _ h => h) (by kernel_rfl) (fun w hSw => by (have hsl := HSL.out; go_simp)) ⟨hI4, hB3⟩ ?_
  simp only [Act.put, List.setIfInBounds_toArray, List.set_cons_succ, List.set_cons_zero]
  refine wpAnyH_pure (i := 14) (v := .string (M.extract 0 16)) (at_nth rfl) (by kernel_rfl) (by kernel_rfl) (by kernel_rfl) (fun _ _ _ h => h) (by kernel_rfl) (fun w hSw => by kernel_rfl) ⟨hI4, hB3⟩ ?_
  simp only [Act.put, List.setIfInBounds_toArray, List.set_cons_succ, List.set_cons_zero]
  refine wpAnyH_done (by kernel_rfl) ?_ _
  go_wp2
  go_ret
  exact ⟨rfl, hB3⟩
end Go.Proofs.YtfgdcpolfekgjaaGreat
namespace Go.Proofs.YtfgdcpolfekgjaaGreat
open Go.RowKit Go.Shelf
variable [Tabs]

omit [Tabs] in
theorem mkf (fn : Fn) (first cap : Array Value) (w : World) : (Instr.makeFunc fn first cap).run Tryz.prog w = .ok (.func fn first cap) w := rfl
theorem skB_size (key : ByteArray) : (skB key).size = 32 := drv6_size _ _ _
theorem tkB_size (key : ByteArray) : (tkB key).size = 32 := drv6_size _ _ _
theorem skB_may (key : ByteArray) : mayB (skB key) = true := by rw [mayB, skB_size]; rfl
theorem tagF_size (tk n w c : ByteArray) : (tagF tk n w c).size = 16 := by rw [tagF, ByteArray.size_extract, tagB_size]; rfl
theorem hidB_size (key n x : ByteArray) : (hidB key n x).size = x.size := xorT_size _ _ _

set_option maxRecDepth 100000 in
set_option maxHeartbeats 1000000 in
theorem shut_ok (key n wi x : ByteArray) (w : World) (hT : Tab w) (hk : key.size = 32) (hn : n.size = 16) (hw : wi.size ≤ 4096) (hx : x.size ≤ 65536) :
    Calls Tryz.prog 122 #[.string key, .string n, .string wi, .string x] w fun e w' => e = .returned (.tuple #[.string (boxB key n wi x), .int .i64 0]) ∧ Below w.heap.size w w' := by
  have hmf := mkf
  have hB0 : Below w.heap.size w (w.alloc (.cells #[.int .i64 0] 35)) := (Below.refl _ _).alloc (Nat.le_refl _) _
  have hI0 : Is (w.alloc (.cells #[.int .i64 0] 35)) w.heap.size 35 #[.int .i64 0] := Is.new w _ _
  have hlt0 := hI0.lt
  have h1 := fun w hT => ofAll_ok key n wi w hT hk hn hw
  have h2 := fun w => shide_any (skB key) (tkB key) n wi x w (skB_may key) hn hx
  have h3 := fun w hT => stag_any (skB key) (tkB key) n wi (hidB key n x) w hT (by rw [tkB_size]; omega) (by omega) (by omega) (by rw [hidB_size]; omega)
  have hbox : boxB key n wi x = hidB key n x ++ tagF (tkB key) n wi (hidB key n x) := rfl
  rw [show xorT (skB key) n x = hidB key n x from rfl] at h2
  have hys := hidB_size key n x
  have hts := tagF_size (tkB key) n wi (hidB key n x)
  rw [hbox]
  generalize tagF (tkB key) n wi (hidB key n x) = t at *
  generalize hidB key n x = y at *
  generalize skB key = sk at *
  generalize tkB key = tk at *
  have H1 := Lib.hid h1
  have H2 := Lib.hid h2
  have H3 := Lib.hid h3
  have d1 : (x.size : Int) ≤ 65536 := by omega
  have d2 : ¬ (9223372036854775807 < y.size + t.size) := by omega
  clear h1 h2 h3 hk hys hts hbox
  go_enter_defers Tryz.func122, Tryz.ntmps122
  go_wp2_with fail
  refine (H1.out _ (hT.below hB0 hT.two)).mono ?_
  rintro e w1 ⟨rfl, hb1⟩
  have hB1 := hB0.trans (hb1.mono hB0.size)
  have hI1 := hI0.below hb1 hlt0
  clear hb1 hI0 hB0 hlt0
  go_wp2_with fail
  refine (must_yes 2 _).mono ?_
  rintro e w2 ⟨rfl, rfl⟩
  have hIA := hI1.alloc (.cells #[Value.string sk, .string tk, .string n, .string wi] 180)
  have hIS : Is (w1.alloc (.cells #[Value.string sk, .string tk, .string n, .string wi] 180)) w1.heap.size 180 #[Value.string sk, .string tk, .string n, .string wi] := Is.new w1 _ _
  have hBA := hB1.alloc hB1.size (.cells #[Value.string sk, .string tk, .string n, .string wi] 180)
  have hlts := hI1.lt
  generalize w1.heap.size = gs at *
  generalize w1.alloc (.cells #[Value.string sk, .string tk, .string n, .string wi] 180) = w2 at *
  go_wp2_with (refine wpList_load_row rfl 180 _ rfl gs rfl _ _ _ _ hIS Tryz.underlying180 rfl (slr_info _ _ _ _) ?_)
  refine (H2.out _).mono ?_
  rintro e w3 ⟨rfl, hb3⟩
  have hB3 := hBA.trans (hb3.mono hBA.size)
  have hI3 := hIA.below hb3 hIA.lt
  have hS3 := hIS.below hb3 hIS.lt
  clear hb3
  go_wp2_with (refine wpList_load_row rfl 180 _ rfl gs rfl _ _ _ _ hS3 Tryz.underlying180 rfl (slr_info _ _ _ _) ?_)
  refine (H3.out _ (hT.below hB3 hT.two)).mono ?_
  rintro e w4 ⟨rfl, hb4⟩
  have hB4 := hB3.trans (hb4.mono hB3.size)
  have hI4 := hI3.below hb4 hI3.lt
  clear hb4
  have hc := hI4.cell 0
  have hz := hI4.frozen 0
  simp only [List.getElem?_toArray, List.getElem?_cons_zero] at hc
  go_wp2
  have hI2 := hI4.set 0 (.int .i64 0)
  have hB2 := hB4.setCell (p := ⟨w.heap.size, 0, none⟩) (Nat.le_refl _) (.int .i64 0)
  generalize w4.setCell ⟨w.heap.size, 0, none⟩ (.int .i64 0) = W1 at *
  refine leaves_cons (f := 129) (args := #[.pointer (some ⟨w.heap.size, 0, none⟩)]) (by simp) (by simp [go_sem]) ?_
  refine (shut_idle ⟨w.heap.size, 0, none⟩ (.int .i64 0) _ (hI2.cell 0) (hI2.frozen 0)).mono ?_
  rintro e u' w'' ⟨rfl, rfl, rfl⟩
  have hI9 := hI2.set 0 (.int .i64 0)
  have hB9 := hB2.setCell (p := ⟨w.heap.size, 0, none⟩) (Nat.le_refl _) (.int .i64 0)
  generalize W1.setCell ⟨w.heap.size, 0, none⟩ (.int .i64 0) = W2 at *
  have hc3 : W2.cell? ⟨w.heap.size, 0, none⟩ = some (.int .i64 0) := hI9.cell 0
  simp [Leaves, settle, results, Tryz.results122, go_sem, hc3]
  exact hB9

/-- what stands ahead of the last sixteen bytes of a box; these. -/
def hdB (b : ByteArray) : ByteArray := b.extract 0 (b.size - 16)
def tlB (b : ByteArray) : ByteArray := b.extract (b.size - 16) b.size
omit [Tabs] in
theorem hdB_size (b : ByteArray) : (hdB b).size = b.size - 16 := by rw [hdB, ByteArray.size_extract]; omega
omit [Tabs] in
theorem tlB_size (b : ByteArray) (h : 16 ≤ b.size) : (tlB b).size = 16 := by rw [tlB, ByteArray.size_extract]; omega

set_option maxRecDepth 100000 in
set_option maxHeartbeats 1000000 in
theorem opn_long (key n wi b : ByteArray) (w : World) (hT : Tab w) (hk : key.size = 32) (hn : n.size = 16) (hw : wi.size ≤ 4096) (hb : 16 ≤ b.size) (hb2 : b.size ≤ 65552) :
    Calls Tryz.prog 128 #[.string key, .string n, .string wi, .string b] w fun e w' => e = .returned (if tlB b = tgB key n wi (hdB b) then .tuple #[.string (hidB key n (hdB b)), .int .i64 0] else .tuple #[.string ⟨#[]⟩, .int .i64 11]) ∧ Below w.heap.size w w' := by
  have hmf := mkf
  have hB0 : Below w.heap.size w (w.alloc (.cells #[.int .i64 0] 35)) := (Below.refl _ _).alloc (Nat.le_refl _) _
  have hI0 : Is (w.alloc (.cells #[.int .i64 0] 35)) w.heap.size 35 #[.int .i64 0] := Is.new w _ _
  have hlt0 := hI0.lt
  have h1 := fun w hT => ofAll_ok key n wi w hT hk hn hw
  have h2 := fun w => shide_any (skB key) (tkB key) n wi (hdB b) w (skB_may key) hn (by rw [hdB_size]; omega)
  have h3 := fun w hT => stag_any (skB key) (tkB key) n wi (hdB b) w hT (by rw [tkB_size]; omega) (by omega) (by omega) (by rw [hdB_size]; omega)
  rw [show xorT (skB key) n (hdB b) = hidB key n (hdB b) from rfl] at h2
  rw [show tagF (tkB key) n wi (hdB b) = tgB key n wi (hdB b) from rfl] at h3
  have hys := hidB_size key n (hdB b)
  have hts : (tgB key n wi (hdB b)).size = 16 := tagF_size (tkB key) n wi (hdB b)
  have hls := tlB_size b hb
  have h4 := fun w => msame_yes (tlB b) (tgB key n wi (hdB b)) w (by rw [hls, hts]) (by rw [hls]; decide)
  have hif : (if tlB b = tgB key n wi (hdB b) then Value.tuple #[.string (hidB key n (hdB b)), .int .i64 0] else .tuple #[.string ⟨#[]⟩, .int .i64 11]) = if eqB (tlB b) (tgB key n wi (hdB b)) = true then .tuple #[.string (hidB key n (hdB b)), .int .i64 0] else .tuple #[.string ⟨#[]⟩, .int .i64 11] := by
    by_cases he : tlB b = tgB key n wi (hdB b)
    · rw [if_pos he, if_pos (by rw [he]; exact eqB_true _)]
    · rw [if_neg he, if_neg (by rw [eqB_false (by rw [hls, hts]) he]; decide)]
  rw [hif]
  have hs1 : ∀ wx : World, (Instr.slice 9 (.string b) none (some (.int .i64 ((b.size : Int) - 16))) none).run Tryz.prog wx = .ok (.string (hdB b)) wx := fun wx => by
    have := run_slice_string_h (P := Tryz.prog) (w := wx) (t := 9) (s := b) Tryz.underlying9 .i64 ((b.size : Int) - 16) (by omega) (by omega)
    rwa [show ((b.size : Int) - 16).toNat = b.size - 16 by omega] at this
  have hs2 : ∀ wx : World, (Instr.slice 9 (.string b) (some (.int .i64 ((b.size : Int) - 16))) none none).run Tryz.prog wx = .ok (.string (tlB b)) wx := fun wx => by
    have := run_slice_string_l (P := Tryz.prog) (w := wx) (t := 9) (s := b) Tryz.underlying9 .i64 ((b.size : Int) - 16) (by omega) (by omega)
    rwa [show ((b.size : Int) - 16).toNat = b.size - 16 by omega] at this
  have hwr : IntKind.i64.wrap ((b.size : Int) - 16) = (b.size : Int) - 16 := IntWalk.i64_in _ (by omega)
  generalize tgB key n wi (hdB b) = t at *
  generalize hidB key n (hdB b) = y at *
  generalize hdB b = hd at *
  generalize tlB b = tl at *
  generalize skB key = sk at *
  generalize tkB key = tk at *
  have H1 := Lib.hid h1
  have H2 := Lib.hid h2
  have H3 := Lib.hid h3
  have H4 := Lib.hid h4
  have d1 : (16 : Int) ≤ (b.size : Int) := by omega
  have d2 : (b.size : Int) ≤ 65552 := by omega
  clear h1 h2 h3 h4 hk hys hts hif hls
  go_enter_defers Tryz.func128, Tryz.ntmps128
  go_wp2_with fail
  refine (H1.out _ (hT.below hB0 hT.two)).mono ?_
  rintro e w1 ⟨rfl, hb1⟩
  have hB1 := hB0.trans (hb1.mono hB0.size)
  have hI1 := hI0.below hb1 hlt0
  clear hb1 hI0 hB0 hlt0
  go_wp2_with fail
  refine (must_yes 10 _).mono ?_
  rintro e w2 ⟨rfl, rfl⟩
  have hIA := hI1.alloc (.cells #[Value.string sk, .string tk, .string n, .string wi] 180)
  have hIS : Is (w1.alloc (.cells #[Value.string sk, .string tk, .string n, .string wi] 180)) w1.heap.size 180 #[Value.string sk, .string tk, .string n, .string wi] := Is.new w1 _ _
  have hBA := hB1.alloc hB1.size (.cells #[Value.string sk, .string tk, .string n, .string wi] 180)
  have hlts := hI1.lt
  generalize w1.heap.size = gs at *
  generalize w1.alloc (.cells #[Value.string sk, .string tk, .string n, .string wi] 180) = w2 at *
  go_wp2_with fail
  refine (must_yes 2 _).mono ?_
  rintro e w3 ⟨rfl, rfl⟩
  go_wp2
  go_region
  replace hBA := belowD hBA
  replace hIA : Is w2.drew w.heap.size 35 #[.int .i64 0] := hIA
  replace hIS : Is w2.drew gs 180 #[Value.string sk, .string tk, .string n, .string wi] := hIS
  generalize w2.drew = w6 at *
  go_wp2_with (refine wpList_load_row rfl 180 _ rfl gs rfl _ _ _ _ hIS Tryz.underlying180 rfl (slr_info _ _ _ _) ?_)
  refine (H3.out _ (hT.below hBA hT.two)).mono ?_
  rintro e w3 ⟨rfl, hb3⟩
  have hB3 := hBA.trans (hb3.mono hBA.size)
  have hI3 := hIA.below hb3 hIA.lt
  have hS3 := hIS.below hb3 hIS.lt
  clear hb3 hBA hIA hIS
  go_wp2_with fail
  refine (H4.out _).mono ?_
  rintro e w4 ⟨rfl, hb4⟩
  have hB4 := hB3.trans (hb4.mono hB3.size)
  have hI4 := hI3.below hb4 hI3.lt
  have hS4 := hS3.below hb4 hS3.lt
  clear hb4 hB3 hI3 hS3
  cases hq : eqB tl t with
  | true =>
    go_wp2_with fail
    refine (must_yes 11 _).mono ?_
    rintro e w5 ⟨rfl, rfl⟩
    go_wp2_with (refine wpList_load_row rfl 180 _ rfl gs rfl _ _ _ _ hS4 Tryz.underlying180 rfl (slr_info _ _ _ _) ?_)
    refine (H2.out _).mono ?_
    rintro e w5 ⟨rfl, hb5⟩
    have hB5 := hB4.trans (hb5.mono hB4.size)
    have hI5 := hI4.below hb5 hI4.lt
    clear hb5 hB4 hI4 hS4
    have hc := hI5.cell 0
    have hz := hI5.frozen 0
    simp only [List.getElem?_toArray, List.getElem?_cons_zero] at hc
    go_wp2
    have hI2 := hI5.set 0 (.int .i64 0)
    have hB2 := hB5.setCell (p := ⟨w.heap.size, 0, none⟩) (Nat.le_refl _) (.int .i64 0)
    generalize w5.setCell ⟨w.heap.size, 0, none⟩ (.int .i64 0) = W1 at *
    refine leaves_cons (f := 143) (args := #[.pointer (some ⟨w.heap.size, 0, none⟩)]) (by simp) (by simp [go_sem]) ?_
    refine (opn_idle ⟨w.heap.size, 0, none⟩ (.int .i64 0) _ (hI2.cell 0) (hI2.frozen 0)).mono ?_
    rintro e u' w'' ⟨rfl, rfl, rfl⟩
    have hI9 := hI2.set 0 (.int .i64 0)
    have hB9 := hB2.setCell (p := ⟨w.heap.size, 0, none⟩) (Nat.le_refl _) (.int .i64 0)
    generalize W1.setCell ⟨w.heap.size, 0, none⟩ (.int .i64 0) = W2 at *
    have hc3 : W2.cell? ⟨w.heap.size, 0, none⟩ = some (.int .i64 0) := hI9.cell 0
    simp [Leaves, settle, results, Tryz.results128, go_sem, hc3]
    exact hB9
  | false =>
    go_wp2_with fail
    refine (must_no 11 _).mono ?_
    rintro e w5 ⟨rfl, rfl⟩
    have hI2 := hI4
    have hB2 := hB4
    refine leaves_cons (f := 143) (args := #[.pointer (some ⟨w.heap.size, 0, none⟩)]) (by simp) (by simp [go_sem]) ?_
    refine (opn_caught 11 ⟨w.heap.size, 0, none⟩ (.int .i64 0) [] _ (hI2.cell 0) (hI2.frozen 0) hI2.lt).mono ?_
    rintro e u' w'' ⟨rfl, rfl, w5, hb5, rfl⟩
    have hI9 := (hI2.below hb5 hI2.lt).set 0 (.int .i64 11)
    have hB9 := (hB2.trans (hb5.mono hB2.size)).setCell (p := ⟨w.heap.size, 0, none⟩) (Nat.le_refl _) (.int .i64 11)
    generalize w5.setCell ⟨w.heap.size, 0, none⟩ (.int .i64 11) = W2 at *
    have hc3 : W2.cell? ⟨w.heap.size, 0, none⟩ = some (.int .i64 11) := hI9.cell 0
    simp [Leaves, settle, results, Tryz.results128, go_sem, hc3]
    exact ⟨hq, hB9⟩

end Go.Proofs.YtfgdcpolfekgjaaGreat
namespace Go.Proofs.YtfgdcpolfekgjaaGreat
open Go.RowKit Go.Shelf
variable [Tabs]

omit [Tabs] in
theorem natL_app (a b : ByteArray) : natL (a ++ b) = natL a ++ natL b := by simp [natL]
omit [Tabs] in
theorem hd_app (h t : ByteArray) (ht : t.size = 16) : hdB (h ++ t) = h := natL_inj (by
  rw [hdB, natL_extract, natL_app, List.drop_zero, ByteArray.size_append, ht, show h.size + 16 - 16 - 0 = h.size by omega, List.take_left' (natL_len h)])
omit [Tabs] in
theorem tl_app (h t : ByteArray) (ht : t.size = 16) : tlB (h ++ t) = t := natL_inj (by
  rw [tlB, natL_extract, natL_app, ByteArray.size_append, ht, show h.size + 16 - 16 = h.size by omega, List.drop_left' (natL_len h), List.take_of_length_le (by rw [natL_len, ht]; omega)])
section
variable (key n wi x : ByteArray)
theorem tgB_size (c : ByteArray) : (tgB key n wi c).size = 16 := tagF_size _ _ _ _
theorem box_hd : hdB (boxB key n wi x) = hidB key n x := hd_app _ _ (tgB_size _ _ _ _)
theorem box_tl : tlB (boxB key n wi x) = tgB key n wi (hidB key n x) := tl_app _ _ (tgB_size _ _ _ _)
theorem box_size : (boxB key n wi x).size = x.size + 16 := by rw [boxB, ByteArray.size_append, hidB_size, tgB_size]
theorem hid_back : hidB key n (hidB key n x) = x := xorT_back (skB_may key) x
variable (w : World) (hT : Tab w) (hk : key.size = 32) (hn : n.size = 16) (hw : wi.size ≤ 4096)
include hT hk hn hw
end
end Go.Proofs.YtfgdcpolfekgjaaGreat

