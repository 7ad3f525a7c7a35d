/-
  Layer 6, plain: frames of texts.
  Layer 6, plain: the two keys, what a box is made of.
  What is wrong goes up by a panic: must, sound, errorOf, and the deferred functions of the three calls.
  The two keys that are made of one; all on which a box hangs.
  Frames: a contract of the program's own.
  What hides a text, and a hidden text's tag: the two methods of all on which a box hangs.
  Contracts of Keys, Seal and Open.
  What awake asks, reckoned: the two keys of one key, two tags.
  Contracts of the statements' own helpers of layer 6: awake answers true, pick the remainder.
  Boxes, plain: what stands ahead of the last sixteen bytes, and these; sealed and opened.
-/
import Derived.Test.YtancchoelmdaiaaGreatDoorGStr
import Derived.Test.YtancchoelmdaiaaGreatDoorGMac
import Derived.Test.YtancchoelmdaiaaGreatDoorGKit
import Derived.Test.YtancchoelmdaiaaGreatDoorGAe3
import Derived.Lib.AppendStr
import Derived.Test.YtancchoelmdaiaaGreatDoorProg
import Derived.Defers
import Derived.Recover
import Derived.WalkSmall
import Derived.Lib.MinMax
namespace Go.Proofs.YtancchoelmdaiaaGreatDoor
open Go.RowKit Go.Shelf

/-- a number as four bytes, the highest one first. -/
def be4 (n : Nat) : List Nat := [n / 16777216 % 256, n / 65536 % 256, n / 256 % 256, n % 256]
def frL (s : ByteArray) : List Nat := be4 s.size ++ natL s
def frsL (l : List ByteArray) : List Nat := l.flatMap frL
theorem frL_len (s : ByteArray) : (frL s).length = 4 + s.size := by rw [frL, List.length_append, natL_len]; rfl
theorem frsL_take (l : List ByteArray) (k : Nat) (h : k < l.length) : frsL (l.take (k + 1)) = frsL (l.take k) ++ frL (l.getD k ⟨#[]⟩) := by
  rw [List.take_succ_eq_append_getElem h, frsL, List.flatMap_append, List.flatMap_cons, List.flatMap_nil, List.append_nil, List.getD_eq_getElem?_getD, List.getElem?_eq_getElem h]
  rfl
theorem nL_app (a b : List Nat) : nL (a ++ b) = nL a ++ nL b := by simp [nL]
theorem nL_str (s : ByteArray) : nL (natL s) = Lib.strCells s := by
  rw [nL, natL, Lib.strCells, List.map_map]
  rfl
/-- the frames of three texts, one behind the other. -/
def frB (n w c : ByteArray) : ByteArray := strN (frsL [n, w, c])
theorem frB_size (n w c : ByteArray) : (frB n w c).size = 12 + n.size + w.size + c.size := by
  rw [frB, strN_size, frsL, List.flatMap_cons, List.flatMap_cons, List.flatMap_cons, List.flatMap_nil]
  simp only [List.length_append, frL_len, List.length_nil]
  omega
end Go.Proofs.YtancchoelmdaiaaGreatDoor
namespace Go.Proofs.YtancchoelmdaiaaGreatDoor
open Go.RowKit Go.Shelf

def strmB : ByteArray := ⟨#[115, 116, 114, 101, 97, 109]⟩
def tagN : ByteArray := ⟨#[116, 97, 103]⟩
/-- the two keys that are made of one. -/
def skB (key : ByteArray) : ByteArray := drv (keyL key) strmB 32
def tkB (key : ByteArray) : ByteArray := drv (keyL key) tagN 32
/-- what a text is encrypted to; its tag; its box. -/
def hidB (key n x : ByteArray) : ByteArray := xorT (skB key) n x
def tagF (tk n w c : ByteArray) : ByteArray := (tagB (keyL tk) (frB n w c)).extract 0 16
def tgB (key n w c : ByteArray) : ByteArray := tagF (tkB key) n w c
def boxB (key n w x : ByteArray) : ByteArray := hidB key n x ++ tgB key n w (hidB key n x)
theorem drv6_size (X : List Int) (name : ByteArray) (N : Nat) : (drv X name N).size = N := by
  rw [drv, str_size, List.length_take, flatL_length, prts_length]; omega
abbrev exKeyM : ByteArray := ⟨#[11, 11, 11, 11, 11, 11, 11, 11, 11, 11, 11, 11, 11, 11, 11, 11, 11, 11, 11, 11]⟩
abbrev exText : ByteArray := ⟨#[72, 105, 32, 84, 104, 101, 114, 101]⟩
end Go.Proofs.YtancchoelmdaiaaGreatDoor
namespace Go.Proofs.YtancchoelmdaiaaGreatDoor
open Go.RowKit

/-- what is wrong, as it goes up. -/
def flt (x : Int) : PanicEntry := { v := .iface 44 (.agg #[.int .i64 x]), recovered := false }

set_option maxHeartbeats 1000000 in
theorem must_yes (x : Int) (w : World) :
    Calls Tryz.prog 17 #[.bool true, .int .i64 x] w fun e w' => e = .returned (.tuple #[]) ∧ w = w' := by
  go_enter Tryz.func17, Tryz.ntmps17
  go_wp2
  go_end0
  exact ⟨rfl, rfl⟩
set_option maxHeartbeats 1000000 in
theorem must_no (x : Int) (w : World) :
    Calls Tryz.prog 17 #[.bool false, .int .i64 x] w fun e w' => e = .panicked [flt x] ∧ w = w' := by
  go_enter Tryz.func17, Tryz.ntmps17
  go_wp2
  exact ⟨rfl, rfl, rfl⟩
set_option maxHeartbeats 1000000 in
theorem sound_ok (s : ByteArray) (w : World) :
    Calls Tryz.prog 24 #[.string s, .int .i64 0] w fun e w' => e = .returned (.string s) ∧ w = w' := by
  go_enter Tryz.func24, Tryz.ntmps24
  go_wp2_with fail
  refine (must_yes 0 _).mono ?_
  rintro e w' ⟨rfl, rfl⟩
  go_wp2
  go_ret
  exact ⟨rfl, rfl⟩
theorem assert_fault (v : Value) (W : World) : (Instr.typeAssert (.iface 44 v) 20 44 true).run Tryz.prog W = .ok (.tuple #[v, .bool true]) W := by kernel_rfl
theorem eql_iface_nil (t : TypeId) (v : Value) (W : World) : (binOp .eql 20 (.iface t v) .nilIface).run Tryz.prog W = .ok (.bool false) W := by kernel_rfl
set_option maxHeartbeats 1000000 in
theorem errorOf_nil (w : World) :
    Calls Tryz.prog 15 #[.nilIface] w fun e w' => e = .returned (.int .i64 0) ∧ w = w' := by
  go_enter Tryz.func15, Tryz.ntmps15
  go_wp2
  go_ret
  exact ⟨rfl, rfl⟩
set_option maxRecDepth 100000 in
set_option maxHeartbeats 1000000 in
theorem errorOf_fault (x : Int) (w : World) :
    Calls Tryz.prog 15 #[.iface 44 (.agg #[.int .i64 x])] w fun e w' => e = .returned (.int .i64 x) ∧ Below w.heap.size w w' := by
  have ha := assert_fault
  have he := eql_iface_nil
  go_enter Tryz.func15, Tryz.ntmps15
  go_wp2
  go_ret
  exact ⟨rfl, (Below.refl _ _).alloc (Nat.le_refl _) _⟩

set_option maxRecDepth 100000 in
set_option maxHeartbeats 1000000 in
theorem shut_idle (p : Addr) (u : Value) (w : World) (hc : w.cell? p = some u) (hz : w.frozen? p = false) :
    CallsD Tryz.prog 14 #[.pointer (some p)] .returning w fun e u' w' => e = .returned (.tuple #[]) ∧ u' = .returning ∧ w' = w.setCell p (.int .i64 0) := by
  refine callsD_of_wpS Tryz.func14 rfl fun c₀ cs hu => ?_
  apply wpS_region
  simp [wpOpsS, go_sem, recoverD, hu, Tryz.ntmps14]
  refine (errorOf_nil _).mono ?_
  rintro e w' ⟨rfl, rfl⟩
  cases c₀
  simp_all [go_sem, bodyPostS, results, Tryz.results14]
set_option maxRecDepth 100000 in
set_option maxHeartbeats 1000000 in
theorem shut_caught (x : Int) (p : Addr) (u : Value) (older : List PanicEntry) (w : World) (hc : w.cell? p = some u) (hz : w.frozen? p = false) (hp : p.block < w.heap.size) :
    CallsD Tryz.prog 14 #[.pointer (some p)] (.panicking (flt x :: older)) w fun e u' w' =>
      e = .returned (.tuple #[]) ∧ u' = .panicking ({ flt x with recovered := true } :: older) ∧ ∃ w1, Below w.heap.size w w1 ∧ w' = w1.setCell p (.int .i64 x) := by
  refine callsD_of_wpS Tryz.func14 rfl fun c₀ cs hu => ?_
  apply wpS_region
  simp [wpOpsS, go_sem, recoverD, hu, Tryz.ntmps14, flt]
  refine (errorOf_fault x _).mono ?_
  rintro e w' ⟨rfl, hB⟩
  have hc' : w'.cell? p = some u := (hB.cell hp).trans hc
  have hz' : w'.frozen? p = false := (hB.frozen hp).trans hz
  simp [go_sem, hc', hz', bodyPostS, results, Tryz.results14]
  exact ⟨w', hB, rfl⟩

set_option maxRecDepth 100000 in
set_option maxHeartbeats 1000000 in
theorem opn_idle (p : Addr) (u : Value) (w : World) (hc : w.cell? p = some u) (hz : w.frozen? p = false) :
    CallsD Tryz.prog 20 #[.pointer (some p)] .returning w fun e u' w' => e = .returned (.tuple #[]) ∧ u' = .returning ∧ w' = w.setCell p (.int .i64 0) := by
  refine callsD_of_wpS Tryz.func20 rfl fun c₀ cs hu => ?_
  apply wpS_region
  simp [wpOpsS, go_sem, recoverD, hu, Tryz.ntmps20]
  refine (errorOf_nil _).mono ?_
  rintro e w' ⟨rfl, rfl⟩
  cases c₀
  simp_all [go_sem, bodyPostS, results, Tryz.results20]
set_option maxRecDepth 100000 in
set_option maxHeartbeats 1000000 in
theorem opn_caught (x : Int) (p : Addr) (u : Value) (older : List PanicEntry) (w : World) (hc : w.cell? p = some u) (hz : w.frozen? p = false) (hp : p.block < w.heap.size) :
    CallsD Tryz.prog 20 #[.pointer (some p)] (.panicking (flt x :: older)) w fun e u' w' =>
      e = .returned (.tuple #[]) ∧ u' = .panicking ({ flt x with recovered := true } :: older) ∧ ∃ w1, Below w.heap.size w w1 ∧ w' = w1.setCell p (.int .i64 x) := by
  refine callsD_of_wpS Tryz.func20 rfl fun c₀ cs hu => ?_
  apply wpS_region
  simp [wpOpsS, go_sem, recoverD, hu, Tryz.ntmps20, flt]
  refine (errorOf_fault x _).mono ?_
  rintro e w' ⟨rfl, hB⟩
  have hc' : w'.cell? p = some u := (hB.cell hp).trans hc
  have hz' : w'.frozen? p = false := (hB.frozen hp).trans hz
  simp [go_sem, hc', hz', bodyPostS, results, Tryz.results20]
  exact ⟨w', hB, rfl⟩

set_option maxRecDepth 100000 in
set_option maxHeartbeats 1000000 in
theorem kys_idle (p : Addr) (u : Value) (w : World) (hc : w.cell? p = some u) (hz : w.frozen? p = false) :
    CallsD Tryz.prog 22 #[.pointer (some p)] .returning w fun e u' w' => e = .returned (.tuple #[]) ∧ u' = .returning ∧ w' = w.setCell p (.int .i64 0) := by
  refine callsD_of_wpS Tryz.func22 rfl fun c₀ cs hu => ?_
  apply wpS_region
  simp [wpOpsS, go_sem, recoverD, hu, Tryz.ntmps22]
  refine (errorOf_nil _).mono ?_
  rintro e w' ⟨rfl, rfl⟩
  cases c₀
  simp_all [go_sem, bodyPostS, results, Tryz.results22]
set_option maxRecDepth 100000 in
set_option maxHeartbeats 1000000 in
theorem kys_caught (x : Int) (p : Addr) (u : Value) (older : List PanicEntry) (w : World) (hc : w.cell? p = some u) (hz : w.frozen? p = false) (hp : p.block < w.heap.size) :
    CallsD Tryz.prog 22 #[.pointer (some p)] (.panicking (flt x :: older)) w fun e u' w' =>
      e = .returned (.tuple #[]) ∧ u' = .panicking ({ flt x with recovered := true } :: older) ∧ ∃ w1, Below w.heap.size w w1 ∧ w' = w1.setCell p (.int .i64 x) := by
  refine callsD_of_wpS Tryz.func22 rfl fun c₀ cs hu => ?_
  apply wpS_region
  simp [wpOpsS, go_sem, recoverD, hu, Tryz.ntmps22, flt]
  refine (errorOf_fault x _).mono ?_
  rintro e w' ⟨rfl, hB⟩
  have hc' : w'.cell? p = some u := (hB.cell hp).trans hc
  have hz' : w'.frozen? p = false := (hB.frozen hp).trans hz
  simp [go_sem, hc', hz', bodyPostS, results, Tryz.results22]
  exact ⟨w', hB, rfl⟩
end Go.Proofs.YtancchoelmdaiaaGreatDoor
namespace Go.Proofs.YtancchoelmdaiaaGreatDoor
open Go.RowKit Go.Shelf

theorem keySz (b : Bool) (n m : Nat) (h : decide (n = m) = b) : ((n : Int) == (m : Int)) = b := by
  cases b
  · have := of_decide_eq_false h
    simp; omega
  · have := of_decide_eq_true h
    subst this; simp
theorem slr_info (a b c d : ByteArray) : (Tryz.prog.info? 37).map (·.size) = some (#[Value.string a, .string b, .string c, .string d] : Array Value).size := by kernel_rfl
theorem slr_one (a b c d : ByteArray) : (#[Value.string a, .string b, .string c, .string d] : Array Value).all (·.oneCell') = true := by simp [Value.oneCell']

set_option maxRecDepth 100000 in
set_option maxHeartbeats 1000000 in
theorem ofKey_ok (key : ByteArray) (w : World) (hT : Tab w) (hk : key.size = 32) :
    Calls Tryz.prog 23 #[.string key] w fun e w' => e = .returned (.agg #[.string (skB key), .string (tkB key), .string ⟨#[]⟩, .string ⟨#[]⟩]) ∧ Below w.heap.size w w' := by
  have hq : ((key.size : Int) == 32) = true := keySz true _ 32 (by simp [hk])
  have h1 : ∀ w, Tab w → Calls Tryz.prog 30 #[.string key, .string ⟨#[115, 116, 114, 101, 97, 109]⟩, .int .i64 32] w fun e w' => e = .returned (.tuple #[.string (skB key), .int .i64 0]) ∧ Below w.heap.size w w' := fun w hT => derive_ok key strmB 32 w hT (by omega) (by decide) (by decide)
  have h2 : ∀ w, Tab w → Calls Tryz.prog 30 #[.string key, .string ⟨#[116, 97, 103]⟩, .int .i64 32] w fun e w' => e = .returned (.tuple #[.string (tkB key), .int .i64 0]) ∧ Below w.heap.size w w' := fun w hT => derive_ok key tagN 32 w hT (by omega) (by decide) (by decide)
  generalize skB key = sk at *
  generalize tkB key = tk at *
  have H1 := Lib.hid h1
  have H2 := Lib.hid h2
  clear h1 h2 hk
  go_enter Tryz.func23, Tryz.ntmps23
  go_wp2_with fail
  refine (must_yes 1 _).mono ?_
  rintro e w1 ⟨rfl, rfl⟩
  have hB0 : Below w.heap.size w (w.alloc (.cells #[.string ⟨#[]⟩, .string ⟨#[]⟩, .string ⟨#[]⟩, .string ⟨#[]⟩] 37)) := (Below.refl _ _).alloc (Nat.le_refl _) _
  have hI0 : Is (w.alloc (.cells #[.string ⟨#[]⟩, .string ⟨#[]⟩, .string ⟨#[]⟩, .string ⟨#[]⟩] 37)) w.heap.size 37 #[.string ⟨#[]⟩, .string ⟨#[]⟩, .string ⟨#[]⟩, .string ⟨#[]⟩] := Is.new w _ _
  have hlt0 : w.heap.size < (w.alloc (.cells #[.string ⟨#[]⟩, .string ⟨#[]⟩, .string ⟨#[]⟩, .string ⟨#[]⟩] 37)).heap.size := by simp
  go_wp2_with fail
  refine (H1.out _ (hT.below hB0 hT.two)).mono ?_
  rintro e w2 ⟨rfl, hb2⟩
  have hB2 := hB0.trans (hb2.mono hB0.size)
  have hI2 := hI0.below hb2 hlt0
  have hlt2 : w.heap.size < w2.heap.size := hI2.lt
  clear hb2 hI0 hlt0 hB0
  go_wp2_with fail
  refine (sound_ok sk _).mono ?_
  rintro e w3 ⟨rfl, rfl⟩
  go_wp2_with fail
  refine (H2.out _ (hT.below hB2 hT.two)).mono ?_
  rintro e w3 ⟨rfl, hb3⟩
  have hB3 := hB2.trans (hb3.mono hB2.size)
  have hI3 := hI2.below hb3 hlt2
  clear hb3 hI2 hB2 hlt2
  go_wp2_with fail
  refine (sound_ok tk _).mono ?_
  rintro e w4 ⟨rfl, rfl⟩
  go_wp2_with (refine wpList_store_row rfl 37 _ _ rfl w.heap.size #[.string sk, .string tk, .string ⟨#[]⟩, .string ⟨#[]⟩] rfl rfl _ _ hI3 (slr_info _ _ _ _) rfl (slr_one _ _ _ _) ?_)
  exact bodyPost_ret (results_cell_row Tryz.results23 _ _ w.heap.size 37 _ (0, 0) _ rfl (hI3.row _) Tryz.underlying37 rfl (slr_info _ _ _ _)) rfl ⟨rfl, belowRow hB3 (Nat.le_refl _) _⟩

set_option maxRecDepth 100000 in
set_option maxHeartbeats 1000000 in
theorem ofKey_no (key : ByteArray) (w : World) (hk : key.size ≠ 32) :
    Calls Tryz.prog 23 #[.string key] w fun e w' => e = .panicked [flt 1] ∧ Below w.heap.size w w' := by
  have hq : ((key.size : Int) == 32) = false := keySz false _ 32 (by simp [hk])
  have hB0 : Below w.heap.size w (w.alloc (.cells #[.string ⟨#[]⟩, .string ⟨#[]⟩, .string ⟨#[]⟩, .string ⟨#[]⟩] 37)) := (Below.refl _ _).alloc (Nat.le_refl _) _
  go_enter Tryz.func23, Tryz.ntmps23
  go_wp2_with fail
  refine (must_no 1 _).mono ?_
  rintro e w1 ⟨rfl, rfl⟩
  exact ⟨rfl, rfl, hB0⟩

set_option maxRecDepth 100000 in
set_option maxHeartbeats 1000000 in
theorem ofAll_ok (key n wi : ByteArray) (w : World) (hT : Tab w) (hk : key.size = 32) (hn : n.size = 16) (hw : wi.size ≤ 4096) :
    Calls Tryz.prog 16 #[.string key, .string n, .string wi] w fun e w' => e = .returned (.agg #[.string (skB key), .string (tkB key), .string n, .string wi]) ∧ Below w.heap.size w w' := by
  have hq : ((n.size : Int) == 16) = true := keySz true _ 16 (by simp [hn])
  have hle : (wi.size : Int) ≤ 4096 := by omega
  have h1 := fun w hT => ofKey_ok key w hT hk
  generalize skB key = sk at *
  generalize tkB key = tk at *
  have H1 := Lib.hid h1
  clear h1 hk hn hw
  go_enter Tryz.func16, Tryz.ntmps16
  go_wp2_with fail
  refine (must_yes 1 _).mono ?_
  rintro e w1 ⟨rfl, rfl⟩
  have hB0 : Below w.heap.size w (w.alloc (.cells #[.string ⟨#[]⟩, .string ⟨#[]⟩, .string ⟨#[]⟩, .string ⟨#[]⟩] 37)) := (Below.refl _ _).alloc (Nat.le_refl _) _
  have hI0 : Is (w.alloc (.cells #[.string ⟨#[]⟩, .string ⟨#[]⟩, .string ⟨#[]⟩, .string ⟨#[]⟩] 37)) w.heap.size 37 #[.string ⟨#[]⟩, .string ⟨#[]⟩, .string ⟨#[]⟩, .string ⟨#[]⟩] := Is.new w _ _
  have hlt0 : w.heap.size < (w.alloc (.cells #[.string ⟨#[]⟩, .string ⟨#[]⟩, .string ⟨#[]⟩, .string ⟨#[]⟩] 37)).heap.size := by simp
  go_wp2_with fail
  refine (H1.out _ (hT.below hB0 hT.two)).mono ?_
  rintro e w2 ⟨rfl, hb2⟩
  have hB2 := hB0.trans (hb2.mono hB0.size)
  have hI2 := hI0.below hb2 hlt0
  have hlt2 : w.heap.size < w2.heap.size := hI2.lt
  clear hb2 hI0 hlt0 hB0
  have hA := hI2.alloc (.cells #[Value.string sk, .string tk, .string n, .string wi] 37)
  have hBA := hB2.alloc hB2.size (.cells #[Value.string sk, .string tk, .string n, .string wi] 37)
  go_wp2_with (refine wpList_store_row rfl 37 _ _ rfl w.heap.size #[.string sk, .string tk, .string n, .string wi] rfl rfl _ _ hA (slr_info _ _ _ _) rfl (slr_one _ _ _ _) ?_)
  exact bodyPost_ret (results_cell_row Tryz.results16 _ _ w.heap.size 37 _ (0, 0) _ rfl (hA.row _) Tryz.underlying37 rfl (slr_info _ _ _ _)) rfl ⟨rfl, belowRow hBA (Nat.le_refl _) _⟩

set_option maxRecDepth 100000 in
set_option maxHeartbeats 1000000 in
theorem ofAll_no (key n wi : ByteArray) (w : World) (hk : key.size ≠ 32) (hn : n.size = 16) (hw : wi.size ≤ 4096) :
    Calls Tryz.prog 16 #[.string key, .string n, .string wi] w fun e w' => e = .panicked [flt 1] ∧ Below w.heap.size w w' := by
  have hq : ((n.size : Int) == 16) = true := keySz true _ 16 (by simp [hn])
  have hle : (wi.size : Int) ≤ 4096 := by omega
  have hB0 : Below w.heap.size w (w.alloc (.cells #[.string ⟨#[]⟩, .string ⟨#[]⟩, .string ⟨#[]⟩, .string ⟨#[]⟩] 37)) := (Below.refl _ _).alloc (Nat.le_refl _) _
  have h1 := fun w => ofKey_no key w hk
  clear hk hn hw
  go_enter Tryz.func16, Tryz.ntmps16
  go_wp2_with fail
  refine (must_yes 1 _).mono ?_
  rintro e w1 ⟨rfl, rfl⟩
  go_wp2_with fail
  refine (h1 _).mono ?_
  rintro e w2 ⟨rfl, hb2⟩
  exact ⟨rfl, rfl, hB0.trans (hb2.mono hB0.size)⟩
end Go.Proofs.YtancchoelmdaiaaGreatDoor
namespace Go.Proofs.YtancchoelmdaiaaGreatDoor
open Go.RowKit Go.Shelf

/-- what was appended, made a text. -/
theorem conv_own6 {W : World} {base k : Nat} {v : Value} {L : List Nat} (hown : W.ownsRow base 5 1 v k (nL L)) (hl : L.length = k) (hk : 0 < k) :
    (convert 30 9 v).run Tryz.prog W = .ok (.string (strN L)) W := by
  obtain ⟨n, rfl⟩ : ∃ n, k = n + 1 := ⟨k - 1, by omega⟩
  obtain ⟨g, cap, rfl⟩ := ownsRow_succ hown
  exact run_convert_bytes_arg (P := Tryz.prog) W 30 5 Tryz.underlying30 Tryz.underlying5 g 0 (n + 1) cap (L.map fun x : Nat => (x : Int)) (by rw [List.length_map, hl]) (fun i hi => by
    rw [Nat.zero_add, hown.cellAt i (by omega)]
    rw [nL, List.getElem?_map, List.getElem?_eq_getElem (by omega), List.getD_eq_getElem?_getD, List.getElem?_map, List.getElem?_eq_getElem (by omega)]
    rfl) 9 Tryz.underlying9

set_option maxRecDepth 100000 in
set_option maxHeartbeats 1000000 in
theorem frames_any (a b c : ByteArray) (g : Nat) (w : World) (hI : Is w g 9 #[.string a, .string b, .string c]) (ha : a.size ≤ 65552) (hb : b.size ≤ 65552) (hc : c.size ≤ 65552) :
    Calls Tryz.prog 27 #[.slice (some ⟨g, 0, none⟩) 3 3] w fun e w' => e = .returned (.string (frB a b c)) ∧ Below w.heap.size w w' := by
  obtain ⟨i0, hi, hz0, hz1, hz2⟩ := infoThree infoU8
  have hl : ∀ k, k < 3 → ([a, b, c].getD k ⟨#[]⟩).size ≤ 65552 := fun k hk => by
    match k, hk with
    | 0, _ => exact ha
    | 1, _ => exact hb
    | 2, _ => exact hc
  have hcl : ∀ (W : World), Is W g 9 #[.string a, .string b, .string c] → ∀ k, k < 3 → W.cell? ⟨g, k, none⟩ = some (.string ([a, b, c].getD k ⟨#[]⟩)) := fun W h k hk => by
    rw [h.cell]
    match k, hk with
    | 0, _ => rfl
    | 1, _ => rfl
    | 2, _ => rfl
  have htk : ∀ k, k < 3 → frsL ([a, b, c].take (k + 1)) = frsL ([a, b, c].take k) ++ frL ([a, b, c].getD k ⟨#[]⟩) := fun k hk => frsL_take _ k hk
  have hfr : frB a b c = strN (frsL ([a, b, c].take 3)) := rfl
  have hlen : ∀ k, k ≤ 3 → (frsL ([a, b, c].take k)).length ≤ k * 65556 := fun k => by
    induction k with
    | zero => intro _; exact Nat.le_refl _
    | succ k ih =>
      intro hk
      have h1 := hl k (by omega)
      rw [htk k (by omega), List.length_append, frL_len]
      have := ih (by omega)
      omega
  have hpos : 0 < (frsL ([a, b, c].take 3)).length := by
    rw [htk 2 (by omega), List.length_append, frL_len]; omega
  have h0 : frsL ([a, b, c].take 0) = [] := rfl
  rw [hfr]
  generalize [a, b, c] = T at *
  have HL := Lib.hid hl
  have HCL := Lib.hid hcl
  have HTK := Lib.hid htk
  have HLEN := Lib.hid hlen
  have H0 := Lib.hid h0
  clear hl hcl htk hlen h0 hfr
  have hgl := hI.lt
  go_enter Tryz.func27, Tryz.ntmps27
  go_wp2
  go_loopw [3, 5, 6, 9] (fun v _ _ i wr => ∃ k : Nat, k ≤ 3 ∧ i = .int .i64 k ∧ wr.ownsRow w.heap.size 5 1 v (frsL (T.take k)).length (nL (frsL (T.take k))) ∧ Below w.heap.size w wr)
    (fun _ _ _ i _ => 3 - (intOf i).toNat)
  case atStart => exact ⟨0, by omega, rfl, by rw [H0.out]; exact World.ownsRow_nil _ _ _ _, Below.refl _ _⟩
  case round =>
    obtain ⟨k, hk, rfl, hown, hB⟩ := hrel
    by_cases hlt : k < 3
    · have hcl := HCL.out wr (hI.below hB hgl) k hlt
      have hsz := HL.out k hlt
      have htk := HTK.out k hlt
      have hln := HLEN.out k (by omega)
      have hsz1 := hB.size
      have hlt1 : (k : Int) < 3 := by omega
      have hk0 : (0 : Int) ≤ (k : Int) := by omega
      clear hI hpos
      generalize T.getD k ⟨#[]⟩ = t at *
      generalize frsL (T.take k) = L at *
      generalize hL' : frsL (T.take (k + 1)) = L' at *
      have HLE := Lib.hid hL'
      clear hL'
      have b0 : ((t.size : Int) / 16777216) = ((t.size / 16777216 % 256 : Nat) : Int) := by omega
      have b1 : ((t.size : Int) / 65536) = ((t.size / 65536 % 256 : Nat) : Int) := by omega
      have b2 : ((t.size : Int) / 256 % 256) = ((t.size / 256 % 256 : Nat) : Int) := by omega
      have b3 : ((t.size : Int) % 256) = ((t.size % 256 : Nat) : Int) := by omega
      have hB4 : (nL (be4 t.size)) = [.int .u8 ((t.size : Int) / 16777216), .int .u8 ((t.size : Int) / 65536), .int .u8 ((t.size : Int) / 256 % 256), .int .u8 ((t.size : Int) % 256)] := by
        rw [b0, b1, b2, b3]
        rfl
      have HB4 := Lib.hid hB4
      have HTL := Lib.hid htk
      clear hB4 b0 b1 b2 b3 htk
      go_wp2_with (at_builtin; refine wpList_append_own _ rfl _ _ 30 rfl w.heap.size 5 i0 (.int .u8 0) 1 1 Tryz.underlying30 hi hz0 hz1 hz2 rfl (by decide) _ _ _ rfl (hown.alloc _) ⟨wr.heap.size, 0, none⟩ 4 4 (nL (be4 t.size)) rfl rfl ?c1 ?c2 ?c3 ?c4 ?c5 ?_)
      case c1 =>
        intro j u hj
        rw [HB4.out] at hj
        rw [Addr.add_lit, Nat.zero_add, (Is.new wr _ _).cell]
        simpa using hj
      case c2 => intro u hu; rw [HB4.out] at hu; simp only [List.mem_cons, List.not_mem_nil, or_false] at hu; rcases hu with rfl | rfl | rfl | rfl <;> rfl
      case c3 => unfold maxLen; omega
      case c4 => omega
      case c5 => simp; omega
      intro v' w1 hown' hgrow _
      have hB1 : Below w.heap.size w w1 := (hB.alloc hB.size _).grown hgrow (by have := hB.size; simp; omega) (fun g e => by have := (hown.lt g e).1; omega)
      clear hown hB hgrow hcl
      rw [← nL_app] at hown'
      have hsz2 := hB1.size
      go_wp2_with (at_builtin; refine Lib.wpList_append_own_string w1 rfl _ _ 30 9 rfl w.heap.size 5 i0 Tryz.underlying30 Tryz.underlying9 hi hz0 hz1 hz2 _ _ _ rfl hown' t rfl ?c1 ?c2 hsz2 ?_)
      case c1 => unfold maxLen; omega
      case c2 => omega
      intro v2 w2 hown2 hgrow2 _
      have hB2 : Below w.heap.size w w2 := hB1.grown hgrow2 hB1.size (fun g e => by have := (hown'.lt g e).1; omega)
      rw [← nL_str, ← nL_app, List.append_assoc, show be4 t.size ++ natL t = frL t from rfl, ← HTL.out, show L.length + 4 + t.size = L'.length by rw [HTL.out, List.length_append, frL_len]; omega] at hown2
      clear hown' hB1 hgrow2
      go_wp2
      go_roundw
      case rel => exact ⟨k + 1, by omega, by go_num, by rw [HLE.out]; exact hown2, hB2⟩
      case measure => simp [intOf]; omega
    · obtain rfl : k = 3 := by omega
      have hcv := conv_own6 hown rfl hpos
      clear hown hI
      generalize hst : strN (frsL (T.take 3)) = st at hcv
      have HST := Lib.hid hst
      clear hst
      go_wp2
      go_ret
      exact ⟨by rw [HST.out]; rfl, hB⟩
end Go.Proofs.YtancchoelmdaiaaGreatDoor
namespace Go.Proofs.YtancchoelmdaiaaGreatDoor
open Go.RowKit Go.Shelf

set_option maxRecDepth 100000 in
set_option maxHeartbeats 1000000 in
theorem shide_any (sk tk n wi x : ByteArray) (w : World) (hk : mayB sk = true) (hn : n.size = 16) (hx : x.size ≤ 65536) :
    Calls Tryz.prog 18 #[.agg #[.string sk, .string tk, .string n, .string wi], .string x] w fun e w' => e = .returned (.string (xorT sk n x)) ∧ Below w.heap.size w w' := by
  have hB0 : Below w.heap.size w (w.alloc (.cells #[.string sk, .string tk, .string n, .string wi] 37)) := (Below.refl _ _).alloc (Nat.le_refl _) _
  have h1 := fun w => xor_fine sk n x w hk hn hx
  generalize xorT sk n x = y at *
  have H1 := Lib.hid h1
  clear h1
  go_enter Tryz.func18, Tryz.ntmps18
  go_wp2_with fail
  refine (H1.out _).mono ?_
  rintro e w2 ⟨rfl, hb2⟩
  go_wp2_with fail
  refine (sound_ok y _).mono ?_
  rintro e w3 ⟨rfl, rfl⟩
  go_wp2
  go_ret
  exact ⟨rfl, hB0.trans (hb2.mono hB0.size)⟩

set_option maxRecDepth 100000 in
set_option maxHeartbeats 1000000 in
theorem stag_any (sk tk n wi c : ByteArray) (w : World) (hT : Tab w) (hk : tk.size ≤ 1000) (hn : n.size ≤ 65552) (hw : wi.size ≤ 65552) (hc : c.size ≤ 65552) :
    Calls Tryz.prog 19 #[.agg #[.string sk, .string tk, .string n, .string wi], .string c] w fun e w' => e = .returned (.string (tagF tk n wi c)) ∧ Below w.heap.size w w' := by
  have hB0 : Below w.heap.size w (w.alloc (.cells #[.string sk, .string tk, .string n, .string wi] 37)) := (Below.refl _ _).alloc (Nat.le_refl _) _
  have hI0 : Is (w.alloc (.cells #[.string sk, .string tk, .string n, .string wi] 37)) w.heap.size 37 #[.string sk, .string tk, .string n, .string wi] := Is.new w _ _
  have hF := frB_size n wi c
  have hM := tagB_size (keyL tk) (frB n wi c)
  generalize hFe : frB n wi c = F at *
  generalize hMe : tagB (keyL tk) F = M at *
  have hR : tagF tk n wi c = M.extract 0 16 := by rw [tagF, hFe, hMe]
  rw [hR]
  have HFE := Lib.hid hFe
  have HME := Lib.hid hMe
  have HF := Lib.hid hF
  have HM := Lib.hid hM
  clear hF hM hR hFe hMe
  go_enter Tryz.func19, Tryz.ntmps19
  go_wp2
  have hI1 : Is ((w.alloc (.cells #[.string sk, .string tk, .string n, .string wi] 37)).alloc (.cells #[.string n, .string wi, .string c] 9)).drew w.heap.size 37 #[.string sk, .string tk, .string n, .string wi] := (hI0.alloc _)
  have hB1 : Below w.heap.size w ((w.alloc (.cells #[.string sk, .string tk, .string n, .string wi] 37)).alloc (.cells #[.string n, .string wi, .string c] 9)).drew := belowD (hB0.alloc hB0.size _)
  have hI2 : Is ((w.alloc (.cells #[.string sk, .string tk, .string n, .string wi] 37)).alloc (.cells #[.string n, .string wi, .string c] 9)).drew (w.heap.size + 1) 9 #[.string n, .string wi, .string c] := by
    have h := Is.new (w.alloc (.cells #[.string sk, .string tk, .string n, .string wi] 37)) 9 #[.string n, .string wi, .string c]
    rw [show (w.alloc (.cells #[.string sk, .string tk, .string n, .string wi] 37)).heap.size = w.heap.size + 1 by simp] at h
    exact h
  have hlt1 : w.heap.size < ((w.alloc (.cells #[.string sk, .string tk, .string n, .string wi] 37)).alloc (.cells #[.string n, .string wi, .string c] 9)).drew.heap.size := hI1.lt
  have hsl : ∀ wx : World, (Instr.slice 9 (.string M) none (some (.int .i64 16)) none).run Tryz.prog wx = .ok (.string (M.extract 0 16)) wx := fun wx =>
    run_slice_string_h (P := Tryz.prog) (w := wx) (t := 9) (s := M) Tryz.underlying9 .i64 16 (by omega) (by rw [HM.out]; decide)
  have HSL := Lib.hid hsl
  clear hsl
  refine wp_region_held_drew (S := fun W => Is W w.heap.size 37 #[.string sk, .string tk, .string n, .string wi] ∧ Below w.heap.size w W) (by kernel_rfl) ⟨hI0, belowD hB0⟩ (fun hS => ?_)
  change wpAnyH _ _ (opsOf Tryz.f19 1) _ _ 15 (Array.replicate 15 false) _ _
  refine wpAnyH_pure (i := 0) (o := { dst := some 5, op := Op.fieldAddr 37 (Operand.tmp 2) 1, type := 0, pos := "seal.go:78", after := #[], guard := none }) (v := .pointer (some ⟨w.heap.size, 1, none⟩)) (by kernel_rfl) (by kernel_rfl) (by kernel_rfl) (by kernel_rfl) (fun _ _ _ h => h) (by kernel_rfl) (fun w hSw => by go_simp) hS ?_
  simp only [Act.put, List.setIfInBounds_toArray, List.set_cons_succ, List.set_cons_zero]
  refine wpAnyH_pure (i := 1) (o := { dst := some 6, op := Op.load 9 (Operand.tmp 5), type := 9, pos := "seal.go:78", after := #[{ on := 0, ground := Ground.data }], guard := none }) (v := .string tk) (by kernel_rfl) (by kernel_rfl) (by kernel_rfl) (by kernel_rfl) (fun _ _ _ h => h) (by kernel_rfl) (fun w hSw => by (have hc := hSw.1.cell 1; simp only [List.getElem?_toArray, List.getElem?_cons_succ, List.getElem?_cons_zero] at hc; go_simp)) hS ?_
  simp only [Act.put, List.setIfInBounds_toArray, List.set_cons_succ, List.set_cons_zero]
  refine wpAnyH_pure (i := 2) (o := { dst := some 7, op := Op.fieldAddr 37 (Operand.tmp 2) 2, type := 0, pos := "seal.go:78", after := #[], guard := none }) (v := .pointer (some ⟨w.heap.size, 2, none⟩)) (by kernel_rfl) (by kernel_rfl) (by kernel_rfl) (by kernel_rfl) (fun _ _ _ h => h) (by kernel_rfl) (fun w hSw => by go_simp) hS ?_
  simp only [Act.put, List.setIfInBounds_toArray, List.set_cons_succ, List.set_cons_zero]
  refine wpAnyH_pure (i := 3) (o := { dst := some 8, op := Op.load 9 (Operand.tmp 7), type := 9, pos := "seal.go:78", after := #[{ on := 2, ground := Ground.data }], guard := none }) (v := .string n) (by kernel_rfl) (by kernel_rfl) (by kernel_rfl) (by kernel_rfl) (fun _ _ _ h => h) (by kernel_rfl) (fun w hSw => by (have hc := hSw.1.cell 2; simp only [List.getElem?_toArray, List.getElem?_cons_succ, List.getElem?_cons_zero] at hc; go_simp)) hS ?_
  simp only [Act.put, List.setIfInBounds_toArray, List.set_cons_succ, List.set_cons_zero]
  refine wpAnyH_pure (i := 4) (o := { dst := some 9, op := Op.fieldAddr 37 (Operand.tmp 2) 3, type := 0, pos := "seal.go:78", after := #[], guard := none }) (v := .pointer (some ⟨w.heap.size, 3, none⟩)) (by kernel_rfl) (by kernel_rfl) (by kernel_rfl) (by kernel_rfl) (fun _ _ _ h => h) (by kernel_rfl) (fun w hSw => by go_simp) hS ?_
  simp only [Act.put, List.setIfInBounds_toArray, List.set_cons_succ, List.set_cons_zero]
  refine wpAnyH_pure (i := 5) (o := { dst := some 10, op := Op.load 9 (Operand.tmp 9), type := 9, pos := "seal.go:78", after := #[{ on := 4, ground := Ground.data }], guard := none }) (v := .string wi) (by kernel_rfl) (by kernel_rfl) (by kernel_rfl) (by kernel_rfl) (fun _ _ _ h => h) (by kernel_rfl) (fun w hSw => by (have hc := hSw.1.cell 3; simp only [List.getElem?_toArray, List.getElem?_cons_succ, List.getElem?_cons_zero] at hc; go_simp)) hS ?_
  simp only [Act.put, List.setIfInBounds_toArray, List.set_cons_succ, List.set_cons_zero]
  refine wpAnyH_pure (i := 6) (o := { dst := some 11, op := Op.move (Operand.tmp 1), type := 9, pos := "seal.go:78", after := #[], guard := none }) (v := .string c) (by kernel_rfl) (by kernel_rfl) (by kernel_rfl) (by kernel_rfl) (fun _ _ _ h => h) (by kernel_rfl) (fun w hSw => by kernel_rfl) hS ?_
  simp only [Act.put, List.setIfInBounds_toArray, List.set_cons_succ, List.set_cons_zero]
  refine wpAnyH_step (i := 7) (o := { dst := some 12, op := Op.buildSlice 75 3 #[(0, Operand.tmp 8), (1, Operand.tmp 10), (2, Operand.tmp 11)], type := 75, pos := "seal.go:78", after := #[{ on := 3, ground := Ground.data }, { on := 5, ground := Ground.data }, { on := 6, ground := Ground.data }], guard := none }) (by kernel_rfl) (by kernel_rfl) (by kernel_rfl) (fun Kc hKc => ?_)
  go_simp
  refine hKc.out _ _ ⟨hI1, hB1⟩ (fun _ => ?_)
  clear hKc Kc
  try simp only [Act.put, List.setIfInBounds_toArray, List.set_cons_succ, List.set_cons_zero]
  refine wpAnyH_call (i := 8) (o := { dst := some 13, op := Op.call { callee := Callee.value (Operand.func 27), args := #[Operand.tmp 12], argTypes := #[75] }, type := 9, pos := "seal.go:78", after := #[{ on := 7, ground := Ground.data }], guard := none }) (by kernel_rfl) (by kernel_rfl) (by kernel_rfl) (fun w => by kernel_rfl) ((frames_any n wi c (w.heap.size + 1) _ hI2 hn hw hc).mono ?_)
  rintro e w2 ⟨he, hb2⟩
  rw [HFE.out] at he
  subst he
  have hB2 := hB1.trans (hb2.mono hB1.size)
  have hI3 := hI1.below hb2 hlt1
  refine ⟨_, rfl, ⟨hI3, hB2⟩, ?_⟩
  try simp only [Act.put, List.setIfInBounds_toArray, List.set_cons_succ, List.set_cons_zero]
  refine wpAnyH_call (i := 9) (o := { dst := some 14, op := Op.call { callee := Callee.value (Operand.func 26), args := #[Operand.tmp 6, Operand.tmp 13], argTypes := #[9, 9] }, type := 26, pos := "seal.go:78", after := #[{ on := 1, ground := Ground.data }, { on := 8, ground := Ground.data }, { on := 8, ground := Ground.chain }], guard := none }) (by kernel_rfl) (by kernel_rfl) (by kernel_rfl) (fun w => by kernel_rfl) ((mac_ok tk F _ (hT.below hB2 hT.two) hk (by rw [HF.out]; omega)).mono ?_)
  rintro e w3 ⟨he, hb3⟩
  rw [HME.out] at he
  subst he
  have hlt3 := hI3.lt
  have hB3 := hB2.trans (hb3.mono hB2.size)
  have hI4 := hI3.below hb3 hlt3
  refine ⟨_, rfl, ⟨hI4, hB3⟩, ?_⟩
  try simp only [Act.put, List.setIfInBounds_toArray, List.set_cons_succ, List.set_cons_zero]
  refine wpAnyH_pure (i := 10) (o := { dst := some 15, op := Op.extract (Operand.tmp 14) 0, type := 9, pos := "seal.go:78", after := #[{ on := 9, ground := Ground.data }], guard := none }) (v := .string M) (by kernel_rfl) (by kernel_rfl) (by kernel_rfl) (by kernel_rfl) (fun _ _ _ h => h) (by kernel_rfl) (fun w hSw => by kernel_rfl) ⟨hI4, hB3⟩ ?_
  simp only [Act.put, List.setIfInBounds_toArray, List.set_cons_succ, List.set_cons_zero]
  refine wpAnyH_pure (i := 11) (o := { dst := some 16, op := Op.extract (Operand.tmp 14) 1, type := 25, pos := "seal.go:78", after := #[{ on := 9, ground := Ground.data }], guard := none }) (v := .int .i64 0) (by kernel_rfl) (by kernel_rfl) (by kernel_rfl) (by kernel_rfl) (fun _ _ _ h => h) (by kernel_rfl) (fun w hSw => by kernel_rfl) ⟨hI4, hB3⟩ ?_
  simp only [Act.put, List.setIfInBounds_toArray, List.set_cons_succ, List.set_cons_zero]
  refine wpAnyH_call (i := 12) (o := { dst := some 17, op := Op.call { callee := Callee.value (Operand.func 24), args := #[Operand.tmp 15, Operand.tmp 16], argTypes := #[9, 25] }, type := 9, pos := "seal.go:78", after := #[{ on := 10, ground := Ground.data }, { on := 11, ground := Ground.data }, { on := 9, ground := Ground.chain }], guard := none }) (by kernel_rfl) (by kernel_rfl) (by kernel_rfl) (fun w => by kernel_rfl) ((sound_ok M _).mono ?_)
  rintro e w4 ⟨rfl, rfl⟩
  refine ⟨_, rfl, ⟨hI4, hB3⟩, ?_⟩
  try simp only [Act.put, List.setIfInBounds_toArray, List.set_cons_succ, List.set_cons_zero]
  refine wpAnyH_pure (i := 13) (o := { dst := some 18, op := Op.slice 9 (Operand.tmp 17) none (some (Operand.const (Value.int IntKind.i64 16))) none, type := 9, pos := "seal.go:78", after := #[{ on := 12, ground := Ground.data }], guard := none }) (v := .string (M.extract 0 16)) (by kernel_rfl) (by kernel_rfl) (by kernel_rfl) (by kernel_rfl) (fun _ _ _ h => h) (by kernel_rfl) (fun w hSw => by (have hsl := HSL.out; go_simp)) ⟨hI4, hB3⟩ ?_
  simp only [Act.put, List.setIfInBounds_toArray, List.set_cons_succ, List.set_cons_zero]
  refine wpAnyH_pure (i := 14) (o := { dst := some 4, op := Op.assign (Operand.tmp 18), type := 9, pos := "seal.go:78", after := #[{ on := 13, ground := Ground.data }, { on := 12, ground := Ground.chain }, { on := 0, ground := Ground.phase }, { on := 1, ground := Ground.phase }, { on := 2, ground := Ground.phase }, { on := 3, ground := Ground.phase }, { on := 4, ground := Ground.phase }, { on := 5, ground := Ground.phase }, { on := 6, ground := Ground.phase }, { on := 7, ground := Ground.phase }, { on := 8, ground := Ground.phase }, { on := 9, ground := Ground.phase }, { on := 10, ground := Ground.phase }, { on := 11, ground := Ground.phase }, { on := 12, ground := Ground.phase }, { on := 13, ground := Ground.phase }], guard := none }) (v := .string (M.extract 0 16)) (by kernel_rfl) (by kernel_rfl) (by kernel_rfl) (by kernel_rfl) (fun _ _ _ h => h) (by kernel_rfl) (fun w hSw => by kernel_rfl) ⟨hI4, hB3⟩ ?_
  simp only [Act.put, List.setIfInBounds_toArray, List.set_cons_succ, List.set_cons_zero]
  refine wpAnyH_done (by kernel_rfl) ?_ _
  go_wp2
  go_ret
  exact ⟨rfl, hB3⟩
end Go.Proofs.YtancchoelmdaiaaGreatDoor
namespace Go.Proofs.YtancchoelmdaiaaGreatDoor
open Go.RowKit Go.Shelf

theorem mkf (fn : Fn) (first cap : Array Value) (w : World) : (Instr.makeFunc fn first cap).run Tryz.prog w = .ok (.func fn first cap) w := rfl
theorem skB_size (key : ByteArray) : (skB key).size = 32 := drv6_size _ _ _
theorem tkB_size (key : ByteArray) : (tkB key).size = 32 := drv6_size _ _ _
theorem skB_may (key : ByteArray) : mayB (skB key) = true := by rw [mayB, skB_size]; rfl
theorem tagF_size (tk n w c : ByteArray) : (tagF tk n w c).size = 16 := by rw [tagF, ByteArray.size_extract, tagB_size]; rfl
theorem hidB_size (key n x : ByteArray) : (hidB key n x).size = x.size := xorT_size _ _ _

set_option maxRecDepth 100000 in
set_option maxHeartbeats 1000000 in
theorem keys_ok (key : ByteArray) (w : World) (hT : Tab w) (hk : key.size = 32) :
    Calls Tryz.prog 13 #[.string key] w fun e w' => e = .returned (.tuple #[.string (skB key), .string (tkB key), .int .i64 0]) ∧ Below w.heap.size w w' := by
  have hmf := mkf
  have hB0 : Below w.heap.size w (w.alloc (.cells #[.int .i64 0] 25)) := (Below.refl _ _).alloc (Nat.le_refl _) _
  have hI0 : Is (w.alloc (.cells #[.int .i64 0] 25)) w.heap.size 25 #[.int .i64 0] := Is.new w _ _
  have hlt0 := hI0.lt
  have h1 := fun w hT => ofKey_ok key w hT hk
  generalize skB key = sk at *
  generalize tkB key = tk at *
  have H1 := Lib.hid h1
  clear h1 hk
  go_enter_defers Tryz.func13, Tryz.ntmps13
  go_wp2_with fail
  refine (H1.out _ (hT.below hB0 hT.two)).mono ?_
  rintro e w1 ⟨rfl, hb1⟩
  have hB1 := hB0.trans (hb1.mono hB0.size)
  have hI1 := hI0.below hb1 hlt0
  clear hb1 hI0 hB0 hlt0
  have hc := (hI1.alloc (.cells #[.string sk, .string tk, .string ⟨#[]⟩, .string ⟨#[]⟩] 37)).cell 0
  have hz := (hI1.alloc (.cells #[.string sk, .string tk, .string ⟨#[]⟩, .string ⟨#[]⟩] 37)).frozen 0
  simp only [List.getElem?_toArray, List.getElem?_cons_zero] at hc
  have hltx := hI1.lt
  have hne : ¬ w.heap.size = w1.heap.size := by omega
  go_wp2
  go_region
  go_wp2
  have hI2 : Is ((w1.setCell ⟨w.heap.size, 0, none⟩ (.int .i64 0)).alloc (.cells #[.string sk, .string tk, .string ⟨#[]⟩, .string ⟨#[]⟩] 37)).drew w.heap.size 25 #[.int .i64 0] := ((hI1.set 0 (.int .i64 0)).alloc (.cells #[.string sk, .string tk, .string ⟨#[]⟩, .string ⟨#[]⟩] 37))
  have hB2 := belowD ((hB1.setCell (p := ⟨w.heap.size, 0, none⟩) (Nat.le_refl _) (.int .i64 0)).alloc (by rw [World.size_setCell]; exact hB1.size) (.cells #[.string sk, .string tk, .string ⟨#[]⟩, .string ⟨#[]⟩] 37))
  generalize ((w1.setCell ⟨w.heap.size, 0, none⟩ (.int .i64 0)).alloc (.cells #[.string sk, .string tk, .string ⟨#[]⟩, .string ⟨#[]⟩] 37)).drew = W1 at *
  refine leaves_cons (f := 22) (args := #[.pointer (some ⟨w.heap.size, 0, none⟩)]) (by simp) (by simp [go_sem]) ?_
  refine (kys_idle ⟨w.heap.size, 0, none⟩ (.int .i64 0) _ (hI2.cell 0) (hI2.frozen 0)).mono ?_
  rintro e u' w'' ⟨rfl, rfl, rfl⟩
  have hI3 := hI2.set 0 (.int .i64 0)
  have hB3 := hB2.setCell (p := ⟨w.heap.size, 0, none⟩) (Nat.le_refl _) (.int .i64 0)
  generalize W1.setCell ⟨w.heap.size, 0, none⟩ (.int .i64 0) = W2 at *
  have hc3 : W2.cell? ⟨w.heap.size, 0, none⟩ = some (.int .i64 0) := hI3.cell 0
  simp [Leaves, settle, results, Tryz.results13, go_sem, hc3]
  exact hB3

set_option maxRecDepth 100000 in
set_option maxHeartbeats 1000000 in
theorem shut_ok (key n wi x : ByteArray) (w : World) (hT : Tab w) (hk : key.size = 32) (hn : n.size = 16) (hw : wi.size ≤ 4096) (hx : x.size ≤ 65536) :
    Calls Tryz.prog 10 #[.string key, .string n, .string wi, .string x] w fun e w' => e = .returned (.tuple #[.string (boxB key n wi x), .int .i64 0]) ∧ Below w.heap.size w w' := by
  have hmf := mkf
  have hB0 : Below w.heap.size w (w.alloc (.cells #[.int .i64 0] 25)) := (Below.refl _ _).alloc (Nat.le_refl _) _
  have hI0 : Is (w.alloc (.cells #[.int .i64 0] 25)) w.heap.size 25 #[.int .i64 0] := Is.new w _ _
  have hlt0 := hI0.lt
  have h1 := fun w hT => ofAll_ok key n wi w hT hk hn hw
  have h2 := fun w => shide_any (skB key) (tkB key) n wi x w (skB_may key) hn hx
  have h3 := fun w hT => stag_any (skB key) (tkB key) n wi (hidB key n x) w hT (by rw [tkB_size]; omega) (by omega) (by omega) (by rw [hidB_size]; omega)
  have hbox : boxB key n wi x = hidB key n x ++ tagF (tkB key) n wi (hidB key n x) := rfl
  rw [show xorT (skB key) n x = hidB key n x from rfl] at h2
  have hys := hidB_size key n x
  have hts := tagF_size (tkB key) n wi (hidB key n x)
  rw [hbox]
  generalize tagF (tkB key) n wi (hidB key n x) = t at *
  generalize hidB key n x = y at *
  generalize skB key = sk at *
  generalize tkB key = tk at *
  have H1 := Lib.hid h1
  have H2 := Lib.hid h2
  have H3 := Lib.hid h3
  have d1 : (x.size : Int) ≤ 65536 := by omega
  have d2 : ¬ (9223372036854775807 < y.size + t.size) := by omega
  clear h1 h2 h3 hk hys hts hbox
  go_enter_defers Tryz.func10, Tryz.ntmps10
  go_wp2_with fail
  refine (H1.out _ (hT.below hB0 hT.two)).mono ?_
  rintro e w1 ⟨rfl, hb1⟩
  have hB1 := hB0.trans (hb1.mono hB0.size)
  have hI1 := hI0.below hb1 hlt0
  clear hb1 hI0 hB0 hlt0
  go_wp2_with fail
  refine (must_yes 2 _).mono ?_
  rintro e w2 ⟨rfl, rfl⟩
  have hIA := hI1.alloc (.cells #[Value.string sk, .string tk, .string n, .string wi] 37)
  have hIS : Is (w1.alloc (.cells #[Value.string sk, .string tk, .string n, .string wi] 37)) w1.heap.size 37 #[Value.string sk, .string tk, .string n, .string wi] := Is.new w1 _ _
  have hBA := hB1.alloc hB1.size (.cells #[Value.string sk, .string tk, .string n, .string wi] 37)
  have hlts := hI1.lt
  generalize w1.heap.size = gs at *
  generalize w1.alloc (.cells #[Value.string sk, .string tk, .string n, .string wi] 37) = w2 at *
  go_wp2_with (refine wpList_load_row rfl 37 _ rfl gs rfl _ _ _ _ hIS Tryz.underlying37 rfl (slr_info _ _ _ _) ?_)
  refine (H2.out _).mono ?_
  rintro e w3 ⟨rfl, hb3⟩
  have hB3 := hBA.trans (hb3.mono hBA.size)
  have hI3 := hIA.below hb3 hIA.lt
  have hS3 := hIS.below hb3 hIS.lt
  clear hb3
  go_wp2_with (refine wpList_load_row rfl 37 _ rfl gs rfl _ _ _ _ hS3 Tryz.underlying37 rfl (slr_info _ _ _ _) ?_)
  refine (H3.out _ (hT.below hB3 hT.two)).mono ?_
  rintro e w4 ⟨rfl, hb4⟩
  have hB4 := hB3.trans (hb4.mono hB3.size)
  have hI4 := hI3.below hb4 hI3.lt
  clear hb4
  have hc := hI4.cell 0
  have hz := hI4.frozen 0
  simp only [List.getElem?_toArray, List.getElem?_cons_zero] at hc
  go_wp2
  have hI2 := hI4.set 0 (.int .i64 0)
  have hB2 := hB4.setCell (p := ⟨w.heap.size, 0, none⟩) (Nat.le_refl _) (.int .i64 0)
  generalize w4.setCell ⟨w.heap.size, 0, none⟩ (.int .i64 0) = W1 at *
  refine leaves_cons (f := 14) (args := #[.pointer (some ⟨w.heap.size, 0, none⟩)]) (by simp) (by simp [go_sem]) ?_
  refine (shut_idle ⟨w.heap.size, 0, none⟩ (.int .i64 0) _ (hI2.cell 0) (hI2.frozen 0)).mono ?_
  rintro e u' w'' ⟨rfl, rfl, rfl⟩
  have hI9 := hI2.set 0 (.int .i64 0)
  have hB9 := hB2.setCell (p := ⟨w.heap.size, 0, none⟩) (Nat.le_refl _) (.int .i64 0)
  generalize W1.setCell ⟨w.heap.size, 0, none⟩ (.int .i64 0) = W2 at *
  have hc3 : W2.cell? ⟨w.heap.size, 0, none⟩ = some (.int .i64 0) := hI9.cell 0
  simp [Leaves, settle, results, Tryz.results10, go_sem, hc3]
  exact hB9

set_option maxRecDepth 100000 in
set_option maxHeartbeats 1000000 in
theorem shut_no (key n wi x : ByteArray) (w : World) (hk : key.size ≠ 32) (hn : n.size = 16) (hw : wi.size ≤ 4096) :
    Calls Tryz.prog 10 #[.string key, .string n, .string wi, .string x] w fun e w' => e = .returned (.tuple #[.string ⟨#[]⟩, .int .i64 1]) ∧ Below w.heap.size w w' := by
  have hmf := mkf
  have hB0 : Below w.heap.size w (w.alloc (.cells #[.int .i64 0] 25)) := (Below.refl _ _).alloc (Nat.le_refl _) _
  have hI0 : Is (w.alloc (.cells #[.int .i64 0] 25)) w.heap.size 25 #[.int .i64 0] := Is.new w _ _
  have hlt0 := hI0.lt
  have h1 := fun w => ofAll_no key n wi w hk hn hw
  go_enter_defers Tryz.func10, Tryz.ntmps10
  go_wp2_with fail
  refine (h1 _).mono ?_
  rintro e W1 ⟨rfl, hb1⟩
  have hB2 := hB0.trans (hb1.mono hB0.size)
  have hI2 := hI0.below hb1 hlt0
  refine leaves_cons (f := 14) (args := #[.pointer (some ⟨w.heap.size, 0, none⟩)]) (by simp) (by simp [go_sem]) ?_
  refine (shut_caught 1 ⟨w.heap.size, 0, none⟩ (.int .i64 0) [] _ (hI2.cell 0) (hI2.frozen 0) hI2.lt).mono ?_
  rintro e u' w'' ⟨rfl, rfl, w5, hb5, rfl⟩
  have hI3 := (hI2.below hb5 hI2.lt).set 0 (.int .i64 1)
  have hB3 := (hB2.trans (hb5.mono hB2.size)).setCell (p := ⟨w.heap.size, 0, none⟩) (Nat.le_refl _) (.int .i64 1)
  generalize w5.setCell ⟨w.heap.size, 0, none⟩ (.int .i64 1) = W2 at *
  have hc3 : W2.cell? ⟨w.heap.size, 0, none⟩ = some (.int .i64 1) := hI3.cell 0
  simp [Leaves, settle, results, Tryz.results10, go_sem, hc3]
  exact hB3

/-- what stands ahead of the last sixteen bytes of a box; these. -/
def hdB (b : ByteArray) : ByteArray := b.extract 0 (b.size - 16)
def tlB (b : ByteArray) : ByteArray := b.extract (b.size - 16) b.size
theorem hdB_size (b : ByteArray) : (hdB b).size = b.size - 16 := by rw [hdB, ByteArray.size_extract]; omega
theorem tlB_size (b : ByteArray) (h : 16 ≤ b.size) : (tlB b).size = 16 := by rw [tlB, ByteArray.size_extract]; omega

set_option maxRecDepth 100000 in
set_option maxHeartbeats 1000000 in
theorem opn_short (key n wi b : ByteArray) (w : World) (hT : Tab w) (hk : key.size = 32) (hn : n.size = 16) (hw : wi.size ≤ 4096) (hb : b.size < 16) :
    Calls Tryz.prog 11 #[.string key, .string n, .string wi, .string b] w fun e w' => e = .returned (.tuple #[.string ⟨#[]⟩, .int .i64 10]) ∧ Below w.heap.size w w' := by
  have hmf := mkf
  have hB0 : Below w.heap.size w (w.alloc (.cells #[.int .i64 0] 25)) := (Below.refl _ _).alloc (Nat.le_refl _) _
  have hI0 : Is (w.alloc (.cells #[.int .i64 0] 25)) w.heap.size 25 #[.int .i64 0] := Is.new w _ _
  have hlt0 := hI0.lt
  have h1 := fun w hT => ofAll_ok key n wi w hT hk hn hw
  generalize skB key = sk at *
  generalize tkB key = tk at *
  have H1 := Lib.hid h1
  have d1 : decide (16 ≤ (b.size : Int)) = false := by simp; omega
  clear h1
  go_enter_defers Tryz.func11, Tryz.ntmps11
  go_wp2_with fail
  refine (H1.out _ (hT.below hB0 hT.two)).mono ?_
  rintro e w1 ⟨rfl, hb1⟩
  have hB1 := hB0.trans (hb1.mono hB0.size)
  have hI1 := hI0.below hb1 hlt0
  clear hb1 hI0 hB0 hlt0
  go_wp2_with fail
  refine (must_no 10 _).mono ?_
  rintro e w2 ⟨rfl, rfl⟩
  have hI2 := hI1.alloc (.cells #[Value.string sk, .string tk, .string n, .string wi] 37)
  have hB2 := hB1.alloc hB1.size (.cells #[Value.string sk, .string tk, .string n, .string wi] 37)
  refine leaves_cons (f := 20) (args := #[.pointer (some ⟨w.heap.size, 0, none⟩)]) (by simp) (by simp [go_sem]) ?_
  refine (opn_caught 10 ⟨w.heap.size, 0, none⟩ (.int .i64 0) [] _ (hI2.cell 0) (hI2.frozen 0) hI2.lt).mono ?_
  rintro e u' w'' ⟨rfl, rfl, w5, hb5, rfl⟩
  have hI3 := (hI2.below hb5 hI2.lt).set 0 (.int .i64 10)
  have hB3 := (hB2.trans (hb5.mono hB2.size)).setCell (p := ⟨w.heap.size, 0, none⟩) (Nat.le_refl _) (.int .i64 10)
  generalize w5.setCell ⟨w.heap.size, 0, none⟩ (.int .i64 10) = W2 at *
  have hc3 : W2.cell? ⟨w.heap.size, 0, none⟩ = some (.int .i64 10) := hI3.cell 0
  simp [Leaves, settle, results, Tryz.results11, go_sem, hc3]
  exact hB3

set_option maxRecDepth 100000 in
set_option maxHeartbeats 1000000 in
theorem opn_long (key n wi b : ByteArray) (w : World) (hT : Tab w) (hk : key.size = 32) (hn : n.size = 16) (hw : wi.size ≤ 4096) (hb : 16 ≤ b.size) (hb2 : b.size ≤ 65552) :
    Calls Tryz.prog 11 #[.string key, .string n, .string wi, .string b] w fun e w' => e = .returned (if tlB b = tgB key n wi (hdB b) then .tuple #[.string (hidB key n (hdB b)), .int .i64 0] else .tuple #[.string ⟨#[]⟩, .int .i64 11]) ∧ Below w.heap.size w w' := by
  have hmf := mkf
  have hB0 : Below w.heap.size w (w.alloc (.cells #[.int .i64 0] 25)) := (Below.refl _ _).alloc (Nat.le_refl _) _
  have hI0 : Is (w.alloc (.cells #[.int .i64 0] 25)) w.heap.size 25 #[.int .i64 0] := Is.new w _ _
  have hlt0 := hI0.lt
  have h1 := fun w hT => ofAll_ok key n wi w hT hk hn hw
  have h2 := fun w => shide_any (skB key) (tkB key) n wi (hdB b) w (skB_may key) hn (by rw [hdB_size]; omega)
  have h3 := fun w hT => stag_any (skB key) (tkB key) n wi (hdB b) w hT (by rw [tkB_size]; omega) (by omega) (by omega) (by rw [hdB_size]; omega)
  rw [show xorT (skB key) n (hdB b) = hidB key n (hdB b) from rfl] at h2
  rw [show tagF (tkB key) n wi (hdB b) = tgB key n wi (hdB b) from rfl] at h3
  have hys := hidB_size key n (hdB b)
  have hts : (tgB key n wi (hdB b)).size = 16 := tagF_size (tkB key) n wi (hdB b)
  have hls := tlB_size b hb
  have h4 := fun w => msame_yes (tlB b) (tgB key n wi (hdB b)) w (by rw [hls, hts]) (by rw [hls]; decide)
  have hif : (if tlB b = tgB key n wi (hdB b) then Value.tuple #[.string (hidB key n (hdB b)), .int .i64 0] else .tuple #[.string ⟨#[]⟩, .int .i64 11]) = if eqB (tlB b) (tgB key n wi (hdB b)) = true then .tuple #[.string (hidB key n (hdB b)), .int .i64 0] else .tuple #[.string ⟨#[]⟩, .int .i64 11] := by
    by_cases he : tlB b = tgB key n wi (hdB b)
    · rw [if_pos he, if_pos (by rw [he]; exact eqB_true _)]
    · rw [if_neg he, if_neg (by rw [eqB_false (by rw [hls, hts]) he]; decide)]
  rw [hif]
  have hs1 : ∀ wx : World, (Instr.slice 9 (.string b) none (some (.int .i64 ((b.size : Int) - 16))) none).run Tryz.prog wx = .ok (.string (hdB b)) wx := fun wx => by
    have := run_slice_string_h (P := Tryz.prog) (w := wx) (t := 9) (s := b) Tryz.underlying9 .i64 ((b.size : Int) - 16) (by omega) (by omega)
    rwa [show ((b.size : Int) - 16).toNat = b.size - 16 by omega] at this
  have hs2 : ∀ wx : World, (Instr.slice 9 (.string b) (some (.int .i64 ((b.size : Int) - 16))) none none).run Tryz.prog wx = .ok (.string (tlB b)) wx := fun wx => by
    have := run_slice_string_l (P := Tryz.prog) (w := wx) (t := 9) (s := b) Tryz.underlying9 .i64 ((b.size : Int) - 16) (by omega) (by omega)
    rwa [show ((b.size : Int) - 16).toNat = b.size - 16 by omega] at this
  have hwr : IntKind.i64.wrap ((b.size : Int) - 16) = (b.size : Int) - 16 := IntWalk.i64_in _ (by omega)
  generalize tgB key n wi (hdB b) = t at *
  generalize hidB key n (hdB b) = y at *
  generalize hdB b = hd at *
  generalize tlB b = tl at *
  generalize skB key = sk at *
  generalize tkB key = tk at *
  have H1 := Lib.hid h1
  have H2 := Lib.hid h2
  have H3 := Lib.hid h3
  have H4 := Lib.hid h4
  have d1 : (16 : Int) ≤ (b.size : Int) := by omega
  have d2 : (b.size : Int) ≤ 65552 := by omega
  clear h1 h2 h3 h4 hk hys hts hif hls
  go_enter_defers Tryz.func11, Tryz.ntmps11
  go_wp2_with fail
  refine (H1.out _ (hT.below hB0 hT.two)).mono ?_
  rintro e w1 ⟨rfl, hb1⟩
  have hB1 := hB0.trans (hb1.mono hB0.size)
  have hI1 := hI0.below hb1 hlt0
  clear hb1 hI0 hB0 hlt0
  go_wp2_with fail
  refine (must_yes 10 _).mono ?_
  rintro e w2 ⟨rfl, rfl⟩
  have hIA := hI1.alloc (.cells #[Value.string sk, .string tk, .string n, .string wi] 37)
  have hIS : Is (w1.alloc (.cells #[Value.string sk, .string tk, .string n, .string wi] 37)) w1.heap.size 37 #[Value.string sk, .string tk, .string n, .string wi] := Is.new w1 _ _
  have hBA := hB1.alloc hB1.size (.cells #[Value.string sk, .string tk, .string n, .string wi] 37)
  have hlts := hI1.lt
  generalize w1.heap.size = gs at *
  generalize w1.alloc (.cells #[Value.string sk, .string tk, .string n, .string wi] 37) = w2 at *
  go_wp2_with fail
  refine (must_yes 2 _).mono ?_
  rintro e w3 ⟨rfl, rfl⟩
  go_wp2
  go_region
  replace hBA := belowD hBA
  replace hIA : Is w2.drew w.heap.size 25 #[.int .i64 0] := hIA
  replace hIS : Is w2.drew gs 37 #[Value.string sk, .string tk, .string n, .string wi] := hIS
  generalize w2.drew = w6 at *
  go_wp2_with (refine wpList_load_row rfl 37 _ rfl gs rfl _ _ _ _ hIS Tryz.underlying37 rfl (slr_info _ _ _ _) ?_)
  refine (H3.out _ (hT.below hBA hT.two)).mono ?_
  rintro e w3 ⟨rfl, hb3⟩
  have hB3 := hBA.trans (hb3.mono hBA.size)
  have hI3 := hIA.below hb3 hIA.lt
  have hS3 := hIS.below hb3 hIS.lt
  clear hb3 hBA hIA hIS
  go_wp2_with fail
  refine (H4.out _).mono ?_
  rintro e w4 ⟨rfl, hb4⟩
  have hB4 := hB3.trans (hb4.mono hB3.size)
  have hI4 := hI3.below hb4 hI3.lt
  have hS4 := hS3.below hb4 hS3.lt
  clear hb4 hB3 hI3 hS3
  cases hq : eqB tl t with
  | true =>
    go_wp2_with fail
    refine (must_yes 11 _).mono ?_
    rintro e w5 ⟨rfl, rfl⟩
    go_wp2_with (refine wpList_load_row rfl 37 _ rfl gs rfl _ _ _ _ hS4 Tryz.underlying37 rfl (slr_info _ _ _ _) ?_)
    refine (H2.out _).mono ?_
    rintro e w5 ⟨rfl, hb5⟩
    have hB5 := hB4.trans (hb5.mono hB4.size)
    have hI5 := hI4.below hb5 hI4.lt
    clear hb5 hB4 hI4 hS4
    have hc := hI5.cell 0
    have hz := hI5.frozen 0
    simp only [List.getElem?_toArray, List.getElem?_cons_zero] at hc
    go_wp2
    have hI2 := hI5.set 0 (.int .i64 0)
    have hB2 := hB5.setCell (p := ⟨w.heap.size, 0, none⟩) (Nat.le_refl _) (.int .i64 0)
    generalize w5.setCell ⟨w.heap.size, 0, none⟩ (.int .i64 0) = W1 at *
    refine leaves_cons (f := 20) (args := #[.pointer (some ⟨w.heap.size, 0, none⟩)]) (by simp) (by simp [go_sem]) ?_
    refine (opn_idle ⟨w.heap.size, 0, none⟩ (.int .i64 0) _ (hI2.cell 0) (hI2.frozen 0)).mono ?_
    rintro e u' w'' ⟨rfl, rfl, rfl⟩
    have hI9 := hI2.set 0 (.int .i64 0)
    have hB9 := hB2.setCell (p := ⟨w.heap.size, 0, none⟩) (Nat.le_refl _) (.int .i64 0)
    generalize W1.setCell ⟨w.heap.size, 0, none⟩ (.int .i64 0) = W2 at *
    have hc3 : W2.cell? ⟨w.heap.size, 0, none⟩ = some (.int .i64 0) := hI9.cell 0
    simp [Leaves, settle, results, Tryz.results11, go_sem, hc3]
    exact hB9
  | false =>
    go_wp2_with fail
    refine (must_no 11 _).mono ?_
    rintro e w5 ⟨rfl, rfl⟩
    have hI2 := hI4
    have hB2 := hB4
    refine leaves_cons (f := 20) (args := #[.pointer (some ⟨w.heap.size, 0, none⟩)]) (by simp) (by simp [go_sem]) ?_
    refine (opn_caught 11 ⟨w.heap.size, 0, none⟩ (.int .i64 0) [] _ (hI2.cell 0) (hI2.frozen 0) hI2.lt).mono ?_
    rintro e u' w'' ⟨rfl, rfl, w5, hb5, rfl⟩
    have hI9 := (hI2.below hb5 hI2.lt).set 0 (.int .i64 11)
    have hB9 := (hB2.trans (hb5.mono hB2.size)).setCell (p := ⟨w.heap.size, 0, none⟩) (Nat.le_refl _) (.int .i64 11)
    generalize w5.setCell ⟨w.heap.size, 0, none⟩ (.int .i64 11) = W2 at *
    have hc3 : W2.cell? ⟨w.heap.size, 0, none⟩ = some (.int .i64 11) := hI9.cell 0
    simp [Leaves, settle, results, Tryz.results11, go_sem, hc3]
    exact ⟨hq, hB9⟩

end Go.Proofs.YtancchoelmdaiaaGreatDoor
namespace Go.Proofs.YtancchoelmdaiaaGreatDoor
open Go.RowKit Go.Shelf

def awK : ByteArray := ⟨#[107, 101, 121, 0, 0, 0, 0, 0, 0, 0, 0, 0, 0, 0, 0, 0, 0, 0, 0, 0, 0, 0, 0, 0, 0, 0, 0, 0, 0, 0, 0, 0]⟩
def awN : ByteArray := ⟨#[110, 111, 110, 99, 101, 0, 0, 0, 0, 0, 0, 0, 0, 0, 0, 0]⟩
def awT : ByteArray := ⟨#[148, 175, 36, 55, 116, 191, 31, 134, 127, 78, 33, 16, 169, 126, 67, 1, 146, 143, 53, 178, 131, 227, 115, 247, 222, 159, 13, 182, 122, 101, 131, 73]⟩
def awA : ByteArray := ⟨#[80, 124, 116, 28, 98, 178, 144, 20, 125, 102, 175, 43, 230, 147, 15, 2]⟩
def awO : ByteArray := ⟨#[83, 210, 125, 98, 61, 39, 232, 123, 201, 143, 136, 123, 238, 47, 214, 111]⟩
def awX : ByteArray := ⟨#[80, 124, 116, 28, 98, 178, 144, 20, 125, 102, 175, 43, 230, 147, 15, 120, 120]⟩
theorem aw_key : keyB ⟨#[107, 101, 121]⟩ true = awK := by kernel_rfl
theorem aw_non : chunkB ⟨#[110, 111, 110, 99, 101]⟩ = awN := by kernel_rfl
theorem aw_tk : tkB awK = awT := by kernel_rfl
theorem aw_sk : (skB awK).data.toList.take 1 = [234] := by kernel_rfl
theorem aw_tg : tagF awT awN ⟨#[]⟩ ⟨#[]⟩ = awA := by kernel_rfl
theorem aw_od : tagF awT awN ⟨#[]⟩ ⟨#[80]⟩ = awO := by kernel_rfl
theorem aw_ne : skB awK ≠ tkB awK := fun h => by
  have h1 := aw_sk
  rw [h, aw_tk] at h1
  exact absurd h1 (by decide +kernel)
theorem size0 (b : ByteArray) (h : b.size = 0) : b = ⟨#[]⟩ := by
  apply ByteArray.ext
  exact Array.eq_empty_of_size_eq_zero h
theorem hid_none (key n : ByteArray) : hidB key n ⟨#[]⟩ = ⟨#[]⟩ := size0 _ (by rw [hidB_size]; rfl)
theorem aw_box : boxB awK awN ⟨#[]⟩ ⟨#[]⟩ = awA := by
  rw [boxB, hid_none, tgB, aw_tk, aw_tg]
  rfl
theorem aw_cut : awA.extract 0 15 ++ ⟨#[120, 120]⟩ = awX := by kernel_rfl
theorem aw_hd : hdB awX = ⟨#[80]⟩ := by kernel_rfl
theorem aw_tl : (tlB awX).data.toList.getD 15 0 = 120 := by kernel_rfl
theorem aw_differs : tlB awX ≠ tgB awK awN ⟨#[]⟩ (hdB awX) := fun h => by
  have h1 := aw_tl
  rw [h, aw_hd, tgB, aw_tk, aw_od] at h1
  exact absurd h1 (by decide +kernel)
theorem aw_hdA : hdB awA = ⟨#[]⟩ := by kernel_rfl
theorem aw_tlA : tlB awA = awA := by kernel_rfl
end Go.Proofs.YtancchoelmdaiaaGreatDoor
namespace Go.Proofs.YtancchoelmdaiaaGreatDoor
open Go.RowKit Go.Shelf

set_option maxHeartbeats 1000000 in
theorem pick6_any (c n : Int) (w : World) (h0 : -9223372036854775808 ≤ c) (h1 : c ≤ 9223372036854775807) (hn : 0 < n) (hn2 : n ≤ 9223372036854775807) :
    Calls Tryz.prog 12 #[.int .i64 c, .int .i64 n] w fun e w' => e = .returned (.int .i64 (pickN c n)) ∧ w = w' := by
  by_cases hc : c < 0
  · have hd : pickN c n = (-(c + 1)) % n := by simp [pickN, hc]
    rw [hd]
    clear hd
    go_enter Tryz.func12, Tryz.ntmps12
    go_wp2
    go_ret
    refine ⟨?_, rfl⟩
    have e : -((c + 1).tmod n) = (-(c + 1)) % n := by rw [← Int.neg_tmod, Int.tmod_eq_emod_of_nonneg (by omega)]
    rw [← e]
    rfl
  · have hd : pickN c n = c % n := by simp [pickN, hc]
    rw [hd]
    clear hd
    go_enter Tryz.func12, Tryz.ntmps12
    go_wp2
    go_ret
    exact ⟨rfl, rfl⟩

theorem reach8 : 8 ≤ reachBytes := by decide +kernel

set_option maxRecDepth 100000 in
set_option maxHeartbeats 4000000 in
theorem awake6_any (w : World) (hT : Tab w) :
    Calls Tryz.prog 7 #[] w fun e w' => e = .returned (.bool true) ∧ Below w.heap.size w w' := by
  have m0 : ∀ w, Calls Tryz.prog 8 #[.string ⟨#[107, 101, 121]⟩, .bool true] w fun e w' => e = .returned (.string awK) ∧ Below w.heap.size w w' := fun w => by have := key_any ⟨#[107, 101, 121]⟩ true w (Nat.le_trans (by decide) reach8); rwa [aw_key] at this
  have m1 : ∀ w, Calls Tryz.prog 9 #[.string ⟨#[110, 111, 110, 99, 101]⟩] w fun e w' => e = .returned (.string awN) ∧ Below w.heap.size w w' := fun w => by have := chunk_any ⟨#[110, 111, 110, 99, 101]⟩ w (Nat.le_trans (by decide) reach8); rwa [aw_non] at this
  have m2 : ∀ w, Tab w → Calls Tryz.prog 10 #[.string awK, .string awN, .string ⟨#[]⟩, .string ⟨#[]⟩] w fun e w' => e = .returned (.tuple #[.string awA, .int .i64 0]) ∧ Below w.heap.size w w' := fun w hT => by have := shut_ok awK awN ⟨#[]⟩ ⟨#[]⟩ w hT rfl rfl (by decide) (by decide); rwa [aw_box] at this
  have m3 : ∀ w, Tab w → Calls Tryz.prog 11 #[.string awK, .string awN, .string ⟨#[]⟩, .string awA] w fun e w' => e = .returned (.tuple #[.string ⟨#[]⟩, .int .i64 0]) ∧ Below w.heap.size w w' := fun w hT => by have := opn_long awK awN ⟨#[]⟩ awA w hT rfl rfl (by decide) (by decide) (by decide); rwa [if_pos (by rw [aw_tlA, aw_hdA, tgB, aw_tk, aw_tg]), aw_hdA, hid_none] at this
  have m4 : ∀ w, Tab w → Calls Tryz.prog 13 #[.string awK] w fun e w' => e = .returned (.tuple #[.string (skB awK), .string (tkB awK), .int .i64 0]) ∧ Below w.heap.size w w' := fun w hT => keys_ok awK w hT rfl
  have m5 : ∀ w, Tab w → Calls Tryz.prog 11 #[.string awK, .string awN, .string ⟨#[]⟩, .string ⟨#[115, 104, 111, 114, 116]⟩] w fun e w' => e = .returned (.tuple #[.string ⟨#[]⟩, .int .i64 10]) ∧ Below w.heap.size w w' := fun w hT => opn_short awK awN ⟨#[]⟩ ⟨#[115, 104, 111, 114, 116]⟩ w hT rfl rfl (by decide) (by decide)
  have m6 : ∀ w, Tab w → Calls Tryz.prog 11 #[.string awK, .string awN, .string ⟨#[]⟩, .string (awA.extract 0 15 ++ ⟨#[120, 120]⟩)] w fun e w' => e = .returned (.tuple #[.string ⟨#[]⟩, .int .i64 11]) ∧ Below w.heap.size w w' := fun w hT => by have := opn_long awK awN ⟨#[]⟩ awX w hT rfl rfl (by decide) (by decide) (by decide); rwa [if_neg aw_differs, ← aw_cut] at this
  have m7 : ∀ w, Calls Tryz.prog 10 #[.string ⟨#[107, 101, 121]⟩, .string awN, .string ⟨#[]⟩, .string ⟨#[]⟩] w fun e w' => e = .returned (.tuple #[.string ⟨#[]⟩, .int .i64 1]) ∧ Below w.heap.size w w' := fun w => shut_no ⟨#[107, 101, 121]⟩ awN ⟨#[]⟩ ⟨#[]⟩ w (by decide) rfl (by decide)
  have hne := aw_ne
  have hcs := skB_size awK
  have hds := tkB_size awK
  have has : awA.size = 16 := rfl
  have hsl : ∀ wx : World, (Instr.slice 9 (.string awA) none (some (.int .i64 (min (awA.size : Int) 15))) none).run Tryz.prog wx = .ok (.string (awA.extract 0 15)) wx := fun wx =>
    run_slice_string_h (P := Tryz.prog) (w := wx) (t := 9) (s := awA) Tryz.underlying9 .i64 15 (by omega) (by rw [has]; decide)
  have hzs : (awA.extract 0 15).size = 15 := rfl
  generalize awA.extract 0 15 = z at *
  generalize skB awK = c at *
  generalize tkB awK = d at *
  generalize awA = a at *
  generalize awK = k at *
  generalize awN = n at *
  have hll : ¬ (9223372036854775807 < z.size + (⟨#[120, 120]⟩ : ByteArray).size) := by
    have : (⟨#[120, 120]⟩ : ByteArray).size = 2 := rfl
    omega
  have hll2 : ¬ (9223372036854775807 < z.size + 2) := by omega
  have e1 : ((a.size : Int) == 16) = true := by rw [has]; rfl
  have e2 : ((c.size : Int) == 32) = true := by rw [hcs]; rfl
  have e3 : ((d.size : Int) == 32) = true := by rw [hds]; rfl
  have e4 : (c.toList == d.toList) = false := beqL hne
  have M0 := Lib.hid m0
  have M1 := Lib.hid m1
  have M2 := Lib.hid m2
  have M3 := Lib.hid m3
  have M4 := Lib.hid m4
  have M5 := Lib.hid m5
  have M6 := Lib.hid m6
  have M7 := Lib.hid m7
  clear m0 m1 m2 m3 m4 m5 m6 m7
  clear hcs hds has hzs
  go_enter Tryz.func7, Tryz.ntmps7
  go_wp2_with fail
  refine (M0.out _).mono ?_
  rintro e w1 ⟨rfl, hb1⟩
  have hB1 : Below w.heap.size w w1 := hb1
  clear hb1
  go_wp2_with fail
  refine (M1.out _).mono ?_
  rintro e w2 ⟨rfl, hb2⟩
  have hB2 : Below w.heap.size w w2 := hB1.trans (hb2.mono hB1.size)
  clear hb2 hB1
  go_wp2_with fail
  refine (M2.out _ (hT.below hB2 hT.two)).mono ?_
  rintro e w3 ⟨rfl, hb3⟩
  have hB3 : Below w.heap.size w w3 := hB2.trans (hb3.mono hB2.size)
  clear hb3 hB2
  go_wp2_with fail
  refine (M3.out _ (hT.below hB3 hT.two)).mono ?_
  rintro e w4 ⟨rfl, hb4⟩
  have hB4 : Below w.heap.size w w4 := hB3.trans (hb4.mono hB3.size)
  clear hb4 hB3
  go_wp2_with fail
  refine (M4.out _ (hT.below hB4 hT.two)).mono ?_
  rintro e w5 ⟨rfl, hb5⟩
  have hB5 : Below w.heap.size w w5 := hB4.trans (hb5.mono hB4.size)
  clear hb5 hB4
  go_wp2_with fail
  refine (M5.out _ (hT.below hB5 hT.two)).mono ?_
  rintro e w6 ⟨rfl, hb6⟩
  have hB6 : Below w.heap.size w w6 := hB5.trans (hb6.mono hB5.size)
  clear hb6 hB5
  go_wp2_with fail
  refine (M6.out _ (hT.below hB6 hT.two)).mono ?_
  rintro e w7 ⟨rfl, hb7⟩
  have hB7 : Below w.heap.size w w7 := hB6.trans (hb7.mono hB6.size)
  clear hb7 hB6
  go_wp2_with fail
  refine (M7.out _).mono ?_
  rintro e w8 ⟨rfl, hb8⟩
  have hB8 : Below w.heap.size w w8 := hB7.trans (hb8.mono hB7.size)
  clear hb8 hB7
  go_wp2
  go_ret
  exact ⟨rfl, hB8⟩
end Go.Proofs.YtancchoelmdaiaaGreatDoor
namespace Go.Proofs.YtancchoelmdaiaaGreatDoor
open Go.RowKit Go.Shelf

theorem natL_app (a b : ByteArray) : natL (a ++ b) = natL a ++ natL b := by simp [natL]
theorem hd_app (h t : ByteArray) (ht : t.size = 16) : hdB (h ++ t) = h := natL_inj (by
  rw [hdB, natL_extract, natL_app, List.drop_zero, ByteArray.size_append, ht, show h.size + 16 - 16 - 0 = h.size by omega, List.take_left' (natL_len h)])
theorem tl_app (h t : ByteArray) (ht : t.size = 16) : tlB (h ++ t) = t := natL_inj (by
  rw [tlB, natL_extract, natL_app, ByteArray.size_append, ht, show h.size + 16 - 16 = h.size by omega, List.drop_left' (natL_len h), List.take_of_length_le (by rw [natL_len, ht]; omega)])
theorem hd_tl (b : ByteArray) : hdB b ++ tlB b = b := natL_inj (by
  rw [natL_app, hdB, tlB, natL_extract, natL_extract, List.drop_zero, Nat.sub_zero, List.take_of_length_le (l := (natL b).drop (b.size - 16)) (by rw [List.length_drop, natL_len]; omega), List.take_append_drop])
section
variable (key n wi x : ByteArray)
theorem tgB_size (c : ByteArray) : (tgB key n wi c).size = 16 := tagF_size _ _ _ _
theorem box_hd : hdB (boxB key n wi x) = hidB key n x := hd_app _ _ (tgB_size _ _ _ _)
theorem box_tl : tlB (boxB key n wi x) = tgB key n wi (hidB key n x) := tl_app _ _ (tgB_size _ _ _ _)
theorem box_size : (boxB key n wi x).size = x.size + 16 := by rw [boxB, ByteArray.size_append, hidB_size, tgB_size]
theorem hid_back : hidB key n (hidB key n x) = x := xorT_back (skB_may key) x
/-- what was opened, sealed again. -/
theorem box_back (b : ByteArray) (ht : tlB b = tgB key n wi (hdB b)) : boxB key n wi (hidB key n (hdB b)) = b := by
  rw [boxB, hid_back, ← ht, hd_tl b]
theorem box_cut : (boxB key n wi x).extract 0 x.size = hidB key n x := by
  have := box_hd key n wi x
  rwa [hdB, box_size, Nat.add_sub_cancel] at this
theorem box_at {i : Nat} (h : i < x.size) : btN (boxB key n wi x) i = btN (hidB key n x) i := by
  rw [btN, boxB, natL_app, btN, List.getD_eq_getElem?_getD, List.getElem?_append_left (by rw [natL_len, hidB_size]; exact h), List.getD_eq_getElem?_getD]
/-- two texts under one key and nonce. -/
theorem hid_sums (y : ByteArray) {i : Nat} (hx : i < x.size) (hy : i < y.size) : btN (hidB key n x) i ^^^ btN (hidB key n y) i = btN x i ^^^ btN y i := by
  simp only [btN, hidB]
  rw [xorT_nat (skB_may key), xorT_nat (skB_may key)]
  exact xorS_sums _ _ (by rw [natL_len]; exact hx) (by rw [natL_len]; exact hy)
theorem flip_hd (s : ByteArray) (K z : Nat) (h1 : s.size - 16 ≤ K) (h2 : K < s.size) : hdB (flipN s K z) = hdB s := natL_inj (by
  rw [hdB, hdB, flipN_size _ _ _ h2, natL_extract, natL_extract, List.drop_zero, List.drop_zero, Nat.sub_zero, flipN, natL_app, natL_app, natL_extract, List.drop_zero, Nat.sub_zero, List.append_assoc,
    List.take_append_of_le_length (by rw [List.length_take, natL_len]; omega), List.take_take, Nat.min_eq_left h1])
theorem tags_differ {K z : Nat} (h1 : x.size ≤ K) (h2 : K < x.size + 16) (hz : z < 256) (hne : z ≠ btN (boxB key n wi x) K) :
    tlB (flipN (boxB key n wi x) K z) ≠ tgB key n wi (hdB (flipN (boxB key n wi x) K z)) := fun h => by
  have hs := box_size key n wi x
  have hf := flip_hd (boxB key n wi x) K z (by omega) (by omega)
  rw [hf, box_hd, ← box_tl] at h
  refine flipN_ne (boxB key n wi x) K z (by omega) hz hne ?_
  have e := hd_tl (flipN (boxB key n wi x) K z)
  rw [hf, h, hd_tl] at e
  exact e
variable (w : World) (hT : Tab w) (hk : key.size = 32) (hn : n.size = 16) (hw : wi.size ≤ 4096)
include hT hk hn hw
theorem opn_box (hx : x.size ≤ 65536) :
    Calls Tryz.prog 11 #[.string key, .string n, .string wi, .string (boxB key n wi x)] w fun e w' => e = .returned (.tuple #[.string x, .int .i64 0]) ∧ Below w.heap.size w w' := by
  have h := opn_long key n wi (boxB key n wi x) w hT hk hn hw (by rw [box_size]; omega) (by rw [box_size]; omega)
  rwa [box_hd, box_tl, if_pos rfl, hid_back] at h
theorem opn_flip {K z : Nat} (hx : x.size ≤ 65536) (h1 : x.size ≤ K) (h2 : K < x.size + 16) (hz : z < 256) (hne : z ≠ btN (boxB key n wi x) K) :
    Calls Tryz.prog 11 #[.string key, .string n, .string wi, .string (flipN (boxB key n wi x) K z)] w fun e w' => e = .returned (.tuple #[.string ⟨#[]⟩, .int .i64 11]) ∧ Below w.heap.size w w' := by
  have hs := flipN_size (boxB key n wi x) K z (by rw [box_size]; omega)
  rw [box_size] at hs
  have h := opn_long key n wi (flipN (boxB key n wi x) K z) w hT hk hn hw (by omega) (by omega)
  rwa [if_neg (tags_differ key n wi x h1 h2 hz hne)] at h
end
/-- what Open tells of any box: a text that Seal makes this box of; or that it is too short, or that its tag is another one. -/
theorem opn_any (key n wi b : ByteArray) (hk : key.size = 32) (hn : n.size = 16) (hw : wi.size ≤ 4096) (hb : b.size ≤ 65552) :
    ∃ (a : ByteArray) (x : Int), (∀ w, Tab w → Calls Tryz.prog 11 #[.string key, .string n, .string wi, .string b] w fun e w' => e = .returned (.tuple #[.string a, .int .i64 x]) ∧ Below w.heap.size w w') ∧
      ((x = 0 ∧ a.size ≤ 65536 ∧ boxB key n wi a = b) ∨ x = 10 ∨ x = 11) := by
  by_cases h16 : 16 ≤ b.size
  · by_cases ht : tlB b = tgB key n wi (hdB b)
    · refine ⟨hidB key n (hdB b), 0, fun w hT => ?_, Or.inl ⟨rfl, by rw [hidB_size, hdB_size]; omega, box_back key n wi b ht⟩⟩
      have h := opn_long key n wi b w hT hk hn hw h16 hb
      rwa [if_pos ht] at h
    · refine ⟨⟨#[]⟩, 11, fun w hT => ?_, Or.inr (Or.inr rfl)⟩
      have h := opn_long key n wi b w hT hk hn hw h16 hb
      rwa [if_neg ht] at h
  · exact ⟨⟨#[]⟩, 10, fun w hT => opn_short key n wi b w hT hk hn hw (by omega), Or.inr (Or.inl rfl)⟩
end Go.Proofs.YtancchoelmdaiaaGreatDoor
