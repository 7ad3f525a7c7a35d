/-
  Contracts of sync.Once's Do (not yet done, and done), of one goroutine, where the Once stands in cells 1 to 3 of a schedule's block. Conditions: the lock is free.
  Contracts of (*schedule).roundKeys, the first time and later, and of (*schedule).isInner. Conditions: the schedule's key has 16 or 32 bytes; its sync.Once is free.
  Contracts of the iterators (*schedule).inOrder and (*schedule).turnedAbout. Conditions: the schedule's key has 16 or 32 bytes; its sync.Once is free, and not yet done.
  Contract of aes.Encrypt, without error. Conditions: a key of 16 or 32 bytes, a block of 16.
  Contract of aes.Decrypt, without error. Conditions: a key of 16 or 32 bytes, a block of 16.
-/
import Derived.Test.YtfgdcpolfekgjaaGreatGKit
import Derived.Test.YtfgdcpolfekgjaaGreatGAe1
import Derived.Test.YtfgdcpolfekgjaaGreatChecked
import Derived.Defers
import Derived.Laws.Pointers
import Derived.Laws.LoneSync
import Derived.RegionTactic
import Derived.RegionCalls
import Derived.ChangeAlike
import Derived.Laws.NewBlocks
import Derived.Shelf.Abstract
import Derived.Maps.RangeWalk
import Derived.Maps.AppendAt
namespace Go.Proofs.YtfgdcpolfekgjaaGreat
open Go.RowKit Go.Shelf

theorem disable (w : World) : (callFunc 221 #[]).run Tryz.prog w = .ok (.value (.tuple #[])) w := run_call_mark0 Tryz.func221 (by kernel_rfl) (by kernel_rfl) (by kernel_rfl) .disable (by kernel_rfl) w
theorem enable (w : World) : (callFunc 223 #[]).run Tryz.prog w = .ok (.value (.tuple #[])) w := run_call_mark0 Tryz.func223 (by kernel_rfl) (by kernel_rfl) (by kernel_rfl) .enable (by kernel_rfl) w
theorem acquire (a : Addr) (w : World) : (callFunc 224 #[.pointer (some a)]).run Tryz.prog w = .ok (.value (.tuple #[])) w := run_call_marked Tryz.func224 (by kernel_rfl) (by kernel_rfl) (by kernel_rfl) .acquire (by kernel_rfl) a w
theorem releaseMerge (a : Addr) (w : World) : (callFunc 226 #[.pointer (some a)]).run Tryz.prog w = .ok (.value (.tuple #[])) w := run_call_marked Tryz.func226 (by kernel_rfl) (by kernel_rfl) (by kernel_rfl) .releaseMerge (by kernel_rfl) a w

/-- '(*sync/atomic.Bool).Store(true)', entered as a deferred call: the cell holds 1. -/
theorem store_deferred (a : Addr) (x : Value) (u : FrameMode) (w : World) (hc : w.cell? a = some x) (hz : w.frozen? a = false) :
    CallsD Tryz.prog 205 #[.pointer (some a), .bool true] u w fun e u' w' => u' = u ∧ (e = .returned (.tuple #[]) ∧ w' = w.drew.setCell a (.int .u32 1)) := by
  have hc' : w.drew.cell? a = some x := by go_simp
  have hz' : w.drew.frozen? a = false := by go_simp
  have hst := run_call_store (P := Tryz.prog) Tryz.func216 (by kernel_rfl) (by kernel_rfl) (by kernel_rfl) (by kernel_rfl) (k := .u32) (y := 1) hc' hz'
  go_enter_d Tryz.func205, Tryz.ntmps205
  go_wp2
  go_region_calls
  all_goals (go_end0; exact ⟨rfl, rfl⟩)

set_option maxRecDepth 100000 in
set_option maxHeartbeats 1600000 in
/-- '(*sync.Mutex).Unlock', entered as a deferred call, the lock held and nobody waiting (state 1): state 0. -/
theorem unlock_deferred (a : Addr) (u : FrameMode) (w : World) (hc : w.cell? a = some (.int .i32 1)) (hz : w.frozen? a = false) :
    CallsD Tryz.prog 204 #[.pointer (some a)] u w fun e u' w' => u' = u ∧ (e = .returned (.tuple #[]) ∧ w' = w.setCell a (.int .i32 0)) := by
  have hd := disable
  have he := enable
  have hr := releaseMerge
  have hadd := run_call_add (P := Tryz.prog) Tryz.func227 (by kernel_rfl) (by kernel_rfl) (by kernel_rfl) .i32 (by kernel_rfl) (y := -1) (s := 0) hc hz (by simp [go_sem]; rfl)
  have hcv := run_convert_to_unsafe (P := Tryz.prog) (src := 270) (dst := 274) Tryz.underlying270 Tryz.underlying274 (by kernel_rfl) hc
  go_enter_d Tryz.func204, Tryz.ntmps204
  go_wp2
  go_end0
  go_wp2
  go_end0
  exact ⟨rfl, rfl⟩

set_option maxRecDepth 100000 in
set_option maxHeartbeats 1600000 in
/-- '(*sync.Mutex).Lock', the lock free (state 0): state 1. -/
theorem lock_free (a : Addr) (w : World) (hc : w.cell? a = some (.int .i32 0)) (hz : w.frozen? a = false) :
    Calls Tryz.prog 203 #[.pointer (some a)] w fun e w' => e = .returned (.tuple #[]) ∧ w' = w.setCell a (.int .i32 1) := by
  have hd := disable
  have he := enable
  have ha := acquire
  have hcas := run_call_cas_hit (P := Tryz.prog) Tryz.func222 (by kernel_rfl) (by kernel_rfl) (by kernel_rfl) .i32 (by kernel_rfl) (y := 1) hc hz
  have hc' : (w.setCell a (.int .i32 1)).cell? a = some (.int .i32 1) := World.cell?_setCell_same w a _ hc
  have hcv := run_convert_to_unsafe (P := Tryz.prog) (src := 270) (dst := 274) Tryz.underlying270 Tryz.underlying274 (by kernel_rfl) hc'
  go_enter Tryz.func203, Tryz.ntmps203
  go_wp2
  first | go_end0 | (simp only [Exit.inBlock, Exit.then]; refine bodyPost_ret (results_none rfl _ _ _) rfl ?_) | refine bodyPost_ret (results_none rfl _ _ _) rfl ?_
  go_wp2
  go_end0
  exact ⟨rfl, rfl⟩

set_option maxRecDepth 100000 in
theorem bool_load (a : Addr) (x : Int) (w : World) (hc : w.cell? a = some (.int .u32 x)) :
    Calls Tryz.prog 190 #[.pointer (some a)] w fun e w' => e = .returned (.bool (x != 0)) ∧ w' = w := by
  have hl := run_call_load (P := Tryz.prog) Tryz.func202 (by kernel_rfl) (by kernel_rfl) (by kernel_rfl) .u32 (by kernel_rfl) hc
  go_enter Tryz.func190, Tryz.ntmps190
  go_wp2
  go_ret
  exact ⟨rfl, rfl⟩

/-- a schedule's cells: the key, whether it is done, the lock's state, the round keys. -/
abbrev sch (key : ByteArray) (d st : Int) (v : Value) : Array Value := #[.string key, .int .u32 d, .int .i32 st, .int .u32 0, v]
variable (F : FuncId) (T : TypeId)

set_option maxRecDepth 100000 in
set_option maxHeartbeats 1600000 in
/-- '(*sync.Once).doSlow', not yet done and the lock free. -/
theorem slow_any (s : Nat) (pl : Addr) (key : ByteArray) (v0 : Value) (Q : Value → World → Prop) (w : World) (hs : Is w s T (sch key 0 0 v0))
    (hcl : Is (w.setCell ⟨s, 2, none⟩ (.int .i32 1)) s T (sch key 0 1 v0) → Calls Tryz.prog F #[.pointer (some pl)] (w.setCell ⟨s, 2, none⟩ (.int .i32 1)) fun e W' => e = .returned (.tuple #[]) ∧ ∃ v, Is W' s T (sch key 0 1 v) ∧ Q v W')
    (hE : Enters Tryz.prog F) (hQ : ∀ v W i u, Q v W → Q v (W.setCell ⟨s, i, none⟩ u)) (hQd : ∀ v W, Q v W → Q v W.drew) :
    Calls Tryz.prog 191 #[.pointer (some ⟨s, 1, none⟩), .func (.func F) #[] #[.pointer (some pl)]] w fun e w' => e = .returned (.tuple #[]) ∧ ∃ v, Is w' s T (sch key 1 0 v) ∧ Q v w' := by
  have h1 : Is (w.setCell ⟨s, 2, none⟩ (.int .i32 1)) s T (sch key 0 1 v0) := hs.set 2 _
  have H1 := Lib.hid h1
  have HCL := Lib.hid (hcl h1)
  have hl := bool_load ⟨s, 1, none⟩ 0 (w.setCell ⟨s, 2, none⟩ (.int .i32 1)) (h1.cell 1)
  have c2 := hs.cell 2
  have f2 := hs.frozen 2
  clear hcl h1 hs
  have hen := hE #[.pointer (some pl)]
  have hnot : ∀ (x : Bool) (w : World), (Op.unary .not (.bool x)).run Tryz.prog w = .ok (.bool (!x)) w := fun _ _ => rfl
  go_enter_defers Tryz.func191, Tryz.ntmps191
  go_wp2_with (first | (go_at_call 203; refine (lock_free ⟨s, 2, none⟩ _ (by go_simp) (by go_simp)).mono ?_; rintro e w' ⟨rfl, rfl⟩) | (go_at_call 190; refine hl.mono ?_; rintro e w' ⟨rfl, rfl⟩))
  refine HCL.out.mono ?_
  rintro e W ⟨rfl, v, hW, hv⟩
  go_wp2
  refine leaves_cons (f := 205) (args := #[.pointer (some ⟨s, 1, none⟩), .bool true]) (by simp) (by simp [go_sem]) ?_
  refine (store_deferred ⟨s, 1, none⟩ (.int .u32 0) .returning _ (hW.cell 1) (hW.frozen 1)).mono ?_
  rintro e u' w'' ⟨rfl, rfl, rfl⟩
  have hW2 : Is (W.drew.setCell ⟨s, 1, none⟩ (.int .u32 1)) s T (sch key 1 1 v) := Is.set (w := W.drew) hW 1 _
  have hv2 := hQ _ _ 1 (.int .u32 1) (hQd _ _ hv)
  refine leaves_cons (f := 204) (args := #[.pointer (some ⟨s, 2, none⟩)]) (by simp [settle]) (by simp [go_sem]) ?_
  refine (unlock_deferred ⟨s, 2, none⟩ _ _ (hW2.cell 2) (hW2.frozen 2)).mono ?_
  rintro e u' w'' ⟨rfl, rfl, rfl⟩
  have hW3 : Is _ s T (sch key 1 0 v) := hW2.set 2 (.int .i32 0)
  have hv3 := hQ _ _ 2 (.int .i32 0) hv2
  simp [Leaves, settle, results, Tryz.results191]
  exact ⟨v, hW3, hv3⟩

set_option maxRecDepth 100000 in
set_option maxHeartbeats 1600000 in
/-- '(*sync.Once).Do', not yet done, the lock free. -/
theorem do_first (s : Nat) (pl : Addr) (key : ByteArray) (v0 : Value) (Q : Value → World → Prop) (w : World) (hs : Is w s T (sch key 0 0 v0))
    (hcl : Is (w.setCell ⟨s, 2, none⟩ (.int .i32 1)) s T (sch key 0 1 v0) → Calls Tryz.prog F #[.pointer (some pl)] (w.setCell ⟨s, 2, none⟩ (.int .i32 1)) fun e W' => e = .returned (.tuple #[]) ∧ ∃ v, Is W' s T (sch key 0 1 v) ∧ Q v W')
    (hE : Enters Tryz.prog F) (hQ : ∀ v W i u, Q v W → Q v (W.setCell ⟨s, i, none⟩ u)) (hQd : ∀ v W, Q v W → Q v W.drew) :
    Calls Tryz.prog 169 #[.pointer (some ⟨s, 1, none⟩), .func (.func F) #[] #[.pointer (some pl)]] w fun e w' => e = .returned (.tuple #[]) ∧ ∃ v, Is w' s T (sch key 1 0 v) ∧ Q v w' := by
  have HS := Lib.hid (slow_any F T s pl key v0 Q w hs hcl hE hQ hQd)
  have hl := bool_load ⟨s, 1, none⟩ _ w (hs.cell 1)
  clear hcl hE hQ hQd hs
  have hnot : ∀ (x : Bool) (w : World), (Op.unary .not (.bool x)).run Tryz.prog w = .ok (.bool (!x)) w := fun _ _ => rfl
  go_enter Tryz.func169, Tryz.ntmps169
  go_wp2_with (first | (go_at_call 191; refine HS.out.mono ?_; rintro e w' ⟨rfl, hx⟩) | (go_at_call 190; refine hl.mono ?_; rintro e w' ⟨rfl, rfl⟩))
  go_end0
  exact ⟨rfl, hx⟩

set_option maxRecDepth 100000 in
/-- '(*sync.Once).Do', done already: the function is not called. -/
theorem do_done (s : Nat) (key : ByteArray) (v fv : Value) (w : World) (hs : Is w s T (sch key 1 0 v)) :
    Calls Tryz.prog 169 #[.pointer (some ⟨s, 1, none⟩), fv] w fun e w' => e = .returned (.tuple #[]) ∧ w' = w := by
  have hl := bool_load ⟨s, 1, none⟩ _ w (hs.cell 1)
  have hnot : ∀ (x : Bool) (w : World), (Op.unary .not (.bool x)).run Tryz.prog w = .ok (.bool (!x)) w := fun _ _ => rfl
  clear hs
  go_enter Tryz.func169, Tryz.ntmps169
  go_wp2_with (go_at_call 190; refine hl.mono ?_; rintro e w' ⟨rfl, rfl⟩)
  go_end0
  exact ⟨rfl, rfl⟩
end Go.Proofs.YtfgdcpolfekgjaaGreat
namespace Go.Proofs.YtfgdcpolfekgjaaGreat
open Go.RowKit Go.Shelf

theorem grownOf {W W1 : World} (hb : Below W.heap.size W W1) : W.grownBy W1 none := ⟨hb.os, hb.tape, hb.output, hb.size, fun k hk _ => hb.block k hk⟩
theorem grownSet (w : World) (p : Addr) (v : Value) : w.grownBy (w.setCell p v) (some p.block) :=
  ⟨rfl, rfl, rfl, by simp [World.setCell], fun k _ hne => heap_setCell_other w p k v (fun e => hne (by rw [e]))⟩
theorem grownDrew {w W : World} {r : Option Nat} (h : w.grownBy W r) : w.grownBy W.drew r := ⟨h.os, h.tape, h.output, h.size, h.block⟩

/-- what the round keys are, once they are made: a slice of its own block. -/
def KeysAt (w0 : World) (s n : Nat) (D : List Nat) (v : Value) (W : World) : Prop :=
  ∃ h, v = .slice (some ⟨h, 0, none⟩) (n + 7) (n + 7) ∧ Is W h 233 (nA D) ∧ h ≠ s ∧ w0.heap.size ≤ h ∧ w0.grownBy W (some s)
theorem KeysAt.set {w0 W : World} {s n : Nat} {D : List Nat} {v : Value} (i : Nat) (u : Value) (h : KeysAt w0 s n D v W) : KeysAt w0 s n D v (W.setCell ⟨s, i, none⟩ u) := by
  obtain ⟨k, h1, h2, h3, h4, h5⟩ := h
  exact ⟨k, h1, h2.far (p := ⟨s, i, none⟩) h3 u, h3, h4, h5.trans (grownSet W ⟨s, i, none⟩ u)⟩
theorem KeysAt.drew {w0 W : World} {s n : Nat} {D : List Nat} {v : Value} (h : KeysAt w0 s n D v W) : KeysAt w0 s n D v W.drew := by
  obtain ⟨k, h1, h2, h3, h4, h5⟩ := h
  exact ⟨k, h1, h2, h3, h4, grownDrew h5⟩

set_option maxRecDepth 100000 in
set_option maxHeartbeats 1000000 in
theorem rk1_any (s : Nat) (pl : Addr) (key : ByteArray) (n : Nat) (v0 : Value) (w : World) (hk : KeyN (natL key) n) (hs : Is w s 231 (sch key 0 1 v0)) (cp : w.cell? pl = some (.pointer (some ⟨s, 0, none⟩))) (hpl : pl.block < w.heap.size) (hps : s ≠ pl.block) :
    Calls Tryz.prog 206 #[.pointer (some pl)] w fun e w' => e = .returned (.tuple #[]) ∧ ∃ v, Is w' s 231 (sch key 0 1 v) ∧ KeysAt w s n (expB (natL key)) v w' := by
  have HE := Lib.hid (fun w => expanded_any key n w hk)
  have HL := Lib.hid (show (expB (natL key)).length = (n + 7) * 16 by rw [hk.expLen]; omega)
  have HN15 := Lib.hid (show n + 7 ≤ 15 by have := hk.two; omega)
  have HN1 := Lib.hid (show 1 ≤ n + 7 by omega)
  have c0 : w.cell? ⟨s, 0, none⟩ = some (.string key) := hs.cell 0
  clear hk
  go_enter Tryz.func206, Tryz.ntmps206
  go_wp2
  refine wp_region_held_drew (S := fun W => W.cell? pl = some (.pointer (some ⟨s, 0, none⟩)) ∧ W.cell? ⟨s, 0, none⟩ = some (.string key)) (by kernel_rfl) ⟨cp, c0⟩ (fun hS => ?_)
  change wpAnyH _ _ (opsOf Tryz.f206 0) _ _ 10 (Array.replicate 10 false) _ _
  refine wpAnyH_pure (i := 0) (v := .pointer (some ⟨s, 0, none⟩)) (at_nth rfl) (by kernel_rfl) (by kernel_rfl) (by kernel_rfl) (fun _ _ _ h => h) (by kernel_rfl) (fun w hSw => by (obtain ⟨z1, z2⟩ := hSw; go_simp)) hS ?_
  simp only [Act.put, List.setIfInBounds_toArray, List.set_cons_succ, List.set_cons_zero]
  refine wpAnyH_pure (i := 1) (v := .pointer (some ⟨s, 0, none⟩)) (at_nth rfl) (by kernel_rfl) (by kernel_rfl) (by kernel_rfl) (fun _ _ _ h => h) (by kernel_rfl) (fun w hSw => by (obtain ⟨z1, z2⟩ := hSw; go_simp)) hS ?_
  simp only [Act.put, List.setIfInBounds_toArray, List.set_cons_succ, List.set_cons_zero]
  refine wpAnyH_pure (i := 2) (v := .pointer (some ⟨s, 0, none⟩)) (at_nth rfl) (by kernel_rfl) (by kernel_rfl) (by kernel_rfl) (fun _ _ _ h => h) (by kernel_rfl) (fun w hSw => by go_simp) hS ?_
  simp only [Act.put, List.setIfInBounds_toArray, List.set_cons_succ, List.set_cons_zero]
  refine wpAnyH_pure (i := 3) (v := .pointer (some ⟨s, 0, none⟩)) (at_nth rfl) (by kernel_rfl) (by kernel_rfl) (by kernel_rfl) (fun _ _ _ h => h) (by kernel_rfl) (fun w hSw => by go_simp) hS ?_
  simp only [Act.put, List.setIfInBounds_toArray, List.set_cons_succ, List.set_cons_zero]
  refine wpAnyH_pure (i := 4) (v := .string key) (at_nth rfl) (by kernel_rfl) (by kernel_rfl) (by kernel_rfl) (fun _ _ _ h => h) (by kernel_rfl) (fun w hSw => by (obtain ⟨z1, z2⟩ := hSw; go_simp)) hS ?_
  simp only [Act.put, List.setIfInBounds_toArray, List.set_cons_succ, List.set_cons_zero]
  refine wpAnyH_call (i := 5) (by kernel_rfl) (at_nth rfl) (by kernel_rfl) (fun w => by kernel_rfl) ((HE.out _).mono ?_)
  rintro e w1 ⟨g, rfl, iG, hgB, h1⟩
  have jS : Is w1 s 231 (sch key 0 1 v0) := Is.below (w := w.drew) hs h1 hs.lt
  have jp : w1.cell? pl = some (.pointer (some ⟨s, 0, none⟩)) := (h1.cell (p := pl) hpl).trans cp
  have j0 : w1.cell? ⟨s, 0, none⟩ = some (.string key) := jS.cell 0
  have h1b : Below w.heap.size w w1 := ⟨h1.os, h1.tape, h1.output, h1.size, h1.block⟩
  refine ⟨_, rfl, ⟨jp, j0⟩, ?_⟩
  try simp only [Act.put, List.setIfInBounds_toArray, List.set_cons_succ, List.set_cons_zero]
  refine wpAnyH_call (i := 6) (by kernel_rfl) (at_nth rfl) (by kernel_rfl) (fun w => by kernel_rfl) ((squaresOf_any (expB (natL key)) (n + 7) g w1 HL.out HN15.out HN1.out iG).mono ?_)
  rintro e w2 ⟨h, rfl, iH, hhB, h2⟩
  have kS : Is w2 s 231 (sch key 0 1 v0) := Is.below (w := w1) jS h2 jS.lt
  have kp : w2.cell? pl = some (.pointer (some ⟨s, 0, none⟩)) := (h2.cell (p := pl) (Nat.lt_of_lt_of_le hpl h1.size)).trans jp
  have k0 : w2.cell? ⟨s, 0, none⟩ = some (.string key) := kS.cell 0
  have hB : Below w.heap.size w w2 := h1b.trans (h2.mono h1b.size)
  refine ⟨_, rfl, ⟨kp, k0⟩, ?_⟩
  try simp only [Act.put, List.setIfInBounds_toArray, List.set_cons_succ, List.set_cons_zero]
  refine wpAnyH_pure (i := 7) (v := .pointer (some ⟨s, 0, none⟩)) (at_nth rfl) (by kernel_rfl) (by kernel_rfl) (by kernel_rfl) (fun _ _ _ h => h) (by kernel_rfl) (fun w hSw => by go_simp) ⟨kp, k0⟩ ?_
  simp only [Act.put, List.setIfInBounds_toArray, List.set_cons_succ, List.set_cons_zero]
  refine wpAnyH_pure (i := 8) (v := .pointer (some ⟨s, 4, none⟩)) (at_nth rfl) (by kernel_rfl) (by kernel_rfl) (by kernel_rfl) (fun _ _ _ h => h) (by kernel_rfl) (fun w hSw => by go_simp) ⟨kp, k0⟩ ?_
  simp only [Act.put, List.setIfInBounds_toArray, List.set_cons_succ, List.set_cons_zero]
  have k4 : w2.cell? ⟨s, 4, none⟩ = some v0 := kS.cell 4
  have f4 := kS.frozen 4
  refine wpAnyH_step (i := 9) (by kernel_rfl) (at_nth rfl) (by kernel_rfl) (fun Kc hKc => ?_)
  go_simp
  have mS := kS.set 4 (.slice (some ⟨h, 0, none⟩) (n + 7) (n + 7))
  have hsh : h ≠ s := by have := jS.lt; omega
  have mH := iH.far (p := ⟨s, 4, none⟩) hsh (.slice (some ⟨h, 0, none⟩) (n + 7) (n + 7))
  have mp : (w2.setCell ⟨s, 4, none⟩ (.slice (some ⟨h, 0, none⟩) (n + 7) (n + 7))).cell? pl = some (.pointer (some ⟨s, 0, none⟩)) := (World.cell?_setCell_other _ _ _ _ (fun e => hps (congrArg Addr.block e))).trans kp
  have m0 := mS.cell 0
  have hG : w.grownBy (w2.setCell ⟨s, 4, none⟩ (.slice (some ⟨h, 0, none⟩) (n + 7) (n + 7))) (some s) := ((grownOf hB).but (some s)).trans (grownSet w2 ⟨s, 4, none⟩ _)
  refine hKc.out _ _ ⟨mp, m0⟩ (fun _ => ?_)
  clear hKc Kc
  try simp only [Act.put, List.setIfInBounds_toArray, List.set_cons_succ, List.set_cons_zero]
  refine wpAnyH_done (by kernel_rfl) ?_ _
  go_wp2
  go_end0
  exact ⟨rfl, _, mS, h, rfl, mH, hsh, by have := h1b.size; omega, hG⟩

set_option maxRecDepth 100000 in
set_option maxHeartbeats 1000000 in
/-- the first time: they are made, and laid into the schedule. -/
theorem roundKeys_first (s : Nat) (key : ByteArray) (n : Nat) (v0 : Value) (w : World) (hk : KeyN (natL key) n) (hs : Is w s 231 (sch key 0 0 v0)) :
    Calls Tryz.prog 193 #[.pointer (some ⟨s, 0, none⟩)] w fun e w' => ∃ h, e = .returned (.slice (some ⟨h, 0, none⟩) (n + 7) (n + 7)) ∧ Is w' s 231 (sch key 1 0 (.slice (some ⟨h, 0, none⟩) (n + 7) (n + 7))) ∧ Is w' h 233 (nA (expB (natL key))) ∧ h ≠ s ∧ w.heap.size ≤ h ∧ w.grownBy w' (some s) := by
  have hsl := hs.lt
  obtain ⟨W1, hW1⟩ : ∃ W1, W1 = w.alloc (.cells #[.pointer (some ⟨s, 0, none⟩)] 245) := ⟨_, rfl⟩
  have iP : Is W1 w.heap.size 245 #[.pointer (some ⟨s, 0, none⟩)] := by rw [hW1]; exact Is.new w _ _
  have iS : Is W1 s 231 (sch key 0 0 v0) := by rw [hW1]; exact hs.alloc _
  have hz1 : W1.heap.size = w.heap.size + 1 := by rw [hW1]; simp
  have hB1 : Below w.heap.size w W1 := by rw [hW1]; exact (Below.refl _ _).alloc (Nat.le_refl _) _
  have hps : s ≠ w.heap.size := by omega
  have hdo := do_first 206 231 s ⟨w.heap.size, 0, none⟩ key v0 (KeysAt W1 s n (expB (natL key))) W1 iS (fun h1 => by
    have iP2 := iP.far (p := ⟨s, 2, none⟩) (Ne.symm hps) (.int .i32 1)
    have := rk1_any s ⟨w.heap.size, 0, none⟩ key n v0 (W1.setCell ⟨s, 2, none⟩ (.int .i32 1)) hk h1 (iP2.cell 0) (by show w.heap.size < _; exact iP2.lt) hps
    refine this.mono fun e W' hx => ⟨hx.1, ?_⟩
    obtain ⟨_, v, g1, h, g2, g3, g4, g5, g6⟩ := hx
    exact ⟨v, g1, h, g2, g3, g4, by simpa [World.setCell] using g5, (grownSet W1 ⟨s, 2, none⟩ _).trans g6⟩) (enters_of Tryz.func206 (by kernel_rfl) rfl) (fun v W i u h => h.set i u) (fun v W h => h.drew)
  have HDO := Lib.hid hdo
  have cP := iP.cell 0
  have hmf : ∀ (fn : Fn) (first cap : Array Value) (w : World), (Instr.makeFunc fn first cap).run Tryz.prog w = .ok (.func fn first cap) w := fun _ _ _ _ => rfl
  have HW := Lib.hid hW1
  have HZ := Lib.hid hz1
  have HG0 := Lib.hid (grownOf hB1)
  have hW := hW1.symm
  clear hdo iS hB1 hz1 hk hs hW1
  go_enter Tryz.func193, Tryz.ntmps193
  go_wp2_with (go_at_call 169; refine HDO.out.mono ?_; rintro e W2 ⟨rfl, v, iS2, h, rfl, iH2, hne, hge, hgr⟩; have iP2 : Is W2 w.heap.size 245 #[.pointer (some ⟨s, 0, none⟩)] := (hgr.block _ iP.lt (by intro hx; cases hx; exact hps rfl)).trans iP; have cP2 := iP2.cell 0; have cS4 := iS2.cell 4)
  refine bodyPost_ret (v := .slice (some ⟨h, 0, none⟩) (n + 7) (n + 7)) (by simp [results, Tryz.results193, go_sem]) rfl ⟨h, rfl, iS2, iH2, hne, by have := HZ.out; omega, (HG0.out.but (some s)).trans hgr⟩

set_option maxRecDepth 100000 in
set_option maxHeartbeats 1000000 in
/-- later: they are told as they are. -/
theorem roundKeys_done (s : Nat) (key : ByteArray) (n h : Nat) (w : World) (hs : Is w s 231 (sch key 1 0 (.slice (some ⟨h, 0, none⟩) n n))) :
    Calls Tryz.prog 193 #[.pointer (some ⟨s, 0, none⟩)] w fun e w' => e = .returned (.slice (some ⟨h, 0, none⟩) n n) ∧ Below w.heap.size w w' := by
  obtain ⟨W1, hW1⟩ : ∃ W1, W1 = w.alloc (.cells #[.pointer (some ⟨s, 0, none⟩)] 245) := ⟨_, rfl⟩
  have iP : Is W1 w.heap.size 245 #[.pointer (some ⟨s, 0, none⟩)] := by rw [hW1]; exact Is.new w _ _
  have iS : Is W1 s 231 (sch key 1 0 (.slice (some ⟨h, 0, none⟩) n n)) := by rw [hW1]; exact hs.alloc _
  have hB1 : Below w.heap.size w W1 := by rw [hW1]; exact (Below.refl _ _).alloc (Nat.le_refl _) _
  have cP := iP.cell 0
  have cS4 := iS.cell 4
  have HDO := Lib.hid (fun fv => do_done 231 s key (.slice (some ⟨h, 0, none⟩) n n) fv W1 iS)
  have hmf : ∀ (fn : Fn) (first cap : Array Value) (w : World), (Instr.makeFunc fn first cap).run Tryz.prog w = .ok (.func fn first cap) w := fun _ _ _ _ => rfl
  have hW := hW1.symm
  clear iS hs hW1
  go_enter Tryz.func193, Tryz.ntmps193
  go_wp2_with (go_at_call 169; refine (HDO.out _).mono ?_; rintro e W2 ⟨rfl, rfl⟩)
  exact bodyPost_ret (v := .slice (some ⟨h, 0, none⟩) n n) (by simp [results, Tryz.results193, go_sem]) rfl ⟨rfl, hB1⟩

/-- is a round an inner one? -/
def innB (r n : Nat) : Bool := decide (0 < r) && decide (r < n)
set_option maxRecDepth 100000 in
set_option maxHeartbeats 1000000 in
theorem isInner_any (s : Nat) (key : ByteArray) (n h r : Nat) (w : World) (hn : n ≤ 100) (hr : r ≤ 100) (hs : Is w s 231 (sch key 1 0 (.slice (some ⟨h, 0, none⟩) (n + 1) (n + 1)))) :
    Calls Tryz.prog 180 #[.pointer (some ⟨s, 0, none⟩), .int .i64 (r : Int)] w fun e w' => e = .returned (.bool (innB r n)) ∧ Below w.heap.size w w' := by
  have HR := Lib.hid (roundKeys_done s key (n + 1) h w hs)
  clear hs
  by_cases h0 : 0 < r
  · have e1 : decide ((0 : Int) < (r : Int)) = true := by simp; omega
    have e1' : decide (0 < r) = true := by simp; omega
    by_cases h1 : r < n
    · have e2 : decide ((r : Int) < (n : Int)) = true := by simp; omega
      have e2' : decide (r < n) = true := by simp; omega
      have HB := Lib.hid (show innB r n = true by unfold innB; rw [e1', e2']; rfl)
      go_enter Tryz.func180, Tryz.ntmps180
      go_wp2_with (go_at_call 193; refine HR.out.mono ?_; rintro e w1 ⟨rfl, hb⟩)
      go_ret
      exact ⟨by rw [HB.out]; rfl, hb⟩
    · have e2 : decide ((r : Int) < (n : Int)) = false := by simp; omega
      have e2' : decide (r < n) = false := by simp; omega
      have HB := Lib.hid (show innB r n = false by unfold innB; rw [e1', e2']; rfl)
      go_enter Tryz.func180, Tryz.ntmps180
      go_wp2_with (go_at_call 193; refine HR.out.mono ?_; rintro e w1 ⟨rfl, hb⟩)
      go_ret
      exact ⟨by rw [HB.out]; rfl, hb⟩
  · obtain rfl : r = 0 := by omega
    have HB := Lib.hid (show innB 0 n = false by unfold innB; rfl)
    go_enter Tryz.func180, Tryz.ntmps180
    go_wp2
    go_ret
    exact ⟨by rw [HB.out]; rfl, Below.refl _ _⟩
end Go.Proofs.YtfgdcpolfekgjaaGreat
namespace Go.Proofs.YtfgdcpolfekgjaaGreat
open Go.RowKit Go.Shelf
attribute [local go_sem] Oper.semAt_some

/-- the round keys are made. -/
def MadeK (s n B : Nat) (key : ByteArray) (W : World) : Prop := ∃ h, Is W s 231 (sch key 1 0 (.slice (some ⟨h, 0, none⟩) (n + 7) (n + 7))) ∧ Is W h 233 (nA (expB (natL key))) ∧ h ≠ s ∧ B ≤ h
/-- what is told of a round. -/
def encK (key : ByteArray) (i : Nat) : Array Value := #[.int .i64 (i : Int), .agg (nA (keyK (natL key) i))]

set_option maxRecDepth 100000 in
set_option maxHeartbeats 1000000 in
theorem inOrder_in (m : Nat) (s : Nat) (w : World) :
    CallsIn Fence.wide m Tryz.prog 176 #[.pointer (some ⟨s, 0, none⟩)] w fun e w' => e = .returned (.func (.func 192) #[] #[.pointer (some ⟨w.heap.size, 0, none⟩)]) ∧
      w' = w.alloc (.cells #[.pointer (some ⟨s, 0, none⟩)] 245) := by
  refine callsIn_of_wp Tryz.func176 rfl trivial ?_ rfl
  simp only [Tryz.ntmps176, List.size_toArray, List.length_cons, List.length_nil, Nat.reduceAdd, Nat.reduceSub, Array.replicate_succ, Array.replicate_zero, List.push_toArray, List.append_toArray, List.nil_append, List.cons_append]
  gi_wp2
  go_ret
  exact ⟨rfl, rfl⟩

set_option maxRecDepth 100000 in
set_option maxHeartbeats 1000000 in
theorem inOrder_made (m : Nat) (hm : 1 ≤ m) (s Bp Bb n : Nat) (key : ByteArray) (v0 : Value) (w : World) (hk : KeyN (natL key) n) (hs : Is w s 231 (sch key 0 0 v0)) (hp : Is w Bp 245 #[.pointer (some ⟨s, 0, none⟩)]) (hsb : s ≠ Bb) (hbb : Bb < w.heap.size) :
    SeqMade Fence.wide m Tryz.prog 192 #[.pointer (some ⟨Bp, 0, none⟩)] (encK key) Bb s (MadeK s n w.heap.size key) (List.range (n + 7)) w := by
  intro l J W hW hA hM hY
  have hsW := hs.below hW hs.lt
  have hpW := hp.below hW hp.lt
  have HRK := Lib.hid (roundKeys_first s key n v0 W hk hsW)
  have cP := hpW.cell 0
  have HWS := Lib.hid hW.size
  have HDL := Lib.hid hk.expLen
  have hn8 : n ≤ 8 := by have := hk.two; omega
  have HZ : Hid (zer16.length = 16) := Lib.hid rfl
  clear hs hp hW hsW hpW hk
  refine callsIn_of_wp Tryz.func192 rfl trivial ?_ rfl
  simp only [Tryz.ntmps192, List.size_toArray, List.length_cons, List.length_nil, Nat.reduceAdd, Nat.reduceSub, Array.replicate_succ, Array.replicate_zero, List.push_toArray, List.append_toArray, List.nil_append, List.cons_append]
  gi_wp2_with (refine ⟨trivial, ?_⟩; gi_at_call 193; refine (callsIn_wide.2 HRK.out).mono ?_; rintro e W1 ⟨h, rfl, iS, iH, hne, hge, hgr⟩; have hhB : w.heap.size ≤ h := Nat.le_trans HWS.out hge; have hJ0 : J 0 W1 := hM W1 hgr ⟨h, iS, iH, hne, hhB⟩)
  have hhb : h ≠ Bb := by omega
  clear hge hgr hM cP
  gi_loopw [8] (fun a wr => ∃ i : Nat, i ≤ n + 7 ∧ a = .int .i64 (i : Int) ∧ Is wr s 231 (sch key 1 0 (.slice (some ⟨h, 0, none⟩) (n + 7) (n + 7))) ∧ Is wr h 233 (nA (expB (natL key))) ∧ J i wr)
    (fun a _ => n + 7 - (intOf a).toNat)
  case atStart => exact ⟨0, by omega, rfl, iS, iH, hJ0⟩
  case round =>
    clear iS iH hJ0
    obtain ⟨i, hi, rfl, iS, iH, hJ⟩ := hrel
    by_cases hlt : i < n + 7
    · have hi1 : (i : Int) < ((n + 7 : Nat) : Int) := by omega
      have hi2 : (i : Int) < (n : Int) + 7 := by omega
      have hR : wr.rangeAt h (i * 16) (nL (keyK (natL key) i)) := by
        have h0 := nA_range iH (i * 16) 16
        rw [← sqL, ← keyK_sq] at h0
        exact h0
      have hkl : (keyK (natL key) i).length = 16 := by rw [keyK_sq, sqL, List.length_take, List.length_drop, HDL.out]; omega
      have hsz : (Tryz.prog.info? 233).map (·.size) = some (nA (keyK (natL key) i)).size := by rw [nA_size, hkl]; exact info16
      have hone := nA_one (keyK (natL key) i)
      have HKL := Lib.hid hkl
      obtain ⟨w2, hw2⟩ : ∃ w2, w2 = wr.alloc (.cells (nA (keyK (natL key) i)) 233) := ⟨_, rfl⟩
      have hb2 : Below wr.heap.size wr w2 := by rw [hw2]; exact (Below.refl _ _).alloc (Nat.le_refl _) _
      have i2 : Is w2 wr.heap.size 233 (nA (keyK (natL key) i)) := by rw [hw2]; exact Is.new wr _ _
      have jS := iS.below hb2 iS.lt
      have jH := iH.below hb2 iH.lt
      have hJ2 := hA i wr w2 hJ hb2
      obtain ⟨fn, tmps, assign, body, hy, hRd⟩ := hY i i w2 (by rw [List.getElem?_range hlt]) hJ2
      rw [encK] at hy
      have HRD := Lib.hid hRd
      have hw3 := hw2.symm
      clear hkl hRd hb2 hw2
      generalize hK : nA (keyK (natL key) i) = K at *
      have HKK := Lib.hid hK
      clear hK
      have hz : #[Value.int .u8 0, .int .u8 0, .int .u8 0, .int .u8 0, .int .u8 0, .int .u8 0, .int .u8 0, .int .u8 0, .int .u8 0, .int .u8 0, .int .u8 0, .int .u8 0, .int .u8 0, .int .u8 0, .int .u8 0, .int .u8 0] = nA zer16 := rfl
      gi_wp2_with (first
        | (refine wpListIn_load_midI rfl 233 (.tmp 11) rfl h (i * 16) rfl (nL (keyK (natL key) i)) hR Tryz.underlying233 rfl (by rw [nL_len, HKL.out]; exact info16) ?_; rw [nL_arr, HKK.out])
        | (refine wpListIn_store_rowI rfl 233 (.tmp 4) (.tmp 12) rfl wr.heap.size K rfl rfl (heap_alloc_new wr _) hsz (by rw [← HKK.out, nA_size, nA_size, HKL.out, HZ.out]) hone ?_; rw [World.setRow_alloc_new, hw3])
        | (refine wpListIn_load_rowI rfl 233 (.tmp 4) rfl wr.heap.size rfl i2 Tryz.underlying233 rfl hsz ?_))
      refine HRD.out.mono ?_
      rintro e W3 ⟨rfl, hJ3, hk3⟩
      have kS := hk3.is jS hsb
      have kH := hk3.is jH hhb
      gi_wp2
      go_roundw
      case rel => exact ⟨i + 1, by omega, by go_num, kS, kH, hJ3⟩
      case measure => simp [intOf]; omega
    · have hi1 : ¬ (i : Int) < ((n + 7 : Nat) : Int) := by omega
      have hi2 : ¬ (i : Int) < (n : Int) + 7 := by omega
      obtain rfl : i = n + 7 := by omega
      gi_wp2
      go_end0
      exact ⟨⟨_, rfl⟩, by first | exact hJ | (rw [List.length_range]; exact hJ)⟩
end Go.Proofs.YtfgdcpolfekgjaaGreat
namespace Go.Proofs.YtfgdcpolfekgjaaGreat
open Go.RowKit Go.Shelf
attribute [local go_sem] Oper.semAt_some

set_option maxRecDepth 100000 in
theorem rightKey_any (key : ByteArray) (w : World) : Calls Tryz.prog 174 #[.string key] w fun e w' => e = .returned (.bool (decide (key.size = 16) || decide (key.size = 32))) ∧ w = w' := by
  by_cases h1 : key.size = 16
  · have e1 : ((key.size : Int) == 16) = true := by simp; omega
    have H := Lib.hid h1
    clear h1
    go_enter Tryz.func174, Tryz.ntmps174
    go_wp2
    go_ret
    exact ⟨by rw [H.out]; rfl, rfl⟩
  · have e1 : ((key.size : Int) == 16) = false := by simp; omega
    by_cases h2 : key.size = 32
    · have e2 : ((key.size : Int) == 32) = true := by simp; omega
      have H := Lib.hid h2
      clear h1 h2
      go_enter Tryz.func174, Tryz.ntmps174
      go_wp2
      go_ret
      exact ⟨by rw [H.out]; rfl, rfl⟩
    · have e2 : ((key.size : Int) == 32) = false := by simp; omega
      have H := Lib.hid (show (decide (key.size = 16) || decide (key.size = 32)) = false by simp [h1, h2])
      clear h1 h2
      go_enter Tryz.func174, Tryz.ntmps174
      go_wp2
      go_ret
      exact ⟨by rw [H.out]; rfl, rfl⟩

/-- the block behind i round keys. -/
def encS (key s : List Nat) (R : Nat) : Nat → List Nat
  | 0 => s
  | i + 1 => encN (keyK key) R s i

theorem Is.putObj {A : World} {g l : Nat} {t : TypeId} {cs : Array Value} {o o' : Obj} (h : Is A g t cs) (hl : A.heap[l]? = some o) (ho : o.isCells = false) : Is (A.putObj l o') g t cs := by
  have hne : g ≠ l := fun e => by subst e; rw [show A.heap[g]? = _ from h] at hl; cases hl; cases ho
  exact (World.putObj_heap_other hne).trans h
theorem Is.putFar {A : World} {g l : Nat} {t : TypeId} {cs : Array Value} {o' : Obj} (h : Is A g t cs) (hne : g ≠ l) : Is (A.putObj l o') g t cs := (World.putObj_heap_other hne).trans h
theorem belowPut {B l : Nat} {a A : World} {o' : Obj} (h : Below B a A) (hl : B ≤ l) : Below B a (A.putObj l o') :=
  ⟨h.os, h.tape, h.output, by rw [World.putObj_size]; exact h.size, fun k hk => (World.putObj_heap_other (by omega)).trans (h.block k hk)⟩
theorem koBelow {A B : World} (h : Below A.heap.size A B) : KeepsOthers A B := ⟨h.size, fun k _ hk _ => (h.block k (Array.getElem?_eq_some_iff.1 hk).1).trans hk⟩
theorem koRow {A : World} {g : Nat} {t : TypeId} {cs cs' : Array Value} (h : Is A g t cs) : KeepsOthers A (A.setRow g cs') :=
  ⟨by simp, fun k o hk ho => (setRow_other A g k cs' (fun e => by subst e; rw [show A.heap[k]? = _ from h] at hk; cases hk; cases ho)).trans hk⟩
theorem keepRow (A : World) (g : Nat) (cs' : Array Value) : Keep g A (A.setRow g cs') := ⟨by simp, fun k _ hk hne _ => (setRow_other A g k cs' hne).trans hk⟩
/-- where a round of Encrypt or Decrypt stands: the schedule, the block, the round key; what was there stays. -/
structure St (V0 w : World) (s Bb B9 n h : Nat) (key : ByteArray) (S K : List Nat) (V : World) : Prop where
  iS : Is V s 231 (sch key 1 0 (.slice (some ⟨h, 0, none⟩) (n + 7) (n + 7)))
  iB : Is V Bb 233 (nA S)
  iK : Is V B9 233 (nA K)
  ko : KeepsOthers V0 V
  kp : Keep Bb V0 V
  bl : Below w.heap.size w V
section
variable {V0 w V V' : World} {s Bb B9 n h : Nat} {key : ByteArray} {S K : List Nat}
theorem St.below (st : St V0 w s Bb B9 n h key S K V) (hb : Below V.heap.size V V') : St V0 w s Bb B9 n h key S K V' :=
  ⟨st.iS.below hb st.iS.lt, st.iB.below hb st.iB.lt, st.iK.below hb st.iK.lt, st.ko.trans (koBelow hb), st.kp.trans (Keep.below hb), st.bl.trans (hb.mono st.bl.size)⟩
theorem St.store (st : St V0 w s Bb B9 n h key S K V) (hw : w.heap.size ≤ Bb) (hs : s ≠ Bb) (h9 : B9 ≠ Bb) (S' : List Nat) : St V0 w s Bb B9 n h key S' K (V.setRow Bb (nA S')) :=
  ⟨st.iS.rowFar hs _, st.iB.row _, st.iK.rowFar h9 _, st.ko.trans (koRow st.iB), st.kp.trans (keepRow _ _ _), belowRow st.bl hw _⟩
end
theorem sz16 {S : List Nat} (h : Blk S) : (Tryz.prog.info? 233).map (·.size) = some (nA S).size := by rw [nA_size, h.len]; exact info16
theorem szEq {S T : List Nat} (h : Blk S) (k : Blk T) : (nA S).size = (nA T).size := by rw [nA_size, nA_size, h.len, k.len]
theorem sz0 {T : List Nat} (k : Blk T) : (nA zer16).size = (nA T).size := by rw [nA_size, nA_size, k.len]; rfl
theorem encS_blk {key s : List Nat} {R : Nat} (hK : ∀ i, i ≤ R → Blk (keyK key i)) (h : Blk s) {i : Nat} (hi : i ≤ R + 1) : Blk (encS key s R i) := by
  cases i with
  | zero => exact h
  | succ i => exact encN_blk hK h i (by omega)
theorem encS_inner {key s : List Nat} {R i : Nat} (h0 : 0 < i) (h1 : i < R) : encS key s R (i + 1) = xorB (mixL (shiftL (subL (encS key s R i)) 1)) (keyK key i) := by
  obtain ⟨j, rfl⟩ : ∃ j, i = j + 1 := ⟨i - 1, by omega⟩
  show rndN (keyK key (j + 1)) (decide (j + 1 < R)) (encN (keyK key) R s j) = _
  rw [show decide (j + 1 < R) = true by simpa using h1]
  rfl
theorem encS_last {key s : List Nat} {R i : Nat} (h0 : 0 < i) (h1 : ¬ i < R) : encS key s R (i + 1) = xorB (shiftL (subL (encS key s R i)) 1) (keyK key i) := by
  obtain ⟨j, rfl⟩ : ∃ j, i = j + 1 := ⟨i - 1, by omega⟩
  show rndN (keyK key (j + 1)) (decide (j + 1 < R)) (encN (keyK key) R s j) = _
  rw [show decide (j + 1 < R) = false by simpa using h1]
  rfl

set_option maxRecDepth 100000 in
set_option maxHeartbeats 1000000 in
theorem encrypt_ok (key block : ByteArray) (n : Nat) (w : World) (hk : KeyN (natL key) n) (hb : block.size = 16) :
    Calls Tryz.prog 165 #[.string key, .string block] w fun e w' => e = .returned (.tuple #[.string (strN (aesE (natL key) (natL block))), .int .i64 0]) ∧ Below w.heap.size w w' := by
  have hrk : ∀ w, Calls Tryz.prog 174 #[.string key] w fun e w' => e = .returned (.bool true) ∧ w = w' := fun w => by
    have := rightKey_any key w
    rwa [show (decide (key.size = 16) || decide (key.size = 32)) = true by have := hk.or; rw [natL_len] at this; simpa using this] at this
  have e16 : ((block.size : Int) != 16) = false := by rw [hb]; rfl
  have HRK := Lib.hid hrk
  have HK := Lib.hid hk
  have HBS := Lib.hid hb
  have HSQ := Lib.hid (fun w => squareOf_any block w hb)
  have hl16 : (natL block).length = 16 := by rw [natL_len, hb]
  have hsz : (Tryz.prog.info? 233).map (·.size) = some (nA (natL block)).size := by rw [nA_size, hl16]; exact info16
  have hone := nA_one (natL block)
  have HL16 := Lib.hid hl16
  have hz : #[Value.int .u8 0, .int .u8 0, .int .u8 0, .int .u8 0, .int .u8 0, .int .u8 0, .int .u8 0, .int .u8 0, .int .u8 0, .int .u8 0, .int .u8 0, .int .u8 0, .int .u8 0, .int .u8 0, .int .u8 0, .int .u8 0] = nA zer16 := rfl
  clear hk hb hrk hl16
  refine (callsIn_wide (n := 5)).1 ?_
  refine callsIn_of_wp_marks Tryz.func165 rfl trivial ?_ rfl
  simp only [Tryz.ntmps165, List.size_toArray, List.length_cons, List.length_nil, Nat.reduceAdd, Nat.reduceSub, Array.replicate_succ, Array.replicate_zero, List.push_toArray, List.append_toArray, List.nil_append, List.cons_append]
  gi_wp2_with (first
    | (refine ⟨trivial, ?_⟩; gi_at_call 174; refine (callsIn_wide.2 (HRK.out _)).mono ?_; rintro e w' ⟨rfl, rfl⟩)
    | (refine ⟨trivial, ?_⟩; gi_at_call 175; refine (callsIn_wide.2 (HSQ.out _)).mono ?_; rintro e w1 ⟨rfl, h1⟩)
    | (refine wpListIn_store_rowI rfl 233 (.tmp 7) (.tmp 21) rfl w1.heap.size (nA (natL block)) rfl rfl (heap_alloc_new w1 _) hsz (by rw [nA_size, nA_size, HL16.out]; rfl) hone ?_; rw [World.setRow_alloc_new])
    | (refine ⟨trivial, ?_⟩; gi_at_call 176; refine (inOrder_in _ _ _).mono ?_; rintro e w' ⟨rfl, rfl⟩))
  have iS0 : Is (w.alloc (.cells (sch key 0 0 (.slice none 0 0)) 231)) w.heap.size 231 (sch key 0 0 (.slice none 0 0)) := Is.new w _ _
  have hB1 : Below w.heap.size w w1 := ((Below.refl _ _).alloc (Nat.le_refl _) _).trans (h1.mono (by simp))
  have iS1 : Is w1 w.heap.size 231 (sch key 0 0 (.slice none 0 0)) := iS0.below h1 (by simp)
  have hsz1 : w.heap.size < w1.heap.size := iS1.lt
  have iS := (iS1.alloc (.cells (nA (natL block)) 233)).alloc (.cells #[.pointer (some ⟨w.heap.size, 0, none⟩)] 245)
  have iB := (Is.new w1 233 (nA (natL block))).alloc (.cells #[.pointer (some ⟨w.heap.size, 0, none⟩)] 245)
  have iP : Is ((w1.alloc (.cells (nA (natL block)) 233)).alloc (.cells #[.pointer (some ⟨w.heap.size, 0, none⟩)] 245)) (w1.heap.size + 1) 245 #[.pointer (some ⟨w.heap.size, 0, none⟩)] := heap_alloc2_new w1 _ _
  have hB0 := (hB1.alloc hB1.size (.cells (nA (natL block)) 233)).alloc (by have := hB1.size; simp; omega) (.cells #[.pointer (some ⟨w.heap.size, 0, none⟩)] 245)
  generalize ((w1.alloc (.cells (nA (natL block)) 233)).alloc (.cells #[.pointer (some ⟨w.heap.size, 0, none⟩)] 245)) = W0 at *
  obtain ⟨s, hs⟩ : ∃ s, s = w.heap.size := ⟨_, rfl⟩
  obtain ⟨Bb, hBb⟩ : ∃ Bb, Bb = w1.heap.size := ⟨_, rfl⟩
  obtain ⟨Bp, hBp⟩ : ∃ Bp, Bp = w1.heap.size + 1 := ⟨_, rfl⟩
  have q1 : s ≠ Bb := by omega
  have hsw : w.heap.size ≤ s := by omega
  have HWB := Lib.hid (show w.heap.size ≤ Bb by omega)
  rw [← hBp, ← hBb]
  rw [← hs]
  rw [← hBp] at iP
  rw [← hBb] at iB
  rw [← hs] at iS iP
  clear iS0 iS1 hB1 h1 hsz1 hs hBb hBp w1
  have HBK := Lib.hid (natL_blk HBS.out)
  have HKK := Lib.hid (fun i (hi : i ≤ n + 6) => keyK_blk HK.out.or (natL_lt key) (r := i) (by unfold rndsN; rw [HK.out.div]; exact hi))
  have hn8 : n ≤ 8 := by have := HK.out.two; omega
  have HBL := Lib.hid iB.lt
  have HSL := Lib.hid iS.lt
  have HWL := Lib.hid hB0.size
  refine wpIn_rangeMade rfl (by omega) (gf := 192) (lb := #[.pointer (some ⟨Bp, 0, none⟩)]) rfl trivial (enters_of Tryz.func192 (by kernel_rfl) rfl)
    (inOrder_made _ (by omega) s Bp Bb n key (.slice none 0 0) W0 HK.out iS iP q1 iB.lt) (fun _ => rfl) iS.lt
    (fun i W => ∃ h, Is W s 231 (sch key 1 0 (.slice (some ⟨h, 0, none⟩) (n + 7) (n + 7))) ∧ Is W Bb 233 (nA (encS (natL key) (natL block) (n + 6) i)) ∧ Below w.heap.size w W)
    (fun i A B hI hb => by
      obtain ⟨h, g1, g2, g3⟩ := hI
      exact ⟨h, g1.below hb g1.lt, g2.below hb g2.lt, g3.trans (hb.mono g3.size)⟩)
    (fun i A l o o' hl hlo ho hI => by
      obtain ⟨h, g1, g2, g3⟩ := hI
      exact ⟨h, g1.putObj hlo ho, g2.putObj hlo ho, belowPut g3 (by have := hB0.size; omega)⟩)
    (fun W W' hW hgr hmk => by
      obtain ⟨h, g1, g2, g3, g4⟩ := hmk
      have jB := iB.below hW iB.lt
      exact ⟨h, g1, (hgr.block Bb jB.lt (by intro e; cases e; exact q1 rfl)).trans jB, (hB0.trans (hW.mono hB0.size)).grown hgr (by have := hB0.size; have := hW.size; omega) (fun k e => by cases e; exact hsw)⟩) ?round ?done
  case round =>
    rintro l i x W hl hlW hx ⟨h, iS, iB, hB⟩
    obtain ⟨hi, rfl⟩ : i < n + 7 ∧ i = x := by
      have hlt := (List.getElem?_eq_some_iff.1 hx).1
      rw [List.length_range] at hlt
      rw [List.getElem?_range hlt] at hx
      exact ⟨hlt, Option.some.inj hx⟩
    have bS : Blk (encS (natL key) (natL block) (n + 6) i) := encS_blk HKK.out HBK.out (by omega)
    have bK : Blk (keyK (natL key) i) := HKK.out i (by omega)
    have HQ9 := Lib.hid (show W.heap.size ≠ Bb by have := iB.lt; omega)
    have HQL := Lib.hid (show l ≠ W.heap.size by omega)
    have iK : Is (W.alloc (.cells (nA (keyK (natL key) i)) 233)) W.heap.size 233 (nA (keyK (natL key) i)) := Is.new W _ _
    have hb2 : Below W.heap.size W (W.alloc (.cells (nA (keyK (natL key) i)) 233)) := (Below.refl _ _).alloc (Nat.le_refl _) _
    have hlB : Bb ≠ l := by have := HBL.out; omega
    have hlS : s ≠ l := by have := HSL.out; omega
    have hlK : W.heap.size ≠ l := by omega
    have hlw : w.heap.size ≤ l := by have := HWL.out; omega
    clear hx
    simp only [encK]
    gi_wp2_with (refine wpListIn_store_rowI rfl 233 (.tmp 9) (.tmp 24) rfl W.heap.size (nA (keyK (natL key) i)) rfl rfl (heap_alloc_new W _) (sz16 bK) (sz0 bK) (nA_one _) ?_; rw [World.setRow_alloc_new])
    refine ⟨koBelow hb2, Keep.below hb2, fun o' => ?_⟩
    have st : St ((W.alloc (.cells (nA (keyK (natL key) i)) 233)).putObj l (.loop o')) w s Bb W.heap.size n h key (encS (natL key) (natL block) (n + 6) i) (keyK (natL key) i) ((W.alloc (.cells (nA (keyK (natL key) i)) 233)).putObj l (.loop o')) :=
      ⟨(iS.below hb2 iS.lt).putFar hlS, (iB.below hb2 iB.lt).putFar hlB, iK.putFar hlK, KeepsOthers.refl _, Keep.refl _ _, belowPut (hB.trans (hb2.mono hB.size)) hlw⟩
    generalize (W.alloc (.cells (nA (keyK (natL key) i)) 233)).putObj l (.loop o') = V0 at *
    have hW9 : W.heap.size ≠ Bb := HQ9.out
    generalize W.heap.size = B9 at *
    clear iS iB iK hb2 hB hlB hlS hlK hlw
    by_cases h0 : 0 < i
    · by_cases h1 : i < n + 6
      · have e1 : decide ((0 : Int) < (i : Int)) = true := by simp; omega
        have eB : innB i (n + 6) = true := by unfold innB; simp; omega
        have HST := Lib.hid (show encS (natL key) (natL block) (n + 6) (i + 1) = xorB (mixL (shiftL (subL (encS (natL key) (natL block) (n + 6) i)) 1)) (keyK (natL key) i) by exact encS_inner h0 h1)
        generalize encS (natL key) (natL block) (n + 6) i = S at *
        generalize keyK (natL key) i = K at *
        gi_wp2_with (first
          | (refine wpListIn_load_rowI rfl 233 (.tmp 7) rfl Bb rfl st.iB Tryz.underlying233 rfl (sz16 bS) ?_)
          | (refine wpListIn_load_rowI rfl 233 (.tmp 9) rfl B9 rfl st.iK Tryz.underlying233 rfl (sz16 bK) ?_)
          | (refine ⟨trivial, ?_⟩; gi_at_call 177; refine (callsIn_wide.2 (eachByte_any 178 subN sub_fn S _ bS.len bS.lt)).mono ?_; rintro e v ⟨rfl, hb⟩; replace st := st.below hb; clear hb)
          | (refine ⟨trivial, ?_⟩; gi_at_call 179; refine (callsIn_wide.2 (shifted_any (subL S) 1 _ bS.sub.len (by omega))).mono ?_; rintro e v ⟨rfl, hb⟩; replace st := st.below hb; clear hb)
          | (refine wpListIn_store_rowI rfl 233 (.tmp 7) (.tmp 29) rfl Bb (nA (shiftL (subL S) 1)) rfl rfl st.iB (sz16 (bS.sub.shift 1)) (szEq bS (bS.sub.shift 1)) (nA_one _) ?_; replace st := st.store HWB.out q1 hW9 (shiftL (subL S) 1); replace bS : Blk (shiftL (subL S) 1) := bS.sub.shift 1)
          | (refine ⟨trivial, ?_⟩; gi_at_call 180; refine (callsIn_wide.2 (isInner_any s key (n + 6) h i _ (by omega) (by omega) st.iS)).mono ?_; rintro e v ⟨rfl, hb⟩; replace st := st.below hb; clear hb)
          | (refine ⟨trivial, ?_⟩; gi_at_call 181; refine (callsIn_wide.2 (eachColumn_any 182 mixW mix_fn _ _ bS.len bS.lt)).mono ?_; rintro e v ⟨rfl, hb⟩; replace st := st.below hb; clear hb)
          | (rw [cols_mix bS.len]; refine wpListIn_store_rowI rfl 233 (.tmp 7) (.tmp 33) rfl Bb (nA (mixL (shiftL (subL S) 1))) rfl rfl st.iB (sz16 (bS.mix)) (szEq bS (bS.mix)) (nA_one _) ?_; replace st := st.store HWB.out q1 hW9 (mixL (shiftL (subL S) 1)); replace bS : Blk (mixL (shiftL (subL S) 1)) := bS.mix)
          | (refine ⟨trivial, ?_⟩; gi_at_call 183; refine (callsIn_wide.2 (plus_any _ _ _ bS bK)).mono ?_; rintro e v ⟨rfl, hb⟩; replace st := st.below hb; clear hb)
          | (refine wpListIn_store_rowI rfl 233 (.tmp 7) (.tmp 36) rfl Bb (nA (xorB (mixL (shiftL (subL S) 1)) K)) rfl rfl st.iB (sz16 (bS.xor bK)) (szEq bS (bS.xor bK)) (nA_one _) ?_; replace st := st.store HWB.out q1 hW9 (xorB (mixL (shiftL (subL S) 1)) K); replace bS : Blk (xorB (mixL (shiftL (subL S) 1)) K) := bS.xor bK))
        exact ⟨st.ko, st.kp, ⟨h, st.iS⟩, by rw [HST.out]; exact st.iB, st.bl⟩
      · have e1 : decide ((0 : Int) < (i : Int)) = true := by simp; omega
        have eB : innB i (n + 6) = false := by unfold innB; simp; omega
        have HST := Lib.hid (show encS (natL key) (natL block) (n + 6) (i + 1) = xorB (shiftL (subL (encS (natL key) (natL block) (n + 6) i)) 1) (keyK (natL key) i) by exact encS_last h0 h1)
        generalize encS (natL key) (natL block) (n + 6) i = S at *
        generalize keyK (natL key) i = K at *
        gi_wp2_with (first
          | (refine wpListIn_load_rowI rfl 233 (.tmp 7) rfl Bb rfl st.iB Tryz.underlying233 rfl (sz16 bS) ?_)
          | (refine wpListIn_load_rowI rfl 233 (.tmp 9) rfl B9 rfl st.iK Tryz.underlying233 rfl (sz16 bK) ?_)
          | (refine ⟨trivial, ?_⟩; gi_at_call 177; refine (callsIn_wide.2 (eachByte_any 178 subN sub_fn S _ bS.len bS.lt)).mono ?_; rintro e v ⟨rfl, hb⟩; replace st := st.below hb; clear hb)
          | (refine ⟨trivial, ?_⟩; gi_at_call 179; refine (callsIn_wide.2 (shifted_any (subL S) 1 _ bS.sub.len (by omega))).mono ?_; rintro e v ⟨rfl, hb⟩; replace st := st.below hb; clear hb)
          | (refine wpListIn_store_rowI rfl 233 (.tmp 7) (.tmp 29) rfl Bb (nA (shiftL (subL S) 1)) rfl rfl st.iB (sz16 (bS.sub.shift 1)) (szEq bS (bS.sub.shift 1)) (nA_one _) ?_; replace st := st.store HWB.out q1 hW9 (shiftL (subL S) 1); replace bS : Blk (shiftL (subL S) 1) := bS.sub.shift 1)
          | (refine ⟨trivial, ?_⟩; gi_at_call 180; refine (callsIn_wide.2 (isInner_any s key (n + 6) h i _ (by omega) (by omega) st.iS)).mono ?_; rintro e v ⟨rfl, hb⟩; replace st := st.below hb; clear hb)
          | (refine ⟨trivial, ?_⟩; gi_at_call 183; refine (callsIn_wide.2 (plus_any _ _ _ bS bK)).mono ?_; rintro e v ⟨rfl, hb⟩; replace st := st.below hb; clear hb)
          | (refine wpListIn_store_rowI rfl 233 (.tmp 7) (.tmp 36) rfl Bb (nA (xorB (shiftL (subL S) 1) K)) rfl rfl st.iB (sz16 (bS.xor bK)) (szEq bS (bS.xor bK)) (nA_one _) ?_; replace st := st.store HWB.out q1 hW9 (xorB (shiftL (subL S) 1) K); replace bS : Blk (xorB (shiftL (subL S) 1) K) := bS.xor bK))
        exact ⟨st.ko, st.kp, ⟨h, st.iS⟩, by rw [HST.out]; exact st.iB, st.bl⟩
    · have e1 : decide ((0 : Int) < (i : Int)) = false := by simp; omega
      have eB : innB i (n + 6) = false := by unfold innB; simp; omega
      have HST := Lib.hid (show encS (natL key) (natL block) (n + 6) (i + 1) = xorB (encS (natL key) (natL block) (n + 6) i) (keyK (natL key) i) by (have hi0 : i = 0 := (by omega)); subst hi0; rfl)
      generalize encS (natL key) (natL block) (n + 6) i = S at *
      generalize keyK (natL key) i = K at *
      gi_wp2_with (first
        | (refine wpListIn_load_rowI rfl 233 (.tmp 7) rfl Bb rfl st.iB Tryz.underlying233 rfl (sz16 bS) ?_)
        | (refine wpListIn_load_rowI rfl 233 (.tmp 9) rfl B9 rfl st.iK Tryz.underlying233 rfl (sz16 bK) ?_)
        | (refine ⟨trivial, ?_⟩; gi_at_call 180; refine (callsIn_wide.2 (isInner_any s key (n + 6) h i _ (by omega) (by omega) st.iS)).mono ?_; rintro e v ⟨rfl, hb⟩; replace st := st.below hb; clear hb)
        | (refine ⟨trivial, ?_⟩; gi_at_call 183; refine (callsIn_wide.2 (plus_any _ _ _ bS bK)).mono ?_; rintro e v ⟨rfl, hb⟩; replace st := st.below hb; clear hb)
        | (refine wpListIn_store_rowI rfl 233 (.tmp 7) (.tmp 36) rfl Bb (nA (xorB (S) K)) rfl rfl st.iB (sz16 (bS.xor bK)) (szEq bS (bS.xor bK)) (nA_one _) ?_; replace st := st.store HWB.out q1 hW9 (xorB (S) K); replace bS : Blk (xorB (S) K) := bS.xor bK))
      exact ⟨st.ko, st.kp, ⟨h, st.iS⟩, by rw [HST.out]; exact st.iB, st.bl⟩
  case done =>
    rintro D W hD ⟨h, iS, iB, hB⟩ hK
    rw [List.length_range] at iB
    have hfin : encS (natL key) (natL block) (n + 6) (n + 7) = aesE (natL key) (natL block) := by
      show encN _ _ _ (n + 6) = _
      unfold aesE encB rndsN
      rw [HK.out.div]
    rw [hfin] at iB
    have bE := aesE_blk HK.out.or (natL_lt key) HBK.out
    have HT := Lib.hid (fun w => text_any (aesE (natL key) (natL block)) w bE.len)
    generalize hE : aesE (natL key) (natL block) = E at *
    have HE := Lib.hid hE
    clear hE hfin
    gi_wp2_with (first
      | (refine wpListIn_load_rowI rfl 233 (.tmp 7) rfl Bb rfl iB Tryz.underlying233 rfl (sz16 bE) ?_)
      | (refine ⟨trivial, ?_⟩; gi_at_call 184; refine (callsIn_wide.2 (HT.out _)).mono ?_; rintro e v ⟨rfl, hb⟩))
    have hK2 : v.heap[D]? = some (.deferred (some [])) := (hb.block D (Array.getElem?_eq_some_iff.1 hK).1).trans hK
    have hB2 := hB.trans (hb.mono hB.size)
    refine ⟨by simp, .inl ⟨_, _, rfl, run_takeDeferred hK2, ?_⟩⟩
    refine ⟨.tuple #[.string (strN E), .int .i64 0], by simp [results, Tryz.results165, go_sem], by rw [HE.out], ?_⟩
    exact belowPut hB2 (by have := HWL.out; omega)
end Go.Proofs.YtfgdcpolfekgjaaGreat
namespace Go.Proofs.YtfgdcpolfekgjaaGreat
open Go.RowKit Go.Shelf
attribute [local go_sem] Oper.semAt_some

end Go.Proofs.YtfgdcpolfekgjaaGreat

