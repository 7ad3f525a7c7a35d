/-
  Contracts of sync.Once's Do (not yet done, and done), of one goroutine, where the Once stands in cells 1 to 3 of a schedule's block. Conditions: the lock is free.
-/
import Derived.Test.YtjfeloimlgfocaaChecked
import Derived.Test.YtjfeloimlgfocaaKit
import Derived.Defers
import Derived.Laws.Pointers
import Derived.Laws.LoneSync
import Derived.RegionTactic
import Derived.RegionCalls
import Derived.ChangeAlike
import Derived.Laws.NewBlocks
import Derived.Shelf.Abstract
namespace Go.Proofs.Ytjfeloimlgfocaa
open Go.RowKit Go.Shelf

theorem disable (w : World) : (callFunc 72 #[]).run Try.prog w = .ok (.value (.tuple #[])) w := run_call_mark0 Try.func72 (by kernel_rfl) (by kernel_rfl) (by kernel_rfl) .disable (by kernel_rfl) w
theorem enable (w : World) : (callFunc 74 #[]).run Try.prog w = .ok (.value (.tuple #[])) w := run_call_mark0 Try.func74 (by kernel_rfl) (by kernel_rfl) (by kernel_rfl) .enable (by kernel_rfl) w
theorem acquire (a : Addr) (w : World) : (callFunc 75 #[.pointer (some a)]).run Try.prog w = .ok (.value (.tuple #[])) w := run_call_marked Try.func75 (by kernel_rfl) (by kernel_rfl) (by kernel_rfl) .acquire (by kernel_rfl) a w
theorem releaseMerge (a : Addr) (w : World) : (callFunc 77 #[.pointer (some a)]).run Try.prog w = .ok (.value (.tuple #[])) w := run_call_marked Try.func77 (by kernel_rfl) (by kernel_rfl) (by kernel_rfl) .releaseMerge (by kernel_rfl) a w

/-- '(*sync/atomic.Bool).Store(true)', entered as a deferred call: the cell holds 1. -/
theorem store_deferred (a : Addr) (x : Value) (u : FrameMode) (w : World) (hc : w.cell? a = some x) (hz : w.frozen? a = false) :
    CallsD Try.prog 66 #[.pointer (some a), .bool true] u w fun e u' w' => u' = u ∧ (e = .returned (.tuple #[]) ∧ w' = w.drew.setCell a (.int .u32 1)) := by
  have hc' : w.drew.cell? a = some x := by go_simp
  have hz' : w.drew.frozen? a = false := by go_simp
  have hst := run_call_store (P := Try.prog) Try.func70 (by kernel_rfl) (by kernel_rfl) (by kernel_rfl) (by kernel_rfl) (k := .u32) (y := 1) hc' hz'
  go_enter_d Try.func66, Try.ntmps66
  go_wp2
  go_region_calls
  all_goals (go_end0; exact ⟨rfl, rfl⟩)

set_option maxRecDepth 100000 in
set_option maxHeartbeats 1600000 in
/-- '(*sync.Mutex).Unlock', entered as a deferred call, the lock held and nobody waiting (state 1): state 0. -/
theorem unlock_deferred (a : Addr) (u : FrameMode) (w : World) (hc : w.cell? a = some (.int .i32 1)) (hz : w.frozen? a = false) :
    CallsD Try.prog 65 #[.pointer (some a)] u w fun e u' w' => u' = u ∧ (e = .returned (.tuple #[]) ∧ w' = w.setCell a (.int .i32 0)) := by
  have hd := disable
  have he := enable
  have hr := releaseMerge
  have hadd := run_call_add (P := Try.prog) Try.func78 (by kernel_rfl) (by kernel_rfl) (by kernel_rfl) .i32 (by kernel_rfl) (y := -1) (s := 0) hc hz (by simp [go_sem]; rfl)
  have hcv := run_convert_to_unsafe (P := Try.prog) (src := 102) (dst := 106) Try.underlying102 Try.underlying106 (by kernel_rfl) hc
  go_enter_d Try.func65, Try.ntmps65
  go_wp2
  go_end0
  go_wp2
  go_end0
  exact ⟨rfl, rfl⟩

set_option maxRecDepth 100000 in
set_option maxHeartbeats 1600000 in
/-- '(*sync.Mutex).Lock', the lock free (state 0): state 1. -/
theorem lock_free (a : Addr) (w : World) (hc : w.cell? a = some (.int .i32 0)) (hz : w.frozen? a = false) :
    Calls Try.prog 64 #[.pointer (some a)] w fun e w' => e = .returned (.tuple #[]) ∧ w' = w.setCell a (.int .i32 1) := by
  have hd := disable
  have he := enable
  have ha := acquire
  have hcas := run_call_cas_hit (P := Try.prog) Try.func73 (by kernel_rfl) (by kernel_rfl) (by kernel_rfl) .i32 (by kernel_rfl) (y := 1) hc hz
  have hc' : (w.setCell a (.int .i32 1)).cell? a = some (.int .i32 1) := World.cell?_setCell_same w a _ hc
  have hcv := run_convert_to_unsafe (P := Try.prog) (src := 102) (dst := 106) Try.underlying102 Try.underlying106 (by kernel_rfl) hc'
  go_enter Try.func64, Try.ntmps64
  go_wp2
  first | go_end0 | (simp only [Exit.inBlock, Exit.then]; refine bodyPost_ret (results_none rfl _ _ _) rfl ?_) | refine bodyPost_ret (results_none rfl _ _ _) rfl ?_
  go_wp2
  go_end0
  exact ⟨rfl, rfl⟩

set_option maxRecDepth 100000 in
theorem bool_load (a : Addr) (x : Int) (w : World) (hc : w.cell? a = some (.int .u32 x)) :
    Calls Try.prog 60 #[.pointer (some a)] w fun e w' => e = .returned (.bool (x != 0)) ∧ w' = w := by
  have hl := run_call_load (P := Try.prog) Try.func63 (by kernel_rfl) (by kernel_rfl) (by kernel_rfl) .u32 (by kernel_rfl) hc
  go_enter Try.func60, Try.ntmps60
  go_wp2
  go_ret
  exact ⟨rfl, rfl⟩

/-- a schedule's cells: the key, whether it is done, the lock's state, the round keys. -/
abbrev sch (key : ByteArray) (d st : Int) (v : Value) : Array Value := #[.string key, .int .u32 d, .int .i32 st, .int .u32 0, v]
variable (F : FuncId) (T : TypeId)

set_option maxRecDepth 100000 in
set_option maxHeartbeats 1600000 in
/-- '(*sync.Once).doSlow', not yet done and the lock free. -/
theorem slow_any (s : Nat) (pl : Addr) (key : ByteArray) (v0 : Value) (Q : Value → World → Prop) (w : World) (hs : Is w s T (sch key 0 0 v0))
    (hcl : Is (w.setCell ⟨s, 2, none⟩ (.int .i32 1)) s T (sch key 0 1 v0) → Calls Try.prog F #[.pointer (some pl)] (w.setCell ⟨s, 2, none⟩ (.int .i32 1)) fun e W' => e = .returned (.tuple #[]) ∧ ∃ v, Is W' s T (sch key 0 1 v) ∧ Q v W')
    (hE : Enters Try.prog F) (hQ : ∀ v W i u, Q v W → Q v (W.setCell ⟨s, i, none⟩ u)) (hQd : ∀ v W, Q v W → Q v W.drew) :
    Calls Try.prog 61 #[.pointer (some ⟨s, 1, none⟩), .func (.func F) #[] #[.pointer (some pl)]] w fun e w' => e = .returned (.tuple #[]) ∧ ∃ v, Is w' s T (sch key 1 0 v) ∧ Q v w' := by
  have h1 : Is (w.setCell ⟨s, 2, none⟩ (.int .i32 1)) s T (sch key 0 1 v0) := hs.set 2 _
  have H1 := Lib.hid h1
  have HCL := Lib.hid (hcl h1)
  have hl := bool_load ⟨s, 1, none⟩ 0 (w.setCell ⟨s, 2, none⟩ (.int .i32 1)) (h1.cell 1)
  have c2 := hs.cell 2
  have f2 := hs.frozen 2
  clear hcl h1 hs
  have hen := hE #[.pointer (some pl)]
  have hnot : ∀ (x : Bool) (w : World), (Op.unary .not (.bool x)).run Try.prog w = .ok (.bool (!x)) w := fun _ _ => rfl
  go_enter_defers Try.func61, Try.ntmps61
  go_wp2_with (first | (go_at_call 64; refine (lock_free ⟨s, 2, none⟩ _ (by go_simp) (by go_simp)).mono ?_; rintro e w' ⟨rfl, rfl⟩) | (go_at_call 60; refine hl.mono ?_; rintro e w' ⟨rfl, rfl⟩))
  refine HCL.out.mono ?_
  rintro e W ⟨rfl, v, hW, hv⟩
  go_wp2
  refine leaves_cons (f := 66) (args := #[.pointer (some ⟨s, 1, none⟩), .bool true]) (by simp) (by simp [go_sem]) ?_
  refine (store_deferred ⟨s, 1, none⟩ (.int .u32 0) .returning _ (hW.cell 1) (hW.frozen 1)).mono ?_
  rintro e u' w'' ⟨rfl, rfl, rfl⟩
  have hW2 : Is (W.drew.setCell ⟨s, 1, none⟩ (.int .u32 1)) s T (sch key 1 1 v) := Is.set (w := W.drew) hW 1 _
  have hv2 := hQ _ _ 1 (.int .u32 1) (hQd _ _ hv)
  refine leaves_cons (f := 65) (args := #[.pointer (some ⟨s, 2, none⟩)]) (by simp [settle]) (by simp [go_sem]) ?_
  refine (unlock_deferred ⟨s, 2, none⟩ _ _ (hW2.cell 2) (hW2.frozen 2)).mono ?_
  rintro e u' w'' ⟨rfl, rfl, rfl⟩
  have hW3 : Is _ s T (sch key 1 0 v) := hW2.set 2 (.int .i32 0)
  have hv3 := hQ _ _ 2 (.int .i32 0) hv2
  simp [Leaves, settle, results, Try.results61]
  exact ⟨v, hW3, hv3⟩

set_option maxRecDepth 100000 in
set_option maxHeartbeats 1600000 in
/-- '(*sync.Once).Do', not yet done, the lock free. -/
theorem do_first (s : Nat) (pl : Addr) (key : ByteArray) (v0 : Value) (Q : Value → World → Prop) (w : World) (hs : Is w s T (sch key 0 0 v0))
    (hcl : Is (w.setCell ⟨s, 2, none⟩ (.int .i32 1)) s T (sch key 0 1 v0) → Calls Try.prog F #[.pointer (some pl)] (w.setCell ⟨s, 2, none⟩ (.int .i32 1)) fun e W' => e = .returned (.tuple #[]) ∧ ∃ v, Is W' s T (sch key 0 1 v) ∧ Q v W')
    (hE : Enters Try.prog F) (hQ : ∀ v W i u, Q v W → Q v (W.setCell ⟨s, i, none⟩ u)) (hQd : ∀ v W, Q v W → Q v W.drew) :
    Calls Try.prog 54 #[.pointer (some ⟨s, 1, none⟩), .func (.func F) #[] #[.pointer (some pl)]] w fun e w' => e = .returned (.tuple #[]) ∧ ∃ v, Is w' s T (sch key 1 0 v) ∧ Q v w' := by
  have HS := Lib.hid (slow_any F T s pl key v0 Q w hs hcl hE hQ hQd)
  have hl := bool_load ⟨s, 1, none⟩ _ w (hs.cell 1)
  clear hcl hE hQ hQd hs
  have hnot : ∀ (x : Bool) (w : World), (Op.unary .not (.bool x)).run Try.prog w = .ok (.bool (!x)) w := fun _ _ => rfl
  go_enter Try.func54, Try.ntmps54
  go_wp2_with (first | (go_at_call 61; refine HS.out.mono ?_; rintro e w' ⟨rfl, hx⟩) | (go_at_call 60; refine hl.mono ?_; rintro e w' ⟨rfl, rfl⟩))
  go_end0
  exact ⟨rfl, hx⟩

set_option maxRecDepth 100000 in
/-- '(*sync.Once).Do', done already: the function is not called. -/
theorem do_done (s : Nat) (key : ByteArray) (v fv : Value) (w : World) (hs : Is w s T (sch key 1 0 v)) :
    Calls Try.prog 54 #[.pointer (some ⟨s, 1, none⟩), fv] w fun e w' => e = .returned (.tuple #[]) ∧ w' = w := by
  have hl := bool_load ⟨s, 1, none⟩ _ w (hs.cell 1)
  have hnot : ∀ (x : Bool) (w : World), (Op.unary .not (.bool x)).run Try.prog w = .ok (.bool (!x)) w := fun _ _ => rfl
  clear hs
  go_enter Try.func54, Try.ntmps54
  go_wp2_with (go_at_call 60; refine hl.mono ?_; rintro e w' ⟨rfl, rfl⟩)
  go_end0
  exact ⟨rfl, rfl⟩
end Go.Proofs.Ytjfeloimlgfocaa
