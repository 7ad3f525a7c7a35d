/-
  Contracts of (*schedule).roundKeys, the first time and later, and of (*schedule).isInner. Conditions: the schedule's key has 16 or 32 bytes; its sync.Once is free.
-/
import Derived.Test.YtjfeloimlgfocaaAesH
import Derived.Test.YtjfeloimlgfocaaAesO
import Derived.Maps.RangeWalk
import Derived.Maps.AppendAt
namespace Go.Proofs.Ytjfeloimlgfocaa
open Go.RowKit Go.Shelf

theorem grownOf {W W1 : World} (hb : Below W.heap.size W W1) : W.grownBy W1 none := ⟨hb.os, hb.tape, hb.output, hb.size, fun k hk _ => hb.block k hk⟩
theorem grownSet (w : World) (p : Addr) (v : Value) : w.grownBy (w.setCell p v) (some p.block) :=
  ⟨rfl, rfl, rfl, by simp [World.setCell], fun k _ hne => heap_setCell_other w p k v (fun e => hne (by rw [e]))⟩
theorem grownDrew {w W : World} {r : Option Nat} (h : w.grownBy W r) : w.grownBy W.drew r := ⟨h.os, h.tape, h.output, h.size, h.block⟩

/-- what the round keys are, once they are made: a slice of its own block. -/
def KeysAt (w0 : World) (s n : Nat) (D : List Nat) (v : Value) (W : World) : Prop :=
  ∃ h, v = .slice (some ⟨h, 0, none⟩) (n + 7) (n + 7) ∧ Is W h 60 (nA D) ∧ h ≠ s ∧ w0.heap.size ≤ h ∧ w0.grownBy W (some s)
theorem KeysAt.set {w0 W : World} {s n : Nat} {D : List Nat} {v : Value} (i : Nat) (u : Value) (h : KeysAt w0 s n D v W) : KeysAt w0 s n D v (W.setCell ⟨s, i, none⟩ u) := by
  obtain ⟨k, h1, h2, h3, h4, h5⟩ := h
  exact ⟨k, h1, h2.far (p := ⟨s, i, none⟩) h3 u, h3, h4, h5.trans (grownSet W ⟨s, i, none⟩ u)⟩
theorem KeysAt.drew {w0 W : World} {s n : Nat} {D : List Nat} {v : Value} (h : KeysAt w0 s n D v W) : KeysAt w0 s n D v W.drew := by
  obtain ⟨k, h1, h2, h3, h4, h5⟩ := h
  exact ⟨k, h1, h2, h3, h4, grownDrew h5⟩

set_option maxRecDepth 100000 in
set_option maxHeartbeats 1000000 in
theorem rk1_any (s : Nat) (pl : Addr) (key : ByteArray) (n : Nat) (v0 : Value) (w : World) (hk : KeyN (natL key) n) (hs : Is w s 54 (sch key 0 1 v0)) (cp : w.cell? pl = some (.pointer (some ⟨s, 0, none⟩))) (hpl : pl.block < w.heap.size) (hps : s ≠ pl.block) :
    Calls Try.prog 55 #[.pointer (some pl)] w fun e w' => e = .returned (.tuple #[]) ∧ ∃ v, Is w' s 54 (sch key 0 1 v) ∧ KeysAt w s n (expB (natL key)) v w' := by
  have HE := Lib.hid (fun w => expanded_any key n w hk)
  have HL := Lib.hid (show (expB (natL key)).length = (n + 7) * 16 by rw [hk.expLen]; omega)
  have HN15 := Lib.hid (show n + 7 ≤ 15 by have := hk.two; omega)
  have HN1 := Lib.hid (show 1 ≤ n + 7 by omega)
  have c0 : w.cell? ⟨s, 0, none⟩ = some (.string key) := hs.cell 0
  clear hk
  go_enter Try.func55, Try.ntmps55
  go_wp2
  refine wp_region_held_drew (S := fun W => W.cell? pl = some (.pointer (some ⟨s, 0, none⟩)) ∧ W.cell? ⟨s, 0, none⟩ = some (.string key)) (by kernel_rfl) ⟨cp, c0⟩ (fun hS => ?_)
  change wpAnyH _ _ (opsOf Try.f55 0) _ _ 10 (Array.replicate 10 false) _ _
  refine wpAnyH_pure (i := 0) (o := { dst := some 1, op := Op.load 75 (Operand.tmp 0), type := 75, pos := "aes.go:86", after := #[], guard := none }) (v := .pointer (some ⟨s, 0, none⟩)) (by kernel_rfl) (by kernel_rfl) (by kernel_rfl) (by kernel_rfl) (fun _ _ _ h => h) (by kernel_rfl) (fun w hSw => by (obtain ⟨z1, z2⟩ := hSw; go_simp)) hS ?_
  simp only [Act.put, List.setIfInBounds_toArray, List.set_cons_succ, List.set_cons_zero]
  refine wpAnyH_pure (i := 1) (o := { dst := some 2, op := Op.load 75 (Operand.tmp 0), type := 75, pos := "aes.go:86", after := #[], guard := none }) (v := .pointer (some ⟨s, 0, none⟩)) (by kernel_rfl) (by kernel_rfl) (by kernel_rfl) (by kernel_rfl) (fun _ _ _ h => h) (by kernel_rfl) (fun w hSw => by (obtain ⟨z1, z2⟩ := hSw; go_simp)) hS ?_
  simp only [Act.put, List.setIfInBounds_toArray, List.set_cons_succ, List.set_cons_zero]
  refine wpAnyH_pure (i := 2) (o := { dst := some 3, op := Op.nilCheck (Operand.tmp 2), type := 0, pos := "aes.go:86", after := #[{ on := 1, ground := Ground.data }], guard := none }) (v := .pointer (some ⟨s, 0, none⟩)) (by kernel_rfl) (by kernel_rfl) (by kernel_rfl) (by kernel_rfl) (fun _ _ _ h => h) (by kernel_rfl) (fun w hSw => by go_simp) hS ?_
  simp only [Act.put, List.setIfInBounds_toArray, List.set_cons_succ, List.set_cons_zero]
  refine wpAnyH_pure (i := 3) (o := { dst := some 4, op := Op.fieldAddr 54 (Operand.tmp 3) 0, type := 0, pos := "aes.go:86", after := #[{ on := 2, ground := Ground.data }], guard := none }) (v := .pointer (some ⟨s, 0, none⟩)) (by kernel_rfl) (by kernel_rfl) (by kernel_rfl) (by kernel_rfl) (fun _ _ _ h => h) (by kernel_rfl) (fun w hSw => by go_simp) hS ?_
  simp only [Act.put, List.setIfInBounds_toArray, List.set_cons_succ, List.set_cons_zero]
  refine wpAnyH_pure (i := 4) (o := { dst := some 5, op := Op.load 9 (Operand.tmp 4), type := 9, pos := "aes.go:86", after := #[{ on := 3, ground := Ground.data }], guard := none }) (v := .string key) (by kernel_rfl) (by kernel_rfl) (by kernel_rfl) (by kernel_rfl) (fun _ _ _ h => h) (by kernel_rfl) (fun w hSw => by (obtain ⟨z1, z2⟩ := hSw; go_simp)) hS ?_
  simp only [Act.put, List.setIfInBounds_toArray, List.set_cons_succ, List.set_cons_zero]
  refine wpAnyH_call (i := 5) (o := { dst := some 6, op := Op.call { callee := Callee.value (Operand.func 57), args := #[Operand.tmp 5], argTypes := #[9] }, type := 85, pos := "aes.go:86", after := #[{ on := 4, ground := Ground.data }], guard := none }) (by kernel_rfl) (by kernel_rfl) (by kernel_rfl) (fun w => by kernel_rfl) ((HE.out _).mono ?_)
  rintro e w1 ⟨g, rfl, iG, hgB, h1⟩
  have jS : Is w1 s 54 (sch key 0 1 v0) := Is.below (w := w.drew) hs h1 hs.lt
  have jp : w1.cell? pl = some (.pointer (some ⟨s, 0, none⟩)) := (h1.cell (p := pl) hpl).trans cp
  have j0 : w1.cell? ⟨s, 0, none⟩ = some (.string key) := jS.cell 0
  have h1b : Below w.heap.size w w1 := ⟨h1.os, h1.tape, h1.output, h1.size, h1.block⟩
  refine ⟨_, rfl, ⟨jp, j0⟩, ?_⟩
  try simp only [Act.put, List.setIfInBounds_toArray, List.set_cons_succ, List.set_cons_zero]
  refine wpAnyH_call (i := 6) (o := { dst := some 7, op := Op.call { callee := Callee.value (Operand.func 56), args := #[Operand.tmp 6], argTypes := #[85] }, type := 52, pos := "aes.go:86", after := #[{ on := 5, ground := Ground.data }, { on := 5, ground := Ground.chain }], guard := none }) (by kernel_rfl) (by kernel_rfl) (by kernel_rfl) (fun w => by kernel_rfl) ((squaresOf_any (expB (natL key)) (n + 7) g w1 HL.out HN15.out HN1.out iG).mono ?_)
  rintro e w2 ⟨h, rfl, iH, hhB, h2⟩
  have kS : Is w2 s 54 (sch key 0 1 v0) := Is.below (w := w1) jS h2 jS.lt
  have kp : w2.cell? pl = some (.pointer (some ⟨s, 0, none⟩)) := (h2.cell (p := pl) (Nat.lt_of_lt_of_le hpl h1.size)).trans jp
  have k0 : w2.cell? ⟨s, 0, none⟩ = some (.string key) := kS.cell 0
  have hB : Below w.heap.size w w2 := h1b.trans (h2.mono h1b.size)
  refine ⟨_, rfl, ⟨kp, k0⟩, ?_⟩
  try simp only [Act.put, List.setIfInBounds_toArray, List.set_cons_succ, List.set_cons_zero]
  refine wpAnyH_pure (i := 7) (o := { dst := some 8, op := Op.nilCheck (Operand.tmp 1), type := 0, pos := "aes.go:86", after := #[{ on := 0, ground := Ground.data }, { on := 0, ground := Ground.phase }, { on := 1, ground := Ground.phase }, { on := 2, ground := Ground.phase }, { on := 3, ground := Ground.phase }, { on := 4, ground := Ground.phase }, { on := 5, ground := Ground.phase }, { on := 6, ground := Ground.phase }], guard := none }) (v := .pointer (some ⟨s, 0, none⟩)) (by kernel_rfl) (by kernel_rfl) (by kernel_rfl) (by kernel_rfl) (fun _ _ _ h => h) (by kernel_rfl) (fun w hSw => by go_simp) ⟨kp, k0⟩ ?_
  simp only [Act.put, List.setIfInBounds_toArray, List.set_cons_succ, List.set_cons_zero]
  refine wpAnyH_pure (i := 8) (o := { dst := some 9, op := Op.fieldAddr 54 (Operand.tmp 8) 2, type := 0, pos := "aes.go:86", after := #[{ on := 7, ground := Ground.data }, { on := 0, ground := Ground.phase }, { on := 1, ground := Ground.phase }, { on := 2, ground := Ground.phase }, { on := 3, ground := Ground.phase }, { on := 4, ground := Ground.phase }, { on := 5, ground := Ground.phase }, { on := 6, ground := Ground.phase }], guard := none }) (v := .pointer (some ⟨s, 4, none⟩)) (by kernel_rfl) (by kernel_rfl) (by kernel_rfl) (by kernel_rfl) (fun _ _ _ h => h) (by kernel_rfl) (fun w hSw => by go_simp) ⟨kp, k0⟩ ?_
  simp only [Act.put, List.setIfInBounds_toArray, List.set_cons_succ, List.set_cons_zero]
  have k4 : w2.cell? ⟨s, 4, none⟩ = some v0 := kS.cell 4
  have f4 := kS.frozen 4
  refine wpAnyH_step (i := 9) (o := { dst := none, op := Op.store 52 (Operand.tmp 9) (Operand.tmp 7), type := 0, pos := "aes.go:86", after := #[{ on := 8, ground := Ground.data }, { on := 6, ground := Ground.data }, { on := 6, ground := Ground.chain }, { on := 0, ground := Ground.phase }, { on := 1, ground := Ground.phase }, { on := 2, ground := Ground.phase }, { on := 3, ground := Ground.phase }, { on := 4, ground := Ground.phase }, { on := 5, ground := Ground.phase }, { on := 6, ground := Ground.phase }], guard := none }) (by kernel_rfl) (by kernel_rfl) (by kernel_rfl) (fun Kc hKc => ?_)
  go_simp
  have mS := kS.set 4 (.slice (some ⟨h, 0, none⟩) (n + 7) (n + 7))
  have hsh : h ≠ s := by have := jS.lt; omega
  have mH := iH.far (p := ⟨s, 4, none⟩) hsh (.slice (some ⟨h, 0, none⟩) (n + 7) (n + 7))
  have mp : (w2.setCell ⟨s, 4, none⟩ (.slice (some ⟨h, 0, none⟩) (n + 7) (n + 7))).cell? pl = some (.pointer (some ⟨s, 0, none⟩)) := (World.cell?_setCell_other _ _ _ _ (fun e => hps (congrArg Addr.block e))).trans kp
  have m0 := mS.cell 0
  have hG : w.grownBy (w2.setCell ⟨s, 4, none⟩ (.slice (some ⟨h, 0, none⟩) (n + 7) (n + 7))) (some s) := ((grownOf hB).but (some s)).trans (grownSet w2 ⟨s, 4, none⟩ _)
  refine hKc.out _ _ ⟨mp, m0⟩ (fun _ => ?_)
  clear hKc Kc
  try simp only [Act.put, List.setIfInBounds_toArray, List.set_cons_succ, List.set_cons_zero]
  refine wpAnyH_done (by kernel_rfl) ?_ _
  go_wp2
  go_end0
  exact ⟨rfl, _, mS, h, rfl, mH, hsh, by have := h1b.size; omega, hG⟩

set_option maxRecDepth 100000 in
set_option maxHeartbeats 1000000 in
/-- the first time: they are made, and laid into the schedule. -/
theorem roundKeys_first (s : Nat) (key : ByteArray) (n : Nat) (v0 : Value) (w : World) (hk : KeyN (natL key) n) (hs : Is w s 54 (sch key 0 0 v0)) :
    Calls Try.prog 45 #[.pointer (some ⟨s, 0, none⟩)] w fun e w' => ∃ h, e = .returned (.slice (some ⟨h, 0, none⟩) (n + 7) (n + 7)) ∧ Is w' s 54 (sch key 1 0 (.slice (some ⟨h, 0, none⟩) (n + 7) (n + 7))) ∧ Is w' h 60 (nA (expB (natL key))) ∧ h ≠ s ∧ w.heap.size ≤ h ∧ w.grownBy w' (some s) := by
  have hsl := hs.lt
  obtain ⟨W1, hW1⟩ : ∃ W1, W1 = w.alloc (.cells #[.pointer (some ⟨s, 0, none⟩)] 75) := ⟨_, rfl⟩
  have iP : Is W1 w.heap.size 75 #[.pointer (some ⟨s, 0, none⟩)] := by rw [hW1]; exact Is.new w _ _
  have iS : Is W1 s 54 (sch key 0 0 v0) := by rw [hW1]; exact hs.alloc _
  have hz1 : W1.heap.size = w.heap.size + 1 := by rw [hW1]; simp
  have hB1 : Below w.heap.size w W1 := by rw [hW1]; exact (Below.refl _ _).alloc (Nat.le_refl _) _
  have hps : s ≠ w.heap.size := by omega
  have hdo := do_first 55 54 s ⟨w.heap.size, 0, none⟩ key v0 (KeysAt W1 s n (expB (natL key))) W1 iS (fun h1 => by
    have iP2 := iP.far (p := ⟨s, 2, none⟩) (Ne.symm hps) (.int .i32 1)
    have := rk1_any s ⟨w.heap.size, 0, none⟩ key n v0 (W1.setCell ⟨s, 2, none⟩ (.int .i32 1)) hk h1 (iP2.cell 0) (by show w.heap.size < _; exact iP2.lt) hps
    refine this.mono fun e W' hx => ⟨hx.1, ?_⟩
    obtain ⟨_, v, g1, h, g2, g3, g4, g5, g6⟩ := hx
    exact ⟨v, g1, h, g2, g3, g4, by simpa [World.setCell] using g5, (grownSet W1 ⟨s, 2, none⟩ _).trans g6⟩) (enters_of Try.func55 (by kernel_rfl) rfl) (fun v W i u h => h.set i u) (fun v W h => h.drew)
  have HDO := Lib.hid hdo
  have cP := iP.cell 0
  have hmf : ∀ (fn : Fn) (first cap : Array Value) (w : World), (Instr.makeFunc fn first cap).run Try.prog w = .ok (.func fn first cap) w := fun _ _ _ _ => rfl
  have HW := Lib.hid hW1
  have HZ := Lib.hid hz1
  have HG0 := Lib.hid (grownOf hB1)
  have hW := hW1.symm
  clear hdo iS hB1 hz1 hk hs hW1
  go_enter Try.func45, Try.ntmps45
  go_wp2_with (go_at_call 54; refine HDO.out.mono ?_; rintro e W2 ⟨rfl, v, iS2, h, rfl, iH2, hne, hge, hgr⟩; have iP2 : Is W2 w.heap.size 75 #[.pointer (some ⟨s, 0, none⟩)] := (hgr.block _ iP.lt (by intro hx; cases hx; exact hps rfl)).trans iP; have cP2 := iP2.cell 0; have cS4 := iS2.cell 4)
  refine bodyPost_ret (v := .slice (some ⟨h, 0, none⟩) (n + 7) (n + 7)) (by simp [results, Try.results45, go_sem]) rfl ⟨h, rfl, iS2, iH2, hne, by have := HZ.out; omega, (HG0.out.but (some s)).trans hgr⟩

set_option maxRecDepth 100000 in
set_option maxHeartbeats 1000000 in
/-- later: they are told as they are. -/
theorem roundKeys_done (s : Nat) (key : ByteArray) (n h : Nat) (w : World) (hs : Is w s 54 (sch key 1 0 (.slice (some ⟨h, 0, none⟩) n n))) :
    Calls Try.prog 45 #[.pointer (some ⟨s, 0, none⟩)] w fun e w' => e = .returned (.slice (some ⟨h, 0, none⟩) n n) ∧ Below w.heap.size w w' := by
  obtain ⟨W1, hW1⟩ : ∃ W1, W1 = w.alloc (.cells #[.pointer (some ⟨s, 0, none⟩)] 75) := ⟨_, rfl⟩
  have iP : Is W1 w.heap.size 75 #[.pointer (some ⟨s, 0, none⟩)] := by rw [hW1]; exact Is.new w _ _
  have iS : Is W1 s 54 (sch key 1 0 (.slice (some ⟨h, 0, none⟩) n n)) := by rw [hW1]; exact hs.alloc _
  have hB1 : Below w.heap.size w W1 := by rw [hW1]; exact (Below.refl _ _).alloc (Nat.le_refl _) _
  have cP := iP.cell 0
  have cS4 := iS.cell 4
  have HDO := Lib.hid (fun fv => do_done 54 s key (.slice (some ⟨h, 0, none⟩) n n) fv W1 iS)
  have hmf : ∀ (fn : Fn) (first cap : Array Value) (w : World), (Instr.makeFunc fn first cap).run Try.prog w = .ok (.func fn first cap) w := fun _ _ _ _ => rfl
  have hW := hW1.symm
  clear iS hs hW1
  go_enter Try.func45, Try.ntmps45
  go_wp2_with (go_at_call 54; refine (HDO.out _).mono ?_; rintro e W2 ⟨rfl, rfl⟩)
  exact bodyPost_ret (v := .slice (some ⟨h, 0, none⟩) n n) (by simp [results, Try.results45, go_sem]) rfl ⟨rfl, hB1⟩

/-- is a round an inner one? -/
def innB (r n : Nat) : Bool := decide (0 < r) && decide (r < n)
set_option maxRecDepth 100000 in
set_option maxHeartbeats 1000000 in
theorem isInner_any (s : Nat) (key : ByteArray) (n h r : Nat) (w : World) (hn : n ≤ 100) (hr : r ≤ 100) (hs : Is w s 54 (sch key 1 0 (.slice (some ⟨h, 0, none⟩) (n + 1) (n + 1)))) :
    Calls Try.prog 29 #[.pointer (some ⟨s, 0, none⟩), .int .i64 (r : Int)] w fun e w' => e = .returned (.bool (innB r n)) ∧ Below w.heap.size w w' := by
  have HR := Lib.hid (roundKeys_done s key (n + 1) h w hs)
  clear hs
  by_cases h0 : 0 < r
  · have e1 : decide ((0 : Int) < (r : Int)) = true := by simp; omega
    have e1' : decide (0 < r) = true := by simp; omega
    by_cases h1 : r < n
    · have e2 : decide ((r : Int) < (n : Int)) = true := by simp; omega
      have e2' : decide (r < n) = true := by simp; omega
      have HB := Lib.hid (show innB r n = true by unfold innB; rw [e1', e2']; rfl)
      go_enter Try.func29, Try.ntmps29
      go_wp2_with (go_at_call 45; refine HR.out.mono ?_; rintro e w1 ⟨rfl, hb⟩)
      go_ret
      exact ⟨by rw [HB.out]; rfl, hb⟩
    · have e2 : decide ((r : Int) < (n : Int)) = false := by simp; omega
      have e2' : decide (r < n) = false := by simp; omega
      have HB := Lib.hid (show innB r n = false by unfold innB; rw [e1', e2']; rfl)
      go_enter Try.func29, Try.ntmps29
      go_wp2_with (go_at_call 45; refine HR.out.mono ?_; rintro e w1 ⟨rfl, hb⟩)
      go_ret
      exact ⟨by rw [HB.out]; rfl, hb⟩
  · obtain rfl : r = 0 := by omega
    have HB := Lib.hid (show innB 0 n = false by unfold innB; rfl)
    go_enter Try.func29, Try.ntmps29
    go_wp2
    go_ret
    exact ⟨by rw [HB.out]; rfl, Below.refl _ _⟩
end Go.Proofs.Ytjfeloimlgfocaa
