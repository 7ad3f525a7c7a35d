/-
  Layer 12: contracts of bucket.Get, bucket.Del and bucket.Put. Condition: the store lies where its slice points to.
-/
import Derived.Test.YtglcckpkbnppoaaBuxJ
import Derived.Test.YtglcckpkbnppoaaBuxO
namespace Go.Proofs.Ytglcckpkbnppoaa
open Go.RowKit Go.Shelf

theorem with_any12 (s : Sto12) (A : Option Addr) (c : Nat) (w : World) (h : InS w s A c) (hr : Rt12 s) :
    Calls Try.prog 46 #[stoV s A c] w fun e w' => ∃ A1 c1, e = .returned (.tuple #[stoV (roomV12 s).1 A1 c1, .int .i64 (roomV12 s).2]) ∧ RowB w' w.heap.size A1 c1 (roomV12 s).1.B ∧ Below w.heap.size w w' := by
  rw [roomV12]
  by_cases hc : 3 * (s.B.length : Int) < 4 * (s.many + s.gone + 1)
  · rw [if_pos hc]
    by_cases hg : 4096 < grow12 s
    · rw [if_pos hg]; exact with_full12 s A c w h hr hc hg
    · rw [if_neg hg]; exact with_anew12 s A c w h hr hc hg
  · rw [if_neg hc]; exact with_no12 s A c w h hr hc
theorem getV_no12 {s : Sto12} {l : ByteArray} (h : right12 s = false) : getV12 s l = (⟨#[]⟩, false) := by rw [getV12, h]; rfl
theorem getV_hit12 {s : Sto12} {l : ByteArray} {k : Nat} (h : right12 s = true) (hk : plc12 s.B l = some k) : getV12 s l = ((at12 s.B k).c, true) := by rw [getV12, if_pos h, mp12, hk]; rfl
theorem getV_miss12 {s : Sto12} {l : ByteArray} (h : right12 s = true) (hk : plc12 s.B l = none) : getV12 s l = (⟨#[]⟩, false) := by rw [getV12, if_pos h, mp12, hk]; rfl

set_option maxRecDepth 100000 in
set_option maxHeartbeats 4000000 in
theorem bget_any12 (s : Sto12) (A : Option Addr) (c : Nat) (l : ByteArray) (w : World) (h : InS w s A c) :
    Calls Try.prog 29 #[stoV s A c, .string l] w fun e w' => e = .returned (.tuple #[.string (getV12 s l).1, .bool (getV12 s l).2]) ∧ Below w.heap.size w w' := by
  have HB := Lib.hid (fun W (hB : Below w.heap.size w W) => bright_any12 s A c W (h.keep hB))
  have HI := Lib.hid h
  have i0 := Is.new w 31 (stoA s A c)
  have hB0 : Below w.heap.size w (w.alloc (.cells (stoA s A c) 31)) := (Below.refl _ _).alloc (Nat.le_refl _) _
  obtain ⟨R, hR⟩ : ∃ R, R = getV12 s l := ⟨_, rfl⟩
  rw [← hR]
  cases hr : right12 s with
  | false =>
    rw [hr] at HB
    have HR := Lib.hid (hR.trans (getV_no12 hr))
    clear hr hR h
    go_enter Try.func29, Try.ntmps29
    go_wp2_with (first | (refine wpList_load_row rfl 31 _ rfl w.heap.size rfl _ _ _ _ i0 Try.underlying31 rfl infoSto12 ?_) | (go_at_call 18; refine (HB.out _ hB0).mono ?_; rintro e w1 ⟨rfl, hb⟩))
    go_ret2
    exact ⟨by rw [HR.out]; rfl, hB0.trans (hb.mono hB0.size)⟩
  | true =>
    rw [hr] at HB
    have hrt := (right_iff12.1 hr).bnd
    have HF := Lib.hid (fun W (hB : Below w.heap.size w W) => find_any12 s A c l W (h.keep hB) (by have := hrt.len.1; omega) hrt.len.2)
    have HLEN := Lib.hid hrt.len
    cases hk : plc12 s.B l with
    | none =>
      rw [plcN12, plcB12, hk] at HF
      have HR := Lib.hid (hR.trans (getV_miss12 hr hk))
      clear hr hR h hrt hk
      go_enter Try.func29, Try.ntmps29
      go_wp2_with (first | (refine wpList_load_row rfl 31 _ rfl w.heap.size rfl _ _ _ _ i0 Try.underlying31 rfl infoSto12 ?_) | (go_at_call 18; refine (HB.out _ hB0).mono ?_; rintro e w1 ⟨rfl, hb⟩; have hB1 := hB0.trans (hb.mono hB0.size); have i1 := i0.below hb i0.lt; clear hb) | (refine wpList_load_row rfl 31 _ rfl w.heap.size rfl _ _ _ _ i1 Try.underlying31 rfl infoSto12 ?_) | (go_at_call 44; refine (HF.out _ hB1).mono ?_; rintro e w2 ⟨rfl, hb2⟩))
      go_ret2
      exact ⟨by rw [HR.out]; rfl, hB1.trans (hb2.mono hB1.size)⟩
    | some k =>
      rw [plcN12, plcB12, hk] at HF
      have hkl := (plc_lt12 hk).1
      have hx := getD_at12 hkl
      have HR := Lib.hid (hR.trans (getV_hit12 hr hk))
      obtain ⟨b, off, hA, _, _⟩ := h.b.bkt hx
      have HQ := Lib.hid (fun W (hB : Below w.heap.size w W) => by
        obtain ⟨b2, off2, hA2, _, hrg⟩ := (h.keep hB).b.bkt hx
        rw [hA] at hA2
        cases hA2
        exact (show W.cell? ⟨b, off + k * 3 + 2, none⟩ = some (.string (at12 s.B k).c) from hrg 2 _ rfl))
      have hk1 : (k : Int) < (s.B.length : Int) := by omega
      generalize (at12 s.B k).c = y at *
      subst hA
      clear hr hR h hrt hk hx
      go_enter Try.func29, Try.ntmps29
      go_wp2_with (first | (refine wpList_load_row rfl 31 _ rfl w.heap.size rfl _ _ _ _ i0 Try.underlying31 rfl infoSto12 ?_) | (go_at_call 18; refine (HB.out _ hB0).mono ?_; rintro e w1 ⟨rfl, hb⟩; have hB1 := hB0.trans (hb.mono hB0.size); have i1 := i0.below hb i0.lt; clear hb) | (refine wpList_load_row rfl 31 _ rfl w.heap.size rfl _ _ _ _ i1 Try.underlying31 rfl infoSto12 ?_) | (go_at_call 44; refine (HF.out _ hB1).mono ?_; rintro e w2 ⟨rfl, hb2⟩; have hB2 := hB1.trans (hb2.mono hB1.size); have i2 := i1.below hb2 i1.lt; have c0 : w2.cell? ⟨w.heap.size, 0, none⟩ = some (.slice (some ⟨b, off, none⟩) s.B.length c) := i2.cell 0; have cq := HQ.out w2 hB2))
      go_ret2
      exact ⟨by rw [HR.out]; rfl, hB2⟩

theorem results_rtt12 {P : Program} {fn : Func} {p u v : Tmp} {ty : TypeId} (h : fn.results = #[.cell p ty, .tmp u, .tmp v]) (tmps : Array Value) (w : World) (g : Nat) (t : TypeId) (cs : Array Value) (fr : Nat × Nat) (d : TypeDesc)
    (hp : tmps.getD p undef = .pointer (some ⟨g, 0, none⟩)) (hg : w.heap[g]? = some (.cells cs t fr))
    (hu : P.underlying ty = some d) (hd : (match d with | .struct _ | .array _ _ => true | _ => false) = true) (hi : (P.info? ty).map (·.size) = some cs.size) :
    (results fn tmps).run P w = .ok (.tuple #[.agg cs, tmps.getD u undef, tmps.getD v undef]) w := by
  have e : (results fn tmps).run P w = ((asAddr (tmps.getD p undef)).run P w).andThen fun b w0 => ((loadVar ty b).run P w0).andThen fun v0 w1 => .ok (.tuple #[v0, tmps.getD u undef, tmps.getD v undef]) w1 := by
    simp only [results, h]
    simp [Sem.run_bind, Result.andThen]
  rw [e, hp]
  simp [asAddr, run_loadVar_row w g t ty cs fr d hg hu hd hi]
theorem delV_no12 {s : Sto12} {l : ByteArray} (h : right12 s = false) : delV12 s l = (s, false, 1) := by rw [delV12, h]; rfl
theorem delV_hit12 {s : Sto12} {l : ByteArray} {k : Nat} (h : right12 s = true) (hk : plc12 s.B l = some k) : delV12 s l = (⟨s.B.set k gon12, s.many - 1, s.gone + 1⟩, true, 0) := by rw [delV12, if_pos h, hk]
theorem delV_miss12 {s : Sto12} {l : ByteArray} (h : right12 s = true) (hk : plc12 s.B l = none) : delV12 s l = (s, false, 0) := by rw [delV12, if_pos h, hk]

set_option maxRecDepth 100000 in
set_option maxHeartbeats 8000000 in
theorem bdel_any12 (s : Sto12) (A : Option Addr) (c : Nat) (l : ByteArray) (w : World) (h : InS w s A c) :
    Calls Try.prog 27 #[stoV s A c, .string l] w fun e w' => ∃ A1 c1, e = .returned (.tuple #[stoV (delV12 s l).1 A1 c1, .bool (delV12 s l).2.1, .int .i64 (delV12 s l).2.2]) ∧ InS w' (delV12 s l).1 A1 c1 ∧ Below w.heap.size w w' := by
  have HB := Lib.hid (fun W (hB : Below w.heap.size w W) => bright_any12 s A c W (h.keep hB))
  have HI := Lib.hid h
  obtain ⟨W0, hW0⟩ : ∃ W, W = (w.alloc (.cells (stoA s A c) 31)).alloc (.cells #[.slice none 0 0, .int .i64 0, .int .i64 0] 31) := ⟨_, rfl⟩
  have i0 : Is W0 w.heap.size 31 (stoA s A c) := by rw [hW0]; exact heap_alloc2_old w _ _
  have j0 : Is W0 (w.heap.size + 1) 31 #[.slice none 0 0, .int .i64 0, .int .i64 0] := by rw [hW0]; exact heap_alloc2_new w _ _
  have hB0 : Below w.heap.size w W0 := by rw [hW0]; exact ((Below.refl _ _).alloc (Nat.le_refl _) _).alloc (by simp) _
  have HS1 := Lib.hid (stoA_one12 s A c)
  cases hr : right12 s with
  | false =>
    rw [delV_no12 hr]
    rw [hr] at HB
    clear hr h
    go_enter Try.func27, Try.ntmps27
    go_wp2_with fail
    rw [← hW0]
    clear hW0
    go_wp2_with (first | (refine wpList_load_row rfl 31 _ rfl w.heap.size rfl _ _ _ _ i0 Try.underlying31 rfl infoSto12 ?_) | (go_at_call 18; refine (HB.out _ hB0).mono ?_; rintro e w1 ⟨rfl, hb⟩; have hB1 := hB0.trans (hb.mono hB0.size); have i1 := i0.below hb i0.lt; have j1 := j0.below hb j0.lt; clear hb) | (refine wpList_load_row rfl 31 _ rfl w.heap.size rfl _ _ _ _ i1 Try.underlying31 rfl infoSto12 ?_) | (refine wpList_store_row rfl 31 _ _ rfl (w.heap.size + 1) (stoA s A c) rfl rfl 31 _ j1 infoSto12 rfl HS1.out ?_))
    have hB2 := belowRow hB1 (g := w.heap.size + 1) (by omega) (stoA s A c)
    exact bodyPost_ret (results_rtt12 Try.results27 _ _ (w.heap.size + 1) 31 _ (0, 0) _ rfl (j1.row _) Try.underlying31 rfl infoSto12) rfl ⟨A, c, rfl, HI.out.keep hB2, hB2⟩
  | true =>
    rw [hr] at HB
    have hrt := (right_iff12.1 hr).bnd
    have HF := Lib.hid (fun W (hB : Below w.heap.size w W) => find_any12 s A c l W (h.keep hB) (by have := hrt.len.1; omega) hrt.len.2)
    have HC := Lib.hid (fun W (hB : Below w.heap.size w W) => copy_any12 s A c W (h.keep hB))
    have HLEN := Lib.hid hrt.len
    have hmany := hrt.many
    have hgone := hrt.gone
    have w1 := IntWalk.i64_in (s.many - 1) (by omega)
    have w2 := IntWalk.i64_in (s.gone + 1) (by omega)
    cases hk : plc12 s.B l with
    | none =>
      rw [delV_miss12 hr hk]
      rw [plcN12, plcB12, hk] at HF
      clear hr h hrt hk
      go_enter Try.func27, Try.ntmps27
      go_wp2_with fail
      rw [← hW0]
      clear hW0
      go_wp2_with (first | (refine wpList_load_row rfl 31 _ rfl w.heap.size rfl _ _ _ _ i0 Try.underlying31 rfl infoSto12 ?_) | (go_at_call 18; refine (HB.out _ hB0).mono ?_; rintro e w1 ⟨rfl, hb⟩; have hB1 := hB0.trans (hb.mono hB0.size); have i1 := i0.below hb i0.lt; have j1 := j0.below hb j0.lt; clear hb) | (refine wpList_load_row rfl 31 _ rfl w.heap.size rfl _ _ _ _ i1 Try.underlying31 rfl infoSto12 ?_))
      refine (HC.out _ hB1).mono ?_
      rintro e W2 ⟨A1, c1, rfl, hr2, hb2⟩
      have hB2 := hB1.trans (hb2.mono hB1.size)
      have i2 := i1.below hb2 i1.lt
      have j2 := j1.below hb2 j1.lt
      have HS2 := Lib.hid (stoA_one12 s A1 c1)
      have HR2 := Lib.hid (RowV.alloc (hr2.mono hB1.size) (.cells (stoA s A1 c1) 31))
      have i3 := i2.alloc (.cells (stoA s A1 c1) 31)
      have j3 := j2.alloc (.cells (stoA s A1 c1) 31)
      have k3 := Is.new W2 31 (stoA s A1 c1)
      have hB3 := hB2.alloc hB2.size (.cells (stoA s A1 c1) 31)
      have hjl := j2.lt
      clear i2 j2 hB2 hb2 hr2 i1 j1 hB1
      go_wp2_with (refine wpList_load_row rfl 31 _ rfl w.heap.size rfl _ _ _ _ i3 Try.underlying31 rfl infoSto12 ?_)
      refine (HF.out _ hB3).mono ?_
      rintro e W4 ⟨rfl, hb4⟩
      have hB4 := hB3.trans (hb4.mono hB3.size)
      have j4 := j3.below hb4 j3.lt
      have k4 := k3.below hb4 k3.lt
      have HR4 := Lib.hid (RowV.below HR2.out hb4)
      clear hb4 i3 j3 k3
      go_wp2_with (first | (refine wpList_load_row rfl 31 _ rfl W2.heap.size rfl _ _ _ _ k4 Try.underlying31 rfl infoSto12 ?_) | (refine wpList_store_row rfl 31 _ _ rfl (w.heap.size + 1) (stoA s A1 c1) rfl rfl 31 _ j4 infoSto12 rfl HS2.out ?_))
      exact bodyPost_ret (results_rtt12 Try.results27 _ _ (w.heap.size + 1) 31 _ (0, 0) _ rfl (j4.row _) Try.underlying31 rfl infoSto12) rfl ⟨A1, c1, rfl, RowB.inS (RowV.rowFar HR4.out j4 (by decide) _) HLEN.out.2, belowRow hB4 (by omega) _⟩
    | some k =>
      rw [delV_hit12 hr hk]
      rw [plcN12, plcB12, hk] at HF
      have hkl := (plc_lt12 hk).1
      have hk1 : (k : Int) < (s.B.length : Int) := by omega
      have HKL := Lib.hid hkl
      have hlen : (s.B.set k gon12).length = s.B.length := List.length_set
      clear hr h hrt hk
      go_enter Try.func27, Try.ntmps27
      go_wp2_with fail
      rw [← hW0]
      clear hW0
      go_wp2_with (first | (refine wpList_load_row rfl 31 _ rfl w.heap.size rfl _ _ _ _ i0 Try.underlying31 rfl infoSto12 ?_) | (go_at_call 18; refine (HB.out _ hB0).mono ?_; rintro e w1 ⟨rfl, hb⟩; have hB1 := hB0.trans (hb.mono hB0.size); have i1 := i0.below hb i0.lt; have j1 := j0.below hb j0.lt; clear hb) | (refine wpList_load_row rfl 31 _ rfl w.heap.size rfl _ _ _ _ i1 Try.underlying31 rfl infoSto12 ?_))
      refine (HC.out _ hB1).mono ?_
      rintro e W2 ⟨A1, c1, rfl, hr2, hb2⟩
      obtain ⟨g, cur, rfl, hgb, hgc, hz⟩ := hr2.open (by have := HLEN.out; omega)
      have hgl := hgc.lt
      clear hz hgc cur
      have hB2 := hB1.trans (hb2.mono hB1.size)
      have i2 := i1.below hb2 i1.lt
      have j2 := j1.below hb2 j1.lt
      have HR2 := Lib.hid (RowV.alloc (hr2.mono hB1.size) (.cells (stoA s (some ⟨g, 0, none⟩) c1) 31))
      have i3 := i2.alloc (.cells (stoA s (some ⟨g, 0, none⟩) c1) 31)
      have j3 := j2.alloc (.cells (stoA s (some ⟨g, 0, none⟩) c1) 31)
      have k3 := Is.new W2 31 (stoA s (some ⟨g, 0, none⟩) c1)
      have hB3 := hB2.alloc hB2.size (.cells (stoA s (some ⟨g, 0, none⟩) c1) 31)
      have hjl := j2.lt
      have hjl1 := j1.lt
      clear i2 j2 hB2 hb2 hr2 i1 j1 hB1
      go_wp2_with (refine wpList_load_row rfl 31 _ rfl w.heap.size rfl _ _ _ _ i3 Try.underlying31 rfl infoSto12 ?_)
      refine (HF.out _ hB3).mono ?_
      rintro e W4 ⟨rfl, hb4⟩
      have hB4 := hB3.trans (hb4.mono hB3.size)
      have j4 := j3.below hb4 j3.lt
      have k4 := k3.below hb4 k3.lt
      have r4 : RowB W4 w.heap.size (some ⟨g, 0, none⟩) c1 s.B := RowV.below HR2.out hb4
      clear hb4 i3 j3 k3 HR2
      have c0 : W4.cell? ⟨W2.heap.size, 0, none⟩ = some (.slice (some ⟨g, 0, none⟩) s.B.length c1) := k4.cell 0
      have HT := Lib.hid (RowB.there r4 hkl)
      have M1 := Lib.hid (show Is (W4.setCells g (k * 3) [.int .i64 2, .string ⟨#[]⟩, .string ⟨#[]⟩]) (w.heap.size + 1) 31 #[.slice none 0 0, .int .i64 0, .int .i64 0] from j4.cells3 (by omega) _ _ _ _)
      have M2 := Lib.hid (show Is (W4.setCells g (k * 3) [.int .i64 2, .string ⟨#[]⟩, .string ⟨#[]⟩]) W2.heap.size 31 #[.slice (some ⟨g, 0, none⟩) s.B.length c1, .int .i64 s.many, .int .i64 s.gone] from k4.cells3 (by omega) _ _ _ _)
      have M3 := Lib.hid (show RowB (W4.setCells g (k * 3) [.int .i64 2, .string ⟨#[]⟩, .string ⟨#[]⟩]) w.heap.size (some ⟨g, 0, none⟩) c1 (s.B.set k gon12) from RowB.put r4 hkl gon12)
      have M4 := Lib.hid (below_cells3 hB4 (g := g) (by have := HI.out; omega) (k * 3) (.int .i64 2) (.string ⟨#[]⟩) (.string ⟨#[]⟩))
      clear j4 k4 r4 hB4
      go_upto_region 7 with (refine wpList_store_bkt12 rfl _ _ rfl g (k * 3) 2 ⟨#[]⟩ ⟨#[]⟩ rfl rfl HT.out ?_)
      have m1 := M1.out
      have m2 := M2.out
      have m3 := M3.out
      have m4 := M4.out
      clear M1 M2 M3 M4 HT c0
      generalize W4.setCells g (k * 3) [.int .i64 2, .string ⟨#[]⟩, .string ⟨#[]⟩] = W5 at *
      have d1 : W5.cell? ⟨W2.heap.size, 1, none⟩ = some (.int .i64 s.many) := m2.cell 1
      have d2 : W5.cell? ⟨W2.heap.size, 2, none⟩ = some (.int .i64 s.gone) := m2.cell 2
      have e1 := m2.frozen 1
      have e2 := m2.frozen 2
      have n2 : Is ((W5.setCell ⟨W2.heap.size, 1, none⟩ (.int .i64 (s.many - 1))).setCell ⟨W2.heap.size, 2, none⟩ (.int .i64 (s.gone + 1))) W2.heap.size 31 #[.slice (some ⟨g, 0, none⟩) s.B.length c1, .int .i64 (s.many - 1), .int .i64 (s.gone + 1)] := (m2.set 1 _).set 2 _
      have n1 := (m1.far (p := ⟨W2.heap.size, 1, none⟩) (by simp only []; omega) (.int .i64 (s.many - 1))).far (p := ⟨W2.heap.size, 2, none⟩) (by simp only []; omega) (.int .i64 (s.gone + 1))
      have n3 := (RowV.far m3 (p := ⟨W2.heap.size, 1, none⟩) m2 (by decide) (.int .i64 (s.many - 1))).far (p := ⟨W2.heap.size, 2, none⟩) (m2.set 1 _) (by decide) (.int .i64 (s.gone + 1))
      have n4 := (m4.setCell (p := ⟨W2.heap.size, 1, none⟩) (by simp only []; omega) (.int .i64 (s.many - 1))).setCell (p := ⟨W2.heap.size, 2, none⟩) (by simp only []; omega) (.int .i64 (s.gone + 1))
      have HONE := Lib.hid (show (#[.slice (some ⟨g, 0, none⟩) s.B.length c1, .int .i64 (s.many - 1), .int .i64 (s.gone + 1)] : Array Value).all (·.oneCell') = true by rw [← Array.all_toList]; rfl)
      have Z3 := Lib.hid (RowV.rowFar n3 n1 (by decide) #[.slice (some ⟨g, 0, none⟩) s.B.length c1, .int .i64 (s.many - 1), .int .i64 (s.gone + 1)])
      have Z4 := Lib.hid n4
      clear n3 n4 m1 m2 m3 m4
      go_wp2_with (first | (refine wpList_load_row rfl 31 _ rfl W2.heap.size rfl _ _ _ _ n2 Try.underlying31 rfl infoSto12 ?_) | (refine wpList_store_row rfl 31 _ _ rfl (w.heap.size + 1) #[.slice (some ⟨g, 0, none⟩) s.B.length c1, .int .i64 (s.many - 1), .int .i64 (s.gone + 1)] rfl rfl 31 _ n1 infoSto12 rfl HONE.out ?_))
      exact bodyPost_ret (results_rtt12 Try.results27 _ _ (w.heap.size + 1) 31 _ (0, 0) _ rfl (n1.row _) Try.underlying31 rfl infoSto12) rfl ⟨some ⟨g, 0, none⟩, c1, by show _ = Ending.returned (.tuple #[.agg #[.slice _ (s.B.set k gon12).length _, _, _], _, _]); rw [hlen]; rfl, RowB.inS (s := ⟨s.B.set k gon12, s.many - 1, s.gone + 1⟩) Z3.out (by show (s.B.set k gon12).length ≤ 4096; rw [hlen]; exact HLEN.out.2), belowRow Z4.out (by omega) _⟩

theorem putV_no12 {s : Sto12} {l x : ByteArray} (h : (right12 s && (decide (l.size = 16) && decide (x.size = 40))) = false) : putV12 s l x = (s, 1) := by rw [putV12, h]; rfl
theorem putV_hit12 {s : Sto12} {l x : ByteArray} {k : Nat} (h : right12 s = true) (hl : l.size = 16) (hx : x.size = 40) (hk : plc12 s.B l = some k) : putV12 s l x = (⟨s.B.set k ⟨1, l, x⟩, s.many, s.gone⟩, 0) := by
  rw [putV12, if_pos (by simp [h, hl, hx]), hk]
theorem putV_full12 {s : Sto12} {l x : ByteArray} (h : right12 s = true) (hl : l.size = 16) (hx : x.size = 40) (hk : plc12 s.B l = none) (he : (roomV12 s).2 ≠ 0) : (roomV12 s).2 = 20 ∧ putV12 s l x = (s, 20) := by
  rw [putV12, if_pos (by simp [h, hl, hx]), hk]
  rw [roomV12] at he ⊢
  by_cases hc : 3 * (s.B.length : Int) < 4 * (s.many + s.gone + 1)
  · rw [if_pos hc] at he ⊢
    by_cases hg : 4096 < grow12 s
    · rw [if_pos hg]; exact ⟨rfl, by show (if 3 * (s.B.length : Int) < 4 * (s.many + s.gone + 1) then _ else _) = _; rw [if_pos hc, if_pos hg]⟩
    · rw [if_neg hg] at he; exact absurd rfl he
  · rw [if_neg hc] at he; exact absurd rfl he
/-- one more, in a store that has room. -/
structure Fit12 (s t : Sto12) (l x : ByteArray) (k : Nat) : Prop where
  gap : gap12 t.B l = some k
  all : ∀ j, j < t.B.length → (at12 t.B j).st = 0 ∨ (at12 t.B j).st = 1 ∨ (at12 t.B j).st = 2
  len : 0 < t.B.length ∧ t.B.length ≤ 4096
  many : -1000000 ≤ t.many ∧ t.many ≤ 1000000
  gone : -1000000 ≤ t.gone ∧ t.gone ≤ 1000000
  put : putV12 s l x = (add12 t k l x, 0)
theorem ok_all12 {B : List Bkt12} (h : Ok12 B) (j : Nat) (hj : j < B.length) : (at12 B j).st = 0 ∨ (at12 B j).st = 1 ∨ (at12 B j).st = 2 := by
  by_cases h1 : (at12 B j).st = 1
  · exact .inr (.inl h1)
  · rcases (h.not j hj h1).1 with h0 | h0
    · exact .inl h0
    · exact .inr (.inr h0)
theorem putV_add12 {s : Sto12} {l x : ByteArray} (h : right12 s = true) (hl : l.size = 16) (hx : x.size = 40) (hk : plc12 s.B l = none) (he : (roomV12 s).2 = 0) : ∃ k, Fit12 s (roomV12 s).1 l x k := by
  have hr := right_iff12.1 h
  have hb := hr.bnd
  have hm := hr.many
  have hgo := hr.gone
  have hro := hr.room
  by_cases hc : 3 * (s.B.length : Int) < 4 * (s.many + s.gone + 1)
  · by_cases hg : 4096 < grow12 s
    · rw [roomV12, if_pos hc, if_pos hg] at he; cases he
    · have hrm : roomV12 s = (⟨fold12 (new12 (grow12 s).toNat) (us12 s.B), s.many, 0⟩, 0) := by rw [roomV12, if_pos hc, if_neg hg]
      rw [hrm]
      obtain ⟨g1, g2, g3⟩ := grow_room12 hr hg
      obtain ⟨hf, hmp⟩ := re_ok12 hr.ok (n := (grow12 s).toNat) (by omega)
      have hlen : (fold12 (new12 (grow12 s).toNat) (us12 s.B)).length = (grow12 s).toNat := by rw [hf.len, new_len12]
      have hpl : plc12 (fold12 (new12 (grow12 s).toNat) (us12 s.B)) l = none := by rw [← mp_none12, hmp, mp_none12.2 hk]
      obtain ⟨k, hgp⟩ := hf.ok.gap hpl (by rw [hf.used, hlen, (new_cnt12 _).1, us_len12]; omega)
      have hst : (at12 (fold12 (new12 (grow12 s).toNat) (us12 s.B)) k).st ≠ 2 := fun e => by
        have hkl := (gap_lt12 hgp).1
        have : 0 < cnt12 (fold12 (new12 (grow12 s).toNat) (us12 s.B)) 2 := by
          rw [cnt12, List.countP_pos_iff]
          exact ⟨_, by rw [at_get12 hkl] at e; exact List.getElem_mem hkl, by rw [at_get12 hkl] at e; simpa using e⟩
        rw [hf.gone] at this
        exact absurd this (Nat.lt_irrefl _)
      refine ⟨k, hgp, ok_all12 hf.ok, by rw [hlen]; omega, by show -1000000 ≤ s.many ∧ s.many ≤ 1000000; have := hb.many; omega, by show (-1000000 : Int) ≤ 0 ∧ (0 : Int) ≤ 1000000; omega, ?_⟩
      rw [putV12, if_pos (by simp [h, hl, hx]), hk]
      show (if 3 * (s.B.length : Int) < 4 * (s.many + s.gone + 1) then _ else _) = _
      rw [if_pos hc, if_neg hg, add12, set12, hgp]
      simp only [if_neg hst]
  · have hrm : roomV12 s = (s, 0) := by rw [roomV12, if_neg hc]
    rw [hrm]
    obtain ⟨k, hgp⟩ := hr.ok.gap hk (by have := hb.len; omega)
    refine ⟨k, hgp, ok_all12 hr.ok, by show 0 < s.B.length ∧ s.B.length ≤ 4096; have := hb.len; omega, by show -1000000 ≤ s.many ∧ s.many ≤ 1000000; have := hb.many; omega, by show -1000000 ≤ s.gone ∧ s.gone ≤ 1000000; have := hb.gone; omega, ?_⟩
    rw [putV12, if_pos (by simp [h, hl, hx]), hk]
    show (if 3 * (s.B.length : Int) < 4 * (s.many + s.gone + 1) then _ else _) = _
    rw [if_neg hc, set12, hgp, add12]
    by_cases h2 : (at12 s.B k).st = 2 <;> simp [h2]

set_option maxRecDepth 100000 in
set_option maxHeartbeats 8000000 in
theorem bput_any12 (s : Sto12) (A : Option Addr) (c : Nat) (l x : ByteArray) (w : World) (h : InS w s A c) :
    Calls Try.prog 25 #[stoV s A c, .string l, .string x] w fun e w' => ∃ A1 c1, e = .returned (.tuple #[stoV (putV12 s l x).1 A1 c1, .int .i64 (putV12 s l x).2]) ∧ InS w' (putV12 s l x).1 A1 c1 ∧ Below w.heap.size w w' := by
  have HB := Lib.hid (fun W (hB : Below w.heap.size w W) => bright_any12 s A c W (h.keep hB))
  have HI := Lib.hid h
  obtain ⟨W0, hW0⟩ : ∃ W, W = (w.alloc (.cells (stoA s A c) 31)).alloc (.cells #[.slice none 0 0, .int .i64 0, .int .i64 0] 31) := ⟨_, rfl⟩
  have i0 : Is W0 w.heap.size 31 (stoA s A c) := by rw [hW0]; exact heap_alloc2_old w _ _
  have j0 : Is W0 (w.heap.size + 1) 31 #[.slice none 0 0, .int .i64 0, .int .i64 0] := by rw [hW0]; exact heap_alloc2_new w _ _
  have hB0 : Below w.heap.size w W0 := by rw [hW0]; exact ((Below.refl _ _).alloc (Nat.le_refl _) _).alloc (by simp) _
  have HS1 := Lib.hid (stoA_one12 s A c)

  by_cases hl : (l.size : Int) = 16
  · by_cases hx : (x.size : Int) = 40
    · have hl' : l.size = 16 := by omega
      have hx' : x.size = 40 := by omega
      cases hr : right12 s with
      | false =>
        rw [putV_no12 (by simp [hr])]
        rw [hr] at HB
        clear hr h
        go_enter Try.func25, Try.ntmps25
        go_wp2_with fail
        rw [← hW0]
        clear hW0
        go_wp2_with (first | (refine wpList_load_row rfl 31 _ rfl w.heap.size rfl _ _ _ _ i0 Try.underlying31 rfl infoSto12 ?_) | (go_at_call 18; refine (HB.out _ hB0).mono ?_; rintro e w1 ⟨rfl, hb⟩; have hB1 := hB0.trans (hb.mono hB0.size); have i1 := i0.below hb i0.lt; have j1 := j0.below hb j0.lt; clear hb) | (refine wpList_load_row rfl 31 _ rfl w.heap.size rfl _ _ _ _ i1 Try.underlying31 rfl infoSto12 ?_) | (refine wpList_store_row rfl 31 _ _ rfl (w.heap.size + 1) (stoA s A c) rfl rfl 31 _ j1 infoSto12 rfl HS1.out ?_))
        have hB2 := belowRow hB1 (g := w.heap.size + 1) (by omega) (stoA s A c)
        exact bodyPost_ret (results_row_tmp Try.results25 _ _ (w.heap.size + 1) 31 _ (0, 0) _ rfl (j1.row _) Try.underlying31 rfl infoSto12) rfl ⟨A, c, rfl, HI.out.keep hB2, hB2⟩
      | true =>
        rw [hr] at HB
        have hrt' := right_iff12.1 hr
        have hrt := hrt'.bnd
        have HF := Lib.hid (fun W (hB : Below w.heap.size w W) => find_any12 s A c l W (h.keep hB) (by have := hrt.len.1; omega) hrt.len.2)
        have HLEN := Lib.hid hrt.len
        cases hk : plc12 s.B l with
        | some k =>
          rw [putV_hit12 hr hl' hx' hk]
          rw [plcN12, plcB12, hk] at HF
          have HC := Lib.hid (fun W (hB : Below w.heap.size w W) => copy_any12 s A c W (h.keep hB))
          have hkl := (plc_lt12 hk).1
          have hk1 : (k : Int) < (s.B.length : Int) := by omega
          have hxk := getD_at12 hkl
          have hb12 : at12 s.B k = ⟨1, l, (at12 s.B k).c⟩ := by
            obtain ⟨_, e1, e2⟩ := plc_lt12 hk
            rw [show at12 s.B k = ⟨(at12 s.B k).st, (at12 s.B k).l, (at12 s.B k).c⟩ from rfl, e1, e2]
          rw [hb12] at hxk
          have HXK := Lib.hid hxk
          have hlen : (s.B.set k ⟨1, l, x⟩).length = s.B.length := List.length_set
          clear hr h hrt hrt' hk hb12 hxk
          go_enter Try.func25, Try.ntmps25
          go_wp2_with fail
          rw [← hW0]
          clear hW0
          go_wp2_with (first | (refine wpList_load_row rfl 31 _ rfl w.heap.size rfl _ _ _ _ i0 Try.underlying31 rfl infoSto12 ?_) | (go_at_call 18; refine (HB.out _ hB0).mono ?_; rintro e w1 ⟨rfl, hb⟩; have hB1 := hB0.trans (hb.mono hB0.size); have i1 := i0.below hb i0.lt; have j1 := j0.below hb j0.lt; clear hb) | (refine wpList_load_row rfl 31 _ rfl w.heap.size rfl _ _ _ _ i1 Try.underlying31 rfl infoSto12 ?_) | (go_at_call 44; refine (HF.out _ hB1).mono ?_; rintro e w2 ⟨rfl, hb⟩; have hB2 := hB1.trans (hb.mono hB1.size); have i2 := i1.below hb i1.lt; have j2 := j1.below hb j1.lt; clear hb) | (refine wpList_load_row rfl 31 _ rfl w.heap.size rfl _ _ _ _ i2 Try.underlying31 rfl infoSto12 ?_))
          refine (HC.out _ hB2).mono ?_
          rintro e W2 ⟨A1, c1, rfl, hr2, hb2⟩
          obtain ⟨g, cur, rfl, hgb, hgc, hz⟩ := hr2.open (by have := HLEN.out; omega)
          have hgl := hgc.lt
          clear hz hgc cur
          have hB3 := hB2.trans (hb2.mono hB2.size)
          have j3 := j2.below hb2 j2.lt
          have hjl := j2.lt
          have r3 : RowB (W2.alloc (.cells (stoA s (some ⟨g, 0, none⟩) c1) 31)) w.heap.size (some ⟨g, 0, none⟩) c1 s.B := RowV.alloc (hr2.mono hB2.size) (.cells (stoA s (some ⟨g, 0, none⟩) c1) 31)
          have j4 := j3.alloc (.cells (stoA s (some ⟨g, 0, none⟩) c1) 31)
          have k4 := Is.new W2 31 (stoA s (some ⟨g, 0, none⟩) c1)
          have hB4 := hB3.alloc hB3.size (.cells (stoA s (some ⟨g, 0, none⟩) c1) 31)
          have hs4 : W2.heap.size < (W2.alloc (.cells (stoA s (some ⟨g, 0, none⟩) c1) 31)).heap.size := by simp
          have hj3 := j3.lt
          have hbs := hb2.size
          clear i1 i2 j1 j2 j3 hB1 hB2 hB3 hb2 hr2
          go_upto_region 6 with (fail)
          generalize W2.alloc (.cells (stoA s (some ⟨g, 0, none⟩) c1) 31) = W3 at *
          have c0 : W3.cell? ⟨W2.heap.size, 0, none⟩ = some (.slice (some ⟨g, 0, none⟩) s.B.length c1) := k4.cell 0
          obtain ⟨g2, cur, e2, _, hgc, _, _, hcs, _⟩ := r3.open (by have := HLEN.out; omega)
          cases e2
          have fq := hgc.frozen (k * 3 + 2)
          have cq : W3.cell? ⟨g, k * 3 + 2, none⟩ = some (.string (at12 s.B k).c) := (RowB.range r3 HXK.out) 2 _ rfl
          have m1 := Lib.hid (show Is (W3.setCell ⟨g, k * 3 + 2, none⟩ (.string x)) (w.heap.size + 1) 31 #[.slice none 0 0, .int .i64 0, .int .i64 0] from j4.far (by simp only []; omega) _)
          have m2 := Lib.hid (show Is (W3.setCell ⟨g, k * 3 + 2, none⟩ (.string x)) W2.heap.size 31 (stoA s (some ⟨g, 0, none⟩) c1) from k4.far (by simp only []; omega) _)
          have m3 := Lib.hid (show RowB (W3.setCell ⟨g, k * 3 + 2, none⟩ (.string x)) w.heap.size (some ⟨g, 0, none⟩) c1 (s.B.set k ⟨1, l, x⟩) from RowB.cell r3 HXK.out x)
          have m4 := Lib.hid (hB4.setCell (p := ⟨g, k * 3 + 2, none⟩) (by have := HI.out; simp only []; omega) (.string x))
          clear j4 k4 r3 hB4 hgc hcs
          go_upto_region 7 with (fail)
          have n1 := m1.out
          have n2 := m2.out
          have n3 := m3.out
          have n4 := m4.out
          clear m1 m2 m3 m4 c0 fq cq
          generalize W3.setCell ⟨g, k * 3 + 2, none⟩ (.string x) = W4 at *
          have HONE := Lib.hid (stoA_one12 s (some ⟨g, 0, none⟩) c1)
          go_wp2_with (first | (refine wpList_load_row rfl 31 _ rfl W2.heap.size rfl _ _ _ _ n2 Try.underlying31 rfl infoSto12 ?_) | (refine wpList_store_row rfl 31 _ _ rfl (w.heap.size + 1) (stoA s (some ⟨g, 0, none⟩) c1) rfl rfl 31 _ n1 infoSto12 rfl HONE.out ?_))
          exact bodyPost_ret (results_row_tmp Try.results25 _ _ (w.heap.size + 1) 31 _ (0, 0) _ rfl (n1.row _) Try.underlying31 rfl infoSto12) rfl ⟨some ⟨g, 0, none⟩, c1, by show _ = Ending.returned (.tuple #[.agg #[.slice _ (s.B.set k ⟨1, l, x⟩).length _, _, _], _]); rw [hlen]; rfl, RowB.inS (s := ⟨s.B.set k ⟨1, l, x⟩, s.many, s.gone⟩) (RowV.rowFar n3 n1 (by decide) _) (by show (s.B.set k ⟨1, l, x⟩).length ≤ 4096; rw [hlen]; exact HLEN.out.2), belowRow n4 (by omega) _⟩
        | none =>
          rw [plcN12, plcB12, hk] at HF
          have HW := Lib.hid (fun W (hB : Below w.heap.size w W) => with_any12 s A c W (h.keep hB) hrt')
          by_cases he : (roomV12 s).2 = 0
          · obtain ⟨k, hfit⟩ := putV_add12 hr hl' hx' hk he
            have hput := hfit.put
            rw [hput]
            generalize roomV12 s = V at *
            obtain ⟨t, ve⟩ := V
            simp only at he hfit HW
            subst he
            have HFIT := Lib.hid hfit
            have hlen : (add12 t k l x).B.length = t.B.length := List.length_set
            have HLN := Lib.hid hlen
            clear hr h hrt hrt' hk hfit hput hlen
            go_enter Try.func25, Try.ntmps25
            go_wp2_with fail
            rw [← hW0]
            clear hW0
            go_wp2_with (first | (refine wpList_load_row rfl 31 _ rfl w.heap.size rfl _ _ _ _ i0 Try.underlying31 rfl infoSto12 ?_) | (go_at_call 18; refine (HB.out _ hB0).mono ?_; rintro e w1 ⟨rfl, hb⟩; have hB1 := hB0.trans (hb.mono hB0.size); have i1 := i0.below hb i0.lt; have j1 := j0.below hb j0.lt; clear hb) | (refine wpList_load_row rfl 31 _ rfl w.heap.size rfl _ _ _ _ i1 Try.underlying31 rfl infoSto12 ?_) | (go_at_call 44; refine (HF.out _ hB1).mono ?_; rintro e w2 ⟨rfl, hb⟩; have hB2 := hB1.trans (hb.mono hB1.size); have i2 := i1.below hb i1.lt; have j2 := j1.below hb j1.lt; clear hb) | (refine wpList_load_row rfl 31 _ rfl w.heap.size rfl _ _ _ _ i2 Try.underlying31 rfl infoSto12 ?_))
            refine (HW.out _ hB2).mono ?_
            rintro e W2 ⟨A1, c1, rfl, hr2, hb2⟩
            obtain ⟨g, cur, rfl, hgb, hgc, hz⟩ := hr2.open HFIT.out.len.1
            have hgl := hgc.lt
            clear hz hgc cur
            have hB3 := hB2.trans (hb2.mono hB2.size)
            have j3 := j2.below hb2 j2.lt
            have hjl := j2.lt
            have r3 : RowB (W2.alloc (.cells (stoA t (some ⟨g, 0, none⟩) c1) 31)) w.heap.size (some ⟨g, 0, none⟩) c1 t.B := RowV.alloc (hr2.mono hB2.size) (.cells (stoA t (some ⟨g, 0, none⟩) c1) 31)
            have j4 := j3.alloc (.cells (stoA t (some ⟨g, 0, none⟩) c1) 31)
            have k4 := Is.new W2 31 (stoA t (some ⟨g, 0, none⟩) c1)
            have hB4 := hB3.alloc hB3.size (.cells (stoA t (some ⟨g, 0, none⟩) c1) 31)
            have hj3 := j3.lt
            have hbs := hb2.size
            have hs4 : W2.heap.size < (W2.alloc (.cells (stoA t (some ⟨g, 0, none⟩) c1) 31)).heap.size := by simp
            have CA := Lib.hid (added_any12 t (some ⟨g, 0, none⟩) c1 w.heap.size k l x _ r3 HFIT.out.len.1 HFIT.out.len.2 HFIT.out.all HFIT.out.gap HFIT.out.many HFIT.out.gone)
            clear i1 i2 j1 j2 j3 hB1 hB2 hB3 hb2 hr2 r3
            go_wp2_with (refine wpList_load_row rfl 31 _ rfl W2.heap.size rfl _ _ _ _ k4 Try.underlying31 rfl infoSto12 ?_)
            refine CA.out.mono ?_
            rintro e W5 ⟨rfl, hr5, hg5⟩
            have hg5 : World.grownBy (W2.alloc (.cells (stoA t (some ⟨g, 0, none⟩) c1) 31)) W5 (some g) := hg5
            have j5 := (hg5.block _ j4.lt (by intro e; have := Option.some.inj e; omega)).trans j4
            have hB5 := hB4.grown hg5 hB4.size (fun k e => by cases e; have := HI.out; omega)
            have HONE := Lib.hid (stoA_one12 (add12 t k l x) (some ⟨g, 0, none⟩) c1)
            go_wp2_with (refine wpList_store_row rfl 31 _ _ rfl (w.heap.size + 1) (stoA (add12 t k l x) (some ⟨g, 0, none⟩) c1) rfl rfl 31 _ j5 infoSto12 rfl HONE.out ?_)
            exact bodyPost_ret (results_row_tmp Try.results25 _ _ (w.heap.size + 1) 31 _ (0, 0) _ rfl (Is.row j5 _) Try.underlying31 rfl infoSto12) rfl ⟨some ⟨g, 0, none⟩, c1, rfl, RowB.inS (by have := RowV.rowFar hr5 j5 (by decide) (stoA (add12 t k l x) (some ⟨g, 0, none⟩) c1); exact this) (by rw [HLN.out]; exact HFIT.out.len.2), belowRow hB5 (by omega) _⟩
          · obtain ⟨he20, hput⟩ := putV_full12 hr hl' hx' hk he
            rw [hput]
            rw [he20] at HW
            clear hr h hrt hrt' hk hput he he20
            go_enter Try.func25, Try.ntmps25
            go_wp2_with fail
            rw [← hW0]
            clear hW0
            go_wp2_with (first | (refine wpList_load_row rfl 31 _ rfl w.heap.size rfl _ _ _ _ i0 Try.underlying31 rfl infoSto12 ?_) | (go_at_call 18; refine (HB.out _ hB0).mono ?_; rintro e w1 ⟨rfl, hb⟩; have hB1 := hB0.trans (hb.mono hB0.size); have i1 := i0.below hb i0.lt; have j1 := j0.below hb j0.lt; clear hb) | (refine wpList_load_row rfl 31 _ rfl w.heap.size rfl _ _ _ _ i1 Try.underlying31 rfl infoSto12 ?_) | (go_at_call 44; refine (HF.out _ hB1).mono ?_; rintro e w2 ⟨rfl, hb⟩; have hB2 := hB1.trans (hb.mono hB1.size); have i2 := i1.below hb i1.lt; have j2 := j1.below hb j1.lt; clear hb) | (refine wpList_load_row rfl 31 _ rfl w.heap.size rfl _ _ _ _ i2 Try.underlying31 rfl infoSto12 ?_))
            refine (HW.out _ hB2).mono ?_
            rintro e W2 ⟨A1, c1, rfl, _, hb2⟩
            have hB3 := hB2.trans (hb2.mono hB2.size)
            have i3 := i2.below hb2 i2.lt
            have j3 := j2.below hb2 j2.lt
            have i4 := i3.alloc (.cells (stoA (roomV12 s).1 A1 c1) 31)
            have j4 := j3.alloc (.cells (stoA (roomV12 s).1 A1 c1) 31)
            have hB4 := hB3.alloc hB3.size (.cells (stoA (roomV12 s).1 A1 c1) 31)
            clear i1 i2 i3 j1 j2 j3 hB1 hB2 hB3 hb2
            go_wp2_with (first | (refine wpList_load_row rfl 31 _ rfl w.heap.size rfl _ _ _ _ i4 Try.underlying31 rfl infoSto12 ?_) | (refine wpList_store_row rfl 31 _ _ rfl (w.heap.size + 1) (stoA s A c) rfl rfl 31 _ j4 infoSto12 rfl HS1.out ?_))
            have hB5 := belowRow hB4 (g := w.heap.size + 1) (by omega) (stoA s A c)
            exact bodyPost_ret (results_row_tmp Try.results25 _ _ (w.heap.size + 1) 31 _ (0, 0) _ rfl (j4.row _) Try.underlying31 rfl infoSto12) rfl ⟨A, c, rfl, HI.out.keep hB5, hB5⟩
    · have hx' : ¬ x.size = 40 := by omega
      rw [putV_no12 (by simp [hx'])]
      have hBZ : Below w.heap.size w ((w.alloc (.cells (stoA s A c) 31)).alloc (.cells (stoA s A c) 31)) := ((Below.refl _ _).alloc (Nat.le_refl _) _).alloc (by simp) _
      have jZ : Is ((w.alloc (.cells (stoA s A c) 31)).alloc (.cells (stoA s A c) 31)) (w.heap.size + 1) 31 (stoA s A c) := heap_alloc2_new w _ _
      clear h i0 j0 hB0 hW0 W0
      go_enter Try.func25, Try.ntmps25
      go_wp2
      exact bodyPost_ret (results_row_tmp Try.results25 _ _ (w.heap.size + 1) 31 _ (0, 0) _ rfl jZ Try.underlying31 rfl infoSto12) rfl ⟨A, c, rfl, HI.out.keep hBZ, hBZ⟩
  · have hl' : ¬ l.size = 16 := by omega
    rw [putV_no12 (by simp [hl'])]
    have hBZ : Below w.heap.size w ((w.alloc (.cells (stoA s A c) 31)).alloc (.cells (stoA s A c) 31)) := ((Below.refl _ _).alloc (Nat.le_refl _) _).alloc (by simp) _
    have jZ : Is ((w.alloc (.cells (stoA s A c) 31)).alloc (.cells (stoA s A c) 31)) (w.heap.size + 1) 31 (stoA s A c) := heap_alloc2_new w _ _
    clear h i0 j0 hB0 hW0 W0
    go_enter Try.func25, Try.ntmps25
    go_wp2
    exact bodyPost_ret (results_row_tmp Try.results25 _ _ (w.heap.size + 1) 31 _ (0, 0) _ rfl jZ Try.underlying31 rfl infoSto12) rfl ⟨A, c, rfl, HI.out.keep hBZ, hBZ⟩

end Go.Proofs.Ytglcckpkbnppoaa
