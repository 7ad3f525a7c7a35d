/-
  IdealClash: the walk of the statement's function.
-/
import Derived.Test.YtaikekemaehcpaaIdz3
import Derived.Test.YtaikekemaehcpaaIdz4
import Derived.Test.YtaikekemaehcpaaIdz5
namespace Go.Proofs.Ytaikekemaehcpaa
open Go.RowKit Go.Shelf

theorem rangeN8 {W : World} {b off : Nat} {L : List Nam8} (h : InV W (some ⟨b, off, none⟩) (flN L)) {k : Nat} {x : Nam8} (hx : L[k]? = some x) : W.rangeAt b (off + k * 2) [.string x.1, .string x.2] := by
  obtain ⟨b2, off2, e, _, h1⟩ := h.nam hx
  cases e
  exact h1
theorem rangeK8 {W : World} {b off : Nat} {L : List Cel8} (h : InV W (some ⟨b, off, none⟩) (flK L)) {k : Nat} {x : Cel8} (hx : L[k]? = some x) : W.rangeAt b (off + k * 3) [.string x.1, .string x.2.1, .string x.2.2] := by
  obtain ⟨b2, off2, e, _, h1⟩ := h.cel hx
  cases e
  exact h1
structure AtD8 (w W : World) (DA : Nat) (d : Ide) : Prop where
  out : ∃ A1 c1 A2 c2, Is W DA 30 (ideL d A1 c1 A2 c2) ∧ InI W d A1 c1 A2 c2 ∧ Below w.heap.size w W

set_option maxRecDepth 100000 in
set_option maxHeartbeats 8000000 in
theorem iclash_walk (A : Option Addr) (cap : Nat) (L : List Int) (small : Bool) (A' : Option Addr) (cap' : Nat) (R : List Raw8) (w : World) (hl : L.length ≤ maxLen ∧ L.length ≤ cap) (_hn : A = none → cap = 0) (hc : InL w A L) (hL : ∀ y ∈ L, -9223372036854775808 ≤ y ∧ y ≤ 9223372036854775807)
    (hR : R.length ≤ maxLen) (hc' : InV w A' (flI R)) (hb' : ∀ n ∈ R, Big8 n) :
    Calls Try.prog 6 #[.slice A L.length cap, .bool small, .slice A' R.length cap'] w fun e w' => e = .returned (.bool true) ∧ Below w.heap.size w w' := by
  have DR := Lib.hid (fun (W : World) (hb : Below w.heap.size w W) => draws_any A cap L small W (hc.keep hb) hL hl.1)
  have hBs := drwS_size L small
  unfold maxLen at hR
  generalize drwS L small = B at *
  have hr0 := two_right8 hBs
  have M0 := fun w => new_any B 0 w
  have e0 : new8 B 0 = (⟨B, 0, [], [], false⟩, 0) := by rw [new8, if_pos hr0]
  have HFR := Lib.hid (fun k => asks8_fro (new8_fro hr0) ((qs8 R).take k))
  have HFL := Lib.hid (asks8_fro (new8_fro hr0) (qs8 R))
  simp only [e0] at M0 HFR HFL
  have H0 := Lib.hid (fun W : World => InI.empty W (show (⟨B, 0, [], [], false⟩ : Ide).N = [] from rfl) (show (⟨B, 0, [], [], false⟩ : Ide).K = [] from rfl))
  have hD0 : asks8 (⟨B, 0, [], [], false⟩ : Ide) ((qs8 R).take 0) = ⟨B, 0, [], [], false⟩ := rfl
  generalize (⟨B, 0, [], [], false⟩ : Ide) = D0 at *
  have HD0 := Lib.hid hD0
  replace M0 := Lib.hid M0
  have HC := Lib.hid (fun (W : World) (hb : Below w.heap.size w W) => hc'.keep hb)
  have HY := Lib.hid hb'
  have HBs := Lib.hid hBs
  have HQL := Lib.hid (qs8_len R)
  clear hc hL hl hc' hb' hBs hr0 e0 _hn hD0
  go_enter Try.func6, Try.ntmps6
  go_wp2_with fail
  have hB : Below w.heap.size w w := Below.refl _ _
  refine (awake8_any _).mono ?_
  rintro e W1 ⟨rfl, hb⟩
  replace hB := hB.trans (hb.mono hB.size)
  clear hb
  go_wp2_with fail
  refine (DR.out _ hB).mono ?_
  rintro e W2 ⟨rfl, hb⟩
  replace hB := hB.trans (hb.mono hB.size)
  clear hb
  go_wp2_with fail
  refine (M0.out _).mono ?_
  rintro e W3 ⟨rfl, hb⟩
  replace hB := hB.trans (hb.mono hB.size)
  clear hb
  have nA := H0.out W3
  have iA : Is (W3.alloc (.cells (ideL D0 none 0 none 0) 30)) W3.heap.size 30 (ideL D0 none 0 none 0) := Is.new _ _ _
  replace nA := nA.keep ((Below.refl _ _).alloc (Nat.le_refl _) (.cells (ideL D0 none 0 none 0) 30))
  have hDA := hB.size
  replace hB := hB.alloc hB.size (.cells (ideL D0 none 0 none 0) 30)
  go_wp2_with (first | (refine wpList_load_rowG (by kernel_rfl) 30 _ rfl (W3.heap.size) rfl 30 _ iA Try.underlying30 rfl infoIde ?_))
  generalize W3.alloc (.cells (ideL D0 none 0 none 0) 30) = W4 at *
  generalize W3.heap.size = DA at *
  have HDA := Lib.hid hDA
  clear hDA
  go_loopw [10] (fun i wr => ∃ k : Nat, k ≤ 15 ∧ k ≤ R.length ∧ i = .int .i64 (k : Int) ∧ AtD8 w wr DA (asks8 D0 ((qs8 R).take k))) (fun i _ => 15 - (intOf i).toNat)
  case atStart => exact ⟨0, by omega, by omega, rfl, ⟨_, _, _, _, by rw [HD0.out]; exact iA, by rw [HD0.out]; exact nA, hB⟩⟩
  case round =>
    clear iA nA hB
    obtain ⟨k, hk15, hkl, rfl, hat⟩ := hrel
    obtain ⟨A1, c1, A2, c2, iA, nA, hB⟩ := hat.out
    clear hat
    have hDA := HDA.out
    by_cases hlt : k < R.length ∧ k < 15
    · obtain ⟨hlt, hlt2⟩ := hlt
      obtain ⟨n, hn⟩ : ∃ n, R[k]? = some n := ⟨_, List.getElem?_eq_getElem hlt⟩
      have hnb := Lib.hid (HY.out n (List.mem_of_getElem? hn))
      obtain ⟨kb, off, rfl, _, hr⟩ := (HC.out wr hB).raw hn
      obtain ⟨d, hd⟩ : ∃ d, d = asks8 D0 ((qs8 R).take k) := ⟨_, rfl⟩
      have hqa := qs8_at hn hlt2
      have hstep := asks8_succ D0 hqa
      have hfro := HFR.out k
      rw [← hd] at iA nA hstep hfro
      have hfine := ask8_fine (q := que8 n.1 n.2.1 n.2.2) (hfro.more (m := 15) (by rw [List.length_take]; omega)) (by omega) HBs.out (que8_ok _ _ _)
      obtain ⟨s, d', er, hask⟩ : ∃ s d' er, ask8 d (que8 n.1 n.2.1 n.2.2) = (s, d', er) := ⟨_, _, _, rfl⟩
      rw [hask] at hstep hfine
      have hfine2 : er = 0 := hfine
      subst hfine2
      have HQ := Lib.hid (show asks8 D0 ((qs8 R).take (k + 1)) = d' from hstep)
      clear hd hqa hstep hfro hfine hn
      have P2 := fun w => pick8_any n.1 2 w hnb.out.1.1 hnb.out.1.2 (by omega) (by omega)
      have l1 : (k : Int) < (R.length : Int) := by omega
      have l2 : (k : Int) < 15 := by omega
      have w1i := IntWalk.i64_in ((k : Int) + 1) (by omega)
      have r0 : wr.cell? ⟨kb, off + k * 3, none⟩ = some (.int .i64 n.1) := hr 0 _ rfl
      have r1 : wr.cell? ⟨kb, off + k * 3 + 1, none⟩ = some (.int .i64 n.2.1) := hr 1 _ rfl
      have r2 : wr.cell? ⟨kb, off + k * 3 + 2, none⟩ = some (.int .i64 n.2.2) := hr 2 _ rfl
      clear hr
      have hNA : wr.heap.size ≠ DA := Nat.ne_of_gt iA.lt
      replace iA := iA.alloc (.cells #[.int .i64 n.1, .int .i64 n.2.1, .int .i64 n.2.2] 24)
      replace nA := nA.keep ((Below.refl _ _).alloc (Nat.le_refl _) (.cells #[.int .i64 n.1, .int .i64 n.2.1, .int .i64 n.2.2] 24))
      replace hB := hB.alloc hB.size (.cells #[.int .i64 n.1, .int .i64 n.2.1, .int .i64 n.2.2] 24)
      have iN : Is (wr.alloc (.cells #[.int .i64 n.1, .int .i64 n.2.1, .int .i64 n.2.2] 24)) wr.heap.size 24 #[.int .i64 n.1, .int .i64 n.2.1, .int .i64 n.2.2] := Is.new _ _ _
      have cN0 : (wr.alloc (.cells #[.int .i64 n.1, .int .i64 n.2.1, .int .i64 n.2.2] 24)).cell? ⟨wr.heap.size, 0, none⟩ = some (.int .i64 n.1) := iN.cell 0
      by_cases hz : pickN n.1 2 = 0
      · replace P2 := P2
        have hq : que8 n.1 n.2.1 n.2.2 = .nam (strOfNums [pickN n.2.1 6]) := by rw [que8, if_pos hz]
        rw [hq] at hask
        clear hq
        have hask2 : lab8 d (strOfNums [pickN n.2.1 6]) = (s, d', 0) := hask
        rw [hz] at P2
        clear hask
        replace P2 := Lib.hid P2
        go_wp2_with fail
        refine (P2.out _).mono ?_
        rintro e w' ⟨rfl, rfl⟩
        go_wp2
        refine Code.wp_mono ?_ (clash_lab n hnb.out _ rfl d d' s A1 c1 A2 c2 DA _ w _ hNA hDA hask2 hB iA iN nA _ _ _ _ _ _ _ _ _ _ _ _ _ _ _ _ _ _ _ _ _ _ _ _ _ _ _ _ _ _ _ _ _ _ _ _ _ _ _ _ _ _ _ _ _ _ _ _ _ _ _ _ _ _ _ _ _ _ _ _ _ _ _ _ _ _ _ _ _ _ _ _ _ _ _ _ _ _ _ _ _ _ _ _ _ _ _ _ _ _ _ _ _ _ _ _ _ _ _ _ _ _ _ _ _ _ _ _ _ _ _ _ _ _ _ _ _ _ _ _ _ _ _ _ _ _ _ _ _ _ _ _ _ _ _ _ _ _ _ _ _ _ _ _ _ _ _ _ _ _ _ _ _ _ _ _ _ _ _ _ _ _ _ _ _ _ _ _ _ _ _ _ _ _ _ _ _ _ _ _ _ _ _ _ _ _ _ _ _ _ _ _ _ _ _ _)
        clear iA nA hB iN
        rintro e YY V3 ⟨rfl, hd, g5, F1, f1, F2, f2, hT, hB, iA, iN, nA⟩
        obtain ⟨T, D⟩ := YY
        subst hT
        obtain rfl : D = [] := hd
        go_wp2
        go_roundw
        case rel => exact ⟨k + 1, by omega, by omega, by go_num, ⟨F1, f1, F2, f2, by rw [HQ.out]; exact iA, by rw [HQ.out]; exact nA, hB⟩⟩
        case measure => simp [intOf]; omega
      · replace P2 := P2
        have hq : que8 n.1 n.2.1 n.2.2 = .cel (label8 n.2.1) (text8 n.2.2) := by rw [que8, if_neg hz]
        rw [hq] at hask
        clear hq
        have hask2 : sea8 d (label8 n.2.1) (text8 n.2.2) = (s, d', 0) := hask
        generalize pickN n.1 2 = p2 at *
        clear hask
        replace P2 := Lib.hid P2
        go_wp2_with fail
        refine (P2.out _).mono ?_
        rintro e w' ⟨rfl, rfl⟩
        go_wp2
        refine Code.wp_mono ?_ (clash_sea n hnb.out d d' s A1 c1 A2 c2 DA _ w _ hNA hDA hask2 hB iA iN nA _ _ _ _ _ _ _ _ _ _ _ _ _ _ _ _ _ _ _ _ _ _ _ _ _ _ _ _ _ _ _ _ _ _ _ _ _ _ _ _ _ _ _ _ _ _ _ _ _ _ _ _ _ _ _ _ _ _ _ _ _ _ _ _ _ _ _ _ _ _ _ _ _ _ _ _ _ _ _ _ _ _ _ _ _ _ _ _ _ _ _ _ _ _ _ _ _ _ _ _ _ _ _ _ _ _ _ _ _ _ _ _ _ _ _ _ _ _ _ _ _ _ _ _ _ _ _ _ _ _ _ _ _ _ _ _ _ _ _ _ _ _ _ _ _ _ _ _ _ _ _ _ _ _ _ _ _ _ _ _ _ _ _ _ _ _ _ _ _ _ _ _ _ _ _ _ _ _ _ _ _ _ _ _ _ _ _ _ _ _ _ _ _ _ _ _)
        clear iA nA hB iN
        rintro e YY V3 ⟨rfl, hd, F1, f1, F2, f2, hT, hB, iA, iN, nA⟩
        obtain ⟨T, D⟩ := YY
        subst hT
        obtain rfl : D = [] := hd
        go_wp2
        go_roundw
        case rel => exact ⟨k + 1, by omega, by omega, by go_num, ⟨F1, f1, F2, f2, by rw [HQ.out]; exact iA, by rw [HQ.out]; exact nA, hB⟩⟩
        case measure => simp [intOf]; omega
    · have he : asks8 D0 ((qs8 R).take k) = asks8 D0 (qs8 R) := by rw [List.take_of_length_le]; rw [HQL.out]; omega
      have hd : (¬ k < R.length) ∨ (k < R.length ∧ ¬ k < 15) := by omega
      rw [he] at iA nA
      clear he
      have hfro := HFL.out
      have hql := HQL.out
      obtain ⟨D, hD⟩ : ∃ d, d = asks8 D0 (qs8 R) := ⟨_, rfl⟩
      rw [← hD] at iA nA hfro
      have hfew := hfro.few
      have HCL := Lib.hid hfro.right.clash
      have HAT := Lib.hid hfro.at_
      have HON := Lib.hid hfro.right.one
      have HOK := Lib.hid hfro.right.oneK
      have hN15 : D.N.length ≤ 15 := by omega
      have hK15 : D.K.length ≤ 15 := by omega
      have HN15 := Lib.hid hN15
      have HK15 := Lib.hid hK15
      clear hD hfro hfew hql HFR HFL HQL HC HY hlt hkl hk15 H0 HD0 DR M0 HBs hN15 hK15
      rcases hd with l1 | ⟨l1, l2⟩
      · have l1' : ¬ (k : Int) < (R.length : Int) := by omega
        clear l1
        go_wp2
        try clear l1'
        try clear l2'
        go_loopw [13, 14] (fun v j wr => ∃ i : Nat, i ≤ D.N.length ∧ j = .int .i64 (i : Int) ∧ v = .bool (pairs8 sameOut (D.N.take i)) ∧ Is wr DA 30 (ideL D A1 c1 A2 c2) ∧ InI wr D A1 c1 A2 c2 ∧ Below w.heap.size w wr) (fun _ j _ => D.N.length - (intOf j).toNat)
        case atStart => exact ⟨0, by omega, rfl, rfl, iA, nA, hB⟩
        case round =>
          clear iA nA hB
          obtain ⟨i, hi, rfl, rfl, iA, nA, hB⟩ := hrel
          have hN15 := HN15.out
          have c2' : wr.cell? ⟨DA, 2, none⟩ = some (.slice A1 D.N.length c1) := iA.cell 2
          by_cases hlt : i < D.N.length
          · have li : (i : Int) < (D.N.length : Int) := by omega
            obtain ⟨x, hxs⟩ : ∃ x, D.N[i]? = some x := ⟨_, List.getElem?_eq_getElem hlt⟩
            have HX := Lib.hid hxs
            have HV1 := Lib.hid (pairs_step8 sameOut hxs)
            obtain ⟨v0, hv0⟩ : ∃ v, v = pairs8 sameOut (D.N.take i) := ⟨_, rfl⟩
            rw [← hv0] at HV1 ⊢
            have w5i := IntWalk.i64_in ((i : Int) + 1) (by omega)
            obtain ⟨b, off, rfl, _, _⟩ := nA.n.nam hxs
            clear hxs hv0
            go_wp2
            go_loopw [13, 15] (fun v j wr => ∃ k : Nat, k ≤ i ∧ j = .int .i64 (k : Int) ∧ v = .bool (v0 || (D.N.take k).any fun y => sameOut y x) ∧ Is wr DA 30 (ideL D (some ⟨b, off, none⟩) c1 A2 c2) ∧ InI wr D (some ⟨b, off, none⟩) c1 A2 c2 ∧ Below w.heap.size w wr) (fun _ j _ => i - (intOf j).toNat)
            case atStart => exact ⟨0, by omega, rfl, by simp, iA, nA, hB⟩
            case round =>
              clear iA nA hB c2'
              obtain ⟨k, hk, rfl, rfl, iA, nA, hB⟩ := hrel
              by_cases hlk : k < i
              · have lk : (k : Int) < (i : Int) := by omega
                have lk2 : (k : Int) < (D.N.length : Int) := by omega
                obtain ⟨y, hys⟩ : ∃ y, D.N[k]? = some y := ⟨_, List.getElem?_eq_getElem (by omega)⟩
                have hne := not_pair8 sameIn HON.out hlk hys HX.out
                have n3 : ¬ x.1 = y.1 := fun e => by simp [sameIn, e] at hne
                have hx := rangeN8 nA.n HX.out
                have hy := rangeN8 nA.n hys
                have hst := any_step8 (fun y => sameOut y x) v0 hys
                have w6i := IntWalk.i64_in ((k : Int) + 1) (by omega)
                cases hv : (v0 || (D.N.take k).any fun y => sameOut y x) with
                | true =>
                  have hv2 := Lib.hid (show (v0 || (D.N.take (k + 1)).any fun y => sameOut y x) = true by rw [hst, hv]; rfl)
                  clear hst hv hne hys
                  go_wp2
                  refine Code.wp_mono ?_ (clash_n_t D A2 c1 c2 DA b off i k x y _ iA hx hy li lk2 _ _ _ _ _ _ _ _ _ _ _ _ _ _ _ _ _ _ _ _ _ _ _ _ _ _ _ _ _ _ _ _ _ _ _ _ _ _ _ _ _ _ _ _ _ _ _ _ _ _ _ _ _ _ _ _ _ _ _ _ _ _ _ _ _ _ _ _ _ _ _ _ _ _ _ _ _ _ _ _ _ _ _ _ _ _ _ _ _ _ _ _ _ _ _ _ _ _ _ _ _ _ _ _ _ _ _ _ _ _ _ _ _ _ _ _ _ _ _ _ _ _ _ _ _ _ _ _ _ _ _ _ _ _ _ _ _ _ _ _ _ _ _ _ _ _ _ _ _ _ _ _ _ _ _ _ _ _ _ _ _ _ _ _ _ _ _ _ _ _ _ _ _ _ _ _ _ _ _ _ _ _ _ _ _ _ _ _ _ _ _ _ _ _)
                  rintro e YY W1 ⟨rfl, hd, hT, rfl⟩
                  obtain ⟨T, Dd⟩ := YY
                  subst hT
                  obtain rfl : Dd = [] := hd
                  replace iA := iA.drewN 1
                  replace nA := nA.drewN 1
                  replace hB := belowN hB 1
                  go_wp2
                  refine Code.wp_mono ?_ (clash_n_in D A2 c1 c2 DA b off i k x y _ iA hx hy li lk2 n3 _ _ _ _ _ _ _ _ _ _ _ _ _ _ _ _ _ _ _ _ _ _ _ _ _ _ _ _ _ _ _ _ _ _ _ _ _ _ _ _ _ _ _ _ _ _ _ _ _ _ _ _ _ _ _ _ _ _ _ _ _ _ _ _ _ _ _ _ _ _ _ _ _ _ _ _ _ _ _ _ _ _ _ _ _ _ _ _ _ _ _ _ _ _ _ _ _ _ _ _ _ _ _ _ _ _ _ _ _ _ _ _ _ _ _ _ _ _ _ _ _ _ _ _ _ _ _ _ _ _ _ _ _ _ _ _ _ _ _ _ _ _ _ _ _ _ _ _ _ _ _ _ _ _ _ _ _ _ _ _ _ _ _ _ _ _ _ _ _ _ _ _ _ _ _ _ _ _ _ _ _ _ _ _ _ _ _ _ _ _ _ _ _ _ _)
                  rintro e YY W1 ⟨rfl, hd, hT, rfl⟩
                  obtain ⟨T, Dd⟩ := YY
                  subst hT
                  obtain rfl : Dd = [] := hd
                  replace iA := iA.drewN 1
                  replace nA := nA.drewN 1
                  replace hB := belowN hB 1
                  go_wp2
                  go_roundw
                  case rel => exact ⟨k + 1, by omega, by go_num, by rw [hv2.out], iA, nA, hB⟩
                  case measure => simp [intOf]; omega
                | false =>
                  by_cases he : x.2 = y.2
                  · have hv2 := Lib.hid (show (v0 || (D.N.take (k + 1)).any fun y => sameOut y x) = true by rw [hst, hv]; simp [sameOut, he])
                    clear hst hv hne hys
                    go_wp2
                    refine Code.wp_mono ?_ (clash_n_e D A2 c1 c2 DA b off i k x y _ iA hx hy li lk2 he _ _ _ _ _ _ _ _ _ _ _ _ _ _ _ _ _ _ _ _ _ _ _ _ _ _ _ _ _ _ _ _ _ _ _ _ _ _ _ _ _ _ _ _ _ _ _ _ _ _ _ _ _ _ _ _ _ _ _ _ _ _ _ _ _ _ _ _ _ _ _ _ _ _ _ _ _ _ _ _ _ _ _ _ _ _ _ _ _ _ _ _ _ _ _ _ _ _ _ _ _ _ _ _ _ _ _ _ _ _ _ _ _ _ _ _ _ _ _ _ _ _ _ _ _ _ _ _ _ _ _ _ _ _ _ _ _ _ _ _ _ _ _ _ _ _ _ _ _ _ _ _ _ _ _ _ _ _ _ _ _ _ _ _ _ _ _ _ _ _ _ _ _ _ _ _ _ _ _ _ _ _ _ _ _ _ _ _ _ _ _ _ _ _)
                    rintro e YY W1 ⟨rfl, hd, hT, rfl⟩
                    obtain ⟨T, Dd⟩ := YY
                    subst hT
                    obtain rfl : Dd = [] := hd
                    replace iA := iA.drewN 1
                    replace nA := nA.drewN 1
                    replace hB := belowN hB 1
                    go_wp2
                    refine Code.wp_mono ?_ (clash_n_in D A2 c1 c2 DA b off i k x y _ iA hx hy li lk2 n3 _ _ _ _ _ _ _ _ _ _ _ _ _ _ _ _ _ _ _ _ _ _ _ _ _ _ _ _ _ _ _ _ _ _ _ _ _ _ _ _ _ _ _ _ _ _ _ _ _ _ _ _ _ _ _ _ _ _ _ _ _ _ _ _ _ _ _ _ _ _ _ _ _ _ _ _ _ _ _ _ _ _ _ _ _ _ _ _ _ _ _ _ _ _ _ _ _ _ _ _ _ _ _ _ _ _ _ _ _ _ _ _ _ _ _ _ _ _ _ _ _ _ _ _ _ _ _ _ _ _ _ _ _ _ _ _ _ _ _ _ _ _ _ _ _ _ _ _ _ _ _ _ _ _ _ _ _ _ _ _ _ _ _ _ _ _ _ _ _ _ _ _ _ _ _ _ _ _ _ _ _ _ _ _ _ _ _ _ _ _ _ _ _ _ _)
                    rintro e YY W1 ⟨rfl, hd, hT, rfl⟩
                    obtain ⟨T, Dd⟩ := YY
                    subst hT
                    obtain rfl : Dd = [] := hd
                    replace iA := iA.drewN 1
                    replace nA := nA.drewN 1
                    replace hB := belowN hB 1
                    go_wp2
                    go_roundw
                    case rel => exact ⟨k + 1, by omega, by go_num, by rw [hv2.out], iA, nA, hB⟩
                    case measure => simp [intOf]; omega
                  · have hv2 := Lib.hid (show (v0 || (D.N.take (k + 1)).any fun y => sameOut y x) = false by rw [hst, hv]; simp [sameOut]; exact fun e => he e.symm)
                    clear hst hv hne hys
                    go_wp2
                    refine Code.wp_mono ?_ (clash_n_n D A2 c1 c2 DA b off i k x y _ iA hx hy li lk2 he _ _ _ _ _ _ _ _ _ _ _ _ _ _ _ _ _ _ _ _ _ _ _ _ _ _ _ _ _ _ _ _ _ _ _ _ _ _ _ _ _ _ _ _ _ _ _ _ _ _ _ _ _ _ _ _ _ _ _ _ _ _ _ _ _ _ _ _ _ _ _ _ _ _ _ _ _ _ _ _ _ _ _ _ _ _ _ _ _ _ _ _ _ _ _ _ _ _ _ _ _ _ _ _ _ _ _ _ _ _ _ _ _ _ _ _ _ _ _ _ _ _ _ _ _ _ _ _ _ _ _ _ _ _ _ _ _ _ _ _ _ _ _ _ _ _ _ _ _ _ _ _ _ _ _ _ _ _ _ _ _ _ _ _ _ _ _ _ _ _ _ _ _ _ _ _ _ _ _ _ _ _ _ _ _ _ _ _ _ _ _ _ _ _)
                    rintro e YY W1 ⟨rfl, hd, hT, rfl⟩
                    obtain ⟨T, Dd⟩ := YY
                    subst hT
                    obtain rfl : Dd = [] := hd
                    replace iA := iA.drewN 1
                    replace nA := nA.drewN 1
                    replace hB := belowN hB 1
                    go_wp2
                    refine Code.wp_mono ?_ (clash_n_in D A2 c1 c2 DA b off i k x y _ iA hx hy li lk2 n3 _ _ _ _ _ _ _ _ _ _ _ _ _ _ _ _ _ _ _ _ _ _ _ _ _ _ _ _ _ _ _ _ _ _ _ _ _ _ _ _ _ _ _ _ _ _ _ _ _ _ _ _ _ _ _ _ _ _ _ _ _ _ _ _ _ _ _ _ _ _ _ _ _ _ _ _ _ _ _ _ _ _ _ _ _ _ _ _ _ _ _ _ _ _ _ _ _ _ _ _ _ _ _ _ _ _ _ _ _ _ _ _ _ _ _ _ _ _ _ _ _ _ _ _ _ _ _ _ _ _ _ _ _ _ _ _ _ _ _ _ _ _ _ _ _ _ _ _ _ _ _ _ _ _ _ _ _ _ _ _ _ _ _ _ _ _ _ _ _ _ _ _ _ _ _ _ _ _ _ _ _ _ _ _ _ _ _ _ _ _ _ _ _ _ _)
                    rintro e YY W1 ⟨rfl, hd, hT, rfl⟩
                    obtain ⟨T, Dd⟩ := YY
                    subst hT
                    obtain rfl : Dd = [] := hd
                    replace iA := iA.drewN 1
                    replace nA := nA.drewN 1
                    replace hB := belowN hB 1
                    go_wp2
                    go_roundw
                    case rel => exact ⟨k + 1, by omega, by go_num, by rw [hv2.out], iA, nA, hB⟩
                    case measure => simp [intOf]; omega
              · have lk : ¬ (k : Int) < (i : Int) := by omega
                obtain rfl : k = i := by omega
                go_wp2
                go_roundw
                case rel => exact ⟨k + 1, by omega, by go_num, by rw [HV1.out], iA, nA, hB⟩
                case measure => simp [intOf]; omega
          · have li : ¬ (i : Int) < (D.N.length : Int) := by omega
            obtain rfl : i = D.N.length := by omega
            rw [List.take_length]
            obtain ⟨vN, hvN⟩ : ∃ v, v = pairs8 sameOut D.N := ⟨_, rfl⟩
            have hcl := HCL.out
            unfold clash8 at hcl
            rw [← hvN] at hcl ⊢
            have HCL2 := Lib.hid hcl
            clear hvN hcl HCL hlt
            go_wp2
            clear li c2' hi
            go_loopw [13, 16] (fun v j wr => ∃ i : Nat, i ≤ D.K.length ∧ j = .int .i64 (i : Int) ∧ v = .bool (vN || pairs8 sameCel (D.K.take i)) ∧ Is wr DA 30 (ideL D A1 c1 A2 c2) ∧ InI wr D A1 c1 A2 c2 ∧ Below w.heap.size w wr) (fun _ j _ => D.K.length - (intOf j).toNat)
            case atStart => exact ⟨0, by omega, rfl, by simp [pairs8], iA, nA, hB⟩
            case round =>
              clear iA nA hB
              obtain ⟨i, hi, rfl, rfl, iA, nA, hB⟩ := hrel
              have hK15 := HK15.out
              have c3' : wr.cell? ⟨DA, 3, none⟩ = some (.slice A2 D.K.length c2) := iA.cell 3
              by_cases hlt : i < D.K.length
              · have li : (i : Int) < (D.K.length : Int) := by omega
                obtain ⟨x, hxs⟩ : ∃ x, D.K[i]? = some x := ⟨_, List.getElem?_eq_getElem hlt⟩
                have HX := Lib.hid hxs
                have HV1 := Lib.hid (or_step8 sameCel vN hxs)
                obtain ⟨v0, hv0⟩ : ∃ v, v = (vN || pairs8 sameCel (D.K.take i)) := ⟨_, rfl⟩
                rw [← hv0] at HV1 ⊢
                have w5i := IntWalk.i64_in ((i : Int) + 1) (by omega)
                obtain ⟨b, off, rfl, _, _⟩ := nA.k.cel hxs
                clear hxs hv0
                go_wp2
                go_loopw [13, 17] (fun v j wr => ∃ k : Nat, k ≤ i ∧ j = .int .i64 (k : Int) ∧ v = .bool (v0 || (D.K.take k).any fun y => sameCel y x) ∧ Is wr DA 30 (ideL D A1 c1 (some ⟨b, off, none⟩) c2) ∧ InI wr D A1 c1 (some ⟨b, off, none⟩) c2 ∧ Below w.heap.size w wr) (fun _ j _ => i - (intOf j).toNat)
                case atStart => exact ⟨0, by omega, rfl, by simp, iA, nA, hB⟩
                case round =>
                  clear iA nA hB c3'
                  obtain ⟨k, hk, rfl, rfl, iA, nA, hB⟩ := hrel
                  by_cases hlk : k < i
                  · have lk : (k : Int) < (i : Int) := by omega
                    have lk2 : (k : Int) < (D.K.length : Int) := by omega
                    obtain ⟨y, hys⟩ : ∃ y, D.K[k]? = some y := ⟨_, List.getElem?_eq_getElem (by omega)⟩
                    have hne := not_pair8 sameAsk HOK.out hlk hys HX.out
                    have hx := rangeK8 nA.k HX.out
                    have hy := rangeK8 nA.k hys
                    have hst := any_step8 (fun y => sameCel y x) v0 hys
                    have w6i := IntWalk.i64_in ((k : Int) + 1) (by omega)
                    by_cases hs : x.1 = y.1
                    · have n3 : ¬ x.2.1 = y.2.1 := fun e => by simp [sameAsk, e, hs] at hne
                      cases hv : (v0 || (D.K.take k).any fun y => sameCel y x) with
                      | true =>
                        have hv2 := Lib.hid (show (v0 || (D.K.take (k + 1)).any fun y => sameCel y x) = true by rw [hst, hv]; rfl)
                        clear hst hv hne hys
                        go_wp2
                        refine Code.wp_mono ?_ (clash_k_s D A1 c1 c2 DA b off i k x y _ iA hx hy li lk2 hs _ _ _ _ _ _ _ _ _ _ _ _ _ _ _ _ _ _ _ _ _ _ _ _ _ _ _ _ _ _ _ _ _ _ _ _ _ _ _ _ _ _ _ _ _ _ _ _ _ _ _ _ _ _ _ _ _ _ _ _ _ _ _ _ _ _ _ _ _ _ _ _ _ _ _ _ _ _ _ _ _ _ _ _ _ _ _ _ _ _ _ _ _ _ _ _ _ _ _ _ _ _ _ _ _ _ _ _ _ _ _ _ _ _ _ _ _ _ _ _ _ _ _ _ _ _ _ _ _ _ _ _ _ _ _ _ _ _ _ _ _ _ _ _ _ _ _ _ _ _ _ _ _ _ _ _ _ _ _ _ _ _ _ _ _ _ _ _ _ _ _ _ _ _ _ _ _ _ _ _ _ _ _ _ _ _ _ _ _ _ _ _ _ _ _)
                        rintro e YY W1 ⟨rfl, hd, hT, rfl⟩
                        obtain ⟨T, Dd⟩ := YY
                        subst hT
                        obtain rfl : Dd = [] := hd
                        replace iA := iA.drewN 1
                        replace nA := nA.drewN 1
                        replace hB := belowN hB 1
                        go_wp2
                        refine Code.wp_mono ?_ (clash_c_t D A1 c1 c2 DA b off i k x y _ iA hx hy li lk2 _ _ _ _ _ _ _ _ _ _ _ _ _ _ _ _ _ _ _ _ _ _ _ _ _ _ _ _ _ _ _ _ _ _ _ _ _ _ _ _ _ _ _ _ _ _ _ _ _ _ _ _ _ _ _ _ _ _ _ _ _ _ _ _ _ _ _ _ _ _ _ _ _ _ _ _ _ _ _ _ _ _ _ _ _ _ _ _ _ _ _ _ _ _ _ _ _ _ _ _ _ _ _ _ _ _ _ _ _ _ _ _ _ _ _ _ _ _ _ _ _ _ _ _ _ _ _ _ _ _ _ _ _ _ _ _ _ _ _ _ _ _ _ _ _ _ _ _ _ _ _ _ _ _ _ _ _ _ _ _ _ _ _ _ _ _ _ _ _ _ _ _ _ _ _ _ _ _ _ _ _ _ _ _ _ _ _ _ _ _ _ _ _ _)
                        rintro e YY W1 ⟨rfl, hd, hT, rfl⟩
                        obtain ⟨T, Dd⟩ := YY
                        subst hT
                        obtain rfl : Dd = [] := hd
                        replace iA := iA.drewN 1
                        replace nA := nA.drewN 1
                        replace hB := belowN hB 1
                        go_wp2
                        refine Code.wp_mono ?_ (clash_a_s D A1 c1 c2 DA b off i k x y _ iA hx hy li lk2 n3 _ _ _ _ _ _ _ _ _ _ _ _ _ _ _ _ _ _ _ _ _ _ _ _ _ _ _ _ _ _ _ _ _ _ _ _ _ _ _ _ _ _ _ _ _ _ _ _ _ _ _ _ _ _ _ _ _ _ _ _ _ _ _ _ _ _ _ _ _ _ _ _ _ _ _ _ _ _ _ _ _ _ _ _ _ _ _ _ _ _ _ _ _ _ _ _ _ _ _ _ _ _ _ _ _ _ _ _ _ _ _ _ _ _ _ _ _ _ _ _ _ _ _ _ _ _ _ _ _ _ _ _ _ _ _ _ _ _ _ _ _ _ _ _ _ _ _ _ _ _ _ _ _ _ _ _ _ _ _ _ _ _ _ _ _ _ _ _ _ _ _ _ _ _ _ _ _ _ _ _ _ _ _ _ _ _ _ _ _ _ _ _ _ _)
                        rintro e YY W1 ⟨rfl, hd, hT, rfl⟩
                        obtain ⟨T, Dd⟩ := YY
                        subst hT
                        obtain rfl : Dd = [] := hd
                        replace iA := iA.drewN 1
                        replace nA := nA.drewN 1
                        replace hB := belowN hB 1
                        go_wp2
                        go_roundw
                        case rel => exact ⟨k + 1, by omega, by go_num, by rw [hv2.out], iA, nA, hB⟩
                        case measure => simp [intOf]; omega
                      | false =>
                        by_cases he : x.2.2 = y.2.2
                        · have hv2 := Lib.hid (show (v0 || (D.K.take (k + 1)).any fun y => sameCel y x) = true by rw [hst, hv]; simp [sameCel, he, hs])
                          clear hst hv hne hys
                          go_wp2
                          refine Code.wp_mono ?_ (clash_k_s D A1 c1 c2 DA b off i k x y _ iA hx hy li lk2 hs _ _ _ _ _ _ _ _ _ _ _ _ _ _ _ _ _ _ _ _ _ _ _ _ _ _ _ _ _ _ _ _ _ _ _ _ _ _ _ _ _ _ _ _ _ _ _ _ _ _ _ _ _ _ _ _ _ _ _ _ _ _ _ _ _ _ _ _ _ _ _ _ _ _ _ _ _ _ _ _ _ _ _ _ _ _ _ _ _ _ _ _ _ _ _ _ _ _ _ _ _ _ _ _ _ _ _ _ _ _ _ _ _ _ _ _ _ _ _ _ _ _ _ _ _ _ _ _ _ _ _ _ _ _ _ _ _ _ _ _ _ _ _ _ _ _ _ _ _ _ _ _ _ _ _ _ _ _ _ _ _ _ _ _ _ _ _ _ _ _ _ _ _ _ _ _ _ _ _ _ _ _ _ _ _ _ _ _ _ _ _ _ _ _ _)
                          rintro e YY W1 ⟨rfl, hd, hT, rfl⟩
                          obtain ⟨T, Dd⟩ := YY
                          subst hT
                          obtain rfl : Dd = [] := hd
                          replace iA := iA.drewN 1
                          replace nA := nA.drewN 1
                          replace hB := belowN hB 1
                          go_wp2
                          refine Code.wp_mono ?_ (clash_c_e D A1 c1 c2 DA b off i k x y _ iA hx hy li lk2 he _ _ _ _ _ _ _ _ _ _ _ _ _ _ _ _ _ _ _ _ _ _ _ _ _ _ _ _ _ _ _ _ _ _ _ _ _ _ _ _ _ _ _ _ _ _ _ _ _ _ _ _ _ _ _ _ _ _ _ _ _ _ _ _ _ _ _ _ _ _ _ _ _ _ _ _ _ _ _ _ _ _ _ _ _ _ _ _ _ _ _ _ _ _ _ _ _ _ _ _ _ _ _ _ _ _ _ _ _ _ _ _ _ _ _ _ _ _ _ _ _ _ _ _ _ _ _ _ _ _ _ _ _ _ _ _ _ _ _ _ _ _ _ _ _ _ _ _ _ _ _ _ _ _ _ _ _ _ _ _ _ _ _ _ _ _ _ _ _ _ _ _ _ _ _ _ _ _ _ _ _ _ _ _ _ _ _ _ _ _ _ _ _)
                          rintro e YY W1 ⟨rfl, hd, hT, rfl⟩
                          obtain ⟨T, Dd⟩ := YY
                          subst hT
                          obtain rfl : Dd = [] := hd
                          replace iA := iA.drewN 1
                          replace nA := nA.drewN 1
                          replace hB := belowN hB 1
                          go_wp2
                          refine Code.wp_mono ?_ (clash_a_s D A1 c1 c2 DA b off i k x y _ iA hx hy li lk2 n3 _ _ _ _ _ _ _ _ _ _ _ _ _ _ _ _ _ _ _ _ _ _ _ _ _ _ _ _ _ _ _ _ _ _ _ _ _ _ _ _ _ _ _ _ _ _ _ _ _ _ _ _ _ _ _ _ _ _ _ _ _ _ _ _ _ _ _ _ _ _ _ _ _ _ _ _ _ _ _ _ _ _ _ _ _ _ _ _ _ _ _ _ _ _ _ _ _ _ _ _ _ _ _ _ _ _ _ _ _ _ _ _ _ _ _ _ _ _ _ _ _ _ _ _ _ _ _ _ _ _ _ _ _ _ _ _ _ _ _ _ _ _ _ _ _ _ _ _ _ _ _ _ _ _ _ _ _ _ _ _ _ _ _ _ _ _ _ _ _ _ _ _ _ _ _ _ _ _ _ _ _ _ _ _ _ _ _ _ _ _ _ _ _ _)
                          rintro e YY W1 ⟨rfl, hd, hT, rfl⟩
                          obtain ⟨T, Dd⟩ := YY
                          subst hT
                          obtain rfl : Dd = [] := hd
                          replace iA := iA.drewN 1
                          replace nA := nA.drewN 1
                          replace hB := belowN hB 1
                          go_wp2
                          go_roundw
                          case rel => exact ⟨k + 1, by omega, by go_num, by rw [hv2.out], iA, nA, hB⟩
                          case measure => simp [intOf]; omega
                        · have hv2 := Lib.hid (show (v0 || (D.K.take (k + 1)).any fun y => sameCel y x) = false by rw [hst, hv]; simp [sameCel]; exact fun _ e => he e.symm)
                          clear hst hv hne hys
                          go_wp2
                          refine Code.wp_mono ?_ (clash_k_s D A1 c1 c2 DA b off i k x y _ iA hx hy li lk2 hs _ _ _ _ _ _ _ _ _ _ _ _ _ _ _ _ _ _ _ _ _ _ _ _ _ _ _ _ _ _ _ _ _ _ _ _ _ _ _ _ _ _ _ _ _ _ _ _ _ _ _ _ _ _ _ _ _ _ _ _ _ _ _ _ _ _ _ _ _ _ _ _ _ _ _ _ _ _ _ _ _ _ _ _ _ _ _ _ _ _ _ _ _ _ _ _ _ _ _ _ _ _ _ _ _ _ _ _ _ _ _ _ _ _ _ _ _ _ _ _ _ _ _ _ _ _ _ _ _ _ _ _ _ _ _ _ _ _ _ _ _ _ _ _ _ _ _ _ _ _ _ _ _ _ _ _ _ _ _ _ _ _ _ _ _ _ _ _ _ _ _ _ _ _ _ _ _ _ _ _ _ _ _ _ _ _ _ _ _ _ _ _ _ _ _)
                          rintro e YY W1 ⟨rfl, hd, hT, rfl⟩
                          obtain ⟨T, Dd⟩ := YY
                          subst hT
                          obtain rfl : Dd = [] := hd
                          replace iA := iA.drewN 1
                          replace nA := nA.drewN 1
                          replace hB := belowN hB 1
                          go_wp2
                          refine Code.wp_mono ?_ (clash_c_n D A1 c1 c2 DA b off i k x y _ iA hx hy li lk2 he _ _ _ _ _ _ _ _ _ _ _ _ _ _ _ _ _ _ _ _ _ _ _ _ _ _ _ _ _ _ _ _ _ _ _ _ _ _ _ _ _ _ _ _ _ _ _ _ _ _ _ _ _ _ _ _ _ _ _ _ _ _ _ _ _ _ _ _ _ _ _ _ _ _ _ _ _ _ _ _ _ _ _ _ _ _ _ _ _ _ _ _ _ _ _ _ _ _ _ _ _ _ _ _ _ _ _ _ _ _ _ _ _ _ _ _ _ _ _ _ _ _ _ _ _ _ _ _ _ _ _ _ _ _ _ _ _ _ _ _ _ _ _ _ _ _ _ _ _ _ _ _ _ _ _ _ _ _ _ _ _ _ _ _ _ _ _ _ _ _ _ _ _ _ _ _ _ _ _ _ _ _ _ _ _ _ _ _ _ _ _ _ _)
                          rintro e YY W1 ⟨rfl, hd, hT, rfl⟩
                          obtain ⟨T, Dd⟩ := YY
                          subst hT
                          obtain rfl : Dd = [] := hd
                          replace iA := iA.drewN 1
                          replace nA := nA.drewN 1
                          replace hB := belowN hB 1
                          go_wp2
                          refine Code.wp_mono ?_ (clash_a_s D A1 c1 c2 DA b off i k x y _ iA hx hy li lk2 n3 _ _ _ _ _ _ _ _ _ _ _ _ _ _ _ _ _ _ _ _ _ _ _ _ _ _ _ _ _ _ _ _ _ _ _ _ _ _ _ _ _ _ _ _ _ _ _ _ _ _ _ _ _ _ _ _ _ _ _ _ _ _ _ _ _ _ _ _ _ _ _ _ _ _ _ _ _ _ _ _ _ _ _ _ _ _ _ _ _ _ _ _ _ _ _ _ _ _ _ _ _ _ _ _ _ _ _ _ _ _ _ _ _ _ _ _ _ _ _ _ _ _ _ _ _ _ _ _ _ _ _ _ _ _ _ _ _ _ _ _ _ _ _ _ _ _ _ _ _ _ _ _ _ _ _ _ _ _ _ _ _ _ _ _ _ _ _ _ _ _ _ _ _ _ _ _ _ _ _ _ _ _ _ _ _ _ _ _ _ _ _ _ _ _)
                          rintro e YY W1 ⟨rfl, hd, hT, rfl⟩
                          obtain ⟨T, Dd⟩ := YY
                          subst hT
                          obtain rfl : Dd = [] := hd
                          replace iA := iA.drewN 1
                          replace nA := nA.drewN 1
                          replace hB := belowN hB 1
                          go_wp2
                          go_roundw
                          case rel => exact ⟨k + 1, by omega, by go_num, by rw [hv2.out], iA, nA, hB⟩
                          case measure => simp [intOf]; omega
                    · cases hv : (v0 || (D.K.take k).any fun y => sameCel y x) with
                      | true =>
                        have hv2 := Lib.hid (show (v0 || (D.K.take (k + 1)).any fun y => sameCel y x) = true by rw [hst, hv]; rfl)
                        clear hst hv hne hys
                        go_wp2
                        refine Code.wp_mono ?_ (clash_k_d D A1 c1 c2 DA b off i k x y _ iA hx hy li lk2 hs _ _ _ _ _ _ _ _ _ _ _ _ _ _ _ _ _ _ _ _ _ _ _ _ _ _ _ _ _ _ _ _ _ _ _ _ _ _ _ _ _ _ _ _ _ _ _ _ _ _ _ _ _ _ _ _ _ _ _ _ _ _ _ _ _ _ _ _ _ _ _ _ _ _ _ _ _ _ _ _ _ _ _ _ _ _ _ _ _ _ _ _ _ _ _ _ _ _ _ _ _ _ _ _ _ _ _ _ _ _ _ _ _ _ _ _ _ _ _ _ _ _ _ _ _ _ _ _ _ _ _ _ _ _ _ _ _ _ _ _ _ _ _ _ _ _ _ _ _ _ _ _ _ _ _ _ _ _ _ _ _ _ _ _ _ _ _ _ _ _ _ _ _ _ _ _ _ _ _ _ _ _ _ _ _ _ _ _ _ _ _ _ _ _ _)
                        rintro e YY W1 ⟨rfl, hd, hT, rfl⟩
                        obtain ⟨T, Dd⟩ := YY
                        subst hT
                        obtain rfl : Dd = [] := hd
                        replace iA := iA.drewN 1
                        replace nA := nA.drewN 1
                        replace hB := belowN hB 1
                        go_wp2
                        refine Code.wp_mono ?_ (clash_c_t D A1 c1 c2 DA b off i k x y _ iA hx hy li lk2 _ _ _ _ _ _ _ _ _ _ _ _ _ _ _ _ _ _ _ _ _ _ _ _ _ _ _ _ _ _ _ _ _ _ _ _ _ _ _ _ _ _ _ _ _ _ _ _ _ _ _ _ _ _ _ _ _ _ _ _ _ _ _ _ _ _ _ _ _ _ _ _ _ _ _ _ _ _ _ _ _ _ _ _ _ _ _ _ _ _ _ _ _ _ _ _ _ _ _ _ _ _ _ _ _ _ _ _ _ _ _ _ _ _ _ _ _ _ _ _ _ _ _ _ _ _ _ _ _ _ _ _ _ _ _ _ _ _ _ _ _ _ _ _ _ _ _ _ _ _ _ _ _ _ _ _ _ _ _ _ _ _ _ _ _ _ _ _ _ _ _ _ _ _ _ _ _ _ _ _ _ _ _ _ _ _ _ _ _ _ _ _ _ _)
                        rintro e YY W1 ⟨rfl, hd, hT, rfl⟩
                        obtain ⟨T, Dd⟩ := YY
                        subst hT
                        obtain rfl : Dd = [] := hd
                        replace iA := iA.drewN 1
                        replace nA := nA.drewN 1
                        replace hB := belowN hB 1
                        go_wp2
                        refine Code.wp_mono ?_ (clash_a_d D A1 c1 c2 DA b off i k x y _ iA hx hy li lk2 _ _ _ _ _ _ _ _ _ _ _ _ _ _ _ _ _ _ _ _ _ _ _ _ _ _ _ _ _ _ _ _ _ _ _ _ _ _ _ _ _ _ _ _ _ _ _ _ _ _ _ _ _ _ _ _ _ _ _ _ _ _ _ _ _ _ _ _ _ _ _ _ _ _ _ _ _ _ _ _ _ _ _ _ _ _ _ _ _ _ _ _ _ _ _ _ _ _ _ _ _ _ _ _ _ _ _ _ _ _ _ _ _ _ _ _ _ _ _ _ _ _ _ _ _ _ _ _ _ _ _ _ _ _ _ _ _ _ _ _ _ _ _ _ _ _ _ _ _ _ _ _ _ _ _ _ _ _ _ _ _ _ _ _ _ _ _ _ _ _ _ _ _ _ _ _ _ _ _ _ _ _ _ _ _ _ _ _ _ _ _ _ _ _)
                        rintro e YY W1 ⟨rfl, hd, hT, rfl⟩
                        obtain ⟨T, Dd⟩ := YY
                        subst hT
                        obtain rfl : Dd = [] := hd
                        replace iA := iA.drewN 1
                        replace nA := nA.drewN 1
                        replace hB := belowN hB 1
                        go_wp2
                        go_roundw
                        case rel => exact ⟨k + 1, by omega, by go_num, by rw [hv2.out], iA, nA, hB⟩
                        case measure => simp [intOf]; omega
                      | false =>
                        have hv2 := Lib.hid (show (v0 || (D.K.take (k + 1)).any fun y => sameCel y x) = false by rw [hst, hv]; simp [sameCel]; exact fun e => absurd e.symm hs)
                        clear hst hv hne hys
                        go_wp2
                        refine Code.wp_mono ?_ (clash_k_d D A1 c1 c2 DA b off i k x y _ iA hx hy li lk2 hs _ _ _ _ _ _ _ _ _ _ _ _ _ _ _ _ _ _ _ _ _ _ _ _ _ _ _ _ _ _ _ _ _ _ _ _ _ _ _ _ _ _ _ _ _ _ _ _ _ _ _ _ _ _ _ _ _ _ _ _ _ _ _ _ _ _ _ _ _ _ _ _ _ _ _ _ _ _ _ _ _ _ _ _ _ _ _ _ _ _ _ _ _ _ _ _ _ _ _ _ _ _ _ _ _ _ _ _ _ _ _ _ _ _ _ _ _ _ _ _ _ _ _ _ _ _ _ _ _ _ _ _ _ _ _ _ _ _ _ _ _ _ _ _ _ _ _ _ _ _ _ _ _ _ _ _ _ _ _ _ _ _ _ _ _ _ _ _ _ _ _ _ _ _ _ _ _ _ _ _ _ _ _ _ _ _ _ _ _ _ _ _ _ _ _)
                        rintro e YY W1 ⟨rfl, hd, hT, rfl⟩
                        obtain ⟨T, Dd⟩ := YY
                        subst hT
                        obtain rfl : Dd = [] := hd
                        replace iA := iA.drewN 1
                        replace nA := nA.drewN 1
                        replace hB := belowN hB 1
                        go_wp2
                        refine Code.wp_mono ?_ (clash_c_d D A1 c1 c2 DA b off i k x y _ iA hx hy li lk2 _ _ _ _ _ _ _ _ _ _ _ _ _ _ _ _ _ _ _ _ _ _ _ _ _ _ _ _ _ _ _ _ _ _ _ _ _ _ _ _ _ _ _ _ _ _ _ _ _ _ _ _ _ _ _ _ _ _ _ _ _ _ _ _ _ _ _ _ _ _ _ _ _ _ _ _ _ _ _ _ _ _ _ _ _ _ _ _ _ _ _ _ _ _ _ _ _ _ _ _ _ _ _ _ _ _ _ _ _ _ _ _ _ _ _ _ _ _ _ _ _ _ _ _ _ _ _ _ _ _ _ _ _ _ _ _ _ _ _ _ _ _ _ _ _ _ _ _ _ _ _ _ _ _ _ _ _ _ _ _ _ _ _ _ _ _ _ _ _ _ _ _ _ _ _ _ _ _ _ _ _ _ _ _ _ _ _ _ _ _ _ _ _)
                        rintro e YY W1 ⟨rfl, hd, hT, rfl⟩
                        obtain ⟨T, Dd⟩ := YY
                        subst hT
                        obtain rfl : Dd = [] := hd
                        replace iA := iA.drewN 1
                        replace nA := nA.drewN 1
                        replace hB := belowN hB 1
                        go_wp2
                        refine Code.wp_mono ?_ (clash_a_d D A1 c1 c2 DA b off i k x y _ iA hx hy li lk2 _ _ _ _ _ _ _ _ _ _ _ _ _ _ _ _ _ _ _ _ _ _ _ _ _ _ _ _ _ _ _ _ _ _ _ _ _ _ _ _ _ _ _ _ _ _ _ _ _ _ _ _ _ _ _ _ _ _ _ _ _ _ _ _ _ _ _ _ _ _ _ _ _ _ _ _ _ _ _ _ _ _ _ _ _ _ _ _ _ _ _ _ _ _ _ _ _ _ _ _ _ _ _ _ _ _ _ _ _ _ _ _ _ _ _ _ _ _ _ _ _ _ _ _ _ _ _ _ _ _ _ _ _ _ _ _ _ _ _ _ _ _ _ _ _ _ _ _ _ _ _ _ _ _ _ _ _ _ _ _ _ _ _ _ _ _ _ _ _ _ _ _ _ _ _ _ _ _ _ _ _ _ _ _ _ _ _ _ _ _ _ _ _ _)
                        rintro e YY W1 ⟨rfl, hd, hT, rfl⟩
                        obtain ⟨T, Dd⟩ := YY
                        subst hT
                        obtain rfl : Dd = [] := hd
                        replace iA := iA.drewN 1
                        replace nA := nA.drewN 1
                        replace hB := belowN hB 1
                        go_wp2
                        go_roundw
                        case rel => exact ⟨k + 1, by omega, by go_num, by rw [hv2.out], iA, nA, hB⟩
                        case measure => simp [intOf]; omega
                  · have lk : ¬ (k : Int) < (i : Int) := by omega
                    obtain rfl : k = i := by omega
                    go_wp2
                    go_roundw
                    case rel => exact ⟨k + 1, by omega, by go_num, by rw [HV1.out], iA, nA, hB⟩
                    case measure => simp [intOf]; omega
              · have li : ¬ (i : Int) < (D.K.length : Int) := by omega
                obtain rfl : i = D.K.length := by omega
                rw [List.take_length, ← HCL2.out]
                have hN15 := HN15.out
                have c1' : wr.cell? ⟨DA, 1, none⟩ = some (.int .i64 (16 * (D.N.length : Int) + 40 * (D.K.length : Int))) := by rw [← HAT.out]; exact iA.cell 1
                have c2' : wr.cell? ⟨DA, 2, none⟩ = some (.slice A1 D.N.length c1) := iA.cell 2
                have c4' : wr.cell? ⟨DA, 4, none⟩ = some (.bool D.c) := iA.cell 4
                have w7i := IntWalk.i64_in (16 * (D.N.length : Int)) (by omega)
                have w8i := IntWalk.i64_in (40 * (D.K.length : Int)) (by omega)
                have w9i := IntWalk.i64_in (16 * (D.N.length : Int) + 40 * (D.K.length : Int)) (by omega)
                go_wp2
                go_ret
                exact ⟨rfl, hB⟩
      · have l1' : (k : Int) < (R.length : Int) := by omega
        have l2' : ¬ (k : Int) < 15 := by omega
        clear l1 l2
        go_wp2
        try clear l1'
        try clear l2'
        go_loopw [13, 14] (fun v j wr => ∃ i : Nat, i ≤ D.N.length ∧ j = .int .i64 (i : Int) ∧ v = .bool (pairs8 sameOut (D.N.take i)) ∧ Is wr DA 30 (ideL D A1 c1 A2 c2) ∧ InI wr D A1 c1 A2 c2 ∧ Below w.heap.size w wr) (fun _ j _ => D.N.length - (intOf j).toNat)
        case atStart => exact ⟨0, by omega, rfl, rfl, iA, nA, hB⟩
        case round =>
          clear iA nA hB
          obtain ⟨i, hi, rfl, rfl, iA, nA, hB⟩ := hrel
          have hN15 := HN15.out
          have c2' : wr.cell? ⟨DA, 2, none⟩ = some (.slice A1 D.N.length c1) := iA.cell 2
          by_cases hlt : i < D.N.length
          · have li : (i : Int) < (D.N.length : Int) := by omega
            obtain ⟨x, hxs⟩ : ∃ x, D.N[i]? = some x := ⟨_, List.getElem?_eq_getElem hlt⟩
            have HX := Lib.hid hxs
            have HV1 := Lib.hid (pairs_step8 sameOut hxs)
            obtain ⟨v0, hv0⟩ : ∃ v, v = pairs8 sameOut (D.N.take i) := ⟨_, rfl⟩
            rw [← hv0] at HV1 ⊢
            have w5i := IntWalk.i64_in ((i : Int) + 1) (by omega)
            obtain ⟨b, off, rfl, _, _⟩ := nA.n.nam hxs
            clear hxs hv0
            go_wp2
            go_loopw [13, 15] (fun v j wr => ∃ k : Nat, k ≤ i ∧ j = .int .i64 (k : Int) ∧ v = .bool (v0 || (D.N.take k).any fun y => sameOut y x) ∧ Is wr DA 30 (ideL D (some ⟨b, off, none⟩) c1 A2 c2) ∧ InI wr D (some ⟨b, off, none⟩) c1 A2 c2 ∧ Below w.heap.size w wr) (fun _ j _ => i - (intOf j).toNat)
            case atStart => exact ⟨0, by omega, rfl, by simp, iA, nA, hB⟩
            case round =>
              clear iA nA hB c2'
              obtain ⟨k, hk, rfl, rfl, iA, nA, hB⟩ := hrel
              by_cases hlk : k < i
              · have lk : (k : Int) < (i : Int) := by omega
                have lk2 : (k : Int) < (D.N.length : Int) := by omega
                obtain ⟨y, hys⟩ : ∃ y, D.N[k]? = some y := ⟨_, List.getElem?_eq_getElem (by omega)⟩
                have hne := not_pair8 sameIn HON.out hlk hys HX.out
                have n3 : ¬ x.1 = y.1 := fun e => by simp [sameIn, e] at hne
                have hx := rangeN8 nA.n HX.out
                have hy := rangeN8 nA.n hys
                have hst := any_step8 (fun y => sameOut y x) v0 hys
                have w6i := IntWalk.i64_in ((k : Int) + 1) (by omega)
                cases hv : (v0 || (D.N.take k).any fun y => sameOut y x) with
                | true =>
                  have hv2 := Lib.hid (show (v0 || (D.N.take (k + 1)).any fun y => sameOut y x) = true by rw [hst, hv]; rfl)
                  clear hst hv hne hys
                  go_wp2
                  refine Code.wp_mono ?_ (clash_n_t D A2 c1 c2 DA b off i k x y _ iA hx hy li lk2 _ _ _ _ _ _ _ _ _ _ _ _ _ _ _ _ _ _ _ _ _ _ _ _ _ _ _ _ _ _ _ _ _ _ _ _ _ _ _ _ _ _ _ _ _ _ _ _ _ _ _ _ _ _ _ _ _ _ _ _ _ _ _ _ _ _ _ _ _ _ _ _ _ _ _ _ _ _ _ _ _ _ _ _ _ _ _ _ _ _ _ _ _ _ _ _ _ _ _ _ _ _ _ _ _ _ _ _ _ _ _ _ _ _ _ _ _ _ _ _ _ _ _ _ _ _ _ _ _ _ _ _ _ _ _ _ _ _ _ _ _ _ _ _ _ _ _ _ _ _ _ _ _ _ _ _ _ _ _ _ _ _ _ _ _ _ _ _ _ _ _ _ _ _ _ _ _ _ _ _ _ _ _ _ _ _ _ _ _ _ _ _ _ _)
                  rintro e YY W1 ⟨rfl, hd, hT, rfl⟩
                  obtain ⟨T, Dd⟩ := YY
                  subst hT
                  obtain rfl : Dd = [] := hd
                  replace iA := iA.drewN 1
                  replace nA := nA.drewN 1
                  replace hB := belowN hB 1
                  go_wp2
                  refine Code.wp_mono ?_ (clash_n_in D A2 c1 c2 DA b off i k x y _ iA hx hy li lk2 n3 _ _ _ _ _ _ _ _ _ _ _ _ _ _ _ _ _ _ _ _ _ _ _ _ _ _ _ _ _ _ _ _ _ _ _ _ _ _ _ _ _ _ _ _ _ _ _ _ _ _ _ _ _ _ _ _ _ _ _ _ _ _ _ _ _ _ _ _ _ _ _ _ _ _ _ _ _ _ _ _ _ _ _ _ _ _ _ _ _ _ _ _ _ _ _ _ _ _ _ _ _ _ _ _ _ _ _ _ _ _ _ _ _ _ _ _ _ _ _ _ _ _ _ _ _ _ _ _ _ _ _ _ _ _ _ _ _ _ _ _ _ _ _ _ _ _ _ _ _ _ _ _ _ _ _ _ _ _ _ _ _ _ _ _ _ _ _ _ _ _ _ _ _ _ _ _ _ _ _ _ _ _ _ _ _ _ _ _ _ _ _ _ _ _ _)
                  rintro e YY W1 ⟨rfl, hd, hT, rfl⟩
                  obtain ⟨T, Dd⟩ := YY
                  subst hT
                  obtain rfl : Dd = [] := hd
                  replace iA := iA.drewN 1
                  replace nA := nA.drewN 1
                  replace hB := belowN hB 1
                  go_wp2
                  go_roundw
                  case rel => exact ⟨k + 1, by omega, by go_num, by rw [hv2.out], iA, nA, hB⟩
                  case measure => simp [intOf]; omega
                | false =>
                  by_cases he : x.2 = y.2
                  · have hv2 := Lib.hid (show (v0 || (D.N.take (k + 1)).any fun y => sameOut y x) = true by rw [hst, hv]; simp [sameOut, he])
                    clear hst hv hne hys
                    go_wp2
                    refine Code.wp_mono ?_ (clash_n_e D A2 c1 c2 DA b off i k x y _ iA hx hy li lk2 he _ _ _ _ _ _ _ _ _ _ _ _ _ _ _ _ _ _ _ _ _ _ _ _ _ _ _ _ _ _ _ _ _ _ _ _ _ _ _ _ _ _ _ _ _ _ _ _ _ _ _ _ _ _ _ _ _ _ _ _ _ _ _ _ _ _ _ _ _ _ _ _ _ _ _ _ _ _ _ _ _ _ _ _ _ _ _ _ _ _ _ _ _ _ _ _ _ _ _ _ _ _ _ _ _ _ _ _ _ _ _ _ _ _ _ _ _ _ _ _ _ _ _ _ _ _ _ _ _ _ _ _ _ _ _ _ _ _ _ _ _ _ _ _ _ _ _ _ _ _ _ _ _ _ _ _ _ _ _ _ _ _ _ _ _ _ _ _ _ _ _ _ _ _ _ _ _ _ _ _ _ _ _ _ _ _ _ _ _ _ _ _ _ _)
                    rintro e YY W1 ⟨rfl, hd, hT, rfl⟩
                    obtain ⟨T, Dd⟩ := YY
                    subst hT
                    obtain rfl : Dd = [] := hd
                    replace iA := iA.drewN 1
                    replace nA := nA.drewN 1
                    replace hB := belowN hB 1
                    go_wp2
                    refine Code.wp_mono ?_ (clash_n_in D A2 c1 c2 DA b off i k x y _ iA hx hy li lk2 n3 _ _ _ _ _ _ _ _ _ _ _ _ _ _ _ _ _ _ _ _ _ _ _ _ _ _ _ _ _ _ _ _ _ _ _ _ _ _ _ _ _ _ _ _ _ _ _ _ _ _ _ _ _ _ _ _ _ _ _ _ _ _ _ _ _ _ _ _ _ _ _ _ _ _ _ _ _ _ _ _ _ _ _ _ _ _ _ _ _ _ _ _ _ _ _ _ _ _ _ _ _ _ _ _ _ _ _ _ _ _ _ _ _ _ _ _ _ _ _ _ _ _ _ _ _ _ _ _ _ _ _ _ _ _ _ _ _ _ _ _ _ _ _ _ _ _ _ _ _ _ _ _ _ _ _ _ _ _ _ _ _ _ _ _ _ _ _ _ _ _ _ _ _ _ _ _ _ _ _ _ _ _ _ _ _ _ _ _ _ _ _ _ _ _ _)
                    rintro e YY W1 ⟨rfl, hd, hT, rfl⟩
                    obtain ⟨T, Dd⟩ := YY
                    subst hT
                    obtain rfl : Dd = [] := hd
                    replace iA := iA.drewN 1
                    replace nA := nA.drewN 1
                    replace hB := belowN hB 1
                    go_wp2
                    go_roundw
                    case rel => exact ⟨k + 1, by omega, by go_num, by rw [hv2.out], iA, nA, hB⟩
                    case measure => simp [intOf]; omega
                  · have hv2 := Lib.hid (show (v0 || (D.N.take (k + 1)).any fun y => sameOut y x) = false by rw [hst, hv]; simp [sameOut]; exact fun e => he e.symm)
                    clear hst hv hne hys
                    go_wp2
                    refine Code.wp_mono ?_ (clash_n_n D A2 c1 c2 DA b off i k x y _ iA hx hy li lk2 he _ _ _ _ _ _ _ _ _ _ _ _ _ _ _ _ _ _ _ _ _ _ _ _ _ _ _ _ _ _ _ _ _ _ _ _ _ _ _ _ _ _ _ _ _ _ _ _ _ _ _ _ _ _ _ _ _ _ _ _ _ _ _ _ _ _ _ _ _ _ _ _ _ _ _ _ _ _ _ _ _ _ _ _ _ _ _ _ _ _ _ _ _ _ _ _ _ _ _ _ _ _ _ _ _ _ _ _ _ _ _ _ _ _ _ _ _ _ _ _ _ _ _ _ _ _ _ _ _ _ _ _ _ _ _ _ _ _ _ _ _ _ _ _ _ _ _ _ _ _ _ _ _ _ _ _ _ _ _ _ _ _ _ _ _ _ _ _ _ _ _ _ _ _ _ _ _ _ _ _ _ _ _ _ _ _ _ _ _ _ _ _ _ _)
                    rintro e YY W1 ⟨rfl, hd, hT, rfl⟩
                    obtain ⟨T, Dd⟩ := YY
                    subst hT
                    obtain rfl : Dd = [] := hd
                    replace iA := iA.drewN 1
                    replace nA := nA.drewN 1
                    replace hB := belowN hB 1
                    go_wp2
                    refine Code.wp_mono ?_ (clash_n_in D A2 c1 c2 DA b off i k x y _ iA hx hy li lk2 n3 _ _ _ _ _ _ _ _ _ _ _ _ _ _ _ _ _ _ _ _ _ _ _ _ _ _ _ _ _ _ _ _ _ _ _ _ _ _ _ _ _ _ _ _ _ _ _ _ _ _ _ _ _ _ _ _ _ _ _ _ _ _ _ _ _ _ _ _ _ _ _ _ _ _ _ _ _ _ _ _ _ _ _ _ _ _ _ _ _ _ _ _ _ _ _ _ _ _ _ _ _ _ _ _ _ _ _ _ _ _ _ _ _ _ _ _ _ _ _ _ _ _ _ _ _ _ _ _ _ _ _ _ _ _ _ _ _ _ _ _ _ _ _ _ _ _ _ _ _ _ _ _ _ _ _ _ _ _ _ _ _ _ _ _ _ _ _ _ _ _ _ _ _ _ _ _ _ _ _ _ _ _ _ _ _ _ _ _ _ _ _ _ _ _ _)
                    rintro e YY W1 ⟨rfl, hd, hT, rfl⟩
                    obtain ⟨T, Dd⟩ := YY
                    subst hT
                    obtain rfl : Dd = [] := hd
                    replace iA := iA.drewN 1
                    replace nA := nA.drewN 1
                    replace hB := belowN hB 1
                    go_wp2
                    go_roundw
                    case rel => exact ⟨k + 1, by omega, by go_num, by rw [hv2.out], iA, nA, hB⟩
                    case measure => simp [intOf]; omega
              · have lk : ¬ (k : Int) < (i : Int) := by omega
                obtain rfl : k = i := by omega
                go_wp2
                go_roundw
                case rel => exact ⟨k + 1, by omega, by go_num, by rw [HV1.out], iA, nA, hB⟩
                case measure => simp [intOf]; omega
          · have li : ¬ (i : Int) < (D.N.length : Int) := by omega
            obtain rfl : i = D.N.length := by omega
            rw [List.take_length]
            obtain ⟨vN, hvN⟩ : ∃ v, v = pairs8 sameOut D.N := ⟨_, rfl⟩
            have hcl := HCL.out
            unfold clash8 at hcl
            rw [← hvN] at hcl ⊢
            have HCL2 := Lib.hid hcl
            clear hvN hcl HCL hlt
            go_wp2
            clear li c2' hi
            go_loopw [13, 16] (fun v j wr => ∃ i : Nat, i ≤ D.K.length ∧ j = .int .i64 (i : Int) ∧ v = .bool (vN || pairs8 sameCel (D.K.take i)) ∧ Is wr DA 30 (ideL D A1 c1 A2 c2) ∧ InI wr D A1 c1 A2 c2 ∧ Below w.heap.size w wr) (fun _ j _ => D.K.length - (intOf j).toNat)
            case atStart => exact ⟨0, by omega, rfl, by simp [pairs8], iA, nA, hB⟩
            case round =>
              clear iA nA hB
              obtain ⟨i, hi, rfl, rfl, iA, nA, hB⟩ := hrel
              have hK15 := HK15.out
              have c3' : wr.cell? ⟨DA, 3, none⟩ = some (.slice A2 D.K.length c2) := iA.cell 3
              by_cases hlt : i < D.K.length
              · have li : (i : Int) < (D.K.length : Int) := by omega
                obtain ⟨x, hxs⟩ : ∃ x, D.K[i]? = some x := ⟨_, List.getElem?_eq_getElem hlt⟩
                have HX := Lib.hid hxs
                have HV1 := Lib.hid (or_step8 sameCel vN hxs)
                obtain ⟨v0, hv0⟩ : ∃ v, v = (vN || pairs8 sameCel (D.K.take i)) := ⟨_, rfl⟩
                rw [← hv0] at HV1 ⊢
                have w5i := IntWalk.i64_in ((i : Int) + 1) (by omega)
                obtain ⟨b, off, rfl, _, _⟩ := nA.k.cel hxs
                clear hxs hv0
                go_wp2
                go_loopw [13, 17] (fun v j wr => ∃ k : Nat, k ≤ i ∧ j = .int .i64 (k : Int) ∧ v = .bool (v0 || (D.K.take k).any fun y => sameCel y x) ∧ Is wr DA 30 (ideL D A1 c1 (some ⟨b, off, none⟩) c2) ∧ InI wr D A1 c1 (some ⟨b, off, none⟩) c2 ∧ Below w.heap.size w wr) (fun _ j _ => i - (intOf j).toNat)
                case atStart => exact ⟨0, by omega, rfl, by simp, iA, nA, hB⟩
                case round =>
                  clear iA nA hB c3'
                  obtain ⟨k, hk, rfl, rfl, iA, nA, hB⟩ := hrel
                  by_cases hlk : k < i
                  · have lk : (k : Int) < (i : Int) := by omega
                    have lk2 : (k : Int) < (D.K.length : Int) := by omega
                    obtain ⟨y, hys⟩ : ∃ y, D.K[k]? = some y := ⟨_, List.getElem?_eq_getElem (by omega)⟩
                    have hne := not_pair8 sameAsk HOK.out hlk hys HX.out
                    have hx := rangeK8 nA.k HX.out
                    have hy := rangeK8 nA.k hys
                    have hst := any_step8 (fun y => sameCel y x) v0 hys
                    have w6i := IntWalk.i64_in ((k : Int) + 1) (by omega)
                    by_cases hs : x.1 = y.1
                    · have n3 : ¬ x.2.1 = y.2.1 := fun e => by simp [sameAsk, e, hs] at hne
                      cases hv : (v0 || (D.K.take k).any fun y => sameCel y x) with
                      | true =>
                        have hv2 := Lib.hid (show (v0 || (D.K.take (k + 1)).any fun y => sameCel y x) = true by rw [hst, hv]; rfl)
                        clear hst hv hne hys
                        go_wp2
                        refine Code.wp_mono ?_ (clash_k_s D A1 c1 c2 DA b off i k x y _ iA hx hy li lk2 hs _ _ _ _ _ _ _ _ _ _ _ _ _ _ _ _ _ _ _ _ _ _ _ _ _ _ _ _ _ _ _ _ _ _ _ _ _ _ _ _ _ _ _ _ _ _ _ _ _ _ _ _ _ _ _ _ _ _ _ _ _ _ _ _ _ _ _ _ _ _ _ _ _ _ _ _ _ _ _ _ _ _ _ _ _ _ _ _ _ _ _ _ _ _ _ _ _ _ _ _ _ _ _ _ _ _ _ _ _ _ _ _ _ _ _ _ _ _ _ _ _ _ _ _ _ _ _ _ _ _ _ _ _ _ _ _ _ _ _ _ _ _ _ _ _ _ _ _ _ _ _ _ _ _ _ _ _ _ _ _ _ _ _ _ _ _ _ _ _ _ _ _ _ _ _ _ _ _ _ _ _ _ _ _ _ _ _ _ _ _ _ _ _ _ _)
                        rintro e YY W1 ⟨rfl, hd, hT, rfl⟩
                        obtain ⟨T, Dd⟩ := YY
                        subst hT
                        obtain rfl : Dd = [] := hd
                        replace iA := iA.drewN 1
                        replace nA := nA.drewN 1
                        replace hB := belowN hB 1
                        go_wp2
                        refine Code.wp_mono ?_ (clash_c_t D A1 c1 c2 DA b off i k x y _ iA hx hy li lk2 _ _ _ _ _ _ _ _ _ _ _ _ _ _ _ _ _ _ _ _ _ _ _ _ _ _ _ _ _ _ _ _ _ _ _ _ _ _ _ _ _ _ _ _ _ _ _ _ _ _ _ _ _ _ _ _ _ _ _ _ _ _ _ _ _ _ _ _ _ _ _ _ _ _ _ _ _ _ _ _ _ _ _ _ _ _ _ _ _ _ _ _ _ _ _ _ _ _ _ _ _ _ _ _ _ _ _ _ _ _ _ _ _ _ _ _ _ _ _ _ _ _ _ _ _ _ _ _ _ _ _ _ _ _ _ _ _ _ _ _ _ _ _ _ _ _ _ _ _ _ _ _ _ _ _ _ _ _ _ _ _ _ _ _ _ _ _ _ _ _ _ _ _ _ _ _ _ _ _ _ _ _ _ _ _ _ _ _ _ _ _ _ _ _)
                        rintro e YY W1 ⟨rfl, hd, hT, rfl⟩
                        obtain ⟨T, Dd⟩ := YY
                        subst hT
                        obtain rfl : Dd = [] := hd
                        replace iA := iA.drewN 1
                        replace nA := nA.drewN 1
                        replace hB := belowN hB 1
                        go_wp2
                        refine Code.wp_mono ?_ (clash_a_s D A1 c1 c2 DA b off i k x y _ iA hx hy li lk2 n3 _ _ _ _ _ _ _ _ _ _ _ _ _ _ _ _ _ _ _ _ _ _ _ _ _ _ _ _ _ _ _ _ _ _ _ _ _ _ _ _ _ _ _ _ _ _ _ _ _ _ _ _ _ _ _ _ _ _ _ _ _ _ _ _ _ _ _ _ _ _ _ _ _ _ _ _ _ _ _ _ _ _ _ _ _ _ _ _ _ _ _ _ _ _ _ _ _ _ _ _ _ _ _ _ _ _ _ _ _ _ _ _ _ _ _ _ _ _ _ _ _ _ _ _ _ _ _ _ _ _ _ _ _ _ _ _ _ _ _ _ _ _ _ _ _ _ _ _ _ _ _ _ _ _ _ _ _ _ _ _ _ _ _ _ _ _ _ _ _ _ _ _ _ _ _ _ _ _ _ _ _ _ _ _ _ _ _ _ _ _ _ _ _ _)
                        rintro e YY W1 ⟨rfl, hd, hT, rfl⟩
                        obtain ⟨T, Dd⟩ := YY
                        subst hT
                        obtain rfl : Dd = [] := hd
                        replace iA := iA.drewN 1
                        replace nA := nA.drewN 1
                        replace hB := belowN hB 1
                        go_wp2
                        go_roundw
                        case rel => exact ⟨k + 1, by omega, by go_num, by rw [hv2.out], iA, nA, hB⟩
                        case measure => simp [intOf]; omega
                      | false =>
                        by_cases he : x.2.2 = y.2.2
                        · have hv2 := Lib.hid (show (v0 || (D.K.take (k + 1)).any fun y => sameCel y x) = true by rw [hst, hv]; simp [sameCel, he, hs])
                          clear hst hv hne hys
                          go_wp2
                          refine Code.wp_mono ?_ (clash_k_s D A1 c1 c2 DA b off i k x y _ iA hx hy li lk2 hs _ _ _ _ _ _ _ _ _ _ _ _ _ _ _ _ _ _ _ _ _ _ _ _ _ _ _ _ _ _ _ _ _ _ _ _ _ _ _ _ _ _ _ _ _ _ _ _ _ _ _ _ _ _ _ _ _ _ _ _ _ _ _ _ _ _ _ _ _ _ _ _ _ _ _ _ _ _ _ _ _ _ _ _ _ _ _ _ _ _ _ _ _ _ _ _ _ _ _ _ _ _ _ _ _ _ _ _ _ _ _ _ _ _ _ _ _ _ _ _ _ _ _ _ _ _ _ _ _ _ _ _ _ _ _ _ _ _ _ _ _ _ _ _ _ _ _ _ _ _ _ _ _ _ _ _ _ _ _ _ _ _ _ _ _ _ _ _ _ _ _ _ _ _ _ _ _ _ _ _ _ _ _ _ _ _ _ _ _ _ _ _ _ _ _)
                          rintro e YY W1 ⟨rfl, hd, hT, rfl⟩
                          obtain ⟨T, Dd⟩ := YY
                          subst hT
                          obtain rfl : Dd = [] := hd
                          replace iA := iA.drewN 1
                          replace nA := nA.drewN 1
                          replace hB := belowN hB 1
                          go_wp2
                          refine Code.wp_mono ?_ (clash_c_e D A1 c1 c2 DA b off i k x y _ iA hx hy li lk2 he _ _ _ _ _ _ _ _ _ _ _ _ _ _ _ _ _ _ _ _ _ _ _ _ _ _ _ _ _ _ _ _ _ _ _ _ _ _ _ _ _ _ _ _ _ _ _ _ _ _ _ _ _ _ _ _ _ _ _ _ _ _ _ _ _ _ _ _ _ _ _ _ _ _ _ _ _ _ _ _ _ _ _ _ _ _ _ _ _ _ _ _ _ _ _ _ _ _ _ _ _ _ _ _ _ _ _ _ _ _ _ _ _ _ _ _ _ _ _ _ _ _ _ _ _ _ _ _ _ _ _ _ _ _ _ _ _ _ _ _ _ _ _ _ _ _ _ _ _ _ _ _ _ _ _ _ _ _ _ _ _ _ _ _ _ _ _ _ _ _ _ _ _ _ _ _ _ _ _ _ _ _ _ _ _ _ _ _ _ _ _ _ _)
                          rintro e YY W1 ⟨rfl, hd, hT, rfl⟩
                          obtain ⟨T, Dd⟩ := YY
                          subst hT
                          obtain rfl : Dd = [] := hd
                          replace iA := iA.drewN 1
                          replace nA := nA.drewN 1
                          replace hB := belowN hB 1
                          go_wp2
                          refine Code.wp_mono ?_ (clash_a_s D A1 c1 c2 DA b off i k x y _ iA hx hy li lk2 n3 _ _ _ _ _ _ _ _ _ _ _ _ _ _ _ _ _ _ _ _ _ _ _ _ _ _ _ _ _ _ _ _ _ _ _ _ _ _ _ _ _ _ _ _ _ _ _ _ _ _ _ _ _ _ _ _ _ _ _ _ _ _ _ _ _ _ _ _ _ _ _ _ _ _ _ _ _ _ _ _ _ _ _ _ _ _ _ _ _ _ _ _ _ _ _ _ _ _ _ _ _ _ _ _ _ _ _ _ _ _ _ _ _ _ _ _ _ _ _ _ _ _ _ _ _ _ _ _ _ _ _ _ _ _ _ _ _ _ _ _ _ _ _ _ _ _ _ _ _ _ _ _ _ _ _ _ _ _ _ _ _ _ _ _ _ _ _ _ _ _ _ _ _ _ _ _ _ _ _ _ _ _ _ _ _ _ _ _ _ _ _ _ _ _)
                          rintro e YY W1 ⟨rfl, hd, hT, rfl⟩
                          obtain ⟨T, Dd⟩ := YY
                          subst hT
                          obtain rfl : Dd = [] := hd
                          replace iA := iA.drewN 1
                          replace nA := nA.drewN 1
                          replace hB := belowN hB 1
                          go_wp2
                          go_roundw
                          case rel => exact ⟨k + 1, by omega, by go_num, by rw [hv2.out], iA, nA, hB⟩
                          case measure => simp [intOf]; omega
                        · have hv2 := Lib.hid (show (v0 || (D.K.take (k + 1)).any fun y => sameCel y x) = false by rw [hst, hv]; simp [sameCel]; exact fun _ e => he e.symm)
                          clear hst hv hne hys
                          go_wp2
                          refine Code.wp_mono ?_ (clash_k_s D A1 c1 c2 DA b off i k x y _ iA hx hy li lk2 hs _ _ _ _ _ _ _ _ _ _ _ _ _ _ _ _ _ _ _ _ _ _ _ _ _ _ _ _ _ _ _ _ _ _ _ _ _ _ _ _ _ _ _ _ _ _ _ _ _ _ _ _ _ _ _ _ _ _ _ _ _ _ _ _ _ _ _ _ _ _ _ _ _ _ _ _ _ _ _ _ _ _ _ _ _ _ _ _ _ _ _ _ _ _ _ _ _ _ _ _ _ _ _ _ _ _ _ _ _ _ _ _ _ _ _ _ _ _ _ _ _ _ _ _ _ _ _ _ _ _ _ _ _ _ _ _ _ _ _ _ _ _ _ _ _ _ _ _ _ _ _ _ _ _ _ _ _ _ _ _ _ _ _ _ _ _ _ _ _ _ _ _ _ _ _ _ _ _ _ _ _ _ _ _ _ _ _ _ _ _ _ _ _ _ _)
                          rintro e YY W1 ⟨rfl, hd, hT, rfl⟩
                          obtain ⟨T, Dd⟩ := YY
                          subst hT
                          obtain rfl : Dd = [] := hd
                          replace iA := iA.drewN 1
                          replace nA := nA.drewN 1
                          replace hB := belowN hB 1
                          go_wp2
                          refine Code.wp_mono ?_ (clash_c_n D A1 c1 c2 DA b off i k x y _ iA hx hy li lk2 he _ _ _ _ _ _ _ _ _ _ _ _ _ _ _ _ _ _ _ _ _ _ _ _ _ _ _ _ _ _ _ _ _ _ _ _ _ _ _ _ _ _ _ _ _ _ _ _ _ _ _ _ _ _ _ _ _ _ _ _ _ _ _ _ _ _ _ _ _ _ _ _ _ _ _ _ _ _ _ _ _ _ _ _ _ _ _ _ _ _ _ _ _ _ _ _ _ _ _ _ _ _ _ _ _ _ _ _ _ _ _ _ _ _ _ _ _ _ _ _ _ _ _ _ _ _ _ _ _ _ _ _ _ _ _ _ _ _ _ _ _ _ _ _ _ _ _ _ _ _ _ _ _ _ _ _ _ _ _ _ _ _ _ _ _ _ _ _ _ _ _ _ _ _ _ _ _ _ _ _ _ _ _ _ _ _ _ _ _ _ _ _ _)
                          rintro e YY W1 ⟨rfl, hd, hT, rfl⟩
                          obtain ⟨T, Dd⟩ := YY
                          subst hT
                          obtain rfl : Dd = [] := hd
                          replace iA := iA.drewN 1
                          replace nA := nA.drewN 1
                          replace hB := belowN hB 1
                          go_wp2
                          refine Code.wp_mono ?_ (clash_a_s D A1 c1 c2 DA b off i k x y _ iA hx hy li lk2 n3 _ _ _ _ _ _ _ _ _ _ _ _ _ _ _ _ _ _ _ _ _ _ _ _ _ _ _ _ _ _ _ _ _ _ _ _ _ _ _ _ _ _ _ _ _ _ _ _ _ _ _ _ _ _ _ _ _ _ _ _ _ _ _ _ _ _ _ _ _ _ _ _ _ _ _ _ _ _ _ _ _ _ _ _ _ _ _ _ _ _ _ _ _ _ _ _ _ _ _ _ _ _ _ _ _ _ _ _ _ _ _ _ _ _ _ _ _ _ _ _ _ _ _ _ _ _ _ _ _ _ _ _ _ _ _ _ _ _ _ _ _ _ _ _ _ _ _ _ _ _ _ _ _ _ _ _ _ _ _ _ _ _ _ _ _ _ _ _ _ _ _ _ _ _ _ _ _ _ _ _ _ _ _ _ _ _ _ _ _ _ _ _ _ _)
                          rintro e YY W1 ⟨rfl, hd, hT, rfl⟩
                          obtain ⟨T, Dd⟩ := YY
                          subst hT
                          obtain rfl : Dd = [] := hd
                          replace iA := iA.drewN 1
                          replace nA := nA.drewN 1
                          replace hB := belowN hB 1
                          go_wp2
                          go_roundw
                          case rel => exact ⟨k + 1, by omega, by go_num, by rw [hv2.out], iA, nA, hB⟩
                          case measure => simp [intOf]; omega
                    · cases hv : (v0 || (D.K.take k).any fun y => sameCel y x) with
                      | true =>
                        have hv2 := Lib.hid (show (v0 || (D.K.take (k + 1)).any fun y => sameCel y x) = true by rw [hst, hv]; rfl)
                        clear hst hv hne hys
                        go_wp2
                        refine Code.wp_mono ?_ (clash_k_d D A1 c1 c2 DA b off i k x y _ iA hx hy li lk2 hs _ _ _ _ _ _ _ _ _ _ _ _ _ _ _ _ _ _ _ _ _ _ _ _ _ _ _ _ _ _ _ _ _ _ _ _ _ _ _ _ _ _ _ _ _ _ _ _ _ _ _ _ _ _ _ _ _ _ _ _ _ _ _ _ _ _ _ _ _ _ _ _ _ _ _ _ _ _ _ _ _ _ _ _ _ _ _ _ _ _ _ _ _ _ _ _ _ _ _ _ _ _ _ _ _ _ _ _ _ _ _ _ _ _ _ _ _ _ _ _ _ _ _ _ _ _ _ _ _ _ _ _ _ _ _ _ _ _ _ _ _ _ _ _ _ _ _ _ _ _ _ _ _ _ _ _ _ _ _ _ _ _ _ _ _ _ _ _ _ _ _ _ _ _ _ _ _ _ _ _ _ _ _ _ _ _ _ _ _ _ _ _ _ _ _)
                        rintro e YY W1 ⟨rfl, hd, hT, rfl⟩
                        obtain ⟨T, Dd⟩ := YY
                        subst hT
                        obtain rfl : Dd = [] := hd
                        replace iA := iA.drewN 1
                        replace nA := nA.drewN 1
                        replace hB := belowN hB 1
                        go_wp2
                        refine Code.wp_mono ?_ (clash_c_t D A1 c1 c2 DA b off i k x y _ iA hx hy li lk2 _ _ _ _ _ _ _ _ _ _ _ _ _ _ _ _ _ _ _ _ _ _ _ _ _ _ _ _ _ _ _ _ _ _ _ _ _ _ _ _ _ _ _ _ _ _ _ _ _ _ _ _ _ _ _ _ _ _ _ _ _ _ _ _ _ _ _ _ _ _ _ _ _ _ _ _ _ _ _ _ _ _ _ _ _ _ _ _ _ _ _ _ _ _ _ _ _ _ _ _ _ _ _ _ _ _ _ _ _ _ _ _ _ _ _ _ _ _ _ _ _ _ _ _ _ _ _ _ _ _ _ _ _ _ _ _ _ _ _ _ _ _ _ _ _ _ _ _ _ _ _ _ _ _ _ _ _ _ _ _ _ _ _ _ _ _ _ _ _ _ _ _ _ _ _ _ _ _ _ _ _ _ _ _ _ _ _ _ _ _ _ _ _ _)
                        rintro e YY W1 ⟨rfl, hd, hT, rfl⟩
                        obtain ⟨T, Dd⟩ := YY
                        subst hT
                        obtain rfl : Dd = [] := hd
                        replace iA := iA.drewN 1
                        replace nA := nA.drewN 1
                        replace hB := belowN hB 1
                        go_wp2
                        refine Code.wp_mono ?_ (clash_a_d D A1 c1 c2 DA b off i k x y _ iA hx hy li lk2 _ _ _ _ _ _ _ _ _ _ _ _ _ _ _ _ _ _ _ _ _ _ _ _ _ _ _ _ _ _ _ _ _ _ _ _ _ _ _ _ _ _ _ _ _ _ _ _ _ _ _ _ _ _ _ _ _ _ _ _ _ _ _ _ _ _ _ _ _ _ _ _ _ _ _ _ _ _ _ _ _ _ _ _ _ _ _ _ _ _ _ _ _ _ _ _ _ _ _ _ _ _ _ _ _ _ _ _ _ _ _ _ _ _ _ _ _ _ _ _ _ _ _ _ _ _ _ _ _ _ _ _ _ _ _ _ _ _ _ _ _ _ _ _ _ _ _ _ _ _ _ _ _ _ _ _ _ _ _ _ _ _ _ _ _ _ _ _ _ _ _ _ _ _ _ _ _ _ _ _ _ _ _ _ _ _ _ _ _ _ _ _ _ _)
                        rintro e YY W1 ⟨rfl, hd, hT, rfl⟩
                        obtain ⟨T, Dd⟩ := YY
                        subst hT
                        obtain rfl : Dd = [] := hd
                        replace iA := iA.drewN 1
                        replace nA := nA.drewN 1
                        replace hB := belowN hB 1
                        go_wp2
                        go_roundw
                        case rel => exact ⟨k + 1, by omega, by go_num, by rw [hv2.out], iA, nA, hB⟩
                        case measure => simp [intOf]; omega
                      | false =>
                        have hv2 := Lib.hid (show (v0 || (D.K.take (k + 1)).any fun y => sameCel y x) = false by rw [hst, hv]; simp [sameCel]; exact fun e => absurd e.symm hs)
                        clear hst hv hne hys
                        go_wp2
                        refine Code.wp_mono ?_ (clash_k_d D A1 c1 c2 DA b off i k x y _ iA hx hy li lk2 hs _ _ _ _ _ _ _ _ _ _ _ _ _ _ _ _ _ _ _ _ _ _ _ _ _ _ _ _ _ _ _ _ _ _ _ _ _ _ _ _ _ _ _ _ _ _ _ _ _ _ _ _ _ _ _ _ _ _ _ _ _ _ _ _ _ _ _ _ _ _ _ _ _ _ _ _ _ _ _ _ _ _ _ _ _ _ _ _ _ _ _ _ _ _ _ _ _ _ _ _ _ _ _ _ _ _ _ _ _ _ _ _ _ _ _ _ _ _ _ _ _ _ _ _ _ _ _ _ _ _ _ _ _ _ _ _ _ _ _ _ _ _ _ _ _ _ _ _ _ _ _ _ _ _ _ _ _ _ _ _ _ _ _ _ _ _ _ _ _ _ _ _ _ _ _ _ _ _ _ _ _ _ _ _ _ _ _ _ _ _ _ _ _ _ _)
                        rintro e YY W1 ⟨rfl, hd, hT, rfl⟩
                        obtain ⟨T, Dd⟩ := YY
                        subst hT
                        obtain rfl : Dd = [] := hd
                        replace iA := iA.drewN 1
                        replace nA := nA.drewN 1
                        replace hB := belowN hB 1
                        go_wp2
                        refine Code.wp_mono ?_ (clash_c_d D A1 c1 c2 DA b off i k x y _ iA hx hy li lk2 _ _ _ _ _ _ _ _ _ _ _ _ _ _ _ _ _ _ _ _ _ _ _ _ _ _ _ _ _ _ _ _ _ _ _ _ _ _ _ _ _ _ _ _ _ _ _ _ _ _ _ _ _ _ _ _ _ _ _ _ _ _ _ _ _ _ _ _ _ _ _ _ _ _ _ _ _ _ _ _ _ _ _ _ _ _ _ _ _ _ _ _ _ _ _ _ _ _ _ _ _ _ _ _ _ _ _ _ _ _ _ _ _ _ _ _ _ _ _ _ _ _ _ _ _ _ _ _ _ _ _ _ _ _ _ _ _ _ _ _ _ _ _ _ _ _ _ _ _ _ _ _ _ _ _ _ _ _ _ _ _ _ _ _ _ _ _ _ _ _ _ _ _ _ _ _ _ _ _ _ _ _ _ _ _ _ _ _ _ _ _ _ _)
                        rintro e YY W1 ⟨rfl, hd, hT, rfl⟩
                        obtain ⟨T, Dd⟩ := YY
                        subst hT
                        obtain rfl : Dd = [] := hd
                        replace iA := iA.drewN 1
                        replace nA := nA.drewN 1
                        replace hB := belowN hB 1
                        go_wp2
                        refine Code.wp_mono ?_ (clash_a_d D A1 c1 c2 DA b off i k x y _ iA hx hy li lk2 _ _ _ _ _ _ _ _ _ _ _ _ _ _ _ _ _ _ _ _ _ _ _ _ _ _ _ _ _ _ _ _ _ _ _ _ _ _ _ _ _ _ _ _ _ _ _ _ _ _ _ _ _ _ _ _ _ _ _ _ _ _ _ _ _ _ _ _ _ _ _ _ _ _ _ _ _ _ _ _ _ _ _ _ _ _ _ _ _ _ _ _ _ _ _ _ _ _ _ _ _ _ _ _ _ _ _ _ _ _ _ _ _ _ _ _ _ _ _ _ _ _ _ _ _ _ _ _ _ _ _ _ _ _ _ _ _ _ _ _ _ _ _ _ _ _ _ _ _ _ _ _ _ _ _ _ _ _ _ _ _ _ _ _ _ _ _ _ _ _ _ _ _ _ _ _ _ _ _ _ _ _ _ _ _ _ _ _ _ _ _ _ _ _)
                        rintro e YY W1 ⟨rfl, hd, hT, rfl⟩
                        obtain ⟨T, Dd⟩ := YY
                        subst hT
                        obtain rfl : Dd = [] := hd
                        replace iA := iA.drewN 1
                        replace nA := nA.drewN 1
                        replace hB := belowN hB 1
                        go_wp2
                        go_roundw
                        case rel => exact ⟨k + 1, by omega, by go_num, by rw [hv2.out], iA, nA, hB⟩
                        case measure => simp [intOf]; omega
                  · have lk : ¬ (k : Int) < (i : Int) := by omega
                    obtain rfl : k = i := by omega
                    go_wp2
                    go_roundw
                    case rel => exact ⟨k + 1, by omega, by go_num, by rw [HV1.out], iA, nA, hB⟩
                    case measure => simp [intOf]; omega
              · have li : ¬ (i : Int) < (D.K.length : Int) := by omega
                obtain rfl : i = D.K.length := by omega
                rw [List.take_length, ← HCL2.out]
                have hN15 := HN15.out
                have c1' : wr.cell? ⟨DA, 1, none⟩ = some (.int .i64 (16 * (D.N.length : Int) + 40 * (D.K.length : Int))) := by rw [← HAT.out]; exact iA.cell 1
                have c2' : wr.cell? ⟨DA, 2, none⟩ = some (.slice A1 D.N.length c1) := iA.cell 2
                have c4' : wr.cell? ⟨DA, 4, none⟩ = some (.bool D.c) := iA.cell 4
                have w7i := IntWalk.i64_in (16 * (D.N.length : Int)) (by omega)
                have w8i := IntWalk.i64_in (40 * (D.K.length : Int)) (by omega)
                have w9i := IntWalk.i64_in (16 * (D.N.length : Int) + 40 * (D.K.length : Int)) (by omega)
                go_wp2
                go_ret
                exact ⟨rfl, hB⟩
end Go.Proofs.Ytaikekemaehcpaa
