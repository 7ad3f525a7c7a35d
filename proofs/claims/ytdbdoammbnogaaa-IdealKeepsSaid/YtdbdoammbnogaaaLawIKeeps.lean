/-
  IdealKeeps: the walk of the statement's function.
-/
import Derived.Test.YtdbdoammbnogaaaIdz8
import Derived.Test.YtdbdoammbnogaaaIdz9
import Derived.Test.YtdbdoammbnogaaaIdz1
namespace Go.Proofs.Ytdbdoammbnogaaa
open Go.RowKit Go.Shelf

set_option maxRecDepth 100000 in
set_option maxHeartbeats 16000000 in
theorem ikeeps_walk (A : Option Addr) (cap : Nat) (L : List Int) (small : Bool) (A' : Option Addr) (cap' : Nat) (R : List Raw8) (w : World) (hl : L.length ≤ maxLen ∧ L.length ≤ cap) (_hn : A = none → cap = 0) (hc : InL w A L) (hL : ∀ y ∈ L, -9223372036854775808 ≤ y ∧ y ≤ 9223372036854775807)
    (hR : R.length ≤ maxLen) (hc' : InV w A' (flI R)) (hb' : ∀ n ∈ R, Big8 n) :
    Calls Try.prog 4 #[.slice A L.length cap, .bool small, .slice A' R.length cap'] w fun e w' => e = .returned (.bool true) ∧ Below w.heap.size w w' := by
  obtain ⟨i0, hi0, hz0, hz1, hz2⟩ := infoThree8 infoStr8
  have DR := Lib.hid (fun (W : World) (hb : Below w.heap.size w W) => draws_any A cap L small W (hc.keep hb) hL hl.1)
  have hBs := drwS_size L small
  unfold maxLen at hR
  generalize drwS L small = B at *
  have hr0 := two_right8 hBs
  have M0 := fun w => new_any B 0 w
  have e0 : new8 B 0 = (⟨B, 0, [], [], false⟩, 0) := by rw [new8, if_pos hr0]
  have HF0 := Lib.hid (new8_fro hr0)
  simp only [e0] at M0 HF0
  have H0 := Lib.hid (fun W : World => InI.empty W (show (⟨B, 0, [], [], false⟩ : Ide).N = [] from rfl) (show (⟨B, 0, [], [], false⟩ : Ide).K = [] from rfl))
  generalize (⟨B, 0, [], [], false⟩ : Ide) = D0 at *
  replace M0 := Lib.hid M0
  have HC := Lib.hid (fun (W : World) (hb : Below w.heap.size w W) => hc'.keep hb)
  have HY := Lib.hid hb'
  have HBs := Lib.hid hBs
  have HQL := Lib.hid (qs8_len R)
  generalize hLL : L.length = Llen at *
  clear hc hL hl hc' hb' hBs hr0 e0 _hn hLL
  go_enter Try.func4, Try.ntmps4
  go_wp2_with fail
  have hB : Below w.heap.size w w := Below.refl _ _
  refine (awake8_any _).mono ?_
  rintro e W1 ⟨rfl, hb⟩
  replace hB := hB.trans (hb.mono hB.size)
  clear hb
  go_wp2_with fail
  refine (DR.out _ hB).mono ?_
  rintro e W2 ⟨rfl, hb⟩
  replace hB := hB.trans (hb.mono hB.size)
  clear hb
  go_wp2_with fail
  refine (M0.out _).mono ?_
  rintro e W3 ⟨rfl, hb⟩
  replace hB := hB.trans (hb.mono hB.size)
  clear hb
  have nA := H0.out W3
  have iA : Is (W3.alloc (.cells (ideL D0 none 0 none 0) 30)) W3.heap.size 30 (ideL D0 none 0 none 0) := Is.new _ _ _
  replace nA := nA.keep ((Below.refl _ _).alloc (Nat.le_refl _) (.cells (ideL D0 none 0 none 0) 30))
  have hDA := hB.size
  replace hB := hB.alloc hB.size (.cells (ideL D0 none 0 none 0) 30)
  go_wp2_with (first | (refine wpList_load_rowG (by kernel_rfl) 30 _ rfl (W3.heap.size) rfl 30 _ iA Try.underlying30 rfl infoIde ?_))
  generalize W3.alloc (.cells (ideL D0 none 0 none 0) 30) = W4 at *
  generalize W3.heap.size = DA at *
  have HDA := Lib.hid hDA
  clear hDA
  go_loopw [10, 11, 12] (fun vi vo i wr => ∃ k : Nat, k ≤ 15 ∧ k ≤ R.length ∧ i = .int .i64 (k : Int) ∧ Kst8 w wr DA B (qs8 R) k vi vo) (fun _ _ i _ => 15 - (intOf i).toNat)
  case atStart => exact ⟨0, by omega, by omega, rfl, ⟨D0, [], [], none, 0, none, 0, none, 0, none, 0, HF0.out, ⟨rfl, fun j q o _ h => by simp at h⟩, rfl, rfl, rfl, rfl, ⟨iA, nA, RowV.nil _ _ _ _, RowV.nil _ _ _ _, Sep8.none _, hB⟩⟩⟩
  case round =>
    clear iA nA hB
    obtain ⟨k, hk15, hkl, rfl, hst⟩ := hrel
    obtain ⟨d, L, O, A1, c1, A2, c2, AI, cI, AO, cO, hfro, hkp, hLt, hLk, rfl, rfl, K⟩ := hst.out
    have HLk := Lib.hid hLk
    clear hst hLk
    have hDA := HDA.out
    by_cases hlt : k < R.length ∧ k < 15
    · obtain ⟨hlt, hlt2⟩ := hlt
      obtain ⟨n, hn⟩ : ∃ n, R[k]? = some n := ⟨_, List.getElem?_eq_getElem hlt⟩
      have hnb := Lib.hid (HY.out n (List.mem_of_getElem? hn))
      obtain ⟨kb, off, rfl, _, hr⟩ := (HC.out wr K.hB).raw hn
      have HQ := Lib.hid (qs8_at hn hlt2)
      have hfine := ask8_fine (q := que8 n.1 n.2.1 n.2.2) hfro (by omega) HBs.out (que8_ok _ _ _)
      have hfro2 := ask8_fro hfro (que8 n.1 n.2.1 n.2.2)
      obtain ⟨s, d', er, hask⟩ : ∃ s d' er, ask8 d (que8 n.1 n.2.1 n.2.2) = (s, d', er) := ⟨_, _, _, rfl⟩
      rw [hask] at hfine hfro2
      have hfine2 : er = 0 := hfine
      subst hfine2
      have HF : Hid (Fro8 B (k + 1) d') := Lib.hid hfro2
      have HRI := Lib.hid HF.out.right
      have HRT := Lib.hid (right8_of HRI.out)
      have HKP := Lib.hid hkp
      have HL := Lib.hid hLt
      clear hfine hfro2 hfro hn hkp hLt
      have P2 := fun w => pick8_any n.1 2 w hnb.out.1.1 hnb.out.1.2 (by omega) (by omega)
      have P6 := Lib.hid (fun w => pick8_any n.2.1 6 w hnb.out.2.1.1 hnb.out.2.1.2 (by omega) (by omega))
      have hp6 := pickN_bd n.2.1 6 (by omega)
      obtain ⟨p6, hp6e⟩ : ∃ p, pickN n.2.1 6 = p := ⟨_, rfl⟩
      rw [hp6e] at P6 hp6
      obtain ⟨X, hX0⟩ : ∃ X, strOfNums [p6] = X := ⟨_, rfl⟩
      have hX : strOfNums [pickN n.2.1 6] = X := by rw [hp6e]; exact hX0
      have hXz : X.size = 1 := by rw [← hX0, strOfNums_size]; rfl
      obtain ⟨lb, hlb⟩ : ∃ lb, label8 n.2.1 = lb := ⟨_, rfl⟩
      obtain ⟨tx, htx⟩ : ∃ tx, text8 n.2.2 = tx := ⟨_, rfl⟩
      have hpu : IntKind.u8.wrap p6 = p6 := by rw [show IntKind.u8.wrap p6 = p6 % 256 from rfl]; omega
      have l1 : (k : Int) < (R.length : Int) := by omega
      have l2 : (k : Int) < 15 := by omega
      have w1i := IntWalk.i64_in ((k : Int) + 1) (by omega)
      have r0 : wr.cell? ⟨kb, off + k * 3, none⟩ = some (.int .i64 n.1) := hr 0 _ rfl
      have r1 : wr.cell? ⟨kb, off + k * 3 + 1, none⟩ = some (.int .i64 n.2.1) := hr 1 _ rfl
      have r2 : wr.cell? ⟨kb, off + k * 3 + 2, none⟩ = some (.int .i64 n.2.2) := hr 2 _ rfl
      clear hr
      have hNA : wr.heap.size ≠ DA := Nat.ne_of_gt K.iA.lt
      replace K := K.alloc (.cells #[.int .i64 n.1, .int .i64 n.2.1, .int .i64 n.2.2] 24)
      have iN : Is (wr.alloc (.cells #[.int .i64 n.1, .int .i64 n.2.1, .int .i64 n.2.2] 24)) wr.heap.size 24 #[.int .i64 n.1, .int .i64 n.2.1, .int .i64 n.2.2] := Is.new _ _ _
      have cN1 : (wr.alloc (.cells #[.int .i64 n.1, .int .i64 n.2.1, .int .i64 n.2.2] 24)).cell? ⟨wr.heap.size, 1, none⟩ = some (.int .i64 n.2.1) := iN.cell 1
      go_wp2_with fail
      clear cN1 r0 r1 r2
      generalize wr.alloc (.cells #[.int .i64 n.1, .int .i64 n.2.1, .int .i64 n.2.2] 24) = V1 at *
      refine (P6.out _).mono ?_
      rintro e w' ⟨rfl, rfl⟩
      replace K := K.alloc (.cells #[.int .u8 p6] 5)
      replace iN := iN.alloc (.cells #[.int .u8 p6] 5)
      have v6 := convL8 [p6] (n := 1) (by rfl) (Is.new V1 5 #[.int .u8 p6])
      rw [hX0] at v6
      have cN0 : (V1.alloc (.cells #[.int .u8 p6] 5)).cell? ⟨wr.heap.size, 0, none⟩ = some (.int .i64 n.1) := iN.cell 0
      go_wp2_with fail
      clear v6 cN0 hX0 hXz P6 hp6 hpu hp6e
      generalize V1.alloc (.cells #[.int .u8 p6] 5) = V2 at *
      by_cases hz : pickN n.1 2 = 0
      · clear hlb htx
        have hq : que8 n.1 n.2.1 n.2.2 = .nam X := by rw [que8, if_pos hz, hX]
        rw [hq] at hask HQ
        clear hq
        rw [hz] at P2
        have hask2 : lab8 d X = (s, d', 0) := hask
        have HA : Hid (ask8 d (.nam X) = (s, d', 0)) := Lib.hid hask
        have HCUT := Lib.hid (fun wx => txt_in X wx)
        obtain ⟨T, hT0⟩ : ∃ T, (Q8.nam X).txt = T := ⟨_, rfl⟩
        have HT := Lib.hid hT0
        have HU := Lib.hid (fun W => txt_index (.nam X) W)
        rw [hT0] at HCUT HU
        have hT1 : (⟨#[102]⟩ ++ X : ByteArray) = T := hT0
        clear hask hT0
        replace P2 := Lib.hid P2
        refine (P2.out _).mono ?_
        rintro e w' ⟨rfl, rfl⟩
        rw [hT1]
        clear hT1 P2
        go_wp2
        refine Code.wp_mono ?_ (keeps_lab T X HCUT d d' s A1 c1 A2 c2 DA w _ hDA hask2 K.hB K.iA K.nA _ _ _ _ _ _ _ _ _ _ _ _ _ _ _ _ _ _ _ _ _ _ _ _ _ _ _ _ _ _ _ _ _ _ _ _ _ _ _ _ _ _ _ _ _ _ _ _ _ _ _ _ _ _ _ _ _ _ _ _ _ _ _ _ _ _ _ _ _ _ _ _ _ _ _ _ _ _ _ _ _ _ _ _ _ _ _ _ _ _ _ _ _ _ _ _ _ _ _ _ _ _ _ _ _ _ _ _ _ _ _ _ _ _ _ _ _ _ _ _ _ _ _ _ _ _ _ _ _ _ _ _ _ _ _ _ _ _ _ _ _ _ _ _ _ _ _ _ _ _ _ _ _ _ _ _ _ _ _ _ _ _ _ _ _ _ _ _ _ _ _ _ _ _ _ _ _ _ _ _ _ _ _ _ _ _ _)
        rintro e YY V3 ⟨rfl, hd, F1, f1, F2, f2, hT, hB, iA, nA, hG, o1, o2⟩
        obtain ⟨T0, Dd⟩ := YY
        subst hT
        obtain rfl : Dd = [] := hd
        replace K := K.ask hB iA nA hG o1 o2
        clear hB iA nA hG o1 o2 hask2 HCUT
        have RT := Lib.hid (fun W (h : InI W d' F1 f1 F2 f2) => right_any d' F1 f1 F2 f2 W h)
        rw [HRT.out] at RT
        have iA := K.iA
        go_wp2_with (refine wpList_load_rowG (by kernel_rfl) 30 _ rfl DA rfl 30 _ iA Try.underlying30 rfl infoIde ?_)
        clear iA
        refine (RT.out _ K.nA).mono ?_
        rintro e VR ⟨rfl, hb⟩
        replace K := K.below hb
        clear hb RT
        go_wp2
        go_loopw [18] (fun j wr => ∃ m : Nat, m ≤ k ∧ j = .int .i64 (m : Int) ∧ KIn8 w wr DA d' F1 f1 F2 f2 AI cI AO cO L O) (fun j _ => k - (intOf j).toNat)
        case atStart => exact ⟨0, by omega, rfl, K⟩
        case round =>
          clear K
          obtain ⟨m, hm, rfl, K⟩ := hrel
          by_cases hlm : m < k
          · have lm : (m : Int) < (L.length : Int) := by have := HLk.out; omega
            have lm2 : (m : Int) < (O.length : Int) := by have := HKP.out.len; omega
            have w6i := IntWalk.i64_in ((m : Int) + 1) (by omega)
            obtain ⟨qj, hqj⟩ : ∃ q, (qs8 R)[m]? = some q := ⟨_, List.getElem?_eq_getElem (by have := (List.getElem?_eq_some_iff.1 HQ.out).1; omega)⟩
            obtain ⟨oj, hoj⟩ : ∃ o, O[m]? = some o := ⟨_, List.getElem?_eq_getElem (by have := HKP.out.len; omega)⟩
            have hjI : L[m]? = some qj.txt := by rw [HL.out]; exact txts_at8 hqj hlm
            obtain ⟨bI, hAI, hcI⟩ := K.atI hjI
            obtain ⟨bO, hAO, hcO⟩ := K.atO hoj
            subst hAI
            subst hAO
            have hk1 := HKP.out.old HA.out hqj hoj
            have hk2 := Kp8.now HA.out
            have hok1 := qs8_ok R qj (List.mem_of_getElem? hqj)
            have hok2 := qs8_ok R _ (List.mem_of_getElem? HQ.out)
            have hsame : qj.txt = T → oj = s := fun e => kno8_one HRI.out (by rw [txt_inj8 hok1 hok2 (e.trans HT.out.symm)] at hk1; exact hk1) hk2
            have hclash : kin8 qj (.nam X) → qj.txt ≠ T → oj = s → d'.c = true := fun h1 h2 h3 => by subst h3; exact kno8_clash HRI.out hk1 hk2 h1 (fun e => h2 (by rw [e]; exact HT.out))
            clear hk1 hk2 hjI
            obtain ⟨TJ, hTJ⟩ : ∃ T, qj.txt = T := ⟨_, rfl⟩
            rw [hTJ] at hcI hsame hclash
            cases qj with
            | nam i =>
              have hkin : kin8 (.nam i) (.nam X) := trivial
              have hV := Lib.hid (fun W => txt_index (.nam i) W)
              rw [hTJ] at hV
              clear hTJ
              go_wp2
              refine Code.wp_mono ?_ (kin_nn T _ bI cI m L.length _ hcI lm hV HU _ _ _ _ _ _ _ _ _ _ _ _ _ _ _ _ _ _ _ _ _ _ _ _ _ _ _ _ _ _ _ _ _ _ _ _ _ _ _ _ _ _ _ _ _ _ _ _ _ _ _ _ _ _ _ _ _ _ _ _ _ _ _ _ _ _ _ _ _ _ _ _ _ _ _ _ _ _ _ _ _ _ _ _ _ _ _ _ _ _ _ _ _ _ _ _ _ _ _ _ _ _ _ _ _ _ _ _ _ _ _ _ _ _ _ _ _ _ _ _ _ _ _ _ _ _ _ _ _ _ _ _ _ _ _ _ _ _ _ _ _ _ _ _ _ _ _ _ _ _ _ _ _ _ _ _ _ _ _ _ _ _ _ _ _ _ _ _ _ _ _ _ _ _ _ _ _ _ _ _ _ _ _ _ _ _)
              rintro e YY W1 ⟨rfl, hd, hT, rfl⟩
              obtain ⟨T, Dd⟩ := YY
              subst hT
              obtain rfl : Dd = [] := hd
              replace K := K.drewN 1
              replace hcI : (wr.drewN 1).cell? ⟨bI, m, none⟩ = _ := hcI
              replace hcO : (wr.drewN 1).cell? ⟨bO, m, none⟩ = _ := hcO
              clear hV
              by_cases ht : TJ = T
              · have ho := hsame ht
                rw [ht] at hcI
                rw [ho] at hcO
                clear hsame hclash ht ho
                go_wp2
                go_roundw
                case rel => exact ⟨m + 1, by omega, by go_num, K⟩
                case measure => simp [intOf]; omega
              · have n1 := ne7 ht
                have n2 := beq7 ht
                by_cases ho : oj = s
                · have hc4 := hclash hkin ht ho
                  have cA4 : (wr.drewN 1).cell? ⟨DA, 4, none⟩ = some (.bool d'.c) := K.iA.cell 4
                  rw [hc4] at cA4
                  rw [ho] at hcO
                  clear hsame hclash ht hc4 ho
                  go_wp2
                  go_roundw
                  case rel => exact ⟨m + 1, by omega, by go_num, K⟩
                  case measure => simp [intOf]; omega
                · have n3 := ne7 ho
                  have n4 := beq7 ho
                  clear hsame hclash ht
                  go_wp2
                  go_roundw
                  case rel => exact ⟨m + 1, by omega, by go_num, K⟩
                  case measure => simp [intOf]; omega
            | cel l t =>
              have hV := Lib.hid (fun W => txt_index (.cel l t) W)
              rw [hTJ] at hV
              clear hTJ
              go_wp2
              refine Code.wp_mono ?_ (kin_cn T _ bI cI m L.length _ hcI lm hV HU _ _ _ _ _ _ _ _ _ _ _ _ _ _ _ _ _ _ _ _ _ _ _ _ _ _ _ _ _ _ _ _ _ _ _ _ _ _ _ _ _ _ _ _ _ _ _ _ _ _ _ _ _ _ _ _ _ _ _ _ _ _ _ _ _ _ _ _ _ _ _ _ _ _ _ _ _ _ _ _ _ _ _ _ _ _ _ _ _ _ _ _ _ _ _ _ _ _ _ _ _ _ _ _ _ _ _ _ _ _ _ _ _ _ _ _ _ _ _ _ _ _ _ _ _ _ _ _ _ _ _ _ _ _ _ _ _ _ _ _ _ _ _ _ _ _ _ _ _ _ _ _ _ _ _ _ _ _ _ _ _ _ _ _ _ _ _ _ _ _ _ _ _ _ _ _ _ _ _ _ _ _ _ _ _ _)
              rintro e YY W1 ⟨rfl, hd, hT, rfl⟩
              obtain ⟨T, Dd⟩ := YY
              subst hT
              obtain rfl : Dd = [] := hd
              replace K := K.drewN 1
              replace hcI : (wr.drewN 1).cell? ⟨bI, m, none⟩ = _ := hcI
              replace hcO : (wr.drewN 1).cell? ⟨bO, m, none⟩ = _ := hcO
              clear hV
              by_cases ht : TJ = T
              · have ho := hsame ht
                rw [ht] at hcI
                rw [ho] at hcO
                clear hsame hclash ht ho
                go_wp2
                go_roundw
                case rel => exact ⟨m + 1, by omega, by go_num, K⟩
                case measure => simp [intOf]; omega
              · have n1 := ne7 ht
                have n2 := beq7 ht
                clear hsame hclash
                go_wp2
                go_roundw
                case rel => exact ⟨m + 1, by omega, by go_num, K⟩
                case measure => simp [intOf]; omega
          · have lm : ¬ (m : Int) < (L.length : Int) := by have := HLk.out; omega
            obtain rfl : m = k := by omega
            have hO15 : O.length ≤ 15 := by have := HKP.out.len; omega
            have hL15 : L.length ≤ 15 := by have := HLk.out; omega
            have KX := K.alloc (.cells #[.string T] 9)
            have iX : Is (wr.alloc (.cells #[.string T] 9)) wr.heap.size 9 #[.string T] := Is.new _ _ _
            have oneT : ∀ u ∈ (#[.string T] : Array Value).toList, u.oneCell' = true := fun u hu => by simp only [List.mem_cons, List.not_mem_nil, or_false] at hu; subst hu; rfl
            have oneS : ∀ u ∈ (#[.string s] : Array Value).toList, u.oneCell' = true := fun u hu => by simp only [List.mem_cons, List.not_mem_nil, or_false] at hu; subst hu; rfl
            go_wp2_with (first | (at_builtin; refine wpList_pushA rfl _ _ 41 9 i0 (.string ⟨#[]⟩) 1 16 rfl Try.underlying41 hi0 hz0 hz1 hz2 rfl (by decide) w.heap.size AI cI L.length _ KX.rI wr.heap.size 9 #[.string T] iX rfl oneT (by unfold maxLen; omega) (by omega) ⟨rfl, rfl⟩ KX.hB.size ?_; intro B1 b1 Y1 rr1 gg1 tt1; have KY := (KX.pushI rr1 gg1 tt1).alloc (.cells #[.string s] 9); have iY : Is (Y1.alloc (.cells #[.string s] 9)) Y1.heap.size 9 #[.string s] := Is.new _ _ _) | (at_builtin; refine wpList_pushA rfl _ _ 41 9 i0 (.string ⟨#[]⟩) 1 16 rfl Try.underlying41 hi0 hz0 hz1 hz2 rfl (by decide) w.heap.size AO cO O.length _ KY.rO Y1.heap.size 9 #[.string s] iY rfl oneS (by unfold maxLen; omega) (by omega) ⟨rfl, rfl⟩ KY.hB.size ?_; intro B2 b2 Y2 rr2 gg2 tt2; have KZ := KY.pushO rr2 gg2 tt2))
            go_roundw
            case rel =>
              have hst : Kst8 w Y2 DA B (qs8 R) (m + 1) (.slice B1 (L ++ [T]).length b1) (.slice B2 (O ++ [s]).length b2) := ⟨d', L ++ [T], O ++ [s], F1, f1, F2, f2, B1, b1, B2, b2, HF.out, HKP.out.step HQ.out HA.out, by rw [HL.out, txts_succ8 HQ.out, HT.out], by rw [List.length_append, HLk.out]; rfl, rfl, rfl, KZ⟩
              rw [List.length_append, List.length_append] at hst
              exact ⟨m + 1, by omega, by omega, by go_num, hst⟩
            case measure => simp [intOf]; omega
      · clear hX
        have hq : que8 n.1 n.2.1 n.2.2 = .cel lb tx := by rw [que8, if_neg hz, hlb, htx]
        rw [hq] at hask HQ
        clear hq
        have hask2 : sea8 d (label8 n.2.1) (text8 n.2.2) = (s, d', 0) := by rw [hlb, htx]; exact hask
        have HA : Hid (ask8 d (.cel lb tx) = (s, d', 0)) := Lib.hid hask
        have hlz : lb.size = 16 := by rw [← hlb]; exact label8_size _
        obtain ⟨x, er, hop⟩ : ∃ x er, ope8 d' lb s = (x, er) := ⟨_, _, rfl⟩
        have hof := ope8_found HRI.out (Kp8.now HA.out)
        rw [hop] at hof
        obtain ⟨her, hx⟩ := hof
        have her2 : er = 0 := her
        subst her2
        clear her
        obtain ⟨T, hT0⟩ : ∃ T, (Q8.cel lb tx).txt = T := ⟨_, rfl⟩
        have HT := Lib.hid hT0
        have HU := Lib.hid (fun W => txt_index (.cel lb tx) W)
        have HLB := Lib.hid (fun W => txt_lab lb tx hlz W)
        rw [hT0] at HU HLB
        have hT1 : (⟨#[99]⟩ ++ lb ++ tx : ByteArray) = T := hT0
        have HOP := Lib.hid hop
        have HX := Lib.hid hx
        generalize pickN n.1 2 = p2 at *
        clear hask hT0 hlz hop hx
        replace P2 := Lib.hid P2
        refine (P2.out _).mono ?_
        rintro e w' ⟨rfl, rfl⟩
        clear P2
        go_wp2
        refine Code.wp_mono ?_ (keeps_txt n hnb.out lb tx hlb htx _ _ iN _ _ _ _ _ _ _ _ _ _ _ _ _ _ _ _ _ _ _ _ _ _ _ _ _ _ _ _ _ _ _ _ _ _ _ _ _ _ _ _ _ _ _ _ _ _ _ _ _ _ _ _ _ _ _ _ _ _ _ _ _ _ _ _ _ _ _ _ _ _ _ _ _ _ _ _ _ _ _ _ _ _ _ _ _ _ _ _ _ _ _ _ _ _ _ _ _ _ _ _ _ _ _ _ _ _ _ _ _ _ _ _ _ _ _ _ _ _ _ _ _ _ _ _ _ _ _ _ _ _ _ _ _ _ _ _ _ _ _ _ _ _ _ _ _ _ _ _ _ _ _ _ _ _ _ _ _ _ _ _ _ _ _ _ _ _ _ _ _ _ _ _ _ _ _ _ _ _ _ _ _ _ _ _ _ _ _ _)
        rintro e YY V3 ⟨rfl, hd, _, hT, hZ, iN⟩
        obtain ⟨T0, Dd⟩ := YY
        subst hT
        obtain rfl : Dd = [] := hd
        replace K := K.below hZ
        clear hZ
        rw [hT1]
        clear hT1
        go_wp2
        refine Code.wp_mono ?_ (keeps_sea n hnb.out d d' s A1 c1 A2 c2 DA _ w _ hNA hDA hask2 K.hB K.iA iN K.nA _ _ _ _ _ _ _ _ _ _ _ _ _ _ _ _ _ _ _ _ _ _ _ _ _ _ _ _ _ _ _ _ _ _ _ _ _ _ _ _ _ _ _ _ _ _ _ _ _ _ _ _ _ _ _ _ _ _ _ _ _ _ _ _ _ _ _ _ _ _ _ _ _ _ _ _ _ _ _ _ _ _ _ _ _ _ _ _ _ _ _ _ _ _ _ _ _ _ _ _ _ _ _ _ _ _ _ _ _ _ _ _ _ _ _ _ _ _ _ _ _ _ _ _ _ _ _ _ _ _ _ _ _ _ _ _ _ _ _ _ _ _ _ _ _ _ _ _ _ _ _ _ _ _ _ _ _ _ _ _ _ _ _ _ _ _ _ _ _ _ _ _ _ _ _ _ _ _ _ _ _ _ _ _ _ _ _)
        rintro e YY V4 ⟨rfl, hd, F1, f1, F2, f2, hT, hB, iA, iN, nA, hG, o1, o2⟩
        obtain ⟨T0, Dd⟩ := YY
        subst hT
        obtain rfl : Dd = [] := hd
        replace K := K.ask hB iA nA hG o1 o2
        clear hB iA nA hG o1 o2 hask2
        go_wp2
        refine Code.wp_mono ?_ (keeps_open n hnb.out lb hlb d' s x 0 HOP.out F1 f1 F2 f2 DA _ _ iN K.iA K.nA _ _ _ _ _ _ _ _ _ _ _ _ _ _ _ _ _ _ _ _ _ _ _ _ _ _ _ _ _ _ _ _ _ _ _ _ _ _ _ _ _ _ _ _ _ _ _ _ _ _ _ _ _ _ _ _ _ _ _ _ _ _ _ _ _ _ _ _ _ _ _ _ _ _ _ _ _ _ _ _ _ _ _ _ _ _ _ _ _ _ _ _ _ _ _ _ _ _ _ _ _ _ _ _ _ _ _ _ _ _ _ _ _ _ _ _ _ _ _ _ _ _ _ _ _ _ _ _ _ _ _ _ _ _ _ _ _ _ _ _ _ _ _ _ _ _ _ _ _ _ _ _ _ _ _ _ _ _ _ _ _ _ _ _ _ _ _ _ _ _ _ _ _ _ _ _ _ _ _ _ _ _ _ _ _ _)
        rintro e YY V5 ⟨rfl, hd, _, hT, hZ, iN, _, _⟩
        obtain ⟨T0, Dd⟩ := YY
        subst hT
        obtain rfl : Dd = [] := hd
        replace K := K.below hZ
        clear hZ
        have cA4 : V5.cell? ⟨DA, 4, none⟩ = some (.bool d'.c) := K.iA.cell 4
        have cN2 : V5.cell? ⟨wr.heap.size, 2, none⟩ = some (.int .i64 n.2.2) := iN.cell 2
        have TX := Lib.hid (fun w => qtext_any n.2.2 w hnb.out.2.2)
        rw [htx] at TX
        cases hcc : d'.c with
        | true =>
          rw [hcc] at cA4
          have RT := Lib.hid (fun W (h : InI W d' F1 f1 F2 f2) => right_any d' F1 f1 F2 f2 W h)
          rw [HRT.out] at RT
          have iA := K.iA
          go_wp2_with (refine wpList_load_rowG (by kernel_rfl) 30 _ rfl DA rfl 30 _ iA Try.underlying30 rfl infoIde ?_)
          clear iA
          refine (RT.out _ K.nA).mono ?_
          rintro e VR ⟨rfl, hb⟩
          replace K := K.below hb
          clear hb RT
          go_wp2
          go_loopw [18] (fun j wr => ∃ m : Nat, m ≤ k ∧ j = .int .i64 (m : Int) ∧ KIn8 w wr DA d' F1 f1 F2 f2 AI cI AO cO L O) (fun j _ => k - (intOf j).toNat)
          case atStart => exact ⟨0, by omega, rfl, K⟩
          case round =>
            clear K
            obtain ⟨m, hm, rfl, K⟩ := hrel
            by_cases hlm : m < k
            · have lm : (m : Int) < (L.length : Int) := by have := HLk.out; omega
              have lm2 : (m : Int) < (O.length : Int) := by have := HKP.out.len; omega
              have w6i := IntWalk.i64_in ((m : Int) + 1) (by omega)
              obtain ⟨qj, hqj⟩ : ∃ q, (qs8 R)[m]? = some q := ⟨_, List.getElem?_eq_getElem (by have := (List.getElem?_eq_some_iff.1 HQ.out).1; omega)⟩
              obtain ⟨oj, hoj⟩ : ∃ o, O[m]? = some o := ⟨_, List.getElem?_eq_getElem (by have := HKP.out.len; omega)⟩
              have hjI : L[m]? = some qj.txt := by rw [HL.out]; exact txts_at8 hqj hlm
              obtain ⟨bI, hAI, hcI⟩ := K.atI hjI
              obtain ⟨bO, hAO, hcO⟩ := K.atO hoj
              subst hAI
              subst hAO
              have hk1 := HKP.out.old HA.out hqj hoj
              have hk2 := Kp8.now HA.out
              have hok1 := qs8_ok R qj (List.mem_of_getElem? hqj)
              have hok2 := qs8_ok R _ (List.mem_of_getElem? HQ.out)
              have hsame : qj.txt = T → oj = s := fun e => kno8_one HRI.out (by rw [txt_inj8 hok1 hok2 (e.trans HT.out.symm)] at hk1; exact hk1) hk2
              have hclash : kin8 qj (.cel lb tx) → qj.txt ≠ T → oj = s → d'.c = true := fun h1 h2 h3 => by subst h3; exact kno8_clash HRI.out hk1 hk2 h1 (fun e => h2 (by rw [e]; exact HT.out))
              clear hk1 hk2 hjI
              obtain ⟨TJ, hTJ⟩ : ∃ T, qj.txt = T := ⟨_, rfl⟩
              rw [hTJ] at hcI hsame hclash
              cases qj with
              | nam i =>
                have hV := Lib.hid (fun W => txt_index (.nam i) W)
                rw [hTJ] at hV
                clear hTJ
                go_wp2
                refine Code.wp_mono ?_ (kin_nc T _ bI cI m L.length _ hcI lm hV HU _ _ _ _ _ _ _ _ _ _ _ _ _ _ _ _ _ _ _ _ _ _ _ _ _ _ _ _ _ _ _ _ _ _ _ _ _ _ _ _ _ _ _ _ _ _ _ _ _ _ _ _ _ _ _ _ _ _ _ _ _ _ _ _ _ _ _ _ _ _ _ _ _ _ _ _ _ _ _ _ _ _ _ _ _ _ _ _ _ _ _ _ _ _ _ _ _ _ _ _ _ _ _ _ _ _ _ _ _ _ _ _ _ _ _ _ _ _ _ _ _ _ _ _ _ _ _ _ _ _ _ _ _ _ _ _ _ _ _ _ _ _ _ _ _ _ _ _ _ _ _ _ _ _ _ _ _ _ _ _ _ _ _ _ _ _ _ _ _ _ _ _ _ _ _ _ _ _ _ _ _ _ _ _ _ _)
                rintro e YY W1 ⟨rfl, hd, hT, rfl⟩
                obtain ⟨T, Dd⟩ := YY
                subst hT
                obtain rfl : Dd = [] := hd
                replace K := K.drewN 1
                replace hcI : (wr.drewN 1).cell? ⟨bI, m, none⟩ = _ := hcI
                replace hcO : (wr.drewN 1).cell? ⟨bO, m, none⟩ = _ := hcO
                clear hV
                by_cases ht : TJ = T
                · have ho := hsame ht
                  rw [ht] at hcI
                  rw [ho] at hcO
                  clear hsame hclash ht ho
                  go_wp2
                  go_roundw
                  case rel => exact ⟨m + 1, by omega, by go_num, K⟩
                  case measure => simp [intOf]; omega
                · have n1 := ne7 ht
                  have n2 := beq7 ht
                  clear hsame hclash
                  go_wp2
                  go_roundw
                  case rel => exact ⟨m + 1, by omega, by go_num, K⟩
                  case measure => simp [intOf]; omega
              | cel l t =>
                have hV := Lib.hid (fun W => txt_index (.cel l t) W)
                rw [hTJ] at hV
                have hl1 := Lib.hid (fun W => txt_lab l t hok1.1 W)
                rw [hTJ] at hl1
                clear hTJ
                by_cases hll : l = lb
                · subst hll
                  have hkin : kin8 (.cel l t) (.cel l tx) := rfl
                  go_wp2
                  refine Code.wp_mono ?_ (kin_cs T _ l bI cI m L.length _ hcI lm hV HU hl1 HLB _ _ _ _ _ _ _ _ _ _ _ _ _ _ _ _ _ _ _ _ _ _ _ _ _ _ _ _ _ _ _ _ _ _ _ _ _ _ _ _ _ _ _ _ _ _ _ _ _ _ _ _ _ _ _ _ _ _ _ _ _ _ _ _ _ _ _ _ _ _ _ _ _ _ _ _ _ _ _ _ _ _ _ _ _ _ _ _ _ _ _ _ _ _ _ _ _ _ _ _ _ _ _ _ _ _ _ _ _ _ _ _ _ _ _ _ _ _ _ _ _ _ _ _ _ _ _ _ _ _ _ _ _ _ _ _ _ _ _ _ _ _ _ _ _ _ _ _ _ _ _ _ _ _ _ _ _ _ _ _ _ _ _ _ _ _ _ _ _ _ _ _ _ _ _ _ _ _ _ _ _ _ _ _ _ _)
                  rintro e YY W1 ⟨rfl, hd, hT, rfl⟩
                  obtain ⟨T, Dd⟩ := YY
                  subst hT
                  obtain rfl : Dd = [] := hd
                  replace K := K.drewN 1
                  replace hcI : (wr.drewN 1).cell? ⟨bI, m, none⟩ = _ := hcI
                  replace hcO : (wr.drewN 1).cell? ⟨bO, m, none⟩ = _ := hcO
                  clear hV
                  by_cases ht : TJ = T
                  · have ho := hsame ht
                    rw [ht] at hcI
                    rw [ho] at hcO
                    clear hsame hclash ht ho
                    go_wp2
                    go_roundw
                    case rel => exact ⟨m + 1, by omega, by go_num, K⟩
                    case measure => simp [intOf]; omega
                  · have n1 := ne7 ht
                    have n2 := beq7 ht
                    by_cases ho : oj = s
                    · have hc4 := hclash hkin ht ho
                      have cA4 : (wr.drewN 1).cell? ⟨DA, 4, none⟩ = some (.bool d'.c) := K.iA.cell 4
                      rw [hc4] at cA4
                      rw [ho] at hcO
                      clear hsame hclash ht hc4 ho
                      go_wp2
                      go_roundw
                      case rel => exact ⟨m + 1, by omega, by go_num, K⟩
                      case measure => simp [intOf]; omega
                    · have n3 := ne7 ho
                      have n4 := beq7 ho
                      clear hsame hclash ht
                      go_wp2
                      go_roundw
                      case rel => exact ⟨m + 1, by omega, by go_num, K⟩
                      case measure => simp [intOf]; omega
                · go_wp2
                  refine Code.wp_mono ?_ (kin_cd T _ l lb bI cI m L.length _ hcI lm hV HU hl1 HLB hll _ _ _ _ _ _ _ _ _ _ _ _ _ _ _ _ _ _ _ _ _ _ _ _ _ _ _ _ _ _ _ _ _ _ _ _ _ _ _ _ _ _ _ _ _ _ _ _ _ _ _ _ _ _ _ _ _ _ _ _ _ _ _ _ _ _ _ _ _ _ _ _ _ _ _ _ _ _ _ _ _ _ _ _ _ _ _ _ _ _ _ _ _ _ _ _ _ _ _ _ _ _ _ _ _ _ _ _ _ _ _ _ _ _ _ _ _ _ _ _ _ _ _ _ _ _ _ _ _ _ _ _ _ _ _ _ _ _ _ _ _ _ _ _ _ _ _ _ _ _ _ _ _ _ _ _ _ _ _ _ _ _ _ _ _ _ _ _ _ _ _ _ _ _ _ _ _ _ _ _ _ _ _ _ _ _)
                  rintro e YY W1 ⟨rfl, hd, hT, rfl⟩
                  obtain ⟨T, Dd⟩ := YY
                  subst hT
                  obtain rfl : Dd = [] := hd
                  replace K := K.drewN 1
                  replace hcI : (wr.drewN 1).cell? ⟨bI, m, none⟩ = _ := hcI
                  replace hcO : (wr.drewN 1).cell? ⟨bO, m, none⟩ = _ := hcO
                  clear hV
                  by_cases ht : TJ = T
                  · have ho := hsame ht
                    rw [ht] at hcI
                    rw [ho] at hcO
                    clear hsame hclash ht ho
                    go_wp2
                    go_roundw
                    case rel => exact ⟨m + 1, by omega, by go_num, K⟩
                    case measure => simp [intOf]; omega
                  · have n1 := ne7 ht
                    have n2 := beq7 ht
                    clear hsame hclash
                    go_wp2
                    go_roundw
                    case rel => exact ⟨m + 1, by omega, by go_num, K⟩
                    case measure => simp [intOf]; omega
            · have lm : ¬ (m : Int) < (L.length : Int) := by have := HLk.out; omega
              obtain rfl : m = k := by omega
              have hO15 : O.length ≤ 15 := by have := HKP.out.len; omega
              have hL15 : L.length ≤ 15 := by have := HLk.out; omega
              have KX := K.alloc (.cells #[.string T] 9)
              have iX : Is (wr.alloc (.cells #[.string T] 9)) wr.heap.size 9 #[.string T] := Is.new _ _ _
              have oneT : ∀ u ∈ (#[.string T] : Array Value).toList, u.oneCell' = true := fun u hu => by simp only [List.mem_cons, List.not_mem_nil, or_false] at hu; subst hu; rfl
              have oneS : ∀ u ∈ (#[.string s] : Array Value).toList, u.oneCell' = true := fun u hu => by simp only [List.mem_cons, List.not_mem_nil, or_false] at hu; subst hu; rfl
              go_wp2_with (first | (at_builtin; refine wpList_pushA rfl _ _ 41 9 i0 (.string ⟨#[]⟩) 1 16 rfl Try.underlying41 hi0 hz0 hz1 hz2 rfl (by decide) w.heap.size AI cI L.length _ KX.rI wr.heap.size 9 #[.string T] iX rfl oneT (by unfold maxLen; omega) (by omega) ⟨rfl, rfl⟩ KX.hB.size ?_; intro B1 b1 Y1 rr1 gg1 tt1; have KY := (KX.pushI rr1 gg1 tt1).alloc (.cells #[.string s] 9); have iY : Is (Y1.alloc (.cells #[.string s] 9)) Y1.heap.size 9 #[.string s] := Is.new _ _ _) | (at_builtin; refine wpList_pushA rfl _ _ 41 9 i0 (.string ⟨#[]⟩) 1 16 rfl Try.underlying41 hi0 hz0 hz1 hz2 rfl (by decide) w.heap.size AO cO O.length _ KY.rO Y1.heap.size 9 #[.string s] iY rfl oneS (by unfold maxLen; omega) (by omega) ⟨rfl, rfl⟩ KY.hB.size ?_; intro B2 b2 Y2 rr2 gg2 tt2; have KZ := KY.pushO rr2 gg2 tt2))
              go_roundw
              case rel =>
                have hst : Kst8 w Y2 DA B (qs8 R) (m + 1) (.slice B1 (L ++ [T]).length b1) (.slice B2 (O ++ [s]).length b2) := ⟨d', L ++ [T], O ++ [s], F1, f1, F2, f2, B1, b1, B2, b2, HF.out, HKP.out.step HQ.out HA.out, by rw [HL.out, txts_succ8 HQ.out, HT.out], by rw [List.length_append, HLk.out]; rfl, rfl, rfl, KZ⟩
                rw [List.length_append, List.length_append] at hst
                exact ⟨m + 1, by omega, by omega, by go_num, hst⟩
              case measure => simp [intOf]; omega
        | false =>
          rw [hcc] at cA4
          have hxt := HX.out hcc
          change x = tx at hxt
          rw [hxt]
          go_wp2_with fail
          refine (TX.out _).mono ?_
          rintro e V6 ⟨rfl, hb⟩
          replace K := K.below hb
          clear hb cA4 cN2 TX iN hxt
          have RT := Lib.hid (fun W (h : InI W d' F1 f1 F2 f2) => right_any d' F1 f1 F2 f2 W h)
          rw [HRT.out] at RT
          have iA := K.iA
          go_wp2_with (refine wpList_load_rowG (by kernel_rfl) 30 _ rfl DA rfl 30 _ iA Try.underlying30 rfl infoIde ?_)
          clear iA
          refine (RT.out _ K.nA).mono ?_
          rintro e VR ⟨rfl, hb⟩
          replace K := K.below hb
          clear hb RT
          go_wp2
          go_loopw [18] (fun j wr => ∃ m : Nat, m ≤ k ∧ j = .int .i64 (m : Int) ∧ KIn8 w wr DA d' F1 f1 F2 f2 AI cI AO cO L O) (fun j _ => k - (intOf j).toNat)
          case atStart => exact ⟨0, by omega, rfl, K⟩
          case round =>
            clear K
            obtain ⟨m, hm, rfl, K⟩ := hrel
            by_cases hlm : m < k
            · have lm : (m : Int) < (L.length : Int) := by have := HLk.out; omega
              have lm2 : (m : Int) < (O.length : Int) := by have := HKP.out.len; omega
              have w6i := IntWalk.i64_in ((m : Int) + 1) (by omega)
              obtain ⟨qj, hqj⟩ : ∃ q, (qs8 R)[m]? = some q := ⟨_, List.getElem?_eq_getElem (by have := (List.getElem?_eq_some_iff.1 HQ.out).1; omega)⟩
              obtain ⟨oj, hoj⟩ : ∃ o, O[m]? = some o := ⟨_, List.getElem?_eq_getElem (by have := HKP.out.len; omega)⟩
              have hjI : L[m]? = some qj.txt := by rw [HL.out]; exact txts_at8 hqj hlm
              obtain ⟨bI, hAI, hcI⟩ := K.atI hjI
              obtain ⟨bO, hAO, hcO⟩ := K.atO hoj
              subst hAI
              subst hAO
              have hk1 := HKP.out.old HA.out hqj hoj
              have hk2 := Kp8.now HA.out
              have hok1 := qs8_ok R qj (List.mem_of_getElem? hqj)
              have hok2 := qs8_ok R _ (List.mem_of_getElem? HQ.out)
              have hsame : qj.txt = T → oj = s := fun e => kno8_one HRI.out (by rw [txt_inj8 hok1 hok2 (e.trans HT.out.symm)] at hk1; exact hk1) hk2
              have hclash : kin8 qj (.cel lb tx) → qj.txt ≠ T → oj = s → d'.c = true := fun h1 h2 h3 => by subst h3; exact kno8_clash HRI.out hk1 hk2 h1 (fun e => h2 (by rw [e]; exact HT.out))
              clear hk1 hk2 hjI
              obtain ⟨TJ, hTJ⟩ : ∃ T, qj.txt = T := ⟨_, rfl⟩
              rw [hTJ] at hcI hsame hclash
              cases qj with
              | nam i =>
                have hV := Lib.hid (fun W => txt_index (.nam i) W)
                rw [hTJ] at hV
                clear hTJ
                go_wp2
                refine Code.wp_mono ?_ (kin_nc T _ bI cI m L.length _ hcI lm hV HU _ _ _ _ _ _ _ _ _ _ _ _ _ _ _ _ _ _ _ _ _ _ _ _ _ _ _ _ _ _ _ _ _ _ _ _ _ _ _ _ _ _ _ _ _ _ _ _ _ _ _ _ _ _ _ _ _ _ _ _ _ _ _ _ _ _ _ _ _ _ _ _ _ _ _ _ _ _ _ _ _ _ _ _ _ _ _ _ _ _ _ _ _ _ _ _ _ _ _ _ _ _ _ _ _ _ _ _ _ _ _ _ _ _ _ _ _ _ _ _ _ _ _ _ _ _ _ _ _ _ _ _ _ _ _ _ _ _ _ _ _ _ _ _ _ _ _ _ _ _ _ _ _ _ _ _ _ _ _ _ _ _ _ _ _ _ _ _ _ _ _ _ _ _ _ _ _ _ _ _ _ _ _ _ _ _)
                rintro e YY W1 ⟨rfl, hd, hT, rfl⟩
                obtain ⟨T, Dd⟩ := YY
                subst hT
                obtain rfl : Dd = [] := hd
                replace K := K.drewN 1
                replace hcI : (wr.drewN 1).cell? ⟨bI, m, none⟩ = _ := hcI
                replace hcO : (wr.drewN 1).cell? ⟨bO, m, none⟩ = _ := hcO
                clear hV
                by_cases ht : TJ = T
                · have ho := hsame ht
                  rw [ht] at hcI
                  rw [ho] at hcO
                  clear hsame hclash ht ho
                  go_wp2
                  go_roundw
                  case rel => exact ⟨m + 1, by omega, by go_num, K⟩
                  case measure => simp [intOf]; omega
                · have n1 := ne7 ht
                  have n2 := beq7 ht
                  clear hsame hclash
                  go_wp2
                  go_roundw
                  case rel => exact ⟨m + 1, by omega, by go_num, K⟩
                  case measure => simp [intOf]; omega
              | cel l t =>
                have hV := Lib.hid (fun W => txt_index (.cel l t) W)
                rw [hTJ] at hV
                have hl1 := Lib.hid (fun W => txt_lab l t hok1.1 W)
                rw [hTJ] at hl1
                clear hTJ
                by_cases hll : l = lb
                · subst hll
                  have hkin : kin8 (.cel l t) (.cel l tx) := rfl
                  go_wp2
                  refine Code.wp_mono ?_ (kin_cs T _ l bI cI m L.length _ hcI lm hV HU hl1 HLB _ _ _ _ _ _ _ _ _ _ _ _ _ _ _ _ _ _ _ _ _ _ _ _ _ _ _ _ _ _ _ _ _ _ _ _ _ _ _ _ _ _ _ _ _ _ _ _ _ _ _ _ _ _ _ _ _ _ _ _ _ _ _ _ _ _ _ _ _ _ _ _ _ _ _ _ _ _ _ _ _ _ _ _ _ _ _ _ _ _ _ _ _ _ _ _ _ _ _ _ _ _ _ _ _ _ _ _ _ _ _ _ _ _ _ _ _ _ _ _ _ _ _ _ _ _ _ _ _ _ _ _ _ _ _ _ _ _ _ _ _ _ _ _ _ _ _ _ _ _ _ _ _ _ _ _ _ _ _ _ _ _ _ _ _ _ _ _ _ _ _ _ _ _ _ _ _ _ _ _ _ _ _ _ _ _)
                  rintro e YY W1 ⟨rfl, hd, hT, rfl⟩
                  obtain ⟨T, Dd⟩ := YY
                  subst hT
                  obtain rfl : Dd = [] := hd
                  replace K := K.drewN 1
                  replace hcI : (wr.drewN 1).cell? ⟨bI, m, none⟩ = _ := hcI
                  replace hcO : (wr.drewN 1).cell? ⟨bO, m, none⟩ = _ := hcO
                  clear hV
                  by_cases ht : TJ = T
                  · have ho := hsame ht
                    rw [ht] at hcI
                    rw [ho] at hcO
                    clear hsame hclash ht ho
                    go_wp2
                    go_roundw
                    case rel => exact ⟨m + 1, by omega, by go_num, K⟩
                    case measure => simp [intOf]; omega
                  · have n1 := ne7 ht
                    have n2 := beq7 ht
                    by_cases ho : oj = s
                    · have hc4 := hclash hkin ht ho
                      have cA4 : (wr.drewN 1).cell? ⟨DA, 4, none⟩ = some (.bool d'.c) := K.iA.cell 4
                      rw [hc4] at cA4
                      rw [ho] at hcO
                      clear hsame hclash ht hc4 ho
                      go_wp2
                      go_roundw
                      case rel => exact ⟨m + 1, by omega, by go_num, K⟩
                      case measure => simp [intOf]; omega
                    · have n3 := ne7 ho
                      have n4 := beq7 ho
                      clear hsame hclash ht
                      go_wp2
                      go_roundw
                      case rel => exact ⟨m + 1, by omega, by go_num, K⟩
                      case measure => simp [intOf]; omega
                · go_wp2
                  refine Code.wp_mono ?_ (kin_cd T _ l lb bI cI m L.length _ hcI lm hV HU hl1 HLB hll _ _ _ _ _ _ _ _ _ _ _ _ _ _ _ _ _ _ _ _ _ _ _ _ _ _ _ _ _ _ _ _ _ _ _ _ _ _ _ _ _ _ _ _ _ _ _ _ _ _ _ _ _ _ _ _ _ _ _ _ _ _ _ _ _ _ _ _ _ _ _ _ _ _ _ _ _ _ _ _ _ _ _ _ _ _ _ _ _ _ _ _ _ _ _ _ _ _ _ _ _ _ _ _ _ _ _ _ _ _ _ _ _ _ _ _ _ _ _ _ _ _ _ _ _ _ _ _ _ _ _ _ _ _ _ _ _ _ _ _ _ _ _ _ _ _ _ _ _ _ _ _ _ _ _ _ _ _ _ _ _ _ _ _ _ _ _ _ _ _ _ _ _ _ _ _ _ _ _ _ _ _ _ _ _ _)
                  rintro e YY W1 ⟨rfl, hd, hT, rfl⟩
                  obtain ⟨T, Dd⟩ := YY
                  subst hT
                  obtain rfl : Dd = [] := hd
                  replace K := K.drewN 1
                  replace hcI : (wr.drewN 1).cell? ⟨bI, m, none⟩ = _ := hcI
                  replace hcO : (wr.drewN 1).cell? ⟨bO, m, none⟩ = _ := hcO
                  clear hV
                  by_cases ht : TJ = T
                  · have ho := hsame ht
                    rw [ht] at hcI
                    rw [ho] at hcO
                    clear hsame hclash ht ho
                    go_wp2
                    go_roundw
                    case rel => exact ⟨m + 1, by omega, by go_num, K⟩
                    case measure => simp [intOf]; omega
                  · have n1 := ne7 ht
                    have n2 := beq7 ht
                    clear hsame hclash
                    go_wp2
                    go_roundw
                    case rel => exact ⟨m + 1, by omega, by go_num, K⟩
                    case measure => simp [intOf]; omega
            · have lm : ¬ (m : Int) < (L.length : Int) := by have := HLk.out; omega
              obtain rfl : m = k := by omega
              have hO15 : O.length ≤ 15 := by have := HKP.out.len; omega
              have hL15 : L.length ≤ 15 := by have := HLk.out; omega
              have KX := K.alloc (.cells #[.string T] 9)
              have iX : Is (wr.alloc (.cells #[.string T] 9)) wr.heap.size 9 #[.string T] := Is.new _ _ _
              have oneT : ∀ u ∈ (#[.string T] : Array Value).toList, u.oneCell' = true := fun u hu => by simp only [List.mem_cons, List.not_mem_nil, or_false] at hu; subst hu; rfl
              have oneS : ∀ u ∈ (#[.string s] : Array Value).toList, u.oneCell' = true := fun u hu => by simp only [List.mem_cons, List.not_mem_nil, or_false] at hu; subst hu; rfl
              go_wp2_with (first | (at_builtin; refine wpList_pushA rfl _ _ 41 9 i0 (.string ⟨#[]⟩) 1 16 rfl Try.underlying41 hi0 hz0 hz1 hz2 rfl (by decide) w.heap.size AI cI L.length _ KX.rI wr.heap.size 9 #[.string T] iX rfl oneT (by unfold maxLen; omega) (by omega) ⟨rfl, rfl⟩ KX.hB.size ?_; intro B1 b1 Y1 rr1 gg1 tt1; have KY := (KX.pushI rr1 gg1 tt1).alloc (.cells #[.string s] 9); have iY : Is (Y1.alloc (.cells #[.string s] 9)) Y1.heap.size 9 #[.string s] := Is.new _ _ _) | (at_builtin; refine wpList_pushA rfl _ _ 41 9 i0 (.string ⟨#[]⟩) 1 16 rfl Try.underlying41 hi0 hz0 hz1 hz2 rfl (by decide) w.heap.size AO cO O.length _ KY.rO Y1.heap.size 9 #[.string s] iY rfl oneS (by unfold maxLen; omega) (by omega) ⟨rfl, rfl⟩ KY.hB.size ?_; intro B2 b2 Y2 rr2 gg2 tt2; have KZ := KY.pushO rr2 gg2 tt2))
              go_roundw
              case rel =>
                have hst : Kst8 w Y2 DA B (qs8 R) (m + 1) (.slice B1 (L ++ [T]).length b1) (.slice B2 (O ++ [s]).length b2) := ⟨d', L ++ [T], O ++ [s], F1, f1, F2, f2, B1, b1, B2, b2, HF.out, HKP.out.step HQ.out HA.out, by rw [HL.out, txts_succ8 HQ.out, HT.out], by rw [List.length_append, HLk.out]; rfl, rfl, rfl, KZ⟩
                rw [List.length_append, List.length_append] at hst
                exact ⟨m + 1, by omega, by omega, by go_num, hst⟩
              case measure => simp [intOf]; omega
    · have hd : (¬ k < R.length) ∨ (k < R.length ∧ ¬ k < 15) := by omega
      have hB := K.hB
      clear K hkp hfro hLt HC HY
      rcases hd with l1 | ⟨l1, l2⟩
      · have l1' : ¬ (k : Int) < (R.length : Int) := by omega
        go_wp2
        go_ret
        exact ⟨rfl, hB⟩
      · have l1' : (k : Int) < (R.length : Int) := by omega
        have l2' : ¬ (k : Int) < 15 := by omega
        go_wp2
        go_ret
        exact ⟨rfl, hB⟩
end Go.Proofs.Ytdbdoammbnogaaa
