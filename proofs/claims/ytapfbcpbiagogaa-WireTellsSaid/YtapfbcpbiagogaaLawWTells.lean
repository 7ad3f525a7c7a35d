/-
  WireTells: the walk of the statement's function.
-/
import Derived.Test.YtapfbcpbiagogaaLWSR
import Derived.Test.YtapfbcpbiagogaaLawWBack
import Derived.Test.YtapfbcpbiagogaaGCo3
import Derived.Test.YtapfbcpbiagogaaWirO
import Derived.Test.YtapfbcpbiagogaaWirN
namespace Go.Proofs.Ytapfbcpbiagogaa
open Go.RowKit Go.Shelf

set_option maxRecDepth 100000 in
set_option maxHeartbeats 16000000 in
theorem wtells_walk (kind : Int) (A1 : Option Addr) (p1 : Nat) (R1 : List Int) (n0 n1 n2 : Int) (qk : Int) (QA : Option Addr) (qc : Nat) (L : List ByteArray) (QB : Option Addr) (qd : Nat) (C : List ByteArray) (ak ast : Int) (AC : Option Addr) (ac : Nat) (E : List ByteArray) (am ar : Int) (any : ByteArray) (at_ : Int) (w : World) (hk : -9223372036854775808 ≤ kind ∧ kind ≤ 9223372036854775807)
    (hm1 : R1.length ≤ maxLen) (hc1 : InV w A1 (iV11 R1)) (hb1 : Big11 R1) (ha : -9223372036854775808 ≤ n0 ∧ n0 ≤ 9223372036854775807) (hb : -9223372036854775808 ≤ n1 ∧ n1 ≤ 9223372036854775807) (hcc : -9223372036854775808 ≤ n2 ∧ n2 ≤ 9223372036854775807)
    (hL : L.length ≤ maxLen) (iL : InV w QA (tL10 L)) (hC : C.length ≤ maxLen) (iC : InV w QB (tL10 C)) (hE : E.length ≤ maxLen) (iE : InV w AC (tL10 E)) (_hany : any.size ≤ maxLen) (ho : -9223372036854775808 ≤ at_ ∧ at_ ≤ 9223372036854775807) :
    Calls Try.prog 3 #[.int .i64 kind, .slice A1 R1.length p1, .agg #[.int .i64 n0, .int .i64 n1, .int .i64 n2], .agg #[.int .i64 qk, .slice QA L.length qc, .slice QB C.length qd], .agg #[.int .i64 ak, .int .i64 ast, .slice AC E.length ac, .int .i64 am, .int .i64 ar], .string any, .int .i64 at_] w fun e w' => e = .returned (.bool true) ∧ Below w.heap.size w w' := by
  have AW := Lib.hid awake11_any
  have Q1 := Lib.hid (fun W h => qreq_any11 kind A1 p1 R1 W hk (by unfold maxLen at hm1; omega) hb1 h)
  have Q2 := Lib.hid (fun W h => qrsp_any11 kind n0 n1 n2 A1 p1 R1 W hk ha hb hcc (by unfold maxLen at hm1; omega) hb1 h)
  have PK := Lib.hid (fun (n : Nat) W (h : 0 < n ∧ n ≤ 100001) => pick11_any at_ (n : Int) W ho.1 ho.2 (by omega) (by omega))
  have r1 := req_right11 kind R1
  have r2 := resp_may11 kind n0 n1 n2 R1
  generalize req11 kind R1 = D1 at *
  generalize resp11 kind n0 n1 n2 R1 = D2 at *
  unfold maxLen at hL hC hE
  have HC1 := Lib.hid hc1
  have HIL := Lib.hid iL
  have HIC := Lib.hid iC
  have HIE := Lib.hid iE
  clear hc1 hb1 iL iC iE hm1
  obtain ⟨s1, l1, m1⟩ := load_short11 r1
  obtain ⟨v1, v2, v3, v4, l2, m2⟩ := may_sizes11 r2
  have s2 := rsp_size11 D2
  have EP1 := Lib.hid (fun A c B d W h h' => wenc_any11 D1.k A B c d D1.L D1.C W (by omega) (by omega) h h')
  have ED1 := Lib.hid (fun A c B d W h h' => denc_any11 D1.k A B c d D1.L D1.C W (by omega) (by omega) h h')
  have EP2 := Lib.hid (fun A c W h => wansw_any11 D2.k D2.st D2.many D2.room A c D2.C W (by omega) h)
  have ED2 := Lib.hid (fun A c W h => dansw_any11 D2.k D2.st D2.many D2.room A c D2.C W (by omega) h)
  rw [show encR11 ⟨D1.k, D1.L, D1.C⟩ = _ from enc_ok11 r1] at EP1 ED1
  rw [show answR11 ⟨D2.k, D2.st, D2.C, D2.many, D2.room⟩ = _ from answ_ok11 r2] at EP2 ED2
  have EP3 := Lib.hid (fun W h h' => wenc_any11 qk QA QB qc qd L C W (by omega) (by omega) h h')
  have ED3 := Lib.hid (fun W h h' => denc_any11 qk QA QB qc qd L C W (by omega) (by omega) h h')
  have EP4 := Lib.hid (fun W h => wansw_any11 ak ast am ar AC ac E W (by omega) h)
  have ED4 := Lib.hid (fun W h => dansw_any11 ak ast am ar AC ac E W (by omega) h)
  obtain ⟨v3t, e3t, h3t⟩ : ∃ v e, encR11 ⟨qk, L, C⟩ = .tuple #[.string v, .int .i64 e] := ⟨_, _, rfl⟩
  obtain ⟨v4t, e4t, h4t⟩ : ∃ v e, answR11 ⟨ak, ast, E, am, ar⟩ = .tuple #[.string v, .int .i64 e] := ⟨_, _, rfl⟩
  rw [h3t] at EP3 ED3
  rw [h4t] at EP4 ED4
  have hsz : (reqB11 D1).size ≤ 100000 := by omega
  have htz : (rspB11 D2).size ≤ 100000 := by omega
  generalize reqB11 D1 = s at *
  generalize rspB11 D2 = t at *
  have HS := Lib.hid hsz
  have HT := Lib.hid htz
  clear hsz htz s1 s2 m1 m2 v1 v2 v3 v4 r1 r2 h3t h4t
  go_enter Try.func3, Try.ntmps3
  go_wp2_with fail
  obtain ⟨W0, hW0⟩ : ∃ W0, W0 = (((w.alloc (.cells #[.int .i64 n0, .int .i64 n1, .int .i64 n2] 23)).alloc (.cells #[.int .i64 qk, .slice QA L.length qc, .slice QB C.length qd] 26)).alloc (.cells #[.int .i64 ak, .int .i64 ast, .slice AC E.length ac, .int .i64 am, .int .i64 ar] 28)) := ⟨_, rfl⟩
  have iN0 : Is W0 w.heap.size 23 #[.int .i64 n0, .int .i64 n1, .int .i64 n2] := by rw [hW0]; exact ((Is.new w 23 #[.int .i64 n0, .int .i64 n1, .int .i64 n2]).alloc _).alloc _
  have iq0 : Is W0 (w.heap.size + 1) 26 #[.int .i64 qk, .slice QA L.length qc, .slice QB C.length qd] := by
    have h := (Is.new (w.alloc (.cells #[.int .i64 n0, .int .i64 n1, .int .i64 n2] 23)) 26 #[.int .i64 qk, .slice QA L.length qc, .slice QB C.length qd]).alloc (.cells #[.int .i64 ak, .int .i64 ast, .slice AC E.length ac, .int .i64 am, .int .i64 ar] 28)
    rw [show (w.alloc (.cells #[.int .i64 n0, .int .i64 n1, .int .i64 n2] 23)).heap.size = w.heap.size + 1 by simp] at h
    rw [hW0]; exact h
  have ia0 : Is W0 (w.heap.size + 1 + 1) 28 #[.int .i64 ak, .int .i64 ast, .slice AC E.length ac, .int .i64 am, .int .i64 ar] := by
    have h := Is.new ((w.alloc (.cells #[.int .i64 n0, .int .i64 n1, .int .i64 n2] 23)).alloc (.cells #[.int .i64 qk, .slice QA L.length qc, .slice QB C.length qd] 26)) 28 #[.int .i64 ak, .int .i64 ast, .slice AC E.length ac, .int .i64 am, .int .i64 ar]
    rw [show ((w.alloc (.cells #[.int .i64 n0, .int .i64 n1, .int .i64 n2] 23)).alloc (.cells #[.int .i64 qk, .slice QA L.length qc, .slice QB C.length qd] 26)).heap.size = w.heap.size + 1 + 1 by simp] at h
    rw [hW0]; exact h
  have hB0 : Below w.heap.size w W0 := by
    have b1 := (Below.refl w.heap.size w).alloc (Nat.le_refl _) (.cells #[.int .i64 n0, .int .i64 n1, .int .i64 n2] 23)
    have b2 := b1.alloc b1.size (.cells #[.int .i64 qk, .slice QA L.length qc, .slice QB C.length qd] 26)
    rw [hW0]; exact b2.alloc b2.size _
  rw [← hW0]
  clear hW0
  generalize w.heap.size + 1 + 1 = ga at *
  generalize w.heap.size + 1 = gq at *
  refine (AW.out _).mono ?_
  rintro e W1 ⟨rfl, hb⟩
  have iN := iN0.below hb iN0.lt
  have iq := iq0.below hb iq0.lt
  have ia := ia0.below hb ia0.lt
  have hB := hB0.trans (hb.mono hB0.size)
  clear hb hB0 iN0 iq0 ia0 AW
  have c1 : W1.cell? ⟨gq, 1, none⟩ = some (.slice QA L.length qc) := iq.cell 1
  have c2 : W1.cell? ⟨gq, 2, none⟩ = some (.slice QB C.length qd) := iq.cell 2
  have c3 : W1.cell? ⟨ga, 2, none⟩ = some (.slice AC E.length ac) := ia.cell 2
  by_cases t1 : (20 : Int) < (L.length : Int)
  · go_wp2
    go_ret
    exact ⟨rfl, hB⟩
  by_cases t2 : (20 : Int) < (C.length : Int)
  · go_wp2
    go_ret
    exact ⟨rfl, hB⟩
  by_cases t3 : (20 : Int) < (E.length : Int)
  · go_wp2
    go_ret
    exact ⟨rfl, hB⟩
  go_wp2
  clear t1 t2 t3 c1 c2 c3
  refine Code.wp_mono ?_ (tells11_req W1 gq kind A1 R1.length p1 qk QA QB L.length C.length qc qd D1 (Lib.hid fun W h => Q1.out _ (HC1.out.keep (hB.trans (h.mono hB.size)))) iq _ _ _ _ _ _ _ _ _ _ _ _ _ _ _ _ _ _ _ _ _ _ _ _ _ _ _ _ _ _ _ _ _ _ _ _ _ _ _ _ _ _ _ _ _ _ _ _ _ _ _ _ _ _ _ _ _ _ _ _ _ _ _ _ _ _ _ _ _ _ _ _ _ _ _ _ _ _ _ _ _ _ _ _ _ _ _ _ _ _ _ _ _ _ _ _ _ _ _ _ _ _ _ _ _ _ _ _ _ _ _ _ _ _ _ _ _ _ _ _ _ _ _ _ _ _ _ _ _ _ _ _ _ _ _ _ _ _ _ _ _ _ _ _ _ _ _ _ _ _ _ _ _ _ _ _ _ _ _ _ _ _ _ _ _ _ _ _ _ _ _ _ _ _ _ _ _ _ _ _ _ _ _ _ _ _ _ _ _ _ _ _ _ _ _ _ _ _ _ _ _ _ _ _ _ _ _ _ _ _ _ _ _ _ _ _ _ _ _ _ _ _ _ _ _ _ _ _ _ _ _ _ _ _ _ _ _ _ _ _ _ _ _ _ _ _)
  rintro ex ⟨T, Ds⟩ W2 ⟨rfl, hD, B1, d1, B2, d2, DD, hT, hb, j1, j2, iD⟩
  simp only at hT hD
  subst hT
  subst hD
  have iN := iN.below hb iN.lt
  have ia := ia.below hb ia.lt
  have hB := hB.trans (hb.mono hB.size)
  clear hb iq
  have IN := Lib.hid iN
  have IA := Lib.hid ia
  have ID := Lib.hid iD
  have J1 := Lib.hid j1
  have J2 := Lib.hid j2
  have HB := Lib.hid hB
  clear iN ia iD j1 j2 hB
  go_wp2
  go_loopw [74] (fun i wr => ∃ j : Nat, j ≤ 2 ∧ i = .int .i64 (j : Int) ∧ Is wr DD 26 #[.int .i64 D1.k, .slice B1 D1.L.length d1, .slice B2 D1.C.length d2, .int .i64 qk, .slice QA L.length qc, .slice QB C.length qd] ∧ Is wr w.heap.size 23 #[.int .i64 n0, .int .i64 n1, .int .i64 n2] ∧ Is wr ga 28 #[.int .i64 ak, .int .i64 ast, .slice AC E.length ac, .int .i64 am, .int .i64 ar] ∧ InV wr B1 (tL10 D1.L) ∧ InV wr B2 (tL10 D1.C) ∧ Below w.heap.size w wr) (fun i _ => 2 - (intOf i).toNat)
  case atStart => exact ⟨0, by omega, rfl, ID.out, IN.out, IA.out, J1.out, J2.out, HB.out⟩
  case round =>
    obtain ⟨j, hj, rfl, iD, iN, ia, j1, j2, hB⟩ := hrel
    by_cases hlt : j < 2
    · obtain rfl | rfl : j = 0 ∨ j = 1 := by omega
      · have k0 : wr.cell? ⟨DD, 0, none⟩ = some (.int .i64 D1.k) := iD.cell 0
        have k1 : wr.cell? ⟨DD, 1, none⟩ = some (.slice B1 D1.L.length d1) := iD.cell 1
        have k2 : wr.cell? ⟨DD, 2, none⟩ = some (.slice B2 D1.C.length d2) := iD.cell 2
        have hK := (Below.refl wr.heap.size wr).alloc (Nat.le_refl _) (.cells #[.int .i64 D1.k, .slice B1 D1.L.length d1, .slice B2 D1.C.length d2] 26)
        have iU := Is.new wr 26 #[.int .i64 D1.k, .slice B1 D1.L.length d1, .slice B2 D1.C.length d2]
        have iD := iD.alloc (.cells #[.int .i64 D1.k, .slice B1 D1.L.length d1, .slice B2 D1.C.length d2] 26)
        have iN := iN.alloc (.cells #[.int .i64 D1.k, .slice B1 D1.L.length d1, .slice B2 D1.C.length d2] 26)
        have ia := ia.alloc (.cells #[.int .i64 D1.k, .slice B1 D1.L.length d1, .slice B2 D1.C.length d2] 26)
        have j1 := j1.keep hK
        have j2 := j2.keep hK
        have hB := hB.alloc hB.size (.cells #[.int .i64 D1.k, .slice B1 D1.L.length d1, .slice B2 D1.C.length d2] 26)
        clear hK
        go_wp2_with (refine wpList_load_row rfl 26 _ rfl wr.heap.size rfl _ _ _ _ iU Try.underlying26 rfl infoReq11 ?_)
        clear k0 k1 k2
        refine (EP1.out _ _ _ _ _ j1 j2).mono ?_
        rintro e0 U2 ⟨rfl, hb⟩
        have iD := iD.below hb iD.lt
        have iN := iN.below hb iN.lt
        have ia := ia.below hb ia.lt
        have j1 := j1.keep hb
        have j2 := j2.keep hb
        have hB := hB.trans (hb.mono hB.size)
        have iU := iU.below hb iU.lt
        clear hb
        go_wp2_with (refine wpList_load_row rfl 26 _ rfl wr.heap.size rfl _ _ _ _ iU Try.underlying26 rfl infoReq11 ?_)
        refine (ED1.out _ _ _ _ _ j1 j2).mono ?_
        rintro e0 U3 ⟨rfl, hb⟩
        have iD := iD.below hb iD.lt
        have iN := iN.below hb iN.lt
        have ia := ia.below hb ia.lt
        have j1 := j1.keep hb
        have j2 := j2.keep hb
        have hB := hB.trans (hb.mono hB.size)
        clear hb iU
        go_wp2
        go_roundw
        case rel => exact ⟨1, by omega, by go_num, iD, iN, ia, j1, j2, hB⟩
        case measure => simp [intOf]
      · have k0 : wr.cell? ⟨DD, 3, none⟩ = some (.int .i64 qk) := iD.cell 3
        have k1 : wr.cell? ⟨DD, 4, none⟩ = some (.slice QA L.length qc) := iD.cell 4
        have k2 : wr.cell? ⟨DD, 5, none⟩ = some (.slice QB C.length qd) := iD.cell 5
        have hK := (Below.refl wr.heap.size wr).alloc (Nat.le_refl _) (.cells #[.int .i64 qk, .slice QA L.length qc, .slice QB C.length qd] 26)
        have iU := Is.new wr 26 #[.int .i64 qk, .slice QA L.length qc, .slice QB C.length qd]
        have iD := iD.alloc (.cells #[.int .i64 qk, .slice QA L.length qc, .slice QB C.length qd] 26)
        have iN := iN.alloc (.cells #[.int .i64 qk, .slice QA L.length qc, .slice QB C.length qd] 26)
        have ia := ia.alloc (.cells #[.int .i64 qk, .slice QA L.length qc, .slice QB C.length qd] 26)
        have j1 := j1.keep hK
        have j2 := j2.keep hK
        have hB := hB.alloc hB.size (.cells #[.int .i64 qk, .slice QA L.length qc, .slice QB C.length qd] 26)
        clear hK
        go_wp2_with (refine wpList_load_row rfl 26 _ rfl wr.heap.size rfl _ _ _ _ iU Try.underlying26 rfl infoReq11 ?_)
        clear k0 k1 k2
        refine (EP3.out _ (HIL.out.keep hB) (HIC.out.keep hB)).mono ?_
        rintro e0 U2 ⟨rfl, hb⟩
        have iD := iD.below hb iD.lt
        have iN := iN.below hb iN.lt
        have ia := ia.below hb ia.lt
        have j1 := j1.keep hb
        have j2 := j2.keep hb
        have hB := hB.trans (hb.mono hB.size)
        have iU := iU.below hb iU.lt
        clear hb
        go_wp2_with (refine wpList_load_row rfl 26 _ rfl wr.heap.size rfl _ _ _ _ iU Try.underlying26 rfl infoReq11 ?_)
        refine (ED3.out _ (HIL.out.keep hB) (HIC.out.keep hB)).mono ?_
        rintro e0 U3 ⟨rfl, hb⟩
        have iD := iD.below hb iD.lt
        have iN := iN.below hb iN.lt
        have ia := ia.below hb ia.lt
        have j1 := j1.keep hb
        have j2 := j2.keep hb
        have hB := hB.trans (hb.mono hB.size)
        clear hb iU
        go_wp2
        go_roundw
        case rel => exact ⟨2, by omega, by go_num, iD, iN, ia, j1, j2, hB⟩
        case measure => simp [intOf]
    · have q1 : ¬ (j : Int) < 2 := by omega
      go_wp2
      clear IN IA ID J1 J2 HB iD j1 j2
      refine Code.wp_mono ?_ (tells11_rsp wr ga kind A1 R1.length p1 w.heap.size n0 n1 n2 ak ast am ar AC E.length ac D2 (Lib.hid fun W h => Q2.out _ (HC1.out.keep (hB.trans (h.mono hB.size)))) iN ia _ _ _ _ _ _ _ _ _ _ _ _ _ _ _ _ _ _ _ _ _ _ _ _ _ _ _ _ _ _ _ _ _ _ _ _ _ _ _ _ _ _ _ _ _ _ _ _ _ _ _ _ _ _ _ _ _ _ _ _ _ _ _ _ _ _ _ _ _ _ _ _ _ _ _ _ _ _ _ _ _ _ _ _ _ _ _ _ _ _ _ _ _ _ _ _ _ _ _ _ _ _ _ _ _ _ _ _ _ _ _ _ _ _ _ _ _ _ _ _ _ _ _ _ _ _ _ _ _ _ _ _ _ _ _ _ _ _ _ _ _ _ _ _ _ _ _ _ _ _ _ _ _ _ _ _ _ _ _ _ _ _ _ _ _ _ _ _ _ _ _ _ _ _ _ _ _ _ _ _ _ _ _ _ _ _ _ _ _ _ _ _ _ _ _ _ _ _ _ _ _ _ _ _ _ _ _ _ _ _ _ _ _ _ _ _ _ _ _ _ _ _ _ _ _ _ _ _ _ _ _ _ _ _ _ _ _ _ _ _ _ _ _ _ _)
      rintro ex ⟨T, Ds⟩ W2 ⟨rfl, hD, B3, d3, DD, hT, hb, j3, iD⟩
      simp only at hT hD
      subst hT
      subst hD
      have iN := iN.below hb iN.lt
      have hB := hB.trans (hb.mono hB.size)
      clear hb ia
      have IN := Lib.hid iN
      have ID := Lib.hid iD
      have J3 := Lib.hid j3
      have HB := Lib.hid hB
      clear iN iD j3 hB
      go_wp2
      go_loopw [104] (fun i wr => ∃ j : Nat, j ≤ 2 ∧ i = .int .i64 (j : Int) ∧ Is wr DD 28 #[.int .i64 D2.k, .int .i64 D2.st, .slice B3 D2.C.length d3, .int .i64 D2.many, .int .i64 D2.room, .int .i64 ak, .int .i64 ast, .slice AC E.length ac, .int .i64 am, .int .i64 ar] ∧ Is wr w.heap.size 23 #[.int .i64 n0, .int .i64 n1, .int .i64 n2] ∧ InV wr B3 (tL10 D2.C) ∧ Below w.heap.size w wr) (fun i _ => 2 - (intOf i).toNat)
      case atStart => exact ⟨0, by omega, rfl, ID.out, IN.out, J3.out, HB.out⟩
      case round =>
        obtain ⟨j, hj, rfl, iD, iN, j3, hB⟩ := hrel
        by_cases hlt : j < 2
        · obtain rfl | rfl : j = 0 ∨ j = 1 := by omega
          · have k0 : wr.cell? ⟨DD, 0, none⟩ = some (.int .i64 D2.k) := iD.cell 0
            have k1 : wr.cell? ⟨DD, 1, none⟩ = some (.int .i64 D2.st) := iD.cell 1
            have k2 : wr.cell? ⟨DD, 2, none⟩ = some (.slice B3 D2.C.length d3) := iD.cell 2
            have k3 : wr.cell? ⟨DD, 3, none⟩ = some (.int .i64 D2.many) := iD.cell 3
            have k4 : wr.cell? ⟨DD, 4, none⟩ = some (.int .i64 D2.room) := iD.cell 4
            have hK := (Below.refl wr.heap.size wr).alloc (Nat.le_refl _) (.cells #[.int .i64 D2.k, .int .i64 D2.st, .slice B3 D2.C.length d3, .int .i64 D2.many, .int .i64 D2.room] 28)
            have iU := Is.new wr 28 #[.int .i64 D2.k, .int .i64 D2.st, .slice B3 D2.C.length d3, .int .i64 D2.many, .int .i64 D2.room]
            have iD := iD.alloc (.cells #[.int .i64 D2.k, .int .i64 D2.st, .slice B3 D2.C.length d3, .int .i64 D2.many, .int .i64 D2.room] 28)
            have iN := iN.alloc (.cells #[.int .i64 D2.k, .int .i64 D2.st, .slice B3 D2.C.length d3, .int .i64 D2.many, .int .i64 D2.room] 28)
            have j3 := j3.keep hK
            have hB := hB.alloc hB.size (.cells #[.int .i64 D2.k, .int .i64 D2.st, .slice B3 D2.C.length d3, .int .i64 D2.many, .int .i64 D2.room] 28)
            clear hK
            go_wp2_with (refine wpList_load_row rfl 28 _ rfl wr.heap.size rfl _ _ _ _ iU Try.underlying28 rfl infoRsp11 ?_)
            clear k0 k1 k2 k3 k4
            refine (EP2.out _ _ _ j3).mono ?_
            rintro e0 U2 ⟨rfl, hb⟩
            have iD := iD.below hb iD.lt
            have iN := iN.below hb iN.lt
            have j3 := j3.keep hb
            have hB := hB.trans (hb.mono hB.size)
            have iU := iU.below hb iU.lt
            clear hb
            go_wp2_with (refine wpList_load_row rfl 28 _ rfl wr.heap.size rfl _ _ _ _ iU Try.underlying28 rfl infoRsp11 ?_)
            refine (ED2.out _ _ _ j3).mono ?_
            rintro e0 U3 ⟨rfl, hb⟩
            have iD := iD.below hb iD.lt
            have iN := iN.below hb iN.lt
            have j3 := j3.keep hb
            have hB := hB.trans (hb.mono hB.size)
            clear hb iU
            go_wp2
            go_roundw
            case rel => exact ⟨1, by omega, by go_num, iD, iN, j3, hB⟩
            case measure => simp [intOf]
          · have k0 : wr.cell? ⟨DD, 5, none⟩ = some (.int .i64 ak) := iD.cell 5
            have k1 : wr.cell? ⟨DD, 6, none⟩ = some (.int .i64 ast) := iD.cell 6
            have k2 : wr.cell? ⟨DD, 7, none⟩ = some (.slice AC E.length ac) := iD.cell 7
            have k3 : wr.cell? ⟨DD, 8, none⟩ = some (.int .i64 am) := iD.cell 8
            have k4 : wr.cell? ⟨DD, 9, none⟩ = some (.int .i64 ar) := iD.cell 9
            have hK := (Below.refl wr.heap.size wr).alloc (Nat.le_refl _) (.cells #[.int .i64 ak, .int .i64 ast, .slice AC E.length ac, .int .i64 am, .int .i64 ar] 28)
            have iU := Is.new wr 28 #[.int .i64 ak, .int .i64 ast, .slice AC E.length ac, .int .i64 am, .int .i64 ar]
            have iD := iD.alloc (.cells #[.int .i64 ak, .int .i64 ast, .slice AC E.length ac, .int .i64 am, .int .i64 ar] 28)
            have iN := iN.alloc (.cells #[.int .i64 ak, .int .i64 ast, .slice AC E.length ac, .int .i64 am, .int .i64 ar] 28)
            have j3 := j3.keep hK
            have hB := hB.alloc hB.size (.cells #[.int .i64 ak, .int .i64 ast, .slice AC E.length ac, .int .i64 am, .int .i64 ar] 28)
            clear hK
            go_wp2_with (refine wpList_load_row rfl 28 _ rfl wr.heap.size rfl _ _ _ _ iU Try.underlying28 rfl infoRsp11 ?_)
            clear k0 k1 k2 k3 k4
            refine (EP4.out _ (HIE.out.keep hB)).mono ?_
            rintro e0 U2 ⟨rfl, hb⟩
            have iD := iD.below hb iD.lt
            have iN := iN.below hb iN.lt
            have j3 := j3.keep hb
            have hB := hB.trans (hb.mono hB.size)
            have iU := iU.below hb iU.lt
            clear hb
            go_wp2_with (refine wpList_load_row rfl 28 _ rfl wr.heap.size rfl _ _ _ _ iU Try.underlying28 rfl infoRsp11 ?_)
            refine (ED4.out _ (HIE.out.keep hB)).mono ?_
            rintro e0 U3 ⟨rfl, hb⟩
            have iD := iD.below hb iD.lt
            have iN := iN.below hb iN.lt
            have j3 := j3.keep hb
            have hB := hB.trans (hb.mono hB.size)
            clear hb iU
            go_wp2
            go_roundw
            case rel => exact ⟨2, by omega, by go_num, iD, iN, j3, hB⟩
            case measure => simp [intOf]
        · have q1 : ¬ (j : Int) < 2 := by omega
          clear IN ID J3 HB iD j3 EP1 EP2 EP3 EP4 ED3 ED4
          go_wp2_with fail
          refine (Q1.out _ (HC1.out.keep hB)).mono ?_
          rintro e0 U1 ⟨B1, d1, B2, d2, rfl, h1, h2, hb⟩
          have iN := iN.below hb iN.lt
          have hB := hB.trans (hb.mono hB.size)
          clear hb
          go_wp2_with fail
          refine (ED1.out _ _ _ _ _ h1 h2).mono ?_
          rintro e0 U2 ⟨rfl, hb⟩
          have iN := iN.below hb iN.lt
          have hB := hB.trans (hb.mono hB.size)
          clear hb h1 h2
          go_wp2_with (refine wpList_load_row rfl 23 _ rfl w.heap.size rfl _ _ _ _ iN Try.underlying23 rfl infoThr11 ?_)
          refine (Q2.out _ (HC1.out.keep hB)).mono ?_
          rintro e0 U3 ⟨B3, d3, rfl, h3, hb⟩
          have hB := hB.trans (hb.mono hB.size)
          clear hb iN
          go_wp2_with fail
          refine (ED2.out _ _ _ h3).mono ?_
          rintro e0 U4 ⟨rfl, hb⟩
          have hB := hB.trans (hb.mono hB.size)
          clear hb h3
          have iL9 := Is.new U4 9 #[.string s, .string t]
          have hB9 := hB.alloc hB.size (.cells #[.string s, .string t] 9)
          go_wp2
          have HLS : Hid (∀ (j : Nat) (x : ByteArray), ([s, t] : List ByteArray)[j]? = some x → x.size ≤ 100000) := Lib.hid (fun j x h => by
            match j, h with
            | 0, h => cases h; exact HS.out
            | 1, h => cases h; exact HT.out)
          clear HS HT Q1 Q2 ED1 ED2 hB
          generalize any.extract 0 (min (any.size : Int) 500).toNat = m at *
          generalize U4.alloc (.cells #[.string s, .string t] 9) = X9 at *
          generalize U4.heap.size = gL at *
          have IL9 := Lib.hid iL9
          have HB9 := Lib.hid hB9
          clear iL9 hB9
          have DN := Lib.hid (fun y W => wdec11 y W)
          have DD := Lib.hid (fun y W => ddec_any11 y W)
          have RN := Lib.hid (fun y W => wread11 y W)
          have RD := Lib.hid (fun y W => dread_any11 y W)
          have FD := Lib.hid dec_few11
          have FR := Lib.hid read_few11
          go_loopw [151] (fun i wr => ∃ j : Nat, j ≤ 2 ∧ i = .int .i64 (j : Int) ∧ Is wr gL 9 #[.string s, .string t] ∧ Below w.heap.size w wr) (fun i _ => 2 - (intOf i).toNat)
          case atStart => exact ⟨0, by omega, rfl, IL9.out, HB9.out⟩
          case round =>
            obtain ⟨j, hj, rfl, iL, hB⟩ := hrel
            by_cases hlt : j < 2
            · have q1 : (j : Int) < 2 := by omega
              obtain ⟨x, hx⟩ : ∃ x, ([s, t] : List ByteArray)[j]? = some x := ⟨_, List.getElem?_eq_getElem (show j < ([s, t] : List ByteArray).length from hlt)⟩
              have hxz := HLS.out j x hx
              have hcell : wr.cell? ⟨gL, j, none⟩ = some (.string x) := by
                rw [iL.cell]
                match j, hx with
                | 0, hx => cases hx; rfl
                | 1, hx => cases hx; rfl
              have PX := Lib.hid (fun W => PK.out (x.size + 1) W ⟨by omega, by omega⟩)
              rw [show ((x.size + 1 : Nat) : Int) = (x.size : Int) + 1 by omega] at PX
              have hpx := pickN_bd at_ ((x.size : Int) + 1) (by omega)
              clear hx
              generalize pickN at_ ((x.size : Int) + 1) = k at *
              go_wp2_with fail
              refine (PX.out _).mono ?_
              rintro e0 w1 ⟨rfl, rfl⟩
              clear hcell PX
              go_wp2
              have H1 := Lib.hid (run_high11 x k (by omega) (by omega))
              have H2 := Lib.hid (run_high11 m (min (m.size : Int) 9) (by omega) (by omega))
              have H3 := Lib.hid (run_low11 x k (by omega) (by omega))
              have z1 : (x.extract 0 k.toNat).size ≤ x.size := by rw [ByteArray.size_extract]; omega
              have z2 : (m.extract 0 (min (m.size : Int) 9).toNat).size ≤ 9 := by rw [ByteArray.size_extract]; omega
              have z3 : (x.extract k.toNat x.size).size ≤ x.size := by rw [ByteArray.size_extract]; omega
              have z4 : (x.extract 0 k.toNat ++ m.extract 0 (min (m.size : Int) 9).toNat).size = (x.extract 0 k.toNat).size + (m.extract 0 (min (m.size : Int) 9).toNat).size := ByteArray.size_append
              refine Code.wp_mono ?_ (tells11_txt w wr gL #[.string s, .string t] x m (x.extract 0 k.toNat) (m.extract 0 (min (m.size : Int) 9).toNat) (x.extract k.toNat x.size) k H1 H2 H3 (Lib.hid (by omega)) (Lib.hid (by omega)) (Lib.hid (by omega)) (Lib.hid (by omega)) hB iL _ _ _ _ _ _ _ _ _ _ _ _ _ _ _ _ _ _ _ _ _ _ _ _ _ _ _ _ _ _ _ _ _ _ _ _ _ _ _ _ _ _ _ _ _ _ _ _ _ _ _ _ _ _ _ _ _ _ _ _ _ _ _ _ _ _ _ _ _ _ _ _ _ _ _ _ _ _ _ _ _ _ _ _ _ _ _ _ _ _ _ _ _ _ _ _ _ _ _ _ _ _ _ _ _ _ _ _ _ _ _ _ _ _ _ _ _ _ _ _ _ _ _ _ _ _ _ _ _ _ _ _ _ _ _ _ _ _ _ _ _ _ _ _ _ _ _ _ _ _ _ _ _ _ _ _ _ _ _ _ _ _ _ _ _ _ _ _ _ _ _ _ _ _ _ _ _ _ _ _ _ _ _ _ _ _ _ _ _ _ _ _ _ _ _ _ _ _ _ _ _ _ _ _ _ _ _ _ _ _ _ _ _ _ _ _ _ _ _ _ _ _ _ _ _ _ _ _ _ _ _ _ _ _ _ _ _ _ _ _ _ _ _ _ _ _)
              rintro ex ⟨T, Ds⟩ V0 ⟨rfl, hD, GD, hT, hB, iL, iD⟩
              simp only at hT hD
              subst hT
              subst hD
              clear z1 z2 z3 z4 H1 H2 H3
              generalize x.extract 0 k.toNat ++ m.extract 0 (min (m.size : Int) 9).toNat ++ x.extract k.toNat x.size = Y at *
              generalize x ++ (⟨#[0]⟩ : ByteArray) = Y2 at *
              generalize x.extract 0 k.toNat = Y1 at *
              generalize m.extract 0 (min (m.size : Int) 9).toNat = Y3 at *
              generalize x.extract k.toNat x.size = Y4 at *
              have ILb := Lib.hid iL
              have IDb := Lib.hid iD
              have HBb := Lib.hid hB
              clear iL iD hB hpx hxz
              go_wp2
              go_loopw [182] (fun i wr => ∃ n : Nat, n ≤ 5 ∧ i = .int .i64 (n : Int) ∧ Is wr gL 9 #[.string s, .string t] ∧ Is wr GD 9 #[.string x, .string Y1, .string Y, .string Y2, .string m] ∧ Below w.heap.size w wr) (fun i _ => 5 - (intOf i).toNat)
              case atStart => exact ⟨0, by omega, rfl, ILb.out, IDb.out, HBb.out⟩
              case round =>
                obtain ⟨n, hn, rfl, iL, iD, hB⟩ := hrel
                by_cases hnl : n < 5
                · have q2 : (n : Int) < 5 := by omega
                  obtain ⟨y, hy⟩ : ∃ y, ([x, Y1, Y, Y2, m] : List ByteArray)[n]? = some y := ⟨_, List.getElem?_eq_getElem (show n < ([x, Y1, Y, Y2, m] : List ByteArray).length from hnl)⟩
                  have hcell : wr.cell? ⟨GD, n, none⟩ = some (.string y) := by
                    rw [iD.cell]
                    match n, hy with
                    | 0, hy => cases hy; rfl
                    | 1, hy => cases hy; rfl
                    | 2, hy => cases hy; rfl
                    | 3, hy => cases hy; rfl
                    | 4, hy => cases hy; rfl
                  have DN1 := Lib.hid (DN.out y)
                  have DD1 := Lib.hid (DD.out y)
                  have RN1 := Lib.hid (RN.out y)
                  have RD1 := Lib.hid (RD.out y)
                  have fd := FD.out y
                  have fr := FR.out y
                  generalize decV11 y = T1 at *
                  generalize readV11 y = T2 at *
                  have SM := Lib.hid (fun A1 A2 B1 B2 c1 c2 d1 d2 W h1 h2 h3 h4 => same_any11 T1.1.k T1.1.k A1 A2 B1 B2 c1 c2 d1 d2 T1.1.L T1.1.C T1.1.L T1.1.C W (by omega) (by omega) (by omega) (by omega) h1 h2 h3 h4)
                  rw [show (decide (T1.1.k = T1.1.k) && (decide (T1.1.L = T1.1.L) && decide (T1.1.C = T1.1.C))) = true by simp] at SM
                  have AL := Lib.hid (fun A B c d W h1 h2 => alike_any11 T2.1.k T2.1.st T2.1.many T2.1.room T2.1.k T2.1.st T2.1.many T2.1.room A B c d T2.1.C T2.1.C W (by omega) (by omega) h1 h2)
                  rw [show (decide (T2.1.k = T2.1.k) && (decide (T2.1.st = T2.1.st) && (decide (T2.1.many = T2.1.many) && (decide (T2.1.room = T2.1.room) && decide (T2.1.C = T2.1.C))))) = true by simp] at AL
                  clear hy fd fr
                  go_wp2_with fail
                  clear hcell
                  refine (DN1.out _).mono ?_
                  rintro e0 U1 ⟨b1a, b1c, b1b, b1d, rfl, h1a, h1b, hb⟩
                  have hK := (Below.refl U1.heap.size U1).alloc (Nat.le_refl _) (.cells #[.int .i64 T1.1.k, .slice b1a T1.1.L.length b1c, .slice b1b T1.1.C.length b1d] 26)
                  have iL := (iL.below hb iL.lt).alloc (.cells #[.int .i64 T1.1.k, .slice b1a T1.1.L.length b1c, .slice b1b T1.1.C.length b1d] 26)
                  have iD := (iD.below hb iD.lt).alloc (.cells #[.int .i64 T1.1.k, .slice b1a T1.1.L.length b1c, .slice b1b T1.1.C.length b1d] 26)
                  have h1a := h1a.keep hK
                  have h1b := h1b.keep hK
                  have hB := hB.trans (hb.mono hB.size)
                  have hB := hB.alloc hB.size (.cells #[.int .i64 T1.1.k, .slice b1a T1.1.L.length b1c, .slice b1b T1.1.C.length b1d] 26)
                  have i1 := Is.new U1 26 #[.int .i64 T1.1.k, .slice b1a T1.1.L.length b1c, .slice b1b T1.1.C.length b1d]
                  clear hb hK
                  go_wp2_with fail
                  refine (DD1.out _).mono ?_
                  rintro e0 U2 ⟨b2a, b2c, b2b, b2d, rfl, h2a, h2b, hb⟩
                  have hK := (Below.refl U2.heap.size U2).alloc (Nat.le_refl _) (.cells #[.int .i64 T1.1.k, .slice b2a T1.1.L.length b2c, .slice b2b T1.1.C.length b2d] 26)
                  have iL := (iL.below hb iL.lt).alloc (.cells #[.int .i64 T1.1.k, .slice b2a T1.1.L.length b2c, .slice b2b T1.1.C.length b2d] 26)
                  have iD := (iD.below hb iD.lt).alloc (.cells #[.int .i64 T1.1.k, .slice b2a T1.1.L.length b2c, .slice b2b T1.1.C.length b2d] 26)
                  have i1 := (i1.below hb i1.lt).alloc (.cells #[.int .i64 T1.1.k, .slice b2a T1.1.L.length b2c, .slice b2b T1.1.C.length b2d] 26)
                  have h1a := (h1a.keep hb).keep hK
                  have h1b := (h1b.keep hb).keep hK
                  have h2a := h2a.keep hK
                  have h2b := h2b.keep hK
                  have hB := hB.trans (hb.mono hB.size)
                  have hB := hB.alloc hB.size (.cells #[.int .i64 T1.1.k, .slice b2a T1.1.L.length b2c, .slice b2b T1.1.C.length b2d] 26)
                  have i2 := Is.new U2 26 #[.int .i64 T1.1.k, .slice b2a T1.1.L.length b2c, .slice b2b T1.1.C.length b2d]
                  clear hb hK
                  go_wp2_with fail
                  refine (RN1.out _).mono ?_
                  rintro e0 U3 ⟨b3a, b3c, rfl, h3a, hb⟩
                  have hK := (Below.refl U3.heap.size U3).alloc (Nat.le_refl _) (.cells #[.int .i64 T2.1.k, .int .i64 T2.1.st, .slice b3a T2.1.C.length b3c, .int .i64 T2.1.many, .int .i64 T2.1.room] 28)
                  have iL := (iL.below hb iL.lt).alloc (.cells #[.int .i64 T2.1.k, .int .i64 T2.1.st, .slice b3a T2.1.C.length b3c, .int .i64 T2.1.many, .int .i64 T2.1.room] 28)
                  have iD := (iD.below hb iD.lt).alloc (.cells #[.int .i64 T2.1.k, .int .i64 T2.1.st, .slice b3a T2.1.C.length b3c, .int .i64 T2.1.many, .int .i64 T2.1.room] 28)
                  have i1 := (i1.below hb i1.lt).alloc (.cells #[.int .i64 T2.1.k, .int .i64 T2.1.st, .slice b3a T2.1.C.length b3c, .int .i64 T2.1.many, .int .i64 T2.1.room] 28)
                  have i2 := (i2.below hb i2.lt).alloc (.cells #[.int .i64 T2.1.k, .int .i64 T2.1.st, .slice b3a T2.1.C.length b3c, .int .i64 T2.1.many, .int .i64 T2.1.room] 28)
                  have h1a := (h1a.keep hb).keep hK
                  have h1b := (h1b.keep hb).keep hK
                  have h2a := (h2a.keep hb).keep hK
                  have h2b := (h2b.keep hb).keep hK
                  have h3a := h3a.keep hK
                  have hB := hB.trans (hb.mono hB.size)
                  have hB := hB.alloc hB.size (.cells #[.int .i64 T2.1.k, .int .i64 T2.1.st, .slice b3a T2.1.C.length b3c, .int .i64 T2.1.many, .int .i64 T2.1.room] 28)
                  have i3 := Is.new U3 28 #[.int .i64 T2.1.k, .int .i64 T2.1.st, .slice b3a T2.1.C.length b3c, .int .i64 T2.1.many, .int .i64 T2.1.room]
                  clear hb hK
                  go_wp2_with fail
                  refine (RD1.out _).mono ?_
                  rintro e0 U4 ⟨b4a, b4c, rfl, h4a, hb⟩
                  have hK := (Below.refl U4.heap.size U4).alloc (Nat.le_refl _) (.cells #[.int .i64 T2.1.k, .int .i64 T2.1.st, .slice b4a T2.1.C.length b4c, .int .i64 T2.1.many, .int .i64 T2.1.room] 28)
                  have iL := (iL.below hb iL.lt).alloc (.cells #[.int .i64 T2.1.k, .int .i64 T2.1.st, .slice b4a T2.1.C.length b4c, .int .i64 T2.1.many, .int .i64 T2.1.room] 28)
                  have iD := (iD.below hb iD.lt).alloc (.cells #[.int .i64 T2.1.k, .int .i64 T2.1.st, .slice b4a T2.1.C.length b4c, .int .i64 T2.1.many, .int .i64 T2.1.room] 28)
                  have i1 := (i1.below hb i1.lt).alloc (.cells #[.int .i64 T2.1.k, .int .i64 T2.1.st, .slice b4a T2.1.C.length b4c, .int .i64 T2.1.many, .int .i64 T2.1.room] 28)
                  have i2 := (i2.below hb i2.lt).alloc (.cells #[.int .i64 T2.1.k, .int .i64 T2.1.st, .slice b4a T2.1.C.length b4c, .int .i64 T2.1.many, .int .i64 T2.1.room] 28)
                  have i3 := (i3.below hb i3.lt).alloc (.cells #[.int .i64 T2.1.k, .int .i64 T2.1.st, .slice b4a T2.1.C.length b4c, .int .i64 T2.1.many, .int .i64 T2.1.room] 28)
                  have h1a := (h1a.keep hb).keep hK
                  have h1b := (h1b.keep hb).keep hK
                  have h2a := (h2a.keep hb).keep hK
                  have h2b := (h2b.keep hb).keep hK
                  have h3a := (h3a.keep hb).keep hK
                  have h4a := h4a.keep hK
                  have hB := hB.trans (hb.mono hB.size)
                  have hB := hB.alloc hB.size (.cells #[.int .i64 T2.1.k, .int .i64 T2.1.st, .slice b4a T2.1.C.length b4c, .int .i64 T2.1.many, .int .i64 T2.1.room] 28)
                  have i4 := Is.new U4 28 #[.int .i64 T2.1.k, .int .i64 T2.1.st, .slice b4a T2.1.C.length b4c, .int .i64 T2.1.many, .int .i64 T2.1.room]
                  clear hb hK
                  go_wp2_with (first
                    | (refine wpList_load_rowG11 (by kernel_rfl) 26 _ rfl U1.heap.size rfl 26 _ i1 Try.underlying26 rfl infoReq11 ?_)
                    | (refine wpList_load_rowG11 (by kernel_rfl) 26 _ rfl U2.heap.size rfl 26 _ i2 Try.underlying26 rfl infoReq11 ?_))
                  refine (SM.out _ _ _ _ _ _ _ _ _ h1a h1b h2a h2b).mono ?_
                  rintro e0 U5 ⟨rfl, hb⟩
                  have iL := iL.below hb iL.lt
                  have iD := iD.below hb iD.lt
                  have i3 := i3.below hb i3.lt
                  have i4 := i4.below hb i4.lt
                  have h3a := h3a.keep hb
                  have h4a := h4a.keep hb
                  have hB := hB.trans (hb.mono hB.size)
                  clear hb i1 i2 h1a h1b h2a h2b SM
                  go_wp2_with (first
                    | (refine wpList_load_rowG11 (by kernel_rfl) 28 _ rfl U3.heap.size rfl 28 _ i3 Try.underlying28 rfl infoRsp11 ?_)
                    | (refine wpList_load_rowG11 (by kernel_rfl) 28 _ rfl U4.heap.size rfl 28 _ i4 Try.underlying28 rfl infoRsp11 ?_))
                  refine (AL.out _ _ _ _ _ h3a h4a).mono ?_
                  rintro e0 U6 ⟨rfl, hb⟩
                  have iL := iL.below hb iL.lt
                  have iD := iD.below hb iD.lt
                  have hB := hB.trans (hb.mono hB.size)
                  clear hb i3 i4 h3a h4a AL
                  go_wp2
                  go_roundw
                  case rel => exact ⟨n + 1, by omega, by go_num, iL, iD, hB⟩
                  case measure => simp [intOf]; omega
                · have q2 : ¬ (n : Int) < 5 := by omega
                  go_wp2
                  go_roundw
                  case rel => exact ⟨j + 1, by omega, by go_num, iL, hB⟩
                  case measure => simp [intOf]; omega
            · have q1 : ¬ (j : Int) < 2 := by omega
              clear IL9 HB9 iL
              obtain ⟨Z1, DZ⟩ : ∃ Z, decV11 (nulN10 65537) = (Z, 2) := ⟨zreq11, by rw [decV11, if_pos (by rw [nulN10_size]; omega)]⟩
              obtain ⟨Z2, RZ⟩ : ∃ Z, readV11 (nulN10 65537) = (Z, 2) := ⟨zrsp11, by rw [readV11, if_pos (by rw [nulN10_size]; omega)]⟩
              have DN9 := Lib.hid (DN.out (nulN10 65537))
              have RN9 := Lib.hid (RN.out (nulN10 65537))
              rw [DZ] at DN9
              rw [RZ] at RN9
              have mk : ∀ W : World, (Instr.makeSlice 45 (.int .i64 65537) (.int .i64 65537)).run Try.prog W = .ok (.slice (some ⟨W.heap.size, 0, none⟩) 65537 65537) (W.alloc (.cells (nulC10 65537) 5)) := fun W => run_makeN10 W 65537 (by omega)
              have cv : ∀ W : World, (convert 45 9 (.slice (some ⟨W.heap.size, 0, none⟩) 65537 65537)).run Try.prog (W.alloc (.cells (nulC10 65537) 5)) = .ok (.string (nulN10 65537)) (W.alloc (.cells (nulC10 65537) 5)) := fun W => run_convN10 (Is.new W 5 (nulC10 65537))
              clear DN RN DD RD FD FR DZ RZ
              generalize nulN10 65537 = ZN at *
              generalize nulC10 65537 = ZC at *
              go_wp2_with fail
              refine (DN9.out _).mono ?_
              rintro e0 U1 ⟨b1, c1, b2, c2, rfl, _, _, hb⟩
              have hK := hB.alloc hB.size (.cells ZC 5)
              have hB1 := hK.trans (hb.mono hK.size)
              clear hb hK hB
              have cv2 := cv (U1.alloc (.cells #[.int .i64 Z1.k, .slice b1 Z1.L.length c1, .slice b2 Z1.C.length c2] 26))
              rw [show (U1.alloc (.cells #[.int .i64 Z1.k, .slice b1 Z1.L.length c1, .slice b2 Z1.C.length c2] 26)).heap.size = U1.heap.size + 1 by simp] at cv2
              go_wp2_with fail
              refine (RN9.out _).mono ?_
              rintro e0 U2 ⟨b3, c3, rfl, _, hb⟩
              have hK := hB1.alloc hB1.size (.cells #[.int .i64 Z1.k, .slice b1 Z1.L.length c1, .slice b2 Z1.C.length c2] 26)
              have hK2 := hK.alloc hK.size (.cells ZC 5)
              have hB2 := hK2.trans (hb.mono hK2.size)
              clear hb hK hK2 hB1 mk cv cv2
              go_wp2
              go_ret
              exact ⟨rfl, hB2.alloc hB2.size _⟩
end Go.Proofs.Ytapfbcpbiagogaa
