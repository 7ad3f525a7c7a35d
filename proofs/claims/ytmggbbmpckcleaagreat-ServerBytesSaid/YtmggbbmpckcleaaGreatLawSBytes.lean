import Derived.Test.YtmggbbmpckcleaaGreatSByR
set_option maxRecDepth 100000
set_option maxHeartbeats 16000000
namespace Go.Proofs.YtmggbbmpckcleaaGreat
open Go.RowKit Go.Shelf
theorem sbytes_walk (x0:Int) (A0:Option Addr) (cp0:Nat) (L:List Row13) (A9:Option Addr) (cp9:Nat) (R:List Int) (any:ByteArray) (at_:Int) (w:World) (hx:-9223372036854775808≤x0∧x0≤9223372036854775807) (hm:L.length≤maxLen) (hc:InV w A0 (grV13 L)) (hb:GrIn13 w L) (hm2:R.length≤maxLen) (hc2:InV w A9 (iV11 R)) (hb2:Big11 R) (hcap:R.length≤cp9) (_hany:any.size≤maxLen) (ho:-9223372036854775808≤at_∧at_≤9223372036854775807) :
  Calls Tryz.prog 5 #[.int .i64 x0,.slice A0 L.length cp0,.slice A9 R.length cp9,.string any,.int .i64 at_] w fun e w'=>e=.returned (.bool true)∧Below w.heap.size w w':=by
 have HAW:=Lib.hid (fun W=>awake13_any W)
 have HS:=Lib.hid (fun W (h:Below w.heap.size w W)=>server_any13 x0 A0 cp0 L W hx hm (hc.keep h) (hb.keep h))
 have HQ:=Lib.hid (fun W (h:Below w.heap.size w W)=>qreq13_any A9 cp9 R W (Nat.le_trans hm2 (by decide)) hcap hb2 (hc2.keep h))
 have hp:=pickN_bd x0 40 (by omega)
 have hrt:=sv_rt13 hp.1 (by omega:pickN x0 40≤2000) L
 have hql:=req_longD13 R
 have hqr:=req_right13 R
 have hq2:=req_len13 hqr
 generalize sv13 (pickN x0 40) L=s at *
 generalize req13 R=q at *
 have hlen:=hrt.rt.bnd.len.2
 have HE:=Lib.hid (show encR11 ⟨q.k,q.L,q.C⟩=.tuple #[.string (reqB11 q),.int .i64 0] by rw [encR11,encV11,if_pos hqr])
 have hz:=req_size11 hqr
 have hz2:0 < (reqB11 q).size∧(reqB11 q).size≤20000:=by omega
 clear hz hq2 hqr
 generalize reqB11 q=E at *
 have HPK:=Lib.hid (fun W=>pick13_any at_ (E.size:Int) W ho.1 ho.2 (by omega) (by omega))
 have hpk:=pickN_bd at_ (E.size:Int) (by omega)
 generalize pickN at_ (E.size:Int)=k at *
 have HST:=Lib.hid (fun X=>step_read13 (right_iff13.2 hrt) X)
 have HSR:=Lib.hid (fun X=>step_rt13 hrt X)
 clear hc hb hx hm hm2 hc2 hb2 hcap hp hrt ho
 go_enter Tryz.func5,Tryz.ntmps5
 go_upto_region 2 with (go_at_call 6;refine (HAW.out _).mono ?_;rintro e W1 ⟨rfl,hB⟩)
 refine wp_region_list (by13_2 W1 s x0 A0 L.length cp0 (Lib.hid (fun W h=>HS.out W (hB.trans (h.mono hB.size)))) _ _ _ _ _ _ _ _ _ _ _ _ _ _ _ _ _ _ _ _ _ _ _ _ _ _ _ _ _ _ _ _ _ _ _ _ _ _ _ _ _ _ _ _ _ _ _ _ _ _ _ _ _ _ _ _ _ _ _ _ _ _ _ _ _ _ _ _ _ _ _ _ _ _ _ _ _ _ _ _ _ _ _ _ _ _ _ _ _ _ _ _ _ _ _ _ _ _ _ _ _ _ _ _ _ _ _ _ _ _ _ _ _ _ _ _ _ _ _ _ _ _ (fun D12 A1 c1 W2 h2=>?_))
 have hB:=hB.trans (h2.below.mono hB.size)
 have i12:=h2.srv
 have hI:=h2.inS
 clear h2 HS
 go_upto_region 3 with (fail)
 refine wp_region_list (by13_3 W2 q E A9 R.length cp9 hql.1 hql.2 (Lib.hid (fun W h=>HQ.out W (hB.trans (h.mono hB.size)))) HE _ _ _ _ _ _ _ _ _ _ _ _ _ _ _ _ _ _ _ _ _ _ _ _ _ _ _ _ _ _ _ _ _ _ _ _ _ _ _ _ _ _ _ _ _ _ _ _ _ _ _ _ _ _ _ _ _ _ _ _ _ _ _ _ _ _ _ _ _ _ _ _ _ _ _ _ _ _ _ _ _ _ _ _ _ _ _ _ _ _ _ _ _ _ _ _ _ _ _ _ _ _ _ _ _ _ _ _ _ _ _ _ _ _ _ _ _ _ _ _ _ _ _ (fun B1 d1 B2 d2 W3 hb=>?_))
 have i12:=i12.below hb i12.lt
 have hI:=hI.keep hb
 have hB:=hB.trans (hb.mono hB.size)
 clear hb HQ HE hql
 go_upto_region 4 with (fail)
 refine wp_region_list (by13_4 W3 any _ (Lib.hid (run_high13 any (min (any.size:Int) 500) (by omega) (by omega))) _ _ _ _ _ _ _ _ _ _ _ _ _ _ _ _ _ _ _ _ _ _ _ _ _ _ _ _ _ _ _ _ _ _ _ _ _ _ _ _ _ _ _ _ _ _ _ _ _ _ _ _ _ _ _ _ _ _ _ _ _ _ _ _ _ _ _ _ _ _ _ _ _ _ _ _ _ _ _ _ _ _ _ _ _ _ _ _ _ _ _ _ _ _ _ _ _ _ _ _ _ _ _ _ _ _ _ _ _ _ _ _ _ _ _ _ _ _ _ _ _ _ _ ?_)
 generalize any.extract 0 (min (any.size:Int) 500).toNat=m at *
 go_upto_region 5 with (fail)
 refine wp_region_list (by13_5 W3 at_ k E HPK _ _ _ _ _ _ _ _ _ _ _ _ _ _ _ _ _ _ _ _ _ _ _ _ _ _ _ _ _ _ _ _ _ _ _ _ _ _ _ _ _ _ _ _ _ _ _ _ _ _ _ _ _ _ _ _ _ _ _ _ _ _ _ _ _ _ _ _ _ _ _ _ _ _ _ _ _ _ _ _ _ _ _ _ _ _ _ _ _ _ _ _ _ _ _ _ _ _ _ _ _ _ _ _ _ _ _ _ _ _ _ _ _ _ _ _ _ _ _ _ _ _ ?_)
 go_upto_region 6 with (fail)
 refine wp_region_list (by13_6 W3 m _ _ _ _ _ _ _ _ _ _ _ _ _ _ _ _ _ _ _ _ _ _ _ _ _ _ _ _ _ _ _ _ _ _ _ _ _ _ _ _ _ _ _ _ _ _ _ _ _ _ _ _ _ _ _ _ _ _ _ _ _ _ _ _ _ _ _ _ _ _ _ _ _ _ _ _ _ _ _ _ _ _ _ _ _ _ _ _ _ _ _ _ _ _ _ _ _ _ _ _ _ _ _ _ _ _ _ _ _ _ _ _ _ _ _ _ _ _ _ _ _ _ _ ?_)
 go_upto_region 7 with (fail)
 have z1:(E.extract 0 k.toNat).size≤E.size:=by rw [ByteArray.size_extract];omega
 have z2:(m.extract 0 (min (m.size:Int) 2).toNat).size≤2:=by rw [ByteArray.size_extract];omega
 have z3:(E.extract (min (k + min (m.size:Int) 2) (E.size:Int)).toNat E.size).size≤E.size:=by rw [ByteArray.size_extract];omega
 have z4:(E.extract 0 k.toNat ++ m.extract 0 (min (m.size:Int) 2).toNat).size=(E.extract 0 k.toNat).size + (m.extract 0 (min (m.size:Int) 2).toNat).size:=ByteArray.size_append
 refine Code.wp_mono ?_ (by13_7 W3 E m (E.extract 0 k.toNat) (m.extract 0 (min (m.size:Int) 2).toNat) (E.extract (min (k + min (m.size:Int) 2) (E.size:Int)).toNat E.size) k (by omega) (Lib.hid (run_high13 E k (by omega) (by omega))) (Lib.hid (run_high13 m (min (m.size:Int) 2) (by omega) (by omega))) (Lib.hid (run_low13 E (min (k + min (m.size:Int) 2) (E.size:Int)) (by omega) (by omega))) (Lib.hid (by omega)) (Lib.hid (by omega)) (Lib.hid (by omega)) _ _ _ _ _ _ _ _ _ _ _ _ _ _ _ _ _ _ _ _ _ _ _ _ _ _ _ _ _ _ _ _ _ _ _ _ _ _ _ _ _ _ _ _ _ _ _ _ _ _ _ _ _ _ _ _ _ _ _ _ _ _ _ _ _ _ _ _ _ _ _ _ _ _ _ _ _ _ _ _ _ _ _ _ _ _ _ _ _ _ _ _ _ _ _ _ _ _ _ _ _ _ _ _ _ _ _ _ _ _ _ _ _ _ _ _ _ _ _)
 rintro ex ⟨T,Df⟩ W4 ⟨rfl,hDf,DD,hT,hb,iD,_⟩
 simp only at hT hDf
 subst hT
 subst hDf
 have i12:=i12.below hb i12.lt
 have hI:=hI.keep hb
 have hB:=hB.trans (hb.mono hB.size)
 clear hb z1 z2 z3 z4 HPK
 generalize E.extract 0 k.toNat ++ m.extract 0 (min (m.size:Int) 2).toNat ++ E.extract (min (k + min (m.size:Int) 2) (E.size:Int)).toNat E.size=Y at *
 generalize E.extract 0 k.toNat=Y1 at *
 generalize m.extract 0 (min (m.size:Int) 2).toNat=Y3 at *
 generalize E.extract (min (k + min (m.size:Int) 2) (E.size:Int)).toNat E.size=Y4 at *
 have IDb:=Lib.hid iD
 have I12:=Lib.hid i12
 have HIb:=Lib.hid hI
 have HBb:=Lib.hid hB
 clear iD i12 hI hB
 go_wp2_with fail
 go_loopw [68] (fun i wr=>∃ j:Nat,j≤3∧i=.int .i64 (j:Int)∧Is wr DD 9 #[.string m,.string E,.string Y]∧Is wr D12 33 (srvA s A1 c1)∧InS wr s.S A1 c1∧Below w.heap.size w wr) (fun i _=>3 - (intOf i).toNat)
 case atStart=>exact ⟨0,by omega,rfl,IDb.out,I12.out,HIb.out,HBb.out⟩
 case round =>
  clear IDb I12 HIb HBb
  obtain ⟨j,hj,rfl,iD,i12,hI,hB⟩:=hrel
  by_cases hlt:j < 3
  ·
   have q1:(j:Int) < 3:=by omega
   have w1i:=IntWalk.i64_in ((j:Int) + 1) (by omega)
   obtain ⟨X,hX⟩:∃ X,wr.cell? ⟨DD,0 + j,none⟩=some (.string X):=by
    rcases (by omega:j=0∨j=1∨j=2) with e | e | e
    · subst e;exact ⟨_,iD.cell 0⟩
    · subst e;exact ⟨_,iD.cell 1⟩
    · subst e;exact ⟨_,iD.cell 2⟩
   go_upto_region 9 with (fail)
   refine wp_region_list (by13_9 wr DD 0 3 3 j X hlt hX _ _ _ _ _ _ _ _ _ _ _ _ _ _ _ _ _ _ _ _ _ _ _ _ _ _ _ _ _ _ _ _ _ _ _ _ _ _ _ _ _ _ _ _ _ _ _ _ _ _ _ _ _ _ _ _ _ _ _ _ _ _ _ _ _ _ _ _ _ _ _ _ _ _ _ _ _ _ _ _ _ _ _ _ _ _ _ _ _ _ _ _ _ _ _ _ _ _ _ _ _ _ _ _ _ _ _ _ _ _ _ _ _ _ _ _ _ _ _ _ _ _ ?_)
   clear hX
   obtain ⟨g1,g2,g3⟩:=HST.out X
   have hrt:=HSR.out X
   go_upto_region 10 with (fail)
   refine wp_region_list (by13_10 wr D12 s A1 c1 X i12 hI _ _ _ _ _ _ _ _ _ _ _ _ _ _ _ _ _ _ _ _ _ _ _ _ _ _ _ _ _ _ _ _ _ _ _ _ _ _ _ _ _ _ _ _ _ _ _ _ _ _ _ _ _ _ _ _ _ _ _ _ _ _ _ _ _ _ _ _ _ _ _ _ _ _ _ _ _ _ _ _ _ _ _ _ _ _ _ _ _ _ _ _ _ _ _ _ _ _ _ _ _ _ _ _ _ _ _ _ _ _ _ _ _ _ _ _ _ _ _ _ _ _ (fun D20 A2 c2 W5 h5=>?_))
   obtain ⟨P,hP⟩:∃ P,P=step13 s X:=⟨_,rfl⟩
   rw [← hP] at h5 g1 g2 g3 hrt ⊢
   clear hP
   have hb:=h5.below
   have iD:=iD.below hb iD.lt
   have i12:=i12.below hb i12.lt
   have hI:=hI.keep hb
   have hB:=hB.trans (hb.mono hB.size)
   have i20:=h5.srv
   have hT:=h5.inS
   clear h5 hb
   go_upto_region 11 with (fail)
   refine wp_region_list (by13_11 W5 P.2 _ _ _ _ _ _ _ _ _ _ _ _ _ _ _ _ _ _ _ _ _ _ _ _ _ _ _ _ _ _ _ _ _ _ _ _ _ _ _ _ _ _ _ _ _ _ _ _ _ _ _ _ _ _ _ _ _ _ _ _ _ _ _ _ _ _ _ _ _ _ _ _ _ _ _ _ _ _ _ _ _ _ _ _ _ _ _ _ _ _ _ _ _ _ _ _ _ _ _ _ _ _ _ _ _ _ _ _ _ _ _ _ _ _ _ _ _ _ _ _ _ _ _ (fun D22 R1 r1 W6 h6=>?_))
   obtain ⟨V,hV⟩:∃ V,V=readV11 P.2:=⟨_,rfl⟩
   rw [← hV] at h6 g1 g2 g3 ⊢
   clear hV
   have hb:=h6.below
   have iD:=iD.below hb iD.lt
   have i12:=i12.below hb i12.lt
   have i20:=i20.below hb i20.lt
   have hI:=hI.keep hb
   have hT:=hT.keep hb
   have hB:=hB.trans (hb.mono hB.size)
   have i22:=h6.rsp
   clear h6 hb
   go_upto_region 12 with (fail)
   refine wp_region_list (by13_12 W6 X _ _ _ _ _ _ _ _ _ _ _ _ _ _ _ _ _ _ _ _ _ _ _ _ _ _ _ _ _ _ _ _ _ _ _ _ _ _ _ _ _ _ _ _ _ _ _ _ _ _ _ _ _ _ _ _ _ _ _ _ _ _ _ _ _ _ _ _ _ _ _ _ _ _ _ _ _ _ _ _ _ _ _ _ _ _ _ _ _ _ _ _ _ _ _ _ _ _ _ _ _ _ _ _ _ _ _ _ _ _ _ _ _ _ _ _ _ _ _ _ _ _ _ (fun D24 B3 d3 B4 d4 W7 h7=>?_))
   obtain ⟨F,hF⟩:∃ F,F=decV11 X:=⟨_,rfl⟩
   rw [← hF] at h7 g2 g3 ⊢
   clear hF
   have hb:=h7.below
   have iD:=iD.below hb iD.lt
   have i12:=i12.below hb i12.lt
   have i20:=i20.below hb i20.lt
   have i22:=i22.below hb i22.lt
   have hI:=hI.keep hb
   have hT:=hT.keep hb
   have hB:=hB.trans (hb.mono hB.size)
   have i24:=h7.req
   clear h7 hb
   rw [g1]
   clear g1
   obtain ⟨P1,P2⟩:=P
   obtain ⟨V1,V2⟩:=V
   obtain ⟨F1,F2⟩:=F
   simp only at *
   go_upto_region 13 with (fail)
   by_cases hf:F2=0
   ·
    subst hf
    have hk:=g3 rfl
    clear g2 g3
    rw [← hk] at i24
    refine wp_region_list (by13_13a W7 D12 D20 D22 D24 P1 A2 c2 V1.k V1.st V1.many V1.room R1 B3 B4 V1.C.length r1 F1.L.length d3 F1.C.length d4 (right_iff13.2 hrt) i20 hT i22 i24 _ _ _ _ _ _ _ _ _ _ _ _ _ _ _ _ _ _ _ _ _ _ _ _ _ _ _ _ _ _ _ _ _ _ _ _ _ _ _ _ _ _ _ _ _ _ _ _ _ _ _ _ _ _ _ _ _ _ _ _ _ _ _ _ _ _ _ _ _ _ _ _ _ _ _ _ _ _ _ _ _ _ _ _ _ _ _ _ _ _ _ _ _ _ _ _ _ _ _ _ _ _ _ _ _ _ _ _ _ _ _ _ _ _ _ _ _ _ (fun W8 hb=>?_))
    have iD:=iD.below hb iD.lt
    have i12:=i12.below hb i12.lt
    have hI:=hI.keep hb
    have hB:=hB.trans (hb.mono hB.size)
    clear hb i20 i22 i24 hT hrt
    go_wp2
    go_roundw
    case rel=>exact ⟨j + 1,by omega,by go_num,iD,i12,hI,hB⟩
    case measure=>simp [intOf];omega
   ·
    obtain ⟨hk,he⟩:=g2 hf
    clear g2 g3
    subst he
    rw [hk] at i22
    refine wp_region_list (by13_13b W7 D12 D20 D22 D24 P1 A2 c2 F2 V1.st V1.many V1.room A1 c1 R1 V1.C.length r1 (right_iff13.2 hrt) i20 hT i22 hf hlen i12 hI _ _ _ _ _ _ _ _ _ _ _ _ _ _ _ _ _ _ _ _ _ _ _ _ _ _ _ _ _ _ _ _ _ _ _ _ _ _ _ _ _ _ _ _ _ _ _ _ _ _ _ _ _ _ _ _ _ _ _ _ _ _ _ _ _ _ _ _ _ _ _ _ _ _ _ _ _ _ _ _ _ _ _ _ _ _ _ _ _ _ _ _ _ _ _ _ _ _ _ _ _ _ _ _ _ _ _ _ _ _ _ _ _ _ _ _ _ _ (fun W8 hb=>?_))
    have iD:=iD.below hb iD.lt
    have i12:=i12.below hb i12.lt
    have hI:=hI.keep hb
    have hB:=hB.trans (hb.mono hB.size)
    clear hb i20 i22 i24 hT hrt
    go_wp2
    go_roundw
    case rel=>exact ⟨j + 1,by omega,by go_num,iD,i12,hI,hB⟩
    case measure=>simp [intOf];omega
  ·
   have q1:¬ (j:Int) < 3:=by omega
   have HBB:=Lib.hid hB
   go_wp2
   go_ret
   exact ⟨rfl,HBB.out⟩
end Go.Proofs.YtmggbbmpckcleaaGreat
