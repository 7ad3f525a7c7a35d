import Derived.Test.YtmggbbmpckcleaaGreatWirM
set_option maxRecDepth 100000
set_option maxHeartbeats 16000000
namespace Go.Proofs.YtmggbbmpckcleaaGreat
open Go.RowKit Go.Shelf
theorem denc11_reg (W0:World) (DQ:Nat) (k:Int) (A A2:Option Addr) (c c2 nl nc:Nat) (s1 s2 s3:ByteArray) (Q1:Hid (¬ 9223372036854775807 < s1.size + s2.size)) (Q2:Hid (¬ 9223372036854775807 < (s1 ++ s2).size + s3.size)) (Q3:Hid (¬ 9223372036854775807 < s1.size + s2.size + s3.size)) (N1:Hid (∀ W,Calls Tryz.prog 41 #[.int .i64 k] W fun e w'=>e=.returned (.string s1)∧Below W.heap.size W w'))
  (N2:Hid (∀ W,Below W0.heap.size W0 W→Calls Tryz.prog 42 #[.slice A nl c] W fun e w'=>e=.returned (.string s2)∧Below W.heap.size W w')) (N3:Hid (∀ W,Below W0.heap.size W0 W→Calls Tryz.prog 42 #[.slice A2 nc c2] W fun e w'=>e=.returned (.string s3)∧Below W.heap.size W w')) (iq:Is W0 DQ 26 #[.int .i64 k,.slice A nl c,.slice A2 nc c2]) (x0 x2 x3 x4 x5 x6 x7 x8 x9 Xa Xb Xc Xd Xe Xf Xg Xh:Value) :
  (Code.region 3 (opsOf Tryz.f18 3) true).wp Tryz.prog (fun ex YY W=>ex=.normal∧YY.defers=[]∧∃ (_:Unit),YY.tmps=#[x0,.pointer (some ⟨DQ,0,none⟩),.string (s1 ++ s2 ++ s3),.int .i64 0,x4,x5,x6,.pointer (some ⟨DQ,0,none⟩),.int .i64 k,.string s1,.pointer (some ⟨DQ,1,none⟩),.slice A nl c,.string s2,.string (s1 ++ s2),.pointer (some ⟨DQ,2,none⟩),.slice A2 nc c2,.string s3,.string (s1 ++ s2 ++ s3)]∧Below W0.heap.size W0 W) { tmps:=#[x0,.pointer (some ⟨DQ,0,none⟩),x2,x3,x4,x5,x6,x7,x8,x9,Xa,Xb,Xc,Xd,Xe,Xf,Xg,Xh],defers:=[] } W0:=by
 have hB:Below W0.heap.size W0 (W0.drewN 1):=belowN (Below.refl _ _) 1
 generalize hQ:(fun (ex:Exit) (YY:Act) (W:World)=>ex=.normal∧YY.defers=[]∧∃ (_:Unit),YY.tmps=#[x0,.pointer (some ⟨DQ,0,none⟩),.string (s1 ++ s2 ++ s3),.int .i64 0,x4,x5,x6,.pointer (some ⟨DQ,0,none⟩),.int .i64 k,.string s1,.pointer (some ⟨DQ,1,none⟩),.slice A nl c,.string s2,.string (s1 ++ s2),.pointer (some ⟨DQ,2,none⟩),.slice A2 nc c2,.string s3,.string (s1 ++ s2 ++ s3)]∧Below W0.heap.size W0 W)=Q
 have HQN:∀ c a W,¬ Q (.panic c) a W:=fun c a W h=>by subst hQ;exact nomatch h.1
 have ST2_5_9:∀ (W:World),Below W0.heap.size W0 W→wpAnyH Tryz.prog .any (opsOf Tryz.f18 3) Q (fun W=>Below W0.heap.size W0 W) 0 #[true,true,true,true,true,true,true,true,true,true,true,true,true] { tmps:=#[x0,.pointer (some ⟨DQ,0,none⟩),.string (s1 ++ s2 ++ s3),.int .i64 0,x4,x5,x6,.pointer (some ⟨DQ,0,none⟩),.int .i64 k,.string s1,.pointer (some ⟨DQ,1,none⟩),.slice A nl c,.string s2,.string (s1 ++ s2),.pointer (some ⟨DQ,2,none⟩),.slice A2 nc c2,.string s3,.string (s1 ++ s2 ++ s3)],defers:=[] } W:=by
  intro W hB
  refine wpAnyH_done (by kernel_rfl) ?_ _
  subst hQ
  exact ⟨rfl,rfl,(),rfl,hB⟩
 have ST2_5:∀ (W:World),Below W0.heap.size W0 W→wpAnyH Tryz.prog .any (opsOf Tryz.f18 3) Q (fun W=>Below W0.heap.size W0 W) 4 #[true,true,true,true,true,true,true,true,true,false,false,false,false] { tmps:=#[x0,.pointer (some ⟨DQ,0,none⟩),x2,x3,x4,x5,x6,.pointer (some ⟨DQ,0,none⟩),.int .i64 k,.string s1,.pointer (some ⟨DQ,1,none⟩),.slice A nl c,.string s2,.string (s1 ++ s2),.pointer (some ⟨DQ,2,none⟩),.slice A2 nc c2,Xg,Xh],defers:=[] } W:=by
  intro W hB
  refine wpAnyH_ready (by kernel_rfl) (by simp) (AllReadyH.cons (i:=9) (at_nth rfl) ?_ (AllReadyH.nil))
  ·
   refine arm10_call (by kernel_rfl) (fun wy=>by kernel_rfl) ((N3.out _ hB).mono ?_)
   rintro e Wn ⟨rfl,hb⟩
   replace hB:=hB.trans (hb.mono hB.size)
   clear hb
   refine ⟨_,rfl,hB,?_⟩
   simp only [Act.put,zz0,zz1,zz2]
   refine wpP (i:=10) (v:=.string (s1 ++ s2 ++ s3)) HQN rfl (fun w hSw=>by (have q2:=Q2.out;have q3:=Q3.out;go_simp)) hB ?_
   simp only [Act.put,zz0,zz1,zz2]
   refine wpP (i:=11) (v:=.string (s1 ++ s2 ++ s3)) HQN rfl (fun w hSw=>by kernel_rfl) hB ?_
   simp only [Act.put,zz0,zz1,zz2]
   refine wpP (i:=12) (v:=.int .i64 0) HQN rfl (fun w hSw=>by kernel_rfl) hB ?_
   simp only [Act.put,zz0,zz1,zz2]
   exact ST2_5_9 _ hB
 have ST2:∀ (W:World),Below W0.heap.size W0 W→wpAnyH Tryz.prog .any (opsOf Tryz.f18 3) Q (fun W=>Below W0.heap.size W0 W) 6 #[true,true,true,true,true,false,false,true,true,false,false,false,false] { tmps:=#[x0,.pointer (some ⟨DQ,0,none⟩),x2,x3,x4,x5,x6,.pointer (some ⟨DQ,0,none⟩),.int .i64 k,.string s1,.pointer (some ⟨DQ,1,none⟩),.slice A nl c,Xc,Xd,.pointer (some ⟨DQ,2,none⟩),.slice A2 nc c2,Xg,Xh],defers:=[] } W:=by
  intro W hB
  refine wpAnyH_ready (by kernel_rfl) (by simp) (AllReadyH.cons (i:=5) (at_nth rfl) ?_ (AllReadyH.nil))
  ·
   refine arm10_call (by kernel_rfl) (fun wy=>by kernel_rfl) ((N2.out _ hB).mono ?_)
   rintro e Wn ⟨rfl,hb⟩
   replace hB:=hB.trans (hb.mono hB.size)
   clear hb
   refine ⟨_,rfl,hB,?_⟩
   simp only [Act.put,zz0,zz1,zz2]
   refine wpP (i:=6) (v:=.string (s1 ++ s2)) HQN rfl (fun w hSw=>by (have q1:=Q1.out;go_simp)) hB ?_
   simp only [Act.put,zz0,zz1,zz2]
   exact ST2_5 _ hB
 have ST:∀ (W:World),Below W0.heap.size W0 W→wpAnyH Tryz.prog .any (opsOf Tryz.f18 3) Q (fun W=>Below W0.heap.size W0 W) 7 #[true,true,false,true,true,false,false,true,true,false,false,false,false] { tmps:=#[x0,.pointer (some ⟨DQ,0,none⟩),x2,x3,x4,x5,x6,.pointer (some ⟨DQ,0,none⟩),.int .i64 k,x9,.pointer (some ⟨DQ,1,none⟩),.slice A nl c,Xc,Xd,.pointer (some ⟨DQ,2,none⟩),.slice A2 nc c2,Xg,Xh],defers:=[] } W:=by
  intro W hB
  refine wpAnyH_ready (by kernel_rfl) (by simp) (AllReadyH.cons (i:=2) (at_nth rfl) ?_ (AllReadyH.nil))
  ·
   refine arm10_call (by kernel_rfl) (fun wy=>by kernel_rfl) ((N1.out _).mono ?_)
   rintro e Wn ⟨rfl,hb⟩
   replace hB:=hB.trans (hb.mono hB.size)
   clear hb
   refine ⟨_,rfl,hB,?_⟩
   simp only [Act.put,zz0,zz1,zz2]
   exact ST2 _ hB
 refine wp_region_held_drew (S:=fun W=>Below W0.heap.size W0 W) (by kernel_rfl) hB (fun hS=>?_)
 change wpAnyH _ _ (opsOf Tryz.f18 3) _ _ 13 (Array.replicate 13 false) _ (W0.drewN 1)
 clear hS
 replace hB:Below W0.heap.size W0 (W0.drewN 1):=belowN (Below.refl _ _) 1
 refine wpP (i:=0) (v:=.pointer (some ⟨DQ,0,none⟩)) HQN rfl (fun w hSw=>by go_simp) hB ?_
 simp only [Act.put,zz0,zz1,zz2]
 refine wpP (i:=1) (v:=.int .i64 k) HQN rfl (fun w hSw=>by (have hc:=(iq.below hSw iq.lt).cell 0;go_simp)) hB ?_
 simp only [Act.put,zz0,zz1,zz2]
 refine wpP (i:=3) (v:=.pointer (some ⟨DQ,1,none⟩)) HQN rfl (fun w hSw=>by go_simp) hB ?_
 simp only [Act.put,zz0,zz1,zz2]
 refine wpP (i:=4) (v:=.slice A nl c) HQN rfl (fun w hSw=>by (have hc:=(iq.below hSw iq.lt).cell 1;go_simp)) hB ?_
 simp only [Act.put,zz0,zz1,zz2]
 refine wpP (i:=7) (v:=.pointer (some ⟨DQ,2,none⟩)) HQN rfl (fun w hSw=>by go_simp) hB ?_
 simp only [Act.put,zz0,zz1,zz2]
 refine wpP (i:=8) (v:=.slice A2 nc c2) HQN rfl (fun w hSw=>by (have hc:=(iq.below hSw iq.lt).cell 2;go_simp)) hB ?_
 simp only [Act.put,zz0,zz1,zz2]
 exact ST _ hB
theorem denc_any11 (k:Int) (A A2:Option Addr) (c c2:Nat) (L C:List ByteArray) (w:World) (hl:L.length≤9223372036854775807) (hl2:C.length≤9223372036854775807) (hc:InV w A (tL10 L)) (hc2:InV w A2 (tL10 C)) :
  Calls Tryz.prog 18 #[.agg #[.int .i64 k,.slice A L.length c,.slice A2 C.length c2]] w fun e w'=>e=.returned (encR11 ⟨k,L,C⟩)∧Below w.heap.size w w':=by
 obtain ⟨W1,hW1⟩:∃ W1,W1=w.alloc (.cells #[.int .i64 k,.slice A L.length c,.slice A2 C.length c2] 26):=⟨_,rfl⟩
 have iq:Is W1 w.heap.size 26 #[.int .i64 k,.slice A L.length c,.slice A2 C.length c2]:=by rw [hW1];exact Is.new _ _ _
 have hB:Below w.heap.size w W1:=by rw [hW1];exact (Below.refl _ _).alloc (Nat.le_refl _) _
 have M:=Lib.hid (dright_any11 k A A2 c c2 L C W1 hl hl2 (hc.keep hB) (hc2.keep hB))
 have HC1:=Lib.hid hc
 have HC2:=Lib.hid hc2
 clear hc hc2
 have IQ:=Lib.hid iq
 clear iq
 cases hr:right11 ⟨k,L,C⟩ with
 | false =>
  have HR:=Lib.hid (show encR11 ⟨k,L,C⟩=.tuple #[.string ⟨#[]⟩,.int .i64 1] by rw [encR11,encV11,hr];rfl)
  rw [hr] at M
  go_enter Tryz.func18,Tryz.ntmps18
  go_wp2_with fail
  rw [← hW1]
  clear hW1
  go_wp2_with (refine wpList_load_row rfl 26 _ rfl w.heap.size rfl _ _ _ _ IQ.out Tryz.underlying26 rfl infoReq11 ?_)
  refine M.out.mono ?_
  rintro e w2 ⟨rfl,hb⟩
  have hB2:=hB.trans (hb.mono hB.size)
  clear hb
  go_wp2
  go_ret2
  exact ⟨by rw [HR.out];rfl,hB2⟩
 | true =>
  obtain ⟨b1,b2,b3,b4,b5,b6,b7⟩:=right_bd11 hr
  have HR:=Lib.hid (show encR11 ⟨k,L,C⟩=.tuple #[.string (num10 k ++ lst10 L ++ lst10 C),.int .i64 0] by rw [encR11,encV11,hr];rfl)
  rw [hr] at M
  simp only at b1 b2 b3 b4 b5 b6 b7
  have N1:=Lib.hid (fun W=>dnumS_any11 k W)
  rw [numV_ok11 (by omega) (by omega)] at N1
  have N2:=fun W h=>dwhole_any11 A c L W b2 h
  rw [lstV_ok11 (by omega) (by omega)] at N2
  have N3:=fun W h=>dwhole_any11 A2 c2 C W b3 h
  rw [lstV_ok11 (by omega) (by omega)] at N3
  have hn:=num_size10 k
  have N2':=Lib.hid N2
  have N3':=Lib.hid N3
  clear N2 N3 b2 b3 hr
  generalize num10 k=s1 at *
  generalize lst10 L=s2 at *
  generalize lst10 C=s3 at *
  have z1:(s1 ++ s2).size=(s1).size + s2.size:=ByteArray.size_append
  have Q1:=Lib.hid (show ¬ 9223372036854775807 < s1.size + s2.size by omega)
  have Q2:=Lib.hid (show ¬ 9223372036854775807 < (s1 ++ s2).size + s3.size by omega)
  have Q3:=Lib.hid (show ¬ 9223372036854775807 < s1.size + s2.size + s3.size by omega)
  clear z1 hn b4 b5
  go_enter Tryz.func18,Tryz.ntmps18
  go_wp2_with fail
  rw [← hW1]
  clear hW1
  go_wp2_with (refine wpList_load_row rfl 26 _ rfl w.heap.size rfl _ _ _ _ IQ.out Tryz.underlying26 rfl infoReq11 ?_)
  refine M.out.mono ?_
  rintro e w2 ⟨rfl,hb⟩
  have hB2:=hB.trans (hb.mono hB.size)
  have iq2:=IQ.out.below hb IQ.out.lt
  clear hb
  go_wp2
  refine Code.wp_mono ?_ (denc11_reg w2 w.heap.size k A A2 c c2 L.length C.length s1 s2 s3 Q1 Q2 Q3 N1 (Lib.hid fun W h=>N2'.out W (HC1.out.keep (hB2.trans (h.mono hB2.size)))) (Lib.hid fun W h=>N3'.out W (HC2.out.keep (hB2.trans (h.mono hB2.size)))) iq2 _ _ _ _ _ _ _ _ _ _ _ _ _ _ _ _ _)
  rintro ex ⟨T,D⟩ W3 ⟨rfl,hD,_,hT,hB3⟩
  simp only at hT hD
  subst hT
  subst hD
  have hB4:=hB2.trans (hB3.mono hB2.size)
  clear hB3
  go_wp2
  go_ret2
  exact ⟨by rw [HR.out];rfl,hB4⟩
end Go.Proofs.YtmggbbmpckcleaaGreat
