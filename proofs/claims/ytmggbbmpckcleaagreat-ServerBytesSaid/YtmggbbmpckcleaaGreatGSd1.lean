import Derived.Test.YtmggbbmpckcleaaGreatGSr2
import Derived.Test.YtmggbbmpckcleaaGreatGBr2
import Derived.Test.YtmggbbmpckcleaaGreatWirM
set_option maxRecDepth 100000
set_option maxHeartbeats 16000000
namespace Go.Proofs.YtmggbbmpckcleaaGreat
open Go.RowKit Go.Shelf
theorem own13_1 (W0:World) (B0 D1 D2:Nat) (s:Srv13) (A:Option Addr) (c:Nat) (hf:s.S.B.length≤4096) (i1:Is W0 D1 33 (srvA s A c)) (i2:Is W0 D2 33 #[.slice none 0 0,.int .i64 0,.int .i64 0,.int .i64 0]) (hI:InS W0 s.S A c) (hD2:B0≤D2) (h12:D1≠D2) (hsz:B0≤W0.heap.size) (x0 x3 x4 x5 x6 x7 x8:Value) :
  (Code.region 1 (opsOf Tryz.f36 1) true).wp Tryz.prog (fun ex YY W=>ex=.normal∧YY.defers=[]∧∃ (A1:Option Addr) (c1:Nat),YY.tmps=#[x0,.pointer (some ⟨D1,0,none⟩),.pointer (some ⟨D2,0,none⟩),.pointer (some ⟨D1,0,none⟩),.agg (stoA s.S A c),.agg (stoA s.S A1 c1),.pointer (some ⟨D1,3,none⟩),.int .i64 s.lim,.agg (srvA s A1 c1)]∧Below B0 W0 W∧Is W D1 33 (srvA s A c)∧InS W s.S A1 c1∧Is W D2 33 (srvA s A1 c1)) { tmps:=#[x0,.pointer (some ⟨D1,0,none⟩),.pointer (some ⟨D2,0,none⟩),x3,x4,x5,x6,x7,x8],defers:=[] } W0:=by
 have hB:Below B0 W0 (W0.drewN 1):=belowN (Below.refl _ _) 1
 generalize hQ:(fun (ex:Exit) (YY:Act) (W:World)=>ex=.normal∧YY.defers=[]∧∃ (A1:Option Addr) (c1:Nat),YY.tmps=#[x0,.pointer (some ⟨D1,0,none⟩),.pointer (some ⟨D2,0,none⟩),.pointer (some ⟨D1,0,none⟩),.agg (stoA s.S A c),.agg (stoA s.S A1 c1),.pointer (some ⟨D1,3,none⟩),.int .i64 s.lim,.agg (srvA s A1 c1)]∧Below B0 W0 W∧Is W D1 33 (srvA s A c)∧InS W s.S A1 c1∧Is W D2 33 (srvA s A1 c1))=Q
 have HQN:∀ c a W,¬ Q (.panic c) a W:=fun c a W h=>by subst hQ;exact nomatch h.1
 have ST2_6:∀ (W:World) (A1:Option Addr) (c1:Nat),Below B0 W0 W→Is W D1 33 (srvA s A c)→InS W s.S A1 c1→Is W D2 33 (srvA s A1 c1)→wpAnyH Tryz.prog .any (opsOf Tryz.f36 1) Q (fun W=>Below B0 W0 W∧Is W D1 33 (srvA s A c)) 0 #[true,true,true,true,true,true,true] { tmps:=#[x0,.pointer (some ⟨D1,0,none⟩),.pointer (some ⟨D2,0,none⟩),.pointer (some ⟨D1,0,none⟩),.agg (stoA s.S A c),.agg (stoA s.S A1 c1),.pointer (some ⟨D1,3,none⟩),.int .i64 s.lim,.agg (srvA s A1 c1)],defers:=[] } W:=by
  intro W A1 c1 hB i1 hX j2
  refine wpAnyH_done (by kernel_rfl) ?_ _
  subst hQ
  exact ⟨rfl,rfl,A1,c1,rfl,hB,i1,hX,j2⟩
 have ST2:∀ (W:World) (A1:Option Addr) (c1:Nat),Below B0 W0 W→Is W D1 33 (srvA s A c)→Is W D2 33 #[.slice none 0 0,.int .i64 0,.int .i64 0,.int .i64 0]→InS W s.S A1 c1→wpAnyH Tryz.prog .any (opsOf Tryz.f36 1) Q (fun W=>Below B0 W0 W∧Is W D1 33 (srvA s A c)) 1 #[true,true,true,true,true,true,false] { tmps:=#[x0,.pointer (some ⟨D1,0,none⟩),.pointer (some ⟨D2,0,none⟩),.pointer (some ⟨D1,0,none⟩),.agg (stoA s.S A c),.agg (stoA s.S A1 c1),.pointer (some ⟨D1,3,none⟩),.int .i64 s.lim,.agg (srvA s A1 c1)],defers:=[] } W:=by
  intro W A1 c1 hB i1 i2 hX
  refine wpAnyH_ready (by kernel_rfl) (by simp) (AllReadyH.cons (i:=6) (at_nth rfl) ?_ (AllReadyH.nil))
  ·
   have hone:=srvA_one13 s A1 c1
   have j2:=i2.row (srvA s A1 c1)
   replace hX:=hX.noS13 i2 rfl (grownRowG W D2 (srvA s A1 c1))
   have hB2:=belowRow hB hD2 (srvA s A1 c1)
   have i12:=i1.rowFar (k:=D2) h12 (srvA s A1 c1)
   refine arm10_skip (w':=W.setRow D2 (srvA s A1 c1)) (by kernel_rfl) (run_row10 (x:=.tmp 2) (y:=.tmp 8) (by kernel_rfl) (by kernel_rfl) (by kernel_rfl) i2 infoSrv13 rfl hone) ⟨hB2,i12⟩ ?_
   try simp only [Act.put]
   replace hB:=hB2
   replace i1:=i12
   clear i2
   exact ST2_6 _ _ _ hB i1 hX j2
 have ST:∀ (W:World),Below B0 W0 W→Is W D1 33 (srvA s A c)→InS W s.S A c→Is W D2 33 #[.slice none 0 0,.int .i64 0,.int .i64 0,.int .i64 0]→wpAnyH Tryz.prog .any (opsOf Tryz.f36 1) Q (fun W=>Below B0 W0 W∧Is W D1 33 (srvA s A c)) 3 #[true,true,false,true,true,false,false] { tmps:=#[x0,.pointer (some ⟨D1,0,none⟩),.pointer (some ⟨D2,0,none⟩),.pointer (some ⟨D1,0,none⟩),.agg (stoA s.S A c),x5,.pointer (some ⟨D1,3,none⟩),.int .i64 s.lim,x8],defers:=[] } W:=by
  intro W hB i1 hI i2
  refine wpAnyH_ready (by kernel_rfl) (by simp) (AllReadyH.cons (i:=2) (at_nth rfl) ?_ (AllReadyH.nil))
  ·
   refine arm10_call (by kernel_rfl) (fun wy=>by kernel_rfl) ((down_any12 s.S A c W hI hf).mono ?_)
   rintro e Wn ⟨A1,c1,rfl,hr,hb⟩
   have hX:InS Wn s.S A1 c1:=RowB.inS hr hf
   replace i1:=i1.below hb i1.lt
   replace i2:=i2.below hb i2.lt
   replace hB:=hB.trans (hb.mono (Nat.le_trans hsz hB.size))
   clear hb hr
   refine ⟨_,rfl,⟨hB,i1⟩,?_⟩
   simp only [Act.put,zz0,zz1,zz2]
   refine wpP (i:=5) (v:=.agg (srvA s A1 c1)) HQN rfl (fun w hSw=>by go_simp) ⟨hB,i1⟩ ?_
   simp only [Act.put,zz0,zz1,zz2]
   exact ST2 _ _ _ hB i1 i2 hX
 refine wp_region_held_drew (S:=fun W=>Below B0 W0 W∧Is W D1 33 (srvA s A c)) (by kernel_rfl) ⟨hB,i1⟩ (fun hS=>?_)
 change wpAnyH _ _ (opsOf Tryz.f36 1) _ _ 7 (Array.replicate 7 false) _ (W0.drewN 1)
 clear hS
 replace hB:Below B0 W0 (W0.drewN 1):=belowN (Below.refl _ _) 1
 replace i1:=i1.drewN 1
 replace i2:=i2.drewN 1
 replace hI:=hI.keep (belowN (Below.refl _ _) 1)
 refine wpP (i:=0) (v:=.pointer (some ⟨D1,0,none⟩)) HQN rfl (fun w hSw=>by go_simp) ⟨hB,i1⟩ ?_
 simp only [Act.put,zz0,zz1,zz2]
 refine wpP (i:=1) (v:=.agg (stoA s.S A c)) HQN rfl (fun w hSw=>by exact run_load_midO12 (x:=.tmp 3) (by kernel_rfl) (by kernel_rfl) (hSw.2.srv13) Tryz.underlying31 rfl infoSto12) ⟨hB,i1⟩ ?_
 simp only [Act.put,zz0,zz1,zz2]
 refine wpP (i:=3) (v:=.pointer (some ⟨D1,3,none⟩)) HQN rfl (fun w hSw=>by go_simp) ⟨hB,i1⟩ ?_
 simp only [Act.put,zz0,zz1,zz2]
 refine wpP (i:=4) (v:=.int .i64 s.lim) HQN rfl (fun w hSw=>by (have hc:=hSw.2.cell 3;go_simp)) ⟨hB,i1⟩ ?_
 simp only [Act.put,zz0,zz1,zz2]
 exact ST _ hB i1 hI i2
theorem down13_any (s:Srv13) (A:Option Addr) (c:Nat) (w:World) (h:InS w s.S A c) (hf:s.S.B.length≤4096) :
  Calls Tryz.prog 36 #[srvV s A c] w fun e w'=>∃ A1 c1,e=.returned (srvV s A1 c1)∧InS w' s.S A1 c1∧Below w.heap.size w w':=by
 obtain ⟨W1,hW1⟩:∃ W1,W1=(w.alloc (.cells (srvA s A c) 33)).alloc (.cells #[.slice none 0 0,.int .i64 0,.int .i64 0,.int .i64 0] 33):=⟨_,rfl⟩
 have i1:Is W1 w.heap.size 33 (srvA s A c):=by rw [hW1];exact heap_alloc2_old _ _ _
 have i2:Is W1 (w.heap.size + 1) 33 #[.slice none 0 0,.int .i64 0,.int .i64 0,.int .i64 0]:=by rw [hW1];exact heap_alloc2_new _ _ _
 have hB1:Below w.heap.size w W1:=by rw [hW1];exact ((Below.refl _ _).alloc (Nat.le_refl _) _).alloc (by simp) _
 go_enter Tryz.func36,Tryz.ntmps36
 go_upto_region 1 with (fail)
 rw [← hW1]
 clear hW1
 refine Code.wp_mono ?_ (own13_1 W1 w.heap.size w.heap.size (w.heap.size + 1) s A c hf i1 i2 (h.keep hB1) (by omega) (by omega) hB1.size _ _ _ _ _ _ _)
 rintro ex ⟨T,Df⟩ W2 ⟨rfl,hDf,A1,c1,hT,hB2,_,hX,j2⟩
 simp only at hT hDf
 subst hT
 subst hDf
 go_wp2
 exact bodyPost_ret (results_cell_row Tryz.results36 _ _ (w.heap.size + 1) 33 _ (0,0) _ rfl j2 Tryz.underlying33 rfl infoSrv13) rfl ⟨A1,c1,rfl,hX,hB1.trans hB2⟩
theorem dright13_any (s:Srv13) (A:Option Addr) (c:Nat) (w:World) (h:InS w s.S A c) :
  Calls Tryz.prog 13 #[srvV s A c] w fun e w'=>e=.returned (.bool (right13 s))∧Below w.heap.size w w':=by
 have i0:=Is.new w 33 (srvA s A c)
 have hB0:Below w.heap.size w (w.alloc (.cells (srvA s A c) 33)):=(Below.refl _ _).alloc (Nat.le_refl _) _
 have HB:=Lib.hid (dright_any12 s.S A c _ (h.keep hB0))
 have r0:=i0.srv13
 obtain ⟨R,hR⟩:∃ R,R=right13 s:=⟨_,rfl⟩
 rw [← hR]
 cases hr:right12 s.S with
 | false =>
  rw [hr] at HB
  have HR:=Lib.hid (show R=false by rw [hR,right13,hr];rfl)
  clear hr hR h
  go_enter Tryz.func13,Tryz.ntmps13
  go_wp2_with (first | (refine wpList_load_mid rfl 31 _ rfl w.heap.size 0 rfl _ _ r0 Tryz.underlying31 rfl infoSto12 ?_) | (go_at_call 30;refine HB.out.mono ?_;rintro e w1 ⟨rfl,hb⟩))
  go_ret
  exact ⟨by rw [HR.out];rfl,hB0.trans (hb.mono hB0.size)⟩
 | true =>
  rw [hr] at HB
  by_cases h0:0≤s.lim
  ·
   by_cases h1:s.lim≤2000
   ·
    have HR:=Lib.hid (show R=decide (s.S.many≤s.lim) by rw [hR,right13,hr,decide_eq_true h0,decide_eq_true h1];simp)
    clear hr hR h
    go_enter Tryz.func13,Tryz.ntmps13
    go_wp2_with (first | (refine wpList_load_mid rfl 31 _ rfl w.heap.size 0 rfl _ _ r0 Tryz.underlying31 rfl infoSto12 ?_) | (go_at_call 30;refine HB.out.mono ?_;rintro e w1 ⟨rfl,hb⟩;have i1:=i0.below hb i0.lt;have c1:w1.cell? ⟨w.heap.size,1,none⟩=some (.int .i64 s.S.many):=i1.cell 1;have c3:w1.cell? ⟨w.heap.size,3,none⟩=some (.int .i64 s.lim):=i1.cell 3))
    go_ret
    exact ⟨by rw [HR.out];rfl,hB0.trans (hb.mono hB0.size)⟩
   ·
    have HR:=Lib.hid (show R=false by rw [hR,right13,decide_eq_false h1];simp)
    clear hr hR h
    go_enter Tryz.func13,Tryz.ntmps13
    go_wp2_with (first | (refine wpList_load_mid rfl 31 _ rfl w.heap.size 0 rfl _ _ r0 Tryz.underlying31 rfl infoSto12 ?_) | (go_at_call 30;refine HB.out.mono ?_;rintro e w1 ⟨rfl,hb⟩;have i1:=i0.below hb i0.lt;have c3:w1.cell? ⟨w.heap.size,3,none⟩=some (.int .i64 s.lim):=i1.cell 3))
    go_ret
    exact ⟨by rw [HR.out];rfl,hB0.trans (hb.mono hB0.size)⟩
  ·
   have HR:=Lib.hid (show R=false by rw [hR,right13,decide_eq_false h0];simp)
   clear hr hR h
   go_enter Tryz.func13,Tryz.ntmps13
   go_wp2_with (first | (refine wpList_load_mid rfl 31 _ rfl w.heap.size 0 rfl _ _ r0 Tryz.underlying31 rfl infoSto12 ?_) | (go_at_call 30;refine HB.out.mono ?_;rintro e w1 ⟨rfl,hb⟩;have i1:=i0.below hb i0.lt;have c3:w1.cell? ⟨w.heap.size,3,none⟩=some (.int .i64 s.lim):=i1.cell 3))
   go_ret
   exact ⟨by rw [HR.out];rfl,hB0.trans (hb.mono hB0.size)⟩
theorem dnew13_any (n:Int) (w:World) :
  Calls Tryz.prog 8 #[.int .i64 n] w fun e w'=>∃ A c,e=.returned (.tuple #[srvV (newS13 n).1 A c,.int .i64 (newS13 n).2])∧InS w' (newS13 n).1.S A c∧Below w.heap.size w w':=by
 have i0:Is (w.alloc (.cells #[.slice none 0 0,.int .i64 0,.int .i64 0,.int .i64 0] 33)) w.heap.size 33 #[.slice none 0 0,.int .i64 0,.int .i64 0,.int .i64 0]:=Is.new _ _ _
 have hB:Below w.heap.size w (w.alloc (.cells #[.slice none 0 0,.int .i64 0,.int .i64 0,.int .i64 0] 33)):=(Below.refl _ _).alloc (Nat.le_refl _) _
 generalize hW0:w.alloc (.cells #[.slice none 0 0,.int .i64 0,.int .i64 0,.int .i64 0] 33)=W0 at *
 by_cases h0:0≤n
 ·
  by_cases h1:n≤2000
  ·
   have hl:lim13 n=true:=by rw [lim13,decide_eq_true h0,decide_eq_true h1];rfl
   have hv:newS13 n=(⟨⟨new12 8,0,0⟩,n⟩,0):=by rw [newS13,hl];rfl
   rw [hv]
   have HN:=Lib.hid (fun W=>dnew_any12 8 W)
   rw [show newV12 8=(⟨new12 8,0,0⟩,0) from rfl] at HN
   clear hv
   go_enter Tryz.func8,Tryz.ntmps8
   go_upto_region 1 with (fail)
   clear hW0
   go_upto_region 3 with (fail)
   go_wp2_with (fail)
   refine (HN.out _).mono ?_
   rintro e W1 ⟨A,c,rfl,hr,hb⟩
   have hB1:=hB.trans (hb.mono hB.size)
   have i1:=i0.below hb i0.lt
   have hs1:=hB.size
   have hI:InS W1 ⟨new12 8,0,0⟩ A c:=RowB.inS (s:=⟨new12 8,0,0⟩) hr (by decide)
   clear hr hb
   have HS:=Lib.hid (stoA_one12 ⟨new12 8,0,0⟩ A c)
   have z1:=Is.new W1 31 #[.slice none 0 0,.int .i64 0,.int .i64 0]
   have i2:=i1.alloc (.cells #[.slice none 0 0,.int .i64 0,.int .i64 0] 31)
   have hB2:=hB1.alloc hB1.size (.cells #[.slice none 0 0,.int .i64 0,.int .i64 0] 31)
   have hI2:=hI.keep ((Below.refl W1.heap.size W1).alloc (Nat.le_refl _) (.cells #[.slice none 0 0,.int .i64 0,.int .i64 0] 31))
   have hs2:=i1.lt
   clear i1 hB1 hI
   generalize hW2:W1.alloc (.cells #[.slice none 0 0,.int .i64 0,.int .i64 0] 31)=W2 at *
   generalize hg:W1.heap.size=g at *
   have z2:=z1.row (stoA ⟨new12 8,0,0⟩ A c)
   have i3:=i2.rowFar (k:=g) (by omega) (stoA ⟨new12 8,0,0⟩ A c)
   have hB3:=belowRow hB2 (g:=g) (by omega) (stoA ⟨new12 8,0,0⟩ A c)
   have hI3:=hI2.noS13 z1 rfl (grownRowG _ g (stoA ⟨new12 8,0,0⟩ A c))
   go_upto_region 4 with (first | (refine wpList_store_row rfl 31 _ _ rfl g (stoA ⟨new12 8,0,0⟩ A c) rfl rfl 31 _ z1 infoSto12 rfl HS.out ?_))
   generalize W2.setRow g (stoA ⟨new12 8,0,0⟩ A c)=W3 at *
   have HV:=Lib.hid (srvA_one13 ⟨⟨new12 8,0,0⟩,n⟩ A c)
   have HI:=Lib.hid (hI3.noS13 i3 rfl (grownRowG _ w.heap.size (srvA ⟨⟨new12 8,0,0⟩,n⟩ A c)))
   have i4:=i3.row (srvA ⟨⟨new12 8,0,0⟩,n⟩ A c)
   go_wp2_with (first | (refine wpList_load_row rfl 31 _ rfl g rfl _ _ _ _ z2 Tryz.underlying31 rfl infoSto12 ?_) | (refine wpList_store_row rfl 33 _ _ rfl w.heap.size (srvA ⟨⟨new12 8,0,0⟩,n⟩ A c) rfl rfl 33 _ i3 infoSrv13 rfl HV.out ?_))
   exact bodyPost_ret (results_row_tmp Tryz.results8 _ _ w.heap.size 33 _ (0,0) _ rfl (i3.row _) Tryz.underlying33 rfl infoSrv13) rfl ⟨A,c,rfl,HI.out,belowRow hB3 (Nat.le_refl _) _⟩
  ·
   have hl:lim13 n=false:=by rw [lim13,decide_eq_true h0,decide_eq_false h1];rfl
   have hv:newS13 n=(⟨⟨[],0,0⟩,0⟩,1):=by rw [newS13,hl];rfl
   rw [hv]
   clear hv
   go_enter Tryz.func8,Tryz.ntmps8
   go_upto_region 1 with (fail)
   clear hW0
   go_wp2_with (first | (refine wpList_store_row rfl 33 _ _ rfl w.heap.size #[.slice none 0 0,.int .i64 0,.int .i64 0,.int .i64 0] rfl rfl 33 _ i0 infoSrv13 rfl (by rw [← Array.all_toList];rfl) ?_))
   exact bodyPost_ret (results_row_tmp Tryz.results8 _ _ w.heap.size 33 _ (0,0) _ rfl (i0.row _) Tryz.underlying33 rfl infoSrv13) rfl ⟨none,0,rfl,⟨fun j u hj=>(by cases hj),fun _=>rfl,Nat.le_refl _,by decide⟩,belowRow hB (Nat.le_refl _) _⟩
 ·
  have hl:lim13 n=false:=by rw [lim13,decide_eq_false h0];rfl
  have hv:newS13 n=(⟨⟨[],0,0⟩,0⟩,1):=by rw [newS13,hl];rfl
  rw [hv]
  clear hv
  go_enter Tryz.func8,Tryz.ntmps8
  go_upto_region 1 with (fail)
  clear hW0
  go_wp2_with (first | (refine wpList_store_row rfl 33 _ _ rfl w.heap.size #[.slice none 0 0,.int .i64 0,.int .i64 0,.int .i64 0] rfl rfl 33 _ i0 infoSrv13 rfl (by rw [← Array.all_toList];rfl) ?_))
  exact bodyPost_ret (results_row_tmp Tryz.results8 _ _ w.heap.size 33 _ (0,0) _ rfl (i0.row _) Tryz.underlying33 rfl infoSrv13) rfl ⟨none,0,rfl,⟨fun j u hj=>(by cases hj),fun _=>rfl,Nat.le_refl _,by decide⟩,belowRow hB (Nat.le_refl _) _⟩
end Go.Proofs.YtmggbbmpckcleaaGreat
namespace Go.Proofs.YtmggbbmpckcleaaGreat
open Go.RowKit Go.Shelf
theorem Is.srvN13 {W:World} {D:Nat} {s:Srv13} {A:Option Addr} {c:Nat} (h:Is W D 33 (srvA s A c)) (S:Sto12) (A1:Option Addr) (c1:Nat):Is (W.setCells D 0 [.slice A1 S.B.length c1,.int .i64 S.many,.int .i64 S.gone]) D 33 (srvA ⟨S,s.lim⟩ A1 c1):=((h.set 0 _).set 1 _).set 2 _
theorem Is.srvO13 {W:World} {D:Nat} {s:Srv13} {A:Option Addr} {c:Nat} (h:Is W D 33 (srvA s A c)):W.there D 0 3:=fun j hj=>by
 have h1:=h.cell (0 + j)
 have h2:=h.frozen (0 + j)
 refine ⟨?_,h2⟩
 rw [h1]
 rcases (by omega:j=0∨j=1∨j=2) with rfl | rfl | rfl <;> rfl
theorem more_next13 {B:List Bkt12} {L:List ByteArray} {k:Nat} {l:ByteArray} (h:L[k]?=some l):more13 B (L.take (k + 1))=more13 B (L.take k) + (if mp12 B l=none then 1 else 0):=by
 rw [List.take_add_one,h,more13,more13,List.countP_append]
 show _ + List.countP _ [l]=_
 rw [List.countP_cons]
 simp
def NotT13 (B:List Bkt12) (L C:List ByteArray) (k:Nat):Prop:=∀ j,j < k→∀ l x c,L[j]?=some l→C[j]?=some x→mp12 B l=some c→c=x
theorem NotT13.next {B:List Bkt12} {L C:List ByteArray} {k:Nat} {l x:ByteArray} (h:NotT13 B L C k) (hl:L[k]?=some l) (hx:C[k]?=some x) (hc:∀ c,mp12 B l=some c→c=x):NotT13 B L C (k + 1):=fun j hj l2 x2 c h1 h2 h3=>by
 rcases Nat.lt_succ_iff_lt_or_eq.1 hj with h4 | h4
 · exact h j h4 l2 x2 c h1 h2 h3
 ·
  subst h4
  rw [hl] at h1
  rw [hx] at h2
  cases h1
  cases h2
  exact hc c h3
theorem NotT13.all {B:List Bkt12} {L C:List ByteArray} (h:NotT13 B L C L.length):taken13 B (L.zip C)=false:=taken_iff13.2 fun p hp c hc=>by
 obtain ⟨n,hn,e⟩:=List.mem_iff_getElem.1 hp
 have hlen:n < L.length∧n < C.length:=by rw [List.length_zip] at hn;omega
 have h3:=zip_at13 (List.getElem?_eq_getElem hlen.1) (List.getElem?_eq_getElem hlen.2)
 rw [List.getElem?_eq_getElem hn,e] at h3
 cases h3
 exact h n hlen.1 _ _ _ (List.getElem?_eq_getElem hlen.1) (List.getElem?_eq_getElem hlen.2) hc
theorem taken_at13 {B:List Bkt12} {L C:List ByteArray} {k:Nat} {l x c:ByteArray} (hl:L[k]?=some l) (hx:C[k]?=some x) (hm:mp12 B l=some c) (hne:c≠x):taken13 B (L.zip C)=true:=by
 cases ht:taken13 B (L.zip C) with
 | true=>rfl
 | false=>exact absurd (taken_iff13.1 ht (l,x) (List.mem_of_getElem? (zip_at13 hl hx)) c hm) hne
theorem dpt13_5 (W0:World) (D2 DQ b off:Nat) (s:Srv13) (A:Option Addr) (c:Nat) (k:Int) (nl cl:Nat) (AC:Option Addr) (nc cc i:Nat) (l:ByteArray) (hi:i < nl) (hb0:b < W0.heap.size) (hx:W0.cell? ⟨b,off + i,none⟩=some (.string l)) (i2:Is W0 D2 33 (srvA s A c)) (iq:Is W0 DQ 26 (reqA k (some ⟨b,off,none⟩) nl cl AC nc cc)) (hI:InS W0 s.S A c) (x0 x1 x4 x5 x6 x8 x9 Xa Xb Xc Xd Xe Xf Xg Xh Xi Xj Xk Xl Xm Xn Xo Xp Xq Xr Xs Xt Xu Xv Xw Xx Xy Xz Ya Yb Yc Yd Ye Yf Yg Yh Yi Yj Yk Yl Ym Yn Yo Yp Yq Yr Ys Yt Yu Yv Yw Yx Yy Yz Za Zb Zc Zd Ze Zf Zg Zh Zi Zj Zk Zl Zm Zn Zo Zp Zq Zr Zs Zt Zu Zv Zw Zx:Value) :
  (Code.region 5 (opsOf Tryz.f37 5) true).wp Tryz.prog (fun ex YY W=>ex=.normal∧YY.defers=[]∧∃ (_:Unit),YY.tmps=#[x0,x1,.pointer (some ⟨D2,0,none⟩),.pointer (some ⟨DQ,0,none⟩),x4,x5,x6,.int .i64 (i:Int),.string (getV12 s.S l).1,.bool (getV12 s.S l).2,Xa,Xb,Xc,Xd,Xe,Xf,Xg,Xh,Xi,.tuple #[.string (getV12 s.S l).1,.bool (getV12 s.S l).2],.pointer (some ⟨D2,0,none⟩),.agg (stoA s.S A c),.pointer (some ⟨DQ,1,none⟩),.slice (some ⟨b,off,none⟩) nl cl,.int .i64 (i:Int),.pointer (some ⟨b,off + i,none⟩),.string l,.tuple #[.string (getV12 s.S l).1,.bool (getV12 s.S l).2],.string (getV12 s.S l).1,.bool (getV12 s.S l).2,Xu,Xv,Xw,Xx,Xy,Xz,Ya,Yb,Yc,Yd,Ye,Yf,Yg,Yh,Yi,Yj,Yk,Yl,Ym,Yn,Yo,Yp,Yq,Yr,Ys,Yt,Yu,Yv,Yw,Yx,Yy,Yz,Za,Zb,Zc,Zd,Ze,Zf,Zg,Zh,Zi,Zj,Zk,Zl,Zm,Zn,Zo,Zp,Zq,Zr,Zs,Zt,Zu,Zv,Zw,Zx]∧Below W0.heap.size W0 W) { tmps:=#[x0,x1,.pointer (some ⟨D2,0,none⟩),.pointer (some ⟨DQ,0,none⟩),x4,x5,x6,.int .i64 (i:Int),x8,x9,Xa,Xb,Xc,Xd,Xe,Xf,Xg,Xh,Xi,Xj,Xk,Xl,Xm,Xn,Xo,Xp,Xq,Xr,Xs,Xt,Xu,Xv,Xw,Xx,Xy,Xz,Ya,Yb,Yc,Yd,Ye,Yf,Yg,Yh,Yi,Yj,Yk,Yl,Ym,Yn,Yo,Yp,Yq,Yr,Ys,Yt,Yu,Yv,Yw,Yx,Yy,Yz,Za,Zb,Zc,Zd,Ze,Zf,Zg,Zh,Zi,Zj,Zk,Zl,Zm,Zn,Zo,Zp,Zq,Zr,Zs,Zt,Zu,Zv,Zw,Zx],defers:=[] } W0:=by
 have hB:Below W0.heap.size W0 (W0.drewN 1):=belowN (Below.refl _ _) 1
 generalize hQ:(fun (ex:Exit) (YY:Act) (W:World)=>ex=.normal∧YY.defers=[]∧∃ (_:Unit),YY.tmps=#[x0,x1,.pointer (some ⟨D2,0,none⟩),.pointer (some ⟨DQ,0,none⟩),x4,x5,x6,.int .i64 (i:Int),.string (getV12 s.S l).1,.bool (getV12 s.S l).2,Xa,Xb,Xc,Xd,Xe,Xf,Xg,Xh,Xi,.tuple #[.string (getV12 s.S l).1,.bool (getV12 s.S l).2],.pointer (some ⟨D2,0,none⟩),.agg (stoA s.S A c),.pointer (some ⟨DQ,1,none⟩),.slice (some ⟨b,off,none⟩) nl cl,.int .i64 (i:Int),.pointer (some ⟨b,off + i,none⟩),.string l,.tuple #[.string (getV12 s.S l).1,.bool (getV12 s.S l).2],.string (getV12 s.S l).1,.bool (getV12 s.S l).2,Xu,Xv,Xw,Xx,Xy,Xz,Ya,Yb,Yc,Yd,Ye,Yf,Yg,Yh,Yi,Yj,Yk,Yl,Ym,Yn,Yo,Yp,Yq,Yr,Ys,Yt,Yu,Yv,Yw,Yx,Yy,Yz,Za,Zb,Zc,Zd,Ze,Zf,Zg,Zh,Zi,Zj,Zk,Zl,Zm,Zn,Zo,Zp,Zq,Zr,Zs,Zt,Zu,Zv,Zw,Zx]∧Below W0.heap.size W0 W)=Q
 have HQN:∀ c a W,¬ Q (.panic c) a W:=fun c a W h=>by subst hQ;exact nomatch h.1
 have ST7:∀ (W:World),Below W0.heap.size W0 W→wpAnyH Tryz.prog .any (opsOf Tryz.f37 5) Q (fun W=>Below W0.heap.size W0 W) 0 #[true,true,true,true,true,true,true,true,true,true,true,true,true] { tmps:=#[x0,x1,.pointer (some ⟨D2,0,none⟩),.pointer (some ⟨DQ,0,none⟩),x4,x5,x6,.int .i64 (i:Int),.string (getV12 s.S l).1,.bool (getV12 s.S l).2,Xa,Xb,Xc,Xd,Xe,Xf,Xg,Xh,Xi,.tuple #[.string (getV12 s.S l).1,.bool (getV12 s.S l).2],.pointer (some ⟨D2,0,none⟩),.agg (stoA s.S A c),.pointer (some ⟨DQ,1,none⟩),.slice (some ⟨b,off,none⟩) nl cl,.int .i64 (i:Int),.pointer (some ⟨b,off + i,none⟩),.string l,.tuple #[.string (getV12 s.S l).1,.bool (getV12 s.S l).2],.string (getV12 s.S l).1,.bool (getV12 s.S l).2,Xu,Xv,Xw,Xx,Xy,Xz,Ya,Yb,Yc,Yd,Ye,Yf,Yg,Yh,Yi,Yj,Yk,Yl,Ym,Yn,Yo,Yp,Yq,Yr,Ys,Yt,Yu,Yv,Yw,Yx,Yy,Yz,Za,Zb,Zc,Zd,Ze,Zf,Zg,Zh,Zi,Zj,Zk,Zl,Zm,Zn,Zo,Zp,Zq,Zr,Zs,Zt,Zu,Zv,Zw,Zx],defers:=[] } W:=by
  intro W hB
  refine wpAnyH_done (by kernel_rfl) ?_ _
  subst hQ
  exact ⟨rfl,rfl,(),rfl,hB⟩
 have ST:∀ (W:World),Below W0.heap.size W0 W→wpAnyH Tryz.prog .any (opsOf Tryz.f37 5) Q (fun W=>Below W0.heap.size W0 W) 6 #[true,true,true,true,true,true,true,false,false,false,false,false,false] { tmps:=#[x0,x1,.pointer (some ⟨D2,0,none⟩),.pointer (some ⟨DQ,0,none⟩),x4,x5,x6,.int .i64 (i:Int),x8,x9,Xa,Xb,Xc,Xd,Xe,Xf,Xg,Xh,Xi,Xj,.pointer (some ⟨D2,0,none⟩),.agg (stoA s.S A c),.pointer (some ⟨DQ,1,none⟩),.slice (some ⟨b,off,none⟩) nl cl,.int .i64 (i:Int),.pointer (some ⟨b,off + i,none⟩),.string l,Xr,Xs,Xt,Xu,Xv,Xw,Xx,Xy,Xz,Ya,Yb,Yc,Yd,Ye,Yf,Yg,Yh,Yi,Yj,Yk,Yl,Ym,Yn,Yo,Yp,Yq,Yr,Ys,Yt,Yu,Yv,Yw,Yx,Yy,Yz,Za,Zb,Zc,Zd,Ze,Zf,Zg,Zh,Zi,Zj,Zk,Zl,Zm,Zn,Zo,Zp,Zq,Zr,Zs,Zt,Zu,Zv,Zw,Zx],defers:=[] } W:=by
  intro W hB
  refine wpAnyH_ready (by kernel_rfl) (by simp) (AllReadyH.cons (i:=7) (at_nth rfl) ?_ (AllReadyH.nil))
  ·
   refine arm10_call (by kernel_rfl) (fun wy=>by kernel_rfl) ((dget_any12 s.S A c l W (hI.keep hB)).mono ?_)
   rintro e Wn ⟨rfl,hb⟩
   replace hB:=hB.trans (hb.mono hB.size)
   clear hb
   refine ⟨_,rfl,hB,?_⟩
   simp only [Act.put,zz0,zz1,zz2]
   refine wpP (i:=8) (v:=.tuple #[.string (getV12 s.S l).1,.bool (getV12 s.S l).2]) HQN rfl (fun w hSw=>by kernel_rfl) hB ?_
   simp only [Act.put,zz0,zz1,zz2]
   refine wpP (i:=9) (v:=.string (getV12 s.S l).1) HQN rfl (fun w hSw=>by kernel_rfl) hB ?_
   simp only [Act.put,zz0,zz1,zz2]
   refine wpP (i:=10) (v:=.bool (getV12 s.S l).2) HQN rfl (fun w hSw=>by kernel_rfl) hB ?_
   simp only [Act.put,zz0,zz1,zz2]
   refine wpP (i:=11) (v:=.string (getV12 s.S l).1) HQN rfl (fun w hSw=>by kernel_rfl) hB ?_
   simp only [Act.put,zz0,zz1,zz2]
   refine wpP (i:=12) (v:=.bool (getV12 s.S l).2) HQN rfl (fun w hSw=>by kernel_rfl) hB ?_
   simp only [Act.put,zz0,zz1,zz2]
   exact ST7 _ hB
 refine wp_region_held_drew (S:=fun W=>Below W0.heap.size W0 W) (by kernel_rfl) hB (fun hS=>?_)
 change wpAnyH _ _ (opsOf Tryz.f37 5) _ _ 13 (Array.replicate 13 false) _ (W0.drewN 1)
 clear hS
 replace hB:Below W0.heap.size W0 (W0.drewN 1):=belowN (Below.refl _ _) 1
 refine wpP (i:=0) (v:=.pointer (some ⟨D2,0,none⟩)) HQN rfl (fun w hSw=>by go_simp) hB ?_
 simp only [Act.put,zz0,zz1,zz2]
 refine wpP (i:=1) (v:=.agg (stoA s.S A c)) HQN rfl (fun w hSw=>by exact run_load_midO12 (x:=.tmp 20) (by kernel_rfl) (by kernel_rfl) ((i2.below hSw i2.lt).srv13) Tryz.underlying31 rfl infoSto12) hB ?_
 simp only [Act.put,zz0,zz1,zz2]
 refine wpP (i:=2) (v:=.pointer (some ⟨DQ,1,none⟩)) HQN rfl (fun w hSw=>by go_simp) hB ?_
 simp only [Act.put,zz0,zz1,zz2]
 refine wpP (i:=3) (v:=.slice (some ⟨b,off,none⟩) nl cl) HQN rfl (fun w hSw=>by (have hc:=(iq.below hSw iq.lt).cell 1;go_simp)) hB ?_
 simp only [Act.put,zz0,zz1,zz2]
 refine wpP (i:=4) (v:=.int .i64 (i:Int)) HQN rfl (fun w hSw=>by kernel_rfl) hB ?_
 simp only [Act.put,zz0,zz1,zz2]
 refine wpP (i:=5) (v:=.pointer (some ⟨b,off + i,none⟩)) HQN rfl (fun w hSw=>by (have hk':=hi;go_simp)) hB ?_
 simp only [Act.put,zz0,zz1,zz2]
 refine wpP (i:=6) (v:=.string l) HQN rfl (fun w hSw=>by (have hc:=(hSw.cell (p:=⟨b,off + i,none⟩) hb0).trans hx;go_simp)) hB ?_
 simp only [Act.put,zz0,zz1,zz2]
 exact ST _ hB
theorem dpt13_16 (W0:World) (B0 D1 DQ b off b2 off2:Nat) (s:Srv13) (A:Option Addr) (c:Nat) (k:Int) (nl cl nc cc i:Nat) (l x:ByteArray) (hi:i < nl) (hi2:i < nc) (hb0:b < B0) (hb2:b2 < B0) (hx:W0.cell? ⟨b,off + i,none⟩=some (.string l)) (hx2:W0.cell? ⟨b2,off2 + i,none⟩=some (.string x)) (i1:Is W0 D1 33 (srvA s A c)) (iq:Is W0 DQ 26 (reqA k (some ⟨b,off,none⟩) nl cl (some ⟨b2,off2,none⟩) nc cc)) (hI:InS W0 s.S A c) (hf:s.S.B.length≤4096) (hD1:B0≤D1) (hq1:DQ≠D1) (hsz:B0≤W0.heap.size) (x0 x1 x2 x4 x5 x6 x7 x8 x9 Xc Xd Xe Xf Xg Xh Xi Xj Xk Xl Xm Xn Xo Xp Xq Xr Xs Xt Xu Xv Xw Xx Xy Xz Ya Yb Yc Yd Ye Yf Yg Yh Yi Yj Yk Yl Ym Yn Yo Yp Yq Yr Ys Yt Yu Yv Yw Yx Yy Yz Za Zb Zc Zd Ze Zf Zg Zh Zi Zj Zk Zl Zm Zn Zo Zp Zq Zr Zs Zt Zu Zv Zw Zx:Value) :
  (Code.region 16 (opsOf Tryz.f37 16) true).wp Tryz.prog (fun ex YY W=>ex=.normal∧YY.defers=[]∧∃ (AQ:Option Addr) (cQ:Nat),YY.tmps=#[x0,x1,x2,.pointer (some ⟨DQ,0,none⟩),x4,x5,x6,x7,x8,x9,.pointer (some ⟨D1,0,none⟩),.int .i64 (i:Int),Xc,Xd,Xe,Xf,Xg,Xh,Xi,Xj,Xk,Xl,Xm,Xn,Xo,Xp,Xq,Xr,Xs,Xt,Xu,Xv,Xw,Xx,Xy,Xz,Ya,Yb,Yc,Yd,Ye,Yf,Yg,Yh,Yi,Yj,Yk,Yl,Ym,Yn,Yo,Yp,Yq,Yr,Ys,Yt,Yu,Yv,Yw,Yx,Yy,Yz,Za,Zb,Zc,Zd,Ze,.tuple #[.agg (stoA (putV12 s.S l x).1 AQ cQ),.int .i64 (putV12 s.S l x).2],.pointer (some ⟨D1,0,none⟩),.agg (stoA s.S A c),.pointer (some ⟨DQ,1,none⟩),.slice (some ⟨b,off,none⟩) nl cl,.int .i64 (i:Int),.pointer (some ⟨b,off + i,none⟩),.string l,.pointer (some ⟨DQ,2,none⟩),.slice (some ⟨b2,off2,none⟩) nc cc,.int .i64 (i:Int),.pointer (some ⟨b2,off2 + i,none⟩),.string x,.tuple #[.agg (stoA (putV12 s.S l x).1 AQ cQ),.int .i64 (putV12 s.S l x).2],.agg (stoA (putV12 s.S l x).1 AQ cQ),.int .i64 (putV12 s.S l x).2,.pointer (some ⟨D1,0,none⟩),Zw,Zx]∧Below B0 W0 W∧Is W DQ 26 (reqA k (some ⟨b,off,none⟩) nl cl (some ⟨b2,off2,none⟩) nc cc)∧(∀ kk,kk≠D1→kk < W0.heap.size→W.heap[kk]?=W0.heap[kk]?)∧InS W (putV12 s.S l x).1 AQ cQ∧Is W D1 33 (srvA ⟨(putV12 s.S l x).1,s.lim⟩ AQ cQ)) { tmps:=#[x0,x1,x2,.pointer (some ⟨DQ,0,none⟩),x4,x5,x6,x7,x8,x9,.pointer (some ⟨D1,0,none⟩),.int .i64 (i:Int),Xc,Xd,Xe,Xf,Xg,Xh,Xi,Xj,Xk,Xl,Xm,Xn,Xo,Xp,Xq,Xr,Xs,Xt,Xu,Xv,Xw,Xx,Xy,Xz,Ya,Yb,Yc,Yd,Ye,Yf,Yg,Yh,Yi,Yj,Yk,Yl,Ym,Yn,Yo,Yp,Yq,Yr,Ys,Yt,Yu,Yv,Yw,Yx,Yy,Yz,Za,Zb,Zc,Zd,Ze,Zf,Zg,Zh,Zi,Zj,Zk,Zl,Zm,Zn,Zo,Zp,Zq,Zr,Zs,Zt,Zu,Zv,Zw,Zx],defers:=[] } W0:=by
 have hB:Below B0 W0 (W0.drewN 1):=belowN (Below.refl _ _) 1
 generalize hQ:(fun (ex:Exit) (YY:Act) (W:World)=>ex=.normal∧YY.defers=[]∧∃ (AQ:Option Addr) (cQ:Nat),YY.tmps=#[x0,x1,x2,.pointer (some ⟨DQ,0,none⟩),x4,x5,x6,x7,x8,x9,.pointer (some ⟨D1,0,none⟩),.int .i64 (i:Int),Xc,Xd,Xe,Xf,Xg,Xh,Xi,Xj,Xk,Xl,Xm,Xn,Xo,Xp,Xq,Xr,Xs,Xt,Xu,Xv,Xw,Xx,Xy,Xz,Ya,Yb,Yc,Yd,Ye,Yf,Yg,Yh,Yi,Yj,Yk,Yl,Ym,Yn,Yo,Yp,Yq,Yr,Ys,Yt,Yu,Yv,Yw,Yx,Yy,Yz,Za,Zb,Zc,Zd,Ze,.tuple #[.agg (stoA (putV12 s.S l x).1 AQ cQ),.int .i64 (putV12 s.S l x).2],.pointer (some ⟨D1,0,none⟩),.agg (stoA s.S A c),.pointer (some ⟨DQ,1,none⟩),.slice (some ⟨b,off,none⟩) nl cl,.int .i64 (i:Int),.pointer (some ⟨b,off + i,none⟩),.string l,.pointer (some ⟨DQ,2,none⟩),.slice (some ⟨b2,off2,none⟩) nc cc,.int .i64 (i:Int),.pointer (some ⟨b2,off2 + i,none⟩),.string x,.tuple #[.agg (stoA (putV12 s.S l x).1 AQ cQ),.int .i64 (putV12 s.S l x).2],.agg (stoA (putV12 s.S l x).1 AQ cQ),.int .i64 (putV12 s.S l x).2,.pointer (some ⟨D1,0,none⟩),Zw,Zx]∧Below B0 W0 W∧Is W DQ 26 (reqA k (some ⟨b,off,none⟩) nl cl (some ⟨b2,off2,none⟩) nc cc)∧(∀ kk,kk≠D1→kk < W0.heap.size→W.heap[kk]?=W0.heap[kk]?)∧InS W (putV12 s.S l x).1 AQ cQ∧Is W D1 33 (srvA ⟨(putV12 s.S l x).1,s.lim⟩ AQ cQ))=Q
 have HQN:∀ c a W,¬ Q (.panic c) a W:=fun c a W h=>by subst hQ;exact nomatch h.1
 have ST1_12_17:∀ (W:World) (AQ:Option Addr) (cQ:Nat),Below B0 W0 W→Is W DQ 26 (reqA k (some ⟨b,off,none⟩) nl cl (some ⟨b2,off2,none⟩) nc cc)→(∀ kk,kk≠D1→kk < W0.heap.size→W.heap[kk]?=W0.heap[kk]?)→InS W (putV12 s.S l x).1 AQ cQ→Is W D1 33 (srvA ⟨(putV12 s.S l x).1,s.lim⟩ AQ cQ)→wpAnyH Tryz.prog .any (opsOf Tryz.f37 16) Q (fun W=>Below B0 W0 W∧Is W DQ 26 (reqA k (some ⟨b,off,none⟩) nl cl (some ⟨b2,off2,none⟩) nc cc)) 0 #[true,true,true,true,true,true,true,true,true,true,true,true,true,true,true,true,true,true] { tmps:=#[x0,x1,x2,.pointer (some ⟨DQ,0,none⟩),x4,x5,x6,x7,x8,x9,.pointer (some ⟨D1,0,none⟩),.int .i64 (i:Int),Xc,Xd,Xe,Xf,Xg,Xh,Xi,Xj,Xk,Xl,Xm,Xn,Xo,Xp,Xq,Xr,Xs,Xt,Xu,Xv,Xw,Xx,Xy,Xz,Ya,Yb,Yc,Yd,Ye,Yf,Yg,Yh,Yi,Yj,Yk,Yl,Ym,Yn,Yo,Yp,Yq,Yr,Ys,Yt,Yu,Yv,Yw,Yx,Yy,Yz,Za,Zb,Zc,Zd,Ze,.tuple #[.agg (stoA (putV12 s.S l x).1 AQ cQ),.int .i64 (putV12 s.S l x).2],.pointer (some ⟨D1,0,none⟩),.agg (stoA s.S A c),.pointer (some ⟨DQ,1,none⟩),.slice (some ⟨b,off,none⟩) nl cl,.int .i64 (i:Int),.pointer (some ⟨b,off + i,none⟩),.string l,.pointer (some ⟨DQ,2,none⟩),.slice (some ⟨b2,off2,none⟩) nc cc,.int .i64 (i:Int),.pointer (some ⟨b2,off2 + i,none⟩),.string x,.tuple #[.agg (stoA (putV12 s.S l x).1 AQ cQ),.int .i64 (putV12 s.S l x).2],.agg (stoA (putV12 s.S l x).1 AQ cQ),.int .i64 (putV12 s.S l x).2,.pointer (some ⟨D1,0,none⟩),Zw,Zx],defers:=[] } W:=by
  intro W AQ cQ hB iq hO hZ j1
  refine wpAnyH_done (by kernel_rfl) ?_ _
  subst hQ
  exact ⟨rfl,rfl,AQ,cQ,rfl,hB,iq,hO,hZ,j1⟩
 have ST1_12:∀ (W:World) (AQ:Option Addr) (cQ:Nat),Below B0 W0 W→Is W DQ 26 (reqA k (some ⟨b,off,none⟩) nl cl (some ⟨b2,off2,none⟩) nc cc)→(∀ kk,kk≠D1→kk < W0.heap.size→W.heap[kk]?=W0.heap[kk]?)→Is W D1 33 (srvA s A c)→InS W (putV12 s.S l x).1 AQ cQ→wpAnyH Tryz.prog .any (opsOf Tryz.f37 16) Q (fun W=>Below B0 W0 W∧Is W DQ 26 (reqA k (some ⟨b,off,none⟩) nl cl (some ⟨b2,off2,none⟩) nc cc)) 1 #[true,true,true,true,true,true,true,true,true,true,true,true,true,true,true,true,true,false] { tmps:=#[x0,x1,x2,.pointer (some ⟨DQ,0,none⟩),x4,x5,x6,x7,x8,x9,.pointer (some ⟨D1,0,none⟩),.int .i64 (i:Int),Xc,Xd,Xe,Xf,Xg,Xh,Xi,Xj,Xk,Xl,Xm,Xn,Xo,Xp,Xq,Xr,Xs,Xt,Xu,Xv,Xw,Xx,Xy,Xz,Ya,Yb,Yc,Yd,Ye,Yf,Yg,Yh,Yi,Yj,Yk,Yl,Ym,Yn,Yo,Yp,Yq,Yr,Ys,Yt,Yu,Yv,Yw,Yx,Yy,Yz,Za,Zb,Zc,Zd,Ze,.tuple #[.agg (stoA (putV12 s.S l x).1 AQ cQ),.int .i64 (putV12 s.S l x).2],.pointer (some ⟨D1,0,none⟩),.agg (stoA s.S A c),.pointer (some ⟨DQ,1,none⟩),.slice (some ⟨b,off,none⟩) nl cl,.int .i64 (i:Int),.pointer (some ⟨b,off + i,none⟩),.string l,.pointer (some ⟨DQ,2,none⟩),.slice (some ⟨b2,off2,none⟩) nc cc,.int .i64 (i:Int),.pointer (some ⟨b2,off2 + i,none⟩),.string x,.tuple #[.agg (stoA (putV12 s.S l x).1 AQ cQ),.int .i64 (putV12 s.S l x).2],.agg (stoA (putV12 s.S l x).1 AQ cQ),.int .i64 (putV12 s.S l x).2,.pointer (some ⟨D1,0,none⟩),Zw,Zx],defers:=[] } W:=by
  intro W AQ cQ hB iq hO i1 hZ
  refine wpAnyH_ready (by kernel_rfl) (by simp) (AllReadyH.cons (i:=17) (at_nth rfl) ?_ (AllReadyH.nil))
  ·
   have hg:=grownSet13 W D1 (.slice AQ (putV12 s.S l x).1.B.length cQ) (.int .i64 (putV12 s.S l x).1.many) (.int .i64 (putV12 s.S l x).1.gone)
   have hone:=stoA_one12 (putV12 s.S l x).1 AQ cQ
   have j1:=i1.srvN13 (putV12 s.S l x).1 AQ cQ
   have hT:=i1.srvO13
   replace hZ:=hZ.noS13 i1 rfl hg
   replace iq:=iq.cells3 (g:=D1) hq1 0 (.slice AQ (putV12 s.S l x).1.B.length cQ) (.int .i64 (putV12 s.S l x).1.many) (.int .i64 (putV12 s.S l x).1.gone)
   replace hO:∀ kk,kk≠D1→kk < W0.heap.size→(W.setCells D1 0 [.slice AQ (putV12 s.S l x).1.B.length cQ,.int .i64 (putV12 s.S l x).1.many,.int .i64 (putV12 s.S l x).1.gone]).heap[kk]?=W0.heap[kk]?:=fun kk h1 hl=>(hg.block kk (Nat.lt_of_lt_of_le hl hB.size) (fun e=>h1 (Option.some.inj e))).trans (hO kk h1 hl)
   have hB2:=below_cells3 hB hD1 0 (.slice AQ (putV12 s.S l x).1.B.length cQ) (.int .i64 (putV12 s.S l x).1.many) (.int .i64 (putV12 s.S l x).1.gone)
   refine arm10_skip (w':=W.setCells D1 0 [.slice AQ (putV12 s.S l x).1.B.length cQ,.int .i64 (putV12 s.S l x).1.many,.int .i64 (putV12 s.S l x).1.gone]) (by kernel_rfl) (run_store_mid13 (x:=.tmp 83) (y:=.tmp 81) (cs:=stoA (putV12 s.S l x).1 AQ cQ) (by kernel_rfl) (by kernel_rfl) (by kernel_rfl) hT infoSto12 hone) ⟨hB2,iq⟩ ?_
   try simp only [Act.put]
   replace hB:=hB2
   clear i1 hg hT
   exact ST1_12_17 _ _ _ hB iq hO hZ j1
 have ST1:∀ (W:World),Below B0 W0 W→Is W DQ 26 (reqA k (some ⟨b,off,none⟩) nl cl (some ⟨b2,off2,none⟩) nc cc)→(∀ kk,kk≠D1→kk < W0.heap.size→W.heap[kk]?=W0.heap[kk]?)→Is W D1 33 (srvA s A c)→InS W s.S A c→wpAnyH Tryz.prog .any (opsOf Tryz.f37 16) Q (fun W=>Below B0 W0 W∧Is W DQ 26 (reqA k (some ⟨b,off,none⟩) nl cl (some ⟨b2,off2,none⟩) nc cc)) 6 #[true,true,true,true,true,true,true,true,true,true,true,true,false,false,false,false,false,false] { tmps:=#[x0,x1,x2,.pointer (some ⟨DQ,0,none⟩),x4,x5,x6,x7,x8,x9,.pointer (some ⟨D1,0,none⟩),.int .i64 (i:Int),Xc,Xd,Xe,Xf,Xg,Xh,Xi,Xj,Xk,Xl,Xm,Xn,Xo,Xp,Xq,Xr,Xs,Xt,Xu,Xv,Xw,Xx,Xy,Xz,Ya,Yb,Yc,Yd,Ye,Yf,Yg,Yh,Yi,Yj,Yk,Yl,Ym,Yn,Yo,Yp,Yq,Yr,Ys,Yt,Yu,Yv,Yw,Yx,Yy,Yz,Za,Zb,Zc,Zd,Ze,Zf,.pointer (some ⟨D1,0,none⟩),.agg (stoA s.S A c),.pointer (some ⟨DQ,1,none⟩),.slice (some ⟨b,off,none⟩) nl cl,.int .i64 (i:Int),.pointer (some ⟨b,off + i,none⟩),.string l,.pointer (some ⟨DQ,2,none⟩),.slice (some ⟨b2,off2,none⟩) nc cc,.int .i64 (i:Int),.pointer (some ⟨b2,off2 + i,none⟩),.string x,Zs,Zt,Zu,Zv,Zw,Zx],defers:=[] } W:=by
  intro W hB iq hO i1 hI
  refine wpAnyH_ready (by kernel_rfl) (by simp) (AllReadyH.cons (i:=12) (at_nth rfl) ?_ (AllReadyH.nil))
  ·
   refine arm10_call (by kernel_rfl) (fun wy=>by kernel_rfl) ((dput_any12 s.S A c l x W hI hf).mono ?_)
   rintro e Wn ⟨AQ,cQ,rfl,hZ,hb⟩
   replace iq:=iq.below hb iq.lt
   replace hO:∀ kk,kk≠D1→kk < W0.heap.size→Wn.heap[kk]?=W0.heap[kk]?:=fun kk h1 hl=>(hb.block kk (Nat.lt_of_lt_of_le hl hB.size)).trans (hO kk h1 hl)
   replace i1:=i1.below hb i1.lt
   replace hB:=hB.trans (hb.mono (Nat.le_trans hsz hB.size))
   clear hb
   refine ⟨_,rfl,⟨hB,iq⟩,?_⟩
   simp only [Act.put,zz0,zz1,zz2]
   refine wpP (i:=13) (v:=.tuple #[.agg (stoA (putV12 s.S l x).1 AQ cQ),.int .i64 (putV12 s.S l x).2]) HQN rfl (fun w hSw=>by kernel_rfl) ⟨hB,iq⟩ ?_
   simp only [Act.put,zz0,zz1,zz2]
   refine wpP (i:=14) (v:=.agg (stoA (putV12 s.S l x).1 AQ cQ)) HQN rfl (fun w hSw=>by kernel_rfl) ⟨hB,iq⟩ ?_
   simp only [Act.put,zz0,zz1,zz2]
   refine wpP (i:=15) (v:=.int .i64 (putV12 s.S l x).2) HQN rfl (fun w hSw=>by kernel_rfl) ⟨hB,iq⟩ ?_
   simp only [Act.put,zz0,zz1,zz2]
   refine wpP (i:=16) (v:=.pointer (some ⟨D1,0,none⟩)) HQN rfl (fun w hSw=>by go_simp) ⟨hB,iq⟩ ?_
   simp only [Act.put,zz0,zz1,zz2]
   exact ST1_12 _ _ _ hB iq hO i1 hZ
 have ST:∀ (W:World),Below B0 W0 W→Is W DQ 26 (reqA k (some ⟨b,off,none⟩) nl cl (some ⟨b2,off2,none⟩) nc cc)→(∀ kk,kk≠D1→kk < W0.heap.size→W.heap[kk]?=W0.heap[kk]?)→Is W D1 33 (srvA s A c)→InS W s.S A c→wpAnyH Tryz.prog .any (opsOf Tryz.f37 16) Q (fun W=>Below B0 W0 W∧Is W DQ 26 (reqA k (some ⟨b,off,none⟩) nl cl (some ⟨b2,off2,none⟩) nc cc)) 7 #[true,false,true,true,true,true,true,true,true,true,true,true,false,false,false,false,false,false] { tmps:=#[x0,x1,x2,.pointer (some ⟨DQ,0,none⟩),x4,x5,x6,x7,x8,x9,.pointer (some ⟨D1,0,none⟩),.int .i64 (i:Int),Xc,Xd,Xe,Xf,Xg,Xh,Xi,Xj,Xk,Xl,Xm,Xn,Xo,Xp,Xq,Xr,Xs,Xt,Xu,Xv,Xw,Xx,Xy,Xz,Ya,Yb,Yc,Yd,Ye,Yf,Yg,Yh,Yi,Yj,Yk,Yl,Ym,Yn,Yo,Yp,Yq,Yr,Ys,Yt,Yu,Yv,Yw,Yx,Yy,Yz,Za,Zb,Zc,Zd,Ze,Zf,.pointer (some ⟨D1,0,none⟩),Zh,.pointer (some ⟨DQ,1,none⟩),.slice (some ⟨b,off,none⟩) nl cl,.int .i64 (i:Int),.pointer (some ⟨b,off + i,none⟩),.string l,.pointer (some ⟨DQ,2,none⟩),.slice (some ⟨b2,off2,none⟩) nc cc,.int .i64 (i:Int),.pointer (some ⟨b2,off2 + i,none⟩),.string x,Zs,Zt,Zu,Zv,Zw,Zx],defers:=[] } W:=by
  intro W hB iq hO i1 hI
  refine wpAnyH_ready (by kernel_rfl) (by simp) (AllReadyH.cons (i:=1) (at_nth rfl) ?_ (AllReadyH.nil))
  ·
   refine arm10_value (v:=.agg (stoA s.S A c)) (w':=W) (by kernel_rfl) (run_load_midO12 (x:=.tmp 68) (by kernel_rfl) (by kernel_rfl) i1.srv13 Tryz.underlying31 rfl infoSto12) ⟨hB,iq⟩ ?_
   simp only [Act.put,zz0,zz1,zz2]
   exact ST1 _ hB iq hO i1 hI
 refine wp_region_held_drew (S:=fun W=>Below B0 W0 W∧Is W DQ 26 (reqA k (some ⟨b,off,none⟩) nl cl (some ⟨b2,off2,none⟩) nc cc)) (by kernel_rfl) ⟨hB,iq⟩ (fun hS=>?_)
 change wpAnyH _ _ (opsOf Tryz.f37 16) _ _ 18 (Array.replicate 18 false) _ (W0.drewN 1)
 clear hS
 replace hB:Below B0 W0 (W0.drewN 1):=belowN (Below.refl _ _) 1
 replace i1:=i1.drewN 1
 replace iq:=iq.drewN 1
 replace hI:=hI.keep (belowN (Below.refl _ _) 1)
 refine wpP (i:=0) (v:=.pointer (some ⟨D1,0,none⟩)) HQN rfl (fun w hSw=>by go_simp) ⟨hB,iq⟩ ?_
 simp only [Act.put,zz0,zz1,zz2]
 refine wpP (i:=2) (v:=.pointer (some ⟨DQ,1,none⟩)) HQN rfl (fun w hSw=>by go_simp) ⟨hB,iq⟩ ?_
 simp only [Act.put,zz0,zz1,zz2]
 refine wpP (i:=3) (v:=.slice (some ⟨b,off,none⟩) nl cl) HQN rfl (fun w hSw=>by (have hc:=hSw.2.cell 1;go_simp)) ⟨hB,iq⟩ ?_
 simp only [Act.put,zz0,zz1,zz2]
 refine wpP (i:=4) (v:=.int .i64 (i:Int)) HQN rfl (fun w hSw=>by kernel_rfl) ⟨hB,iq⟩ ?_
 simp only [Act.put,zz0,zz1,zz2]
 refine wpP (i:=5) (v:=.pointer (some ⟨b,off + i,none⟩)) HQN rfl (fun w hSw=>by (have hk':=hi;go_simp)) ⟨hB,iq⟩ ?_
 simp only [Act.put,zz0,zz1,zz2]
 refine wpP (i:=6) (v:=.string l) HQN rfl (fun w hSw=>by (have hc:=(hSw.1.cell (p:=⟨b,off + i,none⟩) hb0).trans hx;go_simp)) ⟨hB,iq⟩ ?_
 simp only [Act.put,zz0,zz1,zz2]
 refine wpP (i:=7) (v:=.pointer (some ⟨DQ,2,none⟩)) HQN rfl (fun w hSw=>by go_simp) ⟨hB,iq⟩ ?_
 simp only [Act.put,zz0,zz1,zz2]
 refine wpP (i:=8) (v:=.slice (some ⟨b2,off2,none⟩) nc cc) HQN rfl (fun w hSw=>by (have hc:=hSw.2.cell 2;go_simp)) ⟨hB,iq⟩ ?_
 simp only [Act.put,zz0,zz1,zz2]
 refine wpP (i:=9) (v:=.int .i64 (i:Int)) HQN rfl (fun w hSw=>by kernel_rfl) ⟨hB,iq⟩ ?_
 simp only [Act.put,zz0,zz1,zz2]
 refine wpP (i:=10) (v:=.pointer (some ⟨b2,off2 + i,none⟩)) HQN rfl (fun w hSw=>by (have hk':=hi2;go_simp)) ⟨hB,iq⟩ ?_
 simp only [Act.put,zz0,zz1,zz2]
 refine wpP (i:=11) (v:=.string x) HQN rfl (fun w hSw=>by (have hc:=(hSw.1.cell (p:=⟨b2,off2 + i,none⟩) hb2).trans hx2;go_simp)) ⟨hB,iq⟩ ?_
 simp only [Act.put,zz0,zz1,zz2]
 exact ST _ hB iq (fun _ _ _=>rfl) i1 hI
theorem dput13_any (s:Srv13) (A:Option Addr) (c:Nat) (k:Int) (AL:Option Addr) (cl:Nat) (L:List ByteArray) (AC:Option Addr) (cc:Nat) (C:List ByteArray) (w:World) (hs:Rt13 s) (hl:L.length≤1000) (hlc:C.length=L.length) (hf:Fit13 (L.zip C)) (hI:InS w s.S A c) (hL:InV w AL (tL10 L)) (hC:InV w AC (tL10 C)) :
  Calls Tryz.prog 37 #[srvV s A c,.agg (reqA k AL L.length cl AC C.length cc)] w fun r w'=>DoPost13 (put13 s (L.zip C)) w r w':=by
 obtain ⟨W1,hW1⟩:∃ W1,W1=(((w.alloc (.cells (srvA s A c) 33)).alloc (.cells (reqA k AL L.length cl AC C.length cc) 26)).alloc (.cells #[.slice none 0 0,.int .i64 0,.int .i64 0,.int .i64 0] 33)).alloc (.cells (rspA 0 0 none 0 0 0 0) 45):=⟨_,rfl⟩
 have i2:Is W1 w.heap.size 33 (srvA s A c):=by rw [hW1];exact (((Is.new w _ _).alloc _).alloc _).alloc _
 have iq:Is W1 (w.heap.size + 1) 26 (reqA k AL L.length cl AC C.length cc):=by rw [hW1];exact (Is.alloc (heap_alloc2_new w _ _) _).alloc _
 have i4:Is W1 (w.heap.size + 1 + 1) 33 #[.slice none 0 0,.int .i64 0,.int .i64 0,.int .i64 0]:=by
  have:=(Is.new ((w.alloc (.cells (srvA s A c) 33)).alloc (.cells (reqA k AL L.length cl AC C.length cc) 26)) 33 #[.slice none 0 0,.int .i64 0,.int .i64 0,.int .i64 0]).alloc (.cells (rspA 0 0 none 0 0 0 0) 45)
  rw [hW1];simpa using this
 have i5:Is W1 (w.heap.size + 1 + 1 + 1) 45 (rspA 0 0 none 0 0 0 0):=by
  have:=Is.new (((w.alloc (.cells (srvA s A c) 33)).alloc (.cells (reqA k AL L.length cl AC C.length cc) 26)).alloc (.cells #[.slice none 0 0,.int .i64 0,.int .i64 0,.int .i64 0] 33)) 45 (rspA 0 0 none 0 0 0 0)
  rw [hW1];simpa using this
 have hB1:Below w.heap.size w W1:=by rw [hW1];exact ((((Below.refl _ _).alloc (Nat.le_refl _) _).alloc (by simp) _).alloc (by simp;omega) _).alloc (by simp;omega) _
 have HI:=Lib.hid hI
 have HL:=Lib.hid hL
 have HC:=Lib.hid hC
 have HS:=Lib.hid hs
 have HLC:=Lib.hid hlc
 have HF:=Lib.hid hf
 have hbn:=hs.rt.bnd
 have HOWN:=Lib.hid (fun W (hB:Below w.heap.size w W)=>down13_any s A c W (hI.keep hB) hbn.len.2)
 obtain ⟨D,hD⟩:∃ D,D=put13 s (L.zip C):=⟨_,rfl⟩
 rw [← hD]
 have HD:=Lib.hid hD
 clear hD hI hL hC hs hlc hf
 go_enter Tryz.func37,Tryz.ntmps37
 go_upto_region 1 with (fail)
 rw [← hW1]
 clear hW1
 go_wp2_with fail
 go_loopw [6,7] (fun m i wr=>∃ n:Nat,n≤L.length∧i=.int .i64 (n:Int)∧m=.int .i64 (more13 s.S.B (L.take n):Nat)∧NotT13 s.S.B L C n∧Is wr w.heap.size 33 (srvA s A c)∧Is wr (w.heap.size + 1) 26 (reqA k AL L.length cl AC C.length cc)∧Is wr (w.heap.size + 1 + 1) 33 #[.slice none 0 0,.int .i64 0,.int .i64 0,.int .i64 0]∧Is wr (w.heap.size + 1 + 1 + 1) 45 (rspA 0 0 none 0 0 0 0)∧Below w.heap.size w wr) (fun _ i _=>L.length - (intOf i).toNat)
 case atStart=>exact ⟨0,by omega,rfl,rfl,fun j hj=>absurd hj (Nat.not_lt_zero _),i2,iq,i4,i5,hB1⟩
 case round =>
  clear i2 iq i4 i5 hB1
  obtain ⟨n,hn,rfl,rfl,hnt,i2,iq,i4,i5,hB⟩:=hrel
  have c1:=iq.cell 1
  by_cases hlt:n < L.length
  ·
   have q1:(n:Int) < (L.length:Int):=by omega
   have hlt2:n < C.length:=by rw [HLC.out];exact hlt
   have w1i:=IntWalk.i64_in ((n:Int) + 1) (by omega)
   obtain ⟨l,hl'⟩:∃ l,L[n]?=some l:=⟨_,List.getElem?_eq_getElem hlt⟩
   obtain ⟨x,hx⟩:∃ x,C[n]?=some x:=⟨_,List.getElem?_eq_getElem hlt2⟩
   obtain ⟨b,off,rfl,hbl,hxl⟩:=HL.out.txt13 hl'
   obtain ⟨b2,off2,rfl,hbl2,hxx⟩:=HC.out.txt13 hx
   have hxl5:=(hB.cell (p:=⟨b,off + n,none⟩) hbl).trans hxl
   have HMN:=Lib.hid (more_next13 (B:=s.S.B) hl')
   have hml:more13 s.S.B (L.take n)≤1000:=by
    have:=more_le13 s.S.B (L.take n)
    rw [List.length_take] at this;omega
   go_upto_region 5 with (fail)
   refine Code.wp_mono ?_ (dpt13_5 wr w.heap.size (w.heap.size + 1) b off s A c k L.length cl (some ⟨b2,off2,none⟩) C.length cc n l hlt (Nat.lt_of_lt_of_le hbl hB.size) hxl5 i2 iq (HI.out.keep hB) _ _ _ _ _ _ _ _ _ _ _ _ _ _ _ _ _ _ _ _ _ _ _ _ _ _ _ _ _ _ _ _ _ _ _ _ _ _ _ _ _ _ _ _ _ _ _ _ _ _ _ _ _ _ _ _ _ _ _ _ _ _ _ _ _ _ _ _ _ _ _ _ _ _ _ _ _ _ _ _ _ _ _)
   rintro ex ⟨T,Df⟩ W3 ⟨rfl,hDf,_,hT,hb⟩
   simp only at hT hDf
   subst hT
   subst hDf
   have i2:=i2.below hb i2.lt
   have iq:=iq.below hb iq.lt
   have i4:=i4.below hb i4.lt
   have i5:=i5.below hb i5.lt
   have hB:=hB.trans (hb.mono hB.size)
   have c2:=iq.cell 2
   have hxx5:=(hB.cell (p:=⟨b2,off2 + n,none⟩) hbl2).trans hxx
   have q2:(n:Int) < (C.length:Int):=by omega
   clear hb c1 hxl5
   cases hm:mp12 s.S.B l with
   | none =>
    rw [getV_none13 HS.out.rt hm]
    rw [if_pos hm] at HMN
    have hnt2:=hnt.next hl' hx (fun c hc=>by rw [hm] at hc;cases hc)
    have HNT:=Lib.hid hnt2
    have w2i:=IntWalk.i64_in (((more13 s.S.B (L.take n):Nat):Int) + 1) (by omega)
    clear hm hl' hx hnt hnt2
    go_wp2
    go_roundw
    case rel=>exact ⟨n + 1,by omega,by go_num,by rw [HMN.out];go_num,HNT.out,i2,iq,i4,i5,hB⟩
    case measure=>simp [intOf];omega
   | some y =>
    rw [getV_some13 HS.out.rt hm]
    rw [if_neg (by rw [hm];simp)] at HMN
    by_cases hyx:y=x
    ·
     subst hyx
     have hnt2:=hnt.next hl' hx (fun c hc=>by rw [hm] at hc;cases hc;rfl)
     have HNT:=Lib.hid hnt2
     clear hm hl' hx hnt hnt2
     go_wp2
     go_roundw
     case rel=>exact ⟨n + 1,by omega,by go_num,by rw [HMN.out];rfl,HNT.out,i2,iq,i4,i5,hB⟩
     case measure=>simp [intOf];omega
    ·
     have hbe:=beq_no13 hyx
     have HTK:=Lib.hid (HD.out.trans (put_taken13 (taken_at13 hl' hx hm hyx)))
     clear hm hl' hx hnt HMN
     go_wp2_with (first | (refine wpList_load_row rfl 33 _ rfl w.heap.size rfl _ _ _ _ i2 Tryz.underlying33 rfl infoSrv13 ?_) | (go_at_call 36;refine (HOWN.out _ hB).mono ?_;rintro e W4 ⟨A4,c4,rfl,hI4,hb4⟩;have hB4:=hB.trans (hb4.mono hB.size);have k4:=i4.below hb4 i4.lt;have k5:=(i5.below hb4 i5.lt).rowFar (k:=w.heap.size + 1 + 1) (by omega) (srvA s A4 c4);have z4:=srvA_one13 s A4 c4;have Z4:=Lib.hid z4;clear hb4 z4) | (refine wpList_store_row rfl 33 _ _ rfl (w.heap.size + 1 + 1) (srvA s A4 c4) rfl rfl 33 _ k4 infoSrv13 rfl Z4.out ?_) | (refine wpList_store_row rfl 45 _ _ rfl (w.heap.size + 1 + 1 + 1) (rspA 1 2 none 0 0 0 0) rfl rfl 45 _ k5 infoRsp13 rfl (rspA_one13 _ _ _ _ _ _ _) ?_))
     have hbz:=belowRow (belowRow hB4 (g:=w.heap.size + 1 + 1) (by omega) (srvA s A4 c4)) (g:=w.heap.size + 1 + 1 + 1) (by omega) (rspA 1 2 none 0 0 0 0)
     have hIz:=(hI4.noS13 k4 rfl (grownRowG _ _ (srvA s A4 c4))).noS13 k5 rfl (grownRowG _ _ (rspA 1 2 none 0 0 0 0))
     exact bodyPost_ret (results_rr13 Tryz.results37 _ _ (w.heap.size + 1 + 1) 33 _ _ (w.heap.size + 1 + 1 + 1) 45 _ _ rfl ((k4.row _).rowFar (by omega) _) Tryz.underlying33 rfl infoSrv13 rfl (k5.row _) Tryz.underlying45 rfl infoRsp13) rfl ⟨A4,c4,none,0,by rw [HTK.out];rfl,by rw [HTK.out];exact hIz,by rw [HTK.out];exact fun j u hj=>(by cases hj),hbz⟩
  ·
   have q1:¬ (n:Int) < (L.length:Int):=by omega
   obtain rfl:n=L.length:=by omega
   rw [List.take_length]
   have ht:=hnt.all
   have hmo:=more_le13 s.S.B L
   have d1:wr.cell? ⟨w.heap.size,1,none⟩=some (.int .i64 s.S.many):=i2.cell 1
   have d3:wr.cell? ⟨w.heap.size,3,none⟩=some (.int .i64 s.lim):=i2.cell 3
   have hms:=HS.out.many
   have hrb:=hbn.many
   have hli:=HS.out.hi
   have hll:=HS.out.lo
   have hwi:=IntWalk.i64_in (s.S.many + (more13 s.S.B L:Nat)) (by omega)
   have hzf:=zip_fst13 HLC.out
   have HT:=Lib.hid ht
   have HZF:=Lib.hid hzf
   clear hnt ht hzf
   by_cases hfu:s.lim < s.S.many + (more13 s.S.B L:Nat)
   ·
    have HTK:=Lib.hid (HD.out.trans (put_full13 HT.out (by rw [HZF.out];exact hfu)))
    go_wp2_with (first | (refine wpList_load_row rfl 33 _ rfl w.heap.size rfl _ _ _ _ i2 Tryz.underlying33 rfl infoSrv13 ?_) | (go_at_call 36;refine (HOWN.out _ hB).mono ?_;rintro e W4 ⟨A4,c4,rfl,hI4,hb4⟩;have hB4:=hB.trans (hb4.mono hB.size);have k4:=i4.below hb4 i4.lt;have k5:=(i5.below hb4 i5.lt).rowFar (k:=w.heap.size + 1 + 1) (by omega) (srvA s A4 c4);have z4:=srvA_one13 s A4 c4;have Z4:=Lib.hid z4;clear hb4 z4) | (refine wpList_store_row rfl 33 _ _ rfl (w.heap.size + 1 + 1) (srvA s A4 c4) rfl rfl 33 _ k4 infoSrv13 rfl Z4.out ?_) | (refine wpList_store_row rfl 45 _ _ rfl (w.heap.size + 1 + 1 + 1) (rspA 1 1 none 0 0 0 0) rfl rfl 45 _ k5 infoRsp13 rfl (rspA_one13 _ _ _ _ _ _ _) ?_))
    have hbz:=belowRow (belowRow hB4 (g:=w.heap.size + 1 + 1) (by omega) (srvA s A4 c4)) (g:=w.heap.size + 1 + 1 + 1) (by omega) (rspA 1 1 none 0 0 0 0)
    have hIz:=(hI4.noS13 k4 rfl (grownRowG _ _ (srvA s A4 c4))).noS13 k5 rfl (grownRowG _ _ (rspA 1 1 none 0 0 0 0))
    exact bodyPost_ret (results_rr13 Tryz.results37 _ _ (w.heap.size + 1 + 1) 33 _ _ (w.heap.size + 1 + 1 + 1) 45 _ _ rfl ((k4.row _).rowFar (by omega) _) Tryz.underlying33 rfl infoSrv13 rfl (k5.row _) Tryz.underlying45 rfl infoRsp13) rfl ⟨A4,c4,none,0,by rw [HTK.out];rfl,by rw [HTK.out];exact hIz,by rw [HTK.out];exact fun j u hj=>(by cases hj),hbz⟩
   ·
    have HTK:=Lib.hid (HD.out.trans (put_done13 HT.out (show s.S.many + (more13 s.S.B ((L.zip C).map Prod.fst):Nat)≤s.lim by rw [HZF.out];omega)))
    have HRT:=Lib.hid (fun n=>(puts_ok13 ((L.zip C).take n) s.S HS.out.rt ⟨fun p hp=>HF.out.size p (List.mem_of_mem_take hp),HF.out.once.sublist (List.take_sublist _ _)⟩ (by
     have h1:more13 s.S.B (((L.zip C).take n).map Prod.fst)≤more13 s.S.B L:=by
      have:(((L.zip C).take n).map Prod.fst).Sublist L:=by
       have:=(List.take_sublist n (L.zip C)).map Prod.fst
       rwa [HZF.out] at this
      rw [more13,more13]
      exact this.countP_le
     omega)).rt)
    have HPL:=Lib.hid (show (L.zip C).length=L.length by rw [List.length_zip,HLC.out];simp)
    go_upto_region 12 with (fail)
    clear d1 d3 c1
    go_wp2_with (first | (refine wpList_load_row rfl 33 _ rfl w.heap.size rfl _ _ _ _ i2 Tryz.underlying33 rfl infoSrv13 ?_))
    refine (HOWN.out _ hB).mono ?_
    rintro e W4 ⟨A4,c4,rfl,hI4,hb4⟩
    have hB:=hB.trans (hb4.mono hB.size)
    have iq:=iq.below hb4 iq.lt
    have i4:=i4.below hb4 i4.lt
    have i5:=i5.below hb4 i5.lt
    have zE:=Is.new W4 33 #[.slice none 0 0,.int .i64 0,.int .i64 0,.int .i64 0]
    have hbx:Below W4.heap.size W4 (W4.alloc (.cells #[.slice none 0 0,.int .i64 0,.int .i64 0,.int .i64 0] 33)):=(Below.refl _ _).alloc (Nat.le_refl _) _
    have hl5:=i5.lt
    have hsz:=hB.size
    have iq:=iq.below hbx iq.lt
    have i4:=i4.below hbx i4.lt
    have i5:=i5.below hbx i5.lt
    have hI4:=hI4.keep hbx
    have hB:=hB.trans (hbx.mono hB.size)
    clear hb4 hbx i2
    generalize hW5:W4.alloc (.cells #[.slice none 0 0,.int .i64 0,.int .i64 0,.int .i64 0] 33)=W5 at *
    generalize hE:W4.heap.size=E at *
    have HO:=Lib.hid (srvA_one13 s A4 c4)
    go_upto_region 13 with (refine wpList_store_row rfl 33 _ _ rfl E (srvA s A4 c4) rfl rfl 33 _ zE infoSrv13 rfl HO.out ?_)
    have iE:=zE.row (srvA s A4 c4)
    have iq:=iq.rowFar (k:=E) (by omega) (srvA s A4 c4)
    have i4:=i4.rowFar (k:=E) (by omega) (srvA s A4 c4)
    have i5:=i5.rowFar (k:=E) (by omega) (srvA s A4 c4)
    have hI4:=hI4.noS13 zE rfl (grownRowG W5 E (srvA s A4 c4))
    have hB:=belowRow hB (g:=E) (by omega) (srvA s A4 c4)
    clear zE hW5 hE HO
    generalize W5.setRow E (srvA s A4 c4)=W6 at *
    go_wp2_with fail
    go_loopw [11] (fun i wr=>∃ (n:Nat) (A':Option Addr) (c':Nat),n≤L.length∧i=.int .i64 (n:Int)∧Is wr E 33 (srvA ⟨puts13 s.S ((L.zip C).take n),s.lim⟩ A' c')∧InS wr (puts13 s.S ((L.zip C).take n)) A' c'∧Is wr (w.heap.size + 1) 26 (reqA k AL L.length cl AC C.length cc)∧Is wr (w.heap.size + 1 + 1) 33 #[.slice none 0 0,.int .i64 0,.int .i64 0,.int .i64 0]∧Is wr (w.heap.size + 1 + 1 + 1) 45 (rspA 0 0 none 0 0 0 0)∧Below w.heap.size w wr) (fun i _=>L.length - (intOf i).toNat)
    case atStart=>exact ⟨0,A4,c4,by omega,rfl,iE,hI4,iq,i4,i5,hB⟩
    case round =>
     clear iE hI4 iq i4 i5 hB
     obtain ⟨n,A',c',hn,rfl,iE,hI4,iq,i4,i5,hB⟩:=hrel
     have c1:=iq.cell 1
     by_cases hlt:n < L.length
     ·
      have q1:(n:Int) < (L.length:Int):=by omega
      have hlt2:n < C.length:=by rw [HLC.out];exact hlt
      have w1i:=IntWalk.i64_in ((n:Int) + 1) (by omega)
      obtain ⟨l,hl'⟩:∃ l,L[n]?=some l:=⟨_,List.getElem?_eq_getElem hlt⟩
      obtain ⟨x,hx⟩:∃ x,C[n]?=some x:=⟨_,List.getElem?_eq_getElem hlt2⟩
      have HNX:=Lib.hid (puts_next13 (s:=s.S) (zip_at13 hl' hx))
      obtain ⟨b,off,rfl,hbl,hxl⟩:=HL.out.txt13 hl'
      obtain ⟨b2,off2,rfl,hbl2,hxx⟩:=HC.out.txt13 hx
      have hxl5:=(hB.cell (p:=⟨b,off + n,none⟩) hbl).trans hxl
      have hxx5:=(hB.cell (p:=⟨b2,off2 + n,none⟩) hbl2).trans hxx
      have hlen:=(HRT.out n).bnd.len.2
      clear hl' hx hxl hxx
      go_upto_region 16 with (fail)
      refine Code.wp_mono ?_ (dpt13_16 wr w.heap.size E (w.heap.size + 1) b off b2 off2 ⟨puts13 s.S ((L.zip C).take n),s.lim⟩ A' c' k L.length cl C.length cc n l x hlt hlt2 hbl hbl2 hxl5 hxx5 iE iq hI4 hlen (by omega) (by omega) hB.size _ _ _ _ _ _ _ _ _ _ _ _ _ _ _ _ _ _ _ _ _ _ _ _ _ _ _ _ _ _ _ _ _ _ _ _ _ _ _ _ _ _ _ _ _ _ _ _ _ _ _ _ _ _ _ _ _ _ _ _ _ _ _ _ _ _ _ _ _ _ _ _ _ _ _ _ _ _ _ _ _ _ _)
      rintro ex ⟨T,Df⟩ W7 ⟨rfl,hDf,AQ,cQ,hT,hb7,iq7,hO7,hZ7,jE⟩
      simp only at hT hDf
      subst hT
      subst hDf
      have i4:=(hO7 _ (by omega) i4.lt).trans i4
      have i5:=(hO7 _ (by omega) i5.lt).trans i5
      have hB:=hB.trans hb7
      simp only at jE hZ7
      rw [← HNX.out] at jE hZ7
      clear hO7 hb7 iE hI4 iq c1 hxl5 hxx5
      go_wp2
      go_roundw
      case rel=>exact ⟨n + 1,AQ,cQ,by omega,by go_num,jE,hZ7,iq7,i4,i5,hB⟩
      case measure=>simp [intOf];omega
     ·
      have q1:¬ (n:Int) < (L.length:Int):=by omega
      obtain rfl:n=L.length:=by omega
      rw [show (L.zip C).take L.length=L.zip C from List.take_of_length_le (by rw [HPL.out];exact Nat.le_refl _)] at iE hI4
      obtain ⟨Z,hZ⟩:∃ Z:Srv13,Z=⟨puts13 s.S (L.zip C),s.lim⟩:=⟨_,rfl⟩
      have hI5:InS wr Z.S A' c':=by rw [hZ];exact hI4
      rw [← hZ] at iE
      have HR3:=Lib.hid (HTK.out.trans (by rw [← hZ]:_=(Z,(⟨1,0,[],0,0⟩:Rsp11))))
      clear hZ hI4
      have z4:=srvA_one13 Z A' c'
      have Z4:=Lib.hid z4
      have k5:=i5.rowFar (k:=w.heap.size + 1 + 1) (by omega) (srvA Z A' c')
      clear z4
      go_wp2_with (first | (refine wpList_load_row rfl 33 _ rfl E rfl _ _ _ _ iE Tryz.underlying33 rfl infoSrv13 ?_) | (refine wpList_store_row rfl 33 _ _ rfl (w.heap.size + 1 + 1) (srvA Z A' c') rfl rfl 33 _ i4 infoSrv13 rfl Z4.out ?_) | (refine wpList_store_row rfl 45 _ _ rfl (w.heap.size + 1 + 1 + 1) (rspA 1 0 none 0 0 0 0) rfl rfl 45 _ k5 infoRsp13 rfl (rspA_one13 _ _ _ _ _ _ _) ?_))
      have hbz:=belowRow (belowRow hB (g:=w.heap.size + 1 + 1) (by omega) (srvA Z A' c')) (g:=w.heap.size + 1 + 1 + 1) (by omega) (rspA 1 0 none 0 0 0 0)
      have hIz:=(hI5.noS13 i4 rfl (grownRowG _ _ (srvA Z A' c'))).noS13 k5 rfl (grownRowG _ _ (rspA 1 0 none 0 0 0 0))
      exact bodyPost_ret (results_rr13 Tryz.results37 _ _ (w.heap.size + 1 + 1) 33 _ _ (w.heap.size + 1 + 1 + 1) 45 _ _ rfl ((i4.row _).rowFar (by omega) _) Tryz.underlying33 rfl infoSrv13 rfl (k5.row _) Tryz.underlying45 rfl infoRsp13) rfl ⟨A',c',none,0,by rw [HR3.out];rfl,by rw [HR3.out];exact hIz,by rw [HR3.out];exact fun j u hj=>(by cases hj),hbz⟩
end Go.Proofs.YtmggbbmpckcleaaGreat
namespace Go.Proofs.YtmggbbmpckcleaaGreat
open Go.RowKit Go.Shelf
theorem InS.oth13 {W W':World} {s:Sto12} {A:Option Addr} {c D:Nat} {t:TypeId} {cs:Array Value} (h:InS W s A c) (i:Is W D t cs) (hn:cs.toList.all noStr13=true) (hO:∀ kk,kk≠D→kk < W.heap.size→W'.heap[kk]?=W.heap[kk]?) (hsz:W.heap.size≤W'.heap.size):InS W' s A c:=by
 refine ⟨fun j u hj=>?_,h.nil,h.cap,h.fit⟩
 obtain ⟨b,off,rfl,hb,hc⟩:=h.b j u hj
 have hne:flB s.B≠[]:=fun e=>by rw [e] at hj;cases hj
 obtain ⟨j2,x,hx⟩:=flB_str13 _ hne
 obtain ⟨b2,off2,e2,_,hc2⟩:=h.b j2 _ hx
 cases e2
 have hD:b≠D:=fun e=>by
  subst e
  rw [i.cell] at hc2
  have:=List.all_eq_true.1 hn (.string x) (by rw [Array.mem_toList_iff];exact Array.mem_of_getElem? hc2)
  cases this
 exact ⟨b,off,rfl,Nat.lt_of_lt_of_le hb hsz,by rw [← hc];simp only [World.cell?,hO b hD hb]⟩
def Oth13 (W W':World) (D:Nat):Prop:=∀ kk,kk≠D→kk < W.heap.size→W'.heap[kk]?=W.heap[kk]?
theorem Oth13.refl (W:World) (D:Nat):Oth13 W W D:=fun _ _ _=>rfl
theorem Oth13.is {W W':World} {D g:Nat} {t:TypeId} {cs:Array Value} (h:Oth13 W W' D) (i:Is W g t cs) (hg:g≠D):Is W' g t cs:=(h g hg i.lt).trans i
theorem Oth13.below {W W1 W2:World} {D:Nat} (h:Oth13 W W1 D) (hb:Below W1.heap.size W1 W2) (hs:W.heap.size≤W1.heap.size:=by omega):Oth13 W W2 D:=fun kk h1 h2=>(hb.block kk (Nat.lt_of_lt_of_le h2 hs)).trans (h kk h1 h2)
theorem Oth13.grown {W W1 W2:World} {D:Nat} {row:Option Nat} (h:Oth13 W W1 D) (hg:W1.grownBy W2 row) (hr:∀ q,row=some q→W.heap.size≤q) (hs:W.heap.size≤W1.heap.size):Oth13 W W2 D:=fun kk h1 h2=>(hg.block kk (Nat.lt_of_lt_of_le h2 hs) (fun e=>by have:=hr kk e.symm;omega)).trans (h kk h1 h2)
theorem Oth13.setCell {W W1:World} {D:Nat} (h:Oth13 W W1 D) {p:Addr} (hp:p.block=D) (v:Value):Oth13 W (W1.setCell p v) D:=fun kk h1 h2=>(heap_setCell_other W1 p kk v (by rw [hp];exact h1)).trans (h kk h1 h2)
theorem getV_val13 {s:Sto12} (h:Rt12 s) {l:ByteArray}:(getV12 s l).1=get13 s.B l:=by
 cases hm:mp12 s.B l with
 | none=>rw [getV_none13 h hm,get13,hm];rfl
 | some y=>rw [getV_some13 h hm,get13,hm];rfl
theorem has_next13 {B:List Bkt12} {L:List ByteArray} {k:Nat} {l:ByteArray} (h:L[k]?=some l):has13 B (L.take (k + 1))=has13 B (L.take k) + (if (mp12 B l).isSome then 1 else 0):=by
 rw [List.take_add_one,h,has13,has13,List.countP_append]
 show _ + List.countP _ [l]=_
 rw [List.countP_cons]
 simp
theorem del_at13 {s:Sto12} (h:Rt12 s) {L:List ByteArray} (hd:L.Nodup) {n:Nat} {l:ByteArray} (hl:L[n]?=some l):Rt12 (dels13 s (L.take n))∧(delV12 (dels13 s (L.take n)) l).2.1=(mp12 s.B l).isSome:=by
 have hp:=dels_ok13 (L.take n) s h (hd.sublist (List.take_sublist _ _))
 have hnot:l ∉ L.take n:=fun hm=>by
  have h1:=List.pairwise_iff_getElem.1 hd
  obtain ⟨j,hj,e⟩:=List.mem_iff_getElem.1 hm
  rw [List.length_take] at hj
  have hn:n < L.length:=(List.getElem?_eq_some_iff.1 hl).1
  rw [List.getElem_take] at e
  have:=h1 j n (by omega) hn (by omega)
  rw [List.getElem?_eq_getElem hn] at hl
  exact this (e.trans (Option.some.inj hl).symm)
 obtain ⟨_,_,_,d4,_⟩:=del_ok12 hp.rt (l:=l)
 exact ⟨hp.rt,by rw [d4,hp.mp l hnot]⟩
theorem ddo13_14 (W0:World) (D2 DQ b off:Nat) (s:Srv13) (A:Option Addr) (c:Nat) (k:Int) (nl cl:Nat) (AC:Option Addr) (nc cc i:Nat) (l:ByteArray) (hi:i < nl) (hb0:b < W0.heap.size) (hx:W0.cell? ⟨b,off + i,none⟩=some (.string l)) (i2:Is W0 D2 33 (srvA s A c)) (iq:Is W0 DQ 26 (reqA k (some ⟨b,off,none⟩) nl cl AC nc cc)) (hI:InS W0 s.S A c) (x0 x1 x4 x5 x6 x7 x9 Xa Xb Xc Xd Xe Xf Xg Xh Xi Xj Xk Xl Xm Xn Xo Xp Xq Xr Xs Xt Xu Xv Xw Xx Xy Xz Ya Yb Yc Yd Ye Yf Yg Yh Yi Yj Yk Yl Ym Yn Yo Yp Yq Yr Ys Yt Yu Yv Yw Yx Yy Yz Za Zb Zc Zd Ze Zf Zg Zh Zi Zj Zk Zl Zm Zn Zo Zp Zq Zr Zs Zt Zu Zv Zw Zx Zy Zz Ua Ub Uc Ud Ue Uf Ug Uh Ui Uj Uk Ul Um Un Uo Up Uq Ur Us:Value) :
  (Code.region 14 (opsOf Tryz.f16 14) true).wp Tryz.prog (fun ex YY W=>ex=.normal∧YY.defers=[]∧∃ (_:Unit),YY.tmps=#[x0,x1,.pointer (some ⟨D2,0,none⟩),.pointer (some ⟨DQ,0,none⟩),x4,x5,x6,x7,.int .i64 (i:Int),.string (getV12 s.S l).1,.bool (getV12 s.S l).2,Xb,Xc,Xd,Xe,Xf,Xg,Xh,Xi,Xj,Xk,Xl,Xm,Xn,Xo,Xp,Xq,Xr,Xs,Xt,Xu,Xv,Xw,Xx,Xy,Xz,Ya,Yb,Yc,Yd,Ye,Yf,Yg,Yh,Yi,Yj,Yk,Yl,Ym,Yn,Yo,Yp,Yq,Yr,Ys,Yt,Yu,Yv,Yw,Yx,.tuple #[.string (getV12 s.S l).1,.bool (getV12 s.S l).2],.pointer (some ⟨D2,0,none⟩),.agg (stoA s.S A c),.pointer (some ⟨DQ,1,none⟩),.slice (some ⟨b,off,none⟩) nl cl,.int .i64 (i:Int),.pointer (some ⟨b,off + i,none⟩),.string l,.tuple #[.string (getV12 s.S l).1,.bool (getV12 s.S l).2],.string (getV12 s.S l).1,.bool (getV12 s.S l).2,Zj,Zk,Zl,Zm,Zn,Zo,Zp,Zq,Zr,Zs,Zt,Zu,Zv,Zw,Zx,Zy,Zz,Ua,Ub,Uc,Ud,Ue,Uf,Ug,Uh,Ui,Uj,Uk,Ul,Um,Un,Uo,Up,Uq,Ur,Us]∧Below W0.heap.size W0 W) { tmps:=#[x0,x1,.pointer (some ⟨D2,0,none⟩),.pointer (some ⟨DQ,0,none⟩),x4,x5,x6,x7,.int .i64 (i:Int),x9,Xa,Xb,Xc,Xd,Xe,Xf,Xg,Xh,Xi,Xj,Xk,Xl,Xm,Xn,Xo,Xp,Xq,Xr,Xs,Xt,Xu,Xv,Xw,Xx,Xy,Xz,Ya,Yb,Yc,Yd,Ye,Yf,Yg,Yh,Yi,Yj,Yk,Yl,Ym,Yn,Yo,Yp,Yq,Yr,Ys,Yt,Yu,Yv,Yw,Yx,Yy,Yz,Za,Zb,Zc,Zd,Ze,Zf,Zg,Zh,Zi,Zj,Zk,Zl,Zm,Zn,Zo,Zp,Zq,Zr,Zs,Zt,Zu,Zv,Zw,Zx,Zy,Zz,Ua,Ub,Uc,Ud,Ue,Uf,Ug,Uh,Ui,Uj,Uk,Ul,Um,Un,Uo,Up,Uq,Ur,Us],defers:=[] } W0:=by
 have hB:Below W0.heap.size W0 (W0.drewN 1):=belowN (Below.refl _ _) 1
 generalize hQ:(fun (ex:Exit) (YY:Act) (W:World)=>ex=.normal∧YY.defers=[]∧∃ (_:Unit),YY.tmps=#[x0,x1,.pointer (some ⟨D2,0,none⟩),.pointer (some ⟨DQ,0,none⟩),x4,x5,x6,x7,.int .i64 (i:Int),.string (getV12 s.S l).1,.bool (getV12 s.S l).2,Xb,Xc,Xd,Xe,Xf,Xg,Xh,Xi,Xj,Xk,Xl,Xm,Xn,Xo,Xp,Xq,Xr,Xs,Xt,Xu,Xv,Xw,Xx,Xy,Xz,Ya,Yb,Yc,Yd,Ye,Yf,Yg,Yh,Yi,Yj,Yk,Yl,Ym,Yn,Yo,Yp,Yq,Yr,Ys,Yt,Yu,Yv,Yw,Yx,.tuple #[.string (getV12 s.S l).1,.bool (getV12 s.S l).2],.pointer (some ⟨D2,0,none⟩),.agg (stoA s.S A c),.pointer (some ⟨DQ,1,none⟩),.slice (some ⟨b,off,none⟩) nl cl,.int .i64 (i:Int),.pointer (some ⟨b,off + i,none⟩),.string l,.tuple #[.string (getV12 s.S l).1,.bool (getV12 s.S l).2],.string (getV12 s.S l).1,.bool (getV12 s.S l).2,Zj,Zk,Zl,Zm,Zn,Zo,Zp,Zq,Zr,Zs,Zt,Zu,Zv,Zw,Zx,Zy,Zz,Ua,Ub,Uc,Ud,Ue,Uf,Ug,Uh,Ui,Uj,Uk,Ul,Um,Un,Uo,Up,Uq,Ur,Us]∧Below W0.heap.size W0 W)=Q
 have HQN:∀ c a W,¬ Q (.panic c) a W:=fun c a W h=>by subst hQ;exact nomatch h.1
 have ST7:∀ (W:World),Below W0.heap.size W0 W→wpAnyH Tryz.prog .any (opsOf Tryz.f16 14) Q (fun W=>Below W0.heap.size W0 W) 0 #[true,true,true,true,true,true,true,true,true,true,true,true,true] { tmps:=#[x0,x1,.pointer (some ⟨D2,0,none⟩),.pointer (some ⟨DQ,0,none⟩),x4,x5,x6,x7,.int .i64 (i:Int),.string (getV12 s.S l).1,.bool (getV12 s.S l).2,Xb,Xc,Xd,Xe,Xf,Xg,Xh,Xi,Xj,Xk,Xl,Xm,Xn,Xo,Xp,Xq,Xr,Xs,Xt,Xu,Xv,Xw,Xx,Xy,Xz,Ya,Yb,Yc,Yd,Ye,Yf,Yg,Yh,Yi,Yj,Yk,Yl,Ym,Yn,Yo,Yp,Yq,Yr,Ys,Yt,Yu,Yv,Yw,Yx,.tuple #[.string (getV12 s.S l).1,.bool (getV12 s.S l).2],.pointer (some ⟨D2,0,none⟩),.agg (stoA s.S A c),.pointer (some ⟨DQ,1,none⟩),.slice (some ⟨b,off,none⟩) nl cl,.int .i64 (i:Int),.pointer (some ⟨b,off + i,none⟩),.string l,.tuple #[.string (getV12 s.S l).1,.bool (getV12 s.S l).2],.string (getV12 s.S l).1,.bool (getV12 s.S l).2,Zj,Zk,Zl,Zm,Zn,Zo,Zp,Zq,Zr,Zs,Zt,Zu,Zv,Zw,Zx,Zy,Zz,Ua,Ub,Uc,Ud,Ue,Uf,Ug,Uh,Ui,Uj,Uk,Ul,Um,Un,Uo,Up,Uq,Ur,Us],defers:=[] } W:=by
  intro W hB
  refine wpAnyH_done (by kernel_rfl) ?_ _
  subst hQ
  exact ⟨rfl,rfl,(),rfl,hB⟩
 have ST:∀ (W:World),Below W0.heap.size W0 W→wpAnyH Tryz.prog .any (opsOf Tryz.f16 14) Q (fun W=>Below W0.heap.size W0 W) 6 #[true,true,true,true,true,true,true,false,false,false,false,false,false] { tmps:=#[x0,x1,.pointer (some ⟨D2,0,none⟩),.pointer (some ⟨DQ,0,none⟩),x4,x5,x6,x7,.int .i64 (i:Int),x9,Xa,Xb,Xc,Xd,Xe,Xf,Xg,Xh,Xi,Xj,Xk,Xl,Xm,Xn,Xo,Xp,Xq,Xr,Xs,Xt,Xu,Xv,Xw,Xx,Xy,Xz,Ya,Yb,Yc,Yd,Ye,Yf,Yg,Yh,Yi,Yj,Yk,Yl,Ym,Yn,Yo,Yp,Yq,Yr,Ys,Yt,Yu,Yv,Yw,Yx,Yy,.pointer (some ⟨D2,0,none⟩),.agg (stoA s.S A c),.pointer (some ⟨DQ,1,none⟩),.slice (some ⟨b,off,none⟩) nl cl,.int .i64 (i:Int),.pointer (some ⟨b,off + i,none⟩),.string l,Zg,Zh,Zi,Zj,Zk,Zl,Zm,Zn,Zo,Zp,Zq,Zr,Zs,Zt,Zu,Zv,Zw,Zx,Zy,Zz,Ua,Ub,Uc,Ud,Ue,Uf,Ug,Uh,Ui,Uj,Uk,Ul,Um,Un,Uo,Up,Uq,Ur,Us],defers:=[] } W:=by
  intro W hB
  refine wpAnyH_ready (by kernel_rfl) (by simp) (AllReadyH.cons (i:=7) (at_nth rfl) ?_ (AllReadyH.nil))
  ·
   refine arm10_call (by kernel_rfl) (fun wy=>by kernel_rfl) ((dget_any12 s.S A c l W (hI.keep hB)).mono ?_)
   rintro e Wn ⟨rfl,hb⟩
   replace hB:=hB.trans (hb.mono hB.size)
   clear hb
   refine ⟨_,rfl,hB,?_⟩
   simp only [Act.put,zz0,zz1,zz2]
   refine wpP (i:=8) (v:=.tuple #[.string (getV12 s.S l).1,.bool (getV12 s.S l).2]) HQN rfl (fun w hSw=>by kernel_rfl) hB ?_
   simp only [Act.put,zz0,zz1,zz2]
   refine wpP (i:=9) (v:=.string (getV12 s.S l).1) HQN rfl (fun w hSw=>by kernel_rfl) hB ?_
   simp only [Act.put,zz0,zz1,zz2]
   refine wpP (i:=10) (v:=.bool (getV12 s.S l).2) HQN rfl (fun w hSw=>by kernel_rfl) hB ?_
   simp only [Act.put,zz0,zz1,zz2]
   refine wpP (i:=11) (v:=.string (getV12 s.S l).1) HQN rfl (fun w hSw=>by kernel_rfl) hB ?_
   simp only [Act.put,zz0,zz1,zz2]
   refine wpP (i:=12) (v:=.bool (getV12 s.S l).2) HQN rfl (fun w hSw=>by kernel_rfl) hB ?_
   simp only [Act.put,zz0,zz1,zz2]
   exact ST7 _ hB
 refine wp_region_held_drew (S:=fun W=>Below W0.heap.size W0 W) (by kernel_rfl) hB (fun hS=>?_)
 change wpAnyH _ _ (opsOf Tryz.f16 14) _ _ 13 (Array.replicate 13 false) _ (W0.drewN 1)
 clear hS
 replace hB:Below W0.heap.size W0 (W0.drewN 1):=belowN (Below.refl _ _) 1
 refine wpP (i:=0) (v:=.pointer (some ⟨D2,0,none⟩)) HQN rfl (fun w hSw=>by go_simp) hB ?_
 simp only [Act.put,zz0,zz1,zz2]
 refine wpP (i:=1) (v:=.agg (stoA s.S A c)) HQN rfl (fun w hSw=>by exact run_load_midO12 (x:=.tmp 61) (by kernel_rfl) (by kernel_rfl) ((i2.below hSw i2.lt).srv13) Tryz.underlying31 rfl infoSto12) hB ?_
 simp only [Act.put,zz0,zz1,zz2]
 refine wpP (i:=2) (v:=.pointer (some ⟨DQ,1,none⟩)) HQN rfl (fun w hSw=>by go_simp) hB ?_
 simp only [Act.put,zz0,zz1,zz2]
 refine wpP (i:=3) (v:=.slice (some ⟨b,off,none⟩) nl cl) HQN rfl (fun w hSw=>by (have hc:=(iq.below hSw iq.lt).cell 1;go_simp)) hB ?_
 simp only [Act.put,zz0,zz1,zz2]
 refine wpP (i:=4) (v:=.int .i64 (i:Int)) HQN rfl (fun w hSw=>by kernel_rfl) hB ?_
 simp only [Act.put,zz0,zz1,zz2]
 refine wpP (i:=5) (v:=.pointer (some ⟨b,off + i,none⟩)) HQN rfl (fun w hSw=>by (have hk':=hi;go_simp)) hB ?_
 simp only [Act.put,zz0,zz1,zz2]
 refine wpP (i:=6) (v:=.string l) HQN rfl (fun w hSw=>by (have hc:=(hSw.cell (p:=⟨b,off + i,none⟩) hb0).trans hx;go_simp)) hB ?_
 simp only [Act.put,zz0,zz1,zz2]
 exact ST _ hB
theorem ddo13_20 (W0:World) (D6 DQ b off:Nat) (s:Srv13) (A:Option Addr) (c:Nat) (k:Int) (nl cl:Nat) (AC:Option Addr) (nc cc i:Nat) (l:ByteArray) (hi:i < nl) (hb0:b < W0.heap.size) (hx:W0.cell? ⟨b,off + i,none⟩=some (.string l)) (i6:Is W0 D6 33 (srvA s A c)) (iq:Is W0 DQ 26 (reqA k (some ⟨b,off,none⟩) nl cl AC nc cc)) (hI:InS W0 s.S A c) (hf:s.S.B.length≤4096) (x0 x1 x2 x4 x5 x7 x8 x9 Xa Xc Xd Xe Xf Xg Xh Xi Xj Xk Xl Xm Xn Xo Xp Xq Xr Xs Xt Xu Xv Xw Xx Xy Xz Ya Yb Yc Yd Ye Yf Yg Yh Yi Yj Yk Yl Ym Yn Yo Yp Yq Yr Ys Yt Yu Yv Yw Yx Yy Yz Za Zb Zc Zd Ze Zf Zg Zh Zi Zj Zk Zl Zm Zn Zo Zp Zq Zr Zs Zt Zu Zv Zw Zx Zy Zz Ua Ub Uc Ud Ue Uf Ug Uh Ui Uj Uk Ul Um Un Uo Up Uq Ur Us:Value) :
  (Code.region 20 (opsOf Tryz.f16 20) true).wp Tryz.prog (fun ex YY W=>ex=.normal∧YY.defers=[]∧∃ (AQ:Option Addr) (cQ:Nat) (DN:Nat),YY.tmps=#[x0,x1,x2,.pointer (some ⟨DQ,0,none⟩),x4,x5,.pointer (some ⟨D6,0,none⟩),x7,x8,x9,Xa,.int .i64 (i:Int),.pointer (some ⟨DN,0,none⟩),.bool (delV12 s.S l).2.1,.int .i64 (delV12 s.S l).2.2,Xf,Xg,Xh,Xi,Xj,Xk,Xl,Xm,Xn,Xo,Xp,Xq,Xr,Xs,Xt,Xu,Xv,Xw,Xx,Xy,Xz,Ya,Yb,Yc,Yd,Ye,Yf,Yg,Yh,Yi,Yj,Yk,Yl,Ym,Yn,Yo,Yp,Yq,Yr,Ys,Yt,Yu,Yv,Yw,Yx,Yy,Yz,Za,Zb,Zc,Zd,Ze,Zf,Zg,Zh,Zi,Zj,Zk,Zl,Zm,Zn,Zo,Zp,Zq,Zr,Zs,Zt,Zu,Zv,Zw,Zx,.tuple #[.agg (stoA (delV12 s.S l).1 AQ cQ),.bool (delV12 s.S l).2.1,.int .i64 (delV12 s.S l).2.2],.pointer (some ⟨D6,0,none⟩),.agg (stoA s.S A c),.pointer (some ⟨DQ,1,none⟩),.slice (some ⟨b,off,none⟩) nl cl,.int .i64 (i:Int),.pointer (some ⟨b,off + i,none⟩),.string l,.tuple #[.agg (stoA (delV12 s.S l).1 AQ cQ),.bool (delV12 s.S l).2.1,.int .i64 (delV12 s.S l).2.2],.agg (stoA (delV12 s.S l).1 AQ cQ),.bool (delV12 s.S l).2.1,.int .i64 (delV12 s.S l).2.2,Uk,Ul,Um,Un,Uo,Up,Uq,Ur,Us]∧Below W0.heap.size W0 W∧InS W (delV12 s.S l).1 AQ cQ∧W0.heap.size≤DN∧Is W DN 31 (stoA (delV12 s.S l).1 AQ cQ)) { tmps:=#[x0,x1,x2,.pointer (some ⟨DQ,0,none⟩),x4,x5,.pointer (some ⟨D6,0,none⟩),x7,x8,x9,Xa,.int .i64 (i:Int),Xc,Xd,Xe,Xf,Xg,Xh,Xi,Xj,Xk,Xl,Xm,Xn,Xo,Xp,Xq,Xr,Xs,Xt,Xu,Xv,Xw,Xx,Xy,Xz,Ya,Yb,Yc,Yd,Ye,Yf,Yg,Yh,Yi,Yj,Yk,Yl,Ym,Yn,Yo,Yp,Yq,Yr,Ys,Yt,Yu,Yv,Yw,Yx,Yy,Yz,Za,Zb,Zc,Zd,Ze,Zf,Zg,Zh,Zi,Zj,Zk,Zl,Zm,Zn,Zo,Zp,Zq,Zr,Zs,Zt,Zu,Zv,Zw,Zx,Zy,Zz,Ua,Ub,Uc,Ud,Ue,Uf,Ug,Uh,Ui,Uj,Uk,Ul,Um,Un,Uo,Up,Uq,Ur,Us],defers:=[] } W0:=by
 have hB:Below W0.heap.size W0 (W0.drewN 1):=belowN (Below.refl _ _) 1
 generalize hQ:(fun (ex:Exit) (YY:Act) (W:World)=>ex=.normal∧YY.defers=[]∧∃ (AQ:Option Addr) (cQ:Nat) (DN:Nat),YY.tmps=#[x0,x1,x2,.pointer (some ⟨DQ,0,none⟩),x4,x5,.pointer (some ⟨D6,0,none⟩),x7,x8,x9,Xa,.int .i64 (i:Int),.pointer (some ⟨DN,0,none⟩),.bool (delV12 s.S l).2.1,.int .i64 (delV12 s.S l).2.2,Xf,Xg,Xh,Xi,Xj,Xk,Xl,Xm,Xn,Xo,Xp,Xq,Xr,Xs,Xt,Xu,Xv,Xw,Xx,Xy,Xz,Ya,Yb,Yc,Yd,Ye,Yf,Yg,Yh,Yi,Yj,Yk,Yl,Ym,Yn,Yo,Yp,Yq,Yr,Ys,Yt,Yu,Yv,Yw,Yx,Yy,Yz,Za,Zb,Zc,Zd,Ze,Zf,Zg,Zh,Zi,Zj,Zk,Zl,Zm,Zn,Zo,Zp,Zq,Zr,Zs,Zt,Zu,Zv,Zw,Zx,.tuple #[.agg (stoA (delV12 s.S l).1 AQ cQ),.bool (delV12 s.S l).2.1,.int .i64 (delV12 s.S l).2.2],.pointer (some ⟨D6,0,none⟩),.agg (stoA s.S A c),.pointer (some ⟨DQ,1,none⟩),.slice (some ⟨b,off,none⟩) nl cl,.int .i64 (i:Int),.pointer (some ⟨b,off + i,none⟩),.string l,.tuple #[.agg (stoA (delV12 s.S l).1 AQ cQ),.bool (delV12 s.S l).2.1,.int .i64 (delV12 s.S l).2.2],.agg (stoA (delV12 s.S l).1 AQ cQ),.bool (delV12 s.S l).2.1,.int .i64 (delV12 s.S l).2.2,Uk,Ul,Um,Un,Uo,Up,Uq,Ur,Us]∧Below W0.heap.size W0 W∧InS W (delV12 s.S l).1 AQ cQ∧W0.heap.size≤DN∧Is W DN 31 (stoA (delV12 s.S l).1 AQ cQ))=Q
 have HQN:∀ c a W,¬ Q (.panic c) a W:=fun c a W h=>by subst hQ;exact nomatch h.1
 have ST7_12_13:∀ (W:World) (AQ:Option Addr) (cQ:Nat) (DN:Nat),Below W0.heap.size W0 W→InS W (delV12 s.S l).1 AQ cQ→W0.heap.size≤DN→Is W DN 31 (stoA (delV12 s.S l).1 AQ cQ)→wpAnyH Tryz.prog .any (opsOf Tryz.f16 20) Q (fun W=>Below W0.heap.size W0 W) 0 #[true,true,true,true,true,true,true,true,true,true,true,true,true,true,true,true] { tmps:=#[x0,x1,x2,.pointer (some ⟨DQ,0,none⟩),x4,x5,.pointer (some ⟨D6,0,none⟩),x7,x8,x9,Xa,.int .i64 (i:Int),.pointer (some ⟨DN,0,none⟩),.bool (delV12 s.S l).2.1,.int .i64 (delV12 s.S l).2.2,Xf,Xg,Xh,Xi,Xj,Xk,Xl,Xm,Xn,Xo,Xp,Xq,Xr,Xs,Xt,Xu,Xv,Xw,Xx,Xy,Xz,Ya,Yb,Yc,Yd,Ye,Yf,Yg,Yh,Yi,Yj,Yk,Yl,Ym,Yn,Yo,Yp,Yq,Yr,Ys,Yt,Yu,Yv,Yw,Yx,Yy,Yz,Za,Zb,Zc,Zd,Ze,Zf,Zg,Zh,Zi,Zj,Zk,Zl,Zm,Zn,Zo,Zp,Zq,Zr,Zs,Zt,Zu,Zv,Zw,Zx,.tuple #[.agg (stoA (delV12 s.S l).1 AQ cQ),.bool (delV12 s.S l).2.1,.int .i64 (delV12 s.S l).2.2],.pointer (some ⟨D6,0,none⟩),.agg (stoA s.S A c),.pointer (some ⟨DQ,1,none⟩),.slice (some ⟨b,off,none⟩) nl cl,.int .i64 (i:Int),.pointer (some ⟨b,off + i,none⟩),.string l,.tuple #[.agg (stoA (delV12 s.S l).1 AQ cQ),.bool (delV12 s.S l).2.1,.int .i64 (delV12 s.S l).2.2],.agg (stoA (delV12 s.S l).1 AQ cQ),.bool (delV12 s.S l).2.1,.int .i64 (delV12 s.S l).2.2,Uk,Ul,Um,Un,Uo,Up,Uq,Ur,Us],defers:=[] } W:=by
  intro W AQ cQ DN hB hZ hN jN
  refine wpAnyH_done (by kernel_rfl) ?_ _
  subst hQ
  exact ⟨rfl,rfl,AQ,cQ,DN,rfl,hB,hZ,hN,jN⟩
 have ST7_12:∀ (W:World) (AQ:Option Addr) (cQ:Nat) (DN:Nat),Below W0.heap.size W0 W→InS W (delV12 s.S l).1 AQ cQ→W0.heap.size≤DN→Is W DN 31 #[.slice none 0 0,.int .i64 0,.int .i64 0]→wpAnyH Tryz.prog .any (opsOf Tryz.f16 20) Q (fun W=>Below W0.heap.size W0 W) 3 #[true,true,true,true,true,true,true,true,true,true,true,true,true,false,false,false] { tmps:=#[x0,x1,x2,.pointer (some ⟨DQ,0,none⟩),x4,x5,.pointer (some ⟨D6,0,none⟩),x7,x8,x9,Xa,.int .i64 (i:Int),.pointer (some ⟨DN,0,none⟩),Xd,Xe,Xf,Xg,Xh,Xi,Xj,Xk,Xl,Xm,Xn,Xo,Xp,Xq,Xr,Xs,Xt,Xu,Xv,Xw,Xx,Xy,Xz,Ya,Yb,Yc,Yd,Ye,Yf,Yg,Yh,Yi,Yj,Yk,Yl,Ym,Yn,Yo,Yp,Yq,Yr,Ys,Yt,Yu,Yv,Yw,Yx,Yy,Yz,Za,Zb,Zc,Zd,Ze,Zf,Zg,Zh,Zi,Zj,Zk,Zl,Zm,Zn,Zo,Zp,Zq,Zr,Zs,Zt,Zu,Zv,Zw,Zx,.tuple #[.agg (stoA (delV12 s.S l).1 AQ cQ),.bool (delV12 s.S l).2.1,.int .i64 (delV12 s.S l).2.2],.pointer (some ⟨D6,0,none⟩),.agg (stoA s.S A c),.pointer (some ⟨DQ,1,none⟩),.slice (some ⟨b,off,none⟩) nl cl,.int .i64 (i:Int),.pointer (some ⟨b,off + i,none⟩),.string l,.tuple #[.agg (stoA (delV12 s.S l).1 AQ cQ),.bool (delV12 s.S l).2.1,.int .i64 (delV12 s.S l).2.2],.agg (stoA (delV12 s.S l).1 AQ cQ),.bool (delV12 s.S l).2.1,.int .i64 (delV12 s.S l).2.2,Uk,Ul,Um,Un,Uo,Up,Uq,Ur,Us],defers:=[] } W:=by
  intro W AQ cQ DN hB hZ hN iN
  refine wpAnyH_ready (by kernel_rfl) (by simp) (AllReadyH.cons (i:=13) (at_nth rfl) ?_ (AllReadyH.nil))
  ·
   have hone:=stoA_one12 (delV12 s.S l).1 AQ cQ
   have jN:=iN.row (stoA (delV12 s.S l).1 AQ cQ)
   replace hZ:=hZ.noS13 iN rfl (grownRowG W DN (stoA (delV12 s.S l).1 AQ cQ))
   have hB2:=belowRow hB hN (stoA (delV12 s.S l).1 AQ cQ)
   refine arm10_skip (w':=W.setRow DN (stoA (delV12 s.S l).1 AQ cQ)) (by kernel_rfl) (run_row10 (x:=.tmp 12) (y:=.tmp 95) (by kernel_rfl) (by kernel_rfl) (by kernel_rfl) iN infoSto12 rfl hone) hB2 ?_
   try simp only [Act.put]
   replace hB:=hB2
   clear iN
   refine wpP (i:=14) (v:=.bool (delV12 s.S l).2.1) HQN rfl (fun w hSw=>by kernel_rfl) hB ?_
   simp only [Act.put,zz0,zz1,zz2]
   refine wpP (i:=15) (v:=.int .i64 (delV12 s.S l).2.2) HQN rfl (fun w hSw=>by kernel_rfl) hB ?_
   simp only [Act.put,zz0,zz1,zz2]
   exact ST7_12_13 _ _ _ _ hB hZ hN jN
 have ST7:∀ (W:World) (AQ:Option Addr) (cQ:Nat),Below W0.heap.size W0 W→InS W (delV12 s.S l).1 AQ cQ→wpAnyH Tryz.prog .any (opsOf Tryz.f16 20) Q (fun W=>Below W0.heap.size W0 W) 4 #[true,true,true,true,true,true,true,true,true,true,true,true,false,false,false,false] { tmps:=#[x0,x1,x2,.pointer (some ⟨DQ,0,none⟩),x4,x5,.pointer (some ⟨D6,0,none⟩),x7,x8,x9,Xa,.int .i64 (i:Int),Xc,Xd,Xe,Xf,Xg,Xh,Xi,Xj,Xk,Xl,Xm,Xn,Xo,Xp,Xq,Xr,Xs,Xt,Xu,Xv,Xw,Xx,Xy,Xz,Ya,Yb,Yc,Yd,Ye,Yf,Yg,Yh,Yi,Yj,Yk,Yl,Ym,Yn,Yo,Yp,Yq,Yr,Ys,Yt,Yu,Yv,Yw,Yx,Yy,Yz,Za,Zb,Zc,Zd,Ze,Zf,Zg,Zh,Zi,Zj,Zk,Zl,Zm,Zn,Zo,Zp,Zq,Zr,Zs,Zt,Zu,Zv,Zw,Zx,.tuple #[.agg (stoA (delV12 s.S l).1 AQ cQ),.bool (delV12 s.S l).2.1,.int .i64 (delV12 s.S l).2.2],.pointer (some ⟨D6,0,none⟩),.agg (stoA s.S A c),.pointer (some ⟨DQ,1,none⟩),.slice (some ⟨b,off,none⟩) nl cl,.int .i64 (i:Int),.pointer (some ⟨b,off + i,none⟩),.string l,.tuple #[.agg (stoA (delV12 s.S l).1 AQ cQ),.bool (delV12 s.S l).2.1,.int .i64 (delV12 s.S l).2.2],.agg (stoA (delV12 s.S l).1 AQ cQ),.bool (delV12 s.S l).2.1,.int .i64 (delV12 s.S l).2.2,Uk,Ul,Um,Un,Uo,Up,Uq,Ur,Us],defers:=[] } W:=by
  intro W AQ cQ hB hZ
  refine wpAnyH_ready (by kernel_rfl) (by simp) (AllReadyH.cons (i:=12) (at_nth rfl) ?_ (AllReadyH.nil))
  ·
   have iN:=Is.new W 31 #[.slice none 0 0,.int .i64 0,.int .i64 0]
   have hN:=hB.size
   replace hZ:=hZ.keep ((Below.refl _ _).alloc (Nat.le_refl _) (.cells #[.slice none 0 0,.int .i64 0,.int .i64 0] 31))
   replace hB:=hB.alloc hB.size (.cells #[.slice none 0 0,.int .i64 0,.int .i64 0] 31)
   refine arm10_value (v:=.pointer (some ⟨W.heap.size,0,none⟩)) (w':=W.alloc (.cells #[.slice none 0 0,.int .i64 0,.int .i64 0] 31)) (by kernel_rfl) (by go_simp) hB ?_
   simp only [Act.put,zz0,zz1,zz2]
   exact ST7_12 _ _ _ _ hB hZ hN iN
 have ST12:∀ (W:World) (DN:Nat),Below W0.heap.size W0 W→W0.heap.size≤DN→Is W DN 31 #[.slice none 0 0,.int .i64 0,.int .i64 0]→wpAnyH Tryz.prog .any (opsOf Tryz.f16 20) Q (fun W=>Below W0.heap.size W0 W) 8 #[true,true,true,true,true,true,true,false,false,false,false,false,true,false,false,false] { tmps:=#[x0,x1,x2,.pointer (some ⟨DQ,0,none⟩),x4,x5,.pointer (some ⟨D6,0,none⟩),x7,x8,x9,Xa,.int .i64 (i:Int),.pointer (some ⟨DN,0,none⟩),Xd,Xe,Xf,Xg,Xh,Xi,Xj,Xk,Xl,Xm,Xn,Xo,Xp,Xq,Xr,Xs,Xt,Xu,Xv,Xw,Xx,Xy,Xz,Ya,Yb,Yc,Yd,Ye,Yf,Yg,Yh,Yi,Yj,Yk,Yl,Ym,Yn,Yo,Yp,Yq,Yr,Ys,Yt,Yu,Yv,Yw,Yx,Yy,Yz,Za,Zb,Zc,Zd,Ze,Zf,Zg,Zh,Zi,Zj,Zk,Zl,Zm,Zn,Zo,Zp,Zq,Zr,Zs,Zt,Zu,Zv,Zw,Zx,Zy,.pointer (some ⟨D6,0,none⟩),.agg (stoA s.S A c),.pointer (some ⟨DQ,1,none⟩),.slice (some ⟨b,off,none⟩) nl cl,.int .i64 (i:Int),.pointer (some ⟨b,off + i,none⟩),.string l,Ug,Uh,Ui,Uj,Uk,Ul,Um,Un,Uo,Up,Uq,Ur,Us],defers:=[] } W:=by
  intro W DN hB hN iN
  refine wpAnyH_ready (by kernel_rfl) (by simp) (AllReadyH.cons (i:=7) (at_nth rfl) ?_ (AllReadyH.nil))
  ·
   refine arm10_call (by kernel_rfl) (fun wy=>by kernel_rfl) ((ddel_any12 s.S A c l W (hI.keep hB) hf).mono ?_)
   rintro e Wn ⟨AQ,cQ,rfl,hZ,hb⟩
   replace iN:=iN.below hb iN.lt
   replace hB:=hB.trans (hb.mono hB.size)
   clear hb
   refine ⟨_,rfl,hB,?_⟩
   simp only [Act.put,zz0,zz1,zz2]
   refine wpP (i:=8) (v:=.tuple #[.agg (stoA (delV12 s.S l).1 AQ cQ),.bool (delV12 s.S l).2.1,.int .i64 (delV12 s.S l).2.2]) HQN rfl (fun w hSw=>by kernel_rfl) hB ?_
   simp only [Act.put,zz0,zz1,zz2]
   refine wpP (i:=9) (v:=.agg (stoA (delV12 s.S l).1 AQ cQ)) HQN rfl (fun w hSw=>by kernel_rfl) hB ?_
   simp only [Act.put,zz0,zz1,zz2]
   refine wpP (i:=10) (v:=.bool (delV12 s.S l).2.1) HQN rfl (fun w hSw=>by kernel_rfl) hB ?_
   simp only [Act.put,zz0,zz1,zz2]
   refine wpP (i:=11) (v:=.int .i64 (delV12 s.S l).2.2) HQN rfl (fun w hSw=>by kernel_rfl) hB ?_
   simp only [Act.put,zz0,zz1,zz2]
   exact ST7_12 _ _ _ _ hB hZ hN iN
 have ST:∀ (W:World),Below W0.heap.size W0 W→wpAnyH Tryz.prog .any (opsOf Tryz.f16 20) Q (fun W=>Below W0.heap.size W0 W) 9 #[true,true,true,true,true,true,true,false,false,false,false,false,false,false,false,false] { tmps:=#[x0,x1,x2,.pointer (some ⟨DQ,0,none⟩),x4,x5,.pointer (some ⟨D6,0,none⟩),x7,x8,x9,Xa,.int .i64 (i:Int),Xc,Xd,Xe,Xf,Xg,Xh,Xi,Xj,Xk,Xl,Xm,Xn,Xo,Xp,Xq,Xr,Xs,Xt,Xu,Xv,Xw,Xx,Xy,Xz,Ya,Yb,Yc,Yd,Ye,Yf,Yg,Yh,Yi,Yj,Yk,Yl,Ym,Yn,Yo,Yp,Yq,Yr,Ys,Yt,Yu,Yv,Yw,Yx,Yy,Yz,Za,Zb,Zc,Zd,Ze,Zf,Zg,Zh,Zi,Zj,Zk,Zl,Zm,Zn,Zo,Zp,Zq,Zr,Zs,Zt,Zu,Zv,Zw,Zx,Zy,.pointer (some ⟨D6,0,none⟩),.agg (stoA s.S A c),.pointer (some ⟨DQ,1,none⟩),.slice (some ⟨b,off,none⟩) nl cl,.int .i64 (i:Int),.pointer (some ⟨b,off + i,none⟩),.string l,Ug,Uh,Ui,Uj,Uk,Ul,Um,Un,Uo,Up,Uq,Ur,Us],defers:=[] } W:=by
  intro W hB
  refine wpAnyH_ready (by kernel_rfl) (by simp) (AllReadyH.cons (i:=7) (at_nth rfl) ?_ (AllReadyH.cons (i:=12) (at_nth rfl) ?_ (AllReadyH.nil)))
  ·
   refine arm10_call (by kernel_rfl) (fun wy=>by kernel_rfl) ((ddel_any12 s.S A c l W (hI.keep hB) hf).mono ?_)
   rintro e Wn ⟨AQ,cQ,rfl,hZ,hb⟩
   replace hB:=hB.trans (hb.mono hB.size)
   clear hb
   refine ⟨_,rfl,hB,?_⟩
   simp only [Act.put,zz0,zz1,zz2]
   refine wpP (i:=8) (v:=.tuple #[.agg (stoA (delV12 s.S l).1 AQ cQ),.bool (delV12 s.S l).2.1,.int .i64 (delV12 s.S l).2.2]) HQN rfl (fun w hSw=>by kernel_rfl) hB ?_
   simp only [Act.put,zz0,zz1,zz2]
   refine wpP (i:=9) (v:=.agg (stoA (delV12 s.S l).1 AQ cQ)) HQN rfl (fun w hSw=>by kernel_rfl) hB ?_
   simp only [Act.put,zz0,zz1,zz2]
   refine wpP (i:=10) (v:=.bool (delV12 s.S l).2.1) HQN rfl (fun w hSw=>by kernel_rfl) hB ?_
   simp only [Act.put,zz0,zz1,zz2]
   refine wpP (i:=11) (v:=.int .i64 (delV12 s.S l).2.2) HQN rfl (fun w hSw=>by kernel_rfl) hB ?_
   simp only [Act.put,zz0,zz1,zz2]
   exact ST7 _ _ _ hB hZ
  ·
   have iN:=Is.new W 31 #[.slice none 0 0,.int .i64 0,.int .i64 0]
   have hN:=hB.size
   replace hB:=hB.alloc hB.size (.cells #[.slice none 0 0,.int .i64 0,.int .i64 0] 31)
   refine arm10_value (v:=.pointer (some ⟨W.heap.size,0,none⟩)) (w':=W.alloc (.cells #[.slice none 0 0,.int .i64 0,.int .i64 0] 31)) (by kernel_rfl) (by go_simp) hB ?_
   simp only [Act.put,zz0,zz1,zz2]
   exact ST12 _ _ hB hN iN
 refine wp_region_held_drew (S:=fun W=>Below W0.heap.size W0 W) (by kernel_rfl) hB (fun hS=>?_)
 change wpAnyH _ _ (opsOf Tryz.f16 20) _ _ 16 (Array.replicate 16 false) _ (W0.drewN 1)
 clear hS
 replace hB:Below W0.heap.size W0 (W0.drewN 1):=belowN (Below.refl _ _) 1
 refine wpP (i:=0) (v:=.pointer (some ⟨D6,0,none⟩)) HQN rfl (fun w hSw=>by go_simp) hB ?_
 simp only [Act.put,zz0,zz1,zz2]
 refine wpP (i:=1) (v:=.agg (stoA s.S A c)) HQN rfl (fun w hSw=>by exact run_load_midO12 (x:=.tmp 87) (by kernel_rfl) (by kernel_rfl) ((i6.below hSw i6.lt).srv13) Tryz.underlying31 rfl infoSto12) hB ?_
 simp only [Act.put,zz0,zz1,zz2]
 refine wpP (i:=2) (v:=.pointer (some ⟨DQ,1,none⟩)) HQN rfl (fun w hSw=>by go_simp) hB ?_
 simp only [Act.put,zz0,zz1,zz2]
 refine wpP (i:=3) (v:=.slice (some ⟨b,off,none⟩) nl cl) HQN rfl (fun w hSw=>by (have hc:=(iq.below hSw iq.lt).cell 1;go_simp)) hB ?_
 simp only [Act.put,zz0,zz1,zz2]
 refine wpP (i:=4) (v:=.int .i64 (i:Int)) HQN rfl (fun w hSw=>by kernel_rfl) hB ?_
 simp only [Act.put,zz0,zz1,zz2]
 refine wpP (i:=5) (v:=.pointer (some ⟨b,off + i,none⟩)) HQN rfl (fun w hSw=>by (have hk':=hi;go_simp)) hB ?_
 simp only [Act.put,zz0,zz1,zz2]
 refine wpP (i:=6) (v:=.string l) HQN rfl (fun w hSw=>by (have hc:=(hSw.cell (p:=⟨b,off + i,none⟩) hb0).trans hx;go_simp)) hB ?_
 simp only [Act.put,zz0,zz1,zz2]
 exact ST _ hB
theorem ddo13_24 (DF:List Deferred) (W0:World) (B0 D1 D2 D3:Nat) (s:Srv13) (A:Option Addr) (c:Nat) (D4 rc:Nat) (k st m r:Int) (h42:D4≠D2) (h43:D4≠D3) (RA:Option Addr) (RC:List ByteArray) (i1:Is W0 D1 33 (srvA s A c)) (i2:Is W0 D2 33 #[.slice none 0 0,.int .i64 0,.int .i64 0,.int .i64 0]) (i3:Is W0 D3 45 (rspA 0 0 none 0 0 0 0)) (hI:InS W0 s.S A c) (hV:InV W0 RA (tL10 RC)) (i8:Is W0 D4 45 (rspA k st RA RC.length rc m r)) (hD2:B0≤D2) (hD3:B0≤D3) (h12:D1≠D2) (h13:D1≠D3) (h23:D2≠D3) (x0 x1 x2 x3 x8 x9 Xa Xb Xc Xd Xe Xf Xg Xh Xi Xj Xk Xl Xm Xn Xo Xp Xq Xr Xs Xt Xu Xv Xw Xx Xy Xz Ya Yb Yc Yd Ye Yf Yg Yh Yi Yj Yk Yl Ym Yn Yo Yp Yq Yr Ys Yt Yu Yv Yw Yx Yy Yz Za Zb Zc Zd Ze Zf Zg Zh Zi Zj Zk Zl Zm Zn Zo Zp Zq Zr Zs Zt Zu Zv Zw Zx Zy Zz Ua Ub Uc Ud Ue Uf Ug Uh Ui Uj Uk Ul Um Un Uo Up Uq Ur Us:Value) :
  (Code.region 24 (opsOf Tryz.f16 24) true).wp Tryz.prog (fun ex YY W=>ex=.normal∧YY.defers=DF∧∃ (_:Unit),YY.tmps=#[x0,x1,x2,x3,.pointer (some ⟨D2,0,none⟩),.pointer (some ⟨D3,0,none⟩),.pointer (some ⟨D1,0,none⟩),.pointer (some ⟨D4,0,none⟩),x8,x9,Xa,Xb,Xc,Xd,Xe,Xf,Xg,Xh,Xi,Xj,Xk,Xl,Xm,Xn,Xo,Xp,Xq,Xr,Xs,Xt,Xu,Xv,Xw,Xx,Xy,Xz,Ya,Yb,Yc,Yd,Ye,Yf,Yg,Yh,Yi,Yj,Yk,Yl,Ym,Yn,Yo,Yp,Yq,Yr,Ys,Yt,Yu,Yv,Yw,Yx,Yy,Yz,Za,Zb,Zc,Zd,Ze,Zf,Zg,Zh,Zi,Zj,Zk,Zl,Zm,Zn,Zo,Zp,Zq,Zr,Zs,Zt,Zu,Zv,Zw,Zx,Zy,Zz,Ua,Ub,Uc,Ud,Ue,Uf,Ug,Uh,Ui,Uj,Uk,Ul,Um,Un,Uo,Up,Uq,.agg (srvA s A c),.agg (rspA k st RA RC.length rc m r)]∧Below B0 W0 W∧Is W D1 33 (srvA s A c)∧(∀ kk,kk≠D2→kk≠D3→kk < W0.heap.size→W.heap[kk]?=W0.heap[kk]?)∧InS W s.S A c∧InV W RA (tL10 RC)∧Is W D4 45 (rspA k st RA RC.length rc m r)∧Is W D2 33 (srvA s A c)∧Is W D3 45 (rspA k st RA RC.length rc m r)) { tmps:=#[x0,x1,x2,x3,.pointer (some ⟨D2,0,none⟩),.pointer (some ⟨D3,0,none⟩),.pointer (some ⟨D1,0,none⟩),.pointer (some ⟨D4,0,none⟩),x8,x9,Xa,Xb,Xc,Xd,Xe,Xf,Xg,Xh,Xi,Xj,Xk,Xl,Xm,Xn,Xo,Xp,Xq,Xr,Xs,Xt,Xu,Xv,Xw,Xx,Xy,Xz,Ya,Yb,Yc,Yd,Ye,Yf,Yg,Yh,Yi,Yj,Yk,Yl,Ym,Yn,Yo,Yp,Yq,Yr,Ys,Yt,Yu,Yv,Yw,Yx,Yy,Yz,Za,Zb,Zc,Zd,Ze,Zf,Zg,Zh,Zi,Zj,Zk,Zl,Zm,Zn,Zo,Zp,Zq,Zr,Zs,Zt,Zu,Zv,Zw,Zx,Zy,Zz,Ua,Ub,Uc,Ud,Ue,Uf,Ug,Uh,Ui,Uj,Uk,Ul,Um,Un,Uo,Up,Uq,Ur,Us],defers:=DF } W0:=by
 have hB:Below B0 W0 (W0.drewN 1):=belowN (Below.refl _ _) 1
 generalize hQ:(fun (ex:Exit) (YY:Act) (W:World)=>ex=.normal∧YY.defers=DF∧∃ (_:Unit),YY.tmps=#[x0,x1,x2,x3,.pointer (some ⟨D2,0,none⟩),.pointer (some ⟨D3,0,none⟩),.pointer (some ⟨D1,0,none⟩),.pointer (some ⟨D4,0,none⟩),x8,x9,Xa,Xb,Xc,Xd,Xe,Xf,Xg,Xh,Xi,Xj,Xk,Xl,Xm,Xn,Xo,Xp,Xq,Xr,Xs,Xt,Xu,Xv,Xw,Xx,Xy,Xz,Ya,Yb,Yc,Yd,Ye,Yf,Yg,Yh,Yi,Yj,Yk,Yl,Ym,Yn,Yo,Yp,Yq,Yr,Ys,Yt,Yu,Yv,Yw,Yx,Yy,Yz,Za,Zb,Zc,Zd,Ze,Zf,Zg,Zh,Zi,Zj,Zk,Zl,Zm,Zn,Zo,Zp,Zq,Zr,Zs,Zt,Zu,Zv,Zw,Zx,Zy,Zz,Ua,Ub,Uc,Ud,Ue,Uf,Ug,Uh,Ui,Uj,Uk,Ul,Um,Un,Uo,Up,Uq,.agg (srvA s A c),.agg (rspA k st RA RC.length rc m r)]∧Below B0 W0 W∧Is W D1 33 (srvA s A c)∧(∀ kk,kk≠D2→kk≠D3→kk < W0.heap.size→W.heap[kk]?=W0.heap[kk]?)∧InS W s.S A c∧InV W RA (tL10 RC)∧Is W D4 45 (rspA k st RA RC.length rc m r)∧Is W D2 33 (srvA s A c)∧Is W D3 45 (rspA k st RA RC.length rc m r))=Q
 have HQN:∀ c a W,¬ Q (.panic c) a W:=fun c a W h=>by subst hQ;exact nomatch h.1
 have ST2_3:∀ (W:World),Below B0 W0 W→Is W D1 33 (srvA s A c)→(∀ kk,kk≠D2→kk≠D3→kk < W0.heap.size→W.heap[kk]?=W0.heap[kk]?)→InS W s.S A c→InV W RA (tL10 RC)→Is W D4 45 (rspA k st RA RC.length rc m r)→Is W D2 33 (srvA s A c)→Is W D3 45 (rspA k st RA RC.length rc m r)→wpAnyH Tryz.prog .any (opsOf Tryz.f16 24) Q (fun W=>Below B0 W0 W∧Is W D1 33 (srvA s A c)∧Is W D4 45 (rspA k st RA RC.length rc m r)) 0 #[true,true,true,true] { tmps:=#[x0,x1,x2,x3,.pointer (some ⟨D2,0,none⟩),.pointer (some ⟨D3,0,none⟩),.pointer (some ⟨D1,0,none⟩),.pointer (some ⟨D4,0,none⟩),x8,x9,Xa,Xb,Xc,Xd,Xe,Xf,Xg,Xh,Xi,Xj,Xk,Xl,Xm,Xn,Xo,Xp,Xq,Xr,Xs,Xt,Xu,Xv,Xw,Xx,Xy,Xz,Ya,Yb,Yc,Yd,Ye,Yf,Yg,Yh,Yi,Yj,Yk,Yl,Ym,Yn,Yo,Yp,Yq,Yr,Ys,Yt,Yu,Yv,Yw,Yx,Yy,Yz,Za,Zb,Zc,Zd,Ze,Zf,Zg,Zh,Zi,Zj,Zk,Zl,Zm,Zn,Zo,Zp,Zq,Zr,Zs,Zt,Zu,Zv,Zw,Zx,Zy,Zz,Ua,Ub,Uc,Ud,Ue,Uf,Ug,Uh,Ui,Uj,Uk,Ul,Um,Un,Uo,Up,Uq,.agg (srvA s A c),.agg (rspA k st RA RC.length rc m r)],defers:=DF } W:=by
  intro W hB i1 hO hI hV i8 j2 j3
  refine wpAnyH_done (by kernel_rfl) ?_ _
  subst hQ
  exact ⟨rfl,rfl,(),rfl,hB,i1,hO,hI,hV,i8,j2,j3⟩
 have ST2:∀ (W:World),Below B0 W0 W→Is W D1 33 (srvA s A c)→Is W D3 45 (rspA 0 0 none 0 0 0 0)→(∀ kk,kk≠D2→kk≠D3→kk < W0.heap.size→W.heap[kk]?=W0.heap[kk]?)→InS W s.S A c→InV W RA (tL10 RC)→Is W D4 45 (rspA k st RA RC.length rc m r)→Is W D2 33 (srvA s A c)→wpAnyH Tryz.prog .any (opsOf Tryz.f16 24) Q (fun W=>Below B0 W0 W∧Is W D1 33 (srvA s A c)∧Is W D4 45 (rspA k st RA RC.length rc m r)) 1 #[true,true,true,false] { tmps:=#[x0,x1,x2,x3,.pointer (some ⟨D2,0,none⟩),.pointer (some ⟨D3,0,none⟩),.pointer (some ⟨D1,0,none⟩),.pointer (some ⟨D4,0,none⟩),x8,x9,Xa,Xb,Xc,Xd,Xe,Xf,Xg,Xh,Xi,Xj,Xk,Xl,Xm,Xn,Xo,Xp,Xq,Xr,Xs,Xt,Xu,Xv,Xw,Xx,Xy,Xz,Ya,Yb,Yc,Yd,Ye,Yf,Yg,Yh,Yi,Yj,Yk,Yl,Ym,Yn,Yo,Yp,Yq,Yr,Ys,Yt,Yu,Yv,Yw,Yx,Yy,Yz,Za,Zb,Zc,Zd,Ze,Zf,Zg,Zh,Zi,Zj,Zk,Zl,Zm,Zn,Zo,Zp,Zq,Zr,Zs,Zt,Zu,Zv,Zw,Zx,Zy,Zz,Ua,Ub,Uc,Ud,Ue,Uf,Ug,Uh,Ui,Uj,Uk,Ul,Um,Un,Uo,Up,Uq,.agg (srvA s A c),.agg (rspA k st RA RC.length rc m r)],defers:=DF } W:=by
  intro W hB i1 i3 hO hI hV i8 j2
  refine wpAnyH_ready (by kernel_rfl) (by simp) (AllReadyH.cons (i:=3) (at_nth rfl) ?_ (AllReadyH.nil))
  ·
   have hone:(rspA k st RA RC.length rc m r).all (·.oneCell')=true:=rspA_one13 _ _ _ _ _ _ _
   have hg:=grownRowG W D3 (rspA k st RA RC.length rc m r)
   have j3:=i3.row (rspA k st RA RC.length rc m r)
   have hB2:=belowRow hB hD3 (rspA k st RA RC.length rc m r)
   have i12:=i1.rowFar (k:=D3) h13 (rspA k st RA RC.length rc m r)
   replace j2:=j2.rowFar (k:=D3) h23 (rspA k st RA RC.length rc m r)
   replace i8:=i8.rowFar (k:=D3) h43 (rspA k st RA RC.length rc m r)
   replace hO:∀ kk,kk≠D2→kk≠D3→kk < W0.heap.size→(W.setRow D3 (rspA k st RA RC.length rc m r)).heap[kk]?=W0.heap[kk]?:=fun kk h2 h3 hl=>(setRow_other W D3 kk (rspA k st RA RC.length rc m r) h3).trans (hO kk h2 h3 hl)
   replace hI:=hI.noS13 i3 rfl hg
   replace hV:=hV.noT13 i3 rfl hg
   refine arm10_skip (w':=W.setRow D3 (rspA k st RA RC.length rc m r)) (by kernel_rfl) (run_row10 (x:=.tmp 5) (y:=.tmp 106) (by kernel_rfl) (by kernel_rfl) (by kernel_rfl) i3 infoRsp13 rfl hone) ⟨hB2,i12,i8⟩ ?_
   try simp only [Act.put]
   replace hB:=hB2
   replace i1:=i12
   clear i3 hg
   exact ST2_3 _ hB i1 hO hI hV i8 j2 j3
 have ST:∀ (W:World),Below B0 W0 W→Is W D1 33 (srvA s A c)→Is W D2 33 #[.slice none 0 0,.int .i64 0,.int .i64 0,.int .i64 0]→Is W D3 45 (rspA 0 0 none 0 0 0 0)→(∀ kk,kk≠D2→kk≠D3→kk < W0.heap.size→W.heap[kk]?=W0.heap[kk]?)→InS W s.S A c→InV W RA (tL10 RC)→Is W D4 45 (rspA k st RA RC.length rc m r)→wpAnyH Tryz.prog .any (opsOf Tryz.f16 24) Q (fun W=>Below B0 W0 W∧Is W D1 33 (srvA s A c)∧Is W D4 45 (rspA k st RA RC.length rc m r)) 2 #[true,true,false,false] { tmps:=#[x0,x1,x2,x3,.pointer (some ⟨D2,0,none⟩),.pointer (some ⟨D3,0,none⟩),.pointer (some ⟨D1,0,none⟩),.pointer (some ⟨D4,0,none⟩),x8,x9,Xa,Xb,Xc,Xd,Xe,Xf,Xg,Xh,Xi,Xj,Xk,Xl,Xm,Xn,Xo,Xp,Xq,Xr,Xs,Xt,Xu,Xv,Xw,Xx,Xy,Xz,Ya,Yb,Yc,Yd,Ye,Yf,Yg,Yh,Yi,Yj,Yk,Yl,Ym,Yn,Yo,Yp,Yq,Yr,Ys,Yt,Yu,Yv,Yw,Yx,Yy,Yz,Za,Zb,Zc,Zd,Ze,Zf,Zg,Zh,Zi,Zj,Zk,Zl,Zm,Zn,Zo,Zp,Zq,Zr,Zs,Zt,Zu,Zv,Zw,Zx,Zy,Zz,Ua,Ub,Uc,Ud,Ue,Uf,Ug,Uh,Ui,Uj,Uk,Ul,Um,Un,Uo,Up,Uq,.agg (srvA s A c),.agg (rspA k st RA RC.length rc m r)],defers:=DF } W:=by
  intro W hB i1 i2 i3 hO hI hV i8
  refine wpAnyH_ready (by kernel_rfl) (by simp) (AllReadyH.cons (i:=2) (at_nth rfl) ?_ (AllReadyH.nil))
  ·
   have hone:(srvA s A c).all (·.oneCell')=true:=srvA_one13 s A c
   have hg:=grownRowG W D2 (srvA s A c)
   have j2:=i2.row (srvA s A c)
   have hB2:=belowRow hB hD2 (srvA s A c)
   have i12:=i1.rowFar (k:=D2) h12 (srvA s A c)
   replace i3:=i3.rowFar (k:=D2) h23.symm (srvA s A c)
   replace i8:=i8.rowFar (k:=D2) h42 (srvA s A c)
   replace hO:∀ kk,kk≠D2→kk≠D3→kk < W0.heap.size→(W.setRow D2 (srvA s A c)).heap[kk]?=W0.heap[kk]?:=fun kk h2 h3 hl=>(setRow_other W D2 kk (srvA s A c) h2).trans (hO kk h2 h3 hl)
   replace hI:=hI.noS13 i2 rfl hg
   replace hV:=hV.noT13 i2 rfl hg
   refine arm10_skip (w':=W.setRow D2 (srvA s A c)) (by kernel_rfl) (run_row10 (x:=.tmp 4) (y:=.tmp 105) (by kernel_rfl) (by kernel_rfl) (by kernel_rfl) i2 infoSrv13 rfl hone) ⟨hB2,i12,i8⟩ ?_
   try simp only [Act.put]
   replace hB:=hB2
   replace i1:=i12
   clear i2 hg
   exact ST2 _ hB i1 i3 hO hI hV i8 j2
 refine wp_region_held_drew (S:=fun W=>Below B0 W0 W∧Is W D1 33 (srvA s A c)∧Is W D4 45 (rspA k st RA RC.length rc m r)) (by kernel_rfl) ⟨hB,i1,i8⟩ (fun hS=>?_)
 change wpAnyH _ _ (opsOf Tryz.f16 24) _ _ 4 (Array.replicate 4 false) _ (W0.drewN 1)
 clear hS
 replace hB:Below B0 W0 (W0.drewN 1):=belowN (Below.refl _ _) 1
 replace i1:=i1.drewN 1
 replace i2:=i2.drewN 1
 replace i3:=i3.drewN 1
 replace i8:=i8.drewN 1
 replace hI:=hI.keep (belowN (Below.refl _ _) 1)
 replace hV:=hV.keep (belowN (Below.refl _ _) 1)
 refine wpP (i:=0) (v:=.agg (srvA s A c)) HQN rfl (fun w hSw=>by exact run_load_rowO (x:=.tmp 6) (by kernel_rfl) (by kernel_rfl) (hSw.2.1) Tryz.underlying33 rfl infoSrv13) ⟨hB,i1,i8⟩ ?_
 simp only [Act.put,zz0,zz1,zz2]
 refine wpP (i:=1) (v:=.agg (rspA k st RA RC.length rc m r)) HQN rfl (fun w hSw=>by exact run_load_rowO (x:=.tmp 7) (by kernel_rfl) (by kernel_rfl) (hSw.2.2) Tryz.underlying45 rfl infoRsp13) ⟨hB,i1,i8⟩ ?_
 simp only [Act.put,zz0,zz1,zz2]
 exact ST _ hB i1 i2 i3 (fun _ _ _ _=>rfl) hI hV i8
theorem ddoK13_any (s:Srv13) (A:Option Addr) (c:Nat) (K:Int) (L C:List ByteArray) (AL AC:Option Addr) (cl cc:Nat) (w:World) (hl:L.length≤9223372036854775807) (hl2:C.length≤9223372036854775807) (hf:s.S.B.length≤4096) (hI:InS w s.S A c) (hL:InV w AL (tL10 L)) (hC:InV w AC (tL10 C)) :
  Calls Tryz.prog 16 #[srvV s A c,.agg (reqA K AL L.length cl AC C.length cc)] w fun r w'=>DoPost13 (do13 s ⟨K,L,C⟩) w r w':=by
 obtain ⟨W1,hW1⟩:∃ W1,W1=(((w.alloc (.cells (srvA s A c) 33)).alloc (.cells (reqA K AL L.length cl AC C.length cc) 26)).alloc (.cells #[.slice none 0 0,.int .i64 0,.int .i64 0,.int .i64 0] 33)).alloc (.cells (rspA 0 0 none 0 0 0 0) 45):=⟨_,rfl⟩
 have i2:Is W1 w.heap.size 33 (srvA s A c):=by rw [hW1];exact (((Is.new w _ _).alloc _).alloc _).alloc _
 have iq:Is W1 (w.heap.size + 1) 26 (reqA K AL L.length cl AC C.length cc):=by rw [hW1];exact (Is.alloc (heap_alloc2_new w _ _) _).alloc _
 have i4:Is W1 (w.heap.size + 1 + 1) 33 #[.slice none 0 0,.int .i64 0,.int .i64 0,.int .i64 0]:=by
  have:=(Is.new ((w.alloc (.cells (srvA s A c) 33)).alloc (.cells (reqA K AL L.length cl AC C.length cc) 26)) 33 #[.slice none 0 0,.int .i64 0,.int .i64 0,.int .i64 0]).alloc (.cells (rspA 0 0 none 0 0 0 0) 45)
  rw [hW1];simpa using this
 have i5:Is W1 (w.heap.size + 1 + 1 + 1) 45 (rspA 0 0 none 0 0 0 0):=by
  have:=Is.new (((w.alloc (.cells (srvA s A c) 33)).alloc (.cells (reqA K AL L.length cl AC C.length cc) 26)).alloc (.cells #[.slice none 0 0,.int .i64 0,.int .i64 0,.int .i64 0] 33)) 45 (rspA 0 0 none 0 0 0 0)
  rw [hW1];simpa using this
 have hB1:Below w.heap.size w W1:=by rw [hW1];exact ((((Below.refl _ _).alloc (Nat.le_refl _) _).alloc (by simp) _).alloc (by simp;omega) _).alloc (by simp;omega) _
 have HI:=Lib.hid hI
 have HL:=Lib.hid hL
 have HC:=Lib.hid hC
 have HG:=Lib.hid (fun W (hB:Below w.heap.size w W)=>dright13_any s A c W (hI.keep hB))
 have HM:=Lib.hid (fun W (hB:Below w.heap.size w W)=>dright_any11 K AL AC cl cc L C W hl hl2 (hL.keep hB) (hC.keep hB))
 have HOWN:=Lib.hid (fun W (hB:Below w.heap.size w W)=>down13_any s A c W (hI.keep hB) hf)
 obtain ⟨D,hD⟩:∃ D,D=do13 s ⟨K,L,C⟩:=⟨_,rfl⟩
 rw [← hD]
 have HD:=Lib.hid hD
 clear hD hI hL hC hl hl2 hf
 cases hs:right13 s with
 | false =>
  rw [hs] at HG
  have HX:=Lib.hid (HD.out.trans (do_bad13 (by rw [hs,Bool.false_and])))
  clear hs HM
  go_enter Tryz.func16,Tryz.ntmps16
  go_upto_region 1 with (fail)
  rw [← hW1]
  clear hW1
  go_upto_region 2 with (first | (refine wpList_load_row rfl 33 _ rfl w.heap.size rfl _ _ _ _ i2 Tryz.underlying33 rfl infoSrv13 ?_) | (go_at_call 13;refine (HG.out _ hB1).mono ?_;rintro e W2 ⟨rfl,hb2⟩))
  have hB:=hB1.trans (hb2.mono hB1.size)
  have i2:=i2.below hb2 i2.lt
  have i4:=i4.below hb2 i4.lt
  have i5:=i5.below hb2 i5.lt
  clear hb2
  go_wp2_with (first | (refine wpList_load_row rfl 33 _ rfl w.heap.size rfl _ _ _ _ i2 Tryz.underlying33 rfl infoSrv13 ?_) | (go_at_call 36;refine (HOWN.out _ hB).mono ?_;rintro e W4 ⟨A4,c4,rfl,hI4,hb4⟩;have hB4:=hB.trans (hb4.mono hB.size);have k4:=i4.below hb4 i4.lt;have k5:=(i5.below hb4 i5.lt).rowFar (k:=w.heap.size + 1 + 1) (by omega) (srvA s A4 c4);have z4:=srvA_one13 s A4 c4;have Z4:=Lib.hid z4;clear hb4 z4) | (refine wpList_store_row rfl 33 _ _ rfl (w.heap.size + 1 + 1) (srvA s A4 c4) rfl rfl 33 _ k4 infoSrv13 rfl Z4.out ?_) | (refine wpList_store_row rfl 45 _ _ rfl (w.heap.size + 1 + 1 + 1) (rspA 0 0 none 0 0 0 0) rfl rfl 45 _ k5 infoRsp13 rfl (rspA_one13 _ _ _ _ _ _ _) ?_))
  have hbz:=belowRow (belowRow hB4 (g:=w.heap.size + 1 + 1) (by omega) (srvA s A4 c4)) (g:=w.heap.size + 1 + 1 + 1) (by omega) (rspA 0 0 none 0 0 0 0)
  have hIz:=(hI4.noS13 k4 rfl (grownRowG _ _ (srvA s A4 c4))).noS13 k5 rfl (grownRowG _ _ (rspA 0 0 none 0 0 0 0))
  exact bodyPost_ret (results_rr13 Tryz.results16 _ _ (w.heap.size + 1 + 1) 33 _ _ (w.heap.size + 1 + 1 + 1) 45 _ _ rfl ((k4.row _).rowFar (by omega) _) Tryz.underlying33 rfl infoSrv13 rfl (k5.row _) Tryz.underlying45 rfl infoRsp13) rfl ⟨A4,c4,none,0,by rw [HX.out];rfl,by rw [HX.out];exact hIz,by rw [HX.out];exact fun j u hj=>(by cases hj),hbz⟩
 | true =>
  rw [hs] at HG
  cases hq:right11 ⟨K,L,C⟩ with
  | false =>
   have HM2:=Lib.hid (fun W hB=>(by have:=HM.out W hB;rw [hq] at this;exact this:Calls Tryz.prog 35 #[.agg #[.int .i64 K,.slice AL L.length cl,.slice AC C.length cc]] W fun e w'=>e=.returned (.bool false)∧Below W.heap.size W w'))
   have HX:=Lib.hid (HD.out.trans (do_bad13 (by rw [hq,Bool.and_false])))
   clear hs hq HM
   go_enter Tryz.func16,Tryz.ntmps16
   go_upto_region 1 with (fail)
   rw [← hW1]
   clear hW1
   go_upto_region 2 with (first | (refine wpList_load_row rfl 33 _ rfl w.heap.size rfl _ _ _ _ i2 Tryz.underlying33 rfl infoSrv13 ?_) | (go_at_call 13;refine (HG.out _ hB1).mono ?_;rintro e W2 ⟨rfl,hb2⟩;have hB2:=hB1.trans (hb2.mono hB1.size);have k2:=i2.below hb2 i2.lt;have kq:=iq.below hb2 iq.lt;have k4':=i4.below hb2 i4.lt;have k5':=i5.below hb2 i5.lt) | (refine wpList_load_rowG13 (by kernel_rfl) 26 _ rfl (w.heap.size + 1) rfl _ _ kq Tryz.underlying26 rfl infoReq13 ?_) | (go_at_call 35;refine (HM2.out _ hB2).mono ?_;rintro e W3 ⟨rfl,hb3⟩))
   have hB:=hB2.trans (hb3.mono hB2.size)
   have i2:=k2.below hb3 k2.lt
   have i4:=k4'.below hb3 k4'.lt
   have i5:=k5'.below hb3 k5'.lt
   clear hb2 hb3
   go_wp2_with (first | (refine wpList_load_row rfl 33 _ rfl w.heap.size rfl _ _ _ _ i2 Tryz.underlying33 rfl infoSrv13 ?_) | (go_at_call 36;refine (HOWN.out _ hB).mono ?_;rintro e W4 ⟨A4,c4,rfl,hI4,hb4⟩;have hB4:=hB.trans (hb4.mono hB.size);have k4:=i4.below hb4 i4.lt;have k5:=(i5.below hb4 i5.lt).rowFar (k:=w.heap.size + 1 + 1) (by omega) (srvA s A4 c4);have z4:=srvA_one13 s A4 c4;have Z4:=Lib.hid z4;clear hb4 z4) | (refine wpList_store_row rfl 33 _ _ rfl (w.heap.size + 1 + 1) (srvA s A4 c4) rfl rfl 33 _ k4 infoSrv13 rfl Z4.out ?_) | (refine wpList_store_row rfl 45 _ _ rfl (w.heap.size + 1 + 1 + 1) (rspA 0 0 none 0 0 0 0) rfl rfl 45 _ k5 infoRsp13 rfl (rspA_one13 _ _ _ _ _ _ _) ?_))
   have hbz:=belowRow (belowRow hB4 (g:=w.heap.size + 1 + 1) (by omega) (srvA s A4 c4)) (g:=w.heap.size + 1 + 1 + 1) (by omega) (rspA 0 0 none 0 0 0 0)
   have hIz:=(hI4.noS13 k4 rfl (grownRowG _ _ (srvA s A4 c4))).noS13 k5 rfl (grownRowG _ _ (rspA 0 0 none 0 0 0 0))
   exact bodyPost_ret (results_rr13 Tryz.results16 _ _ (w.heap.size + 1 + 1) 33 _ _ (w.heap.size + 1 + 1 + 1) 45 _ _ rfl ((k4.row _).rowFar (by omega) _) Tryz.underlying33 rfl infoSrv13 rfl (k5.row _) Tryz.underlying45 rfl infoRsp13) rfl ⟨A4,c4,none,0,by rw [HX.out];rfl,by rw [HX.out];exact hIz,by rw [HX.out];exact fun j u hj=>(by cases hj),hbz⟩
  | true =>
   have HM2:=Lib.hid (fun W hB=>(by have:=HM.out W hB;rw [hq] at this;exact this:Calls Tryz.prog 35 #[.agg #[.int .i64 K,.slice AL L.length cl,.slice AC C.length cc]] W fun e w'=>e=.returned (.bool true)∧Below W.heap.size W w'))
   have HS:=Lib.hid (right_iff13.1 hs)
   have HR:=Lib.hid (Rq13.of hq)
   have HS0:=Lib.hid hs
   have HQ0:=Lib.hid hq
   have hkk:1≤K∧K≤4:=HR.out.k
   clear hs hq HM
   go_enter Tryz.func16,Tryz.ntmps16
   go_upto_region 1 with (fail)
   rw [← hW1]
   clear hW1
   go_upto_region 3 with (first | (refine wpList_load_row rfl 33 _ rfl w.heap.size rfl _ _ _ _ i2 Tryz.underlying33 rfl infoSrv13 ?_) | (go_at_call 13;refine (HG.out _ hB1).mono ?_;rintro e W2 ⟨rfl,hb2⟩;have hB2:=hB1.trans (hb2.mono hB1.size);have k2:=i2.below hb2 i2.lt;have kq:=iq.below hb2 iq.lt;have k4':=i4.below hb2 i4.lt;have k5':=i5.below hb2 i5.lt) | (refine wpList_load_rowG13 (by kernel_rfl) 26 _ rfl (w.heap.size + 1) rfl _ _ kq Tryz.underlying26 rfl infoReq13 ?_) | (go_at_call 35;refine (HM2.out _ hB2).mono ?_;rintro e W3 ⟨rfl,hb3⟩))
   have hB:=hB2.trans (hb3.mono hB2.size)
   have i2':=k2.below hb3 k2.lt
   have iq':=kq.below hb3 kq.lt
   have i4':=k4'.below hb3 k4'.lt
   have i5':=k5'.below hb3 k5'.lt
   clear hb2 hb3 i2 iq i4 i5 k2 kq k4' k5' hB1 hB2
   have i2:=i2'
   have iq:=iq'
   have i4:=i4'
   have i5:=i5'
   clear i2' iq' i4' i5'
   go_wp2_with (first | (refine wpList_load_row rfl 33 _ rfl w.heap.size rfl _ _ _ _ i2 Tryz.underlying33 rfl infoSrv13 ?_))
   refine (HOWN.out _ hB).mono ?_
   rintro e W4 ⟨A4,c4,rfl,hI4,hb4⟩
   have hB:=hB.trans (hb4.mono hB.size)
   have i2:=i2.below hb4 i2.lt
   have iq:=iq.below hb4 iq.lt
   have i4:=i4.below hb4 i4.lt
   have i5:=i5.below hb4 i5.lt
   have zE:=Is.new W4 33 #[.slice none 0 0,.int .i64 0,.int .i64 0,.int .i64 0]
   have hbx:Below W4.heap.size W4 (W4.alloc (.cells #[.slice none 0 0,.int .i64 0,.int .i64 0,.int .i64 0] 33)):=(Below.refl _ _).alloc (Nat.le_refl _) _
   have hl5:=i5.lt
   have hsz:=hB.size
   have i2:=i2.below hbx i2.lt
   have iq:=iq.below hbx iq.lt
   have i4:=i4.below hbx i4.lt
   have i5:=i5.below hbx i5.lt
   have hI4:=hI4.keep hbx
   have hB:=hB.trans (hbx.mono hB.size)
   clear hb4 hbx
   generalize hW5:W4.alloc (.cells #[.slice none 0 0,.int .i64 0,.int .i64 0,.int .i64 0] 33)=W5 at *
   generalize hE:W4.heap.size=E at *
   have HO:=Lib.hid (srvA_one13 s A4 c4)
   go_upto_region 4 with (refine wpList_store_row rfl 33 _ _ rfl E (srvA s A4 c4) rfl rfl 33 _ zE infoSrv13 rfl HO.out ?_)
   have i6:=zE.row (srvA s A4 c4)
   have i2:=i2.rowFar (k:=E) (by omega) (srvA s A4 c4)
   have iq:=iq.rowFar (k:=E) (by omega) (srvA s A4 c4)
   have i4:=i4.rowFar (k:=E) (by omega) (srvA s A4 c4)
   have i5:=i5.rowFar (k:=E) (by omega) (srvA s A4 c4)
   have hI4:=hI4.noS13 zE rfl (grownRowG W5 E (srvA s A4 c4))
   have hB:=belowRow hB (g:=E) (by omega) (srvA s A4 c4)
   clear zE hW5 hE HO
   generalize W5.setRow E (srvA s A4 c4)=W6 at *
   have cq:=iq.cell 0
   have zF:=Is.new W6 45 (rspA 0 0 none 0 0 0 0)
   have hbx:Below W6.heap.size W6 (W6.alloc (.cells (rspA 0 0 none 0 0 0 0) 45)):=(Below.refl _ _).alloc (Nat.le_refl _) _
   have hl6:=i6.lt
   have i2:=i2.below hbx i2.lt
   have iq:=iq.below hbx iq.lt
   have i4:=i4.below hbx i4.lt
   have i5:=i5.below hbx i5.lt
   have i6:=i6.below hbx i6.lt
   have hI4:=hI4.keep hbx
   have hB:=hB.trans (hbx.mono hB.size)
   clear hbx
   generalize hW7:W6.alloc (.cells (rspA 0 0 none 0 0 0 0) 45)=W7 at *
   generalize hF:W6.heap.size=F at *
   have HO:=Lib.hid (rspA_one13 K 0 none 0 0 0 0)
   go_upto_region 5 with (refine wpList_store_row rfl 45 _ _ rfl F (rspA K 0 none 0 0 0 0) rfl rfl 45 _ zF infoRsp13 rfl HO.out ?_)
   have i7:=zF.row (rspA K 0 none 0 0 0 0)
   have i2:=i2.rowFar (k:=F) (by omega) (rspA K 0 none 0 0 0 0)
   have iq:=iq.rowFar (k:=F) (by omega) (rspA K 0 none 0 0 0 0)
   have i4:=i4.rowFar (k:=F) (by omega) (rspA K 0 none 0 0 0 0)
   have i5:=i5.rowFar (k:=F) (by omega) (rspA K 0 none 0 0 0 0)
   have i6:=i6.rowFar (k:=F) (by omega) (rspA K 0 none 0 0 0 0)
   have hI4:=hI4.noS13 zF rfl (grownRowG W7 F (rspA K 0 none 0 0 0 0))
   have hB:=belowRow hB (g:=F) (by omega) (rspA K 0 none 0 0 0 0)
   clear zF hW7 hF HO cq
   generalize W7.setRow F (rspA K 0 none 0 0 0 0)=W8 at *
   have cq:=iq.cell 0
   rcases (by omega:K=1∨K=2∨K=3∨K=4) with e | e | e | e
   ·
    subst e
    have HX:=Lib.hid (HD.out.trans (do_put13 HS0.out HQ0.out rfl))
    have HP:=Lib.hid (fun W (hB:Below w.heap.size w W)=>dput13_any s A c 1 AL cl L AC cc C W HS.out (by have h:=HR.out.few;simp only at h;omega) (HR.out.put rfl) (HR.out.fit rfl) (HI.out.keep hB) (HL.out.keep hB) (HC.out.keep hB))
    go_upto_region 9 with (fail)
    clear cq hI4 i6 i7
    go_wp2_with (first | (refine wpList_load_row rfl 33 _ rfl w.heap.size rfl _ _ _ _ i2 Tryz.underlying33 rfl infoSrv13 ?_) | (refine wpList_load_row rfl 26 _ rfl (w.heap.size + 1) rfl _ _ _ _ iq Tryz.underlying26 rfl infoReq13 ?_))
    refine (HP.out _ hB).mono ?_
    rintro e W9 hp
    obtain ⟨A5,c5,RA,rc,rfl,hI5,hV5,hb5⟩:=hp
    have hB:=hB.trans (hb5.mono hB.size)
    have i4:=i4.below hb5 i4.lt
    have i5:=i5.below hb5 i5.lt
    clear hb5 i2 iq
    generalize hPD:put13 s (({ k:=1,L:=L,C:=C }:Req11).L.zip ({ k:=1,L:=L,C:=C }:Req11).C)=PD at *
    clear hPD
    have k5:=i5.rowFar (k:=w.heap.size + 1 + 1) (by omega) (srvA PD.1 A5 c5)
    have Z4:=Lib.hid (srvA_one13 PD.1 A5 c5)
    have Z5:=Lib.hid (rspA_one13 PD.2.k PD.2.st RA PD.2.C.length rc PD.2.many PD.2.room)
    go_wp2_with (first | (refine wpList_store_row rfl 33 _ _ rfl (w.heap.size + 1 + 1) (srvA PD.1 A5 c5) rfl rfl 33 _ i4 infoSrv13 rfl Z4.out ?_) | (refine wpList_store_row rfl 45 _ _ rfl (w.heap.size + 1 + 1 + 1) (rspA PD.2.k PD.2.st RA PD.2.C.length rc PD.2.many PD.2.room) rfl rfl 45 _ k5 infoRsp13 rfl Z5.out ?_))
    have hbz:=belowRow (belowRow hB (g:=w.heap.size + 1 + 1) (by omega) (srvA PD.1 A5 c5)) (g:=w.heap.size + 1 + 1 + 1) (by omega) (rspA PD.2.k PD.2.st RA PD.2.C.length rc PD.2.many PD.2.room)
    have hIz:=(hI5.noS13 i4 rfl (grownRowG _ _ (srvA PD.1 A5 c5))).noS13 k5 rfl (grownRowG _ _ (rspA PD.2.k PD.2.st RA PD.2.C.length rc PD.2.many PD.2.room))
    have hVz:=(hV5.noT13 i4 rfl (grownRowG _ _ (srvA PD.1 A5 c5))).noT13 k5 rfl (grownRowG _ _ (rspA PD.2.k PD.2.st RA PD.2.C.length rc PD.2.many PD.2.room))
    exact bodyPost_ret (results_rr13 Tryz.results16 _ _ (w.heap.size + 1 + 1) 33 _ _ (w.heap.size + 1 + 1 + 1) 45 _ _ rfl ((i4.row _).rowFar (by omega) _) Tryz.underlying33 rfl infoSrv13 rfl (k5.row _) Tryz.underlying45 rfl infoRsp13) rfl ⟨A5,c5,RA,rc,by rw [HX.out],by rw [HX.out];exact hIz,by rw [HX.out];exact hVz,hbz⟩
   ·
    subst e
    have HX:=Lib.hid (HD.out.trans (do_get13 HS0.out HQ0.out rfl))
    have hlf:L.length≤200:=HR.out.few
    obtain ⟨t0,ht0,hz0,hz1,hz2⟩:=infoThree10 infoTxt10
    go_upto_region 11 with (fail)
    obtain ⟨N1,hN1⟩:∃ N1,N1=W8.heap.size:=⟨_,rfl⟩
    have hl7:=i7.lt
    have hsz:=hB.size
    have HT0:=Lib.hid (And.intro ht0 (And.intro hz0 (And.intro hz1 hz2)))
    clear ht0 hz0 hz1 hz2 cq
    go_wp2_with fail
    go_loopw [8] (fun i wr=>∃ (n:Nat) (RA:Option Addr) (rc:Nat),n≤L.length∧i=.int .i64 (n:Int)∧RowV wr N1 9 1 RA rc n (tL10 ((L.take n).map (get13 s.S.B)))∧Is wr F 45 (rspA 2 0 RA n rc 0 0)∧Oth13 W8 wr F∧Below w.heap.size w wr∧N1≤wr.heap.size) (fun i _=>L.length - (intOf i).toNat)
    case atStart=>exact ⟨0,none,0,by omega,rfl,RowV.nil _ _ _ _,i7,Oth13.refl _ _,hB,by omega⟩
    case round =>
     clear hB
     obtain ⟨n,RA,rc,hn,rfl,hrow,j7,ho,hB,hN⟩:=hrel
     have iq:=ho.is iq (by omega)
     have i2:=ho.is i2 (by omega)
     have c1:=iq.cell 1
     by_cases hlt:n < L.length
     ·
      have q1:(n:Int) < (L.length:Int):=by omega
      have w1i:=IntWalk.i64_in ((n:Int) + 1) (by omega)
      obtain ⟨l,hl'⟩:∃ l,L[n]?=some l:=⟨_,List.getElem?_eq_getElem hlt⟩
      obtain ⟨b,off,rfl,hbl,hxl⟩:=HL.out.txt13 hl'
      have hxl5:=(hB.cell (p:=⟨b,off + n,none⟩) hbl).trans hxl
      have HMP:=Lib.hid (show (L.take (n + 1)).map (get13 s.S.B)=(L.take n).map (get13 s.S.B) ++ [get13 s.S.B l] by rw [List.take_add_one,hl',List.map_append];rfl)
      go_upto_region 14 with (fail)
      refine Code.wp_mono ?_ (ddo13_14 wr w.heap.size (w.heap.size + 1) b off s A c 2 L.length cl AC C.length cc n l hlt (Nat.lt_of_lt_of_le hbl hB.size) hxl5 i2 iq (HI.out.keep hB) _ _ _ _ _ _ _ _ _ _ _ _ _ _ _ _ _ _ _ _ _ _ _ _ _ _ _ _ _ _ _ _ _ _ _ _ _ _ _ _ _ _ _ _ _ _ _ _ _ _ _ _ _ _ _ _ _ _ _ _ _ _ _ _ _ _ _ _ _ _ _ _ _ _ _ _ _ _ _ _ _ _ _ _ _ _ _ _ _ _ _ _ _ _ _ _ _ _ _ _ _ _ _ _)
      rintro ex ⟨T,Df⟩ W9 ⟨rfl,hDf,_,hT,hb⟩
      simp only at hT hDf
      rw [getV_val13 HS.out.rt] at hT
      subst hT
      subst hDf
      generalize get13 s.S.B l=y at *
      have j7:=j7.below hb j7.lt
      have hrow:=hrow.below hb
      have ho:=ho.below hb
      have hB:=hB.trans (hb.mono hB.size)
      have hN:=Nat.le_trans hN hb.size
      clear hb c1 hl' hxl hxl5 iq i2
      have c70:=j7.cell 2
      have iX:=Is.new W9 9 #[.string y]
      have hbx:Below W9.heap.size W9 (W9.alloc (.cells #[.string y] 9)):=(Below.refl _ _).alloc (Nat.le_refl _) _
      have j7:=j7.below hbx j7.lt
      have hrow:=hrow.alloc (.cells #[.string y] 9)
      have ho:=ho.below hbx
      have hB:=hB.trans (hbx.mono hB.size)
      have hN2:=Nat.le_trans hN hbx.size
      have c7:=j7.cell 2
      clear hbx
      go_wp2_with (at_builtin;refine wpList_pushV rfl _ _ 24 9 t0 (.string ⟨#[]⟩) 1 16 rfl Tryz.underlying24 HT0.out.1 HT0.out.2.1 HT0.out.2.2.1 HT0.out.2.2.2 rfl (by decide) N1 RA rc n _ hrow W9.heap.size 9 #[.string y] iX rfl (fun u hu=>by simp only [List.mem_cons,List.not_mem_nil,or_false] at hu;subst hu;rfl) (by unfold maxLen;omega) (by omega) ⟨rfl,rfl⟩ hN2 ?_;intro A3 c3 V3 r3 hg3;have j73:=hrow.isFar hg3 j7 (by decide);have ho3:=ho.grown hg3 (fun q e2=>Nat.le_trans (by omega) (World.ownsRow.lt hrow q e2).1) (by omega);have hB3:=hB.grown hg3 hB.size (fun q e2=>Nat.le_trans (by omega) (World.ownsRow.lt hrow q e2).1);have hN3:=Nat.le_trans hN2 hg3.size;have c73:=j73.cell 2;have f73:=j73.frozen 2;have HJ:=Lib.hid (j73.set 2 (.slice A3 (n + 1) c3));have HRW:=Lib.hid (r3.far (p:=⟨F,2,none⟩) j73 (by decide) (.slice A3 (n + 1) c3));have HO3:=Lib.hid (ho3.setCell (p:=⟨F,2,none⟩) rfl (.slice A3 (n + 1) c3));have HB3:=Lib.hid (hB3.setCell (p:=⟨F,2,none⟩) (by simp only [];omega) (.slice A3 (n + 1) c3));clear j73 ho3 hB3 r3 hg3)
      go_roundw
      case rel=>exact ⟨n + 1,A3,c3,by omega,by go_num,by rw [HMP.out,tL10,List.map_append];exact HRW.out,HJ.out,HO3.out,HB3.out,by simpa [World.setCell] using hN3⟩
      case measure=>simp [intOf];omega
     ·
      have q1:¬ (n:Int) < (L.length:Int):=by omega
      obtain rfl:n=L.length:=by omega
      rw [List.take_length] at hrow
      have i4:=ho.is i4 (by omega)
      have i5:=ho.is i5 (by omega)
      have i6:=ho.is i6 (by omega)
      have hI6:=hI4.oth13 i7 rfl (fun kk h1 h2=>ho kk h1 h2) (by omega)
      have hV:=hrow.inV
      have HLN:=Lib.hid (show (L.map (get13 s.S.B)).length=L.length from List.length_map _)
      rw [← HLN.out] at j7
      rw [HLN.out] at j7
      go_upto_region 24 with (fail)
      refine Code.wp_mono ?_ (ddo13_24 _ wr w.heap.size E (w.heap.size + 1 + 1) (w.heap.size + 1 + 1 + 1) s A4 c4 F rc 2 0 0 0 (by omega) (by omega) RA (L.map (get13 s.S.B)) i6 i4 i5 hI6 hV (by rw [HLN.out];exact j7) (by omega) (by omega) (by omega) (by omega) (by omega) _ _ _ _ _ _ _ _ _ _ _ _ _ _ _ _ _ _ _ _ _ _ _ _ _ _ _ _ _ _ _ _ _ _ _ _ _ _ _ _ _ _ _ _ _ _ _ _ _ _ _ _ _ _ _ _ _ _ _ _ _ _ _ _ _ _ _ _ _ _ _ _ _ _ _ _ _ _ _ _ _ _ _ _ _ _ _ _ _ _ _ _ _ _ _ _ _ _ _ _ _ _ _)
      rintro ex ⟨T,Df⟩ W11 ⟨rfl,hDf,_,hT,hB11,_,_,hI11,hV11,_,j2,j3⟩
      simp only at hT hDf
      subst hT
      subst hDf
      go_wp2
      exact bodyPost_ret (results_rr13 Tryz.results16 _ _ (w.heap.size + 1 + 1) 33 _ _ (w.heap.size + 1 + 1 + 1) 45 _ _ rfl j2 Tryz.underlying33 rfl infoSrv13 rfl j3 Tryz.underlying45 rfl infoRsp13) rfl ⟨A4,c4,RA,rc,by rw [HX.out],by rw [HX.out];exact hI11,by rw [HX.out];exact hV11,hB.trans hB11⟩
   ·
    subst e
    have HX:=Lib.hid (HD.out.trans (do_del13 HS0.out HQ0.out rfl))
    have hlf:L.length≤200:=HR.out.few
    have hl7:=i7.lt
    have hsz:=hB.size
    go_upto_region 17 with (fail)
    clear cq
    go_wp2_with fail
    go_loopw [11] (fun i wr=>∃ (n:Nat) (A':Option Addr) (c':Nat),n≤L.length∧i=.int .i64 (n:Int)∧Is wr E 33 (srvA ⟨dels13 s.S (L.take n),s.lim⟩ A' c')∧InS wr (dels13 s.S (L.take n)) A' c'∧Is wr F 45 (rspA 3 0 none 0 0 (has13 s.S.B (L.take n):Nat) 0)∧Is wr (w.heap.size + 1) 26 (reqA 3 AL L.length cl AC C.length cc)∧Is wr (w.heap.size + 1 + 1) 33 #[.slice none 0 0,.int .i64 0,.int .i64 0,.int .i64 0]∧Is wr (w.heap.size + 1 + 1 + 1) 45 (rspA 0 0 none 0 0 0 0)∧Below w.heap.size w wr) (fun i _=>L.length - (intOf i).toNat)
    case atStart=>exact ⟨0,A4,c4,by omega,rfl,i6,hI4,i7,iq,i4,i5,hB⟩
    case round =>
     clear hB i2 iq i4 i5 i6 i7 hI4
     obtain ⟨n,A',c',hn,rfl,i6,hI6,i7,iq,i4,i5,hB⟩:=hrel
     have c1:=iq.cell 1
     by_cases hlt:n < L.length
     ·
      have q1:(n:Int) < (L.length:Int):=by omega
      have w1i:=IntWalk.i64_in ((n:Int) + 1) (by omega)
      obtain ⟨l,hl'⟩:∃ l,L[n]?=some l:=⟨_,List.getElem?_eq_getElem hlt⟩
      obtain ⟨b,off,rfl,hbl,hxl⟩:=HL.out.txt13 hl'
      have hxl5:=(hB.cell (p:=⟨b,off + n,none⟩) hbl).trans hxl
      obtain ⟨hrt,hdl⟩:=del_at13 HS.out.rt HR.out.once hl'
      have HNX:=Lib.hid (dels_next13 (s:=s.S) hl')
      have HHN:=Lib.hid (has_next13 (B:=s.S.B) hl')
      have hhl:has13 s.S.B (L.take n)≤200:=by
       have h:=List.countP_le_length (p:=fun l=>(mp12 s.S.B l).isSome) (l:=L.take n)
       rw [List.length_take] at h
       rw [has13];omega
      have hlen:=hrt.bnd.len.2
      go_upto_region 20 with (fail)
      refine Code.wp_mono ?_ (ddo13_20 wr E (w.heap.size + 1) b off ⟨dels13 s.S (L.take n),s.lim⟩ A' c' 3 L.length cl AC C.length cc n l hlt (Nat.lt_of_lt_of_le hbl hB.size) hxl5 i6 iq hI6 hlen _ _ _ _ _ _ _ _ _ _ _ _ _ _ _ _ _ _ _ _ _ _ _ _ _ _ _ _ _ _ _ _ _ _ _ _ _ _ _ _ _ _ _ _ _ _ _ _ _ _ _ _ _ _ _ _ _ _ _ _ _ _ _ _ _ _ _ _ _ _ _ _ _ _ _ _ _ _ _ _ _ _ _ _ _ _ _ _ _ _ _ _ _ _ _ _ _ _ _ _ _ _ _ _)
      rintro ex ⟨T,Df⟩ W9 ⟨rfl,hDf,AQ,cQ,DN,hT,hb,hZ,hDN,jN⟩
      simp only at hT hDf hZ jN
      rw [hdl] at hT
      subst hT
      subst hDf
      rw [← HNX.out] at hZ jN ⊢
      obtain ⟨S2,hS2⟩:∃ S2,S2=dels13 s.S (L.take (n + 1)):=⟨_,rfl⟩
      rw [← hS2] at hZ jN ⊢
      have HS2:=Lib.hid hS2
      clear hS2
      have j6:=i6.below hb i6.lt
      have j7:=i7.below hb i7.lt
      have jq:=iq.below hb iq.lt
      have j4:=i4.below hb i4.lt
      have j5:=i5.below hb i5.lt
      have hB:=hB.trans (hb.mono hB.size)
      clear hb c1 hl' hxl hxl5 iq i6 i7 i4 i5 hI6 hrt hdl hlen
      have hT6:=j6.srvO13
      have hg6:=grownSet13 W9 E (.slice AQ S2.B.length cQ) (.int .i64 S2.many) (.int .i64 S2.gone)
      have m6:Is (W9.setCells E 0 [.slice AQ S2.B.length cQ,.int .i64 S2.many,.int .i64 S2.gone]) E 33 (srvA ⟨S2,s.lim⟩ AQ cQ):=j6.srvN13 S2 AQ cQ
      have m7:=j7.cells3 (g:=E) (by omega) 0 (.slice AQ S2.B.length cQ) (.int .i64 S2.many) (.int .i64 S2.gone)
      have mq:=jq.cells3 (g:=E) (by omega) 0 (.slice AQ S2.B.length cQ) (.int .i64 S2.many) (.int .i64 S2.gone)
      have m4:=j4.cells3 (g:=E) (by omega) 0 (.slice AQ S2.B.length cQ) (.int .i64 S2.many) (.int .i64 S2.gone)
      have m5:=j5.cells3 (g:=E) (by omega) 0 (.slice AQ S2.B.length cQ) (.int .i64 S2.many) (.int .i64 S2.gone)
      have mZ:=hZ.noS13 j6 rfl hg6
      have mB:=below_cells3 hB (g:=E) (by omega) 0 (.slice AQ S2.B.length cQ) (.int .i64 S2.many) (.int .i64 S2.gone)
      have Z6:=Lib.hid (stoA_one12 S2 AQ cQ)
      clear j6 j7 jq j4 j5 hZ hg6 hB
      go_upto_region 22 with (first | (refine wpList_load_row rfl 31 _ rfl DN rfl _ _ _ _ jN Tryz.underlying31 rfl infoSto12 ?_) | (refine wpList_store_mid rfl 31 _ _ rfl E 0 (stoA S2 AQ cQ) rfl rfl hT6 infoSto12 Z6.out ?_))
      clear hT6
      simp only [stoA] at *
      generalize W9.setCells E 0 [.slice AQ S2.B.length cQ,.int .i64 S2.many,.int .i64 S2.gone]=W10 at *
      cases hm:(mp12 s.S.B l).isSome with
      | false =>
       rw [hm] at HHN
       clear hm
       go_wp2
       go_roundw
       case rel=>exact ⟨n + 1,AQ,cQ,by omega,by go_num,by rw [← HS2.out];exact m6,by rw [← HS2.out];exact mZ,by rw [HHN.out];exact m7,mq,m4,m5,mB⟩
       case measure=>simp [intOf];omega
      | true =>
       rw [hm,if_pos rfl] at HHN
       clear hm
       have w2i:=IntWalk.i64_in (((has13 s.S.B (L.take n):Nat):Int) + 1) (by omega)
       have c73:=m7.cell 3
       have f73:=m7.frozen 3
       have n7:=m7.set 3 (.int .i64 (((has13 s.S.B (L.take n):Nat):Int) + 1))
       rw [show (((has13 s.S.B (L.take n):Nat):Int) + 1)=((has13 s.S.B (L.take (n + 1)):Nat):Int) by rw [HHN.out];omega] at n7
       have N7:=Lib.hid n7
       have n6:=m6.far (p:=⟨F,3,none⟩) (by simp only [];omega) (.int .i64 (((has13 s.S.B (L.take n):Nat):Int) + 1))
       have nq:=mq.far (p:=⟨F,3,none⟩) (by simp only [];omega) (.int .i64 (((has13 s.S.B (L.take n):Nat):Int) + 1))
       have n4:=m4.far (p:=⟨F,3,none⟩) (by simp only [];omega) (.int .i64 (((has13 s.S.B (L.take n):Nat):Int) + 1))
       have n5:=m5.far (p:=⟨F,3,none⟩) (by simp only [];omega) (.int .i64 (((has13 s.S.B (L.take n):Nat):Int) + 1))
       have nZ:=mZ.noS13 m7 rfl (grownSetG W10 ⟨F,3,none⟩ (.int .i64 (((has13 s.S.B (L.take n):Nat):Int) + 1)))
       have nB:=mB.setCell (p:=⟨F,3,none⟩) (by simp only [];omega) (.int .i64 (((has13 s.S.B (L.take n):Nat):Int) + 1))
       clear n7 m6 mq m4 m5 mZ mB
       rw [show (((has13 s.S.B (L.take n):Nat):Int) + 1)=((has13 s.S.B (L.take (n + 1)):Nat):Int) by rw [HHN.out];omega] at n6 nq n4 n5 nZ nB w2i
       have HEQ:=Lib.hid (show (((has13 s.S.B (L.take n):Nat):Int) + 1)=((has13 s.S.B (L.take (n + 1)):Nat):Int) by rw [HHN.out];omega)
       go_wp2
       go_roundw
       case rel=>exact ⟨n + 1,AQ,cQ,by omega,by go_num,by rw [HEQ.out,← HS2.out];exact n6,by rw [HEQ.out,← HS2.out];exact nZ,by rw [HEQ.out];exact N7.out,by rw [HEQ.out];exact nq,by rw [HEQ.out];exact n4,by rw [HEQ.out];exact n5,by rw [HEQ.out];exact nB⟩
       case measure=>simp [intOf];omega
     ·
      have q1:¬ (n:Int) < (L.length:Int):=by omega
      obtain rfl:n=L.length:=by omega
      rw [List.take_length] at i6 hI6 i7
      go_upto_region 24 with (fail)
      refine Code.wp_mono ?_ (ddo13_24 _ wr w.heap.size E (w.heap.size + 1 + 1) (w.heap.size + 1 + 1 + 1) ⟨dels13 s.S L,s.lim⟩ A' c' F 0 3 0 (has13 s.S.B L:Nat) 0 (by omega) (by omega) none [] i6 i4 i5 hI6 (fun j u hj=>by cases hj) i7 (by omega) (by omega) (by omega) (by omega) (by omega) _ _ _ _ _ _ _ _ _ _ _ _ _ _ _ _ _ _ _ _ _ _ _ _ _ _ _ _ _ _ _ _ _ _ _ _ _ _ _ _ _ _ _ _ _ _ _ _ _ _ _ _ _ _ _ _ _ _ _ _ _ _ _ _ _ _ _ _ _ _ _ _ _ _ _ _ _ _ _ _ _ _ _ _ _ _ _ _ _ _ _ _ _ _ _ _ _ _ _ _ _ _ _)
      rintro ex ⟨T,Df⟩ W11 ⟨rfl,hDf,_,hT,hB11,_,_,hI11,hV11,_,j2,j3⟩
      simp only at hT hDf
      subst hT
      subst hDf
      go_wp2
      exact bodyPost_ret (results_rr13 Tryz.results16 _ _ (w.heap.size + 1 + 1) 33 _ _ (w.heap.size + 1 + 1 + 1) 45 _ _ rfl j2 Tryz.underlying33 rfl infoSrv13 rfl j3 Tryz.underlying45 rfl infoRsp13) rfl ⟨A',c',none,0,by rw [HX.out],by rw [HX.out];exact hI11,by rw [HX.out];exact hV11,hB.trans hB11⟩
   ·
    subst e
    have HX:=Lib.hid (HD.out.trans (do_stat13 HS0.out HQ0.out rfl))
    have d1:=i2.cell 1
    have d3:=i2.cell 3
    have hms:=HS.out.many
    have hrb:=HS.out.rt.bnd.many
    have hli:=HS.out.hi
    have hwi:=IntWalk.i64_in (s.lim - s.S.many) (by omega)
    have hl7:=i7.lt
    have hsz:=hB.size
    have c73:=i7.cell 3
    have f73:=i7.frozen 3
    have n7:=(i7.set 3 (.int .i64 s.S.many))
    have c74:=n7.cell 4
    have f74:=n7.frozen 4
    have m7:=n7.set 4 (.int .i64 (s.lim - s.S.many))
    have n2:=i2.far (p:=⟨F,3,none⟩) (by simp only [];omega) (.int .i64 s.S.many)
    have e1:=n2.cell 1
    have e3:=n2.cell 3
    have m4:=(i4.far (p:=⟨F,3,none⟩) (by simp only [];omega) (.int .i64 s.S.many)).far (p:=⟨F,4,none⟩) (by simp only [];omega) (.int .i64 (s.lim - s.S.many))
    have m5:=(i5.far (p:=⟨F,3,none⟩) (by simp only [];omega) (.int .i64 s.S.many)).far (p:=⟨F,4,none⟩) (by simp only [];omega) (.int .i64 (s.lim - s.S.many))
    have m6:=(i6.far (p:=⟨F,3,none⟩) (by simp only [];omega) (.int .i64 s.S.many)).far (p:=⟨F,4,none⟩) (by simp only [];omega) (.int .i64 (s.lim - s.S.many))
    have mI:=(hI4.noS13 i7 rfl (grownSetG W8 ⟨F,3,none⟩ (.int .i64 s.S.many))).noS13 n7 rfl (grownSetG _ ⟨F,4,none⟩ (.int .i64 (s.lim - s.S.many)))
    have mB:=(hB.setCell (p:=⟨F,3,none⟩) (by simp only [];omega) (.int .i64 s.S.many)).setCell (p:=⟨F,4,none⟩) (by simp only [];omega) (.int .i64 (s.lim - s.S.many))
    have M7:=Lib.hid m7
    clear m7 n7 n2 i4 i5 i6 i2 iq hI4 hB i7
    go_upto_region 24 with (fail)
    have i7:=M7.out
    have i4:=m4
    have i5:=m5
    have i6:=m6
    have hI4:=mI
    have hB:=mB
    clear M7 m4 m5 m6 mI mB d1 d3 e1 e3 c73 c74 f73 f74 cq
    generalize (W8.setCell ⟨F,3,none⟩ (.int .i64 s.S.many)).setCell ⟨F,4,none⟩ (.int .i64 (s.lim - s.S.many))=W9 at *
    refine Code.wp_mono ?_ (ddo13_24 _ W9 w.heap.size E (w.heap.size + 1 + 1) (w.heap.size + 1 + 1 + 1) s A4 c4 F 0 4 0 s.S.many (s.lim - s.S.many) (by omega) (by omega) none [] i6 i4 i5 hI4 (fun j u hj=>by cases hj) i7 (by omega) (by omega) (by omega) (by omega) (by omega) _ _ _ _ _ _ _ _ _ _ _ _ _ _ _ _ _ _ _ _ _ _ _ _ _ _ _ _ _ _ _ _ _ _ _ _ _ _ _ _ _ _ _ _ _ _ _ _ _ _ _ _ _ _ _ _ _ _ _ _ _ _ _ _ _ _ _ _ _ _ _ _ _ _ _ _ _ _ _ _ _ _ _ _ _ _ _ _ _ _ _ _ _ _ _ _ _ _ _ _ _ _ _)
    rintro ex ⟨T,Df⟩ W11 ⟨rfl,hDf,_,hT,hB11,_,_,hI11,hV11,_,j2,j3⟩
    simp only at hT hDf
    subst hT
    subst hDf
    go_wp2
    exact bodyPost_ret (results_rr13 Tryz.results16 _ _ (w.heap.size + 1 + 1) 33 _ _ (w.heap.size + 1 + 1 + 1) 45 _ _ rfl j2 Tryz.underlying33 rfl infoSrv13 rfl j3 Tryz.underlying45 rfl infoRsp13) rfl ⟨A4,c4,none,0,by rw [HX.out],by rw [HX.out];exact hI11,by rw [HX.out];exact hV11,hB.trans hB11⟩
theorem ddo13_any (s:Srv13) (A:Option Addr) (c:Nat) (q:Req11) (AL AC:Option Addr) (cl cc:Nat) (w:World) (hl:q.L.length≤9223372036854775807) (hl2:q.C.length≤9223372036854775807) (hf:s.S.B.length≤4096) (hI:InS w s.S A c) (hL:InV w AL (tL10 q.L)) (hC:InV w AC (tL10 q.C)) :
  Calls Tryz.prog 16 #[srvV s A c,.agg (reqA q.k AL q.L.length cl AC q.C.length cc)] w fun r w'=>DoPost13 (do13 s q) w r w':=ddoK13_any s A c q.k q.L q.C AL AC cl cc w hl hl2 hf hI hL hC
end Go.Proofs.YtmggbbmpckcleaaGreat
