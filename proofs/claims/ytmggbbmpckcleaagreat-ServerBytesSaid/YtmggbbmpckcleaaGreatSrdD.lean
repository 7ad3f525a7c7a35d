import Derived.Test.YtmggbbmpckcleaaGreatGSd1
import Derived.Test.YtmggbbmpckcleaaGreatGRw2
set_option maxRecDepth 100000
set_option maxHeartbeats 16000000
namespace Go.Proofs.YtmggbbmpckcleaaGreat
open Go.RowKit Go.Shelf
theorem sv13_5 (W0:World) (B0 D7 b off nr cr k:Nat) (s:Srv13) (A:Option Addr) (c:Nat) (q:Req11) (RR:Option Addr) (rn rp:Nat) (HR:Hid (∀ W,Below B0 W0 W→Calls Tryz.prog 14 #[.slice RR rn rp] W fun r w'=>ReqPost11 q W r w')) (hl:q.L.length≤9223372036854775807) (hl2:q.C.length≤9223372036854775807) (i7:Is W0 D7 33 (srvA s A c)) (hI:InS W0 s.S A c) (hD7:B0≤D7) (hsz:B0≤W0.heap.size) (hk:k < nr) (hbB:b < B0) (hx:W0.cell? ⟨b,off + k,none⟩=some (.slice RR rn rp)) (hf:s.S.B.length≤4096) (x0 x2 x3 x4 x6 x8 x9 Xa Xb Xc Xd Xe Xf Xg Xh Xi Xj Xk Xl Xm Xn Xo Xp Xq Xr Xs Xt Xu Xv Xw Xx Xy:Value) :
  (Code.region 5 (opsOf Tryz.f10 5) true).wp Tryz.prog (fun ex YY W=>ex=.normal∧YY.defers=[]∧∃ (B1:Option Addr) (d1:Nat) (B2:Option Addr) (d2:Nat) (A2:Option Addr) (c2:Nat) (RX:Option Addr) (rx:Nat),YY.tmps=#[x0,.slice (some ⟨b,off,none⟩) nr cr,x2,x3,x4,.pointer (some ⟨D7,0,none⟩),x6,.int .i64 (k:Int),x8,x9,Xa,Xb,Xc,Xd,Xe,Xf,Xg,Xh,Xi,Xj,Xk,Xl,Xm,Xn,.tuple #[.agg (srvA (do13 s q).1 A2 c2),.agg (rspA (do13 s q).2.k (do13 s q).2.st RX (do13 s q).2.C.length rx (do13 s q).2.many (do13 s q).2.room)],.agg (srvA s A c),.slice (some ⟨b,off,none⟩) nr cr,.int .i64 (k:Int),.pointer (some ⟨b,off + k,none⟩),.slice RR rn rp,.agg (reqA q.k B1 q.L.length d1 B2 q.C.length d2),.tuple #[.agg (srvA (do13 s q).1 A2 c2),.agg (rspA (do13 s q).2.k (do13 s q).2.st RX (do13 s q).2.C.length rx (do13 s q).2.many (do13 s q).2.room)],.agg (srvA (do13 s q).1 A2 c2),.agg (rspA (do13 s q).2.k (do13 s q).2.st RX (do13 s q).2.C.length rx (do13 s q).2.many (do13 s q).2.room),Xy]∧Below B0 W0 W∧(∀ kk,kk≠D7→kk < W0.heap.size→W.heap[kk]?=W0.heap[kk]?)∧InS W (do13 s q).1.S A2 c2∧Is W D7 33 (srvA (do13 s q).1 A2 c2)) { tmps:=#[x0,.slice (some ⟨b,off,none⟩) nr cr,x2,x3,x4,.pointer (some ⟨D7,0,none⟩),x6,.int .i64 (k:Int),x8,x9,Xa,Xb,Xc,Xd,Xe,Xf,Xg,Xh,Xi,Xj,Xk,Xl,Xm,Xn,Xo,Xp,Xq,Xr,Xs,Xt,Xu,Xv,Xw,Xx,Xy],defers:=[] } W0:=by
 have hB:Below B0 W0 (W0.drewN 1):=belowN (Below.refl _ _) 1
 generalize hQ:(fun (ex:Exit) (YY:Act) (W:World)=>ex=.normal∧YY.defers=[]∧∃ (B1:Option Addr) (d1:Nat) (B2:Option Addr) (d2:Nat) (A2:Option Addr) (c2:Nat) (RX:Option Addr) (rx:Nat),YY.tmps=#[x0,.slice (some ⟨b,off,none⟩) nr cr,x2,x3,x4,.pointer (some ⟨D7,0,none⟩),x6,.int .i64 (k:Int),x8,x9,Xa,Xb,Xc,Xd,Xe,Xf,Xg,Xh,Xi,Xj,Xk,Xl,Xm,Xn,.tuple #[.agg (srvA (do13 s q).1 A2 c2),.agg (rspA (do13 s q).2.k (do13 s q).2.st RX (do13 s q).2.C.length rx (do13 s q).2.many (do13 s q).2.room)],.agg (srvA s A c),.slice (some ⟨b,off,none⟩) nr cr,.int .i64 (k:Int),.pointer (some ⟨b,off + k,none⟩),.slice RR rn rp,.agg (reqA q.k B1 q.L.length d1 B2 q.C.length d2),.tuple #[.agg (srvA (do13 s q).1 A2 c2),.agg (rspA (do13 s q).2.k (do13 s q).2.st RX (do13 s q).2.C.length rx (do13 s q).2.many (do13 s q).2.room)],.agg (srvA (do13 s q).1 A2 c2),.agg (rspA (do13 s q).2.k (do13 s q).2.st RX (do13 s q).2.C.length rx (do13 s q).2.many (do13 s q).2.room),Xy]∧Below B0 W0 W∧(∀ kk,kk≠D7→kk < W0.heap.size→W.heap[kk]?=W0.heap[kk]?)∧InS W (do13 s q).1.S A2 c2∧Is W D7 33 (srvA (do13 s q).1 A2 c2))=Q
 have HQN:∀ c a W,¬ Q (.panic c) a W:=fun c a W h=>by subst hQ;exact nomatch h.1
 have ST0_5_6_10:∀ (W:World) (B1:Option Addr) (d1:Nat) (B2:Option Addr) (d2:Nat) (A2:Option Addr) (c2:Nat) (RX:Option Addr) (rx:Nat),Below B0 W0 W→(∀ kk,kk≠D7→kk < W0.heap.size→W.heap[kk]?=W0.heap[kk]?)→InS W (do13 s q).1.S A2 c2→Is W D7 33 (srvA (do13 s q).1 A2 c2)→wpAnyH Tryz.prog .any (opsOf Tryz.f10 5) Q (fun W=>Below B0 W0 W) 0 #[true,true,true,true,true,true,true,true,true,true,true] { tmps:=#[x0,.slice (some ⟨b,off,none⟩) nr cr,x2,x3,x4,.pointer (some ⟨D7,0,none⟩),x6,.int .i64 (k:Int),x8,x9,Xa,Xb,Xc,Xd,Xe,Xf,Xg,Xh,Xi,Xj,Xk,Xl,Xm,Xn,.tuple #[.agg (srvA (do13 s q).1 A2 c2),.agg (rspA (do13 s q).2.k (do13 s q).2.st RX (do13 s q).2.C.length rx (do13 s q).2.many (do13 s q).2.room)],.agg (srvA s A c),.slice (some ⟨b,off,none⟩) nr cr,.int .i64 (k:Int),.pointer (some ⟨b,off + k,none⟩),.slice RR rn rp,.agg (reqA q.k B1 q.L.length d1 B2 q.C.length d2),.tuple #[.agg (srvA (do13 s q).1 A2 c2),.agg (rspA (do13 s q).2.k (do13 s q).2.st RX (do13 s q).2.C.length rx (do13 s q).2.many (do13 s q).2.room)],.agg (srvA (do13 s q).1 A2 c2),.agg (rspA (do13 s q).2.k (do13 s q).2.st RX (do13 s q).2.C.length rx (do13 s q).2.many (do13 s q).2.room),Xy],defers:=[] } W:=by
  intro W B1 d1 B2 d2 A2 c2 RX rx hB hO hX j7
  refine wpAnyH_done (by kernel_rfl) ?_ _
  subst hQ
  exact ⟨rfl,rfl,B1,d1,B2,d2,A2,c2,RX,rx,rfl,hB,hO,hX,j7⟩
 have ST0_5_6:∀ (W:World) (B1:Option Addr) (d1:Nat) (B2:Option Addr) (d2:Nat) (A2:Option Addr) (c2:Nat) (RX:Option Addr) (rx:Nat),Below B0 W0 W→(∀ kk,kk≠D7→kk < W0.heap.size→W.heap[kk]?=W0.heap[kk]?)→Is W D7 33 (srvA s A c)→InS W (do13 s q).1.S A2 c2→wpAnyH Tryz.prog .any (opsOf Tryz.f10 5) Q (fun W=>Below B0 W0 W) 1 #[true,true,true,true,true,true,true,true,true,true,false] { tmps:=#[x0,.slice (some ⟨b,off,none⟩) nr cr,x2,x3,x4,.pointer (some ⟨D7,0,none⟩),x6,.int .i64 (k:Int),x8,x9,Xa,Xb,Xc,Xd,Xe,Xf,Xg,Xh,Xi,Xj,Xk,Xl,Xm,Xn,.tuple #[.agg (srvA (do13 s q).1 A2 c2),.agg (rspA (do13 s q).2.k (do13 s q).2.st RX (do13 s q).2.C.length rx (do13 s q).2.many (do13 s q).2.room)],.agg (srvA s A c),.slice (some ⟨b,off,none⟩) nr cr,.int .i64 (k:Int),.pointer (some ⟨b,off + k,none⟩),.slice RR rn rp,.agg (reqA q.k B1 q.L.length d1 B2 q.C.length d2),.tuple #[.agg (srvA (do13 s q).1 A2 c2),.agg (rspA (do13 s q).2.k (do13 s q).2.st RX (do13 s q).2.C.length rx (do13 s q).2.many (do13 s q).2.room)],.agg (srvA (do13 s q).1 A2 c2),.agg (rspA (do13 s q).2.k (do13 s q).2.st RX (do13 s q).2.C.length rx (do13 s q).2.many (do13 s q).2.room),Xy],defers:=[] } W:=by
  intro W B1 d1 B2 d2 A2 c2 RX rx hB hO i7 hX
  refine wpAnyH_ready (by kernel_rfl) (by simp) (AllReadyH.cons (i:=10) (at_nth rfl) ?_ (AllReadyH.nil))
  ·
   have hone:=srvA_one13 (do13 s q).1 A2 c2
   have hg:=grownRowG W D7 (srvA (do13 s q).1 A2 c2)
   have j7:=i7.row (srvA (do13 s q).1 A2 c2)
   replace hX:=hX.noS13 i7 rfl hg
   have hB2:=belowRow hB hD7 (srvA (do13 s q).1 A2 c2)
   replace hO:∀ kk,kk≠D7→kk < W0.heap.size→(W.setRow D7 (srvA (do13 s q).1 A2 c2)).heap[kk]?=W0.heap[kk]?:=fun kk h1 hl=>(setRow_other W D7 kk (srvA (do13 s q).1 A2 c2) h1).trans (hO kk h1 hl)
   refine arm10_skip (w':=W.setRow D7 (srvA (do13 s q).1 A2 c2)) (by kernel_rfl) (run_row10 (x:=.tmp 5) (y:=.tmp 32) (by kernel_rfl) (by kernel_rfl) (by kernel_rfl) i7 infoSrv13 rfl hone) hB2 ?_
   try simp only [Act.put]
   replace hB:=hB2
   clear i7 hg
   exact ST0_5_6_10 _ _ _ _ _ _ _ _ _ hB hO hX j7
 have ST0_5:∀ (W:World) (B1:Option Addr) (d1:Nat) (B2:Option Addr) (d2:Nat),Below B0 W0 W→(∀ kk,kk≠D7→kk < W0.heap.size→W.heap[kk]?=W0.heap[kk]?)→Is W D7 33 (srvA s A c)→InS W s.S A c→InV W B1 (tL10 q.L)→InV W B2 (tL10 q.C)→wpAnyH Tryz.prog .any (opsOf Tryz.f10 5) Q (fun W=>Below B0 W0 W) 5 #[true,true,true,true,true,true,false,false,false,false,false] { tmps:=#[x0,.slice (some ⟨b,off,none⟩) nr cr,x2,x3,x4,.pointer (some ⟨D7,0,none⟩),x6,.int .i64 (k:Int),x8,x9,Xa,Xb,Xc,Xd,Xe,Xf,Xg,Xh,Xi,Xj,Xk,Xl,Xm,Xn,Xo,.agg (srvA s A c),.slice (some ⟨b,off,none⟩) nr cr,.int .i64 (k:Int),.pointer (some ⟨b,off + k,none⟩),.slice RR rn rp,.agg (reqA q.k B1 q.L.length d1 B2 q.C.length d2),Xv,Xw,Xx,Xy],defers:=[] } W:=by
  intro W B1 d1 B2 d2 hB hO i7 hI hQ1 hQ2
  refine wpAnyH_ready (by kernel_rfl) (by simp) (AllReadyH.cons (i:=6) (at_nth rfl) ?_ (AllReadyH.nil))
  ·
   refine arm10_call (by kernel_rfl) (fun wy=>by kernel_rfl) ((ddo13_any s A c q B1 B2 d1 d2 W hl hl2 hf hI hQ1 hQ2).mono ?_)
   rintro e Wn hp
   obtain ⟨A2,c2,RX,rx,rfl,hX,_,hb⟩:=hp
   replace hO:∀ kk,kk≠D7→kk < W0.heap.size→Wn.heap[kk]?=W0.heap[kk]?:=fun kk h1 hl=>(hb.block kk (Nat.lt_of_lt_of_le hl hB.size)).trans (hO kk h1 hl)
   replace i7:=i7.below hb i7.lt
   replace hB:=hB.trans (hb.mono (Nat.le_trans hsz hB.size))
   clear hb
   refine ⟨_,rfl,hB,?_⟩
   simp only [Act.put,zz0,zz1,zz2]
   refine wpP (i:=7) (v:=.tuple #[.agg (srvA (do13 s q).1 A2 c2),.agg (rspA (do13 s q).2.k (do13 s q).2.st RX (do13 s q).2.C.length rx (do13 s q).2.many (do13 s q).2.room)]) HQN rfl (fun w hSw=>by kernel_rfl) hB ?_
   simp only [Act.put,zz0,zz1,zz2]
   refine wpP (i:=8) (v:=.agg (srvA (do13 s q).1 A2 c2)) HQN rfl (fun w hSw=>by kernel_rfl) hB ?_
   simp only [Act.put,zz0,zz1,zz2]
   refine wpP (i:=9) (v:=.agg (rspA (do13 s q).2.k (do13 s q).2.st RX (do13 s q).2.C.length rx (do13 s q).2.many (do13 s q).2.room)) HQN rfl (fun w hSw=>by kernel_rfl) hB ?_
   simp only [Act.put,zz0,zz1,zz2]
   exact ST0_5_6 _ _ _ _ _ _ _ _ _ hB hO i7 hX
 have ST0:∀ (W:World),Below B0 W0 W→(∀ kk,kk≠D7→kk < W0.heap.size→W.heap[kk]?=W0.heap[kk]?)→Is W D7 33 (srvA s A c)→InS W s.S A c→wpAnyH Tryz.prog .any (opsOf Tryz.f10 5) Q (fun W=>Below B0 W0 W) 6 #[true,true,true,true,true,false,false,false,false,false,false] { tmps:=#[x0,.slice (some ⟨b,off,none⟩) nr cr,x2,x3,x4,.pointer (some ⟨D7,0,none⟩),x6,.int .i64 (k:Int),x8,x9,Xa,Xb,Xc,Xd,Xe,Xf,Xg,Xh,Xi,Xj,Xk,Xl,Xm,Xn,Xo,.agg (srvA s A c),.slice (some ⟨b,off,none⟩) nr cr,.int .i64 (k:Int),.pointer (some ⟨b,off + k,none⟩),.slice RR rn rp,Xu,Xv,Xw,Xx,Xy],defers:=[] } W:=by
  intro W hB hO i7 hI
  refine wpAnyH_ready (by kernel_rfl) (by simp) (AllReadyH.cons (i:=5) (at_nth rfl) ?_ (AllReadyH.nil))
  ·
   refine arm10_call (by kernel_rfl) (fun wy=>by kernel_rfl) ((HR.out W hB).mono ?_)
   rintro e Wn ⟨B1,d1,B2,d2,rfl,hQ1,hQ2,hb⟩
   replace hO:∀ kk,kk≠D7→kk < W0.heap.size→Wn.heap[kk]?=W0.heap[kk]?:=fun kk h1 hl=>(hb.block kk (Nat.lt_of_lt_of_le hl hB.size)).trans (hO kk h1 hl)
   replace i7:=i7.below hb i7.lt
   replace hB:=hB.trans (hb.mono (Nat.le_trans hsz hB.size))
   replace hI:=hI.keep hb
   clear hb
   refine ⟨_,rfl,hB,?_⟩
   simp only [Act.put,zz0,zz1,zz2]
   exact ST0_5 _ _ _ _ _ hB hO i7 hI hQ1 hQ2
 have ST5:∀ (W:World) (B1:Option Addr) (d1:Nat) (B2:Option Addr) (d2:Nat),Below B0 W0 W→(∀ kk,kk≠D7→kk < W0.heap.size→W.heap[kk]?=W0.heap[kk]?)→Is W D7 33 (srvA s A c)→InS W s.S A c→InV W B1 (tL10 q.L)→InV W B2 (tL10 q.C)→wpAnyH Tryz.prog .any (opsOf Tryz.f10 5) Q (fun W=>Below B0 W0 W) 6 #[false,true,true,true,true,true,false,false,false,false,false] { tmps:=#[x0,.slice (some ⟨b,off,none⟩) nr cr,x2,x3,x4,.pointer (some ⟨D7,0,none⟩),x6,.int .i64 (k:Int),x8,x9,Xa,Xb,Xc,Xd,Xe,Xf,Xg,Xh,Xi,Xj,Xk,Xl,Xm,Xn,Xo,Xp,.slice (some ⟨b,off,none⟩) nr cr,.int .i64 (k:Int),.pointer (some ⟨b,off + k,none⟩),.slice RR rn rp,.agg (reqA q.k B1 q.L.length d1 B2 q.C.length d2),Xv,Xw,Xx,Xy],defers:=[] } W:=by
  intro W B1 d1 B2 d2 hB hO i7 hI hQ1 hQ2
  refine wpAnyH_ready (by kernel_rfl) (by simp) (AllReadyH.cons (i:=0) (at_nth rfl) ?_ (AllReadyH.nil))
  ·
   refine arm10_value (v:=.agg (srvA s A c)) (w':=W) (by kernel_rfl) (run_load_rowO (x:=.tmp 5) (by kernel_rfl) (by kernel_rfl) i7 Tryz.underlying33 rfl infoSrv13) hB ?_
   simp only [Act.put,zz0,zz1,zz2]
   exact ST0_5 _ _ _ _ _ hB hO i7 hI hQ1 hQ2
 have ST:∀ (W:World),Below B0 W0 W→(∀ kk,kk≠D7→kk < W0.heap.size→W.heap[kk]?=W0.heap[kk]?)→Is W D7 33 (srvA s A c)→InS W s.S A c→wpAnyH Tryz.prog .any (opsOf Tryz.f10 5) Q (fun W=>Below B0 W0 W) 7 #[false,true,true,true,true,false,false,false,false,false,false] { tmps:=#[x0,.slice (some ⟨b,off,none⟩) nr cr,x2,x3,x4,.pointer (some ⟨D7,0,none⟩),x6,.int .i64 (k:Int),x8,x9,Xa,Xb,Xc,Xd,Xe,Xf,Xg,Xh,Xi,Xj,Xk,Xl,Xm,Xn,Xo,Xp,.slice (some ⟨b,off,none⟩) nr cr,.int .i64 (k:Int),.pointer (some ⟨b,off + k,none⟩),.slice RR rn rp,Xu,Xv,Xw,Xx,Xy],defers:=[] } W:=by
  intro W hB hO i7 hI
  refine wpAnyH_ready (by kernel_rfl) (by simp) (AllReadyH.cons (i:=0) (at_nth rfl) ?_ (AllReadyH.cons (i:=5) (at_nth rfl) ?_ (AllReadyH.nil)))
  ·
   refine arm10_value (v:=.agg (srvA s A c)) (w':=W) (by kernel_rfl) (run_load_rowO (x:=.tmp 5) (by kernel_rfl) (by kernel_rfl) i7 Tryz.underlying33 rfl infoSrv13) hB ?_
   simp only [Act.put,zz0,zz1,zz2]
   exact ST0 _ hB hO i7 hI
  ·
   refine arm10_call (by kernel_rfl) (fun wy=>by kernel_rfl) ((HR.out W hB).mono ?_)
   rintro e Wn ⟨B1,d1,B2,d2,rfl,hQ1,hQ2,hb⟩
   replace hO:∀ kk,kk≠D7→kk < W0.heap.size→Wn.heap[kk]?=W0.heap[kk]?:=fun kk h1 hl=>(hb.block kk (Nat.lt_of_lt_of_le hl hB.size)).trans (hO kk h1 hl)
   replace i7:=i7.below hb i7.lt
   replace hB:=hB.trans (hb.mono (Nat.le_trans hsz hB.size))
   replace hI:=hI.keep hb
   clear hb
   refine ⟨_,rfl,hB,?_⟩
   simp only [Act.put,zz0,zz1,zz2]
   exact ST5 _ _ _ _ _ hB hO i7 hI hQ1 hQ2
 refine wp_region_held_drew (S:=fun W=>Below B0 W0 W) (by kernel_rfl) hB (fun hS=>?_)
 change wpAnyH _ _ (opsOf Tryz.f10 5) _ _ 11 (Array.replicate 11 false) _ (W0.drewN 1)
 clear hS
 replace hB:Below B0 W0 (W0.drewN 1):=belowN (Below.refl _ _) 1
 replace i7:=i7.drewN 1
 replace hI:=hI.keep (belowN (Below.refl _ _) 1)
 refine wpP (i:=1) (v:=.slice (some ⟨b,off,none⟩) nr cr) HQN rfl (fun w hSw=>by kernel_rfl) hB ?_
 simp only [Act.put,zz0,zz1,zz2]
 refine wpP (i:=2) (v:=.int .i64 (k:Int)) HQN rfl (fun w hSw=>by kernel_rfl) hB ?_
 simp only [Act.put,zz0,zz1,zz2]
 refine wpP (i:=3) (v:=.pointer (some ⟨b,off + k,none⟩)) HQN rfl (fun w hSw=>by (have hk':=hk;go_simp)) hB ?_
 simp only [Act.put,zz0,zz1,zz2]
 refine wpP (i:=4) (v:=.slice RR rn rp) HQN rfl (fun w hSw=>by (have hc:=(hSw.cell (p:=⟨b,off + k,none⟩) hbB).trans hx;go_simp)) hB ?_
 simp only [Act.put,zz0,zz1,zz2]
 exact ST _ hB (fun _ _ _=>rfl) i7 hI
theorem InV.row13d {W:World} {A:Option Addr} {L:List Row13} (h:InV W A (grV13 L)) {k:Nat} {r:Row13} (hr:L[k]?=some r):∃ b off,A=some ⟨b,off,none⟩∧b < W.heap.size∧W.cell? ⟨b,off + k,none⟩=some (.slice r.1 r.2.1.length r.2.2):=h k _ (by rw [grV13,List.getElem?_map,hr];rfl)
theorem newS_okD13 {n:Int} (h0:0≤n) (h1:n≤2000):newS13 n=(⟨⟨new12 8,0,0⟩,n⟩,0):=by
 rw [newS13,show lim13 n=true by rw [lim13,decide_eq_true h0,decide_eq_true h1];rfl]
 rfl
theorem req_longD13 (R:List Int):(req13 R).L.length≤9223372036854775807∧(req13 R).C.length≤9223372036854775807:=by
 have h:=req_right13 R
 simp only [right11,szd11,Bool.and_eq_true,decide_eq_true_eq,List.all_eq_true,Bool.false_and,Bool.or_false] at h
 obtain ⟨_,_,⟨_,h4⟩,⟨_,h5⟩,_,_⟩:=h
 omega
def serve13 (s:Srv13) (L:List Row13):Srv13:=L.foldl (fun s r=>(do13 s (req13 r.2.1)).1) s
def sv13 (n:Int) (L:List Row13):Srv13:=serve13 ⟨⟨new12 8,0,0⟩,n⟩ (L.take 12)
theorem serve_rt13 (L:List Row13) {s:Srv13} (h:Rt13 s):Rt13 (serve13 s L):=by
 induction L generalizing s with
 | nil=>exact h
 | cons r L ih=>exact ih (do_rt13 h (req13 r.2.1))
theorem sv_rt13 {n:Int} (h0:0≤n) (h1:n≤2000) (L:List Row13):Rt13 (sv13 n L):=serve_rt13 _ (new_kp13 h0 h1).rt
theorem serve_next13 {s:Srv13} {L:List Row13} {k:Nat} {r:Row13} (h:L[k]?=some r):serve13 s (L.take (k + 1))=(do13 (serve13 s (L.take k)) (req13 r.2.1)).1:=by
 rw [List.take_add_one,h,serve13,serve13,List.foldl_append]
 rfl
theorem server_any13 (x0:Int) (A0:Option Addr) (cp0:Nat) (L:List Row13) (w:World) (hx:-9223372036854775808≤x0∧x0≤9223372036854775807) (hm:L.length≤maxLen) (hc:InV w A0 (grV13 L)) (hb:GrIn13 w L) :
  Calls Tryz.prog 10 #[.int .i64 x0,.slice A0 L.length cp0] w fun e w'=>∃ A c,e=.returned (srvV (sv13 (pickN x0 40) L) A c)∧InS w' (sv13 (pickN x0 40) L).S A c∧Below w.heap.size w w':=by
 have HPK:=Lib.hid (fun W=>pick13_any x0 40 W hx.1 hx.2 (by omega) (by omega))
 have hp:=pickN_bd x0 40 (by omega)
 generalize pickN x0 40=n at *
 have HN:=Lib.hid (fun W=>dnew13_any n W)
 rw [newS_okD13 hp.1 (by omega)] at HN
 have HRT:=Lib.hid (fun L=>serve_rt13 L (new_kp13 (n:=n) hp.1 (by omega)).rt)
 have HSV:=Lib.hid (show sv13 n L=serve13 ⟨⟨new12 8,0,0⟩,n⟩ (L.take 12) from rfl)
 generalize sv13 n L=SV at *
 have HC:=Lib.hid hc
 have HB:=Lib.hid hb
 have hmx:L.length≤9223372036854775807:=Nat.le_trans hm (by decide)
 have i4:Is (w.alloc (.cells #[.slice none 0 0,.int .i64 0,.int .i64 0,.int .i64 0] 33)) w.heap.size 33 #[.slice none 0 0,.int .i64 0,.int .i64 0,.int .i64 0]:=Is.new _ _ _
 have hB0:Below w.heap.size w (w.alloc (.cells #[.slice none 0 0,.int .i64 0,.int .i64 0,.int .i64 0] 33)):=(Below.refl _ _).alloc (Nat.le_refl _) _
 generalize hW0:w.alloc (.cells #[.slice none 0 0,.int .i64 0,.int .i64 0,.int .i64 0] 33)=W0 at *
 clear hc hb hx hm
 go_enter Tryz.func10,Tryz.ntmps10
 go_upto_region 1 with (fail)
 clear hW0
 go_wp2_with (go_at_call 11;refine (HPK.out _).mono ?_;rintro e W2 ⟨rfl,rfl⟩)
 refine (HN.out _).mono ?_
 rintro e W1 ⟨A1,c1,rfl,hI1,hb1⟩
 have hB1:=hB0.trans (hb1.mono hB0.size)
 have j4:=i4.below hb1 i4.lt
 have hl4:=j4.lt
 have zN:=Is.new W1 33 #[.slice none 0 0,.int .i64 0,.int .i64 0,.int .i64 0]
 have hbx:Below W1.heap.size W1 (W1.alloc (.cells #[.slice none 0 0,.int .i64 0,.int .i64 0,.int .i64 0] 33)):=(Below.refl _ _).alloc (Nat.le_refl _) _
 have k4:=j4.below hbx j4.lt
 have hI2:=hI1.keep hbx
 have hB2:=hB1.trans (hbx.mono hB1.size)
 clear hb1 hbx i4 j4 hI1 hB1 hB0
 generalize hW2:W1.alloc (.cells #[.slice none 0 0,.int .i64 0,.int .i64 0,.int .i64 0] 33)=W2 at *
 generalize hE:W1.heap.size=E at *
 have HO:=Lib.hid (srvA_one13 ⟨⟨new12 8,0,0⟩,n⟩ A1 c1)
 have m4:=k4.rowFar (k:=E) (by omega) (srvA ⟨⟨new12 8,0,0⟩,n⟩ A1 c1)
 have i7:=zN.row (srvA ⟨⟨new12 8,0,0⟩,n⟩ A1 c1)
 have hB3:=belowRow hB2 (g:=E) (by omega) (srvA ⟨⟨new12 8,0,0⟩,n⟩ A1 c1)
 have hI3:=hI2.noS13 zN rfl (grownRowG W2 E (srvA ⟨⟨new12 8,0,0⟩,n⟩ A1 c1))
 go_upto_region 2 with (refine wpList_store_row rfl 33 _ _ rfl E (srvA ⟨⟨new12 8,0,0⟩,n⟩ A1 c1) rfl rfl 33 _ zN infoSrv13 rfl HO.out ?_)
 clear zN k4 hB2 hI2 hW2 hE HN
 generalize W2.setRow E (srvA ⟨⟨new12 8,0,0⟩,n⟩ A1 c1)=W3 at *
 go_wp2_with fail
 go_loopw [7] (fun i wr=>∃ (k:Nat) (A:Option Addr) (c:Nat),k≤L.length∧k≤12∧i=.int .i64 (k:Int)∧InS wr (serve13 ⟨⟨new12 8,0,0⟩,n⟩ (L.take k)).S A c∧Is wr E 33 (srvA (serve13 ⟨⟨new12 8,0,0⟩,n⟩ (L.take k)) A c)∧Is wr w.heap.size 33 #[.slice none 0 0,.int .i64 0,.int .i64 0,.int .i64 0]∧Below w.heap.size w wr) (fun i _=>13 - (intOf i).toNat)
 case atStart=>exact ⟨0,A1,c1,by omega,by omega,rfl,hI3,i7,m4,hB3⟩
 case round =>
  clear hI3 i7 hB3 m4
  obtain ⟨k,A,c,hk,hk2,rfl,hI,i7,i4,hB⟩:=hrel
  have hrt:=HRT.out (L.take k)
  by_cases hgo:k < L.length∧k < 12
  ·
   obtain ⟨hlt,hlt2⟩:=hgo
   have q1:(k:Int) < (L.length:Int):=by omega
   have q2:(k:Int) < 12:=by omega
   have w1i:=IntWalk.i64_in ((k:Int) + 1) (by omega)
   obtain ⟨r,hr⟩:∃ r,L[k]?=some r:=⟨_,List.getElem?_eq_getElem hlt⟩
   have HNX:=Lib.hid (serve_next13 (s:=⟨⟨new12 8,0,0⟩,n⟩) hr)
   obtain ⟨g1,g2,g3,g4⟩:=HB.out r (List.mem_of_getElem? hr)
   obtain ⟨b,off,rfl,hbl,hcx⟩:=HC.out.row13d hr
   have hxc:=(hB.cell (p:=⟨b,off + k,none⟩) hbl).trans hcx
   have HQ:=Lib.hid (fun W (h:Below w.heap.size wr W)=>qreq13_any r.1 r.2.2 r.2.1 W (Nat.le_trans g4 (by decide)) g3 g2 (g1.keep (hB.trans h)))
   have hql:=req_longD13 r.2.1
   have hlen:=hrt.rt.bnd.len.2
   clear hr g1 g2 g3 g4 hcx hrt
   generalize req13 r.2.1=q at *
   generalize serve13 ⟨⟨new12 8,0,0⟩,n⟩ (L.take k)=s at *
   go_upto_region 5 with (fail)
   refine Code.wp_mono ?_ (sv13_5 wr w.heap.size E b off L.length cp0 k s A c q r.1 r.2.1.length r.2.2 HQ hql.1 hql.2 i7 hI (by omega) hB.size hlt hbl hxc hlen _ _ _ _ _ _ _ _ _ _ _ _ _ _ _ _ _ _ _ _ _ _ _ _ _ _ _ _ _ _ _ _)
   rintro ex ⟨T,Df⟩ W3 ⟨rfl,hDf,B1,d1,B2,d2,A2,c2,RX,rx,hT,hb3,hO,hI3,j7⟩
   simp only at hT hDf
   subst hT
   subst hDf
   have hB3:=hB.trans hb3
   have j4:Is W3 w.heap.size 33 #[.slice none 0 0,.int .i64 0,.int .i64 0,.int .i64 0]:=(hO _ (by omega) i4.lt).trans i4
   clear hI i7 hB hb3 HQ hql hxc i4 hO hlen
   go_wp2
   go_roundw
   case rel=>exact ⟨k + 1,A2,c2,by omega,by omega,by go_num,by rw [HNX.out];exact hI3,by rw [HNX.out];exact j7,j4,hB3⟩
   case measure=>simp [intOf];omega
  ·
   have HTK:=Lib.hid (show L.take k=L.take 12 by
    by_cases e:k < L.length
    · rw [show k=12 by omega]
    · rw [List.take_of_length_le (by omega),List.take_of_length_le (by omega)])
   rw [HTK.out,← HSV.out] at hI i7
   clear hrt HTK
   have hne:E≠w.heap.size:=by omega
   have HS:=Lib.hid (srvA_one13 SV A c)
   have hIz:=hI.noS13 i4 rfl (grownRowG wr w.heap.size (srvA SV A c))
   have hBz:=belowRow hB (g:=w.heap.size) (by omega) (srvA SV A c)
   have j4:=i4.row (srvA SV A c)
   by_cases hlt:k < L.length
   ·
    have q1:(k:Int) < (L.length:Int):=by omega
    have q2:¬ (k:Int) < 12:=by omega
    clear hgo
    go_wp2_with (first | (refine wpList_load_row rfl 33 _ rfl E rfl _ _ _ _ i7 Tryz.underlying33 rfl infoSrv13 ?_) | (refine wpList_store_row rfl 33 _ _ rfl w.heap.size (srvA SV A c) rfl rfl 33 _ i4 infoSrv13 rfl HS.out ?_))
    exact bodyPost_ret (results_cell_row Tryz.results10 _ _ w.heap.size 33 _ (0,0) _ rfl j4 Tryz.underlying33 rfl infoSrv13) rfl ⟨A,c,rfl,hIz,hBz⟩
   ·
    have q1:¬ (k:Int) < (L.length:Int):=by omega
    clear hgo
    go_wp2_with (first | (refine wpList_load_row rfl 33 _ rfl E rfl _ _ _ _ i7 Tryz.underlying33 rfl infoSrv13 ?_) | (refine wpList_store_row rfl 33 _ _ rfl w.heap.size (srvA SV A c) rfl rfl 33 _ i4 infoSrv13 rfl HS.out ?_))
    exact bodyPost_ret (results_cell_row Tryz.results10 _ _ w.heap.size 33 _ (0,0) _ rfl j4 Tryz.underlying33 rfl infoSrv13) rfl ⟨A,c,rfl,hIz,hBz⟩
end Go.Proofs.YtmggbbmpckcleaaGreat
