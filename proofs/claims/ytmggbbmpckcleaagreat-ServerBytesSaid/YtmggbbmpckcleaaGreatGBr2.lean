import Derived.Test.YtmggbbmpckcleaaGreatGBr1
set_option maxRecDepth 100000
set_option maxHeartbeats 16000000
namespace Go.Proofs.YtmggbbmpckcleaaGreat
open Go.RowKit Go.Shelf
theorem dset_any12 (s:Sto12) (A:Option Addr) (c base k:Nat) (l x:ByteArray) (w:World) (h:RowB w base A c s.B) (h0:0 < s.B.length) (hf:s.B.length≤4096) (hp:plc12 s.B l=none) (hg:gap12 s.B l=some k) (hm:-1000000≤s.many∧s.many≤1000000) (hgn:-1000000≤s.gone∧s.gone≤1000000) :
  Calls Tryz.prog 92 #[stoV s A c,.string l,.string x] w fun e w'=>e=.returned (stoV (add12 s k l x) A c)∧RowB w' base A c (add12 s k l x).B∧w.grownBy w' (Value.slice A s.B.length c).ownBlock:=by
 obtain ⟨g,cur,rfl,hbg,hgc,_⟩:=h.open h0
 have hgl:=hgc.lt
 have hkl:=(gap_lt12 hg).1
 have hx:=getD_at12 hkl
 have HR:Hid (∀ W,InS W s (some ⟨g,0,none⟩) c→Calls Tryz.prog 58 #[stoV s (some ⟨g,0,none⟩) c,.string l] W fun e w'=>e=.returned (.tuple #[.int .i64 (-1),.int .i64 (k:Int)])∧Below W.heap.size W w'):=Lib.hid (fun W hS=>(dfind_any12 s (some ⟨g,0,none⟩) c l W hS hf).mono (by
  rintro e W2 ⟨fr,rfl,hfr,hb⟩
  rw [hfr hp,hp,hg]
  exact ⟨rfl,hb⟩))
 have hlen:(add12 s k l x).B.length=s.B.length:=by rw [add12];exact List.length_set
 have hadd:stoV (add12 s k l x) (some ⟨g,0,none⟩) c=.agg #[.slice (some ⟨g,0,none⟩) s.B.length c,.int .i64 (s.many + 1),.int .i64 (add12 s k l x).gone]:=by rw [stoV,stoA,hlen];rfl
 have H:=Lib.hid h
 have HF:=Lib.hid hf
 have HL:=Lib.hid hlen
 obtain ⟨W0,hW0⟩:∃ W,W=(w.alloc (.cells (stoA s (some ⟨g,0,none⟩) c) 31)).alloc (.cells #[.slice none 0 0,.int .i64 0,.int .i64 0] 31):=⟨_,rfl⟩
 have i1:Is W0 w.heap.size 31 (stoA s (some ⟨g,0,none⟩) c):=by rw [hW0];exact heap_alloc2_old w _ _
 have i2:Is W0 (w.heap.size + 1) 31 #[.slice none 0 0,.int .i64 0,.int .i64 0]:=by rw [hW0];exact heap_alloc2_new w _ _
 have hB0:Below w.heap.size w W0:=by rw [hW0];exact ((Below.refl _ _).alloc (Nat.le_refl _) _).alloc (by simp) _
 have hr0:RowB W0 base (some ⟨g,0,none⟩) c s.B:=by rw [hW0];exact (h.alloc _).alloc _
 have HG:=Lib.hid (show (add12 s k l x).gone=if (at12 s.B k).st=2 then s.gone - 1 else s.gone from rfl)
 have HBB:=Lib.hid (show (add12 s k l x).B=s.B.set k ⟨1,l,x⟩ from rfl)
 rw [hadd]
 generalize at12 s.B k=y at *
 obtain ⟨st,yl,yc⟩:=y
 simp only at HG
 have hk1:(k:Int) < (s.B.length:Int):=by omega
 have w1:=IntWalk.i64_in (s.many + 1) (by omega)
 have w2:=IntWalk.i64_in (s.gone - 1) (by omega)
 clear h hp hadd hlen hgc hg
 go_enter Tryz.func92,Tryz.ntmps92
 go_upto_region 1 with (fail)
 rw [← hW0]
 clear hW0
 go_wp2_with (refine wpList_load_row rfl 31 _ rfl w.heap.size rfl _ _ _ _ i1 Tryz.underlying31 rfl infoSto12 ?_)
 refine (HR.out _ (RowB.inS hr0 hf)).mono ?_
 rintro e W1 ⟨rfl,hb1⟩
 have j1:=i1.below hb1 i1.lt
 have j2:=i2.below hb1 i2.lt
 have hr1:=RowV.below hr0 hb1
 have hB1:=hB0.trans (hb1.mono hB0.size)
 have hs1:=j2.lt
 clear hb1 i1 i2 hr0 hB0 HR
 have c0:W1.cell? ⟨w.heap.size,0,none⟩=some (.slice (some ⟨g,0,none⟩) s.B.length c):=j1.cell 0
 have c1:W1.cell? ⟨w.heap.size,1,none⟩=some (.int .i64 s.many):=j1.cell 1
 have c2:W1.cell? ⟨w.heap.size,2,none⟩=some (.int .i64 s.gone):=j1.cell 2
 have f1:=j1.frozen 1
 have f2:=j1.frozen 2
 have q0:W1.cell? ⟨g,k * 3,none⟩=some (.int .i64 st):=by have:=(RowB.range hr1 hx) 0 _ rfl;rwa [Nat.add_zero] at this
 have hgw:w.grownBy W1 (some g):=grown_below12 hB1 _
 by_cases h2:st=2
 ·
  subst h2
  rw [if_pos rfl] at HG
  have k1:Is (W1.setCell ⟨w.heap.size,2,none⟩ (.int .i64 (s.gone - 1))) w.heap.size 31 #[.slice (some ⟨g,0,none⟩) s.B.length c,.int .i64 s.many,.int .i64 (s.gone - 1)]:=j1.set 2 _
  have k2:=j2.far (p:=⟨w.heap.size,2,none⟩) (by simp) (.int .i64 (s.gone - 1))
  have r2:=hr1.far (p:=⟨w.heap.size,2,none⟩) j1 (by decide) (.int .i64 (s.gone - 1))
  have hg2:=grown_set12 hgw (p:=⟨w.heap.size,2,none⟩) (Nat.le_refl _) (.int .i64 (s.gone - 1))
  have D0:=Lib.hid (show (W1.setCell ⟨w.heap.size,2,none⟩ (.int .i64 (s.gone - 1))).cell? ⟨w.heap.size,0,none⟩=some (.slice (some ⟨g,0,none⟩) s.B.length c) from k1.cell 0)
  have HK1:=Lib.hid k1
  have HK2:=Lib.hid k2
  have HR2:=Lib.hid r2
  have HGG:=Lib.hid hg2
  clear hr1 hgw j1 j2 k1 k2 r2 hg2
  go_upto_region 4 with (fail)
  have d0:=D0.out
  have k1:=HK1.out
  have k2:=HK2.out
  have r2:=HR2.out
  have hg2:=HGG.out
  clear D0 HK1 HK2 HR2 HGG q0 c0 c1 c2 f1 f2
  generalize W1.setCell ⟨w.heap.size,2,none⟩ (.int .i64 (s.gone - 1))=W2 at *
  have m1:Is (W2.setCells g (k * 3) [.int .i64 1,.string l,.string x]) w.heap.size 31 #[.slice (some ⟨g,0,none⟩) s.B.length c,.int .i64 s.many,.int .i64 (s.gone - 1)]:=k1.cells3 (g:=g) (by omega) (k * 3) (.int .i64 1) (.string l) (.string x)
  have m2:Is (W2.setCells g (k * 3) [.int .i64 1,.string l,.string x]) (w.heap.size + 1) 31 #[.slice none 0 0,.int .i64 0,.int .i64 0]:=k2.cells3 (g:=g) (by omega) (k * 3) (.int .i64 1) (.string l) (.string x)
  have m3:RowB (W2.setCells g (k * 3) [.int .i64 1,.string l,.string x]) base (some ⟨g,0,none⟩) c (s.B.set k ⟨1,l,x⟩):=RowB.put r2 hkl ⟨1,l,x⟩
  have m4:w.grownBy (W2.setCells g (k * 3) [.int .i64 1,.string l,.string x]) (some g):=grown_own12 hg2 (k * 3) (.int .i64 1) (.string l) (.string x)
  have HT:=Lib.hid (RowB.there r2 hkl)
  have M1:=Lib.hid m1
  have M2:=Lib.hid m2
  have M3:=Lib.hid m3
  have M4:=Lib.hid m4
  clear k1 k2 r2 hg2 m1 m2 m3 m4
  go_upto_region 5 with (refine wpList_store_bkt12 rfl _ _ rfl g (k * 3) 1 l x rfl rfl HT.out ?_)
  have m1:=M1.out
  have m2:=M2.out
  have m3:=M3.out
  have m4:=M4.out
  clear M1 M2 M3 M4 HT
  generalize W2.setCells g (k * 3) [.int .i64 1,.string l,.string x]=W3 at *
  have d1:W3.cell? ⟨w.heap.size,1,none⟩=some (.int .i64 s.many):=m1.cell 1
  have e1:=m1.frozen 1
  have n1:Is (W3.setCell ⟨w.heap.size,1,none⟩ (.int .i64 (s.many + 1))) w.heap.size 31 #[.slice (some ⟨g,0,none⟩) s.B.length c,.int .i64 (s.many + 1),.int .i64 (s.gone - 1)]:=m1.set 1 (.int .i64 (s.many + 1))
  have n2:=m2.far (p:=⟨w.heap.size,1,none⟩) (by simp) (.int .i64 (s.many + 1))
  have n3:=RowV.far m3 (p:=⟨w.heap.size,1,none⟩) m1 (by decide) (.int .i64 (s.many + 1))
  have n4:=grown_set12 m4 (p:=⟨w.heap.size,1,none⟩) (Nat.le_refl _) (.int .i64 (s.many + 1))
  have z3:=Lib.hid (RowV.rowFar n3 n2 (by decide) #[.slice (some ⟨g,0,none⟩) s.B.length c,.int .i64 (s.many + 1),.int .i64 (s.gone - 1)])
  have z4:=Lib.hid (grown_row12 n4 (g:=w.heap.size + 1) (by omega) #[.slice (some ⟨g,0,none⟩) s.B.length c,.int .i64 (s.many + 1),.int .i64 (s.gone - 1)])
  have hone:(#[.slice (some ⟨g,0,none⟩) s.B.length c,.int .i64 (s.many + 1),.int .i64 (s.gone - 1)]:Array Value).all (·.oneCell')=true:=by rw [← Array.all_toList];rfl
  have HONE:=Lib.hid hone
  clear m1 m2 m3 m4 n3 n4 hone
  go_wp2_with (first | (refine wpList_load_row rfl 31 _ rfl w.heap.size rfl _ _ _ _ n1 Tryz.underlying31 rfl infoSto12 ?_) | (refine wpList_store_row rfl 31 _ _ rfl (w.heap.size + 1) #[.slice (some ⟨g,0,none⟩) s.B.length c,.int .i64 (s.many + 1),.int .i64 (s.gone - 1)] rfl rfl 31 _ n2 infoSto12 rfl HONE.out ?_))
  exact bodyPost_ret (results_cell_row Tryz.results92 _ _ (w.heap.size + 1) 31 _ (0,0) _ rfl (n2.row _) Tryz.underlying31 rfl infoSto12) rfl ⟨by rw [HG.out],by rw [HBB.out];have:=z3.out;exact this,z4.out⟩
 ·
  rw [if_neg h2] at HG
  have hbe:(st == 2)=false:=by simpa using h2
  have m1:Is (W1.setCells g (k * 3) [.int .i64 1,.string l,.string x]) w.heap.size 31 #[.slice (some ⟨g,0,none⟩) s.B.length c,.int .i64 s.many,.int .i64 s.gone]:=j1.cells3 (g:=g) (by omega) (k * 3) (.int .i64 1) (.string l) (.string x)
  have m2:Is (W1.setCells g (k * 3) [.int .i64 1,.string l,.string x]) (w.heap.size + 1) 31 #[.slice none 0 0,.int .i64 0,.int .i64 0]:=j2.cells3 (g:=g) (by omega) (k * 3) (.int .i64 1) (.string l) (.string x)
  have m3:RowB (W1.setCells g (k * 3) [.int .i64 1,.string l,.string x]) base (some ⟨g,0,none⟩) c (s.B.set k ⟨1,l,x⟩):=RowB.put hr1 hkl ⟨1,l,x⟩
  have m4:w.grownBy (W1.setCells g (k * 3) [.int .i64 1,.string l,.string x]) (some g):=grown_own12 hgw (k * 3) (.int .i64 1) (.string l) (.string x)
  have HT:=Lib.hid (RowB.there hr1 hkl)
  have M1:=Lib.hid m1
  have M2:=Lib.hid m2
  have M3:=Lib.hid m3
  have M4:=Lib.hid m4
  clear j1 j2 hr1 hgw m1 m2 m3 m4
  go_upto_region 5 with (refine wpList_store_bkt12 rfl _ _ rfl g (k * 3) 1 l x rfl rfl HT.out ?_)
  have m1:=M1.out
  have m2:=M2.out
  have m3:=M3.out
  have m4:=M4.out
  clear M1 M2 M3 M4 HT
  generalize W1.setCells g (k * 3) [.int .i64 1,.string l,.string x]=W3 at *
  have d1:W3.cell? ⟨w.heap.size,1,none⟩=some (.int .i64 s.many):=m1.cell 1
  have e1:=m1.frozen 1
  have n1:Is (W3.setCell ⟨w.heap.size,1,none⟩ (.int .i64 (s.many + 1))) w.heap.size 31 #[.slice (some ⟨g,0,none⟩) s.B.length c,.int .i64 (s.many + 1),.int .i64 s.gone]:=m1.set 1 (.int .i64 (s.many + 1))
  have n2:=m2.far (p:=⟨w.heap.size,1,none⟩) (by simp) (.int .i64 (s.many + 1))
  have n3:=RowV.far m3 (p:=⟨w.heap.size,1,none⟩) m1 (by decide) (.int .i64 (s.many + 1))
  have n4:=grown_set12 m4 (p:=⟨w.heap.size,1,none⟩) (Nat.le_refl _) (.int .i64 (s.many + 1))
  have z3:=Lib.hid (RowV.rowFar n3 n2 (by decide) #[.slice (some ⟨g,0,none⟩) s.B.length c,.int .i64 (s.many + 1),.int .i64 s.gone])
  have z4:=Lib.hid (grown_row12 n4 (g:=w.heap.size + 1) (by omega) #[.slice (some ⟨g,0,none⟩) s.B.length c,.int .i64 (s.many + 1),.int .i64 s.gone])
  have hone:(#[.slice (some ⟨g,0,none⟩) s.B.length c,.int .i64 (s.many + 1),.int .i64 s.gone]:Array Value).all (·.oneCell')=true:=by rw [← Array.all_toList];rfl
  have HONE:=Lib.hid hone
  clear m1 m2 m3 m4 n3 n4 hone
  go_wp2_with (first | (refine wpList_load_row rfl 31 _ rfl w.heap.size rfl _ _ _ _ n1 Tryz.underlying31 rfl infoSto12 ?_) | (refine wpList_store_row rfl 31 _ _ rfl (w.heap.size + 1) #[.slice (some ⟨g,0,none⟩) s.B.length c,.int .i64 (s.many + 1),.int .i64 s.gone] rfl rfl 31 _ n2 infoSto12 rfl HONE.out ?_))
  exact bodyPost_ret (results_cell_row Tryz.results92 _ _ (w.heap.size + 1) 31 _ (0,0) _ rfl (n2.row _) Tryz.underlying31 rfl infoSto12) rfl ⟨by rw [HG.out],by rw [HBB.out];have:=z3.out;exact this,z4.out⟩
end Go.Proofs.YtmggbbmpckcleaaGreat
namespace Go.Proofs.YtmggbbmpckcleaaGreat
open Go.RowKit Go.Shelf
theorem cell_belowC12 {B:Nat} {W W':World} (hb:Below B W W') {p:Addr} {v:Value} (h:W.cell? p=some v) (hp:p.block < B):W'.cell? p=some v:=by
 rw [← h]
 simp only [World.cell?,hb.block _ hp]
theorem dput12_19 (W0:World) (B0 D3 D6 D8 g ct b off n c k:Nat) (v1 v2:Value) (t t':Sto12) (l x:ByteArray) (hsz:B0≤W0.heap.size) (h3:D3 < B0) (hD8:B0≤D8) (hgB:B0≤g) (hDg:D8≠g) (hXg:D6≠g) (hX8:D6≠D8) (i3:Is W0 D3 31 #[.slice (some ⟨b,off,none⟩) n c,v1,v2]) (i8:Is W0 D8 31 (stoA t (some ⟨g,0,none⟩) ct)) (r0:RowB W0 B0 (some ⟨g,0,none⟩) ct t.B) (i6:Is W0 D6 31 #[.slice none 0 0,.int .i64 0,.int .i64 0]) (hk:k < n) (hbl:b < B0) (hy1:W0.cell? ⟨b,off + k * 3 + 1,none⟩=some (.string l)) (hy2:W0.cell? ⟨b,off + k * 3 + 2,none⟩=some (.string x)) (HP:Hid (∀ W,RowB W B0 (some ⟨g,0,none⟩) ct t.B→Calls Tryz.prog 92 #[stoV t (some ⟨g,0,none⟩) ct,.string l,.string x] W fun e w'=>e=.returned (stoV t' (some ⟨g,0,none⟩) ct)∧RowB w' B0 (some ⟨g,0,none⟩) ct t'.B∧W.grownBy w' (some g))) (x0 x1 x2 x4 x5 x6 x7 x9 Xa Xb Xd Xe Xf Xg Xh Xi Xj Xk Xl Xm Xn Xo Xp Xq Xr Xs Xt Xu Xv Xw Xx Xy Xz Ya Yb Yc Yd Ye Yf Yg Yh Yi Yj Yk Yl Ym Yn Yo Yp Yq Yr Ys Yt Yu Yv Yw Yx Yy Yz Za Zb Zc Zd Ze Zf Zg Zh Zi Zj Zk Zl Zm Zn Zo Zp Zq Zr Zs Zt Zu Zv Zw Zx Zy Zz Ua Ub Uc Ud Ue Uf Ug Uh Ui Uj Uk Ul Um Un Uo Up:Value) :
  (Code.region 19 (opsOf Tryz.f68 19) true).wp Tryz.prog (fun ex YY W=>ex=.normal∧YY.defers=[]∧∃ (_:Unit),YY.tmps=#[x0,x1,x2,.pointer (some ⟨D3,0,none⟩),x4,x5,x6,x7,.pointer (some ⟨D8,0,none⟩),x9,Xa,Xb,.int .i64 (k:Int),Xd,Xe,Xf,Xg,Xh,Xi,Xj,Xk,Xl,Xm,Xn,Xo,Xp,Xq,Xr,Xs,Xt,Xu,Xv,Xw,Xx,Xy,Xz,Ya,Yb,Yc,Yd,Ye,Yf,Yg,Yh,Yi,Yj,Yk,Yl,Ym,Yn,Yo,Yp,Yq,Yr,Ys,Yt,Yu,Yv,Yw,Yx,Yy,Yz,Za,Zb,Zc,Zd,Ze,Zf,Zg,Zh,Zi,Zj,Zk,Zl,Zm,Zn,Zo,Zp,Zq,Zr,Zs,Zt,Zu,Zv,Zw,Zx,.agg (stoA t (some ⟨g,0,none⟩) ct),.pointer (some ⟨D3,0,none⟩),.slice (some ⟨b,off,none⟩) n c,.int .i64 (k:Int),.pointer (some ⟨b,off + k * 3,none⟩),.pointer (some ⟨b,off + k * 3 + 1,none⟩),.string l,.pointer (some ⟨D3,0,none⟩),.slice (some ⟨b,off,none⟩) n c,.int .i64 (k:Int),.pointer (some ⟨b,off + k * 3,none⟩),.pointer (some ⟨b,off + k * 3 + 2,none⟩),.string x,stoV t' (some ⟨g,0,none⟩) ct,Um,Un,Uo,Up]∧Below B0 W0 W∧RowB W B0 (some ⟨g,0,none⟩) ct t'.B∧Is W D6 31 #[.slice none 0 0,.int .i64 0,.int .i64 0]∧Is W D8 31 (stoA t' (some ⟨g,0,none⟩) ct)) { tmps:=#[x0,x1,x2,.pointer (some ⟨D3,0,none⟩),x4,x5,x6,x7,.pointer (some ⟨D8,0,none⟩),x9,Xa,Xb,.int .i64 (k:Int),Xd,Xe,Xf,Xg,Xh,Xi,Xj,Xk,Xl,Xm,Xn,Xo,Xp,Xq,Xr,Xs,Xt,Xu,Xv,Xw,Xx,Xy,Xz,Ya,Yb,Yc,Yd,Ye,Yf,Yg,Yh,Yi,Yj,Yk,Yl,Ym,Yn,Yo,Yp,Yq,Yr,Ys,Yt,Yu,Yv,Yw,Yx,Yy,Yz,Za,Zb,Zc,Zd,Ze,Zf,Zg,Zh,Zi,Zj,Zk,Zl,Zm,Zn,Zo,Zp,Zq,Zr,Zs,Zt,Zu,Zv,Zw,Zx,Zy,Zz,Ua,Ub,Uc,Ud,Ue,Uf,Ug,Uh,Ui,Uj,Uk,Ul,Um,Un,Uo,Up],defers:=[] } W0:=by
 have hB:Below B0 W0 (W0.drewN 1):=belowN (Below.refl _ _) 1
 generalize hQ:(fun (ex:Exit) (YY:Act) (W:World)=>ex=.normal∧YY.defers=[]∧∃ (_:Unit),YY.tmps=#[x0,x1,x2,.pointer (some ⟨D3,0,none⟩),x4,x5,x6,x7,.pointer (some ⟨D8,0,none⟩),x9,Xa,Xb,.int .i64 (k:Int),Xd,Xe,Xf,Xg,Xh,Xi,Xj,Xk,Xl,Xm,Xn,Xo,Xp,Xq,Xr,Xs,Xt,Xu,Xv,Xw,Xx,Xy,Xz,Ya,Yb,Yc,Yd,Ye,Yf,Yg,Yh,Yi,Yj,Yk,Yl,Ym,Yn,Yo,Yp,Yq,Yr,Ys,Yt,Yu,Yv,Yw,Yx,Yy,Yz,Za,Zb,Zc,Zd,Ze,Zf,Zg,Zh,Zi,Zj,Zk,Zl,Zm,Zn,Zo,Zp,Zq,Zr,Zs,Zt,Zu,Zv,Zw,Zx,.agg (stoA t (some ⟨g,0,none⟩) ct),.pointer (some ⟨D3,0,none⟩),.slice (some ⟨b,off,none⟩) n c,.int .i64 (k:Int),.pointer (some ⟨b,off + k * 3,none⟩),.pointer (some ⟨b,off + k * 3 + 1,none⟩),.string l,.pointer (some ⟨D3,0,none⟩),.slice (some ⟨b,off,none⟩) n c,.int .i64 (k:Int),.pointer (some ⟨b,off + k * 3,none⟩),.pointer (some ⟨b,off + k * 3 + 2,none⟩),.string x,stoV t' (some ⟨g,0,none⟩) ct,Um,Un,Uo,Up]∧Below B0 W0 W∧RowB W B0 (some ⟨g,0,none⟩) ct t'.B∧Is W D6 31 #[.slice none 0 0,.int .i64 0,.int .i64 0]∧Is W D8 31 (stoA t' (some ⟨g,0,none⟩) ct))=Q
 have HQN:∀ c a W,¬ Q (.panic c) a W:=fun c a W h=>by subst hQ;exact nomatch h.1
 have ST0_13_14:∀ (W:World),Below B0 W0 W→RowB W B0 (some ⟨g,0,none⟩) ct t'.B→Is W D6 31 #[.slice none 0 0,.int .i64 0,.int .i64 0]→Is W D8 31 (stoA t' (some ⟨g,0,none⟩) ct)→wpAnyH Tryz.prog .any (opsOf Tryz.f68 19) Q (fun W=>Below B0 W0 W) 0 #[true,true,true,true,true,true,true,true,true,true,true,true,true,true,true] { tmps:=#[x0,x1,x2,.pointer (some ⟨D3,0,none⟩),x4,x5,x6,x7,.pointer (some ⟨D8,0,none⟩),x9,Xa,Xb,.int .i64 (k:Int),Xd,Xe,Xf,Xg,Xh,Xi,Xj,Xk,Xl,Xm,Xn,Xo,Xp,Xq,Xr,Xs,Xt,Xu,Xv,Xw,Xx,Xy,Xz,Ya,Yb,Yc,Yd,Ye,Yf,Yg,Yh,Yi,Yj,Yk,Yl,Ym,Yn,Yo,Yp,Yq,Yr,Ys,Yt,Yu,Yv,Yw,Yx,Yy,Yz,Za,Zb,Zc,Zd,Ze,Zf,Zg,Zh,Zi,Zj,Zk,Zl,Zm,Zn,Zo,Zp,Zq,Zr,Zs,Zt,Zu,Zv,Zw,Zx,.agg (stoA t (some ⟨g,0,none⟩) ct),.pointer (some ⟨D3,0,none⟩),.slice (some ⟨b,off,none⟩) n c,.int .i64 (k:Int),.pointer (some ⟨b,off + k * 3,none⟩),.pointer (some ⟨b,off + k * 3 + 1,none⟩),.string l,.pointer (some ⟨D3,0,none⟩),.slice (some ⟨b,off,none⟩) n c,.int .i64 (k:Int),.pointer (some ⟨b,off + k * 3,none⟩),.pointer (some ⟨b,off + k * 3 + 2,none⟩),.string x,stoV t' (some ⟨g,0,none⟩) ct,Um,Un,Uo,Up],defers:=[] } W:=by
  intro W hB hZ iX iE
  refine wpAnyH_done (by kernel_rfl) ?_ _
  subst hQ
  exact ⟨rfl,rfl,(),rfl,hB,hZ,iX,iE⟩
 have ST0_13:∀ (W:World),Below B0 W0 W→Is W D8 31 (stoA t (some ⟨g,0,none⟩) ct)→RowB W B0 (some ⟨g,0,none⟩) ct t'.B→Is W D6 31 #[.slice none 0 0,.int .i64 0,.int .i64 0]→wpAnyH Tryz.prog .any (opsOf Tryz.f68 19) Q (fun W=>Below B0 W0 W) 1 #[true,true,true,true,true,true,true,true,true,true,true,true,true,true,false] { tmps:=#[x0,x1,x2,.pointer (some ⟨D3,0,none⟩),x4,x5,x6,x7,.pointer (some ⟨D8,0,none⟩),x9,Xa,Xb,.int .i64 (k:Int),Xd,Xe,Xf,Xg,Xh,Xi,Xj,Xk,Xl,Xm,Xn,Xo,Xp,Xq,Xr,Xs,Xt,Xu,Xv,Xw,Xx,Xy,Xz,Ya,Yb,Yc,Yd,Ye,Yf,Yg,Yh,Yi,Yj,Yk,Yl,Ym,Yn,Yo,Yp,Yq,Yr,Ys,Yt,Yu,Yv,Yw,Yx,Yy,Yz,Za,Zb,Zc,Zd,Ze,Zf,Zg,Zh,Zi,Zj,Zk,Zl,Zm,Zn,Zo,Zp,Zq,Zr,Zs,Zt,Zu,Zv,Zw,Zx,.agg (stoA t (some ⟨g,0,none⟩) ct),.pointer (some ⟨D3,0,none⟩),.slice (some ⟨b,off,none⟩) n c,.int .i64 (k:Int),.pointer (some ⟨b,off + k * 3,none⟩),.pointer (some ⟨b,off + k * 3 + 1,none⟩),.string l,.pointer (some ⟨D3,0,none⟩),.slice (some ⟨b,off,none⟩) n c,.int .i64 (k:Int),.pointer (some ⟨b,off + k * 3,none⟩),.pointer (some ⟨b,off + k * 3 + 2,none⟩),.string x,stoV t' (some ⟨g,0,none⟩) ct,Um,Un,Uo,Up],defers:=[] } W:=by
  intro W hB iD hZ iX
  refine wpAnyH_ready (by kernel_rfl) (by simp) (AllReadyH.cons (i:=14) (at_nth rfl) ?_ (AllReadyH.nil))
  ·
   have hone:=stoA_one12 t' (some ⟨g,0,none⟩) ct
   have hZ:=hZ.rowFar iD (by decide) (stoA t' (some ⟨g,0,none⟩) ct)
   have iX:=iX.rowFar hX8 (stoA t' (some ⟨g,0,none⟩) ct)
   have iE:=iD.row (stoA t' (some ⟨g,0,none⟩) ct)
   have hB2:=belowRow hB hD8 (stoA t' (some ⟨g,0,none⟩) ct)
   refine arm10_skip (w':=W.setRow D8 (stoA t' (some ⟨g,0,none⟩) ct)) (by kernel_rfl) (run_row10 (x:=.tmp 8) (y:=.tmp 99) (by kernel_rfl) (by kernel_rfl) (by kernel_rfl) iD infoSto12 rfl hone) hB2 ?_
   simp only [Act.put]
   have hB:=hB2
   clear hB2 hone iD
   exact ST0_13_14 _ hB hZ iX iE
 have ST0:∀ (W:World),Below B0 W0 W→Is W D8 31 (stoA t (some ⟨g,0,none⟩) ct)→RowB W B0 (some ⟨g,0,none⟩) ct t.B→Is W D6 31 #[.slice none 0 0,.int .i64 0,.int .i64 0]→wpAnyH Tryz.prog .any (opsOf Tryz.f68 19) Q (fun W=>Below B0 W0 W) 2 #[true,true,true,true,true,true,true,true,true,true,true,true,true,false,false] { tmps:=#[x0,x1,x2,.pointer (some ⟨D3,0,none⟩),x4,x5,x6,x7,.pointer (some ⟨D8,0,none⟩),x9,Xa,Xb,.int .i64 (k:Int),Xd,Xe,Xf,Xg,Xh,Xi,Xj,Xk,Xl,Xm,Xn,Xo,Xp,Xq,Xr,Xs,Xt,Xu,Xv,Xw,Xx,Xy,Xz,Ya,Yb,Yc,Yd,Ye,Yf,Yg,Yh,Yi,Yj,Yk,Yl,Ym,Yn,Yo,Yp,Yq,Yr,Ys,Yt,Yu,Yv,Yw,Yx,Yy,Yz,Za,Zb,Zc,Zd,Ze,Zf,Zg,Zh,Zi,Zj,Zk,Zl,Zm,Zn,Zo,Zp,Zq,Zr,Zs,Zt,Zu,Zv,Zw,Zx,.agg (stoA t (some ⟨g,0,none⟩) ct),.pointer (some ⟨D3,0,none⟩),.slice (some ⟨b,off,none⟩) n c,.int .i64 (k:Int),.pointer (some ⟨b,off + k * 3,none⟩),.pointer (some ⟨b,off + k * 3 + 1,none⟩),.string l,.pointer (some ⟨D3,0,none⟩),.slice (some ⟨b,off,none⟩) n c,.int .i64 (k:Int),.pointer (some ⟨b,off + k * 3,none⟩),.pointer (some ⟨b,off + k * 3 + 2,none⟩),.string x,Ul,Um,Un,Uo,Up],defers:=[] } W:=by
  intro W hB iD hI iX
  refine wpAnyH_ready (by kernel_rfl) (by simp) (AllReadyH.cons (i:=13) (at_nth rfl) ?_ (AllReadyH.nil))
  ·
   refine arm10_call (by kernel_rfl) (fun wy=>by kernel_rfl) ((HP.out _ hI).mono ?_)
   rintro e Wn ⟨rfl,hZ,hg⟩
   have iD:=Is.row_of12 hg iD hDg
   have iX:=Is.row_of12 hg iX hXg
   have hB:=hB.grown hg (Nat.le_trans hsz hB.size) (fun q e=>by cases e;exact hgB)
   clear hg hI
   refine ⟨_,rfl,hB,?_⟩
   simp only [Act.put,zz0,zz1,zz2]
   exact ST0_13 _ hB iD hZ iX
 have ST:∀ (W:World),Below B0 W0 W→Is W D8 31 (stoA t (some ⟨g,0,none⟩) ct)→RowB W B0 (some ⟨g,0,none⟩) ct t.B→Is W D6 31 #[.slice none 0 0,.int .i64 0,.int .i64 0]→wpAnyH Tryz.prog .any (opsOf Tryz.f68 19) Q (fun W=>Below B0 W0 W) 3 #[false,true,true,true,true,true,true,true,true,true,true,true,true,false,false] { tmps:=#[x0,x1,x2,.pointer (some ⟨D3,0,none⟩),x4,x5,x6,x7,.pointer (some ⟨D8,0,none⟩),x9,Xa,Xb,.int .i64 (k:Int),Xd,Xe,Xf,Xg,Xh,Xi,Xj,Xk,Xl,Xm,Xn,Xo,Xp,Xq,Xr,Xs,Xt,Xu,Xv,Xw,Xx,Xy,Xz,Ya,Yb,Yc,Yd,Ye,Yf,Yg,Yh,Yi,Yj,Yk,Yl,Ym,Yn,Yo,Yp,Yq,Yr,Ys,Yt,Yu,Yv,Yw,Yx,Yy,Yz,Za,Zb,Zc,Zd,Ze,Zf,Zg,Zh,Zi,Zj,Zk,Zl,Zm,Zn,Zo,Zp,Zq,Zr,Zs,Zt,Zu,Zv,Zw,Zx,Zy,.pointer (some ⟨D3,0,none⟩),.slice (some ⟨b,off,none⟩) n c,.int .i64 (k:Int),.pointer (some ⟨b,off + k * 3,none⟩),.pointer (some ⟨b,off + k * 3 + 1,none⟩),.string l,.pointer (some ⟨D3,0,none⟩),.slice (some ⟨b,off,none⟩) n c,.int .i64 (k:Int),.pointer (some ⟨b,off + k * 3,none⟩),.pointer (some ⟨b,off + k * 3 + 2,none⟩),.string x,Ul,Um,Un,Uo,Up],defers:=[] } W:=by
  intro W hB iD hI iX
  refine wpAnyH_ready (by kernel_rfl) (by simp) (AllReadyH.cons (i:=0) (at_nth rfl) ?_ (AllReadyH.nil))
  ·
   refine arm10_value (v:=.agg (stoA t (some ⟨g,0,none⟩) ct)) (w':=W) (by kernel_rfl) (run_load_rowO (x:=.tmp 8) (by kernel_rfl) (by kernel_rfl) iD Tryz.underlying31 rfl infoSto12) hB ?_
   simp only [Act.put,zz0,zz1,zz2]
   exact ST0 _ hB iD hI iX
 refine wp_region_held_drew (S:=fun W=>Below B0 W0 W) (by kernel_rfl) hB (fun hS=>?_)
 change wpAnyH _ _ (opsOf Tryz.f68 19) _ _ 15 (Array.replicate 15 false) _ (W0.drewN 1)
 clear hS
 replace hB:Below B0 W0 (W0.drewN 1):=belowN (Below.refl _ _) 1
 refine wpP (i:=1) (v:=.pointer (some ⟨D3,0,none⟩)) HQN rfl (fun w hSw=>by go_simp) hB ?_
 simp only [Act.put,zz0,zz1,zz2]
 refine wpP (i:=2) (v:=.slice (some ⟨b,off,none⟩) n c) HQN rfl (fun w hSw=>by (have hc:=(i3.below hSw h3).cell 0;go_simp)) hB ?_
 simp only [Act.put,zz0,zz1,zz2]
 refine wpP (i:=3) (v:=.int .i64 (k:Int)) HQN rfl (fun w hSw=>by kernel_rfl) hB ?_
 simp only [Act.put,zz0,zz1,zz2]
 refine wpP (i:=4) (v:=.pointer (some ⟨b,off + k * 3,none⟩)) HQN rfl (fun w hSw=>by have hk':=hk;go_simp) hB ?_
 simp only [Act.put,zz0,zz1,zz2]
 refine wpP (i:=5) (v:=.pointer (some ⟨b,off + k * 3 + 1,none⟩)) HQN rfl (fun w hSw=>by go_simp) hB ?_
 simp only [Act.put,zz0,zz1,zz2]
 refine wpP (i:=6) (v:=.string l) HQN rfl (fun w hSw=>by (have hc:=cell_belowC12 hSw hy1 hbl;go_simp)) hB ?_
 simp only [Act.put,zz0,zz1,zz2]
 refine wpP (i:=7) (v:=.pointer (some ⟨D3,0,none⟩)) HQN rfl (fun w hSw=>by go_simp) hB ?_
 simp only [Act.put,zz0,zz1,zz2]
 refine wpP (i:=8) (v:=.slice (some ⟨b,off,none⟩) n c) HQN rfl (fun w hSw=>by (have hc:=(i3.below hSw h3).cell 0;go_simp)) hB ?_
 simp only [Act.put,zz0,zz1,zz2]
 refine wpP (i:=9) (v:=.int .i64 (k:Int)) HQN rfl (fun w hSw=>by kernel_rfl) hB ?_
 simp only [Act.put,zz0,zz1,zz2]
 refine wpP (i:=10) (v:=.pointer (some ⟨b,off + k * 3,none⟩)) HQN rfl (fun w hSw=>by have hk':=hk;go_simp) hB ?_
 simp only [Act.put,zz0,zz1,zz2]
 refine wpP (i:=11) (v:=.pointer (some ⟨b,off + k * 3 + 2,none⟩)) HQN rfl (fun w hSw=>by go_simp) hB ?_
 simp only [Act.put,zz0,zz1,zz2]
 refine wpP (i:=12) (v:=.string x) HQN rfl (fun w hSw=>by (have hc:=cell_belowC12 hSw hy2 hbl;go_simp)) hB ?_
 simp only [Act.put,zz0,zz1,zz2]
 exact ST _ hB i8 r0 i6
end Go.Proofs.YtmggbbmpckcleaaGreat
namespace Go.Proofs.YtmggbbmpckcleaaGreat
open Go.RowKit Go.Shelf
theorem dput_bad12 (s:Sto12) (A:Option Addr) (c:Nat) (l x:ByteArray) (w:World) (h:InS w s A c) (hf:s.B.length≤4096) (hr:right12 s=false) :
  Calls Tryz.prog 68 #[stoV s A c,.string l,.string x] w fun e w'=>∃ A1 c1,e=.returned (.tuple #[stoV s A1 c1,.int .i64 1])∧InS w' s A1 c1∧Below w.heap.size w w':=by
 have HB:=Lib.hid (fun W (hB:Below w.heap.size w W)=>dright_any12 s A c W (h.keep hB))
 have HC:=Lib.hid (fun W (hB:Below w.heap.size w W)=>down_any12 s A c W (h.keep hB) hf)
 have HI:=Lib.hid h
 have HLE:=Lib.hid hf
 obtain ⟨W0,hW0⟩:∃ W,W=(w.alloc (.cells (stoA s A c) 31)).alloc (.cells #[.slice none 0 0,.int .i64 0,.int .i64 0] 31):=⟨_,rfl⟩
 have i0:Is W0 w.heap.size 31 (stoA s A c):=by rw [hW0];exact heap_alloc2_old w _ _
 have j0:Is W0 (w.heap.size + 1) 31 #[.slice none 0 0,.int .i64 0,.int .i64 0]:=by rw [hW0];exact heap_alloc2_new w _ _
 have hB0:Below w.heap.size w W0:=by rw [hW0];exact ((Below.refl _ _).alloc (Nat.le_refl _) _).alloc (by simp) _
 rw [hr] at HB
 clear hr
 clear h
 go_enter Tryz.func68,Tryz.ntmps68
 go_upto_region 1 with (fail)
 rw [← hW0]
 clear hW0
 go_wp2_with (refine wpList_load_row rfl 31 _ rfl w.heap.size rfl _ _ _ _ i0 Tryz.underlying31 rfl infoSto12 ?_)
 refine (HC.out _ hB0).mono ?_
 rintro e W2 ⟨A1,c1,rfl,hr2,hb2⟩
 have hB2:=hB0.trans (hb2.mono hB0.size)
 have i2:=i0.below hb2 i0.lt
 have j2:=j0.below hb2 j0.lt
 have HS2:=Lib.hid (stoA_one12 s A1 c1)
 have HR2:=Lib.hid (RowV.alloc (hr2.mono hB0.size) (.cells (stoA s A1 c1) 31))
 have i3:=i2.alloc (.cells (stoA s A1 c1) 31)
 have j3:=j2.alloc (.cells (stoA s A1 c1) 31)
 have k3:=Is.new W2 31 (stoA s A1 c1)
 have hB3:=hB2.alloc hB2.size (.cells (stoA s A1 c1) 31)
 have hjl:=j2.lt
 have hjl1:=j0.lt
 have hW2:=hB2.size
 clear i2 j2 hB2 hb2 hr2 i0 j0 hB0
 go_wp2_with (refine wpList_load_row rfl 31 _ rfl w.heap.size rfl _ _ _ _ i3 Tryz.underlying31 rfl infoSto12 ?_)
 refine (HB.out _ hB3).mono ?_
 rintro e W4 ⟨rfl,hb4⟩
 have hB4:=hB3.trans (hb4.mono hB3.size)
 have i4:=i3.below hb4 i3.lt
 have j4:=j3.below hb4 j3.lt
 have k4:=k3.below hb4 k3.lt
 have HR4:=Lib.hid (RowV.below HR2.out hb4)
 clear hb4 i3 j3 k3 hB3
 go_wp2_with (first | (refine wpList_load_row rfl 31 _ rfl W2.heap.size rfl _ _ _ _ k4 Tryz.underlying31 rfl infoSto12 ?_) | (refine wpList_store_row rfl 31 _ _ rfl (w.heap.size + 1) (stoA s A1 c1) rfl rfl 31 _ j4 infoSto12 rfl HS2.out ?_))
 exact bodyPost_ret (results_row_tmp Tryz.results68 _ _ (w.heap.size + 1) 31 _ (0,0) _ rfl (j4.row _) Tryz.underlying31 rfl infoSto12) rfl ⟨A1,c1,rfl,RowB.inS (RowV.rowFar HR4.out j4 (by decide) _) HLE.out,belowRow hB4 (by omega) _⟩
theorem dput_lab12 (s:Sto12) (A:Option Addr) (c:Nat) (l x:ByteArray) (w:World) (h:InS w s A c) (hf:s.B.length≤4096) (hr:right12 s=true) (hl:¬ (l.size:Int)=16) :
  Calls Tryz.prog 68 #[stoV s A c,.string l,.string x] w fun e w'=>∃ A1 c1,e=.returned (.tuple #[stoV s A1 c1,.int .i64 1])∧InS w' s A1 c1∧Below w.heap.size w w':=by
 have HB:=Lib.hid (fun W (hB:Below w.heap.size w W)=>dright_any12 s A c W (h.keep hB))
 have HC:=Lib.hid (fun W (hB:Below w.heap.size w W)=>down_any12 s A c W (h.keep hB) hf)
 have HI:=Lib.hid h
 have HLE:=Lib.hid hf
 obtain ⟨W0,hW0⟩:∃ W,W=(w.alloc (.cells (stoA s A c) 31)).alloc (.cells #[.slice none 0 0,.int .i64 0,.int .i64 0] 31):=⟨_,rfl⟩
 have i0:Is W0 w.heap.size 31 (stoA s A c):=by rw [hW0];exact heap_alloc2_old w _ _
 have j0:Is W0 (w.heap.size + 1) 31 #[.slice none 0 0,.int .i64 0,.int .i64 0]:=by rw [hW0];exact heap_alloc2_new w _ _
 have hB0:Below w.heap.size w W0:=by rw [hW0];exact ((Below.refl _ _).alloc (Nat.le_refl _) _).alloc (by simp) _
 rw [hr] at HB
 clear hr
 clear h
 go_enter Tryz.func68,Tryz.ntmps68
 go_upto_region 1 with (fail)
 rw [← hW0]
 clear hW0
 go_wp2_with (refine wpList_load_row rfl 31 _ rfl w.heap.size rfl _ _ _ _ i0 Tryz.underlying31 rfl infoSto12 ?_)
 refine (HC.out _ hB0).mono ?_
 rintro e W2 ⟨A1,c1,rfl,hr2,hb2⟩
 have hB2:=hB0.trans (hb2.mono hB0.size)
 have i2:=i0.below hb2 i0.lt
 have j2:=j0.below hb2 j0.lt
 have HS2:=Lib.hid (stoA_one12 s A1 c1)
 have HR2:=Lib.hid (RowV.alloc (hr2.mono hB0.size) (.cells (stoA s A1 c1) 31))
 have i3:=i2.alloc (.cells (stoA s A1 c1) 31)
 have j3:=j2.alloc (.cells (stoA s A1 c1) 31)
 have k3:=Is.new W2 31 (stoA s A1 c1)
 have hB3:=hB2.alloc hB2.size (.cells (stoA s A1 c1) 31)
 have hjl:=j2.lt
 have hjl1:=j0.lt
 have hW2:=hB2.size
 clear i2 j2 hB2 hb2 hr2 i0 j0 hB0
 go_wp2_with (refine wpList_load_row rfl 31 _ rfl w.heap.size rfl _ _ _ _ i3 Tryz.underlying31 rfl infoSto12 ?_)
 refine (HB.out _ hB3).mono ?_
 rintro e W4 ⟨rfl,hb4⟩
 have hB4:=hB3.trans (hb4.mono hB3.size)
 have i4:=i3.below hb4 i3.lt
 have j4:=j3.below hb4 j3.lt
 have k4:=k3.below hb4 k3.lt
 have HR4:=Lib.hid (RowV.below HR2.out hb4)
 clear hb4 i3 j3 k3 hB3
 go_wp2_with (first | (refine wpList_load_row rfl 31 _ rfl W2.heap.size rfl _ _ _ _ k4 Tryz.underlying31 rfl infoSto12 ?_) | (refine wpList_store_row rfl 31 _ _ rfl (w.heap.size + 1) (stoA s A1 c1) rfl rfl 31 _ j4 infoSto12 rfl HS2.out ?_))
 exact bodyPost_ret (results_row_tmp Tryz.results68 _ _ (w.heap.size + 1) 31 _ (0,0) _ rfl (j4.row _) Tryz.underlying31 rfl infoSto12) rfl ⟨A1,c1,rfl,RowB.inS (RowV.rowFar HR4.out j4 (by decide) _) HLE.out,belowRow hB4 (by omega) _⟩
theorem dput_cel12 (s:Sto12) (A:Option Addr) (c:Nat) (l x:ByteArray) (w:World) (h:InS w s A c) (hf:s.B.length≤4096) (hr:right12 s=true) (hl:(l.size:Int)=16) (hx:¬ (x.size:Int)=40) :
  Calls Tryz.prog 68 #[stoV s A c,.string l,.string x] w fun e w'=>∃ A1 c1,e=.returned (.tuple #[stoV s A1 c1,.int .i64 1])∧InS w' s A1 c1∧Below w.heap.size w w':=by
 have HB:=Lib.hid (fun W (hB:Below w.heap.size w W)=>dright_any12 s A c W (h.keep hB))
 have HC:=Lib.hid (fun W (hB:Below w.heap.size w W)=>down_any12 s A c W (h.keep hB) hf)
 have HI:=Lib.hid h
 have HLE:=Lib.hid hf
 obtain ⟨W0,hW0⟩:∃ W,W=(w.alloc (.cells (stoA s A c) 31)).alloc (.cells #[.slice none 0 0,.int .i64 0,.int .i64 0] 31):=⟨_,rfl⟩
 have i0:Is W0 w.heap.size 31 (stoA s A c):=by rw [hW0];exact heap_alloc2_old w _ _
 have j0:Is W0 (w.heap.size + 1) 31 #[.slice none 0 0,.int .i64 0,.int .i64 0]:=by rw [hW0];exact heap_alloc2_new w _ _
 have hB0:Below w.heap.size w W0:=by rw [hW0];exact ((Below.refl _ _).alloc (Nat.le_refl _) _).alloc (by simp) _
 rw [hr] at HB
 clear hr
 clear h
 go_enter Tryz.func68,Tryz.ntmps68
 go_upto_region 1 with (fail)
 rw [← hW0]
 clear hW0
 go_wp2_with (refine wpList_load_row rfl 31 _ rfl w.heap.size rfl _ _ _ _ i0 Tryz.underlying31 rfl infoSto12 ?_)
 refine (HC.out _ hB0).mono ?_
 rintro e W2 ⟨A1,c1,rfl,hr2,hb2⟩
 have hB2:=hB0.trans (hb2.mono hB0.size)
 have i2:=i0.below hb2 i0.lt
 have j2:=j0.below hb2 j0.lt
 have HS2:=Lib.hid (stoA_one12 s A1 c1)
 have HR2:=Lib.hid (RowV.alloc (hr2.mono hB0.size) (.cells (stoA s A1 c1) 31))
 have i3:=i2.alloc (.cells (stoA s A1 c1) 31)
 have j3:=j2.alloc (.cells (stoA s A1 c1) 31)
 have k3:=Is.new W2 31 (stoA s A1 c1)
 have hB3:=hB2.alloc hB2.size (.cells (stoA s A1 c1) 31)
 have hjl:=j2.lt
 have hjl1:=j0.lt
 have hW2:=hB2.size
 clear i2 j2 hB2 hb2 hr2 i0 j0 hB0
 go_wp2_with (refine wpList_load_row rfl 31 _ rfl w.heap.size rfl _ _ _ _ i3 Tryz.underlying31 rfl infoSto12 ?_)
 refine (HB.out _ hB3).mono ?_
 rintro e W4 ⟨rfl,hb4⟩
 have hB4:=hB3.trans (hb4.mono hB3.size)
 have i4:=i3.below hb4 i3.lt
 have j4:=j3.below hb4 j3.lt
 have k4:=k3.below hb4 k3.lt
 have HR4:=Lib.hid (RowV.below HR2.out hb4)
 clear hb4 i3 j3 k3 hB3
 go_wp2_with (first | (refine wpList_load_row rfl 31 _ rfl W2.heap.size rfl _ _ _ _ k4 Tryz.underlying31 rfl infoSto12 ?_) | (refine wpList_store_row rfl 31 _ _ rfl (w.heap.size + 1) (stoA s A1 c1) rfl rfl 31 _ j4 infoSto12 rfl HS2.out ?_))
 exact bodyPost_ret (results_row_tmp Tryz.results68 _ _ (w.heap.size + 1) 31 _ (0,0) _ rfl (j4.row _) Tryz.underlying31 rfl infoSto12) rfl ⟨A1,c1,rfl,RowB.inS (RowV.rowFar HR4.out j4 (by decide) _) HLE.out,belowRow hB4 (by omega) _⟩
theorem dput_hit12 (s:Sto12) (A:Option Addr) (c:Nat) (l x:ByteArray) (w:World) (h:InS w s A c) (hf:s.B.length≤4096) (hr:right12 s=true) (hl:(l.size:Int)=16) (hx:(x.size:Int)=40) (k:Nat) (hk:plc12 s.B l=some k) :
  Calls Tryz.prog 68 #[stoV s A c,.string l,.string x] w fun e w'=>∃ A1 c1,e=.returned (.tuple #[stoV (⟨s.B.set k ⟨1,l,x⟩,s.many,s.gone⟩:Sto12) A1 c1,.int .i64 0])∧InS w' (⟨s.B.set k ⟨1,l,x⟩,s.many,s.gone⟩:Sto12) A1 c1∧Below w.heap.size w w':=by
 have HB:=Lib.hid (fun W (hB:Below w.heap.size w W)=>dright_any12 s A c W (h.keep hB))
 have HC:=Lib.hid (fun W (hB:Below w.heap.size w W)=>down_any12 s A c W (h.keep hB) hf)
 have HI:=Lib.hid h
 have HLE:=Lib.hid hf
 obtain ⟨W0,hW0⟩:∃ W,W=(w.alloc (.cells (stoA s A c) 31)).alloc (.cells #[.slice none 0 0,.int .i64 0,.int .i64 0] 31):=⟨_,rfl⟩
 have i0:Is W0 w.heap.size 31 (stoA s A c):=by rw [hW0];exact heap_alloc2_old w _ _
 have j0:Is W0 (w.heap.size + 1) 31 #[.slice none 0 0,.int .i64 0,.int .i64 0]:=by rw [hW0];exact heap_alloc2_new w _ _
 have hB0:Below w.heap.size w W0:=by rw [hW0];exact ((Below.refl _ _).alloc (Nat.le_refl _) _).alloc (by simp) _
 have HF:=Lib.hid (fun W (hB:Below w.heap.size w W)=>dfind_any12 s A c l W (h.keep hB) hf)
 rw [hk,show plz12 (some k)=(k:Int) from rfl] at HF
 have hrt:=(right_iff12.1 hr).bnd
 have HLEN:=Lib.hid hrt.len
 rw [hr] at HB
 have hkl:=(plc_lt12 hk).1
 have hk1:(k:Int) < (s.B.length:Int):=by omega
 have hk0:(0:Int)≤(k:Int):=by omega
 have hxk:=getD_at12 hkl
 have hb12:at12 s.B k=⟨1,l,(at12 s.B k).c⟩:=by
  obtain ⟨_,e1,e2⟩:=plc_lt12 hk
  rw [show at12 s.B k=⟨(at12 s.B k).st,(at12 s.B k).l,(at12 s.B k).c⟩ from rfl,e1,e2]
 rw [hb12] at hxk
 have HXK:=Lib.hid hxk
 have hlen:(s.B.set k ⟨1,l,x⟩).length=s.B.length:=List.length_set
 clear hr hk hrt hb12 hxk
 clear h
 go_enter Tryz.func68,Tryz.ntmps68
 go_upto_region 1 with (fail)
 rw [← hW0]
 clear hW0
 go_wp2_with (refine wpList_load_row rfl 31 _ rfl w.heap.size rfl _ _ _ _ i0 Tryz.underlying31 rfl infoSto12 ?_)
 refine (HC.out _ hB0).mono ?_
 rintro e W2 ⟨A1,c1,rfl,hr2,hb2⟩
 obtain ⟨g,cur,rfl,hgb,hgc,hz⟩:=hr2.open (by have:=HLEN.out;omega)
 have hgl:=hgc.lt
 clear hz hgc cur
 have hB2:=hB0.trans (hb2.mono hB0.size)
 have i2:=i0.below hb2 i0.lt
 have j2:=j0.below hb2 j0.lt
 have HS2:=Lib.hid (stoA_one12 s (some ⟨g,0,none⟩) c1)
 have HR2:=Lib.hid (RowV.alloc (hr2.mono hB0.size) (.cells (stoA s (some ⟨g,0,none⟩) c1) 31))
 have i3:=i2.alloc (.cells (stoA s (some ⟨g,0,none⟩) c1) 31)
 have j3:=j2.alloc (.cells (stoA s (some ⟨g,0,none⟩) c1) 31)
 have k3:=Is.new W2 31 (stoA s (some ⟨g,0,none⟩) c1)
 have hB3:=hB2.alloc hB2.size (.cells (stoA s (some ⟨g,0,none⟩) c1) 31)
 have hjl:=j2.lt
 have hjl1:=j0.lt
 have hW2:=hB2.size
 clear i2 j2 hB2 hb2 hr2 i0 j0 hB0
 go_wp2_with (refine wpList_load_row rfl 31 _ rfl w.heap.size rfl _ _ _ _ i3 Tryz.underlying31 rfl infoSto12 ?_)
 refine (HB.out _ hB3).mono ?_
 rintro e W4 ⟨rfl,hb4⟩
 have hB4:=hB3.trans (hb4.mono hB3.size)
 have i4:=i3.below hb4 i3.lt
 have j4:=j3.below hb4 j3.lt
 have k4:=k3.below hb4 k3.lt
 have HR4:=Lib.hid (RowV.below HR2.out hb4)
 clear hb4 i3 j3 k3 hB3
 go_wp2_with (refine wpList_load_row rfl 31 _ rfl w.heap.size rfl _ _ _ _ i4 Tryz.underlying31 rfl infoSto12 ?_)
 refine (HF.out _ hB4).mono ?_
 rintro e W5 ⟨fr,rfl,hfr,hb5⟩
 have hB5:=hB4.trans (hb5.mono hB4.size)
 have i5:=i4.below hb5 i4.lt
 have j5:=j4.below hb5 j4.lt
 have k5:=k4.below hb5 k4.lt
 have HR5:=Lib.hid (RowV.below HR4.out hb5)
 clear hb5 i4 j4 k4 hB4 hfr
 have r5:RowB W5 w.heap.size (some ⟨g,0,none⟩) c1 s.B:=HR5.out
 have c0:W5.cell? ⟨W2.heap.size,0,none⟩=some (.slice (some ⟨g,0,none⟩) s.B.length c1):=k5.cell 0
 obtain ⟨g2,cur,e2,_,hgc,_,_,hcs,_⟩:=r5.open (by have:=HLEN.out;omega)
 cases e2
 have fq:=hgc.frozen (k * 3 + 2)
 have cq:W5.cell? ⟨g,k * 3 + 2,none⟩=some (.string (at12 s.B k).c):=(RowB.range r5 HXK.out) 2 _ rfl
 have m1:=Lib.hid (show Is (W5.setCell ⟨g,k * 3 + 2,none⟩ (.string x)) (w.heap.size + 1) 31 #[.slice none 0 0,.int .i64 0,.int .i64 0] from j5.far (by simp only [];omega) _)
 have m2:=Lib.hid (show Is (W5.setCell ⟨g,k * 3 + 2,none⟩ (.string x)) W2.heap.size 31 (stoA s (some ⟨g,0,none⟩) c1) from k5.far (by simp only [];omega) _)
 have m3:=Lib.hid (show RowB (W5.setCell ⟨g,k * 3 + 2,none⟩ (.string x)) w.heap.size (some ⟨g,0,none⟩) c1 (s.B.set k ⟨1,l,x⟩) from RowB.cell r5 HXK.out x)
 have m4:=Lib.hid (hB5.setCell (p:=⟨g,k * 3 + 2,none⟩) (by simp only [];omega) (.string x))
 clear i5 j5 k5 r5 hB5 hgc hcs HR5 HR4 HR2
 go_upto_region 7 with (fail)
 have n1:=m1.out
 have n2:=m2.out
 have n3:=m3.out
 have n4:=m4.out
 clear m1 m2 m3 m4 c0 fq cq
 generalize W5.setCell ⟨g,k * 3 + 2,none⟩ (.string x)=W6 at *
 go_wp2_with (first | (refine wpList_load_row rfl 31 _ rfl W2.heap.size rfl _ _ _ _ n2 Tryz.underlying31 rfl infoSto12 ?_) | (refine wpList_store_row rfl 31 _ _ rfl (w.heap.size + 1) (stoA s (some ⟨g,0,none⟩) c1) rfl rfl 31 _ n1 infoSto12 rfl HS2.out ?_))
 exact bodyPost_ret (results_row_tmp Tryz.results68 _ _ (w.heap.size + 1) 31 _ (0,0) _ rfl (n1.row _) Tryz.underlying31 rfl infoSto12) rfl ⟨some ⟨g,0,none⟩,c1,by show _=Ending.returned (.tuple #[.agg #[.slice _ (s.B.set k ⟨1,l,x⟩).length _,_,_],_]);rw [hlen];rfl,RowB.inS (s:=⟨s.B.set k ⟨1,l,x⟩,s.many,s.gone⟩) (RowV.rowFar n3 n1 (by decide) _) (by show (s.B.set k ⟨1,l,x⟩).length≤4096;rw [hlen];exact HLEN.out.2),belowRow n4 (by omega) _⟩
end Go.Proofs.YtmggbbmpckcleaaGreat
namespace Go.Proofs.YtmggbbmpckcleaaGreat
open Go.RowKit Go.Shelf
theorem dput_room12 (s:Sto12) (A:Option Addr) (c:Nat) (l x:ByteArray) (w:World) (h:InS w s A c) (hf:s.B.length≤4096) (hr:right12 s=true) (hl:(l.size:Int)=16) (hx:(x.size:Int)=40) (hk:plc12 s.B l=none) (hc:¬ 3 * (s.B.length:Int) < 4 * (s.many + s.gone + 1)) (k:Nat) (hg:gap12 s.B l=some k) :
  Calls Tryz.prog 68 #[stoV s A c,.string l,.string x] w fun e w'=>∃ A1 c1,e=.returned (.tuple #[stoV (add12 s k l x) A1 c1,.int .i64 0])∧InS w' (add12 s k l x) A1 c1∧Below w.heap.size w w':=by
 have HB:=Lib.hid (fun W (hB:Below w.heap.size w W)=>dright_any12 s A c W (h.keep hB))
 have HC:=Lib.hid (fun W (hB:Below w.heap.size w W)=>down_any12 s A c W (h.keep hB) hf)
 have HI:=Lib.hid h
 have HLE:=Lib.hid hf
 obtain ⟨W0,hW0⟩:∃ W,W=(w.alloc (.cells (stoA s A c) 31)).alloc (.cells #[.slice none 0 0,.int .i64 0,.int .i64 0] 31):=⟨_,rfl⟩
 have i0:Is W0 w.heap.size 31 (stoA s A c):=by rw [hW0];exact heap_alloc2_old w _ _
 have j0:Is W0 (w.heap.size + 1) 31 #[.slice none 0 0,.int .i64 0,.int .i64 0]:=by rw [hW0];exact heap_alloc2_new w _ _
 have hB0:Below w.heap.size w W0:=by rw [hW0];exact ((Below.refl _ _).alloc (Nat.le_refl _) _).alloc (by simp) _
 have HF:=Lib.hid (fun W (hB:Below w.heap.size w W)=>dfind_any12 s A c l W (h.keep hB) hf)
 rw [hk,show plz12 none=-1 from rfl] at HF
 have hrt:=(right_iff12.1 hr).bnd
 have HLEN:=Lib.hid hrt.len
 rw [hr] at HB
 have hm:=hrt.many
 have hgn:=hrt.gone
 have hl4:=hrt.len
 have w1:=IntWalk.i64_in (s.many + s.gone) (by omega)
 have w2:=IntWalk.i64_in (s.many + s.gone + 1) (by omega)
 have w3:=IntWalk.i64_in (4 * (s.many + s.gone + 1)) (by omega)
 have w4:=IntWalk.i64_in (3 * (s.B.length:Int)) (by omega)
 have hlen:(add12 s k l x).B.length=s.B.length:=List.length_set
 have CA:=Lib.hid (fun (W:World) g c1 (r:RowB W w.heap.size (some ⟨g,0,none⟩) c1 s.B)=>dset_any12 s (some ⟨g,0,none⟩) c1 w.heap.size k l x W r (by omega) (by omega) hk hg (by omega) (by omega))
 clear hr hk hrt hg
 clear h
 go_enter Tryz.func68,Tryz.ntmps68
 go_upto_region 1 with (fail)
 rw [← hW0]
 clear hW0
 go_wp2_with (refine wpList_load_row rfl 31 _ rfl w.heap.size rfl _ _ _ _ i0 Tryz.underlying31 rfl infoSto12 ?_)
 refine (HC.out _ hB0).mono ?_
 rintro e W2 ⟨A1,c1,rfl,hr2,hb2⟩
 obtain ⟨g,cur,rfl,hgb,hgc,hz⟩:=hr2.open (by have:=HLEN.out;omega)
 have hgl:=hgc.lt
 clear hz hgc cur
 have hB2:=hB0.trans (hb2.mono hB0.size)
 have i2:=i0.below hb2 i0.lt
 have j2:=j0.below hb2 j0.lt
 have HS2:=Lib.hid (stoA_one12 s (some ⟨g,0,none⟩) c1)
 have HR2:=Lib.hid (RowV.alloc (hr2.mono hB0.size) (.cells (stoA s (some ⟨g,0,none⟩) c1) 31))
 have i3:=i2.alloc (.cells (stoA s (some ⟨g,0,none⟩) c1) 31)
 have j3:=j2.alloc (.cells (stoA s (some ⟨g,0,none⟩) c1) 31)
 have k3:=Is.new W2 31 (stoA s (some ⟨g,0,none⟩) c1)
 have hB3:=hB2.alloc hB2.size (.cells (stoA s (some ⟨g,0,none⟩) c1) 31)
 have hjl:=j2.lt
 have hjl1:=j0.lt
 have hW2:=hB2.size
 clear i2 j2 hB2 hb2 hr2 i0 j0 hB0
 go_wp2_with (refine wpList_load_row rfl 31 _ rfl w.heap.size rfl _ _ _ _ i3 Tryz.underlying31 rfl infoSto12 ?_)
 refine (HB.out _ hB3).mono ?_
 rintro e W4 ⟨rfl,hb4⟩
 have hB4:=hB3.trans (hb4.mono hB3.size)
 have i4:=i3.below hb4 i3.lt
 have j4:=j3.below hb4 j3.lt
 have k4:=k3.below hb4 k3.lt
 have HR4:=Lib.hid (RowV.below HR2.out hb4)
 clear hb4 i3 j3 k3 hB3
 go_wp2_with (refine wpList_load_row rfl 31 _ rfl w.heap.size rfl _ _ _ _ i4 Tryz.underlying31 rfl infoSto12 ?_)
 refine (HF.out _ hB4).mono ?_
 rintro e W5 ⟨fr,rfl,hfr,hb5⟩
 have hB5:=hB4.trans (hb5.mono hB4.size)
 have i5:=i4.below hb5 i4.lt
 have j5:=j4.below hb5 j4.lt
 have k5:=k4.below hb5 k4.lt
 have HR5:=Lib.hid (RowV.below HR4.out hb5)
 clear hb5 i4 j4 k4 hB4 hfr
 have c0:W5.cell? ⟨w.heap.size,0,none⟩=some (.slice A s.B.length c):=i5.cell 0
 have c1':W5.cell? ⟨w.heap.size,1,none⟩=some (.int .i64 s.many):=i5.cell 1
 have c2:W5.cell? ⟨w.heap.size,2,none⟩=some (.int .i64 s.gone):=i5.cell 2
 have r5:RowB W5 w.heap.size (some ⟨g,0,none⟩) c1 s.B:=HR5.out
 have hs8:=k5.lt
 clear HR5 HR4 HR2 i5
 go_wp2_with (refine wpList_load_row rfl 31 _ rfl W2.heap.size rfl _ _ _ _ k5 Tryz.underlying31 rfl infoSto12 ?_)
 refine (CA.out W5 g c1 r5).mono ?_
 rintro e W6 ⟨rfl,hr6,hg6⟩
 have hg6:World.grownBy W5 W6 (some g):=hg6
 have j6:=Is.row_of12 hg6 j5 (by omega)
 have hB6:=hB5.grown hg6 hB5.size (fun q e=>by cases e;omega)
 have HONE:=Lib.hid (stoA_one12 (add12 s k l x) (some ⟨g,0,none⟩) c1)
 clear c0 c1' c2 j5 k5 hB5 r5 CA
 go_wp2_with (refine wpList_store_row rfl 31 _ _ rfl (w.heap.size + 1) (stoA (add12 s k l x) (some ⟨g,0,none⟩) c1) rfl rfl 31 _ j6 infoSto12 rfl HONE.out ?_)
 exact bodyPost_ret (results_row_tmp Tryz.results68 _ _ (w.heap.size + 1) 31 _ (0,0) _ rfl (Is.row j6 _) Tryz.underlying31 rfl infoSto12) rfl ⟨some ⟨g,0,none⟩,c1,rfl,RowB.inS (by have:=RowV.rowFar hr6 j6 (by decide) (stoA (add12 s k l x) (some ⟨g,0,none⟩) c1);exact this) (by rw [hlen];exact HLEN.out.2),belowRow hB6 (by omega) _⟩
theorem dput_full12 (s:Sto12) (A:Option Addr) (c:Nat) (l x:ByteArray) (w:World) (h:InS w s A c) (hf:s.B.length≤4096) (hr:right12 s=true) (hl:(l.size:Int)=16) (hx:(x.size:Int)=40) (hk:plc12 s.B l=none) (hc:3 * (s.B.length:Int) < 4 * (s.many + s.gone + 1)) (hgw:4096 < grow12 s) :
  Calls Tryz.prog 68 #[stoV s A c,.string l,.string x] w fun e w'=>∃ A1 c1,e=.returned (.tuple #[stoV s A1 c1,.int .i64 20])∧InS w' s A1 c1∧Below w.heap.size w w':=by
 have HB:=Lib.hid (fun W (hB:Below w.heap.size w W)=>dright_any12 s A c W (h.keep hB))
 have HC:=Lib.hid (fun W (hB:Below w.heap.size w W)=>down_any12 s A c W (h.keep hB) hf)
 have HI:=Lib.hid h
 have HLE:=Lib.hid hf
 obtain ⟨W0,hW0⟩:∃ W,W=(w.alloc (.cells (stoA s A c) 31)).alloc (.cells #[.slice none 0 0,.int .i64 0,.int .i64 0] 31):=⟨_,rfl⟩
 have i0:Is W0 w.heap.size 31 (stoA s A c):=by rw [hW0];exact heap_alloc2_old w _ _
 have j0:Is W0 (w.heap.size + 1) 31 #[.slice none 0 0,.int .i64 0,.int .i64 0]:=by rw [hW0];exact heap_alloc2_new w _ _
 have hB0:Below w.heap.size w W0:=by rw [hW0];exact ((Below.refl _ _).alloc (Nat.le_refl _) _).alloc (by simp) _
 have HF:=Lib.hid (fun W (hB:Below w.heap.size w W)=>dfind_any12 s A c l W (h.keep hB) hf)
 rw [hk,show plz12 none=-1 from rfl] at HF
 have hrt:=(right_iff12.1 hr).bnd
 have HLEN:=Lib.hid hrt.len
 rw [hr] at HB
 have hm:=hrt.many
 have hgn:=hrt.gone
 have hl4:=hrt.len
 have w1:=IntWalk.i64_in (s.many + s.gone) (by omega)
 have w2:=IntWalk.i64_in (s.many + s.gone + 1) (by omega)
 have w3:=IntWalk.i64_in (4 * (s.many + s.gone + 1)) (by omega)
 have w4:=IntWalk.i64_in (3 * (s.B.length:Int)) (by omega)
 have h1:(s.B.length:Int)≤2 * s.many:=by
  by_cases h1:(s.B.length:Int)≤2 * s.many
  · exact h1
  ·
   rw [grow_no12 h1] at hgw
   omega
 rw [grow_yes12 h1] at hgw
 have w5:=IntWalk.i64_in (2 * s.many) (by omega)
 have w6:=IntWalk.i64_in (2 * (s.B.length:Int)) (by omega)
 clear hr hk hrt
 clear h
 go_enter Tryz.func68,Tryz.ntmps68
 go_upto_region 1 with (fail)
 rw [← hW0]
 clear hW0
 go_wp2_with (refine wpList_load_row rfl 31 _ rfl w.heap.size rfl _ _ _ _ i0 Tryz.underlying31 rfl infoSto12 ?_)
 refine (HC.out _ hB0).mono ?_
 rintro e W2 ⟨A1,c1,rfl,hr2,hb2⟩
 have hB2:=hB0.trans (hb2.mono hB0.size)
 have i2:=i0.below hb2 i0.lt
 have j2:=j0.below hb2 j0.lt
 have HS2:=Lib.hid (stoA_one12 s A1 c1)
 have HR2:=Lib.hid (RowV.alloc (hr2.mono hB0.size) (.cells (stoA s A1 c1) 31))
 have i3:=i2.alloc (.cells (stoA s A1 c1) 31)
 have j3:=j2.alloc (.cells (stoA s A1 c1) 31)
 have k3:=Is.new W2 31 (stoA s A1 c1)
 have hB3:=hB2.alloc hB2.size (.cells (stoA s A1 c1) 31)
 have hjl:=j2.lt
 have hjl1:=j0.lt
 have hW2:=hB2.size
 clear i2 j2 hB2 hb2 hr2 i0 j0 hB0
 go_wp2_with (refine wpList_load_row rfl 31 _ rfl w.heap.size rfl _ _ _ _ i3 Tryz.underlying31 rfl infoSto12 ?_)
 refine (HB.out _ hB3).mono ?_
 rintro e W4 ⟨rfl,hb4⟩
 have hB4:=hB3.trans (hb4.mono hB3.size)
 have i4:=i3.below hb4 i3.lt
 have j4:=j3.below hb4 j3.lt
 have k4:=k3.below hb4 k3.lt
 have HR4:=Lib.hid (RowV.below HR2.out hb4)
 clear hb4 i3 j3 k3 hB3
 go_wp2_with (refine wpList_load_row rfl 31 _ rfl w.heap.size rfl _ _ _ _ i4 Tryz.underlying31 rfl infoSto12 ?_)
 refine (HF.out _ hB4).mono ?_
 rintro e W5 ⟨fr,rfl,hfr,hb5⟩
 have hB5:=hB4.trans (hb5.mono hB4.size)
 have i5:=i4.below hb5 i4.lt
 have j5:=j4.below hb5 j4.lt
 have k5:=k4.below hb5 k4.lt
 have HR5:=Lib.hid (RowV.below HR4.out hb5)
 clear hb5 i4 j4 k4 hB4 hfr
 have c0:W5.cell? ⟨w.heap.size,0,none⟩=some (.slice A s.B.length c):=i5.cell 0
 have c1':W5.cell? ⟨w.heap.size,1,none⟩=some (.int .i64 s.many):=i5.cell 1
 have c2:W5.cell? ⟨w.heap.size,2,none⟩=some (.int .i64 s.gone):=i5.cell 2
 clear i5
 go_wp2_with (first | (refine wpList_load_row rfl 31 _ rfl W2.heap.size rfl _ _ _ _ k5 Tryz.underlying31 rfl infoSto12 ?_) | (refine wpList_store_row rfl 31 _ _ rfl (w.heap.size + 1) (stoA s A1 c1) rfl rfl 31 _ j5 infoSto12 rfl HS2.out ?_))
 exact bodyPost_ret (results_row_tmp Tryz.results68 _ _ (w.heap.size + 1) 31 _ (0,0) _ rfl (j5.row _) Tryz.underlying31 rfl infoSto12) rfl ⟨A1,c1,rfl,RowB.inS (RowV.rowFar HR5.out j5 (by decide) _) HLE.out,belowRow hB5 (by omega) _⟩
end Go.Proofs.YtmggbbmpckcleaaGreat
namespace Go.Proofs.YtmggbbmpckcleaaGreat
open Go.RowKit Go.Shelf
def an12 (B:List Bkt12) (N q:Nat):Sto12:=⟨fold12 (new12 N) ((us12 B).take (us12 (B.take q)).length),((us12 (B.take q)).length:Nat),0⟩
theorem an_zero12 (B:List Bkt12) (N:Nat):an12 B N 0=⟨new12 N,0,0⟩:=rfl
theorem an_keep12 {B:List Bkt12} {N q:Nat} {x:Bkt12} (hx:B[q]?=some x) (h1:¬ x.st=1):an12 B N (q + 1)=an12 B N q:=by
 rw [an12,an12,us_take12 hx,if_neg h1,List.append_nil]
theorem an_last12 (B:List Bkt12) (N:Nat):an12 B N B.length=⟨fold12 (new12 N) (us12 B),((us12 B).length:Nat),0⟩:=by
 rw [an12,List.take_length,List.take_length]
theorem an_len12 {B:List Bkt12} (h:Ok12 B) {N:Nat} (hn:cnt12 B 1≤N) (q:Nat):(an12 B N q).B.length=N:=by
 rw [an12,(us_part12 h hn _).len,new_len12]
theorem an_step12 {B:List Bkt12} (h:Ok12 B) {N:Nat} (hn:cnt12 B 1≤N) {q:Nat} {x:Bkt12} (hx:B[q]?=some x) (h1:x.st=1) :
  ∃ k,gap12 (an12 B N q).B x.l=some k∧plc12 (an12 B N q).B x.l=none∧add12 (an12 B N q) k x.l x.c=an12 B N (q + 1):=by
 have hb:=us_at12 hx h1
 have hi:(us12 (B.take q)).length < (us12 B).length:=(List.getElem?_eq_some_iff.1 hb).1
 have hq1:(us12 (B.take (q + 1))).length=(us12 (B.take q)).length + 1:=by rw [us_take12 hx,if_pos h1,List.length_append];rfl
 have hq2:an12 B N (q + 1)=⟨fold12 (new12 N) ((us12 B).take ((us12 (B.take q)).length + 1)),((us12 (B.take q)).length + 1:Nat),0⟩:=by rw [an12,hq1]
 obtain ⟨k,hk⟩:=fold_step12 h hn hb
 rw [hq2]
 generalize hI:(us12 (B.take q)).length=i at *
 have hf:=us_part12 h hn i
 have hil:((us12 B).take i).length=i:=by rw [List.length_take];omega
 have hlk:look12 ((us12 B).take i) x.l=none:=by
  refine look_none12 fun y hy=>?_
  obtain ⟨j,hj⟩:=List.mem_iff_getElem?.1 hy
  have hjl:=(List.getElem?_eq_some_iff.1 hj).1
  rw [hil] at hjl
  rw [List.getElem?_take_of_lt hjl] at hj
  have:=List.pairwise_iff_getElem.1 (us_once12 h) j i (by omega) hi hjl
  rw [List.getElem?_eq_getElem (by omega)] at hj hb
  rw [Option.some.inj hj,Option.some.inj hb] at this
  exact this
 have hB:(an12 B N q).B=fold12 (new12 N) ((us12 B).take i):=by rw [an12,hI]
 have hM:(an12 B N q).many=(i:Nat):=by rw [an12,hI]
 have hG:(an12 B N q).gone=0:=rfl
 refine ⟨k,by rw [hB];exact hk.gap,?_,?_⟩
 · rw [hB,← mp_none12,hf.mp,hlk,mp_none12.2 (new_plc12 N _)];rfl
 ·
  rw [add12,hB,hM,hG,if_neg hk.st,hk.next]
  rfl
theorem dput_anew12 (s:Sto12) (A:Option Addr) (c:Nat) (l x:ByteArray) (w:World) (h:InS w s A c) (hf:s.B.length≤4096) (hr:right12 s=true) (hl:(l.size:Int)=16) (hx:(x.size:Int)=40) (hk:plc12 s.B l=none) (hc:3 * (s.B.length:Int) < 4 * (s.many + s.gone + 1)) (hgw:¬ 4096 < grow12 s) (k:Nat) (hg:gap12 (fold12 (new12 (grow12 s).toNat) (us12 s.B)) l=some k) :
  Calls Tryz.prog 68 #[stoV s A c,.string l,.string x] w fun e w'=>∃ A1 c1,e=.returned (.tuple #[stoV (add12 ⟨fold12 (new12 (grow12 s).toNat) (us12 s.B),s.many,0⟩ k l x) A1 c1,.int .i64 0])∧InS w' (add12 ⟨fold12 (new12 (grow12 s).toNat) (us12 s.B),s.many,0⟩ k l x) A1 c1∧Below w.heap.size w w':=by
 have HB:=Lib.hid (fun W (hB:Below w.heap.size w W)=>dright_any12 s A c W (h.keep hB))
 have HC:=Lib.hid (fun W (hB:Below w.heap.size w W)=>down_any12 s A c W (h.keep hB) hf)
 have HI:=Lib.hid h
 have HLE:=Lib.hid hf
 obtain ⟨W0,hW0⟩:∃ W,W=(w.alloc (.cells (stoA s A c) 31)).alloc (.cells #[.slice none 0 0,.int .i64 0,.int .i64 0] 31):=⟨_,rfl⟩
 have i0:Is W0 w.heap.size 31 (stoA s A c):=by rw [hW0];exact heap_alloc2_old w _ _
 have j0:Is W0 (w.heap.size + 1) 31 #[.slice none 0 0,.int .i64 0,.int .i64 0]:=by rw [hW0];exact heap_alloc2_new w _ _
 have hB0:Below w.heap.size w W0:=by rw [hW0];exact ((Below.refl _ _).alloc (Nat.le_refl _) _).alloc (by simp) _
 have HF:=Lib.hid (fun W (hB:Below w.heap.size w W)=>dfind_any12 s A c l W (h.keep hB) hf)
 rw [hk,show plz12 none=-1 from rfl] at HF
 have hrt:=(right_iff12.1 hr).bnd
 have HLEN:=Lib.hid hrt.len
 rw [hr] at HB
 have hm:=hrt.many
 have hgn:=hrt.gone
 have hl4:=hrt.len
 have w1:=IntWalk.i64_in (s.many + s.gone) (by omega)
 have w2:=IntWalk.i64_in (s.many + s.gone + 1) (by omega)
 have w3:=IntWalk.i64_in (4 * (s.many + s.gone + 1)) (by omega)
 have w4:=IntWalk.i64_in (3 * (s.B.length:Int)) (by omega)
 have w5:=IntWalk.i64_in (2 * s.many) (by omega)
 have w6:=IntWalk.i64_in (2 * (s.B.length:Int)) (by omega)
 have hrr:=right_iff12.1 hr
 have hok:=hrr.ok
 have hgr:=grow_room12 hrr hgw
 have hsz:=grow_size12 hrt hgw
 have HN:=Lib.hid (fun W=>dnew_any12 (grow12 s) W)
 rw [grow_ok12 hsz] at HN
 have hgN:grow12 s=((grow12 s).toNat:Int):=by have:=size_bd12 hsz;omega
 have hum:s.many=((us12 s.B).length:Nat):=by rw [us_len12];exact hrr.many.symm
 have hpl:plc12 (fold12 (new12 (grow12 s).toNat) (us12 s.B)) l=none:=by
  obtain ⟨hf2,hmp⟩:=re_ok12 hok (n:=(grow12 s).toNat) (by omega)
  rw [← mp_none12,hmp,mp_none12.2 hk]
 have HST:=Lib.hid (fun q y (hy:s.B[q]?=some y) (h1:y.st=1)=>an_step12 hok (show cnt12 s.B 1≤(grow12 s).toNat by omega) hy h1)
 have HLN:=Lib.hid (fun q=>an_len12 hok (show cnt12 s.B 1≤(grow12 s).toNat by omega) q)
 have HLA:=Lib.hid (an_last12 s.B (grow12 s).toNat)
 have HZE:=Lib.hid (an_zero12 s.B (grow12 s).toNat)
 rw [← hum] at HLA
 have hgy:(s.B.length:Int)≤2 * s.many→2 * (s.B.length:Int)=((grow12 s).toNat:Int):=fun e=>by rw [← hgN];exact (grow_yes12 e).symm
 have hgn2:¬ (s.B.length:Int)≤2 * s.many→(s.B.length:Int)=((grow12 s).toNat:Int):=fun e=>by rw [← hgN];exact (grow_no12 e).symm
 generalize (grow12 s).toNat=N at *
 rw [hgN] at HN
 have hN8:¬ (4096:Int) < (N:Int):=by omega
 clear hr hk hrt hrr hok hsz hgw hum hgN
 clear h
 go_enter Tryz.func68,Tryz.ntmps68
 go_upto_region 1 with (fail)
 rw [← hW0]
 clear hW0
 go_wp2_with (refine wpList_load_row rfl 31 _ rfl w.heap.size rfl _ _ _ _ i0 Tryz.underlying31 rfl infoSto12 ?_)
 refine (HC.out _ hB0).mono ?_
 rintro e W2 ⟨A1,c1,rfl,hr2,hb2⟩
 have hB2:=hB0.trans (hb2.mono hB0.size)
 have i2:=i0.below hb2 i0.lt
 have j2:=j0.below hb2 j0.lt
 have HS2:=Lib.hid (stoA_one12 s A1 c1)
 have HR2:=Lib.hid (RowV.alloc (hr2.mono hB0.size) (.cells (stoA s A1 c1) 31))
 have i3:=i2.alloc (.cells (stoA s A1 c1) 31)
 have j3:=j2.alloc (.cells (stoA s A1 c1) 31)
 have k3:=Is.new W2 31 (stoA s A1 c1)
 have hB3:=hB2.alloc hB2.size (.cells (stoA s A1 c1) 31)
 have hjl:=j2.lt
 have hjl1:=j0.lt
 have hW2:=hB2.size
 clear i2 j2 hB2 hb2 hr2 i0 j0 hB0
 go_wp2_with (refine wpList_load_row rfl 31 _ rfl w.heap.size rfl _ _ _ _ i3 Tryz.underlying31 rfl infoSto12 ?_)
 refine (HB.out _ hB3).mono ?_
 rintro e W4 ⟨rfl,hb4⟩
 have hB4:=hB3.trans (hb4.mono hB3.size)
 have i4:=i3.below hb4 i3.lt
 have j4:=j3.below hb4 j3.lt
 have k4:=k3.below hb4 k3.lt
 have HR4:=Lib.hid (RowV.below HR2.out hb4)
 clear hb4 i3 j3 k3 hB3
 go_wp2_with (refine wpList_load_row rfl 31 _ rfl w.heap.size rfl _ _ _ _ i4 Tryz.underlying31 rfl infoSto12 ?_)
 refine (HF.out _ hB4).mono ?_
 rintro e W5 ⟨fr,rfl,hfr,hb5⟩
 have hB5:=hB4.trans (hb5.mono hB4.size)
 have i5:=i4.below hb5 i4.lt
 have j5:=j4.below hb5 j4.lt
 have k5:=k4.below hb5 k4.lt
 have HR5:=Lib.hid (RowV.below HR4.out hb5)
 clear hb5 i4 j4 k4 hB4 hfr
 have c0:W5.cell? ⟨w.heap.size,0,none⟩=some (.slice A s.B.length c):=i5.cell 0
 have c1':W5.cell? ⟨w.heap.size,1,none⟩=some (.int .i64 s.many):=i5.cell 1
 have c2:W5.cell? ⟨w.heap.size,2,none⟩=some (.int .i64 s.gone):=i5.cell 2
 clear HR2 HR4 HR5
 by_cases h1:(s.B.length:Int)≤2 * s.many
 ·
  have hgy:=hgy h1
  clear hgn2
  go_wp2_with fail
  refine (HN.out _).mono ?_
  rintro e W6 ⟨A6,c6,rfl,hr6,hb6⟩
  obtain ⟨g,cur,rfl,hgb,hgc,hz⟩:=hr6.open (by rw [new_len12];omega)
  have hgl:=hgc.lt
  have hsz5:=k5.lt
  clear hz hgc cur
  have i6:=i5.below hb6 i5.lt
  have j6:=j5.below hb6 j5.lt
  have k6:=k5.below hb6 k5.lt
  have hB6:=hB5.trans (hb6.mono hB5.size)
  have r6:=hr6.rowFar k6 (by decide) (stoA ⟨new12 N,0,0⟩ (some ⟨g,0,none⟩) c6)
  have i7:=i6.rowFar (k:=W2.heap.size) (by omega) (stoA ⟨new12 N,0,0⟩ (some ⟨g,0,none⟩) c6)
  have j7:=j6.rowFar (k:=W2.heap.size) (by omega) (stoA ⟨new12 N,0,0⟩ (some ⟨g,0,none⟩) c6)
  have k7:=k6.row (stoA ⟨new12 N,0,0⟩ (some ⟨g,0,none⟩) c6)
  have hB7:=belowRow hB6 (g:=W2.heap.size) (by omega) (stoA ⟨new12 N,0,0⟩ (some ⟨g,0,none⟩) c6)
  have HONE:=Lib.hid (stoA_one12 ⟨new12 N,0,0⟩ (some ⟨g,0,none⟩) c6)
  have R6:=Lib.hid (RowV.mono r6 (show w.heap.size + 1≤W5.heap.size by omega))
  have I7:=Lib.hid i7
  have J7:=Lib.hid j7
  have K7:=Lib.hid k7
  have B7:=Lib.hid hB7
  clear i5 j5 k5 hB5 hr6 r6 i6 j6 i7 j7 k7 hB6 hB7 hb6 c0 c1' c2 HN
  go_upto_region 15 with (refine wpList_store_row rfl 31 _ _ rfl W2.heap.size (stoA ⟨new12 N,0,0⟩ (some ⟨g,0,none⟩) c6) rfl rfl 31 _ k6 infoSto12 rfl HONE.out ?_)
  have r7:=R6.out
  have i7:=I7.out
  have j7:=J7.out
  have k7:=K7.out
  have hB7:=B7.out
  clear R6 I7 J7 K7 B7 k6 HONE
  generalize W6.setRow W2.heap.size (stoA ⟨new12 N,0,0⟩ (some ⟨g,0,none⟩) c6)=W7 at *
  go_wp2
  go_loopw [12] (fun i wr=>∃ q:Nat,q≤s.B.length∧i=.int .i64 (q:Int)∧RowB wr (w.heap.size + 1) (some ⟨g,0,none⟩) c6 (an12 s.B N q).B∧Is wr w.heap.size 31 (stoA s A c)∧Is wr (w.heap.size + 1) 31 #[.slice none 0 0,.int .i64 0,.int .i64 0]∧Is wr W2.heap.size 31 (stoA (an12 s.B N q) (some ⟨g,0,none⟩) c6)∧Below w.heap.size w wr) (fun i _=>s.B.length - (intOf i).toNat)
  case atStart=>exact ⟨0,by omega,rfl,r7,i7,j7,k7,hB7⟩
  case round =>
   clear r7 i7 j7 k7 hB7
   obtain ⟨q,hq,rfl,r8,i8,j8,k8,hB8⟩:=hrel
   have c0:wr.cell? ⟨w.heap.size,0,none⟩=some (.slice A s.B.length c):=i8.cell 0
   have hmq:((us12 (s.B.take q)).length:Nat)≤4096:=by
    have h1:(us12 (s.B.take q)).length≤(s.B.take q).length:=List.length_filter_le _ _
    rw [List.length_take] at h1
    omega
   by_cases hlt:q < s.B.length
   ·
    have q1:(q:Int) < (s.B.length:Int):=by omega
    have w7:=IntWalk.i64_in ((q:Int) + 1) (by omega)
    obtain ⟨y,hy⟩:∃ y,s.B[q]?=some y:=⟨_,List.getElem?_eq_getElem hlt⟩
    obtain ⟨b,off,rfl,hbl,hry⟩:=HI.out.b.bkt hy
    obtain ⟨ys,yl,yc⟩:=y
    have HY:=Lib.hid hy
    have y0:w.cell? ⟨b,off + q * 3,none⟩=some (.int .i64 ys):=hry 0 _ rfl
    have y1:w.cell? ⟨b,off + q * 3 + 1,none⟩=some (.string yl):=hry 1 _ rfl
    have y2:w.cell? ⟨b,off + q * 3 + 2,none⟩=some (.string yc):=hry 2 _ rfl
    have y0:=cell_belowC12 hB8 y0 hbl
    have y1:=cell_belowC12 hB8 y1 hbl
    have y2:=cell_belowC12 hB8 y2 hbl
    clear hry hy
    by_cases hys:ys=1
    ·
     subst hys
     obtain ⟨k2,s1,s2,s3⟩:=HST.out q _ HY.out rfl
     simp only at s1 s2 s3
     have HP:=Lib.hid (fun (W:World) (r:RowB W (w.heap.size + 1) (some ⟨g,0,none⟩) c6 (an12 s.B N q).B)=>by
      have:=dset_any12 (an12 s.B N q) (some ⟨g,0,none⟩) c6 (w.heap.size + 1) k2 yl yc W r (by rw [HLN.out];omega) (by rw [HLN.out];omega) s2 s1 (by show (-1000000:Int)≤((us12 (s.B.take q)).length:Nat)∧(((us12 (s.B.take q)).length:Nat):Int)≤1000000;omega) (by show (-1000000:Int)≤0∧(0:Int)≤1000000;omega)
      rwa [s3] at this)
     clear s1 s2 s3 y0
     have c1y:=y1
     have y0:wr.cell? ⟨b,off + q * 3,none⟩=some (.int .i64 1):=by
      obtain ⟨b2,o2,e2,_,hr2⟩:=(HI.out.keep hB8).b.bkt HY.out
      cases e2
      exact hr2 0 _ rfl
     clear c1y
     have S8:=hB8.size
     go_upto_region 19 with (fail)
     refine Code.wp_mono ?_ (dput12_19 wr (w.heap.size + 1) w.heap.size (w.heap.size + 1) W2.heap.size g c6 b off s.B.length c q _ _ (an12 s.B N q) (an12 s.B N (q + 1)) yl yc (by have:=k8.lt;omega) (by omega) (by omega) (by omega) (by omega) (by omega) (by omega) i8 k8 r8 j8 hlt (by omega) y1 y2 HP _ _ _ _ _ _ _ _ _ _ _ _ _ _ _ _ _ _ _ _ _ _ _ _ _ _ _ _ _ _ _ _ _ _ _ _ _ _ _ _ _ _ _ _ _ _ _ _ _ _ _ _ _ _ _ _ _ _ _ _ _ _ _ _ _ _ _ _ _ _ _ _ _ _ _ _ _ _ _ _ _ _ _ _ _ _ _ _ _ _ _ _ _ _ _ _ _ _ _ _ _)
     rintro ex ⟨T,D⟩ W8 ⟨rfl,hDf,_,hT,hb,r9,j9,k9⟩
     simp only at hT hDf
     subst hT
     subst hDf
     have i9:=i8.below hb (by omega)
     have hB9:=hB8.trans (hb.mono (by omega))
     clear r8 i8 j8 k8 hB8 hb y0 y1 y2 c0 HP
     go_wp2
     go_roundw
     case rel=>exact ⟨q + 1,by omega,by go_num,r9,i9,j9,k9,hB9⟩
     case measure=>simp [intOf];omega
    ·
     have hke:an12 s.B N (q + 1)=an12 s.B N q:=an_keep12 HY.out hys
     have HKE:=Lib.hid hke
     clear hke y1 y2
     go_wp2
     go_roundw
     case rel=>exact ⟨q + 1,by omega,by go_num,by rw [HKE.out];exact r8,i8,j8,by rw [HKE.out];exact k8,hB8⟩
     case measure=>simp [intOf];omega
   ·
    have hqn:q=s.B.length:=by omega
    subst hqn
    have q1:¬ (s.B.length:Int) < (s.B.length:Int):=by omega
    rw [HLA.out] at r8 k8
    have hlen:(fold12 (new12 N) (us12 s.B)).length=N:=by have:=HLN.out s.B.length;rwa [HLA.out] at this
    have CA:=dset_any12 ⟨fold12 (new12 N) (us12 s.B),s.many,0⟩ (some ⟨g,0,none⟩) c6 (w.heap.size + 1) k l x wr r8 (by show 0 < (fold12 (new12 N) (us12 s.B)).length;omega) (by show (fold12 (new12 N) (us12 s.B)).length≤4096;omega) hpl hg (by show -1000000≤s.many∧s.many≤1000000;omega) (by show (-1000000:Int)≤0∧(0:Int)≤1000000;omega)
    have hln2:(add12 ⟨fold12 (new12 N) (us12 s.B),s.many,0⟩ k l x).B.length=N:=by rw [add12];exact (List.length_set).trans hlen
    generalize hT:(⟨fold12 (new12 N) (us12 s.B),s.many,0⟩:Sto12)=TT at *
    have CA:=Lib.hid CA
    have HL2:=Lib.hid hln2
    have hTl:TT.B.length=N:=by rw [← hT];exact hlen
    have HTT:=Lib.hid hT
    clear hT hlen hln2
    go_wp2_with (refine wpList_load_row rfl 31 _ rfl W2.heap.size rfl _ _ _ _ k8 Tryz.underlying31 rfl infoSto12 ?_)
    refine CA.out.mono ?_
    rintro e W9 ⟨rfl,hr9,hg9⟩
    have hg9:World.grownBy wr W9 (some g):=hg9
    have j9:=Is.row_of12 hg9 j8 (by omega)
    have hB9:=hB8.grown hg9 hB8.size (fun q e=>by cases e;omega)
    have HONE:=Lib.hid (stoA_one12 (add12 TT k l x) (some ⟨g,0,none⟩) c6)
    clear c0 i8 j8 k8 hB8 r8 CA
    go_wp2_with (refine wpList_store_row rfl 31 _ _ rfl (w.heap.size + 1) (stoA (add12 TT k l x) (some ⟨g,0,none⟩) c6) rfl rfl 31 _ j9 infoSto12 rfl HONE.out ?_)
    obtain rfl:=HTT.out
    exact bodyPost_ret (results_row_tmp Tryz.results68 _ _ (w.heap.size + 1) 31 _ (0,0) _ rfl (Is.row j9 _) Tryz.underlying31 rfl infoSto12) rfl ⟨some ⟨g,0,none⟩,c6,rfl,RowB.inS (RowV.rowFar hr9 j9 (by decide) _) (by rw [HL2.out];omega),belowRow hB9 (by omega) _⟩
 ·
  have hgn2:=hgn2 (by omega)
  clear hgy
  go_wp2_with fail
  refine (HN.out _).mono ?_
  rintro e W6 ⟨A6,c6,rfl,hr6,hb6⟩
  obtain ⟨g,cur,rfl,hgb,hgc,hz⟩:=hr6.open (by rw [new_len12];omega)
  have hgl:=hgc.lt
  have hsz5:=k5.lt
  clear hz hgc cur
  have i6:=i5.below hb6 i5.lt
  have j6:=j5.below hb6 j5.lt
  have k6:=k5.below hb6 k5.lt
  have hB6:=hB5.trans (hb6.mono hB5.size)
  have r6:=hr6.rowFar k6 (by decide) (stoA ⟨new12 N,0,0⟩ (some ⟨g,0,none⟩) c6)
  have i7:=i6.rowFar (k:=W2.heap.size) (by omega) (stoA ⟨new12 N,0,0⟩ (some ⟨g,0,none⟩) c6)
  have j7:=j6.rowFar (k:=W2.heap.size) (by omega) (stoA ⟨new12 N,0,0⟩ (some ⟨g,0,none⟩) c6)
  have k7:=k6.row (stoA ⟨new12 N,0,0⟩ (some ⟨g,0,none⟩) c6)
  have hB7:=belowRow hB6 (g:=W2.heap.size) (by omega) (stoA ⟨new12 N,0,0⟩ (some ⟨g,0,none⟩) c6)
  have HONE:=Lib.hid (stoA_one12 ⟨new12 N,0,0⟩ (some ⟨g,0,none⟩) c6)
  have R6:=Lib.hid (RowV.mono r6 (show w.heap.size + 1≤W5.heap.size by omega))
  have I7:=Lib.hid i7
  have J7:=Lib.hid j7
  have K7:=Lib.hid k7
  have B7:=Lib.hid hB7
  clear i5 j5 k5 hB5 hr6 r6 i6 j6 i7 j7 k7 hB6 hB7 hb6 c0 c1' c2 HN
  go_upto_region 15 with (refine wpList_store_row rfl 31 _ _ rfl W2.heap.size (stoA ⟨new12 N,0,0⟩ (some ⟨g,0,none⟩) c6) rfl rfl 31 _ k6 infoSto12 rfl HONE.out ?_)
  have r7:=R6.out
  have i7:=I7.out
  have j7:=J7.out
  have k7:=K7.out
  have hB7:=B7.out
  clear R6 I7 J7 K7 B7 k6 HONE
  generalize W6.setRow W2.heap.size (stoA ⟨new12 N,0,0⟩ (some ⟨g,0,none⟩) c6)=W7 at *
  go_wp2
  go_loopw [12] (fun i wr=>∃ q:Nat,q≤s.B.length∧i=.int .i64 (q:Int)∧RowB wr (w.heap.size + 1) (some ⟨g,0,none⟩) c6 (an12 s.B N q).B∧Is wr w.heap.size 31 (stoA s A c)∧Is wr (w.heap.size + 1) 31 #[.slice none 0 0,.int .i64 0,.int .i64 0]∧Is wr W2.heap.size 31 (stoA (an12 s.B N q) (some ⟨g,0,none⟩) c6)∧Below w.heap.size w wr) (fun i _=>s.B.length - (intOf i).toNat)
  case atStart=>exact ⟨0,by omega,rfl,r7,i7,j7,k7,hB7⟩
  case round =>
   clear r7 i7 j7 k7 hB7
   obtain ⟨q,hq,rfl,r8,i8,j8,k8,hB8⟩:=hrel
   have c0:wr.cell? ⟨w.heap.size,0,none⟩=some (.slice A s.B.length c):=i8.cell 0
   have hmq:((us12 (s.B.take q)).length:Nat)≤4096:=by
    have h1:(us12 (s.B.take q)).length≤(s.B.take q).length:=List.length_filter_le _ _
    rw [List.length_take] at h1
    omega
   by_cases hlt:q < s.B.length
   ·
    have q1:(q:Int) < (s.B.length:Int):=by omega
    have w7:=IntWalk.i64_in ((q:Int) + 1) (by omega)
    obtain ⟨y,hy⟩:∃ y,s.B[q]?=some y:=⟨_,List.getElem?_eq_getElem hlt⟩
    obtain ⟨b,off,rfl,hbl,hry⟩:=HI.out.b.bkt hy
    obtain ⟨ys,yl,yc⟩:=y
    have HY:=Lib.hid hy
    have y0:w.cell? ⟨b,off + q * 3,none⟩=some (.int .i64 ys):=hry 0 _ rfl
    have y1:w.cell? ⟨b,off + q * 3 + 1,none⟩=some (.string yl):=hry 1 _ rfl
    have y2:w.cell? ⟨b,off + q * 3 + 2,none⟩=some (.string yc):=hry 2 _ rfl
    have y0:=cell_belowC12 hB8 y0 hbl
    have y1:=cell_belowC12 hB8 y1 hbl
    have y2:=cell_belowC12 hB8 y2 hbl
    clear hry hy
    by_cases hys:ys=1
    ·
     subst hys
     obtain ⟨k2,s1,s2,s3⟩:=HST.out q _ HY.out rfl
     simp only at s1 s2 s3
     have HP:=Lib.hid (fun (W:World) (r:RowB W (w.heap.size + 1) (some ⟨g,0,none⟩) c6 (an12 s.B N q).B)=>by
      have:=dset_any12 (an12 s.B N q) (some ⟨g,0,none⟩) c6 (w.heap.size + 1) k2 yl yc W r (by rw [HLN.out];omega) (by rw [HLN.out];omega) s2 s1 (by show (-1000000:Int)≤((us12 (s.B.take q)).length:Nat)∧(((us12 (s.B.take q)).length:Nat):Int)≤1000000;omega) (by show (-1000000:Int)≤0∧(0:Int)≤1000000;omega)
      rwa [s3] at this)
     clear s1 s2 s3 y0
     have c1y:=y1
     have y0:wr.cell? ⟨b,off + q * 3,none⟩=some (.int .i64 1):=by
      obtain ⟨b2,o2,e2,_,hr2⟩:=(HI.out.keep hB8).b.bkt HY.out
      cases e2
      exact hr2 0 _ rfl
     clear c1y
     have S8:=hB8.size
     go_upto_region 19 with (fail)
     refine Code.wp_mono ?_ (dput12_19 wr (w.heap.size + 1) w.heap.size (w.heap.size + 1) W2.heap.size g c6 b off s.B.length c q _ _ (an12 s.B N q) (an12 s.B N (q + 1)) yl yc (by have:=k8.lt;omega) (by omega) (by omega) (by omega) (by omega) (by omega) (by omega) i8 k8 r8 j8 hlt (by omega) y1 y2 HP _ _ _ _ _ _ _ _ _ _ _ _ _ _ _ _ _ _ _ _ _ _ _ _ _ _ _ _ _ _ _ _ _ _ _ _ _ _ _ _ _ _ _ _ _ _ _ _ _ _ _ _ _ _ _ _ _ _ _ _ _ _ _ _ _ _ _ _ _ _ _ _ _ _ _ _ _ _ _ _ _ _ _ _ _ _ _ _ _ _ _ _ _ _ _ _ _ _ _ _ _)
     rintro ex ⟨T,D⟩ W8 ⟨rfl,hDf,_,hT,hb,r9,j9,k9⟩
     simp only at hT hDf
     subst hT
     subst hDf
     have i9:=i8.below hb (by omega)
     have hB9:=hB8.trans (hb.mono (by omega))
     clear r8 i8 j8 k8 hB8 hb y0 y1 y2 c0 HP
     go_wp2
     go_roundw
     case rel=>exact ⟨q + 1,by omega,by go_num,r9,i9,j9,k9,hB9⟩
     case measure=>simp [intOf];omega
    ·
     have hke:an12 s.B N (q + 1)=an12 s.B N q:=an_keep12 HY.out hys
     have HKE:=Lib.hid hke
     clear hke y1 y2
     go_wp2
     go_roundw
     case rel=>exact ⟨q + 1,by omega,by go_num,by rw [HKE.out];exact r8,i8,j8,by rw [HKE.out];exact k8,hB8⟩
     case measure=>simp [intOf];omega
   ·
    have hqn:q=s.B.length:=by omega
    subst hqn
    have q1:¬ (s.B.length:Int) < (s.B.length:Int):=by omega
    rw [HLA.out] at r8 k8
    have hlen:(fold12 (new12 N) (us12 s.B)).length=N:=by have:=HLN.out s.B.length;rwa [HLA.out] at this
    have CA:=dset_any12 ⟨fold12 (new12 N) (us12 s.B),s.many,0⟩ (some ⟨g,0,none⟩) c6 (w.heap.size + 1) k l x wr r8 (by show 0 < (fold12 (new12 N) (us12 s.B)).length;omega) (by show (fold12 (new12 N) (us12 s.B)).length≤4096;omega) hpl hg (by show -1000000≤s.many∧s.many≤1000000;omega) (by show (-1000000:Int)≤0∧(0:Int)≤1000000;omega)
    have hln2:(add12 ⟨fold12 (new12 N) (us12 s.B),s.many,0⟩ k l x).B.length=N:=by rw [add12];exact (List.length_set).trans hlen
    generalize hT:(⟨fold12 (new12 N) (us12 s.B),s.many,0⟩:Sto12)=TT at *
    have CA:=Lib.hid CA
    have HL2:=Lib.hid hln2
    have hTl:TT.B.length=N:=by rw [← hT];exact hlen
    have HTT:=Lib.hid hT
    clear hT hlen hln2
    go_wp2_with (refine wpList_load_row rfl 31 _ rfl W2.heap.size rfl _ _ _ _ k8 Tryz.underlying31 rfl infoSto12 ?_)
    refine CA.out.mono ?_
    rintro e W9 ⟨rfl,hr9,hg9⟩
    have hg9:World.grownBy wr W9 (some g):=hg9
    have j9:=Is.row_of12 hg9 j8 (by omega)
    have hB9:=hB8.grown hg9 hB8.size (fun q e=>by cases e;omega)
    have HONE:=Lib.hid (stoA_one12 (add12 TT k l x) (some ⟨g,0,none⟩) c6)
    clear c0 i8 j8 k8 hB8 r8 CA
    go_wp2_with (refine wpList_store_row rfl 31 _ _ rfl (w.heap.size + 1) (stoA (add12 TT k l x) (some ⟨g,0,none⟩) c6) rfl rfl 31 _ j9 infoSto12 rfl HONE.out ?_)
    obtain rfl:=HTT.out
    exact bodyPost_ret (results_row_tmp Tryz.results68 _ _ (w.heap.size + 1) 31 _ (0,0) _ rfl (Is.row j9 _) Tryz.underlying31 rfl infoSto12) rfl ⟨some ⟨g,0,none⟩,c6,rfl,RowB.inS (RowV.rowFar hr9 j9 (by decide) _) (by rw [HL2.out];omega),belowRow hB9 (by omega) _⟩
end Go.Proofs.YtmggbbmpckcleaaGreat
namespace Go.Proofs.YtmggbbmpckcleaaGreat
open Go.RowKit Go.Shelf
theorem dput_any12 (s:Sto12) (A:Option Addr) (c:Nat) (l x:ByteArray) (w:World) (h:InS w s A c) (hf:s.B.length≤4096) :
  Calls Tryz.prog 68 #[stoV s A c,.string l,.string x] w fun e w'=>∃ A1 c1,e=.returned (.tuple #[stoV (putV12 s l x).1 A1 c1,.int .i64 (putV12 s l x).2])∧InS w' (putV12 s l x).1 A1 c1∧Below w.heap.size w w':=by
 cases hr:right12 s with
 | false =>
  rw [putV_no12 (by rw [hr];rfl)]
  exact dput_bad12 s A c l x w h hf hr
 | true =>
  by_cases hl:(l.size:Int)=16
  ·
   by_cases hx:(x.size:Int)=40
   ·
    have hl':l.size=16:=by omega
    have hx':x.size=40:=by omega
    cases hk:plc12 s.B l with
    | some k =>
     rw [putV_hit12 hr hl' hx' hk]
     exact dput_hit12 s A c l x w h hf hr hl hx k hk
    | none =>
     by_cases hc:3 * (s.B.length:Int) < 4 * (s.many + s.gone + 1)
     ·
      by_cases hg:4096 < grow12 s
      ·
       have he:(roomV12 s).2≠0:=by rw [roomV12,if_pos hc,if_pos hg];exact (by decide:(20:Int)≠0)
       rw [(putV_full12 hr hl' hx' hk he).2]
       exact dput_full12 s A c l x w h hf hr hl hx hk hc hg
      ·
       have hrm:roomV12 s=(⟨fold12 (new12 (grow12 s).toNat) (us12 s.B),s.many,0⟩,0):=by rw [roomV12,if_pos hc,if_neg hg]
       obtain ⟨k,hfit⟩:=putV_add12 hr hl' hx' hk (by rw [hrm])
       rw [hrm] at hfit
       rw [hfit.put]
       exact dput_anew12 s A c l x w h hf hr hl hx hk hc hg k hfit.gap
     ·
      have hrm:roomV12 s=(s,0):=by rw [roomV12,if_neg hc]
      obtain ⟨k,hfit⟩:=putV_add12 hr hl' hx' hk (by rw [hrm])
      rw [hrm] at hfit
      rw [hfit.put]
      exact dput_room12 s A c l x w h hf hr hl hx hk hc k hfit.gap
   ·
    rw [putV_no12 (by rw [hr,decide_eq_false (fun e:x.size=40=>hx (by omega)),Bool.and_false];rfl)]
    exact dput_cel12 s A c l x w h hf hr hl hx
  ·
   rw [putV_no12 (by rw [hr,decide_eq_false (fun e:l.size=16=>hl (by omega)),Bool.false_and];rfl)]
   exact dput_lab12 s A c l x w h hf hr hl
end Go.Proofs.YtmggbbmpckcleaaGreat
