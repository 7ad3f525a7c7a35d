import Derived.Test.YtmggbbmpckcleaaGreatGBx1
set_option maxRecDepth 100000
set_option maxHeartbeats 16000000
namespace Go.Proofs.YtmggbbmpckcleaaGreat
open Go.RowKit Go.Shelf
attribute [local go_sem] Oper.semAt_some
theorem isFree_any12 (st:Int) (xl xc:ByteArray) (w:World) :
  Calls Tryz.prog 81 #[.agg #[.int .i64 st,.string xl,.string xc]] w fun e w'=>e=.returned (.bool (decide (st=0)))∧Below w.heap.size w w':=by
 have i1:=Is.new w 70 #[.int .i64 st,.string xl,.string xc]
 have c0:(w.alloc (.cells #[.int .i64 st,.string xl,.string xc] 70)).cell? ⟨w.heap.size,0,none⟩=some (.int .i64 st):=i1.cell 0
 have hB:Below w.heap.size w (w.alloc (.cells #[.int .i64 st,.string xl,.string xc] 70)):=(Below.refl _ _).alloc (Nat.le_refl _) _
 clear i1
 by_cases h:st=0
 ·
  subst h
  go_enter Tryz.func81,Tryz.ntmps81
  go_wp2
  go_ret
  exact ⟨rfl,hB⟩
 ·
  have hd:=Lib.hid (decide_eq_false h)
  have hbe:(st == 0)=false:=by simpa using h
  go_enter Tryz.func81,Tryz.ntmps81
  go_wp2
  go_ret
  exact ⟨by rw [hd.out];rfl,hB⟩
def some12 (b:Bkt12):Bool:=decide (b.st≠0)
theorem fre1st_of12 {B:List Bkt12} {k:Nat} {x:Bkt12} (hx:B[k]?=some x) (h:(B.take k).all some12=true) (h0:x.st=0):fre1st12 B=k:=by
 have hi:k < B.length:=(List.getElem?_eq_some_iff.1 hx).1
 rw [fre1st12,List.findIdx_eq hi]
 rw [List.getElem?_eq_getElem hi] at hx
 refine ⟨by rw [Option.some.inj hx];simpa using h0,fun j hj=>?_⟩
 have:=List.all_eq_true.1 h B[j] (by rw [List.mem_iff_getElem?];exact ⟨j,by rw [List.getElem?_take_of_lt hj,List.getElem?_eq_getElem (by omega)]⟩)
 simpa [some12] using this
theorem index_any12 (s:Sto12) (A:Option Addr) (c:Nat) (w:World) (h:InS w s A c) (hf:s.B.length≤4096) (h0:0 < cnt12 s.B 0) :
  Calls Tryz.prog 83 #[.slice A s.B.length c,.func (.func 81) #[] #[]] w fun e w'=>e=.returned (.int .i64 (fre1st12 s.B:Int))∧Below w.heap.size w w':=by
 have HI:=Lib.hid h
 have HF:=Lib.hid hf
 have H0:=Lib.hid (fre1st_lt12 h0)
 clear h hf h0
 go_enter Tryz.func83,Tryz.ntmps83
 go_wp2
 go_loopw [8] (fun i wr=>∃ k:Nat,k≤s.B.length∧i=.int .i64 (k:Int)∧All12 some12 (s.B.take k)∧Below w.heap.size w wr) (fun i _=>s.B.length - (intOf i).toNat)
 case atStart=>exact ⟨0,by omega,rfl,⟨rfl⟩,Below.refl _ _⟩
 case round =>
  obtain ⟨k,hk,rfl,hal,hB⟩:=hrel
  by_cases hlt:k < s.B.length
  ·
   have hkx:s.B[k]?=some s.B[k]:=List.getElem?_eq_getElem hlt
   generalize s.B[k]=x at hkx
   obtain ⟨b,off,rfl,hb,hr⟩:=(HI.out.keep hB).b.bkt hkx
   have hk1:(k:Int) < (s.B.length:Int):=by omega
   have w1i:=IntWalk.i64_in ((k:Int) + 1) (by have:=HF.out;omega)
   obtain ⟨st,xl,xc⟩:=x
   have HA:=Lib.hid hal
   have HK:=Lib.hid hkx
   clear hal hkx
   by_cases h1:st=0
   ·
    subst h1
    have HE:=Lib.hid (fre1st_of12 HK.out HA.out.out rfl)
    go_wp2_with (first | (refine wpList_load_mid rfl 70 _ rfl b (off + k * 3) rfl _ _ hr Tryz.underlying70 rfl infoBkt12 ?_) | (go_at_call 81;refine (isFree_any12 _ _ _ _).mono ?_;rintro e w1 ⟨rfl,hb1⟩))
    go_ret
    exact ⟨by rw [HE.out];rfl,hB.trans (hb1.mono hB.size)⟩
   ·
    have ho:All12 some12 (s.B.take (k + 1)):=⟨all_take12 HK.out HA.out.out (by simp [some12,h1])⟩
    have hd:=decide_eq_false h1
    go_wp2_with (first | (refine wpList_load_mid rfl 70 _ rfl b (off + k * 3) rfl _ _ hr Tryz.underlying70 rfl infoBkt12 ?_) | (go_at_call 81;refine (isFree_any12 _ _ _ _).mono ?_;rintro e w1 ⟨rfl,hb1⟩))
    go_roundw
    case rel=>exact ⟨k + 1,by omega,by go_num,ho,hB.trans (hb1.mono hB.size)⟩
    case measure=>simp [intOf];omega
  ·
   obtain rfl:k=s.B.length:=by omega
   exfalso
   have h2:=hal.out
   rw [List.take_length] at h2
   obtain ⟨f1,f2⟩:=H0.out
   have:=List.all_eq_true.1 h2 (at12 s.B (fre1st12 s.B)) (by rw [at_get12 f1];exact List.getElem_mem f1)
   simp [some12,f2] at this
theorem onw_reg12 (W0:World) (D1 D4 nb:Nat) (A:Option Addr) (c:Nat) (c1 c2:Value) (h:Int) (iq:Is W0 D1 31 #[.slice A nb c,c1,c2]) (i4:Is W0 D4 118 #[.func (.func 81) #[] #[]]) (HX:Hid (∀ W,Below W0.heap.size W0 W→Calls Tryz.prog 83 #[.slice A nb c,.func (.func 81) #[] #[]] W fun e W'=>e=.returned (.int .i64 h)∧Below W.heap.size W W')) (x0 x2 x3 x5 x6 x7 x8 x9 Xa Xb Xc Xd Xe Xf Xg Xh Xi Xj Xk Xl Xm Xn Xo Xp Xq Xr Xs Xt Xu Xv Xw Xx Xy Xz Ya Yb Yc Yd Ye:Value) :
  (Code.region 4 (opsOf Tryz.f57 4) true).wp Tryz.prog (fun ex YY W=>ex=.normal∧YY.defers=[]∧∃ (DR:Nat),YY.tmps=#[x0,.pointer (some ⟨D1,0,none⟩),x2,x3,.pointer (some ⟨D4,0,none⟩),x5,x6,x7,x8,x9,Xa,.agg #[.slice A nb c,c1,c2],.pointer (some ⟨D1,0,none⟩),.slice A nb c,.func (.func 81) #[] #[],.int .i64 h,.func (.func 105) #[] #[.pointer (some ⟨DR,0,none⟩),.pointer (some ⟨DR + 1,0,none⟩)],Xh,Xi,Xj,Xk,Xl,Xm,Xn,Xo,Xp,Xq,Xr,Xs,Xt,Xu,Xv,Xw,Xx,Xy,Xz,Ya,Yb,Yc,Yd,Ye]∧Below W0.heap.size W0 W∧Is W DR 31 #[.slice A nb c,c1,c2]∧Is W (DR + 1) 3 #[.int .i64 h]∧W0.heap.size≤DR) { tmps:=#[x0,.pointer (some ⟨D1,0,none⟩),x2,x3,.pointer (some ⟨D4,0,none⟩),x5,x6,x7,x8,x9,Xa,Xb,Xc,Xd,Xe,Xf,Xg,Xh,Xi,Xj,Xk,Xl,Xm,Xn,Xo,Xp,Xq,Xr,Xs,Xt,Xu,Xv,Xw,Xx,Xy,Xz,Ya,Yb,Yc,Yd,Ye],defers:=[] } W0:=by
 have hB:Below W0.heap.size W0 (W0.drewN 1):=belowN (Below.refl _ _) 1
 generalize hQ:(fun (ex:Exit) (YY:Act) (W:World)=>ex=.normal∧YY.defers=[]∧∃ (DR:Nat),YY.tmps=#[x0,.pointer (some ⟨D1,0,none⟩),x2,x3,.pointer (some ⟨D4,0,none⟩),x5,x6,x7,x8,x9,Xa,.agg #[.slice A nb c,c1,c2],.pointer (some ⟨D1,0,none⟩),.slice A nb c,.func (.func 81) #[] #[],.int .i64 h,.func (.func 105) #[] #[.pointer (some ⟨DR,0,none⟩),.pointer (some ⟨DR + 1,0,none⟩)],Xh,Xi,Xj,Xk,Xl,Xm,Xn,Xo,Xp,Xq,Xr,Xs,Xt,Xu,Xv,Xw,Xx,Xy,Xz,Ya,Yb,Yc,Yd,Ye]∧Below W0.heap.size W0 W∧Is W DR 31 #[.slice A nb c,c1,c2]∧Is W (DR + 1) 3 #[.int .i64 h]∧W0.heap.size≤DR)=Q
 have HQN:∀ c a W,¬ Q (.panic c) a W:=fun c a W h=>by subst hQ;exact nomatch h.1
 have ST4_5:∀ (W:World) (DR:Nat),Below W0.heap.size W0 W→Is W DR 31 #[.slice A nb c,c1,c2]→Is W (DR + 1) 3 #[.int .i64 h]→W0.heap.size≤DR→wpAnyH Tryz.prog .any (opsOf Tryz.f57 4) Q (fun W=>Below W0.heap.size W0 W) 0 #[true,true,true,true,true,true] { tmps:=#[x0,.pointer (some ⟨D1,0,none⟩),x2,x3,.pointer (some ⟨D4,0,none⟩),x5,x6,x7,x8,x9,Xa,.agg #[.slice A nb c,c1,c2],.pointer (some ⟨D1,0,none⟩),.slice A nb c,.func (.func 81) #[] #[],.int .i64 h,.func (.func 105) #[] #[.pointer (some ⟨DR,0,none⟩),.pointer (some ⟨DR + 1,0,none⟩)],Xh,Xi,Xj,Xk,Xl,Xm,Xn,Xo,Xp,Xq,Xr,Xs,Xt,Xu,Xv,Xw,Xx,Xy,Xz,Ya,Yb,Yc,Yd,Ye],defers:=[] } W:=by
  intro W DR hB iR iF hD
  refine wpAnyH_done (by kernel_rfl) ?_ _
  subst hQ
  exact ⟨rfl,rfl,DR,rfl,hB,iR,iF,hD⟩
 have ST4:∀ (W:World),Below W0.heap.size W0 W→wpAnyH Tryz.prog .any (opsOf Tryz.f57 4) Q (fun W=>Below W0.heap.size W0 W) 1 #[true,true,true,true,true,false] { tmps:=#[x0,.pointer (some ⟨D1,0,none⟩),x2,x3,.pointer (some ⟨D4,0,none⟩),x5,x6,x7,x8,x9,Xa,.agg #[.slice A nb c,c1,c2],.pointer (some ⟨D1,0,none⟩),.slice A nb c,.func (.func 81) #[] #[],.int .i64 h,Xg,Xh,Xi,Xj,Xk,Xl,Xm,Xn,Xo,Xp,Xq,Xr,Xs,Xt,Xu,Xv,Xw,Xx,Xy,Xz,Ya,Yb,Yc,Yd,Ye],defers:=[] } W:=by
  intro W hB
  refine wpAnyH_ready (by kernel_rfl) (by simp) (AllReadyH.cons (i:=5) (at_nth rfl) ?_ (AllReadyH.nil))
  ·
   refine arm10_call (by kernel_rfl) (fun wy=>by kernel_rfl) ((round_any12 (.slice A nb c) c1 c2 h W).mono ?_)
   rintro e Wn ⟨rfl,rfl⟩
   have iR:Is ((W.alloc (.cells #[.slice A nb c,c1,c2] 31)).alloc (.cells #[.int .i64 h] 3)) W.heap.size 31 #[.slice A nb c,c1,c2]:=heap_alloc2_old W _ _
   have iF:Is ((W.alloc (.cells #[.slice A nb c,c1,c2] 31)).alloc (.cells #[.int .i64 h] 3)) (W.heap.size + 1) 3 #[.int .i64 h]:=heap_alloc2_new W _ _
   have hD:=hB.size
   replace hB:=(hB.alloc hB.size (.cells #[.slice A nb c,c1,c2] 31)).alloc (by simp;omega) (.cells #[.int .i64 h] 3)
   refine ⟨_,rfl,hB,?_⟩
   simp only [Act.put,zz0,zz1,zz2]
   exact ST4_5 _ _ hB iR iF hD
 have ST:∀ (W:World),Below W0.heap.size W0 W→wpAnyH Tryz.prog .any (opsOf Tryz.f57 4) Q (fun W=>Below W0.heap.size W0 W) 2 #[true,true,true,true,false,false] { tmps:=#[x0,.pointer (some ⟨D1,0,none⟩),x2,x3,.pointer (some ⟨D4,0,none⟩),x5,x6,x7,x8,x9,Xa,.agg #[.slice A nb c,c1,c2],.pointer (some ⟨D1,0,none⟩),.slice A nb c,.func (.func 81) #[] #[],Xf,Xg,Xh,Xi,Xj,Xk,Xl,Xm,Xn,Xo,Xp,Xq,Xr,Xs,Xt,Xu,Xv,Xw,Xx,Xy,Xz,Ya,Yb,Yc,Yd,Ye],defers:=[] } W:=by
  intro W hB
  refine wpAnyH_ready (by kernel_rfl) (by simp) (AllReadyH.cons (i:=4) (at_nth rfl) ?_ (AllReadyH.nil))
  ·
   refine arm10_call (by kernel_rfl) (fun wy=>by kernel_rfl) ((HX.out _ hB).mono ?_)
   rintro e Wn ⟨rfl,hb⟩
   replace hB:=hB.trans (hb.mono hB.size)
   clear hb
   refine ⟨_,rfl,hB,?_⟩
   simp only [Act.put,zz0,zz1,zz2]
   exact ST4 _ hB
 refine wp_region_held_drew (S:=fun W=>Below W0.heap.size W0 W) (by kernel_rfl) hB (fun hS=>?_)
 change wpAnyH _ _ (opsOf Tryz.f57 4) _ _ 6 (Array.replicate 6 false) _ (W0.drewN 1)
 clear hS
 replace hB:Below W0.heap.size W0 (W0.drewN 1):=belowN (Below.refl _ _) 1
 refine wpP (i:=0) (v:=.agg #[.slice A nb c,c1,c2]) HQN rfl (fun w hSw=>by exact run_load_rowO (x:=.tmp 1) (by kernel_rfl) (by kernel_rfl) (iq.below hSw iq.lt) Tryz.underlying31 rfl infoSto12) hB ?_
 simp only [Act.put,zz0,zz1,zz2]
 refine wpP (i:=1) (v:=.pointer (some ⟨D1,0,none⟩)) HQN rfl (fun w hSw=>by go_simp) hB ?_
 simp only [Act.put,zz0,zz1,zz2]
 refine wpP (i:=2) (v:=.slice A nb c) HQN rfl (fun w hSw=>by (have hc:=(iq.below hSw iq.lt).cell 0;go_simp)) hB ?_
 simp only [Act.put,zz0,zz1,zz2]
 refine wpP (i:=3) (v:=.func (.func 81) #[] #[]) HQN rfl (fun w hSw=>by (have hc:=(i4.below hSw i4.lt).cell 0;go_simp)) hB ?_
 simp only [Act.put,zz0,zz1,zz2]
 exact ST _ hB
theorem onw_on12 (lR nR:Nat) (W0:World) (DX D3 D5:Nat) (st p h n d r:Int) (g:Bool) (xl xc:ByteArray) (ix:Is W0 DX 70 #[.int .i64 st,.string xl,.string xc]) (i3:Is W0 D3 3 #[.int .i64 n]) (i5:Is W0 D5 3 #[.int .i64 r]) (HE:Hid (∀ W,(binOp .eql 3 (.int .i64 st) (.int .i64 1)).run Tryz.prog W=.ok (.bool true) W)) (HS:Hid (∀ W,(binOp .sub 3 (.int .i64 p) (.int .i64 h)).run Tryz.prog W=.ok (.int .i64 (p - h)) W)) (HA:Hid (∀ W,(binOp .add 3 (.int .i64 (p - h)) (.int .i64 n)).run Tryz.prog W=.ok (.int .i64 (p - h + n)) W)) (HR:Hid (∀ W,(binOp .rem 3 (.int .i64 (p - h + n)) (.int .i64 n)).run Tryz.prog W=.ok (.int .i64 d) W)) (HG:Hid (∀ W,(binOp .geq 3 (.int .i64 d) (.int .i64 r)).run Tryz.prog W=.ok (.bool g) W)) (HH:Hid (∀ W,Calls Tryz.prog 84 #[.string xl,.int .i64 n] W fun e W'=>e=.returned (.int .i64 h)∧W=W')) (x0 x1 x2 x4 x8 x9 Xa Xb Xc Xd Xe Xf Xg Xh Xi Xj Xk Xl Xm Xn Xo Xp Xq Xr Xs Xt Xu Xv Xw Xx Xy Xz Ya Yb Yc Yd Ye:Value) :
  (Code.region 10 (opsOf Tryz.f57 10) true).wpIn (Fence.wide.inRound lR) nR Tryz.prog (fun ex YY W=>ex=.normal∧YY.defers=[]∧∃ (_:Unit),YY.tmps=#[x0,x1,x2,.pointer (some ⟨D3,0,none⟩),x4,.pointer (some ⟨D5,0,none⟩),.int .i64 p,.pointer (some ⟨DX,0,none⟩),x8,x9,Xa,Xb,Xc,Xd,Xe,Xf,Xg,Xh,Xi,Xj,Xk,Xl,Xm,Xn,.pointer (some ⟨DX,0,none⟩),.int .i64 st,.bool true,.bool true,.int .i64 p,.pointer (some ⟨DX,1,none⟩),.string xl,.int .i64 n,.int .i64 h,.int .i64 (p - h),.int .i64 n,.int .i64 (p - h + n),.int .i64 n,.int .i64 d,.int .i64 r,.bool g,.bool g]∧Below W0.heap.size W0 W) { tmps:=#[x0,x1,x2,.pointer (some ⟨D3,0,none⟩),x4,.pointer (some ⟨D5,0,none⟩),.int .i64 p,.pointer (some ⟨DX,0,none⟩),x8,x9,Xa,Xb,Xc,Xd,Xe,Xf,Xg,Xh,Xi,Xj,Xk,Xl,Xm,Xn,Xo,Xp,Xq,Xr,Xs,Xt,Xu,Xv,Xw,Xx,Xy,Xz,Ya,Yb,Yc,Yd,Ye],defers:=[] } W0:=by
 have hB:Below W0.heap.size W0 (W0.drewN 1):=belowN (Below.refl _ _) 1
 generalize hQ:(fun (ex:Exit) (YY:Act) (W:World)=>ex=.normal∧YY.defers=[]∧∃ (_:Unit),YY.tmps=#[x0,x1,x2,.pointer (some ⟨D3,0,none⟩),x4,.pointer (some ⟨D5,0,none⟩),.int .i64 p,.pointer (some ⟨DX,0,none⟩),x8,x9,Xa,Xb,Xc,Xd,Xe,Xf,Xg,Xh,Xi,Xj,Xk,Xl,Xm,Xn,.pointer (some ⟨DX,0,none⟩),.int .i64 st,.bool true,.bool true,.int .i64 p,.pointer (some ⟨DX,1,none⟩),.string xl,.int .i64 n,.int .i64 h,.int .i64 (p - h),.int .i64 n,.int .i64 (p - h + n),.int .i64 n,.int .i64 d,.int .i64 r,.bool g,.bool g]∧Below W0.heap.size W0 W)=Q
 have HQN:∀ c a W,¬ Q (.panic c) a W:=fun c a W h=>by subst hQ;exact nomatch h.1
 have ST8:∀ (W:World),Below W0.heap.size W0 W→wpAnyH Tryz.prog .any (opsOf Tryz.f57 10) Q (fun W=>Below W0.heap.size W0 W) 0 #[true,true,true,true,true,true,true,true,true,true,true,true,true,true,true,true,true] { tmps:=#[x0,x1,x2,.pointer (some ⟨D3,0,none⟩),x4,.pointer (some ⟨D5,0,none⟩),.int .i64 p,.pointer (some ⟨DX,0,none⟩),x8,x9,Xa,Xb,Xc,Xd,Xe,Xf,Xg,Xh,Xi,Xj,Xk,Xl,Xm,Xn,.pointer (some ⟨DX,0,none⟩),.int .i64 st,.bool true,.bool true,.int .i64 p,.pointer (some ⟨DX,1,none⟩),.string xl,.int .i64 n,.int .i64 h,.int .i64 (p - h),.int .i64 n,.int .i64 (p - h + n),.int .i64 n,.int .i64 d,.int .i64 r,.bool g,.bool g],defers:=[] } W:=by
  intro W hB
  refine wpAnyH_done (by kernel_rfl) ?_ _
  subst hQ
  exact ⟨rfl,rfl,(),rfl,hB⟩
 have ST:∀ (W:World),Below W0.heap.size W0 W→wpAnyH Tryz.prog .any (opsOf Tryz.f57 10) Q (fun W=>Below W0.heap.size W0 W) 6 #[true,true,true,true,true,true,true,true,false,false,true,false,true,false,true,false,false] { tmps:=#[x0,x1,x2,.pointer (some ⟨D3,0,none⟩),x4,.pointer (some ⟨D5,0,none⟩),.int .i64 p,.pointer (some ⟨DX,0,none⟩),x8,x9,Xa,Xb,Xc,Xd,Xe,Xf,Xg,Xh,Xi,Xj,Xk,Xl,Xm,Xn,.pointer (some ⟨DX,0,none⟩),.int .i64 st,.bool true,.bool true,.int .i64 p,.pointer (some ⟨DX,1,none⟩),.string xl,.int .i64 n,Xw,Xx,.int .i64 n,Xz,.int .i64 n,Yb,.int .i64 r,Yd,Ye],defers:=[] } W:=by
  intro W hB
  refine wpAnyH_ready (by kernel_rfl) (by simp) (AllReadyH.cons (i:=8) (at_nth rfl) ?_ (AllReadyH.nil))
  ·
   refine arm10_call (by kernel_rfl) (fun wy=>by kernel_rfl) ((HH.out _).mono ?_)
   rintro e Wn ⟨rfl,rfl⟩
   refine ⟨_,rfl,hB,?_⟩
   simp only [Act.put,zz0,zz1,zz2]
   refine wpP (i:=9) (v:=.int .i64 (p - h)) HQN rfl (fun w hSw=>by exact exec_bin10 rfl rfl rfl (HS.out _) (by go_simp)) hB ?_
   simp only [Act.put,zz0,zz1,zz2]
   refine wpP (i:=11) (v:=.int .i64 (p - h + n)) HQN rfl (fun w hSw=>by exact exec_bin10 rfl rfl rfl (HA.out _) (by go_simp)) hB ?_
   simp only [Act.put,zz0,zz1,zz2]
   refine wpP (i:=13) (v:=.int .i64 d) HQN rfl (fun w hSw=>by exact exec_bin10 rfl rfl rfl (HR.out _) (by go_simp)) hB ?_
   simp only [Act.put,zz0,zz1,zz2]
   refine wpP (i:=15) (v:=.bool g) HQN rfl (fun w hSw=>by exact exec_bin10 rfl rfl rfl (HG.out _) (by go_simp)) hB ?_
   simp only [Act.put,zz0,zz1,zz2]
   refine wpP (i:=16) (v:=.bool g) HQN rfl (fun w hSw=>by kernel_rfl) hB ?_
   simp only [Act.put,zz0,zz1,zz2]
   exact ST8 _ hB
 refine regIn_of12 (S:=fun W=>Below W0.heap.size W0 W) (by kernel_rfl) (by kernel_rfl) (fun h=>by obtain ⟨_,_,h⟩:=h;subst hQ;exact nomatch h.1) ?_
 change wpAnyH _ _ (opsOf Tryz.f57 10) _ _ 17 (Array.replicate 17 false) _ (W0.drewN 1)
 replace hB:Below W0.heap.size W0 (W0.drewN 1):=belowN (Below.refl _ _) 1
 refine wpP (i:=0) (v:=.pointer (some ⟨DX,0,none⟩)) HQN rfl (fun w hSw=>by go_simp) hB ?_
 simp only [Act.put,zz0,zz1,zz2]
 refine wpP (i:=1) (v:=.int .i64 st) HQN rfl (fun w hSw=>by (have hc:=(ix.below hSw ix.lt).cell 0;go_simp)) hB ?_
 simp only [Act.put,zz0,zz1,zz2]
 refine wpP (i:=2) (v:=.bool true) HQN rfl (fun w hSw=>by exact exec_bin10 rfl rfl rfl (HE.out _) (by go_simp)) hB ?_
 simp only [Act.put,zz0,zz1,zz2]
 refine wpP (i:=3) (v:=.bool true) HQN rfl (fun w hSw=>by kernel_rfl) hB ?_
 simp only [Act.put,zz0,zz1,zz2]
 refine wpP (i:=4) (v:=.int .i64 p) HQN rfl (fun w hSw=>by kernel_rfl) hB ?_
 simp only [Act.put,zz0,zz1,zz2]
 refine wpP (i:=5) (v:=.pointer (some ⟨DX,1,none⟩)) HQN rfl (fun w hSw=>by go_simp) hB ?_
 simp only [Act.put,zz0,zz1,zz2]
 refine wpP (i:=6) (v:=.string xl) HQN rfl (fun w hSw=>by (have hc:=(ix.below hSw ix.lt).cell 1;go_simp)) hB ?_
 simp only [Act.put,zz0,zz1,zz2]
 refine wpP (i:=7) (v:=.int .i64 n) HQN rfl (fun w hSw=>by (have hc:=(i3.below hSw i3.lt).cell 0;go_simp)) hB ?_
 simp only [Act.put,zz0,zz1,zz2]
 refine wpP (i:=10) (v:=.int .i64 n) HQN rfl (fun w hSw=>by (have hc:=(i3.below hSw i3.lt).cell 0;go_simp)) hB ?_
 simp only [Act.put,zz0,zz1,zz2]
 refine wpP (i:=12) (v:=.int .i64 n) HQN rfl (fun w hSw=>by (have hc:=(i3.below hSw i3.lt).cell 0;go_simp)) hB ?_
 simp only [Act.put,zz0,zz1,zz2]
 refine wpP (i:=14) (v:=.int .i64 r) HQN rfl (fun w hSw=>by (have hc:=(i5.below hSw i5.lt).cell 0;go_simp)) hB ?_
 simp only [Act.put,zz0,zz1,zz2]
 exact ST _ hB
theorem onw_off12 (lR nR:Nat) (W0:World) (DX:Nat) (st:Int) (xl xc:ByteArray) (ix:Is W0 DX 70 #[.int .i64 st,.string xl,.string xc]) (HE:Hid (∀ W,(binOp .eql 3 (.int .i64 st) (.int .i64 1)).run Tryz.prog W=.ok (.bool false) W)) (x0 x1 x2 x3 x4 x5 x6 x8 x9 Xa Xb Xc Xd Xe Xf Xg Xh Xi Xj Xk Xl Xm Xn Xo Xp Xq Xr Xs Xt Xu Xv Xw Xx Xy Xz Ya Yb Yc Yd Ye:Value) :
  (Code.region 10 (opsOf Tryz.f57 10) true).wpIn (Fence.wide.inRound lR) nR Tryz.prog (fun ex YY W=>ex=.normal∧YY.defers=[]∧∃ (_:Unit),YY.tmps=#[x0,x1,x2,x3,x4,x5,x6,.pointer (some ⟨DX,0,none⟩),x8,x9,Xa,Xb,Xc,Xd,Xe,Xf,Xg,Xh,Xi,Xj,Xk,Xl,Xm,Xn,.pointer (some ⟨DX,0,none⟩),.int .i64 st,.bool false,.bool false,undef,undef,undef,undef,undef,undef,undef,undef,undef,undef,undef,undef,.bool false]∧Below W0.heap.size W0 W) { tmps:=#[x0,x1,x2,x3,x4,x5,x6,.pointer (some ⟨DX,0,none⟩),x8,x9,Xa,Xb,Xc,Xd,Xe,Xf,Xg,Xh,Xi,Xj,Xk,Xl,Xm,Xn,Xo,Xp,Xq,Xr,Xs,Xt,Xu,Xv,Xw,Xx,Xy,Xz,Ya,Yb,Yc,Yd,Ye],defers:=[] } W0:=by
 have hB:Below W0.heap.size W0 (W0.drewN 1):=belowN (Below.refl _ _) 1
 generalize hQ:(fun (ex:Exit) (YY:Act) (W:World)=>ex=.normal∧YY.defers=[]∧∃ (_:Unit),YY.tmps=#[x0,x1,x2,x3,x4,x5,x6,.pointer (some ⟨DX,0,none⟩),x8,x9,Xa,Xb,Xc,Xd,Xe,Xf,Xg,Xh,Xi,Xj,Xk,Xl,Xm,Xn,.pointer (some ⟨DX,0,none⟩),.int .i64 st,.bool false,.bool false,undef,undef,undef,undef,undef,undef,undef,undef,undef,undef,undef,undef,.bool false]∧Below W0.heap.size W0 W)=Q
 have HQN:∀ c a W,¬ Q (.panic c) a W:=fun c a W h=>by subst hQ;exact nomatch h.1
 have ST:∀ (W:World),Below W0.heap.size W0 W→wpAnyH Tryz.prog .any (opsOf Tryz.f57 10) Q (fun W=>Below W0.heap.size W0 W) 0 #[true,true,true,true,true,true,true,true,true,true,true,true,true,true,true,true,true] { tmps:=#[x0,x1,x2,x3,x4,x5,x6,.pointer (some ⟨DX,0,none⟩),x8,x9,Xa,Xb,Xc,Xd,Xe,Xf,Xg,Xh,Xi,Xj,Xk,Xl,Xm,Xn,.pointer (some ⟨DX,0,none⟩),.int .i64 st,.bool false,.bool false,undef,undef,undef,undef,undef,undef,undef,undef,undef,undef,undef,undef,.bool false],defers:=[] } W:=by
  intro W hB
  refine wpAnyH_done (by kernel_rfl) ?_ _
  subst hQ
  exact ⟨rfl,rfl,(),rfl,hB⟩
 refine regIn_of12 (S:=fun W=>Below W0.heap.size W0 W) (by kernel_rfl) (by kernel_rfl) (fun h=>by obtain ⟨_,_,h⟩:=h;subst hQ;exact nomatch h.1) ?_
 change wpAnyH _ _ (opsOf Tryz.f57 10) _ _ 17 (Array.replicate 17 false) _ (W0.drewN 1)
 replace hB:Below W0.heap.size W0 (W0.drewN 1):=belowN (Below.refl _ _) 1
 refine wpP (i:=0) (v:=.pointer (some ⟨DX,0,none⟩)) HQN rfl (fun w hSw=>by go_simp) hB ?_
 simp only [Act.put,zz0,zz1,zz2]
 refine wpP (i:=1) (v:=.int .i64 st) HQN rfl (fun w hSw=>by (have hc:=(ix.below hSw ix.lt).cell 0;go_simp)) hB ?_
 simp only [Act.put,zz0,zz1,zz2]
 refine wpP (i:=2) (v:=.bool false) HQN rfl (fun w hSw=>by exact exec_bin10 rfl rfl rfl (HE.out _) (by go_simp)) hB ?_
 simp only [Act.put,zz0,zz1,zz2]
 refine wpP (i:=3) (v:=.bool false) HQN rfl (fun w hSw=>by kernel_rfl) hB ?_
 simp only [Act.put,zz0,zz1,zz2]
 refine wpAnyH_take (i:=4) (v:=undef) (at_nth rfl) (by kernel_rfl) (by kernel_rfl) (by kernel_rfl) (fun _ _ _ h=>absurd h (HQN _ _ _)) (Or.inr ⟨by kernel_rfl,rfl⟩) hB ?_
 simp only [Act.put,zz0,zz1,zz2]
 refine wpAnyH_take (i:=5) (v:=undef) (at_nth rfl) (by kernel_rfl) (by kernel_rfl) (by kernel_rfl) (fun _ _ _ h=>absurd h (HQN _ _ _)) (Or.inr ⟨by kernel_rfl,rfl⟩) hB ?_
 simp only [Act.put,zz0,zz1,zz2]
 refine wpAnyH_take (i:=6) (v:=undef) (at_nth rfl) (by kernel_rfl) (by kernel_rfl) (by kernel_rfl) (fun _ _ _ h=>absurd h (HQN _ _ _)) (Or.inr ⟨by kernel_rfl,rfl⟩) hB ?_
 simp only [Act.put,zz0,zz1,zz2]
 refine wpAnyH_take (i:=7) (v:=undef) (at_nth rfl) (by kernel_rfl) (by kernel_rfl) (by kernel_rfl) (fun _ _ _ h=>absurd h (HQN _ _ _)) (Or.inr ⟨by kernel_rfl,rfl⟩) hB ?_
 simp only [Act.put,zz0,zz1,zz2]
 refine wpAnyH_take (i:=8) (v:=undef) (at_nth rfl) (by kernel_rfl) (by kernel_rfl) (by kernel_rfl) (fun _ _ _ h=>absurd h (HQN _ _ _)) (Or.inr ⟨by kernel_rfl,rfl⟩) hB ?_
 simp only [Act.put,zz0,zz1,zz2]
 refine wpAnyH_take (i:=9) (v:=undef) (at_nth rfl) (by kernel_rfl) (by kernel_rfl) (by kernel_rfl) (fun _ _ _ h=>absurd h (HQN _ _ _)) (Or.inr ⟨by kernel_rfl,rfl⟩) hB ?_
 simp only [Act.put,zz0,zz1,zz2]
 refine wpAnyH_take (i:=10) (v:=undef) (at_nth rfl) (by kernel_rfl) (by kernel_rfl) (by kernel_rfl) (fun _ _ _ h=>absurd h (HQN _ _ _)) (Or.inr ⟨by kernel_rfl,rfl⟩) hB ?_
 simp only [Act.put,zz0,zz1,zz2]
 refine wpAnyH_take (i:=11) (v:=undef) (at_nth rfl) (by kernel_rfl) (by kernel_rfl) (by kernel_rfl) (fun _ _ _ h=>absurd h (HQN _ _ _)) (Or.inr ⟨by kernel_rfl,rfl⟩) hB ?_
 simp only [Act.put,zz0,zz1,zz2]
 refine wpAnyH_take (i:=12) (v:=undef) (at_nth rfl) (by kernel_rfl) (by kernel_rfl) (by kernel_rfl) (fun _ _ _ h=>absurd h (HQN _ _ _)) (Or.inr ⟨by kernel_rfl,rfl⟩) hB ?_
 simp only [Act.put,zz0,zz1,zz2]
 refine wpAnyH_take (i:=13) (v:=undef) (at_nth rfl) (by kernel_rfl) (by kernel_rfl) (by kernel_rfl) (fun _ _ _ h=>absurd h (HQN _ _ _)) (Or.inr ⟨by kernel_rfl,rfl⟩) hB ?_
 simp only [Act.put,zz0,zz1,zz2]
 refine wpAnyH_take (i:=14) (v:=undef) (at_nth rfl) (by kernel_rfl) (by kernel_rfl) (by kernel_rfl) (fun _ _ _ h=>absurd h (HQN _ _ _)) (Or.inr ⟨by kernel_rfl,rfl⟩) hB ?_
 simp only [Act.put,zz0,zz1,zz2]
 refine wpAnyH_take (i:=15) (v:=undef) (at_nth rfl) (by kernel_rfl) (by kernel_rfl) (by kernel_rfl) (fun _ _ _ h=>absurd h (HQN _ _ _)) (Or.inr ⟨by kernel_rfl,rfl⟩) hB ?_
 simp only [Act.put,zz0,zz1,zz2]
 refine wpP (i:=16) (v:=.bool false) HQN rfl (fun w hSw=>by kernel_rfl) hB ?_
 simp only [Act.put,zz0,zz1,zz2]
 exact ST _ hB
end Go.Proofs.YtmggbbmpckcleaaGreat
namespace Go.Proofs.YtmggbbmpckcleaaGreat
open Go.RowKit Go.Shelf
attribute [local go_sem] Oper.semAt_some
theorem remI12 {a b:Int} {d:Nat} (h:Int.tmod a b=(d:Int)) (hd:d < 1000000) (hb:b≠0) (W:World):(binOp .rem 3 (.int .i64 a) (.int .i64 b)).run Tryz.prog W=.ok (.int .i64 (d:Int)) W:=by
 have w1:=IntWalk.i64_in (d:Int) (by omega)
 go_simp
theorem geI12 (a b:Int) (W:World):(binOp .geq 3 (.int .i64 a) (.int .i64 b)).run Tryz.prog W=.ok (.bool (decide (b≤a))) W:=by
 go_simp
section
variable {F:Fence} {n:Nat} {P:Program} {ops:Array Oper} {rest:List Oper} {o:Oper} {a:Act} {w:World} {Q:Exit→Act→World→Prop}
theorem wpListIn_store_one12 (hgd:o.guard=none) (ty:TypeId) (x y:Operand) (ho:o.op=.store ty x y) (g:Nat) (v:Value) (hx:a.eval x=.pointer (some ⟨g,0,none⟩)) (hy:a.eval y=v)
  {t:TypeId} {old:Value} (hg:Is w g t #[old]) (hi:(P.info? ty).map (·.size)=some 1) (h1:v.oneCell'=true)
  (h:wpListIn F n P ops Q rest (a.put o.dst undef) (w.setRow g #[v])):wpListIn F n P ops Q (o :: rest) a w:=by
 refine wpListIn_plain hgd fun K hK'=>⟨by simp [Oper.about,ho],?_⟩
 rw [Oper.semAt_plain F _ _ (by rw [ho];intro c hc';cases hc')]
 simp only [execOp,ho,hx,hy,Instr.storeAt,Instr.sureAddr,Sem.run_bind,Sem.run_pure,Result.andThen_ok,run_storeVar_one w g t ty old v hg hi h1]
 exact hK' _ _ h
end
theorem eqI10_no12 {a b:Int} (h:a≠b) (W:World):(binOp .eql 3 (.int .i64 a) (.int .i64 b)).run Tryz.prog W=.ok (.bool false) W:=by rw [eqI10,show (a == b)=false by simpa using h]
structure On12 (B:List Bkt12) (f i:Nat):Prop where
 out:∀ t,t < i→off12 B f t=false
theorem On12.zero (B:List Bkt12) (f:Nat):On12 B f 0:=⟨fun _ ht=>absurd ht (Nat.not_lt_zero _)⟩
theorem On12.step {B:List Bkt12} {f i:Nat} (h:On12 B f i) (hi:off12 B f i=false):On12 B f (i + 1):=⟨fun t ht=>by
 by_cases e:t=i
 · rw [e];exact hi
 · exact h.out t (by omega)⟩
theorem On12.all {B:List Bkt12} {f:Nat} (h:On12 B f B.length):onw12 B f=true:=by
 rw [onw12,List.all_eq_true]
 intro t ht
 rw [h.out t (List.mem_range.1 ht)];rfl
theorem onw_no12 {B:List Bkt12} {f i:Nat} (hi:i < B.length) (h:off12 B f i=true):onw12 B f=false:=by
 rw [onw12,List.all_eq_false]
 exact ⟨i,List.mem_range.2 hi,by rw [h];simp⟩
theorem ways_any12 (s:Sto12) (A:Option Addr) (c:Nat) (w:World) (h:InS w s A c) (hf:s.B.length≤4096) (h0:0 < cnt12 s.B 0) :
  Calls Tryz.prog 57 #[stoV s A c] w fun e w'=>e=.returned (.bool (onw12 s.B (fre1st12 s.B)))∧Below w.heap.size w w':=by
 have HI:=Lib.hid h
 have HF:=Lib.hid hf
 have H0:=Lib.hid (fre1st_lt12 h0)
 have hn0:0 < s.B.length:=by have:=(fre1st_lt12 h0).1;omega
 have HN0:=Lib.hid hn0
 have HX:=Lib.hid (fun (W:World) (hB:Below w.heap.size w W)=>index_any12 s A c W (h.keep hB) hf h0)
 have hw0:way12 (fre1st12 s.B) s.B.length 0=fre1st12 s.B:=by rw [way12,Nat.add_zero,Nat.mod_eq_of_lt (fre1st_lt12 h0).1]
 clear h hf h0 hn0
 refine (callsIn_wide (n:=5)).1 ?_
 refine callsIn_of_wp_marks Tryz.func57 rfl trivial ?_ rfl
 simp only [Tryz.ntmps57,List.size_toArray,List.length_cons,List.length_nil,Nat.reduceAdd,Nat.reduceSub,Array.replicate_succ,Array.replicate_zero,List.push_toArray,List.append_toArray,List.nil_append,List.cons_append]
 have hF:Is ((((w.alloc (.cells (stoA s A c) 31)).alloc (.cells #[.bool false] 4)).alloc (.cells #[.int .i64 (s.B.length:Int)] 3)).alloc (.cells #[.nilFunc] 118)) (w.heap.size + 1 + 1 + 1) 118 #[.nilFunc]:=by
  have:=Is.new (((w.alloc (.cells (stoA s A c) 31)).alloc (.cells #[.bool false] 4)).alloc (.cells #[.int .i64 (s.B.length:Int)] 3)) 118 #[.nilFunc]
  simpa using this
 have g1:Is ((((w.alloc (.cells (stoA s A c) 31)).alloc (.cells #[.bool false] 4)).alloc (.cells #[.int .i64 (s.B.length:Int)] 3)).alloc (.cells #[.nilFunc] 118)) w.heap.size 31 (stoA s A c):=(((Is.new w _ _).alloc _).alloc _).alloc _
 have g2:Is ((((w.alloc (.cells (stoA s A c) 31)).alloc (.cells #[.bool false] 4)).alloc (.cells #[.int .i64 (s.B.length:Int)] 3)).alloc (.cells #[.nilFunc] 118)) (w.heap.size + 1) 4 #[.bool false]:=(Is.alloc (heap_alloc2_new w _ _) _).alloc _
 have g3:Is ((((w.alloc (.cells (stoA s A c) 31)).alloc (.cells #[.bool false] 4)).alloc (.cells #[.int .i64 (s.B.length:Int)] 3)).alloc (.cells #[.nilFunc] 118)) (w.heap.size + 1 + 1) 3 #[.int .i64 (s.B.length:Int)]:=by
  have:=(Is.new ((w.alloc (.cells (stoA s A c) 31)).alloc (.cells #[.bool false] 4)) 3 #[.int .i64 (s.B.length:Int)]).alloc (.cells #[.nilFunc] 118)
  simpa using this
 have hB:Below w.heap.size w ((((w.alloc (.cells (stoA s A c) 31)).alloc (.cells #[.bool false] 4)).alloc (.cells #[.int .i64 (s.B.length:Int)] 3)).alloc (.cells #[.nilFunc] 118)):=((((Below.refl _ _).alloc (Nat.le_refl _) _).alloc (by simp) _).alloc (by simp;omega) _).alloc (by simp;omega) _
 have hsz:((((w.alloc (.cells (stoA s A c) 31)).alloc (.cells #[.bool false] 4)).alloc (.cells #[.int .i64 (s.B.length:Int)] 3)).alloc (.cells #[.nilFunc] 118)).heap.size=w.heap.size + 1 + 1 + 1 + 1:=by simp
 obtain ⟨W1,hW1⟩:∃ W1,W1=(((w.alloc (.cells (stoA s A c) 31)).alloc (.cells #[.bool false] 4)).alloc (.cells #[.int .i64 (s.B.length:Int)] 3)).alloc (.cells #[.nilFunc] 118):=⟨_,rfl⟩
 rw [← hW1] at hF g1 g2 g3 hB hsz
 gi_wp2_with (refine wpListIn_store_one12 rfl 118 _ _ rfl (w.heap.size + 1 + 1 + 1) _ rfl rfl (by rw [← hW1];exact hF) (by kernel_rfl) rfl ?_)
 rw [← hW1]
 clear hW1
 have k1:=(g1.rowFar (k:=w.heap.size + 1 + 1 + 1) (by omega) #[.func (.func 81) #[] #[]]).alloc (.cells #[.int .i64 0] 3)
 have k2:=(g2.rowFar (k:=w.heap.size + 1 + 1 + 1) (by omega) #[.func (.func 81) #[] #[]]).alloc (.cells #[.int .i64 0] 3)
 have k3:=(g3.rowFar (k:=w.heap.size + 1 + 1 + 1) (by omega) #[.func (.func 81) #[] #[]]).alloc (.cells #[.int .i64 0] 3)
 have k4:=(hF.row #[.func (.func 81) #[] #[]]).alloc (.cells #[.int .i64 0] 3)
 have k5:Is ((W1.setRow (w.heap.size + 1 + 1 + 1) #[.func (.func 81) #[] #[]]).alloc (.cells #[.int .i64 0] 3)) (w.heap.size + 1 + 1 + 1 + 1) 3 #[.int .i64 0]:=by
  have:=Is.new (W1.setRow (w.heap.size + 1 + 1 + 1) #[.func (.func 81) #[] #[]]) 3 #[.int .i64 0]
  rwa [show (W1.setRow (w.heap.size + 1 + 1 + 1) #[.func (.func 81) #[] #[]]).heap.size=w.heap.size + 1 + 1 + 1 + 1 by simp [hsz]] at this
 have hB2:=(belowRow hB (g:=w.heap.size + 1 + 1 + 1) (by omega) #[.func (.func 81) #[] #[]]).alloc (by have:=hB.size;simp;omega) (.cells #[.int .i64 0] 3)
 clear hF g1 g2 g3 hB hsz
 generalize (W1.setRow (w.heap.size + 1 + 1 + 1) #[.func (.func 81) #[] #[]]).alloc (.cells #[.int .i64 0] 3)=W2 at *
 rw [wpIn_wide]
 refine Code.wp_mono ?_ (onw_reg12 W2 w.heap.size (w.heap.size + 1 + 1 + 1) s.B.length A c _ _ _ k1 k4 (Lib.hid fun W hb=>HX.out W (hB2.trans (hb.mono hB2.size))) _ _ _ _ _ _ _ _ _ _ _ _ _ _ _ _ _ _ _ _ _ _ _ _ _ _ _ _ _ _ _ _ _ _ _ _ _ _ _)
 rintro ex ⟨T,D⟩ W3 ⟨rfl,hDf,DR,hT,hb3,iR,iF,hD⟩
 simp only at hT hDf
 subst hT
 subst hDf
 have hB3:=hB2.trans (hb3.mono hB2.size)
 have i2:=k2.below hb3 k2.lt
 have i3:=k3.below hb3 k3.lt
 have i4:=k4.below hb3 k4.lt
 have i5:=k5.below hb3 k5.lt
 have hs1:=k5.lt
 have hs2:=i5.lt
 clear k1 k2 k3 k4 k5 hB2 HX hb3
 gi_wp2_with fail
 refine wpIn_rangeL rfl (by omega) (gf:=105) (lb:=#[.pointer (some ⟨DR,0,none⟩),.pointer (some ⟨DR + 1,0,none⟩)]) rfl trivial (enters_of Tryz.func105 (by kernel_rfl) rfl) (S:=fun k=>k < w.heap.size∨k=DR∨k=DR + 1)
  (round_seq12 4 (by omega) DR (DR + 1) _ _ _ A c (fre1st12 s.B) s.B W3 iR iF rfl (HI.out.b.keep hB3) HF.out (by have:=H0.out.1;have:=HF.out;omega) _ (.inr (.inl rfl)) (.inr (.inr rfl)) (fun p e hn=>.inl (HI.out.b.blkB p e hn)))
  (Stay.refl _ _) (fun k hk=>by have:=hB3.size;have:=iR.lt;have:=iF.lt;omega) (fun _=>rfl)
  (fun i W=>Below w.heap.size w W∧Is W (w.heap.size + 1) 4 #[.bool false]∧Is W (w.heap.size + 1 + 1) 3 #[.int .i64 (s.B.length:Int)]∧Is W (w.heap.size + 1 + 1 + 1) 118 #[.func (.func 81) #[] #[]]∧Is W (w.heap.size + 1 + 1 + 1 + 1) 3 #[.int .i64 (run12 s.B (fre1st12 s.B) i:Int)]∧On12 s.B (fre1st12 s.B) i)
  (fun c _ W=>c=.ret∧Below w.heap.size w W∧Is W (w.heap.size + 1) 4 #[.bool false]∧Not12 (fun t=>!off12 s.B (fre1st12 s.B) t) (List.range s.B.length))
  (fun s X Y row hs hg hr=>⟨belowOwn12 hs.1 hs.1.size (by omega) hg hr,isOwn12 hs.2.1 hg hr,isOwn12 hs.2.2.1 hg hr,isOwn12 hs.2.2.2.1 hg hr,isOwn12 hs.2.2.2.2.1 hg hr,hs.2.2.2.2.2⟩)
  (fun c s X Y row hs hg hr=>⟨hs.1,belowOwn12 hs.2.1 hs.2.1.size (by omega) hg hr,isOwn12 hs.2.2.1 hg hr,hs.2.2.2⟩)
  ⟨hB3,i2,i3,i4,i5,On12.zero _ _⟩ ?round ?done ?stop
 case round =>
  rintro l i ⟨p,st,xl,xc⟩ W hl hlt hx ⟨hb,j2,j3,j4,j5,ho⟩
  gi_wp2
  refine ⟨(Stay.refl _ _).grown (World.grownBy_alloc _ _ none) (fun r e=>by cases e),⟨hb.alloc hb.size _,j2.alloc _,j3.alloc _,j4.alloc _,j5.alloc _,ho⟩,fun W'=>Is W' W.heap.size 70 #[.int .i64 st,.string xl,.string xc],fun _ X Y row hs hg hr=>isOwn12 hs hg hr,Is.new _ _ _,?_⟩
  clear hb j2 j3 j4 j5 ho
  rintro W4 hl4 ⟨hb,j2,j3,j4,j5,ho⟩ iX
  have hil:i < s.B.length:=by have:=(List.getElem?_eq_some_iff.1 hx).1;rwa [rnd_len12] at this
  have hxx:=(rnd_at12 (B:=s.B) (f:=fre1st12 s.B) hil).symm.trans hx
  have hpp:p=way12 (fre1st12 s.B) s.B.length i:=(congrArg Prod.fst (Option.some.inj hxx)).symm
  have hbb:at12 s.B (way12 (fre1st12 s.B) s.B.length i)=⟨st,xl,xc⟩:=congrArg Prod.snd (Option.some.inj hxx)
  have hf:=HF.out
  have hrl:run12 s.B (fre1st12 s.B) i≤4096:=by have:=run_le12 s.B (fre1st12 s.B) i;omega
  have hrs:run12 s.B (fre1st12 s.B) (i + 1)=if st=0 then 0 else run12 s.B (fre1st12 s.B) i + 1:=by rw [run12,hbb]
  have hof:off12 s.B (fre1st12 s.B) i=(decide (st=1) && decide (run12 s.B (fre1st12 s.B) (i + 1)≤(p + s.B.length - hom12 xl s.B.length) % s.B.length)):=by rw [off12,hbb,← hpp]
  have hpl:p < s.B.length:=by rw [hpp];exact way_lt12 _ _ HN0.out
  have HO:=Lib.hid ho
  have HOF:=Lib.hid hof
  have HRS:=Lib.hid hrs
  have HIL:=Lib.hid hil
  clear hx hxx hpp hbb ho hof hrs hil
  obtain ⟨r,hr⟩:∃ r,r=run12 s.B (fre1st12 s.B) i:=⟨_,rfl⟩
  rw [← hr] at j5 hrl HRS
  clear hr
  have q0:W4.cell? ⟨W.heap.size,0,none⟩=some (.int .i64 st):=iX.cell 0
  have q1:W4.cell? ⟨W.heap.size,1,none⟩=some (.string xl):=iX.cell 1
  have q2:W4.cell? ⟨W.heap.size,2,none⟩=some (.string xc):=iX.cell 2
  have c5:W4.cell? ⟨w.heap.size + 1 + 1 + 1 + 1,0,none⟩=some (.int .i64 (r:Int)):=j5.cell 0
  have f5:=j5.frozen 0
  have c4:W4.cell? ⟨w.heap.size + 1 + 1 + 1,0,none⟩=some (.func (.func 81) #[] #[]):=j4.cell 0
  have w1:=IntWalk.i64_in ((r:Int) + 1) (by omega)
  gi_wp2_with fail
  have st5:Stay (fun k=>(k < w.heap.size∨k=DR∨k=DR + 1)∨W3.heap.size≤k) W4 (W4.setCell ⟨w.heap.size + 1 + 1 + 1 + 1,0,none⟩ (.int .i64 ((r:Int) + 1))):=(Stay.refl _ _).grown (grownSetG _ _ _) (fun r e=>by cases e;exact .inl (by simp only [];omega))
  have hb5:=hb.setCell (p:=⟨w.heap.size + 1 + 1 + 1 + 1,0,none⟩) (by simp;omega) (.int .i64 ((r:Int) + 1))
  have e2:=j2.far (p:=⟨w.heap.size + 1 + 1 + 1 + 1,0,none⟩) (by simp) (.int .i64 ((r:Int) + 1))
  have e3:=j3.far (p:=⟨w.heap.size + 1 + 1 + 1 + 1,0,none⟩) (by simp) (.int .i64 ((r:Int) + 1))
  have e4:=j4.far (p:=⟨w.heap.size + 1 + 1 + 1 + 1,0,none⟩) (by simp) (.int .i64 ((r:Int) + 1))
  have eX:=iX.far (p:=⟨w.heap.size + 1 + 1 + 1 + 1,0,none⟩) (by simp only [];omega) (.int .i64 ((r:Int) + 1))
  have e5:Is (W4.setCell ⟨w.heap.size + 1 + 1 + 1 + 1,0,none⟩ (.int .i64 ((r:Int) + 1))) (w.heap.size + 1 + 1 + 1 + 1) 3 #[.int .i64 ((r:Int) + 1)]:=j5.set 0 _
  clear q0 q1 q2 c4 c5 f5 j2 j3 j4 j5 iX hb
  generalize W4.setCell ⟨w.heap.size + 1 + 1 + 1 + 1,0,none⟩ (.int .i64 ((r:Int) + 1))=W5 at *
  refine ⟨trivial,(callsIn_round12 (isFree_any12 st xl xc _)).mono ?_⟩
  rintro e W6 ⟨rfl,hb6⟩
  have st6:Stay (fun k=>(k < w.heap.size∨k=DR∨k=DR + 1)∨W3.heap.size≤k) W4 W6:=st5.trans (Stay.below hb6)
  have hB6:=hb5.trans (hb6.mono hb5.size)
  replace e2:=e2.below hb6 e2.lt
  replace e3:=e3.below hb6 e3.lt
  replace e4:=e4.below hb6 e4.lt
  replace eX:=eX.below hb6 eX.lt
  replace e5:=e5.below hb6 e5.lt
  have f5:=e5.frozen 0
  have c5:W6.cell? ⟨w.heap.size + 1 + 1 + 1 + 1,0,none⟩=some (.int .i64 ((r:Int) + 1)):=e5.cell 0
  clear st5 hb5 hb6
  by_cases h0:st=0
  ·
   subst h0
   have HOF2:=Lib.hid (show off12 s.B (fre1st12 s.B) i=false by rw [HOF.out];simp)
   have HR2:=Lib.hid (show run12 s.B (fre1st12 s.B) (i + 1)=0 by rw [HRS.out];rfl)
   have s5:=e5.set 0 (.int .i64 0)
   have s2:=e2.far (p:=⟨w.heap.size + 1 + 1 + 1 + 1,0,none⟩) (by simp) (.int .i64 0)
   have s3:=e3.far (p:=⟨w.heap.size + 1 + 1 + 1 + 1,0,none⟩) (by simp) (.int .i64 0)
   have s4:=e4.far (p:=⟨w.heap.size + 1 + 1 + 1 + 1,0,none⟩) (by simp) (.int .i64 0)
   have sX:=eX.far (p:=⟨w.heap.size + 1 + 1 + 1 + 1,0,none⟩) (by simp only [];omega) (.int .i64 0)
   have st7:=st6.grown (grownSetG W6 ⟨w.heap.size + 1 + 1 + 1 + 1,0,none⟩ (.int .i64 0)) (fun r e=>by cases e;exact .inl (by simp only [];omega))
   have hB7:=hB6.setCell (p:=⟨w.heap.size + 1 + 1 + 1 + 1,0,none⟩) (by simp;omega) (.int .i64 0)
   gi_wp2_with fail
   refine wpIn_mono (onw_off12 l _ _ W.heap.size 0 xl xc sX (Lib.hid (eqI10_no12 (by decide))) _ _ _ _ _ _ _ _ _ _ _ _ _ _ _ _ _ _ _ _ _ _ _ _ _ _ _ _ _ _ _ _ _ _ _ _ _ _ _ _) ?_
   rintro ex ⟨T,D⟩ W8 ⟨rfl,hDf,_,hT,hb8⟩
   simp only at hT hDf
   subst hT
   subst hDf
   gi_wp2
   exact ⟨st7.trans (Stay.below hb8),hB7.trans (hb8.mono hB7.size),s2.below hb8 s2.lt,s3.below hb8 s3.lt,s4.below hb8 s4.lt,by rw [HR2.out];exact s5.below hb8 s5.lt,HO.out.step HOF2.out⟩
  ·
   have hbe:(st == 0)=false:=by simpa using h0
   have hd0:decide (st=0)=false:=decide_eq_false h0
   by_cases h1:st=1
   ·
    subst h1
    have HR2:=Lib.hid (show run12 s.B (fre1st12 s.B) (i + 1)=r + 1 by rw [HRS.out,if_neg h0])
    have HH:=Lib.hid (fun W:World=>by
     have:=home_any12 xl (s.B.length:Int) W (by omega)
     rw [homV_nat12 xl HN0.out] at this
     exact this)
    have hh:=hom_lt12 xl HN0.out
    have hof:off12 s.B (fre1st12 s.B) i=decide (r + 1≤(p + s.B.length - hom12 xl s.B.length) % s.B.length):=by rw [HOF.out,HR2.out];simp
    have hdl:(p + s.B.length - hom12 xl s.B.length) % s.B.length < s.B.length:=Nat.mod_lt _ HN0.out
    have htm:Int.tmod ((p:Int) - (hom12 xl s.B.length:Int) + (s.B.length:Int)) (s.B.length:Int)=(((p + s.B.length - hom12 xl s.B.length) % s.B.length:Nat):Int):=by
     rw [Int.tmod_eq_emod_of_nonneg (by omega),Int.natCast_emod]
     congr 1
     omega
    obtain ⟨d,hd⟩:∃ d,d=(p + s.B.length - hom12 xl s.B.length) % s.B.length:=⟨_,rfl⟩
    rw [← hd] at hof hdl htm
    generalize hom12 xl s.B.length=h at *
    clear hd
    have hne:((s.B.length:Nat):Int)≠0:=by have:=HN0.out;omega
    gi_wp2_with fail
    refine wpIn_mono (onw_on12 l _ _ W.heap.size (w.heap.size + 1 + 1) (w.heap.size + 1 + 1 + 1 + 1) 1 (p:Int) (h:Int) (s.B.length:Int) (d:Int) ((r:Int) + 1) (decide ((r:Int) + 1≤(d:Int))) xl xc eX e3 e5 (Lib.hid (eqI_yes10 rfl)) (Lib.hid (subI10 (by omega))) (Lib.hid (addI10 (by omega))) (Lib.hid (remI12 htm (by omega) hne)) (Lib.hid (geI12 _ _)) HH _ _ _ _ _ _ _ _ _ _ _ _ _ _ _ _ _ _ _ _ _ _ _ _ _ _ _ _ _ _ _ _ _ _ _ _ _) ?_
    rintro ex ⟨T,D⟩ W8 ⟨rfl,hDf,_,hT,hb8⟩
    simp only at hT hDf
    subst hT
    subst hDf
    have z2:=e2.below hb8 e2.lt
    have f2:=z2.frozen 0
    have c2:W8.cell? ⟨w.heap.size + 1,0,none⟩=some (.bool false):=z2.cell 0
    have hb9:=hB6.trans (hb8.mono hB6.size)
    by_cases hg:r + 1≤d
    ·
     have hgi:decide ((r:Int) + 1≤(d:Int))=true:=decide_eq_true (by omega)
     have HNO:=Lib.hid (onw_no12 HIL.out (by rw [hof];exact decide_eq_true hg))
     rw [hgi]
     clear hgi hg hof htm
     gi_wp2
     exact ⟨(st6.trans (Stay.below hb8)).grown (grownSetG _ _ _) (fun r e=>by cases e;exact .inl (by simp only [];omega)),rfl,hb9.setCell (p:=⟨w.heap.size + 1,0,none⟩) (by simp) _,z2.set 0 _,⟨HNO.out⟩⟩
    ·
     have hgi:decide ((r:Int) + 1≤(d:Int))=false:=decide_eq_false (by omega)
     have HOF2:=Lib.hid (show off12 s.B (fre1st12 s.B) i=false by rw [hof];exact decide_eq_false hg)
     rw [hgi]
     clear hgi hg hof htm
     gi_wp2
     exact ⟨st6.trans (Stay.below hb8),hb9,z2,e3.below hb8 e3.lt,e4.below hb8 e4.lt,by rw [HR2.out];exact e5.below hb8 e5.lt,HO.out.step HOF2.out⟩
   ·
    have HOF2:=Lib.hid (show off12 s.B (fre1st12 s.B) i=false by rw [HOF.out];simp [h1])
    have H1:=Lib.hid h1
    have HR2:=Lib.hid (show run12 s.B (fre1st12 s.B) (i + 1)=r + 1 by rw [HRS.out,if_neg h0])
    clear h1
    gi_wp2_with fail
    refine wpIn_mono (onw_off12 l _ _ W.heap.size st xl xc eX (Lib.hid (eqI10_no12 H1.out)) _ _ _ _ _ _ _ _ _ _ _ _ _ _ _ _ _ _ _ _ _ _ _ _ _ _ _ _ _ _ _ _ _ _ _ _ _ _ _ _) ?_
    rintro ex ⟨T,D⟩ W8 ⟨rfl,hDf,_,hT,hb8⟩
    simp only at hT hDf
    subst hT
    subst hDf
    gi_wp2
    exact ⟨st6.trans (Stay.below hb8),hB6.trans (hb8.mono hB6.size),e2.below hb8 e2.lt,e3.below hb8 e3.lt,e4.below hb8 e4.lt,by rw [HR2.out];exact e5.below hb8 e5.lt,HO.out.step HOF2.out⟩
 case done =>
  rintro D W hD2 ⟨hb,j2,j3,j4,j5,ho⟩ hK
  have HON:=Lib.hid (show onw12 s.B (fre1st12 s.B)=true from On12.all (by have:=ho;rwa [rnd_len12] at this))
  have f2:=j2.frozen 0
  have c2:W.cell? ⟨w.heap.size + 1,0,none⟩=some (.bool false):=j2.cell 0
  have hK2:(W.setCell ⟨w.heap.size + 1,0,none⟩ (.bool true)).heap[D]?=some (.deferred (some [])):=(heap_setCell_other _ _ D _ (by simp only [];omega)).trans hK
  have HK:=Lib.hid hK2
  clear ho hK hK2 j3 j4 j5
  gi_wp2
  refine ⟨by simp,.inl ⟨_,_,rfl,run_takeDeferred HK.out,?_⟩⟩
  have hgr:=grownBy_putObj' (W.setCell ⟨w.heap.size + 1,0,none⟩ (.bool true)) D (.deferred none)
  have hrr:∀ r,some D=some r→W3.heap.size≤r∧∃ o:Obj,(W.setCell ⟨w.heap.size + 1,0,none⟩ (.bool true)).heap[r]?=some o∧o.isCells=false:=fun r e=>by cases e;exact ⟨hD2,_,HK.out,rfl⟩
  have zb:Below w.heap.size w (W.setCell ⟨w.heap.size + 1,0,none⟩ (.bool true)):=hb.setCell (p:=⟨w.heap.size + 1,0,none⟩) (by simp) _
  exact ⟨_,results_c12 Tryz.results57 _ _ _ (w.heap.size + 1) (.bool true) 4 rfl (isOwn12 (j2.set 0 _) hgr hrr) (aggBo12 _),by rw [HON.out],belowOwn12 zb zb.size (by omega) hgr hrr⟩
 case stop =>
  rintro D c2 i W hD2 ⟨rfl,hb,j2,hno⟩ hK
  have HNO:=Lib.hid (show onw12 s.B (fre1st12 s.B)=false from hno.out)
  clear hno
  gi_wp2
  refine ⟨by simp,.inl ⟨_,_,rfl,run_takeDeferred hK,?_⟩⟩
  have hgr:=grownBy_putObj' W D (.deferred none)
  have hrr:∀ r,some D=some r→W3.heap.size≤r∧∃ o:Obj,W.heap[r]?=some o∧o.isCells=false:=fun r e=>by cases e;exact ⟨hD2,_,hK,rfl⟩
  exact ⟨_,results_c12 Tryz.results57 _ _ _ (w.heap.size + 1) (.bool false) 4 rfl (isOwn12 j2 hgr hrr) (aggBo12 _),by rw [HNO.out],belowOwn12 hb hb.size (by omega) hgr hrr⟩
end Go.Proofs.YtmggbbmpckcleaaGreat
namespace Go.Proofs.YtmggbbmpckcleaaGreat
open Go.RowKit Go.Shelf
theorem pre_size12 {s:Sto12} (h:size12 (s.B.length:Int)=false):right12 s=false:=right_not12 fun hp=>by rw [hp.size] at h;cases h
theorem pre_frm12 {s:Sto12} (h:s.B.all frm12=false):right12 s=false:=right_not12 fun hp=>by rw [hp.frm] at h;cases h
theorem pre_cnt12 {s:Sto12} (h:(decide ((cnt12 s.B 1:Int)=s.many) && decide ((cnt12 s.B 2:Int)=s.gone))=false):right12 s=false:=right_not12 fun hp=>by
 rw [decide_eq_true hp.many,decide_eq_true hp.gone] at h;cases h
theorem pre_room12 {s:Sto12} (h:3 * (s.B.length:Int) < 4 * (s.many + s.gone + 0)):right12 s=false:=right_not12 fun hp=>by
 have:=hp.room;omega
theorem bright_any12 (s:Sto12) (A:Option Addr) (c:Nat) (w:World) (h:InS w s A c) :
  Calls Tryz.prog 29 #[stoV s A c] w fun e w'=>e=.returned (.bool (right12 s))∧Below w.heap.size w w':=by
 have i0:=Is.new w 31 (stoA s A c)
 have hB0:Below w.heap.size w (w.alloc (.cells (stoA s A c) 31)):=(Below.refl _ _).alloc (Nat.le_refl _) _
 have c0:(w.alloc (.cells (stoA s A c) 31)).cell? ⟨w.heap.size,0,none⟩=some (.slice A s.B.length c):=i0.cell 0
 have c1:(w.alloc (.cells (stoA s A c) 31)).cell? ⟨w.heap.size,1,none⟩=some (.int .i64 s.many):=i0.cell 1
 have c2:(w.alloc (.cells (stoA s A c) 31)).cell? ⟨w.heap.size,2,none⟩=some (.int .i64 s.gone):=i0.cell 2
 have HS:=Lib.hid (isSize_any12 (s.B.length:Int) (w.alloc (.cells (stoA s A c) 31)))
 obtain ⟨R,hR⟩:∃ R,R=right12 s:=⟨_,rfl⟩
 rw [← hR]
 cases hs:size12 (s.B.length:Int) with
 | false =>
  have HR:=Lib.hid (hR.trans (pre_size12 hs))
  rw [hs] at HS
  clear hs hR h
  go_enter Tryz.func29,Tryz.ntmps29
  go_wp2_with (first | (go_at_call 51;refine HS.out.mono ?_;rintro e w0 ⟨rfl,rfl⟩))
  go_ret
  exact ⟨by rw [HR.out];rfl,hB0⟩
 | true =>
  rw [hs] at HS
  have hn:=(size_bd12 hs)
  have hf:s.B.length≤4096:=by omega
  have HF:Hid (∀ W,Below w.heap.size w W→Calls Tryz.prog 53 #[stoV s A c] W fun e w'=>e=.returned (.bool (s.B.all frm12))∧Below W.heap.size W w'):=Lib.hid (fun W hB=>formed_any12 s A c W (h.keep hB) hf)
  cases hfm:s.B.all frm12 with
  | false =>
   have HR:=Lib.hid (hR.trans (pre_frm12 hfm))
   rw [hfm] at HF
   clear hs hR h hn hf hfm
   go_enter Tryz.func29,Tryz.ntmps29
   go_wp2_with (first | (go_at_call 51;refine HS.out.mono ?_;rintro e w0 ⟨rfl,rfl⟩) | (go_at_call 53;refine (HF.out _ hB0).mono ?_;rintro e w1 ⟨rfl,hb⟩;have hB1:=hB0.trans (hb.mono hB0.size);have i1:=i0.below hb i0.lt;clear hb;have c0_w1:w1.cell? ⟨w.heap.size,0,none⟩=some (.slice A s.B.length c):=i1.cell 0;have c1_w1:w1.cell? ⟨w.heap.size,1,none⟩=some (.int .i64 s.many):=i1.cell 1;have c2_w1:w1.cell? ⟨w.heap.size,2,none⟩=some (.int .i64 s.gone):=i1.cell 2))
   go_ret
   exact ⟨by rw [HR.out];rfl,hB1⟩
  | true =>
   rw [hfm] at HF
   have HC:Hid (∀ W,Below w.heap.size w W→Calls Tryz.prog 54 #[stoV s A c] W fun e w'=>e=.returned (.bool (decide ((cnt12 s.B 1:Int)=s.many) && decide ((cnt12 s.B 2:Int)=s.gone)))∧Below W.heap.size W w'):=Lib.hid (fun W hB=>counted_any12 s A c W (h.keep hB) hf)
   cases hc:(decide ((cnt12 s.B 1:Int)=s.many) && decide ((cnt12 s.B 2:Int)=s.gone)) with
   | false =>
    have HR:=Lib.hid (hR.trans (pre_cnt12 hc))
    rw [hc] at HC
    clear hs hR h hn hf hfm hc
    go_enter Tryz.func29,Tryz.ntmps29
    go_wp2_with (first | (go_at_call 51;refine HS.out.mono ?_;rintro e w0 ⟨rfl,rfl⟩) | (go_at_call 53;refine (HF.out _ hB0).mono ?_;rintro e w1 ⟨rfl,hb⟩;have hB1:=hB0.trans (hb.mono hB0.size);have i1:=i0.below hb i0.lt;clear hb;have c0_w1:w1.cell? ⟨w.heap.size,0,none⟩=some (.slice A s.B.length c):=i1.cell 0;have c1_w1:w1.cell? ⟨w.heap.size,1,none⟩=some (.int .i64 s.many):=i1.cell 1;have c2_w1:w1.cell? ⟨w.heap.size,2,none⟩=some (.int .i64 s.gone):=i1.cell 2) | (go_at_call 54;refine (HC.out _ hB1).mono ?_;rintro e w2 ⟨rfl,hb⟩;have hB2:=hB1.trans (hb.mono hB1.size);have i2:=i1.below hb i1.lt;clear hb;have c0_w2:w2.cell? ⟨w.heap.size,0,none⟩=some (.slice A s.B.length c):=i2.cell 0;have c1_w2:w2.cell? ⟨w.heap.size,1,none⟩=some (.int .i64 s.many):=i2.cell 1;have c2_w2:w2.cell? ⟨w.heap.size,2,none⟩=some (.int .i64 s.gone):=i2.cell 2))
    go_ret
    exact ⟨by rw [HR.out];rfl,hB2⟩
   | true =>
    rw [hc] at HC
    have hcs:=hc
    rw [Bool.and_eq_true,decide_eq_true_eq,decide_eq_true_eq] at hcs
    have l1:=cnt_le12 s.B 1
    have l2:=cnt_le12 s.B 2
    have HW:Hid (∀ W,Below w.heap.size w W→Calls Tryz.prog 55 #[stoV s A c,.int .i64 0] W fun e w'=>e=.returned (.bool (decide (3 * (s.B.length:Int) < 4 * (s.many + s.gone + 0))))∧Below W.heap.size W w'):=Lib.hid (fun W hB=>crowded_any12 A s.B.length c s.many s.gone 0 W (.inl rfl) hf (by omega) (by omega))
    by_cases hw:3 * (s.B.length:Int) < 4 * (s.many + s.gone + 0)
    ·
     have HR:=Lib.hid (hR.trans (pre_room12 hw))
     rw [decide_eq_true hw] at HW
     clear hs hR h hn hf hfm hc hcs l1 l2 hw
     go_enter Tryz.func29,Tryz.ntmps29
     go_wp2_with (first | (go_at_call 51;refine HS.out.mono ?_;rintro e w0 ⟨rfl,rfl⟩) | (go_at_call 53;refine (HF.out _ hB0).mono ?_;rintro e w1 ⟨rfl,hb⟩;have hB1:=hB0.trans (hb.mono hB0.size);have i1:=i0.below hb i0.lt;clear hb;have c0_w1:w1.cell? ⟨w.heap.size,0,none⟩=some (.slice A s.B.length c):=i1.cell 0;have c1_w1:w1.cell? ⟨w.heap.size,1,none⟩=some (.int .i64 s.many):=i1.cell 1;have c2_w1:w1.cell? ⟨w.heap.size,2,none⟩=some (.int .i64 s.gone):=i1.cell 2) | (go_at_call 54;refine (HC.out _ hB1).mono ?_;rintro e w2 ⟨rfl,hb⟩;have hB2:=hB1.trans (hb.mono hB1.size);have i2:=i1.below hb i1.lt;clear hb;have c0_w2:w2.cell? ⟨w.heap.size,0,none⟩=some (.slice A s.B.length c):=i2.cell 0;have c1_w2:w2.cell? ⟨w.heap.size,1,none⟩=some (.int .i64 s.many):=i2.cell 1;have c2_w2:w2.cell? ⟨w.heap.size,2,none⟩=some (.int .i64 s.gone):=i2.cell 2) | (go_at_call 55;refine (HW.out _ hB2).mono ?_;rintro e w3 ⟨rfl,hb⟩;have hB3:=hB2.trans (hb.mono hB2.size);have i3:=i2.below hb i2.lt;clear hb;have c0_w3:w3.cell? ⟨w.heap.size,0,none⟩=some (.slice A s.B.length c):=i3.cell 0;have c1_w3:w3.cell? ⟨w.heap.size,1,none⟩=some (.int .i64 s.many):=i3.cell 1;have c2_w3:w3.cell? ⟨w.heap.size,2,none⟩=some (.int .i64 s.gone):=i3.cell 2))
     go_ret
     exact ⟨by rw [HR.out];rfl,hB3⟩
    ·
     have hp:Pre12 s:=⟨hs,hfm,hcs.1,hcs.2,by omega⟩
     have hr:=hR.trans (right_prog12 hp)
     rw [decide_eq_false hw] at HW
     have hfl:∀ b ∈ us12 s.B,b.l.size≤maxLen:=fun b hb=>by
      obtain ⟨i,hi,e,h1⟩:=us_mem12.1 hb
      have:=frm_all12 hfm hi
      rw [e,frm12,if_pos h1] at this
      simp only [Bool.and_eq_true,decide_eq_true_eq] at this
      unfold maxLen
      omega
     have hfr:=hp.free
     have HT:Hid (∀ W,Below w.heap.size w W→Calls Tryz.prog 56 #[stoV s A c] W fun e w'=>e=.returned (.bool (decide ((dst12 (labs12 s.B) (labs12 s.B).length:Int) < s.many)))∧Below W.heap.size W w'):=Lib.hid (fun W hB=>twice_any12 s A c W (h.keep hB) hf hfl)
     have HO:Hid (∀ W,Below w.heap.size w W→Calls Tryz.prog 57 #[stoV s A c] W fun e w'=>e=.returned (.bool (onw12 s.B (fre1st12 s.B)))∧Below W.heap.size W w'):=Lib.hid (fun W hB=>ways_any12 s A c W (h.keep hB) hf hfr)
     generalize decide ((dst12 (labs12 s.B) (labs12 s.B).length:Int) < s.many)=T at *
     generalize onw12 s.B (fre1st12 s.B)=O at *
     clear hs hR h hn hf hfm hc hcs l1 l2 hw hp hfl hfr
     cases T with
     | true =>
      have HR:=Lib.hid (show R=false by rw [hr];rfl)
      clear hr
      go_enter Tryz.func29,Tryz.ntmps29
      go_wp2_with (first | (go_at_call 51;refine HS.out.mono ?_;rintro e w0 ⟨rfl,rfl⟩) | (go_at_call 53;refine (HF.out _ hB0).mono ?_;rintro e w1 ⟨rfl,hb⟩;have hB1:=hB0.trans (hb.mono hB0.size);have i1:=i0.below hb i0.lt;clear hb;have c0_w1:w1.cell? ⟨w.heap.size,0,none⟩=some (.slice A s.B.length c):=i1.cell 0;have c1_w1:w1.cell? ⟨w.heap.size,1,none⟩=some (.int .i64 s.many):=i1.cell 1;have c2_w1:w1.cell? ⟨w.heap.size,2,none⟩=some (.int .i64 s.gone):=i1.cell 2) | (go_at_call 54;refine (HC.out _ hB1).mono ?_;rintro e w2 ⟨rfl,hb⟩;have hB2:=hB1.trans (hb.mono hB1.size);have i2:=i1.below hb i1.lt;clear hb;have c0_w2:w2.cell? ⟨w.heap.size,0,none⟩=some (.slice A s.B.length c):=i2.cell 0;have c1_w2:w2.cell? ⟨w.heap.size,1,none⟩=some (.int .i64 s.many):=i2.cell 1;have c2_w2:w2.cell? ⟨w.heap.size,2,none⟩=some (.int .i64 s.gone):=i2.cell 2) | (go_at_call 55;refine (HW.out _ hB2).mono ?_;rintro e w3 ⟨rfl,hb⟩;have hB3:=hB2.trans (hb.mono hB2.size);have i3:=i2.below hb i2.lt;clear hb;have c0_w3:w3.cell? ⟨w.heap.size,0,none⟩=some (.slice A s.B.length c):=i3.cell 0;have c1_w3:w3.cell? ⟨w.heap.size,1,none⟩=some (.int .i64 s.many):=i3.cell 1;have c2_w3:w3.cell? ⟨w.heap.size,2,none⟩=some (.int .i64 s.gone):=i3.cell 2) | (go_at_call 56;refine (HT.out _ hB3).mono ?_;rintro e w4 ⟨rfl,hb⟩;have hB4:=hB3.trans (hb.mono hB3.size);have i4:=i3.below hb i3.lt;clear hb;have c0_w4:w4.cell? ⟨w.heap.size,0,none⟩=some (.slice A s.B.length c):=i4.cell 0;have c1_w4:w4.cell? ⟨w.heap.size,1,none⟩=some (.int .i64 s.many):=i4.cell 1;have c2_w4:w4.cell? ⟨w.heap.size,2,none⟩=some (.int .i64 s.gone):=i4.cell 2))
      go_ret
      exact ⟨by rw [HR.out];rfl,hB4⟩
     | false =>
      cases O with
      | true =>
       have HR:=Lib.hid (show R=true by rw [hr];rfl)
       clear hr
       go_enter Tryz.func29,Tryz.ntmps29
       go_wp2_with (first | (go_at_call 51;refine HS.out.mono ?_;rintro e w0 ⟨rfl,rfl⟩) | (go_at_call 53;refine (HF.out _ hB0).mono ?_;rintro e w1 ⟨rfl,hb⟩;have hB1:=hB0.trans (hb.mono hB0.size);have i1:=i0.below hb i0.lt;clear hb;have c0_w1:w1.cell? ⟨w.heap.size,0,none⟩=some (.slice A s.B.length c):=i1.cell 0;have c1_w1:w1.cell? ⟨w.heap.size,1,none⟩=some (.int .i64 s.many):=i1.cell 1;have c2_w1:w1.cell? ⟨w.heap.size,2,none⟩=some (.int .i64 s.gone):=i1.cell 2) | (go_at_call 54;refine (HC.out _ hB1).mono ?_;rintro e w2 ⟨rfl,hb⟩;have hB2:=hB1.trans (hb.mono hB1.size);have i2:=i1.below hb i1.lt;clear hb;have c0_w2:w2.cell? ⟨w.heap.size,0,none⟩=some (.slice A s.B.length c):=i2.cell 0;have c1_w2:w2.cell? ⟨w.heap.size,1,none⟩=some (.int .i64 s.many):=i2.cell 1;have c2_w2:w2.cell? ⟨w.heap.size,2,none⟩=some (.int .i64 s.gone):=i2.cell 2) | (go_at_call 55;refine (HW.out _ hB2).mono ?_;rintro e w3 ⟨rfl,hb⟩;have hB3:=hB2.trans (hb.mono hB2.size);have i3:=i2.below hb i2.lt;clear hb;have c0_w3:w3.cell? ⟨w.heap.size,0,none⟩=some (.slice A s.B.length c):=i3.cell 0;have c1_w3:w3.cell? ⟨w.heap.size,1,none⟩=some (.int .i64 s.many):=i3.cell 1;have c2_w3:w3.cell? ⟨w.heap.size,2,none⟩=some (.int .i64 s.gone):=i3.cell 2) | (go_at_call 56;refine (HT.out _ hB3).mono ?_;rintro e w4 ⟨rfl,hb⟩;have hB4:=hB3.trans (hb.mono hB3.size);have i4:=i3.below hb i3.lt;clear hb;have c0_w4:w4.cell? ⟨w.heap.size,0,none⟩=some (.slice A s.B.length c):=i4.cell 0;have c1_w4:w4.cell? ⟨w.heap.size,1,none⟩=some (.int .i64 s.many):=i4.cell 1;have c2_w4:w4.cell? ⟨w.heap.size,2,none⟩=some (.int .i64 s.gone):=i4.cell 2) | (go_at_call 57;refine (HO.out _ hB4).mono ?_;rintro e w5 ⟨rfl,hb⟩;have hB5:=hB4.trans (hb.mono hB4.size);have i5:=i4.below hb i4.lt;clear hb;have c0_w5:w5.cell? ⟨w.heap.size,0,none⟩=some (.slice A s.B.length c):=i5.cell 0;have c1_w5:w5.cell? ⟨w.heap.size,1,none⟩=some (.int .i64 s.many):=i5.cell 1;have c2_w5:w5.cell? ⟨w.heap.size,2,none⟩=some (.int .i64 s.gone):=i5.cell 2))
       go_ret
       exact ⟨by rw [HR.out];rfl,hB5⟩
      | false =>
       have HR:=Lib.hid (show R=false by rw [hr];rfl)
       clear hr
       go_enter Tryz.func29,Tryz.ntmps29
       go_wp2_with (first | (go_at_call 51;refine HS.out.mono ?_;rintro e w0 ⟨rfl,rfl⟩) | (go_at_call 53;refine (HF.out _ hB0).mono ?_;rintro e w1 ⟨rfl,hb⟩;have hB1:=hB0.trans (hb.mono hB0.size);have i1:=i0.below hb i0.lt;clear hb;have c0_w1:w1.cell? ⟨w.heap.size,0,none⟩=some (.slice A s.B.length c):=i1.cell 0;have c1_w1:w1.cell? ⟨w.heap.size,1,none⟩=some (.int .i64 s.many):=i1.cell 1;have c2_w1:w1.cell? ⟨w.heap.size,2,none⟩=some (.int .i64 s.gone):=i1.cell 2) | (go_at_call 54;refine (HC.out _ hB1).mono ?_;rintro e w2 ⟨rfl,hb⟩;have hB2:=hB1.trans (hb.mono hB1.size);have i2:=i1.below hb i1.lt;clear hb;have c0_w2:w2.cell? ⟨w.heap.size,0,none⟩=some (.slice A s.B.length c):=i2.cell 0;have c1_w2:w2.cell? ⟨w.heap.size,1,none⟩=some (.int .i64 s.many):=i2.cell 1;have c2_w2:w2.cell? ⟨w.heap.size,2,none⟩=some (.int .i64 s.gone):=i2.cell 2) | (go_at_call 55;refine (HW.out _ hB2).mono ?_;rintro e w3 ⟨rfl,hb⟩;have hB3:=hB2.trans (hb.mono hB2.size);have i3:=i2.below hb i2.lt;clear hb;have c0_w3:w3.cell? ⟨w.heap.size,0,none⟩=some (.slice A s.B.length c):=i3.cell 0;have c1_w3:w3.cell? ⟨w.heap.size,1,none⟩=some (.int .i64 s.many):=i3.cell 1;have c2_w3:w3.cell? ⟨w.heap.size,2,none⟩=some (.int .i64 s.gone):=i3.cell 2) | (go_at_call 56;refine (HT.out _ hB3).mono ?_;rintro e w4 ⟨rfl,hb⟩;have hB4:=hB3.trans (hb.mono hB3.size);have i4:=i3.below hb i3.lt;clear hb;have c0_w4:w4.cell? ⟨w.heap.size,0,none⟩=some (.slice A s.B.length c):=i4.cell 0;have c1_w4:w4.cell? ⟨w.heap.size,1,none⟩=some (.int .i64 s.many):=i4.cell 1;have c2_w4:w4.cell? ⟨w.heap.size,2,none⟩=some (.int .i64 s.gone):=i4.cell 2) | (go_at_call 57;refine (HO.out _ hB4).mono ?_;rintro e w5 ⟨rfl,hb⟩;have hB5:=hB4.trans (hb.mono hB4.size);have i5:=i4.below hb i4.lt;clear hb;have c0_w5:w5.cell? ⟨w.heap.size,0,none⟩=some (.slice A s.B.length c):=i5.cell 0;have c1_w5:w5.cell? ⟨w.heap.size,1,none⟩=some (.int .i64 s.many):=i5.cell 1;have c2_w5:w5.cell? ⟨w.heap.size,2,none⟩=some (.int .i64 s.gone):=i5.cell 2))
       go_ret
       exact ⟨by rw [HR.out];rfl,hB5⟩
end Go.Proofs.YtmggbbmpckcleaaGreat
