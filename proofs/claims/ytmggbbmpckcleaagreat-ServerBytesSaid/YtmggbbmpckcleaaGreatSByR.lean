import Derived.Test.YtmggbbmpckcleaaGreatSTwR
import Derived.Test.YtmggbbmpckcleaaGreatWirO
import Derived.Test.YtmggbbmpckcleaaGreatWirR
set_option maxRecDepth 100000
set_option maxHeartbeats 16000000
namespace Go.Proofs.YtmggbbmpckcleaaGreat
open Go.RowKit Go.Shelf
theorem run_low13 (s:ByteArray) (k:Int) (h0:0≤k) (h1:k≤(s.size:Int)) (wx:World):(Instr.slice 9 (.string s) (some (.int .i64 k)) none none).run Tryz.prog wx=.ok (.string (s.extract k.toNat s.size)) wx:=by
 have h:=run_slice_string (P:=Tryz.prog) wx 9 s .i64 .i64 k (s.size:Int) Tryz.underlying9 h0 h1 (Int.le_refl _)
 have q:¬ k < 0:=by omega
 have q2:k.toNat≤s.size:=by omega
 go_simp
theorem run_high13 (s:ByteArray) (k:Int) (h0:0≤k) (h1:k≤(s.size:Int)) (wx:World):(Instr.slice 9 (.string s) none (some (.int .i64 k)) none).run Tryz.prog wx=.ok (.string (s.extract 0 k.toNat)) wx :=
 run_slice_string_h (P:=Tryz.prog) (w:=wx) (t:=9) (s:=s) Tryz.underlying9 .i64 k h0 h1
structure BoxR13 (W0 W:World) (DN:Nat) (q:Rsp11) (B2:Option Addr) (d2:Nat):Prop where
 below:Below W0.heap.size W0 W
 ge:W0.heap.size≤DN
 rsp:Is W DN 45 (rspA q.k q.st B2 q.C.length d2 q.many q.room)
theorem box_ofR13 {W0 W:World} {q:Rsp11} {B2:Option Addr} {d2:Nat} (hb:Below W0.heap.size W0 W) :
  BoxR13 W0 ((W.alloc (.cells (rspA 0 0 none 0 0 0 0) 45)).setRow W.heap.size (rspA q.k q.st B2 q.C.length d2 q.many q.room)) W.heap.size q B2 d2:=by
 have hbx:Below W.heap.size W (W.alloc (.cells (rspA 0 0 none 0 0 0 0) 45)):=(Below.refl _ _).alloc (Nat.le_refl _) _
 have z1:=Is.new W 45 (rspA 0 0 none 0 0 0 0)
 exact ⟨belowRow (hb.trans (hbx.mono hb.size)) hb.size _,hb.size,z1.row _⟩
theorem by13_2 (W0:World) (s:Srv13) (x0:Int) (A0:Option Addr) (n0 cp0:Nat) (HS:Hid (∀ W,Below W0.heap.size W0 W→Calls Tryz.prog 10 #[.int .i64 x0,.slice A0 n0 cp0] W fun e w'=>∃ A c,e=.returned (srvV s A c)∧InS w' s.S A c∧Below W.heap.size W w')) (x2 x3 x4 x5 x6 x7 x8 x9 Xa Xb Xc Xd Xe Xf Xg Xh Xi Xj Xk Xl Xm Xn Xo Xp Xq Xr Xs Xt Xu Xv Xw Xx Xy Xz Ya Yb Yc Yd Ye Yf Yg Yh Yi Yj Yk Yl Ym Yn Yo Yp Yq Yr Ys Yt Yu Yv Yw Yx Yy Yz Za Zb Zc Zd Ze Zf Zg Zh Zi Zj Zk Zl Zm Zn Zo Zp Zq Zr Zs Zt Zu Zv Zw Zx Zy Zz Ua Ub Uc Ud Ue Uf Ug Uh Ui Uj Uk Ul Um Un Uo Up Uq Ur Us Ut Uu Uv Uw Ux Uy Uz Va Vb Vc Vd Ve Vf Vg Vh Vi:Value) (Q:Exit→Act→World→Prop) (hQ:∀ DN A2 c2 W2,BoxS13 W0 W2 DN s A2 c2→Q .normal { tmps:=#[.int .i64 x0,.slice A0 n0 cp0,x2,x3,x4,x5,x6,x7,x8,x9,Xa,Xb,.pointer (some ⟨DN,0,none⟩),Xd,Xe,Xf,Xg,Xh,Xi,Xj,Xk,Xl,Xm,Xn,Xo,Xp,Xq,.int .i64 x0,.slice A0 n0 cp0,.agg (srvA s A2 c2),Xu,Xv,Xw,Xx,Xy,Xz,Ya,Yb,Yc,Yd,Ye,Yf,Yg,Yh,Yi,Yj,Yk,Yl,Ym,Yn,Yo,Yp,Yq,Yr,Ys,Yt,Yu,Yv,Yw,Yx,Yy,Yz,Za,Zb,Zc,Zd,Ze,Zf,Zg,Zh,Zi,Zj,Zk,Zl,Zm,Zn,Zo,Zp,Zq,Zr,Zs,Zt,Zu,Zv,Zw,Zx,Zy,Zz,Ua,Ub,Uc,Ud,Ue,Uf,Ug,Uh,Ui,Uj,Uk,Ul,Um,Un,Uo,Up,Uq,Ur,Us,Ut,Uu,Uv,Uw,Ux,Uy,Uz,Va,Vb,Vc,Vd,Ve,Vf,Vg,Vh,Vi],defers:=[] } W2) :
  wpList Tryz.prog (opsOf Tryz.f5 2) Q (opsOf Tryz.f5 2).toList { tmps:=#[.int .i64 x0,.slice A0 n0 cp0,x2,x3,x4,x5,x6,x7,x8,x9,Xa,Xb,Xc,Xd,Xe,Xf,Xg,Xh,Xi,Xj,Xk,Xl,Xm,Xn,Xo,Xp,Xq,Xr,Xs,Xt,Xu,Xv,Xw,Xx,Xy,Xz,Ya,Yb,Yc,Yd,Ye,Yf,Yg,Yh,Yi,Yj,Yk,Yl,Ym,Yn,Yo,Yp,Yq,Yr,Ys,Yt,Yu,Yv,Yw,Yx,Yy,Yz,Za,Zb,Zc,Zd,Ze,Zf,Zg,Zh,Zi,Zj,Zk,Zl,Zm,Zn,Zo,Zp,Zq,Zr,Zs,Zt,Zu,Zv,Zw,Zx,Zy,Zz,Ua,Ub,Uc,Ud,Ue,Uf,Ug,Uh,Ui,Uj,Uk,Ul,Um,Un,Uo,Up,Uq,Ur,Us,Ut,Uu,Uv,Uw,Ux,Uy,Uz,Va,Vb,Vc,Vd,Ve,Vf,Vg,Vh,Vi],defers:=[] } W0:=by
 refine line_start ?_
 refine lineP (i:=0) (v:=.int .i64 x0) rfl (by kernel_rfl) ?_
 simp only [Act.put,zz0,zz1,zz2]
 refine lineP (i:=1) (v:=.slice A0 n0 cp0) rfl (by kernel_rfl) ?_
 simp only [Act.put,zz0,zz1,zz2]
 refine line_call13 (i:=2) (at_nth rfl) (by kernel_rfl) (fun wy=>by kernel_rfl) ((HS.out W0 (Below.refl _ _)).mono ?_)
 rintro e W1 ⟨A2,c2,rfl,hX,hb⟩
 refine ⟨_,rfl,?_⟩
 simp only [Act.put,zz0,zz1,zz2]
 refine line_step13 (i := 3) (o := { dst := some 12, op := Op.alloc 33, type := 0, pos := "law.go:154", after := #[], guard := none }) (w' := W1.alloc (.cells #[.slice none 0 0, .int .i64 0, .int .i64 0, .int .i64 0] 33)) (v := .pointer (some ⟨W1.heap.size, 0, none⟩)) (by kernel_rfl) (by kernel_rfl) (by go_simp) ?_
 simp only [Act.put,zz0,zz1,zz2]
 refine line_skip13 (i := 4) (o := { dst := none, op := Op.store 33 (Operand.tmp 12) (Operand.tmp 29), type := 0, pos := "law.go:154", after := #[{ on := 3, ground := Ground.data }, { on := 2, ground := Ground.data }, { on := 2, ground := Ground.chain }, { on := 0, ground := Ground.phase }, { on := 1, ground := Ground.phase }, { on := 2, ground := Ground.phase }, { on := 3, ground := Ground.phase }], guard := none }) (w' := (W1.alloc (.cells #[.slice none 0 0, .int .i64 0, .int .i64 0, .int .i64 0] 33)).setRow W1.heap.size (srvA s A2 c2)) (by kernel_rfl) (by kernel_rfl) (run_row10 rfl rfl rfl (Is.new W1 33 #[.slice none 0 0, .int .i64 0, .int .i64 0, .int .i64 0]) infoSrv13 rfl (srvA_one13 _ _ _)) ?_
 try simp only [Act.put]
 exact line_done (by decide +kernel) (hQ _ _ _ _ (box_ofS13 hX hb))
theorem by13_3 (W0:World) (q:Req11) (E:ByteArray) (A0:Option Addr) (n0 cp0:Nat) (hl:q.L.length≤9223372036854775807) (hl2:q.C.length≤9223372036854775807) (HR:Hid (∀ W,Below W0.heap.size W0 W→Calls Tryz.prog 14 #[.slice A0 n0 cp0] W fun r w'=>ReqPost11 q W r w')) (HE:Hid (encR11 ⟨q.k,q.L,q.C⟩=.tuple #[.string E,.int .i64 0])) (x0 x1 x3 x4 x5 x6 x7 x8 x9 Xa Xb Xc Xd Xe Xf Xg Xh Xi Xj Xk Xl Xm Xn Xo Xp Xq Xr Xs Xt Xu Xv Xw Xx Xy Xz Ya Yb Yc Yd Ye Yf Yg Yh Yi Yj Yk Yl Ym Yn Yo Yp Yq Yr Ys Yt Yu Yv Yw Yx Yy Yz Za Zb Zc Zd Ze Zf Zg Zh Zi Zj Zk Zl Zm Zn Zo Zp Zq Zr Zs Zt Zu Zv Zw Zx Zy Zz Ua Ub Uc Ud Ue Uf Ug Uh Ui Uj Uk Ul Um Un Uo Up Uq Ur Us Ut Uu Uv Uw Ux Uy Uz Va Vb Vc Vd Ve Vf Vg Vh Vi:Value) (Q:Exit→Act→World→Prop) (hQ:∀ B1 d1 B2 d2 W2,Below W0.heap.size W0 W2→Q .normal { tmps:=#[x0,x1,.slice A0 n0 cp0,x3,x4,x5,x6,x7,x8,x9,Xa,Xb,Xc,.string E,.int .i64 0,Xf,Xg,Xh,Xi,Xj,Xk,Xl,Xm,Xn,Xo,Xp,Xq,Xr,Xs,Xt,.tuple #[.string E,.int .i64 0],.slice A0 n0 cp0,.agg (reqA q.k B1 q.L.length d1 B2 q.C.length d2),.tuple #[.string E,.int .i64 0],.string E,.int .i64 0,Ya,Yb,Yc,Yd,Ye,Yf,Yg,Yh,Yi,Yj,Yk,Yl,Ym,Yn,Yo,Yp,Yq,Yr,Ys,Yt,Yu,Yv,Yw,Yx,Yy,Yz,Za,Zb,Zc,Zd,Ze,Zf,Zg,Zh,Zi,Zj,Zk,Zl,Zm,Zn,Zo,Zp,Zq,Zr,Zs,Zt,Zu,Zv,Zw,Zx,Zy,Zz,Ua,Ub,Uc,Ud,Ue,Uf,Ug,Uh,Ui,Uj,Uk,Ul,Um,Un,Uo,Up,Uq,Ur,Us,Ut,Uu,Uv,Uw,Ux,Uy,Uz,Va,Vb,Vc,Vd,Ve,Vf,Vg,Vh,Vi],defers:=[] } W2) :
  wpList Tryz.prog (opsOf Tryz.f5 3) Q (opsOf Tryz.f5 3).toList { tmps:=#[x0,x1,.slice A0 n0 cp0,x3,x4,x5,x6,x7,x8,x9,Xa,Xb,Xc,Xd,Xe,Xf,Xg,Xh,Xi,Xj,Xk,Xl,Xm,Xn,Xo,Xp,Xq,Xr,Xs,Xt,Xu,Xv,Xw,Xx,Xy,Xz,Ya,Yb,Yc,Yd,Ye,Yf,Yg,Yh,Yi,Yj,Yk,Yl,Ym,Yn,Yo,Yp,Yq,Yr,Ys,Yt,Yu,Yv,Yw,Yx,Yy,Yz,Za,Zb,Zc,Zd,Ze,Zf,Zg,Zh,Zi,Zj,Zk,Zl,Zm,Zn,Zo,Zp,Zq,Zr,Zs,Zt,Zu,Zv,Zw,Zx,Zy,Zz,Ua,Ub,Uc,Ud,Ue,Uf,Ug,Uh,Ui,Uj,Uk,Ul,Um,Un,Uo,Up,Uq,Ur,Us,Ut,Uu,Uv,Uw,Ux,Uy,Uz,Va,Vb,Vc,Vd,Ve,Vf,Vg,Vh,Vi],defers:=[] } W0:=by
 refine line_start ?_
 refine lineP (i:=0) (v:=.slice A0 n0 cp0) rfl (by kernel_rfl) ?_
 simp only [Act.put,zz0,zz1,zz2]
 refine line_call13 (i:=1) (at_nth rfl) (by kernel_rfl) (fun wy=>by kernel_rfl) ((HR.out W0 (Below.refl _ _)).mono ?_)
 rintro e W1 ⟨B1,d1,B2,d2,rfl,hL,hC,hb⟩
 refine ⟨_,rfl,?_⟩
 simp only [Act.put,zz0,zz1,zz2]
 refine line_call13 (i:=2) (at_nth rfl) (by kernel_rfl) (fun wy=>by kernel_rfl) ((denc_any11 q.k B1 B2 d1 d2 q.L q.C W1 hl hl2 hL hC).mono ?_)
 rintro e W2 ⟨rfl,hb2⟩
 refine ⟨_,congrArg Ending.returned HE.out,?_⟩
 simp only [Act.put,zz0,zz1,zz2]
 refine lineP (i:=3) (v:=.tuple #[.string E,.int .i64 0]) rfl (by kernel_rfl) ?_
 simp only [Act.put,zz0,zz1,zz2]
 refine lineP (i:=4) (v:=.string E) rfl (by kernel_rfl) ?_
 simp only [Act.put,zz0,zz1,zz2]
 refine lineP (i:=5) (v:=.int .i64 0) rfl (by kernel_rfl) ?_
 simp only [Act.put,zz0,zz1,zz2]
 refine lineP (i:=6) (v:=.string E) rfl (by kernel_rfl) ?_
 simp only [Act.put,zz0,zz1,zz2]
 refine lineP (i:=7) (v:=.int .i64 0) rfl (by kernel_rfl) ?_
 simp only [Act.put,zz0,zz1,zz2]
 exact line_done (by decide +kernel) (hQ _ _ _ _ _ (hb.trans (hb2.mono hb.size)))
theorem by13_4 (W0:World) (y m:ByteArray) (H1:Hid (∀ wx:World,(Instr.slice 9 (.string y) none (some (.int .i64 (min (y.size:Int) 500))) none).run Tryz.prog wx=.ok (.string m) wx)) (x0 x1 x2 x4 x5 x6 x7 x8 x9 Xa Xb Xc Xd Xe Xf Xg Xh Xi Xj Xk Xl Xm Xn Xo Xp Xq Xr Xs Xt Xu Xv Xw Xx Xy Xz Ya Yb Yc Yd Ye Yf Yg Yh Yi Yj Yk Yl Ym Yn Yo Yp Yq Yr Ys Yt Yu Yv Yw Yx Yy Yz Za Zb Zc Zd Ze Zf Zg Zh Zi Zj Zk Zl Zm Zn Zo Zp Zq Zr Zs Zt Zu Zv Zw Zx Zy Zz Ua Ub Uc Ud Ue Uf Ug Uh Ui Uj Uk Ul Um Un Uo Up Uq Ur Us Ut Uu Uv Uw Ux Uy Uz Va Vb Vc Vd Ve Vf Vg Vh Vi:Value) (Q:Exit→Act→World→Prop) (hQ: Q .normal { tmps:=#[x0,x1,x2,.string y,x4,x5,x6,x7,x8,x9,Xa,Xb,Xc,Xd,Xe,.string m,Xg,Xh,Xi,Xj,Xk,Xl,Xm,Xn,Xo,Xp,Xq,Xr,Xs,Xt,Xu,Xv,Xw,Xx,Xy,Xz,.string y,.string y,.int .i64 (y.size:Int),.int .i64 (min (y.size:Int) 500),.string m,Yf,Yg,Yh,Yi,Yj,Yk,Yl,Ym,Yn,Yo,Yp,Yq,Yr,Ys,Yt,Yu,Yv,Yw,Yx,Yy,Yz,Za,Zb,Zc,Zd,Ze,Zf,Zg,Zh,Zi,Zj,Zk,Zl,Zm,Zn,Zo,Zp,Zq,Zr,Zs,Zt,Zu,Zv,Zw,Zx,Zy,Zz,Ua,Ub,Uc,Ud,Ue,Uf,Ug,Uh,Ui,Uj,Uk,Ul,Um,Un,Uo,Up,Uq,Ur,Us,Ut,Uu,Uv,Uw,Ux,Uy,Uz,Va,Vb,Vc,Vd,Ve,Vf,Vg,Vh,Vi],defers:=[] } W0) :
  wpList Tryz.prog (opsOf Tryz.f5 4) Q (opsOf Tryz.f5 4).toList { tmps:=#[x0,x1,x2,.string y,x4,x5,x6,x7,x8,x9,Xa,Xb,Xc,Xd,Xe,Xf,Xg,Xh,Xi,Xj,Xk,Xl,Xm,Xn,Xo,Xp,Xq,Xr,Xs,Xt,Xu,Xv,Xw,Xx,Xy,Xz,Ya,Yb,Yc,Yd,Ye,Yf,Yg,Yh,Yi,Yj,Yk,Yl,Ym,Yn,Yo,Yp,Yq,Yr,Ys,Yt,Yu,Yv,Yw,Yx,Yy,Yz,Za,Zb,Zc,Zd,Ze,Zf,Zg,Zh,Zi,Zj,Zk,Zl,Zm,Zn,Zo,Zp,Zq,Zr,Zs,Zt,Zu,Zv,Zw,Zx,Zy,Zz,Ua,Ub,Uc,Ud,Ue,Uf,Ug,Uh,Ui,Uj,Uk,Ul,Um,Un,Uo,Up,Uq,Ur,Us,Ut,Uu,Uv,Uw,Ux,Uy,Uz,Va,Vb,Vc,Vd,Ve,Vf,Vg,Vh,Vi],defers:=[] } W0:=by
 refine line_start ?_
 refine lineP (i:=0) (v:=.string y) rfl (by kernel_rfl) ?_
 simp only [Act.put,zz0,zz1,zz2]
 refine lineP (i:=1) (v:=.string y) rfl (by kernel_rfl) ?_
 simp only [Act.put,zz0,zz1,zz2]
 refine lineP (i:=2) (v:=.int .i64 (y.size:Int)) rfl (by go_simp) ?_
 simp only [Act.put,zz0,zz1,zz2]
 refine lineP (i:=3) (v:=.int .i64 (min (y.size:Int) 500)) rfl (by go_simp) ?_
 simp only [Act.put,zz0,zz1,zz2]
 refine lineP (i:=4) (v:=.string m) rfl (by (have hs1:=H1.out;go_simp)) ?_
 simp only [Act.put,zz0,zz1,zz2]
 refine lineP (i:=5) (v:=.string m) rfl (by kernel_rfl) ?_
 simp only [Act.put,zz0,zz1,zz2]
 exact line_done (by decide +kernel) (hQ)
theorem by13_5 (W0:World) (at_ k:Int) (E:ByteArray) (HPK:Hid (∀ W,Calls Tryz.prog 11 #[.int .i64 at_,.int .i64 (E.size:Int)] W fun e w'=>e=.returned (.int .i64 k)∧W=w')) (x0 x1 x2 x3 x5 x6 x7 x8 x9 Xa Xb Xc Xe Xf Xg Xh Xi Xj Xk Xl Xm Xn Xo Xp Xq Xr Xs Xt Xu Xv Xw Xx Xy Xz Ya Yb Yc Yd Ye Yf Yg Yh Yi Yj Yk Yl Ym Yn Yo Yp Yq Yr Ys Yt Yu Yv Yw Yx Yy Yz Za Zb Zc Zd Ze Zf Zg Zh Zi Zj Zk Zl Zm Zn Zo Zp Zq Zr Zs Zt Zu Zv Zw Zx Zy Zz Ua Ub Uc Ud Ue Uf Ug Uh Ui Uj Uk Ul Um Un Uo Up Uq Ur Us Ut Uu Uv Uw Ux Uy Uz Va Vb Vc Vd Ve Vf Vg Vh Vi:Value) (Q:Exit→Act→World→Prop) (hQ: Q .normal { tmps:=#[x0,x1,x2,x3,.int .i64 at_,x5,x6,x7,x8,x9,Xa,Xb,Xc,.string E,Xe,Xf,.int .i64 k,Xh,Xi,Xj,Xk,Xl,Xm,Xn,Xo,Xp,Xq,Xr,Xs,Xt,Xu,Xv,Xw,Xx,Xy,Xz,Ya,Yb,Yc,Yd,Ye,.int .i64 at_,.string E,.int .i64 (E.size:Int),.int .i64 k,Yj,Yk,Yl,Ym,Yn,Yo,Yp,Yq,Yr,Ys,Yt,Yu,Yv,Yw,Yx,Yy,Yz,Za,Zb,Zc,Zd,Ze,Zf,Zg,Zh,Zi,Zj,Zk,Zl,Zm,Zn,Zo,Zp,Zq,Zr,Zs,Zt,Zu,Zv,Zw,Zx,Zy,Zz,Ua,Ub,Uc,Ud,Ue,Uf,Ug,Uh,Ui,Uj,Uk,Ul,Um,Un,Uo,Up,Uq,Ur,Us,Ut,Uu,Uv,Uw,Ux,Uy,Uz,Va,Vb,Vc,Vd,Ve,Vf,Vg,Vh,Vi],defers:=[] } W0) :
  wpList Tryz.prog (opsOf Tryz.f5 5) Q (opsOf Tryz.f5 5).toList { tmps:=#[x0,x1,x2,x3,.int .i64 at_,x5,x6,x7,x8,x9,Xa,Xb,Xc,.string E,Xe,Xf,Xg,Xh,Xi,Xj,Xk,Xl,Xm,Xn,Xo,Xp,Xq,Xr,Xs,Xt,Xu,Xv,Xw,Xx,Xy,Xz,Ya,Yb,Yc,Yd,Ye,Yf,Yg,Yh,Yi,Yj,Yk,Yl,Ym,Yn,Yo,Yp,Yq,Yr,Ys,Yt,Yu,Yv,Yw,Yx,Yy,Yz,Za,Zb,Zc,Zd,Ze,Zf,Zg,Zh,Zi,Zj,Zk,Zl,Zm,Zn,Zo,Zp,Zq,Zr,Zs,Zt,Zu,Zv,Zw,Zx,Zy,Zz,Ua,Ub,Uc,Ud,Ue,Uf,Ug,Uh,Ui,Uj,Uk,Ul,Um,Un,Uo,Up,Uq,Ur,Us,Ut,Uu,Uv,Uw,Ux,Uy,Uz,Va,Vb,Vc,Vd,Ve,Vf,Vg,Vh,Vi],defers:=[] } W0:=by
 refine line_start ?_
 refine lineP (i:=0) (v:=.int .i64 at_) rfl (by kernel_rfl) ?_
 simp only [Act.put,zz0,zz1,zz2]
 refine lineP (i:=1) (v:=.string E) rfl (by kernel_rfl) ?_
 simp only [Act.put,zz0,zz1,zz2]
 refine lineP (i:=2) (v:=.int .i64 (E.size:Int)) rfl (by go_simp) ?_
 simp only [Act.put,zz0,zz1,zz2]
 refine line_call13 (i:=3) (at_nth rfl) (by kernel_rfl) (fun wy=>by kernel_rfl) ((HPK.out W0).mono ?_)
 rintro e W1 ⟨rfl,rfl⟩
 refine ⟨_,rfl,?_⟩
 simp only [Act.put,zz0,zz1,zz2]
 refine lineP (i:=4) (v:=.int .i64 k) rfl (by kernel_rfl) ?_
 simp only [Act.put,zz0,zz1,zz2]
 exact line_done (by decide +kernel) (hQ)
theorem by13_6 (W0:World) (m:ByteArray) (x0 x1 x2 x3 x4 x5 x6 x7 x8 x9 Xa Xb Xc Xd Xe Xg Xh Xi Xj Xk Xl Xm Xn Xo Xp Xq Xr Xs Xt Xu Xv Xw Xx Xy Xz Ya Yb Yc Yd Ye Yf Yg Yh Yi Yj Yk Yl Ym Yn Yo Yp Yq Yr Ys Yt Yu Yv Yw Yx Yy Yz Za Zb Zc Zd Ze Zf Zg Zh Zi Zj Zk Zl Zm Zn Zo Zp Zq Zr Zs Zt Zu Zv Zw Zx Zy Zz Ua Ub Uc Ud Ue Uf Ug Uh Ui Uj Uk Ul Um Un Uo Up Uq Ur Us Ut Uu Uv Uw Ux Uy Uz Va Vb Vc Vd Ve Vf Vg Vh Vi:Value) (Q:Exit→Act→World→Prop) (hQ: Q .normal { tmps:=#[x0,x1,x2,x3,x4,x5,x6,x7,x8,x9,Xa,Xb,Xc,Xd,Xe,.string m,Xg,.int .i64 (min (m.size:Int) 2),Xi,Xj,Xk,Xl,Xm,Xn,Xo,Xp,Xq,Xr,Xs,Xt,Xu,Xv,Xw,Xx,Xy,Xz,Ya,Yb,Yc,Yd,Ye,Yf,Yg,Yh,Yi,.string m,.int .i64 (m.size:Int),.int .i64 (min (m.size:Int) 2),Ym,Yn,Yo,Yp,Yq,Yr,Ys,Yt,Yu,Yv,Yw,Yx,Yy,Yz,Za,Zb,Zc,Zd,Ze,Zf,Zg,Zh,Zi,Zj,Zk,Zl,Zm,Zn,Zo,Zp,Zq,Zr,Zs,Zt,Zu,Zv,Zw,Zx,Zy,Zz,Ua,Ub,Uc,Ud,Ue,Uf,Ug,Uh,Ui,Uj,Uk,Ul,Um,Un,Uo,Up,Uq,Ur,Us,Ut,Uu,Uv,Uw,Ux,Uy,Uz,Va,Vb,Vc,Vd,Ve,Vf,Vg,Vh,Vi],defers:=[] } W0) :
  wpList Tryz.prog (opsOf Tryz.f5 6) Q (opsOf Tryz.f5 6).toList { tmps:=#[x0,x1,x2,x3,x4,x5,x6,x7,x8,x9,Xa,Xb,Xc,Xd,Xe,.string m,Xg,Xh,Xi,Xj,Xk,Xl,Xm,Xn,Xo,Xp,Xq,Xr,Xs,Xt,Xu,Xv,Xw,Xx,Xy,Xz,Ya,Yb,Yc,Yd,Ye,Yf,Yg,Yh,Yi,Yj,Yk,Yl,Ym,Yn,Yo,Yp,Yq,Yr,Ys,Yt,Yu,Yv,Yw,Yx,Yy,Yz,Za,Zb,Zc,Zd,Ze,Zf,Zg,Zh,Zi,Zj,Zk,Zl,Zm,Zn,Zo,Zp,Zq,Zr,Zs,Zt,Zu,Zv,Zw,Zx,Zy,Zz,Ua,Ub,Uc,Ud,Ue,Uf,Ug,Uh,Ui,Uj,Uk,Ul,Um,Un,Uo,Up,Uq,Ur,Us,Ut,Uu,Uv,Uw,Ux,Uy,Uz,Va,Vb,Vc,Vd,Ve,Vf,Vg,Vh,Vi],defers:=[] } W0:=by
 refine line_start ?_
 refine lineP (i:=0) (v:=.string m) rfl (by kernel_rfl) ?_
 simp only [Act.put,zz0,zz1,zz2]
 refine lineP (i:=1) (v:=.int .i64 (m.size:Int)) rfl (by go_simp) ?_
 simp only [Act.put,zz0,zz1,zz2]
 refine lineP (i:=2) (v:=.int .i64 (min (m.size:Int) 2)) rfl (by go_simp) ?_
 simp only [Act.put,zz0,zz1,zz2]
 refine lineP (i:=3) (v:=.int .i64 (min (m.size:Int) 2)) rfl (by kernel_rfl) ?_
 simp only [Act.put,zz0,zz1,zz2]
 exact line_done (by decide +kernel) (hQ)
theorem by13_7 (W0:World) (x m xa ma xb:ByteArray) (k:Int) (hk:0≤k∧k≤100000) (H1:Hid (∀ wx:World,(Instr.slice 9 (.string x) none (some (.int .i64 k)) none).run Tryz.prog wx=.ok (.string xa) wx)) (H2:Hid (∀ wx:World,(Instr.slice 9 (.string m) none (some (.int .i64 (min (m.size:Int) 2))) none).run Tryz.prog wx=.ok (.string ma) wx)) (H3:Hid (∀ wx:World,(Instr.slice 9 (.string x) (some (.int .i64 (min (k + min (m.size:Int) 2) (x.size:Int)))) none none).run Tryz.prog wx=.ok (.string xb) wx)) (Q1:Hid (¬ 9223372036854775807 < xa.size + ma.size)) (Q2:Hid (¬ 9223372036854775807 < (xa ++ ma).size + xb.size)) (Q3:Hid (¬ 9223372036854775807 < xa.size + ma.size + xb.size)) (x0 x1 x2 x3 x4 x5 x6 x7 x8 x9 Xa Xb Xc Xe Xi Xj Xk Xl Xm Xn Xo Xp Xq Xr Xs Xt Xu Xv Xw Xx Xy Xz Ya Yb Yc Yd Ye Yf Yg Yh Yi Yj Yk Yl Ym Yn Yo Yp Yq Yr Ys Yt Yu Yv Yw Yx Yy Yz Za Zb Zc Zd Ze Zf Zg Zh Zi Zj Zk Zl Zm Zn Zo Zp Zq Zr Zs Zt Zu Zv Zw Zx Zy Zz Ua Ub Uc Ud Ue Uf Ug Uh Ui Uj Uk Ul Um Un Uo Up Uq Ur Us Ut Uu Uv Uw Ux Uy Uz Va Vb Vc Vd Ve Vf Vg Vh Vi:Value) :
  (Code.region 7 (opsOf Tryz.f5 7) true).wp Tryz.prog (fun ex YY W=>ex=.normal∧YY.defers=[]∧∃ (DD:Nat),YY.tmps=#[x0,x1,x2,x3,x4,x5,x6,x7,x8,x9,Xa,Xb,Xc,.string x,Xe,.string m,.int .i64 k,.int .i64 (min (m.size:Int) 2),Xi,Xj,Xk,Xl,Xm,Xn,Xo,Xp,Xq,Xr,Xs,Xt,Xu,Xv,Xw,Xx,Xy,Xz,Ya,Yb,Yc,Yd,Ye,Yf,Yg,Yh,Yi,Yj,Yk,Yl,.string m,.string x,.string x,.int .i64 k,.string xa,.string m,.int .i64 (min (m.size:Int) 2),.string ma,.string (xa ++ ma),.string x,.int .i64 k,.int .i64 (min (m.size:Int) 2),.int .i64 (k + min (m.size:Int) 2),.string x,.int .i64 (x.size:Int),.int .i64 (min (k + min (m.size:Int) 2) (x.size:Int)),.string xb,.string (xa ++ ma ++ xb),.slice (some ⟨DD,0,none⟩) 3 3,.int .i64 3,.int .i64 0,Zh,Zi,Zj,Zk,Zl,Zm,Zn,Zo,Zp,Zq,Zr,Zs,Zt,Zu,Zv,Zw,Zx,Zy,Zz,Ua,Ub,Uc,Ud,Ue,Uf,Ug,Uh,Ui,Uj,Uk,Ul,Um,Un,Uo,Up,Uq,Ur,Us,Ut,Uu,Uv,Uw,Ux,Uy,Uz,Va,Vb,Vc,Vd,Ve,Vf,Vg,Vh,Vi]∧Below W0.heap.size W0 W∧Is W DD 9 #[.string m,.string x,.string (xa ++ ma ++ xb)]∧W0.heap.size≤DD) { tmps:=#[x0,x1,x2,x3,x4,x5,x6,x7,x8,x9,Xa,Xb,Xc,.string x,Xe,.string m,.int .i64 k,.int .i64 (min (m.size:Int) 2),Xi,Xj,Xk,Xl,Xm,Xn,Xo,Xp,Xq,Xr,Xs,Xt,Xu,Xv,Xw,Xx,Xy,Xz,Ya,Yb,Yc,Yd,Ye,Yf,Yg,Yh,Yi,Yj,Yk,Yl,Ym,Yn,Yo,Yp,Yq,Yr,Ys,Yt,Yu,Yv,Yw,Yx,Yy,Yz,Za,Zb,Zc,Zd,Ze,Zf,Zg,Zh,Zi,Zj,Zk,Zl,Zm,Zn,Zo,Zp,Zq,Zr,Zs,Zt,Zu,Zv,Zw,Zx,Zy,Zz,Ua,Ub,Uc,Ud,Ue,Uf,Ug,Uh,Ui,Uj,Uk,Ul,Um,Un,Uo,Up,Uq,Ur,Us,Ut,Uu,Uv,Uw,Ux,Uy,Uz,Va,Vb,Vc,Vd,Ve,Vf,Vg,Vh,Vi],defers:=[] } W0:=by
 have hB:Below W0.heap.size W0 (W0.drewN 1):=belowN (Below.refl _ _) 1
 generalize hQ:(fun (ex:Exit) (YY:Act) (W:World)=>ex=.normal∧YY.defers=[]∧∃ (DD:Nat),YY.tmps=#[x0,x1,x2,x3,x4,x5,x6,x7,x8,x9,Xa,Xb,Xc,.string x,Xe,.string m,.int .i64 k,.int .i64 (min (m.size:Int) 2),Xi,Xj,Xk,Xl,Xm,Xn,Xo,Xp,Xq,Xr,Xs,Xt,Xu,Xv,Xw,Xx,Xy,Xz,Ya,Yb,Yc,Yd,Ye,Yf,Yg,Yh,Yi,Yj,Yk,Yl,.string m,.string x,.string x,.int .i64 k,.string xa,.string m,.int .i64 (min (m.size:Int) 2),.string ma,.string (xa ++ ma),.string x,.int .i64 k,.int .i64 (min (m.size:Int) 2),.int .i64 (k + min (m.size:Int) 2),.string x,.int .i64 (x.size:Int),.int .i64 (min (k + min (m.size:Int) 2) (x.size:Int)),.string xb,.string (xa ++ ma ++ xb),.slice (some ⟨DD,0,none⟩) 3 3,.int .i64 3,.int .i64 0,Zh,Zi,Zj,Zk,Zl,Zm,Zn,Zo,Zp,Zq,Zr,Zs,Zt,Zu,Zv,Zw,Zx,Zy,Zz,Ua,Ub,Uc,Ud,Ue,Uf,Ug,Uh,Ui,Uj,Uk,Ul,Um,Un,Uo,Up,Uq,Ur,Us,Ut,Uu,Uv,Uw,Ux,Uy,Uz,Va,Vb,Vc,Vd,Ve,Vf,Vg,Vh,Vi]∧Below W0.heap.size W0 W∧Is W DD 9 #[.string m,.string x,.string (xa ++ ma ++ xb)]∧W0.heap.size≤DD)=Q
 have HQN:∀ c a W,¬ Q (.panic c) a W:=fun c a W h=>by subst hQ;exact nomatch h.1
 have ST18:∀ (W:World) (DD:Nat),Below W0.heap.size W0 W→Is W DD 9 #[.string m,.string x,.string (xa ++ ma ++ xb)]→W0.heap.size≤DD→wpAnyH Tryz.prog .any (opsOf Tryz.f5 7) Q (fun W=>Below W0.heap.size W0 W) 0 #[true,true,true,true,true,true,true,true,true,true,true,true,true,true,true,true,true,true,true,true,true] { tmps:=#[x0,x1,x2,x3,x4,x5,x6,x7,x8,x9,Xa,Xb,Xc,.string x,Xe,.string m,.int .i64 k,.int .i64 (min (m.size:Int) 2),Xi,Xj,Xk,Xl,Xm,Xn,Xo,Xp,Xq,Xr,Xs,Xt,Xu,Xv,Xw,Xx,Xy,Xz,Ya,Yb,Yc,Yd,Ye,Yf,Yg,Yh,Yi,Yj,Yk,Yl,.string m,.string x,.string x,.int .i64 k,.string xa,.string m,.int .i64 (min (m.size:Int) 2),.string ma,.string (xa ++ ma),.string x,.int .i64 k,.int .i64 (min (m.size:Int) 2),.int .i64 (k + min (m.size:Int) 2),.string x,.int .i64 (x.size:Int),.int .i64 (min (k + min (m.size:Int) 2) (x.size:Int)),.string xb,.string (xa ++ ma ++ xb),.slice (some ⟨DD,0,none⟩) 3 3,.int .i64 3,.int .i64 0,Zh,Zi,Zj,Zk,Zl,Zm,Zn,Zo,Zp,Zq,Zr,Zs,Zt,Zu,Zv,Zw,Zx,Zy,Zz,Ua,Ub,Uc,Ud,Ue,Uf,Ug,Uh,Ui,Uj,Uk,Ul,Um,Un,Uo,Up,Uq,Ur,Us,Ut,Uu,Uv,Uw,Ux,Uy,Uz,Va,Vb,Vc,Vd,Ve,Vf,Vg,Vh,Vi],defers:=[] } W:=by
  intro W DD hB iD hD
  refine wpAnyH_done (by kernel_rfl) ?_ _
  subst hQ
  exact ⟨rfl,rfl,DD,rfl,hB,iD,hD⟩
 have ST:∀ (W:World),Below W0.heap.size W0 W→wpAnyH Tryz.prog .any (opsOf Tryz.f5 7) Q (fun W=>Below W0.heap.size W0 W) 2 #[true,true,true,true,true,true,true,true,true,true,true,true,true,true,true,true,true,true,false,false,true] { tmps:=#[x0,x1,x2,x3,x4,x5,x6,x7,x8,x9,Xa,Xb,Xc,.string x,Xe,.string m,.int .i64 k,.int .i64 (min (m.size:Int) 2),Xi,Xj,Xk,Xl,Xm,Xn,Xo,Xp,Xq,Xr,Xs,Xt,Xu,Xv,Xw,Xx,Xy,Xz,Ya,Yb,Yc,Yd,Ye,Yf,Yg,Yh,Yi,Yj,Yk,Yl,.string m,.string x,.string x,.int .i64 k,.string xa,.string m,.int .i64 (min (m.size:Int) 2),.string ma,.string (xa ++ ma),.string x,.int .i64 k,.int .i64 (min (m.size:Int) 2),.int .i64 (k + min (m.size:Int) 2),.string x,.int .i64 (x.size:Int),.int .i64 (min (k + min (m.size:Int) 2) (x.size:Int)),.string xb,.string (xa ++ ma ++ xb),Ze,Zf,.int .i64 0,Zh,Zi,Zj,Zk,Zl,Zm,Zn,Zo,Zp,Zq,Zr,Zs,Zt,Zu,Zv,Zw,Zx,Zy,Zz,Ua,Ub,Uc,Ud,Ue,Uf,Ug,Uh,Ui,Uj,Uk,Ul,Um,Un,Uo,Up,Uq,Ur,Us,Ut,Uu,Uv,Uw,Ux,Uy,Uz,Va,Vb,Vc,Vd,Ve,Vf,Vg,Vh,Vi],defers:=[] } W:=by
  intro W hB
  refine wpAnyH_ready (by kernel_rfl) (by simp) (AllReadyH.cons (i:=18) (at_nth rfl) ?_ (AllReadyH.nil))
  ·
   have iD:=Is.new W 9 #[.string m,.string x,.string (xa ++ ma ++ xb)]
   have hD:=hB.size
   replace hB:=hB.alloc hB.size (.cells #[.string m,.string x,.string (xa ++ ma ++ xb)] 9)
   refine arm10_value (v:=.slice (some ⟨W.heap.size,0,none⟩) 3 3) (w':=W.alloc (.cells #[.string m,.string x,.string (xa ++ ma ++ xb)] 9)) (by kernel_rfl) (by go_simp) hB ?_
   simp only [Act.put,zz0,zz1,zz2]
   refine wpP (i:=19) (v:=.int .i64 3) HQN rfl (fun w hSw=>by go_simp) hB ?_
   simp only [Act.put,zz0,zz1,zz2]
   exact ST18 _ _ hB iD hD
 refine wp_region_held_drew (S:=fun W=>Below W0.heap.size W0 W) (by kernel_rfl) hB (fun hS=>?_)
 change wpAnyH _ _ (opsOf Tryz.f5 7) _ _ 21 (Array.replicate 21 false) _ (W0.drewN 1)
 clear hS
 replace hB:Below W0.heap.size W0 (W0.drewN 1):=belowN (Below.refl _ _) 1
 refine wpP (i:=0) (v:=.string m) HQN rfl (fun w hSw=>by kernel_rfl) hB ?_
 simp only [Act.put,zz0,zz1,zz2]
 refine wpP (i:=1) (v:=.string x) HQN rfl (fun w hSw=>by kernel_rfl) hB ?_
 simp only [Act.put,zz0,zz1,zz2]
 refine wpP (i:=2) (v:=.string x) HQN rfl (fun w hSw=>by kernel_rfl) hB ?_
 simp only [Act.put,zz0,zz1,zz2]
 refine wpP (i:=3) (v:=.int .i64 k) HQN rfl (fun w hSw=>by kernel_rfl) hB ?_
 simp only [Act.put,zz0,zz1,zz2]
 refine wpP (i:=4) (v:=.string xa) HQN rfl (fun w hSw=>by (have hs1:=H1.out;go_simp)) hB ?_
 simp only [Act.put,zz0,zz1,zz2]
 refine wpP (i:=5) (v:=.string m) HQN rfl (fun w hSw=>by kernel_rfl) hB ?_
 simp only [Act.put,zz0,zz1,zz2]
 refine wpP (i:=6) (v:=.int .i64 (min (m.size:Int) 2)) HQN rfl (fun w hSw=>by kernel_rfl) hB ?_
 simp only [Act.put,zz0,zz1,zz2]
 refine wpP (i:=7) (v:=.string ma) HQN rfl (fun w hSw=>by (have hs1:=H2.out;go_simp)) hB ?_
 simp only [Act.put,zz0,zz1,zz2]
 refine wpP (i:=8) (v:=.string (xa ++ ma)) HQN rfl (fun w hSw=>by (have q1:=Q1.out;go_simp)) hB ?_
 simp only [Act.put,zz0,zz1,zz2]
 refine wpP (i:=9) (v:=.string x) HQN rfl (fun w hSw=>by kernel_rfl) hB ?_
 simp only [Act.put,zz0,zz1,zz2]
 refine wpP (i:=10) (v:=.int .i64 k) HQN rfl (fun w hSw=>by kernel_rfl) hB ?_
 simp only [Act.put,zz0,zz1,zz2]
 refine wpP (i:=11) (v:=.int .i64 (min (m.size:Int) 2)) HQN rfl (fun w hSw=>by kernel_rfl) hB ?_
 simp only [Act.put,zz0,zz1,zz2]
 refine wpP (i:=12) (v:=.int .i64 (k + min (m.size:Int) 2)) HQN rfl (fun w hSw=>by exact exec_bin10 rfl rfl rfl (addI10 (by omega) _) (by go_simp)) hB ?_
 simp only [Act.put,zz0,zz1,zz2]
 refine wpP (i:=13) (v:=.string x) HQN rfl (fun w hSw=>by kernel_rfl) hB ?_
 simp only [Act.put,zz0,zz1,zz2]
 refine wpP (i:=14) (v:=.int .i64 (x.size:Int)) HQN rfl (fun w hSw=>by go_simp) hB ?_
 simp only [Act.put,zz0,zz1,zz2]
 refine wpP (i:=15) (v:=.int .i64 (min (k + min (m.size:Int) 2) (x.size:Int))) HQN rfl (fun w hSw=>by go_simp) hB ?_
 simp only [Act.put,zz0,zz1,zz2]
 refine wpP (i:=16) (v:=.string xb) HQN rfl (fun w hSw=>by (have hs1:=H3.out;go_simp)) hB ?_
 simp only [Act.put,zz0,zz1,zz2]
 refine wpP (i:=17) (v:=.string (xa ++ ma ++ xb)) HQN rfl (fun w hSw=>by (have q2:=Q2.out;have q3:=Q3.out;go_simp)) hB ?_
 simp only [Act.put,zz0,zz1,zz2]
 refine wpP (i:=20) (v:=.int .i64 0) HQN rfl (fun w hSw=>by kernel_rfl) hB ?_
 simp only [Act.put,zz0,zz1,zz2]
 exact ST _ hB
theorem by13_9 (W0:World) (DD off nr cr j:Nat) (X:ByteArray) (hj:j < nr) (hx:W0.cell? ⟨DD,off + j,none⟩=some (.string X)) (x0 x1 x2 x3 x4 x5 x6 x7 x8 x9 Xa Xb Xc Xd Xe Xf Xg Xh Xi Xj Xk Xl Xm Xn Xo Xp Xq Xr Xs Xt Xu Xv Xw Xx Xy Xz Ya Yb Yc Yd Ye Yf Yg Yh Yi Yj Yk Yl Ym Yn Yo Yp Yq Yr Ys Yt Yu Yv Yw Yx Yy Yz Za Zb Zc Zd Zf Zh Zi Zj Zk Zl Zm Zn Zo Zp Zq Zr Zs Zt Zu Zv Zw Zx Zy Zz Ua Ub Uc Ud Ue Uf Ug Uh Ui Uj Uk Ul Um Un Uo Up Uq Ur Us Ut Uu Uv Uw Ux Uy Uz Va Vb Vc Vd Ve Vf Vg Vh Vi:Value) (Q:Exit→Act→World→Prop) (hQ: Q .normal { tmps:=#[x0,x1,x2,x3,x4,x5,x6,x7,x8,x9,Xa,Xb,Xc,Xd,Xe,Xf,Xg,Xh,Xi,.string X,Xk,Xl,Xm,Xn,Xo,Xp,Xq,Xr,Xs,Xt,Xu,Xv,Xw,Xx,Xy,Xz,Ya,Yb,Yc,Yd,Ye,Yf,Yg,Yh,Yi,Yj,Yk,Yl,Ym,Yn,Yo,Yp,Yq,Yr,Ys,Yt,Yu,Yv,Yw,Yx,Yy,Yz,Za,Zb,Zc,Zd,.slice (some ⟨DD,off,none⟩) nr cr,Zf,.int .i64 (j:Int),Zh,.pointer (some ⟨DD,off + j,none⟩),.string X,Zk,Zl,Zm,Zn,Zo,Zp,Zq,Zr,Zs,Zt,Zu,Zv,Zw,Zx,Zy,Zz,Ua,Ub,Uc,Ud,Ue,Uf,Ug,Uh,Ui,Uj,Uk,Ul,Um,Un,Uo,Up,Uq,Ur,Us,Ut,Uu,Uv,Uw,Ux,Uy,Uz,Va,Vb,Vc,Vd,Ve,Vf,Vg,Vh,Vi],defers:=[] } W0) :
  wpList Tryz.prog (opsOf Tryz.f5 9) Q (opsOf Tryz.f5 9).toList { tmps:=#[x0,x1,x2,x3,x4,x5,x6,x7,x8,x9,Xa,Xb,Xc,Xd,Xe,Xf,Xg,Xh,Xi,Xj,Xk,Xl,Xm,Xn,Xo,Xp,Xq,Xr,Xs,Xt,Xu,Xv,Xw,Xx,Xy,Xz,Ya,Yb,Yc,Yd,Ye,Yf,Yg,Yh,Yi,Yj,Yk,Yl,Ym,Yn,Yo,Yp,Yq,Yr,Ys,Yt,Yu,Yv,Yw,Yx,Yy,Yz,Za,Zb,Zc,Zd,.slice (some ⟨DD,off,none⟩) nr cr,Zf,.int .i64 (j:Int),Zh,Zi,Zj,Zk,Zl,Zm,Zn,Zo,Zp,Zq,Zr,Zs,Zt,Zu,Zv,Zw,Zx,Zy,Zz,Ua,Ub,Uc,Ud,Ue,Uf,Ug,Uh,Ui,Uj,Uk,Ul,Um,Un,Uo,Up,Uq,Ur,Us,Ut,Uu,Uv,Uw,Ux,Uy,Uz,Va,Vb,Vc,Vd,Ve,Vf,Vg,Vh,Vi],defers:=[] } W0:=by
 refine line_start ?_
 refine lineP (i:=0) (v:=.pointer (some ⟨DD,off + j,none⟩)) rfl (by (have hk':=hj;go_simp)) ?_
 simp only [Act.put,zz0,zz1,zz2]
 refine lineP (i:=1) (v:=.string X) rfl (by (have hc:=hx;go_simp)) ?_
 simp only [Act.put,zz0,zz1,zz2]
 refine lineP (i:=2) (v:=.string X) rfl (by kernel_rfl) ?_
 simp only [Act.put,zz0,zz1,zz2]
 exact line_done (by decide +kernel) (hQ)
theorem by13_10 (W0:World) (D1:Nat) (s:Srv13) (A:Option Addr) (c:Nat) (X:ByteArray) (i1:Is W0 D1 33 (srvA s A c)) (hI:InS W0 s.S A c) (x0 x1 x2 x3 x4 x5 x6 x7 x8 x9 Xa Xb Xd Xe Xf Xg Xh Xi Xk Xl Xm Xn Xo Xp Xq Xr Xs Xt Xu Xv Xw Xx Xy Xz Ya Yb Yc Yd Ye Yf Yg Yh Yi Yj Yk Yl Ym Yn Yo Yp Yq Yr Ys Yt Yu Yv Yw Yx Yy Yz Za Zb Zc Zd Ze Zf Zg Zh Zi Zj Zk Zl Zm Zn Zo Zp Zq Zr Zs Zt Zu Zv Zw Zx Zy Zz Ua Ub Uc Ud Ue Uf Ug Uh Ui Uj Uk Ul Um Un Uo Up Uq Ur Us Ut Uu Uv Uw Ux Uy Uz Va Vb Vc Vd Ve Vf Vg Vh Vi:Value) (Q:Exit→Act→World→Prop) (hQ:∀ DN A2 c2 W2,BoxS13 W0 W2 DN (step13 s X).1 A2 c2→Q .normal { tmps:=#[x0,x1,x2,x3,x4,x5,x6,x7,x8,x9,Xa,Xb,.pointer (some ⟨D1,0,none⟩),Xd,Xe,Xf,Xg,Xh,Xi,.string X,.pointer (some ⟨DN,0,none⟩),.string (step13 s X).2,Xm,Xn,Xo,Xp,Xq,Xr,Xs,Xt,Xu,Xv,Xw,Xx,Xy,Xz,Ya,Yb,Yc,Yd,Ye,Yf,Yg,Yh,Yi,Yj,Yk,Yl,Ym,Yn,Yo,Yp,Yq,Yr,Ys,Yt,Yu,Yv,Yw,Yx,Yy,Yz,Za,Zb,Zc,Zd,Ze,Zf,Zg,Zh,Zi,Zj,.tuple #[.agg (srvA (step13 s X).1 A2 c2),.string (step13 s X).2],.agg (srvA s A c),.string X,.tuple #[.agg (srvA (step13 s X).1 A2 c2),.string (step13 s X).2],.agg (srvA (step13 s X).1 A2 c2),.string (step13 s X).2,Zq,Zr,Zs,Zt,Zu,Zv,Zw,Zx,Zy,Zz,Ua,Ub,Uc,Ud,Ue,Uf,Ug,Uh,Ui,Uj,Uk,Ul,Um,Un,Uo,Up,Uq,Ur,Us,Ut,Uu,Uv,Uw,Ux,Uy,Uz,Va,Vb,Vc,Vd,Ve,Vf,Vg,Vh,Vi],defers:=[] } W2) :
  wpList Tryz.prog (opsOf Tryz.f5 10) Q (opsOf Tryz.f5 10).toList { tmps:=#[x0,x1,x2,x3,x4,x5,x6,x7,x8,x9,Xa,Xb,.pointer (some ⟨D1,0,none⟩),Xd,Xe,Xf,Xg,Xh,Xi,.string X,Xk,Xl,Xm,Xn,Xo,Xp,Xq,Xr,Xs,Xt,Xu,Xv,Xw,Xx,Xy,Xz,Ya,Yb,Yc,Yd,Ye,Yf,Yg,Yh,Yi,Yj,Yk,Yl,Ym,Yn,Yo,Yp,Yq,Yr,Ys,Yt,Yu,Yv,Yw,Yx,Yy,Yz,Za,Zb,Zc,Zd,Ze,Zf,Zg,Zh,Zi,Zj,Zk,Zl,Zm,Zn,Zo,Zp,Zq,Zr,Zs,Zt,Zu,Zv,Zw,Zx,Zy,Zz,Ua,Ub,Uc,Ud,Ue,Uf,Ug,Uh,Ui,Uj,Uk,Ul,Um,Un,Uo,Up,Uq,Ur,Us,Ut,Uu,Uv,Uw,Ux,Uy,Uz,Va,Vb,Vc,Vd,Ve,Vf,Vg,Vh,Vi],defers:=[] } W0:=by
 refine line_start ?_
 refine lineP (i:=0) (v:=.agg (srvA s A c)) rfl (by exact exec_load10 rfl rfl (run_loadVar_row _ _ 33 33 _ (0,0) _ i1 Tryz.underlying33 rfl infoSrv13)) ?_
 simp only [Act.put,zz0,zz1,zz2]
 refine lineP (i:=1) (v:=.string X) rfl (by kernel_rfl) ?_
 simp only [Act.put,zz0,zz1,zz2]
 refine line_call13 (i:=2) (at_nth rfl) (by kernel_rfl) (fun wy=>by kernel_rfl) (((sstep_any13 s A c X W0 hI)).mono ?_)
 rintro e W1 ⟨A2,c2,rfl,hX,hb⟩
 refine ⟨_,rfl,?_⟩
 simp only [Act.put,zz0,zz1,zz2]
 refine lineP (i:=3) (v:=.tuple #[.agg (srvA (step13 s X).1 A2 c2),.string (step13 s X).2]) rfl (by kernel_rfl) ?_
 simp only [Act.put,zz0,zz1,zz2]
 refine lineP (i:=4) (v:=.agg (srvA (step13 s X).1 A2 c2)) rfl (by kernel_rfl) ?_
 simp only [Act.put,zz0,zz1,zz2]
 refine lineP (i:=5) (v:=.string (step13 s X).2) rfl (by kernel_rfl) ?_
 simp only [Act.put,zz0,zz1,zz2]
 refine line_step13 (i := 6) (o := { dst := some 20, op := Op.alloc 33, type := 0, pos := "law.go:160", after := #[], guard := none }) (w' := W1.alloc (.cells #[.slice none 0 0, .int .i64 0, .int .i64 0, .int .i64 0] 33)) (v := .pointer (some ⟨W1.heap.size, 0, none⟩)) (by kernel_rfl) (by kernel_rfl) (by go_simp) ?_
 simp only [Act.put,zz0,zz1,zz2]
 refine line_skip13 (i := 7) (o := { dst := none, op := Op.store 33 (Operand.tmp 20) (Operand.tmp 76), type := 0, pos := "law.go:160", after := #[{ on := 6, ground := Ground.data }, { on := 4, ground := Ground.data }, { on := 2, ground := Ground.chain }, { on := 0, ground := Ground.phase }, { on := 1, ground := Ground.phase }, { on := 2, ground := Ground.phase }, { on := 3, ground := Ground.phase }, { on := 4, ground := Ground.phase }, { on := 5, ground := Ground.textOnly Departure.lateStores }, { on := 6, ground := Ground.phase }], guard := none }) (w' := (W1.alloc (.cells #[.slice none 0 0, .int .i64 0, .int .i64 0, .int .i64 0] 33)).setRow W1.heap.size (srvA (step13 s X).1 A2 c2)) (by kernel_rfl) (by kernel_rfl) (run_row10 rfl rfl rfl (Is.new W1 33 #[.slice none 0 0, .int .i64 0, .int .i64 0, .int .i64 0]) infoSrv13 rfl (srvA_one13 _ _ _)) ?_
 try simp only [Act.put]
 refine lineP (i:=8) (v:=.string (step13 s X).2) rfl (by kernel_rfl) ?_
 simp only [Act.put,zz0,zz1,zz2]
 exact line_done (by decide +kernel) (hQ _ _ _ _ (box_ofS13 hX hb))
theorem by13_11 (W0:World) (y:ByteArray) (x0 x1 x2 x3 x4 x5 x6 x7 x8 x9 Xa Xb Xc Xd Xe Xf Xg Xh Xi Xj Xk Xm Xn Xo Xp Xq Xr Xs Xt Xu Xv Xw Xx Xy Xz Ya Yb Yc Yd Ye Yf Yg Yh Yi Yj Yk Yl Ym Yn Yo Yp Yq Yr Ys Yt Yu Yv Yw Yx Yy Yz Za Zb Zc Zd Ze Zf Zg Zh Zi Zj Zk Zl Zm Zn Zo Zp Zq Zr Zs Zt Zu Zv Zw Zx Zy Zz Ua Ub Uc Ud Ue Uf Ug Uh Ui Uj Uk Ul Um Un Uo Up Uq Ur Us Ut Uu Uv Uw Ux Uy Uz Va Vb Vc Vd Ve Vf Vg Vh Vi:Value) (Q:Exit→Act→World→Prop) (hQ:∀ DN B2 d2 W2,BoxR13 W0 W2 DN (readV11 y).1 B2 d2→Q .normal { tmps:=#[x0,x1,x2,x3,x4,x5,x6,x7,x8,x9,Xa,Xb,Xc,Xd,Xe,Xf,Xg,Xh,Xi,Xj,Xk,.string y,.pointer (some ⟨DN,0,none⟩),.int .i64 (readV11 y).2,Xo,Xp,Xq,Xr,Xs,Xt,Xu,Xv,Xw,Xx,Xy,Xz,Ya,Yb,Yc,Yd,Ye,Yf,Yg,Yh,Yi,Yj,Yk,Yl,Ym,Yn,Yo,Yp,Yq,Yr,Ys,Yt,Yu,Yv,Yw,Yx,Yy,Yz,Za,Zb,Zc,Zd,Ze,Zf,Zg,Zh,Zi,Zj,Zk,Zl,Zm,Zn,Zo,Zp,.tuple #[.agg (rspA (readV11 y).1.k (readV11 y).1.st B2 (readV11 y).1.C.length d2 (readV11 y).1.many (readV11 y).1.room),.int .i64 (readV11 y).2],.string y,.tuple #[.agg (rspA (readV11 y).1.k (readV11 y).1.st B2 (readV11 y).1.C.length d2 (readV11 y).1.many (readV11 y).1.room),.int .i64 (readV11 y).2],.agg (rspA (readV11 y).1.k (readV11 y).1.st B2 (readV11 y).1.C.length d2 (readV11 y).1.many (readV11 y).1.room),.int .i64 (readV11 y).2,Zv,Zw,Zx,Zy,Zz,Ua,Ub,Uc,Ud,Ue,Uf,Ug,Uh,Ui,Uj,Uk,Ul,Um,Un,Uo,Up,Uq,Ur,Us,Ut,Uu,Uv,Uw,Ux,Uy,Uz,Va,Vb,Vc,Vd,Ve,Vf,Vg,Vh,Vi],defers:=[] } W2) :
  wpList Tryz.prog (opsOf Tryz.f5 11) Q (opsOf Tryz.f5 11).toList { tmps:=#[x0,x1,x2,x3,x4,x5,x6,x7,x8,x9,Xa,Xb,Xc,Xd,Xe,Xf,Xg,Xh,Xi,Xj,Xk,.string y,Xm,Xn,Xo,Xp,Xq,Xr,Xs,Xt,Xu,Xv,Xw,Xx,Xy,Xz,Ya,Yb,Yc,Yd,Ye,Yf,Yg,Yh,Yi,Yj,Yk,Yl,Ym,Yn,Yo,Yp,Yq,Yr,Ys,Yt,Yu,Yv,Yw,Yx,Yy,Yz,Za,Zb,Zc,Zd,Ze,Zf,Zg,Zh,Zi,Zj,Zk,Zl,Zm,Zn,Zo,Zp,Zq,Zr,Zs,Zt,Zu,Zv,Zw,Zx,Zy,Zz,Ua,Ub,Uc,Ud,Ue,Uf,Ug,Uh,Ui,Uj,Uk,Ul,Um,Un,Uo,Up,Uq,Ur,Us,Ut,Uu,Uv,Uw,Ux,Uy,Uz,Va,Vb,Vc,Vd,Ve,Vf,Vg,Vh,Vi],defers:=[] } W0:=by
 refine line_start ?_
 refine lineP (i:=0) (v:=.string y) rfl (by kernel_rfl) ?_
 simp only [Act.put,zz0,zz1,zz2]
 refine line_call13 (i:=1) (at_nth rfl) (by kernel_rfl) (fun wy=>by kernel_rfl) ((dread_any11 y W0).mono ?_)
 rintro e W1 ⟨B2,d2,rfl,hC,hb⟩
 refine ⟨_,rfl,?_⟩
 simp only [Act.put,zz0,zz1,zz2]
 refine lineP (i:=2) (v:=.tuple #[.agg (rspA (readV11 y).1.k (readV11 y).1.st B2 (readV11 y).1.C.length d2 (readV11 y).1.many (readV11 y).1.room),.int .i64 (readV11 y).2]) rfl (by kernel_rfl) ?_
 simp only [Act.put,zz0,zz1,zz2]
 refine lineP (i:=3) (v:=.agg (rspA (readV11 y).1.k (readV11 y).1.st B2 (readV11 y).1.C.length d2 (readV11 y).1.many (readV11 y).1.room)) rfl (by kernel_rfl) ?_
 simp only [Act.put,zz0,zz1,zz2]
 refine lineP (i:=4) (v:=.int .i64 (readV11 y).2) rfl (by kernel_rfl) ?_
 simp only [Act.put,zz0,zz1,zz2]
 refine line_step13 (i := 5) (o := { dst := some 22, op := Op.alloc 45, type := 0, pos := "law.go:161", after := #[], guard := none }) (w' := W1.alloc (.cells (rspA 0 0 none 0 0 0 0) 45)) (v := .pointer (some ⟨W1.heap.size, 0, none⟩)) (by kernel_rfl) (by kernel_rfl) (by go_simp) ?_
 simp only [Act.put,zz0,zz1,zz2]
 refine line_skip13 (i := 6) (o := { dst := none, op := Op.store 45 (Operand.tmp 22) (Operand.tmp 81), type := 0, pos := "law.go:161", after := #[{ on := 5, ground := Ground.data }, { on := 3, ground := Ground.data }, { on := 1, ground := Ground.chain }, { on := 0, ground := Ground.phase }, { on := 1, ground := Ground.phase }, { on := 2, ground := Ground.phase }, { on := 3, ground := Ground.phase }, { on := 4, ground := Ground.textOnly Departure.lateStores }, { on := 5, ground := Ground.phase }], guard := none }) (w' := (W1.alloc (.cells (rspA 0 0 none 0 0 0 0) 45)).setRow W1.heap.size (rspA (readV11 y).1.k (readV11 y).1.st B2 (readV11 y).1.C.length d2 (readV11 y).1.many (readV11 y).1.room)) (by kernel_rfl) (by kernel_rfl) (run_row10 rfl rfl rfl (Is.new W1 45 (rspA 0 0 none 0 0 0 0)) infoRsp13 rfl (rspA_one13 _ _ _ _ _ _ _)) ?_
 try simp only [Act.put]
 refine lineP (i:=7) (v:=.int .i64 (readV11 y).2) rfl (by kernel_rfl) ?_
 simp only [Act.put,zz0,zz1,zz2]
 exact line_done (by decide +kernel) (hQ _ _ _ _ (box_ofR13 hb))
theorem by13_12 (W0:World) (X:ByteArray) (x0 x1 x2 x3 x4 x5 x6 x7 x8 x9 Xa Xb Xc Xd Xe Xf Xg Xh Xi Xk Xl Xm Xn Xo Xp Xq Xr Xs Xt Xu Xv Xw Xx Xy Xz Ya Yb Yc Yd Ye Yf Yg Yh Yi Yj Yk Yl Ym Yn Yo Yp Yq Yr Ys Yt Yu Yv Yw Yx Yy Yz Za Zb Zc Zd Ze Zf Zg Zh Zi Zj Zk Zl Zm Zn Zo Zp Zq Zr Zs Zt Zu Zv Zw Zx Zy Zz Ua Ub Uc Ud Ue Uf Ug Uh Ui Uj Uk Ul Um Un Uo Up Uq Ur Us Ut Uu Uv Uw Ux Uy Uz Va Vb Vc Vd Ve Vf Vg Vh Vi:Value) (Q:Exit→Act→World→Prop) (hQ:∀ DN B1 d1 B2 d2 W2,BoxQ13 W0 W2 DN (decV11 X).1 B1 d1 B2 d2→Q .normal { tmps:=#[x0,x1,x2,x3,x4,x5,x6,x7,x8,x9,Xa,Xb,Xc,Xd,Xe,Xf,Xg,Xh,Xi,.string X,Xk,Xl,Xm,Xn,.pointer (some ⟨DN,0,none⟩),.int .i64 (decV11 X).2,Xq,Xr,Xs,Xt,Xu,Xv,Xw,Xx,Xy,Xz,Ya,Yb,Yc,Yd,Ye,Yf,Yg,Yh,Yi,Yj,Yk,Yl,Ym,Yn,Yo,Yp,Yq,Yr,Ys,Yt,Yu,Yv,Yw,Yx,Yy,Yz,Za,Zb,Zc,Zd,Ze,Zf,Zg,Zh,Zi,Zj,Zk,Zl,Zm,Zn,Zo,Zp,Zq,Zr,Zs,Zt,Zu,.tuple #[.agg (reqA (decV11 X).1.k B1 (decV11 X).1.L.length d1 B2 (decV11 X).1.C.length d2),.int .i64 (decV11 X).2],.string X,.tuple #[.agg (reqA (decV11 X).1.k B1 (decV11 X).1.L.length d1 B2 (decV11 X).1.C.length d2),.int .i64 (decV11 X).2],.agg (reqA (decV11 X).1.k B1 (decV11 X).1.L.length d1 B2 (decV11 X).1.C.length d2),.int .i64 (decV11 X).2,Ua,Ub,Uc,Ud,Ue,Uf,Ug,Uh,Ui,Uj,Uk,Ul,Um,Un,Uo,Up,Uq,Ur,Us,Ut,Uu,Uv,Uw,Ux,Uy,Uz,Va,Vb,Vc,Vd,Ve,Vf,Vg,Vh,Vi],defers:=[] } W2) :
  wpList Tryz.prog (opsOf Tryz.f5 12) Q (opsOf Tryz.f5 12).toList { tmps:=#[x0,x1,x2,x3,x4,x5,x6,x7,x8,x9,Xa,Xb,Xc,Xd,Xe,Xf,Xg,Xh,Xi,.string X,Xk,Xl,Xm,Xn,Xo,Xp,Xq,Xr,Xs,Xt,Xu,Xv,Xw,Xx,Xy,Xz,Ya,Yb,Yc,Yd,Ye,Yf,Yg,Yh,Yi,Yj,Yk,Yl,Ym,Yn,Yo,Yp,Yq,Yr,Ys,Yt,Yu,Yv,Yw,Yx,Yy,Yz,Za,Zb,Zc,Zd,Ze,Zf,Zg,Zh,Zi,Zj,Zk,Zl,Zm,Zn,Zo,Zp,Zq,Zr,Zs,Zt,Zu,Zv,Zw,Zx,Zy,Zz,Ua,Ub,Uc,Ud,Ue,Uf,Ug,Uh,Ui,Uj,Uk,Ul,Um,Un,Uo,Up,Uq,Ur,Us,Ut,Uu,Uv,Uw,Ux,Uy,Uz,Va,Vb,Vc,Vd,Ve,Vf,Vg,Vh,Vi],defers:=[] } W0:=by
 refine line_start ?_
 refine lineP (i:=0) (v:=.string X) rfl (by kernel_rfl) ?_
 simp only [Act.put,zz0,zz1,zz2]
 refine line_call13 (i:=1) (at_nth rfl) (by kernel_rfl) (fun wy=>by kernel_rfl) ((ddec_any11 X W0).mono ?_)
 rintro e W1 ⟨B1,d1,B2,d2,rfl,hL,hC,hb⟩
 refine ⟨_,rfl,?_⟩
 simp only [Act.put,zz0,zz1,zz2]
 refine lineP (i:=2) (v:=.tuple #[.agg (reqA (decV11 X).1.k B1 (decV11 X).1.L.length d1 B2 (decV11 X).1.C.length d2),.int .i64 (decV11 X).2]) rfl (by kernel_rfl) ?_
 simp only [Act.put,zz0,zz1,zz2]
 refine lineP (i:=3) (v:=.agg (reqA (decV11 X).1.k B1 (decV11 X).1.L.length d1 B2 (decV11 X).1.C.length d2)) rfl (by kernel_rfl) ?_
 simp only [Act.put,zz0,zz1,zz2]
 refine lineP (i:=4) (v:=.int .i64 (decV11 X).2) rfl (by kernel_rfl) ?_
 simp only [Act.put,zz0,zz1,zz2]
 refine line_step13 (i := 5) (o := { dst := some 24, op := Op.alloc 26, type := 0, pos := "law.go:162", after := #[], guard := none }) (w' := W1.alloc (.cells #[.int .i64 0, .slice none 0 0, .slice none 0 0] 26)) (v := .pointer (some ⟨W1.heap.size, 0, none⟩)) (by kernel_rfl) (by kernel_rfl) (by go_simp) ?_
 simp only [Act.put,zz0,zz1,zz2]
 refine line_skip13 (i := 6) (o := { dst := none, op := Op.store 26 (Operand.tmp 24) (Operand.tmp 86), type := 0, pos := "law.go:162", after := #[{ on := 5, ground := Ground.data }, { on := 3, ground := Ground.data }, { on := 1, ground := Ground.chain }, { on := 0, ground := Ground.phase }, { on := 1, ground := Ground.phase }, { on := 2, ground := Ground.phase }, { on := 3, ground := Ground.phase }, { on := 4, ground := Ground.textOnly Departure.lateStores }, { on := 5, ground := Ground.phase }], guard := none }) (w' := (W1.alloc (.cells #[.int .i64 0, .slice none 0 0, .slice none 0 0] 26)).setRow W1.heap.size (reqA (decV11 X).1.k B1 (decV11 X).1.L.length d1 B2 (decV11 X).1.C.length d2)) (by kernel_rfl) (by kernel_rfl) (run_row10 rfl rfl rfl (Is.new W1 26 #[.int .i64 0, .slice none 0 0, .slice none 0 0]) infoReq13 rfl (reqA_one13 _ _ _ _ _ _ _)) ?_
 try simp only [Act.put]
 refine lineP (i:=7) (v:=.int .i64 (decV11 X).2) rfl (by kernel_rfl) ?_
 simp only [Act.put,zz0,zz1,zz2]
 exact line_done (by decide +kernel) (hQ _ _ _ _ _ _ (box_ofQ13 hL hC hb))
theorem by13_13a (W0:World) (D12 D20 D22 D24:Nat) (t:Srv13) (At:Option Addr) (ct:Nat) (ka st many room:Int) (R1 B1 B2:Option Addr) (n1 r1 n2 d2 n3 d3:Nat) (hr:right13 t=true) (i20:Is W0 D20 33 (srvA t At ct)) (hT:InS W0 t.S At ct) (i22:Is W0 D22 45 (rspA ka st R1 n1 r1 many room)) (i24:Is W0 D24 26 (reqA ka B1 n2 d2 B2 n3 d3)) (x0 x1 x2 x3 x4 x5 x6 x7 x8 x9 Xa Xb Xd Xe Xf Xg Xh Xi Xj Xl Xq Xr Xs Xt Xu Xv Xw Xx Xy Xz Ya Yb Yc Yd Ye Yf Yg Yh Yi Yj Yk Yl Ym Yn Yo Yp Yq Yr Ys Yt Yu Yv Yw Yx Yy Yz Za Zb Zc Zd Ze Zf Zg Zh Zi Zj Zk Zl Zm Zn Zo Zp Zq Zr Zs Zt Zu Zv Zw Zx Zy Zz Ua Ub Uc Ud Ue Uf Ug Uh Ui Uj Uk Ul Um Un Uo Up Uq Ur Us Ut Uu Uv Uw Ux Uy Uz Va Vb Vc Vd Ve Vf Vg Vh Vi:Value) (Q:Exit→Act→World→Prop) (hQ:∀ W1,Below W0.heap.size W0 W1→Q .normal { tmps:=#[x0,x1,x2,x3,x4,x5,x6,x7,x8,x9,Xa,Xb,.pointer (some ⟨D12,0,none⟩),Xd,Xe,Xf,Xg,Xh,Xi,Xj,.pointer (some ⟨D20,0,none⟩),Xl,.pointer (some ⟨D22,0,none⟩),.int .i64 0,.pointer (some ⟨D24,0,none⟩),.int .i64 0,Xq,Xr,Xs,Xt,Xu,Xv,Xw,Xx,Xy,Xz,Ya,Yb,Yc,Yd,Ye,Yf,Yg,Yh,Yi,Yj,Yk,Yl,Ym,Yn,Yo,Yp,Yq,Yr,Ys,Yt,Yu,Yv,Yw,Yx,Yy,Yz,Za,Zb,Zc,Zd,Ze,Zf,Zg,Zh,Zi,Zj,Zk,Zl,Zm,Zn,Zo,Zp,Zq,Zr,Zs,Zt,Zu,Zv,Zw,Zx,Zy,Zz,.int .i64 0,.bool false,.bool false,.agg (srvA t At ct),.bool true,.bool false,.bool false,.bool false,.int .i64 0,.bool false,.bool false,undef,undef,undef,undef,undef,undef,undef,undef,undef,.bool false,.bool false,.bool false,.int .i64 0,.bool true,.bool true,.pointer (some ⟨D22,0,none⟩),.int .i64 ka,.pointer (some ⟨D24,0,none⟩),.int .i64 ka,.bool false,.bool false,.bool false,Vh,Vi],defers:=[] } W1) :
  wpList Tryz.prog (opsOf Tryz.f5 13) Q (opsOf Tryz.f5 13).toList { tmps:=#[x0,x1,x2,x3,x4,x5,x6,x7,x8,x9,Xa,Xb,.pointer (some ⟨D12,0,none⟩),Xd,Xe,Xf,Xg,Xh,Xi,Xj,.pointer (some ⟨D20,0,none⟩),Xl,.pointer (some ⟨D22,0,none⟩),.int .i64 0,.pointer (some ⟨D24,0,none⟩),.int .i64 0,Xq,Xr,Xs,Xt,Xu,Xv,Xw,Xx,Xy,Xz,Ya,Yb,Yc,Yd,Ye,Yf,Yg,Yh,Yi,Yj,Yk,Yl,Ym,Yn,Yo,Yp,Yq,Yr,Ys,Yt,Yu,Yv,Yw,Yx,Yy,Yz,Za,Zb,Zc,Zd,Ze,Zf,Zg,Zh,Zi,Zj,Zk,Zl,Zm,Zn,Zo,Zp,Zq,Zr,Zs,Zt,Zu,Zv,Zw,Zx,Zy,Zz,Ua,Ub,Uc,Ud,Ue,Uf,Ug,Uh,Ui,Uj,Uk,Ul,Um,Un,Uo,Up,Uq,Ur,Us,Ut,Uu,Uv,Uw,Ux,Uy,Uz,Va,Vb,Vc,Vd,Ve,Vf,Vg,Vh,Vi],defers:=[] } W0:=by
 refine line_start ?_
 refine lineP (i:=0) (v:=.int .i64 0) rfl (by kernel_rfl) ?_
 simp only [Act.put,zz0,zz1,zz2]
 refine lineP (i:=1) (v:=.bool false) rfl (by exact exec_bin10 rfl rfl rfl (neE_no10 _ _) (by go_simp)) ?_
 simp only [Act.put,zz0,zz1,zz2]
 refine lineP (i:=2) (v:=.bool false) rfl (by kernel_rfl) ?_
 simp only [Act.put,zz0,zz1,zz2]
 refine lineP (i:=3) (v:=.agg (srvA t At ct)) rfl (by exact exec_load10 rfl rfl (run_loadVar_row _ _ 33 33 _ (0,0) _ i20 Tryz.underlying33 rfl infoSrv13)) ?_
 simp only [Act.put,zz0,zz1,zz2]
 refine line_call13 (i:=4) (at_nth rfl) (by kernel_rfl) (fun wy=>by kernel_rfl) ((sright_any13 t At ct W0 hT).mono ?_)
 rintro e W1 ⟨rfl,hb⟩
 refine ⟨.bool true,by rw [hr],?_⟩
 simp only [Act.put,zz0,zz1,zz2]
 replace i22:=i22.below hb i22.lt
 replace i24:=i24.below hb i24.lt
 refine lineP (i:=5) (v:=.bool false) rfl (by go_simp) ?_
 simp only [Act.put,zz0,zz1,zz2]
 refine lineP (i:=6) (v:=.bool false) rfl (by kernel_rfl) ?_
 simp only [Act.put,zz0,zz1,zz2]
 refine lineP (i:=7) (v:=.bool false) rfl (by kernel_rfl) ?_
 simp only [Act.put,zz0,zz1,zz2]
 refine lineP (i:=8) (v:=.int .i64 0) rfl (by kernel_rfl) ?_
 simp only [Act.put,zz0,zz1,zz2]
 refine lineP (i:=9) (v:=.bool false) rfl (by exact exec_bin10 rfl rfl rfl (neE_no10 _ _) (by go_simp)) ?_
 simp only [Act.put,zz0,zz1,zz2]
 refine lineP (i:=10) (v:=.bool false) rfl (by kernel_rfl) ?_
 simp only [Act.put,zz0,zz1,zz2]
 refine lineO (i:=11) rfl ?_
 simp only [Act.put,zz0,zz1,zz2]
 refine lineO (i:=12) rfl ?_
 simp only [Act.put,zz0,zz1,zz2]
 refine lineO (i:=13) rfl ?_
 simp only [Act.put,zz0,zz1,zz2]
 refine lineO (i:=14) rfl ?_
 simp only [Act.put,zz0,zz1,zz2]
 refine lineO (i:=15) rfl ?_
 simp only [Act.put,zz0,zz1,zz2]
 refine lineO (i:=16) rfl ?_
 simp only [Act.put,zz0,zz1,zz2]
 refine lineO (i:=17) rfl ?_
 simp only [Act.put,zz0,zz1,zz2]
 refine lineO (i:=18) rfl ?_
 simp only [Act.put,zz0,zz1,zz2]
 refine lineO (i:=19) rfl ?_
 simp only [Act.put,zz0,zz1,zz2]
 refine lineP (i:=20) (v:=.bool false) rfl (by kernel_rfl) ?_
 simp only [Act.put,zz0,zz1,zz2]
 refine lineP (i:=21) (v:=.bool false) rfl (by kernel_rfl) ?_
 simp only [Act.put,zz0,zz1,zz2]
 refine lineP (i:=22) (v:=.bool false) rfl (by kernel_rfl) ?_
 simp only [Act.put,zz0,zz1,zz2]
 refine lineP (i:=23) (v:=.int .i64 0) rfl (by kernel_rfl) ?_
 simp only [Act.put,zz0,zz1,zz2]
 refine lineP (i:=24) (v:=.bool true) rfl (by exact exec_bin10 rfl rfl rfl (eqE_yes10 _ _) (by go_simp)) ?_
 simp only [Act.put,zz0,zz1,zz2]
 refine lineP (i:=25) (v:=.bool true) rfl (by kernel_rfl) ?_
 simp only [Act.put,zz0,zz1,zz2]
 refine lineP (i:=26) (v:=.pointer (some ⟨D22,0,none⟩)) rfl (by go_simp) ?_
 simp only [Act.put,zz0,zz1,zz2]
 refine lineP (i:=27) (v:=.int .i64 ka) rfl (by (have hc:=Is.cell i22 0;go_simp)) ?_
 simp only [Act.put,zz0,zz1,zz2]
 refine lineP (i:=28) (v:=.pointer (some ⟨D24,0,none⟩)) rfl (by go_simp) ?_
 simp only [Act.put,zz0,zz1,zz2]
 refine lineP (i:=29) (v:=.int .i64 ka) rfl (by (have hc:=Is.cell i24 0;go_simp)) ?_
 simp only [Act.put,zz0,zz1,zz2]
 refine lineP (i:=30) (v:=.bool false) rfl (by exact exec_bin10 rfl rfl rfl (neI_no10 rfl _) (by go_simp)) ?_
 simp only [Act.put,zz0,zz1,zz2]
 refine lineP (i:=31) (v:=.bool false) rfl (by kernel_rfl) ?_
 simp only [Act.put,zz0,zz1,zz2]
 refine lineP (i:=32) (v:=.bool false) rfl (by kernel_rfl) ?_
 simp only [Act.put,zz0,zz1,zz2]
 exact line_done (by decide +kernel) (hQ _ hb)
theorem by13_13b (W0:World) (D12 D20 D22 D24:Nat) (t:Srv13) (At:Option Addr) (ct:Nat) (f st many room:Int) (As:Option Addr) (cs:Nat) (R1:Option Addr) (n1 r1:Nat) (hr:right13 t=true) (i20:Is W0 D20 33 (srvA t At ct)) (hT:InS W0 t.S At ct) (i22:Is W0 D22 45 (rspA 0 st R1 n1 r1 many room)) (hf:f≠0) (hlen:t.S.B.length≤4096) (i12:Is W0 D12 33 (srvA t As cs)) (hI:InS W0 t.S As cs) (x0 x1 x2 x3 x4 x5 x6 x7 x8 x9 Xa Xb Xd Xe Xf Xg Xh Xi Xj Xl Xq Xr Xs Xt Xu Xv Xw Xx Xy Xz Ya Yb Yc Yd Ye Yf Yg Yh Yi Yj Yk Yl Ym Yn Yo Yp Yq Yr Ys Yt Yu Yv Yw Yx Yy Yz Za Zb Zc Zd Ze Zf Zg Zh Zi Zj Zk Zl Zm Zn Zo Zp Zq Zr Zs Zt Zu Zv Zw Zx Zy Zz Ua Ub Uc Ud Ue Uf Ug Uh Ui Uj Uk Ul Um Un Uo Up Uq Ur Us Ut Uu Uv Uw Ux Uy Uz Va Vb Vc Vd Ve Vf Vg Vh Vi:Value) (Q:Exit→Act→World→Prop) (hQ:∀ W1,Below W0.heap.size W0 W1→Q .normal { tmps:=#[x0,x1,x2,x3,x4,x5,x6,x7,x8,x9,Xa,Xb,.pointer (some ⟨D12,0,none⟩),Xd,Xe,Xf,Xg,Xh,Xi,Xj,.pointer (some ⟨D20,0,none⟩),Xl,.pointer (some ⟨D22,0,none⟩),.int .i64 0,.pointer (some ⟨D24,0,none⟩),.int .i64 f,Xq,Xr,Xs,Xt,Xu,Xv,Xw,Xx,Xy,Xz,Ya,Yb,Yc,Yd,Ye,Yf,Yg,Yh,Yi,Yj,Yk,Yl,Ym,Yn,Yo,Yp,Yq,Yr,Ys,Yt,Yu,Yv,Yw,Yx,Yy,Yz,Za,Zb,Zc,Zd,Ze,Zf,Zg,Zh,Zi,Zj,Zk,Zl,Zm,Zn,Zo,Zp,Zq,Zr,Zs,Zt,Zu,Zv,Zw,Zx,Zy,Zz,.int .i64 0,.bool false,.bool false,.agg (srvA t At ct),.bool true,.bool false,.bool false,.bool false,.int .i64 f,.bool true,.bool true,.pointer (some ⟨D22,0,none⟩),.int .i64 0,.bool false,.bool false,.agg (srvA t At ct),.agg (srvA t As cs),.bool true,.bool false,.bool false,.bool false,.bool false,.bool false,.int .i64 f,.bool false,.bool false,undef,undef,undef,undef,undef,.bool false,.bool false,Vh,Vi],defers:=[] } W1) :
  wpList Tryz.prog (opsOf Tryz.f5 13) Q (opsOf Tryz.f5 13).toList { tmps:=#[x0,x1,x2,x3,x4,x5,x6,x7,x8,x9,Xa,Xb,.pointer (some ⟨D12,0,none⟩),Xd,Xe,Xf,Xg,Xh,Xi,Xj,.pointer (some ⟨D20,0,none⟩),Xl,.pointer (some ⟨D22,0,none⟩),.int .i64 0,.pointer (some ⟨D24,0,none⟩),.int .i64 f,Xq,Xr,Xs,Xt,Xu,Xv,Xw,Xx,Xy,Xz,Ya,Yb,Yc,Yd,Ye,Yf,Yg,Yh,Yi,Yj,Yk,Yl,Ym,Yn,Yo,Yp,Yq,Yr,Ys,Yt,Yu,Yv,Yw,Yx,Yy,Yz,Za,Zb,Zc,Zd,Ze,Zf,Zg,Zh,Zi,Zj,Zk,Zl,Zm,Zn,Zo,Zp,Zq,Zr,Zs,Zt,Zu,Zv,Zw,Zx,Zy,Zz,Ua,Ub,Uc,Ud,Ue,Uf,Ug,Uh,Ui,Uj,Uk,Ul,Um,Un,Uo,Up,Uq,Ur,Us,Ut,Uu,Uv,Uw,Ux,Uy,Uz,Va,Vb,Vc,Vd,Ve,Vf,Vg,Vh,Vi],defers:=[] } W0:=by
 refine line_start ?_
 refine lineP (i:=0) (v:=.int .i64 0) rfl (by kernel_rfl) ?_
 simp only [Act.put,zz0,zz1,zz2]
 refine lineP (i:=1) (v:=.bool false) rfl (by exact exec_bin10 rfl rfl rfl (neE_no10 _ _) (by go_simp)) ?_
 simp only [Act.put,zz0,zz1,zz2]
 refine lineP (i:=2) (v:=.bool false) rfl (by kernel_rfl) ?_
 simp only [Act.put,zz0,zz1,zz2]
 refine lineP (i:=3) (v:=.agg (srvA t At ct)) rfl (by exact exec_load10 rfl rfl (run_loadVar_row _ _ 33 33 _ (0,0) _ i20 Tryz.underlying33 rfl infoSrv13)) ?_
 simp only [Act.put,zz0,zz1,zz2]
 refine line_call13 (i:=4) (at_nth rfl) (by kernel_rfl) (fun wy=>by kernel_rfl) ((sright_any13 t At ct W0 hT).mono ?_)
 rintro e W1 ⟨rfl,hb⟩
 refine ⟨.bool true,by rw [hr],?_⟩
 simp only [Act.put,zz0,zz1,zz2]
 replace i22:=i22.below hb i22.lt
 replace i20:=i20.below hb i20.lt
 replace i12:=i12.below hb i12.lt
 replace hT:=hT.keep hb
 replace hI:=hI.keep hb
 refine lineP (i:=5) (v:=.bool false) rfl (by go_simp) ?_
 simp only [Act.put,zz0,zz1,zz2]
 refine lineP (i:=6) (v:=.bool false) rfl (by kernel_rfl) ?_
 simp only [Act.put,zz0,zz1,zz2]
 refine lineP (i:=7) (v:=.bool false) rfl (by kernel_rfl) ?_
 simp only [Act.put,zz0,zz1,zz2]
 refine lineP (i:=8) (v:=.int .i64 f) rfl (by kernel_rfl) ?_
 simp only [Act.put,zz0,zz1,zz2]
 refine lineP (i:=9) (v:=.bool true) rfl (by exact exec_bin10 rfl rfl rfl (neE_yes10 hf _) (by go_simp)) ?_
 simp only [Act.put,zz0,zz1,zz2]
 refine lineP (i:=10) (v:=.bool true) rfl (by kernel_rfl) ?_
 simp only [Act.put,zz0,zz1,zz2]
 refine lineP (i:=11) (v:=.pointer (some ⟨D22,0,none⟩)) rfl (by go_simp) ?_
 simp only [Act.put,zz0,zz1,zz2]
 refine lineP (i:=12) (v:=.int .i64 0) rfl (by (have hc:=Is.cell i22 0;go_simp)) ?_
 simp only [Act.put,zz0,zz1,zz2]
 refine lineP (i:=13) (v:=.bool false) rfl (by exact exec_bin10 rfl rfl rfl (neI_no10 rfl _) (by go_simp)) ?_
 simp only [Act.put,zz0,zz1,zz2]
 refine lineP (i:=14) (v:=.bool false) rfl (by kernel_rfl) ?_
 simp only [Act.put,zz0,zz1,zz2]
 refine lineP (i:=15) (v:=.agg (srvA t At ct)) rfl (by exact exec_load10 rfl rfl (run_loadVar_row _ _ 33 33 _ (0,0) _ i20 Tryz.underlying33 rfl infoSrv13)) ?_
 simp only [Act.put,zz0,zz1,zz2]
 refine lineP (i:=16) (v:=.agg (srvA t As cs)) rfl (by exact exec_load10 rfl rfl (run_loadVar_row _ _ 33 33 _ (0,0) _ i12 Tryz.underlying33 rfl infoSrv13)) ?_
 simp only [Act.put,zz0,zz1,zz2]
 refine line_call13 (i:=17) (at_nth rfl) (by kernel_rfl) (fun wy=>by kernel_rfl) ((dsame13_any t t At As ct cs W1 hlen hT hI).mono ?_)
 rintro e W2 ⟨R,rfl,hR,hb2⟩
 have hR:R=true:=hR.2 rfl
 subst hR
 refine ⟨_,rfl,?_⟩
 simp only [Act.put,zz0,zz1,zz2]
 refine lineP (i:=18) (v:=.bool false) rfl (by go_simp) ?_
 simp only [Act.put,zz0,zz1,zz2]
 refine lineP (i:=19) (v:=.bool false) rfl (by kernel_rfl) ?_
 simp only [Act.put,zz0,zz1,zz2]
 refine lineP (i:=20) (v:=.bool false) rfl (by kernel_rfl) ?_
 simp only [Act.put,zz0,zz1,zz2]
 refine lineP (i:=21) (v:=.bool false) rfl (by kernel_rfl) ?_
 simp only [Act.put,zz0,zz1,zz2]
 refine lineP (i:=22) (v:=.bool false) rfl (by kernel_rfl) ?_
 simp only [Act.put,zz0,zz1,zz2]
 refine lineP (i:=23) (v:=.int .i64 f) rfl (by kernel_rfl) ?_
 simp only [Act.put,zz0,zz1,zz2]
 refine lineP (i:=24) (v:=.bool false) rfl (by exact exec_bin10 rfl rfl rfl (eqE_no10 hf _) (by go_simp)) ?_
 simp only [Act.put,zz0,zz1,zz2]
 refine lineP (i:=25) (v:=.bool false) rfl (by kernel_rfl) ?_
 simp only [Act.put,zz0,zz1,zz2]
 refine lineO (i:=26) rfl ?_
 simp only [Act.put,zz0,zz1,zz2]
 refine lineO (i:=27) rfl ?_
 simp only [Act.put,zz0,zz1,zz2]
 refine lineO (i:=28) rfl ?_
 simp only [Act.put,zz0,zz1,zz2]
 refine lineO (i:=29) rfl ?_
 simp only [Act.put,zz0,zz1,zz2]
 refine lineO (i:=30) rfl ?_
 simp only [Act.put,zz0,zz1,zz2]
 refine lineP (i:=31) (v:=.bool false) rfl (by kernel_rfl) ?_
 simp only [Act.put,zz0,zz1,zz2]
 refine lineP (i:=32) (v:=.bool false) rfl (by kernel_rfl) ?_
 simp only [Act.put,zz0,zz1,zz2]
 exact line_done (by decide +kernel) (hQ _ (hb.trans (hb2.mono hb.size)))
end Go.Proofs.YtmggbbmpckcleaaGreat
