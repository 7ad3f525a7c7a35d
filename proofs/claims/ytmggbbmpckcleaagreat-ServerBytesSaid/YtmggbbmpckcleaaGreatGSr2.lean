import Derived.Test.YtmggbbmpckcleaaGreatGSr1
import Derived.Test.YtmggbbmpckcleaaGreatGWi2
import Derived.Test.YtmggbbmpckcleaaGreatWirW
set_option maxRecDepth 100000
set_option maxHeartbeats 16000000
namespace Go.Proofs.YtmggbbmpckcleaaGreat
open Go.RowKit Go.Shelf
theorem pick13_any (c n:Int) (w:World) (h0:-9223372036854775808≤c) (h1:c≤9223372036854775807) (hn:0 < n) (hn2:n≤9223372036854775807) :
  Calls Tryz.prog 11 #[.int .i64 c,.int .i64 n] w fun e w'=>e=.returned (.int .i64 (pickN c n))∧w=w':=by
 by_cases hc:c < 0
 ·
  have hd:pickN c n=(-(c + 1)) % n:=by simp [pickN,hc]
  rw [hd]
  clear hd
  go_enter Tryz.func11,Tryz.ntmps11
  go_wp2
  go_ret
  refine ⟨?_,rfl⟩
  have e:-((c + 1).tmod n)=(-(c + 1)) % n:=by rw [← Int.neg_tmod,Int.tmod_eq_emod_of_nonneg (by omega)]
  rw [← e]
  rfl
 ·
  have hd:pickN c n=c % n:=by simp [pickN,hc]
  rw [hd]
  clear hd
  go_enter Tryz.func11,Tryz.ntmps11
  go_wp2
  go_ret
  exact ⟨rfl,rfl⟩
theorem dsame13_any (s t:Srv13) (A B:Option Addr) (ca cb:Nat) (w:World) (hl:s.S.B.length≤4096) (hA:InS w s.S A ca) (hB:InS w t.S B cb) :
  Calls Tryz.prog 9 #[srvV s A ca,srvV t B cb] w fun e w'=>∃ R,e=.returned (.bool R)∧(R=true↔s=t)∧Below w.heap.size w w':=by
 obtain ⟨W1,hW1⟩:∃ W1,W1=(w.alloc (.cells (srvA s A ca) 33)).alloc (.cells (srvA t B cb) 33):=⟨_,rfl⟩
 have i1:Is W1 w.heap.size 33 (srvA s A ca):=by rw [hW1];exact heap_alloc2_old _ _ _
 have i2:Is W1 (w.heap.size + 1) 33 (srvA t B cb):=by rw [hW1];exact heap_alloc2_new _ _ _
 have hB1:Below w.heap.size w W1:=by rw [hW1];exact ((Below.refl _ _).alloc (Nat.le_refl _) _).alloc (by simp) _
 have c0:W1.cell? ⟨w.heap.size,3,none⟩=some (.int .i64 s.lim):=i1.cell 3
 have d0:W1.cell? ⟨w.heap.size + 1,3,none⟩=some (.int .i64 t.lim):=i2.cell 3
 have r1:=i1.srv13
 have r2:=i2.srv13
 have HS:=Lib.hid (dsame_any12 s.S t.S A B ca cb W1 hl (hA.keep hB1) (hB.keep hB1))
 clear hA hB i1 i2
 by_cases e1:s.lim=t.lim
 ·
  have HE:=Lib.hid e1
  rw [← e1] at d0
  clear e1
  go_enter Tryz.func9,Tryz.ntmps9
  go_upto_region 1 with (fail)
  rw [← hW1]
  clear hW1
  go_wp2_with (first | (refine wpList_load_midG13 (by kernel_rfl) 31 _ rfl w.heap.size 0 rfl _ _ r1 Tryz.underlying31 rfl infoSto12 ?_) | (refine wpList_load_midG13 (by kernel_rfl) 31 _ rfl (w.heap.size + 1) 0 rfl _ _ r2 Tryz.underlying31 rfl infoSto12 ?_) | (go_at_call 28;refine HS.out.mono ?_;rintro e w1 ⟨R,rfl,hR,hb⟩))
  go_ret
  refine ⟨R,rfl,?_,hB1.trans (hb.mono hB1.size)⟩
  rw [hR]
  have:=HE.out
  obtain ⟨sS,sl⟩:=s
  obtain ⟨tS,tl⟩:=t
  simp only at this
  subst this
  simp
 ·
  have HN:Hid (s≠t):=Lib.hid (fun e=>e1 (congrArg Srv13.lim e))
  clear HS r1 r2
  go_enter Tryz.func9,Tryz.ntmps9
  go_upto_region 1 with (fail)
  rw [← hW1]
  clear hW1
  go_wp2
  go_ret
  exact ⟨false,rfl,⟨fun h=>absurd h (by decide),fun h=>absurd h HN.out⟩,hB1⟩
def kd13 (n:Int):Int:=if n < 3 then 0 else n - 2
def req13:List Int→Req11
 | []=>⟨4,[],[]⟩
 | x :: r=>req11 (kd13 (pickN x 6)) r
theorem req_right13 (R:List Int):right11 (req13 R)=true:=by
 cases R with
 | nil=>decide
 | cons x r=>exact req_right11 _ _
theorem drop13 {W:World} {A:Option Addr} {x:Int} {r:List Int} {c:Nat} (h:InV W A (iV11 (x :: r))) (hc:(x :: r).length≤c):InV W (if c=1 then A else A.map (·.add (1 * 1))) (iV11 r):=fun j u hj=>by
 have hj2:j < r.length:=by have:=(List.getElem?_eq_some_iff.1 hj).1;rwa [List.length_map] at this
 obtain ⟨b,off,rfl,hb,h1⟩:=h (j + 1) u (by rw [iV11,List.map_cons,List.getElem?_cons_succ];exact hj)
 rw [if_neg (by rw [List.length_cons] at hc;omega)]
 exact ⟨b,off + 1,rfl,hb,by rw [← h1,Nat.add_assoc,Nat.add_comm 1 j]⟩
theorem run_from13 (A:Option Addr) (n c K:Nat) (hK:K≤n) (W:World):(Instr.slice 23 (.slice A n c) (some (.int .i64 (K:Int))) none none).run Tryz.prog W=.ok (.slice (if c=K then A else A.map (·.add (K * 1))) (n - K) (c - K)) W:=by
 have h1:(0:Int)≤(K:Int):=by omega
 have h2:(K:Int)≤(n:Int):=by omega
 go_simp
theorem qreq13_any (A:Option Addr) (cap:Nat) (R:List Int) (w:World) (hm:R.length≤9223372036854775807) (hcap:R.length≤cap) (hb:Big11 R) (hc:InV w A (iV11 R)) :
  Calls Tryz.prog 14 #[.slice A R.length cap] w fun r w'=>ReqPost11 (req13 R) w r w':=by
 have i0:Is (w.alloc (.cells #[.int .i64 0,.slice none 0 0,.slice none 0 0] 26)) w.heap.size 26 #[.int .i64 0,.slice none 0 0,.slice none 0 0]:=Is.new _ _ _
 have hB:Below w.heap.size w (w.alloc (.cells #[.int .i64 0,.slice none 0 0,.slice none 0 0] 26)):=(Below.refl _ _).alloc (Nat.le_refl _) _
 cases R with
 | nil =>
  go_enter Tryz.func14,Tryz.ntmps14
  go_wp2_with (refine wpList_store_row rfl 26 _ _ rfl w.heap.size (reqA 4 none 0 0 none 0 0) rfl rfl 26 _ i0 infoReq13 rfl (reqA_one13 _ _ _ _ _ _ _) ?_)
  exact bodyPost_ret (results_cell_row Tryz.results14 _ _ w.heap.size 26 _ (0,0) _ rfl (i0.row _) Tryz.underlying26 rfl infoReq13) rfl (req_post11 (D:=⟨4,[],[]⟩) none none 0 0 rfl (fun j u hj=>by cases hj) (fun j u hj=>by cases hj) (belowRow hB (Nat.le_refl _) _))
 | cons x r =>
  have hx:=hb x List.mem_cons_self
  have hbr:Big11 r:=fun y hy=>hb y (List.mem_cons_of_mem _ hy)
  have PK:=Lib.hid (fun W=>pick13_any x 6 W hx.1 hx.2 (by omega) (by omega))
  have hp:=pickN_bd x 6 (by omega)
  have hkd:-9223372036854775808≤kd13 (pickN x 6)∧kd13 (pickN x 6)≤9223372036854775807:=by unfold kd13;split <;> omega
  have hmr:r.length≤9223372036854775807:=by rw [List.length_cons] at hm;omega
  have HQ:=Lib.hid (fun W (hB:Below w.heap.size w W)=>qreq_any11 (kd13 (pickN x 6)) _ (cap - 1) r W hkd hmr hbr ((drop13 hc hcap).keep hB))
  obtain ⟨b,off,hA,hbl,hcx⟩:=hc 0 (.int .i64 x) rfl
  have hcl:∀ W:World,(Instr.slice 23 (.slice A (r.length + 1) cap) (some (.int .i64 1)) none none).run Tryz.prog W=.ok (.slice (if cap=1 then A else A.map (·.add (1 * 1))) r.length (cap - 1)) W:=fun W=>run_from13 A (r.length + 1) cap 1 (by omega) W
  have HD:=Lib.hid (show req13 (x :: r)=req11 (kd13 (pickN x 6)) r from rfl)
  obtain ⟨A1,hA1⟩:∃ A1,A1=(if cap=1 then A else A.map (·.add (1 * 1))):=⟨_,rfl⟩
  rw [← hA1] at HQ
  simp only [← hA1] at hcl
  clear hA1
  rw [List.length_cons]
  have hk13:([0,0,0,1,2,3]:List Int)[(pickN x 6).toNat]?=some (kd13 (pickN x 6)):=by
   rcases (by omega:pickN x 6=0∨pickN x 6=1∨pickN x 6=2∨pickN x 6=3∨pickN x 6=4∨pickN x 6=5) with e | e | e | e | e | e <;> rw [e] <;> rfl
  generalize kd13 (pickN x 6)=K at *
  obtain ⟨pn,hpn⟩:∃ pn:Nat,pickN x 6=(pn:Int):=⟨_,(Int.toNat_of_nonneg hp.1).symm⟩
  rw [hpn] at hk13 PK hp
  rw [Int.toNat_natCast] at hk13
  clear hpn hkd hc hb hm hcap hmr hbr
  obtain ⟨W1,hW1⟩:∃ W1,W1=(w.alloc (.cells #[.int .i64 0,.slice none 0 0,.slice none 0 0] 26)).alloc (.cells #[.int .i64 0,.int .i64 0,.int .i64 0,.int .i64 1,.int .i64 2,.int .i64 3] 3):=⟨_,rfl⟩
  have j0:Is W1 w.heap.size 26 #[.int .i64 0,.slice none 0 0,.slice none 0 0]:=by rw [hW1];exact heap_alloc2_old _ _ _
  have jK:Is W1 (w.heap.size + 1) 3 #[.int .i64 0,.int .i64 0,.int .i64 0,.int .i64 1,.int .i64 2,.int .i64 3]:=by rw [hW1];exact heap_alloc2_new _ _ _
  have hB1:Below w.heap.size w W1:=by rw [hW1];exact hB.alloc hB.size _
  have cK:W1.cell? ⟨w.heap.size + 1,pn,none⟩=some (.int .i64 K):=by
   rw [jK.cell]
   rcases (by omega:pn=0∨pn=1∨pn=2∨pn=3∨pn=4∨pn=5) with rfl | rfl | rfl | rfl | rfl | rfl <;> (cases hk13;rfl)
  have cx:W1.cell? ⟨b,off + 0,none⟩=some (.int .i64 x):=(hB1.cell (p:=⟨b,off + 0,none⟩) hbl).trans hcx
  rw [Nat.add_zero] at cx
  have hp6:(pn:Int) < 6:=hp.2
  subst hA
  clear i0 hB hk13 jK hbl hcx hp
  go_enter Tryz.func14,Tryz.ntmps14
  rw [hW1] at cx cK
  go_wp2_with (first | (go_at_call 11;refine (PK.out _).mono ?_;rintro e wq ⟨rfl,rfl⟩))
  rw [← hW1]
  clear hW1 cx cK
  refine (HQ.out _ hB1).mono ?_
  rintro e W2 ⟨B1,d1,B2,d2,rfl,h1,h2,hb2⟩
  have hB2:=hB1.trans (hb2.mono hB1.size)
  have j2:=j0.below hb2 j0.lt
  have h1':=h1.noT13 j2 rfl (grownRowG W2 w.heap.size (reqA (req11 K r).k B1 (req11 K r).L.length d1 B2 (req11 K r).C.length d2))
  have h2':=h2.noT13 j2 rfl (grownRowG W2 w.heap.size (reqA (req11 K r).k B1 (req11 K r).L.length d1 B2 (req11 K r).C.length d2))
  rw [← HD.out] at h1' h2' ⊢
  clear hb2 j0 hB1 h1 h2
  go_wp2_with (refine wpList_store_row rfl 26 _ _ rfl w.heap.size (reqA (req13 (x :: r)).k B1 (req13 (x :: r)).L.length d1 B2 (req13 (x :: r)).C.length d2) rfl rfl 26 _ j2 infoReq13 rfl (reqA_one13 _ _ _ _ _ _ _) ?_)
  exact bodyPost_ret (results_cell_row Tryz.results14 _ _ w.heap.size 26 _ (0,0) _ rfl (j2.row _) Tryz.underlying26 rfl infoReq13) rfl (req_post11 B1 B2 d1 d2 rfl h1' h2' (belowRow hB2 (Nat.le_refl _) _))
end Go.Proofs.YtmggbbmpckcleaaGreat
namespace Go.Proofs.YtmggbbmpckcleaaGreat
open Go.RowKit Go.Shelf
section
variable {P:Program} {ops:Array Oper} {Q:Exit→Act→World→Prop} {i:Nat} {a:Act} {w w':World} {o:Oper}
theorem line_call13 {f:FuncId} {args:Array Value} (hi:ops[i]?=some o) (hw:Region.wanted o (yielded ops a.tmps)=true) (hx:∀ w,(execOp a.eval o).run P w=.ok (.enter f args) w)
  (h:Calls P f args w fun e w'=>∃ v,e=.returned v∧Line10 P ops Q (i + 1) (a.put o.dst v) w'):Line10 P ops Q i a w:=by
 refine ⟨?_⟩
 rw [drop_nth10 hi]
 refine wpList_step fun K hK=>?_
 rw [if_pos hw]
 unfold Oper.wp
 rw [hx,Oper.upon_enter]
 exact h.mono fun e w' ⟨v,he,hn⟩=>by subst he;exact hK _ _ hn.out
theorem line_skip13 (hi:ops[i]?=some o) (hw:Region.wanted o (yielded ops a.tmps)=true) (hx:(execOp a.eval o).run P w=.ok .skip w') (h:Line10 P ops Q (i + 1) (a.put o.dst undef) w'):Line10 P ops Q i a w:=by
 refine ⟨?_⟩
 rw [drop_nth10 hi]
 refine wpList_step fun K hK=>?_
 rw [if_pos hw]
 unfold Oper.wp
 rw [hx]
 exact hK _ _ h.out
theorem line_step13 {v:Value} (hi:ops[i]?=some o) (hw:Region.wanted o (yielded ops a.tmps)=true) (hx:(execOp a.eval o).run P w=.ok (.value v) w') (h:Line10 P ops Q (i + 1) (a.put o.dst v) w'):Line10 P ops Q i a w:=by
 refine ⟨?_⟩
 rw [drop_nth10 hi]
 refine wpList_step fun K hK=>?_
 rw [if_pos hw]
 unfold Oper.wp
 rw [hx,Oper.upon_value]
 exact hK _ _ h.out
end
structure Box13 (W0 W:World) (DN DM:Nat) (D:Srv13 × Rsp11) (A:Option Addr) (c:Nat) (RA:Option Addr) (rc:Nat):Prop where
 below:Below W0.heap.size W0 W
 geN:W0.heap.size≤DN
 geM:W0.heap.size≤DM
 ne:DN≠DM
 srv:Is W DN 33 (srvA D.1 A c)
 rsp:Is W DM 45 (rspA D.2.k D.2.st RA D.2.C.length rc D.2.many D.2.room)
 inS:InS W D.1.S A c
 inV:InV W RA (tL10 D.2.C)
theorem boxA13 (W:World):Is ((W.alloc (.cells #[.slice none 0 0,.int .i64 0,.int .i64 0,.int .i64 0] 33)).alloc (.cells (rspA 0 0 none 0 0 0 0) 45)) W.heap.size 33 #[.slice none 0 0,.int .i64 0,.int .i64 0,.int .i64 0]:=heap_alloc2_old _ _ _
theorem boxB13 (W:World) (cs:Array Value):Is (((W.alloc (.cells #[.slice none 0 0,.int .i64 0,.int .i64 0,.int .i64 0] 33)).alloc (.cells (rspA 0 0 none 0 0 0 0) 45)).setRow W.heap.size cs) (W.heap.size + 1) 45 (rspA 0 0 none 0 0 0 0):=Is.rowFar (heap_alloc2_new _ _ _) (by omega) _
theorem box_of13 {W0 W:World} {D:Srv13 × Rsp11} {A:Option Addr} {c:Nat} {RA:Option Addr} {rc:Nat} (hX:InS W D.1.S A c) (hV:InV W RA (tL10 D.2.C)) (hb:Below W0.heap.size W0 W) :
  Box13 W0 ((((W.alloc (.cells #[.slice none 0 0,.int .i64 0,.int .i64 0,.int .i64 0] 33)).alloc (.cells (rspA 0 0 none 0 0 0 0) 45)).setRow W.heap.size (srvA D.1 A c)).setRow (W.heap.size + 1) (rspA D.2.k D.2.st RA D.2.C.length rc D.2.many D.2.room)) W.heap.size (W.heap.size + 1) D A c RA rc:=by
 have hbx:Below W.heap.size W ((W.alloc (.cells #[.slice none 0 0,.int .i64 0,.int .i64 0,.int .i64 0] 33)).alloc (.cells (rspA 0 0 none 0 0 0 0) 45)):=((Below.refl _ _).alloc (Nat.le_refl _) _).alloc (by simp) _
 have z1:=boxA13 W
 have z2:=boxB13 W (srvA D.1 A c)
 have hs:=hb.size
 exact ⟨belowRow (belowRow (hb.trans (hbx.mono hb.size)) (g:=W.heap.size) (by omega) _) (g:=W.heap.size + 1) (by omega) _,by omega,by omega,by omega,(z1.row _).rowFar (by omega) _,z2.row _,
  ((hX.keep hbx).noS13 z1 rfl (grownRowG _ _ _)).noS13 z2 rfl (grownRowG _ _ _),((hV.keep hbx).noT13 z1 rfl (grownRowG _ _ _)).noT13 z2 rfl (grownRowG _ _ _)⟩
structure BoxS13 (W0 W:World) (DN:Nat) (s:Srv13) (A:Option Addr) (c:Nat):Prop where
 below:Below W0.heap.size W0 W
 ge:W0.heap.size≤DN
 srv:Is W DN 33 (srvA s A c)
 inS:InS W s.S A c
theorem box_ofS13 {W0 W:World} {s:Srv13} {A:Option Addr} {c:Nat} (hX:InS W s.S A c) (hb:Below W0.heap.size W0 W) :
  BoxS13 W0 ((W.alloc (.cells #[.slice none 0 0,.int .i64 0,.int .i64 0,.int .i64 0] 33)).setRow W.heap.size (srvA s A c)) W.heap.size s A c:=by
 have hbx:Below W.heap.size W (W.alloc (.cells #[.slice none 0 0,.int .i64 0,.int .i64 0,.int .i64 0] 33)):=(Below.refl _ _).alloc (Nat.le_refl _) _
 have z1:=Is.new W 33 #[.slice none 0 0,.int .i64 0,.int .i64 0,.int .i64 0]
 exact ⟨belowRow (hb.trans (hbx.mono hb.size)) hb.size _,hb.size,z1.row _,(hX.keep hbx).noS13 z1 rfl (grownRowG _ _ _)⟩
theorem stp13_3 (W0:World) (B0 D1 D2:Nat) (s:Srv13) (A:Option Addr) (c:Nat) (RA:Option Addr) (RC:List ByteArray) (S:ByteArray) (hS:S=(answV11 zrsp11).1) (i1:Is W0 D1 33 (srvA s A c)) (i2:Is W0 D2 33 #[.slice none 0 0,.int .i64 0,.int .i64 0,.int .i64 0]) (hI:InS W0 s.S A c) (hV:InV W0 RA (tL10 RC)) (hD2:B0≤D2) (h12:D1≠D2) (hsz:B0≤W0.heap.size) (x0 x1 x3 x5 x6 x7 x8 x9 Xa Xb Xc Xd Xe Xf Xg Xh Xi Xj Xk Xl Xm Xn Xo Xp Xq Xr Xs:Value) :
  (Code.region 3 (opsOf Tryz.f19 3) true).wp Tryz.prog (fun ex YY W=>ex=.normal∧YY.defers=[]∧∃ (_:Unit),YY.tmps=#[x0,x1,.pointer (some ⟨D1,0,none⟩),x3,.pointer (some ⟨D2,0,none⟩),.string S,x6,x7,x8,x9,Xa,Xb,Xc,Xd,Xe,Xf,Xg,.agg (srvA s A c),.agg (rspA 0 0 none 0 0 0 0),.string S,Xk,Xl,Xm,Xn,Xo,Xp,Xq,Xr,Xs]∧Below B0 W0 W∧Is W D1 33 (srvA s A c)∧InS W s.S A c∧InV W RA (tL10 RC)∧Is W D2 33 (srvA s A c)) { tmps:=#[x0,x1,.pointer (some ⟨D1,0,none⟩),x3,.pointer (some ⟨D2,0,none⟩),x5,x6,x7,x8,x9,Xa,Xb,Xc,Xd,Xe,Xf,Xg,Xh,Xi,Xj,Xk,Xl,Xm,Xn,Xo,Xp,Xq,Xr,Xs],defers:=[] } W0:=by
 have hB:Below B0 W0 (W0.drewN 1):=belowN (Below.refl _ _) 1
 generalize hQ:(fun (ex:Exit) (YY:Act) (W:World)=>ex=.normal∧YY.defers=[]∧∃ (_:Unit),YY.tmps=#[x0,x1,.pointer (some ⟨D1,0,none⟩),x3,.pointer (some ⟨D2,0,none⟩),.string S,x6,x7,x8,x9,Xa,Xb,Xc,Xd,Xe,Xf,Xg,.agg (srvA s A c),.agg (rspA 0 0 none 0 0 0 0),.string S,Xk,Xl,Xm,Xn,Xo,Xp,Xq,Xr,Xs]∧Below B0 W0 W∧Is W D1 33 (srvA s A c)∧InS W s.S A c∧InV W RA (tL10 RC)∧Is W D2 33 (srvA s A c))=Q
 have HQN:∀ c a W,¬ Q (.panic c) a W:=fun c a W h=>by subst hQ;exact nomatch h.1
 have ST2_3:∀ (W:World),Below B0 W0 W→Is W D1 33 (srvA s A c)→InS W s.S A c→InV W RA (tL10 RC)→Is W D2 33 (srvA s A c)→wpAnyH Tryz.prog .any (opsOf Tryz.f19 3) Q (fun W=>Below B0 W0 W∧Is W D1 33 (srvA s A c)) 0 #[true,true,true,true,true] { tmps:=#[x0,x1,.pointer (some ⟨D1,0,none⟩),x3,.pointer (some ⟨D2,0,none⟩),.string S,x6,x7,x8,x9,Xa,Xb,Xc,Xd,Xe,Xf,Xg,.agg (srvA s A c),.agg (rspA 0 0 none 0 0 0 0),.string S,Xk,Xl,Xm,Xn,Xo,Xp,Xq,Xr,Xs],defers:=[] } W:=by
  intro W hB i1 hI hV j2
  refine wpAnyH_done (by kernel_rfl) ?_ _
  subst hQ
  exact ⟨rfl,rfl,(),rfl,hB,i1,hI,hV,j2⟩
 have ST2:∀ (W:World),Below B0 W0 W→Is W D1 33 (srvA s A c)→InS W s.S A c→InV W RA (tL10 RC)→Is W D2 33 #[.slice none 0 0,.int .i64 0,.int .i64 0,.int .i64 0]→wpAnyH Tryz.prog .any (opsOf Tryz.f19 3) Q (fun W=>Below B0 W0 W∧Is W D1 33 (srvA s A c)) 2 #[true,true,true,false,false] { tmps:=#[x0,x1,.pointer (some ⟨D1,0,none⟩),x3,.pointer (some ⟨D2,0,none⟩),x5,x6,x7,x8,x9,Xa,Xb,Xc,Xd,Xe,Xf,Xg,.agg (srvA s A c),.agg (rspA 0 0 none 0 0 0 0),.string S,Xk,Xl,Xm,Xn,Xo,Xp,Xq,Xr,Xs],defers:=[] } W:=by
  intro W hB i1 hI hV i2
  refine wpAnyH_ready (by kernel_rfl) (by simp) (AllReadyH.cons (i:=3) (at_nth rfl) ?_ (AllReadyH.nil))
  ·
   have hone:=srvA_one13 s A c
   have hg:=grownRowG W D2 (srvA s A c)
   have j2:=i2.row (srvA s A c)
   have hB2:=belowRow hB hD2 (srvA s A c)
   have i12:=i1.rowFar (k:=D2) h12 (srvA s A c)
   replace hI:=hI.noS13 i2 rfl hg
   replace hV:=hV.noT13 i2 rfl hg
   refine arm10_skip (w':=W.setRow D2 (srvA s A c)) (by kernel_rfl) (run_row10 (x:=.tmp 4) (y:=.tmp 17) (by kernel_rfl) (by kernel_rfl) (by kernel_rfl) i2 infoSrv13 rfl hone) ⟨hB2,i12⟩ ?_
   try simp only [Act.put]
   replace hB:=hB2
   replace i1:=i12
   clear i2 hg
   refine wpP (i:=4) (v:=.string S) HQN rfl (fun w hSw=>by kernel_rfl) ⟨hB,i1⟩ ?_
   simp only [Act.put,zz0,zz1,zz2]
   exact ST2_3 _ hB i1 hI hV j2
 have ST:∀ (W:World),Below B0 W0 W→Is W D1 33 (srvA s A c)→InS W s.S A c→InV W RA (tL10 RC)→Is W D2 33 #[.slice none 0 0,.int .i64 0,.int .i64 0,.int .i64 0]→wpAnyH Tryz.prog .any (opsOf Tryz.f19 3) Q (fun W=>Below B0 W0 W∧Is W D1 33 (srvA s A c)) 3 #[true,true,false,false,false] { tmps:=#[x0,x1,.pointer (some ⟨D1,0,none⟩),x3,.pointer (some ⟨D2,0,none⟩),x5,x6,x7,x8,x9,Xa,Xb,Xc,Xd,Xe,Xf,Xg,.agg (srvA s A c),.agg (rspA 0 0 none 0 0 0 0),Xj,Xk,Xl,Xm,Xn,Xo,Xp,Xq,Xr,Xs],defers:=[] } W:=by
  intro W hB i1 hI hV i2
  refine wpAnyH_ready (by kernel_rfl) (by simp) (AllReadyH.cons (i:=2) (at_nth rfl) ?_ (AllReadyH.nil))
  ·
   refine arm10_call (by kernel_rfl) (fun wy=>by kernel_rfl) ((bytes_any13 0 0 0 0 none 0 [] _ (by simp) (fun j u hj=>by cases hj)).mono ?_)
   rintro e Wn ⟨rfl,hb⟩
   replace i1:=i1.below hb i1.lt
   replace i2:=i2.below hb i2.lt
   replace hI:=hI.keep hb
   replace hV:=hV.keep hb
   replace hB:=hB.trans (hb.mono (Nat.le_trans hsz hB.size))
   clear hb
   rw [show (answV11 ⟨0,0,[],0,0⟩).1=S from hS.symm]
   refine ⟨_,rfl,⟨hB,i1⟩,?_⟩
   simp only [Act.put,zz0,zz1,zz2]
   exact ST2 _ hB i1 hI hV i2
 refine wp_region_held_drew (S:=fun W=>Below B0 W0 W∧Is W D1 33 (srvA s A c)) (by kernel_rfl) ⟨hB,i1⟩ (fun hSx=>?_)
 clear hSx
 change wpAnyH _ _ (opsOf Tryz.f19 3) _ _ 5 (Array.replicate 5 false) _ (W0.drewN 1)
 replace hB:Below B0 W0 (W0.drewN 1):=belowN (Below.refl _ _) 1
 replace i1:=i1.drewN 1
 replace i2:=i2.drewN 1
 replace hI:=hI.keep (belowN (Below.refl _ _) 1)
 replace hV:=hV.keep (belowN (Below.refl _ _) 1)
 refine wpP (i:=0) (v:=.agg (srvA s A c)) HQN rfl (fun w hSw=>by exact run_load_rowO (x:=.tmp 2) (by kernel_rfl) (by kernel_rfl) (hSw.2) Tryz.underlying33 rfl infoSrv13) ⟨hB,i1⟩ ?_
 simp only [Act.put,zz0,zz1,zz2]
 refine wpP (i:=1) (v:=.agg (rspA 0 0 none 0 0 0 0)) HQN rfl (fun w hSw=>by go_simp) ⟨hB,i1⟩ ?_
 simp only [Act.put,zz0,zz1,zz2]
 exact ST _ hB i1 hI hV i2
theorem stp13_4 (W0:World) (D1 DQ:Nat) (s:Srv13) (A:Option Addr) (c:Nat) (q:Req11) (AL AC:Option Addr) (cl cc:Nat) (hl:q.L.length≤9223372036854775807) (hl2:q.C.length≤9223372036854775807) (i1:Is W0 D1 33 (srvA s A c)) (iq:Is W0 DQ 26 (reqA q.k AL q.L.length cl AC q.C.length cc)) (hI:InS W0 s.S A c) (hL:InV W0 AL (tL10 q.L)) (hC:InV W0 AC (tL10 q.C)) (x0 x1 x3 x4 x5 x7 x8 x9 Xa Xb Xc Xd Xe Xf Xg Xh Xi Xj Xk Xl Xm Xn Xo Xp Xq Xr Xs:Value) (Q:Exit→Act→World→Prop) (hQ:∀ DN DM A2 c2 RA rc W2,Box13 W0 W2 DN DM (do13 s q) A2 c2 RA rc→Q .normal { tmps:=#[x0,x1,.pointer (some ⟨D1,0,none⟩),x3,x4,x5,.pointer (some ⟨DQ,0,none⟩),x7,.pointer (some ⟨DN,0,none⟩),.pointer (some ⟨DM,0,none⟩),Xa,Xb,Xc,Xd,Xe,Xf,Xg,Xh,Xi,Xj,.tuple #[.agg (srvA (do13 s q).1 A2 c2),.agg (rspA (do13 s q).2.k (do13 s q).2.st RA (do13 s q).2.C.length rc (do13 s q).2.many (do13 s q).2.room)],.agg (srvA s A c),.agg (reqA q.k AL q.L.length cl AC q.C.length cc),.tuple #[.agg (srvA (do13 s q).1 A2 c2),.agg (rspA (do13 s q).2.k (do13 s q).2.st RA (do13 s q).2.C.length rc (do13 s q).2.many (do13 s q).2.room)],.agg (srvA (do13 s q).1 A2 c2),.agg (rspA (do13 s q).2.k (do13 s q).2.st RA (do13 s q).2.C.length rc (do13 s q).2.many (do13 s q).2.room),Xq,Xr,Xs],defers:=[] } W2) :
  wpList Tryz.prog (opsOf Tryz.f19 4) Q (opsOf Tryz.f19 4).toList { tmps:=#[x0,x1,.pointer (some ⟨D1,0,none⟩),x3,x4,x5,.pointer (some ⟨DQ,0,none⟩),x7,x8,x9,Xa,Xb,Xc,Xd,Xe,Xf,Xg,Xh,Xi,Xj,Xk,Xl,Xm,Xn,Xo,Xp,Xq,Xr,Xs],defers:=[] } W0:=by
 refine line_start ?_
 refine lineP (i:=0) (v:=.agg (srvA s A c)) rfl (by exact exec_load10 rfl rfl (run_loadVar_row _ _ 33 33 _ (0,0) _ i1 Tryz.underlying33 rfl infoSrv13)) ?_
 simp only [Act.put,zz0,zz1,zz2]
 refine lineP (i:=1) (v:=.agg (reqA q.k AL q.L.length cl AC q.C.length cc)) rfl (by exact exec_load10 rfl rfl (run_loadVar_row _ _ 26 26 _ (0,0) _ iq Tryz.underlying26 rfl infoReq13)) ?_
 simp only [Act.put,zz0,zz1,zz2]
 refine line_call13 (i:=2) (at_nth rfl) (by kernel_rfl) (fun wy=>by kernel_rfl) ((sdo_any13 s A c q AL AC cl cc W0 hl hl2 hI hL hC).mono ?_)
 rintro e W1 hp
 obtain ⟨A2,c2,RA,rc,rfl,hX,hV,hb⟩:=hp
 refine ⟨_,rfl,?_⟩
 simp only [Act.put,zz0,zz1,zz2]
 refine lineP (i:=3) (v:=.tuple #[.agg (srvA (do13 s q).1 A2 c2),.agg (rspA (do13 s q).2.k (do13 s q).2.st RA (do13 s q).2.C.length rc (do13 s q).2.many (do13 s q).2.room)]) rfl (by kernel_rfl) ?_
 simp only [Act.put,zz0,zz1,zz2]
 refine lineP (i:=4) (v:=.agg (srvA (do13 s q).1 A2 c2)) rfl (by kernel_rfl) ?_
 simp only [Act.put,zz0,zz1,zz2]
 refine lineP (i:=5) (v:=.agg (rspA (do13 s q).2.k (do13 s q).2.st RA (do13 s q).2.C.length rc (do13 s q).2.many (do13 s q).2.room)) rfl (by kernel_rfl) ?_
 simp only [Act.put,zz0,zz1,zz2]
 refine line_step13 (i := 6) (o := { dst := some 8, op := Op.alloc 33, type := 0, pos := "server.go:50", after := #[], guard := none }) (w' := W1.alloc (.cells #[.slice none 0 0, .int .i64 0, .int .i64 0, .int .i64 0] 33)) (v := .pointer (some ⟨W1.heap.size, 0, none⟩)) (by kernel_rfl) (by kernel_rfl) (by go_simp) ?_
 simp only [Act.put,zz0,zz1,zz2]
 refine line_step13 (i := 7) (o := { dst := some 9, op := Op.alloc 45, type := 0, pos := "server.go:50", after := #[], guard := none }) (w' := ((W1.alloc (.cells #[.slice none 0 0, .int .i64 0, .int .i64 0, .int .i64 0] 33)).alloc (.cells (rspA 0 0 none 0 0 0 0) 45))) (v := .pointer (some ⟨W1.heap.size + 1, 0, none⟩)) (by kernel_rfl) (by kernel_rfl) (by go_simp) ?_
 simp only [Act.put,zz0,zz1,zz2]
 refine line_skip13 (i := 8) (o := { dst := none, op := Op.store 33 (Operand.tmp 8) (Operand.tmp 24), type := 0, pos := "server.go:50", after := #[{ on := 6, ground := Ground.data }, { on := 4, ground := Ground.data }, { on := 2, ground := Ground.chain }, { on := 0, ground := Ground.phase }, { on := 1, ground := Ground.phase }, { on := 2, ground := Ground.phase }, { on := 3, ground := Ground.phase }, { on := 4, ground := Ground.phase }, { on := 5, ground := Ground.textOnly Departure.lateStores }, { on := 6, ground := Ground.phase }, { on := 7, ground := Ground.phase }], guard := none }) (w' := ((W1.alloc (.cells #[.slice none 0 0, .int .i64 0, .int .i64 0, .int .i64 0] 33)).alloc (.cells (rspA 0 0 none 0 0 0 0) 45)).setRow W1.heap.size (srvA (do13 s q).1 A2 c2)) (by kernel_rfl) (by kernel_rfl) (run_row10 rfl rfl rfl (boxA13 W1) infoSrv13 rfl (srvA_one13 _ _ _)) ?_
 try simp only [Act.put]
 refine line_skip13 (i := 9) (o := { dst := none, op := Op.store 45 (Operand.tmp 9) (Operand.tmp 25), type := 0, pos := "server.go:50", after := #[{ on := 7, ground := Ground.data }, { on := 5, ground := Ground.data }, { on := 8, ground := Ground.chain }, { on := 0, ground := Ground.phase }, { on := 1, ground := Ground.phase }, { on := 2, ground := Ground.phase }, { on := 3, ground := Ground.phase }, { on := 4, ground := Ground.phase }, { on := 5, ground := Ground.phase }, { on := 6, ground := Ground.phase }, { on := 7, ground := Ground.phase }, { on := 8, ground := Ground.phase }], guard := none }) (w' := (((W1.alloc (.cells #[.slice none 0 0, .int .i64 0, .int .i64 0, .int .i64 0] 33)).alloc (.cells (rspA 0 0 none 0 0 0 0) 45)).setRow W1.heap.size (srvA (do13 s q).1 A2 c2)).setRow (W1.heap.size + 1) (rspA (do13 s q).2.k (do13 s q).2.st RA (do13 s q).2.C.length rc (do13 s q).2.many (do13 s q).2.room)) (by kernel_rfl) (by kernel_rfl) (run_row10 rfl rfl rfl (boxB13 W1 _) infoRsp13 rfl (rspA_one13 _ _ _ _ _ _ _)) ?_
 try simp only [Act.put]
 exact line_done (by decide +kernel) (hQ _ _ _ _ _ _ _ (box_of13 hX hV hb))
theorem stp13_5 (W0:World) (B0 D1 D2:Nat) (s:Srv13) (A:Option Addr) (c:Nat) (RA:Option Addr) (RC:List ByteArray) (S:ByteArray) (D3 rc:Nat) (k st m r:Int) (hS:S=(answV11 ⟨k,st,RC,m,r⟩).1) (hl:RC.length≤9223372036854775807) (h32:D3≠D2) (i3:Is W0 D3 45 (rspA k st RA RC.length rc m r)) (i1:Is W0 D1 33 (srvA s A c)) (i2:Is W0 D2 33 #[.slice none 0 0,.int .i64 0,.int .i64 0,.int .i64 0]) (hI:InS W0 s.S A c) (hV:InV W0 RA (tL10 RC)) (hD2:B0≤D2) (h12:D1≠D2) (hsz:B0≤W0.heap.size) (x0 x1 x2 x3 x5 x6 x7 Xa Xb Xc Xd Xe Xf Xg Xh Xi Xj Xk Xl Xm Xn Xo Xp Xq Xr Xs:Value) :
  (Code.region 5 (opsOf Tryz.f19 5) true).wp Tryz.prog (fun ex YY W=>ex=.normal∧YY.defers=[]∧∃ (_:Unit),YY.tmps=#[x0,x1,x2,x3,.pointer (some ⟨D2,0,none⟩),.string S,x6,x7,.pointer (some ⟨D1,0,none⟩),.pointer (some ⟨D3,0,none⟩),Xa,Xb,Xc,Xd,Xe,Xf,Xg,Xh,Xi,Xj,Xk,Xl,Xm,Xn,Xo,Xp,.agg (srvA s A c),.agg (rspA k st RA RC.length rc m r),.string S]∧Below B0 W0 W∧Is W D1 33 (srvA s A c)∧Is W D3 45 (rspA k st RA RC.length rc m r)∧InS W s.S A c∧InV W RA (tL10 RC)∧Is W D2 33 (srvA s A c)) { tmps:=#[x0,x1,x2,x3,.pointer (some ⟨D2,0,none⟩),x5,x6,x7,.pointer (some ⟨D1,0,none⟩),.pointer (some ⟨D3,0,none⟩),Xa,Xb,Xc,Xd,Xe,Xf,Xg,Xh,Xi,Xj,Xk,Xl,Xm,Xn,Xo,Xp,Xq,Xr,Xs],defers:=[] } W0:=by
 have hB:Below B0 W0 (W0.drewN 1):=belowN (Below.refl _ _) 1
 generalize hQ:(fun (ex:Exit) (YY:Act) (W:World)=>ex=.normal∧YY.defers=[]∧∃ (_:Unit),YY.tmps=#[x0,x1,x2,x3,.pointer (some ⟨D2,0,none⟩),.string S,x6,x7,.pointer (some ⟨D1,0,none⟩),.pointer (some ⟨D3,0,none⟩),Xa,Xb,Xc,Xd,Xe,Xf,Xg,Xh,Xi,Xj,Xk,Xl,Xm,Xn,Xo,Xp,.agg (srvA s A c),.agg (rspA k st RA RC.length rc m r),.string S]∧Below B0 W0 W∧Is W D1 33 (srvA s A c)∧Is W D3 45 (rspA k st RA RC.length rc m r)∧InS W s.S A c∧InV W RA (tL10 RC)∧Is W D2 33 (srvA s A c))=Q
 have HQN:∀ c a W,¬ Q (.panic c) a W:=fun c a W h=>by subst hQ;exact nomatch h.1
 have ST2_3:∀ (W:World),Below B0 W0 W→Is W D1 33 (srvA s A c)→Is W D3 45 (rspA k st RA RC.length rc m r)→InS W s.S A c→InV W RA (tL10 RC)→Is W D2 33 (srvA s A c)→wpAnyH Tryz.prog .any (opsOf Tryz.f19 5) Q (fun W=>Below B0 W0 W∧Is W D1 33 (srvA s A c)∧Is W D3 45 (rspA k st RA RC.length rc m r)) 0 #[true,true,true,true,true] { tmps:=#[x0,x1,x2,x3,.pointer (some ⟨D2,0,none⟩),.string S,x6,x7,.pointer (some ⟨D1,0,none⟩),.pointer (some ⟨D3,0,none⟩),Xa,Xb,Xc,Xd,Xe,Xf,Xg,Xh,Xi,Xj,Xk,Xl,Xm,Xn,Xo,Xp,.agg (srvA s A c),.agg (rspA k st RA RC.length rc m r),.string S],defers:=[] } W:=by
  intro W hB i1 i3 hI hV j2
  refine wpAnyH_done (by kernel_rfl) ?_ _
  subst hQ
  exact ⟨rfl,rfl,(),rfl,hB,i1,i3,hI,hV,j2⟩
 have ST2:∀ (W:World),Below B0 W0 W→Is W D1 33 (srvA s A c)→Is W D3 45 (rspA k st RA RC.length rc m r)→InS W s.S A c→InV W RA (tL10 RC)→Is W D2 33 #[.slice none 0 0,.int .i64 0,.int .i64 0,.int .i64 0]→wpAnyH Tryz.prog .any (opsOf Tryz.f19 5) Q (fun W=>Below B0 W0 W∧Is W D1 33 (srvA s A c)∧Is W D3 45 (rspA k st RA RC.length rc m r)) 2 #[true,true,true,false,false] { tmps:=#[x0,x1,x2,x3,.pointer (some ⟨D2,0,none⟩),x5,x6,x7,.pointer (some ⟨D1,0,none⟩),.pointer (some ⟨D3,0,none⟩),Xa,Xb,Xc,Xd,Xe,Xf,Xg,Xh,Xi,Xj,Xk,Xl,Xm,Xn,Xo,Xp,.agg (srvA s A c),.agg (rspA k st RA RC.length rc m r),.string S],defers:=[] } W:=by
  intro W hB i1 i3 hI hV i2
  refine wpAnyH_ready (by kernel_rfl) (by simp) (AllReadyH.cons (i:=3) (at_nth rfl) ?_ (AllReadyH.nil))
  ·
   have hone:=srvA_one13 s A c
   have hg:=grownRowG W D2 (srvA s A c)
   have j2:=i2.row (srvA s A c)
   have hB2:=belowRow hB hD2 (srvA s A c)
   have i12:=i1.rowFar (k:=D2) h12 (srvA s A c)
   replace i3:=i3.rowFar (k:=D2) h32 (srvA s A c)
   replace hI:=hI.noS13 i2 rfl hg
   replace hV:=hV.noT13 i2 rfl hg
   refine arm10_skip (w':=W.setRow D2 (srvA s A c)) (by kernel_rfl) (run_row10 (x:=.tmp 4) (y:=.tmp 26) (by kernel_rfl) (by kernel_rfl) (by kernel_rfl) i2 infoSrv13 rfl hone) ⟨hB2,i12,i3⟩ ?_
   try simp only [Act.put]
   replace hB:=hB2
   replace i1:=i12
   clear i2 hg
   refine wpP (i:=4) (v:=.string S) HQN rfl (fun w hSw=>by kernel_rfl) ⟨hB,i1,i3⟩ ?_
   simp only [Act.put,zz0,zz1,zz2]
   exact ST2_3 _ hB i1 i3 hI hV j2
 have ST:∀ (W:World),Below B0 W0 W→Is W D1 33 (srvA s A c)→Is W D3 45 (rspA k st RA RC.length rc m r)→InS W s.S A c→InV W RA (tL10 RC)→Is W D2 33 #[.slice none 0 0,.int .i64 0,.int .i64 0,.int .i64 0]→wpAnyH Tryz.prog .any (opsOf Tryz.f19 5) Q (fun W=>Below B0 W0 W∧Is W D1 33 (srvA s A c)∧Is W D3 45 (rspA k st RA RC.length rc m r)) 3 #[true,true,false,false,false] { tmps:=#[x0,x1,x2,x3,.pointer (some ⟨D2,0,none⟩),x5,x6,x7,.pointer (some ⟨D1,0,none⟩),.pointer (some ⟨D3,0,none⟩),Xa,Xb,Xc,Xd,Xe,Xf,Xg,Xh,Xi,Xj,Xk,Xl,Xm,Xn,Xo,Xp,.agg (srvA s A c),.agg (rspA k st RA RC.length rc m r),Xs],defers:=[] } W:=by
  intro W hB i1 i3 hI hV i2
  refine wpAnyH_ready (by kernel_rfl) (by simp) (AllReadyH.cons (i:=2) (at_nth rfl) ?_ (AllReadyH.nil))
  ·
   refine arm10_call (by kernel_rfl) (fun wy=>by kernel_rfl) ((bytes_any13 k st m r RA rc RC _ hl hV).mono ?_)
   rintro e Wn ⟨rfl,hb⟩
   replace i1:=i1.below hb i1.lt
   replace i2:=i2.below hb i2.lt
   replace i3:=i3.below hb i3.lt
   replace hI:=hI.keep hb
   replace hV:=hV.keep hb
   replace hB:=hB.trans (hb.mono (Nat.le_trans hsz hB.size))
   clear hb
   rw [← hS]
   refine ⟨_,rfl,⟨hB,i1,i3⟩,?_⟩
   simp only [Act.put,zz0,zz1,zz2]
   exact ST2 _ hB i1 i3 hI hV i2
 refine wp_region_held_drew (S:=fun W=>Below B0 W0 W∧Is W D1 33 (srvA s A c)∧Is W D3 45 (rspA k st RA RC.length rc m r)) (by kernel_rfl) ⟨hB,i1,i3⟩ (fun hSx=>?_)
 clear hSx
 change wpAnyH _ _ (opsOf Tryz.f19 5) _ _ 5 (Array.replicate 5 false) _ (W0.drewN 1)
 replace hB:Below B0 W0 (W0.drewN 1):=belowN (Below.refl _ _) 1
 replace i1:=i1.drewN 1
 replace i2:=i2.drewN 1
 replace i3:=i3.drewN 1
 replace hI:=hI.keep (belowN (Below.refl _ _) 1)
 replace hV:=hV.keep (belowN (Below.refl _ _) 1)
 refine wpP (i:=0) (v:=.agg (srvA s A c)) HQN rfl (fun w hSw=>by exact run_load_rowO (x:=.tmp 8) (by kernel_rfl) (by kernel_rfl) (hSw.2.1) Tryz.underlying33 rfl infoSrv13) ⟨hB,i1,i3⟩ ?_
 simp only [Act.put,zz0,zz1,zz2]
 refine wpP (i:=1) (v:=.agg (rspA k st RA RC.length rc m r)) HQN rfl (fun w hSw=>by exact run_load_rowO (x:=.tmp 9) (by kernel_rfl) (by kernel_rfl) (hSw.2.2) Tryz.underlying45 rfl infoRsp13) ⟨hB,i1,i3⟩ ?_
 simp only [Act.put,zz0,zz1,zz2]
 exact ST _ hB i1 i3 hI hV i2
theorem req_len13 {q:Req11} (h:right11 q=true):q.L.length≤200∧q.C.length≤200:=by
 simp only [right11,szd11,Bool.and_eq_true,decide_eq_true_eq,List.all_eq_true,Bool.false_and,Bool.or_false] at h
 obtain ⟨_,_,⟨_,h4⟩,⟨_,h5⟩,_,_⟩:=h
 exact ⟨h4,h5⟩
theorem do_len13 (s:Srv13) (q:Req11) (h:q.L.length≤200):(do13 s q).2.C.length≤9223372036854775807:=by
 rw [do13]
 split
 ·
  split
  · rw [put_st13.2.1];simp
  ·
   split
   ·
    show (q.L.map (get13 s.S.B)).length≤_
    rw [List.length_map];omega
   · split <;> (show ([]:List ByteArray).length≤_;simp)
 · show ([]:List ByteArray).length≤_;simp
theorem results_rt13 {P:Program} {fn:Func} {p u:Tmp} {ty:TypeId} (h:fn.results=#[.cell p ty,.tmp u]) (tmps:Array Value) (w:World) (g:Nat) (t:TypeId) (cs:Array Value) (d:TypeDesc)
  (hp:tmps.getD p undef=.pointer (some ⟨g,0,none⟩)) (hg:Is w g t cs) (hu:P.underlying ty=some d) (hd:(match d with | .struct _ | .array _ _=>true | _=>false)=true) (hi:(P.info? ty).map (·.size)=some cs.size) :
  (results fn tmps).run P w=.ok (.tuple #[.agg cs,tmps.getD u undef]) w:=results_row_tmp h tmps w g t cs (0,0) d hp hg hu hd hi
theorem sstep_any13 (s:Srv13) (A:Option Addr) (c:Nat) (t:ByteArray) (w:World) (hI:InS w s.S A c) :
  Calls Tryz.prog 19 #[srvV s A c,.string t] w fun e w'=>∃ A1 c1,e=.returned (.tuple #[srvV (step13 s t).1 A1 c1,.string (step13 s t).2])∧InS w' (step13 s t).1.S A1 c1∧Below w.heap.size w w':=by
 obtain ⟨W1,hW1⟩:∃ W1,W1=(w.alloc (.cells (srvA s A c) 33)).alloc (.cells #[.slice none 0 0,.int .i64 0,.int .i64 0,.int .i64 0] 33):=⟨_,rfl⟩
 have i1:Is W1 w.heap.size 33 (srvA s A c):=by rw [hW1];exact heap_alloc2_old _ _ _
 have i2:Is W1 (w.heap.size + 1) 33 #[.slice none 0 0,.int .i64 0,.int .i64 0,.int .i64 0]:=by rw [hW1];exact heap_alloc2_new _ _ _
 have hB1:Below w.heap.size w W1:=by rw [hW1];exact ((Below.refl _ _).alloc (Nat.le_refl _) _).alloc (by simp) _
 have HI:=Lib.hid hI
 have HD:=Lib.hid (fun W=>wdec11 t W)
 have HST:=Lib.hid (show step13 s t=if (decV11 t).2=0 then ((do13 s (decV11 t).1).1,(answV11 (do13 s (decV11 t).1).2).1) else (s,(answV11 zrsp11).1) from rfl)
 generalize step13 s t=ST at *
 obtain ⟨D,hD⟩:∃ D,D=decV11 t:=⟨_,rfl⟩
 have HDL:=Lib.hid (show D.2=0→D.1.L.length≤200∧D.1.C.length≤200 from fun e=>req_len13 (by rw [hD] at e ⊢;exact (enc_dec11 e).1))
 rw [← hD] at HD HST
 clear hI hD
 go_enter Tryz.func19,Tryz.ntmps19
 go_upto_region 1 with (fail)
 rw [← hW1]
 clear hW1
 go_wp2_with fail
 refine (HD.out _).mono ?_
 rintro e W2 ⟨B1,d1,B2,d2,rfl,h1,h2,hb2⟩
 have hB2:=hB1.trans (hb2.mono hB1.size)
 have j1:=i1.below hb2 i1.lt
 have j2:=i2.below hb2 i2.lt
 clear hb2 i1 i2 hB1
 have zq:=Is.new W2 26 #[.int .i64 0,.slice none 0 0,.slice none 0 0]
 have hbx:Below W2.heap.size W2 (W2.alloc (.cells #[.int .i64 0,.slice none 0 0,.slice none 0 0] 26)):=(Below.refl _ _).alloc (Nat.le_refl _) _
 have k1:=j1.below hbx j1.lt
 have k2:=j2.below hbx j2.lt
 have hB3:=hB2.trans (hbx.mono hB2.size)
 have h1:=h1.keep hbx
 have h2:=h2.keep hbx
 have hlt:=j2.lt
 clear j1 j2 hB2 hbx
 generalize hW3:W2.alloc (.cells #[.int .i64 0,.slice none 0 0,.slice none 0 0] 26)=W3 at *
 generalize hE:W2.heap.size=E at *
 have HO:=Lib.hid (reqA_one13 D.1.k B1 D.1.L.length d1 B2 D.1.C.length d2)
 go_upto_region 2 with (refine wpList_store_row rfl 26 _ _ rfl E (reqA D.1.k B1 D.1.L.length d1 B2 D.1.C.length d2) rfl rfl 26 _ zq infoReq13 rfl HO.out ?_)
 have m1:=k1.rowFar (k:=E) (by omega) (reqA D.1.k B1 D.1.L.length d1 B2 D.1.C.length d2)
 have m2:=k2.rowFar (k:=E) (by omega) (reqA D.1.k B1 D.1.L.length d1 B2 D.1.C.length d2)
 have mq:=zq.row (reqA D.1.k B1 D.1.L.length d1 B2 D.1.C.length d2)
 have hB4:=belowRow hB3 (g:=E) (by omega) (reqA D.1.k B1 D.1.L.length d1 B2 D.1.C.length d2)
 have h1:=h1.noT13 zq rfl (grownRowG W3 E (reqA D.1.k B1 D.1.L.length d1 B2 D.1.C.length d2))
 have h2:=h2.noT13 zq rfl (grownRowG W3 E (reqA D.1.k B1 D.1.L.length d1 B2 D.1.C.length d2))
 clear zq k1 k2 hB3 hW3 hE
 generalize W3.setRow E (reqA D.1.k B1 D.1.L.length d1 B2 D.1.C.length d2)=W4 at *
 by_cases he:D.2=0
 ·
  have HS:=Lib.hid (HST.out.trans (if_pos he))
  have he2:=he
  rw [he]
  clear he
  have hdr:=HDL.out he2
  clear he2
  go_upto_region 4 with (fail)
  refine wp_region_list (stp13_4 W4 w.heap.size E s A c D.1 B1 B2 d1 d2 (by omega) (by omega) m1 mq (HI.out.keep hB4) h1 h2 _ _ _ _ _ _ _ _ _ _ _ _ _ _ _ _ _ _ _ _ _ _ _ _ _ _ _ _ (fun DN DM A2 c2 RA rc W5 hx=>?_))
  have y2:=m2.below hx.below m2.lt
  have hB5:=hB4.trans (hx.below.mono hB4.size)
  have hgN:w.heap.size + 1 < DN:=Nat.lt_of_lt_of_le m2.lt hx.geN
  have hgM:w.heap.size + 1 < DM:=Nat.lt_of_lt_of_le m2.lt hx.geM
  have hlr:=do_len13 s D.1 hdr.1
  clear m1 m2 mq hB4 h1 h2
  go_upto_region 5 with (fail)
  refine Code.wp_mono ?_ (stp13_5 W5 w.heap.size DN (w.heap.size + 1) (do13 s D.1).1 A2 c2 RA (do13 s D.1).2.C (answV11 (do13 s D.1).2).1 DM rc (do13 s D.1).2.k (do13 s D.1).2.st (do13 s D.1).2.many (do13 s D.1).2.room rfl hlr (by omega) hx.rsp hx.srv y2 hx.inS hx.inV (by omega) (by omega) hB5.size _ _ _ _ _ _ _ _ _ _ _ _ _ _ _ _ _ _ _ _ _ _ _ _ _ _)
  rintro ex ⟨T,Df⟩ W6 ⟨rfl,hDf,_,hT,hB6,_,_,hI6,_,j26⟩
  simp only at hT hDf
  subst hT
  subst hDf
  go_wp2
  exact bodyPost_ret (results_rt13 Tryz.results19 _ _ (w.heap.size + 1) 33 _ _ rfl j26 Tryz.underlying33 rfl infoSrv13) rfl ⟨A2,c2,by rw [HS.out];rfl,by rw [HS.out];exact hI6,hB5.trans hB6⟩
 ·
  have HS:=Lib.hid (HST.out.trans (if_neg he))
  have he1:¬ (D.2=0):=he
  go_upto_region 3 with (fail)
  refine Code.wp_mono ?_ (stp13_3 W4 w.heap.size w.heap.size (w.heap.size + 1) s A c none [] (answV11 zrsp11).1 rfl m1 m2 (HI.out.keep hB4) (fun j u hj=>by cases hj) (by omega) (by omega) hB4.size _ _ _ _ _ _ _ _ _ _ _ _ _ _ _ _ _ _ _ _ _ _ _ _ _ _ _)
  rintro ex ⟨T,Df⟩ W5 ⟨rfl,hDf,_,hT,hB5,_,hI5,_,j25⟩
  simp only at hT hDf
  subst hT
  subst hDf
  go_wp2
  exact bodyPost_ret (results_rt13 Tryz.results19 _ _ (w.heap.size + 1) 33 _ _ rfl j25 Tryz.underlying33 rfl infoSrv13) rfl ⟨A,c,by rw [HS.out];rfl,by rw [HS.out];exact hI5,hB4.trans hB5⟩
end Go.Proofs.YtmggbbmpckcleaaGreat
namespace Go.Proofs.YtmggbbmpckcleaaGreat
open Go.RowKit Go.Shelf
theorem two_in13 (W:World) (s t:ByteArray):InV (W.alloc (.cells #[.string s,.string t] 9)) (some ⟨W.heap.size,0,none⟩) (tL10 [s,t]):=fun j u hj=>by
 have hD:=Is.new W 9 #[.string s,.string t]
 refine ⟨W.heap.size,0,rfl,hD.lt,?_⟩
 rw [Nat.zero_add,hD.cell j,← hj]
 rcases j with _ | _ | j <;> rfl
def awS13:Srv13:=⟨⟨new12 8,0,0⟩,5⟩
def awD13:Srv13 × Rsp11:=do13 awS13 ⟨1,[label11 1],[cell11 1]⟩
theorem aw_new13:newS13 5=(awS13,0):=by kernel_rfl
theorem aw_no13:newS13 (-1)=(⟨⟨[],0,0⟩,0⟩,1):=by kernel_rfl
theorem aw_put13:awD13.2=⟨1,0,[],0,0⟩:=by kernel_rfl
theorem aw_get13:(do13 awD13.1 ⟨2,[label11 1,label11 2],[]⟩).2=⟨2,0,[cell11 1,⟨#[]⟩],0,0⟩:=by kernel_rfl
theorem aw_stat13:(do13 awS13 ⟨4,[],[]⟩).2=⟨4,0,[],0,5⟩:=by kernel_rfl
theorem aw_bad13:(step13 awS13 ⟨#[98,97,100]⟩).2.size=20:=by kernel_rfl
theorem aw_right13:right13 awD13.1=true:=by kernel_rfl
theorem awk13_1 (W0:World) (s:Srv13) (v:Int) (HN:Hid (∀ W,Calls Tryz.prog 7 #[.int .i64 5] W fun e w'=>∃ A c,e=.returned (.tuple #[srvV s A c,.int .i64 v])∧InS w' s.S A c∧Below W.heap.size W w')) (x0 x1 x2 x3 x4 x5 x6 x7 x8 x9 Xa Xb Xc Xd Xe Xf Xg Xh Xi Xj Xk Xl Xm Xn Xo Xp Xq Xr Xs Xt Xu Xv Xw Xx Xy Xz Ya Yb Yc Yd Ye Yf Yg Yh Yi Yj Yk Yl Ym Yn Yo Yp Yq Yr Ys Yt Yu Yv Yw Yx Yy Yz Za Zb Zc Zd Ze Zf Zg Zh Zi Zj Zk Zl Zm Zn Zo Zp Zq Zr Zs Zt Zu Zv Zw Zx Zy Zz Ua Ub Uc Ud Ue Uf Ug Uh Ui Uj Uk Ul Um Un Uo Up Uq Ur Us Ut Uu Uv Uw Ux Uy Uz Va Vb:Value) (Q:Exit→Act→World→Prop) (hQ:∀ DN A2 c2 W2,BoxS13 W0 W2 DN s A2 c2→Q .normal { tmps:=#[x0,.pointer (some ⟨DN,0,none⟩),.int .i64 v,x3,x4,x5,x6,x7,x8,x9,Xa,Xb,Xc,Xd,Xe,.tuple #[.agg (srvA s A2 c2),.int .i64 v],.tuple #[.agg (srvA s A2 c2),.int .i64 v],.agg (srvA s A2 c2),.int .i64 v,Xj,Xk,Xl,Xm,Xn,Xo,Xp,Xq,Xr,Xs,Xt,Xu,Xv,Xw,Xx,Xy,Xz,Ya,Yb,Yc,Yd,Ye,Yf,Yg,Yh,Yi,Yj,Yk,Yl,Ym,Yn,Yo,Yp,Yq,Yr,Ys,Yt,Yu,Yv,Yw,Yx,Yy,Yz,Za,Zb,Zc,Zd,Ze,Zf,Zg,Zh,Zi,Zj,Zk,Zl,Zm,Zn,Zo,Zp,Zq,Zr,Zs,Zt,Zu,Zv,Zw,Zx,Zy,Zz,Ua,Ub,Uc,Ud,Ue,Uf,Ug,Uh,Ui,Uj,Uk,Ul,Um,Un,Uo,Up,Uq,Ur,Us,Ut,Uu,Uv,Uw,Ux,Uy,Uz,Va,Vb],defers:=[] } W2) :
  wpList Tryz.prog (opsOf Tryz.f6 1) Q (opsOf Tryz.f6 1).toList { tmps:=#[x0,x1,x2,x3,x4,x5,x6,x7,x8,x9,Xa,Xb,Xc,Xd,Xe,Xf,Xg,Xh,Xi,Xj,Xk,Xl,Xm,Xn,Xo,Xp,Xq,Xr,Xs,Xt,Xu,Xv,Xw,Xx,Xy,Xz,Ya,Yb,Yc,Yd,Ye,Yf,Yg,Yh,Yi,Yj,Yk,Yl,Ym,Yn,Yo,Yp,Yq,Yr,Ys,Yt,Yu,Yv,Yw,Yx,Yy,Yz,Za,Zb,Zc,Zd,Ze,Zf,Zg,Zh,Zi,Zj,Zk,Zl,Zm,Zn,Zo,Zp,Zq,Zr,Zs,Zt,Zu,Zv,Zw,Zx,Zy,Zz,Ua,Ub,Uc,Ud,Ue,Uf,Ug,Uh,Ui,Uj,Uk,Ul,Um,Un,Uo,Up,Uq,Ur,Us,Ut,Uu,Uv,Uw,Ux,Uy,Uz,Va,Vb],defers:=[] } W0:=by
 refine line_start ?_
 refine line_call13 (i:=0) (at_nth rfl) (by kernel_rfl) (fun wy=>by kernel_rfl) (((HN.out W0)).mono ?_)
 rintro e W1 ⟨A2,c2,rfl,hX,hb⟩
 refine ⟨_,rfl,?_⟩
 simp only [Act.put,zz0,zz1,zz2]
 refine lineP (i:=1) (v:=.tuple #[.agg (srvA s A2 c2),.int .i64 v]) rfl (by kernel_rfl) ?_
 simp only [Act.put,zz0,zz1,zz2]
 refine lineP (i:=2) (v:=.agg (srvA s A2 c2)) rfl (by kernel_rfl) ?_
 simp only [Act.put,zz0,zz1,zz2]
 refine lineP (i:=3) (v:=.int .i64 v) rfl (by kernel_rfl) ?_
 simp only [Act.put,zz0,zz1,zz2]
 refine line_step13 (i := 4) (o := { dst := some 1, op := Op.alloc 33, type := 0, pos := "law.go:40", after := #[], guard := none }) (w' := W1.alloc (.cells #[.slice none 0 0, .int .i64 0, .int .i64 0, .int .i64 0] 33)) (v := .pointer (some ⟨W1.heap.size, 0, none⟩)) (by kernel_rfl) (by kernel_rfl) (by go_simp) ?_
 simp only [Act.put,zz0,zz1,zz2]
 refine line_skip13 (i := 5) (o := { dst := none, op := Op.store 33 (Operand.tmp 1) (Operand.tmp 17), type := 0, pos := "law.go:40", after := #[{ on := 4, ground := Ground.data }, { on := 2, ground := Ground.data }, { on := 0, ground := Ground.chain }, { on := 0, ground := Ground.phase }, { on := 1, ground := Ground.phase }, { on := 2, ground := Ground.phase }, { on := 3, ground := Ground.textOnly Departure.lateStores }, { on := 4, ground := Ground.phase }], guard := none }) (w' := (W1.alloc (.cells #[.slice none 0 0, .int .i64 0, .int .i64 0, .int .i64 0] 33)).setRow W1.heap.size (srvA s A2 c2)) (by kernel_rfl) (by kernel_rfl) (run_row10 rfl rfl rfl (Is.new W1 33 #[.slice none 0 0, .int .i64 0, .int .i64 0, .int .i64 0]) infoSrv13 rfl (srvA_one13 _ _ _)) ?_
 try simp only [Act.put]
 refine lineP (i:=6) (v:=.int .i64 v) rfl (by kernel_rfl) ?_
 simp only [Act.put,zz0,zz1,zz2]
 exact line_done (by decide +kernel) (hQ _ _ _ _ (box_ofS13 hX hb))
theorem awk13_4 (W0:World) (l x:ByteArray) (D1:Nat) (s:Srv13) (A:Option Addr) (c:Nat) (i1:Is W0 D1 33 (srvA s A c)) (hI:InS W0 s.S A c) (x0 x2 x5 x6 x7 x8 x9 Xa Xb Xc Xd Xe Xf Xg Xh Xi Xj Xk Xl Xm Xn Xo Xp Xq Xr Xs Xt Xu Xv Xw Xx Xy Xz Ya Yb Yc Yd Ye Yf Yg Yh Yi Yj Yk Yl Ym Yn Yo Yp Yq Yr Ys Yt Yu Yv Yw Yx Yy Yz Za Zb Zc Zd Ze Zf Zg Zh Zi Zj Zk Zl Zm Zn Zo Zp Zq Zr Zs Zt Zu Zv Zw Zx Zy Zz Ua Ub Uc Ud Ue Uf Ug Uh Ui Uj Uk Ul Um Un Uo Up Uq Ur Us Ut Uu Uv Uw Ux Uy Uz Va Vb:Value) (Q:Exit→Act→World→Prop) (hQ:∀ DN DM A2 c2 RA rc W2,Box13 W0 W2 DN DM (do13 s ⟨1,[l],[x]⟩) A2 c2 RA rc→Q .normal { tmps:=#[x0,.pointer (some ⟨D1,0,none⟩),x2,.string l,.string x,.pointer (some ⟨DN,0,none⟩),.pointer (some ⟨DM,0,none⟩),x7,x8,x9,Xa,Xb,Xc,Xd,Xe,Xf,Xg,Xh,Xi,Xj,Xk,.tuple #[.agg (srvA (do13 s ⟨1,[l],[x]⟩).1 A2 c2),.agg (rspA (do13 s ⟨1,[l],[x]⟩).2.k (do13 s ⟨1,[l],[x]⟩).2.st RA (do13 s ⟨1,[l],[x]⟩).2.C.length rc (do13 s ⟨1,[l],[x]⟩).2.many (do13 s ⟨1,[l],[x]⟩).2.room)],.agg (srvA s A c),.string l,.slice (some ⟨W0.heap.size,0,none⟩) 1 1,.string x,.slice (some ⟨W0.heap.size + 1,0,none⟩) 1 1,.agg (reqA 1 (some ⟨W0.heap.size,0,none⟩) 1 1 (some ⟨W0.heap.size + 1,0,none⟩) 1 1),.tuple #[.agg (srvA (do13 s ⟨1,[l],[x]⟩).1 A2 c2),.agg (rspA (do13 s ⟨1,[l],[x]⟩).2.k (do13 s ⟨1,[l],[x]⟩).2.st RA (do13 s ⟨1,[l],[x]⟩).2.C.length rc (do13 s ⟨1,[l],[x]⟩).2.many (do13 s ⟨1,[l],[x]⟩).2.room)],.agg (srvA (do13 s ⟨1,[l],[x]⟩).1 A2 c2),.agg (rspA (do13 s ⟨1,[l],[x]⟩).2.k (do13 s ⟨1,[l],[x]⟩).2.st RA (do13 s ⟨1,[l],[x]⟩).2.C.length rc (do13 s ⟨1,[l],[x]⟩).2.many (do13 s ⟨1,[l],[x]⟩).2.room),Xv,Xw,Xx,Xy,Xz,Ya,Yb,Yc,Yd,Ye,Yf,Yg,Yh,Yi,Yj,Yk,Yl,Ym,Yn,Yo,Yp,Yq,Yr,Ys,Yt,Yu,Yv,Yw,Yx,Yy,Yz,Za,Zb,Zc,Zd,Ze,Zf,Zg,Zh,Zi,Zj,Zk,Zl,Zm,Zn,Zo,Zp,Zq,Zr,Zs,Zt,Zu,Zv,Zw,Zx,Zy,Zz,Ua,Ub,Uc,Ud,Ue,Uf,Ug,Uh,Ui,Uj,Uk,Ul,Um,Un,Uo,Up,Uq,Ur,Us,Ut,Uu,Uv,Uw,Ux,Uy,Uz,Va,Vb],defers:=[] } W2) :
  wpList Tryz.prog (opsOf Tryz.f6 4) Q (opsOf Tryz.f6 4).toList { tmps:=#[x0,.pointer (some ⟨D1,0,none⟩),x2,.string l,.string x,x5,x6,x7,x8,x9,Xa,Xb,Xc,Xd,Xe,Xf,Xg,Xh,Xi,Xj,Xk,Xl,Xm,Xn,Xo,Xp,Xq,Xr,Xs,Xt,Xu,Xv,Xw,Xx,Xy,Xz,Ya,Yb,Yc,Yd,Ye,Yf,Yg,Yh,Yi,Yj,Yk,Yl,Ym,Yn,Yo,Yp,Yq,Yr,Ys,Yt,Yu,Yv,Yw,Yx,Yy,Yz,Za,Zb,Zc,Zd,Ze,Zf,Zg,Zh,Zi,Zj,Zk,Zl,Zm,Zn,Zo,Zp,Zq,Zr,Zs,Zt,Zu,Zv,Zw,Zx,Zy,Zz,Ua,Ub,Uc,Ud,Ue,Uf,Ug,Uh,Ui,Uj,Uk,Ul,Um,Un,Uo,Up,Uq,Ur,Us,Ut,Uu,Uv,Uw,Ux,Uy,Uz,Va,Vb],defers:=[] } W0:=by
 have hbb:Below W0.heap.size W0 ((W0.alloc (.cells #[.string l] 9)).alloc (.cells #[.string x] 9)):=((Below.refl _ _).alloc (Nat.le_refl _) _).alloc (by simp) _
 have hcc:InV ((W0.alloc (.cells #[.string l] 9)).alloc (.cells #[.string x] 9)) (some ⟨W0.heap.size + 1,0,none⟩) (tL10 [x]):=by have h:=one_in10 (W0.alloc (.cells #[.string l] 9)) x;rw [World.size_alloc] at h;exact h
 refine line_start ?_
 refine lineP (i:=0) (v:=.agg (srvA s A c)) rfl (by exact exec_load10 rfl rfl (run_loadVar_row _ _ 33 33 _ (0,0) _ i1 Tryz.underlying33 rfl infoSrv13)) ?_
 simp only [Act.put,zz0,zz1,zz2]
 refine lineP (i:=1) (v:=.string l) rfl (by kernel_rfl) ?_
 simp only [Act.put,zz0,zz1,zz2]
 refine line_step13 (i := 2) (o := { dst := some 24, op := Op.buildSlice 24 1 #[(0, Operand.tmp 23)], type := 24, pos := "law.go:43", after := #[{ on := 1, ground := Ground.data }], guard := none }) (w' := W0.alloc (.cells #[.string l] 9)) (v := .slice (some ⟨W0.heap.size, 0, none⟩) 1 1) (by kernel_rfl) (by kernel_rfl) (by go_simp) ?_
 simp only [Act.put,zz0,zz1,zz2]
 refine lineP (i:=3) (v:=.string x) rfl (by kernel_rfl) ?_
 simp only [Act.put,zz0,zz1,zz2]
 refine line_step13 (i := 4) (o := { dst := some 26, op := Op.buildSlice 24 1 #[(0, Operand.tmp 25)], type := 24, pos := "law.go:43", after := #[{ on := 3, ground := Ground.data }], guard := none }) (w' := ((W0.alloc (.cells #[.string l] 9)).alloc (.cells #[.string x] 9))) (v := .slice (some ⟨W0.heap.size + 1, 0, none⟩) 1 1) (by kernel_rfl) (by kernel_rfl) (by go_simp) ?_
 simp only [Act.put,zz0,zz1,zz2]
 refine lineP (i:=5) (v:=.agg (reqA 1 (some ⟨W0.heap.size,0,none⟩) 1 1 (some ⟨W0.heap.size + 1,0,none⟩) 1 1)) rfl (by go_simp) ?_
 simp only [Act.put,zz0,zz1,zz2]
 refine line_call13 (i:=6) (at_nth rfl) (by kernel_rfl) (fun wy=>by kernel_rfl) ((sdo_any13 s A c ⟨1,[l],[x]⟩ (some ⟨W0.heap.size,0,none⟩) (some ⟨W0.heap.size + 1,0,none⟩) 1 1 ((W0.alloc (.cells #[.string l] 9)).alloc (.cells #[.string x] 9)) (by simp) (by simp) (hI.keep hbb) ((one_in10 W0 l).keep ((Below.refl _ _).alloc (Nat.le_refl _) _)) hcc).mono ?_)
 rintro e W1 hp
 obtain ⟨A2,c2,RA,rc,rfl,hX,hV,hb⟩:=hp
 refine ⟨_,rfl,?_⟩
 simp only [Act.put,zz0,zz1,zz2]
 refine lineP (i:=7) (v:=.tuple #[.agg (srvA (do13 s ⟨1,[l],[x]⟩).1 A2 c2),.agg (rspA (do13 s ⟨1,[l],[x]⟩).2.k (do13 s ⟨1,[l],[x]⟩).2.st RA (do13 s ⟨1,[l],[x]⟩).2.C.length rc (do13 s ⟨1,[l],[x]⟩).2.many (do13 s ⟨1,[l],[x]⟩).2.room)]) rfl (by kernel_rfl) ?_
 simp only [Act.put,zz0,zz1,zz2]
 refine lineP (i:=8) (v:=.agg (srvA (do13 s ⟨1,[l],[x]⟩).1 A2 c2)) rfl (by kernel_rfl) ?_
 simp only [Act.put,zz0,zz1,zz2]
 refine lineP (i:=9) (v:=.agg (rspA (do13 s ⟨1,[l],[x]⟩).2.k (do13 s ⟨1,[l],[x]⟩).2.st RA (do13 s ⟨1,[l],[x]⟩).2.C.length rc (do13 s ⟨1,[l],[x]⟩).2.many (do13 s ⟨1,[l],[x]⟩).2.room)) rfl (by kernel_rfl) ?_
 simp only [Act.put,zz0,zz1,zz2]
 refine line_step13 (i := 10) (o := { dst := some 5, op := Op.alloc 33, type := 0, pos := "law.go:43", after := #[], guard := none }) (w' := W1.alloc (.cells #[.slice none 0 0, .int .i64 0, .int .i64 0, .int .i64 0] 33)) (v := .pointer (some ⟨W1.heap.size, 0, none⟩)) (by kernel_rfl) (by kernel_rfl) (by go_simp) ?_
 simp only [Act.put,zz0,zz1,zz2]
 refine line_step13 (i := 11) (o := { dst := some 6, op := Op.alloc 45, type := 0, pos := "law.go:43", after := #[], guard := none }) (w' := ((W1.alloc (.cells #[.slice none 0 0, .int .i64 0, .int .i64 0, .int .i64 0] 33)).alloc (.cells (rspA 0 0 none 0 0 0 0) 45))) (v := .pointer (some ⟨W1.heap.size + 1, 0, none⟩)) (by kernel_rfl) (by kernel_rfl) (by go_simp) ?_
 simp only [Act.put,zz0,zz1,zz2]
 refine line_skip13 (i := 12) (o := { dst := none, op := Op.store 33 (Operand.tmp 5) (Operand.tmp 29), type := 0, pos := "law.go:43", after := #[{ on := 10, ground := Ground.data }, { on := 8, ground := Ground.data }, { on := 6, ground := Ground.chain }, { on := 0, ground := Ground.phase }, { on := 1, ground := Ground.phase }, { on := 2, ground := Ground.phase }, { on := 3, ground := Ground.phase }, { on := 4, ground := Ground.phase }, { on := 5, ground := Ground.phase }, { on := 6, ground := Ground.phase }, { on := 7, ground := Ground.phase }, { on := 8, ground := Ground.phase }, { on := 9, ground := Ground.textOnly Departure.lateStores }, { on := 10, ground := Ground.phase }, { on := 11, ground := Ground.phase }], guard := none }) (w' := ((W1.alloc (.cells #[.slice none 0 0, .int .i64 0, .int .i64 0, .int .i64 0] 33)).alloc (.cells (rspA 0 0 none 0 0 0 0) 45)).setRow W1.heap.size (srvA (do13 s ⟨1, [l], [x]⟩).1 A2 c2)) (by kernel_rfl) (by kernel_rfl) (run_row10 rfl rfl rfl (boxA13 W1) infoSrv13 rfl (srvA_one13 _ _ _)) ?_
 try simp only [Act.put]
 refine line_skip13 (i := 13) (o := { dst := none, op := Op.store 45 (Operand.tmp 6) (Operand.tmp 30), type := 0, pos := "law.go:43", after := #[{ on := 11, ground := Ground.data }, { on := 9, ground := Ground.data }, { on := 12, ground := Ground.chain }, { on := 0, ground := Ground.phase }, { on := 1, ground := Ground.phase }, { on := 2, ground := Ground.phase }, { on := 3, ground := Ground.phase }, { on := 4, ground := Ground.phase }, { on := 5, ground := Ground.phase }, { on := 6, ground := Ground.phase }, { on := 7, ground := Ground.phase }, { on := 8, ground := Ground.phase }, { on := 9, ground := Ground.phase }, { on := 10, ground := Ground.phase }, { on := 11, ground := Ground.phase }, { on := 12, ground := Ground.phase }], guard := none }) (w' := (((W1.alloc (.cells #[.slice none 0 0, .int .i64 0, .int .i64 0, .int .i64 0] 33)).alloc (.cells (rspA 0 0 none 0 0 0 0) 45)).setRow W1.heap.size (srvA (do13 s ⟨1, [l], [x]⟩).1 A2 c2)).setRow (W1.heap.size + 1) (rspA (do13 s ⟨1, [l], [x]⟩).2.k (do13 s ⟨1, [l], [x]⟩).2.st RA (do13 s ⟨1, [l], [x]⟩).2.C.length rc (do13 s ⟨1, [l], [x]⟩).2.many (do13 s ⟨1, [l], [x]⟩).2.room)) (by kernel_rfl) (by kernel_rfl) (run_row10 rfl rfl rfl (boxB13 W1 _) infoRsp13 rfl (rspA_one13 _ _ _ _ _ _ _)) ?_
 try simp only [Act.put]
 exact line_done (by decide +kernel) (hQ _ _ _ _ _ _ _ (box_of13 hX hV (hbb.trans (hb.mono hbb.size))))
theorem awk13_6 (W0:World) (D1:Nat) (s:Srv13) (A:Option Addr) (c:Nat) (i1:Is W0 D1 33 (srvA s A c)) (hI:InS W0 s.S A c) (x0 x2 x3 x4 x5 x6 x7 x8 x9 Xa Xb Xc Xd Xe Xf Xg Xh Xi Xj Xk Xl Xm Xn Xo Xp Xq Xr Xs Xt Xu Xv Xw Xx Xy Xz Ya Yb Yc Yd Ye Yf Yg Yh Yi Yj Yk Yl Ym Yn Yo Yp Yq Yr Ys Yt Yu Yv Yw Yx Yy Yz Za Zb Zc Zd Ze Zf Zg Zh Zi Zj Zk Zl Zm Zn Zo Zp Zq Zr Zs Zt Zu Zv Zw Zx Zy Zz Ua Ub Uc Ud Ue Uf Ug Uh Ui Uj Uk Ul Um Un Uo Up Uq Ur Us Ut Uu Uv Uw Ux Uy Uz Va Vb:Value) (Q:Exit→Act→World→Prop) (hQ:∀ DN DM A2 c2 RA rc W2,Box13 W0 W2 DN DM (do13 s ⟨4,[],[]⟩) A2 c2 RA rc→Q .normal { tmps:=#[x0,.pointer (some ⟨D1,0,none⟩),x2,x3,x4,x5,x6,x7,x8,.pointer (some ⟨DN,0,none⟩),.pointer (some ⟨DM,0,none⟩),Xb,Xc,Xd,Xe,Xf,Xg,Xh,Xi,Xj,Xk,Xl,Xm,Xn,Xo,Xp,Xq,Xr,Xs,Xt,Xu,Xv,Xw,Xx,Xy,Xz,Ya,Yb,Yc,Yd,.tuple #[.agg (srvA (do13 s ⟨4,[],[]⟩).1 A2 c2),.agg (rspA (do13 s ⟨4,[],[]⟩).2.k (do13 s ⟨4,[],[]⟩).2.st RA (do13 s ⟨4,[],[]⟩).2.C.length rc (do13 s ⟨4,[],[]⟩).2.many (do13 s ⟨4,[],[]⟩).2.room)],.agg (srvA s A c),.agg (reqA 4 none 0 0 none 0 0),.tuple #[.agg (srvA (do13 s ⟨4,[],[]⟩).1 A2 c2),.agg (rspA (do13 s ⟨4,[],[]⟩).2.k (do13 s ⟨4,[],[]⟩).2.st RA (do13 s ⟨4,[],[]⟩).2.C.length rc (do13 s ⟨4,[],[]⟩).2.many (do13 s ⟨4,[],[]⟩).2.room)],.agg (srvA (do13 s ⟨4,[],[]⟩).1 A2 c2),.agg (rspA (do13 s ⟨4,[],[]⟩).2.k (do13 s ⟨4,[],[]⟩).2.st RA (do13 s ⟨4,[],[]⟩).2.C.length rc (do13 s ⟨4,[],[]⟩).2.many (do13 s ⟨4,[],[]⟩).2.room),Yk,Yl,Ym,Yn,Yo,Yp,Yq,Yr,Ys,Yt,Yu,Yv,Yw,Yx,Yy,Yz,Za,Zb,Zc,Zd,Ze,Zf,Zg,Zh,Zi,Zj,Zk,Zl,Zm,Zn,Zo,Zp,Zq,Zr,Zs,Zt,Zu,Zv,Zw,Zx,Zy,Zz,Ua,Ub,Uc,Ud,Ue,Uf,Ug,Uh,Ui,Uj,Uk,Ul,Um,Un,Uo,Up,Uq,Ur,Us,Ut,Uu,Uv,Uw,Ux,Uy,Uz,Va,Vb],defers:=[] } W2) :
  wpList Tryz.prog (opsOf Tryz.f6 6) Q (opsOf Tryz.f6 6).toList { tmps:=#[x0,.pointer (some ⟨D1,0,none⟩),x2,x3,x4,x5,x6,x7,x8,x9,Xa,Xb,Xc,Xd,Xe,Xf,Xg,Xh,Xi,Xj,Xk,Xl,Xm,Xn,Xo,Xp,Xq,Xr,Xs,Xt,Xu,Xv,Xw,Xx,Xy,Xz,Ya,Yb,Yc,Yd,Ye,Yf,Yg,Yh,Yi,Yj,Yk,Yl,Ym,Yn,Yo,Yp,Yq,Yr,Ys,Yt,Yu,Yv,Yw,Yx,Yy,Yz,Za,Zb,Zc,Zd,Ze,Zf,Zg,Zh,Zi,Zj,Zk,Zl,Zm,Zn,Zo,Zp,Zq,Zr,Zs,Zt,Zu,Zv,Zw,Zx,Zy,Zz,Ua,Ub,Uc,Ud,Ue,Uf,Ug,Uh,Ui,Uj,Uk,Ul,Um,Un,Uo,Up,Uq,Ur,Us,Ut,Uu,Uv,Uw,Ux,Uy,Uz,Va,Vb],defers:=[] } W0:=by
 refine line_start ?_
 refine lineP (i:=0) (v:=.agg (srvA s A c)) rfl (by exact exec_load10 rfl rfl (run_loadVar_row _ _ 33 33 _ (0,0) _ i1 Tryz.underlying33 rfl infoSrv13)) ?_
 simp only [Act.put,zz0,zz1,zz2]
 refine lineP (i:=1) (v:=.agg (reqA 4 none 0 0 none 0 0)) rfl (by go_simp) ?_
 simp only [Act.put,zz0,zz1,zz2]
 refine line_call13 (i:=2) (at_nth rfl) (by kernel_rfl) (fun wy=>by kernel_rfl) ((sdo_any13 s A c ⟨4,[],[]⟩ none none 0 0 W0 (by decide) (by decide) hI (fun j u hj=>by cases hj) (fun j u hj=>by cases hj)).mono ?_)
 rintro e W1 hp
 obtain ⟨A2,c2,RA,rc,rfl,hX,hV,hb⟩:=hp
 refine ⟨_,rfl,?_⟩
 simp only [Act.put,zz0,zz1,zz2]
 refine lineP (i:=3) (v:=.tuple #[.agg (srvA (do13 s ⟨4,[],[]⟩).1 A2 c2),.agg (rspA (do13 s ⟨4,[],[]⟩).2.k (do13 s ⟨4,[],[]⟩).2.st RA (do13 s ⟨4,[],[]⟩).2.C.length rc (do13 s ⟨4,[],[]⟩).2.many (do13 s ⟨4,[],[]⟩).2.room)]) rfl (by kernel_rfl) ?_
 simp only [Act.put,zz0,zz1,zz2]
 refine lineP (i:=4) (v:=.agg (srvA (do13 s ⟨4,[],[]⟩).1 A2 c2)) rfl (by kernel_rfl) ?_
 simp only [Act.put,zz0,zz1,zz2]
 refine lineP (i:=5) (v:=.agg (rspA (do13 s ⟨4,[],[]⟩).2.k (do13 s ⟨4,[],[]⟩).2.st RA (do13 s ⟨4,[],[]⟩).2.C.length rc (do13 s ⟨4,[],[]⟩).2.many (do13 s ⟨4,[],[]⟩).2.room)) rfl (by kernel_rfl) ?_
 simp only [Act.put,zz0,zz1,zz2]
 refine line_step13 (i := 6) (o := { dst := some 9, op := Op.alloc 33, type := 0, pos := "law.go:45", after := #[], guard := none }) (w' := W1.alloc (.cells #[.slice none 0 0, .int .i64 0, .int .i64 0, .int .i64 0] 33)) (v := .pointer (some ⟨W1.heap.size, 0, none⟩)) (by kernel_rfl) (by kernel_rfl) (by go_simp) ?_
 simp only [Act.put,zz0,zz1,zz2]
 refine line_step13 (i := 7) (o := { dst := some 10, op := Op.alloc 45, type := 0, pos := "law.go:45", after := #[], guard := none }) (w' := ((W1.alloc (.cells #[.slice none 0 0, .int .i64 0, .int .i64 0, .int .i64 0] 33)).alloc (.cells (rspA 0 0 none 0 0 0 0) 45))) (v := .pointer (some ⟨W1.heap.size + 1, 0, none⟩)) (by kernel_rfl) (by kernel_rfl) (by go_simp) ?_
 simp only [Act.put,zz0,zz1,zz2]
 refine line_skip13 (i := 8) (o := { dst := none, op := Op.store 33 (Operand.tmp 9) (Operand.tmp 44), type := 0, pos := "law.go:45", after := #[{ on := 6, ground := Ground.data }, { on := 4, ground := Ground.data }, { on := 2, ground := Ground.chain }, { on := 0, ground := Ground.phase }, { on := 1, ground := Ground.phase }, { on := 2, ground := Ground.phase }, { on := 3, ground := Ground.phase }, { on := 4, ground := Ground.phase }, { on := 5, ground := Ground.textOnly Departure.lateStores }, { on := 6, ground := Ground.phase }, { on := 7, ground := Ground.phase }], guard := none }) (w' := ((W1.alloc (.cells #[.slice none 0 0, .int .i64 0, .int .i64 0, .int .i64 0] 33)).alloc (.cells (rspA 0 0 none 0 0 0 0) 45)).setRow W1.heap.size (srvA (do13 s ⟨4, [], []⟩).1 A2 c2)) (by kernel_rfl) (by kernel_rfl) (run_row10 rfl rfl rfl (boxA13 W1) infoSrv13 rfl (srvA_one13 _ _ _)) ?_
 try simp only [Act.put]
 refine line_skip13 (i := 9) (o := { dst := none, op := Op.store 45 (Operand.tmp 10) (Operand.tmp 45), type := 0, pos := "law.go:45", after := #[{ on := 7, ground := Ground.data }, { on := 5, ground := Ground.data }, { on := 8, ground := Ground.chain }, { on := 0, ground := Ground.phase }, { on := 1, ground := Ground.phase }, { on := 2, ground := Ground.phase }, { on := 3, ground := Ground.phase }, { on := 4, ground := Ground.phase }, { on := 5, ground := Ground.phase }, { on := 6, ground := Ground.phase }, { on := 7, ground := Ground.phase }, { on := 8, ground := Ground.phase }], guard := none }) (w' := (((W1.alloc (.cells #[.slice none 0 0, .int .i64 0, .int .i64 0, .int .i64 0] 33)).alloc (.cells (rspA 0 0 none 0 0 0 0) 45)).setRow W1.heap.size (srvA (do13 s ⟨4, [], []⟩).1 A2 c2)).setRow (W1.heap.size + 1) (rspA (do13 s ⟨4, [], []⟩).2.k (do13 s ⟨4, [], []⟩).2.st RA (do13 s ⟨4, [], []⟩).2.C.length rc (do13 s ⟨4, [], []⟩).2.many (do13 s ⟨4, [], []⟩).2.room)) (by kernel_rfl) (by kernel_rfl) (run_row10 rfl rfl rfl (boxB13 W1 _) infoRsp13 rfl (rspA_one13 _ _ _ _ _ _ _)) ?_
 try simp only [Act.put]
 exact line_done (by decide +kernel) (hQ _ _ _ _ _ _ _ (box_of13 hX hV hb))
theorem awk13_7 (W0:World) (D1:Nat) (s:Srv13) (A:Option Addr) (c:Nat) (i1:Is W0 D1 33 (srvA s A c)) (hI:InS W0 s.S A c) (x0 x2 x3 x4 x5 x6 x7 x8 x9 Xa Xb Xc Xd Xe Xf Xg Xh Xi Xj Xk Xl Xm Xn Xo Xp Xq Xr Xs Xt Xu Xv Xw Xx Xy Xz Ya Yb Yc Yd Ye Yf Yg Yh Yi Yj Yk Yl Ym Yn Yo Yp Yq Yr Ys Yt Yu Yv Yw Yx Yy Yz Za Zb Zc Zd Ze Zf Zg Zh Zi Zj Zk Zl Zm Zn Zo Zp Zq Zr Zs Zt Zu Zv Zw Zx Zy Zz Ua Ub Uc Ud Ue Uf Ug Uh Ui Uj Uk Ul Um Un Uo Up Uq Ur Us Ut Uu Uv Uw Ux Uy Uz Va Vb:Value) (Q:Exit→Act→World→Prop) (hQ:∀ DN A2 c2 W2,BoxS13 W0 W2 DN (step13 s ⟨#[98,97,100]⟩).1 A2 c2→Q .normal { tmps:=#[x0,.pointer (some ⟨D1,0,none⟩),x2,x3,x4,x5,x6,x7,x8,x9,Xa,.pointer (some ⟨DN,0,none⟩),.string (step13 s ⟨#[98,97,100]⟩).2,Xd,Xe,Xf,Xg,Xh,Xi,Xj,Xk,Xl,Xm,Xn,Xo,Xp,Xq,Xr,Xs,Xt,Xu,Xv,Xw,Xx,Xy,Xz,Ya,Yb,Yc,Yd,Ye,Yf,Yg,Yh,Yi,Yj,.tuple #[.agg (srvA (step13 s ⟨#[98,97,100]⟩).1 A2 c2),.string (step13 s ⟨#[98,97,100]⟩).2],.agg (srvA s A c),.tuple #[.agg (srvA (step13 s ⟨#[98,97,100]⟩).1 A2 c2),.string (step13 s ⟨#[98,97,100]⟩).2],.agg (srvA (step13 s ⟨#[98,97,100]⟩).1 A2 c2),.string (step13 s ⟨#[98,97,100]⟩).2,Yp,Yq,Yr,Ys,Yt,Yu,Yv,Yw,Yx,Yy,Yz,Za,Zb,Zc,Zd,Ze,Zf,Zg,Zh,Zi,Zj,Zk,Zl,Zm,Zn,Zo,Zp,Zq,Zr,Zs,Zt,Zu,Zv,Zw,Zx,Zy,Zz,Ua,Ub,Uc,Ud,Ue,Uf,Ug,Uh,Ui,Uj,Uk,Ul,Um,Un,Uo,Up,Uq,Ur,Us,Ut,Uu,Uv,Uw,Ux,Uy,Uz,Va,Vb],defers:=[] } W2) :
  wpList Tryz.prog (opsOf Tryz.f6 7) Q (opsOf Tryz.f6 7).toList { tmps:=#[x0,.pointer (some ⟨D1,0,none⟩),x2,x3,x4,x5,x6,x7,x8,x9,Xa,Xb,Xc,Xd,Xe,Xf,Xg,Xh,Xi,Xj,Xk,Xl,Xm,Xn,Xo,Xp,Xq,Xr,Xs,Xt,Xu,Xv,Xw,Xx,Xy,Xz,Ya,Yb,Yc,Yd,Ye,Yf,Yg,Yh,Yi,Yj,Yk,Yl,Ym,Yn,Yo,Yp,Yq,Yr,Ys,Yt,Yu,Yv,Yw,Yx,Yy,Yz,Za,Zb,Zc,Zd,Ze,Zf,Zg,Zh,Zi,Zj,Zk,Zl,Zm,Zn,Zo,Zp,Zq,Zr,Zs,Zt,Zu,Zv,Zw,Zx,Zy,Zz,Ua,Ub,Uc,Ud,Ue,Uf,Ug,Uh,Ui,Uj,Uk,Ul,Um,Un,Uo,Up,Uq,Ur,Us,Ut,Uu,Uv,Uw,Ux,Uy,Uz,Va,Vb],defers:=[] } W0:=by
 refine line_start ?_
 refine lineP (i:=0) (v:=.agg (srvA s A c)) rfl (by exact exec_load10 rfl rfl (run_loadVar_row _ _ 33 33 _ (0,0) _ i1 Tryz.underlying33 rfl infoSrv13)) ?_
 simp only [Act.put,zz0,zz1,zz2]
 refine line_call13 (i:=1) (at_nth rfl) (by kernel_rfl) (fun wy=>by kernel_rfl) (((sstep_any13 s A c ⟨#[98,97,100]⟩ W0 hI)).mono ?_)
 rintro e W1 ⟨A2,c2,rfl,hX,hb⟩
 refine ⟨_,rfl,?_⟩
 simp only [Act.put,zz0,zz1,zz2]
 refine lineP (i:=2) (v:=.tuple #[.agg (srvA (step13 s ⟨#[98,97,100]⟩).1 A2 c2),.string (step13 s ⟨#[98,97,100]⟩).2]) rfl (by kernel_rfl) ?_
 simp only [Act.put,zz0,zz1,zz2]
 refine lineP (i:=3) (v:=.agg (srvA (step13 s ⟨#[98,97,100]⟩).1 A2 c2)) rfl (by kernel_rfl) ?_
 simp only [Act.put,zz0,zz1,zz2]
 refine lineP (i:=4) (v:=.string (step13 s ⟨#[98,97,100]⟩).2) rfl (by kernel_rfl) ?_
 simp only [Act.put,zz0,zz1,zz2]
 refine line_step13 (i := 5) (o := { dst := some 11, op := Op.alloc 33, type := 0, pos := "law.go:46", after := #[], guard := none }) (w' := W1.alloc (.cells #[.slice none 0 0, .int .i64 0, .int .i64 0, .int .i64 0] 33)) (v := .pointer (some ⟨W1.heap.size, 0, none⟩)) (by kernel_rfl) (by kernel_rfl) (by go_simp) ?_
 simp only [Act.put,zz0,zz1,zz2]
 refine line_skip13 (i := 6) (o := { dst := none, op := Op.store 33 (Operand.tmp 11) (Operand.tmp 49), type := 0, pos := "law.go:46", after := #[{ on := 5, ground := Ground.data }, { on := 3, ground := Ground.data }, { on := 1, ground := Ground.chain }, { on := 0, ground := Ground.phase }, { on := 1, ground := Ground.phase }, { on := 2, ground := Ground.phase }, { on := 3, ground := Ground.phase }, { on := 4, ground := Ground.textOnly Departure.lateStores }, { on := 5, ground := Ground.phase }], guard := none }) (w' := (W1.alloc (.cells #[.slice none 0 0, .int .i64 0, .int .i64 0, .int .i64 0] 33)).setRow W1.heap.size (srvA (step13 s ⟨#[98, 97, 100]⟩).1 A2 c2)) (by kernel_rfl) (by kernel_rfl) (run_row10 rfl rfl rfl (Is.new W1 33 #[.slice none 0 0, .int .i64 0, .int .i64 0, .int .i64 0]) infoSrv13 rfl (srvA_one13 _ _ _)) ?_
 try simp only [Act.put]
 refine lineP (i:=7) (v:=.string (step13 s ⟨#[98,97,100]⟩).2) rfl (by kernel_rfl) ?_
 simp only [Act.put,zz0,zz1,zz2]
 exact line_done (by decide +kernel) (hQ _ _ _ _ (box_ofS13 hX hb))
theorem awk13_8 (W0:World) (s:Srv13) (v:Int) (HN:Hid (∀ W,Calls Tryz.prog 7 #[.int .i64 (-1)] W fun e w'=>∃ A c,e=.returned (.tuple #[srvV s A c,.int .i64 v])∧InS w' s.S A c∧Below W.heap.size W w')) (x0 x1 x2 x3 x4 x5 x6 x7 x8 x9 Xa Xb Xc Xd Xe Xf Xg Xh Xi Xj Xk Xl Xm Xn Xo Xp Xq Xr Xs Xt Xu Xv Xw Xx Xy Xz Ya Yb Yc Yd Ye Yf Yg Yh Yi Yj Yk Yl Ym Yn Yo Yp Yq Yr Ys Yt Yu Yv Yw Yx Yy Yz Za Zb Zc Zd Ze Zf Zg Zh Zi Zj Zk Zl Zm Zn Zo Zp Zq Zr Zs Zt Zu Zv Zw Zx Zy Zz Ua Ub Uc Ud Ue Uf Ug Uh Ui Uj Uk Ul Um Un Uo Up Uq Ur Us Ut Uu Uv Uw Ux Uy Uz Va Vb:Value) (Q:Exit→Act→World→Prop) (hQ:∀ DN A2 c2 W2,BoxS13 W0 W2 DN s A2 c2→Q .normal { tmps:=#[x0,x1,x2,x3,x4,x5,x6,x7,x8,x9,Xa,Xb,Xc,.pointer (some ⟨DN,0,none⟩),.int .i64 v,Xf,Xg,Xh,Xi,Xj,Xk,Xl,Xm,Xn,Xo,Xp,Xq,Xr,Xs,Xt,Xu,Xv,Xw,Xx,Xy,Xz,Ya,Yb,Yc,Yd,Ye,Yf,Yg,Yh,Yi,Yj,Yk,Yl,Ym,Yn,Yo,.tuple #[.agg (srvA s A2 c2),.int .i64 v],.tuple #[.agg (srvA s A2 c2),.int .i64 v],.agg (srvA s A2 c2),.int .i64 v,Yt,Yu,Yv,Yw,Yx,Yy,Yz,Za,Zb,Zc,Zd,Ze,Zf,Zg,Zh,Zi,Zj,Zk,Zl,Zm,Zn,Zo,Zp,Zq,Zr,Zs,Zt,Zu,Zv,Zw,Zx,Zy,Zz,Ua,Ub,Uc,Ud,Ue,Uf,Ug,Uh,Ui,Uj,Uk,Ul,Um,Un,Uo,Up,Uq,Ur,Us,Ut,Uu,Uv,Uw,Ux,Uy,Uz,Va,Vb],defers:=[] } W2) :
  wpList Tryz.prog (opsOf Tryz.f6 8) Q (opsOf Tryz.f6 8).toList { tmps:=#[x0,x1,x2,x3,x4,x5,x6,x7,x8,x9,Xa,Xb,Xc,Xd,Xe,Xf,Xg,Xh,Xi,Xj,Xk,Xl,Xm,Xn,Xo,Xp,Xq,Xr,Xs,Xt,Xu,Xv,Xw,Xx,Xy,Xz,Ya,Yb,Yc,Yd,Ye,Yf,Yg,Yh,Yi,Yj,Yk,Yl,Ym,Yn,Yo,Yp,Yq,Yr,Ys,Yt,Yu,Yv,Yw,Yx,Yy,Yz,Za,Zb,Zc,Zd,Ze,Zf,Zg,Zh,Zi,Zj,Zk,Zl,Zm,Zn,Zo,Zp,Zq,Zr,Zs,Zt,Zu,Zv,Zw,Zx,Zy,Zz,Ua,Ub,Uc,Ud,Ue,Uf,Ug,Uh,Ui,Uj,Uk,Ul,Um,Un,Uo,Up,Uq,Ur,Us,Ut,Uu,Uv,Uw,Ux,Uy,Uz,Va,Vb],defers:=[] } W0:=by
 refine line_start ?_
 refine line_call13 (i:=0) (at_nth rfl) (by kernel_rfl) (fun wy=>by kernel_rfl) (((HN.out W0)).mono ?_)
 rintro e W1 ⟨A2,c2,rfl,hX,hb⟩
 refine ⟨_,rfl,?_⟩
 simp only [Act.put,zz0,zz1,zz2]
 refine lineP (i:=1) (v:=.tuple #[.agg (srvA s A2 c2),.int .i64 v]) rfl (by kernel_rfl) ?_
 simp only [Act.put,zz0,zz1,zz2]
 refine lineP (i:=2) (v:=.agg (srvA s A2 c2)) rfl (by kernel_rfl) ?_
 simp only [Act.put,zz0,zz1,zz2]
 refine lineP (i:=3) (v:=.int .i64 v) rfl (by kernel_rfl) ?_
 simp only [Act.put,zz0,zz1,zz2]
 refine line_step13 (i := 4) (o := { dst := some 13, op := Op.alloc 33, type := 0, pos := "law.go:47", after := #[], guard := none }) (w' := W1.alloc (.cells #[.slice none 0 0, .int .i64 0, .int .i64 0, .int .i64 0] 33)) (v := .pointer (some ⟨W1.heap.size, 0, none⟩)) (by kernel_rfl) (by kernel_rfl) (by go_simp) ?_
 simp only [Act.put,zz0,zz1,zz2]
 refine line_skip13 (i := 5) (o := { dst := none, op := Op.store 33 (Operand.tmp 13) (Operand.tmp 53), type := 0, pos := "law.go:47", after := #[{ on := 4, ground := Ground.data }, { on := 2, ground := Ground.data }, { on := 0, ground := Ground.chain }, { on := 0, ground := Ground.phase }, { on := 1, ground := Ground.phase }, { on := 2, ground := Ground.phase }, { on := 3, ground := Ground.textOnly Departure.lateStores }, { on := 4, ground := Ground.phase }], guard := none }) (w' := (W1.alloc (.cells #[.slice none 0 0, .int .i64 0, .int .i64 0, .int .i64 0] 33)).setRow W1.heap.size (srvA s A2 c2)) (by kernel_rfl) (by kernel_rfl) (run_row10 rfl rfl rfl (Is.new W1 33 #[.slice none 0 0, .int .i64 0, .int .i64 0, .int .i64 0]) infoSrv13 rfl (srvA_one13 _ _ _)) ?_
 try simp only [Act.put]
 refine lineP (i:=6) (v:=.int .i64 v) rfl (by kernel_rfl) ?_
 simp only [Act.put,zz0,zz1,zz2]
 exact line_done (by decide +kernel) (hQ _ _ _ _ (box_ofS13 hX hb))
theorem awk13_5 (W0:World) (l l2:ByteArray) (HL:Hid (∀ W,Calls Tryz.prog 23 #[.int .i64 2] W fun e w'=>e=.returned (.string l2)∧Below W.heap.size W w')) (D1:Nat) (s:Srv13) (A:Option Addr) (c:Nat) (i1:Is W0 D1 33 (srvA s A c)) (hI:InS W0 s.S A c) (x0 x1 x2 x4 x6 x7 x8 x9 Xa Xb Xc Xd Xe Xf Xg Xh Xi Xj Xk Xl Xm Xn Xo Xp Xq Xr Xs Xt Xu Xv Xw Xx Xy Xz Ya Yb Yc Yd Ye Yf Yg Yh Yi Yj Yk Yl Ym Yn Yo Yp Yq Yr Ys Yt Yu Yv Yw Yx Yy Yz Za Zb Zc Zd Ze Zf Zg Zh Zi Zj Zk Zl Zm Zn Zo Zp Zq Zr Zs Zt Zu Zv Zw Zx Zy Zz Ua Ub Uc Ud Ue Uf Ug Uh Ui Uj Uk Ul Um Un Uo Up Uq Ur Us Ut Uu Uv Uw Ux Uy Uz Va Vb:Value) :
  (Code.region 5 (opsOf Tryz.f6 5) true).wp Tryz.prog (fun ex YY W=>ex=.normal∧YY.defers=[]∧∃ (DN:Nat) (DM:Nat) (A2:Option Addr) (c2:Nat) (RA:Option Addr) (rc:Nat) (DP:Nat),YY.tmps=#[x0,x1,x2,.string l,x4,.pointer (some ⟨D1,0,none⟩),x6,.pointer (some ⟨DN,0,none⟩),.pointer (some ⟨DM,0,none⟩),x9,Xa,Xb,Xc,Xd,Xe,Xf,Xg,Xh,Xi,Xj,Xk,Xl,Xm,Xn,Xo,Xp,Xq,Xr,Xs,Xt,Xu,.tuple #[.agg (srvA (do13 s ⟨2,[l,l2],[]⟩).1 A2 c2),.agg (rspA (do13 s ⟨2,[l,l2],[]⟩).2.k (do13 s ⟨2,[l,l2],[]⟩).2.st RA (do13 s ⟨2,[l,l2],[]⟩).2.C.length rc (do13 s ⟨2,[l,l2],[]⟩).2.many (do13 s ⟨2,[l,l2],[]⟩).2.room)],.agg (srvA s A c),.string l,.string l2,.slice (some ⟨DP,0,none⟩) 2 2,.agg (reqA 2 (some ⟨DP,0,none⟩) 2 2 none 0 0),.tuple #[.agg (srvA (do13 s ⟨2,[l,l2],[]⟩).1 A2 c2),.agg (rspA (do13 s ⟨2,[l,l2],[]⟩).2.k (do13 s ⟨2,[l,l2],[]⟩).2.st RA (do13 s ⟨2,[l,l2],[]⟩).2.C.length rc (do13 s ⟨2,[l,l2],[]⟩).2.many (do13 s ⟨2,[l,l2],[]⟩).2.room)],.agg (srvA (do13 s ⟨2,[l,l2],[]⟩).1 A2 c2),.agg (rspA (do13 s ⟨2,[l,l2],[]⟩).2.k (do13 s ⟨2,[l,l2],[]⟩).2.st RA (do13 s ⟨2,[l,l2],[]⟩).2.C.length rc (do13 s ⟨2,[l,l2],[]⟩).2.many (do13 s ⟨2,[l,l2],[]⟩).2.room),Ye,Yf,Yg,Yh,Yi,Yj,Yk,Yl,Ym,Yn,Yo,Yp,Yq,Yr,Ys,Yt,Yu,Yv,Yw,Yx,Yy,Yz,Za,Zb,Zc,Zd,Ze,Zf,Zg,Zh,Zi,Zj,Zk,Zl,Zm,Zn,Zo,Zp,Zq,Zr,Zs,Zt,Zu,Zv,Zw,Zx,Zy,Zz,Ua,Ub,Uc,Ud,Ue,Uf,Ug,Uh,Ui,Uj,Uk,Ul,Um,Un,Uo,Up,Uq,Ur,Us,Ut,Uu,Uv,Uw,Ux,Uy,Uz,Va,Vb]∧Below W0.heap.size W0 W∧InS W (do13 s ⟨2,[l,l2],[]⟩).1.S A2 c2∧InV W RA (tL10 (do13 s ⟨2,[l,l2],[]⟩).2.C)∧W0.heap.size≤DN∧W0.heap.size≤DM∧DN≠DM∧Is W DN 33 (srvA (do13 s ⟨2,[l,l2],[]⟩).1 A2 c2)∧Is W DM 45 (rspA (do13 s ⟨2,[l,l2],[]⟩).2.k (do13 s ⟨2,[l,l2],[]⟩).2.st RA (do13 s ⟨2,[l,l2],[]⟩).2.C.length rc (do13 s ⟨2,[l,l2],[]⟩).2.many (do13 s ⟨2,[l,l2],[]⟩).2.room)) { tmps:=#[x0,x1,x2,.string l,x4,.pointer (some ⟨D1,0,none⟩),x6,x7,x8,x9,Xa,Xb,Xc,Xd,Xe,Xf,Xg,Xh,Xi,Xj,Xk,Xl,Xm,Xn,Xo,Xp,Xq,Xr,Xs,Xt,Xu,Xv,Xw,Xx,Xy,Xz,Ya,Yb,Yc,Yd,Ye,Yf,Yg,Yh,Yi,Yj,Yk,Yl,Ym,Yn,Yo,Yp,Yq,Yr,Ys,Yt,Yu,Yv,Yw,Yx,Yy,Yz,Za,Zb,Zc,Zd,Ze,Zf,Zg,Zh,Zi,Zj,Zk,Zl,Zm,Zn,Zo,Zp,Zq,Zr,Zs,Zt,Zu,Zv,Zw,Zx,Zy,Zz,Ua,Ub,Uc,Ud,Ue,Uf,Ug,Uh,Ui,Uj,Uk,Ul,Um,Un,Uo,Up,Uq,Ur,Us,Ut,Uu,Uv,Uw,Ux,Uy,Uz,Va,Vb],defers:=[] } W0:=by
 have hB:Below W0.heap.size W0 (W0.drewN 1):=belowN (Below.refl _ _) 1
 generalize hQ:(fun (ex:Exit) (YY:Act) (W:World)=>ex=.normal∧YY.defers=[]∧∃ (DN:Nat) (DM:Nat) (A2:Option Addr) (c2:Nat) (RA:Option Addr) (rc:Nat) (DP:Nat),YY.tmps=#[x0,x1,x2,.string l,x4,.pointer (some ⟨D1,0,none⟩),x6,.pointer (some ⟨DN,0,none⟩),.pointer (some ⟨DM,0,none⟩),x9,Xa,Xb,Xc,Xd,Xe,Xf,Xg,Xh,Xi,Xj,Xk,Xl,Xm,Xn,Xo,Xp,Xq,Xr,Xs,Xt,Xu,.tuple #[.agg (srvA (do13 s ⟨2,[l,l2],[]⟩).1 A2 c2),.agg (rspA (do13 s ⟨2,[l,l2],[]⟩).2.k (do13 s ⟨2,[l,l2],[]⟩).2.st RA (do13 s ⟨2,[l,l2],[]⟩).2.C.length rc (do13 s ⟨2,[l,l2],[]⟩).2.many (do13 s ⟨2,[l,l2],[]⟩).2.room)],.agg (srvA s A c),.string l,.string l2,.slice (some ⟨DP,0,none⟩) 2 2,.agg (reqA 2 (some ⟨DP,0,none⟩) 2 2 none 0 0),.tuple #[.agg (srvA (do13 s ⟨2,[l,l2],[]⟩).1 A2 c2),.agg (rspA (do13 s ⟨2,[l,l2],[]⟩).2.k (do13 s ⟨2,[l,l2],[]⟩).2.st RA (do13 s ⟨2,[l,l2],[]⟩).2.C.length rc (do13 s ⟨2,[l,l2],[]⟩).2.many (do13 s ⟨2,[l,l2],[]⟩).2.room)],.agg (srvA (do13 s ⟨2,[l,l2],[]⟩).1 A2 c2),.agg (rspA (do13 s ⟨2,[l,l2],[]⟩).2.k (do13 s ⟨2,[l,l2],[]⟩).2.st RA (do13 s ⟨2,[l,l2],[]⟩).2.C.length rc (do13 s ⟨2,[l,l2],[]⟩).2.many (do13 s ⟨2,[l,l2],[]⟩).2.room),Ye,Yf,Yg,Yh,Yi,Yj,Yk,Yl,Ym,Yn,Yo,Yp,Yq,Yr,Ys,Yt,Yu,Yv,Yw,Yx,Yy,Yz,Za,Zb,Zc,Zd,Ze,Zf,Zg,Zh,Zi,Zj,Zk,Zl,Zm,Zn,Zo,Zp,Zq,Zr,Zs,Zt,Zu,Zv,Zw,Zx,Zy,Zz,Ua,Ub,Uc,Ud,Ue,Uf,Ug,Uh,Ui,Uj,Uk,Ul,Um,Un,Uo,Up,Uq,Ur,Us,Ut,Uu,Uv,Uw,Ux,Uy,Uz,Va,Vb]∧Below W0.heap.size W0 W∧InS W (do13 s ⟨2,[l,l2],[]⟩).1.S A2 c2∧InV W RA (tL10 (do13 s ⟨2,[l,l2],[]⟩).2.C)∧W0.heap.size≤DN∧W0.heap.size≤DM∧DN≠DM∧Is W DN 33 (srvA (do13 s ⟨2,[l,l2],[]⟩).1 A2 c2)∧Is W DM 45 (rspA (do13 s ⟨2,[l,l2],[]⟩).2.k (do13 s ⟨2,[l,l2],[]⟩).2.st RA (do13 s ⟨2,[l,l2],[]⟩).2.C.length rc (do13 s ⟨2,[l,l2],[]⟩).2.many (do13 s ⟨2,[l,l2],[]⟩).2.room))=Q
 have HQN:∀ c a W,¬ Q (.panic c) a W:=fun c a W h=>by subst hQ;exact nomatch h.1
 have ST2_3_5_9_10_11_12:∀ (W:World) (DN:Nat) (DM:Nat) (A2:Option Addr) (c2:Nat) (RA:Option Addr) (rc:Nat) (DP:Nat),Below W0.heap.size W0 W→InS W (do13 s ⟨2,[l,l2],[]⟩).1.S A2 c2→InV W RA (tL10 (do13 s ⟨2,[l,l2],[]⟩).2.C)→W0.heap.size≤DN→W0.heap.size≤DM→DN≠DM→Is W DN 33 (srvA (do13 s ⟨2,[l,l2],[]⟩).1 A2 c2)→Is W DM 45 (rspA (do13 s ⟨2,[l,l2],[]⟩).2.k (do13 s ⟨2,[l,l2],[]⟩).2.st RA (do13 s ⟨2,[l,l2],[]⟩).2.C.length rc (do13 s ⟨2,[l,l2],[]⟩).2.many (do13 s ⟨2,[l,l2],[]⟩).2.room)→wpAnyH Tryz.prog .any (opsOf Tryz.f6 5) Q (fun W=>Below W0.heap.size W0 W) 0 #[true,true,true,true,true,true,true,true,true,true,true,true,true] { tmps:=#[x0,x1,x2,.string l,x4,.pointer (some ⟨D1,0,none⟩),x6,.pointer (some ⟨DN,0,none⟩),.pointer (some ⟨DM,0,none⟩),x9,Xa,Xb,Xc,Xd,Xe,Xf,Xg,Xh,Xi,Xj,Xk,Xl,Xm,Xn,Xo,Xp,Xq,Xr,Xs,Xt,Xu,.tuple #[.agg (srvA (do13 s ⟨2,[l,l2],[]⟩).1 A2 c2),.agg (rspA (do13 s ⟨2,[l,l2],[]⟩).2.k (do13 s ⟨2,[l,l2],[]⟩).2.st RA (do13 s ⟨2,[l,l2],[]⟩).2.C.length rc (do13 s ⟨2,[l,l2],[]⟩).2.many (do13 s ⟨2,[l,l2],[]⟩).2.room)],.agg (srvA s A c),.string l,.string l2,.slice (some ⟨DP,0,none⟩) 2 2,.agg (reqA 2 (some ⟨DP,0,none⟩) 2 2 none 0 0),.tuple #[.agg (srvA (do13 s ⟨2,[l,l2],[]⟩).1 A2 c2),.agg (rspA (do13 s ⟨2,[l,l2],[]⟩).2.k (do13 s ⟨2,[l,l2],[]⟩).2.st RA (do13 s ⟨2,[l,l2],[]⟩).2.C.length rc (do13 s ⟨2,[l,l2],[]⟩).2.many (do13 s ⟨2,[l,l2],[]⟩).2.room)],.agg (srvA (do13 s ⟨2,[l,l2],[]⟩).1 A2 c2),.agg (rspA (do13 s ⟨2,[l,l2],[]⟩).2.k (do13 s ⟨2,[l,l2],[]⟩).2.st RA (do13 s ⟨2,[l,l2],[]⟩).2.C.length rc (do13 s ⟨2,[l,l2],[]⟩).2.many (do13 s ⟨2,[l,l2],[]⟩).2.room),Ye,Yf,Yg,Yh,Yi,Yj,Yk,Yl,Ym,Yn,Yo,Yp,Yq,Yr,Ys,Yt,Yu,Yv,Yw,Yx,Yy,Yz,Za,Zb,Zc,Zd,Ze,Zf,Zg,Zh,Zi,Zj,Zk,Zl,Zm,Zn,Zo,Zp,Zq,Zr,Zs,Zt,Zu,Zv,Zw,Zx,Zy,Zz,Ua,Ub,Uc,Ud,Ue,Uf,Ug,Uh,Ui,Uj,Uk,Ul,Um,Un,Uo,Up,Uq,Ur,Us,Ut,Uu,Uv,Uw,Ux,Uy,Uz,Va,Vb],defers:=[] } W:=by
  intro W DN DM A2 c2 RA rc DP hB hX hV hN hM hNM jN jM
  refine wpAnyH_done (by kernel_rfl) ?_ _
  subst hQ
  exact ⟨rfl,rfl,DN,DM,A2,c2,RA,rc,DP,rfl,hB,hX,hV,hN,hM,hNM,jN,jM⟩
 have ST2_3_5_9_10_11:∀ (W:World) (DN:Nat) (DM:Nat) (A2:Option Addr) (c2:Nat) (RA:Option Addr) (rc:Nat) (DP:Nat),Below W0.heap.size W0 W→InS W (do13 s ⟨2,[l,l2],[]⟩).1.S A2 c2→InV W RA (tL10 (do13 s ⟨2,[l,l2],[]⟩).2.C)→W0.heap.size≤DN→W0.heap.size≤DM→DN≠DM→Is W DM 45 (rspA 0 0 none 0 0 0 0)→Is W DN 33 (srvA (do13 s ⟨2,[l,l2],[]⟩).1 A2 c2)→wpAnyH Tryz.prog .any (opsOf Tryz.f6 5) Q (fun W=>Below W0.heap.size W0 W) 1 #[true,true,true,true,true,true,true,true,true,true,true,true,false] { tmps:=#[x0,x1,x2,.string l,x4,.pointer (some ⟨D1,0,none⟩),x6,.pointer (some ⟨DN,0,none⟩),.pointer (some ⟨DM,0,none⟩),x9,Xa,Xb,Xc,Xd,Xe,Xf,Xg,Xh,Xi,Xj,Xk,Xl,Xm,Xn,Xo,Xp,Xq,Xr,Xs,Xt,Xu,.tuple #[.agg (srvA (do13 s ⟨2,[l,l2],[]⟩).1 A2 c2),.agg (rspA (do13 s ⟨2,[l,l2],[]⟩).2.k (do13 s ⟨2,[l,l2],[]⟩).2.st RA (do13 s ⟨2,[l,l2],[]⟩).2.C.length rc (do13 s ⟨2,[l,l2],[]⟩).2.many (do13 s ⟨2,[l,l2],[]⟩).2.room)],.agg (srvA s A c),.string l,.string l2,.slice (some ⟨DP,0,none⟩) 2 2,.agg (reqA 2 (some ⟨DP,0,none⟩) 2 2 none 0 0),.tuple #[.agg (srvA (do13 s ⟨2,[l,l2],[]⟩).1 A2 c2),.agg (rspA (do13 s ⟨2,[l,l2],[]⟩).2.k (do13 s ⟨2,[l,l2],[]⟩).2.st RA (do13 s ⟨2,[l,l2],[]⟩).2.C.length rc (do13 s ⟨2,[l,l2],[]⟩).2.many (do13 s ⟨2,[l,l2],[]⟩).2.room)],.agg (srvA (do13 s ⟨2,[l,l2],[]⟩).1 A2 c2),.agg (rspA (do13 s ⟨2,[l,l2],[]⟩).2.k (do13 s ⟨2,[l,l2],[]⟩).2.st RA (do13 s ⟨2,[l,l2],[]⟩).2.C.length rc (do13 s ⟨2,[l,l2],[]⟩).2.many (do13 s ⟨2,[l,l2],[]⟩).2.room),Ye,Yf,Yg,Yh,Yi,Yj,Yk,Yl,Ym,Yn,Yo,Yp,Yq,Yr,Ys,Yt,Yu,Yv,Yw,Yx,Yy,Yz,Za,Zb,Zc,Zd,Ze,Zf,Zg,Zh,Zi,Zj,Zk,Zl,Zm,Zn,Zo,Zp,Zq,Zr,Zs,Zt,Zu,Zv,Zw,Zx,Zy,Zz,Ua,Ub,Uc,Ud,Ue,Uf,Ug,Uh,Ui,Uj,Uk,Ul,Um,Un,Uo,Up,Uq,Ur,Us,Ut,Uu,Uv,Uw,Ux,Uy,Uz,Va,Vb],defers:=[] } W:=by
  intro W DN DM A2 c2 RA rc DP hB hX hV hN hM hNM iM jN
  refine wpAnyH_ready (by kernel_rfl) (by simp) (AllReadyH.cons (i:=12) (at_nth rfl) ?_ (AllReadyH.nil))
  ·
   have hone:(rspA (do13 s ⟨2,[l,l2],[]⟩).2.k (do13 s ⟨2,[l,l2],[]⟩).2.st RA (do13 s ⟨2,[l,l2],[]⟩).2.C.length rc (do13 s ⟨2,[l,l2],[]⟩).2.many (do13 s ⟨2,[l,l2],[]⟩).2.room).all (·.oneCell')=true:=rspA_one13 _ _ _ _ _ _ _
   have hg:=grownRowG W DM (rspA (do13 s ⟨2,[l,l2],[]⟩).2.k (do13 s ⟨2,[l,l2],[]⟩).2.st RA (do13 s ⟨2,[l,l2],[]⟩).2.C.length rc (do13 s ⟨2,[l,l2],[]⟩).2.many (do13 s ⟨2,[l,l2],[]⟩).2.room)
   have jM:=iM.row (rspA (do13 s ⟨2,[l,l2],[]⟩).2.k (do13 s ⟨2,[l,l2],[]⟩).2.st RA (do13 s ⟨2,[l,l2],[]⟩).2.C.length rc (do13 s ⟨2,[l,l2],[]⟩).2.many (do13 s ⟨2,[l,l2],[]⟩).2.room)
   replace jN:=jN.rowFar (k:=DM) hNM (rspA (do13 s ⟨2,[l,l2],[]⟩).2.k (do13 s ⟨2,[l,l2],[]⟩).2.st RA (do13 s ⟨2,[l,l2],[]⟩).2.C.length rc (do13 s ⟨2,[l,l2],[]⟩).2.many (do13 s ⟨2,[l,l2],[]⟩).2.room)
   replace hX:=hX.noS13 iM rfl hg
   replace hV:=hV.noT13 iM rfl hg
   have hB2:=belowRow hB hM (rspA (do13 s ⟨2,[l,l2],[]⟩).2.k (do13 s ⟨2,[l,l2],[]⟩).2.st RA (do13 s ⟨2,[l,l2],[]⟩).2.C.length rc (do13 s ⟨2,[l,l2],[]⟩).2.many (do13 s ⟨2,[l,l2],[]⟩).2.room)
   refine arm10_skip (w':=W.setRow DM (rspA (do13 s ⟨2,[l,l2],[]⟩).2.k (do13 s ⟨2,[l,l2],[]⟩).2.st RA (do13 s ⟨2,[l,l2],[]⟩).2.C.length rc (do13 s ⟨2,[l,l2],[]⟩).2.many (do13 s ⟨2,[l,l2],[]⟩).2.room)) (by kernel_rfl) (run_row10 (x:=.tmp 8) (y:=.tmp 39) (by kernel_rfl) (by kernel_rfl) (by kernel_rfl) iM infoRsp13 rfl hone) hB2 ?_
   try simp only [Act.put]
   replace hB:=hB2
   clear iM hg
   exact ST2_3_5_9_10_11_12 _ _ _ _ _ _ _ _ hB hX hV hN hM hNM jN jM
 have ST2_3_5_9_10:∀ (W:World) (DN:Nat) (DM:Nat) (A2:Option Addr) (c2:Nat) (RA:Option Addr) (rc:Nat) (DP:Nat),Below W0.heap.size W0 W→InS W (do13 s ⟨2,[l,l2],[]⟩).1.S A2 c2→InV W RA (tL10 (do13 s ⟨2,[l,l2],[]⟩).2.C)→W0.heap.size≤DN→W0.heap.size≤DM→DN≠DM→Is W DN 33 #[.slice none 0 0,.int .i64 0,.int .i64 0,.int .i64 0]→Is W DM 45 (rspA 0 0 none 0 0 0 0)→wpAnyH Tryz.prog .any (opsOf Tryz.f6 5) Q (fun W=>Below W0.heap.size W0 W) 2 #[true,true,true,true,true,true,true,true,true,true,true,false,false] { tmps:=#[x0,x1,x2,.string l,x4,.pointer (some ⟨D1,0,none⟩),x6,.pointer (some ⟨DN,0,none⟩),.pointer (some ⟨DM,0,none⟩),x9,Xa,Xb,Xc,Xd,Xe,Xf,Xg,Xh,Xi,Xj,Xk,Xl,Xm,Xn,Xo,Xp,Xq,Xr,Xs,Xt,Xu,.tuple #[.agg (srvA (do13 s ⟨2,[l,l2],[]⟩).1 A2 c2),.agg (rspA (do13 s ⟨2,[l,l2],[]⟩).2.k (do13 s ⟨2,[l,l2],[]⟩).2.st RA (do13 s ⟨2,[l,l2],[]⟩).2.C.length rc (do13 s ⟨2,[l,l2],[]⟩).2.many (do13 s ⟨2,[l,l2],[]⟩).2.room)],.agg (srvA s A c),.string l,.string l2,.slice (some ⟨DP,0,none⟩) 2 2,.agg (reqA 2 (some ⟨DP,0,none⟩) 2 2 none 0 0),.tuple #[.agg (srvA (do13 s ⟨2,[l,l2],[]⟩).1 A2 c2),.agg (rspA (do13 s ⟨2,[l,l2],[]⟩).2.k (do13 s ⟨2,[l,l2],[]⟩).2.st RA (do13 s ⟨2,[l,l2],[]⟩).2.C.length rc (do13 s ⟨2,[l,l2],[]⟩).2.many (do13 s ⟨2,[l,l2],[]⟩).2.room)],.agg (srvA (do13 s ⟨2,[l,l2],[]⟩).1 A2 c2),.agg (rspA (do13 s ⟨2,[l,l2],[]⟩).2.k (do13 s ⟨2,[l,l2],[]⟩).2.st RA (do13 s ⟨2,[l,l2],[]⟩).2.C.length rc (do13 s ⟨2,[l,l2],[]⟩).2.many (do13 s ⟨2,[l,l2],[]⟩).2.room),Ye,Yf,Yg,Yh,Yi,Yj,Yk,Yl,Ym,Yn,Yo,Yp,Yq,Yr,Ys,Yt,Yu,Yv,Yw,Yx,Yy,Yz,Za,Zb,Zc,Zd,Ze,Zf,Zg,Zh,Zi,Zj,Zk,Zl,Zm,Zn,Zo,Zp,Zq,Zr,Zs,Zt,Zu,Zv,Zw,Zx,Zy,Zz,Ua,Ub,Uc,Ud,Ue,Uf,Ug,Uh,Ui,Uj,Uk,Ul,Um,Un,Uo,Up,Uq,Ur,Us,Ut,Uu,Uv,Uw,Ux,Uy,Uz,Va,Vb],defers:=[] } W:=by
  intro W DN DM A2 c2 RA rc DP hB hX hV hN hM hNM iN iM
  refine wpAnyH_ready (by kernel_rfl) (by simp) (AllReadyH.cons (i:=11) (at_nth rfl) ?_ (AllReadyH.nil))
  ·
   have hone:(srvA (do13 s ⟨2,[l,l2],[]⟩).1 A2 c2).all (·.oneCell')=true:=srvA_one13 _ _ _
   have hg:=grownRowG W DN (srvA (do13 s ⟨2,[l,l2],[]⟩).1 A2 c2)
   have jN:=iN.row (srvA (do13 s ⟨2,[l,l2],[]⟩).1 A2 c2)
   replace iM:=iM.rowFar (k:=DN) hNM.symm (srvA (do13 s ⟨2,[l,l2],[]⟩).1 A2 c2)
   replace hX:=hX.noS13 iN rfl hg
   replace hV:=hV.noT13 iN rfl hg
   have hB2:=belowRow hB hN (srvA (do13 s ⟨2,[l,l2],[]⟩).1 A2 c2)
   refine arm10_skip (w':=W.setRow DN (srvA (do13 s ⟨2,[l,l2],[]⟩).1 A2 c2)) (by kernel_rfl) (run_row10 (x:=.tmp 7) (y:=.tmp 38) (by kernel_rfl) (by kernel_rfl) (by kernel_rfl) iN infoSrv13 rfl hone) hB2 ?_
   try simp only [Act.put]
   replace hB:=hB2
   clear iN hg
   exact ST2_3_5_9_10_11 _ _ _ _ _ _ _ _ hB hX hV hN hM hNM iM jN
 have ST2_3_5_9:∀ (W:World) (DN:Nat) (A2:Option Addr) (c2:Nat) (RA:Option Addr) (rc:Nat) (DP:Nat),Below W0.heap.size W0 W→InS W (do13 s ⟨2,[l,l2],[]⟩).1.S A2 c2→InV W RA (tL10 (do13 s ⟨2,[l,l2],[]⟩).2.C)→W0.heap.size≤DN→Is W DN 33 #[.slice none 0 0,.int .i64 0,.int .i64 0,.int .i64 0]→wpAnyH Tryz.prog .any (opsOf Tryz.f6 5) Q (fun W=>Below W0.heap.size W0 W) 3 #[true,true,true,true,true,true,true,true,true,true,false,false,false] { tmps:=#[x0,x1,x2,.string l,x4,.pointer (some ⟨D1,0,none⟩),x6,.pointer (some ⟨DN,0,none⟩),x8,x9,Xa,Xb,Xc,Xd,Xe,Xf,Xg,Xh,Xi,Xj,Xk,Xl,Xm,Xn,Xo,Xp,Xq,Xr,Xs,Xt,Xu,.tuple #[.agg (srvA (do13 s ⟨2,[l,l2],[]⟩).1 A2 c2),.agg (rspA (do13 s ⟨2,[l,l2],[]⟩).2.k (do13 s ⟨2,[l,l2],[]⟩).2.st RA (do13 s ⟨2,[l,l2],[]⟩).2.C.length rc (do13 s ⟨2,[l,l2],[]⟩).2.many (do13 s ⟨2,[l,l2],[]⟩).2.room)],.agg (srvA s A c),.string l,.string l2,.slice (some ⟨DP,0,none⟩) 2 2,.agg (reqA 2 (some ⟨DP,0,none⟩) 2 2 none 0 0),.tuple #[.agg (srvA (do13 s ⟨2,[l,l2],[]⟩).1 A2 c2),.agg (rspA (do13 s ⟨2,[l,l2],[]⟩).2.k (do13 s ⟨2,[l,l2],[]⟩).2.st RA (do13 s ⟨2,[l,l2],[]⟩).2.C.length rc (do13 s ⟨2,[l,l2],[]⟩).2.many (do13 s ⟨2,[l,l2],[]⟩).2.room)],.agg (srvA (do13 s ⟨2,[l,l2],[]⟩).1 A2 c2),.agg (rspA (do13 s ⟨2,[l,l2],[]⟩).2.k (do13 s ⟨2,[l,l2],[]⟩).2.st RA (do13 s ⟨2,[l,l2],[]⟩).2.C.length rc (do13 s ⟨2,[l,l2],[]⟩).2.many (do13 s ⟨2,[l,l2],[]⟩).2.room),Ye,Yf,Yg,Yh,Yi,Yj,Yk,Yl,Ym,Yn,Yo,Yp,Yq,Yr,Ys,Yt,Yu,Yv,Yw,Yx,Yy,Yz,Za,Zb,Zc,Zd,Ze,Zf,Zg,Zh,Zi,Zj,Zk,Zl,Zm,Zn,Zo,Zp,Zq,Zr,Zs,Zt,Zu,Zv,Zw,Zx,Zy,Zz,Ua,Ub,Uc,Ud,Ue,Uf,Ug,Uh,Ui,Uj,Uk,Ul,Um,Un,Uo,Up,Uq,Ur,Us,Ut,Uu,Uv,Uw,Ux,Uy,Uz,Va,Vb],defers:=[] } W:=by
  intro W DN A2 c2 RA rc DP hB hX hV hN iN
  refine wpAnyH_ready (by kernel_rfl) (by simp) (AllReadyH.cons (i:=10) (at_nth rfl) ?_ (AllReadyH.nil))
  ·
   have hg:=((Below.refl W.heap.size W).alloc (Nat.le_refl _) (.cells (rspA 0 0 none 0 0 0 0) 45))
   have hM:=hB.size
   have iM:=Is.new W 45 (rspA 0 0 none 0 0 0 0)
   have hNM:DN≠W.heap.size:=by have:=iN.lt;omega
   replace iN:=iN.below hg iN.lt
   replace hX:=hX.keep hg
   replace hV:=hV.keep hg
   replace hB:=hB.alloc hB.size (.cells (rspA 0 0 none 0 0 0 0) 45)
   clear hg
   refine arm10_value (v:=.pointer (some ⟨W.heap.size,0,none⟩)) (w':=W.alloc (.cells (rspA 0 0 none 0 0 0 0) 45)) (by kernel_rfl) (by go_simp) hB ?_
   simp only [Act.put,zz0,zz1,zz2]
   exact ST2_3_5_9_10 _ _ _ _ _ _ _ _ hB hX hV hN hM hNM iN iM
 have ST2_3_5_10:∀ (W:World) (DM:Nat) (A2:Option Addr) (c2:Nat) (RA:Option Addr) (rc:Nat) (DP:Nat),Below W0.heap.size W0 W→InS W (do13 s ⟨2,[l,l2],[]⟩).1.S A2 c2→InV W RA (tL10 (do13 s ⟨2,[l,l2],[]⟩).2.C)→W0.heap.size≤DM→Is W DM 45 (rspA 0 0 none 0 0 0 0)→wpAnyH Tryz.prog .any (opsOf Tryz.f6 5) Q (fun W=>Below W0.heap.size W0 W) 3 #[true,true,true,true,true,true,true,true,true,false,true,false,false] { tmps:=#[x0,x1,x2,.string l,x4,.pointer (some ⟨D1,0,none⟩),x6,x7,.pointer (some ⟨DM,0,none⟩),x9,Xa,Xb,Xc,Xd,Xe,Xf,Xg,Xh,Xi,Xj,Xk,Xl,Xm,Xn,Xo,Xp,Xq,Xr,Xs,Xt,Xu,.tuple #[.agg (srvA (do13 s ⟨2,[l,l2],[]⟩).1 A2 c2),.agg (rspA (do13 s ⟨2,[l,l2],[]⟩).2.k (do13 s ⟨2,[l,l2],[]⟩).2.st RA (do13 s ⟨2,[l,l2],[]⟩).2.C.length rc (do13 s ⟨2,[l,l2],[]⟩).2.many (do13 s ⟨2,[l,l2],[]⟩).2.room)],.agg (srvA s A c),.string l,.string l2,.slice (some ⟨DP,0,none⟩) 2 2,.agg (reqA 2 (some ⟨DP,0,none⟩) 2 2 none 0 0),.tuple #[.agg (srvA (do13 s ⟨2,[l,l2],[]⟩).1 A2 c2),.agg (rspA (do13 s ⟨2,[l,l2],[]⟩).2.k (do13 s ⟨2,[l,l2],[]⟩).2.st RA (do13 s ⟨2,[l,l2],[]⟩).2.C.length rc (do13 s ⟨2,[l,l2],[]⟩).2.many (do13 s ⟨2,[l,l2],[]⟩).2.room)],.agg (srvA (do13 s ⟨2,[l,l2],[]⟩).1 A2 c2),.agg (rspA (do13 s ⟨2,[l,l2],[]⟩).2.k (do13 s ⟨2,[l,l2],[]⟩).2.st RA (do13 s ⟨2,[l,l2],[]⟩).2.C.length rc (do13 s ⟨2,[l,l2],[]⟩).2.many (do13 s ⟨2,[l,l2],[]⟩).2.room),Ye,Yf,Yg,Yh,Yi,Yj,Yk,Yl,Ym,Yn,Yo,Yp,Yq,Yr,Ys,Yt,Yu,Yv,Yw,Yx,Yy,Yz,Za,Zb,Zc,Zd,Ze,Zf,Zg,Zh,Zi,Zj,Zk,Zl,Zm,Zn,Zo,Zp,Zq,Zr,Zs,Zt,Zu,Zv,Zw,Zx,Zy,Zz,Ua,Ub,Uc,Ud,Ue,Uf,Ug,Uh,Ui,Uj,Uk,Ul,Um,Un,Uo,Up,Uq,Ur,Us,Ut,Uu,Uv,Uw,Ux,Uy,Uz,Va,Vb],defers:=[] } W:=by
  intro W DM A2 c2 RA rc DP hB hX hV hM iM
  refine wpAnyH_ready (by kernel_rfl) (by simp) (AllReadyH.cons (i:=9) (at_nth rfl) ?_ (AllReadyH.nil))
  ·
   have hg:=((Below.refl W.heap.size W).alloc (Nat.le_refl _) (.cells #[.slice none 0 0,.int .i64 0,.int .i64 0,.int .i64 0] 33))
   have hN:=hB.size
   have iN:=Is.new W 33 #[.slice none 0 0,.int .i64 0,.int .i64 0,.int .i64 0]
   have hNM:W.heap.size≠DM:=by have:=iM.lt;omega
   replace iM:=iM.below hg iM.lt
   replace hX:=hX.keep hg
   replace hV:=hV.keep hg
   replace hB:=hB.alloc hB.size (.cells #[.slice none 0 0,.int .i64 0,.int .i64 0,.int .i64 0] 33)
   clear hg
   refine arm10_value (v:=.pointer (some ⟨W.heap.size,0,none⟩)) (w':=W.alloc (.cells #[.slice none 0 0,.int .i64 0,.int .i64 0,.int .i64 0] 33)) (by kernel_rfl) (by go_simp) hB ?_
   simp only [Act.put,zz0,zz1,zz2]
   exact ST2_3_5_9_10 _ _ _ _ _ _ _ _ hB hX hV hN hM hNM iN iM
 have ST2_3_5:∀ (W:World) (A2:Option Addr) (c2:Nat) (RA:Option Addr) (rc:Nat) (DP:Nat),Below W0.heap.size W0 W→InS W (do13 s ⟨2,[l,l2],[]⟩).1.S A2 c2→InV W RA (tL10 (do13 s ⟨2,[l,l2],[]⟩).2.C)→wpAnyH Tryz.prog .any (opsOf Tryz.f6 5) Q (fun W=>Below W0.heap.size W0 W) 4 #[true,true,true,true,true,true,true,true,true,false,false,false,false] { tmps:=#[x0,x1,x2,.string l,x4,.pointer (some ⟨D1,0,none⟩),x6,x7,x8,x9,Xa,Xb,Xc,Xd,Xe,Xf,Xg,Xh,Xi,Xj,Xk,Xl,Xm,Xn,Xo,Xp,Xq,Xr,Xs,Xt,Xu,.tuple #[.agg (srvA (do13 s ⟨2,[l,l2],[]⟩).1 A2 c2),.agg (rspA (do13 s ⟨2,[l,l2],[]⟩).2.k (do13 s ⟨2,[l,l2],[]⟩).2.st RA (do13 s ⟨2,[l,l2],[]⟩).2.C.length rc (do13 s ⟨2,[l,l2],[]⟩).2.many (do13 s ⟨2,[l,l2],[]⟩).2.room)],.agg (srvA s A c),.string l,.string l2,.slice (some ⟨DP,0,none⟩) 2 2,.agg (reqA 2 (some ⟨DP,0,none⟩) 2 2 none 0 0),.tuple #[.agg (srvA (do13 s ⟨2,[l,l2],[]⟩).1 A2 c2),.agg (rspA (do13 s ⟨2,[l,l2],[]⟩).2.k (do13 s ⟨2,[l,l2],[]⟩).2.st RA (do13 s ⟨2,[l,l2],[]⟩).2.C.length rc (do13 s ⟨2,[l,l2],[]⟩).2.many (do13 s ⟨2,[l,l2],[]⟩).2.room)],.agg (srvA (do13 s ⟨2,[l,l2],[]⟩).1 A2 c2),.agg (rspA (do13 s ⟨2,[l,l2],[]⟩).2.k (do13 s ⟨2,[l,l2],[]⟩).2.st RA (do13 s ⟨2,[l,l2],[]⟩).2.C.length rc (do13 s ⟨2,[l,l2],[]⟩).2.many (do13 s ⟨2,[l,l2],[]⟩).2.room),Ye,Yf,Yg,Yh,Yi,Yj,Yk,Yl,Ym,Yn,Yo,Yp,Yq,Yr,Ys,Yt,Yu,Yv,Yw,Yx,Yy,Yz,Za,Zb,Zc,Zd,Ze,Zf,Zg,Zh,Zi,Zj,Zk,Zl,Zm,Zn,Zo,Zp,Zq,Zr,Zs,Zt,Zu,Zv,Zw,Zx,Zy,Zz,Ua,Ub,Uc,Ud,Ue,Uf,Ug,Uh,Ui,Uj,Uk,Ul,Um,Un,Uo,Up,Uq,Ur,Us,Ut,Uu,Uv,Uw,Ux,Uy,Uz,Va,Vb],defers:=[] } W:=by
  intro W A2 c2 RA rc DP hB hX hV
  refine wpAnyH_ready (by kernel_rfl) (by simp) (AllReadyH.cons (i:=9) (at_nth rfl) ?_ (AllReadyH.cons (i:=10) (at_nth rfl) ?_ (AllReadyH.nil)))
  ·
   have hg:=((Below.refl W.heap.size W).alloc (Nat.le_refl _) (.cells #[.slice none 0 0,.int .i64 0,.int .i64 0,.int .i64 0] 33))
   have hN:=hB.size
   have iN:=Is.new W 33 #[.slice none 0 0,.int .i64 0,.int .i64 0,.int .i64 0]
   replace hX:=hX.keep hg
   replace hV:=hV.keep hg
   replace hB:=hB.alloc hB.size (.cells #[.slice none 0 0,.int .i64 0,.int .i64 0,.int .i64 0] 33)
   clear hg
   refine arm10_value (v:=.pointer (some ⟨W.heap.size,0,none⟩)) (w':=W.alloc (.cells #[.slice none 0 0,.int .i64 0,.int .i64 0,.int .i64 0] 33)) (by kernel_rfl) (by go_simp) hB ?_
   simp only [Act.put,zz0,zz1,zz2]
   exact ST2_3_5_9 _ _ _ _ _ _ _ hB hX hV hN iN
  ·
   have hg:=((Below.refl W.heap.size W).alloc (Nat.le_refl _) (.cells (rspA 0 0 none 0 0 0 0) 45))
   have hM:=hB.size
   have iM:=Is.new W 45 (rspA 0 0 none 0 0 0 0)
   replace hX:=hX.keep hg
   replace hV:=hV.keep hg
   replace hB:=hB.alloc hB.size (.cells (rspA 0 0 none 0 0 0 0) 45)
   clear hg
   refine arm10_value (v:=.pointer (some ⟨W.heap.size,0,none⟩)) (w':=W.alloc (.cells (rspA 0 0 none 0 0 0 0) 45)) (by kernel_rfl) (by go_simp) hB ?_
   simp only [Act.put,zz0,zz1,zz2]
   exact ST2_3_5_10 _ _ _ _ _ _ _ hB hX hV hM iM
 have ST2_3_9_10:∀ (W:World) (DN:Nat) (DM:Nat) (DP:Nat),Below W0.heap.size W0 W→InV W (some ⟨DP,0,none⟩) (tL10 [l,l2])→W0.heap.size≤DN→W0.heap.size≤DM→DN≠DM→Is W DN 33 #[.slice none 0 0,.int .i64 0,.int .i64 0,.int .i64 0]→Is W DM 45 (rspA 0 0 none 0 0 0 0)→wpAnyH Tryz.prog .any (opsOf Tryz.f6 5) Q (fun W=>Below W0.heap.size W0 W) 6 #[true,true,true,true,true,false,false,false,false,true,true,false,false] { tmps:=#[x0,x1,x2,.string l,x4,.pointer (some ⟨D1,0,none⟩),x6,.pointer (some ⟨DN,0,none⟩),.pointer (some ⟨DM,0,none⟩),x9,Xa,Xb,Xc,Xd,Xe,Xf,Xg,Xh,Xi,Xj,Xk,Xl,Xm,Xn,Xo,Xp,Xq,Xr,Xs,Xt,Xu,Xv,.agg (srvA s A c),.string l,.string l2,.slice (some ⟨DP,0,none⟩) 2 2,.agg (reqA 2 (some ⟨DP,0,none⟩) 2 2 none 0 0),Yb,Yc,Yd,Ye,Yf,Yg,Yh,Yi,Yj,Yk,Yl,Ym,Yn,Yo,Yp,Yq,Yr,Ys,Yt,Yu,Yv,Yw,Yx,Yy,Yz,Za,Zb,Zc,Zd,Ze,Zf,Zg,Zh,Zi,Zj,Zk,Zl,Zm,Zn,Zo,Zp,Zq,Zr,Zs,Zt,Zu,Zv,Zw,Zx,Zy,Zz,Ua,Ub,Uc,Ud,Ue,Uf,Ug,Uh,Ui,Uj,Uk,Ul,Um,Un,Uo,Up,Uq,Ur,Us,Ut,Uu,Uv,Uw,Ux,Uy,Uz,Va,Vb],defers:=[] } W:=by
  intro W DN DM DP hB hP hN hM hNM iN iM
  refine wpAnyH_ready (by kernel_rfl) (by simp) (AllReadyH.cons (i:=5) (at_nth rfl) ?_ (AllReadyH.nil))
  ·
   refine arm10_call (by kernel_rfl) (fun wy=>by kernel_rfl) ((sdo_any13 s A c ⟨2,[l,l2],[]⟩ (some ⟨DP,0,none⟩) none 2 0 W (by simp) (by simp) (hI.keep hB) hP (fun j u hj=>by cases hj)).mono ?_)
   rintro e Wn hp
   obtain ⟨A2,c2,RA,rc,rfl,hX,hV,hb⟩:=hp
   replace iN:=iN.below hb iN.lt
   replace iM:=iM.below hb iM.lt
   replace hP:=hP.keep hb
   replace hB:=hB.trans (hb.mono hB.size)
   clear hb
   refine ⟨_,rfl,hB,?_⟩
   simp only [Act.put,zz0,zz1,zz2]
   refine wpP (i:=6) (v:=.tuple #[.agg (srvA (do13 s ⟨2,[l,l2],[]⟩).1 A2 c2),.agg (rspA (do13 s ⟨2,[l,l2],[]⟩).2.k (do13 s ⟨2,[l,l2],[]⟩).2.st RA (do13 s ⟨2,[l,l2],[]⟩).2.C.length rc (do13 s ⟨2,[l,l2],[]⟩).2.many (do13 s ⟨2,[l,l2],[]⟩).2.room)]) HQN rfl (fun w hSw=>by kernel_rfl) hB ?_
   simp only [Act.put,zz0,zz1,zz2]
   refine wpP (i:=7) (v:=.agg (srvA (do13 s ⟨2,[l,l2],[]⟩).1 A2 c2)) HQN rfl (fun w hSw=>by kernel_rfl) hB ?_
   simp only [Act.put,zz0,zz1,zz2]
   refine wpP (i:=8) (v:=.agg (rspA (do13 s ⟨2,[l,l2],[]⟩).2.k (do13 s ⟨2,[l,l2],[]⟩).2.st RA (do13 s ⟨2,[l,l2],[]⟩).2.C.length rc (do13 s ⟨2,[l,l2],[]⟩).2.many (do13 s ⟨2,[l,l2],[]⟩).2.room)) HQN rfl (fun w hSw=>by kernel_rfl) hB ?_
   simp only [Act.put,zz0,zz1,zz2]
   exact ST2_3_5_9_10 _ _ _ _ _ _ _ _ hB hX hV hN hM hNM iN iM
 have ST2_3_9:∀ (W:World) (DN:Nat) (DP:Nat),Below W0.heap.size W0 W→InV W (some ⟨DP,0,none⟩) (tL10 [l,l2])→W0.heap.size≤DN→Is W DN 33 #[.slice none 0 0,.int .i64 0,.int .i64 0,.int .i64 0]→wpAnyH Tryz.prog .any (opsOf Tryz.f6 5) Q (fun W=>Below W0.heap.size W0 W) 7 #[true,true,true,true,true,false,false,false,false,true,false,false,false] { tmps:=#[x0,x1,x2,.string l,x4,.pointer (some ⟨D1,0,none⟩),x6,.pointer (some ⟨DN,0,none⟩),x8,x9,Xa,Xb,Xc,Xd,Xe,Xf,Xg,Xh,Xi,Xj,Xk,Xl,Xm,Xn,Xo,Xp,Xq,Xr,Xs,Xt,Xu,Xv,.agg (srvA s A c),.string l,.string l2,.slice (some ⟨DP,0,none⟩) 2 2,.agg (reqA 2 (some ⟨DP,0,none⟩) 2 2 none 0 0),Yb,Yc,Yd,Ye,Yf,Yg,Yh,Yi,Yj,Yk,Yl,Ym,Yn,Yo,Yp,Yq,Yr,Ys,Yt,Yu,Yv,Yw,Yx,Yy,Yz,Za,Zb,Zc,Zd,Ze,Zf,Zg,Zh,Zi,Zj,Zk,Zl,Zm,Zn,Zo,Zp,Zq,Zr,Zs,Zt,Zu,Zv,Zw,Zx,Zy,Zz,Ua,Ub,Uc,Ud,Ue,Uf,Ug,Uh,Ui,Uj,Uk,Ul,Um,Un,Uo,Up,Uq,Ur,Us,Ut,Uu,Uv,Uw,Ux,Uy,Uz,Va,Vb],defers:=[] } W:=by
  intro W DN DP hB hP hN iN
  refine wpAnyH_ready (by kernel_rfl) (by simp) (AllReadyH.cons (i:=5) (at_nth rfl) ?_ (AllReadyH.cons (i:=10) (at_nth rfl) ?_ (AllReadyH.nil)))
  ·
   refine arm10_call (by kernel_rfl) (fun wy=>by kernel_rfl) ((sdo_any13 s A c ⟨2,[l,l2],[]⟩ (some ⟨DP,0,none⟩) none 2 0 W (by simp) (by simp) (hI.keep hB) hP (fun j u hj=>by cases hj)).mono ?_)
   rintro e Wn hp
   obtain ⟨A2,c2,RA,rc,rfl,hX,hV,hb⟩:=hp
   replace iN:=iN.below hb iN.lt
   replace hP:=hP.keep hb
   replace hB:=hB.trans (hb.mono hB.size)
   clear hb
   refine ⟨_,rfl,hB,?_⟩
   simp only [Act.put,zz0,zz1,zz2]
   refine wpP (i:=6) (v:=.tuple #[.agg (srvA (do13 s ⟨2,[l,l2],[]⟩).1 A2 c2),.agg (rspA (do13 s ⟨2,[l,l2],[]⟩).2.k (do13 s ⟨2,[l,l2],[]⟩).2.st RA (do13 s ⟨2,[l,l2],[]⟩).2.C.length rc (do13 s ⟨2,[l,l2],[]⟩).2.many (do13 s ⟨2,[l,l2],[]⟩).2.room)]) HQN rfl (fun w hSw=>by kernel_rfl) hB ?_
   simp only [Act.put,zz0,zz1,zz2]
   refine wpP (i:=7) (v:=.agg (srvA (do13 s ⟨2,[l,l2],[]⟩).1 A2 c2)) HQN rfl (fun w hSw=>by kernel_rfl) hB ?_
   simp only [Act.put,zz0,zz1,zz2]
   refine wpP (i:=8) (v:=.agg (rspA (do13 s ⟨2,[l,l2],[]⟩).2.k (do13 s ⟨2,[l,l2],[]⟩).2.st RA (do13 s ⟨2,[l,l2],[]⟩).2.C.length rc (do13 s ⟨2,[l,l2],[]⟩).2.many (do13 s ⟨2,[l,l2],[]⟩).2.room)) HQN rfl (fun w hSw=>by kernel_rfl) hB ?_
   simp only [Act.put,zz0,zz1,zz2]
   exact ST2_3_5_9 _ _ _ _ _ _ _ hB hX hV hN iN
  ·
   have hg:=((Below.refl W.heap.size W).alloc (Nat.le_refl _) (.cells (rspA 0 0 none 0 0 0 0) 45))
   have hM:=hB.size
   have iM:=Is.new W 45 (rspA 0 0 none 0 0 0 0)
   have hNM:DN≠W.heap.size:=by have:=iN.lt;omega
   replace iN:=iN.below hg iN.lt
   replace hP:=hP.keep hg
   replace hB:=hB.alloc hB.size (.cells (rspA 0 0 none 0 0 0 0) 45)
   clear hg
   refine arm10_value (v:=.pointer (some ⟨W.heap.size,0,none⟩)) (w':=W.alloc (.cells (rspA 0 0 none 0 0 0 0) 45)) (by kernel_rfl) (by go_simp) hB ?_
   simp only [Act.put,zz0,zz1,zz2]
   exact ST2_3_9_10 _ _ _ _ hB hP hN hM hNM iN iM
 have ST2_3_10:∀ (W:World) (DM:Nat) (DP:Nat),Below W0.heap.size W0 W→InV W (some ⟨DP,0,none⟩) (tL10 [l,l2])→W0.heap.size≤DM→Is W DM 45 (rspA 0 0 none 0 0 0 0)→wpAnyH Tryz.prog .any (opsOf Tryz.f6 5) Q (fun W=>Below W0.heap.size W0 W) 7 #[true,true,true,true,true,false,false,false,false,false,true,false,false] { tmps:=#[x0,x1,x2,.string l,x4,.pointer (some ⟨D1,0,none⟩),x6,x7,.pointer (some ⟨DM,0,none⟩),x9,Xa,Xb,Xc,Xd,Xe,Xf,Xg,Xh,Xi,Xj,Xk,Xl,Xm,Xn,Xo,Xp,Xq,Xr,Xs,Xt,Xu,Xv,.agg (srvA s A c),.string l,.string l2,.slice (some ⟨DP,0,none⟩) 2 2,.agg (reqA 2 (some ⟨DP,0,none⟩) 2 2 none 0 0),Yb,Yc,Yd,Ye,Yf,Yg,Yh,Yi,Yj,Yk,Yl,Ym,Yn,Yo,Yp,Yq,Yr,Ys,Yt,Yu,Yv,Yw,Yx,Yy,Yz,Za,Zb,Zc,Zd,Ze,Zf,Zg,Zh,Zi,Zj,Zk,Zl,Zm,Zn,Zo,Zp,Zq,Zr,Zs,Zt,Zu,Zv,Zw,Zx,Zy,Zz,Ua,Ub,Uc,Ud,Ue,Uf,Ug,Uh,Ui,Uj,Uk,Ul,Um,Un,Uo,Up,Uq,Ur,Us,Ut,Uu,Uv,Uw,Ux,Uy,Uz,Va,Vb],defers:=[] } W:=by
  intro W DM DP hB hP hM iM
  refine wpAnyH_ready (by kernel_rfl) (by simp) (AllReadyH.cons (i:=5) (at_nth rfl) ?_ (AllReadyH.cons (i:=9) (at_nth rfl) ?_ (AllReadyH.nil)))
  ·
   refine arm10_call (by kernel_rfl) (fun wy=>by kernel_rfl) ((sdo_any13 s A c ⟨2,[l,l2],[]⟩ (some ⟨DP,0,none⟩) none 2 0 W (by simp) (by simp) (hI.keep hB) hP (fun j u hj=>by cases hj)).mono ?_)
   rintro e Wn hp
   obtain ⟨A2,c2,RA,rc,rfl,hX,hV,hb⟩:=hp
   replace iM:=iM.below hb iM.lt
   replace hP:=hP.keep hb
   replace hB:=hB.trans (hb.mono hB.size)
   clear hb
   refine ⟨_,rfl,hB,?_⟩
   simp only [Act.put,zz0,zz1,zz2]
   refine wpP (i:=6) (v:=.tuple #[.agg (srvA (do13 s ⟨2,[l,l2],[]⟩).1 A2 c2),.agg (rspA (do13 s ⟨2,[l,l2],[]⟩).2.k (do13 s ⟨2,[l,l2],[]⟩).2.st RA (do13 s ⟨2,[l,l2],[]⟩).2.C.length rc (do13 s ⟨2,[l,l2],[]⟩).2.many (do13 s ⟨2,[l,l2],[]⟩).2.room)]) HQN rfl (fun w hSw=>by kernel_rfl) hB ?_
   simp only [Act.put,zz0,zz1,zz2]
   refine wpP (i:=7) (v:=.agg (srvA (do13 s ⟨2,[l,l2],[]⟩).1 A2 c2)) HQN rfl (fun w hSw=>by kernel_rfl) hB ?_
   simp only [Act.put,zz0,zz1,zz2]
   refine wpP (i:=8) (v:=.agg (rspA (do13 s ⟨2,[l,l2],[]⟩).2.k (do13 s ⟨2,[l,l2],[]⟩).2.st RA (do13 s ⟨2,[l,l2],[]⟩).2.C.length rc (do13 s ⟨2,[l,l2],[]⟩).2.many (do13 s ⟨2,[l,l2],[]⟩).2.room)) HQN rfl (fun w hSw=>by kernel_rfl) hB ?_
   simp only [Act.put,zz0,zz1,zz2]
   exact ST2_3_5_10 _ _ _ _ _ _ _ hB hX hV hM iM
  ·
   have hg:=((Below.refl W.heap.size W).alloc (Nat.le_refl _) (.cells #[.slice none 0 0,.int .i64 0,.int .i64 0,.int .i64 0] 33))
   have hN:=hB.size
   have iN:=Is.new W 33 #[.slice none 0 0,.int .i64 0,.int .i64 0,.int .i64 0]
   have hNM:W.heap.size≠DM:=by have:=iM.lt;omega
   replace iM:=iM.below hg iM.lt
   replace hP:=hP.keep hg
   replace hB:=hB.alloc hB.size (.cells #[.slice none 0 0,.int .i64 0,.int .i64 0,.int .i64 0] 33)
   clear hg
   refine arm10_value (v:=.pointer (some ⟨W.heap.size,0,none⟩)) (w':=W.alloc (.cells #[.slice none 0 0,.int .i64 0,.int .i64 0,.int .i64 0] 33)) (by kernel_rfl) (by go_simp) hB ?_
   simp only [Act.put,zz0,zz1,zz2]
   exact ST2_3_9_10 _ _ _ _ hB hP hN hM hNM iN iM
 have ST2_3:∀ (W:World) (DP:Nat),Below W0.heap.size W0 W→InV W (some ⟨DP,0,none⟩) (tL10 [l,l2])→wpAnyH Tryz.prog .any (opsOf Tryz.f6 5) Q (fun W=>Below W0.heap.size W0 W) 8 #[true,true,true,true,true,false,false,false,false,false,false,false,false] { tmps:=#[x0,x1,x2,.string l,x4,.pointer (some ⟨D1,0,none⟩),x6,x7,x8,x9,Xa,Xb,Xc,Xd,Xe,Xf,Xg,Xh,Xi,Xj,Xk,Xl,Xm,Xn,Xo,Xp,Xq,Xr,Xs,Xt,Xu,Xv,.agg (srvA s A c),.string l,.string l2,.slice (some ⟨DP,0,none⟩) 2 2,.agg (reqA 2 (some ⟨DP,0,none⟩) 2 2 none 0 0),Yb,Yc,Yd,Ye,Yf,Yg,Yh,Yi,Yj,Yk,Yl,Ym,Yn,Yo,Yp,Yq,Yr,Ys,Yt,Yu,Yv,Yw,Yx,Yy,Yz,Za,Zb,Zc,Zd,Ze,Zf,Zg,Zh,Zi,Zj,Zk,Zl,Zm,Zn,Zo,Zp,Zq,Zr,Zs,Zt,Zu,Zv,Zw,Zx,Zy,Zz,Ua,Ub,Uc,Ud,Ue,Uf,Ug,Uh,Ui,Uj,Uk,Ul,Um,Un,Uo,Up,Uq,Ur,Us,Ut,Uu,Uv,Uw,Ux,Uy,Uz,Va,Vb],defers:=[] } W:=by
  intro W DP hB hP
  refine wpAnyH_ready (by kernel_rfl) (by simp) (AllReadyH.cons (i:=5) (at_nth rfl) ?_ (AllReadyH.cons (i:=9) (at_nth rfl) ?_ (AllReadyH.cons (i:=10) (at_nth rfl) ?_ (AllReadyH.nil))))
  ·
   refine arm10_call (by kernel_rfl) (fun wy=>by kernel_rfl) ((sdo_any13 s A c ⟨2,[l,l2],[]⟩ (some ⟨DP,0,none⟩) none 2 0 W (by simp) (by simp) (hI.keep hB) hP (fun j u hj=>by cases hj)).mono ?_)
   rintro e Wn hp
   obtain ⟨A2,c2,RA,rc,rfl,hX,hV,hb⟩:=hp
   replace hP:=hP.keep hb
   replace hB:=hB.trans (hb.mono hB.size)
   clear hb
   refine ⟨_,rfl,hB,?_⟩
   simp only [Act.put,zz0,zz1,zz2]
   refine wpP (i:=6) (v:=.tuple #[.agg (srvA (do13 s ⟨2,[l,l2],[]⟩).1 A2 c2),.agg (rspA (do13 s ⟨2,[l,l2],[]⟩).2.k (do13 s ⟨2,[l,l2],[]⟩).2.st RA (do13 s ⟨2,[l,l2],[]⟩).2.C.length rc (do13 s ⟨2,[l,l2],[]⟩).2.many (do13 s ⟨2,[l,l2],[]⟩).2.room)]) HQN rfl (fun w hSw=>by kernel_rfl) hB ?_
   simp only [Act.put,zz0,zz1,zz2]
   refine wpP (i:=7) (v:=.agg (srvA (do13 s ⟨2,[l,l2],[]⟩).1 A2 c2)) HQN rfl (fun w hSw=>by kernel_rfl) hB ?_
   simp only [Act.put,zz0,zz1,zz2]
   refine wpP (i:=8) (v:=.agg (rspA (do13 s ⟨2,[l,l2],[]⟩).2.k (do13 s ⟨2,[l,l2],[]⟩).2.st RA (do13 s ⟨2,[l,l2],[]⟩).2.C.length rc (do13 s ⟨2,[l,l2],[]⟩).2.many (do13 s ⟨2,[l,l2],[]⟩).2.room)) HQN rfl (fun w hSw=>by kernel_rfl) hB ?_
   simp only [Act.put,zz0,zz1,zz2]
   exact ST2_3_5 _ _ _ _ _ _ hB hX hV
  ·
   have hg:=((Below.refl W.heap.size W).alloc (Nat.le_refl _) (.cells #[.slice none 0 0,.int .i64 0,.int .i64 0,.int .i64 0] 33))
   have hN:=hB.size
   have iN:=Is.new W 33 #[.slice none 0 0,.int .i64 0,.int .i64 0,.int .i64 0]
   replace hP:=hP.keep hg
   replace hB:=hB.alloc hB.size (.cells #[.slice none 0 0,.int .i64 0,.int .i64 0,.int .i64 0] 33)
   clear hg
   refine arm10_value (v:=.pointer (some ⟨W.heap.size,0,none⟩)) (w':=W.alloc (.cells #[.slice none 0 0,.int .i64 0,.int .i64 0,.int .i64 0] 33)) (by kernel_rfl) (by go_simp) hB ?_
   simp only [Act.put,zz0,zz1,zz2]
   exact ST2_3_9 _ _ _ hB hP hN iN
  ·
   have hg:=((Below.refl W.heap.size W).alloc (Nat.le_refl _) (.cells (rspA 0 0 none 0 0 0 0) 45))
   have hM:=hB.size
   have iM:=Is.new W 45 (rspA 0 0 none 0 0 0 0)
   replace hP:=hP.keep hg
   replace hB:=hB.alloc hB.size (.cells (rspA 0 0 none 0 0 0 0) 45)
   clear hg
   refine arm10_value (v:=.pointer (some ⟨W.heap.size,0,none⟩)) (w':=W.alloc (.cells (rspA 0 0 none 0 0 0 0) 45)) (by kernel_rfl) (by go_simp) hB ?_
   simp only [Act.put,zz0,zz1,zz2]
   exact ST2_3_10 _ _ _ hB hP hM iM
 have ST2_9_10:∀ (W:World) (DN:Nat) (DM:Nat),Below W0.heap.size W0 W→W0.heap.size≤DN→W0.heap.size≤DM→DN≠DM→Is W DN 33 #[.slice none 0 0,.int .i64 0,.int .i64 0,.int .i64 0]→Is W DM 45 (rspA 0 0 none 0 0 0 0)→wpAnyH Tryz.prog .any (opsOf Tryz.f6 5) Q (fun W=>Below W0.heap.size W0 W) 8 #[true,true,true,false,false,false,false,false,false,true,true,false,false] { tmps:=#[x0,x1,x2,.string l,x4,.pointer (some ⟨D1,0,none⟩),x6,.pointer (some ⟨DN,0,none⟩),.pointer (some ⟨DM,0,none⟩),x9,Xa,Xb,Xc,Xd,Xe,Xf,Xg,Xh,Xi,Xj,Xk,Xl,Xm,Xn,Xo,Xp,Xq,Xr,Xs,Xt,Xu,Xv,.agg (srvA s A c),.string l,.string l2,Xz,Ya,Yb,Yc,Yd,Ye,Yf,Yg,Yh,Yi,Yj,Yk,Yl,Ym,Yn,Yo,Yp,Yq,Yr,Ys,Yt,Yu,Yv,Yw,Yx,Yy,Yz,Za,Zb,Zc,Zd,Ze,Zf,Zg,Zh,Zi,Zj,Zk,Zl,Zm,Zn,Zo,Zp,Zq,Zr,Zs,Zt,Zu,Zv,Zw,Zx,Zy,Zz,Ua,Ub,Uc,Ud,Ue,Uf,Ug,Uh,Ui,Uj,Uk,Ul,Um,Un,Uo,Up,Uq,Ur,Us,Ut,Uu,Uv,Uw,Ux,Uy,Uz,Va,Vb],defers:=[] } W:=by
  intro W DN DM hB hN hM hNM iN iM
  refine wpAnyH_ready (by kernel_rfl) (by simp) (AllReadyH.cons (i:=3) (at_nth rfl) ?_ (AllReadyH.nil))
  ·
   have hg:=((Below.refl W.heap.size W).alloc (Nat.le_refl _) (.cells #[.string l,.string l2] 9))
   have hP:=two_in13 W l l2
   replace iN:=iN.below hg iN.lt
   replace iM:=iM.below hg iM.lt
   replace hB:=hB.alloc hB.size (.cells #[.string l,.string l2] 9)
   clear hg
   refine arm10_value (v:=.slice (some ⟨W.heap.size,0,none⟩) 2 2) (w':=W.alloc (.cells #[.string l,.string l2] 9)) (by kernel_rfl) (by go_simp) hB ?_
   simp only [Act.put,zz0,zz1,zz2]
   obtain ⟨DP,hDP⟩:∃ DP,DP=W.heap.size:=⟨_,rfl⟩
   rw [← hDP] at hP ⊢
   clear hDP
   refine wpP (i:=4) (v:=.agg (reqA 2 (some ⟨DP,0,none⟩) 2 2 none 0 0)) HQN rfl (fun w hSw=>by go_simp) hB ?_
   simp only [Act.put,zz0,zz1,zz2]
   exact ST2_3_9_10 _ _ _ _ hB hP hN hM hNM iN iM
 have ST2_9:∀ (W:World) (DN:Nat),Below W0.heap.size W0 W→W0.heap.size≤DN→Is W DN 33 #[.slice none 0 0,.int .i64 0,.int .i64 0,.int .i64 0]→wpAnyH Tryz.prog .any (opsOf Tryz.f6 5) Q (fun W=>Below W0.heap.size W0 W) 9 #[true,true,true,false,false,false,false,false,false,true,false,false,false] { tmps:=#[x0,x1,x2,.string l,x4,.pointer (some ⟨D1,0,none⟩),x6,.pointer (some ⟨DN,0,none⟩),x8,x9,Xa,Xb,Xc,Xd,Xe,Xf,Xg,Xh,Xi,Xj,Xk,Xl,Xm,Xn,Xo,Xp,Xq,Xr,Xs,Xt,Xu,Xv,.agg (srvA s A c),.string l,.string l2,Xz,Ya,Yb,Yc,Yd,Ye,Yf,Yg,Yh,Yi,Yj,Yk,Yl,Ym,Yn,Yo,Yp,Yq,Yr,Ys,Yt,Yu,Yv,Yw,Yx,Yy,Yz,Za,Zb,Zc,Zd,Ze,Zf,Zg,Zh,Zi,Zj,Zk,Zl,Zm,Zn,Zo,Zp,Zq,Zr,Zs,Zt,Zu,Zv,Zw,Zx,Zy,Zz,Ua,Ub,Uc,Ud,Ue,Uf,Ug,Uh,Ui,Uj,Uk,Ul,Um,Un,Uo,Up,Uq,Ur,Us,Ut,Uu,Uv,Uw,Ux,Uy,Uz,Va,Vb],defers:=[] } W:=by
  intro W DN hB hN iN
  refine wpAnyH_ready (by kernel_rfl) (by simp) (AllReadyH.cons (i:=3) (at_nth rfl) ?_ (AllReadyH.cons (i:=10) (at_nth rfl) ?_ (AllReadyH.nil)))
  ·
   have hg:=((Below.refl W.heap.size W).alloc (Nat.le_refl _) (.cells #[.string l,.string l2] 9))
   have hP:=two_in13 W l l2
   replace iN:=iN.below hg iN.lt
   replace hB:=hB.alloc hB.size (.cells #[.string l,.string l2] 9)
   clear hg
   refine arm10_value (v:=.slice (some ⟨W.heap.size,0,none⟩) 2 2) (w':=W.alloc (.cells #[.string l,.string l2] 9)) (by kernel_rfl) (by go_simp) hB ?_
   simp only [Act.put,zz0,zz1,zz2]
   obtain ⟨DP,hDP⟩:∃ DP,DP=W.heap.size:=⟨_,rfl⟩
   rw [← hDP] at hP ⊢
   clear hDP
   refine wpP (i:=4) (v:=.agg (reqA 2 (some ⟨DP,0,none⟩) 2 2 none 0 0)) HQN rfl (fun w hSw=>by go_simp) hB ?_
   simp only [Act.put,zz0,zz1,zz2]
   exact ST2_3_9 _ _ _ hB hP hN iN
  ·
   have hg:=((Below.refl W.heap.size W).alloc (Nat.le_refl _) (.cells (rspA 0 0 none 0 0 0 0) 45))
   have hM:=hB.size
   have iM:=Is.new W 45 (rspA 0 0 none 0 0 0 0)
   have hNM:DN≠W.heap.size:=by have:=iN.lt;omega
   replace iN:=iN.below hg iN.lt
   replace hB:=hB.alloc hB.size (.cells (rspA 0 0 none 0 0 0 0) 45)
   clear hg
   refine arm10_value (v:=.pointer (some ⟨W.heap.size,0,none⟩)) (w':=W.alloc (.cells (rspA 0 0 none 0 0 0 0) 45)) (by kernel_rfl) (by go_simp) hB ?_
   simp only [Act.put,zz0,zz1,zz2]
   exact ST2_9_10 _ _ _ hB hN hM hNM iN iM
 have ST2_10:∀ (W:World) (DM:Nat),Below W0.heap.size W0 W→W0.heap.size≤DM→Is W DM 45 (rspA 0 0 none 0 0 0 0)→wpAnyH Tryz.prog .any (opsOf Tryz.f6 5) Q (fun W=>Below W0.heap.size W0 W) 9 #[true,true,true,false,false,false,false,false,false,false,true,false,false] { tmps:=#[x0,x1,x2,.string l,x4,.pointer (some ⟨D1,0,none⟩),x6,x7,.pointer (some ⟨DM,0,none⟩),x9,Xa,Xb,Xc,Xd,Xe,Xf,Xg,Xh,Xi,Xj,Xk,Xl,Xm,Xn,Xo,Xp,Xq,Xr,Xs,Xt,Xu,Xv,.agg (srvA s A c),.string l,.string l2,Xz,Ya,Yb,Yc,Yd,Ye,Yf,Yg,Yh,Yi,Yj,Yk,Yl,Ym,Yn,Yo,Yp,Yq,Yr,Ys,Yt,Yu,Yv,Yw,Yx,Yy,Yz,Za,Zb,Zc,Zd,Ze,Zf,Zg,Zh,Zi,Zj,Zk,Zl,Zm,Zn,Zo,Zp,Zq,Zr,Zs,Zt,Zu,Zv,Zw,Zx,Zy,Zz,Ua,Ub,Uc,Ud,Ue,Uf,Ug,Uh,Ui,Uj,Uk,Ul,Um,Un,Uo,Up,Uq,Ur,Us,Ut,Uu,Uv,Uw,Ux,Uy,Uz,Va,Vb],defers:=[] } W:=by
  intro W DM hB hM iM
  refine wpAnyH_ready (by kernel_rfl) (by simp) (AllReadyH.cons (i:=3) (at_nth rfl) ?_ (AllReadyH.cons (i:=9) (at_nth rfl) ?_ (AllReadyH.nil)))
  ·
   have hg:=((Below.refl W.heap.size W).alloc (Nat.le_refl _) (.cells #[.string l,.string l2] 9))
   have hP:=two_in13 W l l2
   replace iM:=iM.below hg iM.lt
   replace hB:=hB.alloc hB.size (.cells #[.string l,.string l2] 9)
   clear hg
   refine arm10_value (v:=.slice (some ⟨W.heap.size,0,none⟩) 2 2) (w':=W.alloc (.cells #[.string l,.string l2] 9)) (by kernel_rfl) (by go_simp) hB ?_
   simp only [Act.put,zz0,zz1,zz2]
   obtain ⟨DP,hDP⟩:∃ DP,DP=W.heap.size:=⟨_,rfl⟩
   rw [← hDP] at hP ⊢
   clear hDP
   refine wpP (i:=4) (v:=.agg (reqA 2 (some ⟨DP,0,none⟩) 2 2 none 0 0)) HQN rfl (fun w hSw=>by go_simp) hB ?_
   simp only [Act.put,zz0,zz1,zz2]
   exact ST2_3_10 _ _ _ hB hP hM iM
  ·
   have hg:=((Below.refl W.heap.size W).alloc (Nat.le_refl _) (.cells #[.slice none 0 0,.int .i64 0,.int .i64 0,.int .i64 0] 33))
   have hN:=hB.size
   have iN:=Is.new W 33 #[.slice none 0 0,.int .i64 0,.int .i64 0,.int .i64 0]
   have hNM:W.heap.size≠DM:=by have:=iM.lt;omega
   replace iM:=iM.below hg iM.lt
   replace hB:=hB.alloc hB.size (.cells #[.slice none 0 0,.int .i64 0,.int .i64 0,.int .i64 0] 33)
   clear hg
   refine arm10_value (v:=.pointer (some ⟨W.heap.size,0,none⟩)) (w':=W.alloc (.cells #[.slice none 0 0,.int .i64 0,.int .i64 0,.int .i64 0] 33)) (by kernel_rfl) (by go_simp) hB ?_
   simp only [Act.put,zz0,zz1,zz2]
   exact ST2_9_10 _ _ _ hB hN hM hNM iN iM
 have ST2:∀ (W:World),Below W0.heap.size W0 W→wpAnyH Tryz.prog .any (opsOf Tryz.f6 5) Q (fun W=>Below W0.heap.size W0 W) 10 #[true,true,true,false,false,false,false,false,false,false,false,false,false] { tmps:=#[x0,x1,x2,.string l,x4,.pointer (some ⟨D1,0,none⟩),x6,x7,x8,x9,Xa,Xb,Xc,Xd,Xe,Xf,Xg,Xh,Xi,Xj,Xk,Xl,Xm,Xn,Xo,Xp,Xq,Xr,Xs,Xt,Xu,Xv,.agg (srvA s A c),.string l,.string l2,Xz,Ya,Yb,Yc,Yd,Ye,Yf,Yg,Yh,Yi,Yj,Yk,Yl,Ym,Yn,Yo,Yp,Yq,Yr,Ys,Yt,Yu,Yv,Yw,Yx,Yy,Yz,Za,Zb,Zc,Zd,Ze,Zf,Zg,Zh,Zi,Zj,Zk,Zl,Zm,Zn,Zo,Zp,Zq,Zr,Zs,Zt,Zu,Zv,Zw,Zx,Zy,Zz,Ua,Ub,Uc,Ud,Ue,Uf,Ug,Uh,Ui,Uj,Uk,Ul,Um,Un,Uo,Up,Uq,Ur,Us,Ut,Uu,Uv,Uw,Ux,Uy,Uz,Va,Vb],defers:=[] } W:=by
  intro W hB
  refine wpAnyH_ready (by kernel_rfl) (by simp) (AllReadyH.cons (i:=3) (at_nth rfl) ?_ (AllReadyH.cons (i:=9) (at_nth rfl) ?_ (AllReadyH.cons (i:=10) (at_nth rfl) ?_ (AllReadyH.nil))))
  ·
   have hg:=((Below.refl W.heap.size W).alloc (Nat.le_refl _) (.cells #[.string l,.string l2] 9))
   have hP:=two_in13 W l l2
   replace hB:=hB.alloc hB.size (.cells #[.string l,.string l2] 9)
   clear hg
   refine arm10_value (v:=.slice (some ⟨W.heap.size,0,none⟩) 2 2) (w':=W.alloc (.cells #[.string l,.string l2] 9)) (by kernel_rfl) (by go_simp) hB ?_
   simp only [Act.put,zz0,zz1,zz2]
   obtain ⟨DP,hDP⟩:∃ DP,DP=W.heap.size:=⟨_,rfl⟩
   rw [← hDP] at hP ⊢
   clear hDP
   refine wpP (i:=4) (v:=.agg (reqA 2 (some ⟨DP,0,none⟩) 2 2 none 0 0)) HQN rfl (fun w hSw=>by go_simp) hB ?_
   simp only [Act.put,zz0,zz1,zz2]
   exact ST2_3 _ _ hB hP
  ·
   have hg:=((Below.refl W.heap.size W).alloc (Nat.le_refl _) (.cells #[.slice none 0 0,.int .i64 0,.int .i64 0,.int .i64 0] 33))
   have hN:=hB.size
   have iN:=Is.new W 33 #[.slice none 0 0,.int .i64 0,.int .i64 0,.int .i64 0]
   replace hB:=hB.alloc hB.size (.cells #[.slice none 0 0,.int .i64 0,.int .i64 0,.int .i64 0] 33)
   clear hg
   refine arm10_value (v:=.pointer (some ⟨W.heap.size,0,none⟩)) (w':=W.alloc (.cells #[.slice none 0 0,.int .i64 0,.int .i64 0,.int .i64 0] 33)) (by kernel_rfl) (by go_simp) hB ?_
   simp only [Act.put,zz0,zz1,zz2]
   exact ST2_9 _ _ hB hN iN
  ·
   have hg:=((Below.refl W.heap.size W).alloc (Nat.le_refl _) (.cells (rspA 0 0 none 0 0 0 0) 45))
   have hM:=hB.size
   have iM:=Is.new W 45 (rspA 0 0 none 0 0 0 0)
   replace hB:=hB.alloc hB.size (.cells (rspA 0 0 none 0 0 0 0) 45)
   clear hg
   refine arm10_value (v:=.pointer (some ⟨W.heap.size,0,none⟩)) (w':=W.alloc (.cells (rspA 0 0 none 0 0 0 0) 45)) (by kernel_rfl) (by go_simp) hB ?_
   simp only [Act.put,zz0,zz1,zz2]
   exact ST2_10 _ _ hB hM iM
 have ST9_10:∀ (W:World) (DN:Nat) (DM:Nat),Below W0.heap.size W0 W→W0.heap.size≤DN→W0.heap.size≤DM→DN≠DM→Is W DN 33 #[.slice none 0 0,.int .i64 0,.int .i64 0,.int .i64 0]→Is W DM 45 (rspA 0 0 none 0 0 0 0)→wpAnyH Tryz.prog .any (opsOf Tryz.f6 5) Q (fun W=>Below W0.heap.size W0 W) 9 #[true,true,false,false,false,false,false,false,false,true,true,false,false] { tmps:=#[x0,x1,x2,.string l,x4,.pointer (some ⟨D1,0,none⟩),x6,.pointer (some ⟨DN,0,none⟩),.pointer (some ⟨DM,0,none⟩),x9,Xa,Xb,Xc,Xd,Xe,Xf,Xg,Xh,Xi,Xj,Xk,Xl,Xm,Xn,Xo,Xp,Xq,Xr,Xs,Xt,Xu,Xv,.agg (srvA s A c),.string l,Xy,Xz,Ya,Yb,Yc,Yd,Ye,Yf,Yg,Yh,Yi,Yj,Yk,Yl,Ym,Yn,Yo,Yp,Yq,Yr,Ys,Yt,Yu,Yv,Yw,Yx,Yy,Yz,Za,Zb,Zc,Zd,Ze,Zf,Zg,Zh,Zi,Zj,Zk,Zl,Zm,Zn,Zo,Zp,Zq,Zr,Zs,Zt,Zu,Zv,Zw,Zx,Zy,Zz,Ua,Ub,Uc,Ud,Ue,Uf,Ug,Uh,Ui,Uj,Uk,Ul,Um,Un,Uo,Up,Uq,Ur,Us,Ut,Uu,Uv,Uw,Ux,Uy,Uz,Va,Vb],defers:=[] } W:=by
  intro W DN DM hB hN hM hNM iN iM
  refine wpAnyH_ready (by kernel_rfl) (by simp) (AllReadyH.cons (i:=2) (at_nth rfl) ?_ (AllReadyH.nil))
  ·
   refine arm10_call (by kernel_rfl) (fun wy=>by kernel_rfl) (((HL.out W)).mono ?_)
   rintro e Wn ⟨rfl,hb⟩
   replace iN:=iN.below hb iN.lt
   replace iM:=iM.below hb iM.lt
   replace hB:=hB.trans (hb.mono hB.size)
   clear hb
   refine ⟨_,rfl,hB,?_⟩
   simp only [Act.put,zz0,zz1,zz2]
   exact ST2_9_10 _ _ _ hB hN hM hNM iN iM
 have ST9:∀ (W:World) (DN:Nat),Below W0.heap.size W0 W→W0.heap.size≤DN→Is W DN 33 #[.slice none 0 0,.int .i64 0,.int .i64 0,.int .i64 0]→wpAnyH Tryz.prog .any (opsOf Tryz.f6 5) Q (fun W=>Below W0.heap.size W0 W) 10 #[true,true,false,false,false,false,false,false,false,true,false,false,false] { tmps:=#[x0,x1,x2,.string l,x4,.pointer (some ⟨D1,0,none⟩),x6,.pointer (some ⟨DN,0,none⟩),x8,x9,Xa,Xb,Xc,Xd,Xe,Xf,Xg,Xh,Xi,Xj,Xk,Xl,Xm,Xn,Xo,Xp,Xq,Xr,Xs,Xt,Xu,Xv,.agg (srvA s A c),.string l,Xy,Xz,Ya,Yb,Yc,Yd,Ye,Yf,Yg,Yh,Yi,Yj,Yk,Yl,Ym,Yn,Yo,Yp,Yq,Yr,Ys,Yt,Yu,Yv,Yw,Yx,Yy,Yz,Za,Zb,Zc,Zd,Ze,Zf,Zg,Zh,Zi,Zj,Zk,Zl,Zm,Zn,Zo,Zp,Zq,Zr,Zs,Zt,Zu,Zv,Zw,Zx,Zy,Zz,Ua,Ub,Uc,Ud,Ue,Uf,Ug,Uh,Ui,Uj,Uk,Ul,Um,Un,Uo,Up,Uq,Ur,Us,Ut,Uu,Uv,Uw,Ux,Uy,Uz,Va,Vb],defers:=[] } W:=by
  intro W DN hB hN iN
  refine wpAnyH_ready (by kernel_rfl) (by simp) (AllReadyH.cons (i:=2) (at_nth rfl) ?_ (AllReadyH.cons (i:=10) (at_nth rfl) ?_ (AllReadyH.nil)))
  ·
   refine arm10_call (by kernel_rfl) (fun wy=>by kernel_rfl) (((HL.out W)).mono ?_)
   rintro e Wn ⟨rfl,hb⟩
   replace iN:=iN.below hb iN.lt
   replace hB:=hB.trans (hb.mono hB.size)
   clear hb
   refine ⟨_,rfl,hB,?_⟩
   simp only [Act.put,zz0,zz1,zz2]
   exact ST2_9 _ _ hB hN iN
  ·
   have hg:=((Below.refl W.heap.size W).alloc (Nat.le_refl _) (.cells (rspA 0 0 none 0 0 0 0) 45))
   have hM:=hB.size
   have iM:=Is.new W 45 (rspA 0 0 none 0 0 0 0)
   have hNM:DN≠W.heap.size:=by have:=iN.lt;omega
   replace iN:=iN.below hg iN.lt
   replace hB:=hB.alloc hB.size (.cells (rspA 0 0 none 0 0 0 0) 45)
   clear hg
   refine arm10_value (v:=.pointer (some ⟨W.heap.size,0,none⟩)) (w':=W.alloc (.cells (rspA 0 0 none 0 0 0 0) 45)) (by kernel_rfl) (by go_simp) hB ?_
   simp only [Act.put,zz0,zz1,zz2]
   exact ST9_10 _ _ _ hB hN hM hNM iN iM
 have ST10:∀ (W:World) (DM:Nat),Below W0.heap.size W0 W→W0.heap.size≤DM→Is W DM 45 (rspA 0 0 none 0 0 0 0)→wpAnyH Tryz.prog .any (opsOf Tryz.f6 5) Q (fun W=>Below W0.heap.size W0 W) 10 #[true,true,false,false,false,false,false,false,false,false,true,false,false] { tmps:=#[x0,x1,x2,.string l,x4,.pointer (some ⟨D1,0,none⟩),x6,x7,.pointer (some ⟨DM,0,none⟩),x9,Xa,Xb,Xc,Xd,Xe,Xf,Xg,Xh,Xi,Xj,Xk,Xl,Xm,Xn,Xo,Xp,Xq,Xr,Xs,Xt,Xu,Xv,.agg (srvA s A c),.string l,Xy,Xz,Ya,Yb,Yc,Yd,Ye,Yf,Yg,Yh,Yi,Yj,Yk,Yl,Ym,Yn,Yo,Yp,Yq,Yr,Ys,Yt,Yu,Yv,Yw,Yx,Yy,Yz,Za,Zb,Zc,Zd,Ze,Zf,Zg,Zh,Zi,Zj,Zk,Zl,Zm,Zn,Zo,Zp,Zq,Zr,Zs,Zt,Zu,Zv,Zw,Zx,Zy,Zz,Ua,Ub,Uc,Ud,Ue,Uf,Ug,Uh,Ui,Uj,Uk,Ul,Um,Un,Uo,Up,Uq,Ur,Us,Ut,Uu,Uv,Uw,Ux,Uy,Uz,Va,Vb],defers:=[] } W:=by
  intro W DM hB hM iM
  refine wpAnyH_ready (by kernel_rfl) (by simp) (AllReadyH.cons (i:=2) (at_nth rfl) ?_ (AllReadyH.cons (i:=9) (at_nth rfl) ?_ (AllReadyH.nil)))
  ·
   refine arm10_call (by kernel_rfl) (fun wy=>by kernel_rfl) (((HL.out W)).mono ?_)
   rintro e Wn ⟨rfl,hb⟩
   replace iM:=iM.below hb iM.lt
   replace hB:=hB.trans (hb.mono hB.size)
   clear hb
   refine ⟨_,rfl,hB,?_⟩
   simp only [Act.put,zz0,zz1,zz2]
   exact ST2_10 _ _ hB hM iM
  ·
   have hg:=((Below.refl W.heap.size W).alloc (Nat.le_refl _) (.cells #[.slice none 0 0,.int .i64 0,.int .i64 0,.int .i64 0] 33))
   have hN:=hB.size
   have iN:=Is.new W 33 #[.slice none 0 0,.int .i64 0,.int .i64 0,.int .i64 0]
   have hNM:W.heap.size≠DM:=by have:=iM.lt;omega
   replace iM:=iM.below hg iM.lt
   replace hB:=hB.alloc hB.size (.cells #[.slice none 0 0,.int .i64 0,.int .i64 0,.int .i64 0] 33)
   clear hg
   refine arm10_value (v:=.pointer (some ⟨W.heap.size,0,none⟩)) (w':=W.alloc (.cells #[.slice none 0 0,.int .i64 0,.int .i64 0,.int .i64 0] 33)) (by kernel_rfl) (by go_simp) hB ?_
   simp only [Act.put,zz0,zz1,zz2]
   exact ST9_10 _ _ _ hB hN hM hNM iN iM
 have ST:∀ (W:World),Below W0.heap.size W0 W→wpAnyH Tryz.prog .any (opsOf Tryz.f6 5) Q (fun W=>Below W0.heap.size W0 W) 11 #[true,true,false,false,false,false,false,false,false,false,false,false,false] { tmps:=#[x0,x1,x2,.string l,x4,.pointer (some ⟨D1,0,none⟩),x6,x7,x8,x9,Xa,Xb,Xc,Xd,Xe,Xf,Xg,Xh,Xi,Xj,Xk,Xl,Xm,Xn,Xo,Xp,Xq,Xr,Xs,Xt,Xu,Xv,.agg (srvA s A c),.string l,Xy,Xz,Ya,Yb,Yc,Yd,Ye,Yf,Yg,Yh,Yi,Yj,Yk,Yl,Ym,Yn,Yo,Yp,Yq,Yr,Ys,Yt,Yu,Yv,Yw,Yx,Yy,Yz,Za,Zb,Zc,Zd,Ze,Zf,Zg,Zh,Zi,Zj,Zk,Zl,Zm,Zn,Zo,Zp,Zq,Zr,Zs,Zt,Zu,Zv,Zw,Zx,Zy,Zz,Ua,Ub,Uc,Ud,Ue,Uf,Ug,Uh,Ui,Uj,Uk,Ul,Um,Un,Uo,Up,Uq,Ur,Us,Ut,Uu,Uv,Uw,Ux,Uy,Uz,Va,Vb],defers:=[] } W:=by
  intro W hB
  refine wpAnyH_ready (by kernel_rfl) (by simp) (AllReadyH.cons (i:=2) (at_nth rfl) ?_ (AllReadyH.cons (i:=9) (at_nth rfl) ?_ (AllReadyH.cons (i:=10) (at_nth rfl) ?_ (AllReadyH.nil))))
  ·
   refine arm10_call (by kernel_rfl) (fun wy=>by kernel_rfl) (((HL.out W)).mono ?_)
   rintro e Wn ⟨rfl,hb⟩
   replace hB:=hB.trans (hb.mono hB.size)
   clear hb
   refine ⟨_,rfl,hB,?_⟩
   simp only [Act.put,zz0,zz1,zz2]
   exact ST2 _ hB
  ·
   have hg:=((Below.refl W.heap.size W).alloc (Nat.le_refl _) (.cells #[.slice none 0 0,.int .i64 0,.int .i64 0,.int .i64 0] 33))
   have hN:=hB.size
   have iN:=Is.new W 33 #[.slice none 0 0,.int .i64 0,.int .i64 0,.int .i64 0]
   replace hB:=hB.alloc hB.size (.cells #[.slice none 0 0,.int .i64 0,.int .i64 0,.int .i64 0] 33)
   clear hg
   refine arm10_value (v:=.pointer (some ⟨W.heap.size,0,none⟩)) (w':=W.alloc (.cells #[.slice none 0 0,.int .i64 0,.int .i64 0,.int .i64 0] 33)) (by kernel_rfl) (by go_simp) hB ?_
   simp only [Act.put,zz0,zz1,zz2]
   exact ST9 _ _ hB hN iN
  ·
   have hg:=((Below.refl W.heap.size W).alloc (Nat.le_refl _) (.cells (rspA 0 0 none 0 0 0 0) 45))
   have hM:=hB.size
   have iM:=Is.new W 45 (rspA 0 0 none 0 0 0 0)
   replace hB:=hB.alloc hB.size (.cells (rspA 0 0 none 0 0 0 0) 45)
   clear hg
   refine arm10_value (v:=.pointer (some ⟨W.heap.size,0,none⟩)) (w':=W.alloc (.cells (rspA 0 0 none 0 0 0 0) 45)) (by kernel_rfl) (by go_simp) hB ?_
   simp only [Act.put,zz0,zz1,zz2]
   exact ST10 _ _ hB hM iM
 refine wp_region_held_drew (S:=fun W=>Below W0.heap.size W0 W) (by kernel_rfl) hB (fun hS=>?_)
 change wpAnyH _ _ (opsOf Tryz.f6 5) _ _ 13 (Array.replicate 13 false) _ (W0.drewN 1)
 clear hS
 replace hB:Below W0.heap.size W0 (W0.drewN 1):=belowN (Below.refl _ _) 1
 refine wpP (i:=0) (v:=.agg (srvA s A c)) HQN rfl (fun w hSw=>by exact run_load_rowO (x:=.tmp 5) (by kernel_rfl) (by kernel_rfl) (i1.below hSw i1.lt) Tryz.underlying33 rfl infoSrv13) hB ?_
 simp only [Act.put,zz0,zz1,zz2]
 refine wpP (i:=1) (v:=.string l) HQN rfl (fun w hSw=>by kernel_rfl) hB ?_
 simp only [Act.put,zz0,zz1,zz2]
 exact ST _ hB
end Go.Proofs.YtmggbbmpckcleaaGreat
namespace Go.Proofs.YtmggbbmpckcleaaGreat
open Go.RowKit Go.Shelf
theorem awake13_any (w:World):Calls Tryz.prog 6 #[] w fun e w'=>e=.returned (.bool true)∧Below w.heap.size w w':=by
 have HN:=Lib.hid (fun W=>snew_any13 5 W)
 rw [aw_new13] at HN
 have HN2:=Lib.hid (fun W=>snew_any13 (-1) W)
 rw [aw_no13] at HN2
 have HL:=Lib.hid (fun W=>qlabel_any11 1 W (by omega))
 have HL2:=Lib.hid (fun W=>qlabel_any11 2 W (by omega))
 have HC:=Lib.hid (fun W=>qcell_any11 1 W (by omega))
 have HG:=Lib.hid (fun A c W=>sright_any13 awD13.1 A c W)
 rw [aw_right13] at HG
 have E1:=Lib.hid aw_put13
 have E2:=Lib.hid aw_get13
 have E3:=Lib.hid aw_stat13
 have E4:=Lib.hid aw_bad13
 have E5:=Lib.hid (show do13 awS13 ⟨1,[label11 1],[cell11 1]⟩=awD13 from rfl)
 generalize awD13=D at *
 generalize awS13=S0 at *
 go_enter Tryz.func6,Tryz.ntmps6
 go_upto_region 1 with (fail)
 refine wp_region_list (awk13_1 w S0 0 HN _ _ _ _ _ _ _ _ _ _ _ _ _ _ _ _ _ _ _ _ _ _ _ _ _ _ _ _ _ _ _ _ _ _ _ _ _ _ _ _ _ _ _ _ _ _ _ _ _ _ _ _ _ _ _ _ _ _ _ _ _ _ _ _ _ _ _ _ _ _ _ _ _ _ _ _ _ _ _ _ _ _ _ _ _ _ _ _ _ _ _ _ _ _ _ _ _ _ _ _ _ _ _ _ _ _ _ _ _ _ _ _ _ _ _ _ _ (fun D1 A1 c1 W1 h1=>?_))
 clear HN
 go_upto_region 4 with (first | (go_at_call 23;refine (HL.out _).mono ?_;rintro e W2 ⟨rfl,hb2⟩) | (go_at_call 24;refine (HC.out _).mono ?_;rintro e W3 ⟨rfl,hb3⟩))
 have hb13:=hb2.trans (hb3.mono hb2.size)
 have i1:=h1.srv.below hb13 h1.srv.lt
 have hI1:=h1.inS.keep hb13
 have hB3:=h1.below.trans (hb13.mono h1.below.size)
 clear hb2 hb3 hb13 h1
 generalize label11 1=l at *
 generalize cell11 1=x at *
 refine wp_region_list (awk13_4 W3 l x D1 S0 A1 c1 i1 hI1 _ _ _ _ _ _ _ _ _ _ _ _ _ _ _ _ _ _ _ _ _ _ _ _ _ _ _ _ _ _ _ _ _ _ _ _ _ _ _ _ _ _ _ _ _ _ _ _ _ _ _ _ _ _ _ _ _ _ _ _ _ _ _ _ _ _ _ _ _ _ _ _ _ _ _ _ _ _ _ _ _ _ _ _ _ _ _ _ _ _ _ _ _ _ _ _ _ _ _ _ _ _ _ _ _ _ _ _ _ _ _ _ _ _ (fun DN DM A2 c2 RA rc W4 h4=>?_))
 rw [E5.out] at h4
 have i14:=i1.below h4.below i1.lt
 have hI14:=hI1.keep h4.below
 have hB4:=hB3.trans (h4.below.mono hB3.size)
 clear i1 hI1 hB3
 go_upto_region 5 with (fail)
 refine Code.wp_mono ?_ (awk13_5 W4 l (label11 2) HL2 DN D.1 A2 c2 h4.srv h4.inS _ _ _ _ _ _ _ _ _ _ _ _ _ _ _ _ _ _ _ _ _ _ _ _ _ _ _ _ _ _ _ _ _ _ _ _ _ _ _ _ _ _ _ _ _ _ _ _ _ _ _ _ _ _ _ _ _ _ _ _ _ _ _ _ _ _ _ _ _ _ _ _ _ _ _ _ _ _ _ _ _ _ _ _ _ _ _ _ _ _ _ _ _ _ _ _ _ _ _ _ _ _ _ _ _ _ _ _ _ _ _ _ _ _)
 rintro ex ⟨T,Df⟩ W5 ⟨rfl,hDf,DN5,DM5,A5,c5,RA5,rc5,DP,hT,hB5,_,hV5,_,hM5,_,_,r5⟩
 simp only at hT hDf
 subst hT
 subst hDf
 have r4:=h4.rsp
 have s4:=h4.srv
 have I4:=h4.inS
 clear h4
 rw [E1.out] at r4
 rw [E2.out] at r5 hV5
 have r4:=r4.below hB5 r4.lt
 have s4:=s4.below hB5 s4.lt
 have I4:=I4.keep hB5
 have i15:=i14.below hB5 i14.lt
 have hI15:=hI14.keep hB5
 have hB6:=hB4.trans (hB5.mono hB4.size)
 clear i14 hI14 hB4 hB5 HL2
 go_upto_region 6 with (fail)
 refine wp_region_list (awk13_6 W5 D1 S0 A1 c1 i15 hI15 _ _ _ _ _ _ _ _ _ _ _ _ _ _ _ _ _ _ _ _ _ _ _ _ _ _ _ _ _ _ _ _ _ _ _ _ _ _ _ _ _ _ _ _ _ _ _ _ _ _ _ _ _ _ _ _ _ _ _ _ _ _ _ _ _ _ _ _ _ _ _ _ _ _ _ _ _ _ _ _ _ _ _ _ _ _ _ _ _ _ _ _ _ _ _ _ _ _ _ _ _ _ _ _ _ _ _ _ _ _ _ _ _ _ _ _ (fun DN6 DM6 A6 c6 RA6 rc6 W6 h6=>?_))
 have r6:=h6.rsp
 rw [E3.out] at r6
 have hb:=h6.below
 have r4:=r4.below hb r4.lt
 have s4:=s4.below hb s4.lt
 have I4:=I4.keep hb
 have r5:=r5.below hb r5.lt
 have hV5:=hV5.keep hb
 have i16:=i15.below hb i15.lt
 have hI16:=hI15.keep hb
 have hB7:=hB6.trans (hb.mono hB6.size)
 clear h6 hb i15 hI15 hB6
 go_upto_region 7 with (fail)
 refine wp_region_list (awk13_7 W6 D1 S0 A1 c1 i16 hI16 _ _ _ _ _ _ _ _ _ _ _ _ _ _ _ _ _ _ _ _ _ _ _ _ _ _ _ _ _ _ _ _ _ _ _ _ _ _ _ _ _ _ _ _ _ _ _ _ _ _ _ _ _ _ _ _ _ _ _ _ _ _ _ _ _ _ _ _ _ _ _ _ _ _ _ _ _ _ _ _ _ _ _ _ _ _ _ _ _ _ _ _ _ _ _ _ _ _ _ _ _ _ _ _ _ _ _ _ _ _ _ _ _ _ _ _ (fun DN7 A7 c7 W7 h7=>?_))
 have hb:=h7.below
 have r4:=r4.below hb r4.lt
 have s4:=s4.below hb s4.lt
 have I4:=I4.keep hb
 have r5:=r5.below hb r5.lt
 have hV5:=hV5.keep hb
 have r6:=r6.below hb r6.lt
 have hB8:=hB7.trans (hb.mono hB7.size)
 clear h7 hb i16 hI16 hB7
 generalize (step13 S0 ⟨#[98,97,100]⟩).2=f at *
 go_upto_region 8 with (fail)
 refine wp_region_list (awk13_8 W7 ⟨⟨[],0,0⟩,0⟩ 1 HN2 _ _ _ _ _ _ _ _ _ _ _ _ _ _ _ _ _ _ _ _ _ _ _ _ _ _ _ _ _ _ _ _ _ _ _ _ _ _ _ _ _ _ _ _ _ _ _ _ _ _ _ _ _ _ _ _ _ _ _ _ _ _ _ _ _ _ _ _ _ _ _ _ _ _ _ _ _ _ _ _ _ _ _ _ _ _ _ _ _ _ _ _ _ _ _ _ _ _ _ _ _ _ _ _ _ _ _ _ _ _ _ _ _ _ _ _ _ (fun DN8 A8 c8 W8 h8=>?_))
 have hb:=h8.below
 have r4:=r4.below hb r4.lt
 have s4:=s4.below hb s4.lt
 have I4:=I4.keep hb
 have r5:=r5.below hb r5.lt
 have hV5:=hV5.keep hb
 have r6:=r6.below hb r6.lt
 have hB9:=hB8.trans (hb.mono hB8.size)
 clear h8 hb hB8 HN2
 obtain ⟨b,off,rfl,_,hx0⟩:=hV5 0 (.string x) rfl
 obtain ⟨b2,off2,e2,_,hx1⟩:=hV5 1 (.string ⟨#[]⟩) rfl
 cases e2
 rw [Nat.add_zero] at hx0
 have c40:=r4.cell 0
 have c41:=r4.cell 1
 have c52:=r5.cell 2
 have c60:=r6.cell 0
 have c63:=r6.cell 3
 have c64:=r6.cell 4
 have hf:=E4.out
 have hf2:(f.size:Int)=20:=by omega
 clear hf r4 r5 r6 hV5
 go_wp2_with (first | (refine wpList_load_rowG13 (by kernel_rfl) 33 _ rfl DN rfl _ _ s4 Tryz.underlying33 rfl infoSrv13 ?_) | (go_at_call 12;refine (HG.out _ _ _ I4).mono ?_;rintro e W9 ⟨rfl,hb9⟩))
 go_ret
 exact ⟨rfl,hB9.trans (hb9.mono hB9.size)⟩
end Go.Proofs.YtmggbbmpckcleaaGreat
