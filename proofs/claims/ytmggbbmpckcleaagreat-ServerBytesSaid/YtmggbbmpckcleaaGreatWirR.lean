import Derived.Test.YtmggbbmpckcleaaGreatWirM
import Derived.Test.YtmggbbmpckcleaaGreatGWi3
import Derived.Test.YtmggbbmpckcleaaGreatGCo3
import Derived.Deep.DeepCutAuto
set_option maxRecDepth 100000
set_option maxHeartbeats 16000000
namespace Go.Proofs.YtmggbbmpckcleaaGreat
open Go.RowKit Go.Shelf
theorem wpList_load_rowG11 {P:Program} {ops:Array Oper} {rest:List Oper} {o:Oper} {a:Act} {w:World} {Q:Exit→Act→World→Prop} (hw:Region.wanted o (yielded ops a.tmps)=true) (ty:TypeId) (x:Operand) (ho:o.op=.load ty x)
  (g:Nat) (hx:a.eval x=.pointer (some ⟨g,0,none⟩)) (t:TypeId) (cs:Array Value) {d:TypeDesc} (hg:Is w g t cs)
  (hu:P.underlying ty=some d) (hd:(match d with | .struct _ | .array _ _=>true | _=>false)=true) (hi:(P.info? ty).map (·.size)=some cs.size)
  (h:wpList P ops Q rest (a.put o.dst (.agg cs)) w):wpList P ops Q (o :: rest) a w :=
 wpList_step fun K hK=>by rw [if_pos hw];exact wp_load_row ty x ho g hx t cs (0,0) d hg hu hd hi (hK _ _ h)
def DecPost11 (D:Req11 × Int) (w:World) (r:Ending) (w':World):Prop :=
 ∃ B1 d1 B2 d2,r=.returned (.tuple #[.agg #[.int .i64 D.1.k,.slice B1 D.1.L.length d1,.slice B2 D.1.C.length d2],.int .i64 D.2])∧InV w' B1 (tL10 D.1.L)∧InV w' B2 (tL10 D.1.C)∧Below w.heap.size w w'
theorem dec_post11 {D:Req11 × Int} {w w':World} {r:Ending} (B1 B2:Option Addr) (d1 d2:Nat) (h:r=.returned (.tuple #[.agg #[.int .i64 D.1.k,.slice B1 D.1.L.length d1,.slice B2 D.1.C.length d2],.int .i64 D.2])) (h1:InV w' B1 (tL10 D.1.L)) (h2:InV w' B2 (tL10 D.1.C)) (hb:Below w.heap.size w w'):DecPost11 D w r w':=⟨B1,d1,B2,d2,h,h1,h2,hb⟩
theorem ddec_any11 (s:ByteArray) (w:World) :
  Calls Tryz.prog 22 #[.string s] w fun r w'=>DecPost11 (decV11 s) w r w':=by
 have i0:Is (w.alloc (.cells #[.int .i64 0,.slice none 0 0,.slice none 0 0] 26)) w.heap.size 26 #[.int .i64 0,.slice none 0 0,.slice none 0 0]:=Is.new _ _ _
 have hB:Below w.heap.size w (w.alloc (.cells #[.int .i64 0,.slice none 0 0,.slice none 0 0] 26)):=(Below.refl _ _).alloc (Nat.le_refl _) _
 by_cases h0:65536 < s.size
 ·
  have hv:decV11 s=(zreq11,2):=by rw [decV11,if_pos h0]
  have h1:(65536:Int) < (s.size:Int):=by omega
  rw [hv]
  go_enter Tryz.func22,Tryz.ntmps22
  go_wp2
  exact bodyPost_ret (results_row_tmp Tryz.results22 _ _ w.heap.size 26 #[.int .i64 0,.slice none 0 0,.slice none 0 0] (0,0) _ rfl i0 Tryz.underlying26 rfl infoReq11) rfl (dec_post11 none none 0 0 rfl (fun j u hj=>by cases hj) (fun j u hj=>by cases hj) hB)
 have h1:¬ (65536:Int) < (s.size:Int):=by omega
 have HD:Hid (decV11 s=if (tnV10 s 0).2.2≠0 then (zreq11,(tnV10 s 0).2.2) else if (tlV10 s (tnV10 s 0).2.1).2.2≠0 then (zreq11,(tlV10 s (tnV10 s 0).2.1).2.2) else if (tlV10 s (tlV10 s (tnV10 s 0).2.1).2.1).2.2≠0 then (zreq11,(tlV10 s (tlV10 s (tnV10 s 0).2.1).2.1).2.2) else if endV10 s (tlV10 s (tlV10 s (tnV10 s 0).2.1).2.1).2.1≠0∨right11 ⟨(tnV10 s 0).1,(tlV10 s (tnV10 s 0).2.1).1,(tlV10 s (tlV10 s (tnV10 s 0).2.1).2.1).1⟩=false then (zreq11,13) else (⟨(tnV10 s 0).1,(tlV10 s (tnV10 s 0).2.1).1,(tlV10 s (tlV10 s (tnV10 s 0).2.1).2.1).1⟩,0)):=Lib.hid (by rw [decV11,if_neg h0])
 generalize decV11 s=D at *
 have hl1:=tl_len11 s (tnV10 s 0).2.1
 have hl2:=tl_len11 s (tlV10 s (tnV10 s 0).2.1).2.1
 have C1:=Lib.hid (dn_any10 s 0)
 have C2:=Lib.hid (dl_any10 s (tnV10 s 0).2.1)
 have C3:=Lib.hid (dl_any10 s (tlV10 s (tnV10 s 0).2.1).2.1)
 have C4:=Lib.hid (dend_any10 s (tlV10 s (tlV10 s (tnV10 s 0).2.1).2.1).2.1)
 simp only [tnR10,tlR10] at C1 C2 C3
 generalize endV10 s (tlV10 s (tlV10 s (tnV10 s 0).2.1).2.1).2.1=e4 at *
 generalize tlV10 s (tlV10 s (tnV10 s 0).2.1).2.1=CC at *
 generalize tlV10 s (tnV10 s 0).2.1=LL at *
 generalize tnV10 s 0=N at *
 obtain ⟨k,a1,e1⟩:=N
 obtain ⟨L,a2,e2⟩:=LL
 obtain ⟨C,a3,e3⟩:=CC
 simp only at *
 clear h0
 go_enter Tryz.func22,Tryz.ntmps22
 go_wp2_with fail
 generalize w.alloc (.cells #[.int .i64 0,.slice none 0 0,.slice none 0 0] 26)=W0 at *
 refine (C1.out _).mono ?_
 rintro r0 V0 ⟨rfl,hb⟩
 have i0:=(i0.below hb i0.lt).alloc (.cells #[.string s,.int .i64 a1] 86)
 have hB:=hB.trans (hb.mono hB.size)
 have hB:=hB.alloc hB.size (.cells #[.string s,.int .i64 a1] 86)
 have iC0:=Is.new V0 86 #[.string s,.int .i64 a1]
 clear hb
 by_cases he0:e1=0
 case neg =>
  have hd:D=(zreq11,e1):=by rw [HD.out,if_pos (show e1≠0 from he0)]
  subst hd
  go_wp2_with (refine wpList_store_row rfl 26 _ _ rfl w.heap.size #[.int .i64 0,.slice none 0 0,.slice none 0 0] rfl rfl _ _ i0 infoReq11 rfl (by rw [← Array.all_toList];rfl) ?_)
  first
   | exact bodyPost_ret (results_row_tmp Tryz.results22 _ _ w.heap.size 26 #[.int .i64 0,.slice none 0 0,.slice none 0 0] (0,0) _ rfl (i0.row #[.int .i64 0,.slice none 0 0,.slice none 0 0]) Tryz.underlying26 rfl infoReq11) rfl (dec_post11 none none 0 0 rfl (fun j u hj=>by cases hj) (fun j u hj=>by cases hj) (belowRow hB (Nat.le_refl _) #[.int .i64 0,.slice none 0 0,.slice none 0 0]))
   | exact bodyPost_ret (results_row_tmp Tryz.results22 _ _ w.heap.size 26 #[.int .i64 0,.slice none 0 0,.slice none 0 0] (0,0) _ rfl i0 Tryz.underlying26 rfl infoReq11) rfl (dec_post11 none none 0 0 rfl (fun j u hj=>by cases hj) (fun j u hj=>by cases hj) hB)
 rw [if_neg (show ¬ e1≠0 by omega)] at HD
 subst he0
 generalize hX0:V0.alloc (.cells #[.string s,.int .i64 a1] 86)=X0 at *
 go_wp2_with (refine wpList_load_row rfl 86 _ rfl V0.heap.size rfl _ _ _ _ iC0 Tryz.underlying86 rfl infoCur10 ?_)
 have hlo:=i0.lt
 refine (C2.out _).mono ?_
 rintro r0 V1 ⟨AL,cL,rfl,hL,hb⟩
 replace hL:=hL.mono (show w.heap.size + 1≤_ from hlo)
 clear hlo
 have i0:=(i0.below hb i0.lt).alloc (.cells #[.string s,.int .i64 a2] 86)
 have hB:=hB.trans (hb.mono hB.size)
 have hB:=hB.alloc hB.size (.cells #[.string s,.int .i64 a2] 86)
 have iC1:=Is.new V1 86 #[.string s,.int .i64 a2]
 have hL:=hL.alloc (.cells #[.string s,.int .i64 a2] 86)
 clear hb
 by_cases he1:e2=0
 case neg =>
  have hd:D=(zreq11,e2):=by rw [HD.out,if_pos (show e2≠0 from he1)]
  subst hd
  go_wp2_with (refine wpList_store_row rfl 26 _ _ rfl w.heap.size #[.int .i64 0,.slice none 0 0,.slice none 0 0] rfl rfl _ _ i0 infoReq11 rfl (by rw [← Array.all_toList];rfl) ?_)
  first
   | exact bodyPost_ret (results_row_tmp Tryz.results22 _ _ w.heap.size 26 #[.int .i64 0,.slice none 0 0,.slice none 0 0] (0,0) _ rfl (i0.row #[.int .i64 0,.slice none 0 0,.slice none 0 0]) Tryz.underlying26 rfl infoReq11) rfl (dec_post11 none none 0 0 rfl (fun j u hj=>by cases hj) (fun j u hj=>by cases hj) (belowRow hB (Nat.le_refl _) #[.int .i64 0,.slice none 0 0,.slice none 0 0]))
   | exact bodyPost_ret (results_row_tmp Tryz.results22 _ _ w.heap.size 26 #[.int .i64 0,.slice none 0 0,.slice none 0 0] (0,0) _ rfl i0 Tryz.underlying26 rfl infoReq11) rfl (dec_post11 none none 0 0 rfl (fun j u hj=>by cases hj) (fun j u hj=>by cases hj) hB)
 rw [if_neg (show ¬ e2≠0 by omega)] at HD
 subst he1
 generalize hX1:V1.alloc (.cells #[.string s,.int .i64 a2] 86)=X1 at *
 go_wp2_with (refine wpList_load_row rfl 86 _ rfl V1.heap.size rfl _ _ _ _ iC1 Tryz.underlying86 rfl infoCur10 ?_)
 have hlo:=i0.lt
 refine (C3.out _).mono ?_
 rintro r0 V2 ⟨AC,cC,rfl,hC,hb⟩
 replace hC:=hC.mono (show w.heap.size + 1≤_ from hlo)
 clear hlo
 have i0:=(i0.below hb i0.lt).alloc (.cells #[.string s,.int .i64 a3] 86)
 have hB:=hB.trans (hb.mono hB.size)
 have hB:=hB.alloc hB.size (.cells #[.string s,.int .i64 a3] 86)
 have iC2:=Is.new V2 86 #[.string s,.int .i64 a3]
 have hL:=(hL.below hb).alloc (.cells #[.string s,.int .i64 a3] 86)
 have hC:=hC.alloc (.cells #[.string s,.int .i64 a3] 86)
 clear hb
 by_cases he2:e3=0
 case neg =>
  have hd:D=(zreq11,e3):=by rw [HD.out,if_pos (show e3≠0 from he2)]
  subst hd
  go_wp2_with (refine wpList_store_row rfl 26 _ _ rfl w.heap.size #[.int .i64 0,.slice none 0 0,.slice none 0 0] rfl rfl _ _ i0 infoReq11 rfl (by rw [← Array.all_toList];rfl) ?_)
  first
   | exact bodyPost_ret (results_row_tmp Tryz.results22 _ _ w.heap.size 26 #[.int .i64 0,.slice none 0 0,.slice none 0 0] (0,0) _ rfl (i0.row #[.int .i64 0,.slice none 0 0,.slice none 0 0]) Tryz.underlying26 rfl infoReq11) rfl (dec_post11 none none 0 0 rfl (fun j u hj=>by cases hj) (fun j u hj=>by cases hj) (belowRow hB (Nat.le_refl _) #[.int .i64 0,.slice none 0 0,.slice none 0 0]))
   | exact bodyPost_ret (results_row_tmp Tryz.results22 _ _ w.heap.size 26 #[.int .i64 0,.slice none 0 0,.slice none 0 0] (0,0) _ rfl i0 Tryz.underlying26 rfl infoReq11) rfl (dec_post11 none none 0 0 rfl (fun j u hj=>by cases hj) (fun j u hj=>by cases hj) hB)
 rw [if_neg (show ¬ e3≠0 by omega)] at HD
 subst he2
 generalize hX2:V2.alloc (.cells #[.string s,.int .i64 a3] 86)=X2 at *
 go_wp2_with (refine wpList_load_row rfl 86 _ rfl V2.heap.size rfl _ _ _ _ (iC2.alloc (.cells #[.int .i64 k,.slice AL L.length cL,.slice AC C.length cC] 26)) Tryz.underlying86 rfl infoCur10 ?_)
 have i0:=i0.alloc (.cells #[.int .i64 k,.slice AL L.length cL,.slice AC C.length cC] 26)
 have hB:=hB.alloc hB.size (.cells #[.int .i64 k,.slice AL L.length cL,.slice AC C.length cC] 26)
 have iQ:=Is.new X2 26 #[.int .i64 k,.slice AL L.length cL,.slice AC C.length cC]
 have hL:=hL.alloc (.cells #[.int .i64 k,.slice AL L.length cL,.slice AC C.length cC] 26)
 have hC:=hC.alloc (.cells #[.int .i64 k,.slice AL L.length cL,.slice AC C.length cC] 26)
 generalize hY:X2.alloc (.cells #[.int .i64 k,.slice AL L.length cL,.slice AC C.length cC] 26)=Y0 at *
 generalize hg:X2.heap.size=gQ at *
 refine (C4.out _).mono ?_
 rintro r0 Y1 ⟨rfl,hb⟩
 have i0:=i0.below hb i0.lt
 have iQ:=iQ.below hb iQ.lt
 have hB:=hB.trans (hb.mono hB.size)
 have hL:=hL.below hb
 have hC:=hC.below hb
 clear hb
 by_cases h4:e4=0
 case neg =>
  have hd:D=(zreq11,13):=by rw [HD.out,if_pos (.inl (show e4≠0 from h4))]
  subst hd
  go_wp2_with (refine wpList_store_row rfl 26 _ _ rfl w.heap.size #[.int .i64 0,.slice none 0 0,.slice none 0 0] rfl rfl _ _ i0 infoReq11 rfl (by rw [← Array.all_toList];rfl) ?_)
  first
   | exact bodyPost_ret (results_row_tmp Tryz.results22 _ _ w.heap.size 26 #[.int .i64 0,.slice none 0 0,.slice none 0 0] (0,0) _ rfl (i0.row #[.int .i64 0,.slice none 0 0,.slice none 0 0]) Tryz.underlying26 rfl infoReq11) rfl (dec_post11 none none 0 0 rfl (fun j u hj=>by cases hj) (fun j u hj=>by cases hj) (belowRow hB (Nat.le_refl _) #[.int .i64 0,.slice none 0 0,.slice none 0 0]))
   | exact bodyPost_ret (results_row_tmp Tryz.results22 _ _ w.heap.size 26 #[.int .i64 0,.slice none 0 0,.slice none 0 0] (0,0) _ rfl i0 Tryz.underlying26 rfl infoReq11) rfl (dec_post11 none none 0 0 rfl (fun j u hj=>by cases hj) (fun j u hj=>by cases hj) hB)
 subst h4
 have M:=Lib.hid (dright_any11 k AL AC cL cC L C Y1 (by omega) (by omega) hL.at' hC.at')
 cases hr:right11 ⟨k,L,C⟩ with
 | false =>
  rw [hr] at M
  have hd:D=(zreq11,13):=by rw [HD.out,hr,if_pos (.inr rfl)]
  subst hd
  go_wp2_with (first | (refine wpList_load_rowG11 (by kernel_rfl) 26 _ rfl gQ rfl 26 _ iQ Tryz.underlying26 rfl infoReq11 ?_) | fail)
  refine M.out.mono ?_
  rintro r0 Y2 ⟨rfl,hb⟩
  have i0:=i0.below hb i0.lt
  have hB:=hB.trans (hb.mono hB.size)
  clear hb
  go_wp2_with (refine wpList_store_row rfl 26 _ _ rfl w.heap.size #[.int .i64 0,.slice none 0 0,.slice none 0 0] rfl rfl _ _ i0 infoReq11 rfl (by rw [← Array.all_toList];rfl) ?_)
  first
   | exact bodyPost_ret (results_row_tmp Tryz.results22 _ _ w.heap.size 26 #[.int .i64 0,.slice none 0 0,.slice none 0 0] (0,0) _ rfl (i0.row #[.int .i64 0,.slice none 0 0,.slice none 0 0]) Tryz.underlying26 rfl infoReq11) rfl (dec_post11 none none 0 0 rfl (fun j u hj=>by cases hj) (fun j u hj=>by cases hj) (belowRow hB (Nat.le_refl _) #[.int .i64 0,.slice none 0 0,.slice none 0 0]))
   | exact bodyPost_ret (results_row_tmp Tryz.results22 _ _ w.heap.size 26 #[.int .i64 0,.slice none 0 0,.slice none 0 0] (0,0) _ rfl i0 Tryz.underlying26 rfl infoReq11) rfl (dec_post11 none none 0 0 rfl (fun j u hj=>by cases hj) (fun j u hj=>by cases hj) hB)
 | true =>
  rw [hr] at M
  have hd:D=(⟨k,L,C⟩,0):=by rw [HD.out,hr,if_neg (by simp)]
  subst hd
  go_wp2_with (first | (refine wpList_load_rowG11 (by kernel_rfl) 26 _ rfl gQ rfl 26 _ iQ Tryz.underlying26 rfl infoReq11 ?_) | fail)
  refine M.out.mono ?_
  rintro r0 Y2 ⟨rfl,hb⟩
  have i0:=i0.below hb i0.lt
  have iQ:=iQ.below hb iQ.lt
  have hB:=hB.trans (hb.mono hB.size)
  have hL:=hL.below hb
  have hC:=hC.below hb
  clear hb
  go_upto_region 15 with (fail)
  refine wp_region_list ?_
  refine wpList_load_row rfl 26 _ rfl gQ rfl _ _ _ _ iQ Tryz.underlying26 rfl infoReq11 ?_
  go_wp2_with (refine wpList_store_row rfl 26 _ _ rfl w.heap.size #[.int .i64 k,.slice AL L.length cL,.slice AC C.length cC] rfl rfl _ _ i0 infoReq11 rfl (by rw [← Array.all_toList];rfl) ?_)
  exact bodyPost_ret (results_row_tmp Tryz.results22 _ _ w.heap.size 26 #[.int .i64 k,.slice AL L.length cL,.slice AC C.length cC] (0,0) _ rfl (i0.row #[.int .i64 k,.slice AL L.length cL,.slice AC C.length cC]) Tryz.underlying26 rfl infoReq11) rfl (dec_post11 AL AC cL cC rfl (hL.at'.apart10 (grownRowG Y2 w.heap.size #[.int .i64 k,.slice AL L.length cL,.slice AC C.length cC]) (fun p e e2=>by have h7:=hL.own p e;have h8:w.heap.size=p.block:=Option.some.inj e2;omega)) (hC.at'.apart10 (grownRowG Y2 w.heap.size #[.int .i64 k,.slice AL L.length cL,.slice AC C.length cC]) (fun p e e2=>by have h7:=hC.own p e;have h8:w.heap.size=p.block:=Option.some.inj e2;omega)) (belowRow hB (Nat.le_refl _) #[.int .i64 k,.slice AL L.length cL,.slice AC C.length cC]))
def ReadPost11 (D:Rsp11 × Int) (w:World) (r:Ending) (w':World):Prop :=
 ∃ B2 d2,r=.returned (.tuple #[.agg #[.int .i64 D.1.k,.int .i64 D.1.st,.slice B2 D.1.C.length d2,.int .i64 D.1.many,.int .i64 D.1.room],.int .i64 D.2])∧InV w' B2 (tL10 D.1.C)∧Below w.heap.size w w'
theorem read_post11 {D:Rsp11 × Int} {w w':World} {r:Ending} (B2:Option Addr) (d2:Nat) (h:r=.returned (.tuple #[.agg #[.int .i64 D.1.k,.int .i64 D.1.st,.slice B2 D.1.C.length d2,.int .i64 D.1.many,.int .i64 D.1.room],.int .i64 D.2])) (h2:InV w' B2 (tL10 D.1.C)) (hb:Below w.heap.size w w'):ReadPost11 D w r w':=⟨B2,d2,h,h2,hb⟩
theorem dread_any11 (s:ByteArray) (w:World) :
  Calls Tryz.prog 21 #[.string s] w fun r w'=>ReadPost11 (readV11 s) w r w':=by
 have i0:Is (w.alloc (.cells #[.int .i64 0,.int .i64 0,.slice none 0 0,.int .i64 0,.int .i64 0] 45)) w.heap.size 45 #[.int .i64 0,.int .i64 0,.slice none 0 0,.int .i64 0,.int .i64 0]:=Is.new _ _ _
 have hB:Below w.heap.size w (w.alloc (.cells #[.int .i64 0,.int .i64 0,.slice none 0 0,.int .i64 0,.int .i64 0] 45)):=(Below.refl _ _).alloc (Nat.le_refl _) _
 by_cases h0:65536 < s.size
 ·
  have hv:readV11 s=(zrsp11,2):=by rw [readV11,if_pos h0]
  have h1:(65536:Int) < (s.size:Int):=by omega
  rw [hv]
  go_enter Tryz.func21,Tryz.ntmps21
  go_wp2
  exact bodyPost_ret (results_row_tmp Tryz.results21 _ _ w.heap.size 45 #[.int .i64 0,.int .i64 0,.slice none 0 0,.int .i64 0,.int .i64 0] (0,0) _ rfl i0 Tryz.underlying45 rfl infoRsp11) rfl (read_post11 none 0 rfl (fun j u hj=>by cases hj) hB)
 have h1:¬ (65536:Int) < (s.size:Int):=by omega
 have HD:Hid (readV11 s=if (rk11 s).2.2≠0 then (zrsp11,(rk11 s).2.2) else if (rs11 s).2.2≠0 then (zrsp11,(rs11 s).2.2) else if (rc11 s).2.2≠0 then (zrsp11,(rc11 s).2.2) else if (rm11 s).2.2≠0 then (zrsp11,(rm11 s).2.2) else if (rr11 s).2.2≠0 then (zrsp11,(rr11 s).2.2) else if endV10 s (rr11 s).2.1≠0∨may11 (rsp11 s)=false then (zrsp11,13) else (rsp11 s,0)):=Lib.hid (by rw [readV11,if_neg h0])
 generalize readV11 s=D at *
 have hl2:=tl_len11 s (rs11 s).2.1
 have C1:=Lib.hid (dn_any10 s 0)
 have C2:=Lib.hid (dn_any10 s (rk11 s).2.1)
 have C3:=Lib.hid (dl_any10 s (rs11 s).2.1)
 have C4:=Lib.hid (dn_any10 s (rc11 s).2.1)
 have C5:=Lib.hid (dn_any10 s (rm11 s).2.1)
 have C6:=Lib.hid (dend_any10 s (rr11 s).2.1)
 simp only [tnR10,tlR10] at C1 C2 C3 C4 C5
 rw [show tnV10 s 0=rk11 s from rfl] at C1
 rw [show tnV10 s (rk11 s).2.1=rs11 s from rfl] at C2
 rw [show tlV10 s (rs11 s).2.1=rc11 s from rfl] at C3 hl2
 rw [show tnV10 s (rc11 s).2.1=rm11 s from rfl] at C4
 rw [show tnV10 s (rm11 s).2.1=rr11 s from rfl] at C5
 rw [rsp11] at HD
 generalize endV10 s (rr11 s).2.1=e4 at *
 generalize rr11 s=NR at *
 generalize rm11 s=NM at *
 generalize rc11 s=CC at *
 generalize rs11 s=NS at *
 generalize rk11 s=N at *
 obtain ⟨k,a1,e1⟩:=N
 obtain ⟨st,a2,e2⟩:=NS
 obtain ⟨C,a3,e3⟩:=CC
 obtain ⟨m,a5,e5⟩:=NM
 obtain ⟨rm,a6,e6⟩:=NR
 simp only at *
 clear h0
 go_enter Tryz.func21,Tryz.ntmps21
 go_wp2_with fail
 generalize w.alloc (.cells #[.int .i64 0,.int .i64 0,.slice none 0 0,.int .i64 0,.int .i64 0] 45)=W0 at *
 refine (C1.out _).mono ?_
 rintro r0 V0 ⟨rfl,hb⟩
 have i0:=(i0.below hb i0.lt).alloc (.cells #[.string s,.int .i64 a1] 86)
 have hB:=hB.trans (hb.mono hB.size)
 have hB:=hB.alloc hB.size (.cells #[.string s,.int .i64 a1] 86)
 have iC0:=Is.new V0 86 #[.string s,.int .i64 a1]
 clear hb
 by_cases he0:e1=0
 case neg =>
  have hd:D=(zrsp11,e1):=by rw [HD.out,if_pos (show e1≠0 from he0)]
  subst hd
  go_wp2_with (refine wpList_store_row rfl 45 _ _ rfl w.heap.size #[.int .i64 0,.int .i64 0,.slice none 0 0,.int .i64 0,.int .i64 0] rfl rfl _ _ i0 infoRsp11 rfl (by rw [← Array.all_toList];rfl) ?_)
  first
   | exact bodyPost_ret (results_row_tmp Tryz.results21 _ _ w.heap.size 45 #[.int .i64 0,.int .i64 0,.slice none 0 0,.int .i64 0,.int .i64 0] (0,0) _ rfl (i0.row #[.int .i64 0,.int .i64 0,.slice none 0 0,.int .i64 0,.int .i64 0]) Tryz.underlying45 rfl infoRsp11) rfl (read_post11 none 0 rfl (fun j u hj=>by cases hj) (belowRow hB (Nat.le_refl _) #[.int .i64 0,.int .i64 0,.slice none 0 0,.int .i64 0,.int .i64 0]))
   | exact bodyPost_ret (results_row_tmp Tryz.results21 _ _ w.heap.size 45 #[.int .i64 0,.int .i64 0,.slice none 0 0,.int .i64 0,.int .i64 0] (0,0) _ rfl i0 Tryz.underlying45 rfl infoRsp11) rfl (read_post11 none 0 rfl (fun j u hj=>by cases hj) hB)
 rw [if_neg (show ¬ e1≠0 by omega)] at HD
 subst he0
 generalize hX0:V0.alloc (.cells #[.string s,.int .i64 a1] 86)=X0 at *
 go_wp2_with (refine wpList_load_row rfl 86 _ rfl V0.heap.size rfl _ _ _ _ iC0 Tryz.underlying86 rfl infoCur10 ?_)
 refine (C2.out _).mono ?_
 rintro r0 V1 ⟨rfl,hb⟩
 have i0:=(i0.below hb i0.lt).alloc (.cells #[.string s,.int .i64 a2] 86)
 have hB:=hB.trans (hb.mono hB.size)
 have hB:=hB.alloc hB.size (.cells #[.string s,.int .i64 a2] 86)
 have iC1:=Is.new V1 86 #[.string s,.int .i64 a2]
 clear hb
 by_cases he1:e2=0
 case neg =>
  have hd:D=(zrsp11,e2):=by rw [HD.out,if_pos (show e2≠0 from he1)]
  subst hd
  go_wp2_with (refine wpList_store_row rfl 45 _ _ rfl w.heap.size #[.int .i64 0,.int .i64 0,.slice none 0 0,.int .i64 0,.int .i64 0] rfl rfl _ _ i0 infoRsp11 rfl (by rw [← Array.all_toList];rfl) ?_)
  first
   | exact bodyPost_ret (results_row_tmp Tryz.results21 _ _ w.heap.size 45 #[.int .i64 0,.int .i64 0,.slice none 0 0,.int .i64 0,.int .i64 0] (0,0) _ rfl (i0.row #[.int .i64 0,.int .i64 0,.slice none 0 0,.int .i64 0,.int .i64 0]) Tryz.underlying45 rfl infoRsp11) rfl (read_post11 none 0 rfl (fun j u hj=>by cases hj) (belowRow hB (Nat.le_refl _) #[.int .i64 0,.int .i64 0,.slice none 0 0,.int .i64 0,.int .i64 0]))
   | exact bodyPost_ret (results_row_tmp Tryz.results21 _ _ w.heap.size 45 #[.int .i64 0,.int .i64 0,.slice none 0 0,.int .i64 0,.int .i64 0] (0,0) _ rfl i0 Tryz.underlying45 rfl infoRsp11) rfl (read_post11 none 0 rfl (fun j u hj=>by cases hj) hB)
 rw [if_neg (show ¬ e2≠0 by omega)] at HD
 subst he1
 generalize hX1:V1.alloc (.cells #[.string s,.int .i64 a2] 86)=X1 at *
 go_wp2_with (refine wpList_load_row rfl 86 _ rfl V1.heap.size rfl _ _ _ _ iC1 Tryz.underlying86 rfl infoCur10 ?_)
 have hlo:=i0.lt
 refine (C3.out _).mono ?_
 rintro r0 V2 ⟨AC,cC,rfl,hC,hb⟩
 replace hC:=hC.mono (show w.heap.size + 1≤_ from hlo)
 clear hlo
 have i0:=(i0.below hb i0.lt).alloc (.cells #[.string s,.int .i64 a3] 86)
 have hB:=hB.trans (hb.mono hB.size)
 have hB:=hB.alloc hB.size (.cells #[.string s,.int .i64 a3] 86)
 have iC2:=Is.new V2 86 #[.string s,.int .i64 a3]
 have hC:=hC.alloc (.cells #[.string s,.int .i64 a3] 86)
 clear hb
 by_cases he2:e3=0
 case neg =>
  have hd:D=(zrsp11,e3):=by rw [HD.out,if_pos (show e3≠0 from he2)]
  subst hd
  go_wp2_with (refine wpList_store_row rfl 45 _ _ rfl w.heap.size #[.int .i64 0,.int .i64 0,.slice none 0 0,.int .i64 0,.int .i64 0] rfl rfl _ _ i0 infoRsp11 rfl (by rw [← Array.all_toList];rfl) ?_)
  first
   | exact bodyPost_ret (results_row_tmp Tryz.results21 _ _ w.heap.size 45 #[.int .i64 0,.int .i64 0,.slice none 0 0,.int .i64 0,.int .i64 0] (0,0) _ rfl (i0.row #[.int .i64 0,.int .i64 0,.slice none 0 0,.int .i64 0,.int .i64 0]) Tryz.underlying45 rfl infoRsp11) rfl (read_post11 none 0 rfl (fun j u hj=>by cases hj) (belowRow hB (Nat.le_refl _) #[.int .i64 0,.int .i64 0,.slice none 0 0,.int .i64 0,.int .i64 0]))
   | exact bodyPost_ret (results_row_tmp Tryz.results21 _ _ w.heap.size 45 #[.int .i64 0,.int .i64 0,.slice none 0 0,.int .i64 0,.int .i64 0] (0,0) _ rfl i0 Tryz.underlying45 rfl infoRsp11) rfl (read_post11 none 0 rfl (fun j u hj=>by cases hj) hB)
 rw [if_neg (show ¬ e3≠0 by omega)] at HD
 subst he2
 generalize hX2:V2.alloc (.cells #[.string s,.int .i64 a3] 86)=X2 at *
 go_wp2_with (refine wpList_load_row rfl 86 _ rfl V2.heap.size rfl _ _ _ _ iC2 Tryz.underlying86 rfl infoCur10 ?_)
 refine (C4.out _).mono ?_
 rintro r0 V3 ⟨rfl,hb⟩
 have i0:=(i0.below hb i0.lt).alloc (.cells #[.string s,.int .i64 a5] 86)
 have hB:=hB.trans (hb.mono hB.size)
 have hB:=hB.alloc hB.size (.cells #[.string s,.int .i64 a5] 86)
 have iC3:=Is.new V3 86 #[.string s,.int .i64 a5]
 have hC:=(hC.below hb).alloc (.cells #[.string s,.int .i64 a5] 86)
 clear hb
 by_cases he3:e5=0
 case neg =>
  have hd:D=(zrsp11,e5):=by rw [HD.out,if_pos (show e5≠0 from he3)]
  subst hd
  go_wp2_with (refine wpList_store_row rfl 45 _ _ rfl w.heap.size #[.int .i64 0,.int .i64 0,.slice none 0 0,.int .i64 0,.int .i64 0] rfl rfl _ _ i0 infoRsp11 rfl (by rw [← Array.all_toList];rfl) ?_)
  first
   | exact bodyPost_ret (results_row_tmp Tryz.results21 _ _ w.heap.size 45 #[.int .i64 0,.int .i64 0,.slice none 0 0,.int .i64 0,.int .i64 0] (0,0) _ rfl (i0.row #[.int .i64 0,.int .i64 0,.slice none 0 0,.int .i64 0,.int .i64 0]) Tryz.underlying45 rfl infoRsp11) rfl (read_post11 none 0 rfl (fun j u hj=>by cases hj) (belowRow hB (Nat.le_refl _) #[.int .i64 0,.int .i64 0,.slice none 0 0,.int .i64 0,.int .i64 0]))
   | exact bodyPost_ret (results_row_tmp Tryz.results21 _ _ w.heap.size 45 #[.int .i64 0,.int .i64 0,.slice none 0 0,.int .i64 0,.int .i64 0] (0,0) _ rfl i0 Tryz.underlying45 rfl infoRsp11) rfl (read_post11 none 0 rfl (fun j u hj=>by cases hj) hB)
 rw [if_neg (show ¬ e5≠0 by omega)] at HD
 subst he3
 generalize hX3:V3.alloc (.cells #[.string s,.int .i64 a5] 86)=X3 at *
 go_wp2_with (refine wpList_load_row rfl 86 _ rfl V3.heap.size rfl _ _ _ _ iC3 Tryz.underlying86 rfl infoCur10 ?_)
 refine (C5.out _).mono ?_
 rintro r0 V4 ⟨rfl,hb⟩
 have i0:=(i0.below hb i0.lt).alloc (.cells #[.string s,.int .i64 a6] 86)
 have hB:=hB.trans (hb.mono hB.size)
 have hB:=hB.alloc hB.size (.cells #[.string s,.int .i64 a6] 86)
 have iC4:=Is.new V4 86 #[.string s,.int .i64 a6]
 have hC:=(hC.below hb).alloc (.cells #[.string s,.int .i64 a6] 86)
 clear hb
 by_cases he4:e6=0
 case neg =>
  have hd:D=(zrsp11,e6):=by rw [HD.out,if_pos (show e6≠0 from he4)]
  subst hd
  go_wp2_with (refine wpList_store_row rfl 45 _ _ rfl w.heap.size #[.int .i64 0,.int .i64 0,.slice none 0 0,.int .i64 0,.int .i64 0] rfl rfl _ _ i0 infoRsp11 rfl (by rw [← Array.all_toList];rfl) ?_)
  first
   | exact bodyPost_ret (results_row_tmp Tryz.results21 _ _ w.heap.size 45 #[.int .i64 0,.int .i64 0,.slice none 0 0,.int .i64 0,.int .i64 0] (0,0) _ rfl (i0.row #[.int .i64 0,.int .i64 0,.slice none 0 0,.int .i64 0,.int .i64 0]) Tryz.underlying45 rfl infoRsp11) rfl (read_post11 none 0 rfl (fun j u hj=>by cases hj) (belowRow hB (Nat.le_refl _) #[.int .i64 0,.int .i64 0,.slice none 0 0,.int .i64 0,.int .i64 0]))
   | exact bodyPost_ret (results_row_tmp Tryz.results21 _ _ w.heap.size 45 #[.int .i64 0,.int .i64 0,.slice none 0 0,.int .i64 0,.int .i64 0] (0,0) _ rfl i0 Tryz.underlying45 rfl infoRsp11) rfl (read_post11 none 0 rfl (fun j u hj=>by cases hj) hB)
 rw [if_neg (show ¬ e6≠0 by omega)] at HD
 subst he4
 generalize hX4:V4.alloc (.cells #[.string s,.int .i64 a6] 86)=X4 at *
 go_wp2_with (refine wpList_load_row rfl 86 _ rfl V4.heap.size rfl _ _ _ _ (iC4.alloc (.cells #[.int .i64 k,.int .i64 st,.slice AC C.length cC,.int .i64 m,.int .i64 rm] 45)) Tryz.underlying86 rfl infoCur10 ?_)
 have i0:=i0.alloc (.cells #[.int .i64 k,.int .i64 st,.slice AC C.length cC,.int .i64 m,.int .i64 rm] 45)
 have hB:=hB.alloc hB.size (.cells #[.int .i64 k,.int .i64 st,.slice AC C.length cC,.int .i64 m,.int .i64 rm] 45)
 have iQ:=Is.new X4 45 #[.int .i64 k,.int .i64 st,.slice AC C.length cC,.int .i64 m,.int .i64 rm]
 have hC:=hC.alloc (.cells #[.int .i64 k,.int .i64 st,.slice AC C.length cC,.int .i64 m,.int .i64 rm] 45)
 generalize hY:X4.alloc (.cells #[.int .i64 k,.int .i64 st,.slice AC C.length cC,.int .i64 m,.int .i64 rm] 45)=Y0 at *
 generalize hg:X4.heap.size=gQ at *
 refine (C6.out _).mono ?_
 rintro r0 Y1 ⟨rfl,hb⟩
 have i0:=i0.below hb i0.lt
 have iQ:=iQ.below hb iQ.lt
 have hB:=hB.trans (hb.mono hB.size)
 have hC:=hC.below hb
 clear hb
 by_cases h4:e4=0
 case neg =>
  have hd:D=(zrsp11,13):=by rw [HD.out,if_pos (.inl (show e4≠0 from h4))]
  subst hd
  go_wp2_with (refine wpList_store_row rfl 45 _ _ rfl w.heap.size #[.int .i64 0,.int .i64 0,.slice none 0 0,.int .i64 0,.int .i64 0] rfl rfl _ _ i0 infoRsp11 rfl (by rw [← Array.all_toList];rfl) ?_)
  first
   | exact bodyPost_ret (results_row_tmp Tryz.results21 _ _ w.heap.size 45 #[.int .i64 0,.int .i64 0,.slice none 0 0,.int .i64 0,.int .i64 0] (0,0) _ rfl (i0.row #[.int .i64 0,.int .i64 0,.slice none 0 0,.int .i64 0,.int .i64 0]) Tryz.underlying45 rfl infoRsp11) rfl (read_post11 none 0 rfl (fun j u hj=>by cases hj) (belowRow hB (Nat.le_refl _) #[.int .i64 0,.int .i64 0,.slice none 0 0,.int .i64 0,.int .i64 0]))
   | exact bodyPost_ret (results_row_tmp Tryz.results21 _ _ w.heap.size 45 #[.int .i64 0,.int .i64 0,.slice none 0 0,.int .i64 0,.int .i64 0] (0,0) _ rfl i0 Tryz.underlying45 rfl infoRsp11) rfl (read_post11 none 0 rfl (fun j u hj=>by cases hj) hB)
 subst h4
 have M:=Lib.hid (dmay_any11 k st m rm AC cC C Y1 (by omega) hC.at')
 cases hr:may11 ⟨k,st,C,m,rm⟩ with
 | false =>
  rw [hr] at M
  have hd:D=(zrsp11,13):=by rw [HD.out,hr,if_pos (.inr rfl)]
  subst hd
  go_wp2_with (first | (refine wpList_load_rowG11 (by kernel_rfl) 45 _ rfl gQ rfl 45 _ iQ Tryz.underlying45 rfl infoRsp11 ?_) | fail)
  refine M.out.mono ?_
  rintro r0 Y2 ⟨rfl,hb⟩
  have i0:=i0.below hb i0.lt
  have hB:=hB.trans (hb.mono hB.size)
  clear hb
  go_wp2_with (refine wpList_store_row rfl 45 _ _ rfl w.heap.size #[.int .i64 0,.int .i64 0,.slice none 0 0,.int .i64 0,.int .i64 0] rfl rfl _ _ i0 infoRsp11 rfl (by rw [← Array.all_toList];rfl) ?_)
  first
   | exact bodyPost_ret (results_row_tmp Tryz.results21 _ _ w.heap.size 45 #[.int .i64 0,.int .i64 0,.slice none 0 0,.int .i64 0,.int .i64 0] (0,0) _ rfl (i0.row #[.int .i64 0,.int .i64 0,.slice none 0 0,.int .i64 0,.int .i64 0]) Tryz.underlying45 rfl infoRsp11) rfl (read_post11 none 0 rfl (fun j u hj=>by cases hj) (belowRow hB (Nat.le_refl _) #[.int .i64 0,.int .i64 0,.slice none 0 0,.int .i64 0,.int .i64 0]))
   | exact bodyPost_ret (results_row_tmp Tryz.results21 _ _ w.heap.size 45 #[.int .i64 0,.int .i64 0,.slice none 0 0,.int .i64 0,.int .i64 0] (0,0) _ rfl i0 Tryz.underlying45 rfl infoRsp11) rfl (read_post11 none 0 rfl (fun j u hj=>by cases hj) hB)
 | true =>
  rw [hr] at M
  have hd:D=(⟨k,st,C,m,rm⟩,0):=by rw [HD.out,hr,if_neg (by simp)]
  subst hd
  go_wp2_with (first | (refine wpList_load_rowG11 (by kernel_rfl) 45 _ rfl gQ rfl 45 _ iQ Tryz.underlying45 rfl infoRsp11 ?_) | fail)
  refine M.out.mono ?_
  rintro r0 Y2 ⟨rfl,hb⟩
  have i0:=i0.below hb i0.lt
  have iQ:=iQ.below hb iQ.lt
  have hB:=hB.trans (hb.mono hB.size)
  have hC:=hC.below hb
  clear hb
  go_upto_region 21 with (fail)
  refine wp_region_list ?_
  refine wpList_load_row rfl 45 _ rfl gQ rfl _ _ _ _ iQ Tryz.underlying45 rfl infoRsp11 ?_
  go_wp2_with (refine wpList_store_row rfl 45 _ _ rfl w.heap.size #[.int .i64 k,.int .i64 st,.slice AC C.length cC,.int .i64 m,.int .i64 rm] rfl rfl _ _ i0 infoRsp11 rfl (by rw [← Array.all_toList];rfl) ?_)
  exact bodyPost_ret (results_row_tmp Tryz.results21 _ _ w.heap.size 45 #[.int .i64 k,.int .i64 st,.slice AC C.length cC,.int .i64 m,.int .i64 rm] (0,0) _ rfl (i0.row #[.int .i64 k,.int .i64 st,.slice AC C.length cC,.int .i64 m,.int .i64 rm]) Tryz.underlying45 rfl infoRsp11) rfl (read_post11 AC cC rfl (hC.at'.apart10 (grownRowG Y2 w.heap.size #[.int .i64 k,.int .i64 st,.slice AC C.length cC,.int .i64 m,.int .i64 rm]) (fun p e e2=>by have h7:=hC.own p e;have h8:w.heap.size=p.block:=Option.some.inj e2;omega)) (belowRow hB (Nat.le_refl _) #[.int .i64 k,.int .i64 st,.slice AC C.length cC,.int .i64 m,.int .i64 rm]))
end Go.Proofs.YtmggbbmpckcleaaGreat
