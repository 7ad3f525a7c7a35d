import Derived.Test.YtmggbbmpckcleaaGreatGBx3
import Derived.Test.YtmggbbmpckcleaaGreatGWi1
import Derived.Test.YtmggbbmpckcleaaGreatGSr0
import Derived.Test.YtmggbbmpckcleaaGreatGCo3
import Derived.Deep.DeepCutAuto
import Derived.ChangeKeysEq
import Derived.MapKept
set_option maxRecDepth 100000
set_option maxHeartbeats 16000000
namespace Go.Proofs.YtmggbbmpckcleaaGreat
open Go.RowKit Go.Shelf
abbrev srvA (s:Srv13) (A:Option Addr) (c:Nat):Array Value:=#[.slice A s.S.B.length c,.int .i64 s.S.many,.int .i64 s.S.gone,.int .i64 s.lim]
abbrev srvV (s:Srv13) (A:Option Addr) (c:Nat):Value:=.agg (srvA s A c)
abbrev reqA (k:Int) (A:Option Addr) (n c:Nat) (A2:Option Addr) (n2 c2:Nat):Array Value:=#[.int .i64 k,.slice A n c,.slice A2 n2 c2]
abbrev rspA (k st:Int) (A:Option Addr) (n c:Nat) (m r:Int):Array Value:=#[.int .i64 k,.int .i64 st,.slice A n c,.int .i64 m,.int .i64 r]
theorem infoSrv13:(Tryz.prog.info? 33).map (·.size)=some 4:=by kernel_rfl
theorem infoRsp13:(Tryz.prog.info? 45).map (·.size)=some 5:=by kernel_rfl
theorem infoReq13:(Tryz.prog.info? 26).map (·.size)=some 3:=by kernel_rfl
theorem srvA_one13 (s:Srv13) (A:Option Addr) (c:Nat):(srvA s A c).all (·.oneCell')=true:=by rw [← Array.all_toList];rfl
theorem rspA_one13 (k st:Int) (A:Option Addr) (n c:Nat) (m r:Int):(rspA k st A n c m r).all (·.oneCell')=true:=by rw [← Array.all_toList];rfl
theorem reqA_one13 (k:Int) (A:Option Addr) (n c:Nat) (A2:Option Addr) (n2 c2:Nat):(reqA k A n c A2 n2 c2).all (·.oneCell')=true:=by rw [← Array.all_toList];rfl
theorem Is.rng13 {W:World} {b:Nat} {t:TypeId} {cs:Array Value} (h:Is W b t cs) (o:Nat) (L:List Value) (hL:∀ j v,L[j]?=some v→cs[o + j]?=some v):W.rangeAt b o L:=fun j v hv=>(h.cell (o + j)).trans (hL j v hv)
theorem Is.sto13 {W:World} {b:Nat} {t:TypeId} {s:Sto12} {A:Option Addr} {c:Nat} {r:List Value} (h:Is W b t (stoA s A c ++ r.toArray)):W.rangeAt b 0 [.slice A s.B.length c,.int .i64 s.many,.int .i64 s.gone]:=h.rng13 0 _ fun j v hj=>by
 have hj3:j < 3:=(List.getElem?_eq_some_iff.1 hj).1
 rw [Nat.zero_add,Array.getElem?_append_left hj3]
 simpa using hj
theorem Is.srv13 {W:World} {b:Nat} {t:TypeId} {s:Srv13} {A:Option Addr} {c:Nat} (h:Is W b t (srvA s A c)):W.rangeAt b 0 [.slice A s.S.B.length c,.int .i64 s.S.many,.int .i64 s.S.gone]:=Is.sto13 (s:=s.S) (r:=[.int .i64 s.lim]) h
theorem wpList_load_midG13 {P:Program} {ops:Array Oper} {rest:List Oper} {op:Oper} {a:Act} {w:World} {Q:Exit→Act→World→Prop} (hw:Region.wanted op (yielded ops a.tmps)=true) (ty:TypeId) (x:Operand) (ho:op.op=.load ty x)
  (b o:Nat) (hx:a.eval x=.pointer (some ⟨b,o,none⟩)) (cs:List Value) (d:TypeDesc) (hc:w.rangeAt b o cs)
  (hu:P.underlying ty=some d) (hd:d.isRow=true) (hi:(P.info? ty).map (·.size)=some cs.length)
  (h:wpList P ops Q rest (a.put op.dst (.agg cs.toArray)) w):wpList P ops Q (op :: rest) a w :=
 wpList_step fun K hK=>by rw [if_pos hw];exact wp_load_mid ty x ho b o hx cs d hc hu hd hi (hK _ _ h)
theorem results_rr13 {P:Program} {fn:Func} {p q:Tmp} {ty ty2:TypeId} (h:fn.results=#[.cell p ty,.cell q ty2]) (tmps:Array Value) (w:World) (g:Nat) (t:TypeId) (cs:Array Value) (d:TypeDesc) (g2:Nat) (t2:TypeId) (cs2:Array Value) (d2:TypeDesc)
  (hp:tmps.getD p undef=.pointer (some ⟨g,0,none⟩)) (hg:Is w g t cs) (hu:P.underlying ty=some d) (hd:(match d with | .struct _ | .array _ _=>true | _=>false)=true) (hi:(P.info? ty).map (·.size)=some cs.size)
  (hp2:tmps.getD q undef=.pointer (some ⟨g2,0,none⟩)) (hg2:Is w g2 t2 cs2) (hu2:P.underlying ty2=some d2) (hd2:(match d2 with | .struct _ | .array _ _=>true | _=>false)=true) (hi2:(P.info? ty2).map (·.size)=some cs2.size) :
  (results fn tmps).run P w=.ok (.tuple #[.agg cs,.agg cs2]) w:=by
 have e:(results fn tmps).run P w=((asAddr (tmps.getD p undef)).run P w).andThen fun b w0=>((loadVar ty b).run P w0).andThen fun v0 w1=>((asAddr (tmps.getD q undef)).run P w1).andThen fun b2 w2=>((loadVar ty2 b2).run P w2).andThen fun v1 w3=>.ok (.tuple #[v0,v1]) w3:=by
  simp only [results,h]
  simp [Sem.run_bind,Result.andThen]
 rw [e,hp,hp2]
 simp [asAddr,run_loadVar_row w g t ty cs (0,0) d hg hu hd hi,run_loadVar_row w g2 t2 ty2 cs2 (0,0) d2 hg2 hu2 hd2 hi2]
def noStr13:Value→Bool
 | .string _=>false
 | _=>true
theorem InV.noS13 {W W':World} {D:Nat} {t:TypeId} {cs:Array Value} {A:Option Addr} {vs:List Value} (h:InV W A vs) (hv:vs≠[]→∃ (j:Nat) (b:ByteArray),vs[j]?=some (Value.string b)) (i:Is W D t cs) (hn:cs.toList.all noStr13=true) (hg:W.grownBy W' (some D)):InV W' A vs:=fun j u hj=>by
 obtain ⟨b,off,rfl,hb,hc⟩:=h j u hj
 have hne:vs≠[]:=fun e=>by rw [e] at hj;cases hj
 obtain ⟨j2,x,hx⟩:=hv hne
 obtain ⟨b2,off2,e2,_,hc2⟩:=h j2 _ hx
 cases e2
 have hD:b≠D:=fun e=>by
  subst e
  rw [i.cell] at hc2
  have:=List.all_eq_true.1 hn (.string x) (by rw [Array.mem_toList_iff];exact Array.mem_of_getElem? hc2)
  cases this
 have hk:=hg.block b hb (fun e=>hD (Option.some.inj e))
 exact ⟨b,off,rfl,Nat.lt_of_lt_of_le hb hg.size,by rw [← hc];simp only [World.cell?,hk]⟩
theorem flB_str13 (B:List Bkt12) (h:flB B≠[]):∃ (j:Nat) (b:ByteArray),(flB B)[j]?=some (Value.string b):=by
 cases B with
 | nil=>exact absurd rfl h
 | cons x r=>exact ⟨1,x.l,rfl⟩
theorem tL_str13 (L:List ByteArray) (h:tL10 L≠[]):∃ (j:Nat) (b:ByteArray),(tL10 L)[j]?=some (Value.string b):=by
 cases L with
 | nil=>exact absurd rfl h
 | cons x r=>exact ⟨0,x,rfl⟩
theorem InS.noS13 {W W':World} {s:Sto12} {A:Option Addr} {c D:Nat} {t:TypeId} {cs:Array Value} (h:InS W s A c) (i:Is W D t cs) (hn:cs.toList.all noStr13=true) (hg:W.grownBy W' (some D)):InS W' s A c:=⟨h.b.noS13 (flB_str13 _) i hn hg,h.nil,h.cap,h.fit⟩
theorem InV.noT13 {W W':World} {D:Nat} {t:TypeId} {cs:Array Value} {A:Option Addr} {L:List ByteArray} (h:InV W A (tL10 L)) (i:Is W D t cs) (hn:cs.toList.all noStr13=true) (hg:W.grownBy W' (some D)):InV W' A (tL10 L):=h.noS13 (tL_str13 _) i hn hg
def lim13 (n:Int):Bool:=decide (0≤n) && decide (n≤2000)
theorem right_eq13 (s:Srv13):right13 s=(lim13 s.lim && decide (s.S.many≤s.lim) && right12 s.S):=by
 rw [right13,lim13,Bool.and_comm (right12 s.S),Bool.and_assoc,Bool.and_assoc,Bool.and_assoc,Bool.and_assoc]
theorem islim_any13 (n:Int) (w:World) :
  Calls Tryz.prog 25 #[.int .i64 n] w fun e w'=>e=.returned (.bool (lim13 n))∧w=w':=by
 by_cases h0:0≤n
 ·
  by_cases h1:n≤2000
  ·
   have hR:=Lib.hid (show lim13 n=true by rw [lim13,decide_eq_true h0,decide_eq_true h1];rfl)
   go_enter Tryz.func25,Tryz.ntmps25
   go_wp2
   go_ret
   exact ⟨by rw [hR.out];rfl,rfl⟩
  ·
   have hR:=Lib.hid (show lim13 n=false by rw [lim13,decide_eq_true h0,decide_eq_false h1];rfl)
   go_enter Tryz.func25,Tryz.ntmps25
   go_wp2
   go_ret
   exact ⟨by rw [hR.out];rfl,rfl⟩
 ·
  have hR:=Lib.hid (show lim13 n=false by rw [lim13,decide_eq_false h0];rfl)
  go_enter Tryz.func25,Tryz.ntmps25
  go_wp2
  go_ret
  exact ⟨by rw [hR.out];rfl,rfl⟩
theorem sright_any13 (s:Srv13) (A:Option Addr) (c:Nat) (w:World) (h:InS w s.S A c) :
  Calls Tryz.prog 12 #[srvV s A c] w fun e w'=>e=.returned (.bool (right13 s))∧Below w.heap.size w w':=by
 have i0:=Is.new w 33 (srvA s A c)
 have hB0:Below w.heap.size w (w.alloc (.cells (srvA s A c) 33)):=(Below.refl _ _).alloc (Nat.le_refl _) _
 have c1:(w.alloc (.cells (srvA s A c) 33)).cell? ⟨w.heap.size,1,none⟩=some (.int .i64 s.S.many):=i0.cell 1
 have c3:(w.alloc (.cells (srvA s A c) 33)).cell? ⟨w.heap.size,3,none⟩=some (.int .i64 s.lim):=i0.cell 3
 have HL:=Lib.hid (islim_any13 s.lim (w.alloc (.cells (srvA s A c) 33)))
 have HB:=Lib.hid (bright_any12 s.S A c _ (h.keep hB0))
 have HR:=Lib.hid (right_eq13 s)
 obtain ⟨R,hR⟩:∃ R,R=right13 s:=⟨_,rfl⟩
 rw [← hR] at HR ⊢
 have r0:=i0.srv13
 cases hl:lim13 s.lim with
 | false =>
  rw [hl] at HL HR
  clear hl hR h HB r0
  go_enter Tryz.func12,Tryz.ntmps12
  go_wp2_with (go_at_call 25;refine HL.out.mono ?_;rintro e w0 ⟨rfl,rfl⟩)
  go_ret
  exact ⟨by rw [HR.out];rfl,hB0⟩
 | true =>
  rw [hl] at HL HR
  by_cases hm:s.S.many≤s.lim
  ·
   rw [decide_eq_true hm] at HR
   clear hl hR h
   go_enter Tryz.func12,Tryz.ntmps12
   go_wp2_with (first | (go_at_call 25;refine HL.out.mono ?_;rintro e w0 ⟨rfl,rfl⟩) | (refine wpList_load_midG13 (by kernel_rfl) 31 _ rfl w.heap.size 0 rfl _ _ r0 Tryz.underlying31 rfl infoSto12 ?_) | (go_at_call 29;refine HB.out.mono ?_;rintro e w1 ⟨rfl,hb⟩))
   go_ret
   exact ⟨by rw [HR.out,Bool.true_and,Bool.true_and];rfl,hB0.trans (hb.mono hB0.size)⟩
  ·
   rw [decide_eq_false hm] at HR
   clear hl hR h HB r0
   go_enter Tryz.func12,Tryz.ntmps12
   go_wp2_with (go_at_call 25;refine HL.out.mono ?_;rintro e w0 ⟨rfl,rfl⟩)
   go_ret
   exact ⟨by rw [HR.out];rfl,hB0⟩
def newS13 (n:Int):Srv13 × Int:=if lim13 n then (⟨⟨new12 8,0,0⟩,n⟩,0) else (⟨⟨[],0,0⟩,0⟩,1)
theorem snew_any13 (n:Int) (w:World) :
  Calls Tryz.prog 7 #[.int .i64 n] w fun e w'=>∃ A c,e=.returned (.tuple #[srvV (newS13 n).1 A c,.int .i64 (newS13 n).2])∧InS w' (newS13 n).1.S A c∧Below w.heap.size w w':=by
 have HL:=Lib.hid (fun W=>islim_any13 n W)
 have i0:Is (w.alloc (.cells #[.slice none 0 0,.int .i64 0,.int .i64 0,.int .i64 0] 33)) w.heap.size 33 #[.slice none 0 0,.int .i64 0,.int .i64 0,.int .i64 0]:=Is.new _ _ _
 have hB:Below w.heap.size w (w.alloc (.cells #[.slice none 0 0,.int .i64 0,.int .i64 0,.int .i64 0] 33)):=(Below.refl _ _).alloc (Nat.le_refl _) _
 generalize hW0:w.alloc (.cells #[.slice none 0 0,.int .i64 0,.int .i64 0,.int .i64 0] 33)=W0 at *
 cases hl:lim13 n with
 | false =>
  rw [hl] at HL
  have hv:newS13 n=(⟨⟨[],0,0⟩,0⟩,1):=by rw [newS13,hl];rfl
  rw [hv]
  clear hl hv
  go_enter Tryz.func7,Tryz.ntmps7
  go_upto_region 1 with (fail)
  clear hW0
  go_wp2_with (first | (go_at_call 25;refine (HL.out _).mono ?_;rintro e w0 ⟨rfl,rfl⟩) | (refine wpList_store_row rfl 33 _ _ rfl w.heap.size #[.slice none 0 0,.int .i64 0,.int .i64 0,.int .i64 0] rfl rfl 33 _ i0 infoSrv13 rfl (by rw [← Array.all_toList];rfl) ?_))
  exact bodyPost_ret (results_row_tmp Tryz.results7 _ _ w.heap.size 33 _ (0,0) _ rfl (i0.row _) Tryz.underlying33 rfl infoSrv13) rfl ⟨none,0,rfl,⟨fun j u hj=>(by cases hj),fun _=>rfl,Nat.le_refl _,by decide⟩,belowRow hB (Nat.le_refl _) _⟩
 | true =>
  rw [hl] at HL
  have hv:newS13 n=(⟨⟨new12 8,0,0⟩,n⟩,0):=by rw [newS13,hl];rfl
  rw [hv]
  have HN:=Lib.hid (fun W=>bnew_any12 8 W)
  rw [show newV12 8=(⟨new12 8,0,0⟩,0) from rfl] at HN
  clear hl hv
  go_enter Tryz.func7,Tryz.ntmps7
  go_upto_region 1 with (fail)
  clear hW0
  go_upto_region 3 with (go_at_call 25;refine (HL.out _).mono ?_;rintro e w0 ⟨rfl,rfl⟩)
  go_wp2_with (fail)
  refine (HN.out _).mono ?_
  rintro e W1 ⟨A,c,rfl,hr,hb⟩
  have hB1:=hB.trans (hb.mono hB.size)
  have i1:=i0.below hb i0.lt
  have hs1:=hB.size
  have hI:InS W1 ⟨new12 8,0,0⟩ A c:=RowB.inS (s:=⟨new12 8,0,0⟩) hr (by decide)
  clear hr hb
  have HS:=Lib.hid (stoA_one12 ⟨new12 8,0,0⟩ A c)
  have z1:=Is.new W1 31 #[.slice none 0 0,.int .i64 0,.int .i64 0]
  have i2:=i1.alloc (.cells #[.slice none 0 0,.int .i64 0,.int .i64 0] 31)
  have hB2:=hB1.alloc hB1.size (.cells #[.slice none 0 0,.int .i64 0,.int .i64 0] 31)
  have hI2:=hI.keep ((Below.refl W1.heap.size W1).alloc (Nat.le_refl _) (.cells #[.slice none 0 0,.int .i64 0,.int .i64 0] 31))
  have hs2:=i1.lt
  clear i1 hB1 hI
  generalize hW2:W1.alloc (.cells #[.slice none 0 0,.int .i64 0,.int .i64 0] 31)=W2 at *
  generalize hg:W1.heap.size=g at *
  have z2:=z1.row (stoA ⟨new12 8,0,0⟩ A c)
  have i3:=i2.rowFar (k:=g) (by omega) (stoA ⟨new12 8,0,0⟩ A c)
  have hB3:=belowRow hB2 (g:=g) (by omega) (stoA ⟨new12 8,0,0⟩ A c)
  have hI3:=hI2.noS13 z1 rfl (grownRowG _ g (stoA ⟨new12 8,0,0⟩ A c))
  go_upto_region 4 with (first | (refine wpList_store_row rfl 31 _ _ rfl g (stoA ⟨new12 8,0,0⟩ A c) rfl rfl 31 _ z1 infoSto12 rfl HS.out ?_))
  generalize W2.setRow g (stoA ⟨new12 8,0,0⟩ A c)=W3 at *
  have HV:=Lib.hid (srvA_one13 ⟨⟨new12 8,0,0⟩,n⟩ A c)
  have HI:=Lib.hid (hI3.noS13 i3 rfl (grownRowG _ w.heap.size (srvA ⟨⟨new12 8,0,0⟩,n⟩ A c)))
  have i4:=i3.row (srvA ⟨⟨new12 8,0,0⟩,n⟩ A c)
  go_wp2_with (first | (refine wpList_load_row rfl 31 _ rfl g rfl _ _ _ _ z2 Tryz.underlying31 rfl infoSto12 ?_) | (refine wpList_store_row rfl 33 _ _ rfl w.heap.size (srvA ⟨⟨new12 8,0,0⟩,n⟩ A c) rfl rfl 33 _ i3 infoSrv13 rfl HV.out ?_))
  exact bodyPost_ret (results_row_tmp Tryz.results7 _ _ w.heap.size 33 _ (0,0) _ rfl (i3.row _) Tryz.underlying33 rfl infoSrv13) rfl ⟨A,c,rfl,HI.out,belowRow hB3 (Nat.le_refl _) _⟩
theorem maybe_any13 (k:Int) (A A2:Option Addr) (c c2:Nat) (L C:List ByteArray) (w:World) (hl:L.length≤9223372036854775807) (hl2:C.length≤9223372036854775807) (hc:InV w A (tL10 L)) (hc2:InV w A2 (tL10 C)) :
  Calls Tryz.prog 32 #[.agg (reqA k A L.length c A2 C.length c2)] w fun e w'=>e=.returned (.bool (right11 ⟨k,L,C⟩))∧Below w.heap.size w w':=by
 have i0:=Is.new w 26 (reqA k A L.length c A2 C.length c2)
 have hB0:Below w.heap.size w (w.alloc (.cells (reqA k A L.length c A2 C.length c2) 26)):=(Below.refl _ _).alloc (Nat.le_refl _) _
 have HE:=Lib.hid (wenc_any11 k A A2 c c2 L C _ hl hl2 (hc.keep hB0) (hc2.keep hB0))
 clear hc hc2
 cases hr:right11 ⟨k,L,C⟩ with
 | false =>
  have e1:(encV11 ⟨k,L,C⟩)=(⟨#[]⟩,1):=by rw [encV11,hr];rfl
  rw [encR11,e1] at HE
  clear hr e1
  go_enter Tryz.func32,Tryz.ntmps32
  go_wp2_with (first | (refine wpList_load_row rfl 26 _ rfl w.heap.size rfl _ _ _ _ i0 Tryz.underlying26 rfl infoReq13 ?_) | (go_at_call 60;refine HE.out.mono ?_;rintro e w1 ⟨rfl,hb⟩))
  go_ret
  exact ⟨rfl,hB0.trans (hb.mono hB0.size)⟩
 | true =>
  obtain ⟨x,e1⟩:∃ x,(encV11 ⟨k,L,C⟩)=(x,0):=⟨_,by rw [encV11,hr];rfl⟩
  rw [encR11,e1] at HE
  clear hr e1
  go_enter Tryz.func32,Tryz.ntmps32
  go_wp2_with (first | (refine wpList_load_row rfl 26 _ rfl w.heap.size rfl _ _ _ _ i0 Tryz.underlying26 rfl infoReq13 ?_) | (go_at_call 60;refine HE.out.mono ?_;rintro e w1 ⟨rfl,hb⟩))
  go_ret
  exact ⟨rfl,hB0.trans (hb.mono hB0.size)⟩
theorem bytes_any13 (k st m r:Int) (A:Option Addr) (c:Nat) (C:List ByteArray) (w:World) (hl:C.length≤9223372036854775807) (hc:InV w A (tL10 C)) :
  Calls Tryz.prog 44 #[.agg (rspA k st A C.length c m r)] w fun e w'=>e=.returned (.string (answV11 ⟨k,st,C,m,r⟩).1)∧Below w.heap.size w w':=by
 have i0:=Is.new w 45 (rspA k st A C.length c m r)
 have hB0:Below w.heap.size w (w.alloc (.cells (rspA k st A C.length c m r) 45)):=(Below.refl _ _).alloc (Nat.le_refl _) _
 have HE:=Lib.hid (wansw_any11 k st m r A c C _ hl (hc.keep hB0))
 rw [answR11] at HE
 clear hc
 generalize (answV11 ⟨k,st,C,m,r⟩)=x at *
 obtain ⟨x,y⟩:=x
 go_enter Tryz.func44,Tryz.ntmps44
 go_wp2_with (first | (refine wpList_load_row rfl 45 _ rfl w.heap.size rfl _ _ _ _ i0 Tryz.underlying45 rfl infoRsp13 ?_) | (go_at_call 77;refine HE.out.mono ?_;rintro e w1 ⟨rfl,hb⟩))
 go_ret
 exact ⟨rfl,hB0.trans (hb.mono hB0.size)⟩
end Go.Proofs.YtmggbbmpckcleaaGreat
namespace Go.Proofs.YtmggbbmpckcleaaGreat
open Go.RowKit Go.Shelf
attribute [local go_sem] Oper.semAt_some
def thr13 (B:List Bkt12):Nat→List ByteArray→List (Nat × ByteArray)
 | _,[]=>[]
 | i,l :: r=>match mp12 B l with
  | some c=>(i,c) :: thr13 B (i + 1) r
  | none=>thr13 B (i + 1) r
theorem thr_app13 (B:List Bkt12):∀ (L M:List ByteArray) (i:Nat),thr13 B i (L ++ M)=thr13 B i L ++ thr13 B (i + L.length) M
 | [],M,i=>rfl
 | l :: r,M,i=>by
  rw [List.cons_append,thr13,thr13]
  have e:=thr_app13 B r M (i + 1)
  rw [List.length_cons,show i + (r.length + 1)=i + 1 + r.length by omega,e]
  cases mp12 B l <;> rfl
theorem thr_next13 {B:List Bkt12} {L:List ByteArray} {k:Nat} {l:ByteArray} (h:L[k]?=some l):thr13 B 0 (L.take (k + 1))=thr13 B 0 (L.take k) ++ (match mp12 B l with | some c=>[(k,c)] | none=>[]):=by
 have hk:k < L.length:=(List.getElem?_eq_some_iff.1 h).1
 rw [List.take_add_one,h,thr_app13,List.length_take,Nat.min_eq_left (Nat.le_of_lt hk),Nat.zero_add]
 show _ ++ thr13 B k [l]=_
 rw [thr13]
 cases mp12 B l <;> rfl
theorem thr_at13 {B:List Bkt12} {L:List ByteArray} {k:Nat} {l c:ByteArray} (h:L[k]?=some l) (hc:mp12 B l=some c):(thr13 B 0 L)[(thr13 B 0 (L.take k)).length]?=some (k,c):=by
 have hk:k < L.length:=(List.getElem?_eq_some_iff.1 h).1
 have e:thr13 B 0 L=thr13 B 0 (L.take (k + 1)) ++ thr13 B (0 + (L.take (k + 1)).length) (L.drop (k + 1)):=by rw [← thr_app13,List.take_append_drop]
 rw [e,thr_next13 h,hc,List.append_assoc,List.getElem?_append_right (Nat.le_refl _),Nat.sub_self]
 rfl
theorem thr_mem13 {B:List Bkt12}:∀ {L:List ByteArray} {i j:Nat} {p:Nat × ByteArray},(thr13 B i L)[j]?=some p→∃ l,L[p.1 - i]?=some l∧mp12 B l=some p.2∧i≤p.1
 | [],i,j,p,h=>by cases h
 | l :: r,i,j,p,h=>by
  rw [thr13] at h
  cases hm:mp12 B l with
  | none =>
   rw [hm] at h
   obtain ⟨x,h1,h2,h3⟩:=thr_mem13 (L:=r) h
   exact ⟨x,by rw [show p.1 - i=(p.1 - (i + 1)) + 1 by omega];exact h1,h2,by omega⟩
  | some c =>
   rw [hm] at h
   cases j with
   | zero =>
    cases h
    exact ⟨l,by rw [Nat.sub_self];rfl,hm,Nat.le_refl _⟩
   | succ j =>
    obtain ⟨x,h1,h2,h3⟩:=thr_mem13 (L:=r) (j:=j) h
    exact ⟨x,by rw [show p.1 - i=(p.1 - (i + 1)) + 1 by omega];exact h1,h2,by omega⟩
theorem thr_len13 (B:List Bkt12):∀ (L:List ByteArray) (i:Nat),(thr13 B i L).length=has13 B L
 | [],_=>rfl
 | l :: r,i=>by
  rw [thr13,has_cons13,← thr_len13 B r (i + 1)]
  cases mp12 B l <;> simp
abbrev encT13 (p:Nat × ByteArray):Array Value:=#[.int .i64 (p.1:Int),.string p.2]
theorem getV_some13 {s:Sto12} {l c:ByteArray} (h:Rt12 s) (hc:mp12 s.B l=some c):getV12 s l=(c,true):=by rw [getV12,if_pos (right_iff12.2 h),hc]
theorem getV_none13 {s:Sto12} {l:ByteArray} (h:Rt12 s) (hc:mp12 s.B l=none):getV12 s l=(⟨#[]⟩,false):=by rw [getV12,if_pos (right_iff12.2 h),hc]
theorem InV.txt13 {W:World} {A:Option Addr} {L:List ByteArray} (h:InV W A (tL10 L)) {k:Nat} {x:ByteArray} (hx:L[k]?=some x):∃ b off,A=some ⟨b,off,none⟩∧b < W.heap.size∧W.cell? ⟨b,off + k,none⟩=some (.string x):=h k (.string x) (by rw [tL10,List.getElem?_map,hx];rfl)
theorem there_any13 (s:Sto12) (A:Option Addr) (c:Nat) (AL:Option Addr) (n cL:Nat) (w:World) :
  Calls Tryz.prog 89 #[stoV s A c,.slice AL n cL] w fun e w'=>e=.returned (.func (.func 110) #[] #[.pointer (some ⟨w.heap.size + 1,0,none⟩),.pointer (some ⟨w.heap.size,0,none⟩)])∧w'=(w.alloc (.cells (stoA s A c) 31)).alloc (.cells #[.slice AL n cL] 24):=by
 go_enter Tryz.func89,Tryz.ntmps89
 go_wp2
 go_ret
 exact ⟨rfl,rfl⟩
theorem there_seq13 (n:Nat) (hn:2≤n) (Sd Ld:Nat) (s:Sto12) (A:Option Addr) (c:Nat) (AL:Option Addr) (cL:Nat) (L:List ByteArray) (w:World) (hr:Rt12 s) (hSd:Is w Sd 31 (stoA s A c)) (hLd:Is w Ld 24 #[.slice AL L.length cL]) (hI:InS w s A c) (hL:InV w AL (tL10 L)) (hm:L.length≤140737488355328)
  (S:Nat→Prop) (hS:S Sd) (hS2:S Ld) (hSA:∀ p,A=some p→s.B≠[]→S p.block) (hSL:∀ p,AL=some p→L≠[]→S p.block) (hSb:∀ k,S k→k < w.heap.size) :
  SeqL Fence.wide n Tryz.prog 110 #[.pointer (some ⟨Ld,0,none⟩),.pointer (some ⟨Sd,0,none⟩)] encT13 (thr13 s.B 0 L) S w:=by
 intro l J Jx W hW hJ hJx hY h0
 refine callsIn_of_wp Tryz.func110 rfl trivial ?_ rfl
 simp only [Tryz.ntmps110,List.size_toArray,List.length_cons,List.length_nil,Nat.reduceAdd,Nat.reduceSub,Array.replicate_succ,Array.replicate_zero,List.push_toArray,List.append_toArray,List.nil_append,List.cons_append]
 have cL0:W.cell? ⟨Ld,0,none⟩=some (.slice AL L.length cL):=(hW.is hLd hS2).cell 0
 have HSD:=Lib.hid hSd
 have HY:=Lib.hid hY
 have HJ:=Lib.hid hJ
 have HI:=Lib.hid (fun W2 (h:Stay S w W2)=>(⟨hI.b.stay12 h (fun p e h=>hSA p e (fun e2=>h (by rw [e2];rfl))),hI.nil,hI.cap,hI.fit⟩:InS W2 s A c))
 have HL:=Lib.hid (fun W2 (h:Stay S w W2)=>hL.stay12 h (fun p e h=>hSL p e (fun e2=>h (by rw [e2];rfl))))
 have HR:=Lib.hid hr
 have HSB:=Lib.hid hSb
 clear hY hJ hJx hSd hLd hI hL hr hSA hSL hSb
 gi_wp2
 clear cL0
 gi_loopw [10] (fun i wr=>∃ k:Nat,k≤L.length∧i=.int .i64 (k:Int)∧J (thr13 s.B 0 (L.take k)).length wr∧Stay S w wr∧W.heap.size≤wr.heap.size) (fun i _=>L.length - (intOf i).toNat)
 case atStart=>exact ⟨0,by omega,rfl,h0,hW,Nat.le_refl _⟩
 case round =>
  clear h0 hW
  obtain ⟨k,hk,rfl,hJk,hB,hs⟩:=hrel
  by_cases hlt:k < L.length
  ·
   have hkx:L[k]?=some L[k]:=List.getElem?_eq_getElem hlt
   generalize L[k]=x at hkx
   obtain ⟨b,off,rfl,hb,hx⟩:=(HL.out _ hB).txt13 hkx
   have w1i:=IntWalk.i64_in ((k:Int) + 1) (by omega)
   have hk1:(k:Int) < (L.length:Int):=by omega
   have iS:=hB.is HSD.out hS
   have HG:=Lib.hid (bget_any12 s A c x wr (HI.out _ hB))
   have HSZ:=Lib.hid hB.size
   cases hmp:mp12 s.B x with
   | none =>
    rw [getV_none13 HR.out hmp] at HG
    have hut:=thr_next13 (B:=s.B) hkx
    rw [hmp] at hut
    simp only [List.append_nil] at hut
    have HUT:=Lib.hid hut
    clear hkx hut hmp hb
    gi_wp2_with (first | (refine wpListIn_load_rowI rfl 31 _ rfl Sd rfl iS Tryz.underlying31 rfl infoSto12 ?_) | (refine ⟨trivial,fun _=>by omega,(callsIn_wide.2 HG.out).mono ?_⟩;rintro e W3 ⟨rfl,hb3⟩) | (with_reducible refine And.intro (fun f e=>(by cases e)) ?_))
    have hst:=hB.trans (Stay.of (S:=S) hb3 (fun q hq=>by have:=HSB.out q hq;have:=HSZ.out;omega))
    have hJ3:J (thr13 s.B 0 (L.take k)).length W3:=HJ.out _ _ _ none hJk (grownG hb3) (fun r e=>by cases e)
    have hs3:=Nat.le_trans hs hb3.size
    clear iS hJk hB hs hb3
    gi_wp2_with (with_reducible refine And.intro (fun f e=>(by cases e)) ?_)
    go_roundw
    case rel=>exact ⟨k + 1,by omega,by go_num,by rw [HUT.out];exact hJ3,hst,hs3⟩
    case measure=>simp [intOf];omega
   | some y =>
    rw [getV_some13 HR.out hmp] at HG
    have hut:=thr_next13 (B:=s.B) hkx
    rw [hmp] at hut
    have HUL:=Lib.hid (show (thr13 s.B 0 (L.take (k + 1))).length=(thr13 s.B 0 (L.take k)).length + 1 by rw [hut];simp)
    have HAT:=Lib.hid (thr_at13 hkx hmp)
    clear hkx hut hmp hb
    gi_wp2_with (first | (refine wpListIn_load_rowI rfl 31 _ rfl Sd rfl iS Tryz.underlying31 rfl infoSto12 ?_) | (refine ⟨trivial,fun _=>by omega,(callsIn_wide.2 HG.out).mono ?_⟩;rintro e W3 ⟨rfl,hb3⟩))
    have hst:=hB.trans (Stay.of (S:=S) hb3 (fun q hq=>by have:=HSB.out q hq;have:=HSZ.out;omega))
    have hJ3:J (thr13 s.B 0 (L.take k)).length W3:=HJ.out _ _ _ none hJk (grownG hb3) (fun r e=>by cases e)
    have hs3:=Nat.le_trans hs hb3.size
    clear iS hJk hB hs hb3
    obtain ⟨fn,tmps,assign,body,hyd,hR⟩:=HY.out _ _ W3 HAT.out hJ3
    simp only [encT13] at hyd
    have HR2:=Lib.hid hR
    clear hR
    gi_wp2_with (with_reducible refine And.intro (fun f e=>(by cases e)) ?_)
    rw [hyd,Oper.uponIn_round]
    refine ⟨fun _=>by omega,HR2.out.mono ?_⟩
    rintro e W4 (⟨rfl,hJ4,hB4⟩ | ⟨rfl,hJx4,_⟩)
    ·
     gi_wp2
     go_roundw
     case rel=>exact ⟨k + 1,by omega,by go_num,by rw [HUL.out];exact hJ4,hst.trans (hB4.mono (fun k hk=>.inl hk)),Nat.le_trans hs3 hB4.size⟩
     case measure=>simp [intOf];omega
    ·
     gi_wp2
     refine bodyPost_ret (results_none rfl _ _ _) rfl ?_
     exact ⟨⟨_,rfl⟩,.inr ⟨_,hJx4⟩⟩
  ·
   have hk1:¬ (k:Int) < (L.length:Int):=by omega
   obtain rfl:k=L.length:=by omega
   gi_wp2
   go_end0
   exact ⟨⟨_,rfl⟩,.inl (by rw [List.take_length] at hJk;exact hJk)⟩
end Go.Proofs.YtmggbbmpckcleaaGreat
namespace Go.Proofs.YtmggbbmpckcleaaGreat
open Go.RowKit Go.Shelf
theorem toList_inj12 {a c:ByteArray}:a.toList=c.toList↔a=c:=⟨fun e=>by
 rw [ByteArray.toList_eq,ByteArray.toList_eq] at e
 obtain ⟨a⟩:=a
 obtain ⟨c⟩:=c
 exact congrArg ByteArray.mk (Array.toList_inj.1 e),fun e=>by rw [e]⟩
theorem neB12 (s t:Int) (a b c d:ByteArray) (W:World):(binOp .neq 70 (.agg #[.int .i64 s,.string a,.string b]) (.agg #[.int .i64 t,.string c,.string d])).run Tryz.prog W=.ok (.bool (!(decide (s=t) && decide (a=c) && decide (b=d)))) W:=by
 go_simp
 simp only [toList_inj12]
 by_cases h1:s=t <;> by_cases h2:a=c <;> by_cases h3:b=d <;> simp [h1,h2,h3]
theorem run_load_midO12 {P:Program} {w:World} {o:Oper} {a:Act} {ty:TypeId} {x:Operand} (ho:o.op=.load ty x) {b off:Nat} {cs:List Value} {d:TypeDesc} (hx:a.eval x=.pointer (some ⟨b,off,none⟩)) (hc:w.rangeAt b off cs)
  (hu:P.underlying ty=some d) (hd:d.isRow=true) (hi:(P.info? ty).map (·.size)=some cs.length) :
  (execOp a.eval o).run P w=.ok (.value (.agg cs.toArray)) w:=by
 simp only [execOp,ho,hx,Instr.loadAt,Instr.sureAddr,Sem.run_bind,Sem.run_pure,Result.andThen_ok,run_loadVar_mid w b off ty cs d hc hu hd hi]
theorem rangeB12 {W W':World} (hb:Below W.heap.size W W') {b o:Nat} {L:List Value} (hl:b < W.heap.size) (h:W.rangeAt b o L):W'.rangeAt b o L:=fun j v hj=>by
 rw [← h j v hj]
 simp only [World.cell?,hb.block _ hl]
theorem dsm12_6 (W0:World) (D1 D2 a oa ca b ob cb n k:Nat) (u1 u2 v1 v2:Value) (p0 q0:Int) (p1 p2 q1 q2:ByteArray) (hk:k < n) (i1:Is W0 D1 31 #[.slice (some ⟨a,oa,none⟩) n ca,u1,u2]) (i2:Is W0 D2 31 #[.slice (some ⟨b,ob,none⟩) n cb,v1,v2]) (hla:a < W0.heap.size) (hlb:b < W0.heap.size) (ha:W0.rangeAt a (oa + k * 3) [.int .i64 p0,.string p1,.string p2]) (hb2:W0.rangeAt b (ob + k * 3) [.int .i64 q0,.string q1,.string q2]) (x0 x1 x4 x6 x7 x8 x9 Xa Xb Xc Xd Xe Xf Xg Xh Xi Xj Xk Xl Xm Xn Xo Xp Xq Xr Xs Xt Xu Xv Xw Xx Xy Xz Ya Yb Yc Yd Ye Yf Yg Yh Yi:Value) :
  (Code.region 6 (opsOf Tryz.f28 6) true).wp Tryz.prog (fun ex YY W=>ex=.normal∧YY.defers=[]∧∃ (_:Unit),YY.tmps=#[x0,x1,.pointer (some ⟨D1,0,none⟩),.pointer (some ⟨D2,0,none⟩),x4,.int .i64 (k:Int),x6,x7,x8,x9,Xa,Xb,Xc,Xd,Xe,Xf,Xg,Xh,Xi,Xj,Xk,Xl,Xm,Xn,Xo,Xp,Xq,Xr,Xs,Xt,Xu,Xv,Xw,Xx,.pointer (some ⟨D1,0,none⟩),.slice (some ⟨a,oa,none⟩) n ca,.int .i64 (k:Int),.pointer (some ⟨a,oa + k * 3,none⟩),.agg #[.int .i64 p0,.string p1,.string p2],.pointer (some ⟨D2,0,none⟩),.slice (some ⟨b,ob,none⟩) n cb,.int .i64 (k:Int),.pointer (some ⟨b,ob + k * 3,none⟩),.agg #[.int .i64 q0,.string q1,.string q2],.bool (!(decide (p0=q0) && decide (p1=q1) && decide (p2=q2)))]∧Below W0.heap.size W0 W) { tmps:=#[x0,x1,.pointer (some ⟨D1,0,none⟩),.pointer (some ⟨D2,0,none⟩),x4,.int .i64 (k:Int),x6,x7,x8,x9,Xa,Xb,Xc,Xd,Xe,Xf,Xg,Xh,Xi,Xj,Xk,Xl,Xm,Xn,Xo,Xp,Xq,Xr,Xs,Xt,Xu,Xv,Xw,Xx,Xy,Xz,Ya,Yb,Yc,Yd,Ye,Yf,Yg,Yh,Yi],defers:=[] } W0:=by
 have hB:Below W0.heap.size W0 (W0.drewN 1):=belowN (Below.refl _ _) 1
 generalize hQ:(fun (ex:Exit) (YY:Act) (W:World)=>ex=.normal∧YY.defers=[]∧∃ (_:Unit),YY.tmps=#[x0,x1,.pointer (some ⟨D1,0,none⟩),.pointer (some ⟨D2,0,none⟩),x4,.int .i64 (k:Int),x6,x7,x8,x9,Xa,Xb,Xc,Xd,Xe,Xf,Xg,Xh,Xi,Xj,Xk,Xl,Xm,Xn,Xo,Xp,Xq,Xr,Xs,Xt,Xu,Xv,Xw,Xx,.pointer (some ⟨D1,0,none⟩),.slice (some ⟨a,oa,none⟩) n ca,.int .i64 (k:Int),.pointer (some ⟨a,oa + k * 3,none⟩),.agg #[.int .i64 p0,.string p1,.string p2],.pointer (some ⟨D2,0,none⟩),.slice (some ⟨b,ob,none⟩) n cb,.int .i64 (k:Int),.pointer (some ⟨b,ob + k * 3,none⟩),.agg #[.int .i64 q0,.string q1,.string q2],.bool (!(decide (p0=q0) && decide (p1=q1) && decide (p2=q2)))]∧Below W0.heap.size W0 W)=Q
 have HQN:∀ c a W,¬ Q (.panic c) a W:=fun c a W h=>by subst hQ;exact nomatch h.1
 have ST:∀ (W:World),Below W0.heap.size W0 W→wpAnyH Tryz.prog .any (opsOf Tryz.f28 6) Q (fun W=>Below W0.heap.size W0 W) 0 #[true,true,true,true,true,true,true,true,true,true,true] { tmps:=#[x0,x1,.pointer (some ⟨D1,0,none⟩),.pointer (some ⟨D2,0,none⟩),x4,.int .i64 (k:Int),x6,x7,x8,x9,Xa,Xb,Xc,Xd,Xe,Xf,Xg,Xh,Xi,Xj,Xk,Xl,Xm,Xn,Xo,Xp,Xq,Xr,Xs,Xt,Xu,Xv,Xw,Xx,.pointer (some ⟨D1,0,none⟩),.slice (some ⟨a,oa,none⟩) n ca,.int .i64 (k:Int),.pointer (some ⟨a,oa + k * 3,none⟩),.agg #[.int .i64 p0,.string p1,.string p2],.pointer (some ⟨D2,0,none⟩),.slice (some ⟨b,ob,none⟩) n cb,.int .i64 (k:Int),.pointer (some ⟨b,ob + k * 3,none⟩),.agg #[.int .i64 q0,.string q1,.string q2],.bool (!(decide (p0=q0) && decide (p1=q1) && decide (p2=q2)))],defers:=[] } W:=by
  intro W hB
  refine wpAnyH_done (by kernel_rfl) ?_ _
  subst hQ
  exact ⟨rfl,rfl,(),rfl,hB⟩
 refine wp_region_held_drew (S:=fun W=>Below W0.heap.size W0 W) (by kernel_rfl) hB (fun hS=>?_)
 change wpAnyH _ _ (opsOf Tryz.f28 6) _ _ 11 (Array.replicate 11 false) _ (W0.drewN 1)
 clear hS
 replace hB:Below W0.heap.size W0 (W0.drewN 1):=belowN (Below.refl _ _) 1
 refine wpP (i:=0) (v:=.pointer (some ⟨D1,0,none⟩)) HQN rfl (fun w hSw=>by go_simp) hB ?_
 simp only [Act.put,zz0,zz1,zz2]
 refine wpP (i:=1) (v:=.slice (some ⟨a,oa,none⟩) n ca) HQN rfl (fun w hSw=>by (have hc:=(i1.below hSw i1.lt).cell 0;go_simp)) hB ?_
 simp only [Act.put,zz0,zz1,zz2]
 refine wpP (i:=2) (v:=.int .i64 (k:Int)) HQN rfl (fun w hSw=>by kernel_rfl) hB ?_
 simp only [Act.put,zz0,zz1,zz2]
 refine wpP (i:=3) (v:=.pointer (some ⟨a,oa + k * 3,none⟩)) HQN rfl (fun w hSw=>by have hk':=hk;go_simp) hB ?_
 simp only [Act.put,zz0,zz1,zz2]
 refine wpP (i:=4) (v:=.agg #[.int .i64 p0,.string p1,.string p2]) HQN rfl (fun w hSw=>by exact run_load_midO12 (x:=.tmp 37) (by kernel_rfl) (by kernel_rfl) (rangeB12 hSw hla ha) Tryz.underlying70 rfl infoBkt12) hB ?_
 simp only [Act.put,zz0,zz1,zz2]
 refine wpP (i:=5) (v:=.pointer (some ⟨D2,0,none⟩)) HQN rfl (fun w hSw=>by go_simp) hB ?_
 simp only [Act.put,zz0,zz1,zz2]
 refine wpP (i:=6) (v:=.slice (some ⟨b,ob,none⟩) n cb) HQN rfl (fun w hSw=>by (have hc:=(i2.below hSw i2.lt).cell 0;go_simp)) hB ?_
 simp only [Act.put,zz0,zz1,zz2]
 refine wpP (i:=7) (v:=.int .i64 (k:Int)) HQN rfl (fun w hSw=>by kernel_rfl) hB ?_
 simp only [Act.put,zz0,zz1,zz2]
 refine wpP (i:=8) (v:=.pointer (some ⟨b,ob + k * 3,none⟩)) HQN rfl (fun w hSw=>by have hk':=hk;go_simp) hB ?_
 simp only [Act.put,zz0,zz1,zz2]
 refine wpP (i:=9) (v:=.agg #[.int .i64 q0,.string q1,.string q2]) HQN rfl (fun w hSw=>by exact run_load_midO12 (x:=.tmp 42) (by kernel_rfl) (by kernel_rfl) (rangeB12 hSw hlb hb2) Tryz.underlying70 rfl infoBkt12) hB ?_
 simp only [Act.put,zz0,zz1,zz2]
 refine wpP (i:=10) (v:=.bool (!(decide (p0=q0) && decide (p1=q1) && decide (p2=q2)))) HQN rfl (fun w hSw=>by exact exec_bin10 (x:=.tmp 38) (y:=.tmp 43) (t2:=70) (by kernel_rfl) (by kernel_rfl) (by kernel_rfl) (neB12 p0 q0 p1 p2 q1 q2 w) (by go_simp)) hB ?_
 simp only [Act.put,zz0,zz1,zz2]
 exact ST _ hB
theorem take_eq12 {α:Type} {L M:List α} {k:Nat} {x:α} (h:L.take k=M.take k) (hx:L[k]?=some x) (hy:M[k]?=some x):L.take (k + 1)=M.take (k + 1):=by
 rw [List.take_add_one,List.take_add_one,h,hx,hy]
theorem dsame_any12 (s t:Sto12) (A B:Option Addr) (ca cb:Nat) (w:World) (hl:s.B.length≤4096) (hA:InS w s A ca) (hB:InS w t B cb) :
  Calls Tryz.prog 28 #[stoV s A ca,stoV t B cb] w fun e w'=>∃ R,e=.returned (.bool R)∧(R=true↔s=t)∧Below w.heap.size w w':=by
 have HA:=Lib.hid hA
 have HB:=Lib.hid hB
 clear hA hB
 obtain ⟨sB,sm,sg⟩:=s
 obtain ⟨tB,tm,tg⟩:=t
 simp only at hl
 obtain ⟨W1,hW1⟩:∃ W1,W1=(w.alloc (.cells #[.slice A sB.length ca,.int .i64 sm,.int .i64 sg] 31)).alloc (.cells #[.slice B tB.length cb,.int .i64 tm,.int .i64 tg] 31):=⟨_,rfl⟩
 have i1:Is W1 w.heap.size 31 #[.slice A sB.length ca,.int .i64 sm,.int .i64 sg]:=by rw [hW1];exact heap_alloc2_old _ _ _
 have i2:Is W1 (w.heap.size + 1) 31 #[.slice B tB.length cb,.int .i64 tm,.int .i64 tg]:=by rw [hW1];exact heap_alloc2_new _ _ _
 have hB1:Below w.heap.size w W1:=by rw [hW1];exact ((Below.refl _ _).alloc (Nat.le_refl _) _).alloc (by simp) _
 have c0:W1.cell? ⟨w.heap.size,0,none⟩=some (.slice A sB.length ca):=i1.cell 0
 have c1:W1.cell? ⟨w.heap.size,1,none⟩=some (.int .i64 sm):=i1.cell 1
 have c2:W1.cell? ⟨w.heap.size,2,none⟩=some (.int .i64 sg):=i1.cell 2
 have d0:W1.cell? ⟨w.heap.size + 1,0,none⟩=some (.slice B tB.length cb):=i2.cell 0
 have d1:W1.cell? ⟨w.heap.size + 1,1,none⟩=some (.int .i64 tm):=i2.cell 1
 have d2:W1.cell? ⟨w.heap.size + 1,2,none⟩=some (.int .i64 tg):=i2.cell 2
 go_enter Tryz.func28,Tryz.ntmps28
 go_upto_region 1 with (fail)
 rw [← hW1]
 clear hW1
 by_cases e1:sm=tm
 ·
  by_cases e2:sg=tg
  ·
   by_cases e3:sB.length=tB.length
   ·
    subst e1 e2
    have HLM:=Lib.hid e3
    rw [← e3] at d0 i2
    clear e3
    go_wp2
    clear c0 c1 c2 d0 d1 d2
    go_loopw [5] (fun i wr=>∃ k:Nat,k≤sB.length∧i=.int .i64 (k:Int)∧sB.take k=tB.take k∧Is wr w.heap.size 31 #[.slice A sB.length ca,.int .i64 sm,.int .i64 sg]∧Is wr (w.heap.size + 1) 31 #[.slice B sB.length cb,.int .i64 sm,.int .i64 sg]∧Below w.heap.size w wr) (fun i _=>sB.length - (intOf i).toNat)
    case atStart=>exact ⟨0,by omega,rfl,rfl,i1,i2,hB1⟩
    case round =>
     clear i1 i2 hB1
     obtain ⟨k,hk,rfl,htk,i1,i2,hB⟩:=hrel
     have HTK:=Lib.hid htk
     have c0:wr.cell? ⟨w.heap.size,0,none⟩=some (.slice A sB.length ca):=i1.cell 0
     clear htk
     by_cases hlt:k < sB.length
     ·
      have q1:(k:Int) < (sB.length:Int):=by omega
      have w1i:=IntWalk.i64_in ((k:Int) + 1) (by omega)
      obtain ⟨x,hx⟩:∃ x,sB[k]?=some x:=⟨_,List.getElem?_eq_getElem hlt⟩
      obtain ⟨y,hy⟩:∃ y,tB[k]?=some y:=⟨_,List.getElem?_eq_getElem (by rw [← HLM.out];exact hlt)⟩
      obtain ⟨a,oa,rfl,hla,ha⟩:=(HA.out.keep hB).b.bkt hx
      obtain ⟨b,ob,rfl,hlb,hb2⟩:=(HB.out.keep hB).b.bkt hy
      have HX:=Lib.hid hx
      have HY:=Lib.hid hy
      clear hx hy
      go_upto_region 6 with (fail)
      clear c0
      refine Code.wp_mono ?_ (dsm12_6 wr w.heap.size (w.heap.size + 1) a oa ca b ob cb sB.length k _ _ _ _ x.st y.st x.l x.c y.l y.c hlt i1 i2 hla hlb ha hb2 _ _ _ _ _ _ _ _ _ _ _ _ _ _ _ _ _ _ _ _ _ _ _ _ _ _ _ _ _ _ _ _ _ _ _ _ _ _ _ _ _ _)
      rintro ex ⟨T,D⟩ W5 ⟨rfl,hDf,_,hT,hb⟩
      simp only at hT hDf
      subst hT
      subst hDf
      have hB5:=hB.trans (hb.mono hB.size)
      have i1:=i1.below hb i1.lt
      have i2:=i2.below hb i2.lt
      clear ha hb2 hla hlb hb hB
      obtain ⟨xs,xl,xc⟩:=x
      obtain ⟨ys,yl,yc⟩:=y
      simp only
      by_cases hxy:xs=ys∧xl=yl∧xc=yc
      ·
       obtain ⟨rfl,rfl,rfl⟩:=hxy
       have he:(!(decide (xs=xs) && decide (xl=xl) && decide (xc=xc)))=false:=by simp
       have HS:=Lib.hid (take_eq12 HTK.out HX.out HY.out)
       rw [he]
       clear he
       go_wp2
       go_roundw
       case rel=>exact ⟨k + 1,by omega,by go_num,HS.out,i1,i2,hB5⟩
       case measure=>simp [intOf];omega
      ·
       have he:(!(decide (xs=ys) && decide (xl=yl) && decide (xc=yc)))=true:=by
        rw [← Bool.decide_and,← Bool.decide_and,decide_eq_false (fun h=>hxy ⟨h.1.1,h.1.2,h.2⟩)];rfl
       have HN:Hid ((⟨sB,sm,sg⟩:Sto12)≠⟨tB,sm,sg⟩):=Lib.hid (fun e=>hxy (by
        have h1:=HX.out
        rw [show sB=tB from congrArg Sto12.B e,HY.out] at h1
        cases h1
        exact ⟨rfl,rfl,rfl⟩))
       rw [he]
       clear he hxy
       go_wp2
       go_ret
       exact ⟨false,rfl,⟨fun h=>absurd h (by decide),fun h=>absurd h HN.out⟩,hB5⟩
     ·
      have q1:¬ (k:Int) < (sB.length:Int):=by omega
      have hkn:k=sB.length:=by omega
      have HE:Hid ((⟨sB,sm,sg⟩:Sto12)=⟨tB,sm,sg⟩):=Lib.hid (by
       have h:=HTK.out
       rw [hkn,List.take_length,HLM.out,List.take_length] at h
       rw [h])
      clear hkn
      go_wp2
      go_ret
      exact .inr ⟨rfl,congrArg Sto12.B HE.out,hB⟩
   ·
    have h1:¬ (sB.length:Int)=(tB.length:Int):=by omega
    have HN:Hid ((⟨sB,sm,sg⟩:Sto12)≠⟨tB,tm,tg⟩):=Lib.hid (fun e=>e3 (by rw [show sB=tB from congrArg Sto12.B e]))
    clear e3
    go_wp2
    go_ret
    exact ⟨false,rfl,⟨fun h=>absurd h (by decide),fun h=>absurd h HN.out⟩,hB1⟩
  ·
   have HN:Hid ((⟨sB,sm,sg⟩:Sto12)≠⟨tB,tm,tg⟩):=Lib.hid (fun e=>e2 (congrArg Sto12.gone e))
   go_wp2
   go_ret
   exact ⟨false,rfl,⟨fun h=>absurd h (by decide),fun h=>absurd h HN.out⟩,hB1⟩
 ·
  have HN:Hid ((⟨sB,sm,sg⟩:Sto12)≠⟨tB,tm,tg⟩):=Lib.hid (fun e=>e1 (congrArg Sto12.many e))
  go_wp2
  go_ret
  exact ⟨false,rfl,⟨fun h=>absurd h (by decide),fun h=>absurd h HN.out⟩,hB1⟩
end Go.Proofs.YtmggbbmpckcleaaGreat
namespace Go.Proofs.YtmggbbmpckcleaaGreat
open Go.RowKit Go.Shelf
attribute [local go_sem] Oper.semAt_some
abbrev askA (s:Srv13) (A:Option Addr) (c:Nat) (k:Int) (AL:Option Addr) (nl cl:Nat) (AC:Option Addr) (nc cc:Nat):Array Value:=#[.slice A s.S.B.length c,.int .i64 s.S.many,.int .i64 s.S.gone,.int .i64 s.lim,.int .i64 k,.slice AL nl cl,.slice AC nc cc]
theorem Is.askS13 {W:World} {b:Nat} {t:TypeId} {s:Srv13} {A:Option Addr} {c:Nat} {k:Int} {AL:Option Addr} {nl cl:Nat} {AC:Option Addr} {nc cc:Nat} (h:Is W b t (askA s A c k AL nl cl AC nc cc)):W.rangeAt b 0 [.slice A s.S.B.length c,.int .i64 s.S.many,.int .i64 s.S.gone,.int .i64 s.lim]:=h.rng13 0 _ fun j v hj=>by
 have hj3:j < 4:=(List.getElem?_eq_some_iff.1 hj).1
 rw [Nat.zero_add,← hj]
 rcases (by omega:j=0∨j=1∨j=2∨j=3) with rfl | rfl | rfl | rfl <;> rfl
theorem Is.askT13 {W:World} {b:Nat} {t:TypeId} {s:Srv13} {A:Option Addr} {c:Nat} {k:Int} {AL:Option Addr} {nl cl:Nat} {AC:Option Addr} {nc cc:Nat} (h:Is W b t (askA s A c k AL nl cl AC nc cc)):W.rangeAt b 0 [.slice A s.S.B.length c,.int .i64 s.S.many,.int .i64 s.S.gone]:=h.rng13 0 _ fun j v hj=>by
 have hj3:j < 3:=(List.getElem?_eq_some_iff.1 hj).1
 rw [Nat.zero_add,← hj]
 rcases (by omega:j=0∨j=1∨j=2) with rfl | rfl | rfl <;> rfl
theorem infoAsk13:(Tryz.prog.info? 74).map (·.size)=some 7:=by kernel_rfl
theorem belowMid13 {n:Nat} {a b c:World} (h:Below n a b) (k:Below n b c):Below n a c:=h.trans k
theorem sta13_2 (DF:List Deferred) (W0:World) (B0 D1 D2 D3:Nat) (s:Srv13) (A:Option Addr) (c:Nat) (k:Int) (AL:Option Addr) (nl cl:Nat) (AC:Option Addr) (nc cc:Nat) (hW:Hid (IntKind.i64.wrap (s.lim - s.S.many)=s.lim - s.S.many)) (RA:Option Addr) (RC:List ByteArray) (i1:Is W0 D1 74 (askA s A c k AL nl cl AC nc cc)) (i2:Is W0 D2 33 #[.slice none 0 0,.int .i64 0,.int .i64 0,.int .i64 0]) (i3:Is W0 D3 45 (rspA 0 0 none 0 0 0 0)) (hI:InS W0 s.S A c) (hV:InV W0 RA (tL10 RC)) (hD2:B0≤D2) (hD3:B0≤D3) (h12:D1≠D2) (h13:D1≠D3) (h23:D2≠D3) (x0 x5 x6 x7 x8 x9 Xa Xb Xc Xd Xe Xf Xg Xh:Value) :
  (Code.region 2 (opsOf Tryz.f64 2) true).wp Tryz.prog (fun ex YY W=>ex=.normal∧YY.defers=DF∧∃ (_:Unit),YY.tmps=#[x0,.pointer (some ⟨D1,0,none⟩),.pointer (some ⟨D2,0,none⟩),.pointer (some ⟨D3,0,none⟩),.int .i64 s.S.many,x5,x6,x7,x8,.pointer (some ⟨D1,0,none⟩),.agg (srvA s A c),.int .i64 s.S.many,.pointer (some ⟨D1,0,none⟩),.pointer (some ⟨D1,3,none⟩),.int .i64 s.lim,.int .i64 s.S.many,.int .i64 (s.lim - s.S.many),.agg (rspA 0 0 none 0 0 s.S.many (s.lim - s.S.many))]∧Below B0 W0 W∧Is W D1 74 (askA s A c k AL nl cl AC nc cc)∧(∀ kk,kk≠D2→kk≠D3→kk < W0.heap.size→W.heap[kk]?=W0.heap[kk]?)∧InS W s.S A c∧InV W RA (tL10 RC)∧Is W D2 33 (srvA s A c)∧Is W D3 45 (rspA 0 0 none 0 0 s.S.many (s.lim - s.S.many))) { tmps:=#[x0,.pointer (some ⟨D1,0,none⟩),.pointer (some ⟨D2,0,none⟩),.pointer (some ⟨D3,0,none⟩),.int .i64 s.S.many,x5,x6,x7,x8,x9,Xa,Xb,Xc,Xd,Xe,Xf,Xg,Xh],defers:=DF } W0:=by
 have hB:Below B0 W0 (W0.drewN 1):=belowN (Below.refl _ _) 1
 generalize hQ:(fun (ex:Exit) (YY:Act) (W:World)=>ex=.normal∧YY.defers=DF∧∃ (_:Unit),YY.tmps=#[x0,.pointer (some ⟨D1,0,none⟩),.pointer (some ⟨D2,0,none⟩),.pointer (some ⟨D3,0,none⟩),.int .i64 s.S.many,x5,x6,x7,x8,.pointer (some ⟨D1,0,none⟩),.agg (srvA s A c),.int .i64 s.S.many,.pointer (some ⟨D1,0,none⟩),.pointer (some ⟨D1,3,none⟩),.int .i64 s.lim,.int .i64 s.S.many,.int .i64 (s.lim - s.S.many),.agg (rspA 0 0 none 0 0 s.S.many (s.lim - s.S.many))]∧Below B0 W0 W∧Is W D1 74 (askA s A c k AL nl cl AC nc cc)∧(∀ kk,kk≠D2→kk≠D3→kk < W0.heap.size→W.heap[kk]?=W0.heap[kk]?)∧InS W s.S A c∧InV W RA (tL10 RC)∧Is W D2 33 (srvA s A c)∧Is W D3 45 (rspA 0 0 none 0 0 s.S.many (s.lim - s.S.many)))=Q
 have HQN:∀ c a W,¬ Q (.panic c) a W:=fun c a W h=>by subst hQ;exact nomatch h.1
 have ST9_10:∀ (W:World),Below B0 W0 W→Is W D1 74 (askA s A c k AL nl cl AC nc cc)→(∀ kk,kk≠D2→kk≠D3→kk < W0.heap.size→W.heap[kk]?=W0.heap[kk]?)→InS W s.S A c→InV W RA (tL10 RC)→Is W D2 33 (srvA s A c)→Is W D3 45 (rspA 0 0 none 0 0 s.S.many (s.lim - s.S.many))→wpAnyH Tryz.prog .any (opsOf Tryz.f64 2) Q (fun W=>Below B0 W0 W∧Is W D1 74 (askA s A c k AL nl cl AC nc cc)) 0 #[true,true,true,true,true,true,true,true,true,true,true] { tmps:=#[x0,.pointer (some ⟨D1,0,none⟩),.pointer (some ⟨D2,0,none⟩),.pointer (some ⟨D3,0,none⟩),.int .i64 s.S.many,x5,x6,x7,x8,.pointer (some ⟨D1,0,none⟩),.agg (srvA s A c),.int .i64 s.S.many,.pointer (some ⟨D1,0,none⟩),.pointer (some ⟨D1,3,none⟩),.int .i64 s.lim,.int .i64 s.S.many,.int .i64 (s.lim - s.S.many),.agg (rspA 0 0 none 0 0 s.S.many (s.lim - s.S.many))],defers:=DF } W:=by
  intro W hB i1 hO hI hV j2 j3
  refine wpAnyH_done (by kernel_rfl) ?_ _
  subst hQ
  exact ⟨rfl,rfl,(),rfl,hB,i1,hO,hI,hV,j2,j3⟩
 have ST9:∀ (W:World),Below B0 W0 W→Is W D1 74 (askA s A c k AL nl cl AC nc cc)→Is W D3 45 (rspA 0 0 none 0 0 0 0)→(∀ kk,kk≠D2→kk≠D3→kk < W0.heap.size→W.heap[kk]?=W0.heap[kk]?)→InS W s.S A c→InV W RA (tL10 RC)→Is W D2 33 (srvA s A c)→wpAnyH Tryz.prog .any (opsOf Tryz.f64 2) Q (fun W=>Below B0 W0 W∧Is W D1 74 (askA s A c k AL nl cl AC nc cc)) 1 #[true,true,true,true,true,true,true,true,true,true,false] { tmps:=#[x0,.pointer (some ⟨D1,0,none⟩),.pointer (some ⟨D2,0,none⟩),.pointer (some ⟨D3,0,none⟩),.int .i64 s.S.many,x5,x6,x7,x8,.pointer (some ⟨D1,0,none⟩),.agg (srvA s A c),.int .i64 s.S.many,.pointer (some ⟨D1,0,none⟩),.pointer (some ⟨D1,3,none⟩),.int .i64 s.lim,.int .i64 s.S.many,.int .i64 (s.lim - s.S.many),.agg (rspA 0 0 none 0 0 s.S.many (s.lim - s.S.many))],defers:=DF } W:=by
  intro W hB i1 i3 hO hI hV j2
  refine wpAnyH_ready (by kernel_rfl) (by simp) (AllReadyH.cons (i:=10) (at_nth rfl) ?_ (AllReadyH.nil))
  ·
   have hone:(rspA 0 0 none 0 0 s.S.many (s.lim - s.S.many)).all (·.oneCell')=true:=rspA_one13 _ _ _ _ _ _ _
   have hg:=grownRowG W D3 (rspA 0 0 none 0 0 s.S.many (s.lim - s.S.many))
   have j3:=i3.row (rspA 0 0 none 0 0 s.S.many (s.lim - s.S.many))
   have hB2:=belowRow hB hD3 (rspA 0 0 none 0 0 s.S.many (s.lim - s.S.many))
   have i12:=i1.rowFar (k:=D3) h13 (rspA 0 0 none 0 0 s.S.many (s.lim - s.S.many))
   replace j2:=j2.rowFar (k:=D3) h23 (rspA 0 0 none 0 0 s.S.many (s.lim - s.S.many))
   replace hO:∀ kk,kk≠D2→kk≠D3→kk < W0.heap.size→(W.setRow D3 (rspA 0 0 none 0 0 s.S.many (s.lim - s.S.many))).heap[kk]?=W0.heap[kk]?:=fun kk h2 h3 hl=>(setRow_other W D3 kk (rspA 0 0 none 0 0 s.S.many (s.lim - s.S.many)) h3).trans (hO kk h2 h3 hl)
   replace hI:=hI.noS13 i3 rfl hg
   replace hV:=hV.noT13 i3 rfl hg
   refine arm10_skip (w':=W.setRow D3 (rspA 0 0 none 0 0 s.S.many (s.lim - s.S.many))) (by kernel_rfl) (run_row10 (x:=.tmp 3) (y:=.tmp 17) (by kernel_rfl) (by kernel_rfl) (by kernel_rfl) i3 infoRsp13 rfl hone) ⟨hB2,i12⟩ ?_
   try simp only [Act.put]
   replace hB:=hB2
   replace i1:=i12
   clear i3 hg
   exact ST9_10 _ hB i1 hO hI hV j2 j3
 have ST:∀ (W:World),Below B0 W0 W→Is W D1 74 (askA s A c k AL nl cl AC nc cc)→Is W D2 33 #[.slice none 0 0,.int .i64 0,.int .i64 0,.int .i64 0]→Is W D3 45 (rspA 0 0 none 0 0 0 0)→(∀ kk,kk≠D2→kk≠D3→kk < W0.heap.size→W.heap[kk]?=W0.heap[kk]?)→InS W s.S A c→InV W RA (tL10 RC)→wpAnyH Tryz.prog .any (opsOf Tryz.f64 2) Q (fun W=>Below B0 W0 W∧Is W D1 74 (askA s A c k AL nl cl AC nc cc)) 2 #[true,true,true,true,true,true,true,true,true,false,false] { tmps:=#[x0,.pointer (some ⟨D1,0,none⟩),.pointer (some ⟨D2,0,none⟩),.pointer (some ⟨D3,0,none⟩),.int .i64 s.S.many,x5,x6,x7,x8,.pointer (some ⟨D1,0,none⟩),.agg (srvA s A c),.int .i64 s.S.many,.pointer (some ⟨D1,0,none⟩),.pointer (some ⟨D1,3,none⟩),.int .i64 s.lim,.int .i64 s.S.many,.int .i64 (s.lim - s.S.many),.agg (rspA 0 0 none 0 0 s.S.many (s.lim - s.S.many))],defers:=DF } W:=by
  intro W hB i1 i2 i3 hO hI hV
  refine wpAnyH_ready (by kernel_rfl) (by simp) (AllReadyH.cons (i:=9) (at_nth rfl) ?_ (AllReadyH.nil))
  ·
   have hone:(srvA s A c).all (·.oneCell')=true:=srvA_one13 s A c
   have hg:=grownRowG W D2 (srvA s A c)
   have j2:=i2.row (srvA s A c)
   have hB2:=belowRow hB hD2 (srvA s A c)
   have i12:=i1.rowFar (k:=D2) h12 (srvA s A c)
   replace i3:=i3.rowFar (k:=D2) h23.symm (srvA s A c)
   replace hO:∀ kk,kk≠D2→kk≠D3→kk < W0.heap.size→(W.setRow D2 (srvA s A c)).heap[kk]?=W0.heap[kk]?:=fun kk h2 h3 hl=>(setRow_other W D2 kk (srvA s A c) h2).trans (hO kk h2 h3 hl)
   replace hI:=hI.noS13 i2 rfl hg
   replace hV:=hV.noT13 i2 rfl hg
   refine arm10_skip (w':=W.setRow D2 (srvA s A c)) (by kernel_rfl) (run_row10 (x:=.tmp 2) (y:=.tmp 10) (by kernel_rfl) (by kernel_rfl) (by kernel_rfl) i2 infoSrv13 rfl hone) ⟨hB2,i12⟩ ?_
   try simp only [Act.put]
   replace hB:=hB2
   replace i1:=i12
   clear i2 hg
   exact ST9 _ hB i1 i3 hO hI hV j2
 refine wp_region_held_drew (S:=fun W=>Below B0 W0 W∧Is W D1 74 (askA s A c k AL nl cl AC nc cc)) (by kernel_rfl) ⟨hB,i1⟩ (fun hS=>?_)
 change wpAnyH _ _ (opsOf Tryz.f64 2) _ _ 11 (Array.replicate 11 false) _ (W0.drewN 1)
 clear hS
 replace hB:Below B0 W0 (W0.drewN 1):=belowN (Below.refl _ _) 1
 replace i1:=i1.drewN 1
 replace i2:=i2.drewN 1
 replace i3:=i3.drewN 1
 replace hI:=hI.keep (belowN (Below.refl _ _) 1)
 replace hV:=hV.keep (belowN (Below.refl _ _) 1)
 refine wpP (i:=0) (v:=.pointer (some ⟨D1,0,none⟩)) HQN rfl (fun w hSw=>by go_simp) ⟨hB,i1⟩ ?_
 simp only [Act.put,zz0,zz1,zz2]
 refine wpP (i:=1) (v:=.agg (srvA s A c)) HQN rfl (fun w hSw=>by exact run_load_midO12 (x:=.tmp 9) (by kernel_rfl) (by kernel_rfl) (hSw.2.askS13) Tryz.underlying33 rfl infoSrv13) ⟨hB,i1⟩ ?_
 simp only [Act.put,zz0,zz1,zz2]
 refine wpP (i:=2) (v:=.int .i64 s.S.many) HQN rfl (fun w hSw=>by kernel_rfl) ⟨hB,i1⟩ ?_
 simp only [Act.put,zz0,zz1,zz2]
 refine wpP (i:=3) (v:=.pointer (some ⟨D1,0,none⟩)) HQN rfl (fun w hSw=>by go_simp) ⟨hB,i1⟩ ?_
 simp only [Act.put,zz0,zz1,zz2]
 refine wpP (i:=4) (v:=.pointer (some ⟨D1,3,none⟩)) HQN rfl (fun w hSw=>by go_simp) ⟨hB,i1⟩ ?_
 simp only [Act.put,zz0,zz1,zz2]
 refine wpP (i:=5) (v:=.int .i64 s.lim) HQN rfl (fun w hSw=>by (have hc:=hSw.2.cell 3;go_simp)) ⟨hB,i1⟩ ?_
 simp only [Act.put,zz0,zz1,zz2]
 refine wpP (i:=6) (v:=.int .i64 s.S.many) HQN rfl (fun w hSw=>by kernel_rfl) ⟨hB,i1⟩ ?_
 simp only [Act.put,zz0,zz1,zz2]
 refine wpP (i:=7) (v:=.int .i64 (s.lim - s.S.many)) HQN rfl (fun w hSw=>by (have hw:=hW.out;go_simp)) ⟨hB,i1⟩ ?_
 simp only [Act.put,zz0,zz1,zz2]
 refine wpP (i:=8) (v:=.agg (rspA 0 0 none 0 0 s.S.many (s.lim - s.S.many))) HQN rfl (fun w hSw=>by go_simp) ⟨hB,i1⟩ ?_
 simp only [Act.put,zz0,zz1,zz2]
 exact ST _ hB i1 i2 i3 (fun _ _ _ _=>rfl) hI hV
theorem get13_6 (DF:List Deferred) (W0:World) (B0 D1 D2 D3:Nat) (s:Srv13) (A:Option Addr) (c:Nat) (k:Int) (AL:Option Addr) (nl cl:Nat) (AC:Option Addr) (nc cc:Nat) (D4 rn rc:Nat) (h42:D4≠D2) (h43:D4≠D3) (RA:Option Addr) (RC:List ByteArray) (i1:Is W0 D1 74 (askA s A c k AL nl cl AC nc cc)) (i2:Is W0 D2 33 #[.slice none 0 0,.int .i64 0,.int .i64 0,.int .i64 0]) (i3:Is W0 D3 45 (rspA 0 0 none 0 0 0 0)) (hI:InS W0 s.S A c) (hV:InV W0 RA (tL10 RC)) (i4:Is W0 D4 24 #[.slice RA rn rc]) (hD2:B0≤D2) (hD3:B0≤D3) (h12:D1≠D2) (h13:D1≠D3) (h23:D2≠D3) (x0 x5 x6 x7 x8 x9 Xa Xb Xc Xd Xe Xf Xg Xh Xi Xj Xk Xl Xm Xn Xo Xp Xq Xr Xs:Value) :
  (Code.region 6 (opsOf Tryz.f62 6) true).wp Tryz.prog (fun ex YY W=>ex=.normal∧YY.defers=DF∧∃ (_:Unit),YY.tmps=#[x0,.pointer (some ⟨D1,0,none⟩),.pointer (some ⟨D2,0,none⟩),.pointer (some ⟨D3,0,none⟩),.pointer (some ⟨D4,0,none⟩),x5,x6,x7,x8,x9,Xa,Xb,Xc,Xd,Xe,Xf,Xg,Xh,Xi,Xj,Xk,Xl,Xm,Xn,Xo,.pointer (some ⟨D1,0,none⟩),.agg (srvA s A c),.slice RA rn rc,.agg (rspA 0 0 RA rn rc 0 0)]∧Below B0 W0 W∧Is W D1 74 (askA s A c k AL nl cl AC nc cc)∧(∀ kk,kk≠D2→kk≠D3→kk < W0.heap.size→W.heap[kk]?=W0.heap[kk]?)∧InS W s.S A c∧InV W RA (tL10 RC)∧Is W D4 24 #[.slice RA rn rc]∧Is W D2 33 (srvA s A c)∧Is W D3 45 (rspA 0 0 RA rn rc 0 0)) { tmps:=#[x0,.pointer (some ⟨D1,0,none⟩),.pointer (some ⟨D2,0,none⟩),.pointer (some ⟨D3,0,none⟩),.pointer (some ⟨D4,0,none⟩),x5,x6,x7,x8,x9,Xa,Xb,Xc,Xd,Xe,Xf,Xg,Xh,Xi,Xj,Xk,Xl,Xm,Xn,Xo,Xp,Xq,Xr,Xs],defers:=DF } W0:=by
 have hB:Below B0 W0 (W0.drewN 1):=belowN (Below.refl _ _) 1
 generalize hQ:(fun (ex:Exit) (YY:Act) (W:World)=>ex=.normal∧YY.defers=DF∧∃ (_:Unit),YY.tmps=#[x0,.pointer (some ⟨D1,0,none⟩),.pointer (some ⟨D2,0,none⟩),.pointer (some ⟨D3,0,none⟩),.pointer (some ⟨D4,0,none⟩),x5,x6,x7,x8,x9,Xa,Xb,Xc,Xd,Xe,Xf,Xg,Xh,Xi,Xj,Xk,Xl,Xm,Xn,Xo,.pointer (some ⟨D1,0,none⟩),.agg (srvA s A c),.slice RA rn rc,.agg (rspA 0 0 RA rn rc 0 0)]∧Below B0 W0 W∧Is W D1 74 (askA s A c k AL nl cl AC nc cc)∧(∀ kk,kk≠D2→kk≠D3→kk < W0.heap.size→W.heap[kk]?=W0.heap[kk]?)∧InS W s.S A c∧InV W RA (tL10 RC)∧Is W D4 24 #[.slice RA rn rc]∧Is W D2 33 (srvA s A c)∧Is W D3 45 (rspA 0 0 RA rn rc 0 0))=Q
 have HQN:∀ c a W,¬ Q (.panic c) a W:=fun c a W h=>by subst hQ;exact nomatch h.1
 have ST4_5:∀ (W:World),Below B0 W0 W→Is W D1 74 (askA s A c k AL nl cl AC nc cc)→(∀ kk,kk≠D2→kk≠D3→kk < W0.heap.size→W.heap[kk]?=W0.heap[kk]?)→InS W s.S A c→InV W RA (tL10 RC)→Is W D4 24 #[.slice RA rn rc]→Is W D2 33 (srvA s A c)→Is W D3 45 (rspA 0 0 RA rn rc 0 0)→wpAnyH Tryz.prog .any (opsOf Tryz.f62 6) Q (fun W=>Below B0 W0 W∧Is W D1 74 (askA s A c k AL nl cl AC nc cc)∧Is W D4 24 #[.slice RA rn rc]) 0 #[true,true,true,true,true,true] { tmps:=#[x0,.pointer (some ⟨D1,0,none⟩),.pointer (some ⟨D2,0,none⟩),.pointer (some ⟨D3,0,none⟩),.pointer (some ⟨D4,0,none⟩),x5,x6,x7,x8,x9,Xa,Xb,Xc,Xd,Xe,Xf,Xg,Xh,Xi,Xj,Xk,Xl,Xm,Xn,Xo,.pointer (some ⟨D1,0,none⟩),.agg (srvA s A c),.slice RA rn rc,.agg (rspA 0 0 RA rn rc 0 0)],defers:=DF } W:=by
  intro W hB i1 hO hI hV i4 j2 j3
  refine wpAnyH_done (by kernel_rfl) ?_ _
  subst hQ
  exact ⟨rfl,rfl,(),rfl,hB,i1,hO,hI,hV,i4,j2,j3⟩
 have ST4:∀ (W:World),Below B0 W0 W→Is W D1 74 (askA s A c k AL nl cl AC nc cc)→Is W D3 45 (rspA 0 0 none 0 0 0 0)→(∀ kk,kk≠D2→kk≠D3→kk < W0.heap.size→W.heap[kk]?=W0.heap[kk]?)→InS W s.S A c→InV W RA (tL10 RC)→Is W D4 24 #[.slice RA rn rc]→Is W D2 33 (srvA s A c)→wpAnyH Tryz.prog .any (opsOf Tryz.f62 6) Q (fun W=>Below B0 W0 W∧Is W D1 74 (askA s A c k AL nl cl AC nc cc)∧Is W D4 24 #[.slice RA rn rc]) 1 #[true,true,true,true,true,false] { tmps:=#[x0,.pointer (some ⟨D1,0,none⟩),.pointer (some ⟨D2,0,none⟩),.pointer (some ⟨D3,0,none⟩),.pointer (some ⟨D4,0,none⟩),x5,x6,x7,x8,x9,Xa,Xb,Xc,Xd,Xe,Xf,Xg,Xh,Xi,Xj,Xk,Xl,Xm,Xn,Xo,.pointer (some ⟨D1,0,none⟩),.agg (srvA s A c),.slice RA rn rc,.agg (rspA 0 0 RA rn rc 0 0)],defers:=DF } W:=by
  intro W hB i1 i3 hO hI hV i4 j2
  refine wpAnyH_ready (by kernel_rfl) (by simp) (AllReadyH.cons (i:=5) (at_nth rfl) ?_ (AllReadyH.nil))
  ·
   have hone:(rspA 0 0 RA rn rc 0 0).all (·.oneCell')=true:=rspA_one13 _ _ _ _ _ _ _
   have hg:=grownRowG W D3 (rspA 0 0 RA rn rc 0 0)
   have j3:=i3.row (rspA 0 0 RA rn rc 0 0)
   have hB2:=belowRow hB hD3 (rspA 0 0 RA rn rc 0 0)
   have i12:=i1.rowFar (k:=D3) h13 (rspA 0 0 RA rn rc 0 0)
   replace j2:=j2.rowFar (k:=D3) h23 (rspA 0 0 RA rn rc 0 0)
   replace i4:=i4.rowFar (k:=D3) h43 (rspA 0 0 RA rn rc 0 0)
   replace hO:∀ kk,kk≠D2→kk≠D3→kk < W0.heap.size→(W.setRow D3 (rspA 0 0 RA rn rc 0 0)).heap[kk]?=W0.heap[kk]?:=fun kk h2 h3 hl=>(setRow_other W D3 kk (rspA 0 0 RA rn rc 0 0) h3).trans (hO kk h2 h3 hl)
   replace hI:=hI.noS13 i3 rfl hg
   replace hV:=hV.noT13 i3 rfl hg
   refine arm10_skip (w':=W.setRow D3 (rspA 0 0 RA rn rc 0 0)) (by kernel_rfl) (run_row10 (x:=.tmp 3) (y:=.tmp 28) (by kernel_rfl) (by kernel_rfl) (by kernel_rfl) i3 infoRsp13 rfl hone) ⟨hB2,i12,i4⟩ ?_
   try simp only [Act.put]
   replace hB:=hB2
   replace i1:=i12
   clear i3 hg
   exact ST4_5 _ hB i1 hO hI hV i4 j2 j3
 have ST:∀ (W:World),Below B0 W0 W→Is W D1 74 (askA s A c k AL nl cl AC nc cc)→Is W D2 33 #[.slice none 0 0,.int .i64 0,.int .i64 0,.int .i64 0]→Is W D3 45 (rspA 0 0 none 0 0 0 0)→(∀ kk,kk≠D2→kk≠D3→kk < W0.heap.size→W.heap[kk]?=W0.heap[kk]?)→InS W s.S A c→InV W RA (tL10 RC)→Is W D4 24 #[.slice RA rn rc]→wpAnyH Tryz.prog .any (opsOf Tryz.f62 6) Q (fun W=>Below B0 W0 W∧Is W D1 74 (askA s A c k AL nl cl AC nc cc)∧Is W D4 24 #[.slice RA rn rc]) 2 #[true,true,true,true,false,false] { tmps:=#[x0,.pointer (some ⟨D1,0,none⟩),.pointer (some ⟨D2,0,none⟩),.pointer (some ⟨D3,0,none⟩),.pointer (some ⟨D4,0,none⟩),x5,x6,x7,x8,x9,Xa,Xb,Xc,Xd,Xe,Xf,Xg,Xh,Xi,Xj,Xk,Xl,Xm,Xn,Xo,.pointer (some ⟨D1,0,none⟩),.agg (srvA s A c),.slice RA rn rc,.agg (rspA 0 0 RA rn rc 0 0)],defers:=DF } W:=by
  intro W hB i1 i2 i3 hO hI hV i4
  refine wpAnyH_ready (by kernel_rfl) (by simp) (AllReadyH.cons (i:=4) (at_nth rfl) ?_ (AllReadyH.nil))
  ·
   have hone:(srvA s A c).all (·.oneCell')=true:=srvA_one13 s A c
   have hg:=grownRowG W D2 (srvA s A c)
   have j2:=i2.row (srvA s A c)
   have hB2:=belowRow hB hD2 (srvA s A c)
   have i12:=i1.rowFar (k:=D2) h12 (srvA s A c)
   replace i3:=i3.rowFar (k:=D2) h23.symm (srvA s A c)
   replace i4:=i4.rowFar (k:=D2) h42 (srvA s A c)
   replace hO:∀ kk,kk≠D2→kk≠D3→kk < W0.heap.size→(W.setRow D2 (srvA s A c)).heap[kk]?=W0.heap[kk]?:=fun kk h2 h3 hl=>(setRow_other W D2 kk (srvA s A c) h2).trans (hO kk h2 h3 hl)
   replace hI:=hI.noS13 i2 rfl hg
   replace hV:=hV.noT13 i2 rfl hg
   refine arm10_skip (w':=W.setRow D2 (srvA s A c)) (by kernel_rfl) (run_row10 (x:=.tmp 2) (y:=.tmp 26) (by kernel_rfl) (by kernel_rfl) (by kernel_rfl) i2 infoSrv13 rfl hone) ⟨hB2,i12,i4⟩ ?_
   try simp only [Act.put]
   replace hB:=hB2
   replace i1:=i12
   clear i2 hg
   exact ST4 _ hB i1 i3 hO hI hV i4 j2
 refine wp_region_held_drew (S:=fun W=>Below B0 W0 W∧Is W D1 74 (askA s A c k AL nl cl AC nc cc)∧Is W D4 24 #[.slice RA rn rc]) (by kernel_rfl) ⟨hB,i1,i4⟩ (fun hS=>?_)
 change wpAnyH _ _ (opsOf Tryz.f62 6) _ _ 6 (Array.replicate 6 false) _ (W0.drewN 1)
 clear hS
 replace hB:Below B0 W0 (W0.drewN 1):=belowN (Below.refl _ _) 1
 replace i1:=i1.drewN 1
 replace i2:=i2.drewN 1
 replace i3:=i3.drewN 1
 replace i4:=i4.drewN 1
 replace hI:=hI.keep (belowN (Below.refl _ _) 1)
 replace hV:=hV.keep (belowN (Below.refl _ _) 1)
 refine wpP (i:=0) (v:=.pointer (some ⟨D1,0,none⟩)) HQN rfl (fun w hSw=>by go_simp) ⟨hB,i1,i4⟩ ?_
 simp only [Act.put,zz0,zz1,zz2]
 refine wpP (i:=1) (v:=.agg (srvA s A c)) HQN rfl (fun w hSw=>by exact run_load_midO12 (x:=.tmp 25) (by kernel_rfl) (by kernel_rfl) (hSw.2.1.askS13) Tryz.underlying33 rfl infoSrv13) ⟨hB,i1,i4⟩ ?_
 simp only [Act.put,zz0,zz1,zz2]
 refine wpP (i:=2) (v:=.slice RA rn rc) HQN rfl (fun w hSw=>by (have hc:=hSw.2.2.cell 0;go_simp)) ⟨hB,i1,i4⟩ ?_
 simp only [Act.put,zz0,zz1,zz2]
 refine wpP (i:=3) (v:=.agg (rspA 0 0 RA rn rc 0 0)) HQN rfl (fun w hSw=>by go_simp) ⟨hB,i1,i4⟩ ?_
 simp only [Act.put,zz0,zz1,zz2]
 exact ST _ hB i1 i2 i3 (fun _ _ _ _=>rfl) hI hV i4
def fill13 (R:List ByteArray) (T:List (Nat × ByteArray)):List ByteArray:=T.foldl (fun R p=>R.set p.1 p.2) R
theorem fill_len13 (T:List (Nat × ByteArray)):∀ R,(fill13 R T).length=R.length:=by
 induction T with
 | nil=>intro R;rfl
 | cons p r ih =>
  intro R
  show (fill13 (R.set p.1 p.2) r).length=_
  rw [ih,List.length_set]
theorem fill_next13 {R:List ByteArray} {T:List (Nat × ByteArray)} {i:Nat} {p:Nat × ByteArray} (h:T[i]?=some p):fill13 R (T.take (i + 1))=(fill13 R (T.take i)).set p.1 p.2:=by
 rw [List.take_add_one,h,fill13,List.foldl_append]
 rfl
theorem emp_succ13 (n:Nat):emp10 (n + 1)=(⟨#[]⟩:ByteArray) :: emp10 n:=rfl
theorem fill_get13 (B:List Bkt12):∀ (L P:List ByteArray),fill13 (P ++ emp10 L.length) (thr13 B P.length L)=P ++ L.map (get13 B)
 | [],P=>by
  show P ++ emp10 0=_
  rfl
 | l :: r,P=>by
  rw [List.length_cons,emp_succ13,thr13,List.map_cons,get13]
  cases hm:mp12 B l with
  | none =>
   have:=fill_get13 B r (P ++ [⟨#[]⟩])
   rw [List.length_append,List.append_assoc,List.append_assoc] at this
   exact this
  | some c =>
   have:=fill_get13 B r (P ++ [c])
   rw [List.length_append,List.append_assoc,List.append_assoc] at this
   show fill13 ((P ++ (⟨#[]⟩ :: emp10 r.length)).set P.length c) (thr13 B (P.length + 1) r)=_
   rw [List.set_append_right _ _ (Nat.le_refl _),Nat.sub_self]
   exact this
theorem fill_all13 (B:List Bkt12) (L:List ByteArray):fill13 (emp10 L.length) (thr13 B 0 L)=L.map (get13 B):=fill_get13 B L []
theorem tL_set13 (R:List ByteArray) (q:Nat) (c:ByteArray):(tL10 R).toArray.setIfInBounds q (.string c)=(tL10 (R.set q c)).toArray:=by
 rw [List.setIfInBounds_toArray,tL10,tL10,List.map_set]
theorem empC_eq13 (n:Nat):empC10 n=(tL10 (emp10 n)).toArray:=by
 rw [empC10,tL10,emp10,List.map_replicate]
theorem Is.inV13 {W:World} {g:Nat} {t:TypeId} {R:List ByteArray} (h:Is W g t (tL10 R).toArray):InV W (some ⟨g,0,none⟩) (tL10 R):=fun j u hj=>⟨g,0,rfl,h.lt,by rw [Nat.zero_add,h.cell j];simpa using hj⟩
theorem sstat_any13 (s:Srv13) (A:Option Addr) (c:Nat) (k:Int) (AL:Option Addr) (nl cl:Nat) (AC:Option Addr) (nc cc:Nat) (w:World) (hs:Rt13 s) (hI:InS w s.S A c) :
  Calls Tryz.prog 64 #[.agg (askA s A c k AL nl cl AC nc cc)] w fun e w'=>e=.returned (.tuple #[srvV s A c,.agg (rspA 0 0 none 0 0 s.S.many (s.lim - s.S.many))])∧Below w.heap.size w w':=by
 obtain ⟨W1,hW1⟩:∃ W1,W1=((w.alloc (.cells (askA s A c k AL nl cl AC nc cc) 74)).alloc (.cells #[.slice none 0 0,.int .i64 0,.int .i64 0,.int .i64 0] 33)).alloc (.cells (rspA 0 0 none 0 0 0 0) 45):=⟨_,rfl⟩
 have i1:Is W1 w.heap.size 74 (askA s A c k AL nl cl AC nc cc):=by rw [hW1];exact ((Is.new w _ _).alloc _).alloc _
 have i2:Is W1 (w.heap.size + 1) 33 #[.slice none 0 0,.int .i64 0,.int .i64 0,.int .i64 0]:=by rw [hW1];exact Is.alloc (heap_alloc2_new w _ _) _
 have i3:Is W1 (w.heap.size + 1 + 1) 45 (rspA 0 0 none 0 0 0 0):=by
  have:=Is.new ((w.alloc (.cells (askA s A c k AL nl cl AC nc cc) 74)).alloc (.cells #[.slice none 0 0,.int .i64 0,.int .i64 0,.int .i64 0] 33)) 45 (rspA 0 0 none 0 0 0 0)
  rw [hW1];simpa using this
 have hB:Below w.heap.size w W1:=by rw [hW1];exact (((Below.refl _ _).alloc (Nat.le_refl _) _).alloc (by simp) _).alloc (by simp;omega) _
 have hw:=IntWalk.i64_in (s.lim - s.S.many) (by have:=hs.lo;have:=hs.hi;have:=hs.many;have:=hs.rt.bnd.many;omega)
 have HW:=Lib.hid hw
 clear hw
 have c1:W1.cell? ⟨w.heap.size,1,none⟩=some (.int .i64 s.S.many):=i1.cell 1
 go_enter Tryz.func64,Tryz.ntmps64
 go_upto_region 1 with (fail)
 rw [← hW1]
 clear hW1
 go_upto_region 2 with (fail)
 refine Code.wp_mono ?_ (sta13_2 [] W1 w.heap.size w.heap.size (w.heap.size + 1) (w.heap.size + 1 + 1) s A c k AL nl cl AC nc cc HW none [] i1 i2 i3 (hI.keep hB) (fun j u hj=>by cases hj) (by omega) (by omega) (by omega) (by omega) (by omega) _ _ _ _ _ _ _ _ _ _ _ _ _ _)
 rintro ex ⟨T,D⟩ W2 ⟨rfl,hDf,_,hT,hB2,_,_,_,_,j2,j3⟩
 simp only at hT hDf
 subst hT
 subst hDf
 go_wp2
 exact bodyPost_ret (results_rr13 Tryz.results64 _ _ (w.heap.size + 1) 33 _ _ (w.heap.size + 1 + 1) 45 _ _ rfl j2 Tryz.underlying33 rfl infoSrv13 rfl j3 Tryz.underlying45 rfl infoRsp13) rfl ⟨rfl,belowMid13 hB hB2⟩
theorem InV.own13 {X Y:World} {A:Option Addr} {vs:List Value} {row:Option Nat} (h:InV X A vs) (hg:X.grownBy Y row) (hr:∀ r,row=some r→∃ o:Obj,X.heap[r]?=some o∧o.isCells=false):InV Y A vs:=fun j u hj=>by
 obtain ⟨b,off,rfl,hb,hc⟩:=h j u hj
 obtain ⟨ob,ho,hcl⟩:=cells_of_cell hc
 have hk:=hg.block b hb (fun e=>by
  obtain ⟨o,ho2,ho3⟩:=hr b e.symm
  rw [show X.heap[b]?=some ob from ho] at ho2
  cases ho2
  rw [hcl] at ho3
  cases ho3)
 exact ⟨b,off,rfl,Nat.lt_of_lt_of_le hb hg.size,by rw [← hc];simp only [World.cell?,hk]⟩
theorem InS.own13 {X Y:World} {s:Sto12} {A:Option Addr} {c:Nat} {row:Option Nat} (h:InS X s A c) (hg:X.grownBy Y row) (hr:∀ r,row=some r→∃ o:Obj,X.heap[r]?=some o∧o.isCells=false):InS Y s A c:=⟨h.b.own13 hg hr,h.nil,h.cap,h.fit⟩
theorem tL_blk13 {W:World} {A:Option Addr} {L:List ByteArray} (h:InV W A (tL10 L)):∀ p,A=some p→L≠[]→p.block < W.heap.size:=fun p e hn=>by
 cases L with
 | nil=>exact absurd rfl hn
 | cons x r =>
  obtain ⟨b,off,e2,hb,_⟩:=h 0 (.string x) rfl
  rw [e] at e2
  cases e2
  exact hb
theorem sget_any13 (s:Srv13) (A:Option Addr) (c:Nat) (k:Int) (AL:Option Addr) (cl:Nat) (L:List ByteArray) (AC:Option Addr) (nc cc:Nat) (w:World) (hs:Rt12 s.S) (hl:L.length≤1000) (hI:InS w s.S A c) (hL:InV w AL (tL10 L)) :
  Calls Tryz.prog 62 #[.agg (askA s A c k AL L.length cl AC nc cc)] w fun e w'=>∃ RA rc,e=.returned (.tuple #[srvV s A c,.agg (rspA 0 0 RA L.length rc 0 0)])∧InV w' RA (tL10 (L.map (get13 s.S.B)))∧Below w.heap.size w w':=by
 have HI:=Lib.hid hI
 have HL:=Lib.hid hL
 have HS:=Lib.hid hs
 have HLL:=Lib.hid hl
 clear hI hL hs hl
 refine (callsIn_wide (n:=5)).1 ?_
 refine callsIn_of_wp_marks Tryz.func62 rfl trivial ?_ rfl
 simp only [Tryz.ntmps62,List.size_toArray,List.length_cons,List.length_nil,Nat.reduceAdd,Nat.reduceSub,Array.replicate_succ,Array.replicate_zero,List.push_toArray,List.append_toArray,List.nil_append,List.cons_append]
 obtain ⟨W1,hW1⟩:∃ W1,W1=((w.alloc (.cells (askA s A c k AL L.length cl AC nc cc) 74)).alloc (.cells #[.slice none 0 0,.int .i64 0,.int .i64 0,.int .i64 0] 33)).alloc (.cells (rspA 0 0 none 0 0 0 0) 45):=⟨_,rfl⟩
 have i1:Is W1 w.heap.size 74 (askA s A c k AL L.length cl AC nc cc):=by rw [hW1];exact ((Is.new w _ _).alloc _).alloc _
 have i2:Is W1 (w.heap.size + 1) 33 #[.slice none 0 0,.int .i64 0,.int .i64 0,.int .i64 0]:=by rw [hW1];exact Is.alloc (heap_alloc2_new w _ _) _
 have i3:Is W1 (w.heap.size + 1 + 1) 45 (rspA 0 0 none 0 0 0 0):=by
  have:=Is.new ((w.alloc (.cells (askA s A c k AL L.length cl AC nc cc) 74)).alloc (.cells #[.slice none 0 0,.int .i64 0,.int .i64 0,.int .i64 0] 33)) 45 (rspA 0 0 none 0 0 0 0)
  rw [hW1];simpa using this
 have hB:Below w.heap.size w W1:=by rw [hW1];exact (((Below.refl _ _).alloc (Nat.le_refl _) _).alloc (by simp) _).alloc (by simp;omega) _
 have HS1:=Lib.hid (show W1.heap.size=w.heap.size + 3 by rw [hW1];simp)
 have c5:W1.cell? ⟨w.heap.size,5,none⟩=some (.slice AL L.length cl):=i1.cell 5
 have hmk:=run_makeS10 W1 L.length (by have:=HLL.out;omega)
 have hnil:=HLL.out
 gi_wp2_with fail
 rw [← hW1]
 clear hW1
 gi_wp2_with fail
 rw [hmk,Result.andThen_ok,Oper.uponIn_value]
 clear hmk
 have q1:=(i1.alloc (.cells (empC10 L.length) 9)).alloc (.cells #[.slice (some ⟨W1.heap.size,0,none⟩) L.length L.length] 24)
 have q2:=(i2.alloc (.cells (empC10 L.length) 9)).alloc (.cells #[.slice (some ⟨W1.heap.size,0,none⟩) L.length L.length] 24)
 have q3:=(i3.alloc (.cells (empC10 L.length) 9)).alloc (.cells #[.slice (some ⟨W1.heap.size,0,none⟩) L.length L.length] 24)
 have qR:Is ((W1.alloc (.cells (empC10 L.length) 9)).alloc (.cells #[.slice (some ⟨W1.heap.size,0,none⟩) L.length L.length] 24)) W1.heap.size 9 (tL10 (emp10 L.length)).toArray:=by rw [← empC_eq13];exact heap_alloc2_old _ _ _
 have q4:Is ((W1.alloc (.cells (empC10 L.length) 9)).alloc (.cells #[.slice (some ⟨W1.heap.size,0,none⟩) L.length L.length] 24)) (W1.heap.size + 1) 24 #[.slice (some ⟨W1.heap.size,0,none⟩) L.length L.length]:=heap_alloc2_new _ _ _
 have hB2:=(hB.alloc hB.size (.cells (empC10 L.length) 9)).alloc (by have:=hB.size;simp;omega) (.cells #[.slice (some ⟨W1.heap.size,0,none⟩) L.length L.length] 24)
 have HS2:=Lib.hid (show ((W1.alloc (.cells (empC10 L.length) 9)).alloc (.cells #[.slice (some ⟨W1.heap.size,0,none⟩) L.length L.length] 24)).heap.size=w.heap.size + 5 by simp [HS1.out])
 have c52:=q1.cell 5
 clear i1 i2 i3 hB c5
 have qs:=q1.askT13
 gi_wp2_with (refine wpListIn_load_midI rfl 31 _ rfl w.heap.size 0 rfl _ qs Tryz.underlying31 rfl infoSto12 ?_)
 generalize hW2:(W1.alloc (.cells (empC10 L.length) 9)).alloc (.cells #[.slice (some ⟨W1.heap.size,0,none⟩) L.length L.length] 24)=W2 at *
 clear hW2 qs c52
 generalize hg:W1.heap.size=g at *
 clear hg
 refine ⟨trivial,(callsIn_wide.2 (there_any13 s.S A c AL L.length cl W2)).mono ?_⟩
 rintro e W3 ⟨rfl,hW3⟩
 have r1:Is W3 w.heap.size 74 (askA s A c k AL L.length cl AC nc cc):=by rw [hW3];exact (q1.alloc _).alloc _
 have r2:Is W3 (w.heap.size + 1) 33 #[.slice none 0 0,.int .i64 0,.int .i64 0,.int .i64 0]:=by rw [hW3];exact (q2.alloc _).alloc _
 have r3:Is W3 (w.heap.size + 1 + 1) 45 (rspA 0 0 none 0 0 0 0):=by rw [hW3];exact (q3.alloc _).alloc _
 have r4:Is W3 (g + 1) 24 #[.slice (some ⟨g,0,none⟩) L.length L.length]:=by rw [hW3];exact (q4.alloc _).alloc _
 have rR:Is W3 g 9 (tL10 (emp10 L.length)).toArray:=by rw [hW3];exact (qR.alloc _).alloc _
 have rS:Is W3 W2.heap.size 31 (stoA s.S A c):=by rw [hW3];exact heap_alloc2_old _ _ _
 have rL:Is W3 (W2.heap.size + 1) 24 #[.slice AL L.length cl]:=by rw [hW3];exact heap_alloc2_new _ _ _
 have hB3:Below w.heap.size w W3:=by rw [hW3];exact (hB2.alloc hB2.size _).alloc (by have:=hB2.size;simp;omega) _
 have HS3:=Lib.hid (show W3.heap.size=w.heap.size + 7 by rw [hW3];have:=HS2.out;simp;omega)
 clear q1 q2 q3 q4 qR hB2 hW3 hnil
 generalize hBN:W2.heap.size=BN at *
 have HBN:=Lib.hid (show BN=w.heap.size + 5 from HS2.out)
 clear hBN
 gi_wp2_with fail
 refine wpIn_rangeL rfl (by omega) (gf:=110) (lb:=#[.pointer (some ⟨BN + 1,0,none⟩),.pointer (some ⟨BN,0,none⟩)]) rfl trivial (enters_of Tryz.func110 (by kernel_rfl) rfl) (S:=fun k=>k < w.heap.size∨k=BN∨k=BN + 1)
  (there_seq13 4 (by omega) BN (BN + 1) s.S A c AL cl L W3 HS.out rS rL (HI.out.keep hB3) (HL.out.keep hB3) (by have:=HLL.out;omega) _ (.inr (.inl rfl)) (.inr (.inr rfl)) (fun p e hn=>.inl (HI.out.b.blkB p e hn)) (fun p e hn=>.inl (tL_blk13 HL.out p e hn)) (fun k hk=>by have:=rS.lt;have:=rL.lt;have:=hB3.size;omega))
  (Stay.refl _ _) (fun k hk=>by have:=rS.lt;have:=rL.lt;have:=hB3.size;omega) (fun _=>rfl)
  (fun i W=>Below w.heap.size w W∧Is W w.heap.size 74 (askA s A c k AL L.length cl AC nc cc)∧Is W (w.heap.size + 1) 33 #[.slice none 0 0,.int .i64 0,.int .i64 0,.int .i64 0]∧Is W (w.heap.size + 1 + 1) 45 (rspA 0 0 none 0 0 0 0)∧Is W (g + 1) 24 #[.slice (some ⟨g,0,none⟩) L.length L.length]∧Is W g 9 (tL10 (fill13 (emp10 L.length) ((thr13 s.S.B 0 L).take i))).toArray)
  (fun c _ W=>False)
  (fun s X Y row hs hg hr=>⟨belowOwn12 hs.1 hs.1.size (by have:=hB3.size;omega) hg hr,isOwn12 hs.2.1 hg hr,isOwn12 hs.2.2.1 hg hr,isOwn12 hs.2.2.2.1 hg hr,isOwn12 hs.2.2.2.2.1 hg hr,isOwn12 hs.2.2.2.2.2 hg hr⟩)
  (fun c s X Y row hs hg hr=>hs.elim)
  ⟨hB3,r1,r2,r3,r4,rR⟩ ?round ?done ?stop
 case round =>
  rintro l2 i ⟨q,y⟩ W hl hlt hx ⟨hb,j1,j2,j3,j4,jR⟩
  gi_wp2
  refine ⟨Stay.refl _ _,⟨hb,j1,j2,j3,j4,jR⟩,fun _=>True,fun _ _ _ _ _ _ _=>trivial,trivial,?_⟩
  clear hb j1 j2 j3 j4 jR
  rintro W4 hl4 ⟨hb,j1,j2,j3,j4,jR⟩ _
  obtain ⟨x,hq,_,_⟩:=thr_mem13 hx
  have hql:q < L.length:=by simpa using (List.getElem?_eq_some_iff.1 hq).1
  have hqi:(q:Int) < (L.length:Int):=by omega
  have HN:=Lib.hid (fill_next13 (R:=emp10 L.length) hx)
  have hln:=fill_len13 ((thr13 s.S.B 0 L).take i) (emp10 L.length)
  rw [show (emp10 L.length).length=L.length from List.length_replicate] at hln
  generalize fill13 (emp10 L.length) ((thr13 s.S.B 0 L).take i)=R at *
  have hcq:=jR.cell q
  rw [List.getElem?_toArray,tL10,List.getElem?_map,List.getElem?_eq_getElem (by omega),Option.map_some] at hcq
  have hfq:=jR.frozen q
  have c4:=j4.cell 0
  have jN:=jR.set q (.string y)
  rw [tL_set13,← HN.out] at jN
  have HJN:=Lib.hid jN
  clear jN hx hq
  gi_wp2
  have hG:=HS1.out
  have hGB:=HBN.out
  have hG3:=HS3.out
  refine ⟨(Stay.refl _ _).grown (grownSetG _ _ _) (fun r e=>by cases e;exact .inl (by simp only [];omega)),hb.setCell (by simp only [];omega) _,j1.far (by simp only [];omega) _,j2.far (by simp only [];omega) _,j3.far (by simp only [];omega) _,j4.far (by simp only [];omega) _,HJN.out⟩
 case done =>
  rintro D W hD ⟨hb,j1,j2,j3,j4,jR⟩ hK
  rw [List.take_length,fill_all13] at jR
  gi_wp2_with fail
  rw [wpIn_wide]
  have hG:=HS1.out
  refine Code.wp_mono ?_ (get13_6 _ W w.heap.size w.heap.size (w.heap.size + 1) (w.heap.size + 1 + 1) s A c k AL L.length cl AC nc cc (g + 1) L.length L.length (by omega) (by omega) (some ⟨g,0,none⟩) (L.map (get13 s.S.B)) j1 j2 j3 (HI.out.keep hb) jR.inV13 j4 (by omega) (by omega) (by omega) (by omega) (by omega) _ _ _ _ _ _ _ _ _ _ _ _ _ _ _ _ _ _ _ _ _ _ _ _ _)
  clear hG
  rintro ex ⟨T,D2⟩ W5 ⟨rfl,hDf,_,hT,hB5,_,hO5,_,hV5,j42,j25,j35⟩
  simp only at hT hDf
  subst hT
  subst hDf
  have hG:=HS1.out
  have hG3:=HS3.out
  have hK5:=(hO5 D (by omega) (by omega) (Array.getElem?_eq_some_iff.1 hK).1).trans hK
  clear hG hG3 hO5
  gi_wp2
  refine ⟨by simp,.inl ⟨_,_,rfl,run_takeDeferred hK5,?_⟩⟩
  have hgr:=grownBy_putObj' W5 D (.deferred none)
  have hrr:∀ r,some D=some r→W3.heap.size≤r∧∃ o:Obj,W5.heap[r]?=some o∧o.isCells=false:=fun r e=>by cases e;exact ⟨hD,_,hK5,rfl⟩
  have hb5:=hb.trans hB5
  exact ⟨_,results_rr13 Tryz.results62 _ _ (w.heap.size + 1) 33 _ _ (w.heap.size + 1 + 1) 45 _ _ rfl (isOwn12 j25 hgr hrr) Tryz.underlying33 rfl infoSrv13 rfl (isOwn12 j35 hgr hrr) Tryz.underlying45 rfl infoRsp13,some ⟨g,0,none⟩,L.length,rfl,hV5.own13 hgr (fun r e=>(hrr r e).2),belowOwn12 hb5 hb5.size (by have:=hB3.size;omega) hgr hrr⟩
 case stop =>
  rintro D c i W hD hf
  exact hf.elim
end Go.Proofs.YtmggbbmpckcleaaGreat
namespace Go.Proofs.YtmggbbmpckcleaaGreat
open Go.RowKit Go.Shelf
attribute [local go_sem] Oper.semAt_some
theorem run_store_mid13 {P:Program} {w:World} {o:Oper} {a:Act} {ty:TypeId} {x y:Operand} (ho:o.op=.store ty x y) {b off:Nat} {cs:Array Value} (hx:a.eval x=.pointer (some ⟨b,off,none⟩)) (hy:a.eval y=.agg cs)
  (ht:w.there b off cs.size) (hi:(P.info? ty).map (·.size)=some cs.size) (h1:cs.all (·.oneCell')=true):(execOp a.eval o).run P w=.ok .skip (w.setCells b off cs.toList):=by
 simp only [execOp,ho,hx,hy,Instr.storeAt,Instr.sureAddr,Sem.run_bind,Sem.run_pure,Result.andThen_ok,run_storeVar_mid w b off ty cs ht hi h1]
theorem grownSet13 (W:World) (D:Nat) (a b c:Value):W.grownBy (W.setCells D 0 [a,b,c]) (some D):=by
 rw [setCells3]
 exact grown_trans12 (grown_trans12 (grownSetG W ⟨D,0,none⟩ a) (grownSetG _ ⟨D,0 + 1,none⟩ b)) (grownSetG _ ⟨D,0 + 2,none⟩ c)
theorem setCells3_far13 {W:World} {D:Nat} {a b c:Value} {p:Addr} (h:p.block=D→p.off < 0∨3≤p.off):(W.setCells D 0 [a,b,c]).cell? p=W.cell? p:=World.cell?_setCells_out D [a,b,c] 0 W p (fun e _=>(h e).imp id (fun h=>by simpa using h))
section
variable {W:World} {D:Nat} {s:Srv13} {A:Option Addr} {c:Nat} {k:Int} {AL:Option Addr} {nl cl:Nat} {AC:Option Addr} {nc cc:Nat}
theorem Is.askN13 (h:Is W D 74 (askA s A c k AL nl cl AC nc cc)) (S:Sto12) (A1:Option Addr) (c1:Nat):Is (W.setCells D 0 [.slice A1 S.B.length c1,.int .i64 S.many,.int .i64 S.gone]) D 74 (askA ⟨S,s.lim⟩ A1 c1 k AL nl cl AC nc cc):=((h.set 0 _).set 1 _).set 2 _
theorem Is.askO13 (h:Is W D 74 (askA s A c k AL nl cl AC nc cc)):W.there D 0 3:=fun j hj=>by
 have h1:=h.cell (0 + j)
 have h2:=h.frozen (0 + j)
 refine ⟨?_,h2⟩
 rw [h1]
 rcases (by omega:j=0∨j=1∨j=2) with rfl | rfl | rfl <;> rfl
end
def isl13 (B:List Bkt12) (L:List ByteArray):List ByteArray:=L.filter fun l=>(mp12 B l).isSome
theorem isl_cons13 (B:List Bkt12) (l:ByteArray) (r:List ByteArray):isl13 B (l :: r)=(match mp12 B l with | some _=>l :: isl13 B r | none=>isl13 B r):=by
 rw [isl13,List.filter_cons]
 cases mp12 B l <;> rfl
theorem thr_isl13 {B:List Bkt12}:∀ {L:List ByteArray} {i j:Nat} {p:Nat × ByteArray},(thr13 B i L)[j]?=some p→(isl13 B L)[j]?=L[p.1 - i]?∧i≤p.1
 | [],i,j,p,h=>by cases h
 | l :: r,i,j,p,h=>by
  rw [thr13] at h
  rw [isl_cons13]
  cases hm:mp12 B l with
  | none =>
   rw [hm] at h
   obtain ⟨h1,h2⟩:=thr_isl13 (L:=r) h
   exact ⟨by rw [show p.1 - i=(p.1 - (i + 1)) + 1 by omega];exact h1,by omega⟩
  | some c =>
   rw [hm] at h
   cases j with
   | zero=>cases h;exact ⟨by rw [Nat.sub_self];rfl,Nat.le_refl _⟩
   | succ j =>
    obtain ⟨h1,h2⟩:=thr_isl13 (L:=r) (j:=j) h
    exact ⟨by rw [show p.1 - i=(p.1 - (i + 1)) + 1 by omega];exact h1,by omega⟩
theorem isl_len13 (B:List Bkt12) (L:List ByteArray):(isl13 B L).length=has13 B L:=by rw [isl13,has13,List.countP_eq_length_filter]
theorem dels_isl13 {B:List Bkt12}:∀ (L:List ByteArray) (t:Sto12),Rt12 t→L.Nodup→(∀ l ∈ L,mp12 t.B l=mp12 B l)→dels13 t (isl13 B L)=dels13 t L
 | [],_,_,_,_=>rfl
 | l :: r,t,h,hd,hm=>by
  rw [List.nodup_cons] at hd
  have hl:=hm l List.mem_cons_self
  rw [isl_cons13]
  show _=dels13 (delV12 t l).1 r
  cases hc:mp12 B l with
  | none =>
   rw [hc] at hl
   rw [del_none12 h hl]
   exact dels_isl13 r t h hd.2 fun x hx=>hm x (List.mem_cons_of_mem _ hx)
  | some c =>
   obtain ⟨_,d2,d3,_⟩:=del_ok12 h (l:=l)
   show dels13 (delV12 t l).1 (isl13 B r)=_
   exact dels_isl13 r _ d2 hd.2 fun x hx=>by rw [d3,if_neg (fun e:x=l=>hd.1 (e ▸ hx)),hm x (List.mem_cons_of_mem _ hx)]
theorem dels_next13 {s:Sto12} {L:List ByteArray} {i:Nat} {x:ByteArray} (h:L[i]?=some x):dels13 s (L.take (i + 1))=(delV12 (dels13 s (L.take i)) x).1:=by
 rw [List.take_add_one,h,dels_app13]
 rfl
theorem del13_4 (lR nR:Nat) (DF:List Deferred) (W0:World) (B0 D1:Nat) (s:Srv13) (A:Option Addr) (c:Nat) (k:Int) (b off:Nat) (nl cl:Nat) (AC:Option Addr) (nc cc:Nat) (q:Nat) (l:ByteArray) (hq:q < nl) (hbB:b < B0) (hx:W0.cell? ⟨b,off + q,none⟩=some (.string l)) (c5:W0.cell? ⟨D1,5,none⟩=some (.slice (some ⟨b,off,none⟩) nl cl)) (i1:Is W0 D1 74 (askA s A c k (some ⟨b,off,none⟩) nl cl AC nc cc)) (hI:InS W0 s.S A c) (hD1:B0≤D1) (hsz:B0≤W0.heap.size) (x0 x2 x3 x4 x6 x7 x8 x9 Xa Xb Xc Xd Xe Xf Xg Xh Xi Xj Xk Xl Xm Xn Xo Xp Xq Xr Xs Xt Xu Xv Xw Xx Xy Xz Ya:Value) :
  (Code.region 4 (opsOf Tryz.f63 4) true).wpIn (Fence.wide.inRound lR) nR Tryz.prog (fun ex YY W=>ex=.normal∧YY.defers=DF∧∃ (AQ:Option Addr) (cQ:Nat),YY.tmps=#[x0,.pointer (some ⟨D1,0,none⟩),x2,x3,x4,.int .i64 (q:Int),x6,x7,x8,x9,Xa,Xb,Xc,Xd,Xe,.tuple #[(.agg (stoA (delV12 s.S l).1 AQ cQ)),.bool (delV12 s.S l).2.1,.int .i64 (delV12 s.S l).2.2],.pointer (some ⟨D1,0,none⟩),.pointer (some ⟨D1,0,none⟩),.agg (stoA s.S A c),.pointer (some ⟨D1,4,none⟩),.pointer (some ⟨D1,5,none⟩),.slice (some ⟨b,off,none⟩) nl cl,.int .i64 (q:Int),.pointer (some ⟨b,off + q,none⟩),.string l,.tuple #[(.agg (stoA (delV12 s.S l).1 AQ cQ)),.bool (delV12 s.S l).2.1,.int .i64 (delV12 s.S l).2.2],(.agg (stoA (delV12 s.S l).1 AQ cQ)),.bool (delV12 s.S l).2.1,.int .i64 (delV12 s.S l).2.2,.pointer (some ⟨D1,0,none⟩),.pointer (some ⟨D1,0,none⟩),Xv,Xw,Xx,Xy,Xz,Ya]∧Below B0 W0 W∧W.cell? ⟨D1,5,none⟩=some (.slice (some ⟨b,off,none⟩) nl cl)∧(∀ k,k≠D1→k < W0.heap.size→W.heap[k]?=W0.heap[k]?)∧InS W (delV12 s.S l).1 AQ cQ∧Is W D1 74 (askA ⟨(delV12 s.S l).1,s.lim⟩ AQ cQ k (some ⟨b,off,none⟩) nl cl AC nc cc)) { tmps:=#[x0,.pointer (some ⟨D1,0,none⟩),x2,x3,x4,.int .i64 (q:Int),x6,x7,x8,x9,Xa,Xb,Xc,Xd,Xe,Xf,Xg,Xh,Xi,Xj,Xk,Xl,Xm,Xn,Xo,Xp,Xq,Xr,Xs,Xt,Xu,Xv,Xw,Xx,Xy,Xz,Ya],defers:=DF } W0:=by
 have hB:Below B0 W0 (W0.drewN 1):=belowN (Below.refl _ _) 1
 generalize hQ:(fun (ex:Exit) (YY:Act) (W:World)=>ex=.normal∧YY.defers=DF∧∃ (AQ:Option Addr) (cQ:Nat),YY.tmps=#[x0,.pointer (some ⟨D1,0,none⟩),x2,x3,x4,.int .i64 (q:Int),x6,x7,x8,x9,Xa,Xb,Xc,Xd,Xe,.tuple #[(.agg (stoA (delV12 s.S l).1 AQ cQ)),.bool (delV12 s.S l).2.1,.int .i64 (delV12 s.S l).2.2],.pointer (some ⟨D1,0,none⟩),.pointer (some ⟨D1,0,none⟩),.agg (stoA s.S A c),.pointer (some ⟨D1,4,none⟩),.pointer (some ⟨D1,5,none⟩),.slice (some ⟨b,off,none⟩) nl cl,.int .i64 (q:Int),.pointer (some ⟨b,off + q,none⟩),.string l,.tuple #[(.agg (stoA (delV12 s.S l).1 AQ cQ)),.bool (delV12 s.S l).2.1,.int .i64 (delV12 s.S l).2.2],(.agg (stoA (delV12 s.S l).1 AQ cQ)),.bool (delV12 s.S l).2.1,.int .i64 (delV12 s.S l).2.2,.pointer (some ⟨D1,0,none⟩),.pointer (some ⟨D1,0,none⟩),Xv,Xw,Xx,Xy,Xz,Ya]∧Below B0 W0 W∧W.cell? ⟨D1,5,none⟩=some (.slice (some ⟨b,off,none⟩) nl cl)∧(∀ k,k≠D1→k < W0.heap.size→W.heap[k]?=W0.heap[k]?)∧InS W (delV12 s.S l).1 AQ cQ∧Is W D1 74 (askA ⟨(delV12 s.S l).1,s.lim⟩ AQ cQ k (some ⟨b,off,none⟩) nl cl AC nc cc))=Q
 have HQN:∀ c a W,¬ Q (.panic c) a W:=fun c a W h=>by subst hQ;exact nomatch h.1
 have ST2_9_16:∀ (W:World) (AQ:Option Addr) (cQ:Nat),Below B0 W0 W→W.cell? ⟨D1,5,none⟩=some (.slice (some ⟨b,off,none⟩) nl cl)→(∀ k,k≠D1→k < W0.heap.size→W.heap[k]?=W0.heap[k]?)→InS W (delV12 s.S l).1 AQ cQ→Is W D1 74 (askA ⟨(delV12 s.S l).1,s.lim⟩ AQ cQ k (some ⟨b,off,none⟩) nl cl AC nc cc)→wpAnyH Tryz.prog .any (opsOf Tryz.f63 4) Q (fun W=>Below B0 W0 W∧W.cell? ⟨D1,5,none⟩=some (.slice (some ⟨b,off,none⟩) nl cl)) 0 #[true,true,true,true,true,true,true,true,true,true,true,true,true,true,true,true,true] { tmps:=#[x0,.pointer (some ⟨D1,0,none⟩),x2,x3,x4,.int .i64 (q:Int),x6,x7,x8,x9,Xa,Xb,Xc,Xd,Xe,.tuple #[(.agg (stoA (delV12 s.S l).1 AQ cQ)),.bool (delV12 s.S l).2.1,.int .i64 (delV12 s.S l).2.2],.pointer (some ⟨D1,0,none⟩),.pointer (some ⟨D1,0,none⟩),.agg (stoA s.S A c),.pointer (some ⟨D1,4,none⟩),.pointer (some ⟨D1,5,none⟩),.slice (some ⟨b,off,none⟩) nl cl,.int .i64 (q:Int),.pointer (some ⟨b,off + q,none⟩),.string l,.tuple #[(.agg (stoA (delV12 s.S l).1 AQ cQ)),.bool (delV12 s.S l).2.1,.int .i64 (delV12 s.S l).2.2],(.agg (stoA (delV12 s.S l).1 AQ cQ)),.bool (delV12 s.S l).2.1,.int .i64 (delV12 s.S l).2.2,.pointer (some ⟨D1,0,none⟩),.pointer (some ⟨D1,0,none⟩),Xv,Xw,Xx,Xy,Xz,Ya],defers:=DF } W:=by
  intro W AQ cQ hB c5 hO hZ j1
  refine wpAnyH_done (by kernel_rfl) ?_ _
  subst hQ
  exact ⟨rfl,rfl,AQ,cQ,rfl,hB,c5,hO,hZ,j1⟩
 have ST2_9:∀ (W:World) (AQ:Option Addr) (cQ:Nat),Below B0 W0 W→W.cell? ⟨D1,5,none⟩=some (.slice (some ⟨b,off,none⟩) nl cl)→(∀ k,k≠D1→k < W0.heap.size→W.heap[k]?=W0.heap[k]?)→Is W D1 74 (askA s A c k (some ⟨b,off,none⟩) nl cl AC nc cc)→InS W (delV12 s.S l).1 AQ cQ→wpAnyH Tryz.prog .any (opsOf Tryz.f63 4) Q (fun W=>Below B0 W0 W∧W.cell? ⟨D1,5,none⟩=some (.slice (some ⟨b,off,none⟩) nl cl)) 1 #[true,true,true,true,true,true,true,true,true,true,true,true,true,true,true,true,false] { tmps:=#[x0,.pointer (some ⟨D1,0,none⟩),x2,x3,x4,.int .i64 (q:Int),x6,x7,x8,x9,Xa,Xb,Xc,Xd,Xe,.tuple #[(.agg (stoA (delV12 s.S l).1 AQ cQ)),.bool (delV12 s.S l).2.1,.int .i64 (delV12 s.S l).2.2],.pointer (some ⟨D1,0,none⟩),.pointer (some ⟨D1,0,none⟩),.agg (stoA s.S A c),.pointer (some ⟨D1,4,none⟩),.pointer (some ⟨D1,5,none⟩),.slice (some ⟨b,off,none⟩) nl cl,.int .i64 (q:Int),.pointer (some ⟨b,off + q,none⟩),.string l,.tuple #[(.agg (stoA (delV12 s.S l).1 AQ cQ)),.bool (delV12 s.S l).2.1,.int .i64 (delV12 s.S l).2.2],(.agg (stoA (delV12 s.S l).1 AQ cQ)),.bool (delV12 s.S l).2.1,.int .i64 (delV12 s.S l).2.2,.pointer (some ⟨D1,0,none⟩),.pointer (some ⟨D1,0,none⟩),Xv,Xw,Xx,Xy,Xz,Ya],defers:=DF } W:=by
  intro W AQ cQ hB c5 hO i1 hZ
  refine wpAnyH_ready (by kernel_rfl) (by simp) (AllReadyH.cons (i:=16) (at_nth rfl) ?_ (AllReadyH.nil))
  ·
   have hg:=grownSet13 W D1 (.slice AQ (delV12 s.S l).1.B.length cQ) (.int .i64 (delV12 s.S l).1.many) (.int .i64 (delV12 s.S l).1.gone)
   have hone:=stoA_one12 (delV12 s.S l).1 AQ cQ
   have j1:=i1.askN13 (delV12 s.S l).1 AQ cQ
   have hT:=i1.askO13
   replace hZ:=hZ.noS13 i1 rfl hg
   replace c5:=((setCells3_far13 (by simp)).trans c5:(W.setCells D1 0 [.slice AQ (delV12 s.S l).1.B.length cQ,.int .i64 (delV12 s.S l).1.many,.int .i64 (delV12 s.S l).1.gone]).cell? ⟨D1,5,none⟩=some (.slice (some ⟨b,off,none⟩) nl cl))
   replace hO:∀ k,k≠D1→k < W0.heap.size→(W.setCells D1 0 [.slice AQ (delV12 s.S l).1.B.length cQ,.int .i64 (delV12 s.S l).1.many,.int .i64 (delV12 s.S l).1.gone]).heap[k]?=W0.heap[k]?:=fun k h1 hl=>(hg.block k (Nat.lt_of_lt_of_le hl hB.size) (fun e=>h1 (Option.some.inj e))).trans (hO k h1 hl)
   have hB2:=below_cells3 hB hD1 0 (.slice AQ (delV12 s.S l).1.B.length cQ) (.int .i64 (delV12 s.S l).1.many) (.int .i64 (delV12 s.S l).1.gone)
   refine arm10_skip (w':=W.setCells D1 0 [.slice AQ (delV12 s.S l).1.B.length cQ,.int .i64 (delV12 s.S l).1.many,.int .i64 (delV12 s.S l).1.gone]) (by kernel_rfl) (run_store_mid13 (x:=.tmp 30) (y:=.tmp 26) (cs:=stoA (delV12 s.S l).1 AQ cQ) (by kernel_rfl) (by kernel_rfl) (by kernel_rfl) hT infoSto12 hone) ⟨hB2,c5⟩ ?_
   try simp only [Act.put]
   replace hB:=hB2
   clear i1 hg hT
   exact ST2_9_16 _ _ _ hB c5 hO hZ j1
 have ST2:∀ (W:World),Below B0 W0 W→W.cell? ⟨D1,5,none⟩=some (.slice (some ⟨b,off,none⟩) nl cl)→(∀ k,k≠D1→k < W0.heap.size→W.heap[k]?=W0.heap[k]?)→Is W D1 74 (askA s A c k (some ⟨b,off,none⟩) nl cl AC nc cc)→InS W s.S A c→wpAnyH Tryz.prog .any (opsOf Tryz.f63 4) Q (fun W=>Below B0 W0 W∧W.cell? ⟨D1,5,none⟩=some (.slice (some ⟨b,off,none⟩) nl cl)) 8 #[true,true,true,true,true,true,true,true,true,false,false,false,false,false,false,false,false] { tmps:=#[x0,.pointer (some ⟨D1,0,none⟩),x2,x3,x4,.int .i64 (q:Int),x6,x7,x8,x9,Xa,Xb,Xc,Xd,Xe,Xf,.pointer (some ⟨D1,0,none⟩),.pointer (some ⟨D1,0,none⟩),.agg (stoA s.S A c),.pointer (some ⟨D1,4,none⟩),.pointer (some ⟨D1,5,none⟩),.slice (some ⟨b,off,none⟩) nl cl,.int .i64 (q:Int),.pointer (some ⟨b,off + q,none⟩),.string l,Xp,Xq,Xr,Xs,Xt,Xu,Xv,Xw,Xx,Xy,Xz,Ya],defers:=DF } W:=by
  intro W hB c5 hO i1 hI
  refine wpAnyH_ready (by kernel_rfl) (by simp) (AllReadyH.cons (i:=9) (at_nth rfl) ?_ (AllReadyH.nil))
  ·
   refine arm10_call (by kernel_rfl) (fun wy=>by kernel_rfl) ((bdel_any12 s.S A c l _ hI).mono ?_)
   rintro e Wn ⟨AQ,cQ,rfl,hZ,hb⟩
   replace c5:=(hb.cell (p:=⟨D1,5,none⟩) i1.lt).trans c5
   replace hO:∀ k,k≠D1→k < W0.heap.size→Wn.heap[k]?=W0.heap[k]?:=fun k h1 hl=>(hb.block k (Nat.lt_of_lt_of_le hl hB.size)).trans (hO k h1 hl)
   replace i1:=i1.below hb i1.lt
   replace hB:=hB.trans (hb.mono (Nat.le_trans hsz hB.size))
   clear hb
   refine ⟨_,rfl,⟨hB,c5⟩,?_⟩
   simp only [Act.put,zz0,zz1,zz2]
   refine wpP (i:=10) (v:=.tuple #[(.agg (stoA (delV12 s.S l).1 AQ cQ)),.bool (delV12 s.S l).2.1,.int .i64 (delV12 s.S l).2.2]) HQN rfl (fun w hSw=>by kernel_rfl) ⟨hB,c5⟩ ?_
   simp only [Act.put,zz0,zz1,zz2]
   refine wpP (i:=11) (v:=(.agg (stoA (delV12 s.S l).1 AQ cQ))) HQN rfl (fun w hSw=>by kernel_rfl) ⟨hB,c5⟩ ?_
   simp only [Act.put,zz0,zz1,zz2]
   refine wpP (i:=12) (v:=.bool (delV12 s.S l).2.1) HQN rfl (fun w hSw=>by kernel_rfl) ⟨hB,c5⟩ ?_
   simp only [Act.put,zz0,zz1,zz2]
   refine wpP (i:=13) (v:=.int .i64 (delV12 s.S l).2.2) HQN rfl (fun w hSw=>by kernel_rfl) ⟨hB,c5⟩ ?_
   simp only [Act.put,zz0,zz1,zz2]
   refine wpP (i:=14) (v:=.pointer (some ⟨D1,0,none⟩)) HQN rfl (fun w hSw=>by go_simp) ⟨hB,c5⟩ ?_
   simp only [Act.put,zz0,zz1,zz2]
   refine wpP (i:=15) (v:=.pointer (some ⟨D1,0,none⟩)) HQN rfl (fun w hSw=>by go_simp) ⟨hB,c5⟩ ?_
   simp only [Act.put,zz0,zz1,zz2]
   exact ST2_9 _ _ _ hB c5 hO i1 hZ
 have ST:∀ (W:World),Below B0 W0 W→W.cell? ⟨D1,5,none⟩=some (.slice (some ⟨b,off,none⟩) nl cl)→(∀ k,k≠D1→k < W0.heap.size→W.heap[k]?=W0.heap[k]?)→Is W D1 74 (askA s A c k (some ⟨b,off,none⟩) nl cl AC nc cc)→InS W s.S A c→wpAnyH Tryz.prog .any (opsOf Tryz.f63 4) Q (fun W=>Below B0 W0 W∧W.cell? ⟨D1,5,none⟩=some (.slice (some ⟨b,off,none⟩) nl cl)) 9 #[true,true,false,true,true,true,true,true,true,false,false,false,false,false,false,false,false] { tmps:=#[x0,.pointer (some ⟨D1,0,none⟩),x2,x3,x4,.int .i64 (q:Int),x6,x7,x8,x9,Xa,Xb,Xc,Xd,Xe,Xf,.pointer (some ⟨D1,0,none⟩),.pointer (some ⟨D1,0,none⟩),Xi,.pointer (some ⟨D1,4,none⟩),.pointer (some ⟨D1,5,none⟩),.slice (some ⟨b,off,none⟩) nl cl,.int .i64 (q:Int),.pointer (some ⟨b,off + q,none⟩),.string l,Xp,Xq,Xr,Xs,Xt,Xu,Xv,Xw,Xx,Xy,Xz,Ya],defers:=DF } W:=by
  intro W hB c5 hO i1 hI
  refine wpAnyH_ready (by kernel_rfl) (by simp) (AllReadyH.cons (i:=2) (at_nth rfl) ?_ (AllReadyH.nil))
  ·
   refine arm10_value (v:=.agg (stoA s.S A c)) (w':=W) (by kernel_rfl) (run_load_midO12 (x:=.tmp 17) (by kernel_rfl) (by kernel_rfl) i1.askT13 Tryz.underlying31 rfl infoSto12) ⟨hB,c5⟩ ?_
   simp only [Act.put,zz0,zz1,zz2]
   exact ST2 _ hB c5 hO i1 hI
 refine regIn_of12 (S:=fun W=>Below B0 W0 W∧W.cell? ⟨D1,5,none⟩=some (.slice (some ⟨b,off,none⟩) nl cl)) (by kernel_rfl) (by kernel_rfl) (fun h=>by obtain ⟨_,_,h⟩:=h;subst hQ;exact nomatch h.1) ?_
 change wpAnyH _ _ (opsOf Tryz.f63 4) _ _ 17 (Array.replicate 17 false) _ (W0.drewN 1)
 replace hB:Below B0 W0 (W0.drewN 1):=belowN (Below.refl _ _) 1
 replace i1:=i1.drewN 1
 replace hI:=hI.keep (belowN (Below.refl _ _) 1)
 refine wpP (i:=0) (v:=.pointer (some ⟨D1,0,none⟩)) HQN rfl (fun w hSw=>by go_simp) ⟨hB,c5⟩ ?_
 simp only [Act.put,zz0,zz1,zz2]
 refine wpP (i:=1) (v:=.pointer (some ⟨D1,0,none⟩)) HQN rfl (fun w hSw=>by go_simp) ⟨hB,c5⟩ ?_
 simp only [Act.put,zz0,zz1,zz2]
 refine wpP (i:=3) (v:=.pointer (some ⟨D1,4,none⟩)) HQN rfl (fun w hSw=>by go_simp) ⟨hB,c5⟩ ?_
 simp only [Act.put,zz0,zz1,zz2]
 refine wpP (i:=4) (v:=.pointer (some ⟨D1,5,none⟩)) HQN rfl (fun w hSw=>by go_simp) ⟨hB,c5⟩ ?_
 simp only [Act.put,zz0,zz1,zz2]
 refine wpP (i:=5) (v:=.slice (some ⟨b,off,none⟩) nl cl) HQN rfl (fun w hSw=>by (have hc:=hSw.2;go_simp)) ⟨hB,c5⟩ ?_
 simp only [Act.put,zz0,zz1,zz2]
 refine wpP (i:=6) (v:=.int .i64 (q:Int)) HQN rfl (fun w hSw=>by kernel_rfl) ⟨hB,c5⟩ ?_
 simp only [Act.put,zz0,zz1,zz2]
 refine wpP (i:=7) (v:=.pointer (some ⟨b,off + q,none⟩)) HQN rfl (fun w hSw=>by (have hk':=hq;go_simp)) ⟨hB,c5⟩ ?_
 simp only [Act.put,zz0,zz1,zz2]
 refine wpP (i:=8) (v:=.string l) HQN rfl (fun w hSw=>by (have hc:=(hSw.1.cell (p:=⟨b,off + q,none⟩) hbB).trans hx;go_simp)) ⟨hB,c5⟩ ?_
 simp only [Act.put,zz0,zz1,zz2]
 exact ST _ hB c5 (fun _ _ _=>rfl) i1 hI
theorem del13_6 (DF:List Deferred) (W0:World) (B0 D1 D2 D3:Nat) (s:Srv13) (A:Option Addr) (c:Nat) (k:Int) (AL:Option Addr) (nl cl:Nat) (AC:Option Addr) (nc cc:Nat) (D4:Nat) (m:Int) (h42:D4≠D2) (h43:D4≠D3) (RA:Option Addr) (RC:List ByteArray) (i1:Is W0 D1 74 (askA s A c k AL nl cl AC nc cc)) (i2:Is W0 D2 33 #[.slice none 0 0,.int .i64 0,.int .i64 0,.int .i64 0]) (i3:Is W0 D3 45 (rspA 0 0 none 0 0 0 0)) (hI:InS W0 s.S A c) (hV:InV W0 RA (tL10 RC)) (i4:Is W0 D4 3 #[.int .i64 m]) (hD2:B0≤D2) (hD3:B0≤D3) (h12:D1≠D2) (h13:D1≠D3) (h23:D2≠D3) (x0 x5 x6 x7 x8 x9 Xa Xb Xc Xd Xe Xf Xg Xh Xi Xj Xk Xl Xm Xn Xo Xp Xq Xr Xs Xt Xu Xv Xw Xx Xy Xz Ya:Value) :
  (Code.region 6 (opsOf Tryz.f63 6) true).wp Tryz.prog (fun ex YY W=>ex=.normal∧YY.defers=DF∧∃ (_:Unit),YY.tmps=#[x0,.pointer (some ⟨D1,0,none⟩),.pointer (some ⟨D2,0,none⟩),.pointer (some ⟨D3,0,none⟩),.pointer (some ⟨D4,0,none⟩),x5,x6,x7,x8,x9,Xa,Xb,Xc,Xd,Xe,Xf,Xg,Xh,Xi,Xj,Xk,Xl,Xm,Xn,Xo,Xp,Xq,Xr,Xs,Xt,Xu,Xv,Xw,.pointer (some ⟨D1,0,none⟩),.agg (srvA s A c),.int .i64 m,.agg (rspA 0 0 none 0 0 m 0)]∧Below B0 W0 W∧Is W D1 74 (askA s A c k AL nl cl AC nc cc)∧(∀ kk,kk≠D2→kk≠D3→kk < W0.heap.size→W.heap[kk]?=W0.heap[kk]?)∧InS W s.S A c∧InV W RA (tL10 RC)∧Is W D4 3 #[.int .i64 m]∧Is W D2 33 (srvA s A c)∧Is W D3 45 (rspA 0 0 none 0 0 m 0)) { tmps:=#[x0,.pointer (some ⟨D1,0,none⟩),.pointer (some ⟨D2,0,none⟩),.pointer (some ⟨D3,0,none⟩),.pointer (some ⟨D4,0,none⟩),x5,x6,x7,x8,x9,Xa,Xb,Xc,Xd,Xe,Xf,Xg,Xh,Xi,Xj,Xk,Xl,Xm,Xn,Xo,Xp,Xq,Xr,Xs,Xt,Xu,Xv,Xw,Xx,Xy,Xz,Ya],defers:=DF } W0:=by
 have hB:Below B0 W0 (W0.drewN 1):=belowN (Below.refl _ _) 1
 generalize hQ:(fun (ex:Exit) (YY:Act) (W:World)=>ex=.normal∧YY.defers=DF∧∃ (_:Unit),YY.tmps=#[x0,.pointer (some ⟨D1,0,none⟩),.pointer (some ⟨D2,0,none⟩),.pointer (some ⟨D3,0,none⟩),.pointer (some ⟨D4,0,none⟩),x5,x6,x7,x8,x9,Xa,Xb,Xc,Xd,Xe,Xf,Xg,Xh,Xi,Xj,Xk,Xl,Xm,Xn,Xo,Xp,Xq,Xr,Xs,Xt,Xu,Xv,Xw,.pointer (some ⟨D1,0,none⟩),.agg (srvA s A c),.int .i64 m,.agg (rspA 0 0 none 0 0 m 0)]∧Below B0 W0 W∧Is W D1 74 (askA s A c k AL nl cl AC nc cc)∧(∀ kk,kk≠D2→kk≠D3→kk < W0.heap.size→W.heap[kk]?=W0.heap[kk]?)∧InS W s.S A c∧InV W RA (tL10 RC)∧Is W D4 3 #[.int .i64 m]∧Is W D2 33 (srvA s A c)∧Is W D3 45 (rspA 0 0 none 0 0 m 0))=Q
 have HQN:∀ c a W,¬ Q (.panic c) a W:=fun c a W h=>by subst hQ;exact nomatch h.1
 have ST4_5:∀ (W:World),Below B0 W0 W→Is W D1 74 (askA s A c k AL nl cl AC nc cc)→(∀ kk,kk≠D2→kk≠D3→kk < W0.heap.size→W.heap[kk]?=W0.heap[kk]?)→InS W s.S A c→InV W RA (tL10 RC)→Is W D4 3 #[.int .i64 m]→Is W D2 33 (srvA s A c)→Is W D3 45 (rspA 0 0 none 0 0 m 0)→wpAnyH Tryz.prog .any (opsOf Tryz.f63 6) Q (fun W=>Below B0 W0 W∧Is W D1 74 (askA s A c k AL nl cl AC nc cc)∧Is W D4 3 #[.int .i64 m]) 0 #[true,true,true,true,true,true] { tmps:=#[x0,.pointer (some ⟨D1,0,none⟩),.pointer (some ⟨D2,0,none⟩),.pointer (some ⟨D3,0,none⟩),.pointer (some ⟨D4,0,none⟩),x5,x6,x7,x8,x9,Xa,Xb,Xc,Xd,Xe,Xf,Xg,Xh,Xi,Xj,Xk,Xl,Xm,Xn,Xo,Xp,Xq,Xr,Xs,Xt,Xu,Xv,Xw,.pointer (some ⟨D1,0,none⟩),.agg (srvA s A c),.int .i64 m,.agg (rspA 0 0 none 0 0 m 0)],defers:=DF } W:=by
  intro W hB i1 hO hI hV i4 j2 j3
  refine wpAnyH_done (by kernel_rfl) ?_ _
  subst hQ
  exact ⟨rfl,rfl,(),rfl,hB,i1,hO,hI,hV,i4,j2,j3⟩
 have ST4:∀ (W:World),Below B0 W0 W→Is W D1 74 (askA s A c k AL nl cl AC nc cc)→Is W D3 45 (rspA 0 0 none 0 0 0 0)→(∀ kk,kk≠D2→kk≠D3→kk < W0.heap.size→W.heap[kk]?=W0.heap[kk]?)→InS W s.S A c→InV W RA (tL10 RC)→Is W D4 3 #[.int .i64 m]→Is W D2 33 (srvA s A c)→wpAnyH Tryz.prog .any (opsOf Tryz.f63 6) Q (fun W=>Below B0 W0 W∧Is W D1 74 (askA s A c k AL nl cl AC nc cc)∧Is W D4 3 #[.int .i64 m]) 1 #[true,true,true,true,true,false] { tmps:=#[x0,.pointer (some ⟨D1,0,none⟩),.pointer (some ⟨D2,0,none⟩),.pointer (some ⟨D3,0,none⟩),.pointer (some ⟨D4,0,none⟩),x5,x6,x7,x8,x9,Xa,Xb,Xc,Xd,Xe,Xf,Xg,Xh,Xi,Xj,Xk,Xl,Xm,Xn,Xo,Xp,Xq,Xr,Xs,Xt,Xu,Xv,Xw,.pointer (some ⟨D1,0,none⟩),.agg (srvA s A c),.int .i64 m,.agg (rspA 0 0 none 0 0 m 0)],defers:=DF } W:=by
  intro W hB i1 i3 hO hI hV i4 j2
  refine wpAnyH_ready (by kernel_rfl) (by simp) (AllReadyH.cons (i:=5) (at_nth rfl) ?_ (AllReadyH.nil))
  ·
   have hone:(rspA 0 0 none 0 0 m 0).all (·.oneCell')=true:=rspA_one13 _ _ _ _ _ _ _
   have hg:=grownRowG W D3 (rspA 0 0 none 0 0 m 0)
   have j3:=i3.row (rspA 0 0 none 0 0 m 0)
   have hB2:=belowRow hB hD3 (rspA 0 0 none 0 0 m 0)
   have i12:=i1.rowFar (k:=D3) h13 (rspA 0 0 none 0 0 m 0)
   replace j2:=j2.rowFar (k:=D3) h23 (rspA 0 0 none 0 0 m 0)
   replace i4:=i4.rowFar (k:=D3) h43 (rspA 0 0 none 0 0 m 0)
   replace hO:∀ kk,kk≠D2→kk≠D3→kk < W0.heap.size→(W.setRow D3 (rspA 0 0 none 0 0 m 0)).heap[kk]?=W0.heap[kk]?:=fun kk h2 h3 hl=>(setRow_other W D3 kk (rspA 0 0 none 0 0 m 0) h3).trans (hO kk h2 h3 hl)
   replace hI:=hI.noS13 i3 rfl hg
   replace hV:=hV.noT13 i3 rfl hg
   refine arm10_skip (w':=W.setRow D3 (rspA 0 0 none 0 0 m 0)) (by kernel_rfl) (run_row10 (x:=.tmp 3) (y:=.tmp 36) (by kernel_rfl) (by kernel_rfl) (by kernel_rfl) i3 infoRsp13 rfl hone) ⟨hB2,i12,i4⟩ ?_
   try simp only [Act.put]
   replace hB:=hB2
   replace i1:=i12
   clear i3 hg
   exact ST4_5 _ hB i1 hO hI hV i4 j2 j3
 have ST:∀ (W:World),Below B0 W0 W→Is W D1 74 (askA s A c k AL nl cl AC nc cc)→Is W D2 33 #[.slice none 0 0,.int .i64 0,.int .i64 0,.int .i64 0]→Is W D3 45 (rspA 0 0 none 0 0 0 0)→(∀ kk,kk≠D2→kk≠D3→kk < W0.heap.size→W.heap[kk]?=W0.heap[kk]?)→InS W s.S A c→InV W RA (tL10 RC)→Is W D4 3 #[.int .i64 m]→wpAnyH Tryz.prog .any (opsOf Tryz.f63 6) Q (fun W=>Below B0 W0 W∧Is W D1 74 (askA s A c k AL nl cl AC nc cc)∧Is W D4 3 #[.int .i64 m]) 2 #[true,true,true,true,false,false] { tmps:=#[x0,.pointer (some ⟨D1,0,none⟩),.pointer (some ⟨D2,0,none⟩),.pointer (some ⟨D3,0,none⟩),.pointer (some ⟨D4,0,none⟩),x5,x6,x7,x8,x9,Xa,Xb,Xc,Xd,Xe,Xf,Xg,Xh,Xi,Xj,Xk,Xl,Xm,Xn,Xo,Xp,Xq,Xr,Xs,Xt,Xu,Xv,Xw,.pointer (some ⟨D1,0,none⟩),.agg (srvA s A c),.int .i64 m,.agg (rspA 0 0 none 0 0 m 0)],defers:=DF } W:=by
  intro W hB i1 i2 i3 hO hI hV i4
  refine wpAnyH_ready (by kernel_rfl) (by simp) (AllReadyH.cons (i:=4) (at_nth rfl) ?_ (AllReadyH.nil))
  ·
   have hone:(srvA s A c).all (·.oneCell')=true:=srvA_one13 s A c
   have hg:=grownRowG W D2 (srvA s A c)
   have j2:=i2.row (srvA s A c)
   have hB2:=belowRow hB hD2 (srvA s A c)
   have i12:=i1.rowFar (k:=D2) h12 (srvA s A c)
   replace i3:=i3.rowFar (k:=D2) h23.symm (srvA s A c)
   replace i4:=i4.rowFar (k:=D2) h42 (srvA s A c)
   replace hO:∀ kk,kk≠D2→kk≠D3→kk < W0.heap.size→(W.setRow D2 (srvA s A c)).heap[kk]?=W0.heap[kk]?:=fun kk h2 h3 hl=>(setRow_other W D2 kk (srvA s A c) h2).trans (hO kk h2 h3 hl)
   replace hI:=hI.noS13 i2 rfl hg
   replace hV:=hV.noT13 i2 rfl hg
   refine arm10_skip (w':=W.setRow D2 (srvA s A c)) (by kernel_rfl) (run_row10 (x:=.tmp 2) (y:=.tmp 34) (by kernel_rfl) (by kernel_rfl) (by kernel_rfl) i2 infoSrv13 rfl hone) ⟨hB2,i12,i4⟩ ?_
   try simp only [Act.put]
   replace hB:=hB2
   replace i1:=i12
   clear i2 hg
   exact ST4 _ hB i1 i3 hO hI hV i4 j2
 refine wp_region_held_drew (S:=fun W=>Below B0 W0 W∧Is W D1 74 (askA s A c k AL nl cl AC nc cc)∧Is W D4 3 #[.int .i64 m]) (by kernel_rfl) ⟨hB,i1,i4⟩ (fun hS=>?_)
 change wpAnyH _ _ (opsOf Tryz.f63 6) _ _ 6 (Array.replicate 6 false) _ (W0.drewN 1)
 clear hS
 replace hB:Below B0 W0 (W0.drewN 1):=belowN (Below.refl _ _) 1
 replace i1:=i1.drewN 1
 replace i2:=i2.drewN 1
 replace i3:=i3.drewN 1
 replace i4:=i4.drewN 1
 replace hI:=hI.keep (belowN (Below.refl _ _) 1)
 replace hV:=hV.keep (belowN (Below.refl _ _) 1)
 refine wpP (i:=0) (v:=.pointer (some ⟨D1,0,none⟩)) HQN rfl (fun w hSw=>by go_simp) ⟨hB,i1,i4⟩ ?_
 simp only [Act.put,zz0,zz1,zz2]
 refine wpP (i:=1) (v:=.agg (srvA s A c)) HQN rfl (fun w hSw=>by exact run_load_midO12 (x:=.tmp 33) (by kernel_rfl) (by kernel_rfl) (hSw.2.1.askS13) Tryz.underlying33 rfl infoSrv13) ⟨hB,i1,i4⟩ ?_
 simp only [Act.put,zz0,zz1,zz2]
 refine wpP (i:=2) (v:=.int .i64 m) HQN rfl (fun w hSw=>by (have hc:=hSw.2.2.cell 0;go_simp)) ⟨hB,i1,i4⟩ ?_
 simp only [Act.put,zz0,zz1,zz2]
 refine wpP (i:=3) (v:=.agg (rspA 0 0 none 0 0 m 0)) HQN rfl (fun w hSw=>by go_simp) ⟨hB,i1,i4⟩ ?_
 simp only [Act.put,zz0,zz1,zz2]
 exact ST _ hB i1 i2 i3 (fun _ _ _ _=>rfl) hI hV i4
theorem sdel_any13 (s:Srv13) (A:Option Addr) (c:Nat) (k:Int) (AL:Option Addr) (cl:Nat) (L:List ByteArray) (AC:Option Addr) (nc cc:Nat) (w:World) (hs:Rt12 s.S) (hl:L.length≤1000) (hd:L.Nodup) (hI:InS w s.S A c) (hL:InV w AL (tL10 L)) :
  Calls Tryz.prog 63 #[.agg (askA s A c k AL L.length cl AC nc cc)] w fun e w'=>∃ A1 c1,e=.returned (.tuple #[srvV ⟨dels13 s.S L,s.lim⟩ A1 c1,.agg (rspA 0 0 none 0 0 (has13 s.S.B L:Nat) 0)])∧InS w' (dels13 s.S L) A1 c1∧Below w.heap.size w w':=by
 have HI:=Lib.hid hI
 have HL:=Lib.hid hL
 have HS:=Lib.hid hs
 have HLL:=Lib.hid hl
 have HE:=Lib.hid (dels_isl13 L s.S hs hd (fun _ _=>rfl))
 have HN:=Lib.hid (thr_len13 s.S.B L 0)
 clear hI hL hs hl hd
 refine (callsIn_wide (n:=5)).1 ?_
 refine callsIn_of_wp_marks Tryz.func63 rfl trivial ?_ rfl
 simp only [Tryz.ntmps63,List.size_toArray,List.length_cons,List.length_nil,Nat.reduceAdd,Nat.reduceSub,Array.replicate_succ,Array.replicate_zero,List.push_toArray,List.append_toArray,List.nil_append,List.cons_append]
 obtain ⟨W1,hW1⟩:∃ W1,W1=((w.alloc (.cells (askA s A c k AL L.length cl AC nc cc) 74)).alloc (.cells #[.slice none 0 0,.int .i64 0,.int .i64 0,.int .i64 0] 33)).alloc (.cells (rspA 0 0 none 0 0 0 0) 45):=⟨_,rfl⟩
 have i1:Is W1 w.heap.size 74 (askA s A c k AL L.length cl AC nc cc):=by rw [hW1];exact ((Is.new w _ _).alloc _).alloc _
 have i2:Is W1 (w.heap.size + 1) 33 #[.slice none 0 0,.int .i64 0,.int .i64 0,.int .i64 0]:=by rw [hW1];exact Is.alloc (heap_alloc2_new w _ _) _
 have i3:Is W1 (w.heap.size + 1 + 1) 45 (rspA 0 0 none 0 0 0 0):=by
  have:=Is.new ((w.alloc (.cells (askA s A c k AL L.length cl AC nc cc) 74)).alloc (.cells #[.slice none 0 0,.int .i64 0,.int .i64 0,.int .i64 0] 33)) 45 (rspA 0 0 none 0 0 0 0)
  rw [hW1];simpa using this
 have hB:Below w.heap.size w W1:=by rw [hW1];exact (((Below.refl _ _).alloc (Nat.le_refl _) _).alloc (by simp) _).alloc (by simp;omega) _
 have HS1:W1.heap.size=w.heap.size + 1 + 1 + 1:=by rw [hW1];simp
 obtain ⟨W2,hW2⟩:∃ W2,W2=W1.alloc (.cells #[.int .i64 0] 3):=⟨_,rfl⟩
 have q1:Is W2 w.heap.size 74 (askA s A c k AL L.length cl AC nc cc):=by rw [hW2];exact i1.alloc _
 have q2:Is W2 (w.heap.size + 1) 33 #[.slice none 0 0,.int .i64 0,.int .i64 0,.int .i64 0]:=by rw [hW2];exact i2.alloc _
 have q3:Is W2 (w.heap.size + 1 + 1) 45 (rspA 0 0 none 0 0 0 0):=by rw [hW2];exact i3.alloc _
 have q4:Is W2 (w.heap.size + 1 + 1 + 1) 3 #[.int .i64 0]:=by rw [hW2,← HS1];exact Is.new W1 _ _
 have hB2:Below w.heap.size w W2:=by rw [hW2];exact hB.alloc hB.size _
 have HS2:=Lib.hid (show W2.heap.size=w.heap.size + 4 by rw [hW2];simp [HS1])
 rw [hW1] at hW2
 have qs:=q1.askT13
 have c52:=q1.cell 5
 rw [hW2] at qs c52
 clear i1 i2 i3 hB HS1 hW1
 gi_wp2_with (refine wpListIn_load_midI rfl 31 _ rfl w.heap.size 0 rfl _ qs Tryz.underlying31 rfl infoSto12 ?_)
 rw [← hW2]
 clear hW2 qs c52
 refine ⟨trivial,(callsIn_wide.2 (there_any13 s.S A c AL L.length cl W2)).mono ?_⟩
 rintro e W3 ⟨rfl,hW3⟩
 have r1:Is W3 w.heap.size 74 (askA s A c k AL L.length cl AC nc cc):=by rw [hW3];exact (q1.alloc _).alloc _
 have r2:Is W3 (w.heap.size + 1) 33 #[.slice none 0 0,.int .i64 0,.int .i64 0,.int .i64 0]:=by rw [hW3];exact (q2.alloc _).alloc _
 have r3:Is W3 (w.heap.size + 1 + 1) 45 (rspA 0 0 none 0 0 0 0):=by rw [hW3];exact (q3.alloc _).alloc _
 have r4:Is W3 (w.heap.size + 1 + 1 + 1) 3 #[.int .i64 0]:=by rw [hW3];exact (q4.alloc _).alloc _
 have rS:Is W3 W2.heap.size 31 (stoA s.S A c):=by rw [hW3];exact heap_alloc2_old _ _ _
 have rL:Is W3 (W2.heap.size + 1) 24 #[.slice AL L.length cl]:=by rw [hW3];exact heap_alloc2_new _ _ _
 have hB3:Below w.heap.size w W3:=by rw [hW3];exact (hB2.alloc hB2.size _).alloc (by have:=hB2.size;simp;omega) _
 have HS3:=Lib.hid (show W3.heap.size=w.heap.size + 6 by rw [hW3];have:=HS2.out;simp;omega)
 clear q1 q2 q3 q4 hB2 hW3
 generalize hBN:W2.heap.size=BN at *
 have HBN:=Lib.hid (show BN=w.heap.size + 4 from HS2.out)
 clear hBN
 gi_wp2_with fail
 refine wpIn_rangeL rfl (by omega) (gf:=110) (lb:=#[.pointer (some ⟨BN + 1,0,none⟩),.pointer (some ⟨BN,0,none⟩)]) rfl trivial (enters_of Tryz.func110 (by kernel_rfl) rfl) (S:=fun k=>k < w.heap.size∨k=BN∨k=BN + 1)
  (there_seq13 4 (by omega) BN (BN + 1) s.S A c AL cl L W3 HS.out rS rL (HI.out.keep hB3) (HL.out.keep hB3) (by have:=HLL.out;omega) _ (.inr (.inl rfl)) (.inr (.inr rfl)) (fun p e hn=>.inl (HI.out.b.blkB p e hn)) (fun p e hn=>.inl (tL_blk13 HL.out p e hn)) (fun k hk=>by have:=rS.lt;have:=rL.lt;have:=hB3.size;omega))
  (Stay.refl _ _) (fun k hk=>by have:=rS.lt;have:=rL.lt;have:=hB3.size;omega) (fun _=>rfl)
  (fun i W=>∃ A' c',Below w.heap.size w W∧Is W w.heap.size 74 (askA ⟨dels13 s.S ((isl13 s.S.B L).take i),s.lim⟩ A' c' k AL L.length cl AC nc cc)∧Is W (w.heap.size + 1) 33 #[.slice none 0 0,.int .i64 0,.int .i64 0,.int .i64 0]∧Is W (w.heap.size + 1 + 1) 45 (rspA 0 0 none 0 0 0 0)∧Is W (w.heap.size + 1 + 1 + 1) 3 #[.int .i64 (i:Int)]∧InS W (dels13 s.S ((isl13 s.S.B L).take i)) A' c')
  (fun c _ W=>False)
  (fun s X Y row hs hg hr=>by
   obtain ⟨A',c',h1,h2,h3,h4,h5,h6⟩:=hs
   exact ⟨A',c',belowOwn12 h1 h1.size (by have:=hB3.size;omega) hg hr,isOwn12 h2 hg hr,isOwn12 h3 hg hr,isOwn12 h4 hg hr,isOwn12 h5 hg hr,h6.own13 hg (fun r e=>(hr r e).2)⟩)
  (fun c s X Y row hs hg hr=>hs.elim)
  ⟨A,c,hB3,r1,r2,r3,r4,HI.out.keep hB3⟩ ?round ?done ?stop
 case round =>
  rintro l2 i ⟨q,y⟩ W hl hlt hx ⟨A',c',hb,j1,j2,j3,j4,jI⟩
  gi_wp2
  refine ⟨Stay.refl _ _,⟨A',c',hb,j1,j2,j3,j4,jI⟩,fun _=>True,fun _ _ _ _ _ _ _=>trivial,trivial,?_⟩
  clear hb j1 j2 j3 j4 jI A' c'
  rintro W4 hl4 ⟨A',c',hb,j1,j2,j3,j4,jI⟩ _
  obtain ⟨x,hq,_,_⟩:=thr_mem13 hx
  have his:=(thr_isl13 hx).1
  rw [hq] at his
  simp only [Nat.sub_zero] at hq
  have hql:q < L.length:=(List.getElem?_eq_some_iff.1 hq).1
  have hil:i < L.length:=by
   have h1:=(List.getElem?_eq_some_iff.1 hx).1
   have h2:=HN.out
   have h3:=List.countP_le_length (p:=fun l=>(mp12 s.S.B l).isSome) (l:=L)
   rw [has13] at h2
   omega
  have HNX:=Lib.hid (dels_next13 (s:=s.S) his)
  obtain ⟨b,off,rfl,hbl,hxw⟩:=HL.out.txt13 hq
  have hxw4:=(hb.cell (p:=⟨b,off + q,none⟩) hbl).trans hxw
  have c5:=j1.cell 5
  clear hx his hq
  gi_wp2_with fail
  refine wpIn_mono (del13_4 l2 _ _ W4 w.heap.size w.heap.size ⟨dels13 s.S ((isl13 s.S.B L).take i),s.lim⟩ A' c' k b off L.length cl AC nc cc q x hql hbl hxw4 c5 j1 jI (Nat.le_refl _) hb.size _ _ _ _ _ _ _ _ _ _ _ _ _ _ _ _ _ _ _ _ _ _ _ _ _ _ _ _ _ _ _ _ _ _ _) ?_
  rintro ex ⟨T,Df⟩ W5 ⟨rfl,hDf,AQ,cQ,hT,hB5,_,hO5,hZ5,j15⟩
  simp only at hT hDf
  subst hT
  subst hDf
  have j25:Is W5 (w.heap.size + 1) 33 #[.slice none 0 0,.int .i64 0,.int .i64 0,.int .i64 0]:=(hO5 _ (by omega) j2.lt).trans j2
  have j35:Is W5 (w.heap.size + 1 + 1) 45 (rspA 0 0 none 0 0 0 0):=(hO5 _ (by omega) j3.lt).trans j3
  have j45:Is W5 (w.heap.size + 1 + 1 + 1) 3 #[.int .i64 (i:Int)]:=(hO5 _ (by omega) j4.lt).trans j4
  have hb5:=hb.trans hB5
  have c4:=j45.cell 0
  have f4:=j45.frozen 0
  have hwi:=IntWalk.i64_in ((i:Int) + 1) (by have:=HLL.out;omega)
  have z4:=j45.set 0 (.int .i64 ((i:Int) + 1))
  have z1:=j15.far (p:=⟨w.heap.size + 1 + 1 + 1,0,none⟩) (by simp only [];omega) (.int .i64 ((i:Int) + 1))
  have z2:=j25.far (p:=⟨w.heap.size + 1 + 1 + 1,0,none⟩) (by simp only [];omega) (.int .i64 ((i:Int) + 1))
  have z3:=j35.far (p:=⟨w.heap.size + 1 + 1 + 1,0,none⟩) (by simp only [];omega) (.int .i64 ((i:Int) + 1))
  have zI:=hZ5.noS13 j45 rfl (grownSetG W5 ⟨w.heap.size + 1 + 1 + 1,0,none⟩ (.int .i64 ((i:Int) + 1)))
  have zb:=hb5.setCell (p:=⟨w.heap.size + 1 + 1 + 1,0,none⟩) (by simp only [];omega) (.int .i64 ((i:Int) + 1))
  rw [show (i:Int) + 1=((i + 1:Nat):Int) by omega] at z4
  have zst:Stay (fun k=>(k < w.heap.size∨k=BN∨k=BN + 1)∨W3.heap.size≤k) W4 (W5.setCell ⟨w.heap.size + 1 + 1 + 1,0,none⟩ (.int .i64 ((i:Int) + 1))):=Stay.grown ⟨hB5.size,fun k o hk ho=>(hO5 k (by have:=HS3.out;have:=HBN.out;omega) (Array.getElem?_eq_some_iff.1 ho).1).trans ho⟩ (grownSetG _ _ _) (fun r e=>by cases e;exact .inl (by have:=HS3.out;have:=HBN.out;simp only [];omega))
  simp only at z1 zI
  rw [← HNX.out] at z1 zI
  have HZ1:=Lib.hid z1
  have HZI:=Lib.hid zI
  have HZ4:=Lib.hid z4
  have HZS:=Lib.hid zst
  clear j15 j25 j35 j45 hb5 z1 zI z4 zst hZ5 hO5 hB5 j1 j2 j3 j4 jI c5 hb
  gi_wp2
  exact ⟨HZS.out,AQ,cQ,zb,HZ1.out,z2,z3,HZ4.out,HZI.out⟩
 case done =>
  rintro D W hD ⟨A',c',hb,j1,j2,j3,j4,jI⟩ hK
  have hfl:(thr13 s.S.B 0 L).length=(isl13 s.S.B L).length:=by rw [HN.out,isl_len13]
  rw [hfl,List.take_length,HE.out] at j1 jI
  rw [HN.out] at j4
  clear hfl
  gi_wp2_with fail
  rw [wpIn_wide]
  refine Code.wp_mono ?_ (del13_6 _ W w.heap.size w.heap.size (w.heap.size + 1) (w.heap.size + 1 + 1) ⟨dels13 s.S L,s.lim⟩ A' c' k AL L.length cl AC nc cc (w.heap.size + 1 + 1 + 1) (has13 s.S.B L:Nat) (by omega) (by omega) none [] j1 j2 j3 jI (fun j u hj=>by cases hj) j4 (by omega) (by omega) (by omega) (by omega) (by omega) _ _ _ _ _ _ _ _ _ _ _ _ _ _ _ _ _ _ _ _ _ _ _ _ _ _ _ _ _ _ _ _ _)
  rintro ex ⟨T,D2⟩ W5 ⟨rfl,hDf,_,hT,hB5,_,hO5,hI5,_,j42,j25,j35⟩
  simp only at hT hDf
  subst hT
  subst hDf
  have hG3:=HS3.out
  have hK5:=(hO5 D (by omega) (by omega) (Array.getElem?_eq_some_iff.1 hK).1).trans hK
  clear hG3 hO5
  gi_wp2
  refine ⟨by simp,.inl ⟨_,_,rfl,run_takeDeferred hK5,?_⟩⟩
  have hgr:=grownBy_putObj' W5 D (.deferred none)
  have hrr:∀ r,some D=some r→W3.heap.size≤r∧∃ o:Obj,W5.heap[r]?=some o∧o.isCells=false:=fun r e=>by cases e;exact ⟨hD,_,hK5,rfl⟩
  have hb5:=hb.trans hB5
  exact ⟨_,results_rr13 Tryz.results63 _ _ (w.heap.size + 1) 33 _ _ (w.heap.size + 1 + 1) 45 _ _ rfl (isOwn12 j25 hgr hrr) Tryz.underlying33 rfl infoSrv13 rfl (isOwn12 j35 hgr hrr) Tryz.underlying45 rfl infoRsp13,A',c',rfl,hI5.own13 hgr (fun r e=>(hrr r e).2),belowOwn12 hb5 hb5.size (by have:=hB3.size;omega) hgr hrr⟩
 case stop =>
  rintro D c i W hD hf
  exact hf.elim
end Go.Proofs.YtmggbbmpckcleaaGreat
namespace Go.Proofs.YtmggbbmpckcleaaGreat
open Go.RowKit Go.Shelf
attribute [local go_sem] Oper.semAt_some
theorem mem_thr13 {B:List Bkt12}:∀ {L:List ByteArray} {i n:Nat} {l c:ByteArray},L[n]?=some l→mp12 B l=some c→∃ j:Nat,(thr13 B i L)[j]?=some (i + n,c)
 | [],i,n,l,c,h,_=>by cases h
 | x :: r,i,n,l,c,h,hc=>by
  cases n with
  | zero =>
   cases h
   exact ⟨0,by rw [thr13,hc];rfl⟩
  | succ n =>
   obtain ⟨j,hj⟩:=mem_thr13 (L:=r) (i:=i + 1) (n:=n) h hc
   rw [show i + 1 + n=i + (n + 1) by omega] at hj
   rw [thr13]
   cases mp12 B x with
   | none=>exact ⟨j,hj⟩
   | some d=>exact ⟨j + 1,hj⟩
theorem zip_at13 {L C:List ByteArray} {n:Nat} {l c:ByteArray} (h:L[n]?=some l) (h2:C[n]?=some c):(L.zip C)[n]?=some (l,c):=by
 rw [List.zip,List.getElem?_zipWith,h,h2]
theorem taken_yes13 {B:List Bkt12} {L C:List ByteArray} {j q:Nat} {y z:ByteArray} (h:(thr13 B 0 L)[j]?=some (q,y)) (hz:C[q]?=some z) (hne:y≠z):taken13 B (L.zip C)=true:=by
 obtain ⟨l,h1,h2,_⟩:=thr_mem13 h
 simp only [Nat.sub_zero] at h1 h2
 cases ht:taken13 B (L.zip C) with
 | true=>rfl
 | false=>exact absurd (taken_iff13.1 ht (l,z) (List.mem_of_getElem? (zip_at13 h1 hz)) y h2) hne
theorem taken_no13 {B:List Bkt12} {L C:List ByteArray} (h:∀ (j:Nat) (p:Nat × ByteArray),(thr13 B 0 L)[j]?=some p→C[p.1]?=some p.2):taken13 B (L.zip C)=false:=taken_iff13.2 fun p hp c hc=>by
 obtain ⟨n,hn,e⟩:=List.mem_iff_getElem.1 hp
 have hn2:(L.zip C)[n]?=some p:=by rw [← e];exact List.getElem?_eq_getElem hn
 have hlen:n < L.length∧n < C.length:=by rw [List.length_zip] at hn;omega
 have h3:=zip_at13 (List.getElem?_eq_getElem hlen.1) (List.getElem?_eq_getElem hlen.2)
 rw [hn2] at h3
 cases h3
 obtain ⟨j,hj⟩:=mem_thr13 (i:=0) (List.getElem?_eq_getElem hlen.1) hc
 have:=h j _ hj
 rw [Nat.zero_add,List.getElem?_eq_getElem hlen.2] at this
 exact (Option.some.inj this).symm
theorem puts_next13 {s:Sto12} {P:List (ByteArray × ByteArray)} {i:Nat} {x:ByteArray × ByteArray} (h:P[i]?=some x):puts13 s (P.take (i + 1))=(putV12 (puts13 s (P.take i)) x.1 x.2).1:=by
 rw [List.take_add_one,h,puts_app13]
 rfl
theorem put_taken13 {s:Srv13} {P:List (ByteArray × ByteArray)} (h:taken13 s.S.B P=true):put13 s P=(s,⟨1,2,[],0,0⟩):=by rw [put13,if_pos h]
theorem put_full13 {s:Srv13} {P:List (ByteArray × ByteArray)} (h:taken13 s.S.B P=false) (h2:s.lim < s.S.many + (more13 s.S.B (P.map Prod.fst):Nat)):put13 s P=(s,⟨1,1,[],0,0⟩):=by rw [put13,h,if_neg (by decide),if_pos h2]
theorem zip_fst13 {L C:List ByteArray} (h:C.length=L.length):(L.zip C).map Prod.fst=L:=List.map_fst_zip (by omega)
def AllEq13 (B:List Bkt12) (L C:List ByteArray) (i:Nat):Prop:=∀ (j:Nat) (p:Nat × ByteArray),j < i→(thr13 B 0 L)[j]?=some p→C[p.1]?=some p.2
theorem AllEq13.next {B:List Bkt12} {L C:List ByteArray} {i:Nat} {p:Nat × ByteArray} (h:AllEq13 B L C i) (hx:(thr13 B 0 L)[i]?=some p) (hz:C[p.1]?=some p.2):AllEq13 B L C (i + 1):=fun j p2 hj hp=>by
 rcases Nat.lt_succ_iff_lt_or_eq.1 hj with h1 | h1
 · exact h j p2 h1 hp
 ·
  subst h1
  rw [hx] at hp
  cases hp
  exact hz
theorem AllEq13.no {B:List Bkt12} {L C:List ByteArray} (h:AllEq13 B L C (thr13 B 0 L).length):taken13 B (L.zip C)=false:=taken_no13 fun j p hp=>h j p (List.getElem?_eq_some_iff.1 hp).1 hp
theorem beq_no13 {x y:ByteArray} (h:x≠y):(x.toList == y.toList)=false:=by
 rw [Bool.eq_false_iff]
 intro e
 exact h (toList_inj12.1 (by simpa using e))
theorem put13_13 (DF:List Deferred) (W0:World) (B0 D1:Nat) (s:Srv13) (A:Option Addr) (c:Nat) (k:Int) (AL:Option Addr) (nl cl:Nat) (b off:Nat) (nc cc:Nat) (q:Nat) (l x:ByteArray) (hq:q < nc) (hbB:b < B0) (hx:W0.cell? ⟨b,off + q,none⟩=some (.string x)) (c6:W0.cell? ⟨D1,6,none⟩=some (.slice (some ⟨b,off,none⟩) nc cc)) (i1:Is W0 D1 74 (askA s A c k AL nl cl (some ⟨b,off,none⟩) nc cc)) (hI:InS W0 s.S A c) (hD1:B0≤D1) (hsz:B0≤W0.heap.size) (x0 x2 x3 x4 x5 x6 x9 Xa Xb Xc Xd Xe Xf Xg Xh Xi Xj Xk Xl Xm Xn Xo Xp Xq Xr Xs Xt Xu Xv Xw Xx Xy Xz Ya Yb Yc Yd Ye Yf Yg Yh Yi Yj Yk Yl Ym Yn Yo Yp Yq Yr Ys Yt Yu Yv Yw Yx Yy Yz Za Zb Zc Zd Ze Zf Zg Zh Zi Zj Zk Zl Zm Zn Zo:Value) :
  (Code.region 13 (opsOf Tryz.f61 13) true).wp Tryz.prog (fun ex YY W=>ex=.normal∧YY.defers=DF∧∃ (AQ:Option Addr) (cQ:Nat),YY.tmps=#[x0,.pointer (some ⟨D1,0,none⟩),x2,x3,x4,x5,x6,.int .i64 (q:Int),.string l,x9,Xa,Xb,Xc,Xd,Xe,Xf,Xg,Xh,Xi,Xj,Xk,Xl,Xm,Xn,Xo,Xp,Xq,Xr,Xs,Xt,Xu,Xv,Xw,Xx,Xy,Xz,Ya,Yb,Yc,Yd,Ye,Yf,Yg,Yh,Yi,Yj,Yk,Yl,Ym,Yn,Yo,Yp,Yq,Yr,Ys,Yt,Yu,.tuple #[(.agg (stoA (putV12 s.S l x).1 AQ cQ)),.int .i64 (putV12 s.S l x).2],.pointer (some ⟨D1,0,none⟩),.pointer (some ⟨D1,0,none⟩),.agg (stoA s.S A c),.string l,.pointer (some ⟨D1,4,none⟩),.pointer (some ⟨D1,6,none⟩),.slice (some ⟨b,off,none⟩) nc cc,.int .i64 (q:Int),.pointer (some ⟨b,off + q,none⟩),.string x,.tuple #[(.agg (stoA (putV12 s.S l x).1 AQ cQ)),.int .i64 (putV12 s.S l x).2],(.agg (stoA (putV12 s.S l x).1 AQ cQ)),.int .i64 (putV12 s.S l x).2,.pointer (some ⟨D1,0,none⟩),.pointer (some ⟨D1,0,none⟩),Zl,Zm,Zn,Zo]∧Below B0 W0 W∧W.cell? ⟨D1,6,none⟩=some (.slice (some ⟨b,off,none⟩) nc cc)∧(∀ k,k≠D1→k < W0.heap.size→W.heap[k]?=W0.heap[k]?)∧InS W (putV12 s.S l x).1 AQ cQ∧Is W D1 74 (askA ⟨(putV12 s.S l x).1,s.lim⟩ AQ cQ k AL nl cl (some ⟨b,off,none⟩) nc cc)) { tmps:=#[x0,.pointer (some ⟨D1,0,none⟩),x2,x3,x4,x5,x6,.int .i64 (q:Int),.string l,x9,Xa,Xb,Xc,Xd,Xe,Xf,Xg,Xh,Xi,Xj,Xk,Xl,Xm,Xn,Xo,Xp,Xq,Xr,Xs,Xt,Xu,Xv,Xw,Xx,Xy,Xz,Ya,Yb,Yc,Yd,Ye,Yf,Yg,Yh,Yi,Yj,Yk,Yl,Ym,Yn,Yo,Yp,Yq,Yr,Ys,Yt,Yu,Yv,Yw,Yx,Yy,Yz,Za,Zb,Zc,Zd,Ze,Zf,Zg,Zh,Zi,Zj,Zk,Zl,Zm,Zn,Zo],defers:=DF } W0:=by
 have hB:Below B0 W0 (W0.drewN 1):=belowN (Below.refl _ _) 1
 generalize hQ:(fun (ex:Exit) (YY:Act) (W:World)=>ex=.normal∧YY.defers=DF∧∃ (AQ:Option Addr) (cQ:Nat),YY.tmps=#[x0,.pointer (some ⟨D1,0,none⟩),x2,x3,x4,x5,x6,.int .i64 (q:Int),.string l,x9,Xa,Xb,Xc,Xd,Xe,Xf,Xg,Xh,Xi,Xj,Xk,Xl,Xm,Xn,Xo,Xp,Xq,Xr,Xs,Xt,Xu,Xv,Xw,Xx,Xy,Xz,Ya,Yb,Yc,Yd,Ye,Yf,Yg,Yh,Yi,Yj,Yk,Yl,Ym,Yn,Yo,Yp,Yq,Yr,Ys,Yt,Yu,.tuple #[(.agg (stoA (putV12 s.S l x).1 AQ cQ)),.int .i64 (putV12 s.S l x).2],.pointer (some ⟨D1,0,none⟩),.pointer (some ⟨D1,0,none⟩),.agg (stoA s.S A c),.string l,.pointer (some ⟨D1,4,none⟩),.pointer (some ⟨D1,6,none⟩),.slice (some ⟨b,off,none⟩) nc cc,.int .i64 (q:Int),.pointer (some ⟨b,off + q,none⟩),.string x,.tuple #[(.agg (stoA (putV12 s.S l x).1 AQ cQ)),.int .i64 (putV12 s.S l x).2],(.agg (stoA (putV12 s.S l x).1 AQ cQ)),.int .i64 (putV12 s.S l x).2,.pointer (some ⟨D1,0,none⟩),.pointer (some ⟨D1,0,none⟩),Zl,Zm,Zn,Zo]∧Below B0 W0 W∧W.cell? ⟨D1,6,none⟩=some (.slice (some ⟨b,off,none⟩) nc cc)∧(∀ k,k≠D1→k < W0.heap.size→W.heap[k]?=W0.heap[k]?)∧InS W (putV12 s.S l x).1 AQ cQ∧Is W D1 74 (askA ⟨(putV12 s.S l x).1,s.lim⟩ AQ cQ k AL nl cl (some ⟨b,off,none⟩) nc cc))=Q
 have HQN:∀ c a W,¬ Q (.panic c) a W:=fun c a W h=>by subst hQ;exact nomatch h.1
 have ST2_10_16:∀ (W:World) (AQ:Option Addr) (cQ:Nat),Below B0 W0 W→W.cell? ⟨D1,6,none⟩=some (.slice (some ⟨b,off,none⟩) nc cc)→(∀ k,k≠D1→k < W0.heap.size→W.heap[k]?=W0.heap[k]?)→InS W (putV12 s.S l x).1 AQ cQ→Is W D1 74 (askA ⟨(putV12 s.S l x).1,s.lim⟩ AQ cQ k AL nl cl (some ⟨b,off,none⟩) nc cc)→wpAnyH Tryz.prog .any (opsOf Tryz.f61 13) Q (fun W=>Below B0 W0 W∧W.cell? ⟨D1,6,none⟩=some (.slice (some ⟨b,off,none⟩) nc cc)) 0 #[true,true,true,true,true,true,true,true,true,true,true,true,true,true,true,true,true] { tmps:=#[x0,.pointer (some ⟨D1,0,none⟩),x2,x3,x4,x5,x6,.int .i64 (q:Int),.string l,x9,Xa,Xb,Xc,Xd,Xe,Xf,Xg,Xh,Xi,Xj,Xk,Xl,Xm,Xn,Xo,Xp,Xq,Xr,Xs,Xt,Xu,Xv,Xw,Xx,Xy,Xz,Ya,Yb,Yc,Yd,Ye,Yf,Yg,Yh,Yi,Yj,Yk,Yl,Ym,Yn,Yo,Yp,Yq,Yr,Ys,Yt,Yu,.tuple #[(.agg (stoA (putV12 s.S l x).1 AQ cQ)),.int .i64 (putV12 s.S l x).2],.pointer (some ⟨D1,0,none⟩),.pointer (some ⟨D1,0,none⟩),.agg (stoA s.S A c),.string l,.pointer (some ⟨D1,4,none⟩),.pointer (some ⟨D1,6,none⟩),.slice (some ⟨b,off,none⟩) nc cc,.int .i64 (q:Int),.pointer (some ⟨b,off + q,none⟩),.string x,.tuple #[(.agg (stoA (putV12 s.S l x).1 AQ cQ)),.int .i64 (putV12 s.S l x).2],(.agg (stoA (putV12 s.S l x).1 AQ cQ)),.int .i64 (putV12 s.S l x).2,.pointer (some ⟨D1,0,none⟩),.pointer (some ⟨D1,0,none⟩),Zl,Zm,Zn,Zo],defers:=DF } W:=by
  intro W AQ cQ hB c6 hO hZ j1
  refine wpAnyH_done (by kernel_rfl) ?_ _
  subst hQ
  exact ⟨rfl,rfl,AQ,cQ,rfl,hB,c6,hO,hZ,j1⟩
 have ST2_10:∀ (W:World) (AQ:Option Addr) (cQ:Nat),Below B0 W0 W→W.cell? ⟨D1,6,none⟩=some (.slice (some ⟨b,off,none⟩) nc cc)→(∀ k,k≠D1→k < W0.heap.size→W.heap[k]?=W0.heap[k]?)→Is W D1 74 (askA s A c k AL nl cl (some ⟨b,off,none⟩) nc cc)→InS W (putV12 s.S l x).1 AQ cQ→wpAnyH Tryz.prog .any (opsOf Tryz.f61 13) Q (fun W=>Below B0 W0 W∧W.cell? ⟨D1,6,none⟩=some (.slice (some ⟨b,off,none⟩) nc cc)) 1 #[true,true,true,true,true,true,true,true,true,true,true,true,true,true,true,true,false] { tmps:=#[x0,.pointer (some ⟨D1,0,none⟩),x2,x3,x4,x5,x6,.int .i64 (q:Int),.string l,x9,Xa,Xb,Xc,Xd,Xe,Xf,Xg,Xh,Xi,Xj,Xk,Xl,Xm,Xn,Xo,Xp,Xq,Xr,Xs,Xt,Xu,Xv,Xw,Xx,Xy,Xz,Ya,Yb,Yc,Yd,Ye,Yf,Yg,Yh,Yi,Yj,Yk,Yl,Ym,Yn,Yo,Yp,Yq,Yr,Ys,Yt,Yu,.tuple #[(.agg (stoA (putV12 s.S l x).1 AQ cQ)),.int .i64 (putV12 s.S l x).2],.pointer (some ⟨D1,0,none⟩),.pointer (some ⟨D1,0,none⟩),.agg (stoA s.S A c),.string l,.pointer (some ⟨D1,4,none⟩),.pointer (some ⟨D1,6,none⟩),.slice (some ⟨b,off,none⟩) nc cc,.int .i64 (q:Int),.pointer (some ⟨b,off + q,none⟩),.string x,.tuple #[(.agg (stoA (putV12 s.S l x).1 AQ cQ)),.int .i64 (putV12 s.S l x).2],(.agg (stoA (putV12 s.S l x).1 AQ cQ)),.int .i64 (putV12 s.S l x).2,.pointer (some ⟨D1,0,none⟩),.pointer (some ⟨D1,0,none⟩),Zl,Zm,Zn,Zo],defers:=DF } W:=by
  intro W AQ cQ hB c6 hO i1 hZ
  refine wpAnyH_ready (by kernel_rfl) (by simp) (AllReadyH.cons (i:=16) (at_nth rfl) ?_ (AllReadyH.nil))
  ·
   have hg:=grownSet13 W D1 (.slice AQ (putV12 s.S l x).1.B.length cQ) (.int .i64 (putV12 s.S l x).1.many) (.int .i64 (putV12 s.S l x).1.gone)
   have hone:=stoA_one12 (putV12 s.S l x).1 AQ cQ
   have j1:=i1.askN13 (putV12 s.S l x).1 AQ cQ
   have hT:=i1.askO13
   replace hZ:=hZ.noS13 i1 rfl hg
   replace c6:=((setCells3_far13 (by simp)).trans c6:(W.setCells D1 0 [.slice AQ (putV12 s.S l x).1.B.length cQ,.int .i64 (putV12 s.S l x).1.many,.int .i64 (putV12 s.S l x).1.gone]).cell? ⟨D1,6,none⟩=some (.slice (some ⟨b,off,none⟩) nc cc))
   replace hO:∀ k,k≠D1→k < W0.heap.size→(W.setCells D1 0 [.slice AQ (putV12 s.S l x).1.B.length cQ,.int .i64 (putV12 s.S l x).1.many,.int .i64 (putV12 s.S l x).1.gone]).heap[k]?=W0.heap[k]?:=fun k h1 hl=>(hg.block k (Nat.lt_of_lt_of_le hl hB.size) (fun e=>h1 (Option.some.inj e))).trans (hO k h1 hl)
   have hB2:=below_cells3 hB hD1 0 (.slice AQ (putV12 s.S l x).1.B.length cQ) (.int .i64 (putV12 s.S l x).1.many) (.int .i64 (putV12 s.S l x).1.gone)
   refine arm10_skip (w':=W.setCells D1 0 [.slice AQ (putV12 s.S l x).1.B.length cQ,.int .i64 (putV12 s.S l x).1.many,.int .i64 (putV12 s.S l x).1.gone]) (by kernel_rfl) (run_store_mid13 (x:=.tmp 72) (y:=.tmp 69) (cs:=stoA (putV12 s.S l x).1 AQ cQ) (by kernel_rfl) (by kernel_rfl) (by kernel_rfl) hT infoSto12 hone) ⟨hB2,c6⟩ ?_
   try simp only [Act.put]
   replace hB:=hB2
   clear i1 hg hT
   exact ST2_10_16 _ _ _ hB c6 hO hZ j1
 have ST2:∀ (W:World),Below B0 W0 W→W.cell? ⟨D1,6,none⟩=some (.slice (some ⟨b,off,none⟩) nc cc)→(∀ k,k≠D1→k < W0.heap.size→W.heap[k]?=W0.heap[k]?)→Is W D1 74 (askA s A c k AL nl cl (some ⟨b,off,none⟩) nc cc)→InS W s.S A c→wpAnyH Tryz.prog .any (opsOf Tryz.f61 13) Q (fun W=>Below B0 W0 W∧W.cell? ⟨D1,6,none⟩=some (.slice (some ⟨b,off,none⟩) nc cc)) 7 #[true,true,true,true,true,true,true,true,true,true,false,false,false,false,false,false,false] { tmps:=#[x0,.pointer (some ⟨D1,0,none⟩),x2,x3,x4,x5,x6,.int .i64 (q:Int),.string l,x9,Xa,Xb,Xc,Xd,Xe,Xf,Xg,Xh,Xi,Xj,Xk,Xl,Xm,Xn,Xo,Xp,Xq,Xr,Xs,Xt,Xu,Xv,Xw,Xx,Xy,Xz,Ya,Yb,Yc,Yd,Ye,Yf,Yg,Yh,Yi,Yj,Yk,Yl,Ym,Yn,Yo,Yp,Yq,Yr,Ys,Yt,Yu,Yv,.pointer (some ⟨D1,0,none⟩),.pointer (some ⟨D1,0,none⟩),.agg (stoA s.S A c),.string l,.pointer (some ⟨D1,4,none⟩),.pointer (some ⟨D1,6,none⟩),.slice (some ⟨b,off,none⟩) nc cc,.int .i64 (q:Int),.pointer (some ⟨b,off + q,none⟩),.string x,Zg,Zh,Zi,Zj,Zk,Zl,Zm,Zn,Zo],defers:=DF } W:=by
  intro W hB c6 hO i1 hI
  refine wpAnyH_ready (by kernel_rfl) (by simp) (AllReadyH.cons (i:=10) (at_nth rfl) ?_ (AllReadyH.nil))
  ·
   refine arm10_call (by kernel_rfl) (fun wy=>by kernel_rfl) ((bput_any12 s.S A c l x _ hI).mono ?_)
   rintro e Wn ⟨AQ,cQ,rfl,hZ,hb⟩
   replace c6:=(hb.cell (p:=⟨D1,6,none⟩) i1.lt).trans c6
   replace hO:∀ k,k≠D1→k < W0.heap.size→Wn.heap[k]?=W0.heap[k]?:=fun k h1 hl=>(hb.block k (Nat.lt_of_lt_of_le hl hB.size)).trans (hO k h1 hl)
   replace i1:=i1.below hb i1.lt
   replace hB:=hB.trans (hb.mono (Nat.le_trans hsz hB.size))
   clear hb
   refine ⟨_,rfl,⟨hB,c6⟩,?_⟩
   simp only [Act.put,zz0,zz1,zz2]
   refine wpP (i:=11) (v:=.tuple #[(.agg (stoA (putV12 s.S l x).1 AQ cQ)),.int .i64 (putV12 s.S l x).2]) HQN rfl (fun w hSw=>by kernel_rfl) ⟨hB,c6⟩ ?_
   simp only [Act.put,zz0,zz1,zz2]
   refine wpP (i:=12) (v:=(.agg (stoA (putV12 s.S l x).1 AQ cQ))) HQN rfl (fun w hSw=>by kernel_rfl) ⟨hB,c6⟩ ?_
   simp only [Act.put,zz0,zz1,zz2]
   refine wpP (i:=13) (v:=.int .i64 (putV12 s.S l x).2) HQN rfl (fun w hSw=>by kernel_rfl) ⟨hB,c6⟩ ?_
   simp only [Act.put,zz0,zz1,zz2]
   refine wpP (i:=14) (v:=.pointer (some ⟨D1,0,none⟩)) HQN rfl (fun w hSw=>by go_simp) ⟨hB,c6⟩ ?_
   simp only [Act.put,zz0,zz1,zz2]
   refine wpP (i:=15) (v:=.pointer (some ⟨D1,0,none⟩)) HQN rfl (fun w hSw=>by go_simp) ⟨hB,c6⟩ ?_
   simp only [Act.put,zz0,zz1,zz2]
   exact ST2_10 _ _ _ hB c6 hO i1 hZ
 have ST:∀ (W:World),Below B0 W0 W→W.cell? ⟨D1,6,none⟩=some (.slice (some ⟨b,off,none⟩) nc cc)→(∀ k,k≠D1→k < W0.heap.size→W.heap[k]?=W0.heap[k]?)→Is W D1 74 (askA s A c k AL nl cl (some ⟨b,off,none⟩) nc cc)→InS W s.S A c→wpAnyH Tryz.prog .any (opsOf Tryz.f61 13) Q (fun W=>Below B0 W0 W∧W.cell? ⟨D1,6,none⟩=some (.slice (some ⟨b,off,none⟩) nc cc)) 8 #[true,true,false,true,true,true,true,true,true,true,false,false,false,false,false,false,false] { tmps:=#[x0,.pointer (some ⟨D1,0,none⟩),x2,x3,x4,x5,x6,.int .i64 (q:Int),.string l,x9,Xa,Xb,Xc,Xd,Xe,Xf,Xg,Xh,Xi,Xj,Xk,Xl,Xm,Xn,Xo,Xp,Xq,Xr,Xs,Xt,Xu,Xv,Xw,Xx,Xy,Xz,Ya,Yb,Yc,Yd,Ye,Yf,Yg,Yh,Yi,Yj,Yk,Yl,Ym,Yn,Yo,Yp,Yq,Yr,Ys,Yt,Yu,Yv,.pointer (some ⟨D1,0,none⟩),.pointer (some ⟨D1,0,none⟩),Yy,.string l,.pointer (some ⟨D1,4,none⟩),.pointer (some ⟨D1,6,none⟩),.slice (some ⟨b,off,none⟩) nc cc,.int .i64 (q:Int),.pointer (some ⟨b,off + q,none⟩),.string x,Zg,Zh,Zi,Zj,Zk,Zl,Zm,Zn,Zo],defers:=DF } W:=by
  intro W hB c6 hO i1 hI
  refine wpAnyH_ready (by kernel_rfl) (by simp) (AllReadyH.cons (i:=2) (at_nth rfl) ?_ (AllReadyH.nil))
  ·
   refine arm10_value (v:=.agg (stoA s.S A c)) (w':=W) (by kernel_rfl) (run_load_midO12 (x:=.tmp 59) (by kernel_rfl) (by kernel_rfl) i1.askT13 Tryz.underlying31 rfl infoSto12) ⟨hB,c6⟩ ?_
   simp only [Act.put,zz0,zz1,zz2]
   exact ST2 _ hB c6 hO i1 hI
 refine wp_region_held_drew (S:=fun W=>Below B0 W0 W∧W.cell? ⟨D1,6,none⟩=some (.slice (some ⟨b,off,none⟩) nc cc)) (by kernel_rfl) ⟨hB,c6⟩ (fun hS=>?_)
 change wpAnyH _ _ (opsOf Tryz.f61 13) _ _ 17 (Array.replicate 17 false) _ (W0.drewN 1)
 clear hS
 replace hB:Below B0 W0 (W0.drewN 1):=belowN (Below.refl _ _) 1
 replace i1:=i1.drewN 1
 replace hI:=hI.keep (belowN (Below.refl _ _) 1)
 refine wpP (i:=0) (v:=.pointer (some ⟨D1,0,none⟩)) HQN rfl (fun w hSw=>by go_simp) ⟨hB,c6⟩ ?_
 simp only [Act.put,zz0,zz1,zz2]
 refine wpP (i:=1) (v:=.pointer (some ⟨D1,0,none⟩)) HQN rfl (fun w hSw=>by go_simp) ⟨hB,c6⟩ ?_
 simp only [Act.put,zz0,zz1,zz2]
 refine wpP (i:=3) (v:=.string l) HQN rfl (fun w hSw=>by kernel_rfl) ⟨hB,c6⟩ ?_
 simp only [Act.put,zz0,zz1,zz2]
 refine wpP (i:=4) (v:=.pointer (some ⟨D1,4,none⟩)) HQN rfl (fun w hSw=>by go_simp) ⟨hB,c6⟩ ?_
 simp only [Act.put,zz0,zz1,zz2]
 refine wpP (i:=5) (v:=.pointer (some ⟨D1,6,none⟩)) HQN rfl (fun w hSw=>by go_simp) ⟨hB,c6⟩ ?_
 simp only [Act.put,zz0,zz1,zz2]
 refine wpP (i:=6) (v:=.slice (some ⟨b,off,none⟩) nc cc) HQN rfl (fun w hSw=>by (have hc:=hSw.2;go_simp)) ⟨hB,c6⟩ ?_
 simp only [Act.put,zz0,zz1,zz2]
 refine wpP (i:=7) (v:=.int .i64 (q:Int)) HQN rfl (fun w hSw=>by kernel_rfl) ⟨hB,c6⟩ ?_
 simp only [Act.put,zz0,zz1,zz2]
 refine wpP (i:=8) (v:=.pointer (some ⟨b,off + q,none⟩)) HQN rfl (fun w hSw=>by (have hk':=hq;go_simp)) ⟨hB,c6⟩ ?_
 simp only [Act.put,zz0,zz1,zz2]
 refine wpP (i:=9) (v:=.string x) HQN rfl (fun w hSw=>by (have hc:=(hSw.1.cell (p:=⟨b,off + q,none⟩) hbB).trans hx;go_simp)) ⟨hB,c6⟩ ?_
 simp only [Act.put,zz0,zz1,zz2]
 exact ST _ hB c6 (fun _ _ _=>rfl) i1 hI
theorem sput_any13 (s:Srv13) (A:Option Addr) (c:Nat) (k:Int) (AL:Option Addr) (cl:Nat) (L:List ByteArray) (AC:Option Addr) (cc:Nat) (C:List ByteArray) (w:World) (hs:Rt13 s) (hl:L.length≤1000) (hlc:C.length=L.length) (hI:InS w s.S A c) (hL:InV w AL (tL10 L)) (hC:InV w AC (tL10 C)) :
  Calls Tryz.prog 61 #[.agg (askA s A c k AL L.length cl AC C.length cc)] w fun e w'=>∃ A1 c1,e=.returned (.tuple #[srvV (put13 s (L.zip C)).1 A1 c1,.agg (rspA 0 (put13 s (L.zip C)).2.st none 0 0 0 0)])∧InS w' (put13 s (L.zip C)).1.S A1 c1∧Below w.heap.size w w':=by
 have HI:=Lib.hid hI
 have HL:=Lib.hid hL
 have HC:=Lib.hid hC
 have HS:=Lib.hid hs
 have HLL:=Lib.hid hl
 have HLC:=Lib.hid hlc
 have HN:=Lib.hid (thr_len13 s.S.B L 0)
 obtain ⟨R,hR⟩:∃ R,R=put13 s (L.zip C):=⟨_,rfl⟩
 rw [← hR]
 have HR:=Lib.hid hR
 clear hI hL hC hs hl hlc hR
 refine (callsIn_wide (n:=5)).1 ?_
 refine callsIn_of_wp_marks Tryz.func61 rfl trivial ?_ rfl
 simp only [Tryz.ntmps61,List.size_toArray,List.length_cons,List.length_nil,Nat.reduceAdd,Nat.reduceSub,Array.replicate_succ,Array.replicate_zero,List.push_toArray,List.append_toArray,List.nil_append,List.cons_append]
 obtain ⟨W1,hW1⟩:∃ W1,W1=((w.alloc (.cells (askA s A c k AL L.length cl AC C.length cc) 74)).alloc (.cells #[.slice none 0 0,.int .i64 0,.int .i64 0,.int .i64 0] 33)).alloc (.cells (rspA 0 0 none 0 0 0 0) 45):=⟨_,rfl⟩
 have i1:Is W1 w.heap.size 74 (askA s A c k AL L.length cl AC C.length cc):=by rw [hW1];exact ((Is.new w _ _).alloc _).alloc _
 have i2:Is W1 (w.heap.size + 1) 33 #[.slice none 0 0,.int .i64 0,.int .i64 0,.int .i64 0]:=by rw [hW1];exact Is.alloc (heap_alloc2_new w _ _) _
 have i3:Is W1 (w.heap.size + 1 + 1) 45 (rspA 0 0 none 0 0 0 0):=by
  have:=Is.new ((w.alloc (.cells (askA s A c k AL L.length cl AC C.length cc) 74)).alloc (.cells #[.slice none 0 0,.int .i64 0,.int .i64 0,.int .i64 0] 33)) 45 (rspA 0 0 none 0 0 0 0)
  rw [hW1];simpa using this
 have hB:Below w.heap.size w W1:=by rw [hW1];exact (((Below.refl _ _).alloc (Nat.le_refl _) _).alloc (by simp) _).alloc (by simp;omega) _
 have HS1:W1.heap.size=w.heap.size + 1 + 1 + 1:=by rw [hW1];simp
 obtain ⟨W2,hW2⟩:∃ W2,W2=W1.alloc (.cells #[.int .i64 (L.length:Int)] 3):=⟨_,rfl⟩
 have q1:Is W2 w.heap.size 74 (askA s A c k AL L.length cl AC C.length cc):=by rw [hW2];exact i1.alloc _
 have q2:Is W2 (w.heap.size + 1) 33 #[.slice none 0 0,.int .i64 0,.int .i64 0,.int .i64 0]:=by rw [hW2];exact i2.alloc _
 have q3:Is W2 (w.heap.size + 1 + 1) 45 (rspA 0 0 none 0 0 0 0):=by rw [hW2];exact i3.alloc _
 have q4:Is W2 (w.heap.size + 1 + 1 + 1) 3 #[.int .i64 (L.length:Int)]:=by rw [hW2,← HS1];exact Is.new W1 _ _
 have hB2:Below w.heap.size w W2:=by rw [hW2];exact hB.alloc hB.size _
 have HS2:=Lib.hid (show W2.heap.size=w.heap.size + 4 by rw [hW2];simp [HS1])
 rw [hW1] at hW2
 have qs:=q1.askT13
 have c52:=q1.cell 5
 rw [hW2] at qs c52
 clear i1 i2 i3 hB HS1 hW1
 gi_wp2_with (refine wpListIn_load_midI rfl 31 _ rfl w.heap.size 0 rfl _ qs Tryz.underlying31 rfl infoSto12 ?_)
 rw [← hW2]
 clear hW2 qs c52
 refine ⟨trivial,(callsIn_wide.2 (there_any13 s.S A c AL L.length cl W2)).mono ?_⟩
 rintro e W3 ⟨rfl,hW3⟩
 have r1:Is W3 w.heap.size 74 (askA s A c k AL L.length cl AC C.length cc):=by rw [hW3];exact (q1.alloc _).alloc _
 have r2:Is W3 (w.heap.size + 1) 33 #[.slice none 0 0,.int .i64 0,.int .i64 0,.int .i64 0]:=by rw [hW3];exact (q2.alloc _).alloc _
 have r3:Is W3 (w.heap.size + 1 + 1) 45 (rspA 0 0 none 0 0 0 0):=by rw [hW3];exact (q3.alloc _).alloc _
 have r4:Is W3 (w.heap.size + 1 + 1 + 1) 3 #[.int .i64 (L.length:Int)]:=by rw [hW3];exact (q4.alloc _).alloc _
 have rS:Is W3 W2.heap.size 31 (stoA s.S A c):=by rw [hW3];exact heap_alloc2_old _ _ _
 have rL:Is W3 (W2.heap.size + 1) 24 #[.slice AL L.length cl]:=by rw [hW3];exact heap_alloc2_new _ _ _
 have hB3:Below w.heap.size w W3:=by rw [hW3];exact (hB2.alloc hB2.size _).alloc (by have:=hB2.size;simp;omega) _
 have HS3:=Lib.hid (show W3.heap.size=w.heap.size + 6 by rw [hW3];have:=HS2.out;simp;omega)
 clear q1 q2 q3 q4 hB2 hW3
 generalize hBN:W2.heap.size=BN at *
 have HBN:=Lib.hid (show BN=w.heap.size + 4 from HS2.out)
 clear hBN
 gi_wp2_with fail
 refine wpIn_rangeL rfl (by omega) (gf:=110) (lb:=#[.pointer (some ⟨BN + 1,0,none⟩),.pointer (some ⟨BN,0,none⟩)]) rfl trivial (enters_of Tryz.func110 (by kernel_rfl) rfl) (S:=fun k=>k < w.heap.size∨k=BN∨k=BN + 1)
  (there_seq13 4 (by omega) BN (BN + 1) s.S A c AL cl L W3 HS.out.rt rS rL (HI.out.keep hB3) (HL.out.keep hB3) (by have:=HLL.out;omega) _ (.inr (.inl rfl)) (.inr (.inr rfl)) (fun p e hn=>.inl (HI.out.b.blkB p e hn)) (fun p e hn=>.inl (tL_blk13 HL.out p e hn)) (fun k hk=>by have:=rS.lt;have:=rL.lt;have:=hB3.size;omega))
  (Stay.refl _ _) (fun k hk=>by have:=rS.lt;have:=rL.lt;have:=hB3.size;omega) (fun _=>rfl)
  (fun i W=>Below w.heap.size w W∧Is W w.heap.size 74 (askA s A c k AL L.length cl AC C.length cc)∧Is W (w.heap.size + 1) 33 #[.slice none 0 0,.int .i64 0,.int .i64 0,.int .i64 0]∧Is W (w.heap.size + 1 + 1) 45 (rspA 0 0 none 0 0 0 0)∧Is W (w.heap.size + 1 + 1 + 1) 3 #[.int .i64 ((L.length:Int) - (i:Int))]∧AllEq13 s.S.B L C i)
  (fun c0 _ W=>c0=.ret∧Below w.heap.size w W∧Is W (w.heap.size + 1) 33 (srvA s A c)∧Is W (w.heap.size + 1 + 1) 45 (rspA 0 2 none 0 0 0 0)∧taken13 s.S.B (L.zip C)=true)
  (fun s X Y row hs hg hr=>⟨belowOwn12 hs.1 hs.1.size (by have:=hB3.size;omega) hg hr,isOwn12 hs.2.1 hg hr,isOwn12 hs.2.2.1 hg hr,isOwn12 hs.2.2.2.1 hg hr,isOwn12 hs.2.2.2.2.1 hg hr,hs.2.2.2.2.2⟩)
  (fun c s X Y row hs hg hr=>⟨hs.1,belowOwn12 hs.2.1 hs.2.1.size (by have:=hB3.size;omega) hg hr,isOwn12 hs.2.2.1 hg hr,isOwn12 hs.2.2.2.1 hg hr,hs.2.2.2.2⟩)
  ⟨hB3,r1,r2,r3,by simpa using r4,fun j p h=>absurd h (Nat.not_lt_zero _)⟩ ?round ?done ?stop
 case round =>
  rintro l2 i ⟨q,y⟩ W hl hlt hx ⟨hb,j1,j2,j3,j4,hal⟩
  gi_wp2
  refine ⟨Stay.refl _ _,⟨hb,j1,j2,j3,j4,hal⟩,fun _=>True,fun _ _ _ _ _ _ _=>trivial,trivial,?_⟩
  clear hb j1 j2 j3 j4 hal
  rintro W4 hl4 ⟨hb,j1,j2,j3,j4,hal⟩ _
  obtain ⟨l,hq,_,_⟩:=thr_mem13 hx
  simp only [Nat.sub_zero] at hq
  have hql:q < L.length:=(List.getElem?_eq_some_iff.1 hq).1
  have hqc:q < C.length:=by rw [HLC.out];exact hql
  have hqi:(q:Int) < (C.length:Int):=by omega
  obtain ⟨z,hz⟩:∃ z,C[q]?=some z:=⟨_,List.getElem?_eq_getElem hqc⟩
  have hil:i < L.length:=by
   have h1:=(List.getElem?_eq_some_iff.1 hx).1
   have h2:=HN.out
   have h3:=List.countP_le_length (p:=fun l=>(mp12 s.S.B l).isSome) (l:=L)
   rw [has13] at h2
   omega
  obtain ⟨b,off,rfl,hbl,hxw⟩:=HC.out.txt13 hz
  have hxw4:=(hb.cell (p:=⟨b,off + q,none⟩) hbl).trans hxw
  have c6:=j1.cell 6
  by_cases hyz:y=z
  ·
   subst hyz
   have HAL:=Lib.hid (hal.next hx hz)
   clear hx hq hz hal
   have c4:=j4.cell 0
   have f4:=j4.frozen 0
   have hwi:=IntWalk.i64_in ((L.length:Int) - (i:Int) - 1) (by have:=HLL.out;omega)
   have HZ4:=Lib.hid (show Is (W4.setCell ⟨w.heap.size + 1 + 1 + 1,0,none⟩ (.int .i64 ((L.length:Int) - (i:Int) - 1))) (w.heap.size + 1 + 1 + 1) 3 #[.int .i64 ((L.length:Int) - ((i + 1:Nat):Int))] by
    have:=j4.set 0 (.int .i64 ((L.length:Int) - (i:Int) - 1))
    rw [show (L.length:Int) - (i:Int) - 1=(L.length:Int) - ((i + 1:Nat):Int) by omega] at this ⊢
    exact this)
   gi_wp2_with fail
   exact ⟨(Stay.refl _ _).grown (grownSetG _ _ _) (fun r e=>by cases e;exact .inl (by have:=HS3.out;have:=HBN.out;simp only [];omega)),hb.setCell (by simp only [];omega) _,j1.far (by simp only [];omega) _,j2.far (by simp only [];omega) _,j3.far (by simp only [];omega) _,HZ4.out,HAL.out⟩
  ·
   have HT:=Lib.hid (taken_yes13 hx hz hyz)
   have hbe:=beq_no13 hyz
   have hm:=j1.askS13
   have HO:=Lib.hid (srvA_one13 s A c)
   have HO2:=Lib.hid (rspA_one13 0 2 none 0 0 0 0)
   have k3:=j3.rowFar (k:=w.heap.size + 1) (by omega) (srvA s A c)
   have HJ2:=Lib.hid ((j2.row (srvA s A c)).rowFar (k:=w.heap.size + 1 + 1) (by omega) (rspA 0 2 none 0 0 0 0))
   have HJ3:=Lib.hid (k3.row (rspA 0 2 none 0 0 0 0))
   have HBB:=Lib.hid (belowRow (belowRow hb (g:=w.heap.size + 1) (by omega) (srvA s A c)) (g:=w.heap.size + 1 + 1) (by omega) (rspA 0 2 none 0 0 0 0))
   clear hx hq hz hal hyz
   gi_wp2_with (first | (refine wpListIn_load_midI rfl 33 _ rfl w.heap.size 0 rfl _ hm Tryz.underlying33 rfl infoSrv13 ?_) | (refine wpListIn_store_rowI rfl 33 _ _ rfl (w.heap.size + 1) (srvA s A c) rfl rfl j2 infoSrv13 rfl HO.out ?_) | (refine wpListIn_store_rowI rfl 45 _ _ rfl (w.heap.size + 1 + 1) (rspA 0 2 none 0 0 0 0) rfl rfl k3 infoRsp13 rfl HO2.out ?_))
   exact ⟨((Stay.refl _ _).grown (grownRowG _ _ _) (fun r e=>by cases e;exact .inl (by have:=HS3.out;have:=HBN.out;omega))).grown (grownRowG _ _ _) (fun r e=>by cases e;exact .inl (by have:=HS3.out;have:=HBN.out;omega)),rfl,HBB.out,HJ2.out,HJ3.out,HT.out⟩
 case done =>
  rintro D W hD ⟨hb,j1,j2,j3,j4,hal⟩ hK
  have ht:=hal.no
  rw [HN.out] at j4
  have hhm:=has_more13 s.S.B L
  rw [show (L.length:Int) - (has13 s.S.B L:Nat)=(more13 s.S.B L:Nat) by omega] at j4
  have hmo:more13 s.S.B L≤1000:=by have:=HLL.out;omega
  have c1:=j1.cell 1
  have c3:=j1.cell 3
  have c4:=j4.cell 0
  have hms:=HS.out.many
  have hrb:=HS.out.rt.bnd.many
  have hli:=HS.out.hi
  have hll:=HS.out.lo
  have hwi:=IntWalk.i64_in (s.S.many + (more13 s.S.B L:Nat)) (by omega)
  have HT:=Lib.hid ht
  clear hal ht hhm
  by_cases hf:s.lim < s.S.many + (more13 s.S.B L:Nat)
  ·
   have HR2:=Lib.hid (HR.out.trans (put_full13 HT.out (by rw [zip_fst13 HLC.out];exact hf)))
   have hm:=j1.askS13
   have HO:=Lib.hid (srvA_one13 s A c)
   have HO2:=Lib.hid (rspA_one13 0 1 none 0 0 0 0)
   have k3:=j3.rowFar (k:=w.heap.size + 1) (by omega) (srvA s A c)
   have HJ2:=Lib.hid ((j2.row (srvA s A c)).rowFar (k:=w.heap.size + 1 + 1) (by omega) (rspA 0 1 none 0 0 0 0))
   have HJ3:=Lib.hid (k3.row (rspA 0 1 none 0 0 0 0))
   have HBB:=Lib.hid (belowRow (belowRow hb (g:=w.heap.size + 1) (by omega) (srvA s A c)) (g:=w.heap.size + 1 + 1) (by omega) (rspA 0 1 none 0 0 0 0))
   have HKK:=Lib.hid ((setRow_other (W.setRow (w.heap.size + 1) (srvA s A c)) (w.heap.size + 1 + 1) D (rspA 0 1 none 0 0 0 0) (by have:=HS3.out;omega)).trans ((setRow_other W (w.heap.size + 1) D (srvA s A c) (by have:=HS3.out;omega)).trans hK))
   clear hK
   gi_wp2_with (first | (refine wpListIn_load_midI rfl 33 _ rfl w.heap.size 0 rfl _ hm Tryz.underlying33 rfl infoSrv13 ?_) | (refine wpListIn_store_rowI rfl 33 _ _ rfl (w.heap.size + 1) (srvA s A c) rfl rfl j2 infoSrv13 rfl HO.out ?_) | (refine wpListIn_store_rowI rfl 45 _ _ rfl (w.heap.size + 1 + 1) (rspA 0 1 none 0 0 0 0) rfl rfl k3 infoRsp13 rfl HO2.out ?_))
   generalize (W.setRow (w.heap.size + 1) (srvA s A c)).setRow (w.heap.size + 1 + 1) (rspA 0 1 none 0 0 0 0)=W9 at *
   refine ⟨by simp,.inl ⟨_,_,rfl,run_takeDeferred HKK.out,?_⟩⟩
   have hgr:=grownBy_putObj' W9 D (.deferred none)
   have hrr:∀ r,some D=some r→W3.heap.size≤r∧∃ o:Obj,W9.heap[r]?=some o∧o.isCells=false:=fun r e=>by cases e;exact ⟨hD,_,HKK.out,rfl⟩
   have hbz:=belowOwn12 HBB.out HBB.out.size (by have:=hB3.size;omega) hgr hrr
   exact ⟨_,results_rr13 Tryz.results61 _ _ (w.heap.size + 1) 33 _ _ (w.heap.size + 1 + 1) 45 _ _ rfl (isOwn12 HJ2.out hgr hrr) Tryz.underlying33 rfl infoSrv13 rfl (isOwn12 HJ3.out hgr hrr) Tryz.underlying45 rfl infoRsp13,A,c,by rw [HR2.out],by rw [HR2.out];exact HI.out.keep hbz,hbz⟩
  ·
   have HPF:=Lib.hid (put_done13 HT.out (show s.S.many + (more13 s.S.B ((L.zip C).map Prod.fst):Nat)≤s.lim by rw [zip_fst13 HLC.out];omega))
   have HR2:=Lib.hid (HR.out.trans HPF.out)
   have c5:=j1.cell 5
   have HPL:=Lib.hid (show (L.zip C).length=L.length by rw [List.length_zip,HLC.out];simp)
   gi_wp2_with fail
   clear c1 c3 c4 c5 j4
   gi_loopw [52] (fun i wr=>∃ n:Nat,n≤L.length∧i=.int .i64 (n:Int)∧∃ A' c',Below w.heap.size w wr∧Is wr w.heap.size 74 (askA ⟨puts13 s.S ((L.zip C).take n),s.lim⟩ A' c' k AL L.length cl AC C.length cc)∧Is wr (w.heap.size + 1) 33 #[.slice none 0 0,.int .i64 0,.int .i64 0,.int .i64 0]∧Is wr (w.heap.size + 1 + 1) 45 (rspA 0 0 none 0 0 0 0)∧InS wr (puts13 s.S ((L.zip C).take n)) A' c'∧wr.heap[D]?=some (.deferred (some []))) (fun i _=>L.length - (intOf i).toNat)
   case atStart=>exact ⟨0,by omega,rfl,A,c,hb,j1,j2,j3,HI.out.keep hb,hK⟩
   case round =>
    clear hb j1 j2 j3 hK
    obtain ⟨n,hn,rfl,A',c',hb,j1,j2,j3,jI,hK⟩:=hrel
    by_cases hlt:n < L.length
    ·
     have hlt2:n < C.length:=by rw [HLC.out];exact hlt
     obtain ⟨l,hl⟩:∃ l,L[n]?=some l:=⟨_,List.getElem?_eq_getElem hlt⟩
     obtain ⟨x,hx⟩:∃ x,C[n]?=some x:=⟨_,List.getElem?_eq_getElem hlt2⟩
     have HNX:=Lib.hid (puts_next13 (s:=s.S) (zip_at13 hl hx))
     obtain ⟨b,off,rfl,hbl,hxl⟩:=HL.out.txt13 hl
     obtain ⟨b2,off2,rfl,hbl2,hxx⟩:=HC.out.txt13 hx
     have hxl5:=(hb.cell (p:=⟨b,off + n,none⟩) hbl).trans hxl
     have hxx5:=(hb.cell (p:=⟨b2,off2 + n,none⟩) hbl2).trans hxx
     have c6:=j1.cell 6
     have hn1:(n:Int) < (L.length:Int):=by omega
     have w1i:=IntWalk.i64_in ((n:Int) + 1) (by have:=HLL.out;omega)
     clear hl hx
     gi_wp2_with fail
     rw [wpIn_wide]
     refine Code.wp_mono ?_ (put13_13 _ wr w.heap.size w.heap.size ⟨puts13 s.S ((L.zip C).take n),s.lim⟩ A' c' k (some ⟨b,off,none⟩) L.length cl b2 off2 C.length cc n l x hlt2 hbl2 hxx5 c6 j1 jI (Nat.le_refl _) hb.size _ _ _ _ _ _ _ _ _ _ _ _ _ _ _ _ _ _ _ _ _ _ _ _ _ _ _ _ _ _ _ _ _ _ _ _ _ _ _ _ _ _ _ _ _ _ _ _ _ _ _ _ _ _ _ _ _ _ _ _ _ _ _ _ _ _ _ _ _ _ _ _ _ _)
     rintro ex ⟨T,Df⟩ W5 ⟨rfl,hDf,AQ,cQ,hT,hB5,_,hO5,hZ5,j15⟩
     simp only at hT hDf
     subst hT
     subst hDf
     have j25:Is W5 (w.heap.size + 1) 33 #[.slice none 0 0,.int .i64 0,.int .i64 0,.int .i64 0]:=(hO5 _ (by omega) j2.lt).trans j2
     have j35:Is W5 (w.heap.size + 1 + 1) 45 (rspA 0 0 none 0 0 0 0):=(hO5 _ (by omega) j3.lt).trans j3
     have hK5:=(hO5 D (by have:=HS3.out;omega) (Array.getElem?_eq_some_iff.1 hK).1).trans hK
     have hb5:=hb.trans hB5
     simp only at j15 hZ5
     rw [← HNX.out] at j15 hZ5
     clear hO5 hB5 hb j1 j2 j3 jI hK
     gi_wp2
     go_roundw
     case rel=>exact ⟨n + 1,by omega,by go_num,AQ,cQ,hb5,j15,j25,j35,hZ5,hK5⟩
     case measure=>simp [intOf];omega
    ·
     have hn1:¬ (n:Int) < (L.length:Int):=by omega
     obtain rfl:n=L.length:=by omega
     rw [show (L.zip C).take L.length=L.zip C from List.take_of_length_le (by rw [HPL.out];exact Nat.le_refl _)] at j1 jI
     obtain ⟨Z,hZ⟩:∃ Z:Srv13,Z=⟨puts13 s.S (L.zip C),s.lim⟩:=⟨_,rfl⟩
     have jI2:InS wr Z.S A' c':=by rw [hZ];exact jI
     rw [← hZ] at j1
     have HR3:=Lib.hid (HR2.out.trans (by rw [← hZ]:_=(Z,(⟨1,0,[],0,0⟩:Rsp11))))
     clear hZ jI
     have hm:=j1.askS13
     have HO:=Lib.hid (srvA_one13 Z A' c')
     have HO2:=Lib.hid (rspA_one13 0 0 none 0 0 0 0)
     have k3:=j3.rowFar (k:=w.heap.size + 1) (by omega) (srvA Z A' c')
     have HJ2:=Lib.hid ((j2.row (srvA Z A' c')).rowFar (k:=w.heap.size + 1 + 1) (by omega) (rspA 0 0 none 0 0 0 0))
     have HJ3:=Lib.hid (k3.row (rspA 0 0 none 0 0 0 0))
     have HBB:=Lib.hid (belowRow (belowRow hb (g:=w.heap.size + 1) (by omega) (srvA Z A' c')) (g:=w.heap.size + 1 + 1) (by omega) (rspA 0 0 none 0 0 0 0))
     have HII:=Lib.hid ((jI2.noS13 j2 rfl (grownRowG wr _ (srvA Z A' c'))).noS13 k3 rfl (grownRowG _ _ (rspA 0 0 none 0 0 0 0)))
     have HKK:=Lib.hid ((setRow_other (wr.setRow (w.heap.size + 1) (srvA Z A' c')) (w.heap.size + 1 + 1) D (rspA 0 0 none 0 0 0 0) (by have:=HS3.out;omega)).trans ((setRow_other wr (w.heap.size + 1) D (srvA Z A' c') (by have:=HS3.out;omega)).trans hK))
     clear hK jI2
     gi_wp2_with (first | (refine wpListIn_load_midI rfl 33 _ rfl w.heap.size 0 rfl _ hm Tryz.underlying33 rfl infoSrv13 ?_) | (refine wpListIn_store_rowI rfl 33 _ _ rfl (w.heap.size + 1) (srvA Z A' c') rfl rfl j2 infoSrv13 rfl HO.out ?_) | (refine wpListIn_store_rowI rfl 45 _ _ rfl (w.heap.size + 1 + 1) (rspA 0 0 none 0 0 0 0) rfl rfl k3 infoRsp13 rfl HO2.out ?_))
     generalize (wr.setRow (w.heap.size + 1) (srvA Z A' c')).setRow (w.heap.size + 1 + 1) (rspA 0 0 none 0 0 0 0)=W9 at *
     refine ⟨by simp,.inl ⟨_,_,rfl,run_takeDeferred HKK.out,?_⟩⟩
     have hgr:=grownBy_putObj' W9 D (.deferred none)
     have hrr:∀ r,some D=some r→W3.heap.size≤r∧∃ o:Obj,W9.heap[r]?=some o∧o.isCells=false:=fun r e=>by cases e;exact ⟨hD,_,HKK.out,rfl⟩
     have hbz:=belowOwn12 HBB.out HBB.out.size (by have:=hB3.size;omega) hgr hrr
     exact ⟨_,results_rr13 Tryz.results61 _ _ (w.heap.size + 1) 33 _ _ (w.heap.size + 1 + 1) 45 _ _ rfl (isOwn12 HJ2.out hgr hrr) Tryz.underlying33 rfl infoSrv13 rfl (isOwn12 HJ3.out hgr hrr) Tryz.underlying45 rfl infoRsp13,A',c',by rw [HR3.out],by rw [HR3.out];exact HII.out.own13 hgr (fun r e=>(hrr r e).2),hbz⟩
 case stop =>
  rintro D c0 i W hD ⟨rfl,hb,j2,j3,ht⟩ hK
  have HR2:=Lib.hid (HR.out.trans (put_taken13 ht))
  gi_wp2
  refine ⟨by simp,.inl ⟨_,_,rfl,run_takeDeferred hK,?_⟩⟩
  have hgr:=grownBy_putObj' W D (.deferred none)
  have hrr:∀ r,some D=some r→W3.heap.size≤r∧∃ o:Obj,W.heap[r]?=some o∧o.isCells=false:=fun r e=>by cases e;exact ⟨hD,_,hK,rfl⟩
  have hbz:=belowOwn12 hb hb.size (by have:=hB3.size;omega) hgr hrr
  exact ⟨_,results_rr13 Tryz.results61 _ _ (w.heap.size + 1) 33 _ _ (w.heap.size + 1 + 1) 45 _ _ rfl (isOwn12 j2 hgr hrr) Tryz.underlying33 rfl infoSrv13 rfl (isOwn12 j3 hgr hrr) Tryz.underlying45 rfl infoRsp13,A,c,by rw [HR2.out],by rw [HR2.out];exact HI.out.keep hbz,hbz⟩
end Go.Proofs.YtmggbbmpckcleaaGreat
namespace Go.Proofs.YtmggbbmpckcleaaGreat
open Go.RowKit Go.Shelf
theorem run_insert13 {W:World} {r:Nat} {es:Array MapEntry} {clock:Nat} (hb:W.heap[r]?=some (.map es clock)) (key:Int) (v:Value) (hn:Instr.findNow (.int .i64) (.int .i64 key) es.toList 0=some none) :
  (Instr.mapUpdate 72 (.map (some r)) (.int .i64 key) v).run Tryz.prog W=.ok () (W.putObj r (.map (es.push ⟨.int .i64 key,v,clock⟩) (clock + 1))):=by
 have hd:Tryz.prog.underlying 3=some (.int .i64):=Tryz.underlying3
 have hm:=Tryz.underlying72
 simp [Instr.mapUpdate,run_underlying hm,Go.MapKept.run_getObj_map hb,Go.MapKept.run_checkKey hd (show Go.MapKept.IsKey (.int .i64) (.int .i64 key) from rfl),Go.MapKept.run_findKey hd hn,Go.MapKept.run_setObj_map _ hb,Result.andThen,World.putObj]
theorem run_lookup13 {W:World} {r:Nat} {es:Array MapEntry} {clock i:Nat} (hb:W.heap[r]?=some (.map es clock)) {key:Int} {v:Value} (hn:Instr.findNow (.int .i64) (.int .i64 key) es.toList 0=some (some (i,v))) :
  (Instr.lookup 72 (.map (some r)) (.int .i64 key) false).run Tryz.prog W=.ok v W:=by
 have hd:Tryz.prog.underlying 3=some (.int .i64):=Tryz.underlying3
 have hm:=Tryz.underlying72
 simp [Instr.lookup,run_underlying hm,Go.MapKept.run_getObj_map hb,Go.MapKept.run_checkKey hd (show Go.MapKept.IsKey (.int .i64) (.int .i64 key) from rfl),Go.MapKept.run_findKey hd hn,Result.andThen]
def kinds13 (v:Value):Array MapEntry:=#[⟨.int .i64 1,.func (.func 61) #[v] #[],0⟩,⟨.int .i64 2,.func (.func 62) #[v] #[],1⟩,⟨.int .i64 3,.func (.func 63) #[v] #[],2⟩,⟨.int .i64 4,.func (.func 64) #[v] #[],3⟩]
theorem below_put13 {n:Nat} {a b:World} (h:Below n a b) {r:Nat} (hr:n≤r) (o:Obj):Below n a (b.putObj r o):=⟨h.os,h.tape,h.output,by rw [World.putObj_size];exact h.size,fun k hk=>(World.putObj_heap_other (by omega)).trans (h.block k hk)⟩
theorem is_put13 {W:World} {g r:Nat} {t:TypeId} {cs:Array Value} (h:Is W g t cs) (hr:g≠r) (o:Obj):Is (W.putObj r o) g t cs:=(World.putObj_heap_other hr).trans h
theorem insert_step13 {W a:World} {r g n:Nat} {es:Array MapEntry} {clock:Nat} {t:TypeId} {cs:Array Value} (e:W.heap[r]?=some (.map es clock)) (i:Is W g t cs) (hne:g≠r) (hB:Below n a W) (hr:n≤r) (key:Int) (v:Value) (hn:Instr.findNow (.int .i64) (.int .i64 key) es.toList 0=some none) :
  ∃ W':World,(Instr.mapUpdate 72 (.map (some r)) (.int .i64 key) v).run Tryz.prog W=.ok () W'∧W'.heap[r]?=some (.map (es.push ⟨.int .i64 key,v,clock⟩) (clock + 1))∧Is W' g t cs∧Below n a W' :=
 ⟨_,run_insert13 e key v hn,World.putObj_heap_same (Array.getElem?_eq_some_iff.1 e).1,is_put13 i hne _,below_put13 hB hr _⟩
theorem kinds_any13 (cs:Array Value) (w:World) (hcs:cs.size=7) :
  Calls Tryz.prog 34 #[.agg cs] w fun e w'=>∃ r clock,e=.returned (.map (some r))∧w'.heap[r]?=some (.map (kinds13 (.agg cs)) clock)∧Below w.heap.size w w':=by
 have hmm:∀ (W:World),(Instr.makeMap 72 none).run Tryz.prog W=.ok (.map (some W.heap.size)) (W.alloc (.map #[] 0)):=fun W=>by rfl
 have i0:=Is.new w 74 cs
 have hB0:Below w.heap.size w (w.alloc (.cells cs 74)):=(Below.refl _ _).alloc (Nat.le_refl _) _
 obtain ⟨M0,hM0⟩:∃ M,M=(w.alloc (.cells cs 74)).alloc (.map #[] 0):=⟨_,rfl⟩
 have hrs:(w.alloc (.cells cs 74)).heap.size=w.heap.size + 1:=by simp
 have e0:M0.heap[w.heap.size + 1]?=some (.map #[] 0):=by rw [hM0,← hrs];exact World.alloc_heap_new _ _
 have iL:=i0.alloc (.map #[] 0)
 have i0:Is M0 w.heap.size 74 cs:=by rw [hM0];exact i0.alloc _
 have hB0:Below w.heap.size w M0:=by rw [hM0];exact hB0.alloc hB0.size _
 have HI:=Lib.hid (show (Tryz.prog.info? 74).map (·.size)=some cs.size by rw [hcs];exact infoAsk13)
 have hne:w.heap.size≠w.heap.size + 1:=by omega
 obtain ⟨M1,r1,e1,i1,hB1⟩:=insert_step13 e0 i0 hne hB0 (by omega) 1 (.func (.func 61) #[.agg cs] #[]) rfl
 obtain ⟨M2,r2,e2,i2,hB2⟩:=insert_step13 e1 i1 hne hB1 (by omega) 2 (.func (.func 62) #[.agg cs] #[]) rfl
 obtain ⟨M3,r3,e3,i3,hB3⟩:=insert_step13 e2 i2 hne hB2 (by omega) 3 (.func (.func 63) #[.agg cs] #[]) rfl
 obtain ⟨M4,r4,e4,i4,hB4⟩:=insert_step13 e3 i3 hne hB3 (by omega) 4 (.func (.func 64) #[.agg cs] #[]) rfl
 clear e0 e1 e2 e3 hB1 hB2 hB3
 have R1:=Lib.hid r1
 have R2:=Lib.hid r2
 have R3:=Lib.hid r3
 have R4:=Lib.hid r4
 have HE:=Lib.hid e4
 clear r1 r2 r3 r4 e4 hrs
 go_enter Tryz.func34,Tryz.ntmps34
 go_upto_region 1 with (fail)
 go_wp2_with (refine wpList_load_row rfl 74 _ rfl w.heap.size rfl _ _ _ _ iL Tryz.underlying74 rfl HI.out ?_)
 rw [← hM0]
 clear hM0 iL
 rw [R1.out,Result.andThen_ok,Oper.upon_skip]
 go_wp2_with (refine wpList_load_row rfl 74 _ rfl w.heap.size rfl _ _ _ _ i1 Tryz.underlying74 rfl HI.out ?_)
 rw [R2.out,Result.andThen_ok,Oper.upon_skip]
 go_wp2_with (refine wpList_load_row rfl 74 _ rfl w.heap.size rfl _ _ _ _ i2 Tryz.underlying74 rfl HI.out ?_)
 rw [R3.out,Result.andThen_ok,Oper.upon_skip]
 go_wp2_with (refine wpList_load_row rfl 74 _ rfl w.heap.size rfl _ _ _ _ i3 Tryz.underlying74 rfl HI.out ?_)
 rw [R4.out,Result.andThen_ok,Oper.upon_skip]
 go_wp2_with fail
 go_ret
 exact ⟨_,_,rfl,HE.out,hB4⟩
end Go.Proofs.YtmggbbmpckcleaaGreat
namespace Go.Proofs.YtmggbbmpckcleaaGreat
open Go.RowKit Go.Shelf
theorem do_k13 {s:Srv13} {q:Req11} (hs:right13 s=true) (hq:right11 q=true):(do13 s q).2.k=q.k:=by
 have hk:=(Rq13.of hq).k
 rcases (by omega:q.k=1∨q.k=2∨q.k=3∨q.k=4) with e | e | e | e
 · rw [do_put13 hs hq e,e];exact put_st13.1
 · rw [do_get13 hs hq e,e]
 · rw [do_del13 hs hq e,e]
 · rw [do_stat13 hs hq e,e]
theorem wpList_load_rowG13 {P:Program} {ops:Array Oper} {rest:List Oper} {o:Oper} {a:Act} {w:World} {Q:Exit→Act→World→Prop} (hw:Region.wanted o (yielded ops a.tmps)=true) (ty:TypeId) (x:Operand) (ho:o.op=.load ty x)
  (g:Nat) (hx:a.eval x=.pointer (some ⟨g,0,none⟩)) (t:TypeId) (cs:Array Value) {d:TypeDesc} (hg:Is w g t cs)
  (hu:P.underlying ty=some d) (hd:(match d with | .struct _ | .array _ _=>true | _=>false)=true) (hi:(P.info? ty).map (·.size)=some cs.size)
  (h:wpList P ops Q rest (a.put o.dst (.agg cs)) w):wpList P ops Q (o :: rest) a w :=
 wpList_step fun K hK=>by rw [if_pos hw];exact wp_load_row ty x ho g hx t cs (0,0) d hg hu hd hi (hK _ _ h)
theorem run_lookupO13 {W:World} {o:Oper} {a:Act} {x y:Operand} (ho:o.op=.lookup 72 x y false) {r:Nat} {es:Array MapEntry} {clock i:Nat} {key:Int} {v:Value} (hx:a.eval x=.map (some r)) (hy:a.eval y=.int .i64 key) (hb:W.heap[r]?=some (.map es clock)) (hn:Instr.findNow (.int .i64) (.int .i64 key) es.toList 0=some (some (i,v))) :
  (execOp a.eval o).run Tryz.prog W=.ok (.value v) W:=by
 simp only [execOp,ho,hx,hy,Sem.run_bind,Sem.run_pure,run_lookup13 hb hn,Result.andThen_ok]
theorem do13_4 (W0:World) (D2 D3 ix:Nat) (s:Srv13) (A:Option Addr) (c:Nat) (k:Int) (AL:Option Addr) (nl cl:Nat) (AC:Option Addr) (nc cc:Nat) (F:Value) (hF:Instr.findNow (.int .i64) (.int .i64 k) (kinds13 (.agg (askA s A c k AL nl cl AC nc cc))).toList 0=some (some (ix,F))) (i2:Is W0 D2 33 (srvA s A c)) (i3:Is W0 D3 26 (reqA k AL nl cl AC nc cc)) (x0 x1 x4 x5 x6 x7 x8 x9 Xa Xb Xc Xd Xe Xf Xg Xh Xi Xj Xk Xl Xm Xn Xo Xp Xq Xr Xs Xt Xu Xv Xw Xx Xy Xz Ya Yb Yc Yd Ye Yf:Value) :
  (Code.region 4 (opsOf Tryz.f15 4) true).wp Tryz.prog (fun ex YY W=>ex=.normal∧YY.defers=[]∧∃ (r:Nat) (clk:Nat),YY.tmps=#[x0,x1,.pointer (some ⟨D2,0,none⟩),.pointer (some ⟨D3,0,none⟩),x4,x5,F,x7,x8,x9,Xa,Xb,Xc,Xd,Xe,Xf,Xg,Xh,Xi,Xj,Xk,Xl,Xm,Xn,Xo,.agg (srvA s A c),.agg (reqA k AL nl cl AC nc cc),.agg (askA s A c k AL nl cl AC nc cc),.map (some r),.pointer (some ⟨D3,0,none⟩),.int .i64 k,F,Xw,Xx,Xy,Xz,Ya,Yb,Yc,Yd,Ye,Yf]∧Below W0.heap.size W0 W∧W.heap[r]?=some (.map (kinds13 (.agg (askA s A c k AL nl cl AC nc cc))) clk)) { tmps:=#[x0,x1,.pointer (some ⟨D2,0,none⟩),.pointer (some ⟨D3,0,none⟩),x4,x5,x6,x7,x8,x9,Xa,Xb,Xc,Xd,Xe,Xf,Xg,Xh,Xi,Xj,Xk,Xl,Xm,Xn,Xo,Xp,Xq,Xr,Xs,Xt,Xu,Xv,Xw,Xx,Xy,Xz,Ya,Yb,Yc,Yd,Ye,Yf],defers:=[] } W0:=by
 have hB:Below W0.heap.size W0 (W0.drewN 1):=belowN (Below.refl _ _) 1
 generalize hQ:(fun (ex:Exit) (YY:Act) (W:World)=>ex=.normal∧YY.defers=[]∧∃ (r:Nat) (clk:Nat),YY.tmps=#[x0,x1,.pointer (some ⟨D2,0,none⟩),.pointer (some ⟨D3,0,none⟩),x4,x5,F,x7,x8,x9,Xa,Xb,Xc,Xd,Xe,Xf,Xg,Xh,Xi,Xj,Xk,Xl,Xm,Xn,Xo,.agg (srvA s A c),.agg (reqA k AL nl cl AC nc cc),.agg (askA s A c k AL nl cl AC nc cc),.map (some r),.pointer (some ⟨D3,0,none⟩),.int .i64 k,F,Xw,Xx,Xy,Xz,Ya,Yb,Yc,Yd,Ye,Yf]∧Below W0.heap.size W0 W∧W.heap[r]?=some (.map (kinds13 (.agg (askA s A c k AL nl cl AC nc cc))) clk))=Q
 have HQN:∀ c a W,¬ Q (.panic c) a W:=fun c a W h=>by subst hQ;exact nomatch h.1
 have ST3_6:∀ (W:World) (r:Nat) (clk:Nat),Below W0.heap.size W0 W→W.heap[r]?=some (.map (kinds13 (.agg (askA s A c k AL nl cl AC nc cc))) clk)→wpAnyH Tryz.prog .any (opsOf Tryz.f15 4) Q (fun W=>Below W0.heap.size W0 W) 0 #[true,true,true,true,true,true,true,true] { tmps:=#[x0,x1,.pointer (some ⟨D2,0,none⟩),.pointer (some ⟨D3,0,none⟩),x4,x5,F,x7,x8,x9,Xa,Xb,Xc,Xd,Xe,Xf,Xg,Xh,Xi,Xj,Xk,Xl,Xm,Xn,Xo,.agg (srvA s A c),.agg (reqA k AL nl cl AC nc cc),.agg (askA s A c k AL nl cl AC nc cc),.map (some r),.pointer (some ⟨D3,0,none⟩),.int .i64 k,F,Xw,Xx,Xy,Xz,Ya,Yb,Yc,Yd,Ye,Yf],defers:=[] } W:=by
  intro W r clk hB hM
  refine wpAnyH_done (by kernel_rfl) ?_ _
  subst hQ
  exact ⟨rfl,rfl,r,clk,rfl,hB,hM⟩
 have ST3:∀ (W:World) (r:Nat) (clk:Nat),Below W0.heap.size W0 W→W.heap[r]?=some (.map (kinds13 (.agg (askA s A c k AL nl cl AC nc cc))) clk)→wpAnyH Tryz.prog .any (opsOf Tryz.f15 4) Q (fun W=>Below W0.heap.size W0 W) 2 #[true,true,true,true,true,true,false,false] { tmps:=#[x0,x1,.pointer (some ⟨D2,0,none⟩),.pointer (some ⟨D3,0,none⟩),x4,x5,x6,x7,x8,x9,Xa,Xb,Xc,Xd,Xe,Xf,Xg,Xh,Xi,Xj,Xk,Xl,Xm,Xn,Xo,.agg (srvA s A c),.agg (reqA k AL nl cl AC nc cc),.agg (askA s A c k AL nl cl AC nc cc),.map (some r),.pointer (some ⟨D3,0,none⟩),.int .i64 k,Xv,Xw,Xx,Xy,Xz,Ya,Yb,Yc,Yd,Ye,Yf],defers:=[] } W:=by
  intro W r clk hB hM
  refine wpAnyH_ready (by kernel_rfl) (by simp) (AllReadyH.cons (i:=6) (at_nth rfl) ?_ (AllReadyH.nil))
  ·
   refine arm10_value (v:=F) (w':=W) (by kernel_rfl) (run_lookupO13 (x:=.tmp 28) (y:=.tmp 30) (by kernel_rfl) (by kernel_rfl) (by kernel_rfl) hM hF) hB ?_
   simp only [Act.put,zz0,zz1,zz2]
   refine wpP (i:=7) (v:=F) HQN rfl (fun w hSw=>by kernel_rfl) hB ?_
   simp only [Act.put,zz0,zz1,zz2]
   exact ST3_6 _ _ _ hB hM
 have ST:∀ (W:World),Below W0.heap.size W0 W→wpAnyH Tryz.prog .any (opsOf Tryz.f15 4) Q (fun W=>Below W0.heap.size W0 W) 3 #[true,true,true,false,true,true,false,false] { tmps:=#[x0,x1,.pointer (some ⟨D2,0,none⟩),.pointer (some ⟨D3,0,none⟩),x4,x5,x6,x7,x8,x9,Xa,Xb,Xc,Xd,Xe,Xf,Xg,Xh,Xi,Xj,Xk,Xl,Xm,Xn,Xo,.agg (srvA s A c),.agg (reqA k AL nl cl AC nc cc),.agg (askA s A c k AL nl cl AC nc cc),Xs,.pointer (some ⟨D3,0,none⟩),.int .i64 k,Xv,Xw,Xx,Xy,Xz,Ya,Yb,Yc,Yd,Ye,Yf],defers:=[] } W:=by
  intro W hB
  refine wpAnyH_ready (by kernel_rfl) (by simp) (AllReadyH.cons (i:=3) (at_nth rfl) ?_ (AllReadyH.nil))
  ·
   refine arm10_call (by kernel_rfl) (fun wy=>by kernel_rfl) ((kinds_any13 (askA s A c k AL nl cl AC nc cc) _ rfl).mono ?_)
   rintro e Wn ⟨r,clk,rfl,hM,hb⟩
   replace hB:=hB.trans (hb.mono hB.size)
   clear hb
   refine ⟨_,rfl,hB,?_⟩
   simp only [Act.put,zz0,zz1,zz2]
   exact ST3 _ _ _ hB hM
 refine wp_region_held_drew (S:=fun W=>Below W0.heap.size W0 W) (by kernel_rfl) hB (fun hS=>?_)
 change wpAnyH _ _ (opsOf Tryz.f15 4) _ _ 8 (Array.replicate 8 false) _ (W0.drewN 1)
 clear hS
 replace hB:Below W0.heap.size W0 (W0.drewN 1):=belowN (Below.refl _ _) 1
 refine wpP (i:=0) (v:=.agg (srvA s A c)) HQN rfl (fun w hSw=>by exact run_load_rowO (x:=.tmp 2) (by kernel_rfl) (by kernel_rfl) (i2.below hSw i2.lt) Tryz.underlying33 rfl infoSrv13) hB ?_
 simp only [Act.put,zz0,zz1,zz2]
 refine wpP (i:=1) (v:=.agg (reqA k AL nl cl AC nc cc)) HQN rfl (fun w hSw=>by exact run_load_rowO (x:=.tmp 3) (by kernel_rfl) (by kernel_rfl) (i3.below hSw i3.lt) Tryz.underlying26 rfl infoReq13) hB ?_
 simp only [Act.put,zz0,zz1,zz2]
 refine wpP (i:=2) (v:=.agg (askA s A c k AL nl cl AC nc cc)) HQN rfl (fun w hSw=>by go_simp) hB ?_
 simp only [Act.put,zz0,zz1,zz2]
 refine wpP (i:=4) (v:=.pointer (some ⟨D3,0,none⟩)) HQN rfl (fun w hSw=>by go_simp) hB ?_
 simp only [Act.put,zz0,zz1,zz2]
 refine wpP (i:=5) (v:=.int .i64 k) HQN rfl (fun w hSw=>by (have hc:=(i3.below hSw i3.lt).cell 0;go_simp)) hB ?_
 simp only [Act.put,zz0,zz1,zz2]
 exact ST _ hB
theorem do13_7 (DF:List Deferred) (W0:World) (B0 D1 D2 D3:Nat) (s:Srv13) (A:Option Addr) (c:Nat) (D4 rc:Nat) (k st m r:Int) (h42:D4≠D2) (h43:D4≠D3) (RA:Option Addr) (RC:List ByteArray) (i1:Is W0 D1 33 (srvA s A c)) (i2:Is W0 D2 33 #[.slice none 0 0,.int .i64 0,.int .i64 0,.int .i64 0]) (i3:Is W0 D3 45 (rspA 0 0 none 0 0 0 0)) (hI:InS W0 s.S A c) (hV:InV W0 RA (tL10 RC)) (i8:Is W0 D4 45 (rspA k st RA RC.length rc m r)) (hD2:B0≤D2) (hD3:B0≤D3) (h12:D1≠D2) (h13:D1≠D3) (h23:D2≠D3) (x0 x1 x2 x3 x6 x9 Xa Xb Xc Xd Xe Xf Xg Xh Xi Xj Xk Xl Xm Xn Xo Xp Xq Xr Xs Xt Xu Xv Xw Xx Xy Xz Ya Yb Yc Yd Ye Yf:Value) :
  (Code.region 7 (opsOf Tryz.f15 7) true).wp Tryz.prog (fun ex YY W=>ex=.normal∧YY.defers=DF∧∃ (_:Unit),YY.tmps=#[x0,x1,x2,x3,.pointer (some ⟨D2,0,none⟩),.pointer (some ⟨D3,0,none⟩),x6,.pointer (some ⟨D1,0,none⟩),.pointer (some ⟨D4,0,none⟩),x9,Xa,Xb,Xc,Xd,Xe,Xf,Xg,Xh,Xi,Xj,Xk,Xl,Xm,Xn,Xo,Xp,Xq,Xr,Xs,Xt,Xu,Xv,Xw,Xx,Xy,Xz,Ya,Yb,Yc,Yd,.agg (srvA s A c),.agg (rspA k st RA RC.length rc m r)]∧Below B0 W0 W∧Is W D1 33 (srvA s A c)∧(∀ kk,kk≠D2→kk≠D3→kk < W0.heap.size→W.heap[kk]?=W0.heap[kk]?)∧InS W s.S A c∧InV W RA (tL10 RC)∧Is W D4 45 (rspA k st RA RC.length rc m r)∧Is W D2 33 (srvA s A c)∧Is W D3 45 (rspA k st RA RC.length rc m r)) { tmps:=#[x0,x1,x2,x3,.pointer (some ⟨D2,0,none⟩),.pointer (some ⟨D3,0,none⟩),x6,.pointer (some ⟨D1,0,none⟩),.pointer (some ⟨D4,0,none⟩),x9,Xa,Xb,Xc,Xd,Xe,Xf,Xg,Xh,Xi,Xj,Xk,Xl,Xm,Xn,Xo,Xp,Xq,Xr,Xs,Xt,Xu,Xv,Xw,Xx,Xy,Xz,Ya,Yb,Yc,Yd,Ye,Yf],defers:=DF } W0:=by
 have hB:Below B0 W0 (W0.drewN 1):=belowN (Below.refl _ _) 1
 generalize hQ:(fun (ex:Exit) (YY:Act) (W:World)=>ex=.normal∧YY.defers=DF∧∃ (_:Unit),YY.tmps=#[x0,x1,x2,x3,.pointer (some ⟨D2,0,none⟩),.pointer (some ⟨D3,0,none⟩),x6,.pointer (some ⟨D1,0,none⟩),.pointer (some ⟨D4,0,none⟩),x9,Xa,Xb,Xc,Xd,Xe,Xf,Xg,Xh,Xi,Xj,Xk,Xl,Xm,Xn,Xo,Xp,Xq,Xr,Xs,Xt,Xu,Xv,Xw,Xx,Xy,Xz,Ya,Yb,Yc,Yd,.agg (srvA s A c),.agg (rspA k st RA RC.length rc m r)]∧Below B0 W0 W∧Is W D1 33 (srvA s A c)∧(∀ kk,kk≠D2→kk≠D3→kk < W0.heap.size→W.heap[kk]?=W0.heap[kk]?)∧InS W s.S A c∧InV W RA (tL10 RC)∧Is W D4 45 (rspA k st RA RC.length rc m r)∧Is W D2 33 (srvA s A c)∧Is W D3 45 (rspA k st RA RC.length rc m r))=Q
 have HQN:∀ c a W,¬ Q (.panic c) a W:=fun c a W h=>by subst hQ;exact nomatch h.1
 have ST2_3:∀ (W:World),Below B0 W0 W→Is W D1 33 (srvA s A c)→(∀ kk,kk≠D2→kk≠D3→kk < W0.heap.size→W.heap[kk]?=W0.heap[kk]?)→InS W s.S A c→InV W RA (tL10 RC)→Is W D4 45 (rspA k st RA RC.length rc m r)→Is W D2 33 (srvA s A c)→Is W D3 45 (rspA k st RA RC.length rc m r)→wpAnyH Tryz.prog .any (opsOf Tryz.f15 7) Q (fun W=>Below B0 W0 W∧Is W D1 33 (srvA s A c)∧Is W D4 45 (rspA k st RA RC.length rc m r)) 0 #[true,true,true,true] { tmps:=#[x0,x1,x2,x3,.pointer (some ⟨D2,0,none⟩),.pointer (some ⟨D3,0,none⟩),x6,.pointer (some ⟨D1,0,none⟩),.pointer (some ⟨D4,0,none⟩),x9,Xa,Xb,Xc,Xd,Xe,Xf,Xg,Xh,Xi,Xj,Xk,Xl,Xm,Xn,Xo,Xp,Xq,Xr,Xs,Xt,Xu,Xv,Xw,Xx,Xy,Xz,Ya,Yb,Yc,Yd,.agg (srvA s A c),.agg (rspA k st RA RC.length rc m r)],defers:=DF } W:=by
  intro W hB i1 hO hI hV i8 j2 j3
  refine wpAnyH_done (by kernel_rfl) ?_ _
  subst hQ
  exact ⟨rfl,rfl,(),rfl,hB,i1,hO,hI,hV,i8,j2,j3⟩
 have ST2:∀ (W:World),Below B0 W0 W→Is W D1 33 (srvA s A c)→Is W D3 45 (rspA 0 0 none 0 0 0 0)→(∀ kk,kk≠D2→kk≠D3→kk < W0.heap.size→W.heap[kk]?=W0.heap[kk]?)→InS W s.S A c→InV W RA (tL10 RC)→Is W D4 45 (rspA k st RA RC.length rc m r)→Is W D2 33 (srvA s A c)→wpAnyH Tryz.prog .any (opsOf Tryz.f15 7) Q (fun W=>Below B0 W0 W∧Is W D1 33 (srvA s A c)∧Is W D4 45 (rspA k st RA RC.length rc m r)) 1 #[true,true,true,false] { tmps:=#[x0,x1,x2,x3,.pointer (some ⟨D2,0,none⟩),.pointer (some ⟨D3,0,none⟩),x6,.pointer (some ⟨D1,0,none⟩),.pointer (some ⟨D4,0,none⟩),x9,Xa,Xb,Xc,Xd,Xe,Xf,Xg,Xh,Xi,Xj,Xk,Xl,Xm,Xn,Xo,Xp,Xq,Xr,Xs,Xt,Xu,Xv,Xw,Xx,Xy,Xz,Ya,Yb,Yc,Yd,.agg (srvA s A c),.agg (rspA k st RA RC.length rc m r)],defers:=DF } W:=by
  intro W hB i1 i3 hO hI hV i8 j2
  refine wpAnyH_ready (by kernel_rfl) (by simp) (AllReadyH.cons (i:=3) (at_nth rfl) ?_ (AllReadyH.nil))
  ·
   have hone:(rspA k st RA RC.length rc m r).all (·.oneCell')=true:=rspA_one13 _ _ _ _ _ _ _
   have hg:=grownRowG W D3 (rspA k st RA RC.length rc m r)
   have j3:=i3.row (rspA k st RA RC.length rc m r)
   have hB2:=belowRow hB hD3 (rspA k st RA RC.length rc m r)
   have i12:=i1.rowFar (k:=D3) h13 (rspA k st RA RC.length rc m r)
   replace j2:=j2.rowFar (k:=D3) h23 (rspA k st RA RC.length rc m r)
   replace i8:=i8.rowFar (k:=D3) h43 (rspA k st RA RC.length rc m r)
   replace hO:∀ kk,kk≠D2→kk≠D3→kk < W0.heap.size→(W.setRow D3 (rspA k st RA RC.length rc m r)).heap[kk]?=W0.heap[kk]?:=fun kk h2 h3 hl=>(setRow_other W D3 kk (rspA k st RA RC.length rc m r) h3).trans (hO kk h2 h3 hl)
   replace hI:=hI.noS13 i3 rfl hg
   replace hV:=hV.noT13 i3 rfl hg
   refine arm10_skip (w':=W.setRow D3 (rspA k st RA RC.length rc m r)) (by kernel_rfl) (run_row10 (x:=.tmp 5) (y:=.tmp 41) (by kernel_rfl) (by kernel_rfl) (by kernel_rfl) i3 infoRsp13 rfl hone) ⟨hB2,i12,i8⟩ ?_
   try simp only [Act.put]
   replace hB:=hB2
   replace i1:=i12
   clear i3 hg
   exact ST2_3 _ hB i1 hO hI hV i8 j2 j3
 have ST:∀ (W:World),Below B0 W0 W→Is W D1 33 (srvA s A c)→Is W D2 33 #[.slice none 0 0,.int .i64 0,.int .i64 0,.int .i64 0]→Is W D3 45 (rspA 0 0 none 0 0 0 0)→(∀ kk,kk≠D2→kk≠D3→kk < W0.heap.size→W.heap[kk]?=W0.heap[kk]?)→InS W s.S A c→InV W RA (tL10 RC)→Is W D4 45 (rspA k st RA RC.length rc m r)→wpAnyH Tryz.prog .any (opsOf Tryz.f15 7) Q (fun W=>Below B0 W0 W∧Is W D1 33 (srvA s A c)∧Is W D4 45 (rspA k st RA RC.length rc m r)) 2 #[true,true,false,false] { tmps:=#[x0,x1,x2,x3,.pointer (some ⟨D2,0,none⟩),.pointer (some ⟨D3,0,none⟩),x6,.pointer (some ⟨D1,0,none⟩),.pointer (some ⟨D4,0,none⟩),x9,Xa,Xb,Xc,Xd,Xe,Xf,Xg,Xh,Xi,Xj,Xk,Xl,Xm,Xn,Xo,Xp,Xq,Xr,Xs,Xt,Xu,Xv,Xw,Xx,Xy,Xz,Ya,Yb,Yc,Yd,.agg (srvA s A c),.agg (rspA k st RA RC.length rc m r)],defers:=DF } W:=by
  intro W hB i1 i2 i3 hO hI hV i8
  refine wpAnyH_ready (by kernel_rfl) (by simp) (AllReadyH.cons (i:=2) (at_nth rfl) ?_ (AllReadyH.nil))
  ·
   have hone:(srvA s A c).all (·.oneCell')=true:=srvA_one13 s A c
   have hg:=grownRowG W D2 (srvA s A c)
   have j2:=i2.row (srvA s A c)
   have hB2:=belowRow hB hD2 (srvA s A c)
   have i12:=i1.rowFar (k:=D2) h12 (srvA s A c)
   replace i3:=i3.rowFar (k:=D2) h23.symm (srvA s A c)
   replace i8:=i8.rowFar (k:=D2) h42 (srvA s A c)
   replace hO:∀ kk,kk≠D2→kk≠D3→kk < W0.heap.size→(W.setRow D2 (srvA s A c)).heap[kk]?=W0.heap[kk]?:=fun kk h2 h3 hl=>(setRow_other W D2 kk (srvA s A c) h2).trans (hO kk h2 h3 hl)
   replace hI:=hI.noS13 i2 rfl hg
   replace hV:=hV.noT13 i2 rfl hg
   refine arm10_skip (w':=W.setRow D2 (srvA s A c)) (by kernel_rfl) (run_row10 (x:=.tmp 4) (y:=.tmp 40) (by kernel_rfl) (by kernel_rfl) (by kernel_rfl) i2 infoSrv13 rfl hone) ⟨hB2,i12,i8⟩ ?_
   try simp only [Act.put]
   replace hB:=hB2
   replace i1:=i12
   clear i2 hg
   exact ST2 _ hB i1 i3 hO hI hV i8 j2
 refine wp_region_held_drew (S:=fun W=>Below B0 W0 W∧Is W D1 33 (srvA s A c)∧Is W D4 45 (rspA k st RA RC.length rc m r)) (by kernel_rfl) ⟨hB,i1,i8⟩ (fun hS=>?_)
 change wpAnyH _ _ (opsOf Tryz.f15 7) _ _ 4 (Array.replicate 4 false) _ (W0.drewN 1)
 clear hS
 replace hB:Below B0 W0 (W0.drewN 1):=belowN (Below.refl _ _) 1
 replace i1:=i1.drewN 1
 replace i2:=i2.drewN 1
 replace i3:=i3.drewN 1
 replace i8:=i8.drewN 1
 replace hI:=hI.keep (belowN (Below.refl _ _) 1)
 replace hV:=hV.keep (belowN (Below.refl _ _) 1)
 refine wpP (i:=0) (v:=.agg (srvA s A c)) HQN rfl (fun w hSw=>by exact run_load_rowO (x:=.tmp 7) (by kernel_rfl) (by kernel_rfl) (hSw.2.1) Tryz.underlying33 rfl infoSrv13) ⟨hB,i1,i8⟩ ?_
 simp only [Act.put,zz0,zz1,zz2]
 refine wpP (i:=1) (v:=.agg (rspA k st RA RC.length rc m r)) HQN rfl (fun w hSw=>by exact run_load_rowO (x:=.tmp 8) (by kernel_rfl) (by kernel_rfl) (hSw.2.2) Tryz.underlying45 rfl infoRsp13) ⟨hB,i1,i8⟩ ?_
 simp only [Act.put,zz0,zz1,zz2]
 exact ST _ hB i1 i2 i3 (fun _ _ _ _=>rfl) hI hV i8
def DoPost13 (D:Srv13 × Rsp11) (w:World) (r:Ending) (w':World):Prop :=
 ∃ A1 c1 RA rc,r=.returned (.tuple #[srvV D.1 A1 c1,.agg (rspA D.2.k D.2.st RA D.2.C.length rc D.2.many D.2.room)])∧InS w' D.1.S A1 c1∧InV w' RA (tL10 D.2.C)∧Below w.heap.size w w'
def KindPost13 (D:Srv13 × Rsp11) (w:World) (r:Ending) (w':World):Prop :=
 ∃ A1 c1 RA rc,r=.returned (.tuple #[srvV D.1 A1 c1,.agg (rspA 0 D.2.st RA D.2.C.length rc D.2.many D.2.room)])∧InS w' D.1.S A1 c1∧InV w' RA (tL10 D.2.C)∧Below w.heap.size w w'
theorem do_bad13 {s:Srv13} {q:Req11} (h:(right13 s && right11 q)=false):do13 s q=(s,zrsp11):=by rw [do13,h];rfl
section
variable {s:Srv13} {q:Req11} (hs:right13 s=true) (hq:right11 q=true)
include hs hq
theorem kind_put13 (e:q.k=1) (A:Option Addr) (c:Nat) (AL AC:Option Addr) (cl cc:Nat) (w:World) (hI:InS w s.S A c) (hL:InV w AL (tL10 q.L)) (hC:InV w AC (tL10 q.C)) :
  Calls Tryz.prog 61 #[.agg (askA s A c q.k AL q.L.length cl AC q.C.length cc)] w fun r w'=>KindPost13 (do13 s q) w r w':=by
 have hr:=Rq13.of hq
 refine (sput_any13 s A c q.k AL cl q.L AC cc q.C w (right_iff13.1 hs) (by have:=hr.few;omega) (hr.put e) hI hL hC).mono ?_
 rintro r w' ⟨A1,c1,rfl,h1,h2⟩
 obtain ⟨e1,e2,e3,e4,_⟩:=put_st13 (s:=s) (P:=q.L.zip q.C)
 rw [do_put13 hs hq e]
 exact ⟨A1,c1,none,0,by rw [e2,e3,e4];rfl,h1,by rw [e2];exact fun j u hj=>(by cases hj),h2⟩
theorem kind_get13 (e:q.k=2) (A:Option Addr) (c:Nat) (AL AC:Option Addr) (cl cc:Nat) (w:World) (hI:InS w s.S A c) (hL:InV w AL (tL10 q.L)) (_:InV w AC (tL10 q.C)) :
  Calls Tryz.prog 62 #[.agg (askA s A c q.k AL q.L.length cl AC q.C.length cc)] w fun r w'=>KindPost13 (do13 s q) w r w':=by
 have hr:=Rq13.of hq
 refine (sget_any13 s A c q.k AL cl q.L AC q.C.length cc w (right_iff13.1 hs).rt (by have:=hr.few;omega) hI hL).mono ?_
 rintro r w' ⟨RA,rc,rfl,h1,h2⟩
 rw [do_get13 hs hq e]
 exact ⟨A,c,RA,rc,by rw [List.length_map],hI.keep h2,h1,h2⟩
theorem kind_del13 (e:q.k=3) (A:Option Addr) (c:Nat) (AL AC:Option Addr) (cl cc:Nat) (w:World) (hI:InS w s.S A c) (hL:InV w AL (tL10 q.L)) (_:InV w AC (tL10 q.C)) :
  Calls Tryz.prog 63 #[.agg (askA s A c q.k AL q.L.length cl AC q.C.length cc)] w fun r w'=>KindPost13 (do13 s q) w r w':=by
 have hr:=Rq13.of hq
 refine (sdel_any13 s A c q.k AL cl q.L AC q.C.length cc w (right_iff13.1 hs).rt (by have:=hr.few;omega) hr.once hI hL).mono ?_
 rintro r w' ⟨A1,c1,rfl,h1,h2⟩
 rw [do_del13 hs hq e]
 exact ⟨A1,c1,none,0,rfl,h1,fun j u hj=>(by cases hj),h2⟩
theorem kind_stat13 (e:q.k=4) (A:Option Addr) (c:Nat) (AL AC:Option Addr) (cl cc:Nat) (w:World) (hI:InS w s.S A c) (_:InV w AL (tL10 q.L)) (_:InV w AC (tL10 q.C)) :
  Calls Tryz.prog 64 #[.agg (askA s A c q.k AL q.L.length cl AC q.C.length cc)] w fun r w'=>KindPost13 (do13 s q) w r w':=by
 refine (sstat_any13 s A c q.k AL q.L.length cl AC q.C.length cc w (right_iff13.1 hs) hI).mono ?_
 rintro r w' ⟨rfl,h2⟩
 rw [do_stat13 hs hq e]
 exact ⟨A,c,none,0,rfl,hI.keep h2,fun j u hj=>(by cases hj),h2⟩
end
theorem sdo_any13 (s:Srv13) (A:Option Addr) (c:Nat) (q:Req11) (AL AC:Option Addr) (cl cc:Nat) (w:World) (hl:q.L.length≤9223372036854775807) (hl2:q.C.length≤9223372036854775807) (hI:InS w s.S A c) (hL:InV w AL (tL10 q.L)) (hC:InV w AC (tL10 q.C)) :
  Calls Tryz.prog 15 #[srvV s A c,.agg (reqA q.k AL q.L.length cl AC q.C.length cc)] w fun r w'=>DoPost13 (do13 s q) w r w':=by
 obtain ⟨W1,hW1⟩:∃ W1,W1=(((w.alloc (.cells (srvA s A c) 33)).alloc (.cells (reqA q.k AL q.L.length cl AC q.C.length cc) 26)).alloc (.cells #[.slice none 0 0,.int .i64 0,.int .i64 0,.int .i64 0] 33)).alloc (.cells (rspA 0 0 none 0 0 0 0) 45):=⟨_,rfl⟩
 have i1:Is W1 w.heap.size 33 (srvA s A c):=by rw [hW1];exact (((Is.new w _ _).alloc _).alloc _).alloc _
 have i2:Is W1 (w.heap.size + 1) 26 (reqA q.k AL q.L.length cl AC q.C.length cc):=by rw [hW1];exact (Is.alloc (heap_alloc2_new w _ _) _).alloc _
 have i3:Is W1 (w.heap.size + 1 + 1) 33 #[.slice none 0 0,.int .i64 0,.int .i64 0,.int .i64 0]:=by
  have:=(Is.new ((w.alloc (.cells (srvA s A c) 33)).alloc (.cells (reqA q.k AL q.L.length cl AC q.C.length cc) 26)) 33 #[.slice none 0 0,.int .i64 0,.int .i64 0,.int .i64 0]).alloc (.cells (rspA 0 0 none 0 0 0 0) 45)
  rw [hW1];simpa using this
 have i4:Is W1 (w.heap.size + 1 + 1 + 1) 45 (rspA 0 0 none 0 0 0 0):=by
  have:=Is.new (((w.alloc (.cells (srvA s A c) 33)).alloc (.cells (reqA q.k AL q.L.length cl AC q.C.length cc) 26)).alloc (.cells #[.slice none 0 0,.int .i64 0,.int .i64 0,.int .i64 0] 33)) 45 (rspA 0 0 none 0 0 0 0)
  rw [hW1];simpa using this
 have hB1:Below w.heap.size w W1:=by rw [hW1];exact ((((Below.refl _ _).alloc (Nat.le_refl _) _).alloc (by simp) _).alloc (by simp;omega) _).alloc (by simp;omega) _
 have HM:=Lib.hid (fun W (hB:Below w.heap.size w W)=>maybe_any13 q.k AL AC cl cc q.L q.C W hl hl2 (hL.keep hB) (hC.keep hB))
 have HG:=Lib.hid (fun W (hB:Below w.heap.size w W)=>sright_any13 s A c W (hI.keep hB))
 have HI:=Lib.hid hI
 have HL:=Lib.hid hL
 have HC:=Lib.hid hC
 obtain ⟨D,hD⟩:∃ D,D=do13 s q:=⟨_,rfl⟩
 rw [← hD]
 have HD:=Lib.hid hD
 have HZ:=Lib.hid (srvA_one13 s A c)
 have HZ2:=Lib.hid (rspA_one13 0 0 none 0 0 0 0)
 clear hD hI hL hC hl hl2
 cases hq:right11 q with
 | false =>
  rw [hq] at HM
  have HE:=Lib.hid (HD.out.trans (do_bad13 (by rw [hq,Bool.and_false])))
  clear hq HG
  go_enter Tryz.func15,Tryz.ntmps15
  go_upto_region 1 with (fail)
  rw [← hW1]
  clear hW1
  go_wp2_with (first | (refine wpList_load_row rfl 26 _ rfl (w.heap.size + 1) rfl _ _ _ _ i2 Tryz.underlying26 rfl infoReq13 ?_) | (go_at_call 32;refine (HM.out _ hB1).mono ?_;rintro e W2 ⟨rfl,hb2⟩;have hB2:=hB1.trans (hb2.mono hB1.size);have k1:=i1.below hb2 i1.lt;have k3:=i3.below hb2 i3.lt;have k4:=(i4.below hb2 i4.lt).rowFar (k:=w.heap.size + 1 + 1) (by omega) (srvA s A c);clear hb2) | (refine wpList_load_row rfl 33 _ rfl w.heap.size rfl _ _ _ _ k1 Tryz.underlying33 rfl infoSrv13 ?_) | (refine wpList_store_row rfl 33 _ _ rfl (w.heap.size + 1 + 1) (srvA s A c) rfl rfl 33 _ k3 infoSrv13 rfl HZ.out ?_) | (refine wpList_store_row rfl 45 _ _ rfl (w.heap.size + 1 + 1 + 1) (rspA 0 0 none 0 0 0 0) rfl rfl 45 _ k4 infoRsp13 rfl HZ2.out ?_))
  have hbz:=belowRow (belowRow hB2 (g:=w.heap.size + 1 + 1) (by omega) (srvA s A c)) (g:=w.heap.size + 1 + 1 + 1) (by omega) (rspA 0 0 none 0 0 0 0)
  exact bodyPost_ret (results_rr13 Tryz.results15 _ _ (w.heap.size + 1 + 1) 33 _ _ (w.heap.size + 1 + 1 + 1) 45 _ _ rfl ((k3.row _).rowFar (by omega) _) Tryz.underlying33 rfl infoSrv13 rfl (k4.row _) Tryz.underlying45 rfl infoRsp13) rfl ⟨A,c,none,0,by rw [HE.out];rfl,by rw [HE.out];exact HI.out.keep hbz,by rw [HE.out];exact fun j u hj=>(by cases hj),hbz⟩
 | true =>
  rw [hq] at HM
  cases hs:right13 s with
  | false =>
   rw [hs] at HG
   have HE:=Lib.hid (HD.out.trans (do_bad13 (by rw [hs,Bool.false_and])))
   clear hq hs
   go_enter Tryz.func15,Tryz.ntmps15
   go_upto_region 1 with (fail)
   rw [← hW1]
   clear hW1
   go_wp2_with (first | (refine wpList_load_row rfl 26 _ rfl (w.heap.size + 1) rfl _ _ _ _ i2 Tryz.underlying26 rfl infoReq13 ?_) | (go_at_call 32;refine (HM.out _ hB1).mono ?_;rintro e W2 ⟨rfl,hb2⟩;have hB2:=hB1.trans (hb2.mono hB1.size);have k1:=i1.below hb2 i1.lt;have k3:=i3.below hb2 i3.lt;have k4:=i4.below hb2 i4.lt;clear hb2) | (refine wpList_load_rowG13 (by kernel_rfl) 33 _ rfl w.heap.size rfl _ _ k1 Tryz.underlying33 rfl infoSrv13 ?_) | (go_at_call 12;refine (HG.out _ hB2).mono ?_;rintro e W3 ⟨rfl,hb3⟩;have hB3:=hB2.trans (hb3.mono hB2.size);have m1:=k1.below hb3 k1.lt;have m3:=k3.below hb3 k3.lt;have m4:=(k4.below hb3 k4.lt).rowFar (k:=w.heap.size + 1 + 1) (by omega) (srvA s A c);clear hb3) | (refine wpList_load_row rfl 33 _ rfl w.heap.size rfl _ _ _ _ m1 Tryz.underlying33 rfl infoSrv13 ?_) | (refine wpList_store_row rfl 33 _ _ rfl (w.heap.size + 1 + 1) (srvA s A c) rfl rfl 33 _ m3 infoSrv13 rfl HZ.out ?_) | (refine wpList_store_row rfl 45 _ _ rfl (w.heap.size + 1 + 1 + 1) (rspA 0 0 none 0 0 0 0) rfl rfl 45 _ m4 infoRsp13 rfl HZ2.out ?_))
   have hbz:=belowRow (belowRow hB3 (g:=w.heap.size + 1 + 1) (by omega) (srvA s A c)) (g:=w.heap.size + 1 + 1 + 1) (by omega) (rspA 0 0 none 0 0 0 0)
   exact bodyPost_ret (results_rr13 Tryz.results15 _ _ (w.heap.size + 1 + 1) 33 _ _ (w.heap.size + 1 + 1 + 1) 45 _ _ rfl ((m3.row _).rowFar (by omega) _) Tryz.underlying33 rfl infoSrv13 rfl (m4.row _) Tryz.underlying45 rfl infoRsp13) rfl ⟨A,c,none,0,by rw [HE.out];rfl,by rw [HE.out];exact HI.out.keep hbz,by rw [HE.out];exact fun j u hj=>(by cases hj),hbz⟩
  | true =>
   rw [hs] at HG
   have HS:=Lib.hid hs
   have HQ:=Lib.hid hq
   have hlen:=(right_iff13.1 hs).rt.bnd.len.2
   have HCL:=Lib.hid (fun W (hB:Below w.heap.size w W)=>cloneB_any12 A c s.S.B W (HI.out.keep hB).b HI.out.nil HI.out.fit)
   have hkk:=(Rq13.of hq).k
   clear hs hq
   go_enter Tryz.func15,Tryz.ntmps15
   go_upto_region 1 with (fail)
   rw [← hW1]
   clear hW1
   go_upto_region 3 with (first | (refine wpList_load_row rfl 26 _ rfl (w.heap.size + 1) rfl _ _ _ _ i2 Tryz.underlying26 rfl infoReq13 ?_) | (go_at_call 32;refine (HM.out _ hB1).mono ?_;rintro e W2 ⟨rfl,hb2⟩;have hB2:=hB1.trans (hb2.mono hB1.size);have k1:=i1.below hb2 i1.lt;have k2:=i2.below hb2 i2.lt;have k3:=i3.below hb2 i3.lt;have k4:=i4.below hb2 i4.lt;clear hb2) | (refine wpList_load_rowG13 (by kernel_rfl) 33 _ rfl w.heap.size rfl _ _ k1 Tryz.underlying33 rfl infoSrv13 ?_) | (go_at_call 12;refine (HG.out _ hB2).mono ?_;rintro e W3 ⟨rfl,hb3⟩;have hB3:=hB2.trans (hb3.mono hB2.size);have m1:=k1.below hb3 k1.lt;have m2:=k2.below hb3 k2.lt;have m3:=k3.below hb3 k3.lt;have m4:=k4.below hb3 k4.lt;clear hb3))
   have c0:=m1.cell 0
   clear i1 i2 i3 i4 k1 k2 k3 k4 hB1 hB2
   go_wp2_with fail
   refine (HCL.out _ hB3).mono ?_
   rintro e W4 ⟨A1,c1,rfl,hr4,hb4⟩
   have hB4:=hB3.trans (hb4.mono hB3.size)
   have n1:=m1.below hb4 m1.lt
   have n2:=m2.below hb4 m2.lt
   have n3:=m3.below hb4 m3.lt
   have n4:=m4.below hb4 m4.lt
   have hI4:InS W4 s.S A1 c1:=RowB.inS hr4 hlen
   clear hb4 hr4 m1 m2 m3 m4 hB3 c0
   have c0:=n1.cell 0
   have f0:=n1.frozen 0
   have p1:Is (W4.setCell ⟨w.heap.size,0,none⟩ (.slice A1 s.S.B.length c1)) w.heap.size 33 (srvA s A1 c1):=n1.set 0 _
   have p2:=n2.far (p:=⟨w.heap.size,0,none⟩) (by simp only [];omega) (.slice A1 s.S.B.length c1)
   have p3:=n3.far (p:=⟨w.heap.size,0,none⟩) (by simp only [];omega) (.slice A1 s.S.B.length c1)
   have p4:=n4.far (p:=⟨w.heap.size,0,none⟩) (by simp only [];omega) (.slice A1 s.S.B.length c1)
   have hB5:=hB4.setCell (p:=⟨w.heap.size,0,none⟩) (Nat.le_refl _) (.slice A1 s.S.B.length c1)
   have hI5:=hI4.noS13 n1 rfl (grownSetG W4 ⟨w.heap.size,0,none⟩ (.slice A1 s.S.B.length c1))
   clear n1 n2 n3 n4 hI4
   go_upto_region 4 with (fail)
   clear c0 f0 hB4
   generalize W4.setCell ⟨w.heap.size,0,none⟩ (.slice A1 s.S.B.length c1)=W5 at *
   rcases (by omega:q.k=1∨q.k=2∨q.k=3∨q.k=4) with e | e | e | e
   ·
    have HK:=Lib.hid (kind_put13 HS.out HQ.out e)
    have hkd:Instr.findNow (.int .i64) (.int .i64 q.k) (kinds13 (.agg (askA s A1 c1 q.k AL q.L.length cl AC q.C.length cc))).toList 0=some (some (0,.func (.func 61) #[.agg (askA s A1 c1 q.k AL q.L.length cl AC q.C.length cc)] #[])):=by rw [e];rfl
    have HKK:=Lib.hid (show D.2.k=q.k by rw [HD.out];exact do_k13 HS.out HQ.out)
    clear e hkk
    refine Code.wp_mono ?_ (do13_4 W5 w.heap.size (w.heap.size + 1) 0 s A1 c1 q.k AL q.L.length cl AC q.C.length cc _ hkd p1 p2 _ _ _ _ _ _ _ _ _ _ _ _ _ _ _ _ _ _ _ _ _ _ _ _ _ _ _ _ _ _ _ _ _ _ _ _ _ _ _ _)
    rintro ex ⟨T,Df⟩ W6 ⟨rfl,hDf,r,clk,hT,hb6,_⟩
    simp only at hT hDf
    subst hT
    subst hDf
    have hB6:=hB5.trans (hb6.mono hB5.size)
    have q2:=p2.below hb6 p2.lt
    have q3:=p3.below hb6 p3.lt
    have q4:=p4.below hb6 p4.lt
    have hI6:=hI5.keep hb6
    clear hb6 hkd p1 p2 p3 p4 hI5 hB5
    go_wp2_with (go_at_call 61;refine (HK.out A1 c1 AL AC cl cc _ hI6 (HL.out.keep hB6) (HC.out.keep hB6)).mono ?_)
    rintro e W7 hp
    rw [← HD.out] at hp
    obtain ⟨A2,c2,RA,rc,rfl,hI7,hV7,hb7⟩:=hp
    have hB7:=hB6.trans (hb7.mono hB6.size)
    have q2:=q2.below hb7 q2.lt
    have q3:=q3.below hb7 q3.lt
    have hq7:=(q4.below hb7 q4.lt).lt
    have q4:=q4.below hb7 q4.lt
    clear hb7 hB6 hI6
    have z7:=(Is.new W7 33 #[.slice none 0 0,.int .i64 0,.int .i64 0,.int .i64 0]).alloc (.cells (rspA 0 0 none 0 0 0 0) 45)
    have z8:Is ((W7.alloc (.cells #[.slice none 0 0,.int .i64 0,.int .i64 0,.int .i64 0] 33)).alloc (.cells (rspA 0 0 none 0 0 0 0) 45)) (W7.heap.size + 1) 45 (rspA 0 0 none 0 0 0 0):=heap_alloc2_new _ _ _
    have q2:=(q2.alloc (.cells #[.slice none 0 0,.int .i64 0,.int .i64 0,.int .i64 0] 33)).alloc (.cells (rspA 0 0 none 0 0 0 0) 45)
    have q3:=(q3.alloc (.cells #[.slice none 0 0,.int .i64 0,.int .i64 0,.int .i64 0] 33)).alloc (.cells (rspA 0 0 none 0 0 0 0) 45)
    have q4:=(q4.alloc (.cells #[.slice none 0 0,.int .i64 0,.int .i64 0,.int .i64 0] 33)).alloc (.cells (rspA 0 0 none 0 0 0 0) 45)
    have hbx:Below W7.heap.size W7 ((W7.alloc (.cells #[.slice none 0 0,.int .i64 0,.int .i64 0,.int .i64 0] 33)).alloc (.cells (rspA 0 0 none 0 0 0 0) 45)):=((Below.refl _ _).alloc (Nat.le_refl _) _).alloc (by simp) _
    have hB8:=hB7.trans (hbx.mono hB7.size)
    have hI8:=hI7.keep hbx
    have hV8:=hV7.keep hbx
    clear hbx hI7 hV7
    have hsz:=hB7.size
    clear hB7
    generalize hW8:(W7.alloc (.cells #[.slice none 0 0,.int .i64 0,.int .i64 0,.int .i64 0] 33)).alloc (.cells (rspA 0 0 none 0 0 0 0) 45)=W8 at *
    generalize hE:W7.heap.size=E at *
    have HO:=Lib.hid (srvA_one13 D.1 A2 c2)
    have HO2:=Lib.hid (rspA_one13 0 D.2.st RA D.2.C.length rc D.2.many D.2.room)
    have y8:=z8.rowFar (k:=E) (by omega) (srvA D.1 A2 c2)
    go_upto_region 6 with (first | (refine wpList_store_row rfl 33 _ _ rfl E (srvA D.1 A2 c2) rfl rfl 33 _ z7 infoSrv13 rfl HO.out ?_) | (refine wpList_store_row rfl 45 _ _ rfl (E + 1) (rspA 0 D.2.st RA D.2.C.length rc D.2.many D.2.room) rfl rfl 45 _ y8 infoRsp13 rfl HO2.out ?_))
    have RSP:=Lib.hid hsz
    have y7:=(z7.row (srvA D.1 A2 c2)).rowFar (k:=E + 1) (by omega) (rspA 0 D.2.st RA D.2.C.length rc D.2.many D.2.room)
    have y9:=y8.row (rspA 0 D.2.st RA D.2.C.length rc D.2.many D.2.room)
    have q2:=(q2.rowFar (k:=E) (by omega) (srvA D.1 A2 c2)).rowFar (k:=E + 1) (by omega) (rspA 0 D.2.st RA D.2.C.length rc D.2.many D.2.room)
    have q3:=(q3.rowFar (k:=E) (by omega) (srvA D.1 A2 c2)).rowFar (k:=E + 1) (by omega) (rspA 0 D.2.st RA D.2.C.length rc D.2.many D.2.room)
    have q4:=(q4.rowFar (k:=E) (by omega) (srvA D.1 A2 c2)).rowFar (k:=E + 1) (by omega) (rspA 0 D.2.st RA D.2.C.length rc D.2.many D.2.room)
    have hI9:=(hI8.noS13 z7 rfl (grownRowG W8 E (srvA D.1 A2 c2))).noS13 y8 rfl (grownRowG _ (E + 1) (rspA 0 D.2.st RA D.2.C.length rc D.2.many D.2.room))
    have hV9:=(hV8.noT13 z7 rfl (grownRowG W8 E (srvA D.1 A2 c2))).noT13 y8 rfl (grownRowG _ (E + 1) (rspA 0 D.2.st RA D.2.C.length rc D.2.many D.2.room))
    have hB9:=belowRow (belowRow hB8 (g:=E) (by omega) (srvA D.1 A2 c2)) (g:=E + 1) (by omega) (rspA 0 D.2.st RA D.2.C.length rc D.2.many D.2.room)
    clear z7 z8 y8 hI8 hV8 hB8 hW8
    generalize (W8.setRow E (srvA D.1 A2 c2)).setRow (E + 1) (rspA 0 D.2.st RA D.2.C.length rc D.2.many D.2.room)=W9 at *
    have ck:=q2.cell 0
    have c8:=y9.cell 0
    have f8:=y9.frozen 0
    have x7:=y7.far (p:=⟨E + 1,0,none⟩) (by simp only [];omega) (.int .i64 q.k)
    have x8:Is (W9.setCell ⟨E + 1,0,none⟩ (.int .i64 q.k)) (E + 1) 45 (rspA D.2.k D.2.st RA D.2.C.length rc D.2.many D.2.room):=by
     rw [HKK.out];exact y9.set 0 _
    have x3:=q3.far (p:=⟨E + 1,0,none⟩) (by simp only [];omega) (.int .i64 q.k)
    have x4:=q4.far (p:=⟨E + 1,0,none⟩) (by simp only [];omega) (.int .i64 q.k)
    have xI:=hI9.noS13 y9 rfl (grownSetG W9 ⟨E + 1,0,none⟩ (.int .i64 q.k))
    have xV:=hV9.noT13 y9 rfl (grownSetG W9 ⟨E + 1,0,none⟩ (.int .i64 q.k))
    have xB:=hB9.setCell (p:=⟨E + 1,0,none⟩) (by simp only [];omega) (.int .i64 q.k)
    have X8:=Lib.hid x8
    clear x8 y7 y9 q2 q3 q4 hI9 hV9 hB9 hE
    go_upto_region 7 with (fail)
    clear ck c8 f8
    have x8:=X8.out
    clear X8
    generalize W9.setCell ⟨E + 1,0,none⟩ (.int .i64 q.k)=W10 at *
    refine Code.wp_mono ?_ (do13_7 _ W10 w.heap.size E (w.heap.size + 1 + 1) (w.heap.size + 1 + 1 + 1) D.1 A2 c2 (E + 1) rc D.2.k D.2.st D.2.many D.2.room (by omega) (by omega) RA D.2.C x7 x3 x4 xI xV x8 (by omega) (by omega) (by omega) (by omega) (by omega) _ _ _ _ _ _ _ _ _ _ _ _ _ _ _ _ _ _ _ _ _ _ _ _ _ _ _ _ _ _ _ _ _ _ _ _ _ _)
    rintro ex ⟨T,Df⟩ W11 ⟨rfl,hDf,_,hT,hB11,_,_,hI11,hV11,_,j2,j3⟩
    simp only at hT hDf
    subst hT
    subst hDf
    go_wp2
    exact bodyPost_ret (results_rr13 Tryz.results15 _ _ (w.heap.size + 1 + 1) 33 _ _ (w.heap.size + 1 + 1 + 1) 45 _ _ rfl j2 Tryz.underlying33 rfl infoSrv13 rfl j3 Tryz.underlying45 rfl infoRsp13) rfl ⟨A2,c2,RA,rc,rfl,hI11,hV11,xB.trans hB11⟩
   ·
    have HK:=Lib.hid (kind_get13 HS.out HQ.out e)
    have hkd:Instr.findNow (.int .i64) (.int .i64 q.k) (kinds13 (.agg (askA s A1 c1 q.k AL q.L.length cl AC q.C.length cc))).toList 0=some (some (1,.func (.func 62) #[.agg (askA s A1 c1 q.k AL q.L.length cl AC q.C.length cc)] #[])):=by rw [e];rfl
    have HKK:=Lib.hid (show D.2.k=q.k by rw [HD.out];exact do_k13 HS.out HQ.out)
    clear e hkk
    refine Code.wp_mono ?_ (do13_4 W5 w.heap.size (w.heap.size + 1) 1 s A1 c1 q.k AL q.L.length cl AC q.C.length cc _ hkd p1 p2 _ _ _ _ _ _ _ _ _ _ _ _ _ _ _ _ _ _ _ _ _ _ _ _ _ _ _ _ _ _ _ _ _ _ _ _ _ _ _ _)
    rintro ex ⟨T,Df⟩ W6 ⟨rfl,hDf,r,clk,hT,hb6,_⟩
    simp only at hT hDf
    subst hT
    subst hDf
    have hB6:=hB5.trans (hb6.mono hB5.size)
    have q2:=p2.below hb6 p2.lt
    have q3:=p3.below hb6 p3.lt
    have q4:=p4.below hb6 p4.lt
    have hI6:=hI5.keep hb6
    clear hb6 hkd p1 p2 p3 p4 hI5 hB5
    go_wp2_with (go_at_call 62;refine (HK.out A1 c1 AL AC cl cc _ hI6 (HL.out.keep hB6) (HC.out.keep hB6)).mono ?_)
    rintro e W7 hp
    rw [← HD.out] at hp
    obtain ⟨A2,c2,RA,rc,rfl,hI7,hV7,hb7⟩:=hp
    have hB7:=hB6.trans (hb7.mono hB6.size)
    have q2:=q2.below hb7 q2.lt
    have q3:=q3.below hb7 q3.lt
    have hq7:=(q4.below hb7 q4.lt).lt
    have q4:=q4.below hb7 q4.lt
    clear hb7 hB6 hI6
    have z7:=(Is.new W7 33 #[.slice none 0 0,.int .i64 0,.int .i64 0,.int .i64 0]).alloc (.cells (rspA 0 0 none 0 0 0 0) 45)
    have z8:Is ((W7.alloc (.cells #[.slice none 0 0,.int .i64 0,.int .i64 0,.int .i64 0] 33)).alloc (.cells (rspA 0 0 none 0 0 0 0) 45)) (W7.heap.size + 1) 45 (rspA 0 0 none 0 0 0 0):=heap_alloc2_new _ _ _
    have q2:=(q2.alloc (.cells #[.slice none 0 0,.int .i64 0,.int .i64 0,.int .i64 0] 33)).alloc (.cells (rspA 0 0 none 0 0 0 0) 45)
    have q3:=(q3.alloc (.cells #[.slice none 0 0,.int .i64 0,.int .i64 0,.int .i64 0] 33)).alloc (.cells (rspA 0 0 none 0 0 0 0) 45)
    have q4:=(q4.alloc (.cells #[.slice none 0 0,.int .i64 0,.int .i64 0,.int .i64 0] 33)).alloc (.cells (rspA 0 0 none 0 0 0 0) 45)
    have hbx:Below W7.heap.size W7 ((W7.alloc (.cells #[.slice none 0 0,.int .i64 0,.int .i64 0,.int .i64 0] 33)).alloc (.cells (rspA 0 0 none 0 0 0 0) 45)):=((Below.refl _ _).alloc (Nat.le_refl _) _).alloc (by simp) _
    have hB8:=hB7.trans (hbx.mono hB7.size)
    have hI8:=hI7.keep hbx
    have hV8:=hV7.keep hbx
    clear hbx hI7 hV7
    have hsz:=hB7.size
    clear hB7
    generalize hW8:(W7.alloc (.cells #[.slice none 0 0,.int .i64 0,.int .i64 0,.int .i64 0] 33)).alloc (.cells (rspA 0 0 none 0 0 0 0) 45)=W8 at *
    generalize hE:W7.heap.size=E at *
    have HO:=Lib.hid (srvA_one13 D.1 A2 c2)
    have HO2:=Lib.hid (rspA_one13 0 D.2.st RA D.2.C.length rc D.2.many D.2.room)
    have y8:=z8.rowFar (k:=E) (by omega) (srvA D.1 A2 c2)
    go_upto_region 6 with (first | (refine wpList_store_row rfl 33 _ _ rfl E (srvA D.1 A2 c2) rfl rfl 33 _ z7 infoSrv13 rfl HO.out ?_) | (refine wpList_store_row rfl 45 _ _ rfl (E + 1) (rspA 0 D.2.st RA D.2.C.length rc D.2.many D.2.room) rfl rfl 45 _ y8 infoRsp13 rfl HO2.out ?_))
    have RSP:=Lib.hid hsz
    have y7:=(z7.row (srvA D.1 A2 c2)).rowFar (k:=E + 1) (by omega) (rspA 0 D.2.st RA D.2.C.length rc D.2.many D.2.room)
    have y9:=y8.row (rspA 0 D.2.st RA D.2.C.length rc D.2.many D.2.room)
    have q2:=(q2.rowFar (k:=E) (by omega) (srvA D.1 A2 c2)).rowFar (k:=E + 1) (by omega) (rspA 0 D.2.st RA D.2.C.length rc D.2.many D.2.room)
    have q3:=(q3.rowFar (k:=E) (by omega) (srvA D.1 A2 c2)).rowFar (k:=E + 1) (by omega) (rspA 0 D.2.st RA D.2.C.length rc D.2.many D.2.room)
    have q4:=(q4.rowFar (k:=E) (by omega) (srvA D.1 A2 c2)).rowFar (k:=E + 1) (by omega) (rspA 0 D.2.st RA D.2.C.length rc D.2.many D.2.room)
    have hI9:=(hI8.noS13 z7 rfl (grownRowG W8 E (srvA D.1 A2 c2))).noS13 y8 rfl (grownRowG _ (E + 1) (rspA 0 D.2.st RA D.2.C.length rc D.2.many D.2.room))
    have hV9:=(hV8.noT13 z7 rfl (grownRowG W8 E (srvA D.1 A2 c2))).noT13 y8 rfl (grownRowG _ (E + 1) (rspA 0 D.2.st RA D.2.C.length rc D.2.many D.2.room))
    have hB9:=belowRow (belowRow hB8 (g:=E) (by omega) (srvA D.1 A2 c2)) (g:=E + 1) (by omega) (rspA 0 D.2.st RA D.2.C.length rc D.2.many D.2.room)
    clear z7 z8 y8 hI8 hV8 hB8 hW8
    generalize (W8.setRow E (srvA D.1 A2 c2)).setRow (E + 1) (rspA 0 D.2.st RA D.2.C.length rc D.2.many D.2.room)=W9 at *
    have ck:=q2.cell 0
    have c8:=y9.cell 0
    have f8:=y9.frozen 0
    have x7:=y7.far (p:=⟨E + 1,0,none⟩) (by simp only [];omega) (.int .i64 q.k)
    have x8:Is (W9.setCell ⟨E + 1,0,none⟩ (.int .i64 q.k)) (E + 1) 45 (rspA D.2.k D.2.st RA D.2.C.length rc D.2.many D.2.room):=by
     rw [HKK.out];exact y9.set 0 _
    have x3:=q3.far (p:=⟨E + 1,0,none⟩) (by simp only [];omega) (.int .i64 q.k)
    have x4:=q4.far (p:=⟨E + 1,0,none⟩) (by simp only [];omega) (.int .i64 q.k)
    have xI:=hI9.noS13 y9 rfl (grownSetG W9 ⟨E + 1,0,none⟩ (.int .i64 q.k))
    have xV:=hV9.noT13 y9 rfl (grownSetG W9 ⟨E + 1,0,none⟩ (.int .i64 q.k))
    have xB:=hB9.setCell (p:=⟨E + 1,0,none⟩) (by simp only [];omega) (.int .i64 q.k)
    have X8:=Lib.hid x8
    clear x8 y7 y9 q2 q3 q4 hI9 hV9 hB9 hE
    go_upto_region 7 with (fail)
    clear ck c8 f8
    have x8:=X8.out
    clear X8
    generalize W9.setCell ⟨E + 1,0,none⟩ (.int .i64 q.k)=W10 at *
    refine Code.wp_mono ?_ (do13_7 _ W10 w.heap.size E (w.heap.size + 1 + 1) (w.heap.size + 1 + 1 + 1) D.1 A2 c2 (E + 1) rc D.2.k D.2.st D.2.many D.2.room (by omega) (by omega) RA D.2.C x7 x3 x4 xI xV x8 (by omega) (by omega) (by omega) (by omega) (by omega) _ _ _ _ _ _ _ _ _ _ _ _ _ _ _ _ _ _ _ _ _ _ _ _ _ _ _ _ _ _ _ _ _ _ _ _ _ _)
    rintro ex ⟨T,Df⟩ W11 ⟨rfl,hDf,_,hT,hB11,_,_,hI11,hV11,_,j2,j3⟩
    simp only at hT hDf
    subst hT
    subst hDf
    go_wp2
    exact bodyPost_ret (results_rr13 Tryz.results15 _ _ (w.heap.size + 1 + 1) 33 _ _ (w.heap.size + 1 + 1 + 1) 45 _ _ rfl j2 Tryz.underlying33 rfl infoSrv13 rfl j3 Tryz.underlying45 rfl infoRsp13) rfl ⟨A2,c2,RA,rc,rfl,hI11,hV11,xB.trans hB11⟩
   ·
    have HK:=Lib.hid (kind_del13 HS.out HQ.out e)
    have hkd:Instr.findNow (.int .i64) (.int .i64 q.k) (kinds13 (.agg (askA s A1 c1 q.k AL q.L.length cl AC q.C.length cc))).toList 0=some (some (2,.func (.func 63) #[.agg (askA s A1 c1 q.k AL q.L.length cl AC q.C.length cc)] #[])):=by rw [e];rfl
    have HKK:=Lib.hid (show D.2.k=q.k by rw [HD.out];exact do_k13 HS.out HQ.out)
    clear e hkk
    refine Code.wp_mono ?_ (do13_4 W5 w.heap.size (w.heap.size + 1) 2 s A1 c1 q.k AL q.L.length cl AC q.C.length cc _ hkd p1 p2 _ _ _ _ _ _ _ _ _ _ _ _ _ _ _ _ _ _ _ _ _ _ _ _ _ _ _ _ _ _ _ _ _ _ _ _ _ _ _ _)
    rintro ex ⟨T,Df⟩ W6 ⟨rfl,hDf,r,clk,hT,hb6,_⟩
    simp only at hT hDf
    subst hT
    subst hDf
    have hB6:=hB5.trans (hb6.mono hB5.size)
    have q2:=p2.below hb6 p2.lt
    have q3:=p3.below hb6 p3.lt
    have q4:=p4.below hb6 p4.lt
    have hI6:=hI5.keep hb6
    clear hb6 hkd p1 p2 p3 p4 hI5 hB5
    go_wp2_with (go_at_call 63;refine (HK.out A1 c1 AL AC cl cc _ hI6 (HL.out.keep hB6) (HC.out.keep hB6)).mono ?_)
    rintro e W7 hp
    rw [← HD.out] at hp
    obtain ⟨A2,c2,RA,rc,rfl,hI7,hV7,hb7⟩:=hp
    have hB7:=hB6.trans (hb7.mono hB6.size)
    have q2:=q2.below hb7 q2.lt
    have q3:=q3.below hb7 q3.lt
    have hq7:=(q4.below hb7 q4.lt).lt
    have q4:=q4.below hb7 q4.lt
    clear hb7 hB6 hI6
    have z7:=(Is.new W7 33 #[.slice none 0 0,.int .i64 0,.int .i64 0,.int .i64 0]).alloc (.cells (rspA 0 0 none 0 0 0 0) 45)
    have z8:Is ((W7.alloc (.cells #[.slice none 0 0,.int .i64 0,.int .i64 0,.int .i64 0] 33)).alloc (.cells (rspA 0 0 none 0 0 0 0) 45)) (W7.heap.size + 1) 45 (rspA 0 0 none 0 0 0 0):=heap_alloc2_new _ _ _
    have q2:=(q2.alloc (.cells #[.slice none 0 0,.int .i64 0,.int .i64 0,.int .i64 0] 33)).alloc (.cells (rspA 0 0 none 0 0 0 0) 45)
    have q3:=(q3.alloc (.cells #[.slice none 0 0,.int .i64 0,.int .i64 0,.int .i64 0] 33)).alloc (.cells (rspA 0 0 none 0 0 0 0) 45)
    have q4:=(q4.alloc (.cells #[.slice none 0 0,.int .i64 0,.int .i64 0,.int .i64 0] 33)).alloc (.cells (rspA 0 0 none 0 0 0 0) 45)
    have hbx:Below W7.heap.size W7 ((W7.alloc (.cells #[.slice none 0 0,.int .i64 0,.int .i64 0,.int .i64 0] 33)).alloc (.cells (rspA 0 0 none 0 0 0 0) 45)):=((Below.refl _ _).alloc (Nat.le_refl _) _).alloc (by simp) _
    have hB8:=hB7.trans (hbx.mono hB7.size)
    have hI8:=hI7.keep hbx
    have hV8:=hV7.keep hbx
    clear hbx hI7 hV7
    have hsz:=hB7.size
    clear hB7
    generalize hW8:(W7.alloc (.cells #[.slice none 0 0,.int .i64 0,.int .i64 0,.int .i64 0] 33)).alloc (.cells (rspA 0 0 none 0 0 0 0) 45)=W8 at *
    generalize hE:W7.heap.size=E at *
    have HO:=Lib.hid (srvA_one13 D.1 A2 c2)
    have HO2:=Lib.hid (rspA_one13 0 D.2.st RA D.2.C.length rc D.2.many D.2.room)
    have y8:=z8.rowFar (k:=E) (by omega) (srvA D.1 A2 c2)
    go_upto_region 6 with (first | (refine wpList_store_row rfl 33 _ _ rfl E (srvA D.1 A2 c2) rfl rfl 33 _ z7 infoSrv13 rfl HO.out ?_) | (refine wpList_store_row rfl 45 _ _ rfl (E + 1) (rspA 0 D.2.st RA D.2.C.length rc D.2.many D.2.room) rfl rfl 45 _ y8 infoRsp13 rfl HO2.out ?_))
    have RSP:=Lib.hid hsz
    have y7:=(z7.row (srvA D.1 A2 c2)).rowFar (k:=E + 1) (by omega) (rspA 0 D.2.st RA D.2.C.length rc D.2.many D.2.room)
    have y9:=y8.row (rspA 0 D.2.st RA D.2.C.length rc D.2.many D.2.room)
    have q2:=(q2.rowFar (k:=E) (by omega) (srvA D.1 A2 c2)).rowFar (k:=E + 1) (by omega) (rspA 0 D.2.st RA D.2.C.length rc D.2.many D.2.room)
    have q3:=(q3.rowFar (k:=E) (by omega) (srvA D.1 A2 c2)).rowFar (k:=E + 1) (by omega) (rspA 0 D.2.st RA D.2.C.length rc D.2.many D.2.room)
    have q4:=(q4.rowFar (k:=E) (by omega) (srvA D.1 A2 c2)).rowFar (k:=E + 1) (by omega) (rspA 0 D.2.st RA D.2.C.length rc D.2.many D.2.room)
    have hI9:=(hI8.noS13 z7 rfl (grownRowG W8 E (srvA D.1 A2 c2))).noS13 y8 rfl (grownRowG _ (E + 1) (rspA 0 D.2.st RA D.2.C.length rc D.2.many D.2.room))
    have hV9:=(hV8.noT13 z7 rfl (grownRowG W8 E (srvA D.1 A2 c2))).noT13 y8 rfl (grownRowG _ (E + 1) (rspA 0 D.2.st RA D.2.C.length rc D.2.many D.2.room))
    have hB9:=belowRow (belowRow hB8 (g:=E) (by omega) (srvA D.1 A2 c2)) (g:=E + 1) (by omega) (rspA 0 D.2.st RA D.2.C.length rc D.2.many D.2.room)
    clear z7 z8 y8 hI8 hV8 hB8 hW8
    generalize (W8.setRow E (srvA D.1 A2 c2)).setRow (E + 1) (rspA 0 D.2.st RA D.2.C.length rc D.2.many D.2.room)=W9 at *
    have ck:=q2.cell 0
    have c8:=y9.cell 0
    have f8:=y9.frozen 0
    have x7:=y7.far (p:=⟨E + 1,0,none⟩) (by simp only [];omega) (.int .i64 q.k)
    have x8:Is (W9.setCell ⟨E + 1,0,none⟩ (.int .i64 q.k)) (E + 1) 45 (rspA D.2.k D.2.st RA D.2.C.length rc D.2.many D.2.room):=by
     rw [HKK.out];exact y9.set 0 _
    have x3:=q3.far (p:=⟨E + 1,0,none⟩) (by simp only [];omega) (.int .i64 q.k)
    have x4:=q4.far (p:=⟨E + 1,0,none⟩) (by simp only [];omega) (.int .i64 q.k)
    have xI:=hI9.noS13 y9 rfl (grownSetG W9 ⟨E + 1,0,none⟩ (.int .i64 q.k))
    have xV:=hV9.noT13 y9 rfl (grownSetG W9 ⟨E + 1,0,none⟩ (.int .i64 q.k))
    have xB:=hB9.setCell (p:=⟨E + 1,0,none⟩) (by simp only [];omega) (.int .i64 q.k)
    have X8:=Lib.hid x8
    clear x8 y7 y9 q2 q3 q4 hI9 hV9 hB9 hE
    go_upto_region 7 with (fail)
    clear ck c8 f8
    have x8:=X8.out
    clear X8
    generalize W9.setCell ⟨E + 1,0,none⟩ (.int .i64 q.k)=W10 at *
    refine Code.wp_mono ?_ (do13_7 _ W10 w.heap.size E (w.heap.size + 1 + 1) (w.heap.size + 1 + 1 + 1) D.1 A2 c2 (E + 1) rc D.2.k D.2.st D.2.many D.2.room (by omega) (by omega) RA D.2.C x7 x3 x4 xI xV x8 (by omega) (by omega) (by omega) (by omega) (by omega) _ _ _ _ _ _ _ _ _ _ _ _ _ _ _ _ _ _ _ _ _ _ _ _ _ _ _ _ _ _ _ _ _ _ _ _ _ _)
    rintro ex ⟨T,Df⟩ W11 ⟨rfl,hDf,_,hT,hB11,_,_,hI11,hV11,_,j2,j3⟩
    simp only at hT hDf
    subst hT
    subst hDf
    go_wp2
    exact bodyPost_ret (results_rr13 Tryz.results15 _ _ (w.heap.size + 1 + 1) 33 _ _ (w.heap.size + 1 + 1 + 1) 45 _ _ rfl j2 Tryz.underlying33 rfl infoSrv13 rfl j3 Tryz.underlying45 rfl infoRsp13) rfl ⟨A2,c2,RA,rc,rfl,hI11,hV11,xB.trans hB11⟩
   ·
    have HK:=Lib.hid (kind_stat13 HS.out HQ.out e)
    have hkd:Instr.findNow (.int .i64) (.int .i64 q.k) (kinds13 (.agg (askA s A1 c1 q.k AL q.L.length cl AC q.C.length cc))).toList 0=some (some (3,.func (.func 64) #[.agg (askA s A1 c1 q.k AL q.L.length cl AC q.C.length cc)] #[])):=by rw [e];rfl
    have HKK:=Lib.hid (show D.2.k=q.k by rw [HD.out];exact do_k13 HS.out HQ.out)
    clear e hkk
    refine Code.wp_mono ?_ (do13_4 W5 w.heap.size (w.heap.size + 1) 3 s A1 c1 q.k AL q.L.length cl AC q.C.length cc _ hkd p1 p2 _ _ _ _ _ _ _ _ _ _ _ _ _ _ _ _ _ _ _ _ _ _ _ _ _ _ _ _ _ _ _ _ _ _ _ _ _ _ _ _)
    rintro ex ⟨T,Df⟩ W6 ⟨rfl,hDf,r,clk,hT,hb6,_⟩
    simp only at hT hDf
    subst hT
    subst hDf
    have hB6:=hB5.trans (hb6.mono hB5.size)
    have q2:=p2.below hb6 p2.lt
    have q3:=p3.below hb6 p3.lt
    have q4:=p4.below hb6 p4.lt
    have hI6:=hI5.keep hb6
    clear hb6 hkd p1 p2 p3 p4 hI5 hB5
    go_wp2_with (go_at_call 64;refine (HK.out A1 c1 AL AC cl cc _ hI6 (HL.out.keep hB6) (HC.out.keep hB6)).mono ?_)
    rintro e W7 hp
    rw [← HD.out] at hp
    obtain ⟨A2,c2,RA,rc,rfl,hI7,hV7,hb7⟩:=hp
    have hB7:=hB6.trans (hb7.mono hB6.size)
    have q2:=q2.below hb7 q2.lt
    have q3:=q3.below hb7 q3.lt
    have hq7:=(q4.below hb7 q4.lt).lt
    have q4:=q4.below hb7 q4.lt
    clear hb7 hB6 hI6
    have z7:=(Is.new W7 33 #[.slice none 0 0,.int .i64 0,.int .i64 0,.int .i64 0]).alloc (.cells (rspA 0 0 none 0 0 0 0) 45)
    have z8:Is ((W7.alloc (.cells #[.slice none 0 0,.int .i64 0,.int .i64 0,.int .i64 0] 33)).alloc (.cells (rspA 0 0 none 0 0 0 0) 45)) (W7.heap.size + 1) 45 (rspA 0 0 none 0 0 0 0):=heap_alloc2_new _ _ _
    have q2:=(q2.alloc (.cells #[.slice none 0 0,.int .i64 0,.int .i64 0,.int .i64 0] 33)).alloc (.cells (rspA 0 0 none 0 0 0 0) 45)
    have q3:=(q3.alloc (.cells #[.slice none 0 0,.int .i64 0,.int .i64 0,.int .i64 0] 33)).alloc (.cells (rspA 0 0 none 0 0 0 0) 45)
    have q4:=(q4.alloc (.cells #[.slice none 0 0,.int .i64 0,.int .i64 0,.int .i64 0] 33)).alloc (.cells (rspA 0 0 none 0 0 0 0) 45)
    have hbx:Below W7.heap.size W7 ((W7.alloc (.cells #[.slice none 0 0,.int .i64 0,.int .i64 0,.int .i64 0] 33)).alloc (.cells (rspA 0 0 none 0 0 0 0) 45)):=((Below.refl _ _).alloc (Nat.le_refl _) _).alloc (by simp) _
    have hB8:=hB7.trans (hbx.mono hB7.size)
    have hI8:=hI7.keep hbx
    have hV8:=hV7.keep hbx
    clear hbx hI7 hV7
    have hsz:=hB7.size
    clear hB7
    generalize hW8:(W7.alloc (.cells #[.slice none 0 0,.int .i64 0,.int .i64 0,.int .i64 0] 33)).alloc (.cells (rspA 0 0 none 0 0 0 0) 45)=W8 at *
    generalize hE:W7.heap.size=E at *
    have HO:=Lib.hid (srvA_one13 D.1 A2 c2)
    have HO2:=Lib.hid (rspA_one13 0 D.2.st RA D.2.C.length rc D.2.many D.2.room)
    have y8:=z8.rowFar (k:=E) (by omega) (srvA D.1 A2 c2)
    go_upto_region 6 with (first | (refine wpList_store_row rfl 33 _ _ rfl E (srvA D.1 A2 c2) rfl rfl 33 _ z7 infoSrv13 rfl HO.out ?_) | (refine wpList_store_row rfl 45 _ _ rfl (E + 1) (rspA 0 D.2.st RA D.2.C.length rc D.2.many D.2.room) rfl rfl 45 _ y8 infoRsp13 rfl HO2.out ?_))
    have RSP:=Lib.hid hsz
    have y7:=(z7.row (srvA D.1 A2 c2)).rowFar (k:=E + 1) (by omega) (rspA 0 D.2.st RA D.2.C.length rc D.2.many D.2.room)
    have y9:=y8.row (rspA 0 D.2.st RA D.2.C.length rc D.2.many D.2.room)
    have q2:=(q2.rowFar (k:=E) (by omega) (srvA D.1 A2 c2)).rowFar (k:=E + 1) (by omega) (rspA 0 D.2.st RA D.2.C.length rc D.2.many D.2.room)
    have q3:=(q3.rowFar (k:=E) (by omega) (srvA D.1 A2 c2)).rowFar (k:=E + 1) (by omega) (rspA 0 D.2.st RA D.2.C.length rc D.2.many D.2.room)
    have q4:=(q4.rowFar (k:=E) (by omega) (srvA D.1 A2 c2)).rowFar (k:=E + 1) (by omega) (rspA 0 D.2.st RA D.2.C.length rc D.2.many D.2.room)
    have hI9:=(hI8.noS13 z7 rfl (grownRowG W8 E (srvA D.1 A2 c2))).noS13 y8 rfl (grownRowG _ (E + 1) (rspA 0 D.2.st RA D.2.C.length rc D.2.many D.2.room))
    have hV9:=(hV8.noT13 z7 rfl (grownRowG W8 E (srvA D.1 A2 c2))).noT13 y8 rfl (grownRowG _ (E + 1) (rspA 0 D.2.st RA D.2.C.length rc D.2.many D.2.room))
    have hB9:=belowRow (belowRow hB8 (g:=E) (by omega) (srvA D.1 A2 c2)) (g:=E + 1) (by omega) (rspA 0 D.2.st RA D.2.C.length rc D.2.many D.2.room)
    clear z7 z8 y8 hI8 hV8 hB8 hW8
    generalize (W8.setRow E (srvA D.1 A2 c2)).setRow (E + 1) (rspA 0 D.2.st RA D.2.C.length rc D.2.many D.2.room)=W9 at *
    have ck:=q2.cell 0
    have c8:=y9.cell 0
    have f8:=y9.frozen 0
    have x7:=y7.far (p:=⟨E + 1,0,none⟩) (by simp only [];omega) (.int .i64 q.k)
    have x8:Is (W9.setCell ⟨E + 1,0,none⟩ (.int .i64 q.k)) (E + 1) 45 (rspA D.2.k D.2.st RA D.2.C.length rc D.2.many D.2.room):=by
     rw [HKK.out];exact y9.set 0 _
    have x3:=q3.far (p:=⟨E + 1,0,none⟩) (by simp only [];omega) (.int .i64 q.k)
    have x4:=q4.far (p:=⟨E + 1,0,none⟩) (by simp only [];omega) (.int .i64 q.k)
    have xI:=hI9.noS13 y9 rfl (grownSetG W9 ⟨E + 1,0,none⟩ (.int .i64 q.k))
    have xV:=hV9.noT13 y9 rfl (grownSetG W9 ⟨E + 1,0,none⟩ (.int .i64 q.k))
    have xB:=hB9.setCell (p:=⟨E + 1,0,none⟩) (by simp only [];omega) (.int .i64 q.k)
    have X8:=Lib.hid x8
    clear x8 y7 y9 q2 q3 q4 hI9 hV9 hB9 hE
    go_upto_region 7 with (fail)
    clear ck c8 f8
    have x8:=X8.out
    clear X8
    generalize W9.setCell ⟨E + 1,0,none⟩ (.int .i64 q.k)=W10 at *
    refine Code.wp_mono ?_ (do13_7 _ W10 w.heap.size E (w.heap.size + 1 + 1) (w.heap.size + 1 + 1 + 1) D.1 A2 c2 (E + 1) rc D.2.k D.2.st D.2.many D.2.room (by omega) (by omega) RA D.2.C x7 x3 x4 xI xV x8 (by omega) (by omega) (by omega) (by omega) (by omega) _ _ _ _ _ _ _ _ _ _ _ _ _ _ _ _ _ _ _ _ _ _ _ _ _ _ _ _ _ _ _ _ _ _ _ _ _ _)
    rintro ex ⟨T,Df⟩ W11 ⟨rfl,hDf,_,hT,hB11,_,_,hI11,hV11,_,j2,j3⟩
    simp only at hT hDf
    subst hT
    subst hDf
    go_wp2
    exact bodyPost_ret (results_rr13 Tryz.results15 _ _ (w.heap.size + 1 + 1) 33 _ _ (w.heap.size + 1 + 1 + 1) 45 _ _ rfl j2 Tryz.underlying33 rfl infoSrv13 rfl j3 Tryz.underlying45 rfl infoRsp13) rfl ⟨A2,c2,RA,rc,rfl,hI11,hV11,xB.trans hB11⟩
end Go.Proofs.YtmggbbmpckcleaaGreat
