import Derived.Test.YtmggbbmpckcleaaGreatGCo2
import Derived.Test.YtmggbbmpckcleaaGreatGPl
import Derived.Test.YtmggbbmpckcleaaGreatGKit
import Derived.Lib.MinMax
import Derived.OwnWalk
import Derived.SizedLaws
set_option maxRecDepth 100000
set_option maxHeartbeats 16000000
namespace Go.Proofs.YtmggbbmpckcleaaGreat
open Go.RowKit Go.Shelf
theorem infoCur10:(Tryz.prog.info? 86).map (·.size)=some 2:=by kernel_rfl
theorem results_tct10 {fn:Func} {s p u:Tmp} {ty:TypeId} (h:fn.results=#[.tmp s,.cell p ty,.tmp u]) (tmps:Array Value) (P:Program) (w:World) (g:Nat) (t:TypeId) (cs:Array Value) (fr:Nat × Nat) (fs:Array Field)
  (hp:tmps.getD p undef=.pointer (some ⟨g,0,none⟩)) (hg:w.heap[g]?=some (.cells cs t fr))
  (hu:P.underlying ty=some (.struct fs)) (hi:(P.info? ty).map (·.size)=some cs.size) :
  (results fn tmps).run P w=.ok (.tuple #[tmps.getD s undef,.agg cs,tmps.getD u undef]) w:=by
 have e:(results fn tmps).run P w=((asAddr (tmps.getD p undef)).run P w).andThen fun a w1=>((loadVar ty a).run P w1).andThen fun v w2=>.ok (.tuple #[tmps.getD s undef,v,tmps.getD u undef]) w2:=by
  simp only [results,h]
  simp [Sem.run_bind,Result.andThen]
 rw [e,hp]
 simp [asAddr,run_loadVar_row w g t ty cs fr _ hg hu rfl hi]
theorem Is.pair10 {W:World} {g:Nat} {t:TypeId} {x y:Value} (h:Is W g t #[x,y]) (u v:Value):Is ((W.setCell ⟨g,0,none⟩ u).setCell ⟨g,1,none⟩ v) g t #[u,v]:=(h.set 0 u).set 1 v
theorem below_pair10 {B:Nat} {W0 W:World} (h:Below B W0 W) {g:Nat} (hg:B≤g) (u v:Value):Below B W0 ((W.setCell ⟨g,0,none⟩ u).setCell ⟨g,1,none⟩ v).drew:=belowN ((h.setCell (p:=⟨g,0,none⟩) hg u).setCell (p:=⟨g,1,none⟩) hg v) 1
theorem Lst10.pair {n:Nat} {W:World} {A:Option Addr} {l:List ByteArray} (h:Lst10 n W A l) {g:Nat} (hg:g < n) (u v:Value):Lst10 n ((W.setCell ⟨g,0,none⟩ u).setCell ⟨g,1,none⟩ v).drew A l:=((h.far (p:=⟨g,0,none⟩) hg u).far (p:=⟨g,1,none⟩) hg v).drewN 1
def tnR10 (B:ByteArray) (a:Int):Value:=.tuple #[.int .i64 (tnV10 B a).1,.agg #[.string B,.int .i64 (tnV10 B a).2.1],.int .i64 (tnV10 B a).2.2]
def ttR10 (B:ByteArray) (a:Int):Value:=.tuple #[.string (ttV10 B a).1,.agg #[.string B,.int .i64 (ttV10 B a).2.1],.int .i64 (ttV10 B a).2.2]
def tlR10 (B:ByteArray) (a:Int) (A:Option Addr) (c:Nat):Value:=.tuple #[.slice A (tlV10 B a).1.length c,.agg #[.string B,.int .i64 (tlV10 B a).2.1],.int .i64 (tlV10 B a).2.2]
theorem tn_wrong10 {B:ByteArray} {a:Int} (h:rightV B a=false):tnV10 B a=(0,a,1):=by rw [tnV10,if_neg (by rw [h];decide)]
theorem tl_wrong10 {B:ByteArray} {a:Int} (h:rightV B a=false):tlV10 B a=([],a,1):=by
 have h1:=tn_wrong10 h
 rw [tlV10,if_neg (by rw [h1];show ¬ (1:Int)=0;decide),h1]
theorem tn_to10 {B:ByteArray} {a:Int} (h:(tnV10 B a).2.2=0):0≤(tnV10 B a).2.1∧(tnV10 B a).2.1≤65536:=by
 obtain ⟨h1,h2⟩:=tn_ok10 h
 have:=h1.right
 omega
theorem tl_to10 {B:ByteArray} {a:Int} (h:(tlV10 B a).2.2=0):0≤(tlV10 B a).2.1∧(tlV10 B a).2.1≤65536:=by
 have h1:=(tl_ok10 h).right
 have h2:=(tl_ok10 h).ahead
 omega
theorem fnum_sh10 {B:ByteArray} {a:Int} (hr:rightV B a=true) (w:World) :
  Calls Tryz.prog 117 #[.string (B.extract a.toNat B.size)] w fun e w'=>e=.returned (.tuple #[.int .i64 (tnV10 B a).1,.int .i64 ((tnV10 B a).2.1 - a),.int .i64 (tnV10 B a).2.2])∧Below w.heap.size w w':=by
 obtain ⟨h1,h2,h3⟩:=rightV_iff.1 hr
 have h:=fnum_any10 (B.extract a.toNat B.size) w (by rw [ex_size10 (Nat.le_refl _)];omega)
 have hs:=tn_sh10 (B:=B) (x:=a.toNat) (by omega) h1 (a:=0) (by omega)
 rw [show ((a.toNat:Nat):Int) + 0=a by omega,show ((a.toNat:Nat):Int)=a by omega] at hs
 rw [fnR10,hs] at h
 exact h.mono fun e w' ⟨h1,h2⟩=>⟨h1,h2 ▸ Below.refl _ _⟩
theorem flist_any10 (s:ByteArray) (w:World) (h:s.size≤65536) :
  Calls Tryz.prog 119 #[.string s] w fun e w'=>∃ A c,e=.returned (flR10 s A c)∧Lst10 w.heap.size w' A (tlV10 s 0).1∧Below w.heap.size w w':=by
 by_cases h0:(tnV10 s 0).2.2=0
 ·
  by_cases h1:(tnV10 s 0).1≤1000
  · exact flist_go10 s w h h0 h1
  · exact flist_no10 s w h (.inr (by omega))
 · exact flist_no10 s w h (.inl h0)
theorem flist_sh10 {B:ByteArray} {a:Int} (hr:rightV B a=true) (w:World) :
  Calls Tryz.prog 119 #[.string (B.extract a.toNat B.size)] w fun e w'=>∃ A c,e=.returned (.tuple #[.slice A (tlV10 B a).1.length c,.int .i64 ((tlV10 B a).2.1 - a),.int .i64 (tlV10 B a).2.2])∧Lst10 w.heap.size w' A (tlV10 B a).1∧Below w.heap.size w w':=by
 obtain ⟨h1,h2,h3⟩:=rightV_iff.1 hr
 have h:=flist_any10 (B.extract a.toNat B.size) w (by rw [ex_size10 (Nat.le_refl _)];omega)
 have hs:=tl_sh10 (B:=B) (x:=a.toNat) (by omega) h1
 rw [show ((a.toNat:Nat):Int)=a by omega] at hs
 simp only [flR10,hs] at h
 exact h
theorem take_n10 (B:ByteArray) (a:Int) (w:World) :
  Calls Tryz.prog 116 #[.agg #[.string B,.int .i64 a],.func (.func 117) #[] #[]] w fun e w'=>e=.returned (tnR10 B a)∧Below w.heap.size w w':=by
 have C:=Lib.hid (cright_any10 B a)
 obtain ⟨W1,hW1⟩:∃ W1,W1=(w.alloc (.cells #[.string B,.int .i64 a] 86)).alloc (.cells #[.string ⟨#[]⟩,.int .i64 0] 86):=⟨_,rfl⟩
 cases hr:rightV B a with
 | true =>
  obtain ⟨h1,h2,h3⟩:=rightV_iff.1 hr
  have HF:=Lib.hid (fnum_sh10 hr)
  have hsl:=fun wx:World=>run_slice_string (P:=Tryz.prog) wx 9 B .i64 .i64 a (B.size:Int) Tryz.underlying9 h2 h3 (Int.le_refl _)
  rw [show ((B.size:Int)).toNat=B.size by omega] at hsl
  rw [hr] at C
  by_cases he:(tnV10 B a).2.2=0
  ·
   obtain ⟨p1,p2⟩:=tn_to10 he
   obtain ⟨x,p,e0,hv⟩:∃ x p e0,tnV10 B a=(x,p,e0):=⟨_,_,_,rfl⟩
   rw [hv] at he p1 p2
   rw [show e0=0 from he] at hv
   simp only [hv] at HF
   simp only at p1 p2
   have HR:=Lib.hid (show tnR10 B a=.tuple #[.int .i64 x,.agg #[.string B,.int .i64 (a + (p - a))],.int .i64 0] by rw [tnR10,hv,show a + (p - a)=p by omega])
   have w1i:=IntWalk.i64_in (a + (p - a)) (by omega)
   clear hr hv he
   go_enter Tryz.func116,Tryz.ntmps116
   go_wp2_with fail
   rw [← hW1]
   have hB1:Below w.heap.size w W1:=by rw [hW1];exact ((Below.refl _ _).alloc (Nat.le_refl _) _).alloc (by simp) _
   have iA1:Is W1 w.heap.size 86 #[.string B,.int .i64 a]:=by rw [hW1];exact heap_alloc2_old w _ _
   have iR1:Is W1 (w.heap.size + 1) 86 #[.string ⟨#[]⟩,.int .i64 0]:=by rw [hW1];exact heap_alloc2_new w _ _
   clear hW1
   refine (C.out _).mono ?_
   rintro e W2 ⟨rfl,hb⟩
   have hB2:=hB1.trans (hb.mono hB1.size)
   have iA2:=iA1.below hb iA1.lt
   have iR2:=iR1.below hb iR1.lt
   clear hb hB1 iA1 iR1
   have cA0:W2.cell? ⟨w.heap.size,0,none⟩=some (.string B):=iA2.cell 0
   have cA1:W2.cell? ⟨w.heap.size,1,none⟩=some (.int .i64 a):=iA2.cell 1
   have cR0:W2.cell? ⟨w.heap.size + 1,0,none⟩=some (.string ⟨#[]⟩):=iR2.cell 0
   have cR1:W2.cell? ⟨w.heap.size + 1,1,none⟩=some (.int .i64 0):=iR2.cell 1
   have fR0:=iR2.frozen 0
   have fR1:=iR2.frozen 1
   go_wp2_with fail
   refine (HF.out _).mono ?_
   rintro e W3 ⟨rfl,hb⟩
   have hB3:=hB2.trans (hb.mono hB2.size)
   have iA3:=iA2.below hb iA2.lt
   have iR3:=iR2.below hb iR2.lt
   clear cA0 cA1 cR0 cR1 fR0 fR1
   clear hb hB2 iA2 iR2
   have cA0:W3.cell? ⟨w.heap.size,0,none⟩=some (.string B):=iA3.cell 0
   have cA1:W3.cell? ⟨w.heap.size,1,none⟩=some (.int .i64 a):=iA3.cell 1
   have cR0:W3.cell? ⟨w.heap.size + 1,0,none⟩=some (.string ⟨#[]⟩):=iR3.cell 0
   have cR1:W3.cell? ⟨w.heap.size + 1,1,none⟩=some (.int .i64 0):=iR3.cell 1
   have fR0:=iR3.frozen 0
   have fR1:=iR3.frozen 1
   go_wp2
   go_region_held3 (fun w'=>w'.cell? ⟨w.heap.size,0,none⟩=some (.string B)∧w'.cell? ⟨w.heap.size,1,none⟩=some (.int .i64 a)) (go_keep) (fail)
   go_wp2
   have iZ:Is (((W3.setCell ⟨w.heap.size + 1,0,none⟩ (.string B)).setCell ⟨w.heap.size + 1,1,none⟩ (.int .i64 (a + (p - a)))).drew) (w.heap.size + 1) 86 #[.string B,.int .i64 (a + (p - a))]:=(iR3.pair10 (.string B) (.int .i64 (a + (p - a)))).drewN 1
   exact bodyPost_ret (results_tct10 Tryz.results116 _ _ _ (w.heap.size + 1) 86 #[.string B,.int .i64 (a + (p - a))] (0,0) _ rfl iZ Tryz.underlying86 infoCur10) rfl ⟨by rw [HR.out];rfl,below_pair10 hB3 (by omega) _ _⟩
  ·
   have hk:tnV10 B a=(0,a,(tnV10 B a).2.2):=tn_keep10 he
   have HR:=Lib.hid (show tnR10 B a=.tuple #[.int .i64 0,.agg #[.string B,.int .i64 a],.int .i64 (tnV10 B a).2.2] by rw [tnR10,hk])
   rw [hk] at HF
   clear hk
   generalize (tnV10 B a).2.2=e0 at *
   clear hr
   go_enter Tryz.func116,Tryz.ntmps116
   go_wp2_with fail
   rw [← hW1]
   have hB1:Below w.heap.size w W1:=by rw [hW1];exact ((Below.refl _ _).alloc (Nat.le_refl _) _).alloc (by simp) _
   have iA1:Is W1 w.heap.size 86 #[.string B,.int .i64 a]:=by rw [hW1];exact heap_alloc2_old w _ _
   have iR1:Is W1 (w.heap.size + 1) 86 #[.string ⟨#[]⟩,.int .i64 0]:=by rw [hW1];exact heap_alloc2_new w _ _
   clear hW1
   refine (C.out _).mono ?_
   rintro e W2 ⟨rfl,hb⟩
   have hB2:=hB1.trans (hb.mono hB1.size)
   have iA2:=iA1.below hb iA1.lt
   have iR2:=iR1.below hb iR1.lt
   clear hb hB1 iA1 iR1
   have cA0:W2.cell? ⟨w.heap.size,0,none⟩=some (.string B):=iA2.cell 0
   have cA1:W2.cell? ⟨w.heap.size,1,none⟩=some (.int .i64 a):=iA2.cell 1
   have cR0:W2.cell? ⟨w.heap.size + 1,0,none⟩=some (.string ⟨#[]⟩):=iR2.cell 0
   have cR1:W2.cell? ⟨w.heap.size + 1,1,none⟩=some (.int .i64 0):=iR2.cell 1
   have fR0:=iR2.frozen 0
   have fR1:=iR2.frozen 1
   go_wp2_with fail
   refine (HF.out _).mono ?_
   rintro e W3 ⟨rfl,hb⟩
   have hB3:=hB2.trans (hb.mono hB2.size)
   have iA3:=iA2.below hb iA2.lt
   have iR3:=iR2.below hb iR2.lt
   clear cA0 cA1 cR0 cR1 fR0 fR1
   clear hb hB2 iA2 iR2
   have cA0:W3.cell? ⟨w.heap.size,0,none⟩=some (.string B):=iA3.cell 0
   have cA1:W3.cell? ⟨w.heap.size,1,none⟩=some (.int .i64 a):=iA3.cell 1
   have cR0:W3.cell? ⟨w.heap.size + 1,0,none⟩=some (.string ⟨#[]⟩):=iR3.cell 0
   have cR1:W3.cell? ⟨w.heap.size + 1,1,none⟩=some (.int .i64 0):=iR3.cell 1
   have fR0:=iR3.frozen 0
   have fR1:=iR3.frozen 1
   go_wp2
   go_region_held3 (fun w'=>w'.cell? ⟨w.heap.size,0,none⟩=some (.string B)∧w'.cell? ⟨w.heap.size,1,none⟩=some (.int .i64 a)) (go_keep) (fail)
   go_wp2
   have iZ:Is (((W3.setCell ⟨w.heap.size + 1,0,none⟩ (.string B)).setCell ⟨w.heap.size + 1,1,none⟩ (.int .i64 a)).drew) (w.heap.size + 1) 86 #[.string B,.int .i64 a]:=(iR3.pair10 (.string B) (.int .i64 a)).drewN 1
   exact bodyPost_ret (results_tct10 Tryz.results116 _ _ _ (w.heap.size + 1) 86 #[.string B,.int .i64 a] (0,0) _ rfl iZ Tryz.underlying86 infoCur10) rfl ⟨by rw [HR.out];rfl,below_pair10 hB3 (by omega) _ _⟩
 | false =>
  have hv:=tn_wrong10 hr
  have HR:=Lib.hid (show tnR10 B a=.tuple #[.int .i64 0,.agg #[.string B,.int .i64 a],.int .i64 1] by rw [tnR10,hv])
  rw [hr] at C
  clear hr hv
  go_enter Tryz.func116,Tryz.ntmps116
  go_wp2_with fail
  rw [← hW1]
  have hB1:Below w.heap.size w W1:=by rw [hW1];exact ((Below.refl _ _).alloc (Nat.le_refl _) _).alloc (by simp) _
  have iA1:Is W1 w.heap.size 86 #[.string B,.int .i64 a]:=by rw [hW1];exact heap_alloc2_old w _ _
  have iR1:Is W1 (w.heap.size + 1) 86 #[.string ⟨#[]⟩,.int .i64 0]:=by rw [hW1];exact heap_alloc2_new w _ _
  clear hW1
  refine (C.out _).mono ?_
  rintro e W2 ⟨rfl,hb⟩
  have hB2:=hB1.trans (hb.mono hB1.size)
  have iA2:=iA1.below hb iA1.lt
  have iR2:=iR1.below hb iR1.lt
  clear hb hB1 iA1 iR1
  have cA0:W2.cell? ⟨w.heap.size,0,none⟩=some (.string B):=iA2.cell 0
  have cA1:W2.cell? ⟨w.heap.size,1,none⟩=some (.int .i64 a):=iA2.cell 1
  have cR0:W2.cell? ⟨w.heap.size + 1,0,none⟩=some (.string ⟨#[]⟩):=iR2.cell 0
  have cR1:W2.cell? ⟨w.heap.size + 1,1,none⟩=some (.int .i64 0):=iR2.cell 1
  have fR0:=iR2.frozen 0
  have fR1:=iR2.frozen 1
  go_wp2
  go_region_held3 (fun w'=>w'.cell? ⟨w.heap.size,0,none⟩=some (.string B)∧w'.cell? ⟨w.heap.size,1,none⟩=some (.int .i64 a)) (go_keep) (fail)
  go_wp2
  have iZ:Is (((W2.setCell ⟨w.heap.size + 1,0,none⟩ (.string B)).setCell ⟨w.heap.size + 1,1,none⟩ (.int .i64 a)).drew) (w.heap.size + 1) 86 #[.string B,.int .i64 a]:=(iR2.pair10 (.string B) (.int .i64 a)).drewN 1
  exact bodyPost_ret (results_tct10 Tryz.results116 _ _ _ (w.heap.size + 1) 86 #[.string B,.int .i64 a] (0,0) _ rfl iZ Tryz.underlying86 infoCur10) rfl ⟨by rw [HR.out];rfl,below_pair10 hB2 (by omega) _ _⟩
theorem take_l10 (B:ByteArray) (a:Int) (w:World) :
  Calls Tryz.prog 118 #[.agg #[.string B,.int .i64 a],.func (.func 119) #[] #[]] w fun e w'=>∃ A c,e=.returned (tlR10 B a A c)∧Lst10 w.heap.size w' A (tlV10 B a).1∧Below w.heap.size w w':=by
 have C:=Lib.hid (cright_any10 B a)
 obtain ⟨W1,hW1⟩:∃ W1,W1=(w.alloc (.cells #[.string B,.int .i64 a] 86)).alloc (.cells #[.string ⟨#[]⟩,.int .i64 0] 86):=⟨_,rfl⟩
 cases hr:rightV B a with
 | true =>
  obtain ⟨h1,h2,h3⟩:=rightV_iff.1 hr
  have HF:=Lib.hid (flist_sh10 hr)
  have hsl:=fun wx:World=>run_slice_string (P:=Tryz.prog) wx 9 B .i64 .i64 a (B.size:Int) Tryz.underlying9 h2 h3 (Int.le_refl _)
  rw [show ((B.size:Int)).toNat=B.size by omega] at hsl
  rw [hr] at C
  by_cases he:(tlV10 B a).2.2=0
  ·
   obtain ⟨p1,p2⟩:=tl_to10 he
   obtain ⟨x,p,e0,hv⟩:∃ x p e0,tlV10 B a=(x,p,e0):=⟨_,_,_,rfl⟩
   rw [hv] at he p1 p2
   rw [show e0=0 from he] at hv
   simp only [hv] at HF
   have HV:=Lib.hid hv
   simp only at p1 p2
   have HR:=Lib.hid (fun A c=>show tlR10 B a A c=.tuple #[.slice A x.length c,.agg #[.string B,.int .i64 (a + (p - a))],.int .i64 0] by rw [tlR10,hv,show a + (p - a)=p by omega])
   have w1i:=IntWalk.i64_in (a + (p - a)) (by omega)
   clear hr hv he
   go_enter Tryz.func118,Tryz.ntmps118
   go_wp2_with fail
   rw [← hW1]
   have hB1:Below w.heap.size w W1:=by rw [hW1];exact ((Below.refl _ _).alloc (Nat.le_refl _) _).alloc (by simp) _
   have iA1:Is W1 w.heap.size 86 #[.string B,.int .i64 a]:=by rw [hW1];exact heap_alloc2_old w _ _
   have iR1:Is W1 (w.heap.size + 1) 86 #[.string ⟨#[]⟩,.int .i64 0]:=by rw [hW1];exact heap_alloc2_new w _ _
   clear hW1
   refine (C.out _).mono ?_
   rintro e W2 ⟨rfl,hb⟩
   have hB2:=hB1.trans (hb.mono hB1.size)
   have iA2:=iA1.below hb iA1.lt
   have iR2:=iR1.below hb iR1.lt
   clear hb hB1 iA1 iR1
   have cA0:W2.cell? ⟨w.heap.size,0,none⟩=some (.string B):=iA2.cell 0
   have cA1:W2.cell? ⟨w.heap.size,1,none⟩=some (.int .i64 a):=iA2.cell 1
   have cR0:W2.cell? ⟨w.heap.size + 1,0,none⟩=some (.string ⟨#[]⟩):=iR2.cell 0
   have cR1:W2.cell? ⟨w.heap.size + 1,1,none⟩=some (.int .i64 0):=iR2.cell 1
   have fR0:=iR2.frozen 0
   have fR1:=iR2.frozen 1
   go_wp2_with fail
   refine (HF.out _).mono ?_
   rintro e W3 ⟨A',c',rfl,hL,hb⟩
   have hB3:=hB2.trans (hb.mono hB2.size)
   have iA3:=iA2.below hb iA2.lt
   have iR3:=iR2.below hb iR2.lt
   have hL3:Lst10 W2.heap.size W3 A' x:=hL
   have hB2s:=hB2.size
   have hRl:=iR2.lt
   clear hL
   clear cA0 cA1 cR0 cR1 fR0 fR1
   clear hb hB2 iA2 iR2
   have cA0:W3.cell? ⟨w.heap.size,0,none⟩=some (.string B):=iA3.cell 0
   have cA1:W3.cell? ⟨w.heap.size,1,none⟩=some (.int .i64 a):=iA3.cell 1
   have cR0:W3.cell? ⟨w.heap.size + 1,0,none⟩=some (.string ⟨#[]⟩):=iR3.cell 0
   have cR1:W3.cell? ⟨w.heap.size + 1,1,none⟩=some (.int .i64 0):=iR3.cell 1
   have fR0:=iR3.frozen 0
   have fR1:=iR3.frozen 1
   go_wp2
   go_region_held3 (fun w'=>w'.cell? ⟨w.heap.size,0,none⟩=some (.string B)∧w'.cell? ⟨w.heap.size,1,none⟩=some (.int .i64 a)) (go_keep) (fail)
   go_wp2
   have iZ:Is (((W3.setCell ⟨w.heap.size + 1,0,none⟩ (.string B)).setCell ⟨w.heap.size + 1,1,none⟩ (.int .i64 (a + (p - a)))).drew) (w.heap.size + 1) 86 #[.string B,.int .i64 (a + (p - a))]:=(iR3.pair10 (.string B) (.int .i64 (a + (p - a)))).drewN 1
   exact bodyPost_ret (results_tct10 Tryz.results118 _ _ _ (w.heap.size + 1) 86 #[.string B,.int .i64 (a + (p - a))] (0,0) _ rfl iZ Tryz.underlying86 infoCur10) rfl ⟨A',c',by rw [HR.out];rfl,by rw [HV.out];exact (hL3.pair hRl _ _).mono hB2s,below_pair10 hB3 (by omega) _ _⟩
  ·
   have hk:tlV10 B a=([],a,(tlV10 B a).2.2):=tl_keep10 he
   have HV:=Lib.hid hk
   have HR:=Lib.hid (show tlR10 B a none 0=.tuple #[.slice none 0 0,.agg #[.string B,.int .i64 a],.int .i64 (tlV10 B a).2.2] by rw [tlR10,hk];rfl)
   rw [hk] at HF
   clear hk
   simp only [List.length_nil] at HF
   clear hr
   obtain ⟨e0,hee⟩:∃ e0,e0=(tlV10 B a).2.2:=⟨_,rfl⟩
   rw [← hee] at HF HR HV he
   clear hee
   go_enter Tryz.func118,Tryz.ntmps118
   go_wp2_with fail
   rw [← hW1]
   have hB1:Below w.heap.size w W1:=by rw [hW1];exact ((Below.refl _ _).alloc (Nat.le_refl _) _).alloc (by simp) _
   have iA1:Is W1 w.heap.size 86 #[.string B,.int .i64 a]:=by rw [hW1];exact heap_alloc2_old w _ _
   have iR1:Is W1 (w.heap.size + 1) 86 #[.string ⟨#[]⟩,.int .i64 0]:=by rw [hW1];exact heap_alloc2_new w _ _
   clear hW1
   refine (C.out _).mono ?_
   rintro e W2 ⟨rfl,hb⟩
   have hB2:=hB1.trans (hb.mono hB1.size)
   have iA2:=iA1.below hb iA1.lt
   have iR2:=iR1.below hb iR1.lt
   clear hb hB1 iA1 iR1
   have cA0:W2.cell? ⟨w.heap.size,0,none⟩=some (.string B):=iA2.cell 0
   have cA1:W2.cell? ⟨w.heap.size,1,none⟩=some (.int .i64 a):=iA2.cell 1
   have cR0:W2.cell? ⟨w.heap.size + 1,0,none⟩=some (.string ⟨#[]⟩):=iR2.cell 0
   have cR1:W2.cell? ⟨w.heap.size + 1,1,none⟩=some (.int .i64 0):=iR2.cell 1
   have fR0:=iR2.frozen 0
   have fR1:=iR2.frozen 1
   go_wp2_with fail
   refine (HF.out _).mono ?_
   rintro e W3 ⟨A',c',rfl,hL,hb⟩
   have hB3:=hB2.trans (hb.mono hB2.size)
   have iA3:=iA2.below hb iA2.lt
   have iR3:=iR2.below hb iR2.lt
   clear hL
   clear cA0 cA1 cR0 cR1 fR0 fR1
   clear hb hB2 iA2 iR2
   have cA0:W3.cell? ⟨w.heap.size,0,none⟩=some (.string B):=iA3.cell 0
   have cA1:W3.cell? ⟨w.heap.size,1,none⟩=some (.int .i64 a):=iA3.cell 1
   have cR0:W3.cell? ⟨w.heap.size + 1,0,none⟩=some (.string ⟨#[]⟩):=iR3.cell 0
   have cR1:W3.cell? ⟨w.heap.size + 1,1,none⟩=some (.int .i64 0):=iR3.cell 1
   have fR0:=iR3.frozen 0
   have fR1:=iR3.frozen 1
   go_wp2
   go_region_held3 (fun w'=>w'.cell? ⟨w.heap.size,0,none⟩=some (.string B)∧w'.cell? ⟨w.heap.size,1,none⟩=some (.int .i64 a)) (go_keep) (fail)
   go_wp2
   have iZ:Is (((W3.setCell ⟨w.heap.size + 1,0,none⟩ (.string B)).setCell ⟨w.heap.size + 1,1,none⟩ (.int .i64 a)).drew) (w.heap.size + 1) 86 #[.string B,.int .i64 a]:=(iR3.pair10 (.string B) (.int .i64 a)).drewN 1
   exact bodyPost_ret (results_tct10 Tryz.results118 _ _ _ (w.heap.size + 1) 86 #[.string B,.int .i64 a] (0,0) _ rfl iZ Tryz.underlying86 infoCur10) rfl ⟨none,0,by rw [HR.out];rfl,by rw [HV.out];exact Lst10.nil _ _,below_pair10 hB3 (by omega) _ _⟩
 | false =>
  have hv:=tl_wrong10 hr
  have HV:=Lib.hid hv
  have HR:=Lib.hid (show tlR10 B a none 0=.tuple #[.slice none 0 0,.agg #[.string B,.int .i64 a],.int .i64 1] by rw [tlR10,hv];rfl)
  rw [hr] at C
  clear hr hv
  go_enter Tryz.func118,Tryz.ntmps118
  go_wp2_with fail
  rw [← hW1]
  have hB1:Below w.heap.size w W1:=by rw [hW1];exact ((Below.refl _ _).alloc (Nat.le_refl _) _).alloc (by simp) _
  have iA1:Is W1 w.heap.size 86 #[.string B,.int .i64 a]:=by rw [hW1];exact heap_alloc2_old w _ _
  have iR1:Is W1 (w.heap.size + 1) 86 #[.string ⟨#[]⟩,.int .i64 0]:=by rw [hW1];exact heap_alloc2_new w _ _
  clear hW1
  refine (C.out _).mono ?_
  rintro e W2 ⟨rfl,hb⟩
  have hB2:=hB1.trans (hb.mono hB1.size)
  have iA2:=iA1.below hb iA1.lt
  have iR2:=iR1.below hb iR1.lt
  clear hb hB1 iA1 iR1
  have cA0:W2.cell? ⟨w.heap.size,0,none⟩=some (.string B):=iA2.cell 0
  have cA1:W2.cell? ⟨w.heap.size,1,none⟩=some (.int .i64 a):=iA2.cell 1
  have cR0:W2.cell? ⟨w.heap.size + 1,0,none⟩=some (.string ⟨#[]⟩):=iR2.cell 0
  have cR1:W2.cell? ⟨w.heap.size + 1,1,none⟩=some (.int .i64 0):=iR2.cell 1
  have fR0:=iR2.frozen 0
  have fR1:=iR2.frozen 1
  go_wp2
  go_region_held3 (fun w'=>w'.cell? ⟨w.heap.size,0,none⟩=some (.string B)∧w'.cell? ⟨w.heap.size,1,none⟩=some (.int .i64 a)) (go_keep) (fail)
  go_wp2
  have iZ:Is (((W2.setCell ⟨w.heap.size + 1,0,none⟩ (.string B)).setCell ⟨w.heap.size + 1,1,none⟩ (.int .i64 a)).drew) (w.heap.size + 1) 86 #[.string B,.int .i64 a]:=(iR2.pair10 (.string B) (.int .i64 a)).drewN 1
  exact bodyPost_ret (results_tct10 Tryz.results118 _ _ _ (w.heap.size + 1) 86 #[.string B,.int .i64 a] (0,0) _ rfl iZ Tryz.underlying86 infoCur10) rfl ⟨none,0,by rw [HR.out];rfl,by rw [HV.out];exact Lst10.nil _ _,below_pair10 hB2 (by omega) _ _⟩
end Go.Proofs.YtmggbbmpckcleaaGreat
namespace Go.Proofs.YtmggbbmpckcleaaGreat
open Go.RowKit Go.Shelf
theorem cn_any10 (B:ByteArray) (a:Int) (w:World) :
  Calls Tryz.prog 95 #[.agg #[.string B,.int .i64 a]] w fun e w'=>e=.returned (tnR10 B a)∧Below w.heap.size w w':=by
 have C:=Lib.hid (take_n10 B a)
 obtain ⟨W1,hW1⟩:∃ W1,W1=(w.alloc (.cells #[.string B,.int .i64 a] 86)).alloc (.cells #[.string ⟨#[]⟩,.int .i64 0] 86):=⟨_,rfl⟩
 rw [tnR10] at C ⊢
 generalize tnV10 B a=V at *
 obtain ⟨x,p,e0⟩:=V
 simp only at C ⊢
 go_enter Tryz.func95,Tryz.ntmps95
 go_wp2_with fail
 rw [← hW1]
 have hB1:Below w.heap.size w W1:=by rw [hW1];exact ((Below.refl _ _).alloc (Nat.le_refl _) _).alloc (by simp) _
 have iA1:Is W1 w.heap.size 86 #[.string B,.int .i64 a]:=by rw [hW1];exact heap_alloc2_old w _ _
 have iR1:Is W1 (w.heap.size + 1) 86 #[.string ⟨#[]⟩,.int .i64 0]:=by rw [hW1];exact heap_alloc2_new w _ _
 clear hW1
 refine (C.out _).mono ?_
 rintro e W2 ⟨rfl,hb⟩
 have hB2:=hB1.trans (hb.mono hB1.size)
 have iA2:=iA1.below hb iA1.lt
 have iR2:=iR1.below hb iR1.lt
 clear hb hB1 iA1 iR1
 have cA0:W2.cell? ⟨w.heap.size,0,none⟩=some (.string B):=iA2.cell 0
 have cA1:W2.cell? ⟨w.heap.size,1,none⟩=some (.int .i64 a):=iA2.cell 1
 have cR0:W2.cell? ⟨w.heap.size + 1,0,none⟩=some (.string ⟨#[]⟩):=iR2.cell 0
 have cR1:W2.cell? ⟨w.heap.size + 1,1,none⟩=some (.int .i64 0):=iR2.cell 1
 have fR0:=iR2.frozen 0
 have fR1:=iR2.frozen 1
 go_wp2
 have iZ:Is ((W2.setCell ⟨w.heap.size + 1,0,none⟩ (.string B)).setCell ⟨w.heap.size + 1,1,none⟩ (.int .i64 p)) (w.heap.size + 1) 86 #[.string B,.int .i64 p]:=iR2.pair10 _ _
 exact bodyPost_ret (results_tct10 Tryz.results95 _ _ _ (w.heap.size + 1) 86 #[.string B,.int .i64 p] (0,0) _ rfl iZ Tryz.underlying86 infoCur10) rfl ⟨rfl,(hB2.setCell (p:=⟨w.heap.size + 1,0,none⟩) (by simp) _).setCell (p:=⟨w.heap.size + 1,1,none⟩) (by simp) _⟩
theorem cl_any10 (B:ByteArray) (a:Int) (w:World) :
  Calls Tryz.prog 97 #[.agg #[.string B,.int .i64 a]] w fun e w'=>∃ A c,e=.returned (tlR10 B a A c)∧Lst10 w.heap.size w' A (tlV10 B a).1∧Below w.heap.size w w':=by
 have C:=Lib.hid (take_l10 B a)
 obtain ⟨W1,hW1⟩:∃ W1,W1=(w.alloc (.cells #[.string B,.int .i64 a] 86)).alloc (.cells #[.string ⟨#[]⟩,.int .i64 0] 86):=⟨_,rfl⟩
 simp only [tlR10] at C ⊢
 generalize tlV10 B a=V at *
 obtain ⟨x,p,e0⟩:=V
 simp only at C ⊢
 go_enter Tryz.func97,Tryz.ntmps97
 go_wp2_with fail
 rw [← hW1]
 have hB1:Below w.heap.size w W1:=by rw [hW1];exact ((Below.refl _ _).alloc (Nat.le_refl _) _).alloc (by simp) _
 have iA1:Is W1 w.heap.size 86 #[.string B,.int .i64 a]:=by rw [hW1];exact heap_alloc2_old w _ _
 have iR1:Is W1 (w.heap.size + 1) 86 #[.string ⟨#[]⟩,.int .i64 0]:=by rw [hW1];exact heap_alloc2_new w _ _
 clear hW1
 refine (C.out _).mono ?_
 rintro e W2 ⟨A',c',rfl,hL,hb⟩
 have hB2:=hB1.trans (hb.mono hB1.size)
 have iA2:=iA1.below hb iA1.lt
 have iR2:=iR1.below hb iR1.lt
 have hL2:Lst10 W1.heap.size W2 A' x:=hL
 have hB1s:=hB1.size
 have hRl:=iR1.lt
 clear hL
 clear hb hB1 iA1 iR1
 have cA0:W2.cell? ⟨w.heap.size,0,none⟩=some (.string B):=iA2.cell 0
 have cA1:W2.cell? ⟨w.heap.size,1,none⟩=some (.int .i64 a):=iA2.cell 1
 have cR0:W2.cell? ⟨w.heap.size + 1,0,none⟩=some (.string ⟨#[]⟩):=iR2.cell 0
 have cR1:W2.cell? ⟨w.heap.size + 1,1,none⟩=some (.int .i64 0):=iR2.cell 1
 have fR0:=iR2.frozen 0
 have fR1:=iR2.frozen 1
 go_wp2
 have iZ:Is ((W2.setCell ⟨w.heap.size + 1,0,none⟩ (.string B)).setCell ⟨w.heap.size + 1,1,none⟩ (.int .i64 p)) (w.heap.size + 1) 86 #[.string B,.int .i64 p]:=iR2.pair10 _ _
 exact bodyPost_ret (results_tct10 Tryz.results97 _ _ _ (w.heap.size + 1) 86 #[.string B,.int .i64 p] (0,0) _ rfl iZ Tryz.underlying86 infoCur10) rfl ⟨A',c',rfl,(((hL2.far (p:=⟨w.heap.size + 1,0,none⟩) hRl _).far (p:=⟨w.heap.size + 1,1,none⟩) hRl _)).mono hB1s,(hB2.setCell (p:=⟨w.heap.size + 1,0,none⟩) (by simp) _).setCell (p:=⟨w.heap.size + 1,1,none⟩) (by simp) _⟩
theorem cend_any10 (B:ByteArray) (a:Int) (w:World) :
  Calls Tryz.prog 98 #[.agg #[.string B,.int .i64 a]] w fun e w'=>e=.returned (.int .i64 (endV10 B a))∧Below w.heap.size w w':=by
 have C:=Lib.hid (cright_any10 B a)
 have hB:Below w.heap.size w (w.alloc (.cells #[.string B,.int .i64 a] 86)):=(Below.refl _ _).alloc (Nat.le_refl _) _
 have i1:=Is.new w 86 #[.string B,.int .i64 a]
 obtain ⟨W1,hW1⟩:∃ W1,W1=w.alloc (.cells #[.string B,.int .i64 a] 86):=⟨_,rfl⟩
 rw [← hW1] at hB i1
 cases hr:rightV B a with
 | true =>
  rw [hr] at C
  by_cases h:a < (B.size:Int)
  ·
   have hv:endV10 B a=13:=by rw [endV10,if_pos hr,if_pos h]
   rw [hv]
   clear hr hv
   go_enter Tryz.func98,Tryz.ntmps98
   go_wp2_with fail
   rw [← hW1]
   clear hW1
   refine (C.out _).mono ?_
   rintro e W2 ⟨rfl,hb⟩
   have i2:=i1.below hb i1.lt
   have c0:W2.cell? ⟨w.heap.size,0,none⟩=some (.string B):=i2.cell 0
   have c1:W2.cell? ⟨w.heap.size,1,none⟩=some (.int .i64 a):=i2.cell 1
   go_wp2
   go_ret
   exact ⟨rfl,hB.trans (hb.mono hB.size)⟩
  ·
   have hv:endV10 B a=0:=by rw [endV10,if_pos hr,if_neg h]
   rw [hv]
   clear hr hv
   go_enter Tryz.func98,Tryz.ntmps98
   go_wp2_with fail
   rw [← hW1]
   clear hW1
   refine (C.out _).mono ?_
   rintro e W2 ⟨rfl,hb⟩
   have i2:=i1.below hb i1.lt
   have c0:W2.cell? ⟨w.heap.size,0,none⟩=some (.string B):=i2.cell 0
   have c1:W2.cell? ⟨w.heap.size,1,none⟩=some (.int .i64 a):=i2.cell 1
   go_wp2
   go_ret
   exact ⟨rfl,hB.trans (hb.mono hB.size)⟩
 | false =>
  rw [hr] at C
  have hv:endV10 B a=1:=by rw [endV10,if_neg (by rw [hr];decide)]
  rw [hv]
  clear hr hv
  go_enter Tryz.func98,Tryz.ntmps98
  go_wp2_with fail
  rw [← hW1]
  clear hW1
  refine (C.out _).mono ?_
  rintro e W2 ⟨rfl,hb⟩
  go_wp2
  go_ret
  exact ⟨rfl,hB.trans (hb.mono hB.size)⟩
theorem dright_any10 (B:ByteArray) (a:Int) (w:World) :
  Calls Tryz.prog 78 #[.agg #[.string B,.int .i64 a]] w fun e w'=>e=.returned (.bool (rightV B a))∧Below w.heap.size w w':=by
 have HD:Hid (rightV B a=(decide ((B.size:Int)≤65536) && (decide (0≤a) && decide (a≤(B.size:Int))))):=Lib.hid rfl
 generalize rightV B a=R at *
 have hB:Below w.heap.size w (w.alloc (.cells #[.string B,.int .i64 a] 86)):=(Below.refl _ _).alloc (Nat.le_refl _) _
 have i1:=Is.new w 86 #[.string B,.int .i64 a]
 have c0:(w.alloc (.cells #[.string B,.int .i64 a] 86)).cell? ⟨w.heap.size,0,none⟩=some (.string B):=i1.cell 0
 have c1:(w.alloc (.cells #[.string B,.int .i64 a] 86)).cell? ⟨w.heap.size,1,none⟩=some (.int .i64 a):=i1.cell 1
 clear i1
 by_cases h1:(B.size:Int)≤65536
 ·
  by_cases h2:0≤a
  ·
   by_cases h3:a≤(B.size:Int)
   ·
    obtain rfl:R=true:=by rw [HD.out];simp [h1,h2,h3]
    go_enter Tryz.func78,Tryz.ntmps78
    go_wp2
    go_ret
    exact ⟨rfl,hB⟩
   ·
    obtain rfl:R=false:=by rw [HD.out];simp [h3]
    go_enter Tryz.func78,Tryz.ntmps78
    go_wp2
    go_ret
    exact ⟨rfl,hB⟩
  ·
   obtain rfl:R=false:=by rw [HD.out];simp [h2]
   go_enter Tryz.func78,Tryz.ntmps78
   go_wp2
   go_ret
   exact ⟨rfl,hB⟩
 ·
  obtain rfl:R=false:=by rw [HD.out];simp [h1]
  go_enter Tryz.func78,Tryz.ntmps78
  go_wp2
  go_ret
  exact ⟨rfl,hB⟩
theorem dend_any10 (B:ByteArray) (a:Int) (w:World) :
  Calls Tryz.prog 48 #[.agg #[.string B,.int .i64 a]] w fun e w'=>e=.returned (.int .i64 (endV10 B a))∧Below w.heap.size w w':=by
 have C:=Lib.hid (dright_any10 B a)
 have hB:Below w.heap.size w (w.alloc (.cells #[.string B,.int .i64 a] 86)):=(Below.refl _ _).alloc (Nat.le_refl _) _
 have i1:=Is.new w 86 #[.string B,.int .i64 a]
 obtain ⟨W1,hW1⟩:∃ W1,W1=w.alloc (.cells #[.string B,.int .i64 a] 86):=⟨_,rfl⟩
 rw [← hW1] at hB i1
 cases hr:rightV B a with
 | true =>
  rw [hr] at C
  by_cases h:a < (B.size:Int)
  ·
   have hv:endV10 B a=13:=by rw [endV10,if_pos hr,if_pos h]
   rw [hv]
   clear hr hv
   go_enter Tryz.func48,Tryz.ntmps48
   go_wp2_with fail
   rw [← hW1]
   clear hW1
   refine (C.out _).mono ?_
   rintro e W2 ⟨rfl,hb⟩
   have i2:=i1.below hb i1.lt
   have c0:W2.cell? ⟨w.heap.size,0,none⟩=some (.string B):=i2.cell 0
   have c1:W2.cell? ⟨w.heap.size,1,none⟩=some (.int .i64 a):=i2.cell 1
   go_wp2
   go_ret
   exact ⟨rfl,hB.trans (hb.mono hB.size)⟩
  ·
   have hv:endV10 B a=0:=by rw [endV10,if_pos hr,if_neg h]
   rw [hv]
   clear hr hv
   go_enter Tryz.func48,Tryz.ntmps48
   go_wp2_with fail
   rw [← hW1]
   clear hW1
   refine (C.out _).mono ?_
   rintro e W2 ⟨rfl,hb⟩
   have i2:=i1.below hb i1.lt
   have c0:W2.cell? ⟨w.heap.size,0,none⟩=some (.string B):=i2.cell 0
   have c1:W2.cell? ⟨w.heap.size,1,none⟩=some (.int .i64 a):=i2.cell 1
   go_wp2
   go_ret
   exact ⟨rfl,hB.trans (hb.mono hB.size)⟩
 | false =>
  rw [hr] at C
  have hv:endV10 B a=1:=by rw [endV10,if_neg (by rw [hr];decide)]
  rw [hv]
  clear hr hv
  go_enter Tryz.func48,Tryz.ntmps48
  go_wp2_with fail
  rw [← hW1]
  clear hW1
  refine (C.out _).mono ?_
  rintro e W2 ⟨rfl,hb⟩
  go_wp2
  go_ret
  exact ⟨rfl,hB.trans (hb.mono hB.size)⟩
end Go.Proofs.YtmggbbmpckcleaaGreat
namespace Go.Proofs.YtmggbbmpckcleaaGreat
open Go.RowKit Go.Shelf
def rdo10 (B:ByteArray) (j:Nat):Nat→Nat
 | 0=>0
 | k + 1=>256 * rdo10 B j k + bt7 B (j + k)
theorem rdo_four10 (B:ByteArray) (j:Nat):rdo10 B j 4=rd10 B j:=by
 simp only [rdo10,rd10,Nat.add_zero];omega
theorem rdo_bd10 (B:ByteArray) (j k:Nat) (h:k < 4):rdo10 B j k < 16777216:=by
 have h0:=bt7_lt B (j + 0)
 have h1:=bt7_lt B (j + 1)
 have h2:=bt7_lt B (j + 2)
 rcases (by omega:k=0∨k=1∨k=2∨k=3) with rfl | rfl | rfl | rfl <;> simp only [rdo10] <;> omega
theorem dn_any10 (B:ByteArray) (a:Int) (w:World) :
  Calls Tryz.prog 46 #[.agg #[.string B,.int .i64 a]] w fun e w'=>e=.returned (tnR10 B a)∧Below w.heap.size w w':=by
 have C:=Lib.hid (dright_any10 B a)
 obtain ⟨W1,hW1⟩:∃ W1,W1=(w.alloc (.cells #[.string B,.int .i64 a] 86)).alloc (.cells #[.string ⟨#[]⟩,.int .i64 0] 86):=⟨_,rfl⟩
 cases hr:rightV B a with
 | true =>
  obtain ⟨h1,h2,h3⟩:=rightV_iff.1 hr
  rw [hr] at C
  by_cases h4:(B.size:Int) - a < 4
  ·
   have hv:tnV10 B a=(0,a,10):=by rw [tnV10,if_pos hr,if_pos h4]
   have HR:=Lib.hid (show tnR10 B a=.tuple #[.int .i64 0,.agg #[.string B,.int .i64 a],.int .i64 10] by rw [tnR10,hv])
   have w1i:=IntWalk.i64_in ((B.size:Int) - a) (by omega)
   clear hr hv
   go_enter Tryz.func46,Tryz.ntmps46
   go_wp2_with fail
   rw [← hW1]
   have hB1:Below w.heap.size w W1:=by rw [hW1];exact ((Below.refl _ _).alloc (Nat.le_refl _) _).alloc (by simp) _
   have iA1:Is W1 w.heap.size 86 #[.string B,.int .i64 a]:=by rw [hW1];exact heap_alloc2_old w _ _
   have iR1:Is W1 (w.heap.size + 1) 86 #[.string ⟨#[]⟩,.int .i64 0]:=by rw [hW1];exact heap_alloc2_new w _ _
   clear hW1
   refine (C.out _).mono ?_
   rintro e W2 ⟨rfl,hb⟩
   have hB2:=hB1.trans (hb.mono hB1.size)
   have iA2:=iA1.below hb iA1.lt
   have iR2:=iR1.below hb iR1.lt
   clear hb hB1 iA1 iR1
   have cA0:W2.cell? ⟨w.heap.size,0,none⟩=some (.string B):=iA2.cell 0
   have cA1:W2.cell? ⟨w.heap.size,1,none⟩=some (.int .i64 a):=iA2.cell 1
   have cR0:W2.cell? ⟨w.heap.size + 1,0,none⟩=some (.string ⟨#[]⟩):=iR2.cell 0
   have cR1:W2.cell? ⟨w.heap.size + 1,1,none⟩=some (.int .i64 0):=iR2.cell 1
   have fR0:=iR2.frozen 0
   have fR1:=iR2.frozen 1
   go_wp2
   go_region_held3 (fun w'=>w'.cell? ⟨w.heap.size,0,none⟩=some (.string B)∧w'.cell? ⟨w.heap.size,1,none⟩=some (.int .i64 a)) (go_keep) (fail)
   go_wp2
   have iZ:Is (((W2.setCell ⟨w.heap.size + 1,0,none⟩ (.string B)).setCell ⟨w.heap.size + 1,1,none⟩ (.int .i64 a)).drew) (w.heap.size + 1) 86 #[.string B,.int .i64 a]:=(iR2.pair10 (.string B) (.int .i64 a)).drewN 1
   exact bodyPost_ret (results_tct10 Tryz.results46 _ _ _ (w.heap.size + 1) 86 #[.string B,.int .i64 a] (0,0) _ rfl iZ Tryz.underlying86 infoCur10) rfl ⟨by rw [HR.out];rfl,below_pair10 hB2 (by omega) _ _⟩
  ·
   obtain ⟨m,rfl⟩:∃ m:Nat,a=(m:Int):=⟨a.toNat,by omega⟩
   have hf:2147483647 < rdo10 B m 4→tnR10 B (m:Int)=.tuple #[.int .i64 0,.agg #[.string B,.int .i64 (m:Int)],.int .i64 13]:=fun h=>by
    rw [rdo_four10] at h
    rw [tnR10,tnV10,if_pos hr,if_neg h4,if_pos (by show 2147483647 < (rd10 B m:Int);omega)]
   have ho:¬ 2147483647 < rdo10 B m 4→tnR10 B (m:Int)=.tuple #[.int .i64 (rdo10 B m 4:Int),.agg #[.string B,.int .i64 ((m:Int) + 4)],.int .i64 0]:=fun h=>by
    rw [rdo_four10] at h ⊢
    rw [tnR10,tnV10,if_pos hr,if_neg h4,if_neg (by show ¬ 2147483647 < (rd10 B m:Int);omega)]
    rfl
   have HF:=Lib.hid hf
   have HO:=Lib.hid ho
   have HBD:=Lib.hid (rdo_bd10 B m)
   have H4:=Lib.hid (show m + 4≤B.size by omega)
   have H65:=Lib.hid h1
   have w1i:=IntWalk.i64_in ((B.size:Int) - (m:Int)) (by omega)
   clear hr hf ho h1 h3
   go_enter Tryz.func46,Tryz.ntmps46
   go_wp2_with fail
   rw [← hW1]
   have hB1:Below w.heap.size w W1:=by rw [hW1];exact ((Below.refl _ _).alloc (Nat.le_refl _) _).alloc (by simp) _
   have iA1:Is W1 w.heap.size 86 #[.string B,.int .i64 (m:Int)]:=by rw [hW1];exact heap_alloc2_old w _ _
   have iR1:Is W1 (w.heap.size + 1) 86 #[.string ⟨#[]⟩,.int .i64 0]:=by rw [hW1];exact heap_alloc2_new w _ _
   clear hW1
   refine (C.out _).mono ?_
   rintro e W2 ⟨rfl,hb⟩
   have hB2:=hB1.trans (hb.mono hB1.size)
   have iA2:=iA1.below hb iA1.lt
   have iR2:=iR1.below hb iR1.lt
   clear hb hB1 iA1 iR1
   have cA0:W2.cell? ⟨w.heap.size,0,none⟩=some (.string B):=iA2.cell 0
   have cA1:W2.cell? ⟨w.heap.size,1,none⟩=some (.int .i64 (m:Int)):=iA2.cell 1
   have cR0:W2.cell? ⟨w.heap.size + 1,0,none⟩=some (.string ⟨#[]⟩):=iR2.cell 0
   have cR1:W2.cell? ⟨w.heap.size + 1,1,none⟩=some (.int .i64 0):=iR2.cell 1
   have fR0:=iR2.frozen 0
   have fR1:=iR2.frozen 1
   go_wp2
   go_loopw [5,6] (fun n i wr=>∃ k:Nat,k≤4∧i=.int .i64 (k:Int)∧n=.int .i64 (rdo10 B m k:Int)∧W2=wr)
    (fun _ i _=>4 - (intOf i).toNat)
   case atStart=>exact ⟨0,by omega,rfl,rfl,rfl⟩
   case round =>
    obtain ⟨k,hk,rfl,rfl,rfl⟩:=hrel
    by_cases hlt:k < 4
    ·
     have g2:(k:Int) < 4:=by omega
     have hb:=HBD.out k hlt
     have HST:=Lib.hid (show rdo10 B m (k + 1)=256 * rdo10 B m k + bt7 B (m + k) from rfl)
     have hkl:m + k < B.size:=by have:=H4.out;omega
     have hget:=bt7_get hkl
     have hbl:=bt7_lt B (m + k)
     have hm6:m≤65536:=by have:=H65.out;omega
     generalize rdo10 B m k=y at *
     generalize bt7 B (m + k)=z at *
     have wp:=IntWalk.i64_in (256 * (y:Int)) (by omega)
     have wq:=IntWalk.i64_in (256 * (y:Int) + (z:Int)) (by omega)
     have wr':=IntWalk.i64_in ((m:Int) + (k:Int)) (by omega)
     go_wp2
     go_roundw
     case rel=>exact ⟨k + 1,by omega,by go_num,by rw [HST.out];go_num,trivial⟩
     case measure=>simp [intOf];omega
    ·
     have g2:¬ (k:Int) < 4:=by omega
     obtain rfl:k=4:=by omega
     generalize rdo10 B m 4=N at *
     by_cases hN:2147483647 < N
     ·
      have g3:2147483647 < (N:Int):=by omega
      have HR:=Lib.hid (HF.out hN)
      clear hN HF HO
      go_wp2
      go_region_held3 (fun w'=>w'.cell? ⟨w.heap.size,0,none⟩=some (.string B)∧w'.cell? ⟨w.heap.size,1,none⟩=some (.int .i64 (m:Int))) (go_keep) (fail)
      go_wp2
      have iZ:Is (((W2.setCell ⟨w.heap.size + 1,0,none⟩ (.string B)).setCell ⟨w.heap.size + 1,1,none⟩ (.int .i64 (m:Int))).drew) (w.heap.size + 1) 86 #[.string B,.int .i64 (m:Int)]:=(iR2.pair10 (.string B) (.int .i64 (m:Int))).drewN 1
      exact bodyPost_ret (results_tct10 Tryz.results46 _ _ _ (w.heap.size + 1) 86 #[.string B,.int .i64 (m:Int)] (0,0) _ rfl iZ Tryz.underlying86 infoCur10) rfl ⟨by rw [HR.out];rfl,below_pair10 hB2 (by omega) _ _⟩
     ·
      have g3:¬ 2147483647 < (N:Int):=by omega
      have HR:=Lib.hid (HO.out hN)
      have hm6:m≤65536:=by have:=H65.out;have:=H4.out;omega
      have w4i:=IntWalk.i64_in ((m:Int) + 4) (by omega)
      clear hN HF HO
      go_wp2
      go_region_held3 (fun w'=>w'.cell? ⟨w.heap.size,0,none⟩=some (.string B)∧w'.cell? ⟨w.heap.size,1,none⟩=some (.int .i64 (m:Int))) (go_keep) (fail)
      go_wp2
      have iZ:Is (((W2.setCell ⟨w.heap.size + 1,0,none⟩ (.string B)).setCell ⟨w.heap.size + 1,1,none⟩ (.int .i64 ((m:Int) + 4))).drew) (w.heap.size + 1) 86 #[.string B,.int .i64 ((m:Int) + 4)]:=(iR2.pair10 (.string B) (.int .i64 ((m:Int) + 4))).drewN 1
      exact bodyPost_ret (results_tct10 Tryz.results46 _ _ _ (w.heap.size + 1) 86 #[.string B,.int .i64 ((m:Int) + 4)] (0,0) _ rfl iZ Tryz.underlying86 infoCur10) rfl ⟨by rw [HR.out];rfl,below_pair10 hB2 (by omega) _ _⟩
 | false =>
  have hv:=tn_wrong10 hr
  have HR:=Lib.hid (show tnR10 B a=.tuple #[.int .i64 0,.agg #[.string B,.int .i64 a],.int .i64 1] by rw [tnR10,hv])
  rw [hr] at C
  clear hr hv
  go_enter Tryz.func46,Tryz.ntmps46
  go_wp2_with fail
  rw [← hW1]
  have hB1:Below w.heap.size w W1:=by rw [hW1];exact ((Below.refl _ _).alloc (Nat.le_refl _) _).alloc (by simp) _
  have iA1:Is W1 w.heap.size 86 #[.string B,.int .i64 a]:=by rw [hW1];exact heap_alloc2_old w _ _
  have iR1:Is W1 (w.heap.size + 1) 86 #[.string ⟨#[]⟩,.int .i64 0]:=by rw [hW1];exact heap_alloc2_new w _ _
  clear hW1
  refine (C.out _).mono ?_
  rintro e W2 ⟨rfl,hb⟩
  have hB2:=hB1.trans (hb.mono hB1.size)
  have iA2:=iA1.below hb iA1.lt
  have iR2:=iR1.below hb iR1.lt
  clear hb hB1 iA1 iR1
  have cA0:W2.cell? ⟨w.heap.size,0,none⟩=some (.string B):=iA2.cell 0
  have cA1:W2.cell? ⟨w.heap.size,1,none⟩=some (.int .i64 a):=iA2.cell 1
  have cR0:W2.cell? ⟨w.heap.size + 1,0,none⟩=some (.string ⟨#[]⟩):=iR2.cell 0
  have cR1:W2.cell? ⟨w.heap.size + 1,1,none⟩=some (.int .i64 0):=iR2.cell 1
  have fR0:=iR2.frozen 0
  have fR1:=iR2.frozen 1
  go_wp2
  go_region_held3 (fun w'=>w'.cell? ⟨w.heap.size,0,none⟩=some (.string B)∧w'.cell? ⟨w.heap.size,1,none⟩=some (.int .i64 a)) (go_keep) (fail)
  go_wp2
  have iZ:Is (((W2.setCell ⟨w.heap.size + 1,0,none⟩ (.string B)).setCell ⟨w.heap.size + 1,1,none⟩ (.int .i64 a)).drew) (w.heap.size + 1) 86 #[.string B,.int .i64 a]:=(iR2.pair10 (.string B) (.int .i64 a)).drewN 1
  exact bodyPost_ret (results_tct10 Tryz.results46 _ _ _ (w.heap.size + 1) 86 #[.string B,.int .i64 a] (0,0) _ rfl iZ Tryz.underlying86 infoCur10) rfl ⟨by rw [HR.out];rfl,below_pair10 hB2 (by omega) _ _⟩
end Go.Proofs.YtmggbbmpckcleaaGreat
namespace Go.Proofs.YtmggbbmpckcleaaGreat
open Go.RowKit Go.Shelf
theorem dt_any10 (B:ByteArray) (a:Int) (w:World) :
  Calls Tryz.prog 79 #[.agg #[.string B,.int .i64 a]] w fun e w'=>e=.returned (ttR10 B a)∧Below w.heap.size w w':=by
 have C:=Lib.hid (dn_any10 B a)
 obtain ⟨W1,hW1⟩:∃ W1,W1=(w.alloc (.cells #[.string B,.int .i64 a] 86)).alloc (.cells #[.string ⟨#[]⟩,.int .i64 0] 86):=⟨_,rfl⟩
 by_cases he:(tnV10 B a).2.2=0
 ·
  obtain ⟨hN,hb⟩:=tn_ok10 he
  have hq:tnV10 B a=((tnV10 B a).1,a + 4,0):=Prod.ext rfl (Prod.ext hb he)
  have h1:=hN.right
  have h2:=hN.bd
  rw [tnR10,hb,he] at C
  generalize (tnV10 B a).1=n at *
  have g0:=h1.1
  have g1:=h1.2.1
  have g2:=h1.2.2
  have g3:=h2.1
  have g4:=h2.2
  by_cases hs:(B.size:Int) - (a + 4) < n
  ·
   have HR:=Lib.hid (show ttR10 B a=.tuple #[.string ⟨#[]⟩,.agg #[.string B,.int .i64 a],.int .i64 10] by rw [ttR10,tt_short10 hq (by omega)])
   clear hN hb hq he h1 h2
   go_enter Tryz.func79,Tryz.ntmps79
   go_wp2_with fail
   rw [← hW1]
   have hB1:Below w.heap.size w W1:=by rw [hW1];exact ((Below.refl _ _).alloc (Nat.le_refl _) _).alloc (by simp) _
   have iA1:Is W1 w.heap.size 86 #[.string B,.int .i64 a]:=by rw [hW1];exact heap_alloc2_old w _ _
   have iR1:Is W1 (w.heap.size + 1) 86 #[.string ⟨#[]⟩,.int .i64 0]:=by rw [hW1];exact heap_alloc2_new w _ _
   clear hW1
   refine (C.out _).mono ?_
   rintro e W2 ⟨rfl,hb⟩
   have hB2:=hB1.trans (hb.mono hB1.size)
   have iA2:=iA1.below hb iA1.lt
   have iR2:=iR1.below hb iR1.lt
   clear hb hB1 iA1 iR1
   have cA0:W2.cell? ⟨w.heap.size,0,none⟩=some (.string B):=iA2.cell 0
   have cA1:W2.cell? ⟨w.heap.size,1,none⟩=some (.int .i64 a):=iA2.cell 1
   have cR0:W2.cell? ⟨w.heap.size + 1,0,none⟩=some (.string ⟨#[]⟩):=iR2.cell 0
   have cR1:W2.cell? ⟨w.heap.size + 1,1,none⟩=some (.int .i64 0):=iR2.cell 1
   have fR0:=iR2.frozen 0
   have fR1:=iR2.frozen 1
   go_wp2
   have iD3:Is (W2.alloc (.cells #[.string B,.int .i64 (a + 4)] 86)) W2.heap.size 86 #[.string B,.int .i64 (a + 4)]:=Is.new W2 _ _
   have hB3:Below w.heap.size w (W2.alloc (.cells #[.string B,.int .i64 (a + 4)] 86)):=hB2.alloc hB2.size _
   have iA3:=iA2.alloc (.cells #[.string B,.int .i64 (a + 4)] 86)
   have iR3:=iR2.alloc (.cells #[.string B,.int .i64 (a + 4)] 86)
   have hD:=iR2.lt
   generalize W2.alloc (.cells #[.string B,.int .i64 (a + 4)] 86)=W3 at *
   generalize W2.heap.size=D at *
   have hn1':D≠w.heap.size + 1:=by omega
   have hn2':w.heap.size + 1≠D:=by omega
   clear cA0 cA1 cR0 cR1 fR0 fR1 hB2 iA2 iR2
   have cA0:W3.cell? ⟨w.heap.size,0,none⟩=some (.string B):=iA3.cell 0
   have cA1:W3.cell? ⟨w.heap.size,1,none⟩=some (.int .i64 a):=iA3.cell 1
   have cR0:W3.cell? ⟨w.heap.size + 1,0,none⟩=some (.string ⟨#[]⟩):=iR3.cell 0
   have cR1:W3.cell? ⟨w.heap.size + 1,1,none⟩=some (.int .i64 0):=iR3.cell 1
   have fR0:=iR3.frozen 0
   have fR1:=iR3.frozen 1
   go_region_held3 (fun w'=>w'.cell? ⟨w.heap.size,0,none⟩=some (.string B)∧w'.cell? ⟨w.heap.size,1,none⟩=some (.int .i64 a)) (go_keep) (fail)
   go_wp2
   have iZ:Is (((W3.setCell ⟨w.heap.size + 1,0,none⟩ (.string B)).setCell ⟨w.heap.size + 1,1,none⟩ (.int .i64 a)).drew) (w.heap.size + 1) 86 #[.string B,.int .i64 a]:=(iR3.pair10 (.string B) (.int .i64 a)).drewN 1
   exact bodyPost_ret (results_tct10 Tryz.results79 _ _ _ (w.heap.size + 1) 86 #[.string B,.int .i64 a] (0,0) _ rfl iZ Tryz.underlying86 infoCur10) rfl ⟨by rw [HR.out];rfl,below_pair10 hB3 (by omega) _ _⟩
  ·
   have HR:=Lib.hid (show ttR10 B a=.tuple #[.string (B.extract (a + 4).toNat (a + 4 + n).toNat),.agg #[.string B,.int .i64 (a + 4 + n)],.int .i64 0] by rw [ttR10,tt_of10 hq (by omega)])
   have hsl:=fun wx:World=>run_slice_string (P:=Tryz.prog) wx 9 B .i64 .i64 (a + 4) (a + 4 + n) Tryz.underlying9 (by omega) (by omega) (by omega)
   have w1i:=IntWalk.i64_in (a + 4 + n) (by omega)
   clear hN hb hq he h1 h2
   go_enter Tryz.func79,Tryz.ntmps79
   go_wp2_with fail
   rw [← hW1]
   have hB1:Below w.heap.size w W1:=by rw [hW1];exact ((Below.refl _ _).alloc (Nat.le_refl _) _).alloc (by simp) _
   have iA1:Is W1 w.heap.size 86 #[.string B,.int .i64 a]:=by rw [hW1];exact heap_alloc2_old w _ _
   have iR1:Is W1 (w.heap.size + 1) 86 #[.string ⟨#[]⟩,.int .i64 0]:=by rw [hW1];exact heap_alloc2_new w _ _
   clear hW1
   refine (C.out _).mono ?_
   rintro e W2 ⟨rfl,hb⟩
   have hB2:=hB1.trans (hb.mono hB1.size)
   have iA2:=iA1.below hb iA1.lt
   have iR2:=iR1.below hb iR1.lt
   clear hb hB1 iA1 iR1
   have cA0:W2.cell? ⟨w.heap.size,0,none⟩=some (.string B):=iA2.cell 0
   have cA1:W2.cell? ⟨w.heap.size,1,none⟩=some (.int .i64 a):=iA2.cell 1
   have cR0:W2.cell? ⟨w.heap.size + 1,0,none⟩=some (.string ⟨#[]⟩):=iR2.cell 0
   have cR1:W2.cell? ⟨w.heap.size + 1,1,none⟩=some (.int .i64 0):=iR2.cell 1
   have fR0:=iR2.frozen 0
   have fR1:=iR2.frozen 1
   go_wp2
   have iD3:Is (W2.alloc (.cells #[.string B,.int .i64 (a + 4)] 86)) W2.heap.size 86 #[.string B,.int .i64 (a + 4)]:=Is.new W2 _ _
   have hB3:Below w.heap.size w (W2.alloc (.cells #[.string B,.int .i64 (a + 4)] 86)):=hB2.alloc hB2.size _
   have iA3:=iA2.alloc (.cells #[.string B,.int .i64 (a + 4)] 86)
   have iR3:=iR2.alloc (.cells #[.string B,.int .i64 (a + 4)] 86)
   have hD:=iR2.lt
   generalize W2.alloc (.cells #[.string B,.int .i64 (a + 4)] 86)=W3 at *
   generalize W2.heap.size=D at *
   have hn1':D≠w.heap.size + 1:=by omega
   have hn2':w.heap.size + 1≠D:=by omega
   clear cA0 cA1 cR0 cR1 fR0 fR1 hB2 iA2 iR2
   have cA0:W3.cell? ⟨w.heap.size,0,none⟩=some (.string B):=iA3.cell 0
   have cA1:W3.cell? ⟨w.heap.size,1,none⟩=some (.int .i64 a):=iA3.cell 1
   have cR0:W3.cell? ⟨w.heap.size + 1,0,none⟩=some (.string ⟨#[]⟩):=iR3.cell 0
   have cR1:W3.cell? ⟨w.heap.size + 1,1,none⟩=some (.int .i64 0):=iR3.cell 1
   have fR0:=iR3.frozen 0
   have fR1:=iR3.frozen 1
   have cD0:W3.cell? ⟨D,0,none⟩=some (.string B):=iD3.cell 0
   have cD1:W3.cell? ⟨D,1,none⟩=some (.int .i64 (a + 4)):=iD3.cell 1
   go_region_held3 (fun w'=>w'.cell? ⟨D,0,none⟩=some (.string B)∧w'.cell? ⟨D,1,none⟩=some (.int .i64 (a + 4))) (go_keep) (fail)
   go_wp2
   have iZ:Is (((W3.setCell ⟨w.heap.size + 1,0,none⟩ (.string B)).setCell ⟨w.heap.size + 1,1,none⟩ (.int .i64 (a + 4 + n))).drew) (w.heap.size + 1) 86 #[.string B,.int .i64 (a + 4 + n)]:=(iR3.pair10 (.string B) (.int .i64 (a + 4 + n))).drewN 1
   exact bodyPost_ret (results_tct10 Tryz.results79 _ _ _ (w.heap.size + 1) 86 #[.string B,.int .i64 (a + 4 + n)] (0,0) _ rfl iZ Tryz.underlying86 infoCur10) rfl ⟨by rw [HR.out];rfl,below_pair10 hB3 (by omega) _ _⟩
 ·
  have hk:=tn_keep10 he
  have HR:=Lib.hid (show ttR10 B a=.tuple #[.string ⟨#[]⟩,.agg #[.string B,.int .i64 a],.int .i64 (tnV10 B a).2.2] by rw [ttR10,tt_num10 he])
  rw [tnR10,hk] at C
  clear hk
  generalize (tnV10 B a).2.2=e0 at *
  go_enter Tryz.func79,Tryz.ntmps79
  go_wp2_with fail
  rw [← hW1]
  have hB1:Below w.heap.size w W1:=by rw [hW1];exact ((Below.refl _ _).alloc (Nat.le_refl _) _).alloc (by simp) _
  have iA1:Is W1 w.heap.size 86 #[.string B,.int .i64 a]:=by rw [hW1];exact heap_alloc2_old w _ _
  have iR1:Is W1 (w.heap.size + 1) 86 #[.string ⟨#[]⟩,.int .i64 0]:=by rw [hW1];exact heap_alloc2_new w _ _
  clear hW1
  refine (C.out _).mono ?_
  rintro e W2 ⟨rfl,hb⟩
  have hB2:=hB1.trans (hb.mono hB1.size)
  have iA2:=iA1.below hb iA1.lt
  have iR2:=iR1.below hb iR1.lt
  clear hb hB1 iA1 iR1
  have cA0:W2.cell? ⟨w.heap.size,0,none⟩=some (.string B):=iA2.cell 0
  have cA1:W2.cell? ⟨w.heap.size,1,none⟩=some (.int .i64 a):=iA2.cell 1
  have cR0:W2.cell? ⟨w.heap.size + 1,0,none⟩=some (.string ⟨#[]⟩):=iR2.cell 0
  have cR1:W2.cell? ⟨w.heap.size + 1,1,none⟩=some (.int .i64 0):=iR2.cell 1
  have fR0:=iR2.frozen 0
  have fR1:=iR2.frozen 1
  go_wp2
  have iD3:Is (W2.alloc (.cells #[.string B,.int .i64 (a)] 86)) W2.heap.size 86 #[.string B,.int .i64 (a)]:=Is.new W2 _ _
  have hB3:Below w.heap.size w (W2.alloc (.cells #[.string B,.int .i64 (a)] 86)):=hB2.alloc hB2.size _
  have iA3:=iA2.alloc (.cells #[.string B,.int .i64 (a)] 86)
  have iR3:=iR2.alloc (.cells #[.string B,.int .i64 (a)] 86)
  have hD:=iR2.lt
  generalize W2.alloc (.cells #[.string B,.int .i64 (a)] 86)=W3 at *
  generalize W2.heap.size=D at *
  have hn1':D≠w.heap.size + 1:=by omega
  have hn2':w.heap.size + 1≠D:=by omega
  clear cA0 cA1 cR0 cR1 fR0 fR1 hB2 iA2 iR2
  have cA0:W3.cell? ⟨w.heap.size,0,none⟩=some (.string B):=iA3.cell 0
  have cA1:W3.cell? ⟨w.heap.size,1,none⟩=some (.int .i64 a):=iA3.cell 1
  have cR0:W3.cell? ⟨w.heap.size + 1,0,none⟩=some (.string ⟨#[]⟩):=iR3.cell 0
  have cR1:W3.cell? ⟨w.heap.size + 1,1,none⟩=some (.int .i64 0):=iR3.cell 1
  have fR0:=iR3.frozen 0
  have fR1:=iR3.frozen 1
  go_region_held3 (fun w'=>w'.cell? ⟨w.heap.size,0,none⟩=some (.string B)∧w'.cell? ⟨w.heap.size,1,none⟩=some (.int .i64 a)) (go_keep) (fail)
  go_wp2
  have iZ:Is (((W3.setCell ⟨w.heap.size + 1,0,none⟩ (.string B)).setCell ⟨w.heap.size + 1,1,none⟩ (.int .i64 a)).drew) (w.heap.size + 1) 86 #[.string B,.int .i64 a]:=(iR3.pair10 (.string B) (.int .i64 a)).drewN 1
  exact bodyPost_ret (results_tct10 Tryz.results79 _ _ _ (w.heap.size + 1) 86 #[.string B,.int .i64 a] (0,0) _ rfl iZ Tryz.underlying86 infoCur10) rfl ⟨by rw [HR.out];rfl,below_pair10 hB3 (by omega) _ _⟩
end Go.Proofs.YtmggbbmpckcleaaGreat
namespace Go.Proofs.YtmggbbmpckcleaaGreat
open Go.RowKit Go.Shelf
theorem RowV.lst10 {W:World} {n c m:Nat} {A:Option Addr} {l:List ByteArray} (h:RowV W n 9 1 A c m (tL10 l)):Lst10 n W A l:=⟨h.inV,fun p e=>by
 subst e
 rcases h.2 with ⟨h0,_⟩ | ⟨g,cap,cur,h0,hb,_⟩
 · cases h0
 · cases h0;exact hb⟩
theorem ne_sc10:(86:TypeId)≠9:=by decide
theorem dl_num10 (B:ByteArray) (a:Int) (w:World) (h0:(tnV10 B a).2.2≠0∨1000 < (tnV10 B a).1) :
  Calls Tryz.prog 47 #[.agg #[.string B,.int .i64 a]] w fun e w'=>∃ A c,e=.returned (tlR10 B a A c)∧Lst10 w.heap.size w' A (tlV10 B a).1∧Below w.heap.size w w':=by
 have C:=Lib.hid (dn_any10 B a)
 obtain ⟨W1,hW1⟩:∃ W1,W1=(w.alloc (.cells #[.string B,.int .i64 a] 86)).alloc (.cells #[.string ⟨#[]⟩,.int .i64 0] 86):=⟨_,rfl⟩
 by_cases he:(tnV10 B a).2.2=0
 ·
  obtain ⟨hN,hb⟩:=tn_ok10 he
  have h2:1000 < (tnV10 B a).1:=by rcases h0 with h0 | h0;exact absurd he h0;exact h0
  have hv:tlV10 B a=([],a,13):=by rw [tlV10,if_pos he,if_pos h2]
  have HV:=Lib.hid hv
  have HR:=Lib.hid (show tlR10 B a none 0=.tuple #[.slice none 0 0,.agg #[.string B,.int .i64 a],.int .i64 13] by rw [tlR10,hv];rfl)
  rw [tnR10,hb,he] at C
  generalize (tnV10 B a).1=n at *
  clear hN hb hv he h0
  go_enter Tryz.func47,Tryz.ntmps47
  go_wp2_with fail
  rw [← hW1]
  have hB1:Below w.heap.size w W1:=by rw [hW1];exact ((Below.refl _ _).alloc (Nat.le_refl _) _).alloc (by simp) _
  have iA1:Is W1 w.heap.size 86 #[.string B,.int .i64 a]:=by rw [hW1];exact heap_alloc2_old w _ _
  have iR1:Is W1 (w.heap.size + 1) 86 #[.string ⟨#[]⟩,.int .i64 0]:=by rw [hW1];exact heap_alloc2_new w _ _
  clear hW1
  refine (C.out _).mono ?_
  rintro e W2 ⟨rfl,hb⟩
  have hB2:=hB1.trans (hb.mono hB1.size)
  have iA2:=iA1.below hb iA1.lt
  have iR2:=iR1.below hb iR1.lt
  clear hb hB1 iA1 iR1
  have cA0:W2.cell? ⟨w.heap.size,0,none⟩=some (.string B):=iA2.cell 0
  have cA1:W2.cell? ⟨w.heap.size,1,none⟩=some (.int .i64 a):=iA2.cell 1
  have cR0:W2.cell? ⟨w.heap.size + 1,0,none⟩=some (.string ⟨#[]⟩):=iR2.cell 0
  have cR1:W2.cell? ⟨w.heap.size + 1,1,none⟩=some (.int .i64 0):=iR2.cell 1
  have fR0:=iR2.frozen 0
  have fR1:=iR2.frozen 1
  go_wp2
  have iD3:Is (W2.alloc (.cells #[.string B,.int .i64 (a + 4)] 86)) W2.heap.size 86 #[.string B,.int .i64 (a + 4)]:=Is.new W2 _ _
  have hB3:Below w.heap.size w (W2.alloc (.cells #[.string B,.int .i64 (a + 4)] 86)):=hB2.alloc hB2.size _
  have iA3:=iA2.alloc (.cells #[.string B,.int .i64 (a + 4)] 86)
  have iR3:=iR2.alloc (.cells #[.string B,.int .i64 (a + 4)] 86)
  have hD:=iR2.lt
  generalize W2.alloc (.cells #[.string B,.int .i64 (a + 4)] 86)=W3 at *
  generalize W2.heap.size=D at *
  have hn1':D≠w.heap.size + 1:=by omega
  have hn2':w.heap.size + 1≠D:=by omega
  clear cA0 cA1 cR0 cR1 fR0 fR1 hB2 iA2 iR2
  have cA0:W3.cell? ⟨w.heap.size,0,none⟩=some (.string B):=iA3.cell 0
  have cA1:W3.cell? ⟨w.heap.size,1,none⟩=some (.int .i64 a):=iA3.cell 1
  have cR0:W3.cell? ⟨w.heap.size + 1,0,none⟩=some (.string ⟨#[]⟩):=iR3.cell 0
  have cR1:W3.cell? ⟨w.heap.size + 1,1,none⟩=some (.int .i64 0):=iR3.cell 1
  have fR0:=iR3.frozen 0
  have fR1:=iR3.frozen 1
  go_region_held3 (fun w'=>w'.cell? ⟨w.heap.size,0,none⟩=some (.string B)∧w'.cell? ⟨w.heap.size,1,none⟩=some (.int .i64 a)) (go_keep) (fail)
  go_wp2
  have iZ:Is (((W3.setCell ⟨w.heap.size + 1,0,none⟩ (.string B)).setCell ⟨w.heap.size + 1,1,none⟩ (.int .i64 a)).drew) (w.heap.size + 1) 86 #[.string B,.int .i64 a]:=(iR3.pair10 (.string B) (.int .i64 a)).drewN 1
  exact bodyPost_ret (results_tct10 Tryz.results47 _ _ _ (w.heap.size + 1) 86 #[.string B,.int .i64 a] (0,0) _ rfl iZ Tryz.underlying86 infoCur10) rfl ⟨none,0,by rw [HR.out];rfl,by rw [HV.out];exact Lst10.nil _ _,below_pair10 hB3 (by omega) _ _⟩
 ·
  have hk:=tn_keep10 he
  have hv:tlV10 B a=([],a,(tnV10 B a).2.2):=by rw [tlV10,if_neg he]
  have HV:=Lib.hid hv
  have HR:=Lib.hid (show tlR10 B a none 0=.tuple #[.slice none 0 0,.agg #[.string B,.int .i64 a],.int .i64 (tnV10 B a).2.2] by rw [tlR10,hv];rfl)
  rw [tnR10,hk] at C
  clear hk hv h0
  generalize (tnV10 B a).2.2=e0 at *
  go_enter Tryz.func47,Tryz.ntmps47
  go_wp2_with fail
  rw [← hW1]
  have hB1:Below w.heap.size w W1:=by rw [hW1];exact ((Below.refl _ _).alloc (Nat.le_refl _) _).alloc (by simp) _
  have iA1:Is W1 w.heap.size 86 #[.string B,.int .i64 a]:=by rw [hW1];exact heap_alloc2_old w _ _
  have iR1:Is W1 (w.heap.size + 1) 86 #[.string ⟨#[]⟩,.int .i64 0]:=by rw [hW1];exact heap_alloc2_new w _ _
  clear hW1
  refine (C.out _).mono ?_
  rintro e W2 ⟨rfl,hb⟩
  have hB2:=hB1.trans (hb.mono hB1.size)
  have iA2:=iA1.below hb iA1.lt
  have iR2:=iR1.below hb iR1.lt
  clear hb hB1 iA1 iR1
  have cA0:W2.cell? ⟨w.heap.size,0,none⟩=some (.string B):=iA2.cell 0
  have cA1:W2.cell? ⟨w.heap.size,1,none⟩=some (.int .i64 a):=iA2.cell 1
  have cR0:W2.cell? ⟨w.heap.size + 1,0,none⟩=some (.string ⟨#[]⟩):=iR2.cell 0
  have cR1:W2.cell? ⟨w.heap.size + 1,1,none⟩=some (.int .i64 0):=iR2.cell 1
  have fR0:=iR2.frozen 0
  have fR1:=iR2.frozen 1
  go_wp2
  have iD3:Is (W2.alloc (.cells #[.string B,.int .i64 (a)] 86)) W2.heap.size 86 #[.string B,.int .i64 (a)]:=Is.new W2 _ _
  have hB3:Below w.heap.size w (W2.alloc (.cells #[.string B,.int .i64 (a)] 86)):=hB2.alloc hB2.size _
  have iA3:=iA2.alloc (.cells #[.string B,.int .i64 (a)] 86)
  have iR3:=iR2.alloc (.cells #[.string B,.int .i64 (a)] 86)
  have hD:=iR2.lt
  generalize W2.alloc (.cells #[.string B,.int .i64 (a)] 86)=W3 at *
  generalize W2.heap.size=D at *
  have hn1':D≠w.heap.size + 1:=by omega
  have hn2':w.heap.size + 1≠D:=by omega
  clear cA0 cA1 cR0 cR1 fR0 fR1 hB2 iA2 iR2
  have cA0:W3.cell? ⟨w.heap.size,0,none⟩=some (.string B):=iA3.cell 0
  have cA1:W3.cell? ⟨w.heap.size,1,none⟩=some (.int .i64 a):=iA3.cell 1
  have cR0:W3.cell? ⟨w.heap.size + 1,0,none⟩=some (.string ⟨#[]⟩):=iR3.cell 0
  have cR1:W3.cell? ⟨w.heap.size + 1,1,none⟩=some (.int .i64 0):=iR3.cell 1
  have fR0:=iR3.frozen 0
  have fR1:=iR3.frozen 1
  go_region_held3 (fun w'=>w'.cell? ⟨w.heap.size,0,none⟩=some (.string B)∧w'.cell? ⟨w.heap.size,1,none⟩=some (.int .i64 a)) (go_keep) (fail)
  go_wp2
  have iZ:Is (((W3.setCell ⟨w.heap.size + 1,0,none⟩ (.string B)).setCell ⟨w.heap.size + 1,1,none⟩ (.int .i64 a)).drew) (w.heap.size + 1) 86 #[.string B,.int .i64 a]:=(iR3.pair10 (.string B) (.int .i64 a)).drewN 1
  exact bodyPost_ret (results_tct10 Tryz.results47 _ _ _ (w.heap.size + 1) 86 #[.string B,.int .i64 a] (0,0) _ rfl iZ Tryz.underlying86 infoCur10) rfl ⟨none,0,by rw [HR.out];rfl,by rw [HV.out];exact Lst10.nil _ _,below_pair10 hB3 (by omega) _ _⟩
theorem dl_go10 (B:ByteArray) (a:Int) (w:World) (he:(tnV10 B a).2.2=0) (h1:(tnV10 B a).1≤1000) :
  Calls Tryz.prog 47 #[.agg #[.string B,.int .i64 a]] w fun e w'=>∃ A c,e=.returned (tlR10 B a A c)∧Lst10 w.heap.size w' A (tlV10 B a).1∧Below w.heap.size w w':=by
 obtain ⟨i0,hi,hz0,hz1,hz2⟩:=info_parts infoTxt10
 have C:=Lib.hid (dn_any10 B a)
 obtain ⟨W1,hW1⟩:∃ W1,W1=(w.alloc (.cells #[.string B,.int .i64 a] 86)).alloc (.cells #[.string ⟨#[]⟩,.int .i64 0] 86):=⟨_,rfl⟩
 obtain ⟨hN,hb⟩:=tn_ok10 he
 obtain ⟨N,hNe⟩:∃ N:Nat,(tnV10 B a).1=(N:Int):=⟨(tnV10 B a).1.toNat,by have:=hN.bd.1;omega⟩
 have hri:=hN.right
 have hvo:(tks10 B N (a + 4)).2.2=0→tlV10 B a=((tks10 B N (a + 4)).1,(tks10 B N (a + 4)).2.1,0):=fun h=>by
  rw [tlV10,if_pos he,if_neg (by omega),hNe,show ((N:Int)).toNat=N by omega,if_pos h]
  exact Prod.ext rfl (Prod.ext rfl h)
 have hve:∀ e0,(tks10 B N (a + 4)).2.2=e0→e0≠0→tlV10 B a=([],a,e0):=fun e0 h h2=>by
  rw [tlV10,if_pos he,if_neg (by omega),hNe,show ((N:Int)).toNat=N by omega,if_neg (by rw [h];exact h2),h]
 have HVO:=Lib.hid hvo
 have HVE:=Lib.hid hve
 have HTK:=Lib.hid (fun k=>tks_ok10 (B:=B) (a:=a + 4) (by omega) hri.2.2 k)
 rw [tnR10,hb,he,hNe] at C
 have hN1:N≤1000:=by omega
 have hN2:(N:Int)≤1000:=by omega
 have HRI:=Lib.hid hri
 clear hvo hve hN hb he h1 hNe hri
 go_enter Tryz.func47,Tryz.ntmps47
 go_wp2_with fail
 rw [← hW1]
 have hB1:Below w.heap.size w W1:=by rw [hW1];exact ((Below.refl _ _).alloc (Nat.le_refl _) _).alloc (by simp) _
 have iA1:Is W1 w.heap.size 86 #[.string B,.int .i64 a]:=by rw [hW1];exact heap_alloc2_old w _ _
 have iR1:Is W1 (w.heap.size + 1) 86 #[.string ⟨#[]⟩,.int .i64 0]:=by rw [hW1];exact heap_alloc2_new w _ _
 clear hW1
 refine (C.out _).mono ?_
 rintro e W2 ⟨rfl,hb⟩
 have hB2:=hB1.trans (hb.mono hB1.size)
 have iA2:=iA1.below hb iA1.lt
 have iR2:=iR1.below hb iR1.lt
 clear hb hB1 iA1 iR1
 have cA0:W2.cell? ⟨w.heap.size,0,none⟩=some (.string B):=iA2.cell 0
 have cA1:W2.cell? ⟨w.heap.size,1,none⟩=some (.int .i64 a):=iA2.cell 1
 have cR0:W2.cell? ⟨w.heap.size + 1,0,none⟩=some (.string ⟨#[]⟩):=iR2.cell 0
 have cR1:W2.cell? ⟨w.heap.size + 1,1,none⟩=some (.int .i64 0):=iR2.cell 1
 have fR0:=iR2.frozen 0
 have fR1:=iR2.frozen 1
 go_wp2
 have iD3:Is (W2.alloc (.cells #[.string B,.int .i64 (a + 4)] 86)) W2.heap.size 86 #[.string B,.int .i64 (a + 4)]:=Is.new W2 _ _
 have hB3:Below w.heap.size w (W2.alloc (.cells #[.string B,.int .i64 (a + 4)] 86)):=hB2.alloc hB2.size _
 have iA3:=iA2.alloc (.cells #[.string B,.int .i64 (a + 4)] 86)
 have iR3:=iR2.alloc (.cells #[.string B,.int .i64 (a + 4)] 86)
 have hD:=iR2.lt
 generalize W2.alloc (.cells #[.string B,.int .i64 (a + 4)] 86)=W3 at *
 generalize W2.heap.size=D at *
 have hn1':D≠w.heap.size + 1:=by omega
 have hn2':w.heap.size + 1≠D:=by omega
 clear cA0 cA1 cR0 cR1 fR0 fR1 hB2 iA2 iR2
 have cA0:W3.cell? ⟨w.heap.size,0,none⟩=some (.string B):=iA3.cell 0
 have cA1:W3.cell? ⟨w.heap.size,1,none⟩=some (.int .i64 a):=iA3.cell 1
 have cR0:W3.cell? ⟨w.heap.size + 1,0,none⟩=some (.string ⟨#[]⟩):=iR3.cell 0
 have cR1:W3.cell? ⟨w.heap.size + 1,1,none⟩=some (.int .i64 0):=iR3.cell 1
 have fR0:=iR3.frozen 0
 have fR1:=iR3.frozen 1
 have hA3:=iA3
 clear cA0 cA1 cR0 cR1 fR0 fR1
 have hDs:w.heap.size + 1 < D:=by omega
 go_loopw [8,9] (fun v i wr=>∃ k A' c',k≤N∧i=.int .i64 (k:Int)∧v=.slice A' k c'∧(tks10 B k (a + 4)).2.2=0∧RowV wr w.heap.size 9 1 A' c' k (tL10 (tks10 B k (a + 4)).1)∧Is wr D 86 #[.string B,.int .i64 (tks10 B k (a + 4)).2.1]∧Is wr w.heap.size 86 #[.string B,.int .i64 a]∧Is wr (w.heap.size + 1) 86 #[.string ⟨#[]⟩,.int .i64 0]∧Below w.heap.size w wr)
  (fun _ i _=>N - (intOf i).toNat)
 case atStart=>exact ⟨0,none,0,by omega,rfl,rfl,rfl,RowV.nil _ _ _ _,iD3,iA3,iR3,hB3⟩
 case round =>
  clear iD3 iA3 iR3 hB3 hA3
  obtain ⟨k,A',c',hk,rfl,rfl,hno,hrow,iD,iA,iR,hB⟩:=hrel
  by_cases hlt:k < N
  ·
   have hk1:(k:Int) < (N:Int):=by omega
   have hCT:=dt_any10 B (tks10 B k (a + 4)).2.1
   have hst:=tks_step10 hno
   have hsy:∀ j,k + 1≤j→(tks10 B (k + 1) (a + 4)).2.2≠0→tks10 B j (a + 4)=tks10 B (k + 1) (a + 4):=fun j hj h=>by
    obtain ⟨d,rfl⟩:=Nat.exists_eq_add_of_le hj
    exact tks_stay10 h d
   have hlen:=(HTK.out k hno).len
   obtain ⟨L,hL⟩:∃ L,L=(tks10 B k (a + 4)).1:=⟨_,rfl⟩
   rw [← hL] at hrow hst hlen
   generalize (tks10 B k (a + 4)).2.1=p at *
   rw [ttR10] at hCT
   generalize hV:ttV10 B p=V at *
   obtain ⟨x,q,e0⟩:=V
   simp only at hCT hst
   have CT:=Lib.hid hCT
   have w2i:=IntWalk.i64_in ((k:Int) + 1) (by omega)
   have cD0:wr.cell? ⟨D,0,none⟩=some (.string B):=iD.cell 0
   have cD1:wr.cell? ⟨D,1,none⟩=some (.int .i64 p):=iD.cell 1
   by_cases h0:e0=0
   ·
    subst h0
    rw [if_pos rfl] at hst
    have HS0:=Lib.hid hst
    have hno2:(tks10 B (k + 1) (a + 4)).2.2=0:=by rw [hst]
    have HN2:=Lib.hid hno2
    clear hCT hst hsy hno hL hV hno2
    go_wp2_with fail
    refine (CT.out _).mono ?_
    rintro e W4 ⟨rfl,hb⟩
    have hrow4:=hrow.below hb
    have iD4:=iD.below hb iD.lt
    have iA4:=iA.below hb iA.lt
    have iR4:=iR.below hb iR.lt
    have hB4:=hB.trans (hb.mono hB.size)
    clear hrow iD iA iR hB hb cD0 cD1
    have hrow5:=(hrow4.alloc (.cells #[.string B,.int .i64 q] 86)).alloc (.cells #[.string x] 9)
    have iD5:=(iD4.alloc (.cells #[.string B,.int .i64 q] 86)).alloc (.cells #[.string x] 9)
    have iA5:=(iA4.alloc (.cells #[.string B,.int .i64 q] 86)).alloc (.cells #[.string x] 9)
    have iR5:=(iR4.alloc (.cells #[.string B,.int .i64 q] 86)).alloc (.cells #[.string x] 9)
    have iE5:Is ((W4.alloc (.cells #[.string B,.int .i64 q] 86)).alloc (.cells #[.string x] 9)) W4.heap.size 86 #[.string B,.int .i64 q]:=heap_alloc2_old W4 _ _
    have iX5:Is ((W4.alloc (.cells #[.string B,.int .i64 q] 86)).alloc (.cells #[.string x] 9)) (W4.heap.size + 1) 9 #[.string x]:=heap_alloc2_new W4 _ _
    have hB5:Below w.heap.size w ((W4.alloc (.cells #[.string B,.int .i64 q] 86)).alloc (.cells #[.string x] 9)):=(hB4.alloc hB4.size _).alloc (by have:=hB4.size;simp;omega) _
    have hDl:=iD4.lt
    have hqn:D≠W4.heap.size:=by omega
    have hqn2:W4.heap.size≠D:=by omega
    go_wp2_with (at_builtin;refine wpList_pushV rfl _ _ 24 9 i0 (.string ⟨#[]⟩) 1 16 rfl Tryz.underlying24 hi hz0 hz1 hz2 rfl (by decide) w.heap.size A' c' k _ hrow5 (W4.heap.size + 1) 9 #[.string x] iX5 rfl (fun u hu=>by simp only [List.mem_cons,List.not_mem_nil,or_false] at hu;subst hu;rfl) (by unfold maxLen;omega) (by omega) ⟨rfl,rfl⟩ hB5.size ?_;intro A3 c3 V3 r3 hg3;have iD6:=hrow5.isFar hg3 iD5 ne_sc10;have iE6:=hrow5.isFar hg3 iE5 ne_sc10;have d0:V3.cell? ⟨D,0,none⟩=some (.string B):=iD6.cell 0;have d1:V3.cell? ⟨D,1,none⟩=some (.int .i64 p):=iD6.cell 1;have e0:V3.cell? ⟨W4.heap.size,0,none⟩=some (.string B):=iE6.cell 0;have e1:V3.cell? ⟨W4.heap.size,1,none⟩=some (.int .i64 q):=iE6.cell 1;have f0:=iD6.frozen 0;have f1:=iD6.frozen 1)
    have iA6:=hrow5.isFar hg3 iA5 ne_sc10
    have iR6:=hrow5.isFar hg3 iR5 ne_sc10
    have hB6:=hrow5.belowG hB5 hg3
    have hr3:RowV V3 w.heap.size 9 1 A3 c3 (k + 1) (tL10 (L ++ [x])):=by
     have e:tL10 (L ++ [x])=tL10 L ++ (#[Value.string x]:Array Value).toList:=by unfold tL10;rw [List.map_append];rfl
     rw [e]
     exact r3
    go_roundw
    case rel =>
     refine ⟨k + 1,A3,c3,by omega,by go_num,by first | rfl | exact ⟨rfl,rfl,rfl⟩,HN2.out,?_,?_,(iA6.far (p:=⟨D,0,none⟩) (by simp only [];omega) _).far (p:=⟨D,1,none⟩) (by simp only [];omega) _,(iR6.far (p:=⟨D,0,none⟩) (by simp only [];omega) _).far (p:=⟨D,1,none⟩) (by simp only [];omega) _,(hB6.setCell (p:=⟨D,0,none⟩) (by simp only [];omega) _).setCell (p:=⟨D,1,none⟩) (by simp only [];omega) _⟩
     · rw [HS0.out];exact (hr3.far (p:=⟨D,0,none⟩) iD6 ne_sc10 _).far (p:=⟨D,1,none⟩) (iD6.set 0 _) ne_sc10 _
     · rw [HS0.out];exact iD6.pair10 _ _
    case measure=>simp [intOf];omega
   ·
    rw [if_neg h0] at hst
    have her:(tks10 B N (a + 4)).2.2=e0:=by rw [hsy N hlt (by rw [hst];exact h0),hst]
    have hv:=HVE.out e0 her h0
    have HV:=Lib.hid hv
    have HR:=Lib.hid (show tlR10 B a none 0=.tuple #[.slice none 0 0,.agg #[.string B,.int .i64 a],.int .i64 e0] by rw [tlR10,hv];rfl)
    have hq:q=p∧x=⟨#[]⟩:=by
     have:=tt_keep10 (B:=B) (a:=p) (by rw [hV];exact h0)
     rw [hV] at this
     exact ⟨congrArg (fun y=>y.2.1) this,congrArg (fun y=>y.1) this⟩
    obtain ⟨rfl,rfl⟩:=hq
    clear hCT hst hsy hno hL hV her hv hrow hlen
    go_wp2_with fail
    refine (CT.out _).mono ?_
    rintro e W4 ⟨rfl,hb⟩
    have iA2:=iA.below hb iA.lt
    have iR2:=iR.below hb iR.lt
    have hB2:=hB.trans (hb.mono hB.size)
    clear iD iA iR hB hb cD0 cD1
    go_wp2
    have hB3:Below w.heap.size w (W4.alloc (.cells #[.string B,.int .i64 q] 86)):=hB2.alloc hB2.size _
    have iA3:=iA2.alloc (.cells #[.string B,.int .i64 q] 86)
    have iR3:=iR2.alloc (.cells #[.string B,.int .i64 q] 86)
    have hE:=iR2.lt
    generalize W4.alloc (.cells #[.string B,.int .i64 q] 86)=W3 at *
    generalize W4.heap.size=E at *
    have hm1:E≠w.heap.size + 1:=by omega
    have hm2:w.heap.size + 1≠E:=by omega
    clear iA2 iR2 hB2
    have cA0:W3.cell? ⟨w.heap.size,0,none⟩=some (.string B):=iA3.cell 0
    have cA1:W3.cell? ⟨w.heap.size,1,none⟩=some (.int .i64 a):=iA3.cell 1
    have cR0:W3.cell? ⟨w.heap.size + 1,0,none⟩=some (.string ⟨#[]⟩):=iR3.cell 0
    have cR1:W3.cell? ⟨w.heap.size + 1,1,none⟩=some (.int .i64 0):=iR3.cell 1
    have fR0:=iR3.frozen 0
    have fR1:=iR3.frozen 1
    go_region_held3 (fun w'=>w'.cell? ⟨w.heap.size,0,none⟩=some (.string B)∧w'.cell? ⟨w.heap.size,1,none⟩=some (.int .i64 a)) (go_keep) (fail)
    go_wp2
    have iZ:Is (((W3.setCell ⟨w.heap.size + 1,0,none⟩ (.string B)).setCell ⟨w.heap.size + 1,1,none⟩ (.int .i64 a)).drew) (w.heap.size + 1) 86 #[.string B,.int .i64 a]:=(iR3.pair10 (.string B) (.int .i64 a)).drewN 1
    exact bodyPost_ret (results_tct10 Tryz.results47 _ _ _ (w.heap.size + 1) 86 #[.string B,.int .i64 a] (0,0) _ rfl iZ Tryz.underlying86 infoCur10) rfl ⟨none,0,by rw [HR.out];rfl,by rw [HV.out];exact Lst10.nil _ _,below_pair10 hB3 (by omega) _ _⟩
  ·
   have hk1:¬ (k:Int) < (N:Int):=by omega
   obtain rfl:k=N:=by omega
   have hv:=HVO.out hno
   have hlen:=(HTK.out k hno).len
   have HV:=Lib.hid hv
   have HR:=Lib.hid (fun A c=>show tlR10 B a A c=.tuple #[.slice A k c,.agg #[.string B,.int .i64 (tks10 B k (a + 4)).2.1],.int .i64 0] by rw [tlR10,hv,hlen])
   have hrow3:=hrow.lst10
   generalize (tks10 B k (a + 4)).1=L at *
   generalize (tks10 B k (a + 4)).2.1=p at *
   have hB3:=hB
   have iA3:=iA
   have iR3:=iR
   have cD0:wr.cell? ⟨D,0,none⟩=some (.string B):=iD.cell 0
   have cD1:wr.cell? ⟨D,1,none⟩=some (.int .i64 p):=iD.cell 1
   have HROW:=Lib.hid hrow
   have HID:=Lib.hid iR
   clear hv hlen hno hrow
   generalize hwr:wr=W3 at *
   go_wp2
   have cA0:W3.cell? ⟨w.heap.size,0,none⟩=some (.string B):=iA3.cell 0
   have cA1:W3.cell? ⟨w.heap.size,1,none⟩=some (.int .i64 a):=iA3.cell 1
   have cR0:W3.cell? ⟨w.heap.size + 1,0,none⟩=some (.string ⟨#[]⟩):=iR3.cell 0
   have cR1:W3.cell? ⟨w.heap.size + 1,1,none⟩=some (.int .i64 0):=iR3.cell 1
   have fR0:=iR3.frozen 0
   have fR1:=iR3.frozen 1
   go_region_held3 (fun w'=>w'.cell? ⟨D,0,none⟩=some (.string B)∧w'.cell? ⟨D,1,none⟩=some (.int .i64 p)) (go_keep) (fail)
   go_wp2
   have iZ:Is (((W3.setCell ⟨w.heap.size + 1,0,none⟩ (.string B)).setCell ⟨w.heap.size + 1,1,none⟩ (.int .i64 p)).drew) (w.heap.size + 1) 86 #[.string B,.int .i64 p]:=(iR3.pair10 (.string B) (.int .i64 p)).drewN 1
   exact bodyPost_ret (results_tct10 Tryz.results47 _ _ _ (w.heap.size + 1) 86 #[.string B,.int .i64 p] (0,0) _ rfl iZ Tryz.underlying86 infoCur10) rfl ⟨A',c',by rw [HR.out];rfl,by rw [HV.out];exact RowV.lst10 (m:=k) (((HROW.out.far (p:=⟨w.heap.size + 1,0,none⟩) HID.out ne_sc10 _).far (p:=⟨w.heap.size + 1,1,none⟩) (HID.out.set 0 _) ne_sc10 _).drewN 1),below_pair10 hB3 (by omega) _ _⟩
theorem dl_any10 (B:ByteArray) (a:Int) (w:World) :
  Calls Tryz.prog 47 #[.agg #[.string B,.int .i64 a]] w fun e w'=>∃ A c,e=.returned (tlR10 B a A c)∧Lst10 w.heap.size w' A (tlV10 B a).1∧Below w.heap.size w w':=by
 by_cases h0:(tnV10 B a).2.2=0
 ·
  by_cases h1:(tnV10 B a).1≤1000
  · exact dl_go10 B a w h0 h1
  · exact dl_num10 B a w (.inr (by omega))
 · exact dl_num10 B a w (.inl h0)
end Go.Proofs.YtmggbbmpckcleaaGreat
namespace Go.Proofs.YtmggbbmpckcleaaGreat
open Go.RowKit Go.Shelf
theorem exec_append10 {P:Program} {o:Oper} {a:Act} {s x:Operand} {t:TypeId} {v u r:Value} {w w':World} (ho:o.op=.call { callee:=.builtin .append,args:=#[s,x],argTypes:=#[t,t] }) (hs:a.eval s=v) (hx:a.eval x=u)
  (hr:(Builtin.append_ #[t,t] o.type #[v,u]).run P w=.ok r w'):(execOp a.eval o).run P w=.ok (.value r) w':=by
 simp [execOp,ho,resolve,invoke,builtin,hs,hx,hr,Result.andThen]
end Go.Proofs.YtmggbbmpckcleaaGreat
namespace Go.Proofs.YtmggbbmpckcleaaGreat
open Go.RowKit Go.Shelf
end Go.Proofs.YtmggbbmpckcleaaGreat
namespace Go.Proofs.YtmggbbmpckcleaaGreat
open Go.RowKit Go.Shelf
section
variable {P:Program} {md:Region.Mode} {ops:Array Oper} {Q:Exit→Act→World→Prop} {S:World→Prop} {fuel i:Nat} {listed:Array Bool} {a:Act} {w w':World} {o:Oper}
theorem arm10_call {f:FuncId} {args:Array Value} (hw:Region.wanted o (yielded ops a.tmps)=true) (hx:∀ w,(execOp a.eval o).run P w=.ok (.enter f args) w)
  (h:Calls P f args w fun e w'=>∃ v,e=.returned v∧S w'∧wpAnyH P md ops Q S fuel (listed.setIfInBounds i true) (a.put o.dst v) w') :
  ∀ K':Act→World→Prop,Shut (∀ a w,S w→(S w→wpAnyH P md ops Q S fuel (listed.setIfInBounds i true) a w)→K' a w)→if Region.wanted o (yielded ops a.tmps)=true then Oper.wp P o a w K' Q else K' (a.put o.dst undef) w:=fun K' hK=>by
 rw [if_pos hw]
 unfold Oper.wp
 rw [hx,Oper.upon_enter]
 exact h.mono fun e w' ⟨v,he,hS,hn⟩=>by subst he;exact hK.out _ _ hS fun _=>hn
theorem arm10_value {v:Value} (hw:Region.wanted o (yielded ops a.tmps)=true) (hx:(execOp a.eval o).run P w=.ok (.value v) w') (hS:S w')
  (h:wpAnyH P md ops Q S fuel (listed.setIfInBounds i true) (a.put o.dst v) w') :
  ∀ K':Act→World→Prop,Shut (∀ a w,S w→(S w→wpAnyH P md ops Q S fuel (listed.setIfInBounds i true) a w)→K' a w)→if Region.wanted o (yielded ops a.tmps)=true then Oper.wp P o a w K' Q else K' (a.put o.dst undef) w:=fun K' hK=>by
 rw [if_pos hw]
 unfold Oper.wp
 rw [hx]
 exact hK.out _ _ hS fun _=>h
theorem arm10_skip (hw:Region.wanted o (yielded ops a.tmps)=true) (hx:(execOp a.eval o).run P w=.ok .skip w') (hS:S w')
  (h:wpAnyH P md ops Q S fuel (listed.setIfInBounds i true) (a.put o.dst undef) w') :
  ∀ K':Act→World→Prop,Shut (∀ a w,S w→(S w→wpAnyH P md ops Q S fuel (listed.setIfInBounds i true) a w)→K' a w)→if Region.wanted o (yielded ops a.tmps)=true then Oper.wp P o a w K' Q else K' (a.put o.dst undef) w:=fun K' hK=>by
 rw [if_pos hw]
 unfold Oper.wp
 rw [hx]
 exact hK.out _ _ hS fun _=>h
end
section
variable {P:Program} {ops:Array Oper} {Q:Exit→Act→World→Prop} {i:Nat} {a:Act} {w:World} {o:Oper}
theorem drop_nth10 {ops:Array Oper} {i:Nat} {o:Oper} (h:ops[i]?=some o):ops.toList.drop i=o :: ops.toList.drop (i + 1):=by
 obtain ⟨h1,h2⟩:=Array.getElem?_eq_some_iff.1 h
 rw [List.drop_eq_getElem_cons (by simpa using h1),← h2]
 rfl
structure Line10 (P:Program) (ops:Array Oper) (Q:Exit→Act→World→Prop) (i:Nat) (a:Act) (w:World):Prop where
 out:wpList P ops Q (ops.toList.drop i) a w
theorem line_pure {v:Value} (hi:ops[i]?=some o) (hw:Region.wanted o (yielded ops a.tmps)=true) (hx:(execOp a.eval o).run P w=.ok (.value v) w)
  (h:Line10 P ops Q (i + 1) (a.put o.dst v) w):Line10 P ops Q i a w:=by
 refine ⟨?_⟩
 rw [drop_nth10 hi]
 refine wpList_step fun K hK=>?_
 rw [if_pos hw]
 unfold Oper.wp
 rw [hx,Oper.upon_value]
 exact hK _ _ h.out
theorem line_off (hi:ops[i]?=some o) (hw:Region.wanted o (yielded ops a.tmps)=false) (h:Line10 P ops Q (i + 1) (a.put o.dst undef) w):Line10 P ops Q i a w:=by
 refine ⟨?_⟩
 rw [drop_nth10 hi]
 exact wpList_skip hw h.out
theorem lineP {v:Value} (hi:nthO ops.toList i=some o) (hx:(execOp a.eval o).run P w=.ok (.value v) w) (h:Line10 P ops Q (i + 1) (a.put o.dst v) w) (hw:Region.wanted o (yielded ops a.tmps)=true:=by kernel_rfl):Line10 P ops Q i a w:=line_pure (at_nth hi) hw hx h
theorem lineO (hi:nthO ops.toList i=some o) (h:Line10 P ops Q (i + 1) (a.put o.dst undef) w) (hw:Region.wanted o (yielded ops a.tmps)=false:=by kernel_rfl):Line10 P ops Q i a w:=line_off (at_nth hi) hw h
theorem line_done (hn:ops.size≤i) (h:Q .normal a w):Line10 P ops Q i a w:=by
 refine ⟨?_⟩
 rw [List.drop_of_length_le (by simpa using hn)]
 exact h
theorem line_start (h:Line10 P ops Q 0 a w):wpList P ops Q ops.toList a w:=h.out
end
theorem exec_load10 {P:Program} {w:World} {o:Oper} {ev:Operand→Value} {ty:TypeId} {x:Operand} {p:Addr} {v:Value} (ho:o.op=.load ty x) (hx:ev x=.pointer (some p)) (hv:(loadVar ty p).run P w=.ok v w):(execOp ev o).run P w=.ok (.value v) w:=by
 simp only [execOp,ho,hx,Instr.loadAt,Instr.sureAddr,Sem.run_bind,Sem.run_pure,Result.andThen_ok,hv]
theorem exec_bin10 {P:Program} {w:World} {o:Oper} {ev:Operand→Value} {op:BinOp} {t t2:TypeId} {x y:Operand} {u v r:Value} (ho:o.op=.binOp op t x y t2) (hx:ev x=u) (hy:ev y=v) (hv:(binOp op t u v).run P w=.ok r w) (hg:(eqGuard op t x y u v).run P w=.ok () w):(execOp ev o).run P w=.ok (.value r) w:=by
 simp [execOp,ho,hx,hy,hv,hg,Result.andThen]
theorem eqE10 (a b:Int) (W:World):(binOp .eql 34 (.int .i64 a) (.int .i64 b)).run Tryz.prog W=.ok (.bool (a == b)) W:=by
 go_simp
theorem neE10 (a b:Int) (W:World):(binOp .neq 34 (.int .i64 a) (.int .i64 b)).run Tryz.prog W=.ok (.bool (a != b)) W:=by
 go_simp
theorem eqI10 (a b:Int) (W:World):(binOp .eql 3 (.int .i64 a) (.int .i64 b)).run Tryz.prog W=.ok (.bool (a == b)) W:=by
 go_simp
theorem neI10 (a b:Int) (W:World):(binOp .neq 3 (.int .i64 a) (.int .i64 b)).run Tryz.prog W=.ok (.bool (a != b)) W:=by
 go_simp
theorem eqE_yes10 (a:Int) (W:World):(binOp .eql 34 (.int .i64 a) (.int .i64 a)).run Tryz.prog W=.ok (.bool true) W:=by rw [eqE10,beq_self_eq_true]
theorem eqE_no10 {a b:Int} (h:a≠b) (W:World):(binOp .eql 34 (.int .i64 a) (.int .i64 b)).run Tryz.prog W=.ok (.bool false) W:=by rw [eqE10,show (a == b)=false by simpa using h]
theorem neE_no10 (a:Int) (W:World):(binOp .neq 34 (.int .i64 a) (.int .i64 a)).run Tryz.prog W=.ok (.bool false) W:=by rw [neE10,bne_self_eq_false]
theorem neE_yes10 {a b:Int} (h:a≠b) (W:World):(binOp .neq 34 (.int .i64 a) (.int .i64 b)).run Tryz.prog W=.ok (.bool true) W:=by rw [neE10,show (a != b)=true by simpa using h]
theorem eqI_yes10 {a b:Int} (h:a=b) (W:World):(binOp .eql 3 (.int .i64 a) (.int .i64 b)).run Tryz.prog W=.ok (.bool true) W:=by rw [h,eqI10,beq_self_eq_true]
theorem neI_no10 {a b:Int} (h:a=b) (W:World):(binOp .neq 3 (.int .i64 a) (.int .i64 b)).run Tryz.prog W=.ok (.bool false) W:=by rw [h,neI10,bne_self_eq_false]
theorem addI10 {a b:Int} (h:-9223372036854775808≤a + b∧a + b≤9223372036854775807) (W:World):(binOp .add 3 (.int .i64 a) (.int .i64 b)).run Tryz.prog W=.ok (.int .i64 (a + b)) W:=by
 have w1:=IntWalk.i64_in (a + b) (by omega)
 go_simp
theorem subI10 {a b:Int} (h:-9223372036854775808≤a - b∧a - b≤9223372036854775807) (W:World):(binOp .sub 3 (.int .i64 a) (.int .i64 b)).run Tryz.prog W=.ok (.int .i64 (a - b)) W:=by
 have w1:=IntWalk.i64_in (a - b) (by omega)
 go_simp
theorem run_row10 {P:Program} {W:World} {o:Oper} {a:Act} {ty:TypeId} {x y:Operand} (ho:o.op=.store ty x y) {g:Nat} {t:TypeId} {old cs:Array Value} (hx:a.eval x=.pointer (some ⟨g,0,none⟩)) (hy:a.eval y=.agg cs) (hg:Is W g t old) (hi:(P.info? ty).map (·.size)=some cs.size)
  (hs:old.size=cs.size) (h1:cs.all (·.oneCell')=true):(execOp a.eval o).run P W=.ok .skip (W.setRow g cs):=by
 simp only [execOp,ho,hx,hy,Instr.storeAt,Instr.sureAddr,Sem.run_bind,Sem.run_pure,Result.andThen_ok,run_storeVar_row W g t ty old cs hg hi hs h1]
end Go.Proofs.YtmggbbmpckcleaaGreat
namespace Go.Proofs.YtmggbbmpckcleaaGreat
open Go.RowKit Go.Shelf
theorem infoThree10 {P:Program} {t:TypeId} {z:Value} {s b:Nat} (h:(P.info? t).map (fun i=>(i.zero,i.size,i.bytes))=some (some z,s,b)):∃ i,P.info? t=some i∧i.zero=some z∧i.size=s∧i.bytes=b:=by
 cases hq:P.info? t with
 | none=>rw [hq] at h;cases h
 | some i =>
  rw [hq] at h
  simp only [Option.map_some,Option.some.injEq,Prod.mk.injEq] at h
  exact ⟨i,rfl,h.1,h.2.1,h.2.2⟩
def nulN10 (n:Nat):ByteArray:=strOfNums (List.replicate n 0)
def nulC10 (n:Nat):Array Value:=(List.replicate n (Value.int .u8 0)).toArray
theorem run_makeN10 (W:World) (n:Nat) (h:n≤2000000) :
  (Instr.makeSlice 93 (.int .i64 (n:Int)) (.int .i64 (n:Int))).run Tryz.prog W=.ok (.slice (some ⟨W.heap.size,0,none⟩) n n) (W.alloc (.cells (nulC10 n) 5)):=by
 obtain ⟨i0,hi,hz0,hz1,hz2⟩:=infoThree10 infoU8x
 have h1:=run_make (P:=Tryz.prog) W 93 5 i0 (.int .u8 0) Tryz.underlying93 hi hz0 .i64 .i64 (n:Int) (n:Int) (by omega) (by omega) (by rw [hz2];omega) (by omega)
 rw [hz1,Int.toNat_natCast,Nat.mul_one] at h1
 have e:madeCells (Value.int .u8 0).cells n=nulC10 n:=by
  apply Array.toList_inj.1
  show (madeCells #[.int .u8 0] n).toList=_
  rw [toList_madeCells_one]
  simp [nulC10]
 rw [e] at h1
 exact h1
theorem run_convN10 {W:World} {g n:Nat} (h:Is W g 5 (nulC10 n)) :
  (convert 93 9 (.slice (some ⟨g,0,none⟩) n n)).run Tryz.prog W=.ok (.string (nulN10 n)) W :=
 run_convert_bytes_arg (P:=Tryz.prog) W 93 5 Tryz.underlying93 Tryz.underlying5 g 0 n n (List.replicate n 0) (by simp) (fun i hi=>by
  rw [Nat.zero_add,h.cell,nulC10]
  simp [hi]) 9 Tryz.underlying9
def emp10 (n:Nat):List ByteArray:=List.replicate n ⟨#[]⟩
def empC10 (n:Nat):Array Value:=(List.replicate n (Value.string ⟨#[]⟩)).toArray
theorem run_makeS10 (W:World) (n:Nat) (h:n≤100000) :
  (Instr.makeSlice 24 (.int .i64 (n:Int)) (.int .i64 (n:Int))).run Tryz.prog W=.ok (.slice (some ⟨W.heap.size,0,none⟩) n n) (W.alloc (.cells (empC10 n) 9)):=by
 obtain ⟨i0,hi,hz0,hz1,hz2⟩:=infoThree10 infoTxt10
 have h1:=run_make (P:=Tryz.prog) W 24 9 i0 (.string ⟨#[]⟩) Tryz.underlying24 hi hz0 .i64 .i64 (n:Int) (n:Int) (by omega) (by omega) (by rw [hz2];omega) (by omega)
 rw [hz1,Int.toNat_natCast,Nat.mul_one] at h1
 have e:madeCells (Value.string ⟨#[]⟩).cells n=empC10 n:=by
  apply Array.toList_inj.1
  show (madeCells #[.string ⟨#[]⟩] n).toList=_
  rw [toList_madeCells_one]
  simp [empC10]
 rw [e] at h1
 exact h1
theorem one_in10 (W:World) (s:ByteArray):InV (W.alloc (.cells #[.string s] 9)) (some ⟨W.heap.size,0,none⟩) (tL10 [s]):=fun j u hj=>by
 have hD:=Is.new W 9 #[.string s]
 refine ⟨W.heap.size,0,rfl,hD.lt,?_⟩
 rw [Nat.zero_add,hD.cell j]
 rw [← hj]
 simp [tL10]
end Go.Proofs.YtmggbbmpckcleaaGreat
