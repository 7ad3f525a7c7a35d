import Derived.Test.YtmggbbmpckcleaaGreatGWi1
import Derived.Test.YtmggbbmpckcleaaGreatGCo3
import Derived.Deep.MidRow
import Derived.Maps.AppendAt
import Derived.Deep.DeepCutAuto
set_option maxRecDepth 100000
set_option maxHeartbeats 16000000
namespace Go.Proofs.YtmggbbmpckcleaaGreat
open Go.RowKit Go.Shelf
def rdr11 (B:ByteArray) (a e:Int):Array Value:=#[.string B,.int .i64 a,.int .i64 e]
def nxN11 (B:ByteArray) (a e:Int):Int × Int × Int:=if e=0 then tnV10 B a else (0,a,e)
def nxL11 (B:ByteArray) (a e:Int):List ByteArray × Int × Int:=if e=0 then tlV10 B a else ([],a,e)
def nxE11 (B:ByteArray) (a e:Int):Int:=if e=0 then endV10 B a else e
theorem setCells_two11 {W:World} {g:Nat} {t:TypeId} {x y z:Value} (h:Is W g t #[x,y,z]) (u v:Value):Is (W.setCells g 0 [u,v]) g t #[u,v,z]:=(h.set 0 u).set 1 v
theorem grown_two11 {W:World} {g:Nat} (u v:Value):W.grownBy (W.setCells g 0 [u,v]) (some g):=(grownSetG W ⟨g,0,none⟩ u).trans (grownSetG _ ⟨g,1,none⟩ v)
theorem there_two11 {W:World} {g:Nat} {t:TypeId} {x y z:Value} (h:Is W g t #[x,y,z]):W.there g 0 2:=fun j hj=>by
 rw [Nat.zero_add,h.cell]
 refine ⟨?_,h.frozen _⟩
 match j,hj with
 | 0,_=>rfl
 | 1,_=>rfl
theorem grown_below11 {W W':World} {g:Nat} (hb:Below W.heap.size W W'):W.grownBy W' (some g):=⟨hb.os,hb.tape,hb.output,hb.size,fun k hk _=>hb.block k hk⟩
theorem World.grownBy_refl11 (w:World) (r:Option Nat):w.grownBy w r:=⟨rfl,rfl,rfl,Nat.le_refl _,fun _ _ _=>rfl⟩
theorem nextN_any11 (g:Nat) (B:ByteArray) (a e:Int) (w:World) (h:Is w g 131 (rdr11 B a e)) :
  Calls Tryz.prog 94 #[.pointer (some ⟨g,0,none⟩),.func (.func 95) #[] #[]] w fun r w'=>r=.returned (.int .i64 (nxN11 B a e).1)∧Is w' g 131 (rdr11 B (nxN11 B a e).2.1 (nxN11 B a e).2.2)∧w.grownBy w' (some g):=by
 have h':Is w g 131 #[.string B,.int .i64 a,.int .i64 e]:=h
 have hlt:=h.lt
 have c2:w.cell? ⟨g,2,none⟩=some (.int .i64 e):=h'.cell 2
 by_cases he:e=0
 ·
  subst he
  have HV:=Lib.hid (show nxN11 B a 0=tnV10 B a from if_pos rfl)
  have C:=Lib.hid (cn_any10 B a)
  simp only [tnR10] at C
  rw [← HV.out] at C
  generalize nxN11 B a 0=V at *
  obtain ⟨x,p,e1⟩:=V
  simp only at C ⊢
  go_enter Tryz.func94,Tryz.ntmps94
  go_wp2_with (refine wpList_load_mid rfl 86 _ rfl g 0 rfl [.string B,.int .i64 a] _ (World.rangeAt_of_block h' 0 2) Tryz.underlying86 rfl infoCur10 ?_)
  refine (C.out _).mono ?_
  rintro r w1 ⟨rfl,hb⟩
  have h1:=h'.below hb h'.lt
  have hg1:w.grownBy w1 (some g):=grown_below11 hb
  have h2:Is (w1.setCells g 0 [.string B,.int .i64 p]) g 131 #[.string B,.int .i64 p,.int .i64 0]:=setCells_two11 h1 _ _
  have k2:(w1.setCells g 0 [.string B,.int .i64 p]).cell? ⟨g,2,none⟩=some (.int .i64 0):=h2.cell 2
  have f2:=h2.frozen 2
  have hg2:=(hg1.trans (grown_two11 (.string B) (.int .i64 p))).trans (grownSetG (w1.setCells g 0 [.string B,.int .i64 p]) ⟨g,2,none⟩ (.int .i64 e1))
  have h3:Is ((w1.setCells g 0 [.string B,.int .i64 p]).setCell ⟨g,2,none⟩ (.int .i64 e1)) g 131 (rdr11 B p e1):=h2.set 2 _
  clear c2 hb hg1
  go_wp2_with (refine wpList_store_mid (by kernel_rfl) 86 _ _ rfl g 0 rfl (cells:=#[.string B,.int .i64 p]) rfl (there_two11 h1) infoCur10 (by kernel_rfl) ?_)
  go_ret
  exact ⟨rfl,h3,hg2⟩
 ·
  have HV:=Lib.hid (show nxN11 B a e=((0:Int),a,e) from if_neg he)
  go_enter Tryz.func94,Tryz.ntmps94
  go_wp2
  go_ret
  rw [HV.out]
  exact ⟨rfl,h,World.grownBy_refl11 _ _⟩
theorem nextL_any11 (g:Nat) (B:ByteArray) (a e:Int) (w:World) (h:Is w g 131 (rdr11 B a e)) :
  Calls Tryz.prog 96 #[.pointer (some ⟨g,0,none⟩),.func (.func 97) #[] #[]] w fun r w'=>∃ A' c',r=.returned (.slice A' (nxL11 B a e).1.length c')∧Lst10 w.heap.size w' A' (nxL11 B a e).1∧Is w' g 131 (rdr11 B (nxL11 B a e).2.1 (nxL11 B a e).2.2)∧w.grownBy w' (some g):=by
 have h':Is w g 131 #[.string B,.int .i64 a,.int .i64 e]:=h
 have hlt:=h.lt
 have c2:w.cell? ⟨g,2,none⟩=some (.int .i64 e):=h'.cell 2
 by_cases he:e=0
 ·
  subst he
  have HV:=Lib.hid (show nxL11 B a 0=tlV10 B a from if_pos rfl)
  have C:=Lib.hid (cl_any10 B a)
  simp only [tlR10] at C
  rw [← HV.out] at C
  generalize nxL11 B a 0=V at *
  obtain ⟨x,p,e1⟩:=V
  simp only at C ⊢
  go_enter Tryz.func96,Tryz.ntmps96
  go_wp2_with (refine wpList_load_mid rfl 86 _ rfl g 0 rfl [.string B,.int .i64 a] _ (World.rangeAt_of_block h' 0 2) Tryz.underlying86 rfl infoCur10 ?_)
  refine (C.out _).mono ?_
  rintro r w1 ⟨A',c',rfl,hL,hb⟩
  have h1:=h'.below hb h'.lt
  have hg1:w.grownBy w1 (some g):=grown_below11 hb
  have h2:Is (w1.setCells g 0 [.string B,.int .i64 p]) g 131 #[.string B,.int .i64 p,.int .i64 0]:=setCells_two11 h1 _ _
  have k2:(w1.setCells g 0 [.string B,.int .i64 p]).cell? ⟨g,2,none⟩=some (.int .i64 0):=h2.cell 2
  have f2:=h2.frozen 2
  have hg2:=(hg1.trans (grown_two11 (.string B) (.int .i64 p))).trans (grownSetG (w1.setCells g 0 [.string B,.int .i64 p]) ⟨g,2,none⟩ (.int .i64 e1))
  have h3:Is ((w1.setCells g 0 [.string B,.int .i64 p]).setCell ⟨g,2,none⟩ (.int .i64 e1)) g 131 (rdr11 B p e1):=h2.set 2 _
  have hL2:Lst10 w.heap.size ((w1.setCells g 0 [.string B,.int .i64 p]).setCell ⟨g,2,none⟩ (.int .i64 e1)) A' x:=((hL.far (p:=⟨g,0,none⟩) hlt _).far (p:=⟨g,1,none⟩) hlt _).far (p:=⟨g,2,none⟩) hlt _
  clear c2 hb hg1
  go_wp2_with (refine wpList_store_mid (by kernel_rfl) 86 _ _ rfl g 0 rfl (cells:=#[.string B,.int .i64 p]) rfl (there_two11 h1) infoCur10 (by kernel_rfl) ?_)
  go_ret
  exact ⟨A',c',rfl,hL2,h3,hg2⟩
 ·
  have HV:=Lib.hid (show nxL11 B a e=(([]:List ByteArray),a,e) from if_neg he)
  go_enter Tryz.func96,Tryz.ntmps96
  go_wp2
  go_ret
  rw [HV.out]
  exact ⟨none,0,rfl,Lst10.nil _ _,h,World.grownBy_refl11 _ _⟩
theorem rnum_any11 (g:Nat) (B:ByteArray) (a e:Int) (w:World) (h:Is w g 131 (rdr11 B a e)) :
  Calls Tryz.prog 72 #[.pointer (some ⟨g,0,none⟩)] w fun r w'=>r=.returned (.int .i64 (nxN11 B a e).1)∧Is w' g 131 (rdr11 B (nxN11 B a e).2.1 (nxN11 B a e).2.2)∧w.grownBy w' (some g):=by
 have C:=Lib.hid (nextN_any11 g B a e w h)
 generalize nxN11 B a e=V at *
 clear h
 go_enter Tryz.func72,Tryz.ntmps72
 go_wp2_with fail
 refine C.out.mono ?_
 rintro r w1 ⟨rfl,h1,h2⟩
 go_wp2
 go_ret
 exact ⟨rfl,h1,h2⟩
theorem rlist_any11 (g:Nat) (B:ByteArray) (a e:Int) (w:World) (h:Is w g 131 (rdr11 B a e)) :
  Calls Tryz.prog 73 #[.pointer (some ⟨g,0,none⟩)] w fun r w'=>∃ A' c',r=.returned (.slice A' (nxL11 B a e).1.length c')∧Lst10 w.heap.size w' A' (nxL11 B a e).1∧Is w' g 131 (rdr11 B (nxL11 B a e).2.1 (nxL11 B a e).2.2)∧w.grownBy w' (some g):=by
 have C:=Lib.hid (nextL_any11 g B a e w h)
 generalize nxL11 B a e=V at *
 clear h
 go_enter Tryz.func73,Tryz.ntmps73
 go_wp2_with fail
 refine C.out.mono ?_
 rintro r w1 ⟨A',c',rfl,h1,h2,h3⟩
 go_wp2
 go_ret
 exact ⟨A',c',rfl,h1,h2,h3⟩
theorem rend_any11 (g:Nat) (B:ByteArray) (a e:Int) (w:World) (h:Is w g 131 (rdr11 B a e)) :
  Calls Tryz.prog 75 #[.pointer (some ⟨g,0,none⟩)] w fun r w'=>r=.returned (.int .i64 (nxE11 B a e))∧w.grownBy w' (some g):=by
 have h':Is w g 131 #[.string B,.int .i64 a,.int .i64 e]:=h
 have c2:w.cell? ⟨g,2,none⟩=some (.int .i64 e):=h'.cell 2
 by_cases he:e=0
 ·
  subst he
  have HV:=Lib.hid (show nxE11 B a 0=endV10 B a from if_pos rfl)
  have C:=Lib.hid (cend_any10 B a)
  rw [← HV.out] at C
  generalize nxE11 B a 0=V at *
  go_enter Tryz.func75,Tryz.ntmps75
  go_wp2_with (refine wpList_load_mid rfl 86 _ rfl g 0 rfl [.string B,.int .i64 a] _ (World.rangeAt_of_block h' 0 2) Tryz.underlying86 rfl infoCur10 ?_)
  refine (C.out _).mono ?_
  rintro r w1 ⟨rfl,hb⟩
  have h1:=h'.below hb h'.lt
  have hg1:w.grownBy w1 (some g):=grown_below11 hb
  have k2:w1.cell? ⟨g,2,none⟩=some (.int .i64 0):=h1.cell 2
  have f2:=h1.frozen 2
  have hg2:=hg1.trans (grownSetG w1 ⟨g,2,none⟩ (.int .i64 V))
  clear c2 hb hg1
  go_wp2
  go_ret
  exact ⟨rfl,hg2⟩
 ·
  have HV:=Lib.hid (show nxE11 B a e=e from if_neg he)
  go_enter Tryz.func75,Tryz.ntmps75
  go_wp2
  go_ret
  exact ⟨by rw [HV.out];rfl,World.grownBy_refl11 _ _⟩
theorem rof_any11 (s:ByteArray) (w:World) :
  Calls Tryz.prog 71 #[.string s] w fun r w'=>r=.returned (.pointer (some ⟨w.heap.size,0,none⟩))∧Is w' w.heap.size 131 (rdr11 s 0 (if 65536 < s.size then 2 else 0))∧Below w.heap.size w w'∧w.heap.size < w'.heap.size:=by
 have i1:Is (w.alloc (.cells #[.string s,.int .i64 0,.int .i64 0] 131)) w.heap.size 131 #[.string s,.int .i64 0,.int .i64 0]:=Is.new _ _ _
 have hB:Below w.heap.size w (w.alloc (.cells #[.string s,.int .i64 0,.int .i64 0] 131)):=(Below.refl _ _).alloc (Nat.le_refl _) _
 by_cases h:65536 < s.size
 ·
  have h1:(65536:Int) < (s.size:Int):=by omega
  have i2:Is (w.alloc (.cells #[.string s,.int .i64 0,.int .i64 2] 131)) w.heap.size 131 #[.string s,.int .i64 0,.int .i64 2]:=Is.new _ _ _
  have hB2:Below w.heap.size w (w.alloc (.cells #[.string s,.int .i64 0,.int .i64 2] 131)):=(Below.refl _ _).alloc (Nat.le_refl _) _
  rw [if_pos h]
  go_enter Tryz.func71,Tryz.ntmps71
  go_wp2
  go_ret
  exact ⟨rfl,i2,hB2,i2.lt⟩
 ·
  have h1:¬ (65536:Int) < (s.size:Int):=by omega
  rw [if_neg h]
  go_enter Tryz.func71,Tryz.ntmps71
  go_wp2
  go_ret
  exact ⟨rfl,i1,hB,i1.lt⟩
end Go.Proofs.YtmggbbmpckcleaaGreat
namespace Go.Proofs.YtmggbbmpckcleaaGreat
open Go.RowKit Go.Shelf
def whl11 (e:Int) (ok:Bool) (q z:Value):Value:=if e≠0 then .tuple #[z,.int .i64 e] else if ok=true then .tuple #[q,.int .i64 0] else .tuple #[z,.int .i64 13]
theorem wholeQ_any11 (k:Int) (A A2:Option Addr) (c c2:Nat) (L C:List ByteArray) (e:Int) (w:World) (hl:L.length≤9223372036854775807) (hl2:C.length≤9223372036854775807) (hc:InV w A (tL10 L)) (hc2:InV w A2 (tL10 C)) :
  Calls Tryz.prog 74 #[.agg #[.int .i64 k,.slice A L.length c,.slice A2 C.length c2],.int .i64 e,.func (.func 76) #[] #[]] w fun r w'=>r=.returned (whl11 e (right11 ⟨k,L,C⟩) (.agg #[.int .i64 k,.slice A L.length c,.slice A2 C.length c2]) (.agg #[.int .i64 0,.slice none 0 0,.slice none 0 0]))∧Below w.heap.size w w':=by
 obtain ⟨W3,hW3⟩:∃ W3,W3=((w.alloc (.cells #[.int .i64 k,.slice A L.length c,.slice A2 C.length c2] 26)).alloc (.cells #[.int .i64 0,.slice none 0 0,.slice none 0 0] 26)).alloc (.cells #[.int .i64 0,.slice none 0 0,.slice none 0 0] 26):=⟨_,rfl⟩
 have i0:Is W3 w.heap.size 26 #[.int .i64 k,.slice A L.length c,.slice A2 C.length c2]:=by rw [hW3];exact ((Is.new _ _ _).alloc _).alloc _
 have i1:Is W3 (w.heap.size + 1) 26 #[.int .i64 0,.slice none 0 0,.slice none 0 0]:=by rw [hW3];exact Is.alloc (heap_alloc2_new w _ _) _
 have i2:Is W3 (w.heap.size + 1 + 1) 26 #[.int .i64 0,.slice none 0 0,.slice none 0 0]:=by
  rw [hW3]
  have:=Is.new ((w.alloc (.cells #[.int .i64 k,.slice A L.length c,.slice A2 C.length c2] 26)).alloc (.cells #[.int .i64 0,.slice none 0 0,.slice none 0 0] 26)) 26 #[.int .i64 0,.slice none 0 0,.slice none 0 0]
  simpa using this
 have hB:Below w.heap.size w W3:=by rw [hW3];exact (((Below.refl _ _).alloc (Nat.le_refl _) _).alloc (by simp) _).alloc (by simp;omega) _
 have M:=Lib.hid (reqMay_any11 k A A2 c c2 L C W3 hl hl2 (hc.keep hB) (hc2.keep hB))
 have I0:=Lib.hid i0
 have I1:=Lib.hid i1
 have I2:=Lib.hid i2
 have HW:=Lib.hid hW3
 clear i0 i1 i2 hW3 hc hc2
 by_cases he:e=0
 ·
  subst he
  generalize right11 ⟨k,L,C⟩=R at *
  cases R with
  | true =>
   go_enter Tryz.func74,Tryz.ntmps74
   go_wp2_with fail
   rw [← HW.out]
   clear HW
   go_wp2_with (refine wpList_load_row rfl 26 _ rfl w.heap.size rfl _ _ _ _ I0.out Tryz.underlying26 rfl infoReq11 ?_)
   refine M.out.mono ?_
   rintro r w4 ⟨rfl,hb⟩
   have j0:=I0.out.below hb I0.out.lt
   have j1:=I1.out.below hb I1.out.lt
   have hB4:=hB.trans (hb.mono hB.size)
   have hB5:=belowRow hB4 (show w.heap.size≤w.heap.size + 1 by omega) #[.int .i64 k,.slice A L.length c,.slice A2 C.length c2]
   have j5:=j1.row #[.int .i64 k,.slice A L.length c,.slice A2 C.length c2]
   clear hb
   go_upto_region 6 with (fail)
   refine wp_region_list ?_
   refine wpList_load_row rfl 26 _ rfl w.heap.size rfl _ _ _ _ j0 Tryz.underlying26 rfl infoReq11 ?_
   go_wp2_with (first
    | (refine wpList_store_row rfl 26 _ _ rfl (w.heap.size + 1) #[.int .i64 k,.slice A L.length c,.slice A2 C.length c2] rfl rfl _ _ j1 infoReq11 rfl (by rw [← Array.all_toList];rfl) ?_))
   exact bodyPost_ret (results_row_tmp Tryz.results74 _ _ (w.heap.size + 1) 26 #[.int .i64 k,.slice A L.length c,.slice A2 C.length c2] (0,0) _ rfl j5 Tryz.underlying26 rfl infoReq11) rfl ⟨rfl,hB5⟩
  | false =>
   go_enter Tryz.func74,Tryz.ntmps74
   go_wp2_with fail
   rw [← HW.out]
   clear HW
   go_wp2_with (refine wpList_load_row rfl 26 _ rfl w.heap.size rfl _ _ _ _ I0.out Tryz.underlying26 rfl infoReq11 ?_)
   refine M.out.mono ?_
   rintro r w4 ⟨rfl,hb⟩
   have j2:=I2.out.below hb I2.out.lt
   have j1:=I1.out.below hb I1.out.lt
   have hB4:=hB.trans (hb.mono hB.size)
   have hB5:=belowRow hB4 (show w.heap.size≤w.heap.size + 1 by omega) #[.int .i64 0,.slice none 0 0,.slice none 0 0]
   have j5:=j1.row #[.int .i64 0,.slice none 0 0,.slice none 0 0]
   clear hb
   go_upto_region 5 with (fail)
   refine wp_region_list ?_
   refine wpList_load_row rfl 26 _ rfl (w.heap.size + 1 + 1) rfl _ _ _ _ j2 Tryz.underlying26 rfl infoReq11 ?_
   go_wp2_with (first
    | (refine wpList_store_row rfl 26 _ _ rfl (w.heap.size + 1) #[.int .i64 0,.slice none 0 0,.slice none 0 0] rfl rfl _ _ j1 infoReq11 rfl (by rw [← Array.all_toList];rfl) ?_))
   exact bodyPost_ret (results_row_tmp Tryz.results74 _ _ (w.heap.size + 1) 26 #[.int .i64 0,.slice none 0 0,.slice none 0 0] (0,0) _ rfl j5 Tryz.underlying26 rfl infoReq11) rfl ⟨rfl,hB5⟩
 ·
  have HE:=Lib.hid (show whl11 e (right11 ⟨k,L,C⟩) (.agg #[.int .i64 k,.slice A L.length c,.slice A2 C.length c2]) (.agg #[.int .i64 0,.slice none 0 0,.slice none 0 0])=.tuple #[.agg #[.int .i64 0,.slice none 0 0,.slice none 0 0],.int .i64 e] from if_pos he)
  generalize whl11 e (right11 ⟨k,L,C⟩) (.agg #[.int .i64 k,.slice A L.length c,.slice A2 C.length c2]) (.agg #[.int .i64 0,.slice none 0 0,.slice none 0 0])=V at *
  have hB5:=hB
  have j5:=I1.out
  go_enter Tryz.func74,Tryz.ntmps74
  go_wp2_with fail
  rw [← HW.out]
  clear HW
  go_wp2_with (first
   | (refine wpList_load_row rfl 26 _ rfl (w.heap.size + 1 + 1) rfl _ _ _ _ I2.out Tryz.underlying26 rfl infoReq11 ?_)
   | (refine wpList_store_row rfl 26 _ _ rfl (w.heap.size + 1) #[.int .i64 0,.slice none 0 0,.slice none 0 0] rfl rfl _ _ I1.out infoReq11 rfl (by rw [← Array.all_toList];rfl) ?_))
  exact bodyPost_ret (results_row_tmp Tryz.results74 _ _ (w.heap.size + 1) 26 #[.int .i64 0,.slice none 0 0,.slice none 0 0] (0,0) _ rfl j5 Tryz.underlying26 rfl infoReq11) rfl ⟨by rw [HE.out];rfl,hB5⟩
end Go.Proofs.YtmggbbmpckcleaaGreat
namespace Go.Proofs.YtmggbbmpckcleaaGreat
open Go.RowKit Go.Shelf
theorem tl_len11 (B:ByteArray) (a:Int):(tlV10 B a).1.length≤1000:=by
 by_cases h:(tlV10 B a).2.2=0
 · exact (tl_ok10 h).few
 · rw [tl_keep10 h];exact Nat.zero_le _
theorem nxL_len11 (B:ByteArray) (a e:Int):(nxL11 B a e).1.length≤1000:=by
 rw [nxL11]
 split
 · exact tl_len11 B a
 · exact Nat.zero_le _
theorem end_form11 {s:ByteArray} {a:Int} (h:rightV s a=true):endV10 s a=0∨endV10 s a=13:=by
 rw [endV10,if_pos h]
 split
 · exact .inr rfl
 · exact .inl rfl
theorem end_tl11 {s:ByteArray} {a:Int} (h:(tlV10 s a).2.2=0):endV10 s (tlV10 s a).2.1=0∨endV10 s (tlV10 s a).2.1=13:=by
 have hL:=tl_ok10 h
 have:=hL.ahead
 have h2:=hL.right
 exact end_form11 (rightV_iff.2 ⟨h2.1,by omega,h2.2.2⟩)
theorem dec_prog11 (s:ByteArray) :
  decV11 s=if nxE11 s (nxL11 s (nxL11 s (nxN11 s 0 (if 65536 < s.size then 2 else 0)).2.1 (nxN11 s 0 (if 65536 < s.size then 2 else 0)).2.2).2.1 (nxL11 s (nxN11 s 0 (if 65536 < s.size then 2 else 0)).2.1 (nxN11 s 0 (if 65536 < s.size then 2 else 0)).2.2).2.2).2.1 (nxL11 s (nxL11 s (nxN11 s 0 (if 65536 < s.size then 2 else 0)).2.1 (nxN11 s 0 (if 65536 < s.size then 2 else 0)).2.2).2.1 (nxL11 s (nxN11 s 0 (if 65536 < s.size then 2 else 0)).2.1 (nxN11 s 0 (if 65536 < s.size then 2 else 0)).2.2).2.2).2.2≠0
   then (zreq11,nxE11 s (nxL11 s (nxL11 s (nxN11 s 0 (if 65536 < s.size then 2 else 0)).2.1 (nxN11 s 0 (if 65536 < s.size then 2 else 0)).2.2).2.1 (nxL11 s (nxN11 s 0 (if 65536 < s.size then 2 else 0)).2.1 (nxN11 s 0 (if 65536 < s.size then 2 else 0)).2.2).2.2).2.1 (nxL11 s (nxL11 s (nxN11 s 0 (if 65536 < s.size then 2 else 0)).2.1 (nxN11 s 0 (if 65536 < s.size then 2 else 0)).2.2).2.1 (nxL11 s (nxN11 s 0 (if 65536 < s.size then 2 else 0)).2.1 (nxN11 s 0 (if 65536 < s.size then 2 else 0)).2.2).2.2).2.2)
   else if right11 ⟨(nxN11 s 0 (if 65536 < s.size then 2 else 0)).1,(nxL11 s (nxN11 s 0 (if 65536 < s.size then 2 else 0)).2.1 (nxN11 s 0 (if 65536 < s.size then 2 else 0)).2.2).1,(nxL11 s (nxL11 s (nxN11 s 0 (if 65536 < s.size then 2 else 0)).2.1 (nxN11 s 0 (if 65536 < s.size then 2 else 0)).2.2).2.1 (nxL11 s (nxN11 s 0 (if 65536 < s.size then 2 else 0)).2.1 (nxN11 s 0 (if 65536 < s.size then 2 else 0)).2.2).2.2).1⟩=true
   then (⟨(nxN11 s 0 (if 65536 < s.size then 2 else 0)).1,(nxL11 s (nxN11 s 0 (if 65536 < s.size then 2 else 0)).2.1 (nxN11 s 0 (if 65536 < s.size then 2 else 0)).2.2).1,(nxL11 s (nxL11 s (nxN11 s 0 (if 65536 < s.size then 2 else 0)).2.1 (nxN11 s 0 (if 65536 < s.size then 2 else 0)).2.2).2.1 (nxL11 s (nxN11 s 0 (if 65536 < s.size then 2 else 0)).2.1 (nxN11 s 0 (if 65536 < s.size then 2 else 0)).2.2).2.2).1⟩,0) else (zreq11,13):=by
 have err:∀ {B:ByteArray} {a e:Int},e≠0→nxL11 B a e=([],a,e):=fun h=>if_neg h
 have errE:∀ {B:ByteArray} {a e:Int},e≠0→nxE11 B a e=e:=fun h=>if_neg h
 have okL:∀ {B:ByteArray} {a e:Int},e=0→nxL11 B a e=tlV10 B a:=fun h=>if_pos h
 have okE:∀ {B:ByteArray} {a e:Int},e=0→nxE11 B a e=endV10 B a:=fun h=>if_pos h
 rw [decV11]
 by_cases h0:65536 < s.size
 ·
  rw [if_pos h0,if_pos h0]
  rw [show nxN11 s 0 2=(0,0,2) from if_neg (by decide)]
  rw [err (show ((0:Int),(0:Int),(2:Int)).2.2≠0 by decide),err (show (([]:List ByteArray),(0:Int),(2:Int)).2.2≠0 by decide),errE (show (([]:List ByteArray),(0:Int),(2:Int)).2.2≠0 by decide),if_pos (by decide)]
 ·
  rw [if_neg h0,if_neg h0,show nxN11 s 0 0=tnV10 s 0 from if_pos rfl]
  by_cases h1:(tnV10 s 0).2.2=0
  ·
   rw [if_neg (by omega),okL h1]
   by_cases h2:(tlV10 s (tnV10 s 0).2.1).2.2=0
   ·
    rw [if_neg (by omega),okL h2]
    by_cases h3:(tlV10 s (tlV10 s (tnV10 s 0).2.1).2.1).2.2=0
    ·
     rw [if_neg (by omega),okE h3]
     rcases end_tl11 h3 with h4 | h4
     ·
      rw [h4,if_neg (show ¬ (0:Int)≠0 by decide)]
      cases hr:right11 ⟨(tnV10 s 0).1,(tlV10 s (tnV10 s 0).2.1).1,(tlV10 s (tlV10 s (tnV10 s 0).2.1).2.1).1⟩ with
      | true=>rw [if_neg (by simp),if_pos rfl]
      | false=>rw [if_pos (.inr rfl),if_neg (by decide)]
     · rw [h4,if_pos (.inl (by decide)),if_pos (by decide)]
    · rw [if_pos h3,errE h3,if_pos h3]
   · rw [if_pos h2,err h2,errE h2,if_pos h2]
  ·
   rw [if_pos h1,err h1]
   rw [err (show (([]:List ByteArray),(tnV10 s 0).2.1,(tnV10 s 0).2.2).2.2≠0 from h1),errE (show (([]:List ByteArray),(tnV10 s 0).2.1,(tnV10 s 0).2.2).2.2≠0 from h1),if_pos h1]
end Go.Proofs.YtmggbbmpckcleaaGreat
namespace Go.Proofs.YtmggbbmpckcleaaGreat
open Go.RowKit Go.Shelf
theorem Is.grown11 {W W':World} {g g':Nat} {t:TypeId} {cs:Array Value} (h:Is W g' t cs) (hg:W.grownBy W' (some g)) (hne:g'≠g):Is W' g' t cs:=(hg.block g' h.lt (fun e=>hne (Option.some.inj e))).trans h
theorem Lst10.grown11 {n g:Nat} {W W':World} {A:Option Addr} {l:List ByteArray} (h:Lst10 n W A l) (hg:W.grownBy W' (some g)) (hgn:g < n):Lst10 n W' A l :=
 ⟨h.at'.apart10 hg (fun q e e2=>by have h1:=h.own q e;have h2:=Option.some.inj e2;omega),h.own⟩
theorem dec11_reg (w W0:World) (D0 DQ g n:Nat) (RR:Array Value) (hqg:DQ≠g) (h0g:D0≠g) (hq0:DQ≠D0) (hgn:g < n) (h0n:D0 < n) (hHg:w.heap.size≤g) (hH0:w.heap.size≤D0) (k:Int) (AL AC:Option Addr) (cL cC:Nat) (L C:List ByteArray) (y0:Int) (B1 B2:Option Addr) (m1 m2 d1 d2:Nat) (e4 e5:Int)
  (N1:Hid (∀ W,Is W g 131 RR→Calls Tryz.prog 75 #[.pointer (some ⟨g,0,none⟩)] W fun r w'=>r=.returned (.int .i64 e4)∧W.grownBy w' (some g)))
  (N2:Hid (∀ W,InV W AL (tL10 L)→InV W AC (tL10 C)→Calls Tryz.prog 74 #[.agg #[.int .i64 k,.slice AL L.length cL,.slice AC C.length cC],.int .i64 e4,.func (.func 76) #[] #[]] W fun r w'=>r=.returned (.tuple #[.agg #[.int .i64 y0,.slice B1 m1 d1,.slice B2 m2 d2],.int .i64 e5])∧Below W.heap.size W w'))
  (hB:Below w.heap.size w W0) (iq:Is W0 DQ 26 #[.int .i64 k,.slice AL L.length cL,.slice AC C.length cC]) (i0:Is W0 D0 26 #[.int .i64 0,.slice none 0 0,.slice none 0 0]) (ir:Is W0 g 131 RR) (hL:Lst10 n W0 AL L) (hC:Lst10 n W0 AC C) (x0 x1 x3 x6 x7 x8 x9 Xa Xb Xc Xd Xe Xf Xg Xh Xi Xj Xk Xl Xm:Value) :
  (Code.region 6 (opsOf Tryz.f43 6) true).wp Tryz.prog (fun ex YY W=>ex=.normal∧YY.defers=[]∧∃ (_:Unit),YY.tmps=#[x0,x1,.pointer (some ⟨D0,0,none⟩),.int .i64 e5,.pointer (some ⟨DQ,0,none⟩),.pointer (some ⟨g,0,none⟩),x6,x7,x8,x9,Xa,Xb,Xc,Xd,Xe,Xf,Xg,.agg #[.int .i64 k,.slice AL L.length cL,.slice AC C.length cC],.pointer (some ⟨g,0,none⟩),.int .i64 e4,.tuple #[.agg #[.int .i64 y0,.slice B1 m1 d1,.slice B2 m2 d2],.int .i64 e5],.agg #[.int .i64 y0,.slice B1 m1 d1,.slice B2 m2 d2],.int .i64 e5]∧Below w.heap.size w W∧Is W DQ 26 #[.int .i64 k,.slice AL L.length cL,.slice AC C.length cC]∧Is W D0 26 #[.int .i64 y0,.slice B1 m1 d1,.slice B2 m2 d2]∧Lst10 n W AL L∧Lst10 n W AC C) { tmps:=#[x0,x1,.pointer (some ⟨D0,0,none⟩),x3,.pointer (some ⟨DQ,0,none⟩),.pointer (some ⟨g,0,none⟩),x6,x7,x8,x9,Xa,Xb,Xc,Xd,Xe,Xf,Xg,Xh,Xi,Xj,Xk,Xl,Xm],defers:=[] } W0:=by
 replace hB:Below w.heap.size w (W0.drewN 1):=belowN hB 1
 replace iq:=iq.drewN 1
 replace i0:=i0.drewN 1
 replace ir:=ir.drewN 1
 replace hL:=hL.drewN 1
 replace hC:=hC.drewN 1
 generalize hQ:(fun (ex:Exit) (YY:Act) (W:World)=>ex=.normal∧YY.defers=[]∧∃ (_:Unit),YY.tmps=#[x0,x1,.pointer (some ⟨D0,0,none⟩),.int .i64 e5,.pointer (some ⟨DQ,0,none⟩),.pointer (some ⟨g,0,none⟩),x6,x7,x8,x9,Xa,Xb,Xc,Xd,Xe,Xf,Xg,.agg #[.int .i64 k,.slice AL L.length cL,.slice AC C.length cC],.pointer (some ⟨g,0,none⟩),.int .i64 e4,.tuple #[.agg #[.int .i64 y0,.slice B1 m1 d1,.slice B2 m2 d2],.int .i64 e5],.agg #[.int .i64 y0,.slice B1 m1 d1,.slice B2 m2 d2],.int .i64 e5]∧Below w.heap.size w W∧Is W DQ 26 #[.int .i64 k,.slice AL L.length cL,.slice AC C.length cC]∧Is W D0 26 #[.int .i64 y0,.slice B1 m1 d1,.slice B2 m2 d2]∧Lst10 n W AL L∧Lst10 n W AC C)=Q
 have HQN:∀ c a W,¬ Q (.panic c) a W:=fun c a W h=>by subst hQ;exact nomatch h.1
 have ST2_3_6:∀ (W:World),Below w.heap.size w W→Is W DQ 26 #[.int .i64 k,.slice AL L.length cL,.slice AC C.length cC]→Is W D0 26 #[.int .i64 y0,.slice B1 m1 d1,.slice B2 m2 d2]→Lst10 n W AL L→Lst10 n W AC C→wpAnyH Tryz.prog .any (opsOf Tryz.f43 6) Q (fun W=>Is W DQ 26 #[.int .i64 k,.slice AL L.length cL,.slice AC C.length cC]) 0 #[true,true,true,true,true,true,true,true] { tmps:=#[x0,x1,.pointer (some ⟨D0,0,none⟩),.int .i64 e5,.pointer (some ⟨DQ,0,none⟩),.pointer (some ⟨g,0,none⟩),x6,x7,x8,x9,Xa,Xb,Xc,Xd,Xe,Xf,Xg,.agg #[.int .i64 k,.slice AL L.length cL,.slice AC C.length cC],.pointer (some ⟨g,0,none⟩),.int .i64 e4,.tuple #[.agg #[.int .i64 y0,.slice B1 m1 d1,.slice B2 m2 d2],.int .i64 e5],.agg #[.int .i64 y0,.slice B1 m1 d1,.slice B2 m2 d2],.int .i64 e5],defers:=[] } W:=by
  intro W hB iq i1 hL hC
  refine wpAnyH_done (by kernel_rfl) ?_ _
  subst hQ
  exact ⟨rfl,rfl,(),rfl,hB,iq,i1,hL,hC⟩
 have ST2_3:∀ (W:World),Below w.heap.size w W→Is W DQ 26 #[.int .i64 k,.slice AL L.length cL,.slice AC C.length cC]→Is W D0 26 #[.int .i64 0,.slice none 0 0,.slice none 0 0]→Lst10 n W AL L→Lst10 n W AC C→wpAnyH Tryz.prog .any (opsOf Tryz.f43 6) Q (fun W=>Is W DQ 26 #[.int .i64 k,.slice AL L.length cL,.slice AC C.length cC]) 2 #[true,true,true,true,true,true,false,false] { tmps:=#[x0,x1,.pointer (some ⟨D0,0,none⟩),x3,.pointer (some ⟨DQ,0,none⟩),.pointer (some ⟨g,0,none⟩),x6,x7,x8,x9,Xa,Xb,Xc,Xd,Xe,Xf,Xg,.agg #[.int .i64 k,.slice AL L.length cL,.slice AC C.length cC],.pointer (some ⟨g,0,none⟩),.int .i64 e4,.tuple #[.agg #[.int .i64 y0,.slice B1 m1 d1,.slice B2 m2 d2],.int .i64 e5],.agg #[.int .i64 y0,.slice B1 m1 d1,.slice B2 m2 d2],.int .i64 e5],defers:=[] } W:=by
  intro W hB iq i0 hL hC
  refine wpAnyH_ready (by kernel_rfl) (by simp) (AllReadyH.cons (i:=6) (at_nth rfl) ?_ (AllReadyH.nil))
  ·
   have i1:=i0.row #[.int .i64 y0,.slice B1 m1 d1,.slice B2 m2 d2]
   replace iq:=iq.rowFar hq0 #[.int .i64 y0,.slice B1 m1 d1,.slice B2 m2 d2]
   replace hL:=hL.grown11 (grownRowG W D0 #[.int .i64 y0,.slice B1 m1 d1,.slice B2 m2 d2]) h0n
   replace hC:=hC.grown11 (grownRowG W D0 #[.int .i64 y0,.slice B1 m1 d1,.slice B2 m2 d2]) h0n
   have kB:=belowRow hB hH0 #[.int .i64 y0,.slice B1 m1 d1,.slice B2 m2 d2]
   refine arm10_skip (by kernel_rfl) (run_row10 (ty:=26) (x:=.tmp 2) (y:=.tmp 21) (cs:=#[.int .i64 y0,.slice B1 m1 d1,.slice B2 m2 d2]) (by kernel_rfl) (by kernel_rfl) (by kernel_rfl) i0 infoReq11 rfl (by rw [← Array.all_toList];rfl)) iq ?_
   try simp only [Act.put]
   replace hB:=kB
   refine wpP (i:=7) (v:=.int .i64 e5) HQN rfl (fun w hSw=>by kernel_rfl) iq ?_
   simp only [Act.put,zz0,zz1,zz2]
   exact ST2_3_6 _ hB iq i1 hL hC
 have ST2:∀ (W:World),Below w.heap.size w W→Is W DQ 26 #[.int .i64 k,.slice AL L.length cL,.slice AC C.length cC]→Is W D0 26 #[.int .i64 0,.slice none 0 0,.slice none 0 0]→Lst10 n W AL L→Lst10 n W AC C→wpAnyH Tryz.prog .any (opsOf Tryz.f43 6) Q (fun W=>Is W DQ 26 #[.int .i64 k,.slice AL L.length cL,.slice AC C.length cC]) 5 #[true,true,true,false,false,false,false,false] { tmps:=#[x0,x1,.pointer (some ⟨D0,0,none⟩),x3,.pointer (some ⟨DQ,0,none⟩),.pointer (some ⟨g,0,none⟩),x6,x7,x8,x9,Xa,Xb,Xc,Xd,Xe,Xf,Xg,.agg #[.int .i64 k,.slice AL L.length cL,.slice AC C.length cC],.pointer (some ⟨g,0,none⟩),.int .i64 e4,Xk,Xl,Xm],defers:=[] } W:=by
  intro W hB iq i0 hL hC
  refine wpAnyH_ready (by kernel_rfl) (by simp) (AllReadyH.cons (i:=3) (at_nth rfl) ?_ (AllReadyH.nil))
  ·
   refine arm10_call (by kernel_rfl) (fun wy=>by kernel_rfl) ((N2.out _ hL.at' hC.at').mono ?_)
   rintro ex Wn ⟨rfl,hb⟩
   replace iq:=iq.below hb iq.lt
   replace i0:=i0.below hb i0.lt
   replace hL:=hL.below hb
   replace hC:=hC.below hb
   replace hB:=hB.trans (hb.mono hB.size)
   clear hb
   refine ⟨_,rfl,iq,?_⟩
   simp only [Act.put,zz0,zz1,zz2]
   refine wpP (i:=4) (v:=.agg #[.int .i64 y0,.slice B1 m1 d1,.slice B2 m2 d2]) HQN rfl (fun w hSw=>by kernel_rfl) iq ?_
   simp only [Act.put,zz0,zz1,zz2]
   refine wpP (i:=5) (v:=.int .i64 e5) HQN rfl (fun w hSw=>by kernel_rfl) iq ?_
   simp only [Act.put,zz0,zz1,zz2]
   exact ST2_3 _ hB iq i0 hL hC
 have ST:∀ (W:World),Below w.heap.size w W→Is W DQ 26 #[.int .i64 k,.slice AL L.length cL,.slice AC C.length cC]→Is W D0 26 #[.int .i64 0,.slice none 0 0,.slice none 0 0]→Is W g 131 RR→Lst10 n W AL L→Lst10 n W AC C→wpAnyH Tryz.prog .any (opsOf Tryz.f43 6) Q (fun W=>Is W DQ 26 #[.int .i64 k,.slice AL L.length cL,.slice AC C.length cC]) 6 #[true,true,false,false,false,false,false,false] { tmps:=#[x0,x1,.pointer (some ⟨D0,0,none⟩),x3,.pointer (some ⟨DQ,0,none⟩),.pointer (some ⟨g,0,none⟩),x6,x7,x8,x9,Xa,Xb,Xc,Xd,Xe,Xf,Xg,.agg #[.int .i64 k,.slice AL L.length cL,.slice AC C.length cC],.pointer (some ⟨g,0,none⟩),Xj,Xk,Xl,Xm],defers:=[] } W:=by
  intro W hB iq i0 ir hL hC
  refine wpAnyH_ready (by kernel_rfl) (by simp) (AllReadyH.cons (i:=2) (at_nth rfl) ?_ (AllReadyH.nil))
  ·
   refine arm10_call (by kernel_rfl) (fun wy=>by kernel_rfl) ((N1.out _ ir).mono ?_)
   rintro ex Wn ⟨rfl,hg⟩
   replace iq:=iq.grown11 hg hqg
   replace i0:=i0.grown11 hg h0g
   replace hL:=hL.grown11 hg hgn
   replace hC:=hC.grown11 hg hgn
   replace hB:=hB.grown hg hB.size (fun j hj=>by cases hj;exact hHg)
   clear hg ir
   refine ⟨_,rfl,iq,?_⟩
   simp only [Act.put,zz0,zz1,zz2]
   exact ST2 _ hB iq i0 hL hC
 refine wp_region_held_drew (S:=fun W=>Is W DQ 26 #[.int .i64 k,.slice AL L.length cL,.slice AC C.length cC]) (by kernel_rfl) iq (fun hS=>?_)
 change wpAnyH _ _ (opsOf Tryz.f43 6) _ _ 8 (Array.replicate 8 false) _ (W0.drewN 1)
 clear hS
 refine wpP (i:=0) (v:=.agg #[.int .i64 k,.slice AL L.length cL,.slice AC C.length cC]) HQN rfl (fun w hSw=>by exact exec_load10 rfl rfl (run_loadVar_row _ _ 26 26 _ (0,0) _ hSw Tryz.underlying26 rfl infoReq11)) iq ?_
 simp only [Act.put,zz0,zz1,zz2]
 refine wpP (i:=1) (v:=.pointer (some ⟨g,0,none⟩)) HQN rfl (fun w hSw=>by kernel_rfl) iq ?_
 simp only [Act.put,zz0,zz1,zz2]
 exact ST _ hB iq i0 ir hL hC
theorem wdec_any11 (s:ByteArray) (w:World) :
  Calls Tryz.prog 43 #[.string s] w fun r w'=>∃ B1 d1 B2 d2,r=.returned (.tuple #[.agg #[.int .i64 (decV11 s).1.k,.slice B1 (decV11 s).1.L.length d1,.slice B2 (decV11 s).1.C.length d2],.int .i64 (decV11 s).2])∧InV w' B1 (tL10 (decV11 s).1.L)∧InV w' B2 (tL10 (decV11 s).1.C)∧Below w.heap.size w w':=by
 have HD:=Lib.hid (dec_prog11 s)
 generalize decV11 s=D at *
 have C1:=Lib.hid (fun W h=>rnum_any11 (w.heap.size + 1 + 1) s 0 (if 65536 < s.size then 2 else 0) W h)
 generalize nxN11 s 0 (if 65536 < s.size then 2 else 0)=N at *
 have hl1:=nxL_len11 s N.2.1 N.2.2
 have C2:=Lib.hid (fun W h=>rlist_any11 (w.heap.size + 1 + 1) s N.2.1 N.2.2 W h)
 generalize nxL11 s N.2.1 N.2.2=LL at *
 have hl2:=nxL_len11 s LL.2.1 LL.2.2
 have C3:=Lib.hid (fun W h=>rlist_any11 (w.heap.size + 1 + 1) s LL.2.1 LL.2.2 W h)
 generalize nxL11 s LL.2.1 LL.2.2=CC at *
 have C4:=Lib.hid (fun W h=>rend_any11 (w.heap.size + 1 + 1) s CC.2.1 CC.2.2 W h)
 generalize nxE11 s CC.2.1 CC.2.2=e4 at *
 obtain ⟨k,a1,e1⟩:=N
 obtain ⟨L,a2,e2⟩:=LL
 obtain ⟨C,a3,e3⟩:=CC
 simp only at *
 obtain ⟨W1,hW1⟩:∃ W1,W1=(w.alloc (.cells #[.int .i64 0,.slice none 0 0,.slice none 0 0] 26)).alloc (.cells #[.int .i64 0,.slice none 0 0,.slice none 0 0] 26):=⟨_,rfl⟩
 have i0:Is W1 w.heap.size 26 #[.int .i64 0,.slice none 0 0,.slice none 0 0]:=by rw [hW1];exact heap_alloc2_old w _ _
 have iq:Is W1 (w.heap.size + 1) 26 #[.int .i64 0,.slice none 0 0,.slice none 0 0]:=by rw [hW1];exact heap_alloc2_new w _ _
 have hz1:W1.heap.size=w.heap.size + 1 + 1:=by rw [hW1];simp
 have hB:Below w.heap.size w W1:=by rw [hW1];exact ((Below.refl _ _).alloc (Nat.le_refl _) _).alloc (by simp) _
 have C0:=Lib.hid (rof_any11 s W1)
 rw [hz1] at C0
 go_enter Tryz.func43,Tryz.ntmps43
 go_wp2_with fail
 rw [← hW1]
 clear hW1
 refine C0.out.mono ?_
 rintro r0 W2 ⟨rfl,ir,hb,hlt⟩
 have i0:=i0.below hb (by omega)
 have iq:=iq.below hb (by omega)
 have hB:=hB.trans (hb.mono (by omega))
 clear hb C0
 go_wp2_with fail
 refine (C1.out _ ir).mono ?_
 rintro r0 V0 ⟨rfl,ir,hg⟩
 have i0:=i0.grown11 hg (by omega)
 have iq:=iq.grown11 hg (by omega)
 have hB:=hB.grown hg hB.size (fun j hj=>by cases hj;omega)
 have hlt:w.heap.size + 1 + 1 + 1≤V0.heap.size:=Nat.le_trans hlt hg.size
 have fz:=iq.frozen 0
 have cz:=iq.cell 0
 have iq2:=iq.set 0 (.int .i64 k)
 have i02:=i0.far (p:=⟨w.heap.size + 1,0,none⟩) (show w.heap.size≠w.heap.size + 1 by omega) (.int .i64 k)
 have ir2:=ir.far (p:=⟨w.heap.size + 1,0,none⟩) (show w.heap.size + 1 + 1≠w.heap.size + 1 by omega) (.int .i64 k)
 have hB2:=hB.setCell (p:=⟨w.heap.size + 1,0,none⟩) (show w.heap.size≤w.heap.size + 1 by omega) (.int .i64 k)
 have hlt2:w.heap.size + 1 + 1 + 1≤(V0.setCell ⟨w.heap.size + 1,0,none⟩ (.int .i64 k)).heap.size:=by simpa [World.setCell] using hlt
 clear iq i0 ir hB hg hlt 
 go_wp2_with fail
 generalize V0.setCell ⟨w.heap.size + 1,0,none⟩ (.int .i64 k)=X0 at *
 have i0:=i02
 have iq:=iq2
 have ir:=ir2
 have hB:=hB2
 have hlt:=hlt2
 clear i02 iq2 ir2 hB2 hlt2 fz cz 
 try simp only [List.setIfInBounds_toArray,List.set_cons_zero] at iq
 refine (C2.out _ ir).mono ?_
 rintro r0 V1 ⟨AL,cL,rfl,hL,ir,hg⟩
 have i0:=i0.grown11 hg (by omega)
 have iq:=iq.grown11 hg (by omega)
 have hB:=hB.grown hg hB.size (fun j hj=>by cases hj;omega)
 have hL:=hL.mono (show w.heap.size + 1 + 1 + 1≤_ from hlt)
 have hlt:w.heap.size + 1 + 1 + 1≤V1.heap.size:=Nat.le_trans hlt hg.size
 have fz:=iq.frozen 1
 have cz:=iq.cell 1
 have iq2:=iq.set 1 (.slice AL L.length cL)
 have i02:=i0.far (p:=⟨w.heap.size + 1,1,none⟩) (show w.heap.size≠w.heap.size + 1 by omega) (.slice AL L.length cL)
 have ir2:=ir.far (p:=⟨w.heap.size + 1,1,none⟩) (show w.heap.size + 1 + 1≠w.heap.size + 1 by omega) (.slice AL L.length cL)
 have hB2:=hB.setCell (p:=⟨w.heap.size + 1,1,none⟩) (show w.heap.size≤w.heap.size + 1 by omega) (.slice AL L.length cL)
 have hL2:=hL.far (p:=⟨w.heap.size + 1,1,none⟩) (show w.heap.size + 1 < w.heap.size + 1 + 1 + 1 by omega) (.slice AL L.length cL)
 have hlt2:w.heap.size + 1 + 1 + 1≤(V1.setCell ⟨w.heap.size + 1,1,none⟩ (.slice AL L.length cL)).heap.size:=by simpa [World.setCell] using hlt
 clear iq i0 ir hB hg hlt hL
 go_wp2_with fail
 generalize V1.setCell ⟨w.heap.size + 1,1,none⟩ (.slice AL L.length cL)=X1 at *
 have i0:=i02
 have iq:=iq2
 have ir:=ir2
 have hB:=hB2
 have hlt:=hlt2
 have hL:=hL2
 clear i02 iq2 ir2 hB2 hlt2 fz cz hL2
 try simp only [List.setIfInBounds_toArray,List.set_cons_succ,List.set_cons_zero] at iq
 refine (C3.out _ ir).mono ?_
 rintro r0 V2 ⟨AC,cC,rfl,hC,ir,hg⟩
 have i0:=i0.grown11 hg (by omega)
 have iq:=iq.grown11 hg (by omega)
 have hB:=hB.grown hg hB.size (fun j hj=>by cases hj;omega)
 have hL:=hL.grown11 hg (by omega)
 have hC:=hC.mono (show w.heap.size + 1 + 1 + 1≤_ from hlt)
 have hlt:w.heap.size + 1 + 1 + 1≤V2.heap.size:=Nat.le_trans hlt hg.size
 have fz:=iq.frozen 2
 have cz:=iq.cell 2
 have iq2:=iq.set 2 (.slice AC C.length cC)
 have i02:=i0.far (p:=⟨w.heap.size + 1,2,none⟩) (show w.heap.size≠w.heap.size + 1 by omega) (.slice AC C.length cC)
 have ir2:=ir.far (p:=⟨w.heap.size + 1,2,none⟩) (show w.heap.size + 1 + 1≠w.heap.size + 1 by omega) (.slice AC C.length cC)
 have hB2:=hB.setCell (p:=⟨w.heap.size + 1,2,none⟩) (show w.heap.size≤w.heap.size + 1 by omega) (.slice AC C.length cC)
 have hL2:=hL.far (p:=⟨w.heap.size + 1,2,none⟩) (show w.heap.size + 1 < w.heap.size + 1 + 1 + 1 by omega) (.slice AC C.length cC)
 have hC2:=hC.far (p:=⟨w.heap.size + 1,2,none⟩) (show w.heap.size + 1 < w.heap.size + 1 + 1 + 1 by omega) (.slice AC C.length cC)
 have hlt2:w.heap.size + 1 + 1 + 1≤(V2.setCell ⟨w.heap.size + 1,2,none⟩ (.slice AC C.length cC)).heap.size:=by simpa [World.setCell] using hlt
 clear iq i0 ir hB hg hlt hL hC
 go_wp2
 generalize V2.setCell ⟨w.heap.size + 1,2,none⟩ (.slice AC C.length cC)=X2 at *
 have i0:=i02
 have iq:=iq2
 have ir:=ir2
 have hB:=hB2
 have hlt:=hlt2
 have hL:=hL2
 have hC:=hC2
 clear i02 iq2 ir2 hB2 hlt2 fz cz hL2 hC2
 try simp only [List.setIfInBounds_toArray,List.set_cons_succ,List.set_cons_zero] at iq
 have HY:∃ B1 d1 B2 d2,(∀ W,InV W AL (tL10 L)→InV W AC (tL10 C)→InV W B1 (tL10 D.1.L)∧InV W B2 (tL10 D.1.C))∧whl11 e4 (right11 ⟨k,L,C⟩) (.agg #[.int .i64 k,.slice AL L.length cL,.slice AC C.length cC]) (.agg #[.int .i64 0,.slice none 0 0,.slice none 0 0])=.tuple #[.agg #[.int .i64 D.1.k,.slice B1 D.1.L.length d1,.slice B2 D.1.C.length d2],.int .i64 D.2]:=by
  have hd:=HD.out
  by_cases h4:e4=0
  ·
   rw [if_neg (show ¬ e4≠0 by omega)] at hd
   cases hr:right11 ⟨k,L,C⟩ with
   | true =>
    rw [hr,if_pos rfl] at hd
    subst hd
    exact ⟨AL,cL,AC,cC,fun W h1 h2=>⟨h1,h2⟩,by rw [whl11,if_neg (show ¬ e4≠0 by omega),if_pos rfl]⟩
   | false =>
    rw [hr,if_neg (by decide)] at hd
    subst hd
    exact ⟨none,0,none,0,fun W h1 h2=>⟨fun j u hj=>(by cases hj),fun j u hj=>(by cases hj)⟩,by rw [whl11,if_neg (show ¬ e4≠0 by omega),if_neg (by decide)];rfl⟩
  ·
   rw [if_pos (show e4≠0 from h4)] at hd
   subst hd
   exact ⟨none,0,none,0,fun W h1 h2=>⟨fun j u hj=>(by cases hj),fun j u hj=>(by cases hj)⟩,by rw [whl11,if_pos (show e4≠0 from h4)];rfl⟩
 obtain ⟨B1,d1,B2,d2,hY1,hY2⟩:=HY
 have N2:=Lib.hid (fun W h1 h2=>wholeQ_any11 k AL AC cL cC L C e4 W (by omega) (by omega) h1 h2)
 rw [hY2] at N2
 have HY1:=Lib.hid hY1
 clear hY1 hY2
 refine Code.wp_mono ?_ (dec11_reg w X2 w.heap.size (w.heap.size + 1) (w.heap.size + 1 + 1) (w.heap.size + 1 + 1 + 1) _ (by omega) (by omega) (by omega) (by omega) (by omega) (by omega) (by omega) k AL AC cL cC L C D.1.k B1 B2 D.1.L.length D.1.C.length d1 d2 e4 D.2 (Lib.hid fun W h=>C4.out W h) N2 hB iq i0 ir hL hC _ _ _ _ _ _ _ _ _ _ _ _ _ _ _ _ _ _ _ _)
 rintro ex ⟨T,Ds⟩ W9 ⟨rfl,hD,_,hT,hB9,_,i9,hL9,hC9⟩
 simp only at hT hD
 subst hT
 subst hD
 obtain ⟨g1,g2⟩:=HY1.out W9 hL9.at' hC9.at'
 go_wp2
 exact bodyPost_ret (results_row_tmp Tryz.results43 _ _ w.heap.size 26 _ (0,0) _ rfl i9 Tryz.underlying26 rfl infoReq11) rfl ⟨B1,d1,B2,d2,rfl,g1,g2,hB9⟩
end Go.Proofs.YtmggbbmpckcleaaGreat
