import Derived.Test.YtmggbbmpckcleaaGreatGBx1
import Derived.Test.YtmggbbmpckcleaaGreatGCo3
import Derived.Test.YtmggbbmpckcleaaGreatGBx2
import Derived.Laws.MakeOwn
import Derived.Deep.DeepCutAuto
set_option maxRecDepth 100000
set_option maxHeartbeats 16000000
namespace Go.Proofs.YtmggbbmpckcleaaGreat
open Go.RowKit Go.Shelf
theorem flB_set (B:List Bkt12) (b:Bkt12):∀ k,flB (B.set k b)=(((flB B).set (k * 3) (.int .i64 b.st)).set (k * 3 + 1) (.string b.l)).set (k * 3 + 2) (.string b.c):=by
 induction B with
 | nil=>intro k;rfl
 | cons x r ih =>
  intro k
  cases k with
  | zero=>rfl
  | succ k =>
   have e:(k + 1) * 3=k * 3 + 1 + 1 + 1:=by omega
   rw [e]
   show [Value.int .i64 x.st,.string x.l,.string x.c] ++ flB (r.set k b)=_
   rw [ih k]
   rfl
theorem take_set12 (l:List Value) (v:Value):∀ (n i:Nat),i < n→(l.set i v).take n=(l.take n).set i v:=by
 intro n i _
 rw [List.take_set]
abbrev RowB (W:World) (base:Nat) (A:Option Addr) (c:Nat) (B:List Bkt12):Prop:=RowV W base 70 3 A c B.length (flB B)
theorem RowB.open {W:World} {base:Nat} {A:Option Addr} {c:Nat} {B:List Bkt12} (h:RowB W base A c B) (h0:0 < B.length) :
  ∃ g cur,A=some ⟨g,0,none⟩∧base≤g∧Is W g 70 cur∧B.length≤c∧c≤maxLen∧cur.size=c * 3∧cur.toList.take (B.length * 3)=flB B:=by
 obtain ⟨_,hh⟩:=h
 rcases hh with ⟨_,h1⟩ | ⟨g,cap,cur,hv,hb,hg,hn,hm,hs,ht⟩
 · omega
 ·
  cases hv
  exact ⟨g,cur,rfl,hb,hg,hn,hm,hs,ht⟩
theorem RowB.of {W:World} {base g:Nat} {c:Nat} {B:List Bkt12} {cur:Array Value} (hb:base≤g) (hg:Is W g 70 cur) (hn:B.length≤c) (hm:c≤maxLen) (hs:cur.size=c * 3) (ht:cur.toList.take (B.length * 3)=flB B):RowB W base (some ⟨g,0,none⟩) c B :=
 ⟨flB_len B,.inr ⟨g,c,cur,rfl,hb,hg,hn,hm,hs,ht⟩⟩
theorem RowB.inS {W:World} {base:Nat} {A:Option Addr} {c:Nat} {s:Sto12} (h:RowB W base A c s.B) (hf:s.B.length≤4096):InS W s A c:=by
 refine ⟨RowV.inV h,fun e=>?_,?_,by omega⟩
 ·
  obtain ⟨_,hh⟩:=h
  rcases hh with ⟨hv,_⟩ | ⟨g,cap,cur,hv,_⟩
  · simp only [Value.slice.injEq] at hv;exact hv.2.2
  · cases hv;cases e
 ·
  obtain ⟨_,hh⟩:=h
  rcases hh with ⟨hv,h0⟩ | ⟨g,cap,cur,hv,_,_,hn,_⟩
  · omega
  · cases hv;exact hn
theorem setCells3 (W:World) (g o:Nat) (a b c:Value):W.setCells g o [a,b,c]=((W.setCell ⟨g,o,none⟩ a).setCell ⟨g,o + 1,none⟩ b).setCell ⟨g,o + 2,none⟩ c:=rfl
theorem RowB.put {W:World} {base g:Nat} {c:Nat} {B:List Bkt12} (h:RowB W base (some ⟨g,0,none⟩) c B) {k:Nat} (hk:k < B.length) (b:Bkt12) :
  RowB (W.setCells g (k * 3) [.int .i64 b.st,.string b.l,.string b.c]) base (some ⟨g,0,none⟩) c (B.set k b):=by
 obtain ⟨g2,cur,e,hb,hg,hn,hm,hs,ht⟩:=h.open (by omega)
 cases e
 rw [setCells3]
 have h3:=((hg.set (k * 3) (.int .i64 b.st)).set (k * 3 + 1) (.string b.l)).set (k * 3 + 2) (.string b.c)
 refine RowB.of hb h3 (by rw [List.length_set];exact hn) hm (by simp [hs]) ?_
 rw [List.length_set,flB_set,← ht]
 simp only [Array.toList_setIfInBounds]
 rw [take_set12 _ _ _ _ (by omega),take_set12 _ _ _ _ (by omega),take_set12 _ _ _ _ (by omega)]
theorem flB_setC (B:List Bkt12) (st:Int) (l x y:ByteArray):∀ k,B[k]?=some ⟨st,l,x⟩→flB (B.set k ⟨st,l,y⟩)=(flB B).set (k * 3 + 2) (.string y):=by
 induction B with
 | nil=>intro k hk;rw [List.getElem?_nil] at hk;cases hk
 | cons z r ih =>
  intro k hk
  cases k with
  | zero=>cases hk;rfl
  | succ k =>
   have e:(k + 1) * 3 + 2=k * 3 + 2 + 1 + 1 + 1:=by omega
   rw [e]
   show [Value.int .i64 z.st,.string z.l,.string z.c] ++ flB (r.set k ⟨st,l,y⟩)=_
   rw [ih k (by simpa using hk)]
   rfl
theorem RowB.cell {W:World} {base g:Nat} {c:Nat} {B:List Bkt12} (h:RowB W base (some ⟨g,0,none⟩) c B) {k:Nat} {st:Int} {l x:ByteArray} (hk:B[k]?=some ⟨st,l,x⟩) (y:ByteArray) :
  RowB (W.setCell ⟨g,k * 3 + 2,none⟩ (.string y)) base (some ⟨g,0,none⟩) c (B.set k ⟨st,l,y⟩):=by
 have hkl:k < B.length:=(List.getElem?_eq_some_iff.1 hk).1
 obtain ⟨g2,cur,e,hb,hg,hn,hm,hs,ht⟩:=h.open (by omega)
 cases e
 refine RowB.of hb (hg.set (k * 3 + 2) (.string y)) (by rw [List.length_set];exact hn) hm (by simp [hs]) ?_
 rw [List.length_set,flB_setC B st l x y k hk,← ht,Array.toList_setIfInBounds,take_set12 _ _ _ _ (by omega)]
theorem RowB.there {W:World} {base g:Nat} {c:Nat} {B:List Bkt12} (h:RowB W base (some ⟨g,0,none⟩) c B) {k:Nat} (hk:k < B.length):W.there g (k * 3) 3:=fun j hj=>by
 obtain ⟨g2,cur,e,hb,hg,hn,hm,hs,ht⟩:=h.open (by omega)
 cases e
 refine ⟨?_,hg.frozen _⟩
 rw [hg.cell]
 rw [Array.getElem?_eq_getElem (by omega)]
 rfl
theorem Is.cells3 {W:World} {g g':Nat} {t:TypeId} {cs:Array Value} (h:Is W g' t cs) (hne:g'≠g) (o:Nat) (a b c:Value):Is (W.setCells g o [a,b,c]) g' t cs:=by
 rw [setCells3]
 exact ((h.far (p:=⟨g,o,none⟩) hne a).far (p:=⟨g,o + 1,none⟩) hne b).far (p:=⟨g,o + 2,none⟩) hne c
theorem below_cells3 {B:Nat} {W0 W:World} (h:Below B W0 W) {g:Nat} (hg:B≤g) (o:Nat) (a b c:Value):Below B W0 (W.setCells g o [a,b,c]):=by
 rw [setCells3]
 exact ((h.setCell (p:=⟨g,o,none⟩) hg a).setCell (p:=⟨g,o + 1,none⟩) hg b).setCell (p:=⟨g,o + 2,none⟩) hg c
theorem grown_trans12 {A B C:World} {r:Option Nat} (h:A.grownBy B r) (k:B.grownBy C r):A.grownBy C r :=
 ⟨k.os.trans h.os,k.tape.trans h.tape,k.output.trans h.output,Nat.le_trans h.size k.size,fun i hi hne=>(k.block i (Nat.lt_of_lt_of_le hi h.size) hne).trans (h.block i hi hne)⟩
theorem grown_none12 {A B:World} (h:A.grownBy B none) (r:Option Nat):A.grownBy B r:=⟨h.os,h.tape,h.output,h.size,fun i hi _=>h.block i hi (by simp)⟩
theorem grown_below12 {A B:World} (h:Below A.heap.size A B) (r:Option Nat):A.grownBy B r:=grown_none12 (grownG h) r
theorem grown_set12 {A B:World} {r:Option Nat} (h:A.grownBy B r) {p:Addr} (hp:A.heap.size≤p.block) (v:Value):A.grownBy (B.setCell p v) r :=
 ⟨h.os,h.tape,h.output,by have:=h.size;simpa [World.setCell] using this,fun i hi hne=>(heap_setCell_other B p i v (by omega)).trans (h.block i hi hne)⟩
theorem grown_row12 {A B:World} {r:Option Nat} (h:A.grownBy B r) {g:Nat} (hg:A.heap.size≤g) (v:Array Value):A.grownBy (B.setRow g v) r :=
 ⟨h.os,h.tape,h.output,by have:=h.size;simpa using this,fun i hi hne=>(setRow_other B g i v (by omega)).trans (h.block i hi hne)⟩
theorem grown_own12 {A B:World} {g:Nat} (h:A.grownBy B (some g)) (o:Nat) (a b c:Value):A.grownBy (B.setCells g o [a,b,c]) (some g):=by
 rw [setCells3]
 refine ⟨h.os,h.tape,h.output,by have:=h.size;simpa [World.setCell] using this,fun i hi hne=>?_⟩
 have hne2:i≠g:=fun e=>hne (by rw [e])
 exact (heap_setCell_other _ _ i _ hne2).trans ((heap_setCell_other _ _ i _ hne2).trans ((heap_setCell_other _ _ i _ hne2).trans (h.block i hi hne)))
theorem infoBktz12:(Tryz.prog.info? 70).map (fun i=>(i.zero,i.size,i.bytes))=some (some (.agg #[.int .i64 0,.string ⟨#[]⟩,.string ⟨#[]⟩]),3,40):=by kernel_rfl
theorem cloneB_any12 (A:Option Addr) (cap:Nat) (L:List Bkt12) (w:World) (hc:InV w A (flB L)) (hn:A=none→cap=0) (hfit:L.length * 40≤140737488355328) :
  Calls Tryz.prog 33 #[.slice A L.length cap] w fun e w'=>∃ A' c',e=.returned (.slice A' L.length c')∧RowB w' w.heap.size A' c' L∧Below w.heap.size w w':=by
 obtain ⟨i0,hi,hz0,hz1,hz2⟩:=infoThree10 infoBktz12
 have q22:∀ (w:World) (a:Option Addr) (n c n' c':Nat),(binOp .eql 29 (.slice a n c) (.slice none n' c')).run Tryz.prog w=.ok (.bool a.isNone) w:=fun w a n c n' c'=>Lib.run_eql_slice_nil w _ _ a n c n' c' Tryz.underlying29
 cases A with
 | none =>
  have h0:L=[]:=by
   have:=hc.nil_of
   cases L with
   | nil=>rfl
   | cons x l=>cases this
  subst h0
  obtain rfl:cap=0:=hn rfl
  go_enter Tryz.func33,Tryz.ntmps33
  go_wp2
  go_ret
  exact ⟨_,_,rfl,RowV.nil _ _ _ _,Below.refl _ _⟩
 | some p =>
  have HC:=Lib.hid hc
  have HL:=Lib.hid (flB_len L)
  clear hc hn
  go_enter Tryz.func33,Tryz.ntmps33
  go_wp2_with (at_builtin;refine wpList_append_own _ rfl _ _ 29 rfl w.heap.size 70 i0 (.agg #[.int .i64 0,.string ⟨#[]⟩,.string ⟨#[]⟩]) 3 40 Tryz.underlying29 hi hz0 hz1 hz2 rfl (by decide) _ _ _ rfl (World.ownsRow_made w #[] 0 (Nat.le_refl _) (Nat.zero_le _) rfl) p L.length cap (flB L) rfl ?qc1 ?qc2 ?qc3 ?qc4 ?qc5 ?qc6 ?_)
  case qc1=>exact HL.out
  case qc2 =>
   intro j u hj
   obtain ⟨b,off,h1,_,h2⟩:=HC.out j u hj
   cases h1
   rw [Addr.add_lit]
   exact Lib.cell?_alloc_some _ h2
  case qc3=>exact flB_one L
  case qc4=>unfold maxLen;omega
  case qc5=>omega
  case qc6=>simp
  intro v' w1 hown hgrow hnil
  obtain ⟨A',c',rfl⟩:=owns_sliceG hown
  go_wp2
  go_ret
  refine ⟨A',c',rfl,hown,?_⟩
  exact ((Below.refl _ w).alloc (Nat.le_refl _) _).grown hgrow (by simp) (by intro k hk;simp [Value.ownBlock] at hk;omega)
theorem stoA_one12 (s:Sto12) (A:Option Addr) (c:Nat):(stoA s A c).all (·.oneCell')=true:=by
 rw [← Array.all_toList];rfl
theorem copy_any12 (s:Sto12) (A:Option Addr) (c:Nat) (w:World) (h:InS w s A c) :
  Calls Tryz.prog 113 #[stoV s A c] w fun e w'=>∃ A1 c1,e=.returned (stoV s A1 c1)∧RowB w' w.heap.size A1 c1 s.B∧Below w.heap.size w w':=by
 have CN:=Lib.hid (fun W (hb:Below w.heap.size w W)=>cloneB_any12 A c s.B W (h.b.keep hb) h.nil h.fit)
 clear h
 obtain ⟨W0,hW0⟩:∃ W,W=(w.alloc (.cells (stoA s A c) 31)).alloc (.cells #[.slice none 0 0,.int .i64 0,.int .i64 0] 31):=⟨_,rfl⟩
 have i1:Is W0 w.heap.size 31 (stoA s A c):=by rw [hW0];exact heap_alloc2_old w _ _
 have i2:Is W0 (w.heap.size + 1) 31 #[.slice none 0 0,.int .i64 0,.int .i64 0]:=by rw [hW0];exact heap_alloc2_new w _ _
 have hB0:Below w.heap.size w W0:=by rw [hW0];exact ((Below.refl _ _).alloc (Nat.le_refl _) _).alloc (by simp) _
 go_enter Tryz.func113,Tryz.ntmps113
 go_wp2_with fail
 rw [← hW0]
 clear hW0
 have c0:W0.cell? ⟨w.heap.size,0,none⟩=some (.slice A s.B.length c):=i1.cell 0
 go_wp2_with fail
 refine (CN.out _ hB0).mono ?_
 rintro e W1 ⟨A1,c1,rfl,hr1,hb1⟩
 have hB1:Below w.heap.size w W1:=hB0.trans (hb1.mono hB0.size)
 have j1:=i1.below hb1 i1.lt
 have j2:=i2.below hb1 i2.lt
 have d0:W1.cell? ⟨w.heap.size,0,none⟩=some (.slice A s.B.length c):=j1.cell 0
 have f0:=j1.frozen 0
 have p1:Is (W1.setCell ⟨w.heap.size,0,none⟩ (.slice A1 s.B.length c1)) w.heap.size 31 (stoA s A1 c1):=j1.set 0 _
 have p2:=j2.far (p:=⟨w.heap.size,0,none⟩) (by simp) (.slice A1 s.B.length c1)
 have R1:=Lib.hid ((hr1.mono hB0.size).far (p:=⟨w.heap.size,0,none⟩) j1 (by decide) (.slice A1 s.B.length c1))
 have Z:=Lib.hid (hB1.setCell (p:=⟨w.heap.size,0,none⟩) (Nat.le_refl _) (.slice A1 s.B.length c1))
 clear hr1 hb1 hB0 hB1 i1 i2 c0 j1 j2
 go_wp2_with (first | (refine wpList_load_row rfl 31 _ rfl w.heap.size rfl _ _ _ _ p1 Tryz.underlying31 rfl infoSto12 ?_) | (refine wpList_store_row rfl 31 _ _ rfl (w.heap.size + 1) (stoA s A1 c1) rfl rfl 31 _ p2 infoSto12 rfl (stoA_one12 _ _ _) ?_))
 exact bodyPost_ret (results_cell_row Tryz.results113 _ _ (w.heap.size + 1) 31 _ (0,0) _ rfl (p2.row _) Tryz.underlying31 rfl infoSto12) rfl ⟨A1,c1,rfl,R1.out.rowFar p2 (by decide) _,belowRow Z.out (by simp) _⟩
def newV12 (n:Int):Sto12 × Int:=if size12 n then (⟨new12 n.toNat,0,0⟩,0) else (⟨[],0,0⟩,1)
theorem made_new12 (n:Nat):(madeCells #[Value.int .i64 0,.string ⟨#[]⟩,.string ⟨#[]⟩] (n * 3)).toList=flB (new12 n):=by
 refine List.ext_getElem? fun j=>?_
 by_cases hj:j < n * 3
 ·
  have hk:(new12 n)[j / 3]?=some fre12:=by
   rw [new12,List.getElem?_replicate,if_pos (by omega)]
  have h1:=flB_at hk (j % 3) (by omega)
  rw [show j / 3 * 3 + j % 3=j by omega] at h1
  rw [h1]
  have:j % 3=0∨j % 3=1∨j % 3=2:=by omega
  rw [madeCells]
  simp only [Array.toList_map,List.getElem?_map,Array.toList_range,List.getElem?_range hj,Option.map_some]
  rcases this with e | e | e <;> (simp [e];rfl)
 · rw [List.getElem?_eq_none (by simp [madeCells];omega),List.getElem?_eq_none (by rw [flB_len,new_len12];omega)]
theorem bnew_any12 (n:Int) (w:World) :
  Calls Tryz.prog 26 #[.int .i64 n] w fun e w'=>∃ A c,e=.returned (.tuple #[stoV (newV12 n).1 A c,.int .i64 (newV12 n).2])∧RowB w' w.heap.size A c (newV12 n).1.B∧Below w.heap.size w w':=by
 have HS:=Lib.hid (fun W=>isSize_any12 n W)
 have i0:Is (w.alloc (.cells #[.slice none 0 0,.int .i64 0,.int .i64 0] 31)) w.heap.size 31 #[.slice none 0 0,.int .i64 0,.int .i64 0]:=Is.new _ _ _
 have hB:Below w.heap.size w (w.alloc (.cells #[.slice none 0 0,.int .i64 0,.int .i64 0] 31)):=(Below.refl _ _).alloc (Nat.le_refl _) _
 cases hs:size12 n with
 | false =>
  rw [hs] at HS
  have hv:newV12 n=(⟨[],0,0⟩,1):=by rw [newV12,hs];rfl
  rw [hv]
  clear hs hv
  go_enter Tryz.func26,Tryz.ntmps26
  go_wp2_with (first | (go_at_call 51;refine (HS.out _).mono ?_;rintro e w0 ⟨rfl,rfl⟩) | (refine wpList_store_row rfl 31 _ _ rfl w.heap.size #[.slice none 0 0,.int .i64 0,.int .i64 0] rfl rfl 31 _ i0 infoSto12 rfl (by rw [← Array.all_toList];rfl) ?_))
  exact bodyPost_ret (results_row_tmp Tryz.results26 _ _ w.heap.size 31 _ (0,0) _ rfl (i0.row _) Tryz.underlying31 rfl infoSto12) rfl ⟨none,0,rfl,RowV.nil _ _ _ _,belowRow hB (Nat.le_refl _) _⟩
 | true =>
  rw [hs] at HS
  have hv:newV12 n=(⟨new12 n.toNat,0,0⟩,0):=by rw [newV12,hs];rfl
  rw [hv]
  have hn:=size_bd12 hs
  obtain ⟨k,rfl⟩:∃ k:Nat,n=(k:Int):=⟨n.toNat,by omega⟩
  rw [Int.toNat_natCast]
  obtain ⟨it,hi,hz0,hz1,hz2⟩:=infoThree10 infoBktz12
  have hmk:∀ W:World,(Instr.makeSlice 29 (.int .i64 (k:Int)) (.int .i64 (k:Int))).run Tryz.prog W=.ok (.slice (some ⟨W.heap.size,0,none⟩) k k) (W.alloc (.cells (madeCells #[.int .i64 0,.string ⟨#[]⟩,.string ⟨#[]⟩] (k * 3)) 70)):=fun W=>by
   have h1:=run_make (P:=Tryz.prog) W 29 70 it (.agg #[.int .i64 0,.string ⟨#[]⟩,.string ⟨#[]⟩]) Tryz.underlying29 hi hz0 .i64 .i64 (k:Int) (k:Int) (by omega) (by omega) (by rw [hz2];omega) (by omega)
   rw [hz1,Int.toNat_natCast] at h1
   exact h1
  have i1:=i0.alloc (.cells (madeCells #[.int .i64 0,.string ⟨#[]⟩,.string ⟨#[]⟩] (k * 3)) 70)
  have hB1:=hB.alloc (by simp) (.cells (madeCells #[.int .i64 0,.string ⟨#[]⟩,.string ⟨#[]⟩] (k * 3)) 70)
  have hR:RowB ((w.alloc (.cells #[.slice none 0 0,.int .i64 0,.int .i64 0] 31)).alloc (.cells (madeCells #[.int .i64 0,.string ⟨#[]⟩,.string ⟨#[]⟩] (k * 3)) 70)) w.heap.size (some ⟨w.heap.size + 1,0,none⟩) k (new12 k):=by
   have hg:=Is.new (w.alloc (.cells #[.slice none 0 0,.int .i64 0,.int .i64 0] 31)) 70 (madeCells #[.int .i64 0,.string ⟨#[]⟩,.string ⟨#[]⟩] (k * 3))
   rw [World.size_alloc] at hg
   refine RowB.of (by omega) hg (by rw [new_len12];exact Nat.le_refl _) (by unfold maxLen;omega) (size_madeCells _ _) ?_
   rw [made_new12,new_len12,List.take_of_length_le (by rw [flB_len,new_len12];exact Nat.le_refl _)]
  have hst:=stoA_one12 ⟨new12 k,0,0⟩ (some ⟨w.heap.size + 1,0,none⟩) k
  have hnl:=new_len12 k
  simp only [stoA,hnl] at hst
  have HM:=Lib.hid hmk
  clear hs hv hn hi hz0 hz1 hz2 hmk
  generalize madeCells #[.int .i64 0,.string ⟨#[]⟩,.string ⟨#[]⟩] (k * 3)=M at *
  have hmk:=HM.out
  go_enter Tryz.func26,Tryz.ntmps26
  go_wp2_with (first | (go_at_call 51;refine (HS.out _).mono ?_;rintro e w0 ⟨rfl,rfl⟩) | (refine wpList_store_row rfl 31 _ _ rfl w.heap.size #[.slice (some ⟨w.heap.size + 1,0,none⟩) k k,.int .i64 0,.int .i64 0] rfl rfl 31 _ i1 infoSto12 rfl hst ?_))
  exact bodyPost_ret (results_row_tmp Tryz.results26 _ _ w.heap.size 31 _ (0,0) _ rfl (i1.row _) Tryz.underlying31 rfl infoSto12) rfl ⟨some ⟨w.heap.size + 1,0,none⟩,k,by rw [stoV,stoA,hnl];rfl,hR.rowFar i1 (by decide) _,belowRow hB1 (Nat.le_refl _) _⟩
end Go.Proofs.YtmggbbmpckcleaaGreat
namespace Go.Proofs.YtmggbbmpckcleaaGreat
open Go.RowKit Go.Shelf
section
variable {ops:Array Oper} {rest:List Oper} {o:Oper} {a:Act} {w:World} {Q:Exit→Act→World→Prop}
theorem wpList_store_bkt12 (hgd:o.guard=none) (x y:Operand) (ho:o.op=.store 70 x y) (b off:Nat) (st:Int) (l c:ByteArray) (hx:a.eval x=.pointer (some ⟨b,off,none⟩)) (hy:a.eval y=.agg #[.int .i64 st,.string l,.string c])
  (ht:w.there b off 3) (h:wpList Tryz.prog ops Q rest (a.put o.dst undef) (w.setCells b off [.int .i64 st,.string l,.string c])):wpList Tryz.prog ops Q (o :: rest) a w :=
 wpList_store_mid hgd 70 x y ho b off #[.int .i64 st,.string l,.string c] hx hy ht infoBkt12 (by rw [← Array.all_toList];rfl) h
end
def add12 (s:Sto12) (k:Nat) (l x:ByteArray):Sto12:=⟨s.B.set k ⟨1,l,x⟩,s.many + 1,if (at12 s.B k).st=2 then s.gone - 1 else s.gone⟩
theorem getD_at12 {B:List Bkt12} {k:Nat} (hk:k < B.length):B[k]?=some (at12 B k):=by rw [at_get12 hk];exact List.getElem?_eq_getElem hk
theorem RowB.range {W:World} {base g:Nat} {c:Nat} {B:List Bkt12} (h:RowB W base (some ⟨g,0,none⟩) c B) {k:Nat} {x:Bkt12} (hk:B[k]?=some x):W.rangeAt g (k * 3) [.int .i64 x.st,.string x.l,.string x.c]:=by
 obtain ⟨b,off,e,_,hr⟩:=(RowV.inV h).bkt hk
 cases e
 rwa [Nat.zero_add] at hr
theorem added_any12 (s:Sto12) (A:Option Addr) (c base k:Nat) (l x:ByteArray) (w:World) (h:RowB w base A c s.B) (h0:0 < s.B.length) (hf:s.B.length≤4096) (hst:∀ i,i < s.B.length→(at12 s.B i).st=0∨(at12 s.B i).st=1∨(at12 s.B i).st=2) (hg:gap12 s.B l=some k) (hm:-1000000≤s.many∧s.many≤1000000) (hgn:-1000000≤s.gone∧s.gone≤1000000) :
  Calls Tryz.prog 115 #[stoV s A c,.string l,.string x] w fun e w'=>e=.returned (stoV (add12 s k l x) A c)∧RowB w' base A c (add12 s k l x).B∧w.grownBy w' (Value.slice A s.B.length c).ownBlock:=by
 obtain ⟨g,cur,rfl,hbg,hgc,_⟩:=h.open h0
 have hgl:=hgc.lt
 have hkl:=(gap_lt12 hg).1
 have hx:=getD_at12 hkl
 have hR:=room_gap12 hst hg
 have HR:=Lib.hid (fun W (hS:InS W s (some ⟨g,0,none⟩) c)=>room_any12 s (some ⟨g,0,none⟩) c l W hS h0 hf)
 rw [hR] at HR
 have hlen:(add12 s k l x).B.length=s.B.length:=by rw [add12];exact List.length_set
 have hadd:stoV (add12 s k l x) (some ⟨g,0,none⟩) c=.agg #[.slice (some ⟨g,0,none⟩) s.B.length c,.int .i64 (s.many + 1),.int .i64 (add12 s k l x).gone]:=by rw [stoV,stoA,hlen];rfl
 have H:=Lib.hid h
 have HF:=Lib.hid hf
 have HL:=Lib.hid hlen
 obtain ⟨W0,hW0⟩:∃ W,W=(w.alloc (.cells (stoA s (some ⟨g,0,none⟩) c) 31)).alloc (.cells #[.slice none 0 0,.int .i64 0,.int .i64 0] 31):=⟨_,rfl⟩
 have i1:Is W0 w.heap.size 31 (stoA s (some ⟨g,0,none⟩) c):=by rw [hW0];exact heap_alloc2_old w _ _
 have i2:Is W0 (w.heap.size + 1) 31 #[.slice none 0 0,.int .i64 0,.int .i64 0]:=by rw [hW0];exact heap_alloc2_new w _ _
 have hB0:Below w.heap.size w W0:=by rw [hW0];exact ((Below.refl _ _).alloc (Nat.le_refl _) _).alloc (by simp) _
 have hr0:RowB W0 base (some ⟨g,0,none⟩) c s.B:=by rw [hW0];exact (h.alloc _).alloc _
 have HG:=Lib.hid (show (add12 s k l x).gone=if (at12 s.B k).st=2 then s.gone - 1 else s.gone from rfl)
 have HBB:=Lib.hid (show (add12 s k l x).B=s.B.set k ⟨1,l,x⟩ from rfl)
 rw [hadd]
 generalize at12 s.B k=y at *
 obtain ⟨st,yl,yc⟩:=y
 simp only at HG
 have hk1:(k:Int) < (s.B.length:Int):=by omega
 have w1:=IntWalk.i64_in (s.many + 1) (by omega)
 have w2:=IntWalk.i64_in (s.gone - 1) (by omega)
 clear h hst hR hadd hlen hgc hg
 go_enter Tryz.func115,Tryz.ntmps115
 go_wp2_with fail
 rw [← hW0]
 clear hW0
 go_wp2_with (refine wpList_load_row rfl 31 _ rfl w.heap.size rfl _ _ _ _ i1 Tryz.underlying31 rfl infoSto12 ?_)
 refine (HR.out _ (RowB.inS hr0 hf)).mono ?_
 rintro e W1 ⟨rfl,hb1⟩
 have j1:=i1.below hb1 i1.lt
 have j2:=i2.below hb1 i2.lt
 have hr1:=RowV.below hr0 hb1
 have hB1:=hB0.trans (hb1.mono hB0.size)
 have hs1:=j2.lt
 clear hb1 i1 i2 hr0 hB0 HR
 have c0:W1.cell? ⟨w.heap.size,0,none⟩=some (.slice (some ⟨g,0,none⟩) s.B.length c):=j1.cell 0
 have c1:W1.cell? ⟨w.heap.size,1,none⟩=some (.int .i64 s.many):=j1.cell 1
 have c2:W1.cell? ⟨w.heap.size,2,none⟩=some (.int .i64 s.gone):=j1.cell 2
 have f1:=j1.frozen 1
 have f2:=j1.frozen 2
 have q0:W1.cell? ⟨g,k * 3,none⟩=some (.int .i64 st):=by have:=(RowB.range hr1 hx) 0 _ rfl;rwa [Nat.add_zero] at this
 have hgw:w.grownBy W1 (some g):=grown_below12 hB1 _
 by_cases h2:st=2
 ·
  subst h2
  rw [if_pos rfl] at HG
  have k1:Is (W1.setCell ⟨w.heap.size,2,none⟩ (.int .i64 (s.gone - 1))) w.heap.size 31 #[.slice (some ⟨g,0,none⟩) s.B.length c,.int .i64 s.many,.int .i64 (s.gone - 1)]:=j1.set 2 _
  have k2:=j2.far (p:=⟨w.heap.size,2,none⟩) (by simp) (.int .i64 (s.gone - 1))
  have r2:=hr1.far (p:=⟨w.heap.size,2,none⟩) j1 (by decide) (.int .i64 (s.gone - 1))
  have hg2:=grown_set12 hgw (p:=⟨w.heap.size,2,none⟩) (Nat.le_refl _) (.int .i64 (s.gone - 1))
  have D0:=Lib.hid (show (W1.setCell ⟨w.heap.size,2,none⟩ (.int .i64 (s.gone - 1))).cell? ⟨w.heap.size,0,none⟩=some (.slice (some ⟨g,0,none⟩) s.B.length c) from k1.cell 0)
  have HK1:=Lib.hid k1
  have HK2:=Lib.hid k2
  have HR2:=Lib.hid r2
  have HGG:=Lib.hid hg2
  clear hr1 hgw j1 j2 k1 k2 r2 hg2
  go_upto_region 4 with (fail)
  have d0:=D0.out
  have k1:=HK1.out
  have k2:=HK2.out
  have r2:=HR2.out
  have hg2:=HGG.out
  clear D0 HK1 HK2 HR2 HGG q0 c0 c1 c2 f1 f2
  generalize W1.setCell ⟨w.heap.size,2,none⟩ (.int .i64 (s.gone - 1))=W2 at *
  have m1:Is (W2.setCells g (k * 3) [.int .i64 1,.string l,.string x]) w.heap.size 31 #[.slice (some ⟨g,0,none⟩) s.B.length c,.int .i64 s.many,.int .i64 (s.gone - 1)]:=k1.cells3 (g:=g) (by omega) (k * 3) (.int .i64 1) (.string l) (.string x)
  have m2:Is (W2.setCells g (k * 3) [.int .i64 1,.string l,.string x]) (w.heap.size + 1) 31 #[.slice none 0 0,.int .i64 0,.int .i64 0]:=k2.cells3 (g:=g) (by omega) (k * 3) (.int .i64 1) (.string l) (.string x)
  have m3:RowB (W2.setCells g (k * 3) [.int .i64 1,.string l,.string x]) base (some ⟨g,0,none⟩) c (s.B.set k ⟨1,l,x⟩):=RowB.put r2 hkl ⟨1,l,x⟩
  have m4:w.grownBy (W2.setCells g (k * 3) [.int .i64 1,.string l,.string x]) (some g):=grown_own12 hg2 (k * 3) (.int .i64 1) (.string l) (.string x)
  have HT:=Lib.hid (RowB.there r2 hkl)
  have M1:=Lib.hid m1
  have M2:=Lib.hid m2
  have M3:=Lib.hid m3
  have M4:=Lib.hid m4
  clear k1 k2 r2 hg2 m1 m2 m3 m4
  go_upto_region 5 with (refine wpList_store_bkt12 rfl _ _ rfl g (k * 3) 1 l x rfl rfl HT.out ?_)
  have m1:=M1.out
  have m2:=M2.out
  have m3:=M3.out
  have m4:=M4.out
  clear M1 M2 M3 M4 HT
  generalize W2.setCells g (k * 3) [.int .i64 1,.string l,.string x]=W3 at *
  have d1:W3.cell? ⟨w.heap.size,1,none⟩=some (.int .i64 s.many):=m1.cell 1
  have e1:=m1.frozen 1
  have n1:Is (W3.setCell ⟨w.heap.size,1,none⟩ (.int .i64 (s.many + 1))) w.heap.size 31 #[.slice (some ⟨g,0,none⟩) s.B.length c,.int .i64 (s.many + 1),.int .i64 (s.gone - 1)]:=m1.set 1 (.int .i64 (s.many + 1))
  have n2:=m2.far (p:=⟨w.heap.size,1,none⟩) (by simp) (.int .i64 (s.many + 1))
  have n3:=RowV.far m3 (p:=⟨w.heap.size,1,none⟩) m1 (by decide) (.int .i64 (s.many + 1))
  have n4:=grown_set12 m4 (p:=⟨w.heap.size,1,none⟩) (Nat.le_refl _) (.int .i64 (s.many + 1))
  have z3:=Lib.hid (RowV.rowFar n3 n2 (by decide) #[.slice (some ⟨g,0,none⟩) s.B.length c,.int .i64 (s.many + 1),.int .i64 (s.gone - 1)])
  have z4:=Lib.hid (grown_row12 n4 (g:=w.heap.size + 1) (by omega) #[.slice (some ⟨g,0,none⟩) s.B.length c,.int .i64 (s.many + 1),.int .i64 (s.gone - 1)])
  have hone:(#[.slice (some ⟨g,0,none⟩) s.B.length c,.int .i64 (s.many + 1),.int .i64 (s.gone - 1)]:Array Value).all (·.oneCell')=true:=by rw [← Array.all_toList];rfl
  have HONE:=Lib.hid hone
  clear m1 m2 m3 m4 n3 n4 hone
  go_wp2_with (first | (refine wpList_load_row rfl 31 _ rfl w.heap.size rfl _ _ _ _ n1 Tryz.underlying31 rfl infoSto12 ?_) | (refine wpList_store_row rfl 31 _ _ rfl (w.heap.size + 1) #[.slice (some ⟨g,0,none⟩) s.B.length c,.int .i64 (s.many + 1),.int .i64 (s.gone - 1)] rfl rfl 31 _ n2 infoSto12 rfl HONE.out ?_))
  exact bodyPost_ret (results_cell_row Tryz.results115 _ _ (w.heap.size + 1) 31 _ (0,0) _ rfl (n2.row _) Tryz.underlying31 rfl infoSto12) rfl ⟨by rw [HG.out],by rw [HBB.out];have:=z3.out;exact this,z4.out⟩
 ·
  rw [if_neg h2] at HG
  have hbe:(st == 2)=false:=by simpa using h2
  have m1:Is (W1.setCells g (k * 3) [.int .i64 1,.string l,.string x]) w.heap.size 31 #[.slice (some ⟨g,0,none⟩) s.B.length c,.int .i64 s.many,.int .i64 s.gone]:=j1.cells3 (g:=g) (by omega) (k * 3) (.int .i64 1) (.string l) (.string x)
  have m2:Is (W1.setCells g (k * 3) [.int .i64 1,.string l,.string x]) (w.heap.size + 1) 31 #[.slice none 0 0,.int .i64 0,.int .i64 0]:=j2.cells3 (g:=g) (by omega) (k * 3) (.int .i64 1) (.string l) (.string x)
  have m3:RowB (W1.setCells g (k * 3) [.int .i64 1,.string l,.string x]) base (some ⟨g,0,none⟩) c (s.B.set k ⟨1,l,x⟩):=RowB.put hr1 hkl ⟨1,l,x⟩
  have m4:w.grownBy (W1.setCells g (k * 3) [.int .i64 1,.string l,.string x]) (some g):=grown_own12 hgw (k * 3) (.int .i64 1) (.string l) (.string x)
  have HT:=Lib.hid (RowB.there hr1 hkl)
  have M1:=Lib.hid m1
  have M2:=Lib.hid m2
  have M3:=Lib.hid m3
  have M4:=Lib.hid m4
  clear j1 j2 hr1 hgw m1 m2 m3 m4
  go_upto_region 5 with (refine wpList_store_bkt12 rfl _ _ rfl g (k * 3) 1 l x rfl rfl HT.out ?_)
  have m1:=M1.out
  have m2:=M2.out
  have m3:=M3.out
  have m4:=M4.out
  clear M1 M2 M3 M4 HT
  generalize W1.setCells g (k * 3) [.int .i64 1,.string l,.string x]=W3 at *
  have d1:W3.cell? ⟨w.heap.size,1,none⟩=some (.int .i64 s.many):=m1.cell 1
  have e1:=m1.frozen 1
  have n1:Is (W3.setCell ⟨w.heap.size,1,none⟩ (.int .i64 (s.many + 1))) w.heap.size 31 #[.slice (some ⟨g,0,none⟩) s.B.length c,.int .i64 (s.many + 1),.int .i64 s.gone]:=m1.set 1 (.int .i64 (s.many + 1))
  have n2:=m2.far (p:=⟨w.heap.size,1,none⟩) (by simp) (.int .i64 (s.many + 1))
  have n3:=RowV.far m3 (p:=⟨w.heap.size,1,none⟩) m1 (by decide) (.int .i64 (s.many + 1))
  have n4:=grown_set12 m4 (p:=⟨w.heap.size,1,none⟩) (Nat.le_refl _) (.int .i64 (s.many + 1))
  have z3:=Lib.hid (RowV.rowFar n3 n2 (by decide) #[.slice (some ⟨g,0,none⟩) s.B.length c,.int .i64 (s.many + 1),.int .i64 s.gone])
  have z4:=Lib.hid (grown_row12 n4 (g:=w.heap.size + 1) (by omega) #[.slice (some ⟨g,0,none⟩) s.B.length c,.int .i64 (s.many + 1),.int .i64 s.gone])
  have hone:(#[.slice (some ⟨g,0,none⟩) s.B.length c,.int .i64 (s.many + 1),.int .i64 s.gone]:Array Value).all (·.oneCell')=true:=by rw [← Array.all_toList];rfl
  have HONE:=Lib.hid hone
  clear m1 m2 m3 m4 n3 n4 hone
  go_wp2_with (first | (refine wpList_load_row rfl 31 _ rfl w.heap.size rfl _ _ _ _ n1 Tryz.underlying31 rfl infoSto12 ?_) | (refine wpList_store_row rfl 31 _ _ rfl (w.heap.size + 1) #[.slice (some ⟨g,0,none⟩) s.B.length c,.int .i64 (s.many + 1),.int .i64 s.gone] rfl rfl 31 _ n2 infoSto12 rfl HONE.out ?_))
  exact bodyPost_ret (results_cell_row Tryz.results115 _ _ (w.heap.size + 1) 31 _ (0,0) _ rfl (n2.row _) Tryz.underlying31 rfl infoSto12) rfl ⟨by rw [HG.out],by rw [HBB.out];have:=z3.out;exact this,z4.out⟩
end Go.Proofs.YtmggbbmpckcleaaGreat
namespace Go.Proofs.YtmggbbmpckcleaaGreat
open Go.RowKit Go.Shelf
attribute [local go_sem] Oper.semAt_some
theorem look_none12 {L:List Bkt12} {x:ByteArray} (h:∀ b ∈ L,b.l≠x):look12 L x=none:=by
 rw [look12,Option.map_eq_none_iff,List.find?_eq_none]
 intro b hb
 simpa using h b hb
structure FoldAt12 (B:List Bkt12) (n i:Nat) (b:Bkt12) (k:Nat):Prop where
 gap:gap12 (fold12 (new12 n) ((us12 B).take i)) b.l=some k
 st:(at12 (fold12 (new12 n) ((us12 B).take i)) k).st≠2
 next:fold12 (new12 n) ((us12 B).take (i + 1))=(fold12 (new12 n) ((us12 B).take i)).set k ⟨1,b.l,b.c⟩
 len:(fold12 (new12 n) ((us12 B).take i)).length=n
 all:∀ j,j < (fold12 (new12 n) ((us12 B).take i)).length→(at12 (fold12 (new12 n) ((us12 B).take i)) j).st=0∨(at12 (fold12 (new12 n) ((us12 B).take i)) j).st=1∨(at12 (fold12 (new12 n) ((us12 B).take i)) j).st=2
theorem us_part12 {B:List Bkt12} (h:Ok12 B) {n:Nat} (hn:cnt12 B 1≤n) (i:Nat):Fold12 (new12 n) (fold12 (new12 n) ((us12 B).take i)) ((us12 B).take i):=by
 refine fold_ok12 _ _ (new_ok12 n) (new_cnt12 n).2 ?_ (fun b hb=>?_) ((us_once12 h).sublist (List.take_sublist _ _))
 · rw [(new_cnt12 n).1,new_len12,List.length_take,us_len12];omega
 ·
  obtain ⟨j,hj,h1,h2⟩:=us_mem12.1 (List.mem_of_mem_take hb)
  rw [← h1] at h2 ⊢
  obtain ⟨u1,u2,_⟩:=h.used j hj h2
  exact ⟨u1,u2,mp_none12.2 (new_plc12 n _)⟩
theorem fold_step12 {B:List Bkt12} (h:Ok12 B) {n:Nat} (hn:cnt12 B 1≤n) {i:Nat} {b:Bkt12} (hb:(us12 B)[i]?=some b):∃ k,FoldAt12 B n i b k:=by
 have hf:=us_part12 h hn i
 have hi:i < (us12 B).length:=(List.getElem?_eq_some_iff.1 hb).1
 have hil:((us12 B).take i).length=i:=by rw [List.length_take];omega
 have hlk:look12 ((us12 B).take i) b.l=none:=by
  refine look_none12 fun x hx=>?_
  obtain ⟨j,hj⟩:=List.mem_iff_getElem?.1 hx
  have hjl:=(List.getElem?_eq_some_iff.1 hj).1
  rw [hil] at hjl
  rw [List.getElem?_take_of_lt hjl] at hj
  have:=List.pairwise_iff_getElem.1 (us_once12 h) j i (by omega) hi hjl
  rw [List.getElem?_eq_getElem (by omega)] at hj hb
  rw [Option.some.inj hj,Option.some.inj hb] at this
  exact this
 have hpl:plc12 (fold12 (new12 n) ((us12 B).take i)) b.l=none:=by
  rw [← mp_none12,hf.mp,hlk,mp_none12.2 (new_plc12 n _)];rfl
 obtain ⟨k,hk⟩:=hf.ok.gap hpl (by rw [hf.used,hf.len,new_len12,(new_cnt12 n).1,hil];rw [us_len12] at hi;omega)
 refine ⟨k,hk,fun e=>?_,?_,by rw [hf.len,new_len12],fun j hj=>?_⟩
 ·
  have hkl:=(gap_lt12 hk).1
  have:0 < cnt12 (fold12 (new12 n) ((us12 B).take i)) 2:=by
   rw [cnt12,List.countP_pos_iff]
   exact ⟨_,by rw [at_get12 hkl] at e;exact List.getElem_mem hkl,by rw [at_get12 hkl] at e;simpa using e⟩
  rw [hf.gone] at this
  exact absurd this (Nat.lt_irrefl _)
 ·
  rw [List.take_add_one,hb]
  show fold12 (new12 n) ((us12 B).take i ++ [b])=_
  rw [fold12,List.foldl_append]
  show set12 (fold12 (new12 n) ((us12 B).take i)) b.l b.c=_
  rw [set12,hk]
 ·
  by_cases h1:(at12 (fold12 (new12 n) ((us12 B).take i)) j).st=1
  · exact .inr (.inl h1)
  ·
   rcases (hf.ok.not j hj h1).1 with h0 | h0
   · exact .inl h0
   · exact .inr (.inr h0)
def roomV12 (s:Sto12):Sto12 × Int :=
 if 3 * (s.B.length:Int) < 4 * (s.many + s.gone + 1) then
  (if 4096 < grow12 s then (⟨[],0,0⟩,20) else (⟨fold12 (new12 (grow12 s).toNat) (us12 s.B),s.many,0⟩,0))
 else (s,0)
structure Bnd12 (s:Sto12):Prop where
 size:size12 (s.B.length:Int)=true
 len:8≤s.B.length∧s.B.length≤4096
 many:0≤s.many∧s.many≤4096
 gone:0≤s.gone∧s.gone≤4096
theorem Rt12.bnd {s:Sto12} (h:Rt12 s):Bnd12 s:=by
 have h1:=size_bd12 h.size
 have h2:=h.many
 have h3:=h.gone
 have l1:=cnt_le12 s.B 1
 have l2:=cnt_le12 s.B 2
 exact ⟨h.size,by omega,by omega,by omega⟩
theorem with_no12 (s:Sto12) (A:Option Addr) (c:Nat) (w:World) (h:InS w s A c) (hr:Rt12 s) (hc:¬ 3 * (s.B.length:Int) < 4 * (s.many + s.gone + 1)) :
  Calls Tryz.prog 114 #[stoV s A c] w fun e w'=>∃ A1 c1,e=.returned (.tuple #[stoV s A1 c1,.int .i64 0])∧RowB w' w.heap.size A1 c1 s.B∧Below w.heap.size w w':=by
 have hb:=hr.bnd
 have HW:=Lib.hid (fun W=>crowded_any12 A s.B.length c s.many s.gone 1 W (.inr rfl) hb.len.2 hb.many hb.gone)
 rw [decide_eq_false hc] at HW
 have HC:=Lib.hid (fun W (hB:Below w.heap.size w W)=>copy_any12 s A c W (h.keep hB))
 clear hc hr hb h
 obtain ⟨W0,hW0⟩:∃ W,W=(w.alloc (.cells (stoA s A c) 31)).alloc (.cells #[.slice none 0 0,.int .i64 0,.int .i64 0] 31):=⟨_,rfl⟩
 have i1:Is W0 w.heap.size 31 (stoA s A c):=by rw [hW0];exact heap_alloc2_old w _ _
 have i2:Is W0 (w.heap.size + 1) 31 #[.slice none 0 0,.int .i64 0,.int .i64 0]:=by rw [hW0];exact heap_alloc2_new w _ _
 have hB0:Below w.heap.size w W0:=by rw [hW0];exact ((Below.refl _ _).alloc (Nat.le_refl _) _).alloc (by simp) _
 go_enter Tryz.func114,Tryz.ntmps114
 go_wp2_with fail
 rw [← hW0]
 clear hW0
 go_wp2_with (refine wpList_load_row rfl 31 _ rfl w.heap.size rfl _ _ _ _ i1 Tryz.underlying31 rfl infoSto12 ?_)
 refine (HW.out _).mono ?_
 rintro e W1 ⟨rfl,hb1⟩
 have j1:=i1.below hb1 i1.lt
 have j2:=i2.below hb1 i2.lt
 have hB1:=hB0.trans (hb1.mono hB0.size)
 clear i1 i2 hB0 hb1 HW
 go_wp2_with (refine wpList_load_row rfl 31 _ rfl w.heap.size rfl _ _ _ _ j1 Tryz.underlying31 rfl infoSto12 ?_)
 refine (HC.out _ hB1).mono ?_
 rintro e W2 ⟨A1,c1,rfl,hr2,hb2⟩
 have k2:=j2.below hb2 j2.lt
 have hB2:=hB1.trans (hb2.mono hB1.size)
 have HONE:=Lib.hid (stoA_one12 s A1 c1)
 have hr3:=hr2.mono hB1.size
 go_wp2_with (refine wpList_store_row rfl 31 _ _ rfl (w.heap.size + 1) (stoA s A1 c1) rfl rfl 31 _ k2 infoSto12 rfl HONE.out ?_)
 exact bodyPost_ret (results_row_tmp Tryz.results114 _ _ (w.heap.size + 1) 31 _ (0,0) _ rfl (k2.row _) Tryz.underlying31 rfl infoSto12) rfl ⟨A1,c1,rfl,hr3.rowFar k2 (by decide) _,belowRow hB2 (by omega) _⟩
end Go.Proofs.YtmggbbmpckcleaaGreat
namespace Go.Proofs.YtmggbbmpckcleaaGreat
open Go.RowKit Go.Shelf
attribute [local go_sem] Oper.semAt_some
theorem grow_yes12 {s:Sto12} (h:(s.B.length:Int)≤2 * s.many):grow12 s=2 * (s.B.length:Int):=by rw [grow12,if_pos h]
theorem grow_no12 {s:Sto12} (h:¬ (s.B.length:Int)≤2 * s.many):grow12 s=(s.B.length:Int):=by rw [grow12,if_neg h]
theorem grow_size12 {s:Sto12} (h:Bnd12 s) (hg:¬ 4096 < grow12 s):size12 (grow12 s)=true:=by
 by_cases h1:(s.B.length:Int)≤2 * s.many
 ·
  rw [grow_yes12 h1] at hg ⊢
  exact size_two12 h.size (by omega)
 · rw [grow_no12 h1];exact h.size
theorem grow_big12 {n:Int} (hg:4096 < n):newV12 n=(⟨[],0,0⟩,1):=by
 rw [newV12,if_neg]
 intro h
 have:=(size_bd12 h).2
 omega
theorem grow_ok12 {n:Int} (h:size12 n=true):newV12 n=(⟨new12 n.toNat,0,0⟩,0):=by rw [newV12,if_pos h]
theorem grow_room12 {s:Sto12} (h:Rt12 s) (hg:¬ 4096 < grow12 s):cnt12 s.B 1 + 1≤(grow12 s).toNat∧8≤(grow12 s).toNat∧(grow12 s).toNat≤4096:=by
 have hb:=h.bnd
 have hm:=h.many
 have hr:=h.room
 have:=(size_bd12 (grow_size12 hb hg))
 by_cases h1:(s.B.length:Int)≤2 * s.many
 · rw [grow_yes12 h1] at hg this ⊢;omega
 · rw [grow_no12 h1] at hg this ⊢;omega
theorem with_full12 (s:Sto12) (A:Option Addr) (c:Nat) (w:World) (h:InS w s A c) (hr:Rt12 s) (hc:3 * (s.B.length:Int) < 4 * (s.many + s.gone + 1)) (hg:4096 < grow12 s) :
  Calls Tryz.prog 114 #[stoV s A c] w fun e w'=>∃ A1 c1,e=.returned (.tuple #[stoV (⟨[],0,0⟩:Sto12) A1 c1,.int .i64 20])∧RowB w' w.heap.size A1 c1 (⟨[],0,0⟩:Sto12).B∧Below w.heap.size w w':=by
 have hb:=hr.bnd
 have HW:=Lib.hid (fun W=>crowded_any12 A s.B.length c s.many s.gone 1 W (.inr rfl) hb.len.2 hb.many hb.gone)
 rw [decide_eq_true hc] at HW
 have HN:=Lib.hid (fun W=>bnew_any12 (grow12 s) W)
 have hl:=hb.len
 have hm:=hb.many
 have w1:=IntWalk.i64_in (2 * s.many) (by omega)
 have w2:=IntWalk.i64_in ((s.B.length:Int) * 2) (by omega)
 obtain ⟨W0,hW0⟩:∃ W,W=(w.alloc (.cells (stoA s A c) 31)).alloc (.cells #[.slice none 0 0,.int .i64 0,.int .i64 0] 31):=⟨_,rfl⟩
 have i1:Is W0 w.heap.size 31 (stoA s A c):=by rw [hW0];exact heap_alloc2_old w _ _
 have i2:Is W0 (w.heap.size + 1) 31 #[.slice none 0 0,.int .i64 0,.int .i64 0]:=by rw [hW0];exact heap_alloc2_new w _ _
 have hB0:Below w.heap.size w W0:=by rw [hW0];exact ((Below.refl _ _).alloc (Nat.le_refl _) _).alloc (by simp) _
 rw [grow_big12 hg] at HN
 have HG:=Lib.hid hg
 clear hc hr hb h hg
 go_enter Tryz.func114,Tryz.ntmps114
 go_wp2_with fail
 rw [← hW0]
 clear hW0
 go_wp2_with (refine wpList_load_row rfl 31 _ rfl w.heap.size rfl _ _ _ _ i1 Tryz.underlying31 rfl infoSto12 ?_)
 refine (HW.out _).mono ?_
 rintro e W1 ⟨rfl,hb1⟩
 have j1:=i1.below hb1 i1.lt
 have j2:=i2.below hb1 i2.lt
 have hB1:=hB0.trans (hb1.mono hB0.size)
 have c0:W1.cell? ⟨w.heap.size,0,none⟩=some (.slice A s.B.length c):=j1.cell 0
 have c1:W1.cell? ⟨w.heap.size,1,none⟩=some (.int .i64 s.many):=j1.cell 1
 clear i1 i2 hB0 hb1 HW
 by_cases h1:(s.B.length:Int)≤2 * s.many
 ·
  rw [grow_yes12 h1] at HN HG
  rw [Int.mul_comm] at HN
  go_wp2_with fail
  refine (HN.out _).mono ?_
  rintro e W2 ⟨A1,c1,rfl,_,hb2⟩
  have k2:=(j2.below hb2 j2.lt).alloc (.cells (stoA ⟨[],0,0⟩ A1 c1) 31)
  have hB2:=(hB1.trans (hb2.mono hB1.size)).alloc (Nat.le_trans hB1.size hb2.size) (.cells (stoA ⟨[],0,0⟩ A1 c1) 31)
  have kA:Is (W2.alloc (.cells #[.slice none 0 0,.int .i64 0,.int .i64 0] 31)) W2.heap.size 31 #[.slice none 0 0,.int .i64 0,.int .i64 0]:=Is.new _ _ _
  have HO1:=Lib.hid (stoA_one12 ⟨[],0,0⟩ A1 c1)
  have HO2:=Lib.hid (stoA_one12 ⟨[],0,0⟩ none 0)
  go_wp2_with (refine wpList_store_row rfl 31 _ _ rfl (w.heap.size + 1) #[.slice none 0 0,.int .i64 0,.int .i64 0] rfl rfl 31 _ k2 infoSto12 rfl HO2.out ?_)
  exact bodyPost_ret (results_row_tmp Tryz.results114 _ _ (w.heap.size + 1) 31 _ (0,0) _ rfl (k2.row _) Tryz.underlying31 rfl infoSto12) rfl ⟨none,0,rfl,RowV.nil _ _ _ _,belowRow hB2 (by omega) _⟩
 ·
  rw [grow_no12 h1] at HN HG
  go_wp2_with fail
  refine (HN.out _).mono ?_
  rintro e W2 ⟨A1,c1,rfl,_,hb2⟩
  have k2:=(j2.below hb2 j2.lt).alloc (.cells (stoA ⟨[],0,0⟩ A1 c1) 31)
  have hB2:=(hB1.trans (hb2.mono hB1.size)).alloc (Nat.le_trans hB1.size hb2.size) (.cells (stoA ⟨[],0,0⟩ A1 c1) 31)
  have kA:Is (W2.alloc (.cells #[.slice none 0 0,.int .i64 0,.int .i64 0] 31)) W2.heap.size 31 #[.slice none 0 0,.int .i64 0,.int .i64 0]:=Is.new _ _ _
  have HO1:=Lib.hid (stoA_one12 ⟨[],0,0⟩ A1 c1)
  have HO2:=Lib.hid (stoA_one12 ⟨[],0,0⟩ none 0)
  go_wp2_with (refine wpList_store_row rfl 31 _ _ rfl (w.heap.size + 1) #[.slice none 0 0,.int .i64 0,.int .i64 0] rfl rfl 31 _ k2 infoSto12 rfl HO2.out ?_)
  exact bodyPost_ret (results_row_tmp Tryz.results114 _ _ (w.heap.size + 1) 31 _ (0,0) _ rfl (k2.row _) Tryz.underlying31 rfl infoSto12) rfl ⟨none,0,rfl,RowV.nil _ _ _ _,belowRow hB2 (by omega) _⟩
theorem with_anew12 (s:Sto12) (A:Option Addr) (c:Nat) (w:World) (h:InS w s A c) (hr:Rt12 s) (hc:3 * (s.B.length:Int) < 4 * (s.many + s.gone + 1)) (hg:¬ 4096 < grow12 s) :
  Calls Tryz.prog 114 #[stoV s A c] w fun e w'=>∃ A1 c1,e=.returned (.tuple #[stoV (⟨fold12 (new12 (grow12 s).toNat) (us12 s.B),s.many,0⟩:Sto12) A1 c1,.int .i64 0])∧RowB w' w.heap.size A1 c1 (⟨fold12 (new12 (grow12 s).toNat) (us12 s.B),s.many,0⟩:Sto12).B∧Below w.heap.size w w':=by
 have hb:=hr.bnd
 have HW:=Lib.hid (fun W=>crowded_any12 A s.B.length c s.many s.gone 1 W (.inr rfl) hb.len.2 hb.many hb.gone)
 rw [decide_eq_true hc] at HW
 have HN:=Lib.hid (fun W=>bnew_any12 (grow12 s) W)
 have hl:=hb.len
 have hm:=hb.many
 have w1:=IntWalk.i64_in (2 * s.many) (by omega)
 have w2:=IntWalk.i64_in ((s.B.length:Int) * 2) (by omega)
 obtain ⟨W0,hW0⟩:∃ W,W=(w.alloc (.cells (stoA s A c) 31)).alloc (.cells #[.slice none 0 0,.int .i64 0,.int .i64 0] 31):=⟨_,rfl⟩
 have i1:Is W0 w.heap.size 31 (stoA s A c):=by rw [hW0];exact heap_alloc2_old w _ _
 have i2:Is W0 (w.heap.size + 1) 31 #[.slice none 0 0,.int .i64 0,.int .i64 0]:=by rw [hW0];exact heap_alloc2_new w _ _
 have hB0:Below w.heap.size w W0:=by rw [hW0];exact ((Below.refl _ _).alloc (Nat.le_refl _) _).alloc (by simp) _
 rw [grow_ok12 (grow_size12 hb hg)] at HN
 have hgr:=grow_room12 hr hg
 have HST:=Lib.hid (fun (i:Nat) (b:Bkt12) (hx:(us12 s.B)[i]?=some b)=>fold_step12 hr.ok (show cnt12 s.B 1≤(grow12 s).toNat by omega) hx)
 have HLN:=Lib.hid (fun (i:Nat)=>by
  have:=(us_part12 hr.ok (show cnt12 s.B 1≤(grow12 s).toNat by omega) i).len
  rwa [new_len12] at this)
 generalize (grow12 s).toNat=N at *
 have HGR:=Lib.hid hgr
 have HI:=Lib.hid h
 have HM:=Lib.hid (show ((us12 s.B).length:Int)=s.many by rw [us_len12];exact hr.many)
 have HUM:=Lib.hid (show (us12 s.B).length≤4096 by rw [us_len12];have:=hr.many;omega)
 clear hc hr hb h hg hgr
 refine (callsIn_wide (n:=5)).1 ?_
 refine callsIn_of_wp_marks Tryz.func114 rfl trivial ?_ rfl
 simp only [Tryz.ntmps114,List.size_toArray,List.length_cons,List.length_nil,Nat.reduceAdd,Nat.reduceSub,Array.replicate_succ,Array.replicate_zero,List.push_toArray,List.append_toArray,List.nil_append,List.cons_append]
 gi_wp2_with fail
 rw [← hW0]
 clear hW0
 gi_wp2_with (refine wpListIn_load_rowI rfl 31 _ rfl w.heap.size rfl  i1 Tryz.underlying31 rfl infoSto12 ?_)
 refine ⟨trivial,(callsIn_wide.2 (HW.out _)).mono ?_⟩
 rintro e W1 ⟨rfl,hb1⟩
 have j1:=i1.below hb1 i1.lt
 have j2:=i2.below hb1 i2.lt
 have hB1:=hB0.trans (hb1.mono hB0.size)
 have c0:W1.cell? ⟨w.heap.size,0,none⟩=some (.slice A s.B.length c):=j1.cell 0
 have c1:W1.cell? ⟨w.heap.size,1,none⟩=some (.int .i64 s.many):=j1.cell 1
 clear i1 i2 hB0 hb1 HW
 by_cases h1:(s.B.length:Int)≤2 * s.many
 ·
  rw [grow_yes12 h1] at HN
  rw [Int.mul_comm] at HN
  gi_wp2_with fail
  refine ⟨trivial,(callsIn_wide.2 (HN.out _)).mono ?_⟩
  rintro e W2 ⟨A1,q1,rfl,hr2,hb2⟩
  obtain ⟨g,cur,rfl,hgb,hgc,hz⟩:=hr2.open (by rw [new_len12];have:=HGR.out;omega)
  have hgl:=hgc.lt
  clear hgc hz cur
  have k1:=(j1.below hb2 j1.lt).alloc (.cells (stoA ⟨new12 N,0,0⟩ (some ⟨g,0,none⟩) q1) 31)
  have k2:=(j2.below hb2 j2.lt).alloc (.cells (stoA ⟨new12 N,0,0⟩ (some ⟨g,0,none⟩) q1) 31)
  have hBB:=hB1.size
  have hj2:=j2.lt
  have hB2:=(hB1.trans (hb2.mono hB1.size)).alloc (Nat.le_trans hB1.size hb2.size) (.cells (stoA ⟨new12 N,0,0⟩ (some ⟨g,0,none⟩) q1) 31)
  have kR:RowB (W2.alloc (.cells (stoA ⟨new12 N,0,0⟩ (some ⟨g,0,none⟩) q1) 31)) w.heap.size (some ⟨g,0,none⟩) q1 (new12 N):=(hr2.mono hB1.size).alloc _
  have kA:Is (W2.alloc (.cells (stoA ⟨new12 N,0,0⟩ (some ⟨g,0,none⟩) q1) 31)) W2.heap.size 31 (stoA ⟨new12 N,0,0⟩ (some ⟨g,0,none⟩) q1):=Is.new _ _ _
  have hs2:=hb2.size
  have hsz:(W2.alloc (.cells (stoA ⟨new12 N,0,0⟩ (some ⟨g,0,none⟩) q1) 31)).heap.size=W2.heap.size + 1:=by simp
  have HSZ:=Lib.hid hsz
  clear j1 j2 hB1 hr2 hb2 HN c0 c1 hsz
  gi_wp2_with (refine wpListIn_load_rowI rfl 31 _ rfl w.heap.size rfl k1 Tryz.underlying31 rfl infoSto12 ?_)
  refine ⟨trivial,(callsIn_wide.2 (used_any12 _ _ _ _)).mono ?_⟩
  rintro e W' ⟨rfl,rfl⟩
  have hsz:=HSZ.out
  gi_wp2_with fail
  have i2:=k2.alloc (.cells (stoA s A c) 31)
  have iA:=kA.alloc (.cells (stoA s A c) 31)
  have iR:RowB ((W2.alloc (.cells (stoA ⟨new12 N,0,0⟩ (some ⟨g,0,none⟩) q1) 31)).alloc (.cells (stoA s A c) 31)) w.heap.size (some ⟨g,0,none⟩) q1 (new12 N):=RowV.alloc kR (.cells (stoA s A c) 31)
  have iN:Is ((W2.alloc (.cells (stoA ⟨new12 N,0,0⟩ (some ⟨g,0,none⟩) q1) 31)).alloc (.cells (stoA s A c) 31)) (W2.heap.size + 1) 31 (stoA s A c):=by rw [← hsz];exact Is.new _ _ _
  have hb:=hB2.alloc (by rw [hsz];omega) (.cells (stoA s A c) 31)
  have hs3:=iN.lt
  clear k1 k2 kA kR hB2 hsz HSZ
  generalize (W2.alloc (.cells (stoA ⟨new12 N,0,0⟩ (some ⟨g,0,none⟩) q1) 31)).alloc (.cells (stoA s A c) 31)=W3 at *
  generalize W2.heap.size=D5 at *
  refine wpIn_rangeL rfl (by omega) (gf:=104) (lb:=#[.pointer (some ⟨D5 + 1,0,none⟩)]) rfl trivial (enters_of Tryz.func104 (by kernel_rfl) rfl) (S:=fun k=>k < w.heap.size∨k=D5 + 1)
   (used_seq12 4 (by omega) (D5 + 1) _ _ _ A c s.B W3 iN rfl (HI.out.b.keep hb) (by have:=HI.out.fit;omega) _ (.inr rfl) (fun p e hn=>.inl (HI.out.b.blkB p e hn)))
   (Stay.refl _ _) (fun k hk=>by have:=hb.size;omega) (fun _=>rfl)
   (fun i W=>Below w.heap.size w W∧Is W (w.heap.size + 1) 31 #[.slice none 0 0,.int .i64 0,.int .i64 0]∧Is W D5 31 (stoA ⟨fold12 (new12 N) ((us12 s.B).take i),(i:Int),0⟩ (some ⟨g,0,none⟩) q1)∧RowB W w.heap.size (some ⟨g,0,none⟩) q1 (fold12 (new12 N) ((us12 s.B).take i)))
   (fun _ _ _=>False)
   (fun s X Y row hs hg hr=>⟨belowOwn12 hs.1 hs.1.size (by omega) hg hr,isOwn12 hs.2.1 hg hr,isOwn12 hs.2.2.1 hg hr,RowV.keptT hs.2.2.2 hg (fun r e=>(hr r e).2)⟩)
   (fun c s X Y row hs hg hr=>hs.elim)
   ⟨hb,i2,iA,iR⟩ ?round ?done ?stop
  case round =>
   rintro l i ⟨st,xl,xc⟩ W hl hlt hx ⟨hb,j2,jA,jR⟩
   gi_wp2
   refine ⟨(Stay.refl _ _).grown (World.grownBy_alloc _ _ none) (fun r e=>by cases e),⟨hb.alloc hb.size _,j2.alloc _,jA.alloc _,RowV.alloc jR _⟩,fun W'=>Is W' W.heap.size 70 #[.int .i64 st,.string xl,.string xc],fun _ X Y row hs hg hr=>isOwn12 hs hg hr,Is.new _ _ _,?_⟩
   clear hb j2 jA jR
   rintro W4 hl4 ⟨hb,j2,jA,jR⟩ iX
   obtain ⟨k,hk⟩:=HST.out i _ hx
   have hi:i < (us12 s.B).length:=(List.getElem?_eq_some_iff.1 hx).1
   have hu:=HUM.out
   have hN:=HGR.out
   have hlen:=HLN.out i
   have hgl4:g < W4.heap.size:=by omega
   have hadd:add12 ⟨fold12 (new12 N) ((us12 s.B).take i),(i:Int),0⟩ k xl xc=⟨fold12 (new12 N) ((us12 s.B).take (i + 1)),((i + 1:Nat):Int),0⟩:=by
    rw [add12,hk.next]
    simp only [Sto12.mk.injEq,true_and]
    exact ⟨rfl,if_neg hk.st⟩
   have CA:=added_any12 ⟨fold12 (new12 N) ((us12 s.B).take i),(i:Int),0⟩ (some ⟨g,0,none⟩) q1 w.heap.size k xl xc W4 jR (by show 0 < (fold12 (new12 N) ((us12 s.B).take i)).length;rw [hlen];omega) (by show (fold12 (new12 N) ((us12 s.B).take i)).length≤4096;rw [hlen];omega) hk.all hk.gap (by show -1000000≤(i:Int)∧(i:Int)≤1000000;omega) (by show (-1000000:Int)≤0∧(0:Int)≤1000000;omega)
   rw [hadd] at CA
   have HCA:=Lib.hid CA
   have q1':W4.cell? ⟨W.heap.size,1,none⟩=some (.string xl):=iX.cell 1
   have q2':W4.cell? ⟨W.heap.size,2,none⟩=some (.string xc):=iX.cell 2
   have HONE:=Lib.hid (stoA_one12 ⟨fold12 (new12 N) ((us12 s.B).take (i + 1)),((i + 1:Nat):Int),0⟩ (some ⟨g,0,none⟩) q1)
   have HJ2:=Lib.hid j2
   have HJA:=Lib.hid jA
   have HJR:=Lib.hid jR
   have HIL:=Lib.hid hi
   clear hx hk iX j2 jA jR CA hadd hlen hN hu hi
   gi_wp2_with (refine wpListIn_load_rowI rfl 31 _ rfl D5 rfl HJA.out Tryz.underlying31 rfl infoSto12 ?_)
   refine ⟨trivial,(callsIn_round12 HCA.out).mono ?_⟩
   rintro e W5 ⟨rfl,hR5,hg5⟩
   have hg5:W4.grownBy W5 (some g):=hg5
   have hne:∀ r,some g=some r→¬ ((fun k=>(k < w.heap.size∨k=D5 + 1)∨W3.heap.size≤k) r)∨W4.heap.size≤r:=fun r e=>by cases e;exact .inl (by simp only [];omega)
   have s5:Stay (fun k=>(k < w.heap.size∨k=D5 + 1)∨W3.heap.size≤k) W4 W5:=(Stay.refl _ _).grown hg5 hne
   have k2:=(hg5.block _ HJ2.out.lt (by intro e;have:=Option.some.inj e;omega)).trans HJ2.out
   have kA:=(hg5.block _ HJA.out.lt (by intro e;have:=Option.some.inj e;omega)).trans HJA.out
   have hB5:=hb.grown hg5 hb.size (fun k e=>by cases e;omega)
   gi_wp2_with (refine wpListIn_store_rowI rfl 31 _ _ rfl D5 (stoA ⟨fold12 (new12 N) ((us12 s.B).take (i + 1)),((i + 1:Nat):Int),0⟩ (some ⟨g,0,none⟩) q1) rfl rfl kA infoSto12 rfl HONE.out ?_)
   exact ⟨s5.grown (grownRowG W5 D5 _) (fun r e=>by cases e;exact .inl (by show ¬ ((D5 < w.heap.size∨D5=D5 + 1)∨W3.heap.size≤D5);omega)),belowRow hB5 (by omega) _,Is.rowFar k2 (by omega) _,Is.row kA _,RowV.rowFar hR5 kA (by decide) _⟩
  case done =>
   rintro D W hD ⟨hb,j2,jA,jR⟩ hK
   rw [List.take_length] at jA jR
   rw [HM.out] at jA
   have HONE:=Lib.hid (stoA_one12 ⟨fold12 (new12 N) (us12 s.B),s.many,0⟩ (some ⟨g,0,none⟩) q1)
   have hK2:(W.setRow (w.heap.size + 1) (stoA ⟨fold12 (new12 N) (us12 s.B),s.many,0⟩ (some ⟨g,0,none⟩) q1)).heap[D]?=some (.deferred (some [])):=(setRow_other _ _ D _ (by omega)).trans hK
   have HK:=Lib.hid hK2
   have HJR:=Lib.hid jR
   clear hK hK2 jR
   gi_wp2_with (first | (refine wpListIn_load_rowI rfl 31 _ rfl D5 rfl jA Tryz.underlying31 rfl infoSto12 ?_) | (refine wpListIn_store_rowI rfl 31 _ _ rfl (w.heap.size + 1) (stoA ⟨fold12 (new12 N) (us12 s.B),s.many,0⟩ (some ⟨g,0,none⟩) q1) rfl rfl j2 infoSto12 rfl HONE.out ?_))
   refine ⟨by simp,.inl ⟨_,_,rfl,run_takeDeferred HK.out,?_⟩⟩
   have hgr:=grownBy_putObj' (W.setRow (w.heap.size + 1) (stoA ⟨fold12 (new12 N) (us12 s.B),s.many,0⟩ (some ⟨g,0,none⟩) q1)) D (.deferred none)
   have hrr:∀ r,some D=some r→W3.heap.size≤r∧∃ o:Obj,(W.setRow (w.heap.size + 1) (stoA ⟨fold12 (new12 N) (us12 s.B),s.many,0⟩ (some ⟨g,0,none⟩) q1)).heap[r]?=some o∧o.isCells=false:=fun r e=>by cases e;exact ⟨hD,_,HK.out,rfl⟩
   have zb:=belowRow hb (g:=w.heap.size + 1) (by omega) (stoA ⟨fold12 (new12 N) (us12 s.B),s.many,0⟩ (some ⟨g,0,none⟩) q1)
   exact ⟨_,results_row_tmp Tryz.results114 _ _ (w.heap.size + 1) 31 _ (0,0) _ rfl (isOwn12 (j2.row _) hgr hrr) Tryz.underlying31 rfl infoSto12,some ⟨g,0,none⟩,q1,rfl,RowV.keptT (RowV.rowFar HJR.out j2 (by decide) _) hgr (fun r e=>(hrr r e).2),belowOwn12 zb zb.size (by omega) hgr hrr⟩
  case stop=>exact fun _ _ _ _ _ h=>h.elim
 ·
  rw [grow_no12 h1] at HN
  gi_wp2_with fail
  refine ⟨trivial,(callsIn_wide.2 (HN.out _)).mono ?_⟩
  rintro e W2 ⟨A1,q1,rfl,hr2,hb2⟩
  obtain ⟨g,cur,rfl,hgb,hgc,hz⟩:=hr2.open (by rw [new_len12];have:=HGR.out;omega)
  have hgl:=hgc.lt
  clear hgc hz cur
  have k1:=(j1.below hb2 j1.lt).alloc (.cells (stoA ⟨new12 N,0,0⟩ (some ⟨g,0,none⟩) q1) 31)
  have k2:=(j2.below hb2 j2.lt).alloc (.cells (stoA ⟨new12 N,0,0⟩ (some ⟨g,0,none⟩) q1) 31)
  have hBB:=hB1.size
  have hj2:=j2.lt
  have hB2:=(hB1.trans (hb2.mono hB1.size)).alloc (Nat.le_trans hB1.size hb2.size) (.cells (stoA ⟨new12 N,0,0⟩ (some ⟨g,0,none⟩) q1) 31)
  have kR:RowB (W2.alloc (.cells (stoA ⟨new12 N,0,0⟩ (some ⟨g,0,none⟩) q1) 31)) w.heap.size (some ⟨g,0,none⟩) q1 (new12 N):=(hr2.mono hB1.size).alloc _
  have kA:Is (W2.alloc (.cells (stoA ⟨new12 N,0,0⟩ (some ⟨g,0,none⟩) q1) 31)) W2.heap.size 31 (stoA ⟨new12 N,0,0⟩ (some ⟨g,0,none⟩) q1):=Is.new _ _ _
  have hs2:=hb2.size
  have hsz:(W2.alloc (.cells (stoA ⟨new12 N,0,0⟩ (some ⟨g,0,none⟩) q1) 31)).heap.size=W2.heap.size + 1:=by simp
  have HSZ:=Lib.hid hsz
  clear j1 j2 hB1 hr2 hb2 HN c0 c1 hsz
  gi_wp2_with (refine wpListIn_load_rowI rfl 31 _ rfl w.heap.size rfl k1 Tryz.underlying31 rfl infoSto12 ?_)
  refine ⟨trivial,(callsIn_wide.2 (used_any12 _ _ _ _)).mono ?_⟩
  rintro e W' ⟨rfl,rfl⟩
  have hsz:=HSZ.out
  gi_wp2_with fail
  have i2:=k2.alloc (.cells (stoA s A c) 31)
  have iA:=kA.alloc (.cells (stoA s A c) 31)
  have iR:RowB ((W2.alloc (.cells (stoA ⟨new12 N,0,0⟩ (some ⟨g,0,none⟩) q1) 31)).alloc (.cells (stoA s A c) 31)) w.heap.size (some ⟨g,0,none⟩) q1 (new12 N):=RowV.alloc kR (.cells (stoA s A c) 31)
  have iN:Is ((W2.alloc (.cells (stoA ⟨new12 N,0,0⟩ (some ⟨g,0,none⟩) q1) 31)).alloc (.cells (stoA s A c) 31)) (W2.heap.size + 1) 31 (stoA s A c):=by rw [← hsz];exact Is.new _ _ _
  have hb:=hB2.alloc (by rw [hsz];omega) (.cells (stoA s A c) 31)
  have hs3:=iN.lt
  clear k1 k2 kA kR hB2 hsz HSZ
  generalize (W2.alloc (.cells (stoA ⟨new12 N,0,0⟩ (some ⟨g,0,none⟩) q1) 31)).alloc (.cells (stoA s A c) 31)=W3 at *
  generalize W2.heap.size=D5 at *
  refine wpIn_rangeL rfl (by omega) (gf:=104) (lb:=#[.pointer (some ⟨D5 + 1,0,none⟩)]) rfl trivial (enters_of Tryz.func104 (by kernel_rfl) rfl) (S:=fun k=>k < w.heap.size∨k=D5 + 1)
   (used_seq12 4 (by omega) (D5 + 1) _ _ _ A c s.B W3 iN rfl (HI.out.b.keep hb) (by have:=HI.out.fit;omega) _ (.inr rfl) (fun p e hn=>.inl (HI.out.b.blkB p e hn)))
   (Stay.refl _ _) (fun k hk=>by have:=hb.size;omega) (fun _=>rfl)
   (fun i W=>Below w.heap.size w W∧Is W (w.heap.size + 1) 31 #[.slice none 0 0,.int .i64 0,.int .i64 0]∧Is W D5 31 (stoA ⟨fold12 (new12 N) ((us12 s.B).take i),(i:Int),0⟩ (some ⟨g,0,none⟩) q1)∧RowB W w.heap.size (some ⟨g,0,none⟩) q1 (fold12 (new12 N) ((us12 s.B).take i)))
   (fun _ _ _=>False)
   (fun s X Y row hs hg hr=>⟨belowOwn12 hs.1 hs.1.size (by omega) hg hr,isOwn12 hs.2.1 hg hr,isOwn12 hs.2.2.1 hg hr,RowV.keptT hs.2.2.2 hg (fun r e=>(hr r e).2)⟩)
   (fun c s X Y row hs hg hr=>hs.elim)
   ⟨hb,i2,iA,iR⟩ ?round ?done ?stop
  case round =>
   rintro l i ⟨st,xl,xc⟩ W hl hlt hx ⟨hb,j2,jA,jR⟩
   gi_wp2
   refine ⟨(Stay.refl _ _).grown (World.grownBy_alloc _ _ none) (fun r e=>by cases e),⟨hb.alloc hb.size _,j2.alloc _,jA.alloc _,RowV.alloc jR _⟩,fun W'=>Is W' W.heap.size 70 #[.int .i64 st,.string xl,.string xc],fun _ X Y row hs hg hr=>isOwn12 hs hg hr,Is.new _ _ _,?_⟩
   clear hb j2 jA jR
   rintro W4 hl4 ⟨hb,j2,jA,jR⟩ iX
   obtain ⟨k,hk⟩:=HST.out i _ hx
   have hi:i < (us12 s.B).length:=(List.getElem?_eq_some_iff.1 hx).1
   have hu:=HUM.out
   have hN:=HGR.out
   have hlen:=HLN.out i
   have hgl4:g < W4.heap.size:=by omega
   have hadd:add12 ⟨fold12 (new12 N) ((us12 s.B).take i),(i:Int),0⟩ k xl xc=⟨fold12 (new12 N) ((us12 s.B).take (i + 1)),((i + 1:Nat):Int),0⟩:=by
    rw [add12,hk.next]
    simp only [Sto12.mk.injEq,true_and]
    exact ⟨rfl,if_neg hk.st⟩
   have CA:=added_any12 ⟨fold12 (new12 N) ((us12 s.B).take i),(i:Int),0⟩ (some ⟨g,0,none⟩) q1 w.heap.size k xl xc W4 jR (by show 0 < (fold12 (new12 N) ((us12 s.B).take i)).length;rw [hlen];omega) (by show (fold12 (new12 N) ((us12 s.B).take i)).length≤4096;rw [hlen];omega) hk.all hk.gap (by show -1000000≤(i:Int)∧(i:Int)≤1000000;omega) (by show (-1000000:Int)≤0∧(0:Int)≤1000000;omega)
   rw [hadd] at CA
   have HCA:=Lib.hid CA
   have q1':W4.cell? ⟨W.heap.size,1,none⟩=some (.string xl):=iX.cell 1
   have q2':W4.cell? ⟨W.heap.size,2,none⟩=some (.string xc):=iX.cell 2
   have HONE:=Lib.hid (stoA_one12 ⟨fold12 (new12 N) ((us12 s.B).take (i + 1)),((i + 1:Nat):Int),0⟩ (some ⟨g,0,none⟩) q1)
   have HJ2:=Lib.hid j2
   have HJA:=Lib.hid jA
   have HJR:=Lib.hid jR
   have HIL:=Lib.hid hi
   clear hx hk iX j2 jA jR CA hadd hlen hN hu hi
   gi_wp2_with (refine wpListIn_load_rowI rfl 31 _ rfl D5 rfl HJA.out Tryz.underlying31 rfl infoSto12 ?_)
   refine ⟨trivial,(callsIn_round12 HCA.out).mono ?_⟩
   rintro e W5 ⟨rfl,hR5,hg5⟩
   have hg5:W4.grownBy W5 (some g):=hg5
   have hne:∀ r,some g=some r→¬ ((fun k=>(k < w.heap.size∨k=D5 + 1)∨W3.heap.size≤k) r)∨W4.heap.size≤r:=fun r e=>by cases e;exact .inl (by simp only [];omega)
   have s5:Stay (fun k=>(k < w.heap.size∨k=D5 + 1)∨W3.heap.size≤k) W4 W5:=(Stay.refl _ _).grown hg5 hne
   have k2:=(hg5.block _ HJ2.out.lt (by intro e;have:=Option.some.inj e;omega)).trans HJ2.out
   have kA:=(hg5.block _ HJA.out.lt (by intro e;have:=Option.some.inj e;omega)).trans HJA.out
   have hB5:=hb.grown hg5 hb.size (fun k e=>by cases e;omega)
   gi_wp2_with (refine wpListIn_store_rowI rfl 31 _ _ rfl D5 (stoA ⟨fold12 (new12 N) ((us12 s.B).take (i + 1)),((i + 1:Nat):Int),0⟩ (some ⟨g,0,none⟩) q1) rfl rfl kA infoSto12 rfl HONE.out ?_)
   exact ⟨s5.grown (grownRowG W5 D5 _) (fun r e=>by cases e;exact .inl (by show ¬ ((D5 < w.heap.size∨D5=D5 + 1)∨W3.heap.size≤D5);omega)),belowRow hB5 (by omega) _,Is.rowFar k2 (by omega) _,Is.row kA _,RowV.rowFar hR5 kA (by decide) _⟩
  case done =>
   rintro D W hD ⟨hb,j2,jA,jR⟩ hK
   rw [List.take_length] at jA jR
   rw [HM.out] at jA
   have HONE:=Lib.hid (stoA_one12 ⟨fold12 (new12 N) (us12 s.B),s.many,0⟩ (some ⟨g,0,none⟩) q1)
   have hK2:(W.setRow (w.heap.size + 1) (stoA ⟨fold12 (new12 N) (us12 s.B),s.many,0⟩ (some ⟨g,0,none⟩) q1)).heap[D]?=some (.deferred (some [])):=(setRow_other _ _ D _ (by omega)).trans hK
   have HK:=Lib.hid hK2
   have HJR:=Lib.hid jR
   clear hK hK2 jR
   gi_wp2_with (first | (refine wpListIn_load_rowI rfl 31 _ rfl D5 rfl jA Tryz.underlying31 rfl infoSto12 ?_) | (refine wpListIn_store_rowI rfl 31 _ _ rfl (w.heap.size + 1) (stoA ⟨fold12 (new12 N) (us12 s.B),s.many,0⟩ (some ⟨g,0,none⟩) q1) rfl rfl j2 infoSto12 rfl HONE.out ?_))
   refine ⟨by simp,.inl ⟨_,_,rfl,run_takeDeferred HK.out,?_⟩⟩
   have hgr:=grownBy_putObj' (W.setRow (w.heap.size + 1) (stoA ⟨fold12 (new12 N) (us12 s.B),s.many,0⟩ (some ⟨g,0,none⟩) q1)) D (.deferred none)
   have hrr:∀ r,some D=some r→W3.heap.size≤r∧∃ o:Obj,(W.setRow (w.heap.size + 1) (stoA ⟨fold12 (new12 N) (us12 s.B),s.many,0⟩ (some ⟨g,0,none⟩) q1)).heap[r]?=some o∧o.isCells=false:=fun r e=>by cases e;exact ⟨hD,_,HK.out,rfl⟩
   have zb:=belowRow hb (g:=w.heap.size + 1) (by omega) (stoA ⟨fold12 (new12 N) (us12 s.B),s.many,0⟩ (some ⟨g,0,none⟩) q1)
   exact ⟨_,results_row_tmp Tryz.results114 _ _ (w.heap.size + 1) 31 _ (0,0) _ rfl (isOwn12 (j2.row _) hgr hrr) Tryz.underlying31 rfl infoSto12,some ⟨g,0,none⟩,q1,rfl,RowV.keptT (RowV.rowFar HJR.out j2 (by decide) _) hgr (fun r e=>(hrr r e).2),belowOwn12 zb zb.size (by omega) hgr hrr⟩
  case stop=>exact fun _ _ _ _ _ h=>h.elim
end Go.Proofs.YtmggbbmpckcleaaGreat
namespace Go.Proofs.YtmggbbmpckcleaaGreat
open Go.RowKit Go.Shelf
theorem with_any12 (s:Sto12) (A:Option Addr) (c:Nat) (w:World) (h:InS w s A c) (hr:Rt12 s) :
  Calls Tryz.prog 114 #[stoV s A c] w fun e w'=>∃ A1 c1,e=.returned (.tuple #[stoV (roomV12 s).1 A1 c1,.int .i64 (roomV12 s).2])∧RowB w' w.heap.size A1 c1 (roomV12 s).1.B∧Below w.heap.size w w':=by
 rw [roomV12]
 by_cases hc:3 * (s.B.length:Int) < 4 * (s.many + s.gone + 1)
 ·
  rw [if_pos hc]
  by_cases hg:4096 < grow12 s
  · rw [if_pos hg];exact with_full12 s A c w h hr hc hg
  · rw [if_neg hg];exact with_anew12 s A c w h hr hc hg
 · rw [if_neg hc];exact with_no12 s A c w h hr hc
theorem getV_no12 {s:Sto12} {l:ByteArray} (h:right12 s=false):getV12 s l=(⟨#[]⟩,false):=by rw [getV12,h];rfl
theorem getV_hit12 {s:Sto12} {l:ByteArray} {k:Nat} (h:right12 s=true) (hk:plc12 s.B l=some k):getV12 s l=((at12 s.B k).c,true):=by rw [getV12,if_pos h,mp12,hk];rfl
theorem getV_miss12 {s:Sto12} {l:ByteArray} (h:right12 s=true) (hk:plc12 s.B l=none):getV12 s l=(⟨#[]⟩,false):=by rw [getV12,if_pos h,mp12,hk];rfl
theorem bget_any12 (s:Sto12) (A:Option Addr) (c:Nat) (l:ByteArray) (w:World) (h:InS w s A c) :
  Calls Tryz.prog 111 #[stoV s A c,.string l] w fun e w'=>e=.returned (.tuple #[.string (getV12 s l).1,.bool (getV12 s l).2])∧Below w.heap.size w w':=by
 have HB:=Lib.hid (fun W (hB:Below w.heap.size w W)=>bright_any12 s A c W (h.keep hB))
 have HI:=Lib.hid h
 have i0:=Is.new w 31 (stoA s A c)
 have hB0:Below w.heap.size w (w.alloc (.cells (stoA s A c) 31)):=(Below.refl _ _).alloc (Nat.le_refl _) _
 obtain ⟨R,hR⟩:∃ R,R=getV12 s l:=⟨_,rfl⟩
 rw [← hR]
 cases hr:right12 s with
 | false =>
  rw [hr] at HB
  have HR:=Lib.hid (hR.trans (getV_no12 hr))
  clear hr hR h
  go_enter Tryz.func111,Tryz.ntmps111
  go_wp2_with (first | (refine wpList_load_row rfl 31 _ rfl w.heap.size rfl _ _ _ _ i0 Tryz.underlying31 rfl infoSto12 ?_) | (go_at_call 29;refine (HB.out _ hB0).mono ?_;rintro e w1 ⟨rfl,hb⟩))
  go_ret2
  exact ⟨by rw [HR.out];rfl,hB0.trans (hb.mono hB0.size)⟩
 | true =>
  rw [hr] at HB
  have hrt:=(right_iff12.1 hr).bnd
  have HF:=Lib.hid (fun W (hB:Below w.heap.size w W)=>find_any12 s A c l W (h.keep hB) (by have:=hrt.len.1;omega) hrt.len.2)
  have HLEN:=Lib.hid hrt.len
  cases hk:plc12 s.B l with
  | none =>
   rw [plcN12,plcB12,hk] at HF
   have HR:=Lib.hid (hR.trans (getV_miss12 hr hk))
   clear hr hR h hrt hk
   go_enter Tryz.func111,Tryz.ntmps111
   go_wp2_with (first | (refine wpList_load_row rfl 31 _ rfl w.heap.size rfl _ _ _ _ i0 Tryz.underlying31 rfl infoSto12 ?_) | (go_at_call 29;refine (HB.out _ hB0).mono ?_;rintro e w1 ⟨rfl,hb⟩;have hB1:=hB0.trans (hb.mono hB0.size);have i1:=i0.below hb i0.lt;clear hb) | (refine wpList_load_row rfl 31 _ rfl w.heap.size rfl _ _ _ _ i1 Tryz.underlying31 rfl infoSto12 ?_) | (go_at_call 112;refine (HF.out _ hB1).mono ?_;rintro e w2 ⟨rfl,hb2⟩))
   go_ret2
   exact ⟨by rw [HR.out];rfl,hB1.trans (hb2.mono hB1.size)⟩
  | some k =>
   rw [plcN12,plcB12,hk] at HF
   have hkl:=(plc_lt12 hk).1
   have hx:=getD_at12 hkl
   have HR:=Lib.hid (hR.trans (getV_hit12 hr hk))
   obtain ⟨b,off,hA,_,_⟩:=h.b.bkt hx
   have HQ:=Lib.hid (fun W (hB:Below w.heap.size w W)=>by
    obtain ⟨b2,off2,hA2,_,hrg⟩:=(h.keep hB).b.bkt hx
    rw [hA] at hA2
    cases hA2
    exact (show W.cell? ⟨b,off + k * 3 + 2,none⟩=some (.string (at12 s.B k).c) from hrg 2 _ rfl))
   have hk1:(k:Int) < (s.B.length:Int):=by omega
   generalize (at12 s.B k).c=y at *
   subst hA
   clear hr hR h hrt hk hx
   go_enter Tryz.func111,Tryz.ntmps111
   go_wp2_with (first | (refine wpList_load_row rfl 31 _ rfl w.heap.size rfl _ _ _ _ i0 Tryz.underlying31 rfl infoSto12 ?_) | (go_at_call 29;refine (HB.out _ hB0).mono ?_;rintro e w1 ⟨rfl,hb⟩;have hB1:=hB0.trans (hb.mono hB0.size);have i1:=i0.below hb i0.lt;clear hb) | (refine wpList_load_row rfl 31 _ rfl w.heap.size rfl _ _ _ _ i1 Tryz.underlying31 rfl infoSto12 ?_) | (go_at_call 112;refine (HF.out _ hB1).mono ?_;rintro e w2 ⟨rfl,hb2⟩;have hB2:=hB1.trans (hb2.mono hB1.size);have i2:=i1.below hb2 i1.lt;have c0:w2.cell? ⟨w.heap.size,0,none⟩=some (.slice (some ⟨b,off,none⟩) s.B.length c):=i2.cell 0;have cq:=HQ.out w2 hB2))
   go_ret2
   exact ⟨by rw [HR.out];rfl,hB2⟩
theorem results_rtt12 {P:Program} {fn:Func} {p u v:Tmp} {ty:TypeId} (h:fn.results=#[.cell p ty,.tmp u,.tmp v]) (tmps:Array Value) (w:World) (g:Nat) (t:TypeId) (cs:Array Value) (fr:Nat × Nat) (d:TypeDesc)
  (hp:tmps.getD p undef=.pointer (some ⟨g,0,none⟩)) (hg:w.heap[g]?=some (.cells cs t fr))
  (hu:P.underlying ty=some d) (hd:(match d with | .struct _ | .array _ _=>true | _=>false)=true) (hi:(P.info? ty).map (·.size)=some cs.size) :
  (results fn tmps).run P w=.ok (.tuple #[.agg cs,tmps.getD u undef,tmps.getD v undef]) w:=by
 have e:(results fn tmps).run P w=((asAddr (tmps.getD p undef)).run P w).andThen fun b w0=>((loadVar ty b).run P w0).andThen fun v0 w1=>.ok (.tuple #[v0,tmps.getD u undef,tmps.getD v undef]) w1:=by
  simp only [results,h]
  simp [Sem.run_bind,Result.andThen]
 rw [e,hp]
 simp [asAddr,run_loadVar_row w g t ty cs fr d hg hu hd hi]
theorem delV_no12 {s:Sto12} {l:ByteArray} (h:right12 s=false):delV12 s l=(s,false,1):=by rw [delV12,h];rfl
theorem delV_hit12 {s:Sto12} {l:ByteArray} {k:Nat} (h:right12 s=true) (hk:plc12 s.B l=some k):delV12 s l=(⟨s.B.set k gon12,s.many - 1,s.gone + 1⟩,true,0):=by rw [delV12,if_pos h,hk]
theorem delV_miss12 {s:Sto12} {l:ByteArray} (h:right12 s=true) (hk:plc12 s.B l=none):delV12 s l=(s,false,0):=by rw [delV12,if_pos h,hk]
theorem bdel_any12 (s:Sto12) (A:Option Addr) (c:Nat) (l:ByteArray) (w:World) (h:InS w s A c) :
  Calls Tryz.prog 91 #[stoV s A c,.string l] w fun e w'=>∃ A1 c1,e=.returned (.tuple #[stoV (delV12 s l).1 A1 c1,.bool (delV12 s l).2.1,.int .i64 (delV12 s l).2.2])∧InS w' (delV12 s l).1 A1 c1∧Below w.heap.size w w':=by
 have HB:=Lib.hid (fun W (hB:Below w.heap.size w W)=>bright_any12 s A c W (h.keep hB))
 have HI:=Lib.hid h
 obtain ⟨W0,hW0⟩:∃ W,W=(w.alloc (.cells (stoA s A c) 31)).alloc (.cells #[.slice none 0 0,.int .i64 0,.int .i64 0] 31):=⟨_,rfl⟩
 have i0:Is W0 w.heap.size 31 (stoA s A c):=by rw [hW0];exact heap_alloc2_old w _ _
 have j0:Is W0 (w.heap.size + 1) 31 #[.slice none 0 0,.int .i64 0,.int .i64 0]:=by rw [hW0];exact heap_alloc2_new w _ _
 have hB0:Below w.heap.size w W0:=by rw [hW0];exact ((Below.refl _ _).alloc (Nat.le_refl _) _).alloc (by simp) _
 have HS1:=Lib.hid (stoA_one12 s A c)
 cases hr:right12 s with
 | false =>
  rw [delV_no12 hr]
  rw [hr] at HB
  clear hr h
  go_enter Tryz.func91,Tryz.ntmps91
  go_wp2_with fail
  rw [← hW0]
  clear hW0
  go_wp2_with (first | (refine wpList_load_row rfl 31 _ rfl w.heap.size rfl _ _ _ _ i0 Tryz.underlying31 rfl infoSto12 ?_) | (go_at_call 29;refine (HB.out _ hB0).mono ?_;rintro e w1 ⟨rfl,hb⟩;have hB1:=hB0.trans (hb.mono hB0.size);have i1:=i0.below hb i0.lt;have j1:=j0.below hb j0.lt;clear hb) | (refine wpList_load_row rfl 31 _ rfl w.heap.size rfl _ _ _ _ i1 Tryz.underlying31 rfl infoSto12 ?_) | (refine wpList_store_row rfl 31 _ _ rfl (w.heap.size + 1) (stoA s A c) rfl rfl 31 _ j1 infoSto12 rfl HS1.out ?_))
  have hB2:=belowRow hB1 (g:=w.heap.size + 1) (by omega) (stoA s A c)
  exact bodyPost_ret (results_rtt12 Tryz.results91 _ _ (w.heap.size + 1) 31 _ (0,0) _ rfl (j1.row _) Tryz.underlying31 rfl infoSto12) rfl ⟨A,c,rfl,HI.out.keep hB2,hB2⟩
 | true =>
  rw [hr] at HB
  have hrt:=(right_iff12.1 hr).bnd
  have HF:=Lib.hid (fun W (hB:Below w.heap.size w W)=>find_any12 s A c l W (h.keep hB) (by have:=hrt.len.1;omega) hrt.len.2)
  have HC:=Lib.hid (fun W (hB:Below w.heap.size w W)=>copy_any12 s A c W (h.keep hB))
  have HLEN:=Lib.hid hrt.len
  have hmany:=hrt.many
  have hgone:=hrt.gone
  have w1:=IntWalk.i64_in (s.many - 1) (by omega)
  have w2:=IntWalk.i64_in (s.gone + 1) (by omega)
  cases hk:plc12 s.B l with
  | none =>
   rw [delV_miss12 hr hk]
   rw [plcN12,plcB12,hk] at HF
   clear hr h hrt hk
   go_enter Tryz.func91,Tryz.ntmps91
   go_wp2_with fail
   rw [← hW0]
   clear hW0
   go_wp2_with (first | (refine wpList_load_row rfl 31 _ rfl w.heap.size rfl _ _ _ _ i0 Tryz.underlying31 rfl infoSto12 ?_) | (go_at_call 29;refine (HB.out _ hB0).mono ?_;rintro e w1 ⟨rfl,hb⟩;have hB1:=hB0.trans (hb.mono hB0.size);have i1:=i0.below hb i0.lt;have j1:=j0.below hb j0.lt;clear hb) | (refine wpList_load_row rfl 31 _ rfl w.heap.size rfl _ _ _ _ i1 Tryz.underlying31 rfl infoSto12 ?_))
   refine (HC.out _ hB1).mono ?_
   rintro e W2 ⟨A1,c1,rfl,hr2,hb2⟩
   have hB2:=hB1.trans (hb2.mono hB1.size)
   have i2:=i1.below hb2 i1.lt
   have j2:=j1.below hb2 j1.lt
   have HS2:=Lib.hid (stoA_one12 s A1 c1)
   have HR2:=Lib.hid (RowV.alloc (hr2.mono hB1.size) (.cells (stoA s A1 c1) 31))
   have i3:=i2.alloc (.cells (stoA s A1 c1) 31)
   have j3:=j2.alloc (.cells (stoA s A1 c1) 31)
   have k3:=Is.new W2 31 (stoA s A1 c1)
   have hB3:=hB2.alloc hB2.size (.cells (stoA s A1 c1) 31)
   have hjl:=j2.lt
   clear i2 j2 hB2 hb2 hr2 i1 j1 hB1
   go_wp2_with (refine wpList_load_row rfl 31 _ rfl w.heap.size rfl _ _ _ _ i3 Tryz.underlying31 rfl infoSto12 ?_)
   refine (HF.out _ hB3).mono ?_
   rintro e W4 ⟨rfl,hb4⟩
   have hB4:=hB3.trans (hb4.mono hB3.size)
   have j4:=j3.below hb4 j3.lt
   have k4:=k3.below hb4 k3.lt
   have HR4:=Lib.hid (RowV.below HR2.out hb4)
   clear hb4 i3 j3 k3
   go_wp2_with (first | (refine wpList_load_row rfl 31 _ rfl W2.heap.size rfl _ _ _ _ k4 Tryz.underlying31 rfl infoSto12 ?_) | (refine wpList_store_row rfl 31 _ _ rfl (w.heap.size + 1) (stoA s A1 c1) rfl rfl 31 _ j4 infoSto12 rfl HS2.out ?_))
   exact bodyPost_ret (results_rtt12 Tryz.results91 _ _ (w.heap.size + 1) 31 _ (0,0) _ rfl (j4.row _) Tryz.underlying31 rfl infoSto12) rfl ⟨A1,c1,rfl,RowB.inS (RowV.rowFar HR4.out j4 (by decide) _) HLEN.out.2,belowRow hB4 (by omega) _⟩
  | some k =>
   rw [delV_hit12 hr hk]
   rw [plcN12,plcB12,hk] at HF
   have hkl:=(plc_lt12 hk).1
   have hk1:(k:Int) < (s.B.length:Int):=by omega
   have HKL:=Lib.hid hkl
   have hlen:(s.B.set k gon12).length=s.B.length:=List.length_set
   clear hr h hrt hk
   go_enter Tryz.func91,Tryz.ntmps91
   go_wp2_with fail
   rw [← hW0]
   clear hW0
   go_wp2_with (first | (refine wpList_load_row rfl 31 _ rfl w.heap.size rfl _ _ _ _ i0 Tryz.underlying31 rfl infoSto12 ?_) | (go_at_call 29;refine (HB.out _ hB0).mono ?_;rintro e w1 ⟨rfl,hb⟩;have hB1:=hB0.trans (hb.mono hB0.size);have i1:=i0.below hb i0.lt;have j1:=j0.below hb j0.lt;clear hb) | (refine wpList_load_row rfl 31 _ rfl w.heap.size rfl _ _ _ _ i1 Tryz.underlying31 rfl infoSto12 ?_))
   refine (HC.out _ hB1).mono ?_
   rintro e W2 ⟨A1,c1,rfl,hr2,hb2⟩
   obtain ⟨g,cur,rfl,hgb,hgc,hz⟩:=hr2.open (by have:=HLEN.out;omega)
   have hgl:=hgc.lt
   clear hz hgc cur
   have hB2:=hB1.trans (hb2.mono hB1.size)
   have i2:=i1.below hb2 i1.lt
   have j2:=j1.below hb2 j1.lt
   have HR2:=Lib.hid (RowV.alloc (hr2.mono hB1.size) (.cells (stoA s (some ⟨g,0,none⟩) c1) 31))
   have i3:=i2.alloc (.cells (stoA s (some ⟨g,0,none⟩) c1) 31)
   have j3:=j2.alloc (.cells (stoA s (some ⟨g,0,none⟩) c1) 31)
   have k3:=Is.new W2 31 (stoA s (some ⟨g,0,none⟩) c1)
   have hB3:=hB2.alloc hB2.size (.cells (stoA s (some ⟨g,0,none⟩) c1) 31)
   have hjl:=j2.lt
   have hjl1:=j1.lt
   clear i2 j2 hB2 hb2 hr2 i1 j1 hB1
   go_wp2_with (refine wpList_load_row rfl 31 _ rfl w.heap.size rfl _ _ _ _ i3 Tryz.underlying31 rfl infoSto12 ?_)
   refine (HF.out _ hB3).mono ?_
   rintro e W4 ⟨rfl,hb4⟩
   have hB4:=hB3.trans (hb4.mono hB3.size)
   have j4:=j3.below hb4 j3.lt
   have k4:=k3.below hb4 k3.lt
   have r4:RowB W4 w.heap.size (some ⟨g,0,none⟩) c1 s.B:=RowV.below HR2.out hb4
   clear hb4 i3 j3 k3 HR2
   have c0:W4.cell? ⟨W2.heap.size,0,none⟩=some (.slice (some ⟨g,0,none⟩) s.B.length c1):=k4.cell 0
   have HT:=Lib.hid (RowB.there r4 hkl)
   have M1:=Lib.hid (show Is (W4.setCells g (k * 3) [.int .i64 2,.string ⟨#[]⟩,.string ⟨#[]⟩]) (w.heap.size + 1) 31 #[.slice none 0 0,.int .i64 0,.int .i64 0] from j4.cells3 (by omega) _ _ _ _)
   have M2:=Lib.hid (show Is (W4.setCells g (k * 3) [.int .i64 2,.string ⟨#[]⟩,.string ⟨#[]⟩]) W2.heap.size 31 #[.slice (some ⟨g,0,none⟩) s.B.length c1,.int .i64 s.many,.int .i64 s.gone] from k4.cells3 (by omega) _ _ _ _)
   have M3:=Lib.hid (show RowB (W4.setCells g (k * 3) [.int .i64 2,.string ⟨#[]⟩,.string ⟨#[]⟩]) w.heap.size (some ⟨g,0,none⟩) c1 (s.B.set k gon12) from RowB.put r4 hkl gon12)
   have M4:=Lib.hid (below_cells3 hB4 (g:=g) (by have:=HI.out;omega) (k * 3) (.int .i64 2) (.string ⟨#[]⟩) (.string ⟨#[]⟩))
   clear j4 k4 r4 hB4
   go_upto_region 7 with (refine wpList_store_bkt12 rfl _ _ rfl g (k * 3) 2 ⟨#[]⟩ ⟨#[]⟩ rfl rfl HT.out ?_)
   have m1:=M1.out
   have m2:=M2.out
   have m3:=M3.out
   have m4:=M4.out
   clear M1 M2 M3 M4 HT c0
   generalize W4.setCells g (k * 3) [.int .i64 2,.string ⟨#[]⟩,.string ⟨#[]⟩]=W5 at *
   have d1:W5.cell? ⟨W2.heap.size,1,none⟩=some (.int .i64 s.many):=m2.cell 1
   have d2:W5.cell? ⟨W2.heap.size,2,none⟩=some (.int .i64 s.gone):=m2.cell 2
   have e1:=m2.frozen 1
   have e2:=m2.frozen 2
   have n2:Is ((W5.setCell ⟨W2.heap.size,1,none⟩ (.int .i64 (s.many - 1))).setCell ⟨W2.heap.size,2,none⟩ (.int .i64 (s.gone + 1))) W2.heap.size 31 #[.slice (some ⟨g,0,none⟩) s.B.length c1,.int .i64 (s.many - 1),.int .i64 (s.gone + 1)]:=(m2.set 1 _).set 2 _
   have n1:=(m1.far (p:=⟨W2.heap.size,1,none⟩) (by simp only [];omega) (.int .i64 (s.many - 1))).far (p:=⟨W2.heap.size,2,none⟩) (by simp only [];omega) (.int .i64 (s.gone + 1))
   have n3:=(RowV.far m3 (p:=⟨W2.heap.size,1,none⟩) m2 (by decide) (.int .i64 (s.many - 1))).far (p:=⟨W2.heap.size,2,none⟩) (m2.set 1 _) (by decide) (.int .i64 (s.gone + 1))
   have n4:=(m4.setCell (p:=⟨W2.heap.size,1,none⟩) (by simp only [];omega) (.int .i64 (s.many - 1))).setCell (p:=⟨W2.heap.size,2,none⟩) (by simp only [];omega) (.int .i64 (s.gone + 1))
   have HONE:=Lib.hid (show (#[.slice (some ⟨g,0,none⟩) s.B.length c1,.int .i64 (s.many - 1),.int .i64 (s.gone + 1)]:Array Value).all (·.oneCell')=true by rw [← Array.all_toList];rfl)
   have Z3:=Lib.hid (RowV.rowFar n3 n1 (by decide) #[.slice (some ⟨g,0,none⟩) s.B.length c1,.int .i64 (s.many - 1),.int .i64 (s.gone + 1)])
   have Z4:=Lib.hid n4
   clear n3 n4 m1 m2 m3 m4
   go_wp2_with (first | (refine wpList_load_row rfl 31 _ rfl W2.heap.size rfl _ _ _ _ n2 Tryz.underlying31 rfl infoSto12 ?_) | (refine wpList_store_row rfl 31 _ _ rfl (w.heap.size + 1) #[.slice (some ⟨g,0,none⟩) s.B.length c1,.int .i64 (s.many - 1),.int .i64 (s.gone + 1)] rfl rfl 31 _ n1 infoSto12 rfl HONE.out ?_))
   exact bodyPost_ret (results_rtt12 Tryz.results91 _ _ (w.heap.size + 1) 31 _ (0,0) _ rfl (n1.row _) Tryz.underlying31 rfl infoSto12) rfl ⟨some ⟨g,0,none⟩,c1,by show _=Ending.returned (.tuple #[.agg #[.slice _ (s.B.set k gon12).length _,_,_],_,_]);rw [hlen];rfl,RowB.inS (s:=⟨s.B.set k gon12,s.many - 1,s.gone + 1⟩) Z3.out (by show (s.B.set k gon12).length≤4096;rw [hlen];exact HLEN.out.2),belowRow Z4.out (by omega) _⟩
theorem putV_no12 {s:Sto12} {l x:ByteArray} (h:(right12 s && (decide (l.size=16) && decide (x.size=40)))=false):putV12 s l x=(s,1):=by rw [putV12,h];rfl
theorem putV_hit12 {s:Sto12} {l x:ByteArray} {k:Nat} (h:right12 s=true) (hl:l.size=16) (hx:x.size=40) (hk:plc12 s.B l=some k):putV12 s l x=(⟨s.B.set k ⟨1,l,x⟩,s.many,s.gone⟩,0):=by
 rw [putV12,if_pos (by simp [h,hl,hx]),hk]
theorem putV_full12 {s:Sto12} {l x:ByteArray} (h:right12 s=true) (hl:l.size=16) (hx:x.size=40) (hk:plc12 s.B l=none) (he:(roomV12 s).2≠0):(roomV12 s).2=20∧putV12 s l x=(s,20):=by
 rw [putV12,if_pos (by simp [h,hl,hx]),hk]
 rw [roomV12] at he ⊢
 by_cases hc:3 * (s.B.length:Int) < 4 * (s.many + s.gone + 1)
 ·
  rw [if_pos hc] at he ⊢
  by_cases hg:4096 < grow12 s
  · rw [if_pos hg];exact ⟨rfl,by show (if 3 * (s.B.length:Int) < 4 * (s.many + s.gone + 1) then _ else _)=_;rw [if_pos hc,if_pos hg]⟩
  · rw [if_neg hg] at he;exact absurd rfl he
 · rw [if_neg hc] at he;exact absurd rfl he
structure Fit12 (s t:Sto12) (l x:ByteArray) (k:Nat):Prop where
 gap:gap12 t.B l=some k
 all:∀ j,j < t.B.length→(at12 t.B j).st=0∨(at12 t.B j).st=1∨(at12 t.B j).st=2
 len:0 < t.B.length∧t.B.length≤4096
 many:-1000000≤t.many∧t.many≤1000000
 gone:-1000000≤t.gone∧t.gone≤1000000
 put:putV12 s l x=(add12 t k l x,0)
theorem ok_all12 {B:List Bkt12} (h:Ok12 B) (j:Nat) (hj:j < B.length):(at12 B j).st=0∨(at12 B j).st=1∨(at12 B j).st=2:=by
 by_cases h1:(at12 B j).st=1
 · exact .inr (.inl h1)
 ·
  rcases (h.not j hj h1).1 with h0 | h0
  · exact .inl h0
  · exact .inr (.inr h0)
theorem putV_add12 {s:Sto12} {l x:ByteArray} (h:right12 s=true) (hl:l.size=16) (hx:x.size=40) (hk:plc12 s.B l=none) (he:(roomV12 s).2=0):∃ k,Fit12 s (roomV12 s).1 l x k:=by
 have hr:=right_iff12.1 h
 have hb:=hr.bnd
 have hm:=hr.many
 have hgo:=hr.gone
 have hro:=hr.room
 by_cases hc:3 * (s.B.length:Int) < 4 * (s.many + s.gone + 1)
 ·
  by_cases hg:4096 < grow12 s
  · rw [roomV12,if_pos hc,if_pos hg] at he;cases he
  ·
   have hrm:roomV12 s=(⟨fold12 (new12 (grow12 s).toNat) (us12 s.B),s.many,0⟩,0):=by rw [roomV12,if_pos hc,if_neg hg]
   rw [hrm]
   obtain ⟨g1,g2,g3⟩:=grow_room12 hr hg
   obtain ⟨hf,hmp⟩:=re_ok12 hr.ok (n:=(grow12 s).toNat) (by omega)
   have hlen:(fold12 (new12 (grow12 s).toNat) (us12 s.B)).length=(grow12 s).toNat:=by rw [hf.len,new_len12]
   have hpl:plc12 (fold12 (new12 (grow12 s).toNat) (us12 s.B)) l=none:=by rw [← mp_none12,hmp,mp_none12.2 hk]
   obtain ⟨k,hgp⟩:=hf.ok.gap hpl (by rw [hf.used,hlen,(new_cnt12 _).1,us_len12];omega)
   have hst:(at12 (fold12 (new12 (grow12 s).toNat) (us12 s.B)) k).st≠2:=fun e=>by
    have hkl:=(gap_lt12 hgp).1
    have:0 < cnt12 (fold12 (new12 (grow12 s).toNat) (us12 s.B)) 2:=by
     rw [cnt12,List.countP_pos_iff]
     exact ⟨_,by rw [at_get12 hkl] at e;exact List.getElem_mem hkl,by rw [at_get12 hkl] at e;simpa using e⟩
    rw [hf.gone] at this
    exact absurd this (Nat.lt_irrefl _)
   refine ⟨k,hgp,ok_all12 hf.ok,by rw [hlen];omega,by show -1000000≤s.many∧s.many≤1000000;have:=hb.many;omega,by show (-1000000:Int)≤0∧(0:Int)≤1000000;omega,?_⟩
   rw [putV12,if_pos (by simp [h,hl,hx]),hk]
   show (if 3 * (s.B.length:Int) < 4 * (s.many + s.gone + 1) then _ else _)=_
   rw [if_pos hc,if_neg hg,add12,set12,hgp]
   simp only [if_neg hst]
 ·
  have hrm:roomV12 s=(s,0):=by rw [roomV12,if_neg hc]
  rw [hrm]
  obtain ⟨k,hgp⟩:=hr.ok.gap hk (by have:=hb.len;omega)
  refine ⟨k,hgp,ok_all12 hr.ok,by show 0 < s.B.length∧s.B.length≤4096;have:=hb.len;omega,by show -1000000≤s.many∧s.many≤1000000;have:=hb.many;omega,by show -1000000≤s.gone∧s.gone≤1000000;have:=hb.gone;omega,?_⟩
  rw [putV12,if_pos (by simp [h,hl,hx]),hk]
  show (if 3 * (s.B.length:Int) < 4 * (s.many + s.gone + 1) then _ else _)=_
  rw [if_neg hc,set12,hgp,add12]
  by_cases h2:(at12 s.B k).st=2 <;> simp [h2]
theorem bput_any12 (s:Sto12) (A:Option Addr) (c:Nat) (l x:ByteArray) (w:World) (h:InS w s A c) :
  Calls Tryz.prog 90 #[stoV s A c,.string l,.string x] w fun e w'=>∃ A1 c1,e=.returned (.tuple #[stoV (putV12 s l x).1 A1 c1,.int .i64 (putV12 s l x).2])∧InS w' (putV12 s l x).1 A1 c1∧Below w.heap.size w w':=by
 have HB:=Lib.hid (fun W (hB:Below w.heap.size w W)=>bright_any12 s A c W (h.keep hB))
 have HI:=Lib.hid h
 obtain ⟨W0,hW0⟩:∃ W,W=(w.alloc (.cells (stoA s A c) 31)).alloc (.cells #[.slice none 0 0,.int .i64 0,.int .i64 0] 31):=⟨_,rfl⟩
 have i0:Is W0 w.heap.size 31 (stoA s A c):=by rw [hW0];exact heap_alloc2_old w _ _
 have j0:Is W0 (w.heap.size + 1) 31 #[.slice none 0 0,.int .i64 0,.int .i64 0]:=by rw [hW0];exact heap_alloc2_new w _ _
 have hB0:Below w.heap.size w W0:=by rw [hW0];exact ((Below.refl _ _).alloc (Nat.le_refl _) _).alloc (by simp) _
 have HS1:=Lib.hid (stoA_one12 s A c)
 by_cases hl:(l.size:Int)=16
 ·
  by_cases hx:(x.size:Int)=40
  ·
   have hl':l.size=16:=by omega
   have hx':x.size=40:=by omega
   cases hr:right12 s with
   | false =>
    rw [putV_no12 (by simp [hr])]
    rw [hr] at HB
    clear hr h
    go_enter Tryz.func90,Tryz.ntmps90
    go_wp2_with fail
    rw [← hW0]
    clear hW0
    go_wp2_with (first | (refine wpList_load_row rfl 31 _ rfl w.heap.size rfl _ _ _ _ i0 Tryz.underlying31 rfl infoSto12 ?_) | (go_at_call 29;refine (HB.out _ hB0).mono ?_;rintro e w1 ⟨rfl,hb⟩;have hB1:=hB0.trans (hb.mono hB0.size);have i1:=i0.below hb i0.lt;have j1:=j0.below hb j0.lt;clear hb) | (refine wpList_load_row rfl 31 _ rfl w.heap.size rfl _ _ _ _ i1 Tryz.underlying31 rfl infoSto12 ?_) | (refine wpList_store_row rfl 31 _ _ rfl (w.heap.size + 1) (stoA s A c) rfl rfl 31 _ j1 infoSto12 rfl HS1.out ?_))
    have hB2:=belowRow hB1 (g:=w.heap.size + 1) (by omega) (stoA s A c)
    exact bodyPost_ret (results_row_tmp Tryz.results90 _ _ (w.heap.size + 1) 31 _ (0,0) _ rfl (j1.row _) Tryz.underlying31 rfl infoSto12) rfl ⟨A,c,rfl,HI.out.keep hB2,hB2⟩
   | true =>
    rw [hr] at HB
    have hrt':=right_iff12.1 hr
    have hrt:=hrt'.bnd
    have HF:=Lib.hid (fun W (hB:Below w.heap.size w W)=>find_any12 s A c l W (h.keep hB) (by have:=hrt.len.1;omega) hrt.len.2)
    have HLEN:=Lib.hid hrt.len
    cases hk:plc12 s.B l with
    | some k =>
     rw [putV_hit12 hr hl' hx' hk]
     rw [plcN12,plcB12,hk] at HF
     have HC:=Lib.hid (fun W (hB:Below w.heap.size w W)=>copy_any12 s A c W (h.keep hB))
     have hkl:=(plc_lt12 hk).1
     have hk1:(k:Int) < (s.B.length:Int):=by omega
     have hxk:=getD_at12 hkl
     have hb12:at12 s.B k=⟨1,l,(at12 s.B k).c⟩:=by
      obtain ⟨_,e1,e2⟩:=plc_lt12 hk
      rw [show at12 s.B k=⟨(at12 s.B k).st,(at12 s.B k).l,(at12 s.B k).c⟩ from rfl,e1,e2]
     rw [hb12] at hxk
     have HXK:=Lib.hid hxk
     have hlen:(s.B.set k ⟨1,l,x⟩).length=s.B.length:=List.length_set
     clear hr h hrt hrt' hk hb12 hxk
     go_enter Tryz.func90,Tryz.ntmps90
     go_wp2_with fail
     rw [← hW0]
     clear hW0
     go_wp2_with (first | (refine wpList_load_row rfl 31 _ rfl w.heap.size rfl _ _ _ _ i0 Tryz.underlying31 rfl infoSto12 ?_) | (go_at_call 29;refine (HB.out _ hB0).mono ?_;rintro e w1 ⟨rfl,hb⟩;have hB1:=hB0.trans (hb.mono hB0.size);have i1:=i0.below hb i0.lt;have j1:=j0.below hb j0.lt;clear hb) | (refine wpList_load_row rfl 31 _ rfl w.heap.size rfl _ _ _ _ i1 Tryz.underlying31 rfl infoSto12 ?_) | (go_at_call 112;refine (HF.out _ hB1).mono ?_;rintro e w2 ⟨rfl,hb⟩;have hB2:=hB1.trans (hb.mono hB1.size);have i2:=i1.below hb i1.lt;have j2:=j1.below hb j1.lt;clear hb) | (refine wpList_load_row rfl 31 _ rfl w.heap.size rfl _ _ _ _ i2 Tryz.underlying31 rfl infoSto12 ?_))
     refine (HC.out _ hB2).mono ?_
     rintro e W2 ⟨A1,c1,rfl,hr2,hb2⟩
     obtain ⟨g,cur,rfl,hgb,hgc,hz⟩:=hr2.open (by have:=HLEN.out;omega)
     have hgl:=hgc.lt
     clear hz hgc cur
     have hB3:=hB2.trans (hb2.mono hB2.size)
     have j3:=j2.below hb2 j2.lt
     have hjl:=j2.lt
     have r3:RowB (W2.alloc (.cells (stoA s (some ⟨g,0,none⟩) c1) 31)) w.heap.size (some ⟨g,0,none⟩) c1 s.B:=RowV.alloc (hr2.mono hB2.size) (.cells (stoA s (some ⟨g,0,none⟩) c1) 31)
     have j4:=j3.alloc (.cells (stoA s (some ⟨g,0,none⟩) c1) 31)
     have k4:=Is.new W2 31 (stoA s (some ⟨g,0,none⟩) c1)
     have hB4:=hB3.alloc hB3.size (.cells (stoA s (some ⟨g,0,none⟩) c1) 31)
     have hs4:W2.heap.size < (W2.alloc (.cells (stoA s (some ⟨g,0,none⟩) c1) 31)).heap.size:=by simp
     have hj3:=j3.lt
     have hbs:=hb2.size
     clear i1 i2 j1 j2 j3 hB1 hB2 hB3 hb2 hr2
     go_upto_region 6 with (fail)
     generalize W2.alloc (.cells (stoA s (some ⟨g,0,none⟩) c1) 31)=W3 at *
     have c0:W3.cell? ⟨W2.heap.size,0,none⟩=some (.slice (some ⟨g,0,none⟩) s.B.length c1):=k4.cell 0
     obtain ⟨g2,cur,e2,_,hgc,_,_,hcs,_⟩:=r3.open (by have:=HLEN.out;omega)
     cases e2
     have fq:=hgc.frozen (k * 3 + 2)
     have cq:W3.cell? ⟨g,k * 3 + 2,none⟩=some (.string (at12 s.B k).c):=(RowB.range r3 HXK.out) 2 _ rfl
     have m1:=Lib.hid (show Is (W3.setCell ⟨g,k * 3 + 2,none⟩ (.string x)) (w.heap.size + 1) 31 #[.slice none 0 0,.int .i64 0,.int .i64 0] from j4.far (by simp only [];omega) _)
     have m2:=Lib.hid (show Is (W3.setCell ⟨g,k * 3 + 2,none⟩ (.string x)) W2.heap.size 31 (stoA s (some ⟨g,0,none⟩) c1) from k4.far (by simp only [];omega) _)
     have m3:=Lib.hid (show RowB (W3.setCell ⟨g,k * 3 + 2,none⟩ (.string x)) w.heap.size (some ⟨g,0,none⟩) c1 (s.B.set k ⟨1,l,x⟩) from RowB.cell r3 HXK.out x)
     have m4:=Lib.hid (hB4.setCell (p:=⟨g,k * 3 + 2,none⟩) (by have:=HI.out;simp only [];omega) (.string x))
     clear j4 k4 r3 hB4 hgc hcs
     go_upto_region 7 with (fail)
     have n1:=m1.out
     have n2:=m2.out
     have n3:=m3.out
     have n4:=m4.out
     clear m1 m2 m3 m4 c0 fq cq
     generalize W3.setCell ⟨g,k * 3 + 2,none⟩ (.string x)=W4 at *
     have HONE:=Lib.hid (stoA_one12 s (some ⟨g,0,none⟩) c1)
     go_wp2_with (first | (refine wpList_load_row rfl 31 _ rfl W2.heap.size rfl _ _ _ _ n2 Tryz.underlying31 rfl infoSto12 ?_) | (refine wpList_store_row rfl 31 _ _ rfl (w.heap.size + 1) (stoA s (some ⟨g,0,none⟩) c1) rfl rfl 31 _ n1 infoSto12 rfl HONE.out ?_))
     exact bodyPost_ret (results_row_tmp Tryz.results90 _ _ (w.heap.size + 1) 31 _ (0,0) _ rfl (n1.row _) Tryz.underlying31 rfl infoSto12) rfl ⟨some ⟨g,0,none⟩,c1,by show _=Ending.returned (.tuple #[.agg #[.slice _ (s.B.set k ⟨1,l,x⟩).length _,_,_],_]);rw [hlen];rfl,RowB.inS (s:=⟨s.B.set k ⟨1,l,x⟩,s.many,s.gone⟩) (RowV.rowFar n3 n1 (by decide) _) (by show (s.B.set k ⟨1,l,x⟩).length≤4096;rw [hlen];exact HLEN.out.2),belowRow n4 (by omega) _⟩
    | none =>
     rw [plcN12,plcB12,hk] at HF
     have HW:=Lib.hid (fun W (hB:Below w.heap.size w W)=>with_any12 s A c W (h.keep hB) hrt')
     by_cases he:(roomV12 s).2=0
     ·
      obtain ⟨k,hfit⟩:=putV_add12 hr hl' hx' hk he
      have hput:=hfit.put
      rw [hput]
      generalize roomV12 s=V at *
      obtain ⟨t,ve⟩:=V
      simp only at he hfit HW
      subst he
      have HFIT:=Lib.hid hfit
      have hlen:(add12 t k l x).B.length=t.B.length:=List.length_set
      have HLN:=Lib.hid hlen
      clear hr h hrt hrt' hk hfit hput hlen
      go_enter Tryz.func90,Tryz.ntmps90
      go_wp2_with fail
      rw [← hW0]
      clear hW0
      go_wp2_with (first | (refine wpList_load_row rfl 31 _ rfl w.heap.size rfl _ _ _ _ i0 Tryz.underlying31 rfl infoSto12 ?_) | (go_at_call 29;refine (HB.out _ hB0).mono ?_;rintro e w1 ⟨rfl,hb⟩;have hB1:=hB0.trans (hb.mono hB0.size);have i1:=i0.below hb i0.lt;have j1:=j0.below hb j0.lt;clear hb) | (refine wpList_load_row rfl 31 _ rfl w.heap.size rfl _ _ _ _ i1 Tryz.underlying31 rfl infoSto12 ?_) | (go_at_call 112;refine (HF.out _ hB1).mono ?_;rintro e w2 ⟨rfl,hb⟩;have hB2:=hB1.trans (hb.mono hB1.size);have i2:=i1.below hb i1.lt;have j2:=j1.below hb j1.lt;clear hb) | (refine wpList_load_row rfl 31 _ rfl w.heap.size rfl _ _ _ _ i2 Tryz.underlying31 rfl infoSto12 ?_))
      refine (HW.out _ hB2).mono ?_
      rintro e W2 ⟨A1,c1,rfl,hr2,hb2⟩
      obtain ⟨g,cur,rfl,hgb,hgc,hz⟩:=hr2.open HFIT.out.len.1
      have hgl:=hgc.lt
      clear hz hgc cur
      have hB3:=hB2.trans (hb2.mono hB2.size)
      have j3:=j2.below hb2 j2.lt
      have hjl:=j2.lt
      have r3:RowB (W2.alloc (.cells (stoA t (some ⟨g,0,none⟩) c1) 31)) w.heap.size (some ⟨g,0,none⟩) c1 t.B:=RowV.alloc (hr2.mono hB2.size) (.cells (stoA t (some ⟨g,0,none⟩) c1) 31)
      have j4:=j3.alloc (.cells (stoA t (some ⟨g,0,none⟩) c1) 31)
      have k4:=Is.new W2 31 (stoA t (some ⟨g,0,none⟩) c1)
      have hB4:=hB3.alloc hB3.size (.cells (stoA t (some ⟨g,0,none⟩) c1) 31)
      have hj3:=j3.lt
      have hbs:=hb2.size
      have hs4:W2.heap.size < (W2.alloc (.cells (stoA t (some ⟨g,0,none⟩) c1) 31)).heap.size:=by simp
      have CA:=Lib.hid (added_any12 t (some ⟨g,0,none⟩) c1 w.heap.size k l x _ r3 HFIT.out.len.1 HFIT.out.len.2 HFIT.out.all HFIT.out.gap HFIT.out.many HFIT.out.gone)
      clear i1 i2 j1 j2 j3 hB1 hB2 hB3 hb2 hr2 r3
      go_wp2_with (refine wpList_load_row rfl 31 _ rfl W2.heap.size rfl _ _ _ _ k4 Tryz.underlying31 rfl infoSto12 ?_)
      refine CA.out.mono ?_
      rintro e W5 ⟨rfl,hr5,hg5⟩
      have hg5:World.grownBy (W2.alloc (.cells (stoA t (some ⟨g,0,none⟩) c1) 31)) W5 (some g):=hg5
      have j5:=(hg5.block _ j4.lt (by intro e;have:=Option.some.inj e;omega)).trans j4
      have hB5:=hB4.grown hg5 hB4.size (fun k e=>by cases e;have:=HI.out;omega)
      have HONE:=Lib.hid (stoA_one12 (add12 t k l x) (some ⟨g,0,none⟩) c1)
      go_wp2_with (refine wpList_store_row rfl 31 _ _ rfl (w.heap.size + 1) (stoA (add12 t k l x) (some ⟨g,0,none⟩) c1) rfl rfl 31 _ j5 infoSto12 rfl HONE.out ?_)
      exact bodyPost_ret (results_row_tmp Tryz.results90 _ _ (w.heap.size + 1) 31 _ (0,0) _ rfl (Is.row j5 _) Tryz.underlying31 rfl infoSto12) rfl ⟨some ⟨g,0,none⟩,c1,rfl,RowB.inS (by have:=RowV.rowFar hr5 j5 (by decide) (stoA (add12 t k l x) (some ⟨g,0,none⟩) c1);exact this) (by rw [HLN.out];exact HFIT.out.len.2),belowRow hB5 (by omega) _⟩
     ·
      obtain ⟨he20,hput⟩:=putV_full12 hr hl' hx' hk he
      rw [hput]
      rw [he20] at HW
      clear hr h hrt hrt' hk hput he he20
      go_enter Tryz.func90,Tryz.ntmps90
      go_wp2_with fail
      rw [← hW0]
      clear hW0
      go_wp2_with (first | (refine wpList_load_row rfl 31 _ rfl w.heap.size rfl _ _ _ _ i0 Tryz.underlying31 rfl infoSto12 ?_) | (go_at_call 29;refine (HB.out _ hB0).mono ?_;rintro e w1 ⟨rfl,hb⟩;have hB1:=hB0.trans (hb.mono hB0.size);have i1:=i0.below hb i0.lt;have j1:=j0.below hb j0.lt;clear hb) | (refine wpList_load_row rfl 31 _ rfl w.heap.size rfl _ _ _ _ i1 Tryz.underlying31 rfl infoSto12 ?_) | (go_at_call 112;refine (HF.out _ hB1).mono ?_;rintro e w2 ⟨rfl,hb⟩;have hB2:=hB1.trans (hb.mono hB1.size);have i2:=i1.below hb i1.lt;have j2:=j1.below hb j1.lt;clear hb) | (refine wpList_load_row rfl 31 _ rfl w.heap.size rfl _ _ _ _ i2 Tryz.underlying31 rfl infoSto12 ?_))
      refine (HW.out _ hB2).mono ?_
      rintro e W2 ⟨A1,c1,rfl,_,hb2⟩
      have hB3:=hB2.trans (hb2.mono hB2.size)
      have i3:=i2.below hb2 i2.lt
      have j3:=j2.below hb2 j2.lt
      have i4:=i3.alloc (.cells (stoA (roomV12 s).1 A1 c1) 31)
      have j4:=j3.alloc (.cells (stoA (roomV12 s).1 A1 c1) 31)
      have hB4:=hB3.alloc hB3.size (.cells (stoA (roomV12 s).1 A1 c1) 31)
      clear i1 i2 i3 j1 j2 j3 hB1 hB2 hB3 hb2
      go_wp2_with (first | (refine wpList_load_row rfl 31 _ rfl w.heap.size rfl _ _ _ _ i4 Tryz.underlying31 rfl infoSto12 ?_) | (refine wpList_store_row rfl 31 _ _ rfl (w.heap.size + 1) (stoA s A c) rfl rfl 31 _ j4 infoSto12 rfl HS1.out ?_))
      have hB5:=belowRow hB4 (g:=w.heap.size + 1) (by omega) (stoA s A c)
      exact bodyPost_ret (results_row_tmp Tryz.results90 _ _ (w.heap.size + 1) 31 _ (0,0) _ rfl (j4.row _) Tryz.underlying31 rfl infoSto12) rfl ⟨A,c,rfl,HI.out.keep hB5,hB5⟩
  ·
   have hx':¬ x.size=40:=by omega
   rw [putV_no12 (by simp [hx'])]
   have hBZ:Below w.heap.size w ((w.alloc (.cells (stoA s A c) 31)).alloc (.cells (stoA s A c) 31)):=((Below.refl _ _).alloc (Nat.le_refl _) _).alloc (by simp) _
   have jZ:Is ((w.alloc (.cells (stoA s A c) 31)).alloc (.cells (stoA s A c) 31)) (w.heap.size + 1) 31 (stoA s A c):=heap_alloc2_new w _ _
   clear h i0 j0 hB0 hW0 W0
   go_enter Tryz.func90,Tryz.ntmps90
   go_wp2
   exact bodyPost_ret (results_row_tmp Tryz.results90 _ _ (w.heap.size + 1) 31 _ (0,0) _ rfl jZ Tryz.underlying31 rfl infoSto12) rfl ⟨A,c,rfl,HI.out.keep hBZ,hBZ⟩
 ·
  have hl':¬ l.size=16:=by omega
  rw [putV_no12 (by simp [hl'])]
  have hBZ:Below w.heap.size w ((w.alloc (.cells (stoA s A c) 31)).alloc (.cells (stoA s A c) 31)):=((Below.refl _ _).alloc (Nat.le_refl _) _).alloc (by simp) _
  have jZ:Is ((w.alloc (.cells (stoA s A c) 31)).alloc (.cells (stoA s A c) 31)) (w.heap.size + 1) 31 (stoA s A c):=heap_alloc2_new w _ _
  clear h i0 j0 hB0 hW0 W0
  go_enter Tryz.func90,Tryz.ntmps90
  go_wp2
  exact bodyPost_ret (results_row_tmp Tryz.results90 _ _ (w.heap.size + 1) 31 _ (0,0) _ rfl jZ Tryz.underlying31 rfl infoSto12) rfl ⟨A,c,rfl,HI.out.keep hBZ,hBZ⟩
end Go.Proofs.YtmggbbmpckcleaaGreat
