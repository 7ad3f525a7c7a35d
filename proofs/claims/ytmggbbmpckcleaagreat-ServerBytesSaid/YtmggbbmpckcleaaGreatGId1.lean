import Derived.Test.YtmggbbmpckcleaaGreatGKit
import Derived.Laws.AppendOwnNone
import Derived.OwnWalk
import Derived.Lib.OthersKept
import Derived.RangeFuncKeeps
import Derived.RangeFuncNested
import Derived.RangeFuncFrom
import Derived.RangeFuncLeaves
import Derived.RangeFuncBound
set_option maxRecDepth 100000
set_option maxHeartbeats 16000000
namespace Go.Proofs.YtmggbbmpckcleaaGreat
open Go.RowKit
theorem is_neG {W:World} {g g':Nat} {t t':TypeId} {cs cs':Array Value} (h:Is W g t cs) (h':Is W g' t' cs') (hne:t≠t'):g≠g':=fun e=>by
  subst e
  have:=h.symm.trans h'
  cases this
  exact hne rfl
theorem grownG {W W1:World} (hb:Below W.heap.size W W1):W.grownBy W1 none:=⟨hb.os,hb.tape,hb.output,hb.size,fun k hk _=>hb.block k hk⟩
theorem grownSetG (w:World) (p:Addr) (v:Value):w.grownBy (w.setCell p v) (some p.block) :=
  ⟨rfl,rfl,rfl,by simp [World.setCell],fun k _ hne=>heap_setCell_other w p k v (fun e=>hne (by rw [e]))⟩
theorem grownRowG (w:World) (g:Nat) (cs:Array Value):w.grownBy (w.setRow g cs) (some g):=⟨rfl,rfl,rfl,by simp,fun k _ hne=>setRow_other w g k cs (fun e=>hne (by rw [e]))⟩
def InV (W:World) (A:Option Addr) (vs:List Value):Prop :=
  ∀ j u,vs[j]?=some u→∃ b off,A=some ⟨b,off,none⟩∧b < W.heap.size∧W.cell? ⟨b,off + j,none⟩=some u
theorem InV.keep {W W':World} {A:Option Addr} {vs:List Value} (h:InV W A vs) (hb:Below W.heap.size W W'):InV W' A vs:=fun j u hj=>by
  obtain ⟨b,off,rfl,h1,h2⟩:=h j u hj
  exact ⟨b,off,rfl,Nat.lt_of_lt_of_le h1 hb.size,(hb.cell (p:=⟨b,off + j,none⟩) h1).trans h2⟩
theorem InV.nil_of {W:World} {vs:List Value} (h:InV W none vs):vs=[]:=by
  cases vs with
  | nil=>rfl
  | cons x l =>
    obtain ⟨b,off,h1,_⟩:=h 0 x rfl
    cases h1
def RowV (W:World) (base:Nat) (e:TypeId) (size:Nat) (A:Option Addr) (c n:Nat) (xs:List Value):Prop:=W.ownsRow base e size (.slice A n c) n xs
section
variable {W W':World} {base size:Nat} {e:TypeId} {A:Option Addr} {c n:Nat} {xs:List Value}
theorem owns_sliceG {v:Value} (h:W.ownsRow base e size v n xs):∃ A' c',v=.slice A' n c':=by
  rcases h.2 with ⟨rfl,rfl⟩ | ⟨g,cap,cur,rfl,_⟩
  · exact ⟨_,_,rfl⟩
  · exact ⟨_,_,rfl⟩
theorem RowV.grown (h:RowV W base e size A c n xs) {row:Option Nat} (hg:W.grownBy W' row) (hr:∀ r,row=some r→∃ t cs,Is W r t cs∧t≠e):RowV W' base e size A c n xs:=by
  refine h.kept hg ?_
  rcases h.2 with ⟨h0,_⟩ | ⟨g,cap,cur,h0,_,hi,_⟩
  · rw [h0];exact .inl rfl
  · rw [h0]
    refine .inr fun e2=>?_
    obtain ⟨t,cs,h1,h2⟩:=hr g e2.symm
    exact is_neG h1 (show Is W g e cur from hi) h2 rfl
theorem RowV.keptT (h:RowV W base e size A c n xs) {row:Option Nat} (hg:W.grownBy W' row) (hr:∀ r,row=some r→∃ o:Obj,W.heap[r]?=some o∧o.isCells=false):RowV W' base e size A c n xs:=by
  refine h.kept hg ?_
  rcases h.2 with ⟨h0,_⟩ | ⟨g,cap,cur,h0,_,hi,_⟩
  · rw [h0];exact .inl rfl
  · rw [h0]
    refine .inr fun e2=>?_
    obtain ⟨o,h1,h2⟩:=hr g e2.symm
    rw [hi] at h1
    cases h1
    cases h2
theorem RowV.below (h:RowV W base e size A c n xs) (hb:Below W.heap.size W W'):RowV W' base e size A c n xs:=h.grown (grownG hb) (fun r e=>by cases e)
theorem RowV.alloc (h:RowV W base e size A c n xs) (o:Obj):RowV (W.alloc o) base e size A c n xs:=h.grown (World.grownBy_alloc W o none) (fun r e=>by cases e)
theorem RowV.far (h:RowV W base e size A c n xs) {p:Addr} {t:TypeId} {cs:Array Value} (hp:Is W p.block t cs) (ht:t≠e) (v:Value):RowV (W.setCell p v) base e size A c n xs :=
  h.grown (grownSetG _ _ _) (fun r e=>by cases e;exact ⟨t,cs,hp,ht⟩)
theorem RowV.rowFar (h:RowV W base e size A c n xs) {g:Nat} {t:TypeId} {cs:Array Value} (hp:Is W g t cs) (ht:t≠e) (v:Array Value):RowV (W.setRow g v) base e size A c n xs :=
  h.grown (grownRowG _ _ _) (fun r e=>by cases e;exact ⟨t,cs,hp,ht⟩)
theorem RowV.drewN (h:RowV W base e size A c n xs) (m:Nat):RowV (W.drewN m) base e size A c n xs:=h
theorem RowV.nil (W:World) (base:Nat) (e:TypeId) (size:Nat):RowV W base e size none 0 0 []:=World.ownsRow_nil _ _ _ _
theorem RowV.mono {b2:Nat} (h:RowV W base e size A c n xs) (hb:b2≤base):RowV W b2 e size A c n xs:=by
  refine ⟨h.1,?_⟩
  rcases h.2 with h0 | ⟨g,cap,cur,h0,hg,rest⟩
  · exact .inl h0
  · exact .inr ⟨g,cap,cur,h0,Nat.le_trans hb hg,rest⟩
theorem RowV.inV (h:RowV W base e size A c n xs):InV W A xs:=fun j u hj=>by
  rcases h.2 with ⟨_,h0⟩ | ⟨g,cap,cur,h0,_,hi,_,_,_,ht⟩
  · subst h0
    have hl:=h.1
    rw [Nat.zero_mul] at hl
    rw [List.length_eq_zero_iff.1 hl] at hj
    cases hj
  · injection h0 with h0 h1 h2
    subst h0
    refine ⟨g,0,rfl,(Array.getElem?_eq_some_iff.1 hi).1,?_⟩
    have hlt:j < n * size:=by
      have:=(List.getElem?_eq_some_iff.1 hj).1
      rw [h.1] at this
      exact this
    rw [← ht,List.getElem?_take,if_pos hlt,Array.getElem?_toList] at hj
    rw [Nat.zero_add]
    exact (Is.cell (show Is W g e cur from hi) j).trans hj
theorem RowV.isFar (h:RowV W base e size A c n xs) (hg:W.grownBy W' (Value.slice A n c).ownBlock) {g:Nat} {t:TypeId} {cs:Array Value} (hi:Is W g t cs) (ht:t≠e):Is W' g t cs:=by
  refine (hg.block g hi.lt (fun e2=>?_)).trans hi
  rcases h.2 with ⟨h0,_⟩ | ⟨g2,cap,cur,h0,_,hi2,_⟩
  · rw [h0] at e2;cases e2
  · rw [h0] at e2
    cases e2
    exact is_neG hi (show Is W g2 e cur from hi2) ht rfl
theorem RowV.belowG {w:World} (h:RowV W w.heap.size e size A c n xs) (hB:Below w.heap.size w W) (hg:W.grownBy W' (Value.slice A n c).ownBlock):Below w.heap.size w W' :=
  hB.grown hg hB.size (fun q e2=>(World.ownsRow.lt h q e2).1)
end
section
variable {P:Program} {w:World} {ops:Array Oper} {rest:List Oper} {o:Oper} {a:Act} {Q:Exit→Act→World→Prop}
theorem wpList_pushV (hgd:o.guard=none) (s x:Operand) (t e:TypeId) (i0:TypeInfo) (z:Value) (size bytes:Nat)
    (ho:o.op=.call { callee:=.builtin .append,args:=#[s,x],argTypes:=#[t,t] }) (ht:P.underlying t=some (.slice e)) (hi:P.info? e=some i0) (hz:i0.zero=some z) (hz1:i0.size=size) (hz2:i0.bytes=bytes) (hzs:z.cells.size=size) (hpos:0 < size)
    (base:Nat) (A:Option Addr) (c n:Nat) (xs:List Value) (hO:RowV w base e size A c n xs) (g:Nat) (t2:TypeId) (ys:Array Value) (hg:Is w g t2 ys) (hys:ys.size=size) (h1:∀ u ∈ ys.toList,u.oneCell'=true) (hm:n + 1≤maxLen) (hby:(n + 1) * bytes≤140737488355328)
    (hs:a.eval s=.slice A n c∧a.eval x=.slice (some ⟨g,0,none⟩) 1 1) (hb:base≤w.heap.size)
    (h:∀ A' c' w',RowV w' base e size A' c' (n + 1) (xs ++ ys.toList)→w.grownBy w' (Value.slice A n c).ownBlock→wpList P ops Q rest (a.put o.dst (.slice A' (n + 1) c')) w'):wpList P ops Q (o :: rest) a w:=by
  refine wpList_append_own w hgd s x t ho base e i0 z size bytes ht hi hz hz1 hz2 hzs hpos (.slice A n c) n xs hs.1 hO ⟨g,0,none⟩ 1 1 ys.toList hs.2 (by rw [Array.length_toList,hys,Nat.one_mul]) (fun j u hj=>?_) h1 hm hby hb ?_
  · rw [Addr.add_lit,Nat.zero_add,hg.cell,← Array.getElem?_toList]
    exact hj
  · intro v' w1 hown hgrow _
    obtain ⟨A',c',rfl⟩:=owns_sliceG hown
    exact h A' c' w1 hown hgrow
end
end Go.Proofs.YtmggbbmpckcleaaGreat
namespace Go.Proofs.YtmggbbmpckcleaaGreat
open Go.RowKit
structure Stay (S:Nat→Prop) (W W':World):Prop where
  size:W.heap.size≤W'.heap.size
  same:∀ (k:Nat) (o:Obj),S k→W.heap[k]?=some o→W'.heap[k]?=some o
theorem Stay.refl (S:Nat→Prop) (W:World):Stay S W W:=⟨Nat.le_refl _,fun _ _ _ h=>h⟩
theorem Stay.trans {S:Nat→Prop} {A B C:World} (h:Stay S A B) (k:Stay S B C):Stay S A C:=⟨Nat.le_trans h.size k.size,fun i o hi hb=>k.same i o hi (h.same i o hi hb)⟩
theorem Stay.mono {S T:Nat→Prop} {A B:World} (h:Stay S A B) (hT:∀ k,T k→S k):Stay T A B:=⟨h.size,fun i o hi hb=>h.same i o (hT i hi) hb⟩
theorem Stay.grown {S:Nat→Prop} {A B C:World} {row:Option Nat} (h:Stay S A B) (hg:B.grownBy C row) (hr:∀ r,row=some r→¬ S r∨A.heap.size≤r):Stay S A C:=⟨Nat.le_trans h.size hg.size,fun i o hi hb=>by
  have h2:=h.same i o hi hb
  refine (hg.block i (Array.getElem?_eq_some_iff.1 h2).1 (fun e=>?_)).trans h2
  rcases hr i e.symm with h3 | h3
  · exact h3 hi
  · have:=(Array.getElem?_eq_some_iff.1 hb).1
    omega⟩
theorem Stay.below {S:Nat→Prop} {A B:World} (h:Below A.heap.size A B):Stay S A B:=⟨h.size,fun i _ _ hi=>(h.block i (Array.getElem?_eq_some_iff.1 hi).1).trans hi⟩
theorem Stay.of {n:Nat} {S:Nat→Prop} {A B:World} (h:Below n A B) (hS:∀ k,S k→k < n):Stay S A B:=⟨h.size,fun i _ hs hi=>(h.block i (hS i hs)).trans hi⟩
theorem Stay.is {S:Nat→Prop} {A B:World} (h:Stay S A B) {g:Nat} {t:TypeId} {cs:Array Value} (hg:Is A g t cs) (hs:S g):Is B g t cs:=h.same g _ hs hg
theorem Stay.putObj {S:Nat→Prop} {A B:World} {l:Nat} (h:Stay S A B) (o':Obj) (hs:¬ S l):Stay S A (B.putObj l o') :=
  h.grown (grownBy_putObj' B l o') (fun r e=>by cases e;exact .inl hs)
def SeqL {α:Type} (F:Fence) (n:Nat) (P:Program) (gf:Nat) (lb:Array Value) (encs:α→Array Value) (xs:List α) (S:Nat→Prop) (w:World):Prop :=
  ∀ (l:Nat) (J Jx:Nat→World→Prop) (W:World),Stay S w W→OwnFrom W.heap.size J→OwnFrom W.heap.size Jx →
    (∀ i x W1,xs[i]?=some x→J i W1→YieldAt F (n - 1) P l (encs x) W1 fun e W' =>
      (e=.returned (.bool true)∧J (i + 1) W'∧Stay (fun k=>S k∨W.heap.size≤k) W1 W')∨(e=.returned (.bool false)∧Jx i W'∧Stay (fun k=>S k∨W.heap.size≤k) W1 W')) →
    J 0 W →
    CallsIn F n P gf (#[.func (.yield l) #[] #[]] ++ lb) W fun e W'=>(∃ v,e=.returned v)∧(J xs.length W'∨∃ i,Jx i W')
def ownPostL (T:Nat→Prop) (I:Nat→World→Prop) (Ix:Code→Nat→World→Prop) (i:Nat) (W:World):Exit→Act→World→Prop
  | .normal,_,W'=>Stay T W W'∧I (i + 1) W'
  | .ret,_,W'=>Stay T W W'∧Ix .ret i W'
  | .exit id,_,W'=>Stay T W W'∧Ix (.exit id) i W'
  | .goto t,_,W'=>Stay T W W'∧Ix (.goto t) i W'
  | .panic _,_,_=>False
  | .outgrown,_,_=>False
theorem wpIn_rangeL {α:Type} {F:Fence} {n:Nat} {P:Program} {g:Operand} {ps:Array Tmp} {assign body:Code} {Q:Exit→Act→World→Prop} {a:Act} {w:World}
    (hro:F.round=none) (h1:1≤n) {gf:Nat} {lb:Array Value} (hg:a.eval g=.func (.func gf) #[] lb) (hFg:F.fn gf) (eg:∀ args w,(callFunc gf args).run P w=.ok (.enter gf args) w)
    {encs:α→Array Value} {xs:List α} {S:Nat→Prop} {w0:World} (hseq:SeqL F (n - 1) P gf lb encs xs S w0) (hb0:Stay S w0 w) (hSl:∀ k,S k→k < w.heap.size) (hps:∀ x,(encs x).size=ps.size)
    (I:Nat→World→Prop) (Ix:Code→Nat→World→Prop) (hI:OwnFrom w.heap.size I) (hIx:∀ c,OwnFrom w.heap.size (Ix c)) (h0:I 0 w)
    (hround:∀ (l i:Nat) (x:α) (W:World),w.heap.size≤l→l < W.heap.size→xs[i]?=some x→I i W →
      assign.wpIn (F.inRound l) (n - 1 - 1) P (Exit.then (fun a' W'=>Stay (fun k=>S k∨w.heap.size≤k) W W'∧I i W'∧∃ Ax:World→Prop,OwnFrom w.heap.size (fun (_:Unit) W=>Ax W)∧Ax W' ∧
          ∀ W'':World,l < W''.heap.size→I i W''→Ax W''→body.wpIn (F.inRound l) (n - 1 - 1) P (ownPostL (fun k=>S k∨w.heap.size≤k) I Ix i W'') a' W'') (fun _ _ _=>False))
        { tmps:=(ps.zip (encs x)).foldl (fun t (p,v)=>t.setIfInBounds p v) a.tmps,defers:=[] } W)
    (hdone:∀ (D:Nat) (W:World),w.heap.size≤D→I xs.length W→W.heap[D]?=some (.deferred (some []))→Q .normal { a with defers:={ target:=.collected D,args:=#[] } :: a.defers } W)
    (hstop:∀ (D:Nat) (c:Code) (i:Nat) (W:World),w.heap.size≤D→Ix c i W→W.heap[D]?=some (.deferred (some []))→c.wpIn F n P Q { a with defers:={ target:=.collected D,args:=#[] } :: a.defers } W) :
    (Code.rangeFunc g ps assign body).wpIn F n P Q a w:=by
  refine wpIn_rangeFunc fun fn hfn=>?_
  rw [hro]
  obtain ⟨rec,hrec⟩:∃ rec:LoopState→Option Code→Loop,rec=fun st pe=>{ state:=st,pending:=pe,fn,tmps:=a.tmps,params:=ps,assign,body,defers:=w.heap.size }:=⟨_,rfl⟩
  obtain ⟨W1,hW1⟩:∃ W1,(w.alloc (.deferred (some []))).alloc (.loop (rec .ready none))=W1:=⟨_,rfl⟩
  have hL1:W1.heap[w.heap.size + 1]?=some (.loop (rec .ready none)):=by
    rw [← hW1];have:=World.alloc_heap_new (w.alloc (.deferred (some []))) (.loop (rec .ready none));rwa [World.size_alloc] at this
  have hK1:W1.heap[w.heap.size]?=some (.deferred (some [])):=by
    rw [← hW1];exact (Below.heap_alloc _ _ _ (by simp)).trans (World.alloc_heap_new w _)
  have hI1:I 0 W1:=by rw [← hW1];exact hI.alloc _ (hI.alloc _ h0)
  have hs1:W1.heap.size=w.heap.size + 1 + 1:=by rw [← hW1];simp
  have hb1:Stay S w0 W1:=by
    rw [← hW1];exact (hb0.grown (World.grownBy_alloc w _ none) (fun r e=>by cases e)).grown (World.grownBy_alloc _ _ none) (fun r e=>by cases e)
  refine ⟨w.heap.size + 1,[{ target:=.collected w.heap.size,args:=#[] }],W1,{ target:=.fn (.func gf) lb,args:=#[.func (.yield (w.heap.size + 1)) #[] #[]] },W1,gf,
    #[.func (.yield (w.heap.size + 1)) #[] #[]] ++ lb,W1,?_,?_,?_,?_,fun _=>h1,?_⟩
  · rw [← hW1,hrec];exact run_enterLoop_outer _ _ _ _ _
  · simp only [resolve,hg]
    simp [go_sem]
  · intro f' hf';simp [Target.leads] at hf';subst hf';exact hFg
  · simp [invoke,go_sem,eg]
  · have keep:∀ {A B:World} {row:Option Nat} {k:Nat} {o:Obj},A.grownBy B row→(∀ r,row=some r→W1.heap.size≤r∧∃ o:Obj,A.heap[r]?=some o∧o.isCells=false)→k < W1.heap.size→A.heap[k]?=some o→B.heap[k]?=some o:=fun hg' hr hk ho =>
      (hg'.block _ (Array.getElem?_eq_some_iff.1 ho).1 (fun e=>by have:=(hr _ e.symm).1;omega)).trans ho
    have hfr:∀ {A:World} {row:Option Nat},(∀ r,row=some r→W1.heap.size≤r∧∃ o:Obj,A.heap[r]?=some o∧o.isCells=false)→(∀ r,row=some r→w.heap.size≤r∧∃ o:Obj,A.heap[r]?=some o∧o.isCells=false):=fun hr r e =>
      ⟨by have:=(hr r e).1;omega,(hr r e).2⟩
    refine (hseq (w.heap.size + 1)
      (fun i W=>I i W∧W.heap[w.heap.size + 1]?=some (.loop (rec .ready none))∧W.heap[w.heap.size]?=some (.deferred (some [])))
      (fun i W=>∃ c,Ix c i W∧W.heap[w.heap.size + 1]?=some (.loop (rec .done (some c)))∧W.heap[w.heap.size]?=some (.deferred (some [])))
      W1 hb1
      (fun s A B row hs hg' hr=>⟨hI s A B row hs.1 hg' (hfr (A:=A) hr),keep hg' hr (by omega) hs.2.1,keep hg' hr (by omega) hs.2.2⟩)
      (fun s A B row hs hg' hr=>by
        obtain ⟨c,hc,hl,hk⟩:=hs
        exact ⟨c,hIx c s A B row hc hg' (hfr (A:=A) hr),keep hg' hr (by omega) hl,keep hg' hr (by omega) hk⟩)
      ?_ ⟨hI1,hL1,hK1⟩).mono ?_
    · rintro i x W hx ⟨hi,hl,hk⟩
      have hlt:w.heap.size + 1 < W.heap.size:=(Array.getElem?_eq_some_iff.1 hl).1
      have hy:=run_yield (P:=P) (args:=encs x) hl (by rw [hrec];exact hps x)
      rw [hrec] at hy
      refine ⟨fn,_,assign,body,hy,roundIn_of_wpIn hfn (wpIn_mono (hround (w.heap.size + 1) i x W (by omega) hlt hx hi) ?_)⟩
      clear hy
      intro e a' Wa hp
      cases e with
      | normal =>
       obtain ⟨hst,hia,Ax,hAx,hax,hbody⟩:=hp
       replace hl:=hst.same _ _ (.inr (by omega)) hl
       replace hk:=hst.same _ _ (.inr (Nat.le_refl _)) hk
       replace hlt:w.heap.size + 1 < Wa.heap.size:=(Array.getElem?_eq_some_iff.1 hl).1
       replace hi:=hia
       clear hia
       revert hst
       generalize W=Wb
       intro hst
       obtain ⟨W,rfl⟩:∃ W,W=Wa:=⟨_,rfl⟩
       have hst2:Stay (fun k=>S k∨W1.heap.size≤k) Wb W:=hst.mono (fun k hk=>hk.imp id (fun h=>by omega))
       have hno:¬ (S (w.heap.size + 1)∨W1.heap.size≤w.heap.size + 1):=fun h=>by
         rcases h with h | h
         · have:=hSl _ h;omega
         · omega
       refine ⟨_,run_beginRound hl (by rw [hrec]),?_⟩
       have hl2:(W.putObj (w.heap.size + 1) (.loop { rec .ready none with state:=.busy })).heap[w.heap.size + 1]?=some (.loop { rec .ready none with state:=.busy }):=World.putObj_heap_same hlt
       have hk2:(W.putObj (w.heap.size + 1) (.loop { rec .ready none with state:=.busy })).heap[w.heap.size]?=some (.deferred (some [])):=(World.putObj_heap_other (by omega)).trans hk
       have hw2:=hst2.putObj (.loop { rec .ready none with state:=.busy }) hno
       refine wpIn_mono (hbody _ (by rw [World.putObj_size];exact hlt) (hI.putObj _ hi (by omega) hl rfl) (hAx.putObj (s:=()) _ hax (by omega) hl rfl)) ?_
       have fin:∀ (jump:Option Code) (W3:World),Stay (fun k=>S k∨w.heap.size≤k) (W.putObj (w.heap.size + 1) (.loop { rec .ready none with state:=.busy })) W3 →
           (Instr.endRound (w.heap.size + 1) jump).run P W3=.ok (.bool jump.isNone) (W3.putObj (w.heap.size + 1) (.loop (rec (if jump.isNone then .ready else .done) jump))) ∧
           W3.heap[w.heap.size + 1]?=some (.loop { rec .ready none with state:=.busy }) ∧
           (W3.putObj (w.heap.size + 1) (.loop (rec (if jump.isNone then .ready else .done) jump))).heap[w.heap.size + 1]?=some (.loop (rec (if jump.isNone then .ready else .done) jump)) ∧
           (W3.putObj (w.heap.size + 1) (.loop (rec (if jump.isNone then .ready else .done) jump))).heap[w.heap.size]?=some (.deferred (some [])):=fun jump W3 hk3=>by
         have hl3:=hk3.same _ _ (.inr (by omega)) hl2
         have:=run_endRound (P:=P) jump hl3
         rw [hrec] at this ⊢
         exact ⟨this,by rw [hrec] at hl3;exact hl3,World.putObj_heap_same (Array.getElem?_eq_some_iff.1 hl3).1,(World.putObj_heap_other (by omega)).trans (hk3.same _ _ (.inr (Nat.le_refl _)) hk2)⟩
       rintro e a3 W3 hp
       cases e with
       | normal =>
         obtain ⟨hk3,hi3⟩:=hp
         obtain ⟨hr,hl3,hl4,hk4⟩:=fin none W3 hk3
         exact ⟨_,_,hr,.inl ⟨rfl,⟨hI.putObj _ hi3 (by omega) hl3 rfl,hl4,hk4⟩,(hw2.trans (hk3.mono (fun k hk=>hk.imp (fun h=>h) (fun h=>by omega)))).putObj _ hno⟩⟩
       | ret =>
         obtain ⟨hk3,hi3⟩:=hp
         obtain ⟨hr,hl3,hl4,hk4⟩:=fin (some .ret) W3 hk3
         exact ⟨_,_,hr,.inr ⟨rfl,⟨.ret,(hIx _).putObj _ hi3 (by omega) hl3 rfl,hl4,hk4⟩,(hw2.trans (hk3.mono (fun k hk=>hk.imp (fun h=>h) (fun h=>by omega)))).putObj _ hno⟩⟩
       | exit id =>
         obtain ⟨hk3,hi3⟩:=hp
         obtain ⟨hr,hl3,hl4,hk4⟩:=fin (some (.exit id)) W3 hk3
         exact ⟨_,_,hr,.inr ⟨rfl,⟨.exit id,(hIx _).putObj _ hi3 (by omega) hl3 rfl,hl4,hk4⟩,(hw2.trans (hk3.mono (fun k hk=>hk.imp (fun h=>h) (fun h=>by omega)))).putObj _ hno⟩⟩
       | goto t =>
         obtain ⟨hk3,hi3⟩:=hp
         obtain ⟨hr,hl3,hl4,hk4⟩:=fin (some (.goto t)) W3 hk3
         exact ⟨_,_,hr,.inr ⟨rfl,⟨.goto t,(hIx _).putObj _ hi3 (by omega) hl3 rfl,hl4,hk4⟩,(hw2.trans (hk3.mono (fun k hk=>hk.imp (fun h=>h) (fun h=>by omega)))).putObj _ hno⟩⟩
       | panic ch=>exact hp.elim
       | outgrown=>exact hp.elim
      | _=>exact hp.elim
    · rintro e W2 ⟨⟨v,rfl⟩,(⟨hi,hl,hk⟩ | ⟨i,c,hi,hl,hk⟩)⟩
      · exact ⟨none,_,by have:=run_endLoop (P:=P) hl (by rw [hrec];simp);rw [hrec] at this;exact this,hdone _ _ (Nat.le_refl _) (hI.putObj _ hi (by omega) hl rfl) ((World.putObj_heap_other (by omega)).trans hk)⟩
      · exact ⟨some c,_,by have:=run_endLoop (P:=P) hl (by rw [hrec];simp);rw [hrec] at this;exact this,hstop _ c i _ (Nat.le_refl _) ((hIx c).putObj _ hi (by omega) hl rfl) ((World.putObj_heap_other (by omega)).trans hk)⟩
end Go.Proofs.YtmggbbmpckcleaaGreat
