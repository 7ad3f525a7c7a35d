import Derived.Test.YtmggbbmpckcleaaGreatGBu1
import Derived.Test.YtmggbbmpckcleaaGreatGId1
import Derived.Test.YtmggbbmpckcleaaGreatGKit
import Derived.Test.YtmggbbmpckcleaaGreatGCo2
import Derived.Test.YtmggbbmpckcleaaGreatGCo3
import Derived.Lib.BufStepsIn
import Derived.Lib.SliceRun
import Derived.Maps.OwnIn
import Derived.DeepKeys4
import Derived.StringKeys
import Derived.Maps.OwnSet
import Derived.Maps.Views
set_option maxRecDepth 100000
set_option maxHeartbeats 16000000
namespace Go.Proofs.YtmggbbmpckcleaaGreat
open Go.RowKit Go.Shelf
attribute [local go_sem] Oper.semAt_some
theorem InV.stay12 {S:Nat→Prop} {W W':World} {A:Option Addr} {vs:List Value} (h:InV W A vs) (hs:Stay S W W') (hA:∀ p,A=some p→vs≠[]→S p.block):InV W' A vs:=fun j u hj=>by
 obtain ⟨b,off,rfl,h1,h2⟩:=h j u hj
 obtain ⟨ob,ho,_⟩:=cells_of_cell h2
 have h3:=hs.same b ob (hA _ rfl (fun e=>by rw [e] at hj;cases hj)) ho
 refine ⟨b,off,rfl,Nat.lt_of_lt_of_le h1 hs.size,?_⟩
 rw [← h2]
 simp only [World.cell?,h3,show W.heap[b]?=some ob from ho]
theorem callsIn_round12 {n l:Nat} {P:Program} {f:FuncId} {args:Array Value} {w:World} {R:Ending→World→Prop} (h:Calls P f args w R):CallsIn (Fence.wide.inRound l) n P f args w R:=(callsIn_wide.2 h).inRound l
theorem roundIn_any12 {m m' l':Nat} {P:Program} {l:Nat} {fn:FuncId} {tmps:Array Value} {assign body:Code} {W:World} {R:Ending→World→Prop} (h:RoundIn Fence.wide m P l fn tmps assign body W R):RoundIn (Fence.wide.inRound l') m' P l fn tmps assign body W R :=
 ⟨h.1,fun c cs _=>h.2 c cs (room_wide _)⟩
theorem rangeS12 {S:Nat→Prop} {W W':World} {b o:Nat} {cs:List Value} (h:W.rangeAt b o cs) (hs:Stay S W W') (hb:S b):W'.rangeAt b o cs:=fun j v hj=>by
 have h1:=h j v hj
 obtain ⟨ob,ho,_⟩:=cells_of_cell h1
 have h2:=hs.same b ob hb ho
 rw [← h1]
 simp only [World.cell?,h2,show W.heap[b]?=some ob from ho]
theorem results_cc12 {fn:Func} {s p:Tmp} {t0 t1:TypeId} (h:fn.results=#[.cell s t0,.cell p t1]) (tmps:Array Value) (P:Program) (w:World) (g0 g1:Nat) (y0 y1:Value) (T0 T1:TypeId)
  (hs:tmps.getD s undef=.pointer (some ⟨g0,0,none⟩)) (hp:tmps.getD p undef=.pointer (some ⟨g1,0,none⟩))
  (i0:Is w g0 T0 #[y0]) (i1:Is w g1 T1 #[y1]) (a0:(isAgg t0).run P w=.ok false w) (a1:(isAgg t1).run P w=.ok false w) :
  (results fn tmps).run P w=.ok (.tuple #[y0,y1]) w:=by
 have e:(results fn tmps).run P w=((asAddr (tmps.getD s undef)).run P w).andThen fun b w0=>((loadVar t0 b).run P w0).andThen fun v0 w1=>((asAddr (tmps.getD p undef)).run P w1).andThen fun b w2=>((loadVar t1 b).run P w2).andThen fun v1 w3=>.ok (.tuple #[v0,v1]) w3:=by
  simp only [results,h]
  simp [Sem.run_bind,Result.andThen]
 have c0:=i0.cell 0
 have c1:=i1.cell 0
 have l0:(loadVar t0 ⟨g0,0,none⟩).run P w=.ok y0 w:=by
  simp only [loadVar,Sem.run_bind,a0,Result.andThen_ok]
  simp [go_sem,c0]
 have l1:(loadVar t1 ⟨g1,0,none⟩).run P w=.ok y1 w:=by
  simp only [loadVar,Sem.run_bind,a1,Result.andThen_ok]
  simp [go_sem,c1]
 rw [e,hs,hp]
 simp [asAddr,l0,l1]
theorem isOwn12 {B:Nat} {g:Nat} {t:TypeId} {cs:Array Value} {X Y:World} {row:Option Nat} (h:Is X g t cs) (hg:X.grownBy Y row) (hr:∀ r,row=some r→B≤r∧∃ o:Obj,X.heap[r]?=some o∧o.isCells=false):Is Y g t cs :=
 (grownBy_keeps_cells hg (fun r e=>(hr r e).2) h rfl).trans h
theorem belowOwn12 {n B:Nat} {w X Y:World} {row:Option Nat} (h:Below n w X) (hx:n≤X.heap.size) (hn:n≤B) (hg:X.grownBy Y row) (hr:∀ r,row=some r→B≤r∧∃ o:Obj,X.heap[r]?=some o∧o.isCells=false):Below n w Y :=
 h.grown hg hx (fun k e=>Nat.le_trans hn (hr k e).1)
theorem all_miss12 {α:Type} {p:α→Bool} {l:List α} {i:Nat} {x:α} (hx:l[i]?=some x) (hp:p x=false):l.all p=false:=by
 rw [List.all_eq_false]
 exact ⟨x,List.mem_of_getElem? hx,by rw [hp];decide⟩
structure All12 {α:Type} (p:α→Bool) (l:List α):Prop where
 out:l.all p=true
structure Not12 {α:Type} (p:α→Bool) (l:List α):Prop where
 out:l.all p=false
theorem results_c12 {fn:Func} {s:Tmp} {t0:TypeId} (h:fn.results=#[.cell s t0]) (tmps:Array Value) (P:Program) (w:World) (g0:Nat) (y0:Value) (T0:TypeId)
  (hs:tmps.getD s undef=.pointer (some ⟨g0,0,none⟩)) (i0:Is w g0 T0 #[y0]) (a0:(isAgg t0).run P w=.ok false w) :
  (results fn tmps).run P w=.ok y0 w:=by
 have e:(results fn tmps).run P w=((asAddr (tmps.getD s undef)).run P w).andThen fun b w0=>(loadVar t0 b).run P w0:=by
  simp only [results,h]
  simp [Sem.run_bind,Result.andThen]
 have c0:=i0.cell 0
 have l0:(loadVar t0 ⟨g0,0,none⟩).run P w=.ok y0 w:=by
  simp only [loadVar,Sem.run_bind,a0,Result.andThen_ok]
  simp [go_sem,c0]
 rw [e,hs]
 simp [asAddr,l0]
section
variable {P:Program} {w:World} {o:Oper} {a:Act} {Q:Exit→Act→World→Prop} {K:Act→World→Prop}
variable {md:Region.Mode} {ops:Array Oper} {S:World→Prop} {fuel i:Nat} {listed:Array Bool}
theorem wp_copyV12 (s x:Operand) (t e:TypeId) (i0:TypeInfo) (z:Value) (size bytes:Nat)
  (ho:o.op=.call { callee:=.builtin .append,args:=#[s,x],argTypes:=#[t,t] }) (ht:P.underlying t=some (.slice e)) (hi:P.info? e=some i0) (hz:i0.zero=some z) (hz1:i0.size=size) (hz2:i0.bytes=bytes) (hzs:z.cells.size=size) (hpos:0 < size)
  (A:Option Addr) (cap n:Nat) (xs:List Value) (hl:xs.length=n * size) (h1:∀ u ∈ xs,u.oneCell'=true) (hc:InV w A xs) (hn:A=none→cap=0) (hm:n≤maxLen) (hby:n * bytes≤140737488355328)
  (hs:a.eval s=.slice none 0 0∧a.eval x=.slice A n cap) (base:Nat) (hb:base≤w.heap.size)
  (h:∀ A' c' w',RowV w' base e size A' c' n xs→Below w.heap.size w w'→K (a.put o.dst (.slice A' n c')) w'):o.wp P a w K Q:=by
 cases A with
 | none =>
  obtain rfl:xs=[]:=hc.nil_of
  obtain rfl:cap=0:=hn rfl
  obtain rfl:n=0:=by
   rcases Nat.eq_zero_or_pos n with h0 | h0
   · exact h0
   ·
    have:=Nat.mul_pos h0 hpos
    rw [← hl] at this
    cases this
  have hrun:=run_append_owned_none (P:=P) (w:=w) base t o.type e i0 size ht hi (.slice none 0 0) 0 [] (World.ownsRow_nil _ _ _ _)
  unfold Oper.wp
  simp [execOp,ho,resolve,invoke,builtin,hs.1,hs.2,hrun,Result.andThen]
  exact h none 0 w (World.ownsRow_nil _ _ _ _) (Below.refl _ _)
 | some p =>
  refine wp_append_own w s x t ho base e i0 z size bytes ht hi hz hz1 hz2 hzs hpos (.slice none 0 0) 0 [] hs.1 (World.ownsRow_nil _ _ _ _) p n cap xs hs.2 hl (fun j u hj=>?_) h1 (by omega) (by rw [Nat.zero_add];exact hby) hb ?_
  ·
   obtain ⟨b,off,e2,_,h2⟩:=hc j u hj
   cases e2
   rw [Addr.add_lit]
   exact h2
  ·
   intro v' w1 hown hgrow _
   obtain ⟨A',c',rfl⟩:=owns_sliceG hown
   rw [Nat.zero_add] at hown ⊢
   exact h A' c' w1 hown ((Below.refl _ w).grown hgrow (Nat.le_refl _) (fun k e=>by cases e))
end
section
variable {P:Program} {w:World} {o:Oper} {a:Act} {Q:Exit→Act→World→Prop} {K:Act→World→Prop}
variable {md:Region.Mode} {ops:Array Oper} {S:World→Prop} {fuel i:Nat} {listed:Array Bool}
end
section
variable {P:Program} {w:World} {o:Oper} {a:Act} {Q:Exit→Act→World→Prop} {K:Act→World→Prop}
variable {md:Region.Mode} {ops:Array Oper} {S:World→Prop} {fuel i:Nat} {listed:Array Bool}
theorem arm_copyV12 (hw:Region.wanted o (yielded ops a.tmps)=true) (s x:Operand) (t e:TypeId) (i0:TypeInfo) (z:Value) (size bytes:Nat)
  (ho:o.op=.call { callee:=.builtin .append,args:=#[s,x],argTypes:=#[t,t] }) (ht:P.underlying t=some (.slice e)) (hi:P.info? e=some i0) (hz:i0.zero=some z) (hz1:i0.size=size) (hz2:i0.bytes=bytes) (hzs:z.cells.size=size) (hpos:0 < size)
  (A:Option Addr) (cap n:Nat) (xs:List Value) (hl:xs.length=n * size) (h1:∀ u ∈ xs,u.oneCell'=true) (hc:InV w A xs) (hn:A=none→cap=0) (hm:n≤maxLen) (hby:n * bytes≤140737488355328)
  (hs:a.eval s=.slice none 0 0∧a.eval x=.slice A n cap) (base:Nat) (hb:base≤w.heap.size)
  (h:∀ A' c' w',RowV w' base e size A' c' n xs→Below w.heap.size w w'→S w'∧wpAnyH P md ops Q S fuel (listed.setIfInBounds i true) (a.put o.dst (.slice A' n c')) w') :
  ∀ K':Act→World→Prop,Shut (∀ a w,S w→(S w→wpAnyH P md ops Q S fuel (listed.setIfInBounds i true) a w)→K' a w)→if Region.wanted o (yielded ops a.tmps)=true then Oper.wp P o a w K' Q else K' (a.put o.dst undef) w:=fun K' hK=>by
 rw [if_pos hw]
 exact wp_copyV12 s x t e i0 z size bytes ho ht hi hz hz1 hz2 hzs hpos A cap n xs hl h1 hc hn hm hby hs base hb (fun A' c' w' hr' hb'=>hK.out _ _ (h A' c' w' hr' hb').1 fun _=>(h A' c' w' hr' hb').2)
end
section
variable {P:Program} {w:World} {o:Oper} {a:Act} {Q:Exit→Act→World→Prop} {K:Act→World→Prop}
variable {md:Region.Mode} {ops:Array Oper} {S:World→Prop} {fuel i:Nat} {listed:Array Bool}
end
theorem rowsIn_of12 {n l:Nat} {P:Program} {row:String} {args:Array Value} {w:World} {R:Value→World→Prop} (h:Rows P row args w R):RowsIn (Fence.wide.inRound l) n P row args w R :=
 fun c cs _=>let ⟨v,w',r,s⟩:=h c cs;⟨v,w',r,stepsIn_wide.2 s⟩
theorem operIn_of12 {n l:Nat} {P:Program} {o:Oper} {a:Act} {w:World} {K:Act→World→Prop} {Q:Exit→Act→World→Prop} (hd:∀ c,o.op≠.defer c) (h:o.wp P a w K Q):o.wpIn (Fence.wide.inRound l) n P a w K Q:=by
 refine ⟨fun _ _=>trivial,?_⟩
 rw [Oper.semAt_plain _ _ _ hd]
 unfold Oper.wp at h
 generalize (execOp a.eval o).run P w=r at *
 cases r with
 | ok x w' =>
  cases x <;> simp only [Oper.upon,Oper.uponIn] at h ⊢ <;> first
   | exact h
   | exact h.elim
   | exact ⟨fun e=>absurd e (by simp [Fence.wide]),callsIn_round12 h⟩
   | exact ⟨fun e=>absurd e (by simp [Fence.wide]),rowsIn_of12 h⟩
 | halt x w'=>cases x <;> simp only [Oper.upon,Oper.uponIn] at h ⊢ <;> exact h
theorem anyIn_of12 {n l:Nat} {P:Program} {md:Region.Mode} {ops:Array Oper} {Q:Exit→Act→World→Prop} (hd:∀ (i:Nat) (o:Oper),ops[i]?=some o→∀ c,o.op≠.defer c) (hQ:¬ LetsOut Q) :
  ∀ (fuel:Nat) (listed:Array Bool) (a:Act) (w:World),wpAny P md ops Q fuel listed a w→wpAnyIn (Fence.wide.inRound l) n P md ops Q fuel listed a w
 | 0,_,_,_,h=>h
 | fuel + 1,listed,a,w,h=>⟨h.1,fun i hi=>by
  have h2:=h.2 i hi
  unfold wpOp at h2
  unfold wpOpIn
  cases ho:ops[i]? with
  | none=>rw [ho] at h2;exact anyIn_of12 hd hQ fuel _ a w h2
  | some o =>
   rw [ho] at h2
   simp only [] at h2 ⊢
   split
   ·
    rename_i hw
    rw [if_pos hw] at h2
    rcases h2 with h2 | h2
    · exact Oper.wpIn_mono (fun a w=>anyIn_of12 hd hQ fuel _ a w) (operIn_of12 (hd i o ho) h2)
    · exact absurd h2.2 hQ
   ·
    rename_i hw
    rw [if_neg hw] at h2
    exact ⟨fun _ _=>trivial,anyIn_of12 hd hQ fuel _ _ w h2⟩⟩
def noDefer12 (ops:Array Oper):Bool:=ops.all fun o=>match o.op with | .defer _=>false | _=>true
theorem noDefer_out12 {ops:Array Oper} (h:noDefer12 ops=true) (i:Nat) (o:Oper) (ho:ops[i]?=some o):∀ c,o.op≠.defer c:=fun c e=>by
 obtain ⟨h1,h2⟩:=Array.getElem?_eq_some_iff.1 ho
 have:=(Array.all_eq_true.1 h) i h1
 rw [h2,e] at this
 cases this
theorem regIn_of12 {n l id:Nat} {P:Program} {ops:Array Oper} {Q:Exit→Act→World→Prop} {S:World→Prop} {a:Act} {w:World} (hm:P.follows .mixedOrders=true) (hd:noDefer12 ops=true) (hQ:¬ LetsOut Q)
  (h:wpAnyH P .any ops Q S ops.size (Array.replicate ops.size false) a { w with drawn:=w.drawn + 1 }):(Code.region id ops true).wpIn (Fence.wide.inRound l) n P Q a w :=
 wpIn_region_any hm (anyIn_of12 (noDefer_out12 hd) hQ _ _ _ _ (wpAny_of_held _ _ _ _ h))
end Go.Proofs.YtmggbbmpckcleaaGreat
namespace Go.Proofs.YtmggbbmpckcleaaGreat
open Go.RowKit Go.Shelf
attribute [local go_sem] Oper.semAt_some
abbrev bktA (b:Bkt12):Array Value:=#[.int .i64 b.st,.string b.l,.string b.c]
abbrev bktV (b:Bkt12):Value:=.agg (bktA b)
abbrev flB (B:List Bkt12):List Value:=B.flatMap fun b=>[.int .i64 b.st,.string b.l,.string b.c]
theorem flB_len (B:List Bkt12):(flB B).length=B.length * 3:=by
 induction B with
 | nil=>rfl
 | cons x r ih=>rw [flB,List.flatMap_cons,List.length_append,ih,List.length_cons];simp only [List.length_cons,List.length_nil];omega
theorem flB_at {B:List Bkt12} {k:Nat} {x:Bkt12} (h:B[k]?=some x) (j:Nat) (hj:j < 3):(flB B)[k * 3 + j]?=([.int .i64 x.st,.string x.l,.string x.c]:List Value)[j]?:=by
 induction B generalizing k with
 | nil=>rw [List.getElem?_nil] at h;cases h
 | cons y r ih =>
  rw [flB,List.flatMap_cons,List.getElem?_append]
  cases k with
  | zero=>cases h;rw [if_pos (by show 0 * 3 + j < 3;omega),Nat.zero_mul,Nat.zero_add]
  | succ k =>
   rw [List.getElem?_cons_succ] at h
   rw [if_neg (by show ¬ (k + 1) * 3 + j < 3;omega),← ih h]
   congr 1
   show (k + 1) * 3 + j - 3=_
   omega
theorem flB_one (B:List Bkt12):∀ u ∈ flB B,u.oneCell'=true:=fun u hu=>by
 obtain ⟨x,_,hx⟩:=List.mem_flatMap.1 hu
 simp only [List.mem_cons,List.not_mem_nil,or_false] at hx
 rcases hx with rfl | rfl | rfl <;> rfl
theorem InV.bkt {W:World} {A:Option Addr} {B:List Bkt12} (h:InV W A (flB B)) {k:Nat} {x:Bkt12} (hx:B[k]?=some x) :
  ∃ b off,A=some ⟨b,off,none⟩∧b < W.heap.size∧W.rangeAt b (off + k * 3) [.int .i64 x.st,.string x.l,.string x.c]:=by
 obtain ⟨b,off,rfl,hb,h0⟩:=h (k * 3 + 0) (.int .i64 x.st) ((flB_at hx 0 (by omega)).trans rfl)
 refine ⟨b,off,rfl,hb,fun j v hj=>?_⟩
 have hj2:j < 3:=(List.getElem?_eq_some_iff.1 hj).1
 obtain ⟨b2,off2,e,_,h1⟩:=h (k * 3 + j) v ((flB_at hx j hj2).trans hj)
 cases e
 rw [← h1,Nat.add_assoc]
theorem InV.blkB {W:World} {A:Option Addr} {B:List Bkt12} (h:InV W A (flB B)):∀ p,A=some p→B≠[]→p.block < W.heap.size:=fun p e hn=>by
 cases B with
 | nil=>exact absurd rfl hn
 | cons x r =>
  obtain ⟨b,off,e2,hb,_⟩:=h 0 (.int .i64 x.st) rfl
  rw [e] at e2
  cases e2
  exact hb
abbrev stoA (s:Sto12) (A:Option Addr) (c:Nat):Array Value:=#[.slice A s.B.length c,.int .i64 s.many,.int .i64 s.gone]
abbrev stoV (s:Sto12) (A:Option Addr) (c:Nat):Value:=.agg (stoA s A c)
structure InS (W:World) (s:Sto12) (A:Option Addr) (c:Nat):Prop where
 b:InV W A (flB s.B)
 nil:A=none→c=0
 cap:s.B.length≤c
 fit:s.B.length * 40≤140737488355328
theorem InS.keep {W W':World} {s:Sto12} {A:Option Addr} {c:Nat} (h:InS W s A c) (hb:Below W.heap.size W W'):InS W' s A c:=⟨h.b.keep hb,h.nil,h.cap,h.fit⟩
theorem infoSto12:(Tryz.prog.info? 31).map (·.size)=some 3:=by kernel_rfl
theorem infoBkt12:(Tryz.prog.info? 70).map (·.size)=some 3:=by kernel_rfl
abbrev encB12 (b:Bkt12):Array Value:=#[bktV b]
abbrev encR12 (p:Nat × Bkt12):Array Value:=#[.int .i64 (p.1:Int),bktV p.2]
theorem size_pow12 (n:Int):size12 n=true↔∃ j,j < 10∧n=8 * 2 ^ j:=by
 simp only [size12,sizes12,List.mem_cons,List.not_mem_nil,or_false,decide_eq_true_eq]
 constructor
 ·
  rintro (h | h | h | h | h | h | h | h | h | h)
  · exact ⟨0,by decide,h⟩
  · exact ⟨1,by decide,h⟩
  · exact ⟨2,by decide,h⟩
  · exact ⟨3,by decide,h⟩
  · exact ⟨4,by decide,h⟩
  · exact ⟨5,by decide,h⟩
  · exact ⟨6,by decide,h⟩
  · exact ⟨7,by decide,h⟩
  · exact ⟨8,by decide,h⟩
  · exact ⟨9,by decide,h⟩
 ·
  rintro ⟨j,hj,rfl⟩
  rcases (by omega:j=0∨j=1∨j=2∨j=3∨j=4∨j=5∨j=6∨j=7∨j=8∨j=9) with rfl | rfl | rfl | rfl | rfl | rfl | rfl | rfl | rfl | rfl <;> decide
theorem pow_le12:∀ k:Nat,k≤10→(8 * 2 ^ k:Int)≤8192∧(0:Int) < 8 * 2 ^ k:=by
 intro k hk
 rcases (by omega:k=0∨k=1∨k=2∨k=3∨k=4∨k=5∨k=6∨k=7∨k=8∨k=9∨k=10) with rfl | rfl | rfl | rfl | rfl | rfl | rfl | rfl | rfl | rfl | rfl <;> decide
theorem pow_lt12:∀ k:Nat,k≤10→((8 * 2 ^ k:Int)≤4096↔k < 10):=by
 intro k hk
 rcases (by omega:k=0∨k=1∨k=2∨k=3∨k=4∨k=5∨k=6∨k=7∨k=8∨k=9∨k=10) with rfl | rfl | rfl | rfl | rfl | rfl | rfl | rfl | rfl | rfl | rfl <;> decide
theorem isSize_any12 (n:Int) (w:World) :
  Calls Tryz.prog 51 #[.int .i64 n] w fun e w'=>e=.returned (.bool (size12 n))∧w=w':=by
 have HN:=Lib.hid (size_pow12 n)
 generalize size12 n=R at *
 go_enter Tryz.func51,Tryz.ntmps51
 go_wp2
 go_loopw [3] (fun i wr=>∃ k:Nat,k≤10∧i=.int .i64 (8 * 2 ^ k:Int)∧(∀ j,j < k→n≠8 * 2 ^ j)∧w=wr) (fun i _=>8193 - (intOf i).toNat)
 case atStart=>exact ⟨0,by omega,rfl,fun j hj=>absurd hj (Nat.not_lt_zero _),rfl⟩
 case round =>
  obtain ⟨k,hk,rfl,hno,rfl⟩:=hrel
  have hp:=pow_le12 k hk
  have hlt:=pow_lt12 k hk
  have hs:(8 * 2 ^ k:Int) * 2=8 * 2 ^ (k + 1):=by rw [Int.pow_succ];omega
  have HS:=Lib.hid hs
  have HNO:=Lib.hid hno
  clear hno hs
  have hk10:=Lib.hid hk
  by_cases h1:k < 10
  ·
   have h2:(8 * 2 ^ k:Int)≤4096:=hlt.2 h1
   have HE:=Lib.hid (⟨k,h1,rfl⟩:∃ j,j < 10∧(8 * 2 ^ k:Int)=8 * 2 ^ j)
   have H1:=Lib.hid h1
   clear hlt hk h1
   have HG:Hid (∀ j,n=(8 * 2 ^ k:Int)→j=k→n=8 * 2 ^ j):=Lib.hid (fun j e e2=>by rw [e,e2])
   obtain ⟨P,hP⟩:∃ P:Int,P=8 * 2 ^ k:=⟨_,rfl⟩
   rw [← hP] at h2 HS hp HE HG ⊢
   have HP:=Lib.hid hP
   clear hP
   have wm:=IntWalk.i64_in (P * 2) (by omega)
   by_cases h3:n=P
   ·
    have h4:R=true:=by
     have hh:=HN.out
     have hx:∃ j,j < 10∧n=8 * 2 ^ j:=by rw [h3];exact HE.out
     exact hh.2 hx
    subst h4
    subst h3
    go_wp2
    go_ret
    exact ⟨rfl,rfl⟩
   ·
    have H3:=Lib.hid h3
    go_wp2
    go_roundw
    case rel =>
     refine ⟨k + 1,by have:=H1.out;omega,by rw [← HS.out],fun j hj=>?_,trivial⟩
     by_cases hjk:j=k
     · subst hjk;rw [← HP.out];exact H3.out
     · exact HNO.out j (by omega)
    case measure=>simp [intOf];omega
  ·
   obtain rfl:k=10:=by have:=hk10.out;omega
   have h2:¬ ((8 * 2 ^ 10:Int)≤4096):=by decide
   have h4:R=false:=by
    rw [← Bool.not_eq_true]
    intro hr
    obtain ⟨j,hj,e⟩:=HN.out.1 hr
    exact HNO.out j hj e
   subst h4
   go_wp2
   go_ret
   exact ⟨rfl,rfl⟩
def homV12 (l:ByteArray) (n:Int):Int:=if l.size < 4∨n < 1 then 0 else (rd10 l 0:Int) % n
theorem homV_nat12 (l:ByteArray) {n:Nat} (h:0 < n):homV12 l (n:Int)=(hom12 l n:Int):=by
 unfold homV12 hom12
 by_cases h1:l.size < 4
 · rw [if_pos (.inl h1),if_pos h1];rfl
 · rw [if_neg (by omega),if_neg h1];rfl
theorem rdk_cut12 (l:ByteArray) (h:4≤l.size):∀ k,k≤4→rdk10 (l.extract 0 4) k=rdk10 l k
 | 0,_=>rfl
 | k + 1,hk=>by
  rw [rdk10,rdk10,rdk_cut12 l h k (by omega)]
  congr 1
  have:=bt7_extract l 0 4 k (by omega) h
  rwa [Nat.zero_add] at this
theorem number_any12 (s:ByteArray) (w:World) (h:s.size=4) :
  Calls Tryz.prog 106 #[.string s] w fun e w'=>e=.returned (.int .i64 (rdk10 s 4:Int))∧w=w':=by
 have HBD:=Lib.hid (rdk_bd10 s)
 have H4:=Lib.hid h
 have h4:(s.size:Int)=4:=by omega
 clear h
 go_enter Tryz.func106,Tryz.ntmps106
 go_wp2
 go_loopw [3,7] (fun n i wr=>∃ k:Nat,k≤4∧i=.int .i64 (k:Int)∧n=.int .i64 (rdk10 s k:Int)∧w=wr) (fun _ i _=>4 - (intOf i).toNat)
 case atStart=>exact ⟨0,by omega,rfl,rfl,rfl⟩
 case round =>
  obtain ⟨k,hk,rfl,rfl,rfl⟩:=hrel
  by_cases hlt:k < 4
  ·
   have h2:(k:Int) < 4:=by omega
   have hb:=HBD.out k hlt
   have HST:=Lib.hid (show rdk10 s (k + 1)=256 * rdk10 s k + bt7 s k from rfl)
   have hkl:k < s.size:=by have:=H4.out;omega
   have hget:=bt7_get hkl
   have hbl:=bt7_lt s k
   generalize rdk10 s k=y at *
   generalize bt7 s k=z at *
   have wp:=IntWalk.i64_in ((y:Int) * 256) (by omega)
   have hor:=tor10 y z hb hbl
   go_wp2
   go_roundw
   case rel=>exact ⟨k + 1,by omega,by go_num,by rw [HST.out];go_num,trivial⟩
   case measure=>simp [intOf];omega
  ·
   have h2:¬ (k:Int) < 4:=by omega
   obtain rfl:k=4:=by omega
   go_wp2
   go_ret
   exact ⟨rfl,rfl⟩
theorem home_any12 (l:ByteArray) (n:Int) (w:World) (hn:-9223372036854775808≤n∧n≤9223372036854775807) :
  Calls Tryz.prog 84 #[.string l,.int .i64 n] w fun e w'=>e=.returned (.int .i64 (homV12 l n))∧w=w':=by
 obtain ⟨R,hR⟩:∃ R,R=homV12 l n:=⟨_,rfl⟩
 rw [← hR]
 have HR:=Lib.hid hR
 clear hR
 by_cases h4:l.size < 4
 ·
  have h1:(l.size:Int) < 4:=by omega
  obtain rfl:R=0:=by rw [HR.out,homV12,if_pos (.inl h4)]
  go_enter Tryz.func84,Tryz.ntmps84
  go_wp2
  go_ret
  exact ⟨rfl,rfl⟩
 ·
  have h1:¬ (l.size:Int) < 4:=by omega
  by_cases h2:n < 1
  ·
   obtain rfl:R=0:=by rw [HR.out,homV12,if_pos (.inr h2)]
   go_enter Tryz.func84,Tryz.ntmps84
   go_wp2
   go_ret
   exact ⟨rfl,rfl⟩
  ·
   have hr:R=(rd10 l 0:Int) % n:=by rw [HR.out,homV12,if_neg (by omega)]
   have hsz:(l.extract 0 4).size=4:=by rw [ByteArray.size_extract];omega
   have HC:=Lib.hid (number_any12 (l.extract 0 4) w hsz)
   have hrk:rdk10 (l.extract 0 4) 4=rd10 l 0:=by rw [rdk_cut12 l (by omega) 4 (by omega),rdk_four10]
   rw [hrk] at HC
   have hlt:=rd_lt10 l 0
   have hm:(rd10 l 0:Int) % n < n:=Int.emod_lt_of_pos _ (by omega)
   have hm0:0≤(rd10 l 0:Int) % n:=Int.emod_nonneg _ (by omega)
   have ht:Int.tmod (rd10 l 0:Int) n=(rd10 l 0:Int) % n:=Int.tmod_eq_emod_of_nonneg (by omega)
   have h4':4≤l.size:=by omega
   have HR2:=Lib.hid hr
   generalize rd10 l 0=y at *
   clear HR hr
   go_enter Tryz.func84,Tryz.ntmps84
   go_wp2_with (go_at_call 106;refine HC.out.mono ?_;rintro e w1 ⟨rfl,rfl⟩)
   go_ret
   exact ⟨by rw [HR2.out];rfl,rfl⟩
end Go.Proofs.YtmggbbmpckcleaaGreat
namespace Go.Proofs.YtmggbbmpckcleaaGreat
open Go.RowKit Go.Shelf
attribute [local go_sem] Oper.semAt_some
theorem crowded_any12 (A:Option Addr) (n c:Nat) (m g k:Int) (w:World) (hk:k=0∨k=1) (hn:n≤4096) (hm:0≤m∧m≤4096) (hg:0≤g∧g≤4096) :
  Calls Tryz.prog 55 #[.agg #[.slice A n c,.int .i64 m,.int .i64 g],.int .i64 k] w fun e w'=>e=.returned (.bool (decide (3 * (n:Int) < 4 * (m + g + k))))∧Below w.heap.size w w':=by
 have i1:=Is.new w 31 #[.slice A n c,.int .i64 m,.int .i64 g]
 have c0:(w.alloc (.cells #[.slice A n c,.int .i64 m,.int .i64 g] 31)).cell? ⟨w.heap.size,0,none⟩=some (.slice A n c):=i1.cell 0
 have c1:(w.alloc (.cells #[.slice A n c,.int .i64 m,.int .i64 g] 31)).cell? ⟨w.heap.size,1,none⟩=some (.int .i64 m):=i1.cell 1
 have c2:(w.alloc (.cells #[.slice A n c,.int .i64 m,.int .i64 g] 31)).cell? ⟨w.heap.size,2,none⟩=some (.int .i64 g):=i1.cell 2
 have hB:Below w.heap.size w (w.alloc (.cells #[.slice A n c,.int .i64 m,.int .i64 g] 31)):=(Below.refl _ _).alloc (Nat.le_refl _) _
 have w1:=IntWalk.i64_in (m + g) (by omega)
 have w2:=IntWalk.i64_in (m + g + k) (by omega)
 have w3:=IntWalk.i64_in (4 * (m + g + k)) (by omega)
 have w4:=IntWalk.i64_in (3 * (n:Int)) (by omega)
 clear i1
 by_cases h:3 * (n:Int) < 4 * (m + g + k)
 ·
  rw [decide_eq_true h]
  go_enter Tryz.func55,Tryz.ntmps55
  go_wp2
  go_ret
  exact ⟨rfl,hB⟩
 ·
  rw [decide_eq_false h]
  go_enter Tryz.func55,Tryz.ntmps55
  go_wp2
  go_ret
  exact ⟨rfl,hB⟩
theorem used_any12 (c0 c1 c2:Value) (w:World) :
  Calls Tryz.prog 80 #[.agg #[c0,c1,c2]] w fun e w'=>e=.returned (.func (.func 104) #[] #[.pointer (some ⟨w.heap.size,0,none⟩)])∧w'=w.alloc (.cells #[c0,c1,c2] 31):=by
 go_enter Tryz.func80,Tryz.ntmps80
 go_wp2
 go_ret
 exact ⟨rfl,rfl⟩
theorem round_any12 (c0 c1 c2:Value) (f:Int) (w:World) :
  Calls Tryz.prog 82 #[.agg #[c0,c1,c2],.int .i64 f] w fun e w'=>e=.returned (.func (.func 105) #[] #[.pointer (some ⟨w.heap.size,0,none⟩),.pointer (some ⟨w.heap.size + 1,0,none⟩)])∧w'=(w.alloc (.cells #[c0,c1,c2] 31)).alloc (.cells #[.int .i64 f] 3):=by
 go_enter Tryz.func82,Tryz.ntmps82
 go_wp2
 go_ret
 exact ⟨rfl,rfl⟩
theorem way_any12 (c0 c1 c2:Value) (l:ByteArray) (w:World) :
  Calls Tryz.prog 129 #[.agg #[c0,c1,c2],.string l] w fun e w'=>e=.returned (.func (.func 134) #[] #[.pointer (some ⟨w.heap.size,0,none⟩),.pointer (some ⟨w.heap.size + 1,0,none⟩)])∧w'=(w.alloc (.cells #[c0,c1,c2] 31)).alloc (.cells #[.string l] 9):=by
 go_enter Tryz.func129,Tryz.ntmps129
 go_wp2
 go_ret
 exact ⟨rfl,rfl⟩
theorem us_take12 {B:List Bkt12} {k:Nat} {x:Bkt12} (hx:B[k]?=some x):us12 (B.take (k + 1))=us12 (B.take k) ++ (if x.st=1 then [x] else []):=by
 rw [List.take_add_one,hx,us12,List.filter_append]
 by_cases h:x.st=1 <;> simp [us12,h]
theorem us_at12 {B:List Bkt12} {k:Nat} {x:Bkt12} (hx:B[k]?=some x) (h1:x.st=1):(us12 B)[(us12 (B.take k)).length]?=some x:=by
 have hi:k < B.length:=(List.getElem?_eq_some_iff.1 hx).1
 have hd:B.drop k=x :: B.drop (k + 1):=by
  rw [List.drop_eq_getElem_cons hi]
  rw [List.getElem?_eq_getElem hi] at hx
  rw [Option.some.inj hx]
 have:us12 B=us12 (B.take k) ++ x :: us12 (B.drop (k + 1)):=by
  conv=>lhs;rw [← List.take_append_drop k B]
  rw [us12,List.filter_append,hd]
  simp [us12,h1]
 rw [this,List.getElem?_append_right (Nat.le_refl _),Nat.sub_self]
 rfl
theorem used_seq12 (n:Nat) (hn:1≤n) (Bd:Nat) (c0 c1 c2:Value) (A:Option Addr) (c:Nat) (B:List Bkt12) (w:World) (hBd:Is w Bd 31 #[c0,c1,c2]) (hsl:c0=.slice A B.length c) (hc:InV w A (flB B)) (hfit:B.length≤140737488355328) (S:Nat→Prop) (hS:S Bd) (hSA:∀ p,A=some p→B≠[]→S p.block) :
  SeqL Fence.wide n Tryz.prog 104 #[.pointer (some ⟨Bd,0,none⟩)] encB12 (us12 B) S w:=by
 intro l J Jx W hW hJ hJx hY h0
 refine callsIn_of_wp Tryz.func104 rfl trivial ?_ rfl
 simp only [Tryz.ntmps104,List.size_toArray,List.length_cons,List.length_nil,Nat.reduceAdd,Nat.reduceSub,Array.replicate_succ,Array.replicate_zero,List.push_toArray,List.append_toArray,List.nil_append,List.cons_append]
 have cN:W.cell? ⟨Bd,0,none⟩=some (.slice A B.length c):=by rw [(hW.is hBd hS).cell 0,← hsl];rfl
 have HY:=Lib.hid hY
 have HJ:=Lib.hid hJ
 have HC:=Lib.hid hc
 clear hY hJ hJx hc hBd hsl
 gi_wp2
 clear cN
 gi_loopw [8] (fun i wr=>∃ k:Nat,k≤B.length∧i=.int .i64 (k:Int)∧J (us12 (B.take k)).length wr∧Stay S w wr∧W.heap.size≤wr.heap.size) (fun i _=>B.length - (intOf i).toNat)
 case atStart=>exact ⟨0,by omega,rfl,h0,hW,Nat.le_refl _⟩
 case round =>
  clear h0
  obtain ⟨k,hk,rfl,hJk,hB,hs⟩:=hrel
  by_cases hlt:k < B.length
  ·
   have hkx:B[k]?=some B[k]:=List.getElem?_eq_getElem hlt
   generalize B[k]=x at hkx
   obtain ⟨b,off,rfl,hb,hr⟩:=HC.out.bkt hkx
   have hr:=rangeS12 hr hB (hSA _ rfl (fun e=>by rw [e] at hlt;cases hlt))
   have w1i:=IntWalk.i64_in ((k:Int) + 1) (by omega)
   have hk1:(k:Int) < (B.length:Int):=by omega
   obtain ⟨st,xl,xc⟩:=x
   by_cases h1:st=1
   ·
    subst h1
    have iX:=Is.new wr 70 (bktA ⟨1,xl,xc⟩)
    have x0:(wr.alloc (.cells (bktA ⟨1,xl,xc⟩) 70)).cell? ⟨wr.heap.size,0,none⟩=some (.int .i64 1):=iX.cell 0
    have hJa:=HJ.out.alloc (.cells (bktA ⟨1,xl,xc⟩) 70) hJk
    have hut:=us_take12 hkx
    rw [if_pos rfl] at hut
    have HUL:=Lib.hid (show (us12 (B.take (k + 1))).length=(us12 (B.take k)).length + 1 by rw [hut];simp)
    obtain ⟨fn,tmps,assign,body,hy,hR⟩:=HY.out _ _ (wr.alloc (.cells (bktA ⟨1,xl,xc⟩) 70)) (us_at12 hkx rfl) hJa
    simp only [encB12,bktV,bktA] at hy
    have HR:=Lib.hid hR
    have HX:=Lib.hid iX
    clear hR hkx hut iX
    gi_wp2_with (first | (refine wpListIn_load_midI rfl 70 _ rfl b (off + k * 3) rfl _ hr Tryz.underlying70 rfl infoBkt12 ?_) | (refine wpListIn_load_rowI rfl 70 _ rfl wr.heap.size rfl HX.out Tryz.underlying70 rfl infoBkt12 ?_))
    refine HR.out.mono ?_
    rintro e W3 (⟨rfl,hJ3,hB3⟩ | ⟨rfl,hJx3,_⟩)
    ·
     gi_wp2
     go_roundw
     case rel=>exact ⟨k + 1,by omega,by go_num,by rw [HUL.out];exact hJ3,(hB.grown (World.grownBy_alloc wr _ none) (fun r e=>by cases e)).trans (hB3.mono (fun k hk=>.inl hk)),Nat.le_trans hs (Nat.le_trans (by simp) hB3.size)⟩
     case measure=>simp [intOf];omega
    ·
     gi_wp2
     refine bodyPost_ret (results_none rfl _ _ _) rfl ?_
     exact ⟨⟨_,rfl⟩,.inr ⟨_,hJx3⟩⟩
   ·
    have hut:=us_take12 hkx
    rw [if_neg h1,List.append_nil] at hut
    have HUT:=Lib.hid hut
    have iX:=Is.new wr 70 (bktA ⟨st,xl,xc⟩)
    have x0:(wr.alloc (.cells (bktA ⟨st,xl,xc⟩) 70)).cell? ⟨wr.heap.size,0,none⟩=some (.int .i64 st):=iX.cell 0
    have hJa:=HJ.out.alloc (.cells (bktA ⟨st,xl,xc⟩) 70) hJk
    clear hkx hut iX
    gi_wp2_with (first | (refine wpListIn_load_midI rfl 70 _ rfl b (off + k * 3) rfl _ hr Tryz.underlying70 rfl infoBkt12 ?_) | (with_reducible refine And.intro (fun f e=>(by cases e)) ?_))
    go_roundw
    case rel=>exact ⟨k + 1,by omega,by go_num,by rw [HUT.out];exact hJa,hB.grown (World.grownBy_alloc wr _ none) (fun r e=>by cases e),Nat.le_trans hs (by simp)⟩
    case measure=>simp [intOf];omega
  ·
   have hk1:¬ (k:Int) < (B.length:Int):=by omega
   obtain rfl:k=B.length:=by omega
   gi_wp2
   go_end0
   exact ⟨⟨_,rfl⟩,.inl (by rw [List.take_length] at hJk;exact hJk)⟩
theorem round_seq12 (n:Nat) (hn:1≤n) (Bd Fd:Nat) (c0 c1 c2:Value) (A:Option Addr) (c f:Nat) (B:List Bkt12) (w:World) (hBd:Is w Bd 31 #[c0,c1,c2]) (hFd:Is w Fd 3 #[.int .i64 (f:Int)]) (hsl:c0=.slice A B.length c) (hc:InV w A (flB B)) (hfit:B.length≤4096) (hf:f < 1000000) (S:Nat→Prop) (hS:S Bd) (hS2:S Fd) (hSA:∀ p,A=some p→B≠[]→S p.block) :
  SeqL Fence.wide n Tryz.prog 105 #[.pointer (some ⟨Bd,0,none⟩),.pointer (some ⟨Fd,0,none⟩)] encR12 (rnd12 B f) S w:=by
 intro l J Jx W hW hJ hJx hY h0
 refine callsIn_of_wp Tryz.func105 rfl trivial ?_ rfl
 simp only [Tryz.ntmps105,List.size_toArray,List.length_cons,List.length_nil,Nat.reduceAdd,Nat.reduceSub,Array.replicate_succ,Array.replicate_zero,List.push_toArray,List.append_toArray,List.nil_append,List.cons_append]
 have cN:W.cell? ⟨Bd,0,none⟩=some (.slice A B.length c):=by rw [(hW.is hBd hS).cell 0,← hsl];rfl
 have HBD:=Lib.hid (show Is w Bd 31 #[.slice A B.length c,c1,c2] by rw [← hsl];exact hBd)
 have HFD:=Lib.hid hFd
 have HY:=Lib.hid hY
 have HJ:=Lib.hid hJ
 have HC:=Lib.hid hc
 clear hY hJ hJx hc hBd hsl hFd
 gi_wp2
 clear cN
 gi_loopw [9] (fun i wr=>∃ k:Nat,k≤B.length∧i=.int .i64 (k:Int)∧J k wr∧Stay S w wr∧W.heap.size≤wr.heap.size) (fun i _=>B.length - (intOf i).toNat)
 case atStart=>exact ⟨0,by omega,rfl,h0,hW,Nat.le_refl _⟩
 case round =>
  clear h0
  obtain ⟨k,hk,rfl,hJk,hB,hs⟩:=hrel
  by_cases hlt:k < B.length
  ·
   have hpk:=way_lt12 f k (n:=B.length) (by omega)
   have hxk:(rnd12 B f)[k]?=some (way12 f B.length k,at12 B (way12 f B.length k)):=rnd_at12 hlt
   have hkx:B[way12 f B.length k]?=some (at12 B (way12 f B.length k)):=by rw [at_get12 hpk];exact List.getElem?_eq_getElem hpk
   have hmod:Int.tmod ((f:Int) + (k:Int)) (B.length:Int)=((way12 f B.length k:Nat):Int):=by
    rw [Int.tmod_eq_emod_of_nonneg (by omega),way12,Int.natCast_emod,Int.natCast_add]
   generalize at12 B (way12 f B.length k)=x at *
   generalize way12 f B.length k=p at *
   obtain ⟨b,off,rfl,hb,hr⟩:=HC.out.bkt hkx
   have hr:=rangeS12 hr hB (hSA _ rfl (fun e=>by rw [e] at hlt;cases hlt))
   have w1i:=IntWalk.i64_in ((k:Int) + 1) (by omega)
   have w2i:=IntWalk.i64_in ((f:Int) + (k:Int)) (by omega)
   have w3i:=IntWalk.i64_in ((p:Int)) (by omega)
   have hk1:(k:Int) < (B.length:Int):=by omega
   have hp1:(p:Int) < (B.length:Int):=by omega
   have cB:wr.cell? ⟨Bd,0,none⟩=some (.slice (some ⟨b,off,none⟩) B.length c):=(hB.is HBD.out hS).cell 0
   have cF:wr.cell? ⟨Fd,0,none⟩=some (.int .i64 (f:Int)):=(hB.is HFD.out hS2).cell 0
   obtain ⟨st,xl,xc⟩:=x
   obtain ⟨fn,tmps,assign,body,hy,hR⟩:=HY.out _ _ wr hxk hJk
   simp only [encR12,bktV,bktA] at hy
   have HR:=Lib.hid hR
   clear hR hkx hxk
   gi_wp2_with (refine wpListIn_load_midI rfl 70 _ rfl b (off + p * 3) rfl _ hr Tryz.underlying70 rfl infoBkt12 ?_)
   refine HR.out.mono ?_
   rintro e W3 (⟨rfl,hJ3,hB3⟩ | ⟨rfl,hJx3,_⟩)
   ·
    gi_wp2
    go_roundw
    case rel=>exact ⟨k + 1,by omega,by go_num,hJ3,hB.trans (hB3.mono (fun k hk=>.inl hk)),Nat.le_trans hs hB3.size⟩
    case measure=>simp [intOf];omega
   ·
    gi_wp2
    refine bodyPost_ret (results_none rfl _ _ _) rfl ?_
    exact ⟨⟨_,rfl⟩,.inr ⟨_,hJx3⟩⟩
  ·
   have hk1:¬ (k:Int) < (B.length:Int):=by omega
   obtain rfl:k=B.length:=by omega
   gi_wp2
   go_end0
   exact ⟨⟨_,rfl⟩,.inl (by rw [rnd_len12];exact hJk)⟩
end Go.Proofs.YtmggbbmpckcleaaGreat
namespace Go.Proofs.YtmggbbmpckcleaaGreat
open Go.RowKit Go.Shelf
attribute [local go_sem] Oper.semAt_some
theorem way_reg12 (W0:World) (Bd Ld nb:Nat) (A:Option Addr) (c:Nat) (c1 c2:Value) (l:ByteArray) (h:Int) (iq:Is W0 Bd 31 #[.slice A nb c,c1,c2]) (il:Is W0 Ld 9 #[.string l]) (HH:Hid (∀ W,Calls Tryz.prog 84 #[.string l,.int .i64 (nb:Int)] W fun e W'=>e=.returned (.int .i64 h)∧W=W')) (x0 x3 x4 x5 x6 x7 x8 x9 Xa Xb Xc Xd Xe Xf Xg Xh Xi Xj Xk Xl Xm Xn Xo:Value) :
  (Code.region 1 (opsOf Tryz.f134 1) true).wp Tryz.prog (fun ex YY W=>ex=.normal∧YY.defers=[]∧∃ (DR:Nat),YY.tmps=#[x0,.pointer (some ⟨Bd,0,none⟩),.pointer (some ⟨Ld,0,none⟩),x3,x4,x5,.agg #[.slice A nb c,c1,c2],.string l,.pointer (some ⟨Bd,0,none⟩),.slice A nb c,.int .i64 (nb:Int),.int .i64 h,.func (.func 105) #[] #[.pointer (some ⟨DR,0,none⟩),.pointer (some ⟨DR + 1,0,none⟩)],Xd,Xe,Xf,Xg,Xh,Xi,Xj,Xk,Xl,Xm,Xn,Xo]∧Below W0.heap.size W0 W∧Is W DR 31 #[.slice A nb c,c1,c2]∧Is W (DR + 1) 3 #[.int .i64 h]∧W0.heap.size≤DR) { tmps:=#[x0,.pointer (some ⟨Bd,0,none⟩),.pointer (some ⟨Ld,0,none⟩),x3,x4,x5,x6,x7,x8,x9,Xa,Xb,Xc,Xd,Xe,Xf,Xg,Xh,Xi,Xj,Xk,Xl,Xm,Xn,Xo],defers:=[] } W0:=by
 have hB:Below W0.heap.size W0 (W0.drewN 1):=belowN (Below.refl _ _) 1
 generalize hQ:(fun (ex:Exit) (YY:Act) (W:World)=>ex=.normal∧YY.defers=[]∧∃ (DR:Nat),YY.tmps=#[x0,.pointer (some ⟨Bd,0,none⟩),.pointer (some ⟨Ld,0,none⟩),x3,x4,x5,.agg #[.slice A nb c,c1,c2],.string l,.pointer (some ⟨Bd,0,none⟩),.slice A nb c,.int .i64 (nb:Int),.int .i64 h,.func (.func 105) #[] #[.pointer (some ⟨DR,0,none⟩),.pointer (some ⟨DR + 1,0,none⟩)],Xd,Xe,Xf,Xg,Xh,Xi,Xj,Xk,Xl,Xm,Xn,Xo]∧Below W0.heap.size W0 W∧Is W DR 31 #[.slice A nb c,c1,c2]∧Is W (DR + 1) 3 #[.int .i64 h]∧W0.heap.size≤DR)=Q
 have HQN:∀ c a W,¬ Q (.panic c) a W:=fun c a W h=>by subst hQ;exact nomatch h.1
 have ST5_6:∀ (W:World) (DR:Nat),Below W0.heap.size W0 W→Is W DR 31 #[.slice A nb c,c1,c2]→Is W (DR + 1) 3 #[.int .i64 h]→W0.heap.size≤DR→wpAnyH Tryz.prog .any (opsOf Tryz.f134 1) Q (fun W=>Below W0.heap.size W0 W) 0 #[true,true,true,true,true,true,true] { tmps:=#[x0,.pointer (some ⟨Bd,0,none⟩),.pointer (some ⟨Ld,0,none⟩),x3,x4,x5,.agg #[.slice A nb c,c1,c2],.string l,.pointer (some ⟨Bd,0,none⟩),.slice A nb c,.int .i64 (nb:Int),.int .i64 h,.func (.func 105) #[] #[.pointer (some ⟨DR,0,none⟩),.pointer (some ⟨DR + 1,0,none⟩)],Xd,Xe,Xf,Xg,Xh,Xi,Xj,Xk,Xl,Xm,Xn,Xo],defers:=[] } W:=by
  intro W DR hB iR iF hD
  refine wpAnyH_done (by kernel_rfl) ?_ _
  subst hQ
  exact ⟨rfl,rfl,DR,rfl,hB,iR,iF,hD⟩
 have ST5:∀ (W:World),Below W0.heap.size W0 W→wpAnyH Tryz.prog .any (opsOf Tryz.f134 1) Q (fun W=>Below W0.heap.size W0 W) 1 #[true,true,true,true,true,true,false] { tmps:=#[x0,.pointer (some ⟨Bd,0,none⟩),.pointer (some ⟨Ld,0,none⟩),x3,x4,x5,.agg #[.slice A nb c,c1,c2],.string l,.pointer (some ⟨Bd,0,none⟩),.slice A nb c,.int .i64 (nb:Int),.int .i64 h,Xc,Xd,Xe,Xf,Xg,Xh,Xi,Xj,Xk,Xl,Xm,Xn,Xo],defers:=[] } W:=by
  intro W hB
  refine wpAnyH_ready (by kernel_rfl) (by simp) (AllReadyH.cons (i:=6) (at_nth rfl) ?_ (AllReadyH.nil))
  ·
   refine arm10_call (by kernel_rfl) (fun wy=>by kernel_rfl) ((round_any12 (.slice A nb c) c1 c2 h W).mono ?_)
   rintro e Wn ⟨rfl,rfl⟩
   have iR:Is ((W.alloc (.cells #[.slice A nb c,c1,c2] 31)).alloc (.cells #[.int .i64 h] 3)) W.heap.size 31 #[.slice A nb c,c1,c2]:=heap_alloc2_old W _ _
   have iF:Is ((W.alloc (.cells #[.slice A nb c,c1,c2] 31)).alloc (.cells #[.int .i64 h] 3)) (W.heap.size + 1) 3 #[.int .i64 h]:=heap_alloc2_new W _ _
   have hD:=hB.size
   replace hB:=(hB.alloc hB.size (.cells #[.slice A nb c,c1,c2] 31)).alloc (by simp;omega) (.cells #[.int .i64 h] 3)
   refine ⟨_,rfl,hB,?_⟩
   simp only [Act.put,zz0,zz1,zz2]
   exact ST5_6 _ _ hB iR iF hD
 have ST:∀ (W:World),Below W0.heap.size W0 W→wpAnyH Tryz.prog .any (opsOf Tryz.f134 1) Q (fun W=>Below W0.heap.size W0 W) 2 #[true,true,true,true,true,false,false] { tmps:=#[x0,.pointer (some ⟨Bd,0,none⟩),.pointer (some ⟨Ld,0,none⟩),x3,x4,x5,.agg #[.slice A nb c,c1,c2],.string l,.pointer (some ⟨Bd,0,none⟩),.slice A nb c,.int .i64 (nb:Int),Xb,Xc,Xd,Xe,Xf,Xg,Xh,Xi,Xj,Xk,Xl,Xm,Xn,Xo],defers:=[] } W:=by
  intro W hB
  refine wpAnyH_ready (by kernel_rfl) (by simp) (AllReadyH.cons (i:=5) (at_nth rfl) ?_ (AllReadyH.nil))
  ·
   refine arm10_call (by kernel_rfl) (fun wy=>by kernel_rfl) ((HH.out _).mono ?_)
   rintro e Wn ⟨rfl,rfl⟩
   refine ⟨_,rfl,hB,?_⟩
   simp only [Act.put,zz0,zz1,zz2]
   exact ST5 _ hB
 refine wp_region_held_drew (S:=fun W=>Below W0.heap.size W0 W) (by kernel_rfl) hB (fun hS=>?_)
 change wpAnyH _ _ (opsOf Tryz.f134 1) _ _ 7 (Array.replicate 7 false) _ (W0.drewN 1)
 clear hS
 replace hB:Below W0.heap.size W0 (W0.drewN 1):=belowN (Below.refl _ _) 1
 refine wpP (i:=0) (v:=.agg #[.slice A nb c,c1,c2]) HQN rfl (fun w hSw=>by exact run_load_rowO (x:=.tmp 1) (by kernel_rfl) (by kernel_rfl) (iq.below hSw iq.lt) Tryz.underlying31 rfl infoSto12) hB ?_
 simp only [Act.put,zz0,zz1,zz2]
 refine wpP (i:=1) (v:=.string l) HQN rfl (fun w hSw=>by (have hc:=(il.below hSw il.lt).cell 0;go_simp)) hB ?_
 simp only [Act.put,zz0,zz1,zz2]
 refine wpP (i:=2) (v:=.pointer (some ⟨Bd,0,none⟩)) HQN rfl (fun w hSw=>by go_simp) hB ?_
 simp only [Act.put,zz0,zz1,zz2]
 refine wpP (i:=3) (v:=.slice A nb c) HQN rfl (fun w hSw=>by (have hc:=(iq.below hSw iq.lt).cell 0;go_simp)) hB ?_
 simp only [Act.put,zz0,zz1,zz2]
 refine wpP (i:=4) (v:=.int .i64 (nb:Int)) HQN rfl (fun w hSw=>by go_simp) hB ?_
 simp only [Act.put,zz0,zz1,zz2]
 exact ST _ hB
theorem way_seq12 (n:Nat) (hn:3≤n) (Bd Ld:Nat) (c1 c2:Value) (A:Option Addr) (c:Nat) (B:List Bkt12) (lb:ByteArray) (w:World) (hBd:Is w Bd 31 #[.slice A B.length c,c1,c2]) (hLd:Is w Ld 9 #[.string lb]) (hc:InV w A (flB B)) (h0:0 < B.length) (hfit:B.length≤4096) (S:Nat→Prop) (hS:S Bd) (hS2:S Ld) (hSA:∀ p,A=some p→B≠[]→S p.block) (hSb:∀ k,S k→k < w.heap.size) :
  SeqL Fence.wide n Tryz.prog 134 #[.pointer (some ⟨Bd,0,none⟩),.pointer (some ⟨Ld,0,none⟩)] encR12 (wys12 B lb) S w:=by
 intro l J Jx W hW hJ hJx hY h00
 have HY:=Lib.hid hY
 have HJ:=Lib.hid hJ
 have HJx:=Lib.hid hJx
 have HC:=Lib.hid (hc.stay12 hW (fun p e h=>hSA p e (fun e2=>h (by rw [e2];rfl))))
 have HSB:=Lib.hid hSb
 have HWS:=Lib.hid hW.size
 have iB:=hW.is hBd hS
 have iL:=hW.is hLd hS2
 clear hY hJ hJx hc hBd hLd hSb
 refine callsIn_of_wp_marks Tryz.func134 rfl trivial ?_ rfl
 simp only [Tryz.ntmps134,List.size_toArray,List.length_cons,List.length_nil,Nat.reduceAdd,Nat.reduceSub,Array.replicate_succ,Array.replicate_zero,List.push_toArray,List.append_toArray,List.nil_append,List.cons_append]
 gi_wp2_with fail
 have iB1:=iB.alloc (.cells #[.func (.yield l) #[] #[]] 137)
 have iL1:=iL.alloc (.cells #[.func (.yield l) #[] #[]] 137)
 have iY1:Is (W.alloc (.cells #[.func (.yield l) #[] #[]] 137)) W.heap.size 137 #[.func (.yield l) #[] #[]]:=Is.new W _ _
 have hB1:Below W.heap.size W (W.alloc (.cells #[.func (.yield l) #[] #[]] 137)):=(Below.refl _ _).alloc (Nat.le_refl _) _
 have j1:J 0 (W.alloc (.cells #[.func (.yield l) #[] #[]] 137)):=HJ.out.alloc _ h00
 generalize W.alloc (.cells #[.func (.yield l) #[] #[]] 137)=W1 at *
 have HH:=Lib.hid (fun W:World=>by
  have:=home_any12 lb (B.length:Int) W (by omega)
  rw [homV_nat12 lb h0] at this
  exact this)
 have hHl:=hom_lt12 lb h0
 rw [wpIn_wide]
 refine Code.wp_mono ?_ (way_reg12 W1 Bd Ld B.length A c c1 c2 lb _ iB1 iL1 HH _ _ _ _ _ _ _ _ _ _ _ _ _ _ _ _ _ _ _ _ _ _ _)
 rintro ex ⟨T,D⟩ W2 ⟨rfl,hDf,DR,hT,hB2,iR,iF,hD⟩
 simp only at hT hDf
 subst hT
 subst hDf
 clear HH
 have iY2:=iY1.below hB2 iY1.lt
 have hY1:=iY1.lt
 have j2:J 0 W2:=HJ.out _ _ _ none j1 (grownG hB2) (fun r e=>by cases e)
 have hst:Stay S W W2:=(Stay.of hB1 (fun k hk=>by have:=HSB.out k hk;have:=HWS.out;omega)).trans (Stay.of hB2 (fun k hk=>by have:=HSB.out k hk;have:=HWS.out;omega))
 clear iB iL iB1 iL1 iY1 hB1 j1
 gi_wp2_with fail
 refine wpIn_rangeL rfl (by omega) (gf:=105) (lb:=#[.pointer (some ⟨DR,0,none⟩),.pointer (some ⟨DR + 1,0,none⟩)]) rfl trivial (enters_of Tryz.func105 (by kernel_rfl) rfl)
  (S:=fun k=>S k∨(W.heap.size≤k∧k < W2.heap.size))
  (round_seq12 (n - 1) (by omega) DR (DR + 1) _ c1 c2 A c (hom12 lb B.length) B W2 iR iF rfl (HC.out.stay12 hst (fun p e h=>hSA p e (fun e2=>h (by rw [e2];rfl)))) hfit (by omega) _ (.inr ⟨by omega,iR.lt⟩) (.inr ⟨by omega,iF.lt⟩) (fun p e h=>.inl (hSA p e h)))
  (Stay.refl _ _) (fun k hk=>by rcases hk with h | h;(have:=HSB.out k h;have:=HWS.out;have:=hB2.size;omega);exact h.2) (fun _=>rfl)
  (fun i W3=>J i W3∧Is W3 W.heap.size 137 #[.func (.yield l) #[] #[]]∧All12 full12 ((rnd12 B (hom12 lb B.length)).take i))
  (fun c i W3=>c=.ret∧(J (wys12 B lb).length W3∨Jx i W3))
  (fun s X Y row hs hg hr=>⟨HJ.out s X Y row hs.1 hg (fun r e=>⟨by have:=(hr r e).1;have:=hB2.size;omega,(hr r e).2⟩),(grownBy_keeps_cells hg (fun r e=>(hr r e).2) hs.2.1 rfl).trans hs.2.1,hs.2.2⟩)
  (fun c s X Y row hs hg hr=>⟨hs.1,hs.2.imp (fun h=>HJ.out _ X Y row h hg (fun r e=>⟨by have:=(hr r e).1;have:=hB2.size;omega,(hr r e).2⟩)) (fun h=>HJx.out s X Y row h hg (fun r e=>⟨by have:=(hr r e).1;have:=hB2.size;omega,(hr r e).2⟩))⟩)
  ⟨j2,iY2,⟨rfl⟩⟩ ?round ?done ?stop
 have hT:∀ k,((S k∨(W.heap.size≤k∧k < W2.heap.size))∨W2.heap.size≤k)→(S k∨W.heap.size≤k):=fun k hk=>by
  rcases hk with (h | h) | h
  · exact .inl h
  · exact .inr h.1
  · exact .inr (by have:=hB2.size;omega)
 case round =>
  rintro l2 i ⟨p,st,xl,xc⟩ W3 hl2 hl3 hx ⟨hj,iY3,hal⟩
  gi_wp2
  refine ⟨(Stay.refl _ _).grown (World.grownBy_alloc _ _ none) (fun r e=>by cases e),⟨HJ.out.alloc _ hj,iY3.alloc _,hal⟩,fun W=>Is W W3.heap.size 70 #[.int .i64 st,.string xl,.string xc],fun _ X Y row hs hg hr=>(grownBy_keeps_cells hg (fun r e=>(hr r e).2) hs rfl).trans hs,Is.new _ _ _,?_⟩
  clear hj iY3 hal
  rintro W4 hl4 ⟨hj4,iY4,hal⟩ iX4
  have q0:W4.cell? ⟨W3.heap.size,0,none⟩=some (.int .i64 st):=iX4.cell 0
  have q1:W4.cell? ⟨W3.heap.size,1,none⟩=some (.string xl):=iX4.cell 1
  have q2:W4.cell? ⟨W3.heap.size,2,none⟩=some (.string xc):=iX4.cell 2
  clear iX4
  by_cases h0s:st=0
  ·
   have hil:i < B.length:=by have:=(List.getElem?_eq_some_iff.1 hx).1;rwa [rnd_len12] at this
   have HIL:=Lib.hid hil
   have HE:=Lib.hid (tw_end12 hx hal.out (by simp [full12,h0s]))
   subst h0s
   clear hx hal
   gi_wp2_with (with_reducible refine And.intro (fun f e=>(by cases e)) ?_)
   refine ⟨Stay.refl _ _,rfl,.inl ?_⟩
   rw [show (wys12 B lb).length=i by rw [wys12,HE.out,List.length_take,rnd_len12];exact Nat.min_eq_left (Nat.le_of_lt HIL.out)]
   exact hj4
  ·
   have hf:full12 (p,⟨st,xl,xc⟩)=true:=by simp [full12,h0s]
   have hg:=tw_get12 hx hal.out hf
   have hal2:All12 full12 ((rnd12 B (hom12 lb B.length)).take (i + 1)):=⟨all_take12 hx hal.out hf⟩
   obtain ⟨fn,tmps,assign,body,hyd,hR⟩:=HY.out i (p,⟨st,xl,xc⟩) W4 hg hj4
   simp only [encR12,bktV,bktA] at hyd
   have HR:=Lib.hid hR
   have cY:W4.cell? ⟨W.heap.size,0,none⟩=some (.func (.yield l) #[] #[]):=iY4.cell 0
   clear hR hx hal hg hf
   gi_wp2_with (with_reducible refine And.intro (fun f e=>(by cases e)) ?_)
   refine ⟨fun _=>by omega,(roundIn_any12 HR.out).mono ?_⟩
   rintro e W5 (⟨rfl,hJ5,hS5⟩ | ⟨rfl,hJx5,hS5⟩)
   ·
    gi_wp2
    exact ⟨hS5.mono hT,hJ5,hS5.is iY4 (.inr (Nat.le_refl _)),hal2⟩
   ·
    gi_wp2
    exact ⟨hS5.mono hT,rfl,.inr hJx5⟩
 case done =>
  rintro D W4 hD2 ⟨hj,_,hal⟩ hK
  have hw:wys12 B lb=rnd12 B (hom12 lb B.length):=tw_all12 (by have:=hal.out;rwa [List.take_length] at this)
  gi_wp2
  refine ⟨by simp,.inl ⟨_,_,rfl,run_takeDeferred hK,?_⟩⟩
  exact ⟨_,results_none rfl _ _ _,⟨_,rfl⟩,.inl (by rw [hw];exact HJ.out.putObj _ hj (by have:=hB2.size;omega) hK rfl)⟩
 case stop =>
  rintro D c i W4 hD2 ⟨rfl,hj⟩ hK
  gi_wp2
  refine ⟨by simp,.inl ⟨_,_,rfl,run_takeDeferred hK,?_⟩⟩
  exact ⟨_,results_none rfl _ _ _,⟨_,rfl⟩,hj.imp (fun h=>HJ.out.putObj _ h (by have:=hB2.size;omega) hK rfl) (fun h=>⟨i,HJx.out.putObj _ h (by have:=hB2.size;omega) hK rfl⟩)⟩
end Go.Proofs.YtmggbbmpckcleaaGreat
namespace Go.Proofs.YtmggbbmpckcleaaGreat
open Go.RowKit Go.Shelf
attribute [local go_sem] Oper.semAt_some
def plcN12 (B:List Bkt12) (l:ByteArray):Nat:=(plc12 B l).getD 0
def plcB12 (B:List Bkt12) (l:ByteArray):Bool:=(plc12 B l).isSome
theorem aggI12 (w:World):(isAgg 3).run Tryz.prog w=.ok false w:=by go_simp
theorem aggBo12 (w:World):(isAgg 4).run Tryz.prog w=.ok false w:=by go_simp
theorem find_take12 {α:Type} {q:α→Bool} {l:List α} {i:Nat} {x:α} (hx:l[i]?=some x) (hn:(l.take i).find? q=none) (hne:q x=false):(l.take (i + 1)).find? q=none:=by
 rw [List.take_add_one,List.find?_append,hn,hx]
 simp [hne]
theorem find_any12 (s:Sto12) (A:Option Addr) (c:Nat) (l:ByteArray) (w:World) (h:InS w s A c) (h0:0 < s.B.length) (hf:s.B.length≤4096) :
  Calls Tryz.prog 112 #[stoV s A c,.string l] w fun e w'=>e=.returned (.tuple #[.int .i64 (plcN12 s.B l:Int),.bool (plcB12 s.B l)])∧Below w.heap.size w w':=by
 have HI:=Lib.hid h
 have H0:=Lib.hid h0
 have HF:=Lib.hid hf
 clear h h0 hf
 refine (callsIn_wide (n:=5)).1 ?_
 refine callsIn_of_wp_marks Tryz.func112 rfl trivial ?_ rfl
 simp only [Tryz.ntmps112,List.size_toArray,List.length_cons,List.length_nil,Nat.reduceAdd,Nat.reduceSub,Array.replicate_succ,Array.replicate_zero,List.push_toArray,List.append_toArray,List.nil_append,List.cons_append]
 obtain ⟨W1,hW1⟩:∃ W1,W1=(((w.alloc (.cells (stoA s A c) 31)).alloc (.cells #[.string l] 9)).alloc (.cells #[.int .i64 0] 3)).alloc (.cells #[.bool false] 4):=⟨_,rfl⟩
 have j1:Is W1 w.heap.size 31 (stoA s A c):=by rw [hW1];exact (((Is.new w _ _).alloc _).alloc _).alloc _
 have j2:Is W1 (w.heap.size + 1) 9 #[.string l]:=by rw [hW1];exact (Is.alloc (heap_alloc2_new w _ _) _).alloc _
 have j3:Is W1 (w.heap.size + 1 + 1) 3 #[.int .i64 0]:=by
  have:=(Is.new ((w.alloc (.cells (stoA s A c) 31)).alloc (.cells #[.string l] 9)) 3 #[.int .i64 0]).alloc (.cells #[.bool false] 4)
  rw [hW1];simpa using this
 have j4:Is W1 (w.heap.size + 1 + 1 + 1) 4 #[.bool false]:=by
  have:=Is.new (((w.alloc (.cells (stoA s A c) 31)).alloc (.cells #[.string l] 9)).alloc (.cells #[.int .i64 0] 3)) 4 #[.bool false]
  rw [hW1];simpa using this
 have hB:Below w.heap.size w W1:=by rw [hW1];exact ((((Below.refl _ _).alloc (Nat.le_refl _) _).alloc (by simp) _).alloc (by simp;omega) _).alloc (by simp;omega) _
 gi_wp2_with fail
 rw [← hW1]
 clear hW1
 have c2:W1.cell? ⟨w.heap.size + 1,0,none⟩=some (.string l):=j2.cell 0
 gi_wp2_with (refine wpListIn_load_rowI rfl 31 _ rfl w.heap.size rfl j1 Tryz.underlying31 rfl infoSto12 ?_)
 refine ⟨trivial,(callsIn_wide.2 (way_any12 _ _ _ _ _)).mono ?_⟩
 rintro e W' ⟨rfl,rfl⟩
 gi_wp2_with fail
 have i2:=(j2.alloc (.cells (stoA s A c) 31)).alloc (.cells #[.string l] 9)
 have i3:=(j3.alloc (.cells (stoA s A c) 31)).alloc (.cells #[.string l] 9)
 have i4:=(j4.alloc (.cells (stoA s A c) 31)).alloc (.cells #[.string l] 9)
 have iN:Is ((W1.alloc (.cells (stoA s A c) 31)).alloc (.cells #[.string l] 9)) W1.heap.size 31 (stoA s A c):=heap_alloc2_old _ _ _
 have iL:Is ((W1.alloc (.cells (stoA s A c) 31)).alloc (.cells #[.string l] 9)) (W1.heap.size + 1) 9 #[.string l]:=heap_alloc2_new _ _ _
 have hb:=(hB.alloc hB.size (.cells (stoA s A c) 31)).alloc (by have:=hB.size;simp;omega) (.cells #[.string l] 9)
 have hs1:=j4.lt
 have hs2:=i4.lt
 clear j1 j2 j3 j4 hB c2
 generalize (W1.alloc (.cells (stoA s A c) 31)).alloc (.cells #[.string l] 9)=W2 at *
 generalize W1.heap.size=BN at *
 refine wpIn_rangeL rfl (by omega) (gf:=134) (lb:=#[.pointer (some ⟨BN,0,none⟩),.pointer (some ⟨BN + 1,0,none⟩)]) rfl trivial (enters_of Tryz.func134 (by kernel_rfl) rfl) (S:=fun k=>k < w.heap.size∨k=BN∨k=BN + 1)
  (way_seq12 4 (by omega) BN (BN + 1) _ _ A c s.B l W2 iN iL (HI.out.b.keep hb) H0.out HF.out _ (.inr (.inl rfl)) (.inr (.inr rfl)) (fun p e hn=>.inl (HI.out.b.blkB p e hn)) (fun k hk=>by have:=hb.size;have:=iN.lt;have:=iL.lt;omega))
  (Stay.refl _ _) (fun k hk=>by have:=hb.size;have:=iN.lt;have:=iL.lt;omega) (fun _=>rfl)
  (fun i W=>Below w.heap.size w W∧Is W (w.heap.size + 1) 9 #[.string l]∧Is W (w.heap.size + 1 + 1) 3 #[.int .i64 0]∧Is W (w.heap.size + 1 + 1 + 1) 4 #[.bool false]∧((wys12 s.B l).take i).find? (fun p=>hit12 l p.2)=none)
  (fun c _ W=>c=.ret∧Below w.heap.size w W∧Is W (w.heap.size + 1 + 1) 3 #[.int .i64 (plcN12 s.B l:Int)]∧Is W (w.heap.size + 1 + 1 + 1) 4 #[.bool (plcB12 s.B l)])
  (fun s X Y row hs hg hr=>⟨belowOwn12 hs.1 hs.1.size (by omega) hg hr,isOwn12 hs.2.1 hg hr,isOwn12 hs.2.2.1 hg hr,isOwn12 hs.2.2.2.1 hg hr,hs.2.2.2.2⟩)
  (fun c s X Y row hs hg hr=>⟨hs.1,belowOwn12 hs.2.1 hs.2.1.size (by omega) hg hr,isOwn12 hs.2.2.1 hg hr,isOwn12 hs.2.2.2 hg hr⟩)
  ⟨hb,i2,i3,i4,rfl⟩ ?round ?done ?stop
 case round =>
  rintro l2 i ⟨p,st,xl,xc⟩ W hl hlt hx ⟨hb,j2,j3,j4,hn⟩
  gi_wp2
  refine ⟨(Stay.refl _ _).grown (World.grownBy_alloc _ _ none) (fun r e=>by cases e),⟨hb.alloc hb.size _,j2.alloc _,j3.alloc _,j4.alloc _,hn⟩,fun W'=>Is W' W.heap.size 70 #[.int .i64 st,.string xl,.string xc],fun _ X Y row hs hg hr=>isOwn12 hs hg hr,Is.new _ _ _,?_⟩
  clear hb j2 j3 j4 hn
  rintro W4 hl4 ⟨hb,j2,j3,j4,hn⟩ iX
  have q0:W4.cell? ⟨W.heap.size,0,none⟩=some (.int .i64 st):=iX.cell 0
  have q1:W4.cell? ⟨W.heap.size,1,none⟩=some (.string xl):=iX.cell 1
  have r2:W4.cell? ⟨w.heap.size + 1,0,none⟩=some (.string l):=j2.cell 0
  have f3:=j3.frozen 0
  have f4:=j4.frozen 0
  have r3:W4.cell? ⟨w.heap.size + 1 + 1,0,none⟩=some (.int .i64 0):=j3.cell 0
  have r4:W4.cell? ⟨w.heap.size + 1 + 1 + 1,0,none⟩=some (.bool false):=j4.cell 0
  clear iX
  by_cases h1:st=1
  ·
   subst h1
   by_cases h2:xl=l
   ·
    subst h2
    have hp:=plc_way12 hx hn (hit_iff12.2 ⟨rfl,rfl⟩)
    have HN:=Lib.hid (show plcN12 s.B xl=p by rw [plcN12,hp];rfl)
    have HB:=Lib.hid (show plcB12 s.B xl=true by rw [plcB12,hp];rfl)
    clear hx hn hp
    gi_wp2_with (with_reducible refine And.intro (fun f e=>(by cases e)) ?_)
    refine ⟨((Stay.refl _ _).grown (grownSetG _ _ _) (fun r e=>by cases e;exact .inl (by simp only [];omega))).grown (grownSetG _ _ _) (fun r e=>by cases e;exact .inl (by simp only [];omega)),rfl,
     (hb.setCell (p:=⟨w.heap.size + 1 + 1,0,none⟩) (by simp;omega) _).setCell (p:=⟨w.heap.size + 1 + 1 + 1,0,none⟩) (by simp;omega) _,?_,?_⟩
    · rw [HN.out];exact (j3.set 0 _).far (by simp) _
    · rw [HB.out];exact (j4.far (p:=⟨w.heap.size + 1 + 1,0,none⟩) (by simp) _).set 0 _
   ·
    have hne:=ne7 h2
    have hbe:=beq7 h2
    have hn2:=Lib.hid (find_take12 hx hn (show hit12 l (p,(⟨1,xl,xc⟩:Bkt12)).2=false by simp [hit12,h2]))
    clear hx hn h2
    gi_wp2_with (with_reducible refine And.intro (fun f e=>(by cases e)) ?_)
    exact ⟨Stay.refl _ _,hb,j2,j3,j4,hn2.out⟩
  ·
   have hn2:=Lib.hid (find_take12 hx hn (show hit12 l (p,(⟨st,xl,xc⟩:Bkt12)).2=false by simp [hit12,h1]))
   clear hx hn
   gi_wp2_with (with_reducible refine And.intro (fun f e=>(by cases e)) ?_)
   exact ⟨Stay.refl _ _,hb,j2,j3,j4,hn2.out⟩
 case done =>
  rintro D W hD ⟨hb,j2,j3,j4,hn⟩ hK
  rw [List.take_length] at hn
  have hp:=plc_none12 hn
  have f3:=j3.frozen 0
  have f4:=j4.frozen 0
  have r3:W.cell? ⟨w.heap.size + 1 + 1,0,none⟩=some (.int .i64 0):=j3.cell 0
  have r4:W.cell? ⟨w.heap.size + 1 + 1 + 1,0,none⟩=some (.bool false):=j4.cell 0
  have HP1:=Lib.hid (show plcN12 s.B l=0 by rw [plcN12,hp];rfl)
  have HP2:=Lib.hid (show plcB12 s.B l=false by rw [plcB12,hp];rfl)
  have hK2:((W.setCell ⟨w.heap.size + 1 + 1,0,none⟩ (.int .i64 0)).setCell ⟨w.heap.size + 1 + 1 + 1,0,none⟩ (.bool false)).heap[D]?=some (.deferred (some [])):=(heap_setCell_other _ _ D _ (by simp only [];omega)).trans ((heap_setCell_other _ _ D _ (by simp only [];omega)).trans hK)
  have HK:=Lib.hid hK2
  clear hn hp hK hK2
  gi_wp2
  refine ⟨by simp,.inl ⟨_,_,rfl,run_takeDeferred HK.out,?_⟩⟩
  have hgr:=grownBy_putObj' ((W.setCell ⟨w.heap.size + 1 + 1,0,none⟩ (.int .i64 0)).setCell ⟨w.heap.size + 1 + 1 + 1,0,none⟩ (.bool false)) D (.deferred none)
  have hrr:∀ r,some D=some r→W2.heap.size≤r∧∃ o:Obj,((W.setCell ⟨w.heap.size + 1 + 1,0,none⟩ (.int .i64 0)).setCell ⟨w.heap.size + 1 + 1 + 1,0,none⟩ (.bool false)).heap[r]?=some o∧o.isCells=false:=fun r e=>by cases e;exact ⟨hD,_,HK.out,rfl⟩
  have zb:Below w.heap.size w ((W.setCell ⟨w.heap.size + 1 + 1,0,none⟩ (.int .i64 0)).setCell ⟨w.heap.size + 1 + 1 + 1,0,none⟩ (.bool false)):=(hb.setCell (p:=⟨w.heap.size + 1 + 1,0,none⟩) (by simp;omega) _).setCell (p:=⟨w.heap.size + 1 + 1 + 1,0,none⟩) (by simp;omega) _
  have z3:Is ((W.setCell ⟨w.heap.size + 1 + 1,0,none⟩ (.int .i64 0)).setCell ⟨w.heap.size + 1 + 1 + 1,0,none⟩ (.bool false)) (w.heap.size + 1 + 1) 3 #[.int .i64 0]:=(j3.set 0 _).far (by simp) _
  have z4:Is ((W.setCell ⟨w.heap.size + 1 + 1,0,none⟩ (.int .i64 0)).setCell ⟨w.heap.size + 1 + 1 + 1,0,none⟩ (.bool false)) (w.heap.size + 1 + 1 + 1) 4 #[.bool false]:=(j4.far (p:=⟨w.heap.size + 1 + 1,0,none⟩) (by simp) _).set 0 _
  exact ⟨_,results_cc12 Tryz.results112 _ _ _ (w.heap.size + 1 + 1) (w.heap.size + 1 + 1 + 1) (.int .i64 0) (.bool false) 3 4 rfl rfl (isOwn12 z3 hgr hrr) (isOwn12 z4 hgr hrr) (aggI12 _) (aggBo12 _),by rw [HP1.out,HP2.out];rfl,belowOwn12 zb zb.size (by omega) hgr hrr⟩
 case stop =>
  rintro D c2 i W hD ⟨rfl,hb,j3,j4⟩ hK
  gi_wp2
  refine ⟨by simp,.inl ⟨_,_,rfl,run_takeDeferred hK,?_⟩⟩
  have hgr:=grownBy_putObj' W D (.deferred none)
  have hrr:∀ r,some D=some r→W2.heap.size≤r∧∃ o:Obj,W.heap[r]?=some o∧o.isCells=false:=fun r e=>by cases e;exact ⟨hD,_,hK,rfl⟩
  exact ⟨_,results_cc12 Tryz.results112 _ _ _ (w.heap.size + 1 + 1) (w.heap.size + 1 + 1 + 1) _ _ 3 4 rfl rfl (isOwn12 j3 hgr hrr) (isOwn12 j4 hgr hrr) (aggI12 _) (aggBo12 _),rfl,belowOwn12 hb hb.size (by omega) hgr hrr⟩
end Go.Proofs.YtmggbbmpckcleaaGreat
namespace Go.Proofs.YtmggbbmpckcleaaGreat
open Go.RowKit Go.Shelf
attribute [local go_sem] Oper.semAt_some
theorem way_next12 (h n i:Nat):(way12 h n i + 1) % n=way12 h n (i + 1):=by
 rw [way12,way12,Nat.mod_add_mod,Nat.add_assoc]
theorem room_hit12 {B:List Bkt12} {l:ByteArray} {i:Nat} {p:Nat × Bkt12} (hx:(wys12 B l)[i]?=some p) (hn:((wys12 B l).take i).find? (fun p=>decide (p.2.st=2))=none) (hh:p.2.st=2):room12 B l=p.1:=by
 have hi:i < (wys12 B l).length:=(List.getElem?_eq_some_iff.1 hx).1
 have hd:(wys12 B l).drop i=p :: (wys12 B l).drop (i + 1):=by
  rw [List.drop_eq_getElem_cons hi]
  rw [List.getElem?_eq_getElem hi] at hx
  rw [Option.some.inj hx]
 rw [room12,← List.take_append_drop i (wys12 B l),List.find?_append,hn,hd]
 simp [hh]
theorem room_any12 (s:Sto12) (A:Option Addr) (c:Nat) (l:ByteArray) (w:World) (h:InS w s A c) (h0:0 < s.B.length) (hf:s.B.length≤4096) :
  Calls Tryz.prog 130 #[stoV s A c,.string l] w fun e w'=>e=.returned (.int .i64 (room12 s.B l:Int))∧Below w.heap.size w w':=by
 have HI:=Lib.hid h
 have H0:=Lib.hid h0
 have HF:=Lib.hid hf
 have HH:=Lib.hid (fun W:World=>by
  have:=home_any12 l (s.B.length:Int) W (by omega)
  rw [homV_nat12 l h0] at this
  exact this)
 have hHl:=hom_lt12 l h0
 have hw0:=Lib.hid (show hom12 l s.B.length=way12 (hom12 l s.B.length) s.B.length 0 by rw [way12,Nat.add_zero,Nat.mod_eq_of_lt hHl])
 clear h h0 hf
 refine (callsIn_wide (n:=5)).1 ?_
 refine callsIn_of_wp_marks Tryz.func130 rfl trivial ?_ rfl
 simp only [Tryz.ntmps130,List.size_toArray,List.length_cons,List.length_nil,Nat.reduceAdd,Nat.reduceSub,Array.replicate_succ,Array.replicate_zero,List.push_toArray,List.append_toArray,List.nil_append,List.cons_append]
 obtain ⟨W1,hW1⟩:∃ W1,W1=(w.alloc (.cells (stoA s A c) 31)).alloc (.cells #[.int .i64 0] 3):=⟨_,rfl⟩
 have j1:Is W1 w.heap.size 31 (stoA s A c):=by rw [hW1];exact heap_alloc2_old _ _ _
 have j2:Is W1 (w.heap.size + 1) 3 #[.int .i64 0]:=by rw [hW1];exact heap_alloc2_new _ _ _
 have hB:Below w.heap.size w W1:=by rw [hW1];exact ((Below.refl _ _).alloc (Nat.le_refl _) _).alloc (by simp) _
 gi_wp2_with fail
 rw [← hW1]
 have hsz:W1.heap.size=w.heap.size + 1 + 1:=by rw [hW1];simp
 clear hW1
 have c0:W1.cell? ⟨w.heap.size,0,none⟩=some (.slice A s.B.length c):=j1.cell 0
 gi_wp2_with fail
 refine ⟨trivial,(callsIn_wide.2 (HH.out _)).mono ?_⟩
 rintro e W' ⟨rfl,rfl⟩
 have k1:=j1.alloc (.cells #[.int .i64 (hom12 l s.B.length:Int)] 3)
 have k2:=j2.alloc (.cells #[.int .i64 (hom12 l s.B.length:Int)] 3)
 have k3:Is (W1.alloc (.cells #[.int .i64 (hom12 l s.B.length:Int)] 3)) (w.heap.size + 1 + 1) 3 #[.int .i64 (hom12 l s.B.length:Int)]:=by rw [← hsz];exact Is.new _ _ _
 have hB1:=hB.alloc hB.size (.cells #[.int .i64 (hom12 l s.B.length:Int)] 3)
 clear j1 j2 hB c0
 gi_wp2_with (refine wpListIn_load_rowI rfl 31 _ rfl w.heap.size rfl k1 Tryz.underlying31 rfl infoSto12 ?_)
 generalize W1.alloc (.cells #[.int .i64 (hom12 l s.B.length:Int)] 3)=W2 at *
 clear hsz
 refine ⟨trivial,(callsIn_wide.2 (way_any12 _ _ _ _ _)).mono ?_⟩
 rintro e W' ⟨rfl,rfl⟩
 gi_wp2_with fail
 have i1:=(k1.alloc (.cells (stoA s A c) 31)).alloc (.cells #[.string l] 9)
 have i2:=(k2.alloc (.cells (stoA s A c) 31)).alloc (.cells #[.string l] 9)
 have i3:=(k3.alloc (.cells (stoA s A c) 31)).alloc (.cells #[.string l] 9)
 have iN:Is ((W2.alloc (.cells (stoA s A c) 31)).alloc (.cells #[.string l] 9)) W2.heap.size 31 (stoA s A c):=heap_alloc2_old _ _ _
 have iL:Is ((W2.alloc (.cells (stoA s A c) 31)).alloc (.cells #[.string l] 9)) (W2.heap.size + 1) 9 #[.string l]:=heap_alloc2_new _ _ _
 have hb:=(hB1.alloc hB1.size (.cells (stoA s A c) 31)).alloc (by have:=hB1.size;simp;omega) (.cells #[.string l] 9)
 have hs1:=k3.lt
 have hs2:=i3.lt
 clear k1 k2 k3 hB1
 generalize (W2.alloc (.cells (stoA s A c) 31)).alloc (.cells #[.string l] 9)=W3 at *
 generalize W2.heap.size=BN at *
 rw [hw0.out] at i3
 refine wpIn_rangeL rfl (by omega) (gf:=134) (lb:=#[.pointer (some ⟨BN,0,none⟩),.pointer (some ⟨BN + 1,0,none⟩)]) rfl trivial (enters_of Tryz.func134 (by kernel_rfl) rfl) (S:=fun k=>k < w.heap.size∨k=BN∨k=BN + 1)
  (way_seq12 4 (by omega) BN (BN + 1) _ _ A c s.B l W3 iN iL (HI.out.b.keep hb) H0.out HF.out _ (.inr (.inl rfl)) (.inr (.inr rfl)) (fun p e hn=>.inl (HI.out.b.blkB p e hn)) (fun k hk=>by have:=hb.size;have:=iN.lt;have:=iL.lt;omega))
  (Stay.refl _ _) (fun k hk=>by have:=hb.size;have:=iN.lt;have:=iL.lt;omega) (fun _=>rfl)
  (fun i W=>Below w.heap.size w W∧Is W w.heap.size 31 (stoA s A c)∧Is W (w.heap.size + 1) 3 #[.int .i64 0]∧Is W (w.heap.size + 1 + 1) 3 #[.int .i64 (way12 (hom12 l s.B.length) s.B.length i:Int)]∧((wys12 s.B l).take i).find? (fun p=>decide (p.2.st=2))=none)
  (fun c _ W=>c=.ret∧Below w.heap.size w W∧Is W (w.heap.size + 1) 3 #[.int .i64 (room12 s.B l:Int)])
  (fun s X Y row hs hg hr=>⟨belowOwn12 hs.1 hs.1.size (by omega) hg hr,isOwn12 hs.2.1 hg hr,isOwn12 hs.2.2.1 hg hr,isOwn12 hs.2.2.2.1 hg hr,hs.2.2.2.2⟩)
  (fun c s X Y row hs hg hr=>⟨hs.1,belowOwn12 hs.2.1 hs.2.1.size (by omega) hg hr,isOwn12 hs.2.2 hg hr⟩)
  ⟨hb,i1,i2,i3,rfl⟩ ?round ?done ?stop
 case round =>
  rintro l2 i ⟨p,st,xl,xc⟩ W hl hlt hx ⟨hb,j1,j2,j3,hn⟩
  gi_wp2
  refine ⟨(Stay.refl _ _).grown (World.grownBy_alloc _ _ none) (fun r e=>by cases e),⟨hb.alloc hb.size _,j1.alloc _,j2.alloc _,j3.alloc _,hn⟩,fun W'=>Is W' W.heap.size 70 #[.int .i64 st,.string xl,.string xc],fun _ X Y row hs hg hr=>isOwn12 hs hg hr,Is.new _ _ _,?_⟩
  clear hb j1 j2 j3 hn
  rintro W4 hl4 ⟨hb,j1,j2,j3,hn⟩ iX
  have q0:W4.cell? ⟨W.heap.size,0,none⟩=some (.int .i64 st):=iX.cell 0
  have r1:W4.cell? ⟨w.heap.size,0,none⟩=some (.slice A s.B.length c):=j1.cell 0
  have f2:=j2.frozen 0
  have f3:=j3.frozen 0
  have r2:W4.cell? ⟨w.heap.size + 1,0,none⟩=some (.int .i64 0):=j2.cell 0
  have r3:W4.cell? ⟨w.heap.size + 1 + 1,0,none⟩=some (.int .i64 (way12 (hom12 l s.B.length) s.B.length i:Int)):=j3.cell 0
  clear iX
  by_cases h1:st=2
  ·
   subst h1
   have HR:=Lib.hid (room_hit12 hx hn rfl)
   clear hx hn
   gi_wp2_with (with_reducible refine And.intro (fun f e=>(by cases e)) ?_)
   exact ⟨(Stay.refl _ _).grown (grownSetG _ _ _) (fun r e=>by cases e;exact .inl (by simp only [];omega)),rfl,hb.setCell (p:=⟨w.heap.size + 1,0,none⟩) (by simp) _,by rw [HR.out];exact j2.set 0 _⟩
  ·
   have hn2:=Lib.hid (find_take12 hx hn (show decide ((p,(⟨st,xl,xc⟩:Bkt12)).2.st=2)=false by simp [h1]))
   have hil:i < (wys12 s.B l).length:=(List.getElem?_eq_some_iff.1 hx).1
   have hpp:p=way12 (hom12 l s.B.length) s.B.length i:=by
    rw [wys_at12 hil] at hx
    exact (congrArg Prod.fst (Option.some.inj hx)).symm
   have hpl:p < s.B.length:=by rw [hpp];exact way_lt12 _ _ H0.out
   have hnx:((p + 1) % s.B.length:Nat)=way12 (hom12 l s.B.length) s.B.length (i + 1):=by rw [hpp,way_next12]
   have hmod:Int.tmod ((p:Int) + 1) (s.B.length:Int)=((way12 (hom12 l s.B.length) s.B.length (i + 1):Nat):Int):=by
    rw [← hnx,Int.tmod_eq_emod_of_nonneg (by omega)];rfl
   have hnl:=way_lt12 (hom12 l s.B.length) (i + 1) H0.out
   have HM:=Lib.hid hmod
   have hf:=HF.out
   clear hx hn hpp hnx
   obtain ⟨nx,hnx⟩:∃ nx,nx=way12 (hom12 l s.B.length) s.B.length (i + 1):=⟨_,rfl⟩
   rw [← hnx] at hnl hmod
   have HNX:=Lib.hid hnx
   clear hnx HM
   have w1:=IntWalk.i64_in ((p:Int) + 1) (by omega)
   have w2:=IntWalk.i64_in (nx:Int) (by omega)
   have hne0:¬ ((s.B.length:Int)=0):=by omega
   gi_wp2_with (with_reducible refine And.intro (fun f e=>(by cases e)) ?_)
   exact ⟨(Stay.refl _ _).grown (grownSetG _ _ _) (fun r e=>by cases e;exact .inl (by simp only [];omega)),hb.setCell (p:=⟨w.heap.size + 1 + 1,0,none⟩) (by simp;omega) _,j1.far (by simp;omega) _,j2.far (by simp) _,by rw [← HNX.out];exact j3.set 0 _,hn2.out⟩
 case done =>
  rintro D W hD ⟨hb,j1,j2,j3,hn⟩ hK
  rw [List.take_length] at hn
  have hp:room12 s.B l=way12 (hom12 l s.B.length) s.B.length (wys12 s.B l).length:=by rw [room12,hn]
  rw [← hp] at j3
  have f2:=j2.frozen 0
  have r2:W.cell? ⟨w.heap.size + 1,0,none⟩=some (.int .i64 0):=j2.cell 0
  have r3:W.cell? ⟨w.heap.size + 1 + 1,0,none⟩=some (.int .i64 (room12 s.B l:Int)):=j3.cell 0
  have hK2:(W.setCell ⟨w.heap.size + 1,0,none⟩ (.int .i64 (room12 s.B l:Int))).heap[D]?=some (.deferred (some [])):=(heap_setCell_other _ _ D _ (by simp only [];omega)).trans hK
  have HK:=Lib.hid hK2
  clear hn hp hK hK2
  gi_wp2
  refine ⟨by simp,.inl ⟨_,_,rfl,run_takeDeferred HK.out,?_⟩⟩
  have hgr:=grownBy_putObj' (W.setCell ⟨w.heap.size + 1,0,none⟩ (.int .i64 (room12 s.B l:Int))) D (.deferred none)
  have hrr:∀ r,some D=some r→W3.heap.size≤r∧∃ o:Obj,(W.setCell ⟨w.heap.size + 1,0,none⟩ (.int .i64 (room12 s.B l:Int))).heap[r]?=some o∧o.isCells=false:=fun r e=>by cases e;exact ⟨hD,_,HK.out,rfl⟩
  have zb:Below w.heap.size w (W.setCell ⟨w.heap.size + 1,0,none⟩ (.int .i64 (room12 s.B l:Int))):=hb.setCell (p:=⟨w.heap.size + 1,0,none⟩) (by simp) _
  exact ⟨_,results_c12 Tryz.results130 _ _ _ (w.heap.size + 1) _ 3 rfl (isOwn12 (j2.set 0 _) hgr hrr) (aggI12 _),rfl,belowOwn12 zb zb.size (by omega) hgr hrr⟩
 case stop =>
  rintro D c2 i W hD ⟨rfl,hb,j2⟩ hK
  gi_wp2
  refine ⟨by simp,.inl ⟨_,_,rfl,run_takeDeferred hK,?_⟩⟩
  have hgr:=grownBy_putObj' W D (.deferred none)
  have hrr:∀ r,some D=some r→W3.heap.size≤r∧∃ o:Obj,W.heap[r]?=some o∧o.isCells=false:=fun r e=>by cases e;exact ⟨hD,_,hK,rfl⟩
  exact ⟨_,results_c12 Tryz.results130 _ _ _ (w.heap.size + 1) _ 3 rfl (isOwn12 j2 hgr hrr) (aggI12 _),rfl,belowOwn12 hb hb.size (by omega) hgr hrr⟩
end Go.Proofs.YtmggbbmpckcleaaGreat
namespace Go.Proofs.YtmggbbmpckcleaaGreat
open Go.RowKit Go.Shelf
attribute [local go_sem] Oper.semAt_some
theorem cnt_take12 {B:List Bkt12} {k:Nat} {x:Bkt12} (hx:B[k]?=some x) (s:Int):cnt12 (B.take (k + 1)) s=cnt12 (B.take k) s + if x.st=s then 1 else 0:=by
 rw [List.take_add_one,hx,cnt12,cnt12,List.countP_append]
 by_cases h:x.st=s <;> simp [h]
theorem cnt_le12 (B:List Bkt12) (s:Int):cnt12 B s≤B.length:=List.countP_le_length
theorem formed_any12 (s:Sto12) (A:Option Addr) (c:Nat) (w:World) (h:InS w s A c) (hf:s.B.length≤4096) :
  Calls Tryz.prog 53 #[stoV s A c] w fun e w'=>e=.returned (.bool (s.B.all frm12))∧Below w.heap.size w w':=by
 have HI:=Lib.hid h
 have HF:=Lib.hid hf
 clear h hf
 have i1:=Is.new w 31 (stoA s A c)
 have c0:(w.alloc (.cells (stoA s A c) 31)).cell? ⟨w.heap.size,0,none⟩=some (.slice A s.B.length c):=i1.cell 0
 have hB1:=Lib.hid ((Below.refl w.heap.size w).alloc (Nat.le_refl _) (.cells (stoA s A c) 31))
 clear i1
 go_enter Tryz.func53,Tryz.ntmps53
 go_wp2
 clear c0
 go_loopw [10] (fun i wr=>∃ k:Nat,k≤s.B.length∧i=.int .i64 (k:Int)∧All12 frm12 (s.B.take k)∧Below w.heap.size w wr) (fun i _=>s.B.length - (intOf i).toNat)
 case atStart=>exact ⟨0,by omega,rfl,⟨rfl⟩,hB1.out⟩
 case round =>
  obtain ⟨k,hk,rfl,hal,hB⟩:=hrel
  by_cases hlt:k < s.B.length
  ·
   have hkx:s.B[k]?=some s.B[k]:=List.getElem?_eq_getElem hlt
   generalize s.B[k]=x at hkx
   obtain ⟨b,off,rfl,hb,hr⟩:=(HI.out.keep hB).b.bkt hkx
   have hk1:(k:Int) < (s.B.length:Int):=by omega
   have w1i:=IntWalk.i64_in ((k:Int) + 1) (by have:=HF.out;omega)
   have hB2:=hB.alloc hB.size (.cells (bktA x) 70)
   obtain ⟨st,xl,xc⟩:=x
   have HA:=Lib.hid hal
   have HK:=Lib.hid hkx
   have iX:=Is.new wr 70 (bktA ⟨st,xl,xc⟩)
   have x0:(wr.alloc (.cells (bktA ⟨st,xl,xc⟩) 70)).cell? ⟨wr.heap.size,0,none⟩=some (.int .i64 st):=iX.cell 0
   have x1:(wr.alloc (.cells (bktA ⟨st,xl,xc⟩) 70)).cell? ⟨wr.heap.size,1,none⟩=some (.string xl):=iX.cell 1
   have x2:(wr.alloc (.cells (bktA ⟨st,xl,xc⟩) 70)).cell? ⟨wr.heap.size,2,none⟩=some (.string xc):=iX.cell 2
   clear hal hkx iX hB
   by_cases h1:st=1
   ·
    subst h1
    by_cases hl:(xl.size:Int)=16
    ·
     have hl':xl.size=16:=by omega
     by_cases hc:(xc.size:Int)=40
     ·
      have hc':xc.size=40:=by omega
      have ho:frm12 ⟨1,xl,xc⟩=true:=by simp [frm12,hl',hc']
      have HO:=Lib.hid (All12.mk (all_take12 HK.out HA.out.out ho))
      clear ho
      go_wp2_with (first | (refine wpList_load_mid rfl 70 _ rfl b (off + k * 3) rfl _ _ hr Tryz.underlying70 rfl infoBkt12 ?_))
      go_roundw
      case rel=>exact ⟨k + 1,by omega,by go_num,HO.out,hB2⟩
      case measure=>simp [intOf];omega
     ·
      have hc':¬ xc.size=40:=by omega
      have ho:frm12 ⟨1,xl,xc⟩=false:=by simp [frm12,hc']
      have HO:=Lib.hid (all_miss12 HK.out ho)
      clear ho
      go_wp2_with (first | (refine wpList_load_mid rfl 70 _ rfl b (off + k * 3) rfl _ _ hr Tryz.underlying70 rfl infoBkt12 ?_))
      go_ret
      exact ⟨by rw [HO.out];rfl,hB2⟩
    ·
     have hl':¬ xl.size=16:=by omega
     have ho:frm12 ⟨1,xl,xc⟩=false:=by simp [frm12,hl']
     have HO:=Lib.hid (all_miss12 HK.out ho)
     clear ho
     go_wp2_with (first | (refine wpList_load_mid rfl 70 _ rfl b (off + k * 3) rfl _ _ hr Tryz.underlying70 rfl infoBkt12 ?_))
     go_ret
     exact ⟨by rw [HO.out];rfl,hB2⟩
   ·
    by_cases h0:st=0
    ·
     subst h0
     clear h1
     by_cases hl:(xl.size:Int)=0
     ·
      have hl':xl.size=0:=by omega
      by_cases hc:(xc.size:Int)=0
      ·
       have hc':xc.size=0:=by omega
       have ho:frm12 ⟨0,xl,xc⟩=true:=by simp [frm12,hl',hc']
       have HO:=Lib.hid (All12.mk (all_take12 HK.out HA.out.out ho))
       clear ho
       go_wp2_with (first | (refine wpList_load_mid rfl 70 _ rfl b (off + k * 3) rfl _ _ hr Tryz.underlying70 rfl infoBkt12 ?_))
       go_roundw
       case rel=>exact ⟨k + 1,by omega,by go_num,HO.out,hB2⟩
       case measure=>simp [intOf];omega
      ·
       have hc':¬ xc.size=0:=by omega
       have ho:frm12 ⟨0,xl,xc⟩=false:=by simp [frm12,hc']
       have HO:=Lib.hid (all_miss12 HK.out ho)
       clear ho
       go_wp2_with (first | (refine wpList_load_mid rfl 70 _ rfl b (off + k * 3) rfl _ _ hr Tryz.underlying70 rfl infoBkt12 ?_))
       go_ret
       exact ⟨by rw [HO.out];rfl,hB2⟩
     ·
      have hl':¬ xl.size=0:=by omega
      have ho:frm12 ⟨0,xl,xc⟩=false:=by simp [frm12,hl']
      have HO:=Lib.hid (all_miss12 HK.out ho)
      clear ho
      go_wp2_with (first | (refine wpList_load_mid rfl 70 _ rfl b (off + k * 3) rfl _ _ hr Tryz.underlying70 rfl infoBkt12 ?_))
      go_ret
      exact ⟨by rw [HO.out];rfl,hB2⟩
    ·
     by_cases h2:st=2
     ·
      subst h2
      clear h1 h0
      by_cases hl:(xl.size:Int)=0
      ·
       have hl':xl.size=0:=by omega
       by_cases hc:(xc.size:Int)=0
       ·
        have hc':xc.size=0:=by omega
        have ho:frm12 ⟨2,xl,xc⟩=true:=by simp [frm12,hl',hc']
        have HO:=Lib.hid (All12.mk (all_take12 HK.out HA.out.out ho))
        clear ho
        go_wp2_with (first | (refine wpList_load_mid rfl 70 _ rfl b (off + k * 3) rfl _ _ hr Tryz.underlying70 rfl infoBkt12 ?_))
        go_roundw
        case rel=>exact ⟨k + 1,by omega,by go_num,HO.out,hB2⟩
        case measure=>simp [intOf];omega
       ·
        have hc':¬ xc.size=0:=by omega
        have ho:frm12 ⟨2,xl,xc⟩=false:=by simp [frm12,hc']
        have HO:=Lib.hid (all_miss12 HK.out ho)
        clear ho
        go_wp2_with (first | (refine wpList_load_mid rfl 70 _ rfl b (off + k * 3) rfl _ _ hr Tryz.underlying70 rfl infoBkt12 ?_))
        go_ret
        exact ⟨by rw [HO.out];rfl,hB2⟩
      ·
       have hl':¬ xl.size=0:=by omega
       have ho:frm12 ⟨2,xl,xc⟩=false:=by simp [frm12,hl']
       have HO:=Lib.hid (all_miss12 HK.out ho)
       clear ho
       go_wp2_with (first | (refine wpList_load_mid rfl 70 _ rfl b (off + k * 3) rfl _ _ hr Tryz.underlying70 rfl infoBkt12 ?_))
       go_ret
       exact ⟨by rw [HO.out];rfl,hB2⟩
     ·
      skip
      have ho:frm12 ⟨st,xl,xc⟩=false:=by simp [frm12,h1,h0,h2]
      have HO:=Lib.hid (all_miss12 HK.out ho)
      clear ho
      go_wp2_with (first | (refine wpList_load_mid rfl 70 _ rfl b (off + k * 3) rfl _ _ hr Tryz.underlying70 rfl infoBkt12 ?_))
      go_ret
      exact ⟨by rw [HO.out];rfl,hB2⟩
  ·
   have hk1:¬ (k:Int) < (s.B.length:Int):=by omega
   obtain rfl:k=s.B.length:=by omega
   have HA:=Lib.hid (show s.B.all frm12=true by have:=hal.out;rwa [List.take_length] at this)
   clear hal
   go_wp2
   go_ret
   exact ⟨by rw [HA.out];rfl,hB⟩
theorem counted_any12 (s:Sto12) (A:Option Addr) (c:Nat) (w:World) (h:InS w s A c) (hf:s.B.length≤4096) :
  Calls Tryz.prog 54 #[stoV s A c] w fun e w'=>e=.returned (.bool (decide ((cnt12 s.B 1:Int)=s.many) && decide ((cnt12 s.B 2:Int)=s.gone)))∧Below w.heap.size w w':=by
 have HI:=Lib.hid h
 have HF:=Lib.hid hf
 clear h hf
 have i1:=Is.new w 31 (stoA s A c)
 have c0:(w.alloc (.cells (stoA s A c) 31)).cell? ⟨w.heap.size,0,none⟩=some (.slice A s.B.length c):=i1.cell 0
 have hB1:=Lib.hid ((Below.refl w.heap.size w).alloc (Nat.le_refl _) (.cells (stoA s A c) 31))
 have I1:=Lib.hid i1
 clear i1
 go_enter Tryz.func54,Tryz.ntmps54
 go_wp2
 clear c0
 go_loopw [3,4,10] (fun m g i wr=>∃ k:Nat,k≤s.B.length∧i=.int .i64 (k:Int)∧m=.int .i64 (cnt12 (s.B.take k) 1:Int)∧g=.int .i64 (cnt12 (s.B.take k) 2:Int)∧Is wr w.heap.size 31 (stoA s A c)∧Below w.heap.size w wr) (fun _ _ i _=>s.B.length - (intOf i).toNat)
 case atStart=>exact ⟨0,by omega,rfl,rfl,rfl,I1.out,hB1.out⟩
 case round =>
  obtain ⟨k,hk,rfl,rfl,rfl,i1,hB⟩:=hrel
  by_cases hlt:k < s.B.length
  ·
   have hkx:s.B[k]?=some s.B[k]:=List.getElem?_eq_getElem hlt
   generalize s.B[k]=x at hkx
   obtain ⟨b,off,rfl,hb,hr⟩:=(HI.out.keep hB).b.bkt hkx
   have hk1:(k:Int) < (s.B.length:Int):=by omega
   have w1i:=IntWalk.i64_in ((k:Int) + 1) (by have:=HF.out;omega)
   have hB2:=hB.alloc hB.size (.cells (bktA x) 70)
   have i2:=i1.alloc (.cells (bktA x) 70)
   obtain ⟨st,xl,xc⟩:=x
   have H1:=Lib.hid (cnt_take12 hkx 1)
   have H2:=Lib.hid (cnt_take12 hkx 2)
   have l1:=cnt_le12 (s.B.take k) 1
   have l2:=cnt_le12 (s.B.take k) 2
   rw [List.length_take] at l1 l2
   have hff:=HF.out
   have iX:=Is.new wr 70 (bktA ⟨st,xl,xc⟩)
   have x0:(wr.alloc (.cells (bktA ⟨st,xl,xc⟩) 70)).cell? ⟨wr.heap.size,0,none⟩=some (.int .i64 st):=iX.cell 0
   obtain ⟨p,hp⟩:∃ p,p=cnt12 (s.B.take k) 1:=⟨_,rfl⟩
   obtain ⟨q,hq⟩:∃ q,q=cnt12 (s.B.take k) 2:=⟨_,rfl⟩
   rw [← hp] at l1 H1 ⊢
   rw [← hq] at l2 H2 ⊢
   clear hp hq
   have w2i:=IntWalk.i64_in ((p:Int) + 1) (by omega)
   have w3i:=IntWalk.i64_in ((q:Int) + 1) (by omega)
   clear hkx iX hB i1
   by_cases h1:st=1
   ·
    subst h1
    have e1:=Lib.hid (show cnt12 (s.B.take (k + 1)) 1=p + 1 by rw [H1.out];simp)
    have e2:=Lib.hid (show cnt12 (s.B.take (k + 1)) 2=q by rw [H2.out];simp)
    go_wp2_with (first | (refine wpList_load_mid rfl 70 _ rfl b (off + k * 3) rfl _ _ hr Tryz.underlying70 rfl infoBkt12 ?_))
    go_roundw
    case rel=>exact ⟨k + 1,by omega,by go_num,by rw [e1.out];go_num,by rw [e2.out],i2,hB2⟩
    case measure=>simp [intOf];omega
   ·
    by_cases h2:st=2
    ·
     subst h2
     clear h1
     have e1:=Lib.hid (show cnt12 (s.B.take (k + 1)) 1=p by rw [H1.out];simp)
     have e2:=Lib.hid (show cnt12 (s.B.take (k + 1)) 2=q + 1 by rw [H2.out];simp)
     go_wp2_with (first | (refine wpList_load_mid rfl 70 _ rfl b (off + k * 3) rfl _ _ hr Tryz.underlying70 rfl infoBkt12 ?_))
     go_roundw
     case rel=>exact ⟨k + 1,by omega,by go_num,by rw [e1.out],by rw [e2.out];go_num,i2,hB2⟩
     case measure=>simp [intOf];omega
    ·
     skip
     have e1:=Lib.hid (show cnt12 (s.B.take (k + 1)) 1=p by rw [H1.out];simp [h1])
     have e2:=Lib.hid (show cnt12 (s.B.take (k + 1)) 2=q by rw [H2.out];simp [h2])
     go_wp2_with (first | (refine wpList_load_mid rfl 70 _ rfl b (off + k * 3) rfl _ _ hr Tryz.underlying70 rfl infoBkt12 ?_))
     go_roundw
     case rel=>exact ⟨k + 1,by omega,by go_num,by rw [e1.out],by rw [e2.out],i2,hB2⟩
     case measure=>simp [intOf];omega
  ·
   have hk1:¬ (k:Int) < (s.B.length:Int):=by omega
   obtain rfl:k=s.B.length:=by omega
   rw [List.take_length]
   have c1:wr.cell? ⟨w.heap.size,1,none⟩=some (.int .i64 s.many):=i1.cell 1
   have c2:wr.cell? ⟨w.heap.size,2,none⟩=some (.int .i64 s.gone):=i1.cell 2
   clear i1
   obtain ⟨p,hp⟩:∃ p:Int,p=(cnt12 s.B 1:Int):=⟨_,rfl⟩
   obtain ⟨q,hq⟩:∃ q:Int,q=(cnt12 s.B 2:Int):=⟨_,rfl⟩
   obtain ⟨m,hm⟩:∃ m:Int,m=s.many:=⟨_,rfl⟩
   obtain ⟨g,hg⟩:∃ g:Int,g=s.gone:=⟨_,rfl⟩
   have D1:=Lib.hid (show decide ((cnt12 s.B 1:Int)=s.many)=decide (p=m) by rw [hp,hm])
   have D2:=Lib.hid (show decide ((cnt12 s.B 2:Int)=s.gone)=decide (q=g) by rw [hq,hg])
   rw [← hp,← hq]
   rw [← hm] at c1
   rw [← hg] at c2
   clear hp hq hm hg
   by_cases e1:m=p
   ·
    subst e1
    by_cases e2:g=q
    ·
     subst e2
     go_wp2
     go_ret
     exact ⟨by rw [D1.out,D2.out];simp,hB⟩
    ·
     have e2':=Lib.hid (show decide (q=g)=false from decide_eq_false (fun h=>e2 h.symm))
     go_wp2
     go_ret
     exact ⟨by rw [D1.out,D2.out,e2'.out];simp;exact e2,hB⟩
   ·
    have e1':=Lib.hid (show decide (p=m)=false from decide_eq_false (fun h=>e1 h.symm))
    go_wp2
    go_ret
    exact ⟨by rw [D1.out,e1'.out];rfl,hB⟩
end Go.Proofs.YtmggbbmpckcleaaGreat
namespace Go.Proofs.YtmggbbmpckcleaaGreat
open Go.RowKit Go.Shelf Go.Maps Go.WideMaps
attribute [local go_sem] Oper.semAt_some
theorem lawS12:Keyed Tryz.prog 9:=string_keyed Tryz.underlying9
theorem keyS12 {s:ByteArray} (h:s.size≤maxLen):∃ l,keyOf Tryz.prog 9 (.string s)=some l:=⟨_,keyOf_string_mk Tryz.underlying9 h⟩
structure Told12 (D:DataW Unit) (L:List ByteArray) (i:Nat):Prop where
 tidy:Tidy D
 has:∀ x v,x.size≤maxLen→keyOf Tryz.prog 9 (.string x)=some v→Maps.has D v=(L.take i).any fun y=>decide (y=x)
 size:Maps.size D=dst12 L i
theorem told_nil12 (L:List ByteArray):Told12 (.map []) L 0:=⟨tidy_empty,fun _ _ _ _=>rfl,rfl⟩
theorem told_put12 {D:DataW Unit} {L:List ByteArray} {i:Nat} (h:Told12 D L i) {x:ByteArray} (hx:L[i]?=some x) (hs:x.size≤maxLen) {v:Lit} (hv:keyOf Tryz.prog 9 (.string x)=some v):Told12 (D.put v (.agg [])) L (i + 1):=by
 have ht:L.take (i + 1)=L.take i ++ [x]:=by rw [List.take_add_one,hx];rfl
 have hg:L.getD i ⟨#[]⟩=x:=by rw [List.getD_eq_getElem?_getD,hx];rfl
 refine ⟨h.tidy.put (lawS12.key hv) _,fun y u hy hu=>?_,?_⟩
 ·
  rw [ht,List.any_append]
  by_cases e:x=y
  ·
   subst e
   rw [hu] at hv
   cases hv
   rw [has_put_same h.tidy.isMap (lawS12.key hu)]
   simp
  ·
   have hne:u≠v:=fun e2=>by
    subst e2
    have:=lawS12.inj hv hu
    cases this
    exact e rfl
   rw [has_put_other hne,h.has y u hy hu]
   simp [e]
 · rw [size_put h.tidy,h.has x v hs hv,dst12,hg,h.size]
theorem twice_any12 (s:Sto12) (A:Option Addr) (c:Nat) (w:World) (h:InS w s A c) (hf:s.B.length≤4096) (hl:∀ b ∈ us12 s.B,b.l.size≤maxLen) :
  Calls Tryz.prog 56 #[stoV s A c] w fun e w'=>e=.returned (.bool (decide ((dst12 (labs12 s.B) (labs12 s.B).length:Int) < s.many)))∧Below w.heap.size w w':=by
 have HI:=Lib.hid h
 have HF:=Lib.hid hf
 have HL:=Lib.hid hl
 have HUL:=Lib.hid (show (us12 s.B).length≤4096 by rw [us_len12];have:=List.countP_le_length (p:=fun b:Bkt12=>decide (b.st=1)) (l:=s.B);unfold cnt12;omega)
 have HLL:=Lib.hid (show (labs12 s.B).length=(us12 s.B).length by rw [labs12,List.length_map])
 clear h hf hl
 have hmm:∀ (w:World) (m:Int),(Instr.makeMap 113 (some (.int .i64 m))).run Tryz.prog w=.ok (.map (some w.heap.size)) (w.alloc (.map #[] 0)):=fun w m=>by kernel_rfl
 refine (callsIn_wide (n:=5)).1 ?_
 refine callsIn_of_wp_marks Tryz.func56 rfl trivial ?_ rfl
 simp only [Tryz.ntmps56,List.size_toArray,List.length_cons,List.length_nil,Nat.reduceAdd,Nat.reduceSub,Array.replicate_succ,Array.replicate_zero,List.push_toArray,List.append_toArray,List.nil_append,List.cons_append]
 have j1:Is (w.alloc (.cells (stoA s A c) 31)) w.heap.size 31 (stoA s A c):=Is.new _ _ _
 have hB:Below w.heap.size w (w.alloc (.cells (stoA s A c) 31)):=(Below.refl _ _).alloc (Nat.le_refl _) _
 gi_wp2_with fail
 have hsz:(w.alloc (.cells (stoA s A c) 31)).heap.size=w.heap.size + 1:=by simp
 generalize w.alloc (.cells (stoA s A c) 31)=W1 at *
 have c1:W1.cell? ⟨w.heap.size,1,none⟩=some (.int .i64 s.many):=j1.cell 1
 have k1:Is ((W1.alloc (.map #[] 0)).alloc (.cells #[.map (some (w.heap.size + 1))] 113)) w.heap.size 31 (stoA s A c):=(j1.alloc _).alloc _
 have k2:Is ((W1.alloc (.map #[] 0)).alloc (.cells #[.map (some (w.heap.size + 1))] 113)) (w.heap.size + 1 + 1) 113 #[.map (some (w.heap.size + 1))]:=by
  have:=Is.new (W1.alloc (.map #[] 0)) 113 #[.map (some (w.heap.size + 1))]
  rwa [World.size_alloc,hsz] at this
 have hM:((W1.alloc (.map #[] 0)).alloc (.cells #[.map (some (w.heap.size + 1))] 113)).ownsMap Tryz.prog 9 (unitElem (H:=Unit)) (w.heap.size + 1) 0 (.map []):=by
  have:=World.ownsMap_made W1 Tryz.prog 9 (unitElem (H:=Unit))
  rw [hsz] at this
  exact this.alloc _
 have hB1:Below w.heap.size w ((W1.alloc (.map #[] 0)).alloc (.cells #[.map (some (w.heap.size + 1))] 113)):=(hB.alloc hB.size _).alloc (by have:=hB.size;simp;omega) _
 gi_wp2_with fail
 refine ⟨trivial,(callsIn_wide.2 (used_any12 _ _ _ _)).mono ?_⟩
 rintro e W' ⟨rfl,rfl⟩
 gi_wp2_with fail
 have i1:=k1.alloc (.cells (stoA s A c) 31)
 have i2:=k2.alloc (.cells (stoA s A c) 31)
 have hM2:=hM.alloc (.cells (stoA s A c) 31)
 have hs1:=k2.lt
 have hs2:=i2.lt
 have hb:=hB1.alloc hB1.size (.cells (stoA s A c) 31)
 have iN:Is (((W1.alloc (.map #[] 0)).alloc (.cells #[.map (some (w.heap.size + 1))] 113)).alloc (.cells (stoA s A c) 31)) ((W1.alloc (.map #[] 0)).alloc (.cells #[.map (some (w.heap.size + 1))] 113)).heap.size 31 (stoA s A c):=Is.new _ _ _
 have hsz2:W1.heap.size + 1 + 1=((W1.alloc (.map #[] 0)).alloc (.cells #[.map (some (w.heap.size + 1))] 113)).heap.size:=by simp
 rw [hsz] at hsz2
 clear k1 k2 hM hB1 j1 hB c1
 rw [← hsz2] at hs1 iN
 clear hsz2 hsz
 generalize ((W1.alloc (.map #[] 0)).alloc (.cells #[.map (some (w.heap.size + 1))] 113)).alloc (.cells (stoA s A c) 31)=W2 at *
 refine wpIn_rangeL rfl (by omega) (gf:=104) (lb:=#[.pointer (some ⟨w.heap.size + 1 + 1 + 1,0,none⟩)]) rfl trivial (enters_of Tryz.func104 (by kernel_rfl) rfl) (S:=fun k=>k < w.heap.size∨k=w.heap.size + 1 + 1 + 1)
  (used_seq12 4 (by omega) (w.heap.size + 1 + 1 + 1) _ _ _ A c s.B W2 iN rfl (HI.out.b.keep hb) (by have:=HF.out;omega) _ (.inr rfl) (fun p e hn=>.inl (HI.out.b.blkB p e hn)))
  (Stay.refl _ _) (fun k hk=>by have:=hb.size;have:=iN.lt;omega) (fun _=>rfl)
  (fun i W=>Below w.heap.size w W∧Is W w.heap.size 31 (stoA s A c)∧Is W (w.heap.size + 1 + 1) 113 #[.map (some (w.heap.size + 1))]∧∃ D,W.ownsMap Tryz.prog 9 (unitElem (H:=Unit)) (w.heap.size + 1) i D∧Told12 D (labs12 s.B) i)
  (fun _ _ _=>False)
  (fun s X Y row hs hg hr=>⟨belowOwn12 hs.1 hs.1.size (by omega) hg hr,isOwn12 hs.2.1 hg hr,isOwn12 hs.2.2.1 hg hr,by
   obtain ⟨D,h1,h2⟩:=hs.2.2.2
   exact ⟨D,h1.kept hg (fun e=>by have:=(hr _ e.symm).1;omega),h2⟩⟩)
  (fun c s X Y row hs hg hr=>hs.elim)
  ⟨hb,i1,i2,.map [],hM2,told_nil12 _⟩ ?round ?done ?stop
 case round =>
  rintro l i ⟨st,xl,xc⟩ W hl hlt hx ⟨hb,j1,j2,D,hown,ht⟩
  gi_wp2
  refine ⟨(Stay.refl _ _).grown (World.grownBy_alloc _ _ none) (fun r e=>by cases e),⟨hb.alloc hb.size _,j1.alloc _,j2.alloc _,D,hown.alloc _,ht⟩,fun W'=>Is W' W.heap.size 70 #[.int .i64 st,.string xl,.string xc],fun _ X Y row hs hg hr=>isOwn12 hs hg hr,Is.new _ _ _,?_⟩
  clear hb j1 j2 hown ht D
  rintro W4 hl4 ⟨hb,j1,j2,D,hown,ht⟩ iX
  have hokx:=HL.out _ (List.mem_of_getElem? hx)
  simp only at hokx
  obtain ⟨v,hv⟩:=keyS12 hokx
  have hm:(labs12 s.B)[i]?=some xl:=by rw [labs12,List.getElem?_map,hx];rfl
  have hi:i < (us12 s.B).length:=(List.getElem?_eq_some_iff.1 hx).1
  have him:i < maxLen:=by have:=HUL.out;unfold maxLen;omega
  have q1:W4.cell? ⟨W.heap.size,1,none⟩=some (.string xl):=iX.cell 1
  have r2:W4.cell? ⟨w.heap.size + 1 + 1,0,none⟩=some (.map (some (w.heap.size + 1))):=j2.cell 0
  have HV:=Lib.hid hv
  have ht2:=Lib.hid (told_put12 ht hm hokx hv)
  clear iX hm hx hv ht hokx
  gi_wp2_with (first | (refine wpListIn_mapUpdate_own _ rfl _ _ _ 113 rfl 9 117 lawS12 Tryz.underlying113 _ (w.heap.size + 1) i D rfl hown him _ _ v rfl rfl HV.out (.agg []) [] unitElem_mk ?_;intro w1 hown1 hgrow1))
  exact ⟨(Stay.refl _ _).grown hgrow1 (fun r e=>by cases e;exact .inl (by omega)),hb.grown hgrow1 hb.size (fun k e=>by cases e;omega),
    (hgrow1.block _ j1.lt (by intro e;have:=Option.some.inj e;omega)).trans j1,(hgrow1.block _ j2.lt (by intro e;have:=Option.some.inj e;omega)).trans j2,_,hown1,ht2.out⟩
 case done =>
  rintro D W hD ⟨hb,j1,j2,Dm,hown,ht⟩ hK
  have hsm:=ht.size
  rw [← HLL.out] at hsm
  have hlen:=hown.len Tryz.underlying113 3
  rw [hsm] at hlen
  have c1:W.cell? ⟨w.heap.size,1,none⟩=some (.int .i64 s.many):=j1.cell 1
  have r2:W.cell? ⟨w.heap.size + 1 + 1,0,none⟩=some (.map (some (w.heap.size + 1))):=j2.cell 0
  have HK:=Lib.hid hK
  clear hsm hown ht j1 j2 hK
  obtain ⟨p,hp⟩:∃ p,p=dst12 (labs12 s.B) (labs12 s.B).length:=⟨_,rfl⟩
  obtain ⟨m,hm⟩:∃ m,m=s.many:=⟨_,rfl⟩
  have D1:=Lib.hid (show decide ((dst12 (labs12 s.B) (labs12 s.B).length:Int) < s.many)=decide ((p:Int) < m) by rw [hp,hm])
  rw [← hp] at hlen
  rw [← hm] at c1
  clear hp hm
  by_cases e1:(p:Int) < m
  ·
   have E1:=Lib.hid (decide_eq_true e1)
   gi_wp2
   refine ⟨by simp,.inl ⟨_,_,rfl,run_takeDeferred HK.out,?_⟩⟩
   have hgr:=grownBy_putObj' W D (.deferred none)
   have hrr:∀ r,some D=some r→W2.heap.size≤r∧∃ o:Obj,W.heap[r]?=some o∧o.isCells=false:=fun r e=>by cases e;exact ⟨hD,_,HK.out,rfl⟩
   exact ⟨_,results_tmp Tryz.results56 _ _ _,by rw [D1.out,E1.out];rfl,belowOwn12 hb hb.size (by omega) hgr hrr⟩
  ·
   have E1:=Lib.hid (decide_eq_false e1)
   gi_wp2
   refine ⟨by simp,.inl ⟨_,_,rfl,run_takeDeferred HK.out,?_⟩⟩
   have hgr:=grownBy_putObj' W D (.deferred none)
   have hrr:∀ r,some D=some r→W2.heap.size≤r∧∃ o:Obj,W.heap[r]?=some o∧o.isCells=false:=fun r e=>by cases e;exact ⟨hD,_,HK.out,rfl⟩
   exact ⟨_,results_tmp Tryz.results56 _ _ _,by rw [D1.out,E1.out];rfl,belowOwn12 hb hb.size (by omega) hgr hrr⟩
 case stop=>exact fun _ _ _ _ _ h=>h.elim
end Go.Proofs.YtmggbbmpckcleaaGreat
