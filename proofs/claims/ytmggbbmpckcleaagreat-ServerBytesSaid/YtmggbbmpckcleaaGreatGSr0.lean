import Derived.Test.YtmggbbmpckcleaaGreatGBu1
import Derived.Test.YtmggbbmpckcleaaGreatGCo1
set_option maxRecDepth 100000
set_option maxHeartbeats 16000000
namespace Go.Proofs.YtmggbbmpckcleaaGreat
open Go.RowKit
theorem grow_few12 {s:Sto12} (h:Rt12 s) (hm:s.many < 2000):grow12 s≤4096:=by
 have h1:=of_decide_eq_true h.size
 simp only [sizes12,List.mem_cons,List.not_mem_nil,or_false] at h1
 rw [grow12]
 split <;> omega
def puts13 (s:Sto12) (P:List (ByteArray × ByteArray)):Sto12:=P.foldl (fun s p=>(putV12 s p.1 p.2).1) s
def dels13 (s:Sto12) (L:List ByteArray):Sto12:=L.foldl (fun s l=>(delV12 s l).1) s
def has13 (B:List Bkt12) (L:List ByteArray):Nat:=L.countP fun l=>(mp12 B l).isSome
def more13 (B:List Bkt12) (L:List ByteArray):Nat:=L.countP fun l=>decide (mp12 B l=none)
theorem has_more13 (B:List Bkt12) (L:List ByteArray):has13 B L + more13 B L=L.length:=by
 induction L with
 | nil=>rfl
 | cons l r ih =>
  rw [has13,more13,List.countP_cons,List.countP_cons,List.length_cons]
  rw [has13,more13] at ih
  cases mp12 B l <;> simp <;> omega
def lk13 (P:List (ByteArray × ByteArray)) (x:ByteArray):Option ByteArray:=(P.find? fun p=>decide (p.1=x)).map Prod.snd
theorem lk_none13 {P:List (ByteArray × ByteArray)} {x:ByteArray} (h:∀ p ∈ P,p.1≠x):lk13 P x=none:=by
 rw [lk13,List.find?_eq_none.2 (fun p hp=>by simpa using h p hp)]
 rfl
theorem lk_some13:∀ {P:List (ByteArray × ByteArray)} {x:ByteArray},(∃ p ∈ P,p.1=x)→∃ c,lk13 P x=some c∧(x,c) ∈ P
 | [],x,h=>by obtain ⟨p,hp,_⟩:=h;exact absurd hp (by simp)
 | a :: r,x,h=>by
  by_cases ha:a.1=x
  · exact ⟨a.2,by rw [lk13,List.find?_cons_of_pos (by simpa using ha)];rfl,by rw [← ha];exact List.mem_cons_self⟩
  ·
   obtain ⟨p,hp,e⟩:=h
   rcases List.mem_cons.1 hp with rfl | hp
   · exact absurd e ha
   ·
    obtain ⟨c,h1,h2⟩:=lk_some13 ⟨p,hp,e⟩
    exact ⟨c,by rw [lk13,List.find?_cons_of_neg (by simpa using ha)];exact h1,List.mem_cons_of_mem _ h2⟩
structure Fit13 (P:List (ByteArray × ByteArray)):Prop where
 size:∀ p ∈ P,p.1.size=16∧p.2.size=40
 once:P.Pairwise fun a b=>a.1≠b.1
theorem Fit13.tail {p:ByteArray × ByteArray} {P:List (ByteArray × ByteArray)} (h:Fit13 (p :: P)):Fit13 P:=⟨fun x hx=>h.size x (List.mem_cons_of_mem _ hx),(List.pairwise_cons.1 h.once).2⟩
theorem more_cons13 {B:List Bkt12} {l:ByteArray} {L:List ByteArray}:more13 B (l :: L)=more13 B L + (if mp12 B l=none then 1 else 0):=by
 rw [more13,more13,List.countP_cons]
 simp only [decide_eq_true_eq]
theorem has_cons13 {B:List Bkt12} {l:ByteArray} {L:List ByteArray}:has13 B (l :: L)=has13 B L + (if (mp12 B l).isSome then 1 else 0):=by
 rw [has13,has13,List.countP_cons]
theorem more_mp13 {A B:List Bkt12} {L:List ByteArray} (h:∀ l ∈ L,mp12 A l=mp12 B l):more13 A L=more13 B L:=by
 rw [more13,more13]
 exact List.countP_congr fun l hl=>by rw [h l hl]
theorem has_mp13 {A B:List Bkt12} {L:List ByteArray} (h:∀ l ∈ L,mp12 A l=mp12 B l):has13 A L=has13 B L:=by
 rw [has13,has13]
 exact List.countP_congr fun l hl=>by rw [h l hl]
structure Put13 (s t:Sto12) (P:List (ByteArray × ByteArray)):Prop where
 rt:Rt12 t
 mp:∀ x,mp12 t.B x=(lk13 P x).or (mp12 s.B x)
 many:t.many=s.many + (more13 s.B (P.map Prod.fst):Nat)
theorem puts_ok13:∀ (P:List (ByteArray × ByteArray)) (s:Sto12),Rt12 s→Fit13 P→s.many + (more13 s.B (P.map Prod.fst):Nat)≤2000→Put13 s (puts13 s P) P
 | [],s,h,_,_=>⟨h,fun x=>rfl,by show s.many=s.many + ((0:Nat):Int);omega⟩
 | p :: r,s,h,hf,hm=>by
  obtain ⟨z1,z2⟩:=hf.size p List.mem_cons_self
  have hp:=List.pairwise_cons.1 hf.once
  rw [List.map_cons,more_cons13] at hm
  have hg:mp12 s.B p.1=none→grow12 s≤4096∨4 * (s.many + s.gone + 1)≤3 * (s.B.length:Int):=fun e=>by
   rw [if_pos e] at hm
   exact .inl (grow_few12 h (by omega))
  obtain ⟨p1,p2,p3,p4⟩:=put_ok12 h z1 z2 hg
  have hmr:more13 (putV12 s p.1 p.2).1.B (r.map Prod.fst)=more13 s.B (r.map Prod.fst):=more_mp13 fun l hl=>by
   obtain ⟨q,hq,e⟩:=List.mem_map.1 hl
   rw [p3,if_neg (fun e2=>hp.1 q hq (e2.symm.trans e.symm))]
  have hmany:(putV12 s p.1 p.2).1.many + (more13 s.B (r.map Prod.fst):Nat)=s.many + ((more13 s.B (r.map Prod.fst) + (if mp12 s.B p.1=none then 1 else 0):Nat):Int):=by
   rw [p4]
   split <;> omega
  have ih:=puts_ok13 r (putV12 s p.1 p.2).1 p2 hf.tail (by rw [hmr];omega)
  have e:puts13 s (p :: r)=puts13 (putV12 s p.1 p.2).1 r:=rfl
  rw [e]
  refine ⟨ih.rt,fun x=>?_,by rw [ih.many,hmr,List.map_cons,more_cons13];exact hmany⟩
  rw [ih.mp x,p3 x]
  by_cases hx:x=p.1
  ·
   rw [if_pos hx,lk_none13 (fun q hq=>fun e=>hp.1 q hq (hx.symm.trans e.symm)),lk13,List.find?_cons_of_pos (by simpa using hx.symm)]
   rfl
  ·
   rw [if_neg hx]
   congr 1
   rw [lk13,lk13,List.find?_cons_of_neg (by simpa using fun e=>hx e.symm)]
theorem puts_app13 (s:Sto12) (P Q:List (ByteArray × ByteArray)):puts13 s (P ++ Q)=puts13 (puts13 s P) Q:=List.foldl_append
theorem dels_app13 (s:Sto12) (P Q:List ByteArray):dels13 s (P ++ Q)=dels13 (dels13 s P) Q:=List.foldl_append
structure Del13 (s t:Sto12) (L:List ByteArray):Prop where
 rt:Rt12 t
 out:∀ x,x ∈ L→mp12 t.B x=none
 mp:∀ x,x ∉ L→mp12 t.B x=mp12 s.B x
 many:t.many + (has13 s.B L:Nat)=s.many
theorem dels_ok13:∀ (L:List ByteArray) (s:Sto12),Rt12 s→(L.Pairwise fun a b=>a≠b)→Del13 s (dels13 s L) L
 | [],s,h,_=>⟨h,fun x hx=>absurd hx (by simp),fun x _=>rfl,by show s.many + ((0:Nat):Int)=s.many;omega⟩
 | l :: r,s,h,hp=>by
  rw [List.pairwise_cons] at hp
  obtain ⟨d1,d2,d3,d4,d5⟩:=del_ok12 h (l:=l)
  have hhr:has13 (delV12 s l).1.B r=has13 s.B r:=has_mp13 fun x hx=>by rw [d3,if_neg (fun e=>hp.1 x hx e.symm)]
  have ih:=dels_ok13 r (delV12 s l).1 d2 hp.2
  have im:=ih.many
  have e:dels13 s (l :: r)=dels13 (delV12 s l).1 r:=rfl
  rw [e]
  refine ⟨ih.rt,fun x hx=>?_,fun x hx=>?_,?_⟩
  ·
   by_cases h1:x ∈ r
   · exact ih.out x h1
   ·
    rcases List.mem_cons.1 hx with h2 | h2
    · rw [ih.mp x h1,d3,if_pos h2]
    · exact absurd h2 h1
  ·
   rw [List.mem_cons,not_or] at hx
   rw [ih.mp x hx.2,d3,if_neg hx.1]
  ·
   rw [has_cons13]
   rw [hhr,d5] at im
   split at im
   · rename_i hh;rw [if_pos hh];omega
   · rename_i hh;rw [if_neg hh];omega
structure Srv13 where
 S:Sto12
 lim:Int
def right13 (s:Srv13):Bool:=right12 s.S && (decide (0≤s.lim) && (decide (s.lim≤2000) && decide (s.S.many≤s.lim)))
structure Rt13 (s:Srv13):Prop where
 rt:Rt12 s.S
 lo:0≤s.lim
 hi:s.lim≤2000
 many:s.S.many≤s.lim
theorem right_iff13 {s:Srv13}:right13 s=true↔Rt13 s:=by
 simp only [right13,Bool.and_eq_true,decide_eq_true_eq,right_iff12]
 exact ⟨fun ⟨a,b,c,d⟩=>⟨a,b,c,d⟩,fun ⟨a,b,c,d⟩=>⟨a,b,c,d⟩⟩
def taken13 (B:List Bkt12) (P:List (ByteArray × ByteArray)):Bool:=P.any fun p=>match mp12 B p.1 with | some c=>decide (c≠p.2) | none=>false
theorem taken_iff13 {B:List Bkt12} {P:List (ByteArray × ByteArray)}:taken13 B P=false↔∀ p ∈ P,∀ c,mp12 B p.1=some c→c=p.2:=by
 rw [taken13,List.any_eq_false]
 constructor
 ·
  intro h p hp c hc
  have:=h p hp
  rw [hc] at this
  simpa using this
 ·
  intro h p hp
  cases hc:mp12 B p.1 with
  | none=>simp
  | some c=>simpa using h p hp c hc
def put13 (s:Srv13) (P:List (ByteArray × ByteArray)):Srv13 × Rsp11 :=
 if taken13 s.S.B P then (s,⟨1,2,[],0,0⟩)
 else if s.lim < s.S.many + (more13 s.S.B (P.map Prod.fst):Nat) then (s,⟨1,1,[],0,0⟩)
 else (⟨puts13 s.S P,s.lim⟩,⟨1,0,[],0,0⟩)
def get13 (B:List Bkt12) (l:ByteArray):ByteArray:=(mp12 B l).getD ⟨#[]⟩
def do13 (s:Srv13) (q:Req11):Srv13 × Rsp11 :=
 if right13 s && right11 q then
  (if q.k=1 then put13 s (q.L.zip q.C)
  else if q.k=2 then (s,⟨2,0,q.L.map (get13 s.S.B),0,0⟩)
  else if q.k=3 then (⟨dels13 s.S q.L,s.lim⟩,⟨3,0,[],(has13 s.S.B q.L:Nat),0⟩)
  else (s,⟨4,0,[],s.S.many,s.lim - s.S.many⟩))
 else (s,zrsp11)
def step13 (s:Srv13) (t:ByteArray):Srv13 × ByteArray :=
 if (decV11 t).2=0 then ((do13 s (decV11 t).1).1,(answV11 (do13 s (decV11 t).1).2).1) else (s,(answV11 zrsp11).1)
end Go.Proofs.YtmggbbmpckcleaaGreat
namespace Go.Proofs.YtmggbbmpckcleaaGreat
open Go.RowKit
structure Rq13 (q:Req11):Prop where
 k:1≤q.k∧q.k≤4
 szL:∀ l ∈ q.L,l.size=16
 szC:∀ c ∈ q.C,c.size=40
 few:q.L.length≤200
 once:q.L.Nodup
 put:q.k=1→q.C.length=q.L.length
theorem Rq13.of {q:Req11} (h:right11 q=true):Rq13 q:=by
 simp only [right11,szd11,Bool.and_eq_true,decide_eq_true_eq,List.all_eq_true,Bool.false_and,Bool.or_false] at h
 obtain ⟨h1,h2,⟨h3,h4⟩,⟨h5,_⟩,h6,h7⟩:=h
 exact ⟨⟨h1,h2⟩,h3,h5,h4,h6,fun e=>by rw [if_pos e] at h7;exact of_decide_eq_true h7⟩
section
variable {q:Req11}
theorem Rq13.fst (h:Rq13 q) (e:q.k=1):(q.L.zip q.C).map Prod.fst=q.L:=by
 rw [List.map_fst_zip]
 have:=h.put e
 omega
theorem Rq13.fit (h:Rq13 q) (e:q.k=1):Fit13 (q.L.zip q.C):=by
 refine ⟨fun p hp=>?_,?_⟩
 ·
  have:=List.of_mem_zip (show (p.1,p.2) ∈ q.L.zip q.C from hp)
  exact ⟨h.szL _ this.1,h.szC _ this.2⟩
 ·
  have:=h.once
  rw [← h.fst e,List.Nodup,List.pairwise_map] at this
  exact this
end
theorem lk_mem13:∀ {P:List (ByteArray × ByteArray)} {x c:ByteArray},(P.Pairwise fun a b=>a.1≠b.1)→(lk13 P x=some c↔(x,c) ∈ P)
 | [],x,c,_=>by simp [lk13]
 | a :: r,x,c,h=>by
  rw [List.pairwise_cons] at h
  by_cases ha:a.1=x
  ·
   rw [lk13,List.find?_cons_of_pos (by simpa using ha),Option.map_some,Option.some.injEq,List.mem_cons]
   constructor
   ·
    intro e
    exact .inl (by rw [← ha,← e])
   ·
    rintro (e | e)
    · rw [← e]
    · exact absurd ha (h.1 _ e)
  ·
   rw [show lk13 (a :: r) x=lk13 r x by rw [lk13,lk13,List.find?_cons_of_neg (by simpa using ha)],lk_mem13 h.2,List.mem_cons]
   constructor
   · exact .inr
   ·
    rintro (e | e)
    · exact absurd (by rw [← e]) ha
    · exact e
theorem mp_size13 {B:List Bkt12} (h:Ok12 B) {l c:ByteArray} (hc:mp12 B l=some c):c.size=40∧l.size=16:=by
 obtain ⟨i,hi,e⟩:=(mp_iff12 h).1 hc
 have:=h.used i hi (by rw [e])
 rw [e] at this
 exact ⟨this.2.1,this.1⟩
section
variable {s:Srv13} {P:List (ByteArray × ByteArray)}
theorem put_done13 (ht:taken13 s.S.B P=false) (hm:s.S.many + (more13 s.S.B (P.map Prod.fst):Nat)≤s.lim):put13 s P=(⟨puts13 s.S P,s.lim⟩,⟨1,0,[],0,0⟩):=by
 rw [put13,ht,if_neg (by decide),if_neg (by omega)]
theorem put_st13:(put13 s P).2.k=1∧(put13 s P).2.C=[]∧(put13 s P).2.many=0∧(put13 s P).2.room=0∧(0≤(put13 s P).2.st∧(put13 s P).2.st≤2)∧((put13 s P).2.st≠0→(put13 s P).1=s)∧(put13 s P).1.lim=s.lim:=by
 unfold put13
 split
 · exact ⟨rfl,rfl,rfl,rfl,⟨show (0:Int)≤2 by decide,show (2:Int)≤2 by decide⟩,fun _=>rfl,rfl⟩
 ·
  split
  · exact ⟨rfl,rfl,rfl,rfl,⟨show (0:Int)≤1 by decide,show (1:Int)≤2 by decide⟩,fun _=>rfl,rfl⟩
  · exact ⟨rfl,rfl,rfl,rfl,⟨show (0:Int)≤0 by decide,show (0:Int)≤2 by decide⟩,fun h=>absurd rfl h,rfl⟩
theorem put_when13 (h:(put13 s P).2.st=0):taken13 s.S.B P=false∧s.S.many + (more13 s.S.B (P.map Prod.fst):Nat)≤s.lim:=by
 unfold put13 at h
 split at h
 · exact absurd h (show ¬ (2:Int)=0 by decide)
 ·
  rename_i ht
  split at h
  · exact absurd h (show ¬ (1:Int)=0 by decide)
  · exact ⟨Bool.not_eq_true _ ▸ ht,by omega⟩
theorem put_is13 (h:(put13 s P).2.st=0):put13 s P=(⟨puts13 s.S P,s.lim⟩,⟨1,0,[],0,0⟩):=put_done13 (put_when13 h).1 (put_when13 h).2
theorem puts_are13 (hs:Rt13 s) (hf:Fit13 P) (h:(put13 s P).2.st=0):Put13 s.S (puts13 s.S P) P:=puts_ok13 P s.S hs.rt hf (by have:=(put_when13 h).2;have:=hs.hi;omega)
theorem put_rt13 (hs:Rt13 s) (hf:Fit13 P):Rt13 (put13 s P).1:=by
 by_cases h:(put13 s P).2.st=0
 ·
  have hp:=puts_are13 hs hf h
  rw [put_is13 h]
  exact ⟨hp.rt,hs.lo,hs.hi,by show (puts13 s.S P).many≤s.lim;rw [hp.many];exact (put_when13 h).2⟩
 · rw [put_st13.2.2.2.2.2.1 h];exact hs
end
section
variable {s:Srv13} {q:Req11}
theorem do_no13 (h:¬ (right13 s=true∧right11 q=true)):do13 s q=(s,zrsp11):=by
 rw [do13,if_neg]
 rw [Bool.and_eq_true]
 exact h
theorem do_yes13 (hs:right13 s=true) (hq:right11 q=true):do13 s q=(if q.k=1 then put13 s (q.L.zip q.C)
  else if q.k=2 then (s,⟨2,0,q.L.map (get13 s.S.B),0,0⟩)
  else if q.k=3 then (⟨dels13 s.S q.L,s.lim⟩,⟨3,0,[],(has13 s.S.B q.L:Nat),0⟩)
  else (s,⟨4,0,[],s.S.many,s.lim - s.S.many⟩)):=by rw [do13,if_pos (by rw [hs,hq];rfl)]
theorem do_put13 (hs:right13 s=true) (hq:right11 q=true) (e:q.k=1):do13 s q=put13 s (q.L.zip q.C):=by rw [do_yes13 hs hq,if_pos e]
theorem do_get13 (hs:right13 s=true) (hq:right11 q=true) (e:q.k=2):do13 s q=(s,⟨2,0,q.L.map (get13 s.S.B),0,0⟩):=by rw [do_yes13 hs hq,if_neg (by omega),if_pos e]
theorem do_del13 (hs:right13 s=true) (hq:right11 q=true) (e:q.k=3):do13 s q=(⟨dels13 s.S q.L,s.lim⟩,⟨3,0,[],(has13 s.S.B q.L:Nat),0⟩):=by rw [do_yes13 hs hq,if_neg (by omega),if_neg (by omega),if_pos e]
theorem do_stat13 (hs:right13 s=true) (hq:right11 q=true) (e:q.k=4):do13 s q=(s,⟨4,0,[],s.S.many,s.lim - s.S.many⟩):=by rw [do_yes13 hs hq,if_neg (by omega),if_neg (by omega),if_neg (by omega)]
theorem k_cases13 (h:right11 q=true):q.k=1∨q.k=2∨q.k=3∨q.k=4:=by
 have:=(Rq13.of h).k
 omega
theorem do_rt13 (hs:Rt13 s) (q:Req11):Rt13 (do13 s q).1:=by
 by_cases h:right13 s=true∧right11 q=true
 ·
  have hq:=Rq13.of h.2
  rcases k_cases13 h.2 with e | e | e | e
  · rw [do_put13 h.1 h.2 e];exact put_rt13 hs (hq.fit e)
  · rw [do_get13 h.1 h.2 e];exact hs
  ·
   rw [do_del13 h.1 h.2 e]
   have hd:=dels_ok13 q.L s.S hs.rt hq.once
   have h1:=hd.many
   have h2:=hs.many
   exact ⟨hd.rt,hs.lo,hs.hi,by show (dels13 s.S q.L).many≤s.lim;omega⟩
  · rw [do_stat13 h.1 h.2 e];exact hs
 · rw [do_no13 h];exact hs
theorem do_kind13 (hs:right13 s=true) (hq:right11 q=true):(do13 s q).2.k=q.k:=by
 rcases k_cases13 hq with e | e | e | e
 · rw [do_put13 hs hq e,put_st13.1,e]
 · rw [do_get13 hs hq e,e]
 · rw [do_del13 hs hq e,e]
 · rw [do_stat13 hs hq e,e]
theorem get_size13 (hs:Rt12 s.S) (l:ByteArray):(get13 s.S.B l).size=40∨(get13 s.S.B l).size=0:=by
 rw [get13]
 cases h:mp12 s.S.B l with
 | none=>exact .inr rfl
 | some c=>exact .inl (mp_size13 hs.ok h).1
theorem do_may13 (s:Srv13) (q:Req11):may11 (do13 s q).2=true:=by
 by_cases h:right13 s=true∧right11 q=true
 ·
  have hq:=Rq13.of h.2
  have hs:=right_iff13.1 h.1
  have hm:=hs.many
  have hlo:=hs.lo
  have hhi:=hs.hi
  have hmm:=hs.rt.many
  rcases k_cases13 h.2 with e | e | e | e
  ·
   rw [do_put13 h.1 h.2 e]
   obtain ⟨a1,a2,a3,a4,a5,_⟩:=put_st13 (s:=s) (P:=q.L.zip q.C)
   rw [may11,a1,a2,a3,a4,decide_eq_true a5.1,decide_eq_true a5.2]
   simp [szd11]
  ·
   rw [do_get13 h.1 h.2 e]
   have hz:szd11 (q.L.map (get13 s.S.B)) 40 true=true:=by
    rw [szd11,Bool.and_eq_true,List.all_eq_true]
    refine ⟨fun x hx=>?_,decide_eq_true (by rw [List.length_map];exact hq.few)⟩
    obtain ⟨l,_,e2⟩:=List.mem_map.1 hx
    rw [← e2]
    rcases get_size13 hs.rt l with e3 | e3 <;> rw [e3] <;> rfl
   rw [may11,hz]
   rfl
  ·
   rw [do_del13 h.1 h.2 e]
   have hh:has13 s.S.B q.L≤200:=Nat.le_trans (List.countP_le_length) hq.few
   rw [may11]
   show (_ && (_ && (_ && (_ && (_ && (decide ((0:Int)≤(has13 s.S.B q.L:Nat)) && (decide (((has13 s.S.B q.L:Nat):Int)≤2147483647) && _)))))))=true
   rw [decide_eq_true (show (0:Int)≤(has13 s.S.B q.L:Nat) by omega),decide_eq_true (show ((has13 s.S.B q.L:Nat):Int)≤2147483647 by omega)]
   rfl
  ·
   rw [do_stat13 h.1 h.2 e]
   rw [may11]
   show (_ && (_ && (_ && (_ && (_ && (decide (0≤s.S.many) && (decide (s.S.many≤2147483647) && (decide (0≤s.lim - s.S.many) && (decide (s.lim - s.S.many≤2147483647) && _)))))))))=true
   rw [decide_eq_true (show 0≤s.S.many by omega),decide_eq_true (show s.S.many≤2147483647 by omega),decide_eq_true (show 0≤s.lim - s.S.many by omega),decide_eq_true (show s.lim - s.S.many≤2147483647 by omega)]
   rfl
 · rw [do_no13 h];rfl
theorem step_no13 {t:ByteArray} (h:(decV11 t).2≠0):step13 s t=(s,rspB11 zrsp11):=by rw [step13,if_neg h];rfl
theorem step_yes13 {t:ByteArray} (h:(decV11 t).2=0):step13 s t=((do13 s (decV11 t).1).1,rspB11 (do13 s (decV11 t).1).2):=by rw [step13,if_pos h,answV11,if_pos (do_may13 _ _)]
theorem step_rt13 (hs:Rt13 s) (t:ByteArray):Rt13 (step13 s t).1:=by
 by_cases h:(decV11 t).2=0
 · rw [step_yes13 h];exact do_rt13 hs _
 · rw [step_no13 h];exact hs
theorem step_read13 (hs:right13 s=true) (t:ByteArray):(readV11 (step13 s t).2).2=0∧((decV11 t).2≠0→(readV11 (step13 s t).2).1.k=0∧(step13 s t).1=s)∧((decV11 t).2=0→(readV11 (step13 s t).2).1.k=(decV11 t).1.k):=by
 by_cases h:(decV11 t).2=0
 ·
  rw [step_yes13 h,read_answ11 (do_may13 _ _)]
  exact ⟨rfl,fun e=>absurd h e,fun _=>do_kind13 hs (enc_dec11 h).1⟩
 ·
  rw [step_no13 h,read_answ11 (show may11 zrsp11=true from rfl)]
  exact ⟨rfl,fun _=>⟨rfl,rfl⟩,fun e=>absurd e h⟩
end
end Go.Proofs.YtmggbbmpckcleaaGreat
namespace Go.Proofs.YtmggbbmpckcleaaGreat
open Go.RowKit
theorem more_le13 (B:List Bkt12) (L:List ByteArray):more13 B L≤L.length:=List.countP_le_length
def Once13 (P:List (ByteArray × ByteArray)):Prop:=P.Pairwise fun a b=>a.1≠b.1
structure Kp13 (s:Srv13) (P:List (ByteArray × ByteArray)):Prop where
 rt:Rt13 s
 once:Once13 P
 mp:∀ x,mp12 s.S.B x=lk13 P x
 many:s.S.many=P.length
def ix13 (P:List (ByteArray × ByteArray)) (l:ByteArray):Nat→Int
 | 0=>-1
 | n + 1=>if (P.getD n (⟨#[]⟩,⟨#[]⟩)).1=l then (n:Int) else ix13 P l n
theorem ix_lo13 (P:List (ByteArray × ByteArray)) (l:ByteArray):∀ n,-1≤ix13 P l n∧ix13 P l n < n
 | 0=>⟨Int.le_refl _,by rw [ix13];omega⟩
 | n + 1=>by
  have:=ix_lo13 P l n
  rw [ix13]
  split <;> omega
theorem ix_at13 (P:List (ByteArray × ByteArray)) (l:ByteArray):∀ n,0≤ix13 P l n→(P.getD (ix13 P l n).toNat (⟨#[]⟩,⟨#[]⟩)).1=l
 | 0,h=>absurd h (show ¬ (0:Int)≤-1 by decide)
 | n + 1,h=>by
  rw [ix13] at h ⊢
  split
  · rename_i he;exact he
  · rename_i he;rw [if_neg he] at h;exact ix_at13 P l n h
theorem ix_not13 (P:List (ByteArray × ByteArray)) (l:ByteArray):∀ n,ix13 P l n < 0→∀ i,i < n→(P.getD i (⟨#[]⟩,⟨#[]⟩)).1≠l
 | 0,_,i,hi=>absurd hi (Nat.not_lt_zero _)
 | n + 1,h,i,hi=>by
  rw [ix13] at h
  split at h
  · omega
  ·
   rename_i he
   by_cases hin:i=n
   · rw [hin];exact he
   · exact ix_not13 P l n h i (by omega)
section
variable {P:List (ByteArray × ByteArray)} {l:ByteArray}
theorem ix_none13 (h:ix13 P l P.length < 0):lk13 P l=none:=lk_none13 fun p hp=>by
 obtain ⟨i,hi,e⟩:=List.mem_iff_getElem.1 hp
 have:=ix_not13 P l P.length h i hi
 rw [getD_get12 hi,e] at this
 exact this
theorem ix_some13 (ho:Once13 P) (h:0≤ix13 P l P.length):lk13 P l=some (P.getD (ix13 P l P.length).toNat (⟨#[]⟩,⟨#[]⟩)).2:=by
 have hb:=(ix_lo13 P l P.length).2
 have ha:=ix_at13 P l P.length h
 have hlt:(ix13 P l P.length).toNat < P.length:=by omega
 rw [getD_get12 hlt] at ha ⊢
 rw [lk_mem13 ho]
 generalize (ix13 P l P.length).toNat=k at *
 rw [← ha]
 exact List.getElem_mem hlt
theorem ix_iff13 (ho:Once13 P):(lk13 P l).isSome=decide (0≤ix13 P l P.length):=by
 by_cases h:0≤ix13 P l P.length
 · rw [ix_some13 ho h,decide_eq_true h];rfl
 · rw [ix_none13 (by omega),decide_eq_false h];rfl
end
def padd13 (P:List (ByteArray × ByteArray)) (p:ByteArray × ByteArray):List (ByteArray × ByteArray):=if (lk13 P p.1).isSome then P else P ++ [p]
def pdel13 (P:List (ByteArray × ByteArray)) (l:ByteArray):List (ByteArray × ByteArray):=if 0≤ix13 P l P.length then P.eraseIdx (ix13 P l P.length).toNat else P
theorem padd_ok13 {P:List (ByteArray × ByteArray)} (h:Once13 P) (p:ByteArray × ByteArray):Once13 (padd13 P p)∧(∀ x,lk13 (padd13 P p) x=(lk13 P x).or (if x=p.1 then some p.2 else none))∧(padd13 P p).length=P.length + (if (lk13 P p.1).isSome then 0 else 1):=by
 unfold padd13
 cases hp:lk13 P p.1 with
 | some c =>
  refine ⟨h,fun x=>?_,rfl⟩
  show lk13 P x=_
  by_cases hx:x=p.1
  · rw [hx,hp];rfl
  · rw [if_neg hx,Option.or_none]
 | none =>
  have hne:∀ q ∈ P,q.1≠p.1:=fun q hq e=>by
   obtain ⟨c,h1,_⟩:=lk_some13 ⟨q,hq,e⟩
   rw [hp] at h1
   cases h1
  have ho:Once13 (P ++ [p]):=by
   rw [Once13,List.pairwise_append]
   exact ⟨h,List.pairwise_singleton _ _,fun q hq r hr=>by rw [List.mem_singleton] at hr;rw [hr];exact hne q hq⟩
  refine ⟨ho,fun x=>?_,by show (P ++ [p]).length=_;rw [List.length_append];rfl⟩
  show lk13 (P ++ [p]) x=_
  rw [lk13,lk13,List.find?_append]
  cases List.find? (fun q=>decide (q.1=x)) P with
  | some q=>rfl
  | none =>
   by_cases hx:x=p.1
   · rw [if_pos hx,List.find?_cons_of_pos (by simpa using hx.symm)];rfl
   · rw [if_neg hx,List.find?_cons_of_neg (by simpa using fun e=>hx e.symm)];rfl
theorem pdel_ok13 {P:List (ByteArray × ByteArray)} (h:Once13 P) (l:ByteArray):Once13 (pdel13 P l)∧(∀ x,lk13 (pdel13 P l) x=if x=l then none else lk13 P x)∧(pdel13 P l).length + (if (lk13 P l).isSome then 1 else 0)=P.length:=by
 unfold pdel13
 by_cases hi:0≤ix13 P l P.length
 ·
  have hb:=(ix_lo13 P l P.length).2
  have ha:=ix_at13 P l P.length hi
  have hlt:(ix13 P l P.length).toNat < P.length:=by omega
  rw [if_pos hi,ix_iff13 h,decide_eq_true hi,if_pos rfl]
  generalize (ix13 P l P.length).toNat=k at *
  rw [getD_get12 hlt] at ha
  have ho:Once13 (P.eraseIdx k):=h.sublist (List.eraseIdx_sublist _ _)
  refine ⟨ho,fun x=>?_,by rw [List.length_eraseIdx,if_pos hlt];omega⟩
  have e:∀ c,lk13 (P.eraseIdx k) x=some c↔x≠l∧lk13 P x=some c:=fun c=>by
   rw [lk_mem13 ho,lk_mem13 h,List.mem_eraseIdx_iff_getElem]
   constructor
   ·
    rintro ⟨i,hi2,hne,e⟩
    refine ⟨fun hx=>?_,by rw [← e];exact List.getElem_mem hi2⟩
    have e1:P[i].1=P[k].1:=by rw [e,ha];exact hx
    rcases Nat.lt_trichotomy i k with hik | hik | hik
    · exact List.pairwise_iff_getElem.1 h i k hi2 hlt hik e1
    · exact hne hik
    · exact List.pairwise_iff_getElem.1 h k i hlt hi2 hik e1.symm
   ·
    rintro ⟨hx,hm⟩
    obtain ⟨i,hi2,e⟩:=List.mem_iff_getElem.1 hm
    refine ⟨i,hi2,fun hik=>?_,e⟩
    subst hik
    rw [e] at ha
    exact hx ha
  by_cases hx:x=l
  ·
   rw [if_pos hx]
   cases hq:lk13 (P.eraseIdx k) x with
   | none=>rfl
   | some c=>exact absurd hx ((e c).1 hq).1
  ·
   rw [if_neg hx]
   cases hq:lk13 P x with
   | some c=>exact (e c).2 ⟨hx,hq⟩
   | none =>
    cases hq2:lk13 (P.eraseIdx k) x with
    | none=>rfl
    | some c=>rw [((e c).1 hq2).2] at hq;cases hq
 ·
  have hn:=ix_none13 (P:=P) (l:=l) (by omega)
  rw [if_neg hi,hn]
  refine ⟨h,fun x=>?_,rfl⟩
  by_cases hx:x=l
  · rw [if_pos hx,hx,hn]
  · rw [if_neg hx]
theorem padds_ok13:∀ (Q P:List (ByteArray × ByteArray)),Once13 P→Once13 Q→Once13 (Q.foldl padd13 P)∧(∀ x,lk13 (Q.foldl padd13 P) x=(lk13 P x).or (lk13 Q x))∧(Q.foldl padd13 P).length=P.length + Q.countP (fun q=>decide (lk13 P q.1=none))
 | [],P,h,_=>⟨h,fun x=>by show lk13 P x=_;rw [show lk13 [] x=none from rfl,Option.or_none],rfl⟩
 | p :: r,P,h,ho=>by
  rw [Once13,List.pairwise_cons] at ho
  obtain ⟨a1,a2,a3⟩:=padd_ok13 h p
  obtain ⟨i1,i2,i3⟩:=padds_ok13 r (padd13 P p) a1 ho.2
  rw [List.foldl_cons]
  refine ⟨i1,fun x=>?_,?_⟩
  ·
   rw [i2,a2]
   by_cases hx:x=p.1
   ·
    rw [if_pos hx,show lk13 (p :: r) x=some p.2 by rw [lk13,List.find?_cons_of_pos (by simpa using hx.symm)];rfl]
    cases lk13 P x <;> rfl
   · rw [if_neg hx,Option.or_none,show lk13 (p :: r) x=lk13 r x by rw [lk13,lk13,List.find?_cons_of_neg (by simpa using fun e=>hx e.symm)]]
  ·
   rw [i3,a3,List.countP_cons]
   have:r.countP (fun q=>decide (lk13 (padd13 P p) q.1=none))=r.countP (fun q=>decide (lk13 P q.1=none)):=List.countP_congr fun q hq=>by
    rw [a2,if_neg (fun e=>ho.1 q hq e.symm),Option.or_none]
   rw [this]
   cases lk13 P p.1 <;> simp <;> omega
theorem pdels_ok13:∀ (L:List ByteArray) (P:List (ByteArray × ByteArray)),Once13 P→L.Nodup→Once13 (L.foldl pdel13 P)∧(∀ x,x ∈ L→lk13 (L.foldl pdel13 P) x=none)∧(∀ x,x ∉ L→lk13 (L.foldl pdel13 P) x=lk13 P x)∧(L.foldl pdel13 P).length + L.countP (fun l=>(lk13 P l).isSome)=P.length
 | [],P,h,_=>⟨h,fun x hx=>absurd hx (by simp),fun _ _=>rfl,rfl⟩
 | l :: r,P,h,ho=>by
  rw [List.nodup_cons] at ho
  obtain ⟨a1,a2,a3⟩:=pdel_ok13 h l
  obtain ⟨i1,i2,i3,i4⟩:=pdels_ok13 r (pdel13 P l) a1 ho.2
  rw [List.foldl_cons]
  refine ⟨i1,fun x hx=>?_,fun x hx=>?_,?_⟩
  ·
   by_cases h1:x ∈ r
   · exact i2 x h1
   ·
    rcases List.mem_cons.1 hx with h2 | h2
    · rw [i3 x h1,a2,if_pos h2]
    · exact absurd h2 h1
  ·
   rw [List.mem_cons,not_or] at hx
   rw [i3 x hx.2,a2,if_neg hx.1]
  ·
   rw [List.countP_cons]
   have:r.countP (fun q=>(lk13 (pdel13 P l) q).isSome)=r.countP (fun q=>(lk13 P q).isSome):=List.countP_congr fun q hq=>by
    rw [a2,if_neg (fun e:q=l=>ho.1 (e ▸ hq))]
   rw [this] at i4
   omega
section
variable {s:Srv13} {P:List (ByteArray × ByteArray)} {q:Req11}
theorem new_kp13 {n:Int} (h0:0≤n) (h1:n≤2000):Kp13 ⟨⟨new12 8,0,0⟩,n⟩ []:=⟨⟨(new_inv12 (.inl rfl)).rt,h0,h1,h0⟩,List.Pairwise.nil,fun x=>mp_none12.2 (new_plc12 8 x),rfl⟩
theorem Kp13.put (h:Kp13 s P) (hq:right11 q=true) (e:q.k=1) (hd:(do13 s q).2.st=0):Kp13 (do13 s q).1 ((q.L.zip q.C).foldl padd13 P)∧∀ p ∈ q.L.zip q.C,∀ c,lk13 P p.1=some c→c=p.2:=by
 have hr:=Rq13.of hq
 have hs:=right_iff13.2 h.rt
 have hf:=hr.fit e
 have hrt:=do_rt13 h.rt q
 rw [do_put13 hs hq e] at hd hrt ⊢
 have ht:=(put_when13 hd).1
 have hp:=puts_are13 h.rt hf hd
 have ht2:∀ p ∈ q.L.zip q.C,∀ c,lk13 P p.1=some c→c=p.2:=fun p hpm c hc=>taken_iff13.1 ht p hpm c (by rw [h.mp];exact hc)
 obtain ⟨i1,i2,i3⟩:=padds_ok13 (q.L.zip q.C) P h.once hf.once
 rw [put_is13 hd] at hrt ⊢
 refine ⟨⟨hrt,i1,fun x=>?_,?_⟩,ht2⟩
 ·
  show mp12 (puts13 s.S (q.L.zip q.C)).B x=_
  rw [hp.mp,h.mp,i2]
  cases h1:lk13 (q.L.zip q.C) x with
  | none=>rw [Option.or_none];rfl
  | some c =>
   cases h2:lk13 P x with
   | none=>rfl
   | some d =>
    have:=ht2 (x,c) ((lk_mem13 hf.once).1 h1) d h2
    show some c=some d
    rw [this]
 ·
  show (puts13 s.S (q.L.zip q.C)).many=_
  rw [hp.many,i3,h.many]
  have:more13 s.S.B ((q.L.zip q.C).map Prod.fst)=(q.L.zip q.C).countP (fun q=>decide (lk13 P q.1=none)):=by
   rw [more13,List.countP_map]
   exact List.countP_congr fun p _=>by
    show decide (mp12 s.S.B p.1=none)=true↔_
    rw [h.mp]
  rw [this]
  omega
theorem Kp13.del (h:Kp13 s P) (hq:right11 q=true) (e:q.k=3):Kp13 (do13 s q).1 (q.L.foldl pdel13 P)∧(do13 s q).2.many=(q.L.countP (fun l=>(lk13 P l).isSome):Nat):=by
 have hr:=Rq13.of hq
 have hs:=right_iff13.2 h.rt
 have hrt:=do_rt13 h.rt q
 have hd:=dels_ok13 q.L s.S h.rt.rt hr.once
 obtain ⟨i1,i2,i3,i4⟩:=pdels_ok13 q.L P h.once hr.once
 have hh:has13 s.S.B q.L=q.L.countP (fun l=>(lk13 P l).isSome):=by
  rw [has13]
  exact List.countP_congr fun l _=>by rw [h.mp]
 rw [do_del13 hs hq e] at hrt ⊢
 refine ⟨⟨hrt,i1,fun x=>?_,?_⟩,by show ((has13 s.S.B q.L:Nat):Int)=_;rw [hh]⟩
 ·
  show mp12 (dels13 s.S q.L).B x=_
  by_cases hx:x ∈ q.L
  · rw [hd.out x hx,i2 x hx]
  · rw [hd.mp x hx,i3 x hx,h.mp]
 ·
  show (dels13 s.S q.L).many=_
  have:=hd.many
  have:=h.many
  omega
theorem Kp13.get (h:Kp13 s P) (l:ByteArray):get13 s.S.B l=(lk13 P l).getD ⟨#[]⟩:=by rw [get13,h.mp]
end
end Go.Proofs.YtmggbbmpckcleaaGreat
