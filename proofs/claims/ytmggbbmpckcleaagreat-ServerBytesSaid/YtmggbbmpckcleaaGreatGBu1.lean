import Derived.Test.YtmggbbmpckcleaaGreatGCo1
set_option maxRecDepth 100000
set_option maxHeartbeats 16000000
namespace Go.Proofs.YtmggbbmpckcleaaGreat
open Go.RowKit
structure Bkt12 where
 st:Int
 l:ByteArray
 c:ByteArray
def fre12:Bkt12:=⟨0,⟨#[]⟩,⟨#[]⟩⟩
def gon12:Bkt12:=⟨2,⟨#[]⟩,⟨#[]⟩⟩
def at12 (B:List Bkt12) (i:Nat):Bkt12:=B.getD i fre12
def hom12 (l:ByteArray) (n:Nat):Nat:=if l.size < 4 then 0 else rd10 l 0 % n
theorem hom_lt12 (l:ByteArray) {n:Nat} (h:0 < n):hom12 l n < n:=by
 unfold hom12
 split
 · exact h
 · exact Nat.mod_lt _ h
def way12 (h n i:Nat):Nat:=(h + i) % n
theorem way_lt12 (h i:Nat) {n:Nat} (hn:0 < n):way12 h n i < n:=Nat.mod_lt _ hn
theorem way_inj12 {h n i j:Nat} (hh:h < n) (hi:i < n) (hj:j < n) (e:way12 h n i=way12 h n j):i=j:=by
 unfold way12 at e
 by_cases h1:h + i < n <;> by_cases h2:h + j < n
 · rw [Nat.mod_eq_of_lt h1,Nat.mod_eq_of_lt h2] at e;omega
 · rw [Nat.mod_eq_of_lt h1,Nat.mod_eq_sub_mod (by omega),Nat.mod_eq_of_lt (by omega)] at e;omega
 · rw [Nat.mod_eq_of_lt h2,Nat.mod_eq_sub_mod (by omega),Nat.mod_eq_of_lt (by omega)] at e;omega
 · rw [Nat.mod_eq_sub_mod (by omega),Nat.mod_eq_of_lt (by omega),Nat.mod_eq_sub_mod (by omega:h + j ≥ n),Nat.mod_eq_of_lt (by omega)] at e;omega
theorem way_all12 {h n k:Nat} (hh:h < n) (hk:k < n):∃ i,i < n∧way12 h n i=k:=by
 by_cases hc:h≤k
 · exact ⟨k - h,by omega,by rw [way12,show h + (k - h)=k by omega,Nat.mod_eq_of_lt hk]⟩
 · exact ⟨k + n - h,by omega,by rw [way12,show h + (k + n - h)=k + n by omega,Nat.add_mod_right,Nat.mod_eq_of_lt hk]⟩
def hit12 (l:ByteArray) (b:Bkt12):Bool:=decide (b.st=1) && decide (b.l=l)
def end12 (l:ByteArray) (b:Bkt12):Bool:=hit12 l b || decide (b.st=0)
def open12 (l:ByteArray) (b:Bkt12):Bool:=hit12 l b || decide (b.st≠1)
theorem hit_iff12 {l:ByteArray} {b:Bkt12}:hit12 l b=true↔b.st=1∧b.l=l:=by simp [hit12]
def fst12 (f:Bkt12→Bool) (B:List Bkt12) (h:Nat):Option Nat:=(List.range B.length).find? (fun i=>f (at12 B (way12 h B.length i)))
theorem find_range12 {p:Nat→Bool} {n i:Nat}:(List.range n).find? p=some i↔i < n∧p i=true∧∀ j,j < i→p j=false:=by
 rw [List.find?_range_eq_some]
 simp only [List.mem_range,Bool.not_eq_true']
 exact ⟨fun ⟨a,b,c⟩=>⟨b,a,c⟩,fun ⟨a,b,c⟩=>⟨b,a,c⟩⟩
theorem fst_some12 {f:Bkt12→Bool} {B:List Bkt12} {h i:Nat}:fst12 f B h=some i↔i < B.length∧f (at12 B (way12 h B.length i))=true∧∀ j,j < i→f (at12 B (way12 h B.length j))=false:=find_range12
theorem fst_none12 {f:Bkt12→Bool} {B:List Bkt12} {h:Nat}:fst12 f B h=none↔∀ i,i < B.length→f (at12 B (way12 h B.length i))=false:=by
 rw [fst12,List.find?_eq_none]
 simp
def plc12 (B:List Bkt12) (l:ByteArray):Option Nat :=
 match fst12 (end12 l) B (hom12 l B.length) with
 | some i=>if hit12 l (at12 B (way12 (hom12 l B.length) B.length i)) then some (way12 (hom12 l B.length) B.length i) else none
 | none=>none
def gap12 (B:List Bkt12) (l:ByteArray):Option Nat :=
 match fst12 (open12 l) B (hom12 l B.length) with
 | some i=>if hit12 l (at12 B (way12 (hom12 l B.length) B.length i)) then none else some (way12 (hom12 l B.length) B.length i)
 | none=>none
theorem plc_iff12 {B:List Bkt12} {l:ByteArray} {k:Nat}:plc12 B l=some k↔∃ i,i < B.length∧way12 (hom12 l B.length) B.length i=k∧hit12 l (at12 B k)=true∧∀ j,j < i→end12 l (at12 B (way12 (hom12 l B.length) B.length j))=false:=by
 unfold plc12
 constructor
 ·
  intro h
  split at h
  ·
   rename_i i hi
   obtain ⟨h1,h2,h3⟩:=fst_some12.1 hi
   split at h
   ·
    rename_i hh
    cases h
    exact ⟨i,h1,rfl,hh,h3⟩
   · cases h
  · cases h
 ·
  rintro ⟨i,h1,rfl,h2,h3⟩
  rw [fst_some12.2 ⟨h1,by rw [end12,h2,Bool.true_or],h3⟩]
  show (if hit12 l (at12 B (way12 (hom12 l B.length) B.length i))=true then _ else _)=_
  rw [if_pos h2]
theorem gap_iff12 {B:List Bkt12} {l:ByteArray} {k:Nat}:gap12 B l=some k↔∃ i,i < B.length∧way12 (hom12 l B.length) B.length i=k∧(at12 B k).st≠1∧∀ j,j < i→open12 l (at12 B (way12 (hom12 l B.length) B.length j))=false:=by
 unfold gap12
 constructor
 ·
  intro h
  split at h
  ·
   rename_i i hi
   obtain ⟨h1,h2,h3⟩:=fst_some12.1 hi
   split at h
   · cases h
   ·
    rename_i hh
    cases h
    refine ⟨i,h1,rfl,?_,h3⟩
    rw [open12,Bool.or_eq_true,decide_eq_true_eq] at h2
    rcases h2 with h2 | h2
    · exact absurd h2 hh
    · exact h2
  · cases h
 ·
  rintro ⟨i,h1,rfl,h2,h3⟩
  have hh:¬ hit12 l (at12 B (way12 (hom12 l B.length) B.length i))=true:=fun e=>h2 (hit_iff12.1 e).1
  rw [fst_some12.2 ⟨h1,by rw [open12,decide_eq_true h2,Bool.or_true],h3⟩]
  show (if hit12 l (at12 B (way12 (hom12 l B.length) B.length i))=true then _ else _)=_
  rw [if_neg hh]
theorem plc_lt12 {B:List Bkt12} {l:ByteArray} {k:Nat} (h:plc12 B l=some k):k < B.length∧(at12 B k).st=1∧(at12 B k).l=l:=by
 obtain ⟨i,h1,h2,h3,_⟩:=plc_iff12.1 h
 exact ⟨by rw [← h2];exact way_lt12 _ _ (by omega),hit_iff12.1 h3⟩
theorem gap_lt12 {B:List Bkt12} {l:ByteArray} {k:Nat} (h:gap12 B l=some k):k < B.length∧(at12 B k).st≠1:=by
 obtain ⟨i,h1,h2,h3,_⟩:=gap_iff12.1 h
 exact ⟨by rw [← h2];exact way_lt12 _ _ (by omega),h3⟩
theorem at_set12 {B:List Bkt12} {k:Nat} {b:Bkt12} (hk:k < B.length):at12 (B.set k b) k=b:=by
 rw [at12,List.getD_eq_getElem?_getD,List.getElem?_set_self hk];rfl
theorem at_other12 {B:List Bkt12} {k i:Nat} {b:Bkt12} (h:k≠i):at12 (B.set k b) i=at12 B i:=by
 rw [at12,at12,List.getD_eq_getElem?_getD,List.getD_eq_getElem?_getD,List.getElem?_set_ne h]
def okB12 (B:List Bkt12) (i:Nat):Bool :=
 if (at12 B i).st=1 then decide ((at12 B i).l.size=16) && (decide ((at12 B i).c.size=40) && decide (plc12 B (at12 B i).l=some i))
 else (decide ((at12 B i).st=0) || decide ((at12 B i).st=2)) && (decide ((at12 B i).l=⟨#[]⟩) && decide ((at12 B i).c=⟨#[]⟩))
structure Ok12 (B:List Bkt12):Prop where
 used:∀ i,i < B.length→(at12 B i).st=1→(at12 B i).l.size=16∧(at12 B i).c.size=40∧plc12 B (at12 B i).l=some i
 not:∀ i,i < B.length→(at12 B i).st≠1→((at12 B i).st=0∨(at12 B i).st=2)∧(at12 B i).l=⟨#[]⟩∧(at12 B i).c=⟨#[]⟩
theorem ok_iff12 {B:List Bkt12}:(∀ i,i < B.length→okB12 B i=true)↔Ok12 B:=by
 constructor
 ·
  intro h
  refine ⟨fun i hi hs=>?_,fun i hi hs=>?_⟩
  ·
   have:=h i hi
   rw [okB12,if_pos hs] at this
   simpa using this
  ·
   have:=h i hi
   rw [okB12,if_neg hs] at this
   simpa using this
 ·
  intro h i hi
  by_cases hs:(at12 B i).st=1
  ·
   have:=h.used i hi hs
   rw [okB12,if_pos hs]
   simpa using this
  ·
   have:=h.not i hi hs
   rw [okB12,if_neg hs]
   simpa using this
section
variable {B:List Bkt12} {l c:ByteArray} {k:Nat}
theorem Ok12.find (h:Ok12 B) {i:Nat} (hi:i < B.length) (h1:(at12 B i).st=1) (h2:(at12 B i).l=l):plc12 B l=some i:=by
 rw [← h2]
 exact (h.used i hi h1).2.2
theorem Ok12.nowhere (h:Ok12 B) (hl:plc12 B l=none) {i:Nat} (hi:i < B.length) (h1:(at12 B i).st=1):(at12 B i).l≠l:=fun e=>by
 rw [h.find hi h1 e] at hl
 cases hl
theorem Ok12.set (h:Ok12 B) (hl:plc12 B l=none) (hg:gap12 B l=some k) (hs:l.size=16) (hc:c.size=40):Ok12 (B.set k ⟨1,l,c⟩)∧plc12 (B.set k ⟨1,l,c⟩) l=some k:=by
 obtain ⟨d,hd,hdk,hst,hbe⟩:=gap_iff12.1 hg
 have hkl:=(gap_lt12 hg).1
 have hn:0 < B.length:=by omega
 have hlen:(B.set k ⟨1,l,c⟩).length=B.length:=List.length_set
 have hself:plc12 (B.set k ⟨1,l,c⟩) l=some k:=by
  rw [plc_iff12,hlen]
  refine ⟨d,hd,hdk,by rw [at_set12 hkl];exact hit_iff12.2 ⟨rfl,rfl⟩,fun j hj=>?_⟩
  have hne:k≠way12 (hom12 l B.length) B.length j:=fun e=>by
   have:=way_inj12 (hom_lt12 l hn) (by omega:j < B.length) hd (e.symm.trans hdk.symm)
   omega
  rw [at_other12 hne]
  have:=hbe j hj
  rw [open12,Bool.or_eq_false_iff,decide_eq_false_iff_not] at this
  have h1:(at12 B (way12 (hom12 l B.length) B.length j)).st=1:=Decidable.of_not_not this.2
  rw [end12,this.1,Bool.false_or,decide_eq_false (by omega)]
 refine ⟨⟨fun i hi h1=>?_,fun i hi h1=>?_⟩,hself⟩
 ·
  rw [hlen] at hi
  by_cases hik:k=i
  ·
   subst hik
   rw [at_set12 hkl]
   exact ⟨hs,hc,hself⟩
  ·
   rw [at_other12 hik] at h1 ⊢
   obtain ⟨u1,u2,u3⟩:=h.used i hi h1
   have hll:=h.nowhere hl hi h1
   refine ⟨u1,u2,?_⟩
   obtain ⟨e,he,hei,hhit,hb⟩:=plc_iff12.1 u3
   rw [plc_iff12,hlen]
   refine ⟨e,he,hei,by rw [at_other12 hik];exact hhit,fun j hj=>?_⟩
   by_cases hjk:k=way12 (hom12 (at12 B i).l B.length) B.length j
   ·
    rw [← hjk,at_set12 hkl,end12]
    simp [hit12,hll.symm]
   ·
    rw [at_other12 hjk]
    exact hb j hj
 ·
  rw [hlen] at hi
  by_cases hik:k=i
  ·
   subst hik
   rw [at_set12 hkl] at h1
   exact absurd rfl h1
  ·
   rw [at_other12 hik] at h1 ⊢
   exact h.not i hi h1
theorem Ok12.del (h:Ok12 B) (hl:plc12 B l=some k):Ok12 (B.set k gon12)∧plc12 (B.set k gon12) l=none:=by
 obtain ⟨hk,h1,h2⟩:=plc_lt12 hl
 have hlen:(B.set k gon12).length=B.length:=List.length_set
 have hoth:∀ i,i < B.length→(at12 B i).st=1→k≠i→(at12 B i).l≠l:=fun i hi hs hik e=>by
  have:=h.find hi hs e
  rw [hl] at this
  exact hik (Option.some.inj this)
 refine ⟨⟨fun i hi hs=>?_,fun i hi hs=>?_⟩,?_⟩
 ·
  rw [hlen] at hi
  by_cases hik:k=i
  ·
   subst hik
   rw [at_set12 hk] at hs
   exact absurd hs (by decide)
  ·
   rw [at_other12 hik] at hs ⊢
   obtain ⟨u1,u2,u3⟩:=h.used i hi hs
   refine ⟨u1,u2,?_⟩
   obtain ⟨e,he,hei,hhit,hb⟩:=plc_iff12.1 u3
   rw [plc_iff12,hlen]
   refine ⟨e,he,hei,by rw [at_other12 hik];exact hhit,fun j hj=>?_⟩
   by_cases hjk:k=way12 (hom12 (at12 B i).l B.length) B.length j
   ·
    rw [← hjk,at_set12 hk]
    rfl
   ·
    rw [at_other12 hjk]
    exact hb j hj
 ·
  rw [hlen] at hi
  by_cases hik:k=i
  ·
   subst hik
   rw [at_set12 hk]
   exact ⟨.inr rfl,rfl,rfl⟩
  ·
   rw [at_other12 hik] at hs ⊢
   exact h.not i hi hs
 ·
  cases hq:plc12 (B.set k gon12) l with
  | none=>rfl
  | some i =>
   obtain ⟨q1,q2,q3⟩:=plc_lt12 hq
   rw [hlen] at q1
   by_cases hik:k=i
   ·
    subst hik
    rw [at_set12 hk] at q2
    exact absurd q2 (by decide)
   ·
    rw [at_other12 hik] at q2 q3
    exact absurd q3 (hoth i q1 q2 hik)
theorem Ok12.over (h:Ok12 B) (hl:plc12 B l=some k) (hc:c.size=40):Ok12 (B.set k ⟨1,l,c⟩)∧plc12 (B.set k ⟨1,l,c⟩) l=some k:=by
 obtain ⟨hk,h1,h2⟩:=plc_lt12 hl
 have hlen:(B.set k ⟨1,l,c⟩).length=B.length:=List.length_set
 have hst:∀ i,(at12 (B.set k ⟨1,l,c⟩) i).st=(at12 B i).st∧(at12 (B.set k ⟨1,l,c⟩) i).l=(at12 B i).l:=fun i=>by
  by_cases hik:k=i
  · subst hik;rw [at_set12 hk,h1,h2];exact ⟨rfl,rfl⟩
  · rw [at_other12 hik];exact ⟨rfl,rfl⟩
 have hend:∀ x i,end12 x (at12 (B.set k ⟨1,l,c⟩) i)=end12 x (at12 B i)∧hit12 x (at12 (B.set k ⟨1,l,c⟩) i)=hit12 x (at12 B i):=fun x i=>by
  rw [end12,end12,hit12,hit12,(hst i).1,(hst i).2];exact ⟨rfl,rfl⟩
 have hplc:∀ x i,plc12 B x=some i→plc12 (B.set k ⟨1,l,c⟩) x=some i:=fun x i hx=>by
  obtain ⟨e,he,hei,hhit,hb⟩:=plc_iff12.1 hx
  rw [plc_iff12,hlen]
  exact ⟨e,he,hei,by rw [(hend x i).2];exact hhit,fun j hj=>by rw [(hend x _).1];exact hb j hj⟩
 refine ⟨⟨fun i hi hs=>?_,fun i hi hs=>?_⟩,hplc l k hl⟩
 ·
  rw [hlen] at hi
  rw [(hst i).1] at hs
  obtain ⟨u1,u2,u3⟩:=h.used i hi hs
  rw [(hst i).2]
  refine ⟨u1,?_,hplc _ _ u3⟩
  by_cases hik:k=i
  · subst hik;rw [at_set12 hk];exact hc
  · rw [at_other12 hik];exact u2
 ·
  rw [hlen] at hi
  have hik:k≠i:=fun e=>by subst e;rw [at_set12 hk] at hs;exact hs rfl
  rw [at_other12 hik] at hs ⊢
  exact h.not i hi hs
end
def mp12 (B:List Bkt12) (l:ByteArray):Option ByteArray:=(plc12 B l).map fun k=>(at12 B k).c
theorem mp_iff12 {B:List Bkt12} (h:Ok12 B) {l c:ByteArray}:mp12 B l=some c↔∃ i,i < B.length∧at12 B i=⟨1,l,c⟩:=by
 constructor
 ·
  intro hm
  rw [mp12,Option.map_eq_some_iff] at hm
  obtain ⟨k,hk,hc⟩:=hm
  obtain ⟨h1,h2,h3⟩:=plc_lt12 hk
  refine ⟨k,h1,?_⟩
  rcases hb:at12 B k with ⟨a,b,d⟩
  rw [hb] at h2 h3 hc
  subst h2 h3 hc
  rfl
 ·
  rintro ⟨i,hi,hb⟩
  have:=h.find (l:=l) hi (by rw [hb]) (by rw [hb])
  rw [mp12,this,Option.map_some,hb]
theorem mp_none12 {B:List Bkt12} {l:ByteArray}:mp12 B l=none↔plc12 B l=none:=by rw [mp12,Option.map_eq_none_iff]
section
variable {B:List Bkt12} {l c:ByteArray} {k:Nat}
theorem mp_other12 (h:Ok12 B) {b:Bkt12} (h':Ok12 (B.set k b)) (hk:k < B.length) {x:ByteArray} (h1:∀ y,at12 B k≠⟨1,x,y⟩) (h2:∀ y,b≠⟨1,x,y⟩):mp12 (B.set k b) x=mp12 B x:=by
 have hlen:(B.set k b).length=B.length:=List.length_set
 have e:∀ y,mp12 (B.set k b) x=some y↔mp12 B x=some y:=fun y=>by
  rw [mp_iff12 h,mp_iff12 h',hlen]
  constructor
  ·
   rintro ⟨i,hi,hb⟩
   by_cases hik:k=i
   · subst hik;rw [at_set12 hk] at hb;exact absurd hb (h2 y)
   · rw [at_other12 hik] at hb;exact ⟨i,hi,hb⟩
  ·
   rintro ⟨i,hi,hb⟩
   have hik:k≠i:=fun e=>by subst e;exact h1 y hb
   exact ⟨i,hi,by rw [at_other12 hik];exact hb⟩
 cases h3:mp12 B x with
 | some y=>exact (e y).2 h3
 | none =>
  cases h4:mp12 (B.set k b) x with
  | none=>rfl
  | some y=>rw [(e y).1 h4] at h3;cases h3
theorem Ok12.mp_set (h:Ok12 B) (hl:plc12 B l=none) (hg:gap12 B l=some k) (hs:l.size=16) (hc:c.size=40) (x:ByteArray):mp12 (B.set k ⟨1,l,c⟩) x=if x=l then some c else mp12 B x:=by
 obtain ⟨h',hp⟩:=h.set hl hg hs hc
 obtain ⟨hk,hst⟩:=gap_lt12 hg
 by_cases hx:x=l
 · rw [if_pos hx,hx,mp12,hp,Option.map_some,at_set12 hk]
 ·
  rw [if_neg hx]
  exact mp_other12 h h' hk (fun y e=>hst (by rw [e])) (fun y e=>hx (Bkt12.mk.inj e).2.1.symm)
theorem Ok12.mp_del (h:Ok12 B) (hl:plc12 B l=some k) (x:ByteArray):mp12 (B.set k gon12) x=if x=l then none else mp12 B x:=by
 obtain ⟨h',hp⟩:=h.del hl
 obtain ⟨hk,_,h2⟩:=plc_lt12 hl
 by_cases hx:x=l
 · rw [if_pos hx,hx,mp12,hp];rfl
 ·
  rw [if_neg hx]
  exact mp_other12 h h' hk (fun y e=>hx (by rw [← h2,e])) (fun y e=>absurd (Bkt12.mk.inj e).1 (by decide))
theorem Ok12.mp_over (h:Ok12 B) (hl:plc12 B l=some k) (hc:c.size=40) (x:ByteArray):mp12 (B.set k ⟨1,l,c⟩) x=if x=l then some c else mp12 B x:=by
 obtain ⟨h',hp⟩:=h.over hl hc
 obtain ⟨hk,_,h2⟩:=plc_lt12 hl
 by_cases hx:x=l
 · rw [if_pos hx,hx,mp12,hp,Option.map_some,at_set12 hk]
 ·
  rw [if_neg hx]
  exact mp_other12 h h' hk (fun y e=>hx (by rw [← h2,e])) (fun y e=>hx (Bkt12.mk.inj e).2.1.symm)
end
def cnt12 (B:List Bkt12) (s:Int):Nat:=B.countP fun b=>decide (b.st=s)
theorem cnt_set12 {B:List Bkt12} {k:Nat} (hk:k < B.length) (b:Bkt12) (s:Int):cnt12 (B.set k b) s + (if (at12 B k).st=s then 1 else 0)=cnt12 B s + (if b.st=s then 1 else 0):=by
 induction B generalizing k with
 | nil=>exact absurd hk (Nat.not_lt_zero _)
 | cons a r ih =>
  cases k with
  | zero =>
   show cnt12 (b :: r) s + (if a.st=s then 1 else 0)=cnt12 (a :: r) s + _
   rw [cnt12,cnt12,List.countP_cons,List.countP_cons]
   simp only [decide_eq_true_eq]
   omega
  | succ k =>
   have:=ih (k:=k) (by simpa using hk)
   show cnt12 (a :: r.set k b) s + (if (at12 r k).st=s then 1 else 0)=cnt12 (a :: r) s + _
   rw [cnt12,cnt12,List.countP_cons,List.countP_cons]
   rw [cnt12,cnt12] at this
   omega
theorem cnt_all12 {B:List Bkt12} (h:∀ i,i < B.length→(at12 B i).st=0∨(at12 B i).st=1∨(at12 B i).st=2):cnt12 B 0 + cnt12 B 1 + cnt12 B 2=B.length:=by
 induction B with
 | nil=>rfl
 | cons a r ih =>
  have ha:=h 0 (by simp)
  have hr:=ih fun i hi=>h (i + 1) (by simpa using hi)
  have ha2:a.st=0∨a.st=1∨a.st=2:=ha
  simp only [cnt12,List.countP_cons,decide_eq_true_eq,List.length_cons] at hr ⊢
  rcases ha2 with e | e | e <;> simp [e] <;> omega
theorem cnt_pos12 {B:List Bkt12} {s:Int} (h:0 < cnt12 B s):∃ i,i < B.length∧(at12 B i).st=s:=by
 rw [cnt12,List.countP_pos_iff] at h
 obtain ⟨b,hb,hs⟩:=h
 obtain ⟨i,hi⟩:=List.getElem?_of_mem hb
 refine ⟨i,(List.getElem?_eq_some_iff.1 hi).1,?_⟩
 rw [at12,List.getD_eq_getElem?_getD,hi]
 exact of_decide_eq_true hs
theorem Ok12.all {B:List Bkt12} (h:Ok12 B):cnt12 B 0 + cnt12 B 1 + cnt12 B 2=B.length:=cnt_all12 fun i hi=>by
 by_cases hs:(at12 B i).st=1
 · exact .inr (.inl hs)
 ·
  rcases (h.not i hi hs).1 with e | e
  · exact .inl e
  · exact .inr (.inr e)
theorem Ok12.gap {B:List Bkt12} (h:Ok12 B) {l:ByteArray} (hl:plc12 B l=none) (hr:cnt12 B 1 < B.length):∃ k,gap12 B l=some k:=by
 have ha:=h.all
 have hp:∃ i,i < B.length∧(at12 B i).st≠1:=by
  by_cases h0:0 < cnt12 B 0
  ·
   obtain ⟨i,hi,hs⟩:=cnt_pos12 h0
   exact ⟨i,hi,by omega⟩
  ·
   obtain ⟨i,hi,hs⟩:=cnt_pos12 (B:=B) (s:=2) (by omega)
   exact ⟨i,hi,by omega⟩
 obtain ⟨i,hi,hs⟩:=hp
 obtain ⟨d,hd,hdi⟩:=way_all12 (hom_lt12 l (by omega:0 < B.length)) hi
 cases hf:fst12 (open12 l) B (hom12 l B.length) with
 | none =>
  have:=fst_none12.1 hf d hd
  rw [hdi,open12,decide_eq_true hs,Bool.or_true] at this
  cases this
 | some j =>
  obtain ⟨j1,j2,j3⟩:=fst_some12.1 hf
  have hlt:=way_lt12 (hom12 l B.length) j (by omega:0 < B.length)
  refine ⟨way12 (hom12 l B.length) B.length j,gap_iff12.2 ⟨j,j1,rfl,fun e=>?_,j3⟩⟩
  rw [open12,Bool.or_eq_true,decide_eq_true_eq] at j2
  rcases j2 with j2 | j2
  · exact h.nowhere hl hlt e (hit_iff12.1 j2).2
  · exact j2 e
end Go.Proofs.YtmggbbmpckcleaaGreat
namespace Go.Proofs.YtmggbbmpckcleaaGreat
open Go.RowKit
def sizes12:List Int:=[8,16,32,64,128,256,512,1024,2048,4096]
def size12 (n:Int):Bool:=decide (n ∈ sizes12)
theorem size_bd12 {n:Int} (h:size12 n=true):8≤n∧n≤4096:=by
 have h:=of_decide_eq_true h
 simp only [sizes12,List.mem_cons,List.not_mem_nil,or_false] at h
 omega
theorem size_two12 {n:Int} (h:size12 n=true) (h2:2 * n≤4096):size12 (2 * n)=true:=by
 have h:=of_decide_eq_true h
 simp only [sizes12,List.mem_cons,List.not_mem_nil,or_false] at h
 refine decide_eq_true ?_
 simp only [sizes12,List.mem_cons,List.not_mem_nil,or_false]
 omega
structure Sto12 where
 B:List Bkt12
 many:Int
 gone:Int
def right12 (s:Sto12):Bool :=
 size12 (s.B.length:Int) && ((List.range s.B.length).all (okB12 s.B) && (decide ((cnt12 s.B 1:Int)=s.many) && (decide ((cnt12 s.B 2:Int)=s.gone) && decide (4 * (cnt12 s.B 1 + cnt12 s.B 2)≤3 * s.B.length))))
structure Rt12 (s:Sto12):Prop where
 size:size12 (s.B.length:Int)=true
 ok:Ok12 s.B
 many:(cnt12 s.B 1:Int)=s.many
 gone:(cnt12 s.B 2:Int)=s.gone
 room:4 * (cnt12 s.B 1 + cnt12 s.B 2)≤3 * s.B.length
theorem right_iff12 {s:Sto12}:right12 s=true↔Rt12 s:=by
 simp only [right12,Bool.and_eq_true,decide_eq_true_eq,List.all_eq_true,List.mem_range]
 constructor
 ·
  rintro ⟨h1,h2,h3,h4,h5⟩
  exact ⟨h1,ok_iff12.1 h2,h3,h4,h5⟩
 ·
  rintro ⟨h1,h2,h3,h4,h5⟩
  exact ⟨h1,ok_iff12.2 h2,h3,h4,h5⟩
def new12 (n:Nat):List Bkt12:=List.replicate n fre12
theorem new_len12 (n:Nat):(new12 n).length=n:=List.length_replicate
theorem new_at12 (n i:Nat):at12 (new12 n) i=fre12:=by
 rw [at12,new12,List.getD_eq_getElem?_getD,List.getElem?_replicate]
 split <;> rfl
theorem new_ok12 (n:Nat):Ok12 (new12 n):=⟨fun i _ h=>(by rw [new_at12] at h;exact absurd h (by decide)),fun i _ _=>(by rw [new_at12];exact ⟨.inl rfl,rfl,rfl⟩)⟩
theorem new_plc12 (n:Nat) (l:ByteArray):plc12 (new12 n) l=none:=by
 cases h:plc12 (new12 n) l with
 | none=>rfl
 | some k =>
  have:=(plc_lt12 h).2.1
  rw [new_at12] at this
  exact absurd this (by decide)
theorem new_cnt12 (n:Nat):cnt12 (new12 n) 1=0∧cnt12 (new12 n) 2=0:=by
 refine ⟨?_,?_⟩ <;> (rw [cnt12,new12,List.countP_eq_zero];intro b hb;rw [List.eq_of_mem_replicate hb];simp [fre12])
def set12 (B:List Bkt12) (l c:ByteArray):List Bkt12 :=
 match gap12 B l with
 | some k=>B.set k ⟨1,l,c⟩
 | none=>B
def us12 (B:List Bkt12):List Bkt12:=B.filter fun b=>decide (b.st=1)
def fold12 (B:List Bkt12) (L:List Bkt12):List Bkt12:=L.foldl (fun B b=>set12 B b.l b.c) B
def look12 (L:List Bkt12) (x:ByteArray):Option ByteArray:=(L.find? fun b=>decide (b.l=x)).map Bkt12.c
theorem us_len12 (B:List Bkt12):(us12 B).length=cnt12 B 1:=by rw [us12,cnt12,List.countP_eq_length_filter]
theorem us_mem12 {B:List Bkt12} {b:Bkt12}:b ∈ us12 B↔∃ i,i < B.length∧at12 B i=b∧b.st=1:=by
 rw [us12,List.mem_filter,decide_eq_true_eq]
 constructor
 ·
  rintro ⟨h1,h2⟩
  obtain ⟨i,hi⟩:=List.getElem?_of_mem h1
  exact ⟨i,(List.getElem?_eq_some_iff.1 hi).1,by rw [at12,List.getD_eq_getElem?_getD,hi];rfl,h2⟩
 ·
  rintro ⟨i,hi,h1,h2⟩
  refine ⟨?_,h2⟩
  rw [← h1,at12,List.getD_eq_getElem?_getD,List.getElem?_eq_getElem hi]
  exact List.getElem_mem hi
theorem at_get12 {B:List Bkt12} {i:Nat} (h:i < B.length):at12 B i=B[i]:=by rw [at12,List.getD_eq_getElem?_getD,List.getElem?_eq_getElem h];rfl
theorem us_once12 {B:List Bkt12} (h:Ok12 B):(us12 B).Pairwise fun a b=>a.l≠b.l:=by
 have hp:B.Pairwise fun a b=>a.st=1→b.st=1→a.l≠b.l:=by
  rw [List.pairwise_iff_getElem]
  intro i j hi hj hij h1 h2 e
  rw [← at_get12 hi] at h1 e
  rw [← at_get12 hj] at h2 e
  have e1:=h.find hi h1 rfl
  have e2:=h.find hj h2 rfl
  rw [e,e2] at e1
  have:=Option.some.inj e1
  omega
 rw [us12]
 refine (hp.filter _).imp_of_mem ?_
 intro a b ha hb hab
 exact hab (of_decide_eq_true (List.mem_filter.1 ha).2) (of_decide_eq_true (List.mem_filter.1 hb).2)
theorem look_iff12 {L:List Bkt12} (h:L.Pairwise fun a b=>a.l≠b.l) {x c:ByteArray}:look12 L x=some c↔∃ b,b ∈ L∧b.l=x∧b.c=c:=by
 induction L with
 | nil=>simp [look12]
 | cons a r ih =>
  rw [List.pairwise_cons] at h
  by_cases ha:a.l=x
  ·
   rw [look12,List.find?_cons_of_pos (by simpa using ha),Option.map_some]
   constructor
   ·
    intro e
    exact ⟨a,List.mem_cons_self,ha,Option.some.inj e⟩
   ·
    rintro ⟨b,hb,h1,h2⟩
    rcases List.mem_cons.1 hb with rfl | hb
    · rw [h2]
    · exact absurd (ha.trans h1.symm) (h.1 b hb)
  ·
   have e:look12 (a :: r) x=look12 r x:=by rw [look12,look12,List.find?_cons_of_neg (by simpa using ha)]
   rw [e,ih h.2]
   constructor
   ·
    rintro ⟨b,hb,h1,h2⟩
    exact ⟨b,List.mem_cons_of_mem _ hb,h1,h2⟩
   ·
    rintro ⟨b,hb,h1,h2⟩
    rcases List.mem_cons.1 hb with rfl | hb
    · exact absurd h1 ha
    · exact ⟨b,hb,h1,h2⟩
theorem mp_us12 {B:List Bkt12} (h:Ok12 B) (x:ByteArray):mp12 B x=look12 (us12 B) x:=by
 have e:∀ c,mp12 B x=some c↔look12 (us12 B) x=some c:=fun c=>by
  rw [mp_iff12 h,look_iff12 (us_once12 h)]
  constructor
  ·
   rintro ⟨i,hi,hb⟩
   exact ⟨at12 B i,us_mem12.2 ⟨i,hi,rfl,by rw [hb]⟩,by rw [hb],by rw [hb]⟩
  ·
   rintro ⟨b,hb,h1,h2⟩
   obtain ⟨i,hi,h3,h4⟩:=us_mem12.1 hb
   refine ⟨i,hi,?_⟩
   rw [h3]
   obtain ⟨s,l,d⟩:=b
   dsimp only at h1 h2 h4
   rw [h1,h2,h4]
 cases h1:look12 (us12 B) x with
 | some c=>exact (e c).2 h1
 | none =>
  cases h2:mp12 B x with
  | none=>rfl
  | some c=>rw [(e c).1 h2] at h1;cases h1
structure Fold12 (B B':List Bkt12) (L:List Bkt12):Prop where
 ok:Ok12 B'
 len:B'.length=B.length
 used:cnt12 B' 1=cnt12 B 1 + L.length
 gone:cnt12 B' 2=0
 mp:∀ x,mp12 B' x=(look12 L x).or (mp12 B x)
theorem fold_ok12:∀ (L B:List Bkt12),Ok12 B→cnt12 B 2=0→cnt12 B 1 + L.length≤B.length→(∀ b ∈ L,b.l.size=16∧b.c.size=40∧mp12 B b.l=none)→(L.Pairwise fun a b=>a.l≠b.l)→Fold12 B (fold12 B L) L
 | [],B,h,hg,_,_,_=>⟨h,rfl,rfl,hg,fun x=>rfl⟩
 | b :: r,B,h,hg,hr,hs,hp=>by
  rw [List.pairwise_cons] at hp
  obtain ⟨s1,s2,s3⟩:=hs b List.mem_cons_self
  have hn:=mp_none12.1 s3
  rw [List.length_cons] at hr
  obtain ⟨k,hk⟩:=h.gap hn (by omega)
  obtain ⟨hkl,hks⟩:=gap_lt12 hk
  have e:set12 B b.l b.c=B.set k ⟨1,b.l,b.c⟩:=by rw [set12,hk]
  obtain ⟨o1,_⟩:=h.set hn hk s1 s2
  have mpE:=h.mp_set hn hk s1 s2
  have c1:=cnt_set12 hkl ⟨1,b.l,b.c⟩ 1
  have c2:=cnt_set12 hkl ⟨1,b.l,b.c⟩ 2
  have c3:(at12 B k).st≠2:=fun e2=>by
   have:0 < cnt12 B 2:=by
    rw [cnt12,List.countP_pos_iff]
    exact ⟨at12 B k,by rw [at_get12 hkl];exact List.getElem_mem hkl,decide_eq_true e2⟩
   omega
  rw [if_neg hks,if_pos rfl] at c1
  rw [if_neg c3,if_neg (show ¬ (1:Int)=2 by decide)] at c2
  have hlen:(B.set k ⟨1,b.l,b.c⟩).length=B.length:=List.length_set
  have ih:=fold_ok12 r (B.set k ⟨1,b.l,b.c⟩) o1 (by omega) (by rw [hlen];omega) (fun x hx=>by
   obtain ⟨t1,t2,t3⟩:=hs x (List.mem_cons_of_mem _ hx)
   refine ⟨t1,t2,?_⟩
   rw [mpE,if_neg (fun e=>hp.1 x hx e.symm)]
   exact t3) hp.2
  have e2:fold12 B (b :: r)=fold12 (B.set k ⟨1,b.l,b.c⟩) r:=by rw [fold12,List.foldl_cons,e];rfl
  rw [e2]
  refine ⟨ih.ok,ih.len.trans hlen,by rw [ih.used,List.length_cons];omega,ih.gone,fun x=>?_⟩
  rw [ih.mp x,mpE x]
  by_cases hx:x=b.l
  ·
   have hr2:look12 r x=none:=by
    cases hh:look12 r x with
    | none=>rfl
    | some c =>
     obtain ⟨y,hy,h1,_⟩:=(look_iff12 hp.2).1 hh
     exact absurd (hx.symm.trans h1.symm) (hp.1 y hy)
   rw [if_pos hx,hr2,look12,List.find?_cons_of_pos (by simpa using hx.symm)]
   rfl
  ·
   rw [if_neg hx]
   congr 1
   rw [look12,look12,List.find?_cons_of_neg (by simpa using fun e=>hx e.symm)]
theorem re_ok12 {B:List Bkt12} (h:Ok12 B) {n:Nat} (hn:cnt12 B 1≤n):Fold12 (new12 n) (fold12 (new12 n) (us12 B)) (us12 B)∧∀ x,mp12 (fold12 (new12 n) (us12 B)) x=mp12 B x:=by
 have hf:=fold_ok12 (us12 B) (new12 n) (new_ok12 n) (new_cnt12 n).2 (by rw [(new_cnt12 n).1,us_len12,new_len12];omega) (fun b hb=>by
  obtain ⟨i,hi,h1,h2⟩:=us_mem12.1 hb
  rw [← h1] at h2 ⊢
  obtain ⟨u1,u2,_⟩:=h.used i hi h2
  exact ⟨u1,u2,mp_none12.2 (new_plc12 n _)⟩) (us_once12 h)
 refine ⟨hf,fun x=>?_⟩
 rw [hf.mp x,mp_us12 h,mp_none12.2 (new_plc12 n x)]
 cases look12 (us12 B) x <;> rfl
def getV12 (s:Sto12) (l:ByteArray):ByteArray × Bool:=if right12 s then (match mp12 s.B l with | some c=>(c,true) | none=>(⟨#[]⟩,false)) else (⟨#[]⟩,false)
def grow12 (s:Sto12):Int:=if (s.B.length:Int)≤2 * s.many then 2 * (s.B.length:Int) else (s.B.length:Int)
def putV12 (s:Sto12) (l c:ByteArray):Sto12 × Int :=
 if right12 s && (decide (l.size=16) && decide (c.size=40)) then
  (match plc12 s.B l with
  | some k=>(⟨s.B.set k ⟨1,l,c⟩,s.many,s.gone⟩,0)
  | none =>
   if 3 * (s.B.length:Int) < 4 * (s.many + s.gone + 1) then
    (if 4096 < grow12 s then (s,20) else (⟨set12 (fold12 (new12 (grow12 s).toNat) (us12 s.B)) l c,s.many + 1,0⟩,0))
   else (⟨set12 s.B l c,s.many + 1,if (match gap12 s.B l with | some k=>decide ((at12 s.B k).st=2) | none=>false) then s.gone - 1 else s.gone⟩,0))
 else (s,1)
def delV12 (s:Sto12) (l:ByteArray):Sto12 × Bool × Int :=
 if right12 s then
  (match plc12 s.B l with
  | some k=>(⟨s.B.set k gon12,s.many - 1,s.gone + 1⟩,true,0)
  | none=>(s,false,0))
 else (s,false,1)
section
variable {s:Sto12} {l c:ByteArray}
theorem put_ok12 (h:Rt12 s) (hl:l.size=16) (hc:c.size=40) (hg:mp12 s.B l=none→grow12 s≤4096∨4 * (s.many + s.gone + 1)≤3 * (s.B.length:Int)) :
  (putV12 s l c).2=0∧Rt12 (putV12 s l c).1∧(∀ x,mp12 (putV12 s l c).1.B x=if x=l then some c else mp12 s.B x)∧(putV12 s l c).1.many=(if mp12 s.B l=none then s.many + 1 else s.many):=by
 have hr:=right_iff12.2 h
 have e0:(right12 s && (decide (l.size=16) && decide (c.size=40)))=true:=by rw [hr,hl,hc];rfl
 have hm:=h.many
 have hgn:=h.gone
 have hroom:=h.room
 have hsz:=size_bd12 h.size
 cases hp:plc12 s.B l with
 | some k =>
  obtain ⟨hk,hst,hkl⟩:=plc_lt12 hp
  obtain ⟨o1,_⟩:=h.ok.over hp hc
  have hlen:(s.B.set k ⟨1,l,c⟩).length=s.B.length:=List.length_set
  have c1:=cnt_set12 hk ⟨1,l,c⟩ 1
  have c2:=cnt_set12 hk ⟨1,l,c⟩ 2
  rw [if_pos hst,if_pos rfl] at c1
  rw [if_neg (by omega),if_neg (show ¬ (1:Int)=2 by decide)] at c2
  have e:putV12 s l c=(⟨s.B.set k ⟨1,l,c⟩,s.many,s.gone⟩,0):=by rw [putV12,if_pos e0,hp]
  have hmp:¬ mp12 s.B l=none:=fun e=>by rw [mp_none12.1 e] at hp;cases hp
  rw [e,if_neg hmp]
  exact ⟨rfl,⟨by show size12 ((s.B.set k ⟨1,l,c⟩).length:Int)=true;rw [hlen];exact h.size,o1,by show (cnt12 (s.B.set k ⟨1,l,c⟩) 1:Int)=s.many;omega,by show (cnt12 (s.B.set k ⟨1,l,c⟩) 2:Int)=s.gone;omega,by show 4 * (cnt12 (s.B.set k ⟨1,l,c⟩) 1 + cnt12 (s.B.set k ⟨1,l,c⟩) 2)≤3 * (s.B.set k ⟨1,l,c⟩).length;omega⟩,h.ok.mp_over hp hc,rfl⟩
 | none =>
  have hmp:=mp_none12.2 hp
  rw [if_pos hmp]
  by_cases hful:3 * (s.B.length:Int) < 4 * (s.many + s.gone + 1)
  ·
   have hgr:grow12 s≤4096:=by rcases hg hmp with h1 | h1 <;> omega
   have hsg:size12 (grow12 s)=true∧4 * (s.many + 1)≤3 * grow12 s:=by
    unfold grow12 at hgr ⊢
    split at hgr
    ·
     rename_i h2
     rw [if_pos h2]
     exact ⟨size_two12 h.size hgr,by omega⟩
    ·
     rename_i h2
     rw [if_neg h2]
     exact ⟨h.size,by omega⟩
   have hbd:=size_bd12 hsg.1
   obtain ⟨hf,hfm⟩:=re_ok12 h.ok (n:=(grow12 s).toNat) (by omega)
   have hlen1:(fold12 (new12 (grow12 s).toNat) (us12 s.B)).length=(grow12 s).toNat:=hf.len.trans (new_len12 _)
   have hus:cnt12 (fold12 (new12 (grow12 s).toNat) (us12 s.B)) 1=cnt12 s.B 1:=by rw [hf.used,(new_cnt12 _).1,us_len12,Nat.zero_add]
   have hgo:=hf.gone
   have hok:=hf.ok
   have hnone:plc12 (fold12 (new12 (grow12 s).toNat) (us12 s.B)) l=none:=mp_none12.1 ((hfm l).trans hmp)
   have e:putV12 s l c=(⟨set12 (fold12 (new12 (grow12 s).toNat) (us12 s.B)) l c,s.many + 1,0⟩,0):=by rw [putV12,if_pos e0,hp];show (if _ then _ else _)=_;rw [if_pos hful,if_neg (by omega)]
   rw [e]
   generalize fold12 (new12 (grow12 s).toNat) (us12 s.B)=N at *
   obtain ⟨k,hk⟩:=hok.gap hnone (by omega)
   obtain ⟨hkl,hks⟩:=gap_lt12 hk
   have hset:set12 N l c=N.set k ⟨1,l,c⟩:=by rw [set12,hk]
   obtain ⟨o1,_⟩:=hok.set hnone hk hl hc
   have hlen:(N.set k ⟨1,l,c⟩).length=N.length:=List.length_set
   have c1:=cnt_set12 hkl ⟨1,l,c⟩ 1
   have c2:=cnt_set12 hkl ⟨1,l,c⟩ 2
   have c3:(at12 N k).st≠2:=fun e2=>by
    have:0 < cnt12 N 2:=by
     rw [cnt12,List.countP_pos_iff]
     exact ⟨at12 N k,by rw [at_get12 hkl];exact List.getElem_mem hkl,decide_eq_true e2⟩
    omega
   rw [if_neg hks,if_pos rfl] at c1
   rw [if_neg c3,if_neg (show ¬ (1:Int)=2 by decide)] at c2
   rw [hset]
   refine ⟨rfl,⟨?_,o1,?_,?_,?_⟩,fun x=>?_,rfl⟩
   ·
    show size12 ((N.set k ⟨1,l,c⟩).length:Int)=true
    rw [hlen,hlen1,show (((grow12 s).toNat:Nat):Int)=grow12 s by omega]
    exact hsg.1
   · show (cnt12 (N.set k ⟨1,l,c⟩) 1:Int)=s.many + 1;omega
   · show (cnt12 (N.set k ⟨1,l,c⟩) 2:Int)=0;omega
   · show 4 * (cnt12 (N.set k ⟨1,l,c⟩) 1 + cnt12 (N.set k ⟨1,l,c⟩) 2)≤3 * (N.set k ⟨1,l,c⟩).length;omega
   ·
    show mp12 (N.set k ⟨1,l,c⟩) x=_
    rw [hok.mp_set hnone hk hl hc x,hfm x]
  ·
   obtain ⟨k,hk⟩:=h.ok.gap hp (by omega)
   obtain ⟨hkl,hks⟩:=gap_lt12 hk
   have hset:set12 s.B l c=s.B.set k ⟨1,l,c⟩:=by rw [set12,hk]
   obtain ⟨o1,_⟩:=h.ok.set hp hk hl hc
   have hlen:(s.B.set k ⟨1,l,c⟩).length=s.B.length:=List.length_set
   have c1:=cnt_set12 hkl ⟨1,l,c⟩ 1
   have c2:=cnt_set12 hkl ⟨1,l,c⟩ 2
   rw [if_neg hks,if_pos rfl] at c1
   rw [if_neg (show ¬ (1:Int)=2 by decide)] at c2
   have e:putV12 s l c=(⟨s.B.set k ⟨1,l,c⟩,s.many + 1,if decide ((at12 s.B k).st=2) then s.gone - 1 else s.gone⟩,0):=by rw [putV12,if_pos e0,hp];show (if _ then _ else _)=_;rw [if_neg hful,hk,hset]
   rw [e]
   refine ⟨rfl,⟨?_,o1,?_,?_,?_⟩,h.ok.mp_set hp hk hl hc,rfl⟩
   ·
    show size12 ((s.B.set k ⟨1,l,c⟩).length:Int)=true
    rw [hlen];exact h.size
   · show (cnt12 (s.B.set k ⟨1,l,c⟩) 1:Int)=s.many + 1;omega
   ·
    show (cnt12 (s.B.set k ⟨1,l,c⟩) 2:Int)=if decide ((at12 s.B k).st=2)=true then s.gone - 1 else s.gone
    by_cases h2:(at12 s.B k).st=2
    · rw [if_pos h2] at c2;rw [if_pos (decide_eq_true h2)];omega
    · rw [if_neg h2] at c2;rw [if_neg (by simpa using h2)];omega
   ·
    show 4 * (cnt12 (s.B.set k ⟨1,l,c⟩) 1 + cnt12 (s.B.set k ⟨1,l,c⟩) 2)≤3 * (s.B.set k ⟨1,l,c⟩).length
    by_cases h2:(at12 s.B k).st=2
    · rw [if_pos h2] at c2;omega
    · rw [if_neg h2] at c2;omega
theorem del_ok12 (h:Rt12 s):(delV12 s l).2.2=0∧Rt12 (delV12 s l).1∧(∀ x,mp12 (delV12 s l).1.B x=if x=l then none else mp12 s.B x)∧(delV12 s l).2.1=(mp12 s.B l).isSome∧(delV12 s l).1.many=(if (mp12 s.B l).isSome then s.many - 1 else s.many):=by
 have hr:=right_iff12.2 h
 have hm:=h.many
 have hgn:=h.gone
 have hroom:=h.room
 cases hp:plc12 s.B l with
 | some k =>
  obtain ⟨hk,hst,hkl⟩:=plc_lt12 hp
  obtain ⟨o1,_⟩:=h.ok.del hp
  have hlen:(s.B.set k gon12).length=s.B.length:=List.length_set
  have c1:=cnt_set12 hk gon12 1
  have c2:=cnt_set12 hk gon12 2
  rw [if_pos hst,if_neg (show ¬ gon12.st=1 by decide)] at c1
  rw [if_neg (by omega),if_pos (show gon12.st=2 from rfl)] at c2
  have e:delV12 s l=(⟨s.B.set k gon12,s.many - 1,s.gone + 1⟩,true,0):=by rw [delV12,if_pos hr,hp]
  have hmp:(mp12 s.B l).isSome=true:=by rw [mp12,hp];rfl
  rw [e,hmp]
  exact ⟨rfl,⟨by show size12 ((s.B.set k gon12).length:Int)=true;rw [hlen];exact h.size,o1,by show (cnt12 (s.B.set k gon12) 1:Int)=s.many - 1;omega,by show (cnt12 (s.B.set k gon12) 2:Int)=s.gone + 1;omega,by show 4 * (cnt12 (s.B.set k gon12) 1 + cnt12 (s.B.set k gon12) 2)≤3 * (s.B.set k gon12).length;omega⟩,h.ok.mp_del hp,rfl,rfl⟩
 | none =>
  have hmp:=mp_none12.2 hp
  have e:delV12 s l=(s,false,0):=by rw [delV12,if_pos hr,hp]
  rw [e,hmp]
  refine ⟨rfl,h,fun x=>?_,rfl,rfl⟩
  by_cases hx:x=l
  · rw [if_pos hx,hx];exact hmp
  · rw [if_neg hx]
theorem get_ok12 (h:Rt12 s) (l:ByteArray):getV12 s l=(match mp12 s.B l with | some c=>(c,true) | none=>(⟨#[]⟩,false)):=by rw [getV12,if_pos (right_iff12.2 h)]
end
end Go.Proofs.YtmggbbmpckcleaaGreat
namespace Go.Proofs.YtmggbbmpckcleaaGreat
open Go.RowKit
theorem less_trans12:∀ x y z:List UInt8,Op.bytesLess x y=true→Op.bytesLess y z=true→Op.bytesLess x z=true
 | _,[],z,h,_=>by cases ‹List UInt8› <;> exact absurd h (by simp [Op.bytesLess])
 | _,_ :: _,[],_,h=>by simp [Op.bytesLess] at h
 | [],_ :: _,_ :: _,_,_=>rfl
 | a :: x,b :: y,c :: z,h1,h2=>by
  rw [Op.bytesLess,Bool.or_eq_true,Bool.and_eq_true,decide_eq_true_eq,beq_iff_eq] at h1 h2 ⊢
  rcases h1 with h1 | ⟨rfl,h1⟩
  ·
   rcases h2 with h2 | ⟨rfl,h2⟩
   · exact .inl (UInt8.lt_trans h1 h2)
   · exact .inl h1
  ·
   rcases h2 with h2 | ⟨rfl,h2⟩
   · exact .inl h2
   · exact .inr ⟨rfl,less_trans12 x y z h1 h2⟩
theorem less_tot12:∀ x y:List UInt8,Op.bytesLess x y=false→Op.bytesLess y x=false→x=y
 | [],[],_,_=>rfl
 | [],_ :: _,h,_=>by simp [Op.bytesLess] at h
 | _ :: _,[],_,h=>by simp [Op.bytesLess] at h
 | a :: x,b :: y,h1,h2=>by
  rw [Op.bytesLess,Bool.or_eq_false_iff,decide_eq_false_iff_not] at h1 h2
  have hab:a=b:=by
   have e1:=h1.1
   have e2:=h2.1
   rw [UInt8.lt_iff_toNat_lt] at e1 e2
   exact UInt8.toNat_inj.1 (by omega)
  subst hab
  rw [beq_self_eq_true,Bool.true_and] at h1 h2
  rw [less_tot12 x y h1.2 h2.2]
def ls12 (x y:ByteArray):Bool:=Op.bytesLess x.toList y.toList
theorem ls_trans12 {x y z:ByteArray} (h1:ls12 x y=true) (h2:ls12 y z=true):ls12 x z=true:=less_trans12 _ _ _ h1 h2
theorem ls_tot12 {x y:ByteArray} (h:ls12 x y=false) (hn:x≠y):ls12 y x=true:=by
 cases h2:ls12 y x with
 | true=>rfl
 | false =>
  refine absurd ?_ hn
  have:=less_tot12 _ _ h h2
  rw [ByteArray.toList_eq,ByteArray.toList_eq] at this
  exact ByteArray.ext (Array.toList_inj.1 this)
def Srt12 (L:List (ByteArray × ByteArray)):Prop:=L.Pairwise fun a b=>ls12 a.1 b.1=true
def dwn12 (L:List (ByteArray × ByteArray)) (l:ByteArray):Nat→Nat
 | 0=>0
 | at' + 1=>if ls12 l (L.getD at' (⟨#[]⟩,⟨#[]⟩)).1 then dwn12 L l at' else at' + 1
theorem dwn_le12 (L:List (ByteArray × ByteArray)) (l:ByteArray):∀ a,dwn12 L l a≤a
 | 0=>Nat.le_refl _
 | a + 1=>by
  rw [dwn12]
  split
  · exact Nat.le_succ_of_le (dwn_le12 L l a)
  · exact Nat.le_refl _
theorem dwn_up12 (L:List (ByteArray × ByteArray)) (l:ByteArray):∀ a i,dwn12 L l a≤i→i < a→ls12 l (L.getD i (⟨#[]⟩,⟨#[]⟩)).1=true
 | 0,_,_,h=>absurd h (Nat.not_lt_zero _)
 | a + 1,i,h1,h2=>by
  rw [dwn12] at h1
  split at h1
  ·
   rename_i hh
   by_cases hi:i=a
   · subst hi;exact hh
   · exact dwn_up12 L l a i h1 (by omega)
  · omega
theorem dwn_stop12 (L:List (ByteArray × ByteArray)) (l:ByteArray):∀ a,0 < dwn12 L l a→ls12 l (L.getD (dwn12 L l a - 1) (⟨#[]⟩,⟨#[]⟩)).1=false
 | 0,h=>absurd h (Nat.lt_irrefl _)
 | a + 1,h=>by
  rw [dwn12] at h ⊢
  split
  ·
   rename_i hh
   rw [if_pos hh] at h
   exact dwn_stop12 L l a h
  ·
   rename_i hh
   exact Bool.not_eq_true _ ▸ hh
def ins12 (L:List (ByteArray × ByteArray)) (l c:ByteArray):List (ByteArray × ByteArray):=L.take (dwn12 L l L.length) ++ (l,c) :: L.drop (dwn12 L l L.length)
theorem ins_len12 (L:List (ByteArray × ByteArray)) (l c:ByteArray):(ins12 L l c).length=L.length + 1:=by
 have:=dwn_le12 L l L.length
 rw [ins12,List.length_append,List.length_cons,List.length_take,List.length_drop]
 omega
theorem ins_mem12 {L:List (ByteArray × ByteArray)} {l c:ByteArray} {p:ByteArray × ByteArray}:p ∈ ins12 L l c↔p=(l,c)∨p ∈ L:=by
 conv=>rhs;rw [← List.take_append_drop (dwn12 L l L.length) L]
 rw [ins12,List.mem_append,List.mem_cons,List.mem_append]
 constructor
 ·
  rintro (h | h | h)
  · exact .inr (.inl h)
  · exact .inl h
  · exact .inr (.inr h)
 ·
  rintro (h | h | h)
  · exact .inr (.inl h)
  · exact .inl h
  · exact .inr (.inr h)
theorem getD_get12 {L:List (ByteArray × ByteArray)} {i:Nat} (h:i < L.length):L.getD i (⟨#[]⟩,⟨#[]⟩)=L[i]:=by rw [List.getD_eq_getElem?_getD,List.getElem?_eq_getElem h];rfl
theorem ins_srt12 {L:List (ByteArray × ByteArray)} {l c:ByteArray} (h:Srt12 L) (hn:∀ p ∈ L,p.1≠l):Srt12 (ins12 L l c):=by
 have hle:=dwn_le12 L l L.length
 have hup:=dwn_up12 L l L.length
 have hst:=dwn_stop12 L l L.length
 rw [ins12]
 generalize dwn12 L l L.length=a at *
 have hpre:∀ p ∈ L.take a,ls12 p.1 l=true:=fun p hp=>by
  obtain ⟨i,hi,e⟩:=List.mem_iff_getElem.1 hp
  rw [List.length_take] at hi
  rw [List.getElem_take] at e
  have hil:i < L.length:=by omega
  have h0:0 < a:=by omega
  have hlast:=hst h0
  rw [getD_get12 (by omega:a - 1 < L.length)] at hlast
  have h1:=ls_tot12 hlast (fun e=>hn _ (List.getElem_mem (by omega:a - 1 < L.length)) e.symm)
  by_cases hia:i=a - 1
  · subst hia;rw [← e];exact h1
  ·
   have:=List.pairwise_iff_getElem.1 h i (a - 1) hil (by omega) (by omega)
   rw [← e]
   exact ls_trans12 this h1
 have hpost:∀ p ∈ L.drop a,ls12 l p.1=true:=fun p hp=>by
  obtain ⟨i,hi,e⟩:=List.mem_iff_getElem.1 hp
  rw [List.length_drop] at hi
  rw [List.getElem_drop] at e
  have:=hup (a + i) (by omega) (by omega)
  rw [getD_get12 (by omega:a + i < L.length),e] at this
  exact this
 rw [Srt12,List.pairwise_append,List.pairwise_cons]
 refine ⟨h.sublist (List.take_sublist _ _),⟨hpost,h.sublist (List.drop_sublist _ _)⟩,fun p hp q hq=>?_⟩
 rcases List.mem_cons.1 hq with rfl | hq
 · exact hpre p hp
 · exact ls_trans12 (hpre p hp) (hpost q hq)
def alls12 (L:List Bkt12):List (ByteArray × ByteArray):=L.foldl (fun o b=>ins12 o b.l b.c) []
def all12 (B:List Bkt12):List (ByteArray × ByteArray):=alls12 (us12 B)
theorem alls_ok12:∀ (L:List Bkt12) (o:List (ByteArray × ByteArray)),Srt12 o→(L.Pairwise fun a b=>a.l≠b.l)→(∀ b ∈ L,∀ p ∈ o,p.1≠b.l) →
  Srt12 (L.foldl (fun o b=>ins12 o b.l b.c) o)∧(L.foldl (fun o b=>ins12 o b.l b.c) o).length=o.length + L.length∧(∀ p,p ∈ L.foldl (fun o b=>ins12 o b.l b.c) o↔p ∈ o∨∃ b ∈ L,p=(b.l,b.c))
 | [],o,h,_,_=>⟨h,rfl,fun p=>by simp⟩
 | b :: r,o,h,hp,hn=>by
  rw [List.pairwise_cons] at hp
  obtain ⟨i1,i2,i3⟩:=alls_ok12 r (ins12 o b.l b.c) (ins_srt12 h (hn b List.mem_cons_self)) hp.2 (fun x hx p hpm=>by
   rcases ins_mem12.1 hpm with rfl | hpm
   · exact hp.1 x hx
   · exact hn x (List.mem_cons_of_mem _ hx) p hpm)
  rw [List.foldl_cons]
  refine ⟨i1,by rw [i2,ins_len12,List.length_cons];omega,fun p=>?_⟩
  rw [i3,ins_mem12]
  constructor
  ·
   rintro ((h | h) | ⟨x,hx,e⟩)
   · exact .inr ⟨b,List.mem_cons_self,h⟩
   · exact .inl h
   · exact .inr ⟨x,List.mem_cons_of_mem _ hx,e⟩
  ·
   rintro (h | ⟨x,hx,e⟩)
   · exact .inl (.inr h)
   ·
    rcases List.mem_cons.1 hx with rfl | hx
    · exact .inl (.inl e)
    · exact .inr ⟨x,hx,e⟩
theorem all_len12 {B:List Bkt12} (h:Ok12 B):(all12 B).length=cnt12 B 1:=by rw [← us_len12,all12,alls12,(alls_ok12 (us12 B) [] List.Pairwise.nil (us_once12 h) (fun _ _ p hp=>absurd hp (by simp))).2.1,List.length_nil,Nat.zero_add]
theorem all_mem12 {B:List Bkt12} (h:Ok12 B) {l c:ByteArray}:(l,c) ∈ all12 B↔mp12 B l=some c:=by
 have h3:=(alls_ok12 (us12 B) [] List.Pairwise.nil (us_once12 h) (fun _ _ p hp=>absurd hp (by simp))).2.2 (l,c)
 rw [all12,alls12,h3,mp_us12 h,look_iff12 (us_once12 h)]
 constructor
 ·
  rintro (h | ⟨b,hb,e⟩)
  · exact absurd h (by simp)
  · exact ⟨b,hb,(Prod.mk.inj e).1.symm,(Prod.mk.inj e).2.symm⟩
 ·
  rintro ⟨b,hb,e1,e2⟩
  exact .inr ⟨b,hb,by rw [e1,e2]⟩
theorem few12:∀ (n:Nat) (f:Nat→Nat),(∀ i,i≤n→f i < n)→∃ i j,i < j∧j≤n∧f i=f j
 | 0,f,h=>absurd (h 0 (Nat.le_refl _)) (Nat.not_lt_zero _)
 | n + 1,f,h=>by
  by_cases hc:∃ i,i < n + 1∧f i=f (n + 1)
  ·
   obtain ⟨i,hi,e⟩:=hc
   exact ⟨i,n + 1,hi,Nat.le_refl _,e⟩
  ·
   have hne:∀ i,i < n + 1→f i≠f (n + 1):=fun i hi e=>hc ⟨i,hi,e⟩
   have hl:=h (n + 1) (Nat.le_refl _)
   obtain ⟨i,j,hij,hj,e⟩:=few12 n (fun i=>if f (n + 1) < f i then f i - 1 else f i) (fun i hi=>by
    have:=h i (by omega)
    have:=hne i (by omega)
    show (if f (n + 1) < f i then f i - 1 else f i) < n
    split <;> omega)
   have n1:=hne i (by omega)
   have n2:=hne j (by omega)
   refine ⟨i,j,hij,by omega,?_⟩
   split at e <;> split at e <;> omega
def lab12 (k:Nat):ByteArray:=strOfNums [0,0,(k / 20:Nat),(k % 5 * 8:Nat),(k:Nat),0,0,0,0,0,0,0,0,0,0,0]
theorem lab_size12 (k:Nat):(lab12 k).size=16:=by rw [lab12,strOfNums_size];rfl
theorem lab_bt12 {k:Nat} (h:k < 40) (j:Nat) (hj:j < 16):((bt7 (lab12 k) j:Nat):Int)=([0,0,((k / 20:Nat):Int),((k % 5 * 8:Nat):Int),(k:Int),0,0,0,0,0,0,0,0,0,0,0]:List Int).getD j 0:=by
 refine bt_nums10 _ (fun x hx=>?_) j hj
 simp only [List.mem_cons,List.not_mem_nil,or_false] at hx
 omega
theorem lab_inj12 {j k:Nat} (hj:j < 40) (hk:k < 40) (e:lab12 j=lab12 k):j=k:=by
 have h1:=lab_bt12 hj 4 (by decide)
 have h2:=lab_bt12 hk 4 (by decide)
 rw [e,h2] at h1
 have:((k:Int))=(j:Int):=h1
 omega
theorem lab_rd12 {k:Nat} (h:k < 40):rd10 (lab12 k) 0=256 * (k / 20) + k % 5 * 8:=by
 have h0:((bt7 (lab12 k) 0:Nat):Int)=0:=lab_bt12 h 0 (by decide)
 have h1:((bt7 (lab12 k) (0 + 1):Nat):Int)=0:=lab_bt12 h 1 (by decide)
 have h2:((bt7 (lab12 k) (0 + 2):Nat):Int)=((k / 20:Nat):Int):=lab_bt12 h 2 (by decide)
 have h3:((bt7 (lab12 k) (0 + 3):Nat):Int)=((k % 5 * 8:Nat):Int):=lab_bt12 h 3 (by decide)
 rw [rd10]
 omega
theorem lab_home12 {k:Nat} (h:k < 40):hom12 (lab12 k) 64=k % 5 * 8:=by
 rw [hom12,if_neg (by rw [lab_size12];decide),lab_rd12 h]
 omega
def Lab12 (B:List Bkt12):Prop:=∀ i,i < B.length→(at12 B i).st=1→∃ k,k < 40∧(at12 B i).l=lab12 k
theorem Lab12.set {B:List Bkt12} (h:Lab12 B) (j:Nat) {k:Nat} (hk:k < 40) (c:ByteArray):Lab12 (B.set j ⟨1,lab12 k,c⟩):=fun i hi h1=>by
 rw [List.length_set] at hi
 by_cases hji:j=i
 · subst hji;rw [at_set12 hi];exact ⟨k,hk,rfl⟩
 · rw [at_other12 hji] at h1 ⊢;exact h i hi h1
theorem Lab12.del {B:List Bkt12} (h:Lab12 B) (j:Nat):Lab12 (B.set j gon12):=fun i hi h1=>by
 rw [List.length_set] at hi
 by_cases hji:j=i
 · subst hji;rw [at_set12 hi] at h1;exact absurd h1 (by decide)
 · rw [at_other12 hji] at h1 ⊢;exact h i hi h1
structure Cl12 (B:List Bkt12):Prop where
 len:B.length=64
 low:∀ i,i < 64→(at12 B i).st≠0→i < 40
 lab:∀ i,i < 64→(at12 B i).st=1→∃ k,k < 40∧(at12 B i).l=lab12 k∧k % 5=i / 8
theorem Cl12.gap {B:List Bkt12} (h:Cl12 B) (ho:Ok12 B) {k j:Nat} (hk:k < 40) (hn:plc12 B (lab12 k)=none) (hg:gap12 B (lab12 k)=some j):j / 8=k % 5:=by
 obtain ⟨d,hd,hdj,_,hb⟩:=gap_iff12.1 hg
 rw [h.len,lab_home12 hk] at hdj
 rw [h.len] at hd
 have hw:∀ i,i < 8→way12 (k % 5 * 8) 64 i=k % 5 * 8 + i:=fun i hi=>by rw [way12];omega
 by_cases hd8:d < 8
 · rw [hw d hd8] at hdj;omega
 ·
  exfalso
  have hall:∀ i,i < 8→∃ m,m < 40∧(at12 B (k % 5 * 8 + i)).st=1∧(at12 B (k % 5 * 8 + i)).l=lab12 m∧m % 5=k % 5:=fun i hi=>by
   have:=hb i (by omega)
   rw [h.len,lab_home12 hk,hw i hi,open12,Bool.or_eq_false_iff,decide_eq_false_iff_not] at this
   have h1:(at12 B (k % 5 * 8 + i)).st=1:=Decidable.of_not_not this.2
   obtain ⟨m,hm,hl,hc⟩:=h.lab (k % 5 * 8 + i) (by omega) h1
   exact ⟨m,hm,h1,hl,by omega⟩
  let f:Nat→Nat:=fun i=>if hi:i < 8 then (Classical.choose (hall i hi)) / 5 else k / 5
  have hf:∀ i,(hi:i < 8)→∃ m,m < 40∧(at12 B (k % 5 * 8 + i)).st=1∧(at12 B (k % 5 * 8 + i)).l=lab12 m∧m % 5=k % 5∧f i=m / 5:=fun i hi=>by
   obtain ⟨c1,c2,c3,c4⟩:=Classical.choose_spec (hall i hi)
   exact ⟨_,c1,c2,c3,c4,dif_pos hi⟩
  have hf8:f 8=k / 5:=dif_neg (by decide)
  obtain ⟨i,j,hij,hj,e⟩:=few12 8 f (fun i hi=>by
   by_cases hi8:i < 8
   ·
    obtain ⟨m,hm,_,_,_,e⟩:=hf i hi8
    rw [e];omega
   · rw [show i=8 by omega,hf8];omega)
  obtain ⟨m,hm,ms,ml,mc,me⟩:=hf i (by omega)
  have p1:=ho.find (by rw [h.len];omega) ms ml
  by_cases hj8:j < 8
  ·
   obtain ⟨m2,hm2,ms2,ml2,mc2,me2⟩:=hf j hj8
   have hmm:m=m2:=by omega
   have p2:=ho.find (by rw [h.len];omega) ms2 ml2
   rw [hmm,p2] at p1
   have:=Option.some.inj p1
   omega
  ·
   rw [show j=8 by omega,hf8] at e
   have hmm:m=k:=by omega
   rw [hmm,hn] at p1
   cases p1
theorem Cl12.few {B:List Bkt12} (h:Cl12 B) (ho:Ok12 B):cnt12 B 1 + cnt12 B 2≤40:=by
 have ha:=ho.all
 have h0:24≤cnt12 B 0:=by
  have e:B=B.take 40 ++ B.drop 40:=(List.take_append_drop 40 B).symm
  have hd:(B.drop 40).length=24:=by rw [List.length_drop,h.len]
  have hc:(B.drop 40).countP (fun b=>decide (b.st=0))=(B.drop 40).length:=by
   rw [List.countP_eq_length]
   intro b hb
   obtain ⟨i,hi,e⟩:=List.mem_iff_getElem.1 hb
   rw [hd] at hi
   rw [List.getElem_drop] at e
   refine decide_eq_true ?_
   refine Decidable.of_not_not fun hne=>?_
   have:=h.low (40 + i) (by omega) (by rw [at_get12 (by rw [h.len];omega),e];exact hne)
   omega
  rw [cnt12,e,List.countP_append,hc,hd]
  omega
 have:=h.len
 omega
theorem Cl12.set {B:List Bkt12} (h:Cl12 B) {k j:Nat} (hk:k < 40) (hj:j / 8=k % 5) (c:ByteArray):Cl12 (B.set j ⟨1,lab12 k,c⟩):=by
 have hjl:j < B.length:=by rw [h.len];omega
 refine ⟨by rw [List.length_set];exact h.len,fun i hi hs=>?_,fun i hi hs=>?_⟩
 ·
  by_cases hji:j=i
  · omega
  · rw [at_other12 hji] at hs;exact h.low i hi hs
 ·
  by_cases hji:j=i
  · subst hji;rw [at_set12 hjl];exact ⟨k,hk,rfl,hj.symm⟩
  · rw [at_other12 hji] at hs ⊢;exact h.lab i hi hs
theorem Cl12.del {B:List Bkt12} (h:Cl12 B) {j:Nat} (hj:j < B.length) (h1:(at12 B j).st=1):Cl12 (B.set j gon12):=by
 refine ⟨by rw [List.length_set];exact h.len,fun i hi hs=>?_,fun i hi hs=>?_⟩
 ·
  by_cases hji:j=i
  · subst hji;exact h.low j hi (by rw [h1];decide)
  · rw [at_other12 hji] at hs;exact h.low i hi hs
 ·
  by_cases hji:j=i
  · subst hji;rw [at_set12 hj] at hs;exact absurd hs (by decide)
  · rw [at_other12 hji] at hs ⊢;exact h.lab i hi hs
end Go.Proofs.YtmggbbmpckcleaaGreat
namespace Go.Proofs.YtmggbbmpckcleaaGreat
open Go.RowKit
theorem fold_one12 (B:List Bkt12) (b:Bkt12):fold12 B [b]=set12 B b.l b.c:=rfl
theorem fold_cons12 (B:List Bkt12) (b:Bkt12) (r:List Bkt12):fold12 B (b :: r)=fold12 (set12 B b.l b.c) r:=rfl
theorem set_cl12 {B:List Bkt12} {k:Nat} {c:ByteArray} (h:Ok12 B) (hr:cnt12 B 1 < B.length) (hn:plc12 B (lab12 k)=none) (hk:k < 40) (hl:Lab12 B) (hc:B.length=64→Cl12 B) :
  Lab12 (set12 B (lab12 k) c)∧(B.length=64→Cl12 (set12 B (lab12 k) c))∧(set12 B (lab12 k) c).length=B.length:=by
 obtain ⟨j,hj⟩:=h.gap hn hr
 have e:set12 B (lab12 k) c=B.set j ⟨1,lab12 k,c⟩:=by rw [set12,hj]
 rw [e]
 exact ⟨hl.set j hk c,fun h64=>(hc h64).set hk ((hc h64).gap h hk hn hj) c,List.length_set⟩
theorem fold_cl12:∀ (L B:List Bkt12),Ok12 B→cnt12 B 2=0→cnt12 B 1 + L.length≤B.length→(∀ b ∈ L,b.l.size=16∧b.c.size=40∧mp12 B b.l=none)→(∀ b ∈ L,∃ k,k < 40∧b.l=lab12 k)→(L.Pairwise fun a b=>a.l≠b.l)→Lab12 B→(B.length=64→Cl12 B) →
  Lab12 (fold12 B L)∧(B.length=64→Cl12 (fold12 B L))
 | [],B,_,_,_,_,_,_,hl,hc=>⟨hl,hc⟩
 | b :: r,B,h,hg,hr,hs,hb,hp,hl,hc=>by
  rw [List.pairwise_cons] at hp
  obtain ⟨k,hk,e⟩:=hb b List.mem_cons_self
  obtain ⟨s1,s2,s3⟩:=hs b List.mem_cons_self
  rw [List.length_cons] at hr
  have hf:=fold_ok12 [b] B h hg (by show cnt12 B 1 + 1≤_;omega) (fun x hx=>by rw [List.mem_singleton] at hx;subst hx;exact ⟨s1,s2,s3⟩) (List.pairwise_singleton _ _)
  rw [fold_one12] at hf
  obtain ⟨c1,c2,c3⟩:=set_cl12 (c:=b.c) h (by omega) (by rw [← e];exact mp_none12.1 s3) hk hl hc
  rw [← e] at c1 c2 c3
  have hu:=hf.used
  rw [List.length_singleton] at hu
  rw [fold_cons12]
  have ih:=fold_cl12 r (set12 B b.l b.c) hf.ok hf.gone (by rw [c3];omega) (fun x hx=>by
   obtain ⟨t1,t2,t3⟩:=hs x (List.mem_cons_of_mem _ hx)
   refine ⟨t1,t2,?_⟩
   rw [hf.mp x.l,t3,look12,List.find?_cons_of_neg (by simpa using hp.1 x hx)]
   rfl) (fun x hx=>hb x (List.mem_cons_of_mem _ hx)) hp.2 c1 (fun h64=>c2 (by rw [← c3];exact h64))
  exact ⟨ih.1,fun h64=>ih.2 (by rw [c3];exact h64)⟩
structure Inv12 (s:Sto12):Prop where
 rt:Rt12 s
 lab:Lab12 s.B
 cl:s.B.length=64→Cl12 s.B
 len:s.B.length=8∨s.B.length=16∨s.B.length=32∨s.B.length=64
theorem new_inv12 {n:Nat} (hn:n=8∨n=16):Inv12 ⟨new12 n,0,0⟩:=by
 obtain ⟨c1,c2⟩:=new_cnt12 n
 refine ⟨⟨?_,new_ok12 n,?_,?_,?_⟩,fun i hi h1=>?_,fun h=>?_,?_⟩
 ·
  show size12 ((new12 n).length:Int)=true
  rw [new_len12]
  rcases hn with rfl | rfl <;> decide
 · show (cnt12 (new12 n) 1:Int)=0;omega
 · show (cnt12 (new12 n) 2:Int)=0;omega
 · show 4 * (cnt12 (new12 n) 1 + cnt12 (new12 n) 2)≤_;omega
 ·
  have h1:(at12 (new12 n) i).st=1:=h1
  rw [new_at12] at h1
  exact absurd h1 (by decide)
 ·
  have h:(new12 n).length=64:=h
  rw [new_len12] at h;omega
 ·
  show (new12 n).length=8∨(new12 n).length=16∨(new12 n).length=32∨(new12 n).length=64
  rw [new_len12];omega
theorem Inv12.put {s:Sto12} (h:Inv12 s) {k:Nat} (hk:k < 40) {c:ByteArray} (hc:c.size=40) :
  (putV12 s (lab12 k) c).2=0∧Inv12 (putV12 s (lab12 k) c).1∧(∀ x,mp12 (putV12 s (lab12 k) c).1.B x=if x=lab12 k then some c else mp12 s.B x)∧(putV12 s (lab12 k) c).1.many=(if mp12 s.B (lab12 k)=none then s.many + 1 else s.many):=by
 have hlen:=h.len
 have hgr:grow12 s≤128:=by rw [grow12];split <;> omega
 obtain ⟨p1,p2,p3,p4⟩:=put_ok12 h.rt (lab_size12 k) hc (fun _=>.inl (by omega))
 refine ⟨p1,?_,p3,p4⟩
 have e0:(right12 s && (decide ((lab12 k).size=16) && decide (c.size=40)))=true:=by rw [right_iff12.2 h.rt,lab_size12,hc];rfl
 have hm:=h.rt.many
 have hgn:=h.rt.gone
 have hroom:=h.rt.room
 cases hp:plc12 s.B (lab12 k) with
 | some j =>
  obtain ⟨hj,hst,hjl⟩:=plc_lt12 hp
  have e:(putV12 s (lab12 k) c).1=⟨s.B.set j ⟨1,lab12 k,c⟩,s.many,s.gone⟩:=by rw [putV12,if_pos e0,hp]
  rw [e] at p2 ⊢
  refine ⟨p2,h.lab.set j hk c,fun h64=>?_,by show (s.B.set j _).length=8∨(s.B.set j _).length=16∨(s.B.set j _).length=32∨(s.B.set j _).length=64;rw [List.length_set];exact hlen⟩
  have h64:(s.B.set j ⟨1,lab12 k,c⟩).length=64:=h64
  rw [List.length_set] at h64
  have hcl:=h.cl h64
  obtain ⟨m,hm,hml,hmc⟩:=hcl.lab j (by omega) hst
  have:m=k:=lab_inj12 hm hk (hml.symm.trans hjl)
  exact hcl.set hk (by omega) c
 | none =>
  by_cases hful:3 * (s.B.length:Int) < 4 * (s.many + s.gone + 1)
  ·
   have h64:s.B.length≠64:=fun h64=>by
    have:=(h.cl h64).few h.rt.ok
    omega
   have e:(putV12 s (lab12 k) c).1=⟨set12 (fold12 (new12 (grow12 s).toNat) (us12 s.B)) (lab12 k) c,s.many + 1,0⟩:=by rw [putV12,if_pos e0,hp];show (if _ then _ else _:Sto12 × Int).1=_;rw [if_pos hful,if_neg (by omega)]
   have hsg:((grow12 s).toNat=8∨(grow12 s).toNat=16∨(grow12 s).toNat=32∨(grow12 s).toNat=64)∧4 * (s.many + 1)≤3 * grow12 s:=by
    unfold grow12
    split <;> omega
   rw [e] at p2 ⊢
   clear p1 p3 p4 e
   generalize (grow12 s).toNat=n at *
   have hu:cnt12 s.B 1 + 1≤n:=by
    have h1:=p2.many
    have h2:(cnt12 (set12 (fold12 (new12 n) (us12 s.B)) (lab12 k) c) 1:Int)=s.many + 1:=h1
    have h3:cnt12 (set12 (fold12 (new12 n) (us12 s.B)) (lab12 k) c) 1≤(set12 (fold12 (new12 n) (us12 s.B)) (lab12 k) c).length:=by rw [cnt12];exact List.countP_le_length
    have hlenf:∀ (L:List Bkt12) (B:List Bkt12),(fold12 B L).length=B.length:=fun L=>by
     induction L with
     | nil=>exact fun _=>rfl
     | cons b r ih =>
      intro B
      rw [fold_cons12,ih,set12]
      split
      · exact List.length_set
      · rfl
    have h4:(set12 (fold12 (new12 n) (us12 s.B)) (lab12 k) c).length=n:=by
     rw [show set12 (fold12 (new12 n) (us12 s.B)) (lab12 k) c=fold12 (fold12 (new12 n) (us12 s.B)) [⟨1,lab12 k,c⟩] from rfl,hlenf,hlenf,new_len12]
    omega
   obtain ⟨hf,hfm⟩:=re_ok12 h.rt.ok (n:=n) (by omega)
   have hcl:=fold_cl12 (us12 s.B) (new12 n) (new_ok12 n) (new_cnt12 n).2 (by rw [(new_cnt12 n).1,us_len12,new_len12];omega) (fun b hb=>by
    obtain ⟨i,hi,h1,h2⟩:=us_mem12.1 hb
    rw [← h1] at h2 ⊢
    obtain ⟨u1,u2,_⟩:=h.rt.ok.used i hi h2
    exact ⟨u1,u2,mp_none12.2 (new_plc12 n _)⟩) (fun b hb=>by
    obtain ⟨i,hi,h1,h2⟩:=us_mem12.1 hb
    rw [← h1] at h2 ⊢
    exact h.lab i hi h2) (us_once12 h.rt.ok) (fun i _ h1=>by rw [new_at12] at h1;exact absurd h1 (by decide)) (fun h64=>⟨h64,fun i _ hs=>by rw [new_at12] at hs;exact absurd rfl hs,fun i _ hs=>by rw [new_at12] at hs;exact absurd hs (by decide)⟩)
   have hfl:(fold12 (new12 n) (us12 s.B)).length=n:=hf.len.trans (new_len12 n)
   have hus:cnt12 (fold12 (new12 n) (us12 s.B)) 1=cnt12 s.B 1:=by rw [hf.used,(new_cnt12 n).1,us_len12,Nat.zero_add]
   obtain ⟨c1,c2,c3⟩:=set_cl12 (c:=c) (k:=k) hf.ok (by omega) (mp_none12.1 ((hfm _).trans (mp_none12.2 hp))) hk hcl.1 (fun h64=>hcl.2 (by rw [new_len12];omega))
   refine ⟨p2,c1,fun h64=>c2 (by rw [← c3];exact h64),?_⟩
   have:(set12 (fold12 (new12 n) (us12 s.B)) (lab12 k) c).length=n:=c3.trans hfl
   show (set12 (fold12 (new12 n) (us12 s.B)) (lab12 k) c).length=8∨(set12 (fold12 (new12 n) (us12 s.B)) (lab12 k) c).length=16∨(set12 (fold12 (new12 n) (us12 s.B)) (lab12 k) c).length=32∨(set12 (fold12 (new12 n) (us12 s.B)) (lab12 k) c).length=64
   omega
  ·
   have e:(putV12 s (lab12 k) c).1.B=set12 s.B (lab12 k) c:=by rw [putV12,if_pos e0,hp];show (if _ then _ else _:Sto12 × Int).1.B=_;rw [if_neg hful]
   obtain ⟨c1,c2,c3⟩:=set_cl12 (c:=c) (k:=k) h.rt.ok (by omega) hp hk h.lab h.cl
   refine ⟨p2,by rw [e];exact c1,fun h64=>?_,by rw [e,c3];exact hlen⟩
   rw [e] at h64 ⊢
   exact c2 (by rw [← c3];exact h64)
theorem Inv12.del {s:Sto12} (h:Inv12 s) (l:ByteArray) :
  (delV12 s l).2.2=0∧Inv12 (delV12 s l).1∧(∀ x,mp12 (delV12 s l).1.B x=if x=l then none else mp12 s.B x)∧(delV12 s l).2.1=(mp12 s.B l).isSome∧(delV12 s l).1.many=(if (mp12 s.B l).isSome then s.many - 1 else s.many):=by
 obtain ⟨p1,p2,p3,p4,p5⟩:=del_ok12 h.rt (l:=l)
 refine ⟨p1,?_,p3,p4,p5⟩
 cases hp:plc12 s.B l with
 | some j =>
  obtain ⟨hj,hst,hjl⟩:=plc_lt12 hp
  have e:(delV12 s l).1=⟨s.B.set j gon12,s.many - 1,s.gone + 1⟩:=by rw [delV12,if_pos (right_iff12.2 h.rt),hp]
  rw [e] at p2 ⊢
  refine ⟨p2,h.lab.del j,fun h64=>(h.cl ?_).del hj hst,?_⟩
  · rw [← List.length_set (i:=j) (a:=gon12)];exact h64
  ·
   show (s.B.set j gon12).length=8∨(s.B.set j gon12).length=16∨(s.B.set j gon12).length=32∨(s.B.set j gon12).length=64
   rw [List.length_set];exact h.len
 | none =>
  have e:(delV12 s l).1=s:=by rw [delV12,if_pos (right_iff12.2 h.rt),hp]
  rw [e]
  exact h
theorem Rt12.way {s:Sto12} (h:Rt12 s) {i:Nat} (hi:i < s.B.length) (h1:(at12 s.B i).st=1):∃ d,d < s.B.length∧way12 (hom12 (at12 s.B i).l s.B.length) s.B.length d=i∧∀ j,j < d→(at12 s.B (way12 (hom12 (at12 s.B i).l s.B.length) s.B.length j)).st≠0:=by
 obtain ⟨d,hd,hdi,_,hb⟩:=plc_iff12.1 (h.ok.used i hi h1).2.2
 refine ⟨d,hd,hdi,fun j hj e=>?_⟩
 have:=hb j hj
 rw [end12,decide_eq_true e,Bool.or_true] at this
 cases this
theorem Rt12.quarter {s:Sto12} (h:Rt12 s):s.B.length≤4 * cnt12 s.B 0:=by
 have:=h.ok.all
 have:=h.room
 omega
def cn12 (now:List ByteArray):Nat:=now.countP fun c=>decide (c≠⟨#[]⟩)
theorem cn_set12:∀ (now:List ByteArray) {k:Nat},k < now.length→∀ c,cn12 (now.set k c) + (if now.getD k ⟨#[]⟩≠⟨#[]⟩ then 1 else 0)=cn12 now + (if c≠⟨#[]⟩ then 1 else 0)
 | [],_,h,_=>absurd h (Nat.not_lt_zero _)
 | a :: r,0,_,c=>by
  show cn12 (c :: r) + (if a≠⟨#[]⟩ then 1 else 0)=cn12 (a :: r) + _
  rw [cn12,cn12,List.countP_cons,List.countP_cons]
  simp only [decide_eq_true_eq]
  omega
 | a :: r,k + 1,h,c=>by
  have:=cn_set12 r (k:=k) (by simpa using h) c
  show cn12 (a :: r.set k c) + (if r.getD k ⟨#[]⟩≠⟨#[]⟩ then 1 else 0)=cn12 (a :: r) + _
  rw [cn12,cn12,List.countP_cons,List.countP_cons]
  rw [cn12,cn12] at this
  omega
structure Last12 (s:Sto12) (now:List ByteArray):Prop where
 inv:Inv12 s
 len:now.length=40
 mp:∀ k,k < 40→mp12 s.B (lab12 k)=if now.getD k ⟨#[]⟩=⟨#[]⟩ then none else some (now.getD k ⟨#[]⟩)
 many:s.many=(cn12 now:Nat)
theorem ne_emp12 {c:ByteArray} (h:c.size=40):c≠⟨#[]⟩:=fun e=>by rw [e] at h;exact absurd h (by decide)
theorem getD_set12 {now:List ByteArray} {k m:Nat} (h:k < now.length) (c:ByteArray):(now.set k c).getD m ⟨#[]⟩=if m=k then c else now.getD m ⟨#[]⟩:=by
 rw [List.getD_eq_getElem?_getD,List.getD_eq_getElem?_getD,List.getElem?_set]
 by_cases hm:k=m
 · subst hm;rw [if_pos rfl,if_pos h,if_pos rfl];rfl
 · rw [if_neg hm,if_neg (fun e=>hm e.symm)]
theorem Last12.put {s:Sto12} {now:List ByteArray} (h:Last12 s now) {k:Nat} (hk:k < 40) {c:ByteArray} (hc:c.size=40):(putV12 s (lab12 k) c).2=0∧Last12 (putV12 s (lab12 k) c).1 (now.set k c):=by
 obtain ⟨p1,p2,p3,p4⟩:=h.inv.put hk hc
 have hkl:k < now.length:=by rw [h.len];exact hk
 refine ⟨p1,p2,by rw [List.length_set];exact h.len,fun m hm=>?_,?_⟩
 ·
  rw [p3,getD_set12 hkl]
  by_cases hmk:m=k
  · rw [if_pos hmk,if_pos (by rw [hmk]),if_neg (ne_emp12 hc)]
  · rw [if_neg hmk,if_neg (fun e=>hmk (lab_inj12 hm hk e)),h.mp m hm]
 ·
  have hcn:=cn_set12 now hkl c
  have hmp:=h.mp k hk
  have hmn:=h.many
  rw [if_pos (ne_emp12 hc)] at hcn
  rw [p4,hmp]
  by_cases he:now.getD k ⟨#[]⟩=⟨#[]⟩
  · rw [if_pos he,if_pos rfl];rw [if_neg (fun hh=>hh he)] at hcn;omega
  · rw [if_neg he,if_neg (by intro e;cases e)];rw [if_pos he] at hcn;omega
theorem Last12.del {s:Sto12} {now:List ByteArray} (h:Last12 s now) {k:Nat} (hk:k < 40):(delV12 s (lab12 k)).2.2=0∧(delV12 s (lab12 k)).2.1=decide (now.getD k ⟨#[]⟩≠⟨#[]⟩)∧Last12 (delV12 s (lab12 k)).1 (now.set k ⟨#[]⟩):=by
 obtain ⟨p1,p2,p3,p4,p5⟩:=h.inv.del (lab12 k)
 have hkl:k < now.length:=by rw [h.len];exact hk
 have hmp:=h.mp k hk
 have hcn:=cn_set12 now hkl ⟨#[]⟩
 have hmn:=h.many
 rw [if_neg (show ¬ ((⟨#[]⟩:ByteArray)≠⟨#[]⟩) from fun hh=>hh rfl)] at hcn
 refine ⟨p1,?_,p2,by rw [List.length_set];exact h.len,fun m hm=>?_,?_⟩
 ·
  rw [p4,hmp]
  by_cases he:now.getD k ⟨#[]⟩=⟨#[]⟩
  · rw [if_pos he,decide_eq_false (fun hh=>hh he)];rfl
  · rw [if_neg he,decide_eq_true he];rfl
 ·
  rw [p3,getD_set12 hkl]
  by_cases hmk:m=k
  · rw [if_pos hmk,if_pos (by rw [hmk]),if_pos rfl]
  · rw [if_neg hmk,if_neg (fun e=>hmk (lab_inj12 hm hk e)),h.mp m hm]
 ·
  rw [p5,hmp]
  by_cases he:now.getD k ⟨#[]⟩=⟨#[]⟩
  · rw [if_pos he];rw [if_neg (fun hh=>hh he)] at hcn;show s.many=_;omega
  · rw [if_neg he];rw [if_pos he] at hcn;show s.many - 1=_;omega
theorem Last12.get {s:Sto12} {now:List ByteArray} (h:Last12 s now) {k:Nat} (hk:k < 40):getV12 s (lab12 k)=(now.getD k ⟨#[]⟩,decide (now.getD k ⟨#[]⟩≠⟨#[]⟩)):=by
 rw [get_ok12 h.inv.rt,h.mp k hk]
 by_cases he:now.getD k ⟨#[]⟩=⟨#[]⟩
 · rw [if_pos he,decide_eq_false (fun hh=>hh he),he]
 · rw [if_neg he,decide_eq_true he]
structure Puts12 (s:Sto12) (L:List (Nat × ByteArray)):Prop where
 inv:Inv12 s
 mp:∀ x c,mp12 s.B x=some c↔∃ p ∈ L,x=lab12 p.1∧c=p.2
 many:s.many=L.length
theorem Puts12.put {s:Sto12} {L:List (Nat × ByteArray)} (h:Puts12 s L) {k:Nat} {c:ByteArray} (hL:∀ p ∈ L,p.1 < 40∧p.1≠k) (hk:k < 40) (hc:c.size=40):(putV12 s (lab12 k) c).2=0∧Puts12 (putV12 s (lab12 k) c).1 (L ++ [(k,c)]):=by
 obtain ⟨p1,p2,p3,p4⟩:=h.inv.put hk hc
 have hno:mp12 s.B (lab12 k)=none:=by
  cases hq:mp12 s.B (lab12 k) with
  | none=>rfl
  | some d =>
   obtain ⟨p,hp,e,_⟩:=(h.mp _ _).1 hq
   exact absurd (lab_inj12 hk (hL p hp).1 e).symm (hL p hp).2
 refine ⟨p1,p2,fun x d=>?_,by rw [p4,if_pos hno,h.many,List.length_append];rfl⟩
 rw [p3]
 by_cases hx:x=lab12 k
 ·
  rw [if_pos hx,Option.some.injEq]
  constructor
  ·
   intro e
   exact ⟨(k,c),by simp,hx,e.symm⟩
  ·
   rintro ⟨p,hp,e1,e2⟩
   rw [List.mem_append,List.mem_singleton] at hp
   rcases hp with hp | rfl
   · exact absurd (lab_inj12 hk (hL p hp).1 (hx.symm.trans e1)).symm (hL p hp).2
   · exact e2.symm
 ·
  rw [if_neg hx,h.mp]
  constructor
  ·
   rintro ⟨p,hp,e⟩
   exact ⟨p,List.mem_append_left _ hp,e⟩
  ·
   rintro ⟨p,hp,e1,e2⟩
   rw [List.mem_append,List.mem_singleton] at hp
   rcases hp with hp | rfl
   · exact ⟨p,hp,e1,e2⟩
   · exact absurd e1 hx
theorem put_len12 {s:Sto12} {l c:ByteArray} (h8:s.B.length=8) (hm:s.many=0):(putV12 s l c).1.B.length=8:=by
 have hset:∀ (N:List Bkt12),(set12 N l c).length=N.length:=fun N=>by
  rw [set12];split
  · exact List.length_set
  · rfl
 have hlenf:∀ (L:List Bkt12) (B:List Bkt12),(fold12 B L).length=B.length:=fun L=>by
  induction L with
  | nil=>exact fun _=>rfl
  | cons b r ih =>
   intro B
   rw [fold_cons12,ih,set12]
   split
   · exact List.length_set
   · rfl
 have hg:grow12 s=8:=by rw [grow12,if_neg (by omega)];omega
 rw [putV12]
 split
 ·
  split
  ·
   show (s.B.set _ _).length=8
   rw [List.length_set,h8]
  ·
   split
   ·
    rw [hg,if_neg (by decide)]
    show (set12 _ l c).length=8
    rw [hset,hlenf,new_len12];rfl
   ·
    show (set12 s.B l c).length=8
    rw [hset,h8]
 · exact h8
structure Room12 (s:Sto12):Prop where
 rt:Rt12 s
 len:s.B.length=8
 many:s.many=0
theorem Room12.gone {s:Sto12} (h:Room12 s):s.gone≤6:=by
 have:=h.rt.room
 have:=h.rt.gone
 have:=h.len
 omega
theorem Room12.empty {s:Sto12} (h:Room12 s):all12 s.B=[]:=by
 have h1:=all_len12 h.rt.ok
 have h2:=h.rt.many
 have h3:=h.many
 exact List.eq_nil_of_length_eq_zero (by omega)
theorem Room12.step {s:Sto12} (h:Room12 s) {l c:ByteArray} (hl:l.size=16) (hc:c.size=40):(putV12 s l c).2=0∧(delV12 (putV12 s l c).1 l).2=(true,0)∧Room12 (delV12 (putV12 s l c).1 l).1:=by
 have hlen:=h.len
 have hm:=h.many
 have hg:grow12 s=8:=by rw [grow12,if_neg (by omega)];omega
 obtain ⟨p1,p2,p3,p4⟩:=put_ok12 h.rt hl hc (fun _=>.inl (by omega))
 have h0:mp12 s.B l=none:=by
  cases hq:mp12 s.B l with
  | none=>rfl
  | some d =>
   have:=(all_mem12 h.rt.ok).2 hq
   rw [h.empty] at this
   exact absurd this (by simp)
 have hpl:=put_len12 (l:=l) (c:=c) hlen hm
 obtain ⟨d1,d2,d3,d4,d5⟩:=del_ok12 p2 (l:=l)
 have hmp:=p3 l
 rw [if_pos rfl] at hmp
 rw [hmp] at d4 d5
 rw [p4,if_pos h0,hm] at d5
 refine ⟨p1,Prod.ext d4 d1,d2,?_,d5⟩
 have hlen2:(delV12 (putV12 s l c).1 l).1.B.length=(putV12 s l c).1.B.length:=by
  rw [delV12,if_pos (right_iff12.2 p2)]
  split
  · exact List.length_set
  · rfl
 omega
theorem del_none12 {s:Sto12} (h:Rt12 s) {l:ByteArray} (hn:mp12 s.B l=none):delV12 s l=(s,false,0):=by rw [delV12,if_pos (right_iff12.2 h),mp_none12.1 hn]
end Go.Proofs.YtmggbbmpckcleaaGreat
namespace Go.Proofs.YtmggbbmpckcleaaGreat
open Go.RowKit
theorem tw_find12 {α:Type} (p q:α→Bool):∀ L:List α,(L.takeWhile p).find? q=(L.find? fun x=>q x || !p x).filter fun x=>q x && p x
 | []=>rfl
 | x :: r=>by
  by_cases hp:p x=true
  ·
   rw [List.takeWhile_cons_of_pos hp]
   by_cases hq:q x=true
   · simp [Option.filter,hp,hq]
   ·
    rw [Bool.not_eq_true] at hq
    simp only [List.find?_cons,hq,hp,Bool.not_true,Bool.or_self]
    exact tw_find12 p q r
  ·
   rw [List.takeWhile_cons_of_neg hp]
   rw [Bool.not_eq_true] at hp
   simp [Option.filter,hp]
theorem tw_get12 {α:Type} {p:α→Bool} {L:List α} {i:Nat} {x:α} (hx:L[i]?=some x) (h:(L.take i).all p=true) (hp:p x=true):(L.takeWhile p)[i]?=some x:=by
 have hi:i < L.length:=(List.getElem?_eq_some_iff.1 hx).1
 have hd:L=L.take i ++ x :: L.drop (i + 1):=by
  conv=>lhs;rw [← List.take_append_drop i L]
  rw [List.drop_eq_getElem_cons hi]
  rw [List.getElem?_eq_getElem hi] at hx
  rw [Option.some.inj hx]
 rw [hd,List.takeWhile_append_of_pos (fun a ha=>List.all_eq_true.1 h a ha),List.takeWhile_cons_of_pos hp]
 have hl:(L.take i).length=i:=by rw [List.length_take];omega
 rw [List.getElem?_append_right (by omega),hl,Nat.sub_self]
 rfl
theorem tw_end12 {α:Type} {p:α→Bool} {L:List α} {i:Nat} {x:α} (hx:L[i]?=some x) (h:(L.take i).all p=true) (hp:p x=false):L.takeWhile p=L.take i:=by
 have hi:i < L.length:=(List.getElem?_eq_some_iff.1 hx).1
 have hd:L=L.take i ++ x :: L.drop (i + 1):=by
  conv=>lhs;rw [← List.take_append_drop i L]
  rw [List.drop_eq_getElem_cons hi]
  rw [List.getElem?_eq_getElem hi] at hx
  rw [Option.some.inj hx]
 conv=>lhs;rw [hd]
 rw [List.takeWhile_append_of_pos (fun a ha=>List.all_eq_true.1 h a ha),List.takeWhile_cons_of_neg (by rw [hp];simp),List.append_nil]
theorem tw_all12 {α:Type} {p:α→Bool} {L:List α} (h:L.all p=true):L.takeWhile p=L:=by
 have:=List.takeWhile_append_of_pos (p:=p) (l₁:=L) (l₂:=[]) (fun a ha=>List.all_eq_true.1 h a ha)
 simpa using this
theorem all_take12 {α:Type} {p:α→Bool} {l:List α} {i:Nat} {x:α} (hx:l[i]?=some x) (h:(l.take i).all p=true) (hp:p x=true):(l.take (i + 1)).all p=true:=by
 rw [List.take_add_one,hx]
 simp [h,hp]
def rnd12 (B:List Bkt12) (f:Nat):List (Nat × Bkt12):=(List.range B.length).map fun i=>(way12 f B.length i,at12 B (way12 f B.length i))
def full12 (p:Nat × Bkt12):Bool:=decide (p.2.st≠0)
def wys12 (B:List Bkt12) (l:ByteArray):List (Nat × Bkt12):=(rnd12 B (hom12 l B.length)).takeWhile full12
theorem rnd_len12 (B:List Bkt12) (f:Nat):(rnd12 B f).length=B.length:=by simp [rnd12]
theorem rnd_at12 {B:List Bkt12} {f i:Nat} (h:i < B.length):(rnd12 B f)[i]?=some (way12 f B.length i,at12 B (way12 f B.length i)):=by
 rw [rnd12,List.getElem?_map,List.getElem?_range h];rfl
theorem wys_le12 (B:List Bkt12) (l:ByteArray):(wys12 B l).length≤B.length:=by
 have:=(List.takeWhile_sublist full12 (l:=rnd12 B (hom12 l B.length))).length_le
 rwa [rnd_len12] at this
theorem wys_pre12 (B:List Bkt12) (l:ByteArray):wys12 B l=(rnd12 B (hom12 l B.length)).take (wys12 B l).length:=by
 exact (List.prefix_iff_eq_take.1 (List.takeWhile_prefix full12))
theorem wys_at12 {B:List Bkt12} {l:ByteArray} {i:Nat} (h:i < (wys12 B l).length):(wys12 B l)[i]?=some (way12 (hom12 l B.length) B.length i,at12 B (way12 (hom12 l B.length) B.length i)):=by
 rw [wys_pre12,List.getElem?_take_of_lt h]
 exact rnd_at12 (Nat.lt_of_lt_of_le h (wys_le12 B l))
theorem find_map_range12 {α:Type} (f:Nat→α) (q:α→Bool) (n:Nat):((List.range n).map f).find? q=((List.range n).find? fun i=>q (f i)).map f:=by
 rw [List.find?_map];rfl
theorem find_wys12 (B:List Bkt12) (l:ByteArray):((wys12 B l).find? fun p=>hit12 l p.2)=(plc12 B l).map fun k=>(k,at12 B k):=by
 rw [wys12,tw_find12,rnd12,find_map_range12]
 have he:(fun i=>(hit12 l (at12 B (way12 (hom12 l B.length) B.length i)) || !full12 (way12 (hom12 l B.length) B.length i,at12 B (way12 (hom12 l B.length) B.length i))))=fun i=>end12 l (at12 B (way12 (hom12 l B.length) B.length i)):=by
  funext i
  rw [end12,full12]
  congr 1
  simp
 show (((List.range B.length).find? (fun i=>(hit12 l (at12 B (way12 (hom12 l B.length) B.length i)) || !full12 (way12 (hom12 l B.length) B.length i,at12 B (way12 (hom12 l B.length) B.length i))))).map _).filter _=_
 rw [he,plc12,fst12]
 cases hf:(List.range B.length).find? (fun i=>end12 l (at12 B (way12 (hom12 l B.length) B.length i))) with
 | none=>rfl
 | some i =>
  simp only [Option.map_some]
  by_cases hh:hit12 l (at12 B (way12 (hom12 l B.length) B.length i))=true
  ·
   have h1:=(hit_iff12.1 hh).1
   rw [if_pos hh]
   simp [Option.filter,hh,full12,h1]
  ·
   rw [if_neg hh]
   rw [Bool.not_eq_true] at hh
   simp [Option.filter,hh]
theorem plc_of12 {B:List Bkt12} {l:ByteArray} {p:Nat × Bkt12} (h:((wys12 B l).find? fun p=>hit12 l p.2)=some p):plc12 B l=some p.1:=by
 rw [find_wys12] at h
 cases hp:plc12 B l with
 | none=>rw [hp] at h;cases h
 | some k=>rw [hp] at h;cases h;rfl
theorem plc_none12 {B:List Bkt12} {l:ByteArray} (h:((wys12 B l).find? fun p=>hit12 l p.2)=none):plc12 B l=none:=by
 rw [find_wys12] at h
 cases hp:plc12 B l with
 | none=>rfl
 | some k=>rw [hp] at h;cases h
theorem plc_way12 {B:List Bkt12} {l:ByteArray} {i:Nat} {p:Nat × Bkt12} (hx:(wys12 B l)[i]?=some p) (hn:((wys12 B l).take i).find? (fun p=>hit12 l p.2)=none) (hh:hit12 l p.2=true):plc12 B l=some p.1:=by
 refine plc_of12 (p:=p) ?_
 have hi:i < (wys12 B l).length:=(List.getElem?_eq_some_iff.1 hx).1
 have hd:(wys12 B l).drop i=p :: (wys12 B l).drop (i + 1):=by
  rw [List.drop_eq_getElem_cons hi]
  rw [List.getElem?_eq_getElem hi] at hx
  rw [Option.some.inj hx]
 rw [← List.take_append_drop i (wys12 B l),List.find?_append,hn,hd]
 simp [hh]
def room12 (B:List Bkt12) (l:ByteArray):Nat:=match (wys12 B l).find? (fun p=>decide (p.2.st=2)) with
 | some p=>p.1
 | none=>way12 (hom12 l B.length) B.length (wys12 B l).length
theorem room_gap12 {B:List Bkt12} {l:ByteArray} {k:Nat} (hst:∀ i,i < B.length→(at12 B i).st=0∨(at12 B i).st=1∨(at12 B i).st=2) (hg:gap12 B l=some k):room12 B l=k:=by
 obtain ⟨i,hi,hk,hs,hb⟩:=gap_iff12.1 hg
 have hbe:∀ j,j < i→(at12 B (way12 (hom12 l B.length) B.length j)).st=1:=fun j hj=>by
  have:=hb j hj
  rw [open12,Bool.or_eq_false_iff] at this
  simpa using this.2
 have hpre:((rnd12 B (hom12 l B.length)).take i).all full12=true:=by
  rw [List.all_eq_true]
  intro p hp
  obtain ⟨j,hj⟩:=List.mem_iff_getElem?.1 hp
  have hl:=(List.getElem?_eq_some_iff.1 hj).1
  have hji:j < i:=by rw [List.length_take] at hl;omega
  rw [List.getElem?_take_of_lt hji,rnd_at12 (by omega)] at hj
  cases hj
  simp [full12,hbe j hji]
 have hx:=rnd_at12 (B:=B) (f:=hom12 l B.length) hi
 rw [hk] at hx
 have hkB:=(gap_lt12 hg).1
 have hno:((rnd12 B (hom12 l B.length)).take i).find? (fun p=>decide (p.2.st=2))=none:=by
  rw [List.find?_eq_none]
  intro p hp
  obtain ⟨j,hj⟩:=List.mem_iff_getElem?.1 hp
  have hl:=(List.getElem?_eq_some_iff.1 hj).1
  have hji:j < i:=by rw [List.length_take] at hl;omega
  rw [List.getElem?_take_of_lt hji,rnd_at12 (by omega)] at hj
  cases hj
  simp [hbe j hji]
 rcases hst k hkB with h0 | h0 | h0
 ·
  have hw:wys12 B l=(rnd12 B (hom12 l B.length)).take i:=tw_end12 hx hpre (by simp [full12,h0])
  have hwl:(wys12 B l).length=i:=by rw [hw,List.length_take,rnd_len12];omega
  rw [room12,hw,hno]
  show way12 _ _ ((rnd12 B (hom12 l B.length)).take i).length=k
  rw [← hw,hwl,hk]
 · exact absurd h0 hs
 ·
  have hw:=tw_get12 hx hpre (by simp [full12,h0])
  have hil:i < (wys12 B l).length:=(List.getElem?_eq_some_iff.1 hw).1
  have hd:(wys12 B l).drop i=(k,at12 B k) :: (wys12 B l).drop (i + 1):=by
   rw [List.drop_eq_getElem_cons hil]
   have hw2:(wys12 B l)[i]?=some (k,at12 B k):=hw
   rw [List.getElem?_eq_getElem hil] at hw2
   rw [Option.some.inj hw2]
  have ht:(wys12 B l).take i=(rnd12 B (hom12 l B.length)).take i:=by
   conv=>lhs;rw [wys_pre12]
   rw [List.take_take,Nat.min_eq_left (by omega)]
  rw [room12,← List.take_append_drop i (wys12 B l),List.find?_append,ht,hno,hd]
  simp [h0]
def frm12 (b:Bkt12):Bool :=
 if b.st=1 then decide (b.l.size=16) && decide (b.c.size=40) else (decide (b.st=0) || decide (b.st=2)) && (decide (b.l.size=0) && decide (b.c.size=0))
def run12 (B:List Bkt12) (f:Nat):Nat→Nat
 | 0=>0
 | t + 1=>if (at12 B (way12 f B.length t)).st=0 then 0 else run12 B f t + 1
theorem run_le12 (B:List Bkt12) (f:Nat):∀ t,run12 B f t≤t
 | 0=>Nat.le_refl _
 | t + 1=>by
  rw [run12]
  have:=run_le12 B f t
  split <;> omega
def off12 (B:List Bkt12) (f t:Nat):Bool :=
 decide ((at12 B (way12 f B.length t)).st=1) && decide (run12 B f (t + 1)≤(way12 f B.length t + B.length - hom12 (at12 B (way12 f B.length t)).l B.length) % B.length)
def onw12 (B:List Bkt12) (f:Nat):Bool:=(List.range B.length).all fun t=>!off12 B f t
theorem run_full12 {B:List Bkt12} {f:Nat}:∀ {t j:Nat},j < run12 B f t→(at12 B (way12 f B.length (t - 1 - j))).st≠0
 | 0,j,h=>absurd h (Nat.not_lt_zero _)
 | t + 1,j,h=>by
  rw [run12] at h
  split at h
  · exact absurd h (Nat.not_lt_zero _)
  ·
   rename_i hn
   cases j with
   | zero=>rwa [show t + 1 - 1 - 0=t by omega]
   | succ j =>
    have:=run_full12 (B:=B) (f:=f) (t:=t) (j:=j) (by omega)
    rwa [show t + 1 - 1 - (j + 1)=t - 1 - j by omega]
theorem run_free12 {B:List Bkt12} {f:Nat} (h0:(at12 B (way12 f B.length 0)).st=0):∀ {t:Nat},0 < t→run12 B f t < t∧(at12 B (way12 f B.length (t - 1 - run12 B f t))).st=0
 | 0,h=>absurd h (Nat.lt_irrefl _)
 | t + 1,_=>by
  rw [run12]
  split
  ·
   rename_i hf
   exact ⟨by omega,by rwa [show t + 1 - 1 - 0=t by omega]⟩
  ·
   rename_i hn
   cases t with
   | zero=>exact absurd h0 hn
   | succ t =>
    obtain ⟨h1,h2⟩:=run_free12 h0 (t:=t + 1) (by omega)
    exact ⟨by omega,by rwa [show t + 1 + 1 - 1 - (run12 B f (t + 1) + 1)=t + 1 - 1 - run12 B f (t + 1) by omega]⟩
end Go.Proofs.YtmggbbmpckcleaaGreat
namespace Go.Proofs.YtmggbbmpckcleaaGreat
open Go.RowKit
theorem mod_two12 {a n:Nat} (h:a < 2 * n):(a < n∧a % n=a)∨(n≤a∧a % n=a - n):=by
 by_cases h1:a < n
 · exact .inl ⟨h1,Nat.mod_eq_of_lt h1⟩
 · exact .inr ⟨by omega,by rw [Nat.mod_eq_sub_mod (by omega),Nat.mod_eq_of_lt (by omega)]⟩
theorem mod_back12 {a b n m:Nat} (ha:a < 2 * n) (hb:b < 2 * n) (h:a % n=b % n) (h1:m≤a) (h2:m≤b):(a - m) % n=(b - m) % n:=by
 rcases mod_two12 ha with ⟨u1,u2⟩ | ⟨u1,u2⟩ <;> rcases mod_two12 hb with ⟨v1,v2⟩ | ⟨v1,v2⟩ <;> rw [u2,v2] at h
 · rw [show a - m=b - m by omega]
 · rw [show b - m=a - m + n by omega,Nat.add_mod_right]
 · rw [show a - m=b - m + n by omega,Nat.add_mod_right]
 · rw [show a - m=b - m by omega]
def Once12 (B:List Bkt12):Prop:=∀ i j,i < B.length→j < B.length→(at12 B i).st=1→(at12 B j).st=1→(at12 B i).l=(at12 B j).l→i=j
theorem plc_once12 {B:List Bkt12} (ho:Once12 B) {i:Nat} (hi:i < B.length) (h1:(at12 B i).st=1) :
  plc12 B (at12 B i).l=some i↔∃ d,d < B.length∧way12 (hom12 (at12 B i).l B.length) B.length d=i∧∀ j,j < d→(at12 B (way12 (hom12 (at12 B i).l B.length) B.length j)).st≠0:=by
 have hn:0 < B.length:=by omega
 have hh:=hom_lt12 (at12 B i).l hn
 rw [plc_iff12]
 constructor
 ·
  rintro ⟨d,hd,hk,_,hb⟩
  exact ⟨d,hd,hk,fun j hj e=>by have:=hb j hj;rw [end12,Bool.or_eq_false_iff] at this;simp [e] at this⟩
 ·
  rintro ⟨d,hd,hk,hb⟩
  refine ⟨d,hd,hk,hit_iff12.2 ⟨h1,rfl⟩,fun j hj=>?_⟩
  rw [end12,Bool.or_eq_false_iff]
  refine ⟨?_,by simpa using hb j hj⟩
  rw [← Bool.not_eq_true,hit_iff12]
  rintro ⟨e1,e2⟩
  have:=ho _ i (way_lt12 _ j hn) hi e1 h1 e2
  have:=way_inj12 hh (by omega) hd (this.trans hk.symm)
  omega
theorem onw_iff12 {B:List Bkt12} {f:Nat} (hf:f < B.length) (h0:(at12 B f).st=0) (ho:Once12 B):onw12 B f=true↔∀ i,i < B.length→(at12 B i).st=1→plc12 B (at12 B i).l=some i:=by
 have hn:0 < B.length:=by omega
 have hf0:way12 f B.length 0=f:=by rw [way12,Nat.add_zero,Nat.mod_eq_of_lt hf]
 have key:∀ t,t < B.length→(at12 B (way12 f B.length t)).st=1→(off12 B f t=false↔plc12 B (at12 B (way12 f B.length t)).l=some (way12 f B.length t)):=by
  intro t ht h1
  have hi:=way_lt12 f t hn
  obtain ⟨i,hid⟩:∃ i,i=way12 f B.length t:=⟨_,rfl⟩
  rw [← hid] at h1 hi ⊢
  have hh:=hom_lt12 (at12 B i).l hn
  obtain ⟨h,hhd⟩:∃ h,h=hom12 (at12 B i).l B.length:=⟨_,rfl⟩
  have hr:run12 B f (t + 1)=run12 B f t + 1:=by
   rw [run12,if_neg (by rw [← hid,h1];decide)]
  have hr1:0 < run12 B f (t + 1):=by omega
  have hrl:=run_free12 (B:=B) (f:=f) (by rw [hf0];exact h0) (t:=t + 1) (by omega)
  obtain ⟨d,hdd⟩:∃ d,d=(i + B.length - h) % B.length:=⟨_,rfl⟩
  have hd:d < B.length:=by rw [hdd];exact Nat.mod_lt _ hn
  have hwd:way12 h B.length d=i:=by
   rw [way12,hdd]
   rw [← hhd] at hh
   rcases mod_two12 (a:=i + B.length - h) (n:=B.length) (by omega) with ⟨u1,u2⟩ | ⟨u1,u2⟩
   · rw [u2,show h + (i + B.length - h)=i + B.length by omega,Nat.add_mod_right,Nat.mod_eq_of_lt hi]
   · rw [u2,show h + (i + B.length - h - B.length)=i by omega,Nat.mod_eq_of_lt hi]
  have hoff:off12 B f t=decide (run12 B f (t + 1)≤d):=by
   rw [off12,← hid,← hhd,← hdd,h1];simp
  rw [hoff,plc_once12 ho hi h1,← hhd]
  rw [← hhd] at hh
  have hb:∀ m,m≤t→m≤d→way12 f B.length (t - m)=way12 h B.length (d - m):=by
   intro m hm hm2
   have e:(f + t) % B.length=(h + d) % B.length:=by
    have e1:(f + t) % B.length=i:=hid.symm
    have e2:(h + d) % B.length=i:=hwd
    rw [e1,e2]
   have:=mod_back12 (m:=m) (by omega) (by omega) e (by omega) (by omega)
   rw [way12,way12,show f + (t - m)=f + t - m by omega,show h + (d - m)=h + d - m by omega,this]
  constructor
  ·
   intro hlt
   have hlt:d < run12 B f (t + 1):=by simpa using hlt
   refine ⟨d,hd,hwd,fun j hj=>?_⟩
   have:=run_full12 (B:=B) (f:=f) (t:=t + 1) (j:=d - j) (by omega)
   rw [show t + 1 - 1 - (d - j)=t - (d - j) by omega,hb (d - j) (by omega) (by omega),show d - (d - j)=j by omega] at this
   exact this
  ·
   rintro ⟨d',hd',hk',hb'⟩
   have hdd':d'=d:=way_inj12 hh hd' hd (hk'.trans hwd.symm)
   subst hdd'
   rw [decide_eq_false_iff_not]
   intro hle
   have h2:=hrl.2
   rw [show t + 1 - 1 - run12 B f (t + 1)=t - run12 B f (t + 1) by omega,hb _ (by omega) hle] at h2
   exact hb' _ (by omega) h2
 rw [onw12,List.all_eq_true]
 simp only [List.mem_range,Bool.not_eq_true']
 constructor
 ·
  intro h i hi h1
  obtain ⟨t,ht,rfl⟩:=way_all12 hf hi
  exact (key t ht h1).1 (h t ht)
 ·
  intro h t ht
  by_cases h1:(at12 B (way12 f B.length t)).st=1
  · exact (key t ht h1).2 (h _ (way_lt12 f t hn) h1)
  · rw [off12];simp [h1]
def dst12 (L:List ByteArray):Nat→Nat
 | 0=>0
 | i + 1=>if (L.take i).any (fun y=>decide (y=L.getD i ⟨#[]⟩)) then dst12 L i else dst12 L i + 1
theorem dst_le12 (L:List ByteArray):∀ i,dst12 L i≤i
 | 0=>Nat.le_refl _
 | i + 1=>by
  rw [dst12]
  have:=dst_le12 L i
  split <;> omega
theorem dst_eq12 (L:List ByteArray):∀ i,dst12 L i=i↔∀ j,j < i→(L.take j).any (fun y=>decide (y=L.getD j ⟨#[]⟩))=false
 | 0=>⟨fun _ j hj=>absurd hj (Nat.not_lt_zero _),fun _=>rfl⟩
 | i + 1=>by
  rw [dst12]
  have hle:=dst_le12 L i
  by_cases h:(L.take i).any (fun y=>decide (y=L.getD i ⟨#[]⟩))=true
  ·
   rw [if_pos h]
   constructor
   · intro e;omega
   ·
    intro hj
    rw [hj i (by omega)] at h
    cases h
  ·
   rw [if_neg h]
   rw [Bool.not_eq_true] at h
   constructor
   ·
    intro e j hj
    by_cases hji:j=i
    · rw [hji];exact h
    · exact (dst_eq12 L i).1 (by omega) j (by omega)
   ·
    intro hj
    rw [(dst_eq12 L i).2 (fun j hji=>hj j (by omega))]
theorem once_pair12 {L:List ByteArray}:dst12 L L.length=L.length↔L.Pairwise fun a b=>a≠b:=by
 rw [dst_eq12,List.pairwise_iff_getElem]
 constructor
 ·
  intro h i j hi hj hij e
  have:=h j hj
  rw [List.any_eq_false] at this
  refine this L[i] ?_ ?_
  ·
   rw [List.mem_iff_getElem?]
   exact ⟨i,by rw [List.getElem?_take_of_lt hij,List.getElem?_eq_getElem hi]⟩
  · simp [List.getD_eq_getElem?_getD,List.getElem?_eq_getElem hj,e]
 ·
  intro h j hj
  rw [List.any_eq_false]
  intro y hy
  obtain ⟨i,hi⟩:=List.mem_iff_getElem?.1 hy
  have hl:=(List.getElem?_eq_some_iff.1 hi).1
  have hij:i < j:=by rw [List.length_take] at hl;omega
  rw [List.getElem?_take_of_lt hij,List.getElem?_eq_getElem (by omega)] at hi
  have:=h i j (by omega) hj hij
  simp only [Option.some.injEq] at hi
  rw [hi] at this
  simpa [List.getD_eq_getElem?_getD,List.getElem?_eq_getElem hj] using this
def labs12 (B:List Bkt12):List ByteArray:=(us12 B).map Bkt12.l
theorem pair_once12:∀ {B:List Bkt12},(labs12 B).Pairwise (fun a b=>a≠b)↔Once12 B
 | []=>by
  constructor
  · intro _ i j hi;exact absurd hi (Nat.not_lt_zero _)
  · intro _;exact List.Pairwise.nil
 | b :: r=>by
  have ih:=pair_once12 (B:=r)
  have hs:∀ i,at12 (b :: r) (i + 1)=at12 r i:=fun i=>rfl
  have hmem:∀ x,x ∈ labs12 r↔∃ i,i < r.length∧(at12 r i).st=1∧(at12 r i).l=x:=by
   intro x
   rw [labs12,List.mem_map]
   constructor
   ·
    rintro ⟨y,hy,rfl⟩
    obtain ⟨i,hi,e,h1⟩:=us_mem12.1 hy
    exact ⟨i,hi,by rw [e];exact h1,by rw [e]⟩
   ·
    rintro ⟨i,hi,h1,rfl⟩
    exact ⟨at12 r i,us_mem12.2 ⟨i,hi,rfl,h1⟩,rfl⟩
  by_cases h1:b.st=1
  ·
   have hl:labs12 (b :: r)=b.l :: labs12 r:=by simp [labs12,us12,h1]
   rw [hl,List.pairwise_cons,ih]
   constructor
   ·
    rintro ⟨ha,ho⟩ i j hi hj si sj e
    cases i with
    | zero =>
     cases j with
     | zero=>rfl
     | succ j =>
      refine absurd e (ha _ ((hmem _).2 ⟨j,by simpa using hj,sj,rfl⟩))
    | succ i =>
     cases j with
     | zero=>exact absurd e.symm (ha _ ((hmem _).2 ⟨i,by simpa using hi,si,rfl⟩))
     | succ j=>rw [ho i j (by simpa using hi) (by simpa using hj) si sj e]
   ·
    intro ho
    refine ⟨fun x hx e=>?_,fun i j hi hj si sj e=>?_⟩
    ·
     obtain ⟨i,hi,si,rfl⟩:=(hmem x).1 hx
     have:=ho 0 (i + 1) (by simp) (by simpa using hi) h1 si e
     omega
    ·
     have:=ho (i + 1) (j + 1) (by simpa using hi) (by simpa using hj) si sj e
     omega
  ·
   have hl:labs12 (b :: r)=labs12 r:=by simp [labs12,us12,h1]
   rw [hl,ih]
   constructor
   ·
    intro ho i j hi hj si sj e
    cases i with
    | zero=>exact absurd si h1
    | succ i =>
     cases j with
     | zero=>exact absurd sj h1
     | succ j=>rw [ho i j (by simpa using hi) (by simpa using hj) si sj e]
   ·
    intro ho i j hi hj si sj e
    have:=ho (i + 1) (j + 1) (by simpa using hi) (by simpa using hj) si sj e
    omega
def fre1st12 (B:List Bkt12):Nat:=B.findIdx fun b=>decide (b.st=0)
theorem fre1st_lt12 {B:List Bkt12} (h:0 < cnt12 B 0):fre1st12 B < B.length∧(at12 B (fre1st12 B)).st=0:=by
 obtain ⟨i,hi,h0⟩:=cnt_pos12 h
 have hlt:fre1st12 B < B.length:=by
  rw [fre1st12,List.findIdx_lt_length]
  exact ⟨at12 B i,by rw [at_get12 hi];exact List.getElem_mem hi,by simpa using h0⟩
 refine ⟨hlt,?_⟩
 have:=List.findIdx_getElem (p:=fun b:Bkt12=>decide (b.st=0)) (xs:=B) (w:=hlt)
 rw [at_get12 hlt]
 exact of_decide_eq_true this
theorem frm_all12 {B:List Bkt12} (h:B.all frm12=true) {i:Nat} (hi:i < B.length):frm12 (at12 B i)=true:=by
 rw [at_get12 hi]
 exact List.all_eq_true.1 h _ (List.getElem_mem hi)
theorem frm_st12 {b:Bkt12} (h:frm12 b=true):b.st=0∨b.st=1∨b.st=2:=by
 unfold frm12 at h
 split at h
 · exact .inr (.inl ‹_›)
 ·
  simp only [Bool.and_eq_true,Bool.or_eq_true,decide_eq_true_eq] at h
  rcases h.1 with h | h
  · exact .inl h
  · exact .inr (.inr h)
theorem size0_12 {l:ByteArray}:l.size=0↔l=⟨#[]⟩:=by
 constructor
 ·
  intro h
  obtain ⟨⟨d⟩⟩:=l
  have:d.length=0:=h
  cases d with
  | nil=>rfl
  | cons x r=>cases this
 · rintro rfl;rfl
structure Pre12 (s:Sto12):Prop where
 size:size12 (s.B.length:Int)=true
 frm:s.B.all frm12=true
 many:(cnt12 s.B 1:Int)=s.many
 gone:(cnt12 s.B 2:Int)=s.gone
 room:4 * (s.many + s.gone)≤3 * (s.B.length:Int)
theorem Rt12.pre {s:Sto12} (h:Rt12 s):Pre12 s:=by
 refine ⟨h.size,List.all_eq_true.2 fun b hb=>?_,h.many,h.gone,by have:=h.many;have:=h.gone;have:=h.room;omega⟩
 obtain ⟨i,hi⟩:=List.mem_iff_getElem?.1 hb
 have hl:=(List.getElem?_eq_some_iff.1 hi).1
 have hab:at12 s.B i=b:=by rw [at12,List.getD_eq_getElem?_getD,hi];rfl
 unfold frm12
 by_cases h1:b.st=1
 ·
  rw [if_pos h1]
  obtain ⟨u1,u2,_⟩:=h.ok.used i hl (by rw [hab];exact h1)
  rw [hab] at u1 u2
  simp [u1,u2]
 ·
  rw [if_neg h1]
  obtain ⟨u1,u2,u3⟩:=h.ok.not i hl (by rw [hab];exact h1)
  rw [hab] at u1 u2 u3
  rw [size0_12.2 u2,size0_12.2 u3]
  simpa using u1
theorem Pre12.free {s:Sto12} (h:Pre12 s):0 < cnt12 s.B 0:=by
 have:=cnt_all12 (B:=s.B) fun i hi=>frm_st12 (frm_all12 h.frm hi)
 have h1:=h.many
 have h2:=h.gone
 have h3:=h.room
 have h4:=(size_bd12 h.size).1
 omega
theorem right_prog12 {s:Sto12} (h:Pre12 s):right12 s=(!decide ((dst12 (labs12 s.B) (labs12 s.B).length:Int) < s.many) && onw12 s.B (fre1st12 s.B)):=by
 have hl:((labs12 s.B).length:Int)=s.many:=by rw [← h.many,labs12,List.length_map,us_len12]
 have hle:=dst_le12 (labs12 s.B) (labs12 s.B).length
 obtain ⟨f1,f2⟩:=fre1st_lt12 h.free
 rw [Bool.eq_iff_iff,right_iff12,Bool.and_eq_true,Bool.not_eq_true',decide_eq_false_iff_not]
 constructor
 ·
  intro hr
  have hp:(labs12 s.B).Pairwise fun a b=>a≠b:=by
   rw [labs12,List.pairwise_map];exact us_once12 hr.ok
  have ho:=pair_once12.1 hp
  refine ⟨by rw [once_pair12.2 hp];omega,(onw_iff12 f1 f2 ho).2 fun i hi h1=>(hr.ok.used i hi h1).2.2⟩
 ·
  rintro ⟨hd,hw⟩
  have hp:=once_pair12.1 (show dst12 (labs12 s.B) (labs12 s.B).length=(labs12 s.B).length by omega)
  have ho:=pair_once12.1 hp
  have hw:=(onw_iff12 f1 f2 ho).1 hw
  refine ⟨h.size,⟨fun i hi h1=>?_,fun i hi h1=>?_⟩,h.many,h.gone,by have:=h.many;have:=h.gone;have:=h.room;omega⟩
  ·
   have:=frm_all12 h.frm hi
   rw [frm12,if_pos h1] at this
   simp only [Bool.and_eq_true,decide_eq_true_eq] at this
   exact ⟨this.1,this.2,hw i hi h1⟩
  ·
   have:=frm_all12 h.frm hi
   rw [frm12,if_neg h1] at this
   simp only [Bool.and_eq_true,Bool.or_eq_true,decide_eq_true_eq] at this
   exact ⟨this.1,size0_12.1 this.2.1,size0_12.1 this.2.2⟩
theorem right_not12 {s:Sto12} (h:¬ Pre12 s):right12 s=false:=by
 rw [← Bool.not_eq_true,right_iff12]
 exact fun hr=>h hr.pre
end Go.Proofs.YtmggbbmpckcleaaGreat
