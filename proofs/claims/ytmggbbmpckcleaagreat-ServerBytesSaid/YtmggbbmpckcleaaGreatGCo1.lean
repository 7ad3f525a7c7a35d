import Derived.Test.YtmggbbmpckcleaaGreatGTp
import Derived.Test.YtmggbbmpckcleaaGreatGPl
set_option maxRecDepth 100000
set_option maxHeartbeats 16000000
namespace Go.Proofs.YtmggbbmpckcleaaGreat
open Go.RowKit
theorem eq_bt10 {s t:ByteArray} (h:s.size=t.size) (hb:∀ j,j < s.size→bt7 s j=bt7 t j):s=t:=by
 apply ByteArray.ext_getElem h
 intro i h1 h2
 have:=hb i h1
 rw [← bt7_get h1,← bt7_get h2] at this
 exact UInt8.toNat_inj.1 this
theorem bt_app_l10 {s t:ByteArray} {j:Nat} (h:j < s.size):bt7 (s ++ t) j=bt7 s j:=by
 rw [← bt7_get h,← bt7_get (show j < (s ++ t).size by rw [ByteArray.size_append];omega),ByteArray.getElem_append_left h]
theorem bt_app_r10 {s t:ByteArray} {j:Nat} (h:s.size≤j):bt7 (s ++ t) j=bt7 t (j - s.size):=by
 by_cases h2:j < (s ++ t).size
 ·
  have h3:j - s.size < t.size:=by rw [ByteArray.size_append] at h2;omega
  rw [← bt7_get h2,← bt7_get h3,ByteArray.getElem_append_right h]
 ·
  have h3:¬ j - s.size < t.size:=by rw [ByteArray.size_append] at h2;omega
  rw [bt7,dif_neg h2,bt7,dif_neg h3]
theorem bt_ex10 (s:ByteArray) {a b j:Nat} (h:j < b - a) (hb:b≤s.size):bt7 (s.extract a b) j=bt7 s (a + j):=bt7_extract s a b j h hb
theorem ex_size10 {s:ByteArray} {a b:Nat} (hb:b≤s.size):(s.extract a b).size=b - a:=by rw [ByteArray.size_extract];omega
theorem ex_app10 {s:ByteArray} {a b c:Nat} (h1:a≤b) (h2:b≤c) (h3:c≤s.size):s.extract a b ++ s.extract b c=s.extract a c:=by
 have e1:=ex_size10 (s:=s) (a:=a) (b:=b) (by omega)
 have e2:=ex_size10 (s:=s) (a:=b) (b:=c) h3
 have e3:=ex_size10 (s:=s) (a:=a) (b:=c) h3
 refine eq_bt10 (by rw [ByteArray.size_append];omega) fun j hj=>?_
 rw [ByteArray.size_append] at hj
 by_cases hl:j < b - a
 · rw [bt_app_l10 (by omega),bt_ex10 s hl (by omega),bt_ex10 s (by omega) h3]
 ·
  rw [bt_app_r10 (by omega),bt_ex10 s (by omega) h3,bt_ex10 s (by omega) h3]
  congr 1
  omega
theorem ex_mid10 (X s Y:ByteArray):(X ++ s ++ Y).extract X.size (X.size + s.size)=s:=by
 refine eq_bt10 (by rw [ex_size10 (by rw [ByteArray.size_append,ByteArray.size_append];omega)];omega) fun j hj=>?_
 rw [ex_size10 (by rw [ByteArray.size_append,ByteArray.size_append];omega)] at hj
 rw [bt_ex10 _ (by omega) (by rw [ByteArray.size_append,ByteArray.size_append];omega),bt_app_l10 (by rw [ByteArray.size_append];omega),bt_app_r10 (by omega)]
 congr 1
 omega
theorem ex_all10 (s:ByteArray):s.extract 0 s.size=s:=eq_bt10 (by rw [ex_size10 (Nat.le_refl _)];omega) fun j hj=>by
 rw [ex_size10 (Nat.le_refl _)] at hj
 rw [bt_ex10 s hj (Nat.le_refl _),Nat.zero_add]
theorem ex_none10 (s:ByteArray) (a:Nat):s.extract a a=⟨#[]⟩:=eq_bt10 (by rw [ByteArray.size_extract];show min a s.size - a=0;omega) fun j hj=>by rw [ByteArray.size_extract] at hj;omega
def fb10 (n:Int):List Int:=[n / 16777216 % 256,n / 65536 % 256,n / 256 % 256,n % 256]
def num10 (n:Int):ByteArray:=strOfNums (fb10 n)
theorem num_size10 (n:Int):(num10 n).size=4:=by rw [num10,strOfNums_size];rfl
theorem bt_nums10 (l:List Int) (hl:∀ x ∈ l,0≤x∧x < 256) (j:Nat) (hj:j < l.length):((bt7 (strOfNums l) j:Nat):Int)=l.getD j 0:=by
 have h:j < (strOfNums l).size:=by rw [strOfNums_size];exact hj
 have hx:=hl l[j] (List.getElem_mem hj)
 have e:(strOfNums l)[j]=UInt8.ofNat l[j].toNat:=by
  have e2:(strOfNums l).data.toList=l.map fun n=>UInt8.ofNat n.toNat:=strOfNums_data l
  have h2:j < (strOfNums l).data.toList.length:=by rw [e2,List.length_map];exact hj
  have e3:(strOfNums l).data.toList[j]=UInt8.ofNat l[j].toNat:=by simp only [e2,List.getElem_map]
  rw [← e3]
  rfl
 rw [← bt7_get h,e,UInt8.toNat_ofNat',List.getD_eq_getElem?_getD,List.getElem?_eq_getElem hj]
 show ((l[j].toNat % 256:Nat):Int)=l[j]
 omega
theorem fb_bd10 (n:Int):∀ x ∈ fb10 n,0≤x∧x < 256:=fun x hx=>by
 simp only [fb10,List.mem_cons,List.not_mem_nil,or_false] at hx
 rcases hx with rfl | rfl | rfl | rfl <;> omega
theorem bt_num10 (n:Int):((bt7 (num10 n) 0:Nat):Int)=n / 16777216 % 256∧((bt7 (num10 n) 1:Nat):Int)=n / 65536 % 256∧((bt7 (num10 n) 2:Nat):Int)=n / 256 % 256∧((bt7 (num10 n) 3:Nat):Int)=n % 256 :=
 ⟨bt_nums10 _ (fb_bd10 n) 0 (by show 0 < 4;omega),bt_nums10 _ (fb_bd10 n) 1 (by show 1 < 4;omega),bt_nums10 _ (fb_bd10 n) 2 (by show 2 < 4;omega),bt_nums10 _ (fb_bd10 n) 3 (by show 3 < 4;omega)⟩
def rd10 (B:ByteArray) (j:Nat):Nat:=16777216 * bt7 B j + 65536 * bt7 B (j + 1) + 256 * bt7 B (j + 2) + bt7 B (j + 3)
theorem rd_lt10 (B:ByteArray) (j:Nat):rd10 B j < 4294967296:=by
 have h0:=bt7_lt B j
 have h1:=bt7_lt B (j + 1)
 have h2:=bt7_lt B (j + 2)
 have h3:=bt7_lt B (j + 3)
 rw [rd10];omega
theorem rd_num10 (X Y:ByteArray) {n:Int} (h0:0≤n) (h1:n < 4294967296):((rd10 (X ++ num10 n ++ Y) X.size:Nat):Int)=n:=by
 have hs:=num_size10 n
 have hz:∀ k,k < 4→bt7 (X ++ num10 n ++ Y) (X.size + k)=bt7 (num10 n) k:=fun k hk=>by
  rw [bt_app_l10 (by rw [ByteArray.size_append];omega),bt_app_r10 (by omega)]
  congr 1
  omega
 obtain ⟨e0,e1,e2,e3⟩:=bt_num10 n
 rw [rd10,hz 1 (by omega),hz 2 (by omega),hz 3 (by omega),show bt7 (X ++ num10 n ++ Y) X.size=bt7 (num10 n) 0 from hz 0 (by omega)]
 omega
theorem num_rd10 {B:ByteArray} {j:Nat} (h:j + 4≤B.size):num10 (rd10 B j)=B.extract j (j + 4):=by
 obtain ⟨e0,e1,e2,e3⟩:=bt_num10 (rd10 B j)
 have h0:=bt7_lt B j
 have h1:=bt7_lt B (j + 1)
 have h2:=bt7_lt B (j + 2)
 have h3:=bt7_lt B (j + 3)
 have hr:(rd10 B j:Int)=16777216 * bt7 B j + 65536 * bt7 B (j + 1) + 256 * bt7 B (j + 2) + bt7 B (j + 3):=by rw [rd10];omega
 refine eq_bt10 (by rw [num_size10,ex_size10 h];omega) fun k hk=>?_
 rw [num_size10] at hk
 rw [bt_ex10 B (by omega) h]
 rcases (by omega:k=0∨k=1∨k=2∨k=3) with rfl | rfl | rfl | rfl
 ·
  show _=bt7 B j
  omega
 · omega
 · omega
 · omega
def txt10 (s:ByteArray):ByteArray:=num10 (s.size:Int) ++ s
def cat10 (l:List ByteArray):ByteArray:=l.foldl (fun o s=>o ++ txt10 s) ⟨#[]⟩
def lst10 (l:List ByteArray):ByteArray:=num10 (l.length:Int) ++ cat10 l
theorem txt_size10 (s:ByteArray):(txt10 s).size=4 + s.size:=by rw [txt10,ByteArray.size_append,num_size10]
theorem fold_app10 (l:List ByteArray):∀ o:ByteArray,l.foldl (fun o s=>o ++ txt10 s) o=o ++ cat10 l:=by
 induction l with
 | nil=>intro o;show o=o ++ ⟨#[]⟩;exact (ByteArray.append_empty).symm
 | cons s r ih =>
  intro o
  rw [cat10,List.foldl_cons,ih,List.foldl_cons,ih,← ByteArray.append_assoc]
  congr 1
theorem cat_cons10 (s:ByteArray) (r:List ByteArray):cat10 (s :: r)=txt10 s ++ cat10 r:=by
 rw [cat10,List.foldl_cons,fold_app10,show (⟨#[]⟩:ByteArray) ++ txt10 s=txt10 s from ByteArray.empty_append]
theorem cat_app10 (l r:List ByteArray):cat10 (l ++ r)=cat10 l ++ cat10 r:=by rw [cat10,List.foldl_append,fold_app10];rfl
theorem cat_snoc10 (l:List ByteArray) (s:ByteArray):cat10 (l ++ [s])=cat10 l ++ txt10 s:=by
 rw [cat10,List.foldl_append];rfl
theorem cat_size10 (l:List ByteArray):4 * l.length≤(cat10 l).size∧∀ s ∈ l,s.size + 4≤(cat10 l).size:=by
 induction l with
 | nil=>exact ⟨Nat.zero_le _,fun s hs=>(by cases hs)⟩
 | cons s r ih =>
  rw [cat_cons10,ByteArray.size_append,txt_size10,List.length_cons]
  refine ⟨by omega,fun t ht=>?_⟩
  rcases List.mem_cons.1 ht with rfl | h
  · omega
  · have:=ih.2 t h;omega
theorem lst_size10 (l:List ByteArray):(lst10 l).size=4 + (cat10 l).size:=by rw [lst10,ByteArray.size_append,num_size10]
def numE10 (n:Int):Bool:=decide (0≤n) && decide (n≤2147483647)
def numV10 (n:Int):ByteArray × Int:=if numE10 n then (num10 n,0) else (⟨#[]⟩,1)
def txtV10 (s:ByteArray):ByteArray × Int:=if s.size≤65536 then (txt10 s,0) else (⟨#[]⟩,2)
def lstV10 (l:List ByteArray):ByteArray × Int:=if l.length≤1000∧(lst10 l).size≤65536 then (lst10 l,0) else (⟨#[]⟩,2)
def tnV10 (B:ByteArray) (a:Int):Int × Int × Int :=
 if rightV B a then (if (B.size:Int) - a < 4 then (0,a,10) else if 2147483647 < (rd10 B a.toNat:Int) then (0,a,13) else ((rd10 B a.toNat:Int),a + 4,0)) else (0,a,1)
def ttV10 (B:ByteArray) (a:Int):ByteArray × Int × Int :=
 if (tnV10 B a).2.2=0 then (if (B.size:Int) - (a + 4) < (tnV10 B a).1 then (⟨#[]⟩,a,10) else (B.extract (a + 4).toNat (a + 4 + (tnV10 B a).1).toNat,a + 4 + (tnV10 B a).1,0)) else (⟨#[]⟩,a,(tnV10 B a).2.2)
def tks10 (B:ByteArray):Nat→Int→List ByteArray × Int × Int
 | 0,a=>([],a,0)
 | k + 1,a=>if (tks10 B k a).2.2=0 then (if (ttV10 B (tks10 B k a).2.1).2.2=0 then ((tks10 B k a).1 ++ [(ttV10 B (tks10 B k a).2.1).1],(ttV10 B (tks10 B k a).2.1).2.1,0) else ((tks10 B k a).1,(tks10 B k a).2.1,(ttV10 B (tks10 B k a).2.1).2.2)) else tks10 B k a
def tlV10 (B:ByteArray) (a:Int):List ByteArray × Int × Int :=
 if (tnV10 B a).2.2=0 then (if 1000 < (tnV10 B a).1 then ([],a,13) else if (tks10 B (tnV10 B a).1.toNat (a + 4)).2.2=0 then tks10 B (tnV10 B a).1.toNat (a + 4) else ([],a,(tks10 B (tnV10 B a).1.toNat (a + 4)).2.2)) else ([],a,(tnV10 B a).2.2)
def endV10 (B:ByteArray) (a:Int):Int:=if rightV B a then (if a < (B.size:Int) then 13 else 0) else 1
section
variable {B:ByteArray} {a:Int}
structure Tn10 (B:ByteArray) (a n:Int):Prop where
 right:B.size≤65536∧0≤a∧a + 4≤(B.size:Int)
 val:n=(rd10 B a.toNat:Int)
 bd:0≤n∧n≤2147483647
 bytes:num10 n=B.extract a.toNat (a + 4).toNat
theorem tn_ok10 (h:(tnV10 B a).2.2=0):Tn10 B a (tnV10 B a).1∧(tnV10 B a).2.1=a + 4:=by
 unfold tnV10 at h ⊢
 split at h
 ·
  rename_i hr
  rw [if_pos hr]
  have hR:=rightV_iff.1 hr
  split at h
  · exact absurd (show (10:Int)=0 from h) (by decide)
  ·
   rename_i h4
   rw [if_neg h4]
   split at h
   · exact absurd (show (13:Int)=0 from h) (by decide)
   ·
    rename_i h31
    rw [if_neg h31]
    refine ⟨⟨⟨hR.1,hR.2.1,by omega⟩,rfl,⟨by show (0:Int)≤(rd10 B a.toNat:Int);omega,by show (rd10 B a.toNat:Int)≤_;omega⟩,?_⟩,rfl⟩
    show num10 (rd10 B a.toNat:Int)=_
    rw [num_rd10 (by omega)]
    congr 1
    omega
 · exact absurd (show (1:Int)=0 from h) (by decide)
theorem tn_of10 {n:Int} (h1:B.size≤65536) (h2:0≤a) (h3:a + 4≤(B.size:Int)) (hn:(rd10 B a.toNat:Int)=n) (h4:n≤2147483647):tnV10 B a=(n,a + 4,0):=by
 rw [tnV10,if_pos (rightV_iff.2 ⟨h1,h2,by omega⟩),if_neg (by omega),hn,if_neg (by omega)]
theorem tn_keep10 (h:(tnV10 B a).2.2≠0):tnV10 B a=(0,a,(tnV10 B a).2.2):=by
 revert h
 unfold tnV10
 repeat' split
 all_goals first | (intro h;rfl) | (intro h;exact absurd rfl h)
structure Tt10 (B:ByteArray) (a:Int) (s:ByteArray) (b:Int):Prop where
 right:B.size≤65536∧0≤a∧b≤(B.size:Int)
 num:(tnV10 B a)=((s.size:Int),a + 4,0)
 to:b=a + 4 + (s.size:Int)
 text:s=B.extract (a + 4).toNat b.toNat
 bytes:txt10 s=B.extract a.toNat b.toNat
theorem tt_ok10 (h:(ttV10 B a).2.2=0):Tt10 B a (ttV10 B a).1 (ttV10 B a).2.1:=by
 unfold ttV10 at h ⊢
 split at h
 ·
  rename_i hn
  rw [if_pos hn]
  obtain ⟨hN,hb⟩:=tn_ok10 hn
  have hq:tnV10 B a=((tnV10 B a).1,a + 4,0):=Prod.ext rfl (Prod.ext hb hn)
  generalize (tnV10 B a).1=n at *
  have h1:=hN.right
  have h2:=hN.bd
  split at h
  · exact absurd (show (10:Int)=0 from h) (by decide)
  ·
   rename_i hs
   rw [if_neg hs]
   have hz:(B.extract (a + 4).toNat (a + 4 + n).toNat).size=n.toNat:=by rw [ex_size10 (by omega)];omega
   have hz2:((B.extract (a + 4).toNat (a + 4 + n).toNat).size:Int)=n:=by rw [hz];omega
   refine ⟨⟨h1.1,h1.2.1,by show a + 4 + n≤(B.size:Int);omega⟩,?_,?_,rfl,?_⟩
   ·
    show tnV10 B a=(((B.extract (a + 4).toNat (a + 4 + n).toNat).size:Int),a + 4,0)
    rw [hz2,hq]
   ·
    show a + 4 + n=a + 4 + ((B.extract (a + 4).toNat (a + 4 + n).toNat).size:Int)
    rw [hz2]
   ·
    show txt10 (B.extract (a + 4).toNat (a + 4 + n).toNat)=B.extract a.toNat (a + 4 + n).toNat
    rw [txt10,hz2,hN.bytes]
    exact ex_app10 (by omega) (by omega) (by omega)
 ·
  rename_i hn
  exact absurd h hn
theorem tt_of10 {n:Int} (hn:tnV10 B a=(n,a + 4,0)) (hs:a + 4 + n≤(B.size:Int)):ttV10 B a=(B.extract (a + 4).toNat (a + 4 + n).toNat,a + 4 + n,0):=by
 rw [ttV10,hn]
 show (if (0:Int)=0 then _ else _)=_
 rw [if_pos rfl]
 show (if (B.size:Int) - (a + 4) < n then _ else _)=_
 rw [if_neg (by omega)]
theorem tt_short10 {n:Int} (hn:tnV10 B a=(n,a + 4,0)) (hs:(B.size:Int) < a + 4 + n):ttV10 B a=(⟨#[]⟩,a,10):=by
 rw [ttV10,hn]
 show (if (0:Int)=0 then _ else _)=_
 rw [if_pos rfl]
 show (if (B.size:Int) - (a + 4) < n then _ else _)=_
 rw [if_pos (by omega)]
theorem tt_num10 (hn:(tnV10 B a).2.2≠0):ttV10 B a=(⟨#[]⟩,a,(tnV10 B a).2.2):=by rw [ttV10,if_neg hn]
theorem tt_keep10 (h:(ttV10 B a).2.2≠0):ttV10 B a=(⟨#[]⟩,a,(ttV10 B a).2.2):=by
 revert h
 unfold ttV10
 repeat' split
 all_goals first | (intro h;rfl) | (intro h;exact absurd rfl h)
structure Tk10 (B:ByteArray) (k:Nat) (a:Int) (l:List ByteArray) (b:Int):Prop where
 right:b≤(B.size:Int)
 ahead:a + 4 * (k:Int)≤b
 len:l.length=k
 bytes:cat10 l=B.extract a.toNat b.toNat
theorem tks_ok10 (ha:0≤a) (hB:a≤(B.size:Int)):∀ k,(tks10 B k a).2.2=0→Tk10 B k a (tks10 B k a).1 (tks10 B k a).2.1
 | 0,_=>⟨hB,by show a + 4 * ((0:Nat):Int)≤a;omega,rfl,by show (⟨#[]⟩:ByteArray)=B.extract a.toNat a.toNat;rw [ex_none10]⟩
 | k + 1,h=>by
  unfold tks10 at h ⊢
  split at h
  ·
   rename_i hk
   rw [if_pos hk]
   have ih:=tks_ok10 ha hB k hk
   generalize tks10 B k a=r at *
   obtain ⟨l,p,er⟩:=r
   dsimp only at *
   split at h
   ·
    rename_i ht
    rw [if_pos ht]
    have hT:=tt_ok10 ht
    generalize ttV10 B p=t at *
    obtain ⟨s,b,e2⟩:=t
    dsimp only at *
    have h1:=hT.right
    have h2:=hT.to
    have h3:=ih.ahead
    refine ⟨h1.2.2,by omega,by rw [List.length_append,ih.len];rfl,?_⟩
    rw [cat_snoc10,ih.bytes,hT.bytes]
    exact ex_app10 (by omega) (by omega) (by omega)
   ·
    rename_i ht
    exact absurd h ht
  ·
   rename_i hk
   exact absurd h hk
structure Tl10 (B:ByteArray) (a:Int) (l:List ByteArray) (b:Int):Prop where
 right:B.size≤65536∧0≤a∧b≤(B.size:Int)
 few:l.length≤1000
 num:tnV10 B a=((l.length:Int),a + 4,0)
 texts:tks10 B l.length (a + 4)=(l,b,0)
 ahead:a + 4 + 4 * (l.length:Int)≤b
 bytes:lst10 l=B.extract a.toNat b.toNat
theorem tl_ok10 (h:(tlV10 B a).2.2=0):Tl10 B a (tlV10 B a).1 (tlV10 B a).2.1:=by
 unfold tlV10 at h ⊢
 split at h
 ·
  rename_i hn
  rw [if_pos hn]
  obtain ⟨hN,hb⟩:=tn_ok10 hn
  have hq:tnV10 B a=((tnV10 B a).1,a + 4,0):=Prod.ext rfl (Prod.ext hb hn)
  generalize (tnV10 B a).1=n at *
  have h1:=hN.right
  have h2:=hN.bd
  split at h
  · exact absurd (show (13:Int)=0 from h) (by decide)
  ·
   rename_i hk
   rw [if_neg hk]
   split at h
   ·
    rename_i ht
    rw [if_pos ht]
    have hT:=tks_ok10 (a:=a + 4) (by omega) (by omega) n.toNat ht
    have hr:tks10 B n.toNat (a + 4)=((tks10 B n.toNat (a + 4)).1,(tks10 B n.toNat (a + 4)).2.1,0):=Prod.ext rfl (Prod.ext rfl ht)
    generalize (tks10 B n.toNat (a + 4)).1=l at *
    generalize (tks10 B n.toNat (a + 4)).2.1=b at *
    have hl:=hT.len
    have hl2:(l.length:Int)=n:=by omega
    have h3:=hT.ahead
    refine ⟨⟨h1.1,h1.2.1,hT.right⟩,?_,?_,?_,?_,?_⟩
    · show l.length≤1000;omega
    · show tnV10 B a=((l.length:Int),a + 4,0);rw [hl2,hq]
    · show tks10 B l.length (a + 4)=(l,b,0);rw [hl,hr]
    · show a + 4 + 4 * (l.length:Int)≤b;omega
    ·
     show lst10 l=B.extract a.toNat b.toNat
     have h4:=hT.right
     rw [lst10,hl2,hN.bytes,hT.bytes]
     exact ex_app10 (by omega) (by omega) (by omega)
   ·
    rename_i ht
    exact absurd h ht
 ·
  rename_i hn
  exact absurd h hn
theorem tl_keep10 (h:(tlV10 B a).2.2≠0):tlV10 B a=([],a,(tlV10 B a).2.2):=by
 revert h
 unfold tlV10
 repeat' split
 all_goals first | (intro h;rfl) | (intro h;exact absurd rfl h) | (rename_i h1;intro h;exact absurd h1 h)
theorem Tt10.again {s:ByteArray} {b:Int} (h:Tt10 B a s b):txtV10 s=(B.extract a.toNat b.toNat,0):=by
 have h1:=h.right
 have h2:=h.to
 rw [txtV10,if_pos (by omega),h.bytes]
theorem Tl10.again {l:List ByteArray} {b:Int} (h:Tl10 B a l b):lstV10 l=(B.extract a.toNat b.toNat,0):=by
 have h1:=h.right
 have h2:=h.ahead
 rw [lstV10,if_pos ⟨h.few,by rw [h.bytes,ex_size10 (by omega)];omega⟩,h.bytes]
end
end Go.Proofs.YtmggbbmpckcleaaGreat
namespace Go.Proofs.YtmggbbmpckcleaaGreat
open Go.RowKit
theorem tn_app10 (X Y:ByteArray) {n:Int} (hn:0≤n∧n≤2147483647) (hz:(X ++ num10 n ++ Y).size≤65536):tnV10 (X ++ num10 n ++ Y) (X.size:Int)=(n,(X.size:Int) + 4,0):=by
 have hs:=num_size10 n
 refine tn_of10 hz (by omega) (by rw [ByteArray.size_append,ByteArray.size_append];omega) ?_ hn.2
 rw [show ((X.size:Int)).toNat=X.size by omega]
 exact rd_num10 X Y hn.1 (by omega)
theorem tt_app10 (X s Y:ByteArray) (hz:(X ++ txt10 s ++ Y).size≤65536):ttV10 (X ++ txt10 s ++ Y) (X.size:Int)=(s,(X.size:Int) + 4 + (s.size:Int),0):=by
 have hs:=num_size10 (s.size:Int)
 have e1:X ++ txt10 s ++ Y=X ++ num10 (s.size:Int) ++ (s ++ Y):=by rw [txt10];simp only [ByteArray.append_assoc]
 have e2:X ++ txt10 s ++ Y=(X ++ num10 (s.size:Int)) ++ s ++ Y:=by rw [txt10];simp only [ByteArray.append_assoc]
 have hz2:=hz
 rw [ByteArray.size_append,ByteArray.size_append,txt_size10] at hz2
 have hn:tnV10 (X ++ txt10 s ++ Y) (X.size:Int)=((s.size:Int),(X.size:Int) + 4,0):=by
  rw [e1]
  refine tn_app10 X (s ++ Y) (by omega) ?_
  rw [← e1]
  exact hz
 rw [tt_of10 hn (by rw [ByteArray.size_append,ByteArray.size_append,txt_size10];omega)]
 have e3:((X.size:Int) + 4).toNat=(X ++ num10 (s.size:Int)).size:=by rw [ByteArray.size_append,hs];omega
 have e4:((X.size:Int) + 4 + (s.size:Int)).toNat=(X ++ num10 (s.size:Int)).size + s.size:=by rw [ByteArray.size_append,hs];omega
 rw [e3,e4]
 refine Prod.ext ?_ rfl
 show (X ++ txt10 s ++ Y).extract _ _=s
 rw [e2]
 exact ex_mid10 _ _ _
theorem tks_app10 (X Y:ByteArray):∀ (r l:List ByteArray),(X ++ cat10 (l ++ r) ++ Y).size≤65536→tks10 (X ++ cat10 (l ++ r) ++ Y) l.length (X.size:Int)=(l,(X.size:Int) + ((cat10 l).size:Int),0) →
  tks10 (X ++ cat10 (l ++ r) ++ Y) (l ++ r).length (X.size:Int)=(l ++ r,(X.size:Int) + ((cat10 (l ++ r)).size:Int),0)
 | [],l,_,h=>by rw [List.append_nil] at h ⊢;exact h
 | s :: r,l,hz,h=>by
  have e:l ++ s :: r=(l ++ [s]) ++ r:=by simp
  rw [e] at hz h ⊢
  refine tks_app10 X Y r (l ++ [s]) hz ?_
  have e2:X ++ cat10 ((l ++ [s]) ++ r) ++ Y=(X ++ cat10 l) ++ txt10 s ++ (cat10 r ++ Y):=by rw [cat_app10,cat_snoc10];simp only [ByteArray.append_assoc]
  have ht:=tt_app10 (X ++ cat10 l) s (cat10 r ++ Y) (by rw [← e2];exact hz)
  rw [← e2] at ht
  have e3:(((X ++ cat10 l).size:Nat):Int)=(X.size:Int) + ((cat10 l).size:Int):=by rw [ByteArray.size_append];omega
  rw [e3] at ht
  have hl:(l ++ [s]).length=l.length + 1:=by simp
  rw [hl,tks10,h]
  show (if (0:Int)=0 then _ else _)=_
  rw [if_pos rfl]
  show (if (ttV10 _ ((X.size:Int) + ((cat10 l).size:Int))).2.2=0 then _ else _)=_
  rw [ht]
  show (if (0:Int)=0 then _ else _)=_
  rw [if_pos rfl]
  refine Prod.ext rfl (Prod.ext ?_ rfl)
  show (X.size:Int) + ((cat10 l).size:Int) + 4 + (s.size:Int)=(X.size:Int) + ((cat10 (l ++ [s])).size:Int)
  rw [cat_snoc10,ByteArray.size_append,txt_size10]
  omega
theorem tl_app10 (X:ByteArray) (l:List ByteArray) (Y:ByteArray) (hl:l.length≤1000) (hz:(X ++ lst10 l ++ Y).size≤65536):tlV10 (X ++ lst10 l ++ Y) (X.size:Int)=(l,(X.size:Int) + ((lst10 l).size:Int),0):=by
 have hs:=num_size10 (l.length:Int)
 have e1:X ++ lst10 l ++ Y=X ++ num10 (l.length:Int) ++ (cat10 l ++ Y):=by rw [lst10];simp only [ByteArray.append_assoc]
 have e2:X ++ lst10 l ++ Y=(X ++ num10 (l.length:Int)) ++ cat10 ([] ++ l) ++ Y:=by rw [lst10];simp only [ByteArray.append_assoc,List.nil_append]
 have hn:tnV10 (X ++ lst10 l ++ Y) (X.size:Int)=((l.length:Int),(X.size:Int) + 4,0):=by
  rw [e1]
  refine tn_app10 X (cat10 l ++ Y) (by omega) ?_
  rw [← e1]
  exact hz
 have e3:(((X ++ num10 (l.length:Int)).size:Nat):Int)=(X.size:Int) + 4:=by rw [ByteArray.size_append,hs];omega
 have ht:=tks_app10 (X ++ num10 (l.length:Int)) Y l [] (by rw [← e2];exact hz) (by rw [e3];show (([]:List ByteArray),(X.size:Int) + 4,(0:Int))=([],(X.size:Int) + 4 + ((0:Nat):Int),0);simp)
 rw [← e2,e3,List.nil_append] at ht
 rw [tlV10,hn]
 show (if (0:Int)=0 then _ else _)=_
 rw [if_pos rfl]
 show (if 1000 < (l.length:Int) then _ else _)=_
 rw [if_neg (by omega)]
 show (if (tks10 _ ((l.length:Int)).toNat ((X.size:Int) + 4)).2.2=0 then _ else _)=_
 rw [show ((l.length:Int)).toNat=l.length by omega,ht]
 show (if (0:Int)=0 then _ else _)=_
 rw [if_pos rfl,lst_size10]
 refine Prod.ext rfl (Prod.ext ?_ rfl)
 show (X.size:Int) + 4 + ((cat10 l).size:Int)=(X.size:Int) + ((4 + (cat10 l).size:Nat):Int)
 omega
section
variable {B:ByteArray} {a b:Int} {m:Nat} (hm:m≤B.size)
include hm
end
end Go.Proofs.YtmggbbmpckcleaaGreat
namespace Go.Proofs.YtmggbbmpckcleaaGreat
open Go.RowKit
theorem ex_sh10 {B:ByteArray} {x p q:Nat} (h1:x + q≤B.size):(B.extract x B.size).extract p q=B.extract (x + p) (x + q):=by
 have e0:=ex_size10 (s:=B) (a:=x) (b:=B.size) (Nat.le_refl _)
 refine eq_bt10 (by rw [ex_size10 (by omega),ex_size10 h1];omega) fun j hj=>?_
 rw [ex_size10 (by omega)] at hj
 rw [bt_ex10 _ hj (by omega),bt_ex10 B (by omega) (Nat.le_refl _),bt_ex10 B (by omega) h1]
 congr 1
 omega
section
variable {B:ByteArray} {x:Nat} (hx:x≤B.size) (hB:B.size≤65536)
include hx hB
theorem tn_sh10 {a:Int} (ha:0≤a):tnV10 (B.extract x B.size) a=((tnV10 B ((x:Int) + a)).1,(tnV10 B ((x:Int) + a)).2.1 - x,(tnV10 B ((x:Int) + a)).2.2):=by
 have e0:=ex_size10 (s:=B) (a:=x) (b:=B.size) (Nat.le_refl _)
 have hr:rightV (B.extract x B.size) a=rightV B ((x:Int) + a):=by
  rw [Bool.eq_iff_iff,rightV_iff,rightV_iff];omega
 unfold tnV10
 rw [hr]
 by_cases h:rightV B ((x:Int) + a)=true
 ·
  have h2:=rightV_iff.1 h
  rw [if_pos h,if_pos h]
  by_cases h4:(B.size:Int) - ((x:Int) + a) < 4
  ·
   rw [if_pos (by omega),if_pos h4]
   refine Prod.ext rfl (Prod.ext ?_ rfl)
   show a=(x:Int) + a - x
   omega
  ·
   rw [if_neg (by omega),if_neg h4]
   have hrd:rd10 (B.extract x B.size) a.toNat=rd10 B ((x:Int) + a).toNat:=by
    have ee:∀ k,k < 4→bt7 (B.extract x B.size) (a.toNat + k)=bt7 B (((x:Int) + a).toNat + k):=fun k hk=>by
     rw [bt_ex10 B (by omega) (Nat.le_refl _)]
     congr 1
     omega
    rw [rd10,rd10,ee 1 (by omega),ee 2 (by omega),ee 3 (by omega),show bt7 (B.extract x B.size) a.toNat=bt7 B ((x:Int) + a).toNat from ee 0 (by omega)]
   rw [hrd]
   by_cases h5:2147483647 < (rd10 B ((x:Int) + a).toNat:Int)
   ·
    simp only [if_pos h5]
    refine Prod.ext rfl (Prod.ext ?_ rfl)
    show a=(x:Int) + a - x
    omega
   ·
    simp only [if_neg h5]
    refine Prod.ext rfl (Prod.ext ?_ rfl)
    show a + 4=(x:Int) + a + 4 - x
    omega
 ·
  rw [if_neg h,if_neg h]
  refine Prod.ext rfl (Prod.ext ?_ rfl)
  show a=(x:Int) + a - x
  omega
theorem tt_sh10 {a:Int} (ha:0≤a):ttV10 (B.extract x B.size) a=((ttV10 B ((x:Int) + a)).1,(ttV10 B ((x:Int) + a)).2.1 - x,(ttV10 B ((x:Int) + a)).2.2):=by
 have e0:=ex_size10 (s:=B) (a:=x) (b:=B.size) (Nat.le_refl _)
 have hn:=tn_sh10 hx hB ha
 by_cases h0:(tnV10 B ((x:Int) + a)).2.2=0
 ·
  obtain ⟨hN,hb⟩:=tn_ok10 h0
  have hq:tnV10 B ((x:Int) + a)=((tnV10 B ((x:Int) + a)).1,(x:Int) + a + 4,0):=Prod.ext rfl (Prod.ext hb h0)
  have h1:=hN.right
  have h2:=hN.bd
  rw [hb,h0,show (x:Int) + a + 4 - x=a + 4 by omega] at hn
  generalize (tnV10 B ((x:Int) + a)).1=n at *
  by_cases hs:(x:Int) + a + 4 + n≤(B.size:Int)
  ·
   rw [tt_of10 hn (by omega),tt_of10 hq hs]
   refine Prod.ext ?_ (Prod.ext ?_ rfl)
   ·
    show (B.extract x B.size).extract (a + 4).toNat (a + 4 + n).toNat=B.extract ((x:Int) + a + 4).toNat ((x:Int) + a + 4 + n).toNat
    rw [ex_sh10 (by omega),show x + (a + 4).toNat=((x:Int) + a + 4).toNat by omega,show x + (a + 4 + n).toNat=((x:Int) + a + 4 + n).toNat by omega]
   ·
    show a + 4 + n=(x:Int) + a + 4 + n - x
    omega
  ·
   rw [tt_short10 hn (by omega),tt_short10 hq (by omega)]
   refine Prod.ext rfl (Prod.ext ?_ rfl)
   show a=(x:Int) + a - x
   omega
 ·
  rw [tt_num10 h0,tt_num10 (by rw [hn];exact h0),hn]
  refine Prod.ext rfl (Prod.ext ?_ rfl)
  show a=(x:Int) + a - x
  omega
theorem tks_sh10 {a:Int} (ha:0≤a) (ha2:(x:Int) + a≤(B.size:Int)):∀ k,tks10 (B.extract x B.size) k a=((tks10 B k ((x:Int) + a)).1,(tks10 B k ((x:Int) + a)).2.1 - x,(tks10 B k ((x:Int) + a)).2.2)
 | 0=>by
  refine Prod.ext rfl (Prod.ext ?_ rfl)
  show a=(x:Int) + a - x
  omega
 | k + 1=>by
  have ih:=tks_sh10 ha ha2 k
  by_cases h0:(tks10 B k ((x:Int) + a)).2.2=0
  ·
   have hT:=tks_ok10 (a:=(x:Int) + a) (by omega) ha2 k h0
   have h3:=hT.ahead
   have ht:=tt_sh10 hx hB (a:=(tks10 B k ((x:Int) + a)).2.1 - x) (by omega)
   rw [show (x:Int) + ((tks10 B k ((x:Int) + a)).2.1 - x)=(tks10 B k ((x:Int) + a)).2.1 by omega] at ht
   rw [tks10,tks10,if_pos h0,if_pos (by rw [ih];exact h0),ih]
   show (if (ttV10 _ ((tks10 B k ((x:Int) + a)).2.1 - x)).2.2=0 then ((tks10 B k ((x:Int) + a)).1 ++ [(ttV10 _ ((tks10 B k ((x:Int) + a)).2.1 - x)).1],(ttV10 _ ((tks10 B k ((x:Int) + a)).2.1 - x)).2.1,0) else ((tks10 B k ((x:Int) + a)).1,(tks10 B k ((x:Int) + a)).2.1 - x,(ttV10 _ ((tks10 B k ((x:Int) + a)).2.1 - x)).2.2))=_
   rw [ht]
   show (if (ttV10 B (tks10 B k ((x:Int) + a)).2.1).2.2=0 then _ else _)=_
   by_cases h1:(ttV10 B (tks10 B k ((x:Int) + a)).2.1).2.2=0
   · rw [if_pos h1,if_pos h1]
   · rw [if_neg h1,if_neg h1]
  · rw [tks10,tks10,if_neg h0,if_neg (by rw [ih];exact h0),ih]
theorem tl_sh10:tlV10 (B.extract x B.size) 0=((tlV10 B (x:Int)).1,(tlV10 B (x:Int)).2.1 - x,(tlV10 B (x:Int)).2.2):=by
 have hn:=tn_sh10 hx hB (a:=0) (Int.le_refl _)
 rw [Int.add_zero] at hn
 by_cases h0:(tnV10 B (x:Int)).2.2=0
 ·
  obtain ⟨hN,hb⟩:=tn_ok10 h0
  have h1:=hN.right
  have h2:=hN.bd
  have hs:=tks_sh10 hx hB (a:=4) (by omega) h1.2.2 (tnV10 B (x:Int)).1.toNat
  rw [tlV10,tlV10,if_pos h0,if_pos (by rw [hn];exact h0),hn]
  show (if 1000 < (tnV10 B (x:Int)).1 then _ else if (tks10 _ (tnV10 B (x:Int)).1.toNat (0 + 4)).2.2=0 then tks10 _ (tnV10 B (x:Int)).1.toNat (0 + 4) else ([],0,(tks10 _ (tnV10 B (x:Int)).1.toNat (0 + 4)).2.2))=_
  rw [Int.zero_add,hs]
  show (if 1000 < (tnV10 B (x:Int)).1 then _ else if (tks10 B (tnV10 B (x:Int)).1.toNat ((x:Int) + 4)).2.2=0 then _ else ([],0,(tks10 B (tnV10 B (x:Int)).1.toNat ((x:Int) + 4)).2.2))=_
  split
  ·
   refine Prod.ext rfl (Prod.ext ?_ rfl)
   show (0:Int)=x - x
   omega
  ·
   split
   · rfl
   ·
    refine Prod.ext rfl (Prod.ext ?_ rfl)
    show (0:Int)=x - x
    omega
 ·
  rw [tlV10,tlV10,if_neg h0,if_neg (by rw [hn];exact h0),hn]
  refine Prod.ext rfl (Prod.ext ?_ rfl)
  show (0:Int)=x - x
  omega
end
def pl10 (B:ByteArray) (k:Nat):Int:=(tks10 B k 0).2.1
def no10 (B:ByteArray) (k:Nat):Int:=(tks10 B k 0).2.2
def it10 (B:ByteArray) (k:Nat):ByteArray × Int:=((ttV10 B (pl10 B k)).1,(ttV10 B (pl10 B k)).2.2)
def tld10 (B:ByteArray):Nat→List (ByteArray × Int)
 | 0=>[]
 | k + 1=>if no10 B k=0 then tld10 B k ++ [it10 B k] else tld10 B k
section
variable {B:ByteArray}
theorem tks_step10 {k:Nat} {a:Int} (h:(tks10 B k a).2.2=0):tks10 B (k + 1) a=if (ttV10 B (tks10 B k a).2.1).2.2=0 then ((tks10 B k a).1 ++ [(ttV10 B (tks10 B k a).2.1).1],(ttV10 B (tks10 B k a).2.1).2.1,0) else ((tks10 B k a).1,(tks10 B k a).2.1,(ttV10 B (tks10 B k a).2.1).2.2):=by rw [tks10,if_pos h]
theorem tks_stay10 {k:Nat} {a:Int} (h:(tks10 B k a).2.2≠0):∀ m,tks10 B (k + m) a=tks10 B k a
 | 0=>rfl
 | m + 1=>by
  have ih:=tks_stay10 h m
  show tks10 B ((k + m) + 1) a=_
  rw [tks10,ih,if_neg h]
theorem no_step10 {k:Nat} (h:no10 B k=0):no10 B (k + 1)=(it10 B k).2:=by
 unfold no10 it10 pl10
 rw [tks_step10 h]
 split
 · rename_i h1;exact h1.symm
 · rfl
theorem pl_step10 {k:Nat} (h:no10 B k=0) (h1:(it10 B k).2=0):pl10 B (k + 1)=(ttV10 B (pl10 B k)).2.1:=by
 unfold no10 at h
 unfold pl10
 unfold it10 pl10 at h1
 rw [tks_step10 h,if_pos h1]
theorem tk_step10 {k:Nat} (h:no10 B k=0) (h1:(it10 B k).2=0):(tks10 B (k + 1) 0).1=(tks10 B k 0).1 ++ [(it10 B k).1]:=by
 unfold no10 at h
 unfold it10 pl10 at h1 ⊢
 rw [tks_step10 h,if_pos h1]
theorem no_stay10 {k m:Nat} (h:no10 B k≠0) (hm:k≤m):no10 B m=no10 B k:=by
 obtain ⟨d,rfl⟩:=Nat.exists_eq_add_of_le hm
 unfold no10 at h ⊢
 rw [tks_stay10 h]
theorem pl_zero10:pl10 B 0=0:=rfl
theorem no_upto10 {k m:Nat} (h:no10 B m=0) (hk:k≤m):no10 B k=0:=by
 by_cases h1:no10 B k=0
 · exact h1
 · exact absurd ((no_stay10 h1 hk).symm.trans h) h1
theorem tld_len10:∀ {k:Nat},no10 B k=0→(tld10 B k).length=k
 | 0,_=>rfl
 | k + 1,h=>by
  have h0:=no_upto10 h (Nat.le_succ k)
  rw [tld10,if_pos h0,List.length_append,tld_len10 h0];rfl
theorem tld_le10:∀ N,(tld10 B N).length≤N
 | 0=>Nat.le_refl _
 | k + 1=>by
  have:=tld_le10 k
  rw [tld10]
  split
  · rw [List.length_append];simp;omega
  · omega
theorem tld_at10 {k:Nat} (h:no10 B k=0):∀ {N:Nat},k < N→(tld10 B N)[k]?=some (it10 B k)
 | 0,hk=>by omega
 | N + 1,hk=>by
  by_cases h1:k=N
  ·
   subst h1
   rw [tld10,if_pos h,List.getElem?_append_right (by rw [tld_len10 h];omega),tld_len10 h,Nat.sub_self]
   rfl
  ·
   have ih:=tld_at10 h (N:=N) (by omega)
   rw [tld10]
   split
   ·
    rw [List.getElem?_append_left (List.getElem?_eq_some_iff.1 ih).1]
    exact ih
   · exact ih
theorem tld_end10 {k:Nat} (h:no10 B k=0) (h1:(it10 B k).2≠0):∀ {N:Nat},k < N→(tld10 B N).length=k + 1
 | 0,hk=>by omega
 | N + 1,hk=>by
  by_cases h2:k=N
  ·
   subst h2
   rw [tld10,if_pos h,List.length_append,tld_len10 h];rfl
  ·
   have h3:no10 B (k + 1)≠0:=by rw [no_step10 h];exact h1
   have h4:no10 B N≠0:=by rw [no_stay10 h3 (by omega)];exact h3
   rw [tld10,if_neg h4]
   exact tld_end10 h h1 (by omega)
theorem tld_all10 {N m:Nat} (hm:m=(tld10 B N).length) (h:no10 B m=0):m=N:=by
 have h1:=tld_le10 (B:=B) N
 by_cases h2:m=N
 · exact h2
 ·
  have h3:=(List.getElem?_eq_some_iff.1 (tld_at10 h (N:=N) (by omega))).1
  omega
end
end Go.Proofs.YtmggbbmpckcleaaGreat
namespace Go.Proofs.YtmggbbmpckcleaaGreat
open Go.RowKit
def szd11 (l:List ByteArray) (n:Nat) (none:Bool):Bool:=l.all (fun s=>decide (s.size=n) || (none && decide (s.size=0))) && decide (l.length≤200)
structure Req11 where
 k:Int
 L:List ByteArray
 C:List ByteArray
def right11 (q:Req11):Bool :=
 decide (1≤q.k) && (decide (q.k≤4) && (szd11 q.L 16 false && (szd11 q.C 40 false && (decide q.L.Nodup &&
  (if q.k=1 then decide (q.C.length=q.L.length) else if q.k=4 then decide (q.C.length=0) && decide (q.L.length=0) else decide (q.C.length=0))))))
structure Rsp11 where
 k:Int
 st:Int
 C:List ByteArray
 many:Int
 room:Int
def may11 (a:Rsp11):Bool :=
 decide (0≤a.k) && (decide (a.k≤4) && (decide (0≤a.st) && (decide (a.st≤2) && (szd11 a.C 40 true && (decide (0≤a.many) && (decide (a.many≤2147483647) && (decide (0≤a.room) && (decide (a.room≤2147483647) &&
  ((decide (a.k=1) || decide (a.st=0)) && ((decide (a.k=2) || decide (a.C.length=0)) && ((decide (a.k=3) || (decide (a.k=4) || decide (a.many=0))) && (decide (a.k=4) || decide (a.room=0)))))))))))))
def reqB11 (q:Req11):ByteArray:=num10 q.k ++ lst10 q.L ++ lst10 q.C
def rspB11 (a:Rsp11):ByteArray:=num10 a.k ++ num10 a.st ++ lst10 a.C ++ num10 a.many ++ num10 a.room
def encV11 (q:Req11):ByteArray × Int:=if right11 q then (reqB11 q,0) else (⟨#[]⟩,1)
def answV11 (a:Rsp11):ByteArray × Int:=if may11 a then (rspB11 a,0) else (⟨#[]⟩,1)
def zreq11:Req11:=⟨0,[],[]⟩
def zrsp11:Rsp11:=⟨0,0,[],0,0⟩
def decV11 (s:ByteArray):Req11 × Int :=
 if 65536 < s.size then (zreq11,2)
 else if (tnV10 s 0).2.2≠0 then (zreq11,(tnV10 s 0).2.2)
 else if (tlV10 s (tnV10 s 0).2.1).2.2≠0 then (zreq11,(tlV10 s (tnV10 s 0).2.1).2.2)
 else if (tlV10 s (tlV10 s (tnV10 s 0).2.1).2.1).2.2≠0 then (zreq11,(tlV10 s (tlV10 s (tnV10 s 0).2.1).2.1).2.2)
 else if endV10 s (tlV10 s (tlV10 s (tnV10 s 0).2.1).2.1).2.1≠0∨right11 ⟨(tnV10 s 0).1,(tlV10 s (tnV10 s 0).2.1).1,(tlV10 s (tlV10 s (tnV10 s 0).2.1).2.1).1⟩=false then (zreq11,13)
 else (⟨(tnV10 s 0).1,(tlV10 s (tnV10 s 0).2.1).1,(tlV10 s (tlV10 s (tnV10 s 0).2.1).2.1).1⟩,0)
def rk11 (s:ByteArray):=tnV10 s 0
def rs11 (s:ByteArray):=tnV10 s (rk11 s).2.1
def rc11 (s:ByteArray):=tlV10 s (rs11 s).2.1
def rm11 (s:ByteArray):=tnV10 s (rc11 s).2.1
def rr11 (s:ByteArray):=tnV10 s (rm11 s).2.1
def rsp11 (s:ByteArray):Rsp11:=⟨(rk11 s).1,(rs11 s).1,(rc11 s).1,(rm11 s).1,(rr11 s).1⟩
def readV11 (s:ByteArray):Rsp11 × Int :=
 if 65536 < s.size then (zrsp11,2)
 else if (rk11 s).2.2≠0 then (zrsp11,(rk11 s).2.2)
 else if (rs11 s).2.2≠0 then (zrsp11,(rs11 s).2.2)
 else if (rc11 s).2.2≠0 then (zrsp11,(rc11 s).2.2)
 else if (rm11 s).2.2≠0 then (zrsp11,(rm11 s).2.2)
 else if (rr11 s).2.2≠0 then (zrsp11,(rr11 s).2.2)
 else if endV10 s (rr11 s).2.1≠0∨may11 (rsp11 s)=false then (zrsp11,13)
 else (rsp11 s,0)
theorem end_ok11 {s:ByteArray} {a:Int} (h:s.size≤65536) (ha:a=(s.size:Int)):endV10 s a=0:=by
 rw [endV10,if_pos (rightV_iff.2 ⟨h,by omega,by omega⟩),if_neg (by omega)]
theorem end_zero11 {s:ByteArray} {a:Int} (h:endV10 s a=0):a=(s.size:Int):=by
 unfold endV10 at h
 split at h
 ·
  rename_i hr
  have:=rightV_iff.1 hr
  split at h
  · exact absurd (show (13:Int)=0 from h) (by decide)
  · omega
 · exact absurd (show (1:Int)=0 from h) (by decide)
theorem szd_cat11 {l:List ByteArray} {n:Nat} (h:szd11 l n false=true):(cat10 l).size=(n + 4) * l.length∧l.length≤200:=by
 rw [szd11,Bool.and_eq_true,decide_eq_true_eq] at h
 refine ⟨?_,h.2⟩
 have ha:=h.1
 clear h
 induction l with
 | nil=>rfl
 | cons s r ih =>
  rw [List.all_cons,Bool.and_eq_true] at ha
  have hs:s.size=n:=by simpa using ha.1
  rw [cat_cons10,ByteArray.size_append,txt_size10,ih ha.2,hs,List.length_cons,Nat.mul_add]
  omega
theorem szd_le11 {l:List ByteArray} {n:Nat} (h:szd11 l n true=true):(cat10 l).size≤(n + 4) * l.length∧l.length≤200:=by
 rw [szd11,Bool.and_eq_true,decide_eq_true_eq] at h
 refine ⟨?_,h.2⟩
 have ha:=h.1
 clear h
 induction l with
 | nil=>exact Nat.le_refl _
 | cons s r ih =>
  rw [List.all_cons,Bool.and_eq_true] at ha
  have hs:s.size=n∨s.size=0:=by simpa using ha.1
  have:=ih ha.2
  rw [cat_cons10,ByteArray.size_append,txt_size10,List.length_cons,Nat.mul_add]
  omega
theorem right_sizes11 {q:Req11} (h:right11 q=true):(1≤q.k∧q.k≤4)∧(lst10 q.L).size=4 + 20 * q.L.length∧(lst10 q.C).size=4 + 44 * q.C.length∧q.L.length≤200∧q.C.length≤200:=by
 simp only [right11,Bool.and_eq_true,decide_eq_true_eq] at h
 obtain ⟨h1,h2,h3,h4,_⟩:=h
 obtain ⟨l1,l2⟩:=szd_cat11 h3
 obtain ⟨c1,c2⟩:=szd_cat11 h4
 rw [lst_size10,lst_size10,l1,c1]
 exact ⟨⟨h1,h2⟩,rfl,rfl,l2,c2⟩
theorem req_size11 {q:Req11} (h:right11 q=true):(reqB11 q).size=12 + 20 * q.L.length + 44 * q.C.length:=by
 obtain ⟨_,h1,h2,_⟩:=right_sizes11 h
 rw [reqB11,ByteArray.size_append,ByteArray.size_append,num_size10,h1,h2]
 omega
theorem enc_dec11 {s:ByteArray} (h:(decV11 s).2=0):right11 (decV11 s).1=true∧reqB11 (decV11 s).1=s:=by
 unfold decV11 at h ⊢
 split at h
 · exact absurd (show (2:Int)=0 from h) (by decide)
 ·
  rename_i h0
  rw [if_neg h0]
  split at h
  · rename_i h1;exact absurd h h1
  ·
   rename_i h1
   rw [if_neg h1]
   have h1:=Decidable.of_not_not h1
   obtain ⟨hN,hp⟩:=tn_ok10 h1
   split at h
   · rename_i h2;exact absurd h h2
   ·
    rename_i h2
    rw [if_neg h2]
    have hL:=tl_ok10 (Decidable.of_not_not h2)
    split at h
    · rename_i h3;exact absurd h h3
    ·
     rename_i h3
     rw [if_neg h3]
     have hC:=tl_ok10 (Decidable.of_not_not h3)
     split at h
     · exact absurd (show (13:Int)=0 from h) (by decide)
     ·
      rename_i h4
      rw [if_neg h4]
      have he:endV10 s (tlV10 s (tlV10 s (tnV10 s 0).2.1).2.1).2.1=0:=Decidable.of_not_not fun e=>h4 (Or.inl e)
      have hr:right11 ⟨(tnV10 s 0).1,(tlV10 s (tnV10 s 0).2.1).1,(tlV10 s (tlV10 s (tnV10 s 0).2.1).2.1).1⟩=true:=by
       cases hh:right11 ⟨(tnV10 s 0).1,(tlV10 s (tnV10 s 0).2.1).1,(tlV10 s (tlV10 s (tnV10 s 0).2.1).2.1).1⟩ with
       | true=>rfl
       | false=>exact absurd (Or.inr hh) h4
      refine ⟨hr,?_⟩
      have hend:=end_zero11 he
      have nb:=hN.bytes
      have lb:=hL.bytes
      have cb:=hC.bytes
      have a1:=hL.ahead
      have a2:=hC.ahead
      have r2:=hL.right
      have r3:=hC.right
      show num10 (tnV10 s 0).1 ++ lst10 (tlV10 s (tnV10 s 0).2.1).1 ++ lst10 (tlV10 s (tlV10 s (tnV10 s 0).2.1).2.1).1=s
      rw [nb,lb,cb]
      rw [hp] at *
      generalize (tlV10 s (0 + 4)).2.1=p at *
      generalize (tlV10 s p).2.1=r at *
      rw [ex_app10 (by omega) (by omega) (by omega),ex_app10 (by omega) (by omega) (by omega),hend,show ((s.size:Int)).toNat=s.size by omega,show ((0:Int)).toNat=0 from rfl,ex_all10]
theorem may_sizes11 {a:Rsp11} (h:may11 a=true):(0≤a.k∧a.k≤4)∧(0≤a.st∧a.st≤2)∧(0≤a.many∧a.many≤2147483647)∧(0≤a.room∧a.room≤2147483647)∧a.C.length≤200∧(lst10 a.C).size≤8804:=by
 simp only [may11,Bool.and_eq_true,decide_eq_true_eq] at h
 obtain ⟨h1,h2,h3,h4,h5,h6,h7,h8,h9,_⟩:=h
 obtain ⟨c1,c2⟩:=szd_le11 h5
 rw [lst_size10]
 refine ⟨⟨h1,h2⟩,⟨h3,h4⟩,⟨h6,h7⟩,⟨h8,h9⟩,c2,?_⟩
 have:(40 + 4) * a.C.length≤44 * 200:=Nat.mul_le_mul (by omega) c2
 omega
theorem rsp_size11 (a:Rsp11):(rspB11 a).size=16 + (lst10 a.C).size:=by
 rw [rspB11]
 simp only [ByteArray.size_append,num_size10]
 omega
theorem read_bytes11 (a:Rsp11) (hk:0≤a.k∧a.k≤2147483647) (hs:0≤a.st∧a.st≤2147483647) (hm:0≤a.many∧a.many≤2147483647) (hr:0≤a.room∧a.room≤2147483647) (hC:a.C.length≤1000) (hz:(rspB11 a).size≤65536) :
  readV11 (rspB11 a)=if may11 a then (a,0) else (zrsp11,13):=by
 have z:=rsp_size11 a
 have s1:=num_size10 a.k
 have s2:=num_size10 a.st
 have s3:=num_size10 a.many
 have e1:rspB11 a=⟨#[]⟩ ++ num10 a.k ++ (num10 a.st ++ lst10 a.C ++ num10 a.many ++ num10 a.room):=by
  rw [show (⟨#[]⟩:ByteArray) ++ num10 a.k=num10 a.k from ByteArray.empty_append,rspB11];simp only [ByteArray.append_assoc]
 have e2:rspB11 a=num10 a.k ++ num10 a.st ++ (lst10 a.C ++ num10 a.many ++ num10 a.room):=by rw [rspB11];simp only [ByteArray.append_assoc]
 have e3:rspB11 a=(num10 a.k ++ num10 a.st) ++ lst10 a.C ++ (num10 a.many ++ num10 a.room):=by rw [rspB11];simp only [ByteArray.append_assoc]
 have e4:rspB11 a=(num10 a.k ++ num10 a.st ++ lst10 a.C) ++ num10 a.many ++ num10 a.room:=rfl
 have e5:rspB11 a=(num10 a.k ++ num10 a.st ++ lst10 a.C ++ num10 a.many) ++ num10 a.room ++ ⟨#[]⟩:=by
  rw [show num10 a.k ++ num10 a.st ++ lst10 a.C ++ num10 a.many ++ num10 a.room ++ (⟨#[]⟩:ByteArray)=num10 a.k ++ num10 a.st ++ lst10 a.C ++ num10 a.many ++ num10 a.room from ByteArray.append_empty];rfl
 have t1:=tn_app10 ⟨#[]⟩ (num10 a.st ++ lst10 a.C ++ num10 a.many ++ num10 a.room) hk (by rw [← e1];exact hz)
 have t2:=tn_app10 (num10 a.k) (lst10 a.C ++ num10 a.many ++ num10 a.room) hs (by rw [← e2];exact hz)
 have t3:=tl_app10 (num10 a.k ++ num10 a.st) a.C (num10 a.many ++ num10 a.room) hC (by rw [← e3];exact hz)
 have t4:=tn_app10 (num10 a.k ++ num10 a.st ++ lst10 a.C) (num10 a.room) hm (by rw [← e4];exact hz)
 have t5:=tn_app10 (num10 a.k ++ num10 a.st ++ lst10 a.C ++ num10 a.many) ⟨#[]⟩ hr (by rw [← e5];exact hz)
 rw [← e1] at t1
 rw [← e2] at t2
 rw [← e3] at t3
 rw [← e4] at t4
 rw [← e5] at t5
 simp only [ByteArray.size_append,s1,s2,s3] at t2 t3 t4 t5
 have q1:rk11 (rspB11 a)=(a.k,4,0):=t1
 have q2:rs11 (rspB11 a)=(a.st,8,0):=by rw [rs11,q1];exact t2
 have q3:rc11 (rspB11 a)=(a.C,8 + ((lst10 a.C).size:Int),0):=by rw [rc11,q2];exact t3
 have q4:rm11 (rspB11 a)=(a.many,8 + ((lst10 a.C).size:Int) + 4,0):=by
  rw [rm11,q3]
  rw [show (((4 + 4 + (lst10 a.C).size:Nat):Int))=8 + ((lst10 a.C).size:Int) by omega] at t4
  exact t4
 have q5:rr11 (rspB11 a)=(a.room,8 + ((lst10 a.C).size:Int) + 4 + 4,0):=by
  rw [rr11,q4]
  rw [show (((4 + 4 + (lst10 a.C).size + 4:Nat):Int))=8 + ((lst10 a.C).size:Int) + 4 by omega] at t5
  exact t5
 have hend:=end_ok11 (a:=8 + ((lst10 a.C).size:Int) + 4 + 4) hz (by omega)
 have hv:rsp11 (rspB11 a)=a:=by rw [rsp11,q1,q2,q3,q4,q5]
 rw [readV11,if_neg (by omega),q1,if_neg (by simp),q2,if_neg (by simp),q3,if_neg (by simp),q4,if_neg (by simp),q5,if_neg (by simp),hv,hend]
 cases hr2:may11 a with
 | true=>rw [if_neg (by simp),if_pos rfl]
 | false=>rw [if_pos (Or.inr rfl),if_neg (by simp)]
theorem read_answ11 {a:Rsp11} (h:may11 a=true):readV11 (rspB11 a)=(a,0):=by
 obtain ⟨h1,h2,h3,h4,h5,h6⟩:=may_sizes11 h
 rw [read_bytes11 a (by omega) (by omega) (by omega) (by omega) (by omega) (by rw [rsp_size11];omega),h,if_pos rfl]
end Go.Proofs.YtmggbbmpckcleaaGreat
namespace Go.Proofs.YtmggbbmpckcleaaGreat
open Go.RowKit
def nul11 (n:Nat):ByteArray:=strOfNums (List.replicate n 0)
theorem nul_size11 (n:Nat):(nul11 n).size=n:=by rw [nul11,strOfNums_size,List.length_replicate]
def lb11 (k:Int):List Int:=[k / 256,k % 256,7 * k % 256]
def label11 (n:Int):ByteArray:=strOfNums (lb11 (pickN n 300)) ++ nul11 13
def cell11 (n:Int):ByteArray:=strOfNums [pickN n 256] ++ nul11 39
theorem label_size11 (n:Int):(label11 n).size=16:=by rw [label11,ByteArray.size_append,strOfNums_size,nul_size11];rfl
theorem cell_size11 (n:Int):(cell11 n).size=40:=by rw [cell11,ByteArray.size_append,strOfNums_size,nul_size11];rfl
def hasL11 (o:List ByteArray) (s:ByteArray):Bool:=o.any fun t=>decide (t=s)
theorem has_iff11 {o:List ByteArray} {s:ByteArray}:hasL11 o s=true↔s ∈ o:=by
 rw [hasL11,List.any_eq_true]
 exact ⟨fun ⟨t,h,e⟩=>(of_decide_eq_true e) ▸ h,fun h=>⟨s,h,decide_eq_true rfl⟩⟩
def addL11 (o:List ByteArray) (s:ByteArray):List ByteArray:=if hasL11 o s then o else o ++ [s]
def labK11 (R:List Int) (k:Nat):List ByteArray:=(R.take k).foldl (fun o n=>addL11 o (label11 n)) []
def labs11 (R:List Int):List ByteArray:=labK11 R 12
theorem lab_step11 {R:List Int} {k:Nat} {x:Int} (h:R[k]?=some x):labK11 R (k + 1)=addL11 (labK11 R k) (label11 x):=by
 rw [labK11,take_snoc11 h,List.foldl_append];rfl
where
 take_snoc11 {α:Type} {l:List α} {k:Nat} {x:α} (h:l[k]?=some x):l.take (k + 1)=l.take k ++ [x]:=by
  rw [List.take_add_one,h];rfl
theorem lab_inv11 (R:List Int) (o:List ByteArray) (h:o.Nodup∧(∀ s ∈ o,s.size=16)):(R.foldl (fun o n=>addL11 o (label11 n)) o).Nodup∧(∀ s ∈ R.foldl (fun o n=>addL11 o (label11 n)) o,s.size=16)∧(R.foldl (fun o n=>addL11 o (label11 n)) o).length≤o.length + R.length:=by
 induction R generalizing o with
 | nil=>exact ⟨h.1,h.2,Nat.le_refl _⟩
 | cons x r ih =>
  have hs:(addL11 o (label11 x)).Nodup∧(∀ s ∈ addL11 o (label11 x),s.size=16)∧(addL11 o (label11 x)).length≤o.length + 1:=by
   rw [addL11]
   split
   · exact ⟨h.1,h.2,by omega⟩
   ·
    rename_i hn
    refine ⟨?_,fun s hs=>?_,by simp⟩
    ·
     rw [List.nodup_append]
     exact ⟨h.1,by simp,fun a ha b hb=>by rw [List.mem_singleton] at hb;subst hb;exact fun e=>hn (has_iff11.2 (e ▸ ha))⟩
    ·
     rw [List.mem_append,List.mem_singleton] at hs
     rcases hs with hs | rfl
     · exact h.2 s hs
     · exact label_size11 x
  obtain ⟨a,b,c⟩:=ih (addL11 o (label11 x)) ⟨hs.1,hs.2.1⟩
  refine ⟨a,b,?_⟩
  rw [List.foldl_cons,List.length_cons]
  omega
theorem labK_inv11 (R:List Int) (k:Nat):(labK11 R k).Nodup∧(∀ s ∈ labK11 R k,s.size=16)∧(labK11 R k).length≤k∧(labK11 R k).length≤R.length:=by
 obtain ⟨a,b,c⟩:=lab_inv11 (R.take k) [] ⟨by simp,fun s hs=>by cases hs⟩
 refine ⟨a,b,?_,?_⟩ <;> (show (List.foldl _ [] (R.take k)).length≤_) <;> (rw [List.length_take,List.length_nil] at c;omega)
theorem lab_end11 {R:List Int} {k:Nat} (hk:k≤R.length) (h12:k≤12) (h:¬ (k < R.length∧k < 12)):labK11 R k=labs11 R:=by
 rw [labs11,labK11,labK11]
 have:R.take k=R.take 12:=by
  by_cases e:k=12
  · rw [e]
  · rw [List.take_of_length_le (by omega),List.take_of_length_le (by omega)]
 rw [this]
def celK11 (R:List Int) (k:Nat):List ByteArray:=(R.take k).map cell11
theorem cel_len11 {R:List Int} {k:Nat} (h:k≤R.length):(celK11 R k).length=k:=by rw [celK11,List.length_map,List.length_take];omega
theorem cel_step11 {R:List Int} {k:Nat} {x:Int} (h:R[k]?=some x):celK11 R (k + 1)=celK11 R k ++ [cell11 x]:=by
 rw [celK11,List.take_add_one,h,List.map_append];rfl
theorem szd_of11 {l:List ByteArray} {n:Nat} {b:Bool} (h:∀ s ∈ l,s.size=n∨(b=true∧s.size=0)) (hl:l.length≤200):szd11 l n b=true:=by
 rw [szd11,Bool.and_eq_true,decide_eq_true_eq]
 refine ⟨List.all_eq_true.2 fun s hs=>?_,hl⟩
 rcases h s hs with e | ⟨e1,e2⟩
 · simp [e]
 · simp [e1,e2]
def req11 (kind:Int) (R:List Int):Req11 :=
 if 1 + pickN kind 4=4 then ⟨4,[],[]⟩ else if 1 + pickN kind 4=1 then ⟨1,labs11 R,celK11 R (labs11 R).length⟩ else ⟨1 + pickN kind 4,labs11 R,[]⟩
theorem req_right11 (kind:Int) (R:List Int):right11 (req11 kind R)=true:=by
 obtain ⟨p0,p1⟩:=pickN_bd kind 4 (by omega)
 obtain ⟨n1,n2,n3,n4⟩:=labK_inv11 R 12
 have hL:szd11 (labs11 R) 16 false=true:=szd_of11 (fun s hs=>.inl (n2 s hs)) (by show (labK11 R 12).length≤200;omega)
 have hN:(labs11 R).Nodup:=n1
 have hE:∀ m b,szd11 [] m b=true:=fun m b=>szd_of11 (fun s hs=>by cases hs) (by simp)
 rw [req11]
 split
 · simp [right11,hE]
 ·
  split
  ·
   have hlen:(celK11 R (labs11 R).length).length=(labs11 R).length:=cel_len11 n4
   have hC:szd11 (celK11 R (labs11 R).length) 40 false=true:=szd_of11 (fun s hs=>.inl (by
    rw [celK11,List.mem_map] at hs
    obtain ⟨x,_,rfl⟩:=hs
    exact cell_size11 x)) (by rw [hlen];show (labK11 R 12).length≤200;omega)
   simp [right11,hL,hC,hN,hlen]
  ·
   rename_i h4 h1
   have a1:(1:Int)≤1 + pickN kind 4:=by omega
   have a2:1 + pickN kind 4≤4:=by omega
   simp only [right11,hL,hE,decide_eq_true hN,decide_eq_true a1,decide_eq_true a2,if_neg h4,if_neg h1,Bool.true_and,List.length_nil]
   rfl
end Go.Proofs.YtmggbbmpckcleaaGreat
