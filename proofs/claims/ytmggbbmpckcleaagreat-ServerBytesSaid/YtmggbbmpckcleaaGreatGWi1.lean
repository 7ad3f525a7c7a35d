import Derived.Test.YtmggbbmpckcleaaGreatGCo1
import Derived.Test.YtmggbbmpckcleaaGreatGCo2
import Derived.Test.YtmggbbmpckcleaaGreatGCo3
import Derived.Shelf.Strings.OnBuilder
import Derived.Maps.OwnSet
import Derived.StringKeys
set_option maxRecDepth 100000
set_option maxHeartbeats 16000000
namespace Go.Proofs.YtmggbbmpckcleaaGreat
open Go.RowKit Go.Shelf
def renF11 (n:Nat):Nat:=if n=156 then 107 else if n=165 then 124 else if n=166 then 125 else if n=169 then 126 else if n=240 then 132 else if n=241 then 133 else if n=276 then 137 else if n=277 then 138 else n
def renT11 (n:Nat):Nat:=if n=0 then 0 else if n=3 then 3 else if n=4 then 4 else if n=5 then 5 else if n=9 then 9 else if n=20 then 20 else if n=31 then 24 else if n=37 then 93 else if n=70 then 151 else if n=72 then 153 else if n=75 then 156 else if n=76 then 157 else if n=80 then 159 else if n=127 then 168 else if n=164 then 172 else n
def ren11:Ren:=⟨renF11,renT11,fun n=>n⟩
theorem lays11:Lays.n156 Tryz.prog ren11 where
 mixed:=by kernel_rfl
 f156:=Tryz.func107.trans (by kernel_rfl)
 f165:=Tryz.func124.trans (by kernel_rfl)
 f166:=Tryz.func125.trans (by kernel_rfl)
 f169:=Tryz.func126.trans (by kernel_rfl)
 f240:=Tryz.func132.trans (by kernel_rfl)
 f241:=Tryz.func133.trans (by kernel_rfl)
 f276:=Tryz.func137.trans (by kernel_rfl)
 f277:=Tryz.func138.trans (by kernel_rfl)
 t0:=Tryz.underlying0
 a0:=Tryz.isAgg0
 z0:=Tryz.sizeOf0
 v0:=Tryz.zeroValue0
 t3:=Tryz.underlying3
 a3:=Tryz.isAgg3
 z3:=Tryz.sizeOf3
 v3:=Tryz.zeroValue3
 t4:=Tryz.underlying4
 a4:=Tryz.isAgg4
 z4:=Tryz.sizeOf4
 v4:=Tryz.zeroValue4
 t9:=Tryz.underlying9
 a9:=Tryz.isAgg9
 z9:=Tryz.sizeOf9
 v9:=Tryz.zeroValue9
 t20:=Tryz.underlying20
 a20:=Tryz.isAgg20
 z20:=Tryz.sizeOf20
 v20:=Tryz.zeroValue20
 t31:=Tryz.underlying24
 a31:=Tryz.isAgg24
 z31:=Tryz.sizeOf24
 v31:=Tryz.zeroValue24
 t37:=Tryz.underlying93
 a37:=Tryz.isAgg93
 z37:=Tryz.sizeOf93
 v37:=Tryz.zeroValue93
 t70:=Tryz.underlying151
 a70:=Tryz.isAgg151
 z70:=Tryz.sizeOf151
 v70:=Tryz.zeroValue151
 t72:=Tryz.underlying153
 a72:=Tryz.isAgg153
 z72:=Tryz.sizeOf153
 v72:=Tryz.zeroValue153
 t75:=Tryz.underlying156
 a75:=Tryz.isAgg156
 z75:=Tryz.sizeOf156
 v75:=Tryz.zeroValue156
 t76:=Tryz.underlying157
 a76:=Tryz.isAgg157
 z76:=Tryz.sizeOf157
 v76:=Tryz.zeroValue157
 t127:=Tryz.underlying168
 a127:=Tryz.isAgg168
 z127:=Tryz.sizeOf168
 v127:=Tryz.zeroValue168
 t164:=Tryz.underlying172
 a164:=Tryz.isAgg172
 z164:=Tryz.sizeOf172
 v164:=Tryz.zeroValue172
theorem extra11:Builder.Extra Tryz.prog ren11 where
 sizeBuilder:=by kernel_rfl
 liesBuilder:=by kernel_rfl
 t5:=Tryz.underlying5
 a5:=Tryz.isAgg5
 z5:=Tryz.sizeOf5
 v5:=Tryz.zeroValue5
 infoByte:=by kernel_rfl
 cellsByte:=by kernel_rfl
 sizeByte:=by kernel_rfl
 neB5:=by decide
def all11 (l:List ByteArray):ByteArray:=l.foldl (fun o s=>o ++ s) ⟨#[]⟩
theorem join_all11 (l:List ByteArray):(⟨(Lib.join (l.map (·.data.toList)) []).toArray⟩:ByteArray)=all11 l:=by
 have hcat:∀ (l:List ByteArray) (o:ByteArray),l.foldl (fun o s=>o ++ s) o=o ++ all11 l:=fun l=>by
  induction l with
  | nil=>intro o;exact ByteArray.append_empty.symm
  | cons s r ih =>
   intro o
   rw [all11,List.foldl_cons,List.foldl_cons,ih,ih (⟨#[]⟩ ++ s),← ByteArray.append_assoc,show (⟨#[]⟩:ByteArray) ++ s=s from ByteArray.empty_append]
 induction l with
 | nil=>rfl
 | cons s r ih =>
  rw [all11,List.foldl_cons,hcat,← ih,show (⟨#[]⟩:ByteArray) ++ s=s from ByteArray.empty_append]
  apply ByteArray.ext
  apply Array.toList_inj.1
  cases r with
  | nil=>simp [Lib.join,ByteArray.data_append]
  | cons x t=>simp [Lib.join,ByteArray.data_append]
theorem join_any11 (g:Nat) (l:List ByteArray) (w:World) (h:Is w g 9 (l.map Value.string).toArray) (hl:l.length≤1000) (hz:(all11 l).size≤1000000) :
  Calls Tryz.prog 107 #[.slice (some ⟨g,0,none⟩) l.length l.length,.string ⟨#[]⟩] w fun e w'=>e=.returned (.string (all11 l))∧Below w.heap.size w w':=by
 have h1:=Any.strings_Join lays11 extra11 g 0 l.length l ⟨#[]⟩ w (fun j x hj=>by rw [Nat.zero_add,h.cell];simp [hj]) h.lt (by omega) (Nat.le_refl _) (by
  have e:=congrArg ByteArray.size (join_all11 l)
  have e2:(Lib.join (l.map (·.data.toList)) []).length=(all11 l).size:=by rw [← e];simp [ByteArray.size]
  show (Lib.join (l.map (·.data.toList)) []).length≤_
  omega)
 have e3:=join_all11 l
 refine h1.mono ?_
 rintro e w' ⟨rfl,hb⟩
 exact ⟨by rw [← e3],hb⟩
end Go.Proofs.YtmggbbmpckcleaaGreat
namespace Go.Proofs.YtmggbbmpckcleaaGreat
open Go.RowKit Go.Shelf
theorem isLabel_any11 (s:ByteArray) (w:World):Calls Tryz.prog 100 #[.string s] w fun e w'=>e=.returned (.bool (decide (s.size=16)))∧w=w':=by
 by_cases h:s.size=16
 ·
  have h1:((s.size:Int) == 16)=true:=by simp;omega
  have h2:(s.size:Int)=16:=by omega
  rw [decide_eq_true h]
  clear h
  go_enter Tryz.func100,Tryz.ntmps100
  go_wp2
  go_ret
  exact ⟨rfl,rfl⟩
 ·
  have h2:¬ (s.size:Int)=16:=by omega
  have h3:((s.size:Int) == 16)=false:=by simpa using h2
  have H3:=Lib.hid h3
  clear h3
  rw [decide_eq_false h]
  clear h
  go_enter Tryz.func100,Tryz.ntmps100
  go_wp2
  go_ret
  exact ⟨congrArg (fun b=>Ending.returned (Value.bool b)) H3.out,rfl⟩
theorem isCell_any11 (s:ByteArray) (w:World):Calls Tryz.prog 101 #[.string s] w fun e w'=>e=.returned (.bool (decide (s.size=40)))∧w=w':=by
 by_cases h:s.size=40
 ·
  have h2:(s.size:Int)=40:=by omega
  rw [decide_eq_true h]
  clear h
  go_enter Tryz.func101,Tryz.ntmps101
  go_wp2
  go_ret
  exact ⟨rfl,rfl⟩
 ·
  have h2:¬ (s.size:Int)=40:=by omega
  have h3:((s.size:Int) == 40)=false:=by simpa using h2
  have H3:=Lib.hid h3
  clear h3
  rw [decide_eq_false h]
  clear h
  go_enter Tryz.func101,Tryz.ntmps101
  go_wp2
  go_ret
  exact ⟨congrArg (fun b=>Ending.returned (Value.bool b)) H3.out,rfl⟩
theorem none11 {s:ByteArray}:s=⟨#[]⟩↔s.size=0:=⟨fun h=>by rw [h];rfl,fun h=>by
 apply ByteArray.ext
 exact Array.eq_empty_of_size_eq_zero h⟩
theorem isNone_any11 (s:ByteArray) (w:World):Calls Tryz.prog 123 #[.string s] w fun e w'=>e=.returned (.bool (decide (s.size=40) || decide (s.size=0)))∧w=w':=by
 by_cases h0:s.size=0
 ·
  obtain rfl:=none11.2 h0
  clear h0
  go_enter Tryz.func123,Tryz.ntmps123
  go_wp2
  go_ret
  exact ⟨rfl,rfl⟩
 ·
  have HC:=Lib.hid (isCell_any11 s)
  have h1:¬ s=⟨#[]⟩:=fun e=>h0 (none11.1 e)
  rw [decide_eq_false h0,Bool.or_false]
  have h3:=beq7 h1
  have h4:=ne7 h1
  have h5:s.toList.isEmpty=false:=by
   cases hh:s.toList with
   | nil =>
    have hz:=congrArg List.length hh
    rw [ByteArray.toList_eq] at hz
    exact absurd (show s.size=0 by simpa using hz) h0
   | cons x r=>rfl
  have H5:=Lib.hid h5
  clear h3 h4 h5 h1
  clear h0
  go_enter Tryz.func123,Tryz.ntmps123
  go_wp2_with (go_at_call 101;refine (HC.out _).mono ?_;rintro e w' ⟨rfl,rfl⟩)
  ·
   rename_i hh
   have:=H5.out
   rw [hh] at this
   cases this
  ·
   go_ret
   exact ⟨congrArg (fun b=>Ending.returned (Value.bool b)) (by rw [H5.out,Bool.false_or]),rfl⟩
theorem isNum_any11 (n:Int) (w:World):Calls Tryz.prog 122 #[.int .i64 n] w fun e w'=>e=.returned (.bool (numE10 n))∧w=w':=by
 have HE:Hid (numE10 n=(decide (0≤n) && decide (n≤2147483647))):=Lib.hid rfl
 generalize numE10 n=E at *
 by_cases h0:0≤n
 ·
  by_cases h1:n≤2147483647
  ·
   obtain rfl:E=true:=by rw [HE.out];simp [h0,h1]
   go_enter Tryz.func122,Tryz.ntmps122
   go_wp2
   go_ret
   exact ⟨rfl,rfl⟩
  ·
   obtain rfl:E=false:=by rw [HE.out];simp [h1]
   go_enter Tryz.func122,Tryz.ntmps122
   go_wp2
   go_ret
   exact ⟨rfl,rfl⟩
 ·
  obtain rfl:E=false:=by rw [HE.out];simp [h0]
  go_enter Tryz.func122,Tryz.ntmps122
  go_wp2
  go_ret
  exact ⟨rfl,rfl⟩
theorem all_at11 {α:Type} {p:α→Bool} {l:List α} {k:Nat} {x:α} (hx:l[k]?=some x) (h:(l.take k).all p=true):(p x=false→l.all p=false)∧(p x=true→(l.take (k + 1)).all p=true):=by
 refine ⟨fun hp=>?_,fun hp=>?_⟩
 ·
  rw [Bool.eq_false_iff]
  intro ha
  rw [List.all_eq_true.1 ha x (List.mem_of_getElem? hx)] at hp
  cases hp
 ·
  rw [take_snoc10 hx,List.all_append,h]
  simp [hp]
theorem wrong_any11 (f:FuncId) (p:ByteArray→Bool) (hf:∀ s w,Calls Tryz.prog f #[.string s] w fun e w'=>e=.returned (.bool (p s))∧w=w') (he:∀ args w,(callFunc f args).run Tryz.prog w=.ok (.enter f args) w)
  (A:Option Addr) (c:Nat) (l:List ByteArray) (w:World) (hl:l.length≤9223372036854775807) (hc:InV w A (tL10 l)) :
  Calls Tryz.prog 99 #[.func (.func f) #[] #[],.slice A l.length c] w fun e w'=>e=.returned (.bool (!l.all p))∧w=w':=by
 have HC:=Lib.hid hc
 have HF:=Lib.hid hf
 have HR:Hid (∀ (R:Bool),R=!l.all p→R=!l.all p):=Lib.hid fun _ h=>h
 clear hc hf
 go_enter Tryz.func99,Tryz.ntmps99
 go_wp2
 go_loopw [6,9] (fun _ i wr=>∃ k:Nat,k≤l.length∧i=.int .i64 (k:Int)∧(l.take k).all p=true∧wr=w) (fun _ i _=>l.length - (intOf i).toNat)
 case atStart=>exact ⟨0,by omega,rfl,rfl,rfl⟩
 case round =>
  obtain ⟨k,hk,rfl,ha,rfl⟩:=hrel
  by_cases hlt:k < l.length
  ·
   have h1:(k:Int) < (l.length:Int):=by omega
   obtain ⟨s,hx⟩:∃ s,l[k]?=some s:=⟨_,List.getElem?_eq_getElem hlt⟩
   obtain ⟨b,off,rfl,_,hcell⟩:=HC.out.txt hx
   obtain ⟨q1,q2⟩:=all_at11 hx ha
   have Q1:=Lib.hid q1
   have Q2:=Lib.hid q2
   have HS:=Lib.hid (HF.out s)
   clear ha hx q1 q2
   generalize p s=P at *
   cases P with
   | true =>
    have hz:=Q2.out rfl
    have HZ:=Lib.hid hz
    clear hz
    go_wp2_with fail
    refine (HS.out _).mono ?_
    rintro e w1 ⟨rfl,rfl⟩
    go_wp2
    go_roundw
    case rel=>exact ⟨k + 1,by omega,by go_num,HZ.out,by first | rfl | trivial⟩
    case measure=>simp [intOf];omega
   | false =>
    have hz:=Q1.out rfl
    have HZ:=Lib.hid hz
    clear hz
    go_wp2_with fail
    refine (HS.out _).mono ?_
    rintro e w1 ⟨rfl,rfl⟩
    go_wp2
    go_ret
    exact ⟨by rw [HZ.out];rfl,rfl⟩
  ·
   have h1:¬ (k:Int) < (l.length:Int):=by omega
   have hz:l.all p=true:=by
    rw [List.take_of_length_le (by omega)] at ha;exact ha
   have HZ:=Lib.hid hz
   clear ha hz
   go_wp2
   go_ret
   exact ⟨by rw [HZ.out];rfl,rfl⟩
theorem wrongN_any11 (g:Nat) (L:List Int) (w:World) (hl:L.length≤1000) (hc:Is w g 3 (L.map (Value.int .i64)).toArray) :
  Calls Tryz.prog 121 #[.func (.func 122) #[] #[],.slice (some ⟨g,0,none⟩) L.length L.length] w fun e w'=>e=.returned (.bool (!L.all numE10))∧w=w':=by
 have HC:=Lib.hid hc
 have HF:=Lib.hid isNum_any11
 clear hc
 go_enter Tryz.func121,Tryz.ntmps121
 go_wp2
 go_loopw [6,9] (fun _ i wr=>∃ k:Nat,k≤L.length∧i=.int .i64 (k:Int)∧(L.take k).all numE10=true∧wr=w) (fun _ i _=>L.length - (intOf i).toNat)
 case atStart=>exact ⟨0,by omega,rfl,rfl,rfl⟩
 case round =>
  obtain ⟨k,hk,rfl,ha,rfl⟩:=hrel
  by_cases hlt:k < L.length
  ·
   have h1:(k:Int) < (L.length:Int):=by omega
   obtain ⟨s,hx⟩:∃ s,L[k]?=some s:=⟨_,List.getElem?_eq_getElem hlt⟩
   have hcell:wr.cell? ⟨g,k,none⟩=some (.int .i64 s):=by rw [HC.out.cell];simp [hx]
   obtain ⟨q1,q2⟩:=all_at11 hx ha
   have Q1:=Lib.hid q1
   have Q2:=Lib.hid q2
   have HS:=Lib.hid (HF.out s)
   clear ha hx q1 q2
   generalize numE10 s=P at *
   cases P with
   | true =>
    have hz:=Q2.out rfl
    have HZ:=Lib.hid hz
    clear hz
    go_wp2_with fail
    refine (HS.out _).mono ?_
    rintro e w1 ⟨rfl,rfl⟩
    go_wp2
    go_roundw
    case rel=>exact ⟨k + 1,by omega,by go_num,HZ.out,by first | rfl | trivial⟩
    case measure=>simp [intOf];omega
   | false =>
    have hz:=Q1.out rfl
    have HZ:=Lib.hid hz
    clear hz
    go_wp2_with fail
    refine (HS.out _).mono ?_
    rintro e w1 ⟨rfl,rfl⟩
    go_wp2
    go_ret
    exact ⟨by rw [HZ.out];rfl,rfl⟩
  ·
   have h1:¬ (k:Int) < (L.length:Int):=by omega
   have hz:L.all numE10=true:=by
    rw [List.take_of_length_le (by omega)] at ha;exact ha
   have HZ:=Lib.hid hz
   clear ha hz
   go_wp2
   go_ret
   exact ⟨by rw [HZ.out];rfl,rfl⟩
theorem wnum_any11 (n:Int) (w:World):Calls Tryz.prog 87 #[.int .i64 n] w fun e w'=>e=.returned (.string (numV10 n).1)∧Below w.heap.size w w':=by
 have HC:=Lib.hid (num_any10 n)
 simp only [numR10] at HC
 generalize numV10 n=V at *
 go_enter Tryz.func87,Tryz.ntmps87
 go_wp2_with fail
 refine (HC.out _).mono ?_
 rintro e w1 ⟨rfl,hb⟩
 go_wp2
 go_ret
 exact ⟨rfl,hb⟩
theorem wlist_any11 (A:Option Addr) (c:Nat) (l:List ByteArray) (w:World) (hs:∀ s ∈ l,s.size≤140737488355328) (hc:InV w A (tL10 l)) :
  Calls Tryz.prog 88 #[.slice A l.length c] w fun e w'=>e=.returned (.string (lstV10 l).1)∧Below w.heap.size w w':=by
 have HC:=Lib.hid (list_any10 A c l w hs hc)
 simp only [lstR10] at HC
 generalize lstV10 l=V at *
 clear hs hc
 go_enter Tryz.func88,Tryz.ntmps88
 go_wp2_with fail
 refine HC.out.mono ?_
 rintro e w1 ⟨rfl,hb⟩
 go_wp2
 go_ret
 exact ⟨rfl,hb⟩
theorem wtog_any11 (g:Nat) (l:List ByteArray) (w:World) (h:Is w g 9 (l.map Value.string).toArray) (hl:l.length≤1000) (hz:(all11 l).size≤1000000) :
  Calls Tryz.prog 86 #[.slice (some ⟨g,0,none⟩) l.length l.length] w fun e w'=>e=.returned (.string (all11 l))∧Below w.heap.size w w':=by
 have HC:=Lib.hid (join_any11 g l w h hl hz)
 generalize all11 l=V at *
 clear h
 go_enter Tryz.func86,Tryz.ntmps86
 go_wp2_with fail
 refine HC.out.mono ?_
 rintro e w1 ⟨rfl,hb⟩
 go_wp2
 go_ret
 exact ⟨rfl,hb⟩
end Go.Proofs.YtmggbbmpckcleaaGreat
namespace Go.Proofs.YtmggbbmpckcleaaGreat
open Go.RowKit Go.Shelf Go.Maps Go.WideMaps
def ky11 (l:List ByteArray):List Lit:=l.map fun s=>.string s.data.toList
def st11 (l:List ByteArray):DataW Unit:=setOf (.agg []) (ky11 l)
theorem ky_key11 (l:List ByteArray):∀ x ∈ ky11 l,WideAt.IsKeyLit x:=fun x hx=>by
 obtain ⟨s,_,rfl⟩:=List.mem_map.1 hx
 trivial
theorem st_snoc11 (l:List ByteArray) (s:ByteArray):st11 (l ++ [s])=(st11 l).put (.string s.data.toList) (.agg []):=by
 rw [st11,ky11,List.map_append,List.map_singleton,setOf_snoc];rfl
theorem any_key11 (l:List ByteArray) (s:ByteArray):(ky11 l).any (fun y=>y.sameKey (.string s.data.toList))=true↔s ∈ l:=by
 rw [List.any_eq_true]
 constructor
 ·
  rintro ⟨y,hy,h⟩
  obtain ⟨t,ht,rfl⟩:=List.mem_map.1 hy
  have e:(t.data.toList == s.data.toList)=true:=h
  have e2:t=s:=by
   apply ByteArray.ext
   exact Array.toList_inj.1 (eq_of_beq e)
  exact e2 ▸ ht
 ·
  intro h
  exact ⟨_,List.mem_map.2 ⟨s,h,rfl⟩,show (s.data.toList == s.data.toList)=true from beq_self_eq_true _⟩
theorem st_size11 (l:List ByteArray):Maps.size (st11 l)≤l.length∧(Maps.size (st11 l) < l.length↔¬ l.Nodup):=by
 have hs:Maps.size (st11 l)=((ky11 l).foldl addKey []).length:=size_setOf _ _ (ky_key11 l)
 rw [hs]
 have key:∀ (r o:List ByteArray),((ky11 r).foldl addKey (ky11 o)).length≤o.length + r.length∧(o.Nodup→(((ky11 r).foldl addKey (ky11 o)).length < o.length + r.length↔¬ (o ++ r).Nodup)):=by
  intro r
  induction r with
  | nil =>
   intro o
   refine ⟨by simp [ky11],fun ho=>?_⟩
   rw [List.append_nil]
   simp [ky11,ho]
  | cons s r ih =>
   intro o
   have e:(ky11 (s :: r)).foldl addKey (ky11 o)=(ky11 r).foldl addKey (addKey (ky11 o) (.string s.data.toList)):=rfl
   rw [e,addKey]
   by_cases hm:s ∈ o
   ·
    rw [if_pos ((any_key11 o s).2 hm)]
    obtain ⟨a,b⟩:=ih o
    rw [List.length_cons]
    refine ⟨by omega,fun ho=>⟨fun _ hn=>?_,fun _=>by omega⟩⟩
    rw [List.nodup_append] at hn
    exact hn.2.2 s hm s (List.mem_cons_self ..) rfl
   ·
    rw [if_neg (fun h=>hm ((any_key11 o s).1 h))]
    have e2:ky11 o ++ [.string s.data.toList]=ky11 (o ++ [s]):=by simp [ky11]
    rw [e2]
    obtain ⟨a,b⟩:=ih (o ++ [s])
    rw [List.length_append,List.length_singleton] at a b
    rw [List.length_cons]
    refine ⟨by omega,fun ho=>?_⟩
    have b2:=b (by
     rw [List.nodup_append]
     exact ⟨ho,by simp,fun x hx y hy=>by rw [List.mem_singleton] at hy;subst hy;exact fun h=>hm (h ▸ hx)⟩)
    rw [show o.length + (r.length + 1)=o.length + 1 + r.length by omega,b2,List.append_assoc]
    rfl
 have h:=key l []
 simp only [List.length_nil,Nat.zero_add,List.nil_append] at h
 exact ⟨h.1,h.2 List.nodup_nil⟩
theorem law11:Keyed Tryz.prog 9:=string_keyed Tryz.underlying9
theorem twice_any11 (A:Option Addr) (c:Nat) (l:List ByteArray) (w:World) (hl:l.length≤1000) (hz:∀ s ∈ l,s.size≤1000) (hc:InV w A (tL10 l)) :
  Calls Tryz.prog 102 #[.slice A l.length c] w fun e w'=>e=.returned (.bool (!decide l.Nodup))∧Below w.heap.size w w':=by
 have HC:=Lib.hid hc
 have HZ:=Lib.hid hz
 have HS:=Lib.hid (st_size11 l)
 clear hc hz
 have hmm:∀ (W:World),(Instr.makeMap 113 (some (.int .i64 (l.length:Int)))).run Tryz.prog W=.ok (.map (some W.heap.size)) (W.alloc (.map #[] 0)):=fun W=>by
  rfl
 go_enter Tryz.func102,Tryz.ntmps102
 go_wp2
 go_loopw [5,11] (fun _ i wr=>∃ k:Nat,k≤l.length∧i=.int .i64 (k:Int)∧wr.ownsMap Tryz.prog 9 (unitElem (H:=Unit)) w.heap.size k (st11 (l.take k))∧Below w.heap.size w wr) (fun _ i _=>l.length - (intOf i).toNat)
 case atStart=>exact ⟨0,by omega,rfl,World.ownsMap_made _ _ _ _,(Below.refl _ _).alloc (Nat.le_refl _) _⟩
 case round =>
  obtain ⟨k,hk,rfl,hown,hB⟩:=hrel
  by_cases hlt:k < l.length
  ·
   have h1:(k:Int) < (l.length:Int):=by omega
   obtain ⟨s,hx⟩:∃ s,l[k]?=some s:=⟨_,List.getElem?_eq_getElem hlt⟩
   obtain ⟨b,off,rfl,_,hcell⟩:=(HC.out.keep hB).txt hx
   have hkey:keyOf Tryz.prog 9 (.string s)=some (.string s.data.toList):=keyOf_string_mk Tryz.underlying9 (by have:=HZ.out s (List.mem_of_getElem? hx);unfold maxLen;omega)
   have HST:=Lib.hid (show st11 (l.take (k + 1))=(st11 (l.take k)).put (.string s.data.toList) (.agg []) by rw [take_snoc10 hx,st_snoc11])
   clear hx
   go_wp2_with (first
    | (at_mapUpdate;refine wpList_mapUpdate_own _ rfl _ _ _ 113 rfl 9 117 law11 Tryz.underlying113 (unitElem (H:=Unit)) w.heap.size k _ rfl hown (by unfold maxLen;omega) _ _ _ rfl rfl hkey _ [] unitElem_mk ?_;intro w1 hown1 hgrow1)
    | go_in)
   go_roundw
   case rel=>exact ⟨k + 1,by omega,by go_num,by rw [HST.out];exact hown1,hB.grown hgrow1 hB.size (fun j hj=>by cases hj;exact Nat.le_refl _)⟩
   case measure=>simp [intOf];omega
  ·
   have h1:¬ (k:Int) < (l.length:Int):=by omega
   have hke:k=l.length:=by omega
   have hown2:wr.ownsMap Tryz.prog 9 (unitElem (H:=Unit)) w.heap.size k (st11 l):=by rw [List.take_of_length_le (by omega)] at hown;exact hown
   obtain ⟨z1,z2⟩:=HS.out
   have Z2:=Lib.hid z2
   clear hown z1 z2 HS hk
   go_wp2_with (first
    | (at_len;refine wpList_len_own _ rfl _ 113 rfl 9 117 Tryz.underlying113 (unitElem (H:=Unit)) w.heap.size k _ rfl hown2 ?_)
    | go_in)
   go_ret
   refine ⟨congrArg (fun b=>Ending.returned (Value.bool b)) ?_,hB⟩
   rw [← decide_not]
   exact decide_eq_decide.2 Z2.out
end Go.Proofs.YtmggbbmpckcleaaGreat
namespace Go.Proofs.YtmggbbmpckcleaaGreat
open Go.RowKit Go.Shelf
theorem szd_all11 (l:List ByteArray) (n:Nat):szd11 l n false=(l.all (fun s=>decide (s.size=n)) && decide (l.length≤200)):=by
 rw [szd11];simp
theorem szd_none11 (l:List ByteArray) (n:Nat):szd11 l n true=(l.all (fun s=>decide (s.size=n) || decide (s.size=0)) && decide (l.length≤200)):=by
 rw [szd11];simp
def rq11 (k:Int) (nl nc:Nat) (a b d:Bool):Bool :=
 (if k=1 then decide (nc=nl) else if k=2∨k=3 then decide (nc=0) else if k=4 then decide (nl=0) && decide (nc=0) else false) && (decide (nl≤200) && (a && (b && d)))
theorem rq_right11 (q:Req11):right11 q=rq11 q.k q.L.length q.C.length (q.L.all (fun s=>decide (s.size=16))) (q.C.all (fun s=>decide (s.size=40))) (decide q.L.Nodup):=by
 rw [right11,rq11,szd_all11,szd_all11]
 generalize q.L.all (fun s=>decide (s.size=16))=a
 generalize q.C.all (fun s=>decide (s.size=40))=b
 generalize decide q.L.Nodup=d
 generalize q.L.length=nl
 generalize q.C.length=nc
 generalize q.k=k
 cases a <;> cases b <;> cases d <;> simp only [Bool.and_true,Bool.true_and,Bool.and_false,Bool.false_and]
 rw [Bool.eq_iff_iff]
 by_cases h1:k=1
 · subst h1;simp;omega
 ·
  by_cases h2:k=2
  · subst h2;simp;omega
  ·
   by_cases h3:k=3
   · subst h3;simp;omega
   ·
    by_cases h4:k=4
    · subst h4;simp;omega
    ·
     simp [h1,h2,h3,h4]
     intros
     omega
theorem reqMay_any11 (k:Int) (A A2:Option Addr) (c c2:Nat) (L C:List ByteArray) (w:World) (hl:L.length≤9223372036854775807) (hl2:C.length≤9223372036854775807) (hc:InV w A (tL10 L)) (hc2:InV w A2 (tL10 C)) :
  Calls Tryz.prog 76 #[.agg #[.int .i64 k,.slice A L.length c,.slice A2 C.length c2]] w fun e w'=>e=.returned (.bool (right11 ⟨k,L,C⟩))∧Below w.heap.size w w':=by
 obtain ⟨W1,hW1⟩:∃ W1,W1=w.alloc (.cells #[.int .i64 k,.slice A L.length c,.slice A2 C.length c2] 26):=⟨_,rfl⟩
 have iq:Is W1 w.heap.size 26 #[.int .i64 k,.slice A L.length c,.slice A2 C.length c2]:=by rw [hW1];exact Is.new _ _ _
 have hB:Below w.heap.size w W1:=by rw [hW1];exact (Below.refl _ _).alloc (Nat.le_refl _) _
 have hB2:Below w.heap.size w W1.drew:=belowN hB 1
 have e1:∀ args W,(callFunc 100 args).run Tryz.prog W=.ok (.enter 100 args) W:=fun args W=>by go_simp
 have e2:∀ args W,(callFunc 101 args).run Tryz.prog W=.ok (.enter 101 args) W:=fun args W=>by go_simp
 have P1:=Lib.hid (wrong_any11 100 (fun s=>decide (s.size=16)) isLabel_any11 e1 A c L W1.drew hl (hc.keep hB2))
 have P2:=Lib.hid (wrong_any11 101 (fun s=>decide (s.size=40)) isCell_any11 e2 A2 c2 C W1.drew hl2 (hc2.keep hB2))
 have P3:=Lib.hid (fun (h1:L.length≤200) (h2:L.all (fun s=>decide (s.size=16))=true)=>twice_any11 A c L W1.drew (by omega) (fun s hs=>by
  have:=of_decide_eq_true (List.all_eq_true.1 h2 s hs)
  omega) (hc.keep hB2))
 have c0:W1.cell? ⟨w.heap.size,0,none⟩=some (.int .i64 k):=iq.cell 0
 have c1:W1.cell? ⟨w.heap.size,1,none⟩=some (.slice A L.length c):=iq.cell 1
 have c2':W1.cell? ⟨w.heap.size,2,none⟩=some (.slice A2 C.length c2):=iq.cell 2
 have HR:=Lib.hid (rq_right11 ⟨k,L,C⟩)
 simp only at HR
 generalize right11 ⟨k,L,C⟩=R at *
 generalize L.all (fun s=>decide (s.size=16))=a at *
 generalize C.all (fun s=>decide (s.size=40))=b at *
 generalize decide L.Nodup=d at *
 clear hc hc2 e1 e2 iq
 generalize L.length=nl at *
 generalize C.length=nc at *
 go_enter Tryz.func76,Tryz.ntmps76
 go_wp2_with fail
 rw [← hW1]
 clear hW1
 go_region
 generalize hW2:W1.drew=W2 at *
 have d0:W2.cell? ⟨w.heap.size,0,none⟩=some (.int .i64 k):=by rw [← hW2];exact c0
 have d1:W2.cell? ⟨w.heap.size,1,none⟩=some (.slice A nl c):=by rw [← hW2];exact c1
 have d2:W2.cell? ⟨w.heap.size,2,none⟩=some (.slice A2 nc c2):=by rw [← hW2];exact c2'
 clear c0 c1 c2' hW2 hB
 by_cases h1:k=1
 ·
  subst h1
  by_cases hf1:(nc:Int)=(nl:Int)
  ·
   by_cases hn:(nl:Int)≤200
   ·
    go_wp2_with fail
    refine P1.out.mono ?_
    rintro e w' ⟨rfl,rfl⟩
    cases a with
    | false =>
     go_wp2
     go_ret
     exact ⟨congrArg (fun b=>Ending.returned (Value.bool b)) (by rw [HR.out];simp [rq11]),hB2⟩
    | true =>
     go_wp2_with fail
     refine P2.out.mono ?_
     rintro e w' ⟨rfl,rfl⟩
     cases b with
     | false =>
      go_wp2
      go_ret
      exact ⟨congrArg (fun b=>Ending.returned (Value.bool b)) (by rw [HR.out];simp [rq11]),hB2⟩
     | true =>
      go_wp2_with fail
      refine (P3.out (by omega) trivial).mono ?_
      rintro e w' ⟨rfl,hb⟩
      have hB3:=hB2.trans (hb.mono hB2.size)
      clear hb
      cases d with
      | false =>
       go_wp2
       go_ret
       exact ⟨congrArg (fun b=>Ending.returned (Value.bool b)) (by rw [HR.out];simp [rq11]),hB3⟩
      | true =>
       go_wp2
       go_ret
       exact ⟨congrArg (fun b=>Ending.returned (Value.bool b)) (by rw [HR.out];simp [rq11];omega),hB3⟩
   ·
    go_wp2
    go_ret
    exact ⟨congrArg (fun b=>Ending.returned (Value.bool b)) (by rw [HR.out];simp [rq11];omega),hB2⟩
  ·
   go_wp2
   go_ret
   exact ⟨congrArg (fun b=>Ending.returned (Value.bool b)) (by rw [HR.out];simp [rq11];omega),hB2⟩
 ·
  by_cases h2:k=2
  ·
   subst h2
   by_cases hf1:(nc:Int)=0
   ·
    by_cases hn:(nl:Int)≤200
    ·
     go_wp2_with fail
     refine P1.out.mono ?_
     rintro e w' ⟨rfl,rfl⟩
     cases a with
     | false =>
      go_wp2
      go_ret
      exact ⟨congrArg (fun b=>Ending.returned (Value.bool b)) (by rw [HR.out];simp [rq11]),hB2⟩
     | true =>
      go_wp2_with fail
      refine P2.out.mono ?_
      rintro e w' ⟨rfl,rfl⟩
      cases b with
      | false =>
       go_wp2
       go_ret
       exact ⟨congrArg (fun b=>Ending.returned (Value.bool b)) (by rw [HR.out];simp [rq11]),hB2⟩
      | true =>
       go_wp2_with fail
       refine (P3.out (by omega) trivial).mono ?_
       rintro e w' ⟨rfl,hb⟩
       have hB3:=hB2.trans (hb.mono hB2.size)
       clear hb
       cases d with
       | false =>
        go_wp2
        go_ret
        exact ⟨congrArg (fun b=>Ending.returned (Value.bool b)) (by rw [HR.out];simp [rq11]),hB3⟩
       | true =>
        go_wp2
        go_ret
        exact ⟨congrArg (fun b=>Ending.returned (Value.bool b)) (by rw [HR.out];simp [rq11];omega),hB3⟩
    ·
     go_wp2
     go_ret
     exact ⟨congrArg (fun b=>Ending.returned (Value.bool b)) (by rw [HR.out];simp [rq11];omega),hB2⟩
   ·
    go_wp2
    go_ret
    exact ⟨congrArg (fun b=>Ending.returned (Value.bool b)) (by rw [HR.out];simp [rq11];omega),hB2⟩
  ·
   by_cases h3:k=3
   ·
    subst h3
    by_cases hf1:(nc:Int)=0
    ·
     by_cases hn:(nl:Int)≤200
     ·
      go_wp2_with fail
      refine P1.out.mono ?_
      rintro e w' ⟨rfl,rfl⟩
      cases a with
      | false =>
       go_wp2
       go_ret
       exact ⟨congrArg (fun b=>Ending.returned (Value.bool b)) (by rw [HR.out];simp [rq11]),hB2⟩
      | true =>
       go_wp2_with fail
       refine P2.out.mono ?_
       rintro e w' ⟨rfl,rfl⟩
       cases b with
       | false =>
        go_wp2
        go_ret
        exact ⟨congrArg (fun b=>Ending.returned (Value.bool b)) (by rw [HR.out];simp [rq11]),hB2⟩
       | true =>
        go_wp2_with fail
        refine (P3.out (by omega) trivial).mono ?_
        rintro e w' ⟨rfl,hb⟩
        have hB3:=hB2.trans (hb.mono hB2.size)
        clear hb
        cases d with
        | false =>
         go_wp2
         go_ret
         exact ⟨congrArg (fun b=>Ending.returned (Value.bool b)) (by rw [HR.out];simp [rq11]),hB3⟩
        | true =>
         go_wp2
         go_ret
         exact ⟨congrArg (fun b=>Ending.returned (Value.bool b)) (by rw [HR.out];simp [rq11];omega),hB3⟩
     ·
      go_wp2
      go_ret
      exact ⟨congrArg (fun b=>Ending.returned (Value.bool b)) (by rw [HR.out];simp [rq11];omega),hB2⟩
    ·
     go_wp2
     go_ret
     exact ⟨congrArg (fun b=>Ending.returned (Value.bool b)) (by rw [HR.out];simp [rq11];omega),hB2⟩
   ·
    by_cases h4:k=4
    ·
     subst h4
     by_cases hf2:(nl:Int)=0
     ·
      by_cases hf1:(nc:Int)=0
      ·
       by_cases hn:(nl:Int)≤200
       ·
        go_wp2_with fail
        refine P1.out.mono ?_
        rintro e w' ⟨rfl,rfl⟩
        cases a with
        | false =>
         go_wp2
         go_ret
         exact ⟨congrArg (fun b=>Ending.returned (Value.bool b)) (by rw [HR.out];simp [rq11]),hB2⟩
        | true =>
         go_wp2_with fail
         refine P2.out.mono ?_
         rintro e w' ⟨rfl,rfl⟩
         cases b with
         | false =>
          go_wp2
          go_ret
          exact ⟨congrArg (fun b=>Ending.returned (Value.bool b)) (by rw [HR.out];simp [rq11]),hB2⟩
         | true =>
          go_wp2_with fail
          refine (P3.out (by omega) trivial).mono ?_
          rintro e w' ⟨rfl,hb⟩
          have hB3:=hB2.trans (hb.mono hB2.size)
          clear hb
          cases d with
          | false =>
           go_wp2
           go_ret
           exact ⟨congrArg (fun b=>Ending.returned (Value.bool b)) (by rw [HR.out];simp [rq11]),hB3⟩
          | true =>
           go_wp2
           go_ret
           exact ⟨congrArg (fun b=>Ending.returned (Value.bool b)) (by rw [HR.out];simp [rq11];omega),hB3⟩
       · exfalso;omega
      ·
       go_wp2
       go_ret
       exact ⟨congrArg (fun b=>Ending.returned (Value.bool b)) (by rw [HR.out];simp [rq11];omega),hB2⟩
     ·
      go_wp2
      go_ret
      exact ⟨congrArg (fun b=>Ending.returned (Value.bool b)) (by rw [HR.out];simp [rq11];omega),hB2⟩
    ·
     go_wp2
     go_ret
     exact ⟨congrArg (fun b=>Ending.returned (Value.bool b)) (by rw [HR.out];simp [rq11,h1,h2,h3,h4]),hB2⟩
end Go.Proofs.YtmggbbmpckcleaaGreat
namespace Go.Proofs.YtmggbbmpckcleaaGreat
open Go.RowKit Go.Shelf
def rp11 (k st:Int) (nb:Bool) (n:Nat) (a x1 x2 x3 x4:Bool):Bool :=
 decide (0≤st) && (decide (st≤2) && (nb && (decide (n≤200) && (a && (if k=0 then x1 && (x2 && (x3 && x4)) else if k=1 then x2 && (x3 && x4) else if k=2 then x1 && (x3 && x4) else if k=3 then x1 && (x2 && x4) else if k=4 then x1 && x2 else false)))))
theorem rp_may11 (q:Rsp11):may11 q=rp11 q.k q.st (numE10 q.many && numE10 q.room) q.C.length (q.C.all (fun s=>decide (s.size=40) || decide (s.size=0))) (q.st == 0) ((q.C.length:Int) == 0) (q.many == 0) (q.room == 0):=by
 rw [may11,rp11,szd_none11,numE10,numE10]
 generalize q.C.all (fun s=>decide (s.size=40) || decide (s.size=0))=a
 generalize q.C.length=n
 generalize q.k=k
 generalize q.st=st
 generalize q.many=m
 generalize q.room=r
 cases a <;> simp only [Bool.true_and,Bool.and_false,Bool.false_and]
 rw [Bool.eq_iff_iff]
 by_cases h0:k=0
 · subst h0;simp;omega
 ·
  by_cases h1:k=1
  · subst h1;simp;omega
  ·
   by_cases h2:k=2
   · subst h2;simp;omega
   ·
    by_cases h3:k=3
    · subst h3;simp;omega
    ·
     by_cases h4:k=4
     · subst h4;simp;omega
     ·
      simp [h0,h1,h2,h3,h4]
      intros
      omega
theorem rspMay_any11 (k st m r:Int) (A:Option Addr) (c:Nat) (C:List ByteArray) (w:World) (hl:C.length≤9223372036854775807) (hc:InV w A (tL10 C)) :
  Calls Tryz.prog 103 #[.agg #[.int .i64 k,.int .i64 st,.slice A C.length c,.int .i64 m,.int .i64 r]] w fun e w'=>e=.returned (.bool (may11 ⟨k,st,C,m,r⟩))∧Below w.heap.size w w':=by
 obtain ⟨W1,hW1⟩:∃ W1,W1=w.alloc (.cells #[.int .i64 k,.int .i64 st,.slice A C.length c,.int .i64 m,.int .i64 r] 45):=⟨_,rfl⟩
 have iq:Is W1 w.heap.size 45 #[.int .i64 k,.int .i64 st,.slice A C.length c,.int .i64 m,.int .i64 r]:=by rw [hW1];exact Is.new _ _ _
 have hB:Below w.heap.size w W1:=by rw [hW1];exact (Below.refl _ _).alloc (Nat.le_refl _) _
 obtain ⟨W2,hW2⟩:∃ W2,W2=W1.alloc (.cells #[.int .i64 m,.int .i64 r] 3):=⟨_,rfl⟩
 have iq2:Is W2 w.heap.size 45 #[.int .i64 k,.int .i64 st,.slice A C.length c,.int .i64 m,.int .i64 r]:=by rw [hW2];exact iq.alloc _
 have hB2:Below w.heap.size w W2:=by rw [hW2];exact hB.alloc hB.size _
 have iN2:Is W2 W1.heap.size 3 #[.int .i64 m,.int .i64 r]:=by rw [hW2];exact Is.new _ _ _
 have e1:∀ args W,(callFunc 123 args).run Tryz.prog W=.ok (.enter 123 args) W:=fun args W=>by go_simp
 have P1:=Lib.hid (wrongN_any11 W1.heap.size [m,r] W2 (by show 2≤1000;omega) iN2)
 have P2:=Lib.hid (wrong_any11 123 (fun s=>decide (s.size=40) || decide (s.size=0)) isNone_any11 e1 A c C W2 hl (hc.keep hB2))
 have hz1:W1.heap.size=w.heap.size + 1:=by rw [hW1];simp
 rw [show ([m,r]:List Int).all numE10=(numE10 m && numE10 r) by simp] at P1
 simp only [List.length_cons,List.length_nil,Nat.zero_add] at P1
 rw [hz1] at P1
 have c1:W1.cell? ⟨w.heap.size,1,none⟩=some (.int .i64 st):=iq.cell 1
 have c3:W1.cell? ⟨w.heap.size,3,none⟩=some (.int .i64 m):=iq.cell 3
 have c4:W1.cell? ⟨w.heap.size,4,none⟩=some (.int .i64 r):=iq.cell 4
 have d0:W2.cell? ⟨w.heap.size,0,none⟩=some (.int .i64 k):=iq2.cell 0
 have d1:W2.cell? ⟨w.heap.size,1,none⟩=some (.int .i64 st):=iq2.cell 1
 have d2:W2.cell? ⟨w.heap.size,2,none⟩=some (.slice A C.length c):=iq2.cell 2
 have d3:W2.cell? ⟨w.heap.size,3,none⟩=some (.int .i64 m):=iq2.cell 3
 have d4:W2.cell? ⟨w.heap.size,4,none⟩=some (.int .i64 r):=iq2.cell 4
 have g0:W2.drew.cell? ⟨w.heap.size,0,none⟩=some (.int .i64 k):=iq2.cell 0
 have HR:=Lib.hid (rp_may11 ⟨k,st,C,m,r⟩)
 simp only at HR
 generalize may11 ⟨k,st,C,m,r⟩=R at *
 generalize C.all (fun s=>decide (s.size=40) || decide (s.size=0))=a at *
 generalize (numE10 m && numE10 r)=nb at *
 clear hc e1 iq iq2 iN2
 generalize C.length=n at *
 have HW2:=Lib.hid hW2
 clear hW2
 go_enter Tryz.func103,Tryz.ntmps103
 by_cases hs0:st < 0
 ·
  go_wp2_with fail
  rw [← hW1]
  clear hW1
  go_wp2
  go_ret
  exact ⟨congrArg (fun b=>Ending.returned (Value.bool b)) (by rw [HR.out];simp [rp11];omega),hB⟩
 by_cases hs2:2 < st
 ·
  go_wp2_with fail
  rw [← hW1]
  clear hW1
  go_wp2
  go_ret
  exact ⟨congrArg (fun b=>Ending.returned (Value.bool b)) (by rw [HR.out];simp [rp11];omega),hB⟩
 go_wp2_with fail
 rw [← hW1,← HW2.out]
 clear hW1 HW2 c1 c3 c4 hz1 hB
 refine P1.out.mono ?_
 rintro e w' ⟨rfl,rfl⟩
 cases nb with
 | false =>
  go_wp2
  go_ret
  exact ⟨congrArg (fun b=>Ending.returned (Value.bool b)) (by rw [HR.out];simp [rp11]),hB2⟩
 | true =>
  by_cases hn:200 < (n:Int)
  ·
   go_wp2
   go_ret
   exact ⟨congrArg (fun b=>Ending.returned (Value.bool b)) (by rw [HR.out];simp [rp11];omega),hB2⟩
  go_wp2_with fail
  refine P2.out.mono ?_
  rintro e w' ⟨rfl,rfl⟩
  cases a with
  | false =>
   go_wp2
   go_ret
   exact ⟨congrArg (fun b=>Ending.returned (Value.bool b)) (by rw [HR.out];simp [rp11]),hB2⟩
  | true =>
   go_wp2
   go_region
   have hB5:Below w.heap.size w W2.drew:=belowN hB2 1
   clear d0 d1 d2 d3 d4 hB2
   have q0:0≤st:=by omega
   have q2:st≤2:=by omega
   have q3:n≤200:=by omega
   rw [rp11,decide_eq_true q0,decide_eq_true q2,decide_eq_true q3] at HR
   simp only [Bool.true_and] at HR
   clear q0 q2 q3 hs0 hs2 hn
   generalize hV1:(st == 0)=x1 at *
   generalize hV2:((n:Int) == 0)=x2 at *
   generalize hV3:(m == 0)=x3 at *
   generalize hV4:(r == 0)=x4 at *
   clear hV1 hV2 hV3 hV4
   generalize W2.drew=W3 at *
   by_cases h0:k=0
   ·
    subst h0
    cases x1 with
    | false =>
     go_wp2
     go_ret
     exact ⟨congrArg (fun b=>Ending.returned (Value.bool b)) (by rw [HR.out];simp),hB5⟩
    | true =>
     cases x2 with
     | false =>
      go_wp2
      go_ret
      exact ⟨congrArg (fun b=>Ending.returned (Value.bool b)) (by rw [HR.out];simp),hB5⟩
     | true =>
      cases x3 with
      | false =>
       go_wp2
       go_ret
       exact ⟨congrArg (fun b=>Ending.returned (Value.bool b)) (by rw [HR.out];simp),hB5⟩
      | true =>
       cases x4 with
       | false =>
        go_wp2
        go_ret
        exact ⟨congrArg (fun b=>Ending.returned (Value.bool b)) (by rw [HR.out];simp),hB5⟩
       | true =>
        go_wp2
        go_ret
        exact ⟨congrArg (fun b=>Ending.returned (Value.bool b)) (by rw [HR.out];simp),hB5⟩
   ·
    by_cases h1:k=1
    ·
     subst h1
     cases x2 with
     | false =>
      go_wp2
      go_ret
      exact ⟨congrArg (fun b=>Ending.returned (Value.bool b)) (by rw [HR.out];simp),hB5⟩
     | true =>
      cases x3 with
      | false =>
       go_wp2
       go_ret
       exact ⟨congrArg (fun b=>Ending.returned (Value.bool b)) (by rw [HR.out];simp),hB5⟩
      | true =>
       cases x4 with
       | false =>
        go_wp2
        go_ret
        exact ⟨congrArg (fun b=>Ending.returned (Value.bool b)) (by rw [HR.out];simp),hB5⟩
       | true =>
        go_wp2
        go_ret
        exact ⟨congrArg (fun b=>Ending.returned (Value.bool b)) (by rw [HR.out];simp),hB5⟩
    ·
     by_cases h2:k=2
     ·
      subst h2
      cases x1 with
      | false =>
       go_wp2
       go_ret
       exact ⟨congrArg (fun b=>Ending.returned (Value.bool b)) (by rw [HR.out];simp),hB5⟩
      | true =>
       cases x3 with
       | false =>
        go_wp2
        go_ret
        exact ⟨congrArg (fun b=>Ending.returned (Value.bool b)) (by rw [HR.out];simp),hB5⟩
       | true =>
        cases x4 with
        | false =>
         go_wp2
         go_ret
         exact ⟨congrArg (fun b=>Ending.returned (Value.bool b)) (by rw [HR.out];simp),hB5⟩
        | true =>
         go_wp2
         go_ret
         exact ⟨congrArg (fun b=>Ending.returned (Value.bool b)) (by rw [HR.out];simp),hB5⟩
     ·
      by_cases h3:k=3
      ·
       subst h3
       cases x1 with
       | false =>
        go_wp2
        go_ret
        exact ⟨congrArg (fun b=>Ending.returned (Value.bool b)) (by rw [HR.out];simp),hB5⟩
       | true =>
        cases x2 with
        | false =>
         go_wp2
         go_ret
         exact ⟨congrArg (fun b=>Ending.returned (Value.bool b)) (by rw [HR.out];simp),hB5⟩
        | true =>
         cases x4 with
         | false =>
          go_wp2
          go_ret
          exact ⟨congrArg (fun b=>Ending.returned (Value.bool b)) (by rw [HR.out];simp),hB5⟩
         | true =>
          go_wp2
          go_ret
          exact ⟨congrArg (fun b=>Ending.returned (Value.bool b)) (by rw [HR.out];simp),hB5⟩
      ·
       by_cases h4:k=4
       ·
        subst h4
        cases x1 with
        | false =>
         go_wp2
         go_ret
         exact ⟨congrArg (fun b=>Ending.returned (Value.bool b)) (by rw [HR.out];simp),hB5⟩
        | true =>
         cases x2 with
         | false =>
          go_wp2
          go_ret
          exact ⟨congrArg (fun b=>Ending.returned (Value.bool b)) (by rw [HR.out];simp),hB5⟩
         | true =>
          go_wp2
          go_ret
          exact ⟨congrArg (fun b=>Ending.returned (Value.bool b)) (by rw [HR.out];simp),hB5⟩
       ·
        go_wp2
        go_ret
        exact ⟨congrArg (fun b=>Ending.returned (Value.bool b)) (by rw [HR.out];simp [h0,h1,h2,h3,h4]),hB5⟩
end Go.Proofs.YtmggbbmpckcleaaGreat
namespace Go.Proofs.YtmggbbmpckcleaaGreat
open Go.RowKit Go.Shelf
theorem enc11_reg (W0:World) (DQ:Nat) (k:Int) (A A2:Option Addr) (c c2 nl nc:Nat) (s1 s2 s3 s4:ByteArray) (N1:Hid (∀ W,Calls Tryz.prog 87 #[.int .i64 k] W fun e w'=>e=.returned (.string s1)∧Below W.heap.size W w'))
  (N2:Hid (∀ W,Below W0.heap.size W0 W→Calls Tryz.prog 88 #[.slice A nl c] W fun e w'=>e=.returned (.string s2)∧Below W.heap.size W w')) (N3:Hid (∀ W,Below W0.heap.size W0 W→Calls Tryz.prog 88 #[.slice A2 nc c2] W fun e w'=>e=.returned (.string s3)∧Below W.heap.size W w'))
  (N4:Hid (∀ g W,Is W g 9 #[.string s1,.string s2,.string s3]→Calls Tryz.prog 86 #[.slice (some ⟨g,0,none⟩) 3 3] W fun e w'=>e=.returned (.string s4)∧Below W.heap.size W w')) (iq:Is W0 DQ 26 #[.int .i64 k,.slice A nl c,.slice A2 nc c2]) (x0 x2 x3 x4 x5 x6 x7 x8 x9 Xa Xb Xc Xd Xe Xf Xg Xh:Value) :
  (Code.region 3 (opsOf Tryz.f60 3) true).wp Tryz.prog (fun ex YY W=>ex=.normal∧YY.defers=[]∧∃ (DP:Nat),YY.tmps=#[x0,.pointer (some ⟨DQ,0,none⟩),.string s4,.int .i64 0,x4,x5,x6,.pointer (some ⟨DQ,0,none⟩),.int .i64 k,.string s1,.pointer (some ⟨DQ,1,none⟩),.slice A nl c,.string s2,.pointer (some ⟨DQ,2,none⟩),.slice A2 nc c2,.string s3,.slice (some ⟨DP,0,none⟩) 3 3,.string s4]∧Below W0.heap.size W0 W∧Is W DP 9 #[.string s1,.string s2,.string s3]) { tmps:=#[x0,.pointer (some ⟨DQ,0,none⟩),x2,x3,x4,x5,x6,x7,x8,x9,Xa,Xb,Xc,Xd,Xe,Xf,Xg,Xh],defers:=[] } W0:=by
 have hB:Below W0.heap.size W0 (W0.drewN 1):=belowN (Below.refl _ _) 1
 generalize hQ:(fun (ex:Exit) (YY:Act) (W:World)=>ex=.normal∧YY.defers=[]∧∃ (DP:Nat),YY.tmps=#[x0,.pointer (some ⟨DQ,0,none⟩),.string s4,.int .i64 0,x4,x5,x6,.pointer (some ⟨DQ,0,none⟩),.int .i64 k,.string s1,.pointer (some ⟨DQ,1,none⟩),.slice A nl c,.string s2,.pointer (some ⟨DQ,2,none⟩),.slice A2 nc c2,.string s3,.slice (some ⟨DP,0,none⟩) 3 3,.string s4]∧Below W0.heap.size W0 W∧Is W DP 9 #[.string s1,.string s2,.string s3])=Q
 have HQN:∀ c a W,¬ Q (.panic c) a W:=fun c a W h=>by subst hQ;exact nomatch h.1
 have ST2_5_8_9_10:∀ (W:World) (DP:Nat),Below W0.heap.size W0 W→Is W DP 9 #[.string s1,.string s2,.string s3]→wpAnyH Tryz.prog .any (opsOf Tryz.f60 3) Q (fun W=>Below W0.heap.size W0 W) 0 #[true,true,true,true,true,true,true,true,true,true,true,true,true] { tmps:=#[x0,.pointer (some ⟨DQ,0,none⟩),.string s4,.int .i64 0,x4,x5,x6,.pointer (some ⟨DQ,0,none⟩),.int .i64 k,.string s1,.pointer (some ⟨DQ,1,none⟩),.slice A nl c,.string s2,.pointer (some ⟨DQ,2,none⟩),.slice A2 nc c2,.string s3,.slice (some ⟨DP,0,none⟩) 3 3,.string s4],defers:=[] } W:=by
  intro W DP hB iP
  refine wpAnyH_done (by kernel_rfl) ?_ _
  subst hQ
  exact ⟨rfl,rfl,DP,rfl,hB,iP⟩
 have ST2_5_8_9:∀ (W:World) (DP:Nat),Below W0.heap.size W0 W→Is W DP 9 #[.string s1,.string s2,.string s3]→wpAnyH Tryz.prog .any (opsOf Tryz.f60 3) Q (fun W=>Below W0.heap.size W0 W) 3 #[true,true,true,true,true,true,true,true,true,true,false,false,false] { tmps:=#[x0,.pointer (some ⟨DQ,0,none⟩),x2,x3,x4,x5,x6,.pointer (some ⟨DQ,0,none⟩),.int .i64 k,.string s1,.pointer (some ⟨DQ,1,none⟩),.slice A nl c,.string s2,.pointer (some ⟨DQ,2,none⟩),.slice A2 nc c2,.string s3,.slice (some ⟨DP,0,none⟩) 3 3,Xh],defers:=[] } W:=by
  intro W DP hB iP
  refine wpAnyH_ready (by kernel_rfl) (by simp) (AllReadyH.cons (i:=10) (at_nth rfl) ?_ (AllReadyH.nil))
  ·
   refine arm10_call (by kernel_rfl) (fun wy=>by kernel_rfl) ((N4.out _ _ iP).mono ?_)
   rintro e Wn ⟨rfl,hb⟩
   replace iP:=iP.below hb iP.lt
   replace hB:=hB.trans (hb.mono hB.size)
   clear hb
   refine ⟨_,rfl,hB,?_⟩
   simp only [Act.put,zz0,zz1,zz2]
   refine wpP (i:=11) (v:=.string s4) HQN rfl (fun w hSw=>by kernel_rfl) hB ?_
   simp only [Act.put,zz0,zz1,zz2]
   refine wpP (i:=12) (v:=.int .i64 0) HQN rfl (fun w hSw=>by kernel_rfl) hB ?_
   simp only [Act.put,zz0,zz1,zz2]
   exact ST2_5_8_9_10 _ _ hB iP
 have ST2_5_8:∀ (W:World),Below W0.heap.size W0 W→wpAnyH Tryz.prog .any (opsOf Tryz.f60 3) Q (fun W=>Below W0.heap.size W0 W) 4 #[true,true,true,true,true,true,true,true,true,false,false,false,false] { tmps:=#[x0,.pointer (some ⟨DQ,0,none⟩),x2,x3,x4,x5,x6,.pointer (some ⟨DQ,0,none⟩),.int .i64 k,.string s1,.pointer (some ⟨DQ,1,none⟩),.slice A nl c,.string s2,.pointer (some ⟨DQ,2,none⟩),.slice A2 nc c2,.string s3,Xg,Xh],defers:=[] } W:=by
  intro W hB
  refine wpAnyH_ready (by kernel_rfl) (by simp) (AllReadyH.cons (i:=9) (at_nth rfl) ?_ (AllReadyH.nil))
  ·
   have iP:=Is.new W 9 #[.string s1,.string s2,.string s3]
   replace hB:=hB.alloc hB.size (.cells #[.string s1,.string s2,.string s3] 9)
   refine arm10_value (v:=.slice (some ⟨W.heap.size,0,none⟩) 3 3) (w':=W.alloc (.cells #[.string s1,.string s2,.string s3] 9)) (by kernel_rfl) (by go_simp) hB ?_
   simp only [Act.put,zz0,zz1,zz2]
   exact ST2_5_8_9 _ _ hB iP
 have ST2_5:∀ (W:World),Below W0.heap.size W0 W→wpAnyH Tryz.prog .any (opsOf Tryz.f60 3) Q (fun W=>Below W0.heap.size W0 W) 5 #[true,true,true,true,true,true,true,true,false,false,false,false,false] { tmps:=#[x0,.pointer (some ⟨DQ,0,none⟩),x2,x3,x4,x5,x6,.pointer (some ⟨DQ,0,none⟩),.int .i64 k,.string s1,.pointer (some ⟨DQ,1,none⟩),.slice A nl c,.string s2,.pointer (some ⟨DQ,2,none⟩),.slice A2 nc c2,Xf,Xg,Xh],defers:=[] } W:=by
  intro W hB
  refine wpAnyH_ready (by kernel_rfl) (by simp) (AllReadyH.cons (i:=8) (at_nth rfl) ?_ (AllReadyH.nil))
  ·
   refine arm10_call (by kernel_rfl) (fun wy=>by kernel_rfl) ((N3.out _ hB).mono ?_)
   rintro e Wn ⟨rfl,hb⟩
   replace hB:=hB.trans (hb.mono hB.size)
   clear hb
   refine ⟨_,rfl,hB,?_⟩
   simp only [Act.put,zz0,zz1,zz2]
   exact ST2_5_8 _ hB
 have ST2:∀ (W:World),Below W0.heap.size W0 W→wpAnyH Tryz.prog .any (opsOf Tryz.f60 3) Q (fun W=>Below W0.heap.size W0 W) 6 #[true,true,true,true,true,false,true,true,false,false,false,false,false] { tmps:=#[x0,.pointer (some ⟨DQ,0,none⟩),x2,x3,x4,x5,x6,.pointer (some ⟨DQ,0,none⟩),.int .i64 k,.string s1,.pointer (some ⟨DQ,1,none⟩),.slice A nl c,Xc,.pointer (some ⟨DQ,2,none⟩),.slice A2 nc c2,Xf,Xg,Xh],defers:=[] } W:=by
  intro W hB
  refine wpAnyH_ready (by kernel_rfl) (by simp) (AllReadyH.cons (i:=5) (at_nth rfl) ?_ (AllReadyH.nil))
  ·
   refine arm10_call (by kernel_rfl) (fun wy=>by kernel_rfl) ((N2.out _ hB).mono ?_)
   rintro e Wn ⟨rfl,hb⟩
   replace hB:=hB.trans (hb.mono hB.size)
   clear hb
   refine ⟨_,rfl,hB,?_⟩
   simp only [Act.put,zz0,zz1,zz2]
   exact ST2_5 _ hB
 have ST:∀ (W:World),Below W0.heap.size W0 W→wpAnyH Tryz.prog .any (opsOf Tryz.f60 3) Q (fun W=>Below W0.heap.size W0 W) 7 #[true,true,false,true,true,false,true,true,false,false,false,false,false] { tmps:=#[x0,.pointer (some ⟨DQ,0,none⟩),x2,x3,x4,x5,x6,.pointer (some ⟨DQ,0,none⟩),.int .i64 k,x9,.pointer (some ⟨DQ,1,none⟩),.slice A nl c,Xc,.pointer (some ⟨DQ,2,none⟩),.slice A2 nc c2,Xf,Xg,Xh],defers:=[] } W:=by
  intro W hB
  refine wpAnyH_ready (by kernel_rfl) (by simp) (AllReadyH.cons (i:=2) (at_nth rfl) ?_ (AllReadyH.nil))
  ·
   refine arm10_call (by kernel_rfl) (fun wy=>by kernel_rfl) ((N1.out _).mono ?_)
   rintro e Wn ⟨rfl,hb⟩
   replace hB:=hB.trans (hb.mono hB.size)
   clear hb
   refine ⟨_,rfl,hB,?_⟩
   simp only [Act.put,zz0,zz1,zz2]
   exact ST2 _ hB
 refine wp_region_held_drew (S:=fun W=>Below W0.heap.size W0 W) (by kernel_rfl) hB (fun hS=>?_)
 change wpAnyH _ _ (opsOf Tryz.f60 3) _ _ 13 (Array.replicate 13 false) _ (W0.drewN 1)
 clear hS
 replace hB:Below W0.heap.size W0 (W0.drewN 1):=belowN (Below.refl _ _) 1
 refine wpP (i:=0) (v:=.pointer (some ⟨DQ,0,none⟩)) HQN rfl (fun w hSw=>by go_simp) hB ?_
 simp only [Act.put,zz0,zz1,zz2]
 refine wpP (i:=1) (v:=.int .i64 k) HQN rfl (fun w hSw=>by (have hc:=(iq.below hSw iq.lt).cell 0;go_simp)) hB ?_
 simp only [Act.put,zz0,zz1,zz2]
 refine wpP (i:=3) (v:=.pointer (some ⟨DQ,1,none⟩)) HQN rfl (fun w hSw=>by go_simp) hB ?_
 simp only [Act.put,zz0,zz1,zz2]
 refine wpP (i:=4) (v:=.slice A nl c) HQN rfl (fun w hSw=>by (have hc:=(iq.below hSw iq.lt).cell 1;go_simp)) hB ?_
 simp only [Act.put,zz0,zz1,zz2]
 refine wpP (i:=6) (v:=.pointer (some ⟨DQ,2,none⟩)) HQN rfl (fun w hSw=>by go_simp) hB ?_
 simp only [Act.put,zz0,zz1,zz2]
 refine wpP (i:=7) (v:=.slice A2 nc c2) HQN rfl (fun w hSw=>by (have hc:=(iq.below hSw iq.lt).cell 2;go_simp)) hB ?_
 simp only [Act.put,zz0,zz1,zz2]
 exact ST _ hB
theorem answ11_reg (W0:World) (DQ:Nat) (k st m r:Int) (A:Option Addr) (c nc:Nat) (s1 s2 s3 s4 s5 s6:ByteArray) (N1:Hid (∀ W,Calls Tryz.prog 87 #[.int .i64 k] W fun e w'=>e=.returned (.string s1)∧Below W.heap.size W w'))
  (N2:Hid (∀ W,Calls Tryz.prog 87 #[.int .i64 st] W fun e w'=>e=.returned (.string s2)∧Below W.heap.size W w')) (N3:Hid (∀ W,Below W0.heap.size W0 W→Calls Tryz.prog 88 #[.slice A nc c] W fun e w'=>e=.returned (.string s3)∧Below W.heap.size W w')) (N4:Hid (∀ W,Calls Tryz.prog 87 #[.int .i64 m] W fun e w'=>e=.returned (.string s4)∧Below W.heap.size W w')) (N5:Hid (∀ W,Calls Tryz.prog 87 #[.int .i64 r] W fun e w'=>e=.returned (.string s5)∧Below W.heap.size W w'))
  (N6:Hid (∀ g W,Is W g 9 #[.string s1,.string s2,.string s3,.string s4,.string s5]→Calls Tryz.prog 86 #[.slice (some ⟨g,0,none⟩) 5 5] W fun e w'=>e=.returned (.string s6)∧Below W.heap.size W w')) (iq:Is W0 DQ 45 #[.int .i64 k,.int .i64 st,.slice A nc c,.int .i64 m,.int .i64 r]) (x0 x2 x3 x4 x5 x6 x7 x8 x9 Xa Xb Xc Xd Xe Xf Xg Xh Xi Xj Xk Xl Xm Xn:Value) :
  (Code.region 3 (opsOf Tryz.f77 3) true).wp Tryz.prog (fun ex YY W=>ex=.normal∧YY.defers=[]∧∃ (DP:Nat),YY.tmps=#[x0,.pointer (some ⟨DQ,0,none⟩),.string s6,.int .i64 0,x4,x5,x6,.pointer (some ⟨DQ,0,none⟩),.int .i64 k,.string s1,.pointer (some ⟨DQ,1,none⟩),.int .i64 st,.string s2,.pointer (some ⟨DQ,2,none⟩),.slice A nc c,.string s3,.pointer (some ⟨DQ,3,none⟩),.int .i64 m,.string s4,.pointer (some ⟨DQ,4,none⟩),.int .i64 r,.string s5,.slice (some ⟨DP,0,none⟩) 5 5,.string s6]∧Below W0.heap.size W0 W∧Is W DP 9 #[.string s1,.string s2,.string s3,.string s4,.string s5]) { tmps:=#[x0,.pointer (some ⟨DQ,0,none⟩),x2,x3,x4,x5,x6,x7,x8,x9,Xa,Xb,Xc,Xd,Xe,Xf,Xg,Xh,Xi,Xj,Xk,Xl,Xm,Xn],defers:=[] } W0:=by
 have hB:Below W0.heap.size W0 (W0.drewN 1):=belowN (Below.refl _ _) 1
 generalize hQ:(fun (ex:Exit) (YY:Act) (W:World)=>ex=.normal∧YY.defers=[]∧∃ (DP:Nat),YY.tmps=#[x0,.pointer (some ⟨DQ,0,none⟩),.string s6,.int .i64 0,x4,x5,x6,.pointer (some ⟨DQ,0,none⟩),.int .i64 k,.string s1,.pointer (some ⟨DQ,1,none⟩),.int .i64 st,.string s2,.pointer (some ⟨DQ,2,none⟩),.slice A nc c,.string s3,.pointer (some ⟨DQ,3,none⟩),.int .i64 m,.string s4,.pointer (some ⟨DQ,4,none⟩),.int .i64 r,.string s5,.slice (some ⟨DP,0,none⟩) 5 5,.string s6]∧Below W0.heap.size W0 W∧Is W DP 9 #[.string s1,.string s2,.string s3,.string s4,.string s5])=Q
 have HQN:∀ c a W,¬ Q (.panic c) a W:=fun c a W h=>by subst hQ;exact nomatch h.1
 have ST2_5_8_11_14_15_16:∀ (W:World) (DP:Nat),Below W0.heap.size W0 W→Is W DP 9 #[.string s1,.string s2,.string s3,.string s4,.string s5]→wpAnyH Tryz.prog .any (opsOf Tryz.f77 3) Q (fun W=>Below W0.heap.size W0 W) 0 #[true,true,true,true,true,true,true,true,true,true,true,true,true,true,true,true,true,true,true] { tmps:=#[x0,.pointer (some ⟨DQ,0,none⟩),.string s6,.int .i64 0,x4,x5,x6,.pointer (some ⟨DQ,0,none⟩),.int .i64 k,.string s1,.pointer (some ⟨DQ,1,none⟩),.int .i64 st,.string s2,.pointer (some ⟨DQ,2,none⟩),.slice A nc c,.string s3,.pointer (some ⟨DQ,3,none⟩),.int .i64 m,.string s4,.pointer (some ⟨DQ,4,none⟩),.int .i64 r,.string s5,.slice (some ⟨DP,0,none⟩) 5 5,.string s6],defers:=[] } W:=by
  intro W DP hB iP
  refine wpAnyH_done (by kernel_rfl) ?_ _
  subst hQ
  exact ⟨rfl,rfl,DP,rfl,hB,iP⟩
 have ST2_5_8_11_14_15:∀ (W:World) (DP:Nat),Below W0.heap.size W0 W→Is W DP 9 #[.string s1,.string s2,.string s3,.string s4,.string s5]→wpAnyH Tryz.prog .any (opsOf Tryz.f77 3) Q (fun W=>Below W0.heap.size W0 W) 3 #[true,true,true,true,true,true,true,true,true,true,true,true,true,true,true,true,false,false,false] { tmps:=#[x0,.pointer (some ⟨DQ,0,none⟩),x2,x3,x4,x5,x6,.pointer (some ⟨DQ,0,none⟩),.int .i64 k,.string s1,.pointer (some ⟨DQ,1,none⟩),.int .i64 st,.string s2,.pointer (some ⟨DQ,2,none⟩),.slice A nc c,.string s3,.pointer (some ⟨DQ,3,none⟩),.int .i64 m,.string s4,.pointer (some ⟨DQ,4,none⟩),.int .i64 r,.string s5,.slice (some ⟨DP,0,none⟩) 5 5,Xn],defers:=[] } W:=by
  intro W DP hB iP
  refine wpAnyH_ready (by kernel_rfl) (by simp) (AllReadyH.cons (i:=16) (at_nth rfl) ?_ (AllReadyH.nil))
  ·
   refine arm10_call (by kernel_rfl) (fun wy=>by kernel_rfl) ((N6.out _ _ iP).mono ?_)
   rintro e Wn ⟨rfl,hb⟩
   replace iP:=iP.below hb iP.lt
   replace hB:=hB.trans (hb.mono hB.size)
   clear hb
   refine ⟨_,rfl,hB,?_⟩
   simp only [Act.put,zz0,zz1,zz2]
   refine wpP (i:=17) (v:=.string s6) HQN rfl (fun w hSw=>by kernel_rfl) hB ?_
   simp only [Act.put,zz0,zz1,zz2]
   refine wpP (i:=18) (v:=.int .i64 0) HQN rfl (fun w hSw=>by kernel_rfl) hB ?_
   simp only [Act.put,zz0,zz1,zz2]
   exact ST2_5_8_11_14_15_16 _ _ hB iP
 have ST2_5_8_11_14:∀ (W:World),Below W0.heap.size W0 W→wpAnyH Tryz.prog .any (opsOf Tryz.f77 3) Q (fun W=>Below W0.heap.size W0 W) 4 #[true,true,true,true,true,true,true,true,true,true,true,true,true,true,true,false,false,false,false] { tmps:=#[x0,.pointer (some ⟨DQ,0,none⟩),x2,x3,x4,x5,x6,.pointer (some ⟨DQ,0,none⟩),.int .i64 k,.string s1,.pointer (some ⟨DQ,1,none⟩),.int .i64 st,.string s2,.pointer (some ⟨DQ,2,none⟩),.slice A nc c,.string s3,.pointer (some ⟨DQ,3,none⟩),.int .i64 m,.string s4,.pointer (some ⟨DQ,4,none⟩),.int .i64 r,.string s5,Xm,Xn],defers:=[] } W:=by
  intro W hB
  refine wpAnyH_ready (by kernel_rfl) (by simp) (AllReadyH.cons (i:=15) (at_nth rfl) ?_ (AllReadyH.nil))
  ·
   have iP:=Is.new W 9 #[.string s1,.string s2,.string s3,.string s4,.string s5]
   replace hB:=hB.alloc hB.size (.cells #[.string s1,.string s2,.string s3,.string s4,.string s5] 9)
   refine arm10_value (v:=.slice (some ⟨W.heap.size,0,none⟩) 5 5) (w':=W.alloc (.cells #[.string s1,.string s2,.string s3,.string s4,.string s5] 9)) (by kernel_rfl) (by go_simp) hB ?_
   simp only [Act.put,zz0,zz1,zz2]
   exact ST2_5_8_11_14_15 _ _ hB iP
 have ST2_5_8_11:∀ (W:World),Below W0.heap.size W0 W→wpAnyH Tryz.prog .any (opsOf Tryz.f77 3) Q (fun W=>Below W0.heap.size W0 W) 5 #[true,true,true,true,true,true,true,true,true,true,true,true,true,true,false,false,false,false,false] { tmps:=#[x0,.pointer (some ⟨DQ,0,none⟩),x2,x3,x4,x5,x6,.pointer (some ⟨DQ,0,none⟩),.int .i64 k,.string s1,.pointer (some ⟨DQ,1,none⟩),.int .i64 st,.string s2,.pointer (some ⟨DQ,2,none⟩),.slice A nc c,.string s3,.pointer (some ⟨DQ,3,none⟩),.int .i64 m,.string s4,.pointer (some ⟨DQ,4,none⟩),.int .i64 r,Xl,Xm,Xn],defers:=[] } W:=by
  intro W hB
  refine wpAnyH_ready (by kernel_rfl) (by simp) (AllReadyH.cons (i:=14) (at_nth rfl) ?_ (AllReadyH.nil))
  ·
   refine arm10_call (by kernel_rfl) (fun wy=>by kernel_rfl) ((N5.out _).mono ?_)
   rintro e Wn ⟨rfl,hb⟩
   replace hB:=hB.trans (hb.mono hB.size)
   clear hb
   refine ⟨_,rfl,hB,?_⟩
   simp only [Act.put,zz0,zz1,zz2]
   exact ST2_5_8_11_14 _ hB
 have ST2_5_8:∀ (W:World),Below W0.heap.size W0 W→wpAnyH Tryz.prog .any (opsOf Tryz.f77 3) Q (fun W=>Below W0.heap.size W0 W) 6 #[true,true,true,true,true,true,true,true,true,true,true,false,true,true,false,false,false,false,false] { tmps:=#[x0,.pointer (some ⟨DQ,0,none⟩),x2,x3,x4,x5,x6,.pointer (some ⟨DQ,0,none⟩),.int .i64 k,.string s1,.pointer (some ⟨DQ,1,none⟩),.int .i64 st,.string s2,.pointer (some ⟨DQ,2,none⟩),.slice A nc c,.string s3,.pointer (some ⟨DQ,3,none⟩),.int .i64 m,Xi,.pointer (some ⟨DQ,4,none⟩),.int .i64 r,Xl,Xm,Xn],defers:=[] } W:=by
  intro W hB
  refine wpAnyH_ready (by kernel_rfl) (by simp) (AllReadyH.cons (i:=11) (at_nth rfl) ?_ (AllReadyH.nil))
  ·
   refine arm10_call (by kernel_rfl) (fun wy=>by kernel_rfl) ((N4.out _).mono ?_)
   rintro e Wn ⟨rfl,hb⟩
   replace hB:=hB.trans (hb.mono hB.size)
   clear hb
   refine ⟨_,rfl,hB,?_⟩
   simp only [Act.put,zz0,zz1,zz2]
   exact ST2_5_8_11 _ hB
 have ST2_5:∀ (W:World),Below W0.heap.size W0 W→wpAnyH Tryz.prog .any (opsOf Tryz.f77 3) Q (fun W=>Below W0.heap.size W0 W) 7 #[true,true,true,true,true,true,true,true,false,true,true,false,true,true,false,false,false,false,false] { tmps:=#[x0,.pointer (some ⟨DQ,0,none⟩),x2,x3,x4,x5,x6,.pointer (some ⟨DQ,0,none⟩),.int .i64 k,.string s1,.pointer (some ⟨DQ,1,none⟩),.int .i64 st,.string s2,.pointer (some ⟨DQ,2,none⟩),.slice A nc c,Xf,.pointer (some ⟨DQ,3,none⟩),.int .i64 m,Xi,.pointer (some ⟨DQ,4,none⟩),.int .i64 r,Xl,Xm,Xn],defers:=[] } W:=by
  intro W hB
  refine wpAnyH_ready (by kernel_rfl) (by simp) (AllReadyH.cons (i:=8) (at_nth rfl) ?_ (AllReadyH.nil))
  ·
   refine arm10_call (by kernel_rfl) (fun wy=>by kernel_rfl) ((N3.out _ hB).mono ?_)
   rintro e Wn ⟨rfl,hb⟩
   replace hB:=hB.trans (hb.mono hB.size)
   clear hb
   refine ⟨_,rfl,hB,?_⟩
   simp only [Act.put,zz0,zz1,zz2]
   exact ST2_5_8 _ hB
 have ST2:∀ (W:World),Below W0.heap.size W0 W→wpAnyH Tryz.prog .any (opsOf Tryz.f77 3) Q (fun W=>Below W0.heap.size W0 W) 8 #[true,true,true,true,true,false,true,true,false,true,true,false,true,true,false,false,false,false,false] { tmps:=#[x0,.pointer (some ⟨DQ,0,none⟩),x2,x3,x4,x5,x6,.pointer (some ⟨DQ,0,none⟩),.int .i64 k,.string s1,.pointer (some ⟨DQ,1,none⟩),.int .i64 st,Xc,.pointer (some ⟨DQ,2,none⟩),.slice A nc c,Xf,.pointer (some ⟨DQ,3,none⟩),.int .i64 m,Xi,.pointer (some ⟨DQ,4,none⟩),.int .i64 r,Xl,Xm,Xn],defers:=[] } W:=by
  intro W hB
  refine wpAnyH_ready (by kernel_rfl) (by simp) (AllReadyH.cons (i:=5) (at_nth rfl) ?_ (AllReadyH.nil))
  ·
   refine arm10_call (by kernel_rfl) (fun wy=>by kernel_rfl) ((N2.out _).mono ?_)
   rintro e Wn ⟨rfl,hb⟩
   replace hB:=hB.trans (hb.mono hB.size)
   clear hb
   refine ⟨_,rfl,hB,?_⟩
   simp only [Act.put,zz0,zz1,zz2]
   exact ST2_5 _ hB
 have ST:∀ (W:World),Below W0.heap.size W0 W→wpAnyH Tryz.prog .any (opsOf Tryz.f77 3) Q (fun W=>Below W0.heap.size W0 W) 9 #[true,true,false,true,true,false,true,true,false,true,true,false,true,true,false,false,false,false,false] { tmps:=#[x0,.pointer (some ⟨DQ,0,none⟩),x2,x3,x4,x5,x6,.pointer (some ⟨DQ,0,none⟩),.int .i64 k,x9,.pointer (some ⟨DQ,1,none⟩),.int .i64 st,Xc,.pointer (some ⟨DQ,2,none⟩),.slice A nc c,Xf,.pointer (some ⟨DQ,3,none⟩),.int .i64 m,Xi,.pointer (some ⟨DQ,4,none⟩),.int .i64 r,Xl,Xm,Xn],defers:=[] } W:=by
  intro W hB
  refine wpAnyH_ready (by kernel_rfl) (by simp) (AllReadyH.cons (i:=2) (at_nth rfl) ?_ (AllReadyH.nil))
  ·
   refine arm10_call (by kernel_rfl) (fun wy=>by kernel_rfl) ((N1.out _).mono ?_)
   rintro e Wn ⟨rfl,hb⟩
   replace hB:=hB.trans (hb.mono hB.size)
   clear hb
   refine ⟨_,rfl,hB,?_⟩
   simp only [Act.put,zz0,zz1,zz2]
   exact ST2 _ hB
 refine wp_region_held_drew (S:=fun W=>Below W0.heap.size W0 W) (by kernel_rfl) hB (fun hS=>?_)
 change wpAnyH _ _ (opsOf Tryz.f77 3) _ _ 19 (Array.replicate 19 false) _ (W0.drewN 1)
 clear hS
 replace hB:Below W0.heap.size W0 (W0.drewN 1):=belowN (Below.refl _ _) 1
 refine wpP (i:=0) (v:=.pointer (some ⟨DQ,0,none⟩)) HQN rfl (fun w hSw=>by go_simp) hB ?_
 simp only [Act.put,zz0,zz1,zz2]
 refine wpP (i:=1) (v:=.int .i64 k) HQN rfl (fun w hSw=>by (have hc:=(iq.below hSw iq.lt).cell 0;go_simp)) hB ?_
 simp only [Act.put,zz0,zz1,zz2]
 refine wpP (i:=3) (v:=.pointer (some ⟨DQ,1,none⟩)) HQN rfl (fun w hSw=>by go_simp) hB ?_
 simp only [Act.put,zz0,zz1,zz2]
 refine wpP (i:=4) (v:=.int .i64 st) HQN rfl (fun w hSw=>by (have hc:=(iq.below hSw iq.lt).cell 1;go_simp)) hB ?_
 simp only [Act.put,zz0,zz1,zz2]
 refine wpP (i:=6) (v:=.pointer (some ⟨DQ,2,none⟩)) HQN rfl (fun w hSw=>by go_simp) hB ?_
 simp only [Act.put,zz0,zz1,zz2]
 refine wpP (i:=7) (v:=.slice A nc c) HQN rfl (fun w hSw=>by (have hc:=(iq.below hSw iq.lt).cell 2;go_simp)) hB ?_
 simp only [Act.put,zz0,zz1,zz2]
 refine wpP (i:=9) (v:=.pointer (some ⟨DQ,3,none⟩)) HQN rfl (fun w hSw=>by go_simp) hB ?_
 simp only [Act.put,zz0,zz1,zz2]
 refine wpP (i:=10) (v:=.int .i64 m) HQN rfl (fun w hSw=>by (have hc:=(iq.below hSw iq.lt).cell 3;go_simp)) hB ?_
 simp only [Act.put,zz0,zz1,zz2]
 refine wpP (i:=12) (v:=.pointer (some ⟨DQ,4,none⟩)) HQN rfl (fun w hSw=>by go_simp) hB ?_
 simp only [Act.put,zz0,zz1,zz2]
 refine wpP (i:=13) (v:=.int .i64 r) HQN rfl (fun w hSw=>by (have hc:=(iq.below hSw iq.lt).cell 4;go_simp)) hB ?_
 simp only [Act.put,zz0,zz1,zz2]
 exact ST _ hB
theorem infoReq11:(Tryz.prog.info? 26).map (·.size)=some 3:=by kernel_rfl
theorem infoRsp11:(Tryz.prog.info? 45).map (·.size)=some 5:=by kernel_rfl
theorem szd_bd11 {l:List ByteArray} {n:Nat} {b:Bool} (h:szd11 l n b=true):l.length≤200∧∀ s ∈ l,s.size≤n:=by
 rw [szd11,Bool.and_eq_true,decide_eq_true_eq] at h
 refine ⟨h.2,fun s hs=>?_⟩
 have h1:=List.all_eq_true.1 h.1 s hs
 rw [Bool.or_eq_true,Bool.and_eq_true,decide_eq_true_eq,decide_eq_true_eq] at h1
 omega
theorem right_bd11 {q:Req11} (h:right11 q=true):(1≤q.k∧q.k≤4)∧(∀ s ∈ q.L,s.size≤140737488355328)∧(∀ s ∈ q.C,s.size≤140737488355328)∧(lst10 q.L).size≤5000∧(lst10 q.C).size≤10000∧q.L.length≤200∧q.C.length≤200:=by
 obtain ⟨h1,h2,h3,h4,h5⟩:=right_sizes11 h
 simp only [right11,Bool.and_eq_true,decide_eq_true_eq] at h
 obtain ⟨_,_,a,b,_⟩:=h
 refine ⟨h1,fun s hs=>?_,fun s hs=>?_,by omega,by omega,h4,h5⟩
 · have:=(szd_bd11 a).2 s hs;omega
 · have:=(szd_bd11 b).2 s hs;omega
theorem may_bd11 {q:Rsp11} (h:may11 q=true):(0≤q.k∧q.k≤4)∧(0≤q.st∧q.st≤2)∧(0≤q.many∧q.many≤2147483647)∧(0≤q.room∧q.room≤2147483647)∧(∀ s ∈ q.C,s.size≤140737488355328)∧(lst10 q.C).size≤8804∧q.C.length≤200:=by
 obtain ⟨h1,h2,h3,h4,h5,h6⟩:=may_sizes11 h
 simp only [may11,Bool.and_eq_true,decide_eq_true_eq] at h
 obtain ⟨_,_,_,_,a,_⟩:=h
 refine ⟨h1,h2,h3,h4,fun s hs=>?_,h6,h5⟩
 have:=(szd_bd11 a).2 s hs;omega
theorem numV_ok11 {n:Int} (h0:0≤n) (h1:n≤2147483647):(numV10 n).1=num10 n:=by
 rw [numV10,if_pos (show numE10 n=true by simp [numE10,h0,h1])]
theorem lstV_ok11 {l:List ByteArray} (h:l.length≤1000) (hz:(lst10 l).size≤65536):(lstV10 l).1=lst10 l:=by rw [lstV10,if_pos ⟨h,hz⟩]
def encR11 (q:Req11):Value:=.tuple #[.string (encV11 q).1,.int .i64 (encV11 q).2]
def answR11 (q:Rsp11):Value:=.tuple #[.string (answV11 q).1,.int .i64 (answV11 q).2]
theorem wenc_any11 (k:Int) (A A2:Option Addr) (c c2:Nat) (L C:List ByteArray) (w:World) (hl:L.length≤9223372036854775807) (hl2:C.length≤9223372036854775807) (hc:InV w A (tL10 L)) (hc2:InV w A2 (tL10 C)) :
  Calls Tryz.prog 60 #[.agg #[.int .i64 k,.slice A L.length c,.slice A2 C.length c2]] w fun e w'=>e=.returned (encR11 ⟨k,L,C⟩)∧Below w.heap.size w w':=by
 obtain ⟨W1,hW1⟩:∃ W1,W1=w.alloc (.cells #[.int .i64 k,.slice A L.length c,.slice A2 C.length c2] 26):=⟨_,rfl⟩
 have iq:Is W1 w.heap.size 26 #[.int .i64 k,.slice A L.length c,.slice A2 C.length c2]:=by rw [hW1];exact Is.new _ _ _
 have hB:Below w.heap.size w W1:=by rw [hW1];exact (Below.refl _ _).alloc (Nat.le_refl _) _
 have M:=Lib.hid (reqMay_any11 k A A2 c c2 L C W1 hl hl2 (hc.keep hB) (hc2.keep hB))
 have HC1:=Lib.hid hc
 have HC2:=Lib.hid hc2
 clear hc hc2
 have IQ:=Lib.hid iq
 clear iq
 cases hr:right11 ⟨k,L,C⟩ with
 | false =>
  have HR:=Lib.hid (show encR11 ⟨k,L,C⟩=.tuple #[.string ⟨#[]⟩,.int .i64 1] by rw [encR11,encV11,hr];rfl)
  rw [hr] at M
  go_enter Tryz.func60,Tryz.ntmps60
  go_wp2_with fail
  rw [← hW1]
  clear hW1
  go_wp2_with (refine wpList_load_row rfl 26 _ rfl w.heap.size rfl IQ.out Tryz.underlying26 rfl infoReq11 ?_)
  refine M.out.mono ?_
  rintro e w2 ⟨rfl,hb⟩
  have hB2:=hB.trans (hb.mono hB.size)
  clear hb
  go_wp2
  go_ret2
  exact ⟨by rw [HR.out];rfl,hB2⟩
 | true =>
  obtain ⟨b1,b2,b3,b4,b5,b6,b7⟩:=right_bd11 hr
  have HR:=Lib.hid (show encR11 ⟨k,L,C⟩=.tuple #[.string (num10 k ++ lst10 L ++ lst10 C),.int .i64 0] by rw [encR11,encV11,hr];rfl)
  rw [hr] at M
  simp only at b1 b2 b3 b4 b5 b6 b7
  have N1:=Lib.hid (fun W=>wnum_any11 k W)
  rw [numV_ok11 (by omega) (by omega)] at N1
  have N2:=fun W h=>wlist_any11 A c L W b2 h
  rw [lstV_ok11 (by omega) (by omega)] at N2
  have N3:=fun W h=>wlist_any11 A2 c2 C W b3 h
  rw [lstV_ok11 (by omega) (by omega)] at N3
  have hn:=num_size10 k
  have hall:all11 [num10 k,lst10 L,lst10 C]=num10 k ++ lst10 L ++ lst10 C:=by
   show ⟨#[]⟩ ++ num10 k ++ lst10 L ++ lst10 C=_
   rw [show (⟨#[]⟩:ByteArray) ++ num10 k=num10 k from ByteArray.empty_append]
  have N4:=Lib.hid (fun g W (h:Is W g 9 #[.string (num10 k),.string (lst10 L),.string (lst10 C)])=>wtog_any11 g [num10 k,lst10 L,lst10 C] W h (by show 3≤1000;omega) (by
   rw [hall,ByteArray.size_append,ByteArray.size_append];omega))
  rw [hall] at N4
  have N2':=Lib.hid N2
  have N3':=Lib.hid N3
  clear N2 N3 hall hn b2 b3 b4 b5 hr
  generalize num10 k ++ lst10 L ++ lst10 C=s4 at *
  generalize num10 k=s1 at *
  generalize lst10 L=s2 at *
  generalize lst10 C=s3 at *
  go_enter Tryz.func60,Tryz.ntmps60
  go_wp2_with fail
  rw [← hW1]
  clear hW1
  go_wp2_with (refine wpList_load_row rfl 26 _ rfl w.heap.size rfl IQ.out Tryz.underlying26 rfl infoReq11 ?_)
  refine M.out.mono ?_
  rintro e w2 ⟨rfl,hb⟩
  have hB2:=hB.trans (hb.mono hB.size)
  have iq2:=IQ.out.below hb IQ.out.lt
  clear hb
  go_wp2
  refine Code.wp_mono ?_ (enc11_reg w2 w.heap.size k A A2 c c2 L.length C.length s1 s2 s3 s4 N1 (Lib.hid fun W h=>N2'.out W (HC1.out.keep (hB2.trans (h.mono hB2.size)))) (Lib.hid fun W h=>N3'.out W (HC2.out.keep (hB2.trans (h.mono hB2.size)))) (Lib.hid fun g W h=>N4.out g W h) iq2 _ _ _ _ _ _ _ _ _ _ _ _ _ _ _ _ _)
  rintro ex ⟨T,D⟩ W3 ⟨rfl,hD,DP,hT,hB3,_⟩
  simp only at hT hD
  subst hT
  subst hD
  have hB4:=hB2.trans (hB3.mono hB2.size)
  clear hB3
  go_wp2
  go_ret2
  exact ⟨by rw [HR.out];rfl,hB4⟩
theorem wansw_any11 (k st m r:Int) (A:Option Addr) (c:Nat) (C:List ByteArray) (w:World) (hl:C.length≤9223372036854775807) (hc:InV w A (tL10 C)) :
  Calls Tryz.prog 77 #[.agg #[.int .i64 k,.int .i64 st,.slice A C.length c,.int .i64 m,.int .i64 r]] w fun e w'=>e=.returned (answR11 ⟨k,st,C,m,r⟩)∧Below w.heap.size w w':=by
 obtain ⟨W1,hW1⟩:∃ W1,W1=w.alloc (.cells #[.int .i64 k,.int .i64 st,.slice A C.length c,.int .i64 m,.int .i64 r] 45):=⟨_,rfl⟩
 have iq:Is W1 w.heap.size 45 #[.int .i64 k,.int .i64 st,.slice A C.length c,.int .i64 m,.int .i64 r]:=by rw [hW1];exact Is.new _ _ _
 have hB:Below w.heap.size w W1:=by rw [hW1];exact (Below.refl _ _).alloc (Nat.le_refl _) _
 have M:=Lib.hid (rspMay_any11 k st m r A c C W1 hl (hc.keep hB))
 have HC1:=Lib.hid hc
 clear hc
 have IQ:=Lib.hid iq
 clear iq
 cases hr:may11 ⟨k,st,C,m,r⟩ with
 | false =>
  have HR:=Lib.hid (show answR11 ⟨k,st,C,m,r⟩=.tuple #[.string ⟨#[]⟩,.int .i64 1] by rw [answR11,answV11,hr];rfl)
  rw [hr] at M
  go_enter Tryz.func77,Tryz.ntmps77
  go_wp2_with fail
  rw [← hW1]
  clear hW1
  go_wp2_with (refine wpList_load_row rfl 45 _ rfl w.heap.size rfl IQ.out Tryz.underlying45 rfl infoRsp11 ?_)
  refine M.out.mono ?_
  rintro e w2 ⟨rfl,hb⟩
  have hB2:=hB.trans (hb.mono hB.size)
  clear hb
  go_wp2
  go_ret2
  exact ⟨by rw [HR.out];rfl,hB2⟩
 | true =>
  obtain ⟨b1,b2,b3,b4,b5,b6,b7⟩:=may_bd11 hr
  have HR:=Lib.hid (show answR11 ⟨k,st,C,m,r⟩=.tuple #[.string (num10 k ++ num10 st ++ lst10 C ++ num10 m ++ num10 r),.int .i64 0] by rw [answR11,answV11,hr];rfl)
  rw [hr] at M
  simp only at b1 b2 b3 b4 b5 b6 b7
  have N1:=Lib.hid (fun W=>wnum_any11 k W)
  rw [numV_ok11 (by omega) (by omega)] at N1
  have N2:=Lib.hid (fun W=>wnum_any11 st W)
  rw [numV_ok11 (by omega) (by omega)] at N2
  have N3:=fun W h=>wlist_any11 A c C W b5 h
  rw [lstV_ok11 (by omega) (by omega)] at N3
  have N4:=Lib.hid (fun W=>wnum_any11 m W)
  rw [numV_ok11 (by omega) (by omega)] at N4
  have N5:=Lib.hid (fun W=>wnum_any11 r W)
  rw [numV_ok11 (by omega) (by omega)] at N5
  have hn1:=num_size10 k
  have hn2:=num_size10 st
  have hn3:=num_size10 m
  have hn4:=num_size10 r
  have hall:all11 [num10 k,num10 st,lst10 C,num10 m,num10 r]=num10 k ++ num10 st ++ lst10 C ++ num10 m ++ num10 r:=by
   show ⟨#[]⟩ ++ num10 k ++ num10 st ++ lst10 C ++ num10 m ++ num10 r=_
   rw [show (⟨#[]⟩:ByteArray) ++ num10 k=num10 k from ByteArray.empty_append]
  have N6:=Lib.hid (fun g W (h:Is W g 9 #[.string (num10 k),.string (num10 st),.string (lst10 C),.string (num10 m),.string (num10 r)])=>wtog_any11 g [num10 k,num10 st,lst10 C,num10 m,num10 r] W h (by show 5≤1000;omega) (by
   rw [hall];simp only [ByteArray.size_append];omega))
  rw [hall] at N6
  have N3':=Lib.hid N3
  clear N3 hall hn1 hn2 hn3 hn4 b5 b6 hr
  generalize num10 k ++ num10 st ++ lst10 C ++ num10 m ++ num10 r=s6 at *
  generalize num10 k=s1 at *
  generalize num10 st=s2 at *
  generalize lst10 C=s3 at *
  generalize num10 m=s4 at *
  generalize num10 r=s5 at *
  go_enter Tryz.func77,Tryz.ntmps77
  go_wp2_with fail
  rw [← hW1]
  clear hW1
  go_wp2_with (refine wpList_load_row rfl 45 _ rfl w.heap.size rfl IQ.out Tryz.underlying45 rfl infoRsp11 ?_)
  refine M.out.mono ?_
  rintro e w2 ⟨rfl,hb⟩
  have hB2:=hB.trans (hb.mono hB.size)
  have iq2:=IQ.out.below hb IQ.out.lt
  clear hb
  go_wp2
  refine Code.wp_mono ?_ (answ11_reg w2 w.heap.size k st m r A c C.length s1 s2 s3 s4 s5 s6 N1 N2 (Lib.hid fun W h=>N3'.out W (HC1.out.keep (hB2.trans (h.mono hB2.size)))) N4 N5 (Lib.hid fun g W h=>N6.out g W h) iq2 _ _ _ _ _ _ _ _ _ _ _ _ _ _ _ _ _ _ _ _ _ _ _)
  rintro ex ⟨T,D⟩ W3 ⟨rfl,hD,DP,hT,hB3,_⟩
  simp only at hT hD
  subst hT
  subst hD
  have hB4:=hB2.trans (hB3.mono hB2.size)
  clear hB3
  go_wp2
  go_ret2
  exact ⟨by rw [HR.out];rfl,hB4⟩
end Go.Proofs.YtmggbbmpckcleaaGreat
