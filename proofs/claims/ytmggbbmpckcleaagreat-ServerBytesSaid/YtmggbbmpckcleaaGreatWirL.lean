import Derived.Test.YtmggbbmpckcleaaGreatGWi1
set_option maxRecDepth 100000
set_option maxHeartbeats 16000000
namespace Go.Proofs.YtmggbbmpckcleaaGreat
open Go.RowKit Go.Shelf
theorem sized_any11 (A:Option Addr) (c:Nat) (l:List ByteArray) (n:Nat) (b:Bool) (w:World) (hl:l.length≤9223372036854775807) (hc:InV w A (tL10 l)) :
  Calls Tryz.prog 65 #[.slice A l.length c,.int .i64 (n:Int),.bool b] w fun e w'=>e=.returned (.bool (szd11 l n b))∧w=w':=by
 have HC:=Lib.hid hc
 have HD:Hid (szd11 l n b=(l.all (fun s=>decide (s.size=n) || (b && decide (s.size=0))) && decide (l.length≤200))):=Lib.hid rfl
 generalize szd11 l n b=R at *
 clear hc
 go_enter Tryz.func65,Tryz.ntmps65
 go_wp2
 go_loopw [7] (fun i wr=>∃ k:Nat,k≤l.length∧i=.int .i64 (k:Int)∧(l.take k).all (fun s=>decide (s.size=n) || (b && decide (s.size=0)))=true∧wr=w) (fun i _=>l.length - (intOf i).toNat)
 case atStart=>exact ⟨0,by omega,rfl,rfl,rfl⟩
 case round =>
  obtain ⟨k,hk,rfl,ha,rfl⟩:=hrel
  by_cases hlt:k < l.length
  ·
   have h1:(k:Int) < (l.length:Int):=by omega
   obtain ⟨s,hx⟩:∃ s,l[k]?=some s:=⟨_,List.getElem?_eq_getElem hlt⟩
   obtain ⟨g,off,rfl,_,hcell⟩:=HC.out.txt hx
   obtain ⟨q1,q2⟩:=all_at11 hx ha
   have Q1:=Lib.hid q1
   have Q2:=Lib.hid q2
   clear ha hx q1 q2
   by_cases hs:s.size=n
   ·
    have hs2:(s.size:Int)=(n:Int):=by omega
    have HZ:=Lib.hid (Q2.out (by simp [hs]))
    clear Q1 Q2
    go_wp2
    go_roundw
    case rel=>exact ⟨k + 1,by omega,by go_num,HZ.out,by first | rfl | trivial⟩
    case measure=>simp [intOf];omega
   ·
    have hs2:¬ (s.size:Int)=(n:Int):=by omega
    cases b with
    | false =>
     have HZ:=Lib.hid (Q1.out (by simp [hs]))
     clear Q1 Q2
     go_wp2
     go_ret
     exact ⟨by rw [HD.out,HZ.out];rfl,rfl⟩
    | true =>
     by_cases h0:s.size=0
     ·
      have h02:(s.size:Int)=0:=by omega
      have HZ:=Lib.hid (Q2.out (by simp [h0]))
      clear Q1 Q2
      go_wp2
      go_roundw
      case rel=>exact ⟨k + 1,by omega,by go_num,HZ.out,by first | rfl | trivial⟩
      case measure=>simp [intOf];omega
     ·
      have h02:¬ (s.size:Int)=0:=by omega
      have hb1:((s.size:Int) != (n:Int))=true:=by simpa using hs2
      have hb2:((s.size:Int) == 0)=false:=by simpa using h02
      have HZ:=Lib.hid (Q1.out (by simp [hs,h0]))
      clear Q1 Q2
      go_wp2
      go_ret
      exact ⟨by rw [HD.out,HZ.out];rfl,rfl⟩
  ·
   have h1:¬ (k:Int) < (l.length:Int):=by omega
   have hz:l.all (fun s=>decide (s.size=n) || (b && decide (s.size=0)))=true:=by
    rw [List.take_of_length_le (by omega)] at ha;exact ha
   rw [hz,Bool.true_and] at HD
   clear ha hz
   by_cases h2:l.length≤200
   ·
    have h3:(l.length:Int)≤200:=by omega
    rw [decide_eq_true h2] at HD
    clear h2
    go_wp2
    go_ret
    exact ⟨by rw [HD.out];rfl,rfl⟩
   ·
    have h3:¬ (l.length:Int)≤200:=by omega
    rw [decide_eq_false h2] at HD
    clear h2
    go_wp2
    go_ret
    exact ⟨by rw [HD.out];rfl,rfl⟩
theorem once_any11 (A:Option Addr) (c:Nat) (l:List ByteArray) (w:World) (hl:l.length≤9223372036854775807) (hc:InV w A (tL10 l)) :
  Calls Tryz.prog 66 #[.slice A l.length c] w fun e w'=>e=.returned (.bool (decide l.Nodup))∧Below w.heap.size w w':=by
 have HC:=Lib.hid hc
 obtain ⟨R,HR⟩:∃ R,Hid (R=decide l.Nodup):=⟨_,Lib.hid rfl⟩
 rw [← HR.out]
 clear hc
 go_enter Tryz.func66,Tryz.ntmps66
 go_wp2
 go_loopw [3,4] (fun i _ wr=>∃ k m:Nat,k≤l.length∧i=.int .i64 (k:Int)∧(l.take k).Nodup∧wr=w.drewN m) (fun i _ _=>l.length - (intOf i).toNat)
 case atStart=>exact ⟨0,0,by omega,rfl,by simp,rfl⟩
 case round =>
  obtain ⟨k,m,hk,rfl,hn,rfl⟩:=hrel
  by_cases hlt:k < l.length
  ·
   have h1:(k:Int) < (l.length:Int):=by omega
   obtain ⟨s,hx⟩:∃ s,l[k]?=some s:=⟨_,List.getElem?_eq_getElem hlt⟩
   obtain ⟨b,off,rfl,_,e1⟩:=HC.out.txt hx
   have HN:=Lib.hid hn
   have HX:=Lib.hid hx
   clear hx hn
   go_wp2
   go_loopw [4] (fun j wr=>∃ i q:Nat,i≤k∧j=.int .i64 (i:Int)∧s ∉ l.take i∧wr=w.drewN q) (fun j _=>k - (intOf j).toNat)
   case atStart=>exact ⟨0,m,by omega,rfl,by simp,rfl⟩
   case round =>
    obtain ⟨i,q,hi,rfl,hni,rfl⟩:=hrel
    by_cases hik:i < k
    ·
     have h2:(i:Int) < (k:Int):=by omega
     obtain ⟨t,ht⟩:∃ t,l[i]?=some t:=⟨_,List.getElem?_eq_getElem (by omega)⟩
     obtain ⟨b2,off2,e3,_,e2⟩:=HC.out.txt ht
     cases e3
     by_cases he:s=t
     ·
      subst he
      have HZ:Hid (decide l.Nodup=false):=Lib.hid (by
       rw [decide_eq_false_iff_not]
       intro hnd
       have:=List.pairwise_iff_getElem.1 hnd i k (by omega) hlt hik
       rw [List.getElem?_eq_getElem (by omega)] at ht
       have hx2:=HX.out
       rw [List.getElem?_eq_getElem hlt] at hx2
       exact this ((Option.some.inj ht).trans (Option.some.inj hx2).symm))
      clear ht hni
      go_wp2
      go_region
      go_wp2
      go_ret
      exact ⟨by rw [HR.out,HZ.out];rfl,belowN (Below.refl _ _) _⟩
     ·
      have h5:=ne7 he
      have h6:=beq7 he
      have HZ:Hid (s ∉ l.take (i + 1)):=Lib.hid (by
       rw [take_snoc10 ht,List.mem_append,List.mem_singleton]
       exact fun h=>h.elim hni he)
      clear ht hni
      go_wp2
      go_region
      go_wp2
      go_roundw
      case rel=>exact ⟨i + 1,q + 1,by omega,by go_num,HZ.out,rfl⟩
      case measure=>simp [intOf];omega
    ·
     have h2:¬ (i:Int) < (k:Int):=by omega
     have hki:i=k:=by omega
     subst hki
     have HZ:Hid ((l.take (i + 1)).Nodup):=Lib.hid (by
      rw [take_snoc10 HX.out,List.nodup_append]
      exact ⟨HN.out,by simp,fun a ha x hx=>by rw [List.mem_singleton] at hx;subst hx;exact fun e=>hni (e ▸ ha)⟩)
     clear hni
     go_wp2
     go_roundw
     case rel=>exact ⟨i + 1,q,by omega,by go_num,HZ.out,rfl⟩
     case measure=>simp [intOf];omega
  ·
   have h1:¬ (k:Int) < (l.length:Int):=by omega
   have HZ:Hid (decide l.Nodup=true):=Lib.hid (decide_eq_true (by rw [List.take_of_length_le (by omega)] at hn;exact hn))
   clear hn
   go_wp2
   go_ret
   exact ⟨by rw [HR.out,HZ.out];rfl,belowN (Below.refl _ _) _⟩
theorem dnumS_any11 (n:Int) (w:World):Calls Tryz.prog 41 #[.int .i64 n] w fun e w'=>e=.returned (.string (numV10 n).1)∧Below w.heap.size w w':=by
 have HC:=Lib.hid (dnum_any10 n)
 simp only [numR10] at HC
 generalize numV10 n=V at *
 go_enter Tryz.func41,Tryz.ntmps41
 go_wp2_with fail
 refine (HC.out _).mono ?_
 rintro e w1 ⟨rfl,hb⟩
 go_wp2
 go_ret
 exact ⟨rfl,hb⟩
theorem dwhole_any11 (A:Option Addr) (c:Nat) (l:List ByteArray) (w:World) (hs:∀ s ∈ l,s.size≤140737488355328) (hc:InV w A (tL10 l)) :
  Calls Tryz.prog 42 #[.slice A l.length c] w fun e w'=>e=.returned (.string (lstV10 l).1)∧Below w.heap.size w w':=by
 have HC:=Lib.hid (dlist_any10 A c l w hs hc)
 simp only [lstR10] at HC
 generalize lstV10 l=V at *
 clear hs hc
 go_enter Tryz.func42,Tryz.ntmps42
 go_wp2_with fail
 refine HC.out.mono ?_
 rintro e w1 ⟨rfl,hb⟩
 go_wp2
 go_ret
 exact ⟨rfl,hb⟩
end Go.Proofs.YtmggbbmpckcleaaGreat
