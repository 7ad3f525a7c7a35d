import Derived.Test.YtmggbbmpckcleaaGreatWirL
set_option maxRecDepth 100000
set_option maxHeartbeats 16000000
namespace Go.Proofs.YtmggbbmpckcleaaGreat
open Go.RowKit Go.Shelf
def rd11 (k:Int) (nl nc:Nat) (a b d:Bool):Bool :=
 decide (1≤k) && (decide (k≤4) && (a && (b && (d && (if k=1 then decide (nc=nl) else if k=4 then decide (nc=0) && decide (nl=0) else decide (nc=0))))))
theorem dright_any11 (k:Int) (A A2:Option Addr) (c c2:Nat) (L C:List ByteArray) (w:World) (hl:L.length≤9223372036854775807) (hl2:C.length≤9223372036854775807) (hc:InV w A (tL10 L)) (hc2:InV w A2 (tL10 C)) :
  Calls Tryz.prog 35 #[.agg #[.int .i64 k,.slice A L.length c,.slice A2 C.length c2]] w fun e w'=>e=.returned (.bool (right11 ⟨k,L,C⟩))∧Below w.heap.size w w':=by
 obtain ⟨W1,hW1⟩:∃ W1,W1=w.alloc (.cells #[.int .i64 k,.slice A L.length c,.slice A2 C.length c2] 26):=⟨_,rfl⟩
 have iq:Is W1 w.heap.size 26 #[.int .i64 k,.slice A L.length c,.slice A2 C.length c2]:=by rw [hW1];exact Is.new _ _ _
 have hB:Below w.heap.size w W1:=by rw [hW1];exact (Below.refl _ _).alloc (Nat.le_refl _) _
 have P1:=sized_any11 A c L 16 false W1 hl (hc.keep hB)
 have P2:=sized_any11 A2 c2 C 40 false W1 hl2 (hc2.keep hB)
 rw [show ((16:Nat):Int)=16 from rfl] at P1
 rw [show ((40:Nat):Int)=40 from rfl] at P2
 have H1:=Lib.hid P1
 have H2:=Lib.hid P2
 have H3:=Lib.hid (once_any11 A c L W1 hl (hc.keep hB))
 have c0:W1.cell? ⟨w.heap.size,0,none⟩=some (.int .i64 k):=iq.cell 0
 have c1:W1.cell? ⟨w.heap.size,1,none⟩=some (.slice A L.length c):=iq.cell 1
 have c2':W1.cell? ⟨w.heap.size,2,none⟩=some (.slice A2 C.length c2):=iq.cell 2
 have HR:Hid (right11 ⟨k,L,C⟩=rd11 k L.length C.length (szd11 L 16 false) (szd11 C 40 false) (decide L.Nodup)):=Lib.hid rfl
 generalize right11 ⟨k,L,C⟩=R at *
 generalize szd11 L 16 false=a at *
 generalize szd11 C 40 false=b at *
 generalize decide L.Nodup=d at *
 have IQ:=Lib.hid iq
 clear hc hc2 iq P1 P2
 generalize L.length=nl at *
 generalize C.length=nc at *
 go_enter Tryz.func35,Tryz.ntmps35
 by_cases hk1:k < 1
 ·
  go_wp2_with fail
  rw [← hW1]
  clear hW1
  go_wp2
  go_ret
  exact ⟨by rw [HR.out,rd11,decide_eq_false (show ¬ 1≤k by omega)];rfl,hB⟩
 by_cases hk4:4 < k
 ·
  go_wp2_with fail
  rw [← hW1]
  clear hW1
  go_wp2
  go_ret
  exact ⟨by rw [HR.out,rd11,decide_eq_false (show ¬ k≤4 by omega),Bool.false_and,Bool.and_false];rfl,hB⟩
 rw [rd11,decide_eq_true (show 1≤k by omega),decide_eq_true (show k≤4 by omega),Bool.true_and,Bool.true_and] at HR
 go_wp2_with fail
 rw [← hW1]
 clear hW1
 refine H1.out.mono ?_
 rintro e w' ⟨rfl,rfl⟩
 cases a with
 | false =>
  go_wp2
  go_ret
  exact ⟨by rw [HR.out];rfl,hB⟩
 | true =>
  rw [Bool.true_and] at HR
  go_wp2_with fail
  refine H2.out.mono ?_
  rintro e w' ⟨rfl,rfl⟩
  cases b with
  | false =>
   go_wp2
   go_ret
   exact ⟨by rw [HR.out];rfl,hB⟩
  | true =>
   rw [Bool.true_and] at HR
   go_wp2_with fail
   refine H3.out.mono ?_
   rintro e W2 ⟨rfl,hb⟩
   have iq2:=IQ.out.below hb IQ.out.lt
   have hB2:=hB.trans (hb.mono hB.size)
   have d0:W2.cell? ⟨w.heap.size,0,none⟩=some (.int .i64 k):=iq2.cell 0
   have d1:W2.cell? ⟨w.heap.size,1,none⟩=some (.slice A nl c):=iq2.cell 1
   have d2:W2.cell? ⟨w.heap.size,2,none⟩=some (.slice A2 nc c2):=iq2.cell 2
   clear c0 c1 c2' hb hB iq2
   cases d with
   | false =>
    go_wp2
    go_ret
    exact ⟨by rw [HR.out];rfl,hB2⟩
   | true =>
    rw [Bool.true_and] at HR
    by_cases h1:k=1
    ·
     subst h1
     rw [if_pos rfl] at HR
     by_cases hz:(nc:Int)=(nl:Int)
     ·
      go_wp2
      go_ret
      exact ⟨by rw [HR.out,decide_eq_true (show nc=nl by omega)];rfl,hB2⟩
     ·
      have hz2:((nc:Int) == (nl:Int))=false:=by simpa using hz
      have HZ:=Lib.hid hz2
      clear hz2
      go_wp2
      go_ret
      exact ⟨by rw [HR.out,decide_eq_false (show ¬ nc=nl by omega)];exact congrArg (fun b=>Ending.returned (Value.bool b)) HZ.out,hB2⟩
    ·
     rw [if_neg h1] at HR
     by_cases h4:k=4
     ·
      subst h4
      rw [if_pos rfl] at HR
      by_cases hz:(nc:Int)=0
      ·
       by_cases hy:(nl:Int)=0
       ·
        go_wp2
        go_ret
        exact ⟨by rw [HR.out,decide_eq_true (show nc=0 by omega),decide_eq_true (show nl=0 by omega)];rfl,hB2⟩
       ·
        have hz2:((nl:Int) == 0)=false:=by simpa using hy
        have HZ:=Lib.hid hz2
        clear hz2
        go_wp2
        go_ret
        exact ⟨by rw [HR.out,decide_eq_true (show nc=0 by omega),decide_eq_false (show ¬ nl=0 by omega)];exact congrArg (fun b=>Ending.returned (Value.bool b)) HZ.out,hB2⟩
      ·
       have hz2:((nc:Int) == 0)=false:=by simpa using hz
       rw [decide_eq_false (show ¬ nc=0 by omega),Bool.false_and] at HR
       go_wp2
       go_ret
       exact ⟨by rw [HR.out];rfl,hB2⟩
     ·
      rw [if_neg h4] at HR
      by_cases hz:(nc:Int)=0
      ·
       go_wp2
       go_ret
       exact ⟨by rw [HR.out,decide_eq_true (show nc=0 by omega)];rfl,hB2⟩
      ·
       have hz2:((nc:Int) == 0)=false:=by simpa using hz
       have HZ:=Lib.hid hz2
       clear hz2
       go_wp2
       go_ret
       exact ⟨by rw [HR.out,decide_eq_false (show ¬ nc=0 by omega)];exact congrArg (fun b=>Ending.returned (Value.bool b)) HZ.out,hB2⟩
def md11 (k st m r:Int) (n:Nat) (a:Bool):Bool :=
 decide (0≤k) && (decide (k≤4) && (decide (0≤st) && (decide (st≤2) && (a && (decide (0≤m) && (decide (m≤2147483647) && (decide (0≤r) && (decide (r≤2147483647) &&
  ((decide (k=1) || decide (st=0)) && ((decide (k=2) || decide (n=0)) && ((decide (k=3) || (decide (k=4) || decide (m=0))) && (decide (k=4) || decide (r=0)))))))))))))
theorem dmay_any11 (k st m r:Int) (A:Option Addr) (c:Nat) (C:List ByteArray) (w:World) (hl:C.length≤9223372036854775807) (hc:InV w A (tL10 C)) :
  Calls Tryz.prog 49 #[.agg #[.int .i64 k,.int .i64 st,.slice A C.length c,.int .i64 m,.int .i64 r]] w fun e w'=>e=.returned (.bool (may11 ⟨k,st,C,m,r⟩))∧Below w.heap.size w w':=by
 obtain ⟨W1,hW1⟩:∃ W1,W1=w.alloc (.cells #[.int .i64 k,.int .i64 st,.slice A C.length c,.int .i64 m,.int .i64 r] 45):=⟨_,rfl⟩
 have iq:Is W1 w.heap.size 45 #[.int .i64 k,.int .i64 st,.slice A C.length c,.int .i64 m,.int .i64 r]:=by rw [hW1];exact Is.new _ _ _
 have hB:Below w.heap.size w W1:=by rw [hW1];exact (Below.refl _ _).alloc (Nat.le_refl _) _
 have P1:=sized_any11 A c C 40 true W1 hl (hc.keep hB)
 rw [show ((40:Nat):Int)=40 from rfl] at P1
 have H1:=Lib.hid P1
 have c0:W1.cell? ⟨w.heap.size,0,none⟩=some (.int .i64 k):=iq.cell 0
 have c1:W1.cell? ⟨w.heap.size,1,none⟩=some (.int .i64 st):=iq.cell 1
 have c2:W1.cell? ⟨w.heap.size,2,none⟩=some (.slice A C.length c):=iq.cell 2
 have c3:W1.cell? ⟨w.heap.size,3,none⟩=some (.int .i64 m):=iq.cell 3
 have c4:W1.cell? ⟨w.heap.size,4,none⟩=some (.int .i64 r):=iq.cell 4
 have HR:Hid (may11 ⟨k,st,C,m,r⟩=md11 k st m r C.length (szd11 C 40 true)):=Lib.hid rfl
 generalize may11 ⟨k,st,C,m,r⟩=R at *
 generalize szd11 C 40 true=a at *
 clear hc iq P1
 generalize C.length=n at *
 have HW:=Lib.hid hW1
 clear hW1
 go_enter Tryz.func49,Tryz.ntmps49
 by_cases hk0:k < 0
 ·
  go_wp2_with fail
  rw [← HW.out]
  clear HW
  go_wp2
  go_ret
  exact ⟨by rw [HR.out,md11,decide_eq_false (show ¬ 0≤k by omega)];simp,hB⟩
 by_cases hk4:4 < k
 ·
  go_wp2_with fail
  rw [← HW.out]
  clear HW
  go_wp2
  go_ret
  exact ⟨by rw [HR.out,md11,decide_eq_false (show ¬ k≤4 by omega)];simp,hB⟩
 by_cases hs0:st < 0
 ·
  go_wp2_with fail
  rw [← HW.out]
  clear HW
  go_wp2
  go_ret
  exact ⟨by rw [HR.out,md11,decide_eq_false (show ¬ 0≤st by omega)];simp,hB⟩
 by_cases hs2:2 < st
 ·
  go_wp2_with fail
  rw [← HW.out]
  clear HW
  go_wp2
  go_ret
  exact ⟨by rw [HR.out,md11,decide_eq_false (show ¬ st≤2 by omega)];simp,hB⟩
 go_wp2_with fail
 rw [← HW.out]
 clear HW
 refine H1.out.mono ?_
 rintro e w' ⟨rfl,rfl⟩
 cases a with
 | false =>
  go_wp2
  go_ret
  exact ⟨by rw [HR.out,md11];simp,hB⟩
 | true =>
  by_cases hm0:m < 0
  ·
   go_wp2
   go_ret
   exact ⟨by rw [HR.out,md11,decide_eq_false (show ¬ 0≤m by omega)];simp,hB⟩
  by_cases hm9:2147483647 < m
  ·
   go_wp2
   go_ret
   exact ⟨by rw [HR.out,md11,decide_eq_false (show ¬ m≤2147483647 by omega)];simp,hB⟩
  by_cases hr0:r < 0
  ·
   go_wp2
   go_ret
   exact ⟨by rw [HR.out,md11,decide_eq_false (show ¬ 0≤r by omega)];simp,hB⟩
  by_cases hr9:2147483647 < r
  ·
   go_wp2
   go_ret
   exact ⟨by rw [HR.out,md11,decide_eq_false (show ¬ r≤2147483647 by omega)];simp,hB⟩
  rw [md11,decide_eq_true (show 0≤k by omega),decide_eq_true (show k≤4 by omega),decide_eq_true (show 0≤st by omega),decide_eq_true (show st≤2 by omega),decide_eq_true (show 0≤m by omega),decide_eq_true (show m≤2147483647 by omega),decide_eq_true (show 0≤r by omega),decide_eq_true (show r≤2147483647 by omega)] at HR
  simp only [Bool.true_and] at HR
  by_cases h0:k=0
  ·
   subst h0
   by_cases hx:st=0
   ·
    subst hx
    by_cases hx:n=0
    ·
     subst hx
     have hx:((0:Nat):Int)=0:=rfl
     by_cases hx:m=0
     ·
      subst hx
      by_cases hx:r=0
      ·
       subst hx
       simp at HR
       go_wp2
       go_ret
       first
        | exact ⟨by rw [HR.out];rfl,hB⟩
        | exact ⟨by rw [HR.out];exact congrArg (fun b=>Ending.returned (Value.bool b)) HZ.out,hB⟩
      ·
       have HZ:=Lib.hid (show (r == 0)=false by simpa using hx)
       have hz:=HZ.out
       simp [hx] at HR
       go_wp2
       go_ret
       first
        | exact ⟨by rw [HR.out];rfl,hB⟩
        | exact ⟨by rw [HR.out];exact congrArg (fun b=>Ending.returned (Value.bool b)) HZ.out,hB⟩
     ·
      have HZ:=Lib.hid (show (m == 0)=false by simpa using hx)
      have hz:=HZ.out
      simp [hx] at HR
      go_wp2
      go_ret
      first
       | exact ⟨by rw [HR.out];rfl,hB⟩
       | exact ⟨by rw [HR.out];exact congrArg (fun b=>Ending.returned (Value.bool b)) HZ.out,hB⟩
    ·
     have hy:¬ (n:Int)=0:=by omega
     have HZ:=Lib.hid (show ((n:Int) == 0)=false by simpa using hy)
     have hz:=HZ.out
     simp [hx] at HR
     go_wp2
     go_ret
     first
      | exact ⟨by rw [HR.out];rfl,hB⟩
      | exact ⟨by rw [HR.out];exact congrArg (fun b=>Ending.returned (Value.bool b)) HZ.out,hB⟩
   ·
    have HZ:=Lib.hid (show (st == 0)=false by simpa using hx)
    have hz:=HZ.out
    simp [hx] at HR
    go_wp2
    go_ret
    first
     | exact ⟨by rw [HR.out];rfl,hB⟩
     | exact ⟨by rw [HR.out];exact congrArg (fun b=>Ending.returned (Value.bool b)) HZ.out,hB⟩
  ·
   by_cases h1:k=1
   ·
    subst h1
    by_cases hx:n=0
    ·
     subst hx
     have hx:((0:Nat):Int)=0:=rfl
     by_cases hx:m=0
     ·
      subst hx
      by_cases hx:r=0
      ·
       subst hx
       simp at HR
       go_wp2
       go_ret
       first
        | exact ⟨by rw [HR.out];rfl,hB⟩
        | exact ⟨by rw [HR.out];exact congrArg (fun b=>Ending.returned (Value.bool b)) HZ.out,hB⟩
      ·
       have HZ:=Lib.hid (show (r == 0)=false by simpa using hx)
       have hz:=HZ.out
       simp [hx] at HR
       go_wp2
       go_ret
       first
        | exact ⟨by rw [HR.out];rfl,hB⟩
        | exact ⟨by rw [HR.out];exact congrArg (fun b=>Ending.returned (Value.bool b)) HZ.out,hB⟩
     ·
      have HZ:=Lib.hid (show (m == 0)=false by simpa using hx)
      have hz:=HZ.out
      simp [hx] at HR
      go_wp2
      go_ret
      first
       | exact ⟨by rw [HR.out];rfl,hB⟩
       | exact ⟨by rw [HR.out];exact congrArg (fun b=>Ending.returned (Value.bool b)) HZ.out,hB⟩
    ·
     have hy:¬ (n:Int)=0:=by omega
     have HZ:=Lib.hid (show ((n:Int) == 0)=false by simpa using hy)
     have hz:=HZ.out
     simp [hx] at HR
     go_wp2
     go_ret
     first
      | exact ⟨by rw [HR.out];rfl,hB⟩
      | exact ⟨by rw [HR.out];exact congrArg (fun b=>Ending.returned (Value.bool b)) HZ.out,hB⟩
   ·
    by_cases h2:k=2
    ·
     subst h2
     by_cases hx:st=0
     ·
      subst hx
      by_cases hx:m=0
      ·
       subst hx
       by_cases hx:r=0
       ·
        subst hx
        simp at HR
        go_wp2
        go_ret
        first
         | exact ⟨by rw [HR.out];rfl,hB⟩
         | exact ⟨by rw [HR.out];exact congrArg (fun b=>Ending.returned (Value.bool b)) HZ.out,hB⟩
       ·
        have HZ:=Lib.hid (show (r == 0)=false by simpa using hx)
        have hz:=HZ.out
        simp [hx] at HR
        go_wp2
        go_ret
        first
         | exact ⟨by rw [HR.out];rfl,hB⟩
         | exact ⟨by rw [HR.out];exact congrArg (fun b=>Ending.returned (Value.bool b)) HZ.out,hB⟩
      ·
       have HZ:=Lib.hid (show (m == 0)=false by simpa using hx)
       have hz:=HZ.out
       simp [hx] at HR
       go_wp2
       go_ret
       first
        | exact ⟨by rw [HR.out];rfl,hB⟩
        | exact ⟨by rw [HR.out];exact congrArg (fun b=>Ending.returned (Value.bool b)) HZ.out,hB⟩
     ·
      have HZ:=Lib.hid (show (st == 0)=false by simpa using hx)
      have hz:=HZ.out
      simp [hx] at HR
      go_wp2
      go_ret
      first
       | exact ⟨by rw [HR.out];rfl,hB⟩
       | exact ⟨by rw [HR.out];exact congrArg (fun b=>Ending.returned (Value.bool b)) HZ.out,hB⟩
    ·
     by_cases h3:k=3
     ·
      subst h3
      by_cases hx:st=0
      ·
       subst hx
       by_cases hx:n=0
       ·
        subst hx
        have hx:((0:Nat):Int)=0:=rfl
        by_cases hx:r=0
        ·
         subst hx
         simp at HR
         go_wp2
         go_ret
         first
          | exact ⟨by rw [HR.out];rfl,hB⟩
          | exact ⟨by rw [HR.out];exact congrArg (fun b=>Ending.returned (Value.bool b)) HZ.out,hB⟩
        ·
         have HZ:=Lib.hid (show (r == 0)=false by simpa using hx)
         have hz:=HZ.out
         simp [hx] at HR
         go_wp2
         go_ret
         first
          | exact ⟨by rw [HR.out];rfl,hB⟩
          | exact ⟨by rw [HR.out];exact congrArg (fun b=>Ending.returned (Value.bool b)) HZ.out,hB⟩
       ·
        have hy:¬ (n:Int)=0:=by omega
        have HZ:=Lib.hid (show ((n:Int) == 0)=false by simpa using hy)
        have hz:=HZ.out
        simp [hx] at HR
        go_wp2
        go_ret
        first
         | exact ⟨by rw [HR.out];rfl,hB⟩
         | exact ⟨by rw [HR.out];exact congrArg (fun b=>Ending.returned (Value.bool b)) HZ.out,hB⟩
      ·
       have HZ:=Lib.hid (show (st == 0)=false by simpa using hx)
       have hz:=HZ.out
       simp [hx] at HR
       go_wp2
       go_ret
       first
        | exact ⟨by rw [HR.out];rfl,hB⟩
        | exact ⟨by rw [HR.out];exact congrArg (fun b=>Ending.returned (Value.bool b)) HZ.out,hB⟩
     ·
      obtain rfl:k=4:=by omega
      by_cases hx:st=0
      ·
       subst hx
       by_cases hx:n=0
       ·
        subst hx
        have hx:((0:Nat):Int)=0:=rfl
        simp at HR
        go_wp2
        go_ret
        first
         | exact ⟨by rw [HR.out];rfl,hB⟩
         | exact ⟨by rw [HR.out];exact congrArg (fun b=>Ending.returned (Value.bool b)) HZ.out,hB⟩
       ·
        have hy:¬ (n:Int)=0:=by omega
        have HZ:=Lib.hid (show ((n:Int) == 0)=false by simpa using hy)
        have hz:=HZ.out
        simp [hx] at HR
        go_wp2
        go_ret
        first
         | exact ⟨by rw [HR.out];rfl,hB⟩
         | exact ⟨by rw [HR.out];exact congrArg (fun b=>Ending.returned (Value.bool b)) HZ.out,hB⟩
      ·
       have HZ:=Lib.hid (show (st == 0)=false by simpa using hx)
       have hz:=HZ.out
       simp [hx] at HR
       go_wp2
       go_ret
       first
        | exact ⟨by rw [HR.out];rfl,hB⟩
        | exact ⟨by rw [HR.out];exact congrArg (fun b=>Ending.returned (Value.bool b)) HZ.out,hB⟩
end Go.Proofs.YtmggbbmpckcleaaGreat
