import Derived.Test.YtmggbbmpckcleaaGreatGCo1
import Derived.Test.YtmggbbmpckcleaaGreatGCo3
import Derived.Test.YtmggbbmpckcleaaGreatGWi1
import Derived.Deep.DeepCutAuto
set_option maxRecDepth 100000
set_option maxHeartbeats 16000000
namespace Go.Proofs.YtmggbbmpckcleaaGreat
open Go.RowKit Go.Shelf
theorem pick11_any (c n:Int) (w:World) (h0:-9223372036854775808≤c) (h1:c≤9223372036854775807) (hn:0 < n) (hn2:n≤9223372036854775807) :
    Calls Tryz.prog 50 #[.int .i64 c,.int .i64 n] w fun e w'=>e=.returned (.int .i64 (pickN c n))∧w=w':=by
  by_cases hc:c < 0
  · have hd:pickN c n=(-(c + 1)) % n:=by simp [pickN,hc]
    rw [hd]
    clear hd
    go_enter Tryz.func50,Tryz.ntmps50
    go_wp2
    go_ret
    refine ⟨?_,rfl⟩
    have e:-((c + 1).tmod n)=(-(c + 1)) % n:=by rw [← Int.neg_tmod,Int.tmod_eq_emod_of_nonneg (by omega)]
    rw [← e]
    rfl
  · have hd:pickN c n=c % n:=by simp [pickN,hc]
    rw [hd]
    clear hd
    go_enter Tryz.func50,Tryz.ntmps50
    go_wp2
    go_ret
    exact ⟨rfl,rfl⟩
theorem convL11 (L:List Int) {n:Nat} (hn:L.length=n) {W:World} {g:Nat} {cs:Array Value} (h:Is W g 5 cs) (hc:cs=(L.map (Value.int .u8)).toArray:=by rfl) :
    (convert 93 9 (.slice (some ⟨g,0,none⟩) n n)).run Tryz.prog W=.ok (.string (strOfNums L)) W :=
  run_convert_bytes_arg (P:=Tryz.prog) W 93 5 Tryz.underlying93 Tryz.underlying5 g 0 n n L hn (fun i hi=>by
    rw [Nat.zero_add,h.cell,hc]
    rw [← hn] at hi
    simp [hi]) 9 Tryz.underlying9
theorem qlabel_any11 (c:Int) (w:World) (h0:-9223372036854775808≤c∧c≤9223372036854775807) :
    Calls Tryz.prog 23 #[.int .i64 c] w fun e w'=>e=.returned (.string (label11 c))∧Below w.heap.size w w':=by
  have PK:=Lib.hid (fun w=>pick11_any c 300 w h0.1 h0.2 (by omega) (by omega))
  have hp:=pickN_bd c 300 (by omega)
  have hv:label11 c=strOfNums [pickN c 300 / 256,pickN c 300 % 256,7 * pickN c 300 % 256] ++ nul11 13:=rfl
  rw [hv]
  clear hv
  generalize pickN c 300=p at *
  have w1:IntKind.u8.wrap (p / 256)=p / 256:=by rw [show IntKind.u8.wrap (p / 256)=(p / 256) % 256 from rfl];omega
  have w2:IntKind.u8.wrap (p % 256)=p % 256:=by rw [show IntKind.u8.wrap (p % 256)=(p % 256) % 256 from rfl];omega
  have w3:IntKind.u8.wrap (7 * p % 256)=7 * p % 256:=by rw [show IntKind.u8.wrap (7 * p % 256)=(7 * p % 256) % 256 from rfl];omega
  have w4:=IntWalk.i64_in (7 * p) (by omega)
  obtain ⟨Z,hZ⟩:∃ Z,Z=nul11 13:=⟨_,rfl⟩
  have hn:¬ (9223372036854775807 < (strOfNums [p / 256,p % 256,7 * p % 256]).size + Z.size):=by rw [hZ,nul_size11,strOfNums_size];simp
  have mk:∀ W:World,(Instr.makeSlice 93 (.int .i64 13) (.int .i64 13)).run Tryz.prog W=.ok (.slice (some ⟨W.heap.size,0,none⟩) 13 13) (W.alloc (.cells (nulC10 13) 5)):=fun W=>run_makeN10 W 13 (by omega)
  have a1:(convert 93 9 (.slice (some ⟨w.heap.size,0,none⟩) 3 3)).run Tryz.prog ((w.alloc (.cells #[.int .u8 (p / 256),.int .u8 (p % 256),.int .u8 (7 * p % 256)] 5)).drew)=.ok (.string (strOfNums [p / 256,p % 256,7 * p % 256])) ((w.alloc (.cells #[.int .u8 (p / 256),.int .u8 (p % 256),.int .u8 (7 * p % 256)] 5)).drew):=convL11 ([p / 256,p % 256,7 * p % 256]) (by rfl) (show Is ((w.alloc (.cells #[.int .u8 (p / 256),.int .u8 (p % 256),.int .u8 (7 * p % 256)] 5)).drew) (w.heap.size) 5 #[.int .u8 (p / 256),.int .u8 (p % 256),.int .u8 (7 * p % 256)] from Is.new w _ _)
  have a2:(convert 93 9 (.slice (some ⟨w.heap.size + 1,0,none⟩) 3 3)).run Tryz.prog (((w.alloc (.cells (nulC10 13) 5)).alloc (.cells #[.int .u8 (p / 256),.int .u8 (p % 256),.int .u8 (7 * p % 256)] 5)).drew)=.ok (.string (strOfNums [p / 256,p % 256,7 * p % 256])) (((w.alloc (.cells (nulC10 13) 5)).alloc (.cells #[.int .u8 (p / 256),.int .u8 (p % 256),.int .u8 (7 * p % 256)] 5)).drew):=convL11 ([p / 256,p % 256,7 * p % 256]) (by rfl) (show Is (((w.alloc (.cells (nulC10 13) 5)).alloc (.cells #[.int .u8 (p / 256),.int .u8 (p % 256),.int .u8 (7 * p % 256)] 5)).drew) (w.heap.size + 1) 5 #[.int .u8 (p / 256),.int .u8 (p % 256),.int .u8 (7 * p % 256)] from heap_alloc2_new w _ _)
  have a3:(convert 93 9 (.slice (some ⟨w.heap.size,0,none⟩) 3 3)).run Tryz.prog (((w.alloc (.cells #[.int .u8 (p / 256),.int .u8 (p % 256),.int .u8 (7 * p % 256)] 5)).alloc (.cells (nulC10 13) 5)).drew)=.ok (.string (strOfNums [p / 256,p % 256,7 * p % 256])) (((w.alloc (.cells #[.int .u8 (p / 256),.int .u8 (p % 256),.int .u8 (7 * p % 256)] 5)).alloc (.cells (nulC10 13) 5)).drew):=convL11 ([p / 256,p % 256,7 * p % 256]) (by rfl) (show Is (((w.alloc (.cells #[.int .u8 (p / 256),.int .u8 (p % 256),.int .u8 (7 * p % 256)] 5)).alloc (.cells (nulC10 13) 5)).drew) (w.heap.size) 5 #[.int .u8 (p / 256),.int .u8 (p % 256),.int .u8 (7 * p % 256)] from heap_alloc2_old w _ _)
  have n1:(convert 93 9 (.slice (some ⟨w.heap.size,0,none⟩) 13 13)).run Tryz.prog ((w.alloc (.cells (nulC10 13) 5)).drew)=.ok (.string Z) ((w.alloc (.cells (nulC10 13) 5)).drew):=by rw [hZ];exact run_convN10 (show Is ((w.alloc (.cells (nulC10 13) 5)).drew) (w.heap.size) 5 (nulC10 13) from Is.new w _ _)
  have n2:(convert 93 9 (.slice (some ⟨w.heap.size + 1,0,none⟩) 13 13)).run Tryz.prog (((w.alloc (.cells #[.int .u8 (p / 256),.int .u8 (p % 256),.int .u8 (7 * p % 256)] 5)).alloc (.cells (nulC10 13) 5)).drew)=.ok (.string Z) (((w.alloc (.cells #[.int .u8 (p / 256),.int .u8 (p % 256),.int .u8 (7 * p % 256)] 5)).alloc (.cells (nulC10 13) 5)).drew):=by rw [hZ];exact run_convN10 (show Is (((w.alloc (.cells #[.int .u8 (p / 256),.int .u8 (p % 256),.int .u8 (7 * p % 256)] 5)).alloc (.cells (nulC10 13) 5)).drew) (w.heap.size + 1) 5 (nulC10 13) from heap_alloc2_new w _ _)
  have n3:(convert 93 9 (.slice (some ⟨w.heap.size,0,none⟩) 13 13)).run Tryz.prog (((w.alloc (.cells (nulC10 13) 5)).alloc (.cells #[.int .u8 (p / 256),.int .u8 (p % 256),.int .u8 (7 * p % 256)] 5)).drew)=.ok (.string Z) (((w.alloc (.cells (nulC10 13) 5)).alloc (.cells #[.int .u8 (p / 256),.int .u8 (p % 256),.int .u8 (7 * p % 256)] 5)).drew):=by rw [hZ];exact run_convN10 (show Is (((w.alloc (.cells (nulC10 13) 5)).alloc (.cells #[.int .u8 (p / 256),.int .u8 (p % 256),.int .u8 (7 * p % 256)] 5)).drew) (w.heap.size) 5 (nulC10 13) from heap_alloc2_old w _ _)
  rw [← hZ]
  clear hZ
  go_enter Tryz.func23,Tryz.ntmps23
  go_wp2_with (go_at_call 50;refine (PK.out _).mono ?_;rintro e wp ⟨rfl,rfl⟩)
  go_region
  all_goals
    (go_wp2
     go_ret
     exact ⟨rfl,belowN (((Below.refl _ _).alloc (Nat.le_refl _) _).alloc (by simp) _) 1⟩)
theorem qcell_any11 (c:Int) (w:World) (h0:-9223372036854775808≤c∧c≤9223372036854775807) :
    Calls Tryz.prog 24 #[.int .i64 c] w fun e w'=>e=.returned (.string (cell11 c))∧Below w.heap.size w w':=by
  have PK:=Lib.hid (fun w=>pick11_any c 256 w h0.1 h0.2 (by omega) (by omega))
  have hp:=pickN_bd c 256 (by omega)
  have hv:cell11 c=strOfNums [pickN c 256] ++ nul11 39:=rfl
  rw [hv]
  clear hv
  generalize pickN c 256=p at *
  have w1:IntKind.u8.wrap p=p:=by rw [show IntKind.u8.wrap p=p % 256 from rfl];omega
  obtain ⟨Z,hZ⟩:∃ Z,Z=nul11 39:=⟨_,rfl⟩
  have hn:¬ (9223372036854775807 < (strOfNums [p]).size + Z.size):=by rw [hZ,nul_size11,strOfNums_size];simp
  have mk:∀ W:World,(Instr.makeSlice 93 (.int .i64 39) (.int .i64 39)).run Tryz.prog W=.ok (.slice (some ⟨W.heap.size,0,none⟩) 39 39) (W.alloc (.cells (nulC10 39) 5)):=fun W=>run_makeN10 W 39 (by omega)
  have a1:(convert 93 9 (.slice (some ⟨w.heap.size,0,none⟩) 1 1)).run Tryz.prog ((w.alloc (.cells #[.int .u8 p] 5)).drew)=.ok (.string (strOfNums [p])) ((w.alloc (.cells #[.int .u8 p] 5)).drew):=convL11 ([p]) (by rfl) (show Is ((w.alloc (.cells #[.int .u8 p] 5)).drew) (w.heap.size) 5 #[.int .u8 p] from Is.new w _ _)
  have a2:(convert 93 9 (.slice (some ⟨w.heap.size + 1,0,none⟩) 1 1)).run Tryz.prog (((w.alloc (.cells (nulC10 39) 5)).alloc (.cells #[.int .u8 p] 5)).drew)=.ok (.string (strOfNums [p])) (((w.alloc (.cells (nulC10 39) 5)).alloc (.cells #[.int .u8 p] 5)).drew):=convL11 ([p]) (by rfl) (show Is (((w.alloc (.cells (nulC10 39) 5)).alloc (.cells #[.int .u8 p] 5)).drew) (w.heap.size + 1) 5 #[.int .u8 p] from heap_alloc2_new w _ _)
  have a3:(convert 93 9 (.slice (some ⟨w.heap.size,0,none⟩) 1 1)).run Tryz.prog (((w.alloc (.cells #[.int .u8 p] 5)).alloc (.cells (nulC10 39) 5)).drew)=.ok (.string (strOfNums [p])) (((w.alloc (.cells #[.int .u8 p] 5)).alloc (.cells (nulC10 39) 5)).drew):=convL11 ([p]) (by rfl) (show Is (((w.alloc (.cells #[.int .u8 p] 5)).alloc (.cells (nulC10 39) 5)).drew) (w.heap.size) 5 #[.int .u8 p] from heap_alloc2_old w _ _)
  have n1:(convert 93 9 (.slice (some ⟨w.heap.size,0,none⟩) 39 39)).run Tryz.prog ((w.alloc (.cells (nulC10 39) 5)).drew)=.ok (.string Z) ((w.alloc (.cells (nulC10 39) 5)).drew):=by rw [hZ];exact run_convN10 (show Is ((w.alloc (.cells (nulC10 39) 5)).drew) (w.heap.size) 5 (nulC10 39) from Is.new w _ _)
  have n2:(convert 93 9 (.slice (some ⟨w.heap.size + 1,0,none⟩) 39 39)).run Tryz.prog (((w.alloc (.cells #[.int .u8 p] 5)).alloc (.cells (nulC10 39) 5)).drew)=.ok (.string Z) (((w.alloc (.cells #[.int .u8 p] 5)).alloc (.cells (nulC10 39) 5)).drew):=by rw [hZ];exact run_convN10 (show Is (((w.alloc (.cells #[.int .u8 p] 5)).alloc (.cells (nulC10 39) 5)).drew) (w.heap.size + 1) 5 (nulC10 39) from heap_alloc2_new w _ _)
  have n3:(convert 93 9 (.slice (some ⟨w.heap.size,0,none⟩) 39 39)).run Tryz.prog (((w.alloc (.cells (nulC10 39) 5)).alloc (.cells #[.int .u8 p] 5)).drew)=.ok (.string Z) (((w.alloc (.cells (nulC10 39) 5)).alloc (.cells #[.int .u8 p] 5)).drew):=by rw [hZ];exact run_convN10 (show Is (((w.alloc (.cells (nulC10 39) 5)).alloc (.cells #[.int .u8 p] 5)).drew) (w.heap.size) 5 (nulC10 39) from heap_alloc2_old w _ _)
  rw [← hZ]
  clear hZ
  go_enter Tryz.func24,Tryz.ntmps24
  go_wp2
  go_region_with (go_at_call 50;refine (PK.out _).mono ?_;rintro e wp ⟨rfl,rfl⟩)
  all_goals
    (go_wp2
     go_ret
     exact ⟨rfl,belowN (((Below.refl _ _).alloc (Nat.le_refl _) _).alloc (by simp) _) 1⟩)
end Go.Proofs.YtmggbbmpckcleaaGreat
namespace Go.Proofs.YtmggbbmpckcleaaGreat
open Go.RowKit Go.Shelf
abbrev iV11 (R:List Int):List Value:=R.map (Value.int .i64)
theorem InV.num11 {W:World} {A:Option Addr} {R:List Int} (h:InV W A (iV11 R)) {k:Nat} {x:Int} (hk:R[k]?=some x):∃ b off,A=some ⟨b,off,none⟩∧b < W.heap.size∧W.cell? ⟨b,off + k,none⟩=some (.int .i64 x) :=
  h k (.int .i64 x) (by rw [List.getElem?_map,hk];rfl)
def Big11 (R:List Int):Prop:=∀ y ∈ R,-9223372036854775808≤y∧y≤9223372036854775807
theorem has_step11 {o:List ByteArray} {s x:ByteArray} {j:Nat} (h:o[j]?=some x):hasL11 (o.take (j + 1)) s=(hasL11 (o.take j) s || decide (x=s)):=by
  rw [take_snoc10 h,hasL11,hasL11,List.any_append]
  simp
theorem RowV.cap13 {W:World} {base size:Nat} {e:TypeId} {A:Option Addr} {c n:Nat} {xs:List Value} (h:RowV W base e size A c n xs):n≤c:=by
  obtain ⟨_,hh⟩:=h
  rcases hh with ⟨hv,h0⟩ | ⟨g,cap,cur,hv,_,_,hn,_⟩
  · simp only [Value.slice.injEq] at hv
    omega
  · cases hv;exact hn
theorem qlabelsC_any11 (A:Option Addr) (cap:Nat) (R:List Int) (w:World) (hm:R.length≤9223372036854775807) (hb:Big11 R) (hc:InV w A (iV11 R)) :
    Calls Tryz.prog 59 #[.slice A R.length cap] w fun e w'=>∃ A' c',e=.returned (.slice A' (labs11 R).length c')∧Lst10 w.heap.size w' A' (labs11 R)∧(labs11 R).length≤c'∧Below w.heap.size w w':=by
  obtain ⟨i0,hi,hz0,hz1,hz2⟩:=infoThree10 infoTxt10
  have HC:=Lib.hid hc
  have HBG:=Lib.hid hb
  have HLN:=Lib.hid (fun k=>(labK_inv11 R k).2.2)
  clear hc hb
  go_enter Tryz.func59,Tryz.ntmps59
  go_wp2
  go_loopw [3,4] (fun v i wr=>∃ k A' c',k≤R.length∧k≤12∧i=.int .i64 (k:Int)∧v=.slice A' (labK11 R k).length c'∧RowV wr w.heap.size 9 1 A' c' (labK11 R k).length (tL10 (labK11 R k))∧Below w.heap.size w wr)
    (fun _ i _=>12 - (intOf i).toNat)
  case atStart=>exact ⟨0,none,0,by omega,by omega,rfl,rfl,RowV.nil _ _ _ _,Below.refl _ _⟩
  case round =>
    obtain ⟨k,A',c',hk,hk12,rfl,rfl,hrow,hB⟩:=hrel
    by_cases hlt:k < R.length∧k < 12
    · obtain ⟨hl1,hl2⟩:=hlt
      have q1:(k:Int) < (R.length:Int):=by omega
      have q2:(k:Int) < 12:=by omega
      obtain ⟨x,hx⟩:∃ x,R[k]?=some x:=⟨_,List.getElem?_eq_getElem hl1⟩
      obtain ⟨b,off,rfl,_,hcell⟩:=(HC.out.keep hB).num11 hx
      have QL:=Lib.hid (fun W=>qlabel_any11 x W (HBG.out x (List.mem_of_getElem? hx)))
      have HST:=Lib.hid (lab_step11 hx)
      have hln:=(HLN.out k).1
      clear hx
      go_wp2_with fail
      refine (QL.out _).mono ?_
      rintro e W2 ⟨rfl,hb2⟩
      have hrow2:=hrow.below hb2
      have hB2:=hB.trans (hb2.mono hB.size)
      have HIN:=Lib.hid hrow2.inV
      clear hcell hb2 hrow hB
      generalize label11 x=s at *
      generalize ho:labK11 R k=o at *
      go_wp2
      go_loopw [6,7] (fun had kk wr2=>∃ j:Nat,j≤o.length∧kk=.int .i64 (j:Int)∧had=.bool (hasL11 (o.take j) s)∧wr2=W2) (fun _ kk _=>o.length - (intOf kk).toNat)
      case atStart=>exact ⟨0,by omega,rfl,rfl,rfl⟩
      case round =>
        obtain ⟨j,hj,rfl,rfl,rfl⟩:=hrel
        by_cases hjl:j < o.length
        · have q3:(j:Int) < (o.length:Int):=by omega
          obtain ⟨y,hy⟩:∃ y,o[j]?=some y:=⟨_,List.getElem?_eq_getElem hjl⟩
          obtain ⟨g,off2,rfl,_,hcell⟩:=HIN.out.txt hy
          have HS:=Lib.hid (has_step11 (s:=s) hy)
          clear hy
          generalize hasL11 (o.take j) s=had at *
          cases had with
          | true =>
            go_wp2
            go_roundw
            case rel=>exact ⟨j + 1,by omega,by go_num,by rw [HS.out];rfl,by first | rfl | trivial⟩
            case measure=>simp [intOf];omega
          | false =>
            by_cases hys:y=s
            · subst hys
              go_wp2
              go_roundw
              case rel=>exact ⟨j + 1,by omega,by go_num,by rw [HS.out,decide_eq_true (rfl:y=y)];rfl,by first | rfl | trivial⟩
              case measure=>simp [intOf];omega
            · have n1:=ne7 hys
              have n2:=beq7 hys
              go_wp2
              go_roundw
              case rel=>exact ⟨j + 1,by omega,by go_num,by rw [HS.out,decide_eq_false hys];rfl,by first | rfl | trivial⟩
              case measure=>simp [intOf];omega
        · have q3:¬ (j:Int) < (o.length:Int):=by omega
          rw [List.take_of_length_le (show o.length≤j by omega)]
          have HD:Hid (labK11 R (k + 1)=if hasL11 o s then o else o ++ [s]):=Lib.hid (by rw [HST.out,addL11])
          generalize hasL11 o s=had at *
          cases had with
          | true =>
            rw [if_pos rfl] at HD
            go_wp2
            go_roundw
            case rel=>exact ⟨k + 1,A',c',by omega,by omega,by go_num,by rw [HD.out],by rw [HD.out];exact hrow2,hB2⟩
            case measure=>simp [intOf];omega
          | false =>
            rw [if_neg (by decide)] at HD
            have hrow3:=hrow2.alloc (.cells #[.string s] 9)
            have hB3:=hB2.alloc hB2.size (.cells #[.string s] 9)
            have iX:=Is.new wr 9 #[.string s]
            go_wp2_with (at_builtin;refine wpList_pushV rfl _ _ 24 9 i0 (.string ⟨#[]⟩) 1 16 rfl Tryz.underlying24 hi hz0 hz1 hz2 rfl (by decide) w.heap.size A' c' o.length _ hrow3 wr.heap.size 9 #[.string s] iX rfl (fun u hu=>by simp only [List.mem_cons,List.not_mem_nil,or_false] at hu;subst hu;rfl) (by unfold maxLen;omega) (by omega) ⟨rfl,rfl⟩ hB3.size ?_;intro A3 c3 V3 r3 hg3;have hB4:=RowV.belowG hrow3 hB3 hg3)
            go_roundw
            case rel=>exact ⟨k + 1,A3,c3,by omega,by omega,by go_num,by rw [HD.out,List.length_append];rfl,by rw [HD.out,List.length_append,tL10,List.map_append];exact r3,hB4⟩
            case measure=>simp [intOf];omega
    · have e1:=lab_end11 hk hk12 hlt
      have hrow4:=hrow.lst10
      rw [e1] at hrow4
      have HE:=Lib.hid e1
      have HR4:=Lib.hid hrow4
      have hcp:=hrow.cap13
      rw [e1] at hcp
      have HCP:=Lib.hid hcp
      clear e1 hrow4 hrow hcp
      by_cases hl1:k < R.length
      · have q1:(k:Int) < (R.length:Int):=by omega
        have q2:¬ (k:Int) < 12:=by omega
        clear hlt
        go_wp2
        go_ret
        exact ⟨A',c',by rw [← HE.out];rfl,HR4.out,HCP.out,hB⟩
      · have q1:¬ (k:Int) < (R.length:Int):=by omega
        clear hlt
        go_wp2
        go_ret
        exact ⟨A',c',by rw [← HE.out];rfl,HR4.out,HCP.out,hB⟩
end Go.Proofs.YtmggbbmpckcleaaGreat
namespace Go.Proofs.YtmggbbmpckcleaaGreat
open Go.RowKit Go.Shelf
theorem ne_rq11:(26:TypeId)≠9:=by decide
def ReqPost11 (D:Req11) (w:World) (r:Ending) (w':World):Prop :=
  ∃ B1 d1 B2 d2,r=.returned (.agg #[.int .i64 D.k,.slice B1 D.L.length d1,.slice B2 D.C.length d2])∧InV w' B1 (tL10 D.L)∧InV w' B2 (tL10 D.C)∧Below w.heap.size w w'
theorem req_post11 {D:Req11} {w w':World} {r:Ending} (B1 B2:Option Addr) (d1 d2:Nat) (h:r=.returned (.agg #[.int .i64 D.k,.slice B1 D.L.length d1,.slice B2 D.C.length d2])) (h1:InV w' B1 (tL10 D.L)) (h2:InV w' B2 (tL10 D.C)) (hb:Below w.heap.size w w'):ReqPost11 D w r w':=⟨B1,d1,B2,d2,h,h1,h2,hb⟩
def ReqPostC11 (D:Req11) (w:World) (r:Ending) (w':World):Prop :=
  ∃ B1 d1 B2 d2,r=.returned (.agg #[.int .i64 D.k,.slice B1 D.L.length d1,.slice B2 D.C.length d2])∧InV w' B1 (tL10 D.L)∧InV w' B2 (tL10 D.C)∧D.L.length≤d1∧D.C.length≤d2∧Below w.heap.size w w'
theorem req_postC11 {D:Req11} {w w':World} {r:Ending} (B1 B2:Option Addr) (d1 d2:Nat) (h:r=.returned (.agg #[.int .i64 D.k,.slice B1 D.L.length d1,.slice B2 D.C.length d2])) (h1:InV w' B1 (tL10 D.L)) (h2:InV w' B2 (tL10 D.C)) (c1:D.L.length≤d1) (c2:D.C.length≤d2) (hb:Below w.heap.size w w'):ReqPostC11 D w r w':=⟨B1,d1,B2,d2,h,h1,h2,c1,c2,hb⟩
theorem req11_reg (w W0:World) (D0 DQ N1 bR oR nR cR i nl cL c':Nat) (AL A':Option Addr) (L:List ByteArray) (k x:Int) (s:ByteArray) (xs:List Value) (t0:TypeInfo) (hi:Tryz.prog.info? 9=some t0) (hz0:t0.zero=some (.string ⟨#[]⟩)) (hz1:t0.size=1) (hz2:t0.bytes=16)
    (h0q:D0≠DQ) (hwq:w.heap.size≤DQ) (hwN:w.heap.size≤N1) (hiR:i < nR) (hi9:i < 1000) (hAL:∀ p,AL=some p→DQ < p.block∧p.block < N1)
    (HX:Hid (∀ W,Below w.heap.size w W→W.cell? ⟨bR,oR + i,none⟩=some (.int .i64 x))) (QC:Hid (∀ W,Calls Tryz.prog 24 #[.int .i64 x] W fun e w'=>e=.returned (.string s)∧Below W.heap.size W w'))
    (hB:Below w.heap.size w W0) (iq:Is W0 DQ 26 #[.int .i64 k,.slice AL nl cL,.slice A' (i:Nat) c']) (i0:Is W0 D0 26 #[.int .i64 0,.slice none 0 0,.slice none 0 0]) (hrow:RowV W0 N1 9 1 A' c' i xs) (hL:InV W0 AL (tL10 L)) (hN:N1≤W0.heap.size) (x0 x2 x3 x4 x7 x8 x9 Xa Xb Xc Xd Xe Xf Xg Xh Xi Xj Xk Xl Xm Xn Xo Xp Xq Xr Xs Xt Xu Xv Xw Xx Xy Xz Ya Yb Yc:Value) :
    (Code.region 9 (opsOf Tryz.f31 9) true).wp Tryz.prog (fun ex YY W=>ex=.normal∧YY.defers=[]∧∃ (DP:Nat) (A3:Option Addr) (c3:Nat),YY.tmps=#[x0,.slice (some ⟨bR,oR,none⟩) nR cR,x2,x3,x4,.pointer (some ⟨DQ,0,none⟩),.int .i64 (i:Int),x7,x8,x9,Xa,Xb,Xc,Xd,Xe,Xf,Xg,Xh,Xi,Xj,Xk,Xl,Xm,Xn,Xo,Xp,Xq,Xr,.pointer (some ⟨DQ,2,none⟩),.slice A' (i:Nat) c',.slice (some ⟨bR,oR,none⟩) nR cR,.int .i64 (i:Int),.pointer (some ⟨bR,oR + i,none⟩),.int .i64 x,.string s,.slice (some ⟨DP,0,none⟩) 1 1,.slice A3 (i + 1) c3,.pointer (some ⟨DQ,2,none⟩),Yc]∧Below w.heap.size w W∧Is W DQ 26 #[.int .i64 k,.slice AL nl cL,.slice A3 (i + 1) c3]∧Is W D0 26 #[.int .i64 0,.slice none 0 0,.slice none 0 0]∧RowV W N1 9 1 A3 c3 (i + 1) (xs ++ [.string s])∧InV W AL (tL10 L)∧N1≤W.heap.size) { tmps:=#[x0,.slice (some ⟨bR,oR,none⟩) nR cR,x2,x3,x4,.pointer (some ⟨DQ,0,none⟩),.int .i64 (i:Int),x7,x8,x9,Xa,Xb,Xc,Xd,Xe,Xf,Xg,Xh,Xi,Xj,Xk,Xl,Xm,Xn,Xo,Xp,Xq,Xr,Xs,Xt,Xu,Xv,Xw,Xx,Xy,Xz,Ya,Yb,Yc],defers:=[] } W0:=by
  replace hB:Below w.heap.size w (W0.drewN 1):=belowN hB 1
  replace iq:=iq.drewN 1
  replace i0:=i0.drewN 1
  replace hrow:=hrow.drewN 1
  replace hL:InV (W0.drewN 1) AL (tL10 L):=hL
  replace hN:N1≤(W0.drewN 1).heap.size:=hN
  generalize hQ:(fun (ex:Exit) (YY:Act) (W:World)=>ex=.normal∧YY.defers=[]∧∃ (DP:Nat) (A3:Option Addr) (c3:Nat),YY.tmps=#[x0,.slice (some ⟨bR,oR,none⟩) nR cR,x2,x3,x4,.pointer (some ⟨DQ,0,none⟩),.int .i64 (i:Int),x7,x8,x9,Xa,Xb,Xc,Xd,Xe,Xf,Xg,Xh,Xi,Xj,Xk,Xl,Xm,Xn,Xo,Xp,Xq,Xr,.pointer (some ⟨DQ,2,none⟩),.slice A' (i:Nat) c',.slice (some ⟨bR,oR,none⟩) nR cR,.int .i64 (i:Int),.pointer (some ⟨bR,oR + i,none⟩),.int .i64 x,.string s,.slice (some ⟨DP,0,none⟩) 1 1,.slice A3 (i + 1) c3,.pointer (some ⟨DQ,2,none⟩),Yc]∧Below w.heap.size w W∧Is W DQ 26 #[.int .i64 k,.slice AL nl cL,.slice A3 (i + 1) c3]∧Is W D0 26 #[.int .i64 0,.slice none 0 0,.slice none 0 0]∧RowV W N1 9 1 A3 c3 (i + 1) (xs ++ [.string s])∧InV W AL (tL10 L)∧N1≤W.heap.size)=Q
  have HQN:∀ c a W,¬ Q (.panic c) a W:=fun c a W h=>by subst hQ;exact nomatch h.1
  have ST1_6_7_8_10:∀ (W:World) (DP:Nat) (A3:Option Addr) (c3:Nat),Below w.heap.size w W→Is W DQ 26 #[.int .i64 k,.slice AL nl cL,.slice A3 (i + 1) c3]→Is W D0 26 #[.int .i64 0,.slice none 0 0,.slice none 0 0]→RowV W N1 9 1 A3 c3 (i + 1) (xs ++ [.string s])→InV W AL (tL10 L)→N1≤W.heap.size→wpAnyH Tryz.prog .any (opsOf Tryz.f31 9) Q (fun W=>Below w.heap.size w W) 0 #[true,true,true,true,true,true,true,true,true,true,true] { tmps:=#[x0,.slice (some ⟨bR,oR,none⟩) nR cR,x2,x3,x4,.pointer (some ⟨DQ,0,none⟩),.int .i64 (i:Int),x7,x8,x9,Xa,Xb,Xc,Xd,Xe,Xf,Xg,Xh,Xi,Xj,Xk,Xl,Xm,Xn,Xo,Xp,Xq,Xr,.pointer (some ⟨DQ,2,none⟩),.slice A' (i:Nat) c',.slice (some ⟨bR,oR,none⟩) nR cR,.int .i64 (i:Int),.pointer (some ⟨bR,oR + i,none⟩),.int .i64 x,.string s,.slice (some ⟨DP,0,none⟩) 1 1,.slice A3 (i + 1) c3,.pointer (some ⟨DQ,2,none⟩),Yc],defers:=[] } W:=by
    intro W DP A3 c3 hB iq2 i0 hrow3 hL hN
    refine wpAnyH_done (by kernel_rfl) ?_ _
    subst hQ
    exact ⟨rfl,rfl,DP,A3,c3,rfl,hB,iq2,i0,hrow3,hL,hN⟩
  have ST1_6_7_8:∀ (W:World) (DP:Nat) (A3:Option Addr) (c3:Nat),Below w.heap.size w W→Is W DQ 26 #[.int .i64 k,.slice AL nl cL,.slice A' (i:Nat) c']→Is W D0 26 #[.int .i64 0,.slice none 0 0,.slice none 0 0]→RowV W N1 9 1 A3 c3 (i + 1) (xs ++ [.string s])→InV W AL (tL10 L)→N1≤W.heap.size→wpAnyH Tryz.prog .any (opsOf Tryz.f31 9) Q (fun W=>Below w.heap.size w W) 1 #[true,true,true,true,true,true,true,true,true,true,false] { tmps:=#[x0,.slice (some ⟨bR,oR,none⟩) nR cR,x2,x3,x4,.pointer (some ⟨DQ,0,none⟩),.int .i64 (i:Int),x7,x8,x9,Xa,Xb,Xc,Xd,Xe,Xf,Xg,Xh,Xi,Xj,Xk,Xl,Xm,Xn,Xo,Xp,Xq,Xr,.pointer (some ⟨DQ,2,none⟩),.slice A' (i:Nat) c',.slice (some ⟨bR,oR,none⟩) nR cR,.int .i64 (i:Int),.pointer (some ⟨bR,oR + i,none⟩),.int .i64 x,.string s,.slice (some ⟨DP,0,none⟩) 1 1,.slice A3 (i + 1) c3,.pointer (some ⟨DQ,2,none⟩),Yc],defers:=[] } W:=by
    intro W DP A3 c3 hB iq i0 hrow3 hL hN
    refine wpAnyH_ready (by kernel_rfl) (by simp) (AllReadyH.cons (i:=10) (at_nth rfl) ?_ (AllReadyH.nil))
    · have iq2:=iq.set 2 (.slice A3 (i + 1) c3)
      try simp only [List.setIfInBounds_toArray,List.set_cons_succ,List.set_cons_zero] at iq2
      have fz:=iq.frozen 2
      have cz:W.cell? ⟨DQ,2,none⟩=some (.slice A' (i:Nat) c'):=iq.cell 2
      replace i0:=i0.far (p:=⟨DQ,2,none⟩) h0q (.slice A3 (i + 1) c3)
      replace hL:InV (W.setCell ⟨DQ,2,none⟩ (.slice A3 (i + 1) c3)) AL (tL10 L):=hL.apart10 (grownSetG W ⟨DQ,2,none⟩ _) (fun p e2 e3=>by have h7:=(hAL p e2).1;have h8:DQ=p.block:=Option.some.inj e3;omega)
      replace hrow3:=hrow3.far (p:=⟨DQ,2,none⟩) iq ne_rq11 (.slice A3 (i + 1) c3)
      replace hN:N1≤(W.setCell ⟨DQ,2,none⟩ (.slice A3 (i + 1) c3)).heap.size:=by simpa [World.setCell] using hN
      have hB2:=hB.setCell (p:=⟨DQ,2,none⟩) hwq (.slice A3 (i + 1) c3)
      refine arm10_skip (w':=W.setCell ⟨DQ,2,none⟩ (.slice A3 (i + 1) c3)) (by kernel_rfl) (by go_simp) hB2 ?_
      try simp only [Act.put]
      replace hB:=hB2
      clear iq fz cz
      exact ST1_6_7_8_10 _ _ _ _ hB iq2 i0 hrow3 hL hN
  have ST1_6_7:∀ (W:World) (DP:Nat),Below w.heap.size w W→Is W DQ 26 #[.int .i64 k,.slice AL nl cL,.slice A' (i:Nat) c']→Is W D0 26 #[.int .i64 0,.slice none 0 0,.slice none 0 0]→RowV W N1 9 1 A' c' i xs→InV W AL (tL10 L)→N1≤W.heap.size→Is W DP 9 #[.string s]→wpAnyH Tryz.prog .any (opsOf Tryz.f31 9) Q (fun W=>Below w.heap.size w W) 3 #[true,true,true,true,true,true,true,true,false,false,false] { tmps:=#[x0,.slice (some ⟨bR,oR,none⟩) nR cR,x2,x3,x4,.pointer (some ⟨DQ,0,none⟩),.int .i64 (i:Int),x7,x8,x9,Xa,Xb,Xc,Xd,Xe,Xf,Xg,Xh,Xi,Xj,Xk,Xl,Xm,Xn,Xo,Xp,Xq,Xr,.pointer (some ⟨DQ,2,none⟩),.slice A' (i:Nat) c',.slice (some ⟨bR,oR,none⟩) nR cR,.int .i64 (i:Int),.pointer (some ⟨bR,oR + i,none⟩),.int .i64 x,.string s,.slice (some ⟨DP,0,none⟩) 1 1,Ya,Yb,Yc],defers:=[] } W:=by
    intro W DP hB iq i0 hrow hL hN iP
    refine wpAnyH_ready (by kernel_rfl) (by simp) (AllReadyH.cons (i:=8) (at_nth rfl) ?_ (AllReadyH.nil))
    · obtain ⟨v',W3,hrun,hown,hgr,_⟩:=run_append_own (P:=Tryz.prog) W N1 24 24 9 t0 (.string ⟨#[]⟩) 1 16 Tryz.underlying24 hi hz0 hz1 hz2 rfl (by decide) (.slice A' i c') i _ hrow ⟨DP,0,none⟩ 1 1 [.string s] rfl (fun j u hj=>by (cases j with | zero=>(cases hj;rw [Addr.add_lit];exact iP.cell 0) | succ j=>cases hj)) (fun u hu=>by rw [List.mem_singleton] at hu;subst hu;rfl) (by unfold maxLen;omega) (by omega) hN
      obtain ⟨A3,c3,rfl⟩:=owns_sliceG hown
      replace iq:=hrow.isFar hgr iq ne_rq11
      replace i0:=hrow.isFar hgr i0 ne_rq11
      replace hB:=hB.grown hgr hB.size (fun q e2=>Nat.le_trans hwN (World.ownsRow.lt hrow q e2).1)
      replace hL:InV W3 AL (tL10 L):=hL.apart10 hgr (fun p e2 e3=>by have h7:=(hAL p e2).2;have h8:=(World.ownsRow.lt hrow p.block e3).1;omega)
      replace hN:=Nat.le_trans hN hgr.size
      have hrow3:RowV W3 N1 9 1 A3 c3 (i + 1) (xs ++ [.string s]):=hown
      have HRUN:=Lib.hid hrun
      clear hrun hown hgr iP hrow
      refine arm10_value (v:=.slice A3 (i + 1) c3) (w':=W3) (by kernel_rfl) (exec_append10 rfl rfl rfl HRUN.out) hB ?_
      simp only [Act.put,zz0,zz1,zz2]
      refine wpP (i:=9) (v:=.pointer (some ⟨DQ,2,none⟩)) HQN rfl (fun w hSw=>by go_simp) hB ?_
      simp only [Act.put,zz0,zz1,zz2]
      exact ST1_6_7_8 _ _ _ _ hB iq i0 hrow3 hL hN
  have ST1_6:∀ (W:World),Below w.heap.size w W→Is W DQ 26 #[.int .i64 k,.slice AL nl cL,.slice A' (i:Nat) c']→Is W D0 26 #[.int .i64 0,.slice none 0 0,.slice none 0 0]→RowV W N1 9 1 A' c' i xs→InV W AL (tL10 L)→N1≤W.heap.size→wpAnyH Tryz.prog .any (opsOf Tryz.f31 9) Q (fun W=>Below w.heap.size w W) 4 #[true,true,true,true,true,true,true,false,false,false,false] { tmps:=#[x0,.slice (some ⟨bR,oR,none⟩) nR cR,x2,x3,x4,.pointer (some ⟨DQ,0,none⟩),.int .i64 (i:Int),x7,x8,x9,Xa,Xb,Xc,Xd,Xe,Xf,Xg,Xh,Xi,Xj,Xk,Xl,Xm,Xn,Xo,Xp,Xq,Xr,.pointer (some ⟨DQ,2,none⟩),.slice A' (i:Nat) c',.slice (some ⟨bR,oR,none⟩) nR cR,.int .i64 (i:Int),.pointer (some ⟨bR,oR + i,none⟩),.int .i64 x,.string s,Xz,Ya,Yb,Yc],defers:=[] } W:=by
    intro W hB iq i0 hrow hL hN
    refine wpAnyH_ready (by kernel_rfl) (by simp) (AllReadyH.cons (i:=7) (at_nth rfl) ?_ (AllReadyH.nil))
    · have iP:=Is.new W 9 #[.string s]
      replace iq:=iq.alloc (.cells #[.string s] 9)
      replace i0:=i0.alloc (.cells #[.string s] 9)
      replace hrow:=hrow.alloc (.cells #[.string s] 9)
      replace hL:=hL.keep ((Below.refl W.heap.size W).alloc (Nat.le_refl _) (.cells #[.string s] 9))
      replace hN:N1≤(W.alloc (.cells #[.string s] 9)).heap.size:=by simp;omega
      replace hB:=hB.alloc hB.size (.cells #[.string s] 9)
      refine arm10_value (v:=.slice (some ⟨W.heap.size,0,none⟩) 1 1) (w':=W.alloc (.cells #[.string s] 9)) (by kernel_rfl) (by go_simp) hB ?_
      simp only [Act.put,zz0,zz1,zz2]
      exact ST1_6_7 _ _ hB iq i0 hrow hL hN iP
  have ST1:∀ (W:World),Below w.heap.size w W→Is W DQ 26 #[.int .i64 k,.slice AL nl cL,.slice A' (i:Nat) c']→Is W D0 26 #[.int .i64 0,.slice none 0 0,.slice none 0 0]→RowV W N1 9 1 A' c' i xs→InV W AL (tL10 L)→N1≤W.heap.size→wpAnyH Tryz.prog .any (opsOf Tryz.f31 9) Q (fun W=>Below w.heap.size w W) 5 #[true,true,true,true,true,true,false,false,false,false,false] { tmps:=#[x0,.slice (some ⟨bR,oR,none⟩) nR cR,x2,x3,x4,.pointer (some ⟨DQ,0,none⟩),.int .i64 (i:Int),x7,x8,x9,Xa,Xb,Xc,Xd,Xe,Xf,Xg,Xh,Xi,Xj,Xk,Xl,Xm,Xn,Xo,Xp,Xq,Xr,.pointer (some ⟨DQ,2,none⟩),.slice A' (i:Nat) c',.slice (some ⟨bR,oR,none⟩) nR cR,.int .i64 (i:Int),.pointer (some ⟨bR,oR + i,none⟩),.int .i64 x,Xy,Xz,Ya,Yb,Yc],defers:=[] } W:=by
    intro W hB iq i0 hrow hL hN
    refine wpAnyH_ready (by kernel_rfl) (by simp) (AllReadyH.cons (i:=6) (at_nth rfl) ?_ (AllReadyH.nil))
    · refine arm10_call (by kernel_rfl) (fun wy=>by kernel_rfl) ((QC.out _).mono ?_)
      rintro e Wn ⟨rfl,hb⟩
      replace iq:=iq.below hb iq.lt
      replace i0:=i0.below hb i0.lt
      replace hrow:=hrow.below hb
      replace hL:=hL.keep hb
      replace hN:=Nat.le_trans hN hb.size
      replace hB:=hB.trans (hb.mono hB.size)
      clear hb
      refine ⟨_,rfl,hB,?_⟩
      simp only [Act.put,zz0,zz1,zz2]
      exact ST1_6 _ hB iq i0 hrow hL hN
  have ST6_7:∀ (W:World) (DP:Nat),Below w.heap.size w W→Is W DQ 26 #[.int .i64 k,.slice AL nl cL,.slice A' (i:Nat) c']→Is W D0 26 #[.int .i64 0,.slice none 0 0,.slice none 0 0]→RowV W N1 9 1 A' c' i xs→InV W AL (tL10 L)→N1≤W.heap.size→Is W DP 9 #[.string s]→wpAnyH Tryz.prog .any (opsOf Tryz.f31 9) Q (fun W=>Below w.heap.size w W) 4 #[true,false,true,true,true,true,true,true,false,false,false] { tmps:=#[x0,.slice (some ⟨bR,oR,none⟩) nR cR,x2,x3,x4,.pointer (some ⟨DQ,0,none⟩),.int .i64 (i:Int),x7,x8,x9,Xa,Xb,Xc,Xd,Xe,Xf,Xg,Xh,Xi,Xj,Xk,Xl,Xm,Xn,Xo,Xp,Xq,Xr,.pointer (some ⟨DQ,2,none⟩),Xt,.slice (some ⟨bR,oR,none⟩) nR cR,.int .i64 (i:Int),.pointer (some ⟨bR,oR + i,none⟩),.int .i64 x,.string s,.slice (some ⟨DP,0,none⟩) 1 1,Ya,Yb,Yc],defers:=[] } W:=by
    intro W DP hB iq i0 hrow hL hN iP
    refine wpAnyH_ready (by kernel_rfl) (by simp) (AllReadyH.cons (i:=1) (at_nth rfl) ?_ (AllReadyH.nil))
    · have c2:W.cell? ⟨DQ,2,none⟩=some (.slice A' (i:Nat) c'):=iq.cell 2
      refine arm10_value (v:=.slice A' (i:Nat) c') (w':=W) (by kernel_rfl) (by go_simp) hB ?_
      simp only [Act.put,zz0,zz1,zz2]
      clear c2
      exact ST1_6_7 _ _ hB iq i0 hrow hL hN iP
  have ST6:∀ (W:World),Below w.heap.size w W→Is W DQ 26 #[.int .i64 k,.slice AL nl cL,.slice A' (i:Nat) c']→Is W D0 26 #[.int .i64 0,.slice none 0 0,.slice none 0 0]→RowV W N1 9 1 A' c' i xs→InV W AL (tL10 L)→N1≤W.heap.size→wpAnyH Tryz.prog .any (opsOf Tryz.f31 9) Q (fun W=>Below w.heap.size w W) 5 #[true,false,true,true,true,true,true,false,false,false,false] { tmps:=#[x0,.slice (some ⟨bR,oR,none⟩) nR cR,x2,x3,x4,.pointer (some ⟨DQ,0,none⟩),.int .i64 (i:Int),x7,x8,x9,Xa,Xb,Xc,Xd,Xe,Xf,Xg,Xh,Xi,Xj,Xk,Xl,Xm,Xn,Xo,Xp,Xq,Xr,.pointer (some ⟨DQ,2,none⟩),Xt,.slice (some ⟨bR,oR,none⟩) nR cR,.int .i64 (i:Int),.pointer (some ⟨bR,oR + i,none⟩),.int .i64 x,.string s,Xz,Ya,Yb,Yc],defers:=[] } W:=by
    intro W hB iq i0 hrow hL hN
    refine wpAnyH_ready (by kernel_rfl) (by simp) (AllReadyH.cons (i:=1) (at_nth rfl) ?_ (AllReadyH.cons (i:=7) (at_nth rfl) ?_ (AllReadyH.nil)))
    · have c2:W.cell? ⟨DQ,2,none⟩=some (.slice A' (i:Nat) c'):=iq.cell 2
      refine arm10_value (v:=.slice A' (i:Nat) c') (w':=W) (by kernel_rfl) (by go_simp) hB ?_
      simp only [Act.put,zz0,zz1,zz2]
      clear c2
      exact ST1_6 _ hB iq i0 hrow hL hN
    · have iP:=Is.new W 9 #[.string s]
      replace iq:=iq.alloc (.cells #[.string s] 9)
      replace i0:=i0.alloc (.cells #[.string s] 9)
      replace hrow:=hrow.alloc (.cells #[.string s] 9)
      replace hL:=hL.keep ((Below.refl W.heap.size W).alloc (Nat.le_refl _) (.cells #[.string s] 9))
      replace hN:N1≤(W.alloc (.cells #[.string s] 9)).heap.size:=by simp;omega
      replace hB:=hB.alloc hB.size (.cells #[.string s] 9)
      refine arm10_value (v:=.slice (some ⟨W.heap.size,0,none⟩) 1 1) (w':=W.alloc (.cells #[.string s] 9)) (by kernel_rfl) (by go_simp) hB ?_
      simp only [Act.put,zz0,zz1,zz2]
      exact ST6_7 _ _ hB iq i0 hrow hL hN iP
  have ST:∀ (W:World),Below w.heap.size w W→Is W DQ 26 #[.int .i64 k,.slice AL nl cL,.slice A' (i:Nat) c']→Is W D0 26 #[.int .i64 0,.slice none 0 0,.slice none 0 0]→RowV W N1 9 1 A' c' i xs→InV W AL (tL10 L)→N1≤W.heap.size→wpAnyH Tryz.prog .any (opsOf Tryz.f31 9) Q (fun W=>Below w.heap.size w W) 6 #[true,false,true,true,true,true,false,false,false,false,false] { tmps:=#[x0,.slice (some ⟨bR,oR,none⟩) nR cR,x2,x3,x4,.pointer (some ⟨DQ,0,none⟩),.int .i64 (i:Int),x7,x8,x9,Xa,Xb,Xc,Xd,Xe,Xf,Xg,Xh,Xi,Xj,Xk,Xl,Xm,Xn,Xo,Xp,Xq,Xr,.pointer (some ⟨DQ,2,none⟩),Xt,.slice (some ⟨bR,oR,none⟩) nR cR,.int .i64 (i:Int),.pointer (some ⟨bR,oR + i,none⟩),.int .i64 x,Xy,Xz,Ya,Yb,Yc],defers:=[] } W:=by
    intro W hB iq i0 hrow hL hN
    refine wpAnyH_ready (by kernel_rfl) (by simp) (AllReadyH.cons (i:=1) (at_nth rfl) ?_ (AllReadyH.cons (i:=6) (at_nth rfl) ?_ (AllReadyH.nil)))
    · have c2:W.cell? ⟨DQ,2,none⟩=some (.slice A' (i:Nat) c'):=iq.cell 2
      refine arm10_value (v:=.slice A' (i:Nat) c') (w':=W) (by kernel_rfl) (by go_simp) hB ?_
      simp only [Act.put,zz0,zz1,zz2]
      clear c2
      exact ST1 _ hB iq i0 hrow hL hN
    · refine arm10_call (by kernel_rfl) (fun wy=>by kernel_rfl) ((QC.out _).mono ?_)
      rintro e Wn ⟨rfl,hb⟩
      replace iq:=iq.below hb iq.lt
      replace i0:=i0.below hb i0.lt
      replace hrow:=hrow.below hb
      replace hL:=hL.keep hb
      replace hN:=Nat.le_trans hN hb.size
      replace hB:=hB.trans (hb.mono hB.size)
      clear hb
      refine ⟨_,rfl,hB,?_⟩
      simp only [Act.put,zz0,zz1,zz2]
      exact ST6 _ hB iq i0 hrow hL hN
  refine wp_region_held_drew (S:=fun W=>Below w.heap.size w W) (by kernel_rfl) hB (fun hS=>?_)
  change wpAnyH _ _ (opsOf Tryz.f31 9) _ _ 11 (Array.replicate 11 false) _ (W0.drewN 1)
  clear hS
  refine wpP (i:=0) (v:=.pointer (some ⟨DQ,2,none⟩)) HQN rfl (fun w hSw=>by go_simp) hB ?_
  simp only [Act.put,zz0,zz1,zz2]
  refine wpP (i:=2) (v:=.slice (some ⟨bR,oR,none⟩) nR cR) HQN rfl (fun w hSw=>by kernel_rfl) hB ?_
  simp only [Act.put,zz0,zz1,zz2]
  refine wpP (i:=3) (v:=.int .i64 (i:Int)) HQN rfl (fun w hSw=>by kernel_rfl) hB ?_
  simp only [Act.put,zz0,zz1,zz2]
  refine wpP (i:=4) (v:=.pointer (some ⟨bR,oR + i,none⟩)) HQN rfl (fun w hSw=>by go_simp) hB ?_
  simp only [Act.put,zz0,zz1,zz2]
  refine wpP (i:=5) (v:=.int .i64 x) HQN rfl (fun w hSw=>by (have hc:=HX.out w hSw;go_simp)) hB ?_
  simp only [Act.put,zz0,zz1,zz2]
  exact ST _ hB iq i0 hrow hL hN
theorem qreqC_any11 (kind:Int) (A:Option Addr) (cap:Nat) (R:List Int) (w:World) (hk:-9223372036854775808≤kind∧kind≤9223372036854775807) (hm:R.length≤9223372036854775807) (hb:Big11 R) (hc:InV w A (iV11 R)) :
    Calls Tryz.prog 31 #[.int .i64 kind,.slice A R.length cap] w fun r w'=>ReqPostC11 (req11 kind R) w r w':=by
  obtain ⟨t0,hi,hz0,hz1,hz2⟩:=infoThree10 infoTxt10
  have PK:=Lib.hid (fun W=>pick11_any kind 4 W hk.1 hk.2 (by omega) (by omega))
  have hp:=pickN_bd kind 4 (by omega)
  have HD:Hid (req11 kind R=if 1 + pickN kind 4=4 then ⟨4,[],[]⟩ else if 1 + pickN kind 4=1 then ⟨1,labs11 R,celK11 R (labs11 R).length⟩ else ⟨1 + pickN kind 4,labs11 R,[]⟩):=Lib.hid rfl
  have QL:=Lib.hid (fun W h=>qlabelsC_any11 A cap R W hm hb h)
  obtain ⟨_,_,hl12,hlR⟩:=labK_inv11 R 12
  have HL12:(labs11 R).length≤12∧(labs11 R).length≤R.length:=⟨hl12,hlR⟩
  clear hl12 hlR
  have HC:=Lib.hid hc
  have HB:=Lib.hid hb
  clear hc hb
  generalize req11 kind R=D at *
  generalize pickN kind 4=p at *
  have w1:=IntWalk.i64_in (1 + p) (by omega)
  obtain ⟨q,hq⟩:∃ q,q=1 + p:=⟨_,rfl⟩
  rw [← hq] at HD
  rw [← hq] at w1
  have PK2:Hid (∀ W,Calls Tryz.prog 50 #[.int .i64 kind,.int .i64 4] W fun e w'=>e=.returned (.int .i64 p)∧W=w'):=PK
  have HQ:=Lib.hid hq
  by_cases h4:q=4
  · rw [if_pos h4] at HD
    obtain rfl:p=3:=by omega
    clear hq w1
    go_enter Tryz.func31,Tryz.ntmps31
    go_wp2_with (go_at_call 50;refine (PK.out _).mono ?_;rintro r0 w1 ⟨rfl,rfl⟩)
    exact bodyPost_ret (results_cell_row Tryz.results31 _ _ w.heap.size 26 _ (0,0) _ rfl (heap_alloc2_old w _ _) Tryz.underlying26 rfl infoReq11) rfl (req_postC11 none none 0 0 (by rw [HD.out];rfl) (by rw [HD.out];exact fun j u hj=>by cases hj) (by rw [HD.out];exact fun j u hj=>by cases hj) (by rw [HD.out];exact Nat.le_refl _) (by rw [HD.out];exact Nat.le_refl _) (((Below.refl _ _).alloc (Nat.le_refl _) _).alloc (by simp) _))
  · rw [if_neg h4] at HD
    have h4':¬ (1 + p=4):=by omega
    obtain ⟨W1,hW1⟩:∃ W1,W1=(w.alloc (.cells #[.int .i64 0,.slice none 0 0,.slice none 0 0] 26)).alloc (.cells #[.int .i64 (1 + p),.slice none 0 0,.slice none 0 0] 26):=⟨_,rfl⟩
    have i0:Is W1 w.heap.size 26 #[.int .i64 0,.slice none 0 0,.slice none 0 0]:=by rw [hW1];exact heap_alloc2_old w _ _
    have iq:Is W1 (w.heap.size + 1) 26 #[.int .i64 (1 + p),.slice none 0 0,.slice none 0 0]:=by rw [hW1];exact heap_alloc2_new w _ _
    have hz1:W1.heap.size=w.heap.size + 1 + 1:=by rw [hW1];simp
    have hB:Below w.heap.size w W1:=by rw [hW1];exact ((Below.refl _ _).alloc (Nat.le_refl _) _).alloc (by simp) _
    rw [← hq] at iq hW1
    rw [hq] at w1
    go_enter Tryz.func31,Tryz.ntmps31
    go_wp2_with (go_at_call 50;refine (PK.out _).mono ?_;rintro r0 w1 ⟨rfl,rfl⟩)
    rw [← HQ.out]
    rw [← hW1]
    clear hW1 w1
    refine (QL.out _ (HC.out.keep hB)).mono ?_
    rintro r0 W2 ⟨AL,cL,rfl,hLs,hcap,hb⟩
    have HCAP:=Lib.hid hcap
    clear hcap
    have i0:=i0.below hb i0.lt
    have iq:=iq.below hb iq.lt
    have hB:=hB.trans (hb.mono hB.size)
    have fz:=iq.frozen 1
    have cz:=iq.cell 1
    have hLs:=hLs.mono (show w.heap.size + 1 + 1≤_ from Nat.le_of_eq hz1.symm)
    have hLs2:=hLs.far (p:=⟨w.heap.size + 1,1,none⟩) (show w.heap.size + 1 < w.heap.size + 1 + 1 by omega) (.slice AL (labs11 R).length cL)
    have iq2:=iq.set 1 (.slice AL (labs11 R).length cL)
    have i02:=i0.far (p:=⟨w.heap.size + 1,1,none⟩) (show w.heap.size≠w.heap.size + 1 by omega) (.slice AL (labs11 R).length cL)
    have hB2:=hB.setCell (p:=⟨w.heap.size + 1,1,none⟩) (show w.heap.size≤w.heap.size + 1 by omega) (.slice AL (labs11 R).length cL)
    simp only [List.setIfInBounds_toArray,List.set_cons_succ,List.set_cons_zero] at iq2
    have j0:(W2.setCell ⟨w.heap.size + 1,1,none⟩ (.slice AL (labs11 R).length cL)).cell? ⟨w.heap.size + 1,0,none⟩=some (.int .i64 q):=iq2.cell 0
    clear hb hz1 h4' hq HQ
    clear iq i0 hB hLs
    have I0:=Lib.hid i02
    have IQ:=Lib.hid iq2
    have HLS:=Lib.hid hLs2
    have HB2:=Lib.hid hB2
    clear i02 iq2 hLs2 hB2
    by_cases h1:q=1
    · rw [if_pos h1] at HD
      subst h1
      go_upto_region 6 with (fail)
      generalize W2.setCell ⟨w.heap.size + 1,1,none⟩ (.slice AL (labs11 R).length cL)=X at *
      clear j0 fz cz
      obtain ⟨hl12,hlR⟩:=HL12
      obtain ⟨N1,hN1⟩:∃ N1,N1=X.heap.size:=⟨_,rfl⟩
      have HN1:=Lib.hid hN1
      clear hN1
      generalize hLL:labs11 R=L at *
      go_wp2
      go_loopw [6] (fun i wr=>∃ (j:Nat) (A':Option Addr) (c':Nat),j≤L.length∧i=.int .i64 (j:Int)∧Is wr (w.heap.size + 1) 26 #[.int .i64 1,.slice AL L.length cL,.slice A' j c']∧Is wr w.heap.size 26 #[.int .i64 0,.slice none 0 0,.slice none 0 0]∧RowV wr N1 9 1 A' c' j (tL10 (celK11 R j))∧InV wr AL (tL10 L)∧Below w.heap.size w wr∧N1≤wr.heap.size)
        (fun i _=>L.length - (intOf i).toNat)
      case atStart=>exact ⟨0,none,0,by omega,rfl,IQ.out,I0.out,RowV.nil _ _ _ _,HLS.out.at',HB2.out,Nat.le_of_eq HN1.out⟩
      case round =>
        obtain ⟨j,A',c',hj,rfl,iq,i0,hrow,hL,hB,hN⟩:=hrel
        have c1:wr.cell? ⟨w.heap.size + 1,1,none⟩=some (.slice AL L.length cL):=iq.cell 1
        by_cases hlt:j < L.length
        · have q1:(j:Int) < (L.length:Int):=by omega
          obtain ⟨x,hx⟩:∃ x,R[j]?=some x:=⟨_,List.getElem?_eq_getElem (by omega)⟩
          obtain ⟨bR,oR,hA,_,_⟩:=(HC.out.keep hB).num11 hx
          subst hA
          have HX:=Lib.hid (fun W (hb:Below w.heap.size w W)=>by
            obtain ⟨b1,o1,e1,_,hc1⟩:=(HC.out.keep hb).num11 hx
            cases e1
            exact hc1)
          have QC:=Lib.hid (fun W=>qcell_any11 x W (HB.out x (List.mem_of_getElem? hx)))
          have HST:=Lib.hid (cel_step11 hx)
          obtain ⟨y,hy⟩:∃ y,L[0]?=some y:=⟨_,List.getElem?_eq_getElem (by omega)⟩
          obtain ⟨bL,oL,eL,hbL,_⟩:=HLS.out.at'.txt hy
          have hAL:∀ p,AL=some p→w.heap.size + 1 < p.block∧p.block < N1:=fun p e=>by
            have h7:=HLS.out.own p e
            rw [eL] at e
            cases e
            rw [HN1.out]
            exact ⟨by simp only at h7 ⊢;omega,hbL⟩
          have HAL:=Lib.hid hAL
          clear hx hy hbL eL hAL
          go_wp2
          refine Code.wp_mono ?_ (req11_reg w wr w.heap.size (w.heap.size + 1) N1 bR oR R.length cap j L.length cL c' AL A' L 1 x (cell11 x) (tL10 (celK11 R j)) t0 hi hz0 hz1 hz2 (by omega) (by omega) (by have:=HB2.out.size;rw [HN1.out];exact this) (by omega) (by omega) HAL.out HX QC hB iq i0 hrow hL hN _ _ _ _ _ _ _ _ _ _ _ _ _ _ _ _ _ _ _ _ _ _ _ _ _ _ _ _ _ _ _ _ _ _ _ _)
          rintro ex ⟨T,Ds⟩ W9 ⟨rfl,hD,DP9,A3,c3,hT,hB9,iq9,i09,hrow9,hL9,hN9⟩
          simp only at hT hD
          subst hT
          subst hD
          go_wp2
          go_roundw
          case rel=>exact ⟨j + 1,A3,c3,by omega,by go_num,iq9,i09,by rw [HST.out,tL10,List.map_append];exact hrow9,hL9,hB9,hN9⟩
          case measure=>simp [intOf];omega
        · have q1:¬ (j:Int) < (L.length:Int):=by omega
          obtain rfl:j=L.length:=by omega
          have hcl:(celK11 R L.length).length=L.length:=cel_len11 (by omega)
          have HD2:Hid (D=⟨1,L,celK11 R L.length⟩):=HD
          have i5:=i0.row #[.int .i64 1,.slice AL L.length cL,.slice A' L.length c']
          have hB5:=belowRow hB (Nat.le_refl _) #[.int .i64 1,.slice AL L.length cL,.slice A' L.length c']
          have hL5:InV (wr.setRow w.heap.size #[.int .i64 1,.slice AL L.length cL,.slice A' L.length c']) AL (tL10 L):=hL.apart10 (grownRowG wr w.heap.size _) (fun p e e2=>by have h7:=HLS.out.own p e;have h8:w.heap.size=p.block:=Option.some.inj e2;omega)
          have HCC:=Lib.hid hrow.cap13
          have hC5:=(hrow.rowFar i0 ne_rq11 #[.int .i64 1,.slice AL L.length cL,.slice A' L.length c']).inV
          go_upto_region 10 with (fail)
          refine wp_region_list ?_
          refine wpList_load_row rfl 26 _ rfl (w.heap.size + 1) rfl _ _ _ _ iq Tryz.underlying26 rfl infoReq11 ?_
          go_wp2_with (refine wpList_store_row rfl 26 _ _ rfl w.heap.size #[.int .i64 1,.slice AL L.length cL,.slice A' L.length c'] rfl rfl _ _ i0 infoReq11 rfl (by rw [← Array.all_toList];rfl) ?_)
          exact bodyPost_ret (results_cell_row Tryz.results31 _ _ w.heap.size 26 _ (0,0) _ rfl i5 Tryz.underlying26 rfl infoReq11) rfl (req_postC11 AL A' cL c' (by rw [HD2.out,hcl]) (by rw [HD2.out];exact hL5) (by rw [HD2.out];exact hC5) (by rw [HD2.out];exact HCAP.out) (by rw [HD2.out];show (celK11 R L.length).length≤c';rw [hcl];exact HCC.out) hB5)
    · rw [if_neg h1] at HD
      go_upto_region 10 with (fail)
      generalize W2.setCell ⟨w.heap.size + 1,1,none⟩ (.slice AL (labs11 R).length cL)=X at *
      clear j0 fz cz
      generalize labs11 R=L at *
      have i5:=I0.out.row #[.int .i64 q,.slice AL L.length cL,.slice none 0 0]
      have hB5:=belowRow HB2.out (Nat.le_refl _) #[.int .i64 q,.slice AL L.length cL,.slice none 0 0]
      have hL5:InV (X.setRow w.heap.size #[.int .i64 q,.slice AL L.length cL,.slice none 0 0]) AL (tL10 L):=HLS.out.at'.apart10 (grownRowG X w.heap.size _) (fun p e e2=>by have h7:=HLS.out.own p e;have h8:w.heap.size=p.block:=Option.some.inj e2;omega)
      refine wp_region_list ?_
      refine wpList_load_row rfl 26 _ rfl (w.heap.size + 1) rfl _ _ _ _ IQ.out Tryz.underlying26 rfl infoReq11 ?_
      go_wp2_with (refine wpList_store_row rfl 26 _ _ rfl w.heap.size #[.int .i64 q,.slice AL L.length cL,.slice none 0 0] rfl rfl _ _ I0.out infoReq11 rfl (by rw [← Array.all_toList];rfl) ?_)
      exact bodyPost_ret (results_cell_row Tryz.results31 _ _ w.heap.size 26 _ (0,0) _ rfl i5 Tryz.underlying26 rfl infoReq11) rfl (req_postC11 AL none cL 0 (by rw [HD.out];rfl) (by rw [HD.out];exact hL5) (by rw [HD.out];exact fun j u hj=>by cases hj) (by rw [HD.out];exact HCAP.out) (by rw [HD.out];exact Nat.le_refl _) hB5)
theorem qreq_any11 (kind:Int) (A:Option Addr) (cap:Nat) (R:List Int) (w:World) (hk:-9223372036854775808≤kind∧kind≤9223372036854775807) (hm:R.length≤9223372036854775807) (hb:Big11 R) (hc:InV w A (iV11 R)) :
    Calls Tryz.prog 31 #[.int .i64 kind,.slice A R.length cap] w fun r w'=>ReqPost11 (req11 kind R) w r w' :=
  (qreqC_any11 kind A cap R w hk hm hb hc).mono fun _ _ ⟨B1,d1,B2,d2,h1,h2,h3,_,_,h4⟩=>⟨B1,d1,B2,d2,h1,h2,h3,h4⟩
end Go.Proofs.YtmggbbmpckcleaaGreat
namespace Go.Proofs.YtmggbbmpckcleaaGreat
open Go.RowKit Go.Shelf
end Go.Proofs.YtmggbbmpckcleaaGreat
