import Derived.Test.YtmggbbmpckcleaaGreatBuxR
import Derived.Test.YtmggbbmpckcleaaGreatGCo3
import Derived.Test.YtmggbbmpckcleaaGreatGSr1
import Derived.Test.YtmggbbmpckcleaaGreatBuzD
import Derived.ChangeKeysEq
set_option maxRecDepth 100000
set_option maxHeartbeats 16000000
namespace Go.Proofs.YtmggbbmpckcleaaGreat
open Go.RowKit Go.Shelf
theorem dsize_any12 (n:Int) (w:World) :
    Calls Tryz.prog 52 #[.int .i64 n] w fun e w'=>e=.returned (.bool (size12 n))∧w=w':=by
  have HN:=Lib.hid (size_pow12 n)
  generalize size12 n=R at *
  go_enter Tryz.func52,Tryz.ntmps52
  go_wp2
  go_loopw [3] (fun i wr=>∃ k:Nat,k≤10∧i=.int .i64 (8 * 2 ^ k:Int)∧(∀ j,j < k→n≠8 * 2 ^ j)∧w=wr) (fun i _=>8193 - (intOf i).toNat)
  case atStart=>exact ⟨0,by omega,rfl,fun j hj=>absurd hj (Nat.not_lt_zero _),rfl⟩
  case round =>
    obtain ⟨k,hk,rfl,hno,rfl⟩:=hrel
    have hp:=pow_le12 k hk
    have hlt:=pow_lt12 k hk
    have hs:2 * (8 * 2 ^ k:Int)=8 * 2 ^ (k + 1):=by rw [Int.pow_succ];omega
    have HS:=Lib.hid hs
    have HNO:=Lib.hid hno
    clear hno hs
    have hk10:=Lib.hid hk
    by_cases h1:k < 10
    · have h2:(8 * 2 ^ k:Int)≤4096:=hlt.2 h1
      have HE:=Lib.hid (⟨k,h1,rfl⟩:∃ j,j < 10∧(8 * 2 ^ k:Int)=8 * 2 ^ j)
      have H1:=Lib.hid h1
      clear hlt hk h1
      have HG:Hid (∀ j,n=(8 * 2 ^ k:Int)→j=k→n=8 * 2 ^ j):=Lib.hid (fun j e e2=>by rw [e,e2])
      obtain ⟨P,hP⟩:∃ P:Int,P=8 * 2 ^ k:=⟨_,rfl⟩
      rw [← hP] at h2 HS hp HE HG ⊢
      have HP:=Lib.hid hP
      clear hP
      have wm:=IntWalk.i64_in (2 * P) (by omega)
      by_cases h3:P=n
      · have h4:R=true:=by
          have hh:=HN.out
          have hx:∃ j,j < 10∧n=8 * 2 ^ j:=by rw [← h3];exact HE.out
          exact hh.2 hx
        subst h4
        subst h3
        go_wp2
        go_ret
        exact ⟨rfl,rfl⟩
      · have H3:=Lib.hid h3
        go_wp2
        go_roundw
        case rel =>
          refine ⟨k + 1,by have:=H1.out;omega,by rw [← HS.out],fun j hj=>?_,trivial⟩
          by_cases hjk:j=k
          · subst hjk;rw [← HP.out];exact fun e=>H3.out e.symm
          · exact HNO.out j (by omega)
        case measure=>simp [intOf];omega
    · obtain rfl:k=10:=by have:=hk10.out;omega
      have h2:¬ ((8 * 2 ^ 10:Int)≤4096):=by decide
      have h4:R=false:=by
        rw [← Bool.not_eq_true]
        intro hr
        obtain ⟨j,hj,e⟩:=HN.out.1 hr
        exact HNO.out j hj e
      subst h4
      go_wp2
      go_ret
      exact ⟨rfl,rfl⟩
theorem dnew_any12 (n:Int) (w:World) :
    Calls Tryz.prog 27 #[.int .i64 n] w fun e w'=>∃ A c,e=.returned (.tuple #[stoV (newV12 n).1 A c,.int .i64 (newV12 n).2])∧RowB w' w.heap.size A c (newV12 n).1.B∧Below w.heap.size w w':=by
  have HS:=Lib.hid (fun W=>dsize_any12 n W)
  have i0:Is (w.alloc (.cells #[.slice none 0 0,.int .i64 0,.int .i64 0] 31)) w.heap.size 31 #[.slice none 0 0,.int .i64 0,.int .i64 0]:=Is.new _ _ _
  have hB:Below w.heap.size w (w.alloc (.cells #[.slice none 0 0,.int .i64 0,.int .i64 0] 31)):=(Below.refl _ _).alloc (Nat.le_refl _) _
  cases hs:size12 n with
  | false =>
    rw [hs] at HS
    have hv:newV12 n=(⟨[],0,0⟩,1):=by rw [newV12,hs];rfl
    rw [hv]
    clear hs hv
    go_enter Tryz.func27,Tryz.ntmps27
    go_wp2_with (first | (go_at_call 52;refine (HS.out _).mono ?_;rintro e w0 ⟨rfl,rfl⟩) | (refine wpList_store_row rfl 31 _ _ rfl w.heap.size #[.slice none 0 0,.int .i64 0,.int .i64 0] rfl rfl 31 _ i0 infoSto12 rfl (by rw [← Array.all_toList];rfl) ?_))
    exact bodyPost_ret (results_row_tmp Tryz.results27 _ _ w.heap.size 31 _ (0,0) _ rfl (i0.row _) Tryz.underlying31 rfl infoSto12) rfl ⟨none,0,rfl,RowV.nil _ _ _ _,belowRow hB (Nat.le_refl _) _⟩
  | true =>
    rw [hs] at HS
    have hv:newV12 n=(⟨new12 n.toNat,0,0⟩,0):=by rw [newV12,hs];rfl
    rw [hv]
    have hn:=size_bd12 hs
    obtain ⟨k,rfl⟩:∃ k:Nat,n=(k:Int):=⟨n.toNat,by omega⟩
    rw [Int.toNat_natCast]
    obtain ⟨it,hi,hz0,hz1,hz2⟩:=infoThree10 infoBktz12
    have hmk:∀ W:World,(Instr.makeSlice 29 (.int .i64 (k:Int)) (.int .i64 (k:Int))).run Tryz.prog W=.ok (.slice (some ⟨W.heap.size,0,none⟩) k k) (W.alloc (.cells (madeCells #[.int .i64 0,.string ⟨#[]⟩,.string ⟨#[]⟩] (k * 3)) 70)):=fun W=>by
      have h1:=run_make (P:=Tryz.prog) W 29 70 it (.agg #[.int .i64 0,.string ⟨#[]⟩,.string ⟨#[]⟩]) Tryz.underlying29 hi hz0 .i64 .i64 (k:Int) (k:Int) (by omega) (by omega) (by rw [hz2];omega) (by omega)
      rw [hz1,Int.toNat_natCast] at h1
      exact h1
    have i1:=i0.alloc (.cells (madeCells #[.int .i64 0,.string ⟨#[]⟩,.string ⟨#[]⟩] (k * 3)) 70)
    have hB1:=hB.alloc (by simp) (.cells (madeCells #[.int .i64 0,.string ⟨#[]⟩,.string ⟨#[]⟩] (k * 3)) 70)
    have hR:RowB ((w.alloc (.cells #[.slice none 0 0,.int .i64 0,.int .i64 0] 31)).alloc (.cells (madeCells #[.int .i64 0,.string ⟨#[]⟩,.string ⟨#[]⟩] (k * 3)) 70)) w.heap.size (some ⟨w.heap.size + 1,0,none⟩) k (new12 k):=by
      have hg:=Is.new (w.alloc (.cells #[.slice none 0 0,.int .i64 0,.int .i64 0] 31)) 70 (madeCells #[.int .i64 0,.string ⟨#[]⟩,.string ⟨#[]⟩] (k * 3))
      rw [World.size_alloc] at hg
      refine RowB.of (by omega) hg (by rw [new_len12];exact Nat.le_refl _) (by unfold maxLen;omega) (size_madeCells _ _) ?_
      rw [made_new12,new_len12,List.take_of_length_le (by rw [flB_len,new_len12];exact Nat.le_refl _)]
    have hst:=stoA_one12 ⟨new12 k,0,0⟩ (some ⟨w.heap.size + 1,0,none⟩) k
    have hnl:=new_len12 k
    simp only [stoA,hnl] at hst
    have HM:=Lib.hid hmk
    clear hs hv hn hi hz0 hz1 hz2 hmk
    generalize madeCells #[.int .i64 0,.string ⟨#[]⟩,.string ⟨#[]⟩] (k * 3)=M at *
    have hmk:=HM.out
    go_enter Tryz.func27,Tryz.ntmps27
    go_wp2_with (first | (go_at_call 52;refine (HS.out _).mono ?_;rintro e w0 ⟨rfl,rfl⟩) | (refine wpList_store_row rfl 31 _ _ rfl w.heap.size #[.slice (some ⟨w.heap.size + 1,0,none⟩) k k,.int .i64 0,.int .i64 0] rfl rfl 31 _ i1 infoSto12 rfl hst ?_))
    exact bodyPost_ret (results_row_tmp Tryz.results27 _ _ w.heap.size 31 _ (0,0) _ rfl (i1.row _) Tryz.underlying31 rfl infoSto12) rfl ⟨some ⟨w.heap.size + 1,0,none⟩,k,by rw [stoV,stoA,hnl];rfl,hR.rowFar i1 (by decide) _,belowRow hB1 (Nat.le_refl _) _⟩
theorem dhm12_3 (W0:World) (l:ByteArray) (n:Int) (hl:4≤l.size) (hn:1≤n∧n≤9223372036854775807) (b0:bt7 l 0 < 256) (b1:bt7 l 1 < 256) (b2:bt7 l 2 < 256) (b3:bt7 l 3 < 256) (x2 x3 x4 x5 x6 x7 x8 x9 Xa Xb Xc Xd Xe Xf Xg Xh Xi Xj Xk Xl Xm Xn Xo Xp Xq Xr Xs Xt Xu Xv:Value) :
    (Code.region 3 (opsOf Tryz.f85 3) true).wp Tryz.prog (fun ex YY W=>ex=.normal∧YY.defers=[]∧∃ (_:Unit),YY.tmps=#[.string l,.int .i64 n,x2,x3,.int .i64 ((16777216 * (bt7 l 0:Int) + 65536 * (bt7 l 1:Int) + 256 * (bt7 l 2:Int) + (bt7 l 3:Int)) % n),x5,x6,x7,x8,x9,Xa,Xb,.string l,.int .u8 (bt7 l 0:Int),.int .i64 (bt7 l 0:Int),.int .i64 (16777216 * (bt7 l 0:Int)),.string l,.int .u8 (bt7 l 1:Int),.int .i64 (bt7 l 1:Int),.int .i64 (65536 * (bt7 l 1:Int)),.int .i64 (16777216 * (bt7 l 0:Int) + 65536 * (bt7 l 1:Int)),.string l,.int .u8 (bt7 l 2:Int),.int .i64 (bt7 l 2:Int),.int .i64 (256 * (bt7 l 2:Int)),.int .i64 (16777216 * (bt7 l 0:Int) + 65536 * (bt7 l 1:Int) + 256 * (bt7 l 2:Int)),.string l,.int .u8 (bt7 l 3:Int),.int .i64 (bt7 l 3:Int),.int .i64 (16777216 * (bt7 l 0:Int) + 65536 * (bt7 l 1:Int) + 256 * (bt7 l 2:Int) + (bt7 l 3:Int)),.int .i64 n,.int .i64 ((16777216 * (bt7 l 0:Int) + 65536 * (bt7 l 1:Int) + 256 * (bt7 l 2:Int) + (bt7 l 3:Int)) % n)]∧Below W0.heap.size W0 W) { tmps:=#[.string l,.int .i64 n,x2,x3,x4,x5,x6,x7,x8,x9,Xa,Xb,Xc,Xd,Xe,Xf,Xg,Xh,Xi,Xj,Xk,Xl,Xm,Xn,Xo,Xp,Xq,Xr,Xs,Xt,Xu,Xv],defers:=[] } W0:=by
  have hB:Below W0.heap.size W0 (W0.drewN 1):=belowN (Below.refl _ _) 1
  generalize hQ:(fun (ex:Exit) (YY:Act) (W:World)=>ex=.normal∧YY.defers=[]∧∃ (_:Unit),YY.tmps=#[.string l,.int .i64 n,x2,x3,.int .i64 ((16777216 * (bt7 l 0:Int) + 65536 * (bt7 l 1:Int) + 256 * (bt7 l 2:Int) + (bt7 l 3:Int)) % n),x5,x6,x7,x8,x9,Xa,Xb,.string l,.int .u8 (bt7 l 0:Int),.int .i64 (bt7 l 0:Int),.int .i64 (16777216 * (bt7 l 0:Int)),.string l,.int .u8 (bt7 l 1:Int),.int .i64 (bt7 l 1:Int),.int .i64 (65536 * (bt7 l 1:Int)),.int .i64 (16777216 * (bt7 l 0:Int) + 65536 * (bt7 l 1:Int)),.string l,.int .u8 (bt7 l 2:Int),.int .i64 (bt7 l 2:Int),.int .i64 (256 * (bt7 l 2:Int)),.int .i64 (16777216 * (bt7 l 0:Int) + 65536 * (bt7 l 1:Int) + 256 * (bt7 l 2:Int)),.string l,.int .u8 (bt7 l 3:Int),.int .i64 (bt7 l 3:Int),.int .i64 (16777216 * (bt7 l 0:Int) + 65536 * (bt7 l 1:Int) + 256 * (bt7 l 2:Int) + (bt7 l 3:Int)),.int .i64 n,.int .i64 ((16777216 * (bt7 l 0:Int) + 65536 * (bt7 l 1:Int) + 256 * (bt7 l 2:Int) + (bt7 l 3:Int)) % n)]∧Below W0.heap.size W0 W)=Q
  have HQN:∀ c a W,¬ Q (.panic c) a W:=fun c a W h=>by subst hQ;exact nomatch h.1
  have ST:∀ (W:World),Below W0.heap.size W0 W→wpAnyH Tryz.prog .any (opsOf Tryz.f85 3) Q (fun W=>Below W0.heap.size W0 W) 0 #[true,true,true,true,true,true,true,true,true,true,true,true,true,true,true,true,true,true,true,true,true] { tmps:=#[.string l,.int .i64 n,x2,x3,.int .i64 ((16777216 * (bt7 l 0:Int) + 65536 * (bt7 l 1:Int) + 256 * (bt7 l 2:Int) + (bt7 l 3:Int)) % n),x5,x6,x7,x8,x9,Xa,Xb,.string l,.int .u8 (bt7 l 0:Int),.int .i64 (bt7 l 0:Int),.int .i64 (16777216 * (bt7 l 0:Int)),.string l,.int .u8 (bt7 l 1:Int),.int .i64 (bt7 l 1:Int),.int .i64 (65536 * (bt7 l 1:Int)),.int .i64 (16777216 * (bt7 l 0:Int) + 65536 * (bt7 l 1:Int)),.string l,.int .u8 (bt7 l 2:Int),.int .i64 (bt7 l 2:Int),.int .i64 (256 * (bt7 l 2:Int)),.int .i64 (16777216 * (bt7 l 0:Int) + 65536 * (bt7 l 1:Int) + 256 * (bt7 l 2:Int)),.string l,.int .u8 (bt7 l 3:Int),.int .i64 (bt7 l 3:Int),.int .i64 (16777216 * (bt7 l 0:Int) + 65536 * (bt7 l 1:Int) + 256 * (bt7 l 2:Int) + (bt7 l 3:Int)),.int .i64 n,.int .i64 ((16777216 * (bt7 l 0:Int) + 65536 * (bt7 l 1:Int) + 256 * (bt7 l 2:Int) + (bt7 l 3:Int)) % n)],defers:=[] } W:=by
    intro W hB
    refine wpAnyH_done (by kernel_rfl) ?_ _
    subst hQ
    exact ⟨rfl,rfl,(),rfl,hB⟩
  refine wp_region_held_drew (S:=fun W=>Below W0.heap.size W0 W) (by kernel_rfl) hB (fun hS=>?_)
  change wpAnyH _ _ (opsOf Tryz.f85 3) _ _ 21 (Array.replicate 21 false) _ (W0.drewN 1)
  clear hS
  replace hB:Below W0.heap.size W0 (W0.drewN 1):=belowN (Below.refl _ _) 1
  refine wpP (i:=0) (v:=.string l) HQN rfl (fun w hSw=>by kernel_rfl) hB ?_
  simp only [Act.put,zz0,zz1,zz2]
  refine wpP (i:=1) (v:=.int .u8 (bt7 l 0:Int)) HQN rfl (fun w hSw=>by (have h:=bt7_get (s:=l) (j:=0) (by omega);have h2:(0:Nat) < l.size:=(by omega);have h3:¬ (l.size:Int)≤0:=(by omega);go_simp)) hB ?_
  simp only [Act.put,zz0,zz1,zz2]
  refine wpP (i:=2) (v:=.int .i64 (bt7 l 0:Int)) HQN rfl (fun w hSw=>by (have w1:=IntWalk.i64_in (bt7 l 0:Int) (by omega);go_simp)) hB ?_
  simp only [Act.put,zz0,zz1,zz2]
  refine wpP (i:=3) (v:=.int .i64 (16777216 * (bt7 l 0:Int))) HQN rfl (fun w hSw=>by (have w1:=IntWalk.i64_in (16777216 * (bt7 l 0:Int)) (by omega);go_simp)) hB ?_
  simp only [Act.put,zz0,zz1,zz2]
  refine wpP (i:=4) (v:=.string l) HQN rfl (fun w hSw=>by kernel_rfl) hB ?_
  simp only [Act.put,zz0,zz1,zz2]
  refine wpP (i:=5) (v:=.int .u8 (bt7 l 1:Int)) HQN rfl (fun w hSw=>by (have h:=bt7_get (s:=l) (j:=1) (by omega);have h2:(1:Nat) < l.size:=(by omega);have h3:¬ (l.size:Int)≤1:=(by omega);go_simp)) hB ?_
  simp only [Act.put,zz0,zz1,zz2]
  refine wpP (i:=6) (v:=.int .i64 (bt7 l 1:Int)) HQN rfl (fun w hSw=>by (have w1:=IntWalk.i64_in (bt7 l 1:Int) (by omega);go_simp)) hB ?_
  simp only [Act.put,zz0,zz1,zz2]
  refine wpP (i:=7) (v:=.int .i64 (65536 * (bt7 l 1:Int))) HQN rfl (fun w hSw=>by (have w1:=IntWalk.i64_in (65536 * (bt7 l 1:Int)) (by omega);go_simp)) hB ?_
  simp only [Act.put,zz0,zz1,zz2]
  refine wpP (i:=8) (v:=.int .i64 (16777216 * (bt7 l 0:Int) + 65536 * (bt7 l 1:Int))) HQN rfl (fun w hSw=>by (have w1:=IntWalk.i64_in (16777216 * (bt7 l 0:Int) + 65536 * (bt7 l 1:Int)) (by omega);go_simp)) hB ?_
  simp only [Act.put,zz0,zz1,zz2]
  refine wpP (i:=9) (v:=.string l) HQN rfl (fun w hSw=>by kernel_rfl) hB ?_
  simp only [Act.put,zz0,zz1,zz2]
  refine wpP (i:=10) (v:=.int .u8 (bt7 l 2:Int)) HQN rfl (fun w hSw=>by (have h:=bt7_get (s:=l) (j:=2) (by omega);have h2:(2:Nat) < l.size:=(by omega);have h3:¬ (l.size:Int)≤2:=(by omega);go_simp)) hB ?_
  simp only [Act.put,zz0,zz1,zz2]
  refine wpP (i:=11) (v:=.int .i64 (bt7 l 2:Int)) HQN rfl (fun w hSw=>by (have w1:=IntWalk.i64_in (bt7 l 2:Int) (by omega);go_simp)) hB ?_
  simp only [Act.put,zz0,zz1,zz2]
  refine wpP (i:=12) (v:=.int .i64 (256 * (bt7 l 2:Int))) HQN rfl (fun w hSw=>by (have w1:=IntWalk.i64_in (256 * (bt7 l 2:Int)) (by omega);go_simp)) hB ?_
  simp only [Act.put,zz0,zz1,zz2]
  refine wpP (i:=13) (v:=.int .i64 (16777216 * (bt7 l 0:Int) + 65536 * (bt7 l 1:Int) + 256 * (bt7 l 2:Int))) HQN rfl (fun w hSw=>by (have w1:=IntWalk.i64_in (16777216 * (bt7 l 0:Int) + 65536 * (bt7 l 1:Int) + 256 * (bt7 l 2:Int)) (by omega);go_simp)) hB ?_
  simp only [Act.put,zz0,zz1,zz2]
  refine wpP (i:=14) (v:=.string l) HQN rfl (fun w hSw=>by kernel_rfl) hB ?_
  simp only [Act.put,zz0,zz1,zz2]
  refine wpP (i:=15) (v:=.int .u8 (bt7 l 3:Int)) HQN rfl (fun w hSw=>by (have h:=bt7_get (s:=l) (j:=3) (by omega);have h2:(3:Nat) < l.size:=(by omega);have h3:¬ (l.size:Int)≤3:=(by omega);go_simp)) hB ?_
  simp only [Act.put,zz0,zz1,zz2]
  refine wpP (i:=16) (v:=.int .i64 (bt7 l 3:Int)) HQN rfl (fun w hSw=>by (have w1:=IntWalk.i64_in (bt7 l 3:Int) (by omega);go_simp)) hB ?_
  simp only [Act.put,zz0,zz1,zz2]
  refine wpP (i:=17) (v:=.int .i64 (16777216 * (bt7 l 0:Int) + 65536 * (bt7 l 1:Int) + 256 * (bt7 l 2:Int) + (bt7 l 3:Int))) HQN rfl (fun w hSw=>by (have w1:=IntWalk.i64_in (16777216 * (bt7 l 0:Int) + 65536 * (bt7 l 1:Int) + 256 * (bt7 l 2:Int) + (bt7 l 3:Int)) (by omega);go_simp)) hB ?_
  simp only [Act.put,zz0,zz1,zz2]
  refine wpP (i:=18) (v:=.int .i64 n) HQN rfl (fun w hSw=>by kernel_rfl) hB ?_
  simp only [Act.put,zz0,zz1,zz2]
  refine wpP (i:=19) (v:=.int .i64 ((16777216 * (bt7 l 0:Int) + 65536 * (bt7 l 1:Int) + 256 * (bt7 l 2:Int) + (bt7 l 3:Int)) % n)) HQN rfl (fun w hSw=>by (have w1:=IntWalk.rem_in (16777216 * (bt7 l 0:Int) + 65536 * (bt7 l 1:Int) + 256 * (bt7 l 2:Int) + (bt7 l 3:Int)) n (by omega);have h0:¬ n=0:=(by omega);have e1:(16777216 * (bt7 l 0:Int) + 65536 * (bt7 l 1:Int) + 256 * (bt7 l 2:Int) + (bt7 l 3:Int)) % n < n:=Int.emod_lt_of_pos _ (by omega);have e2:0≤(16777216 * (bt7 l 0:Int) + 65536 * (bt7 l 1:Int) + 256 * (bt7 l 2:Int) + (bt7 l 3:Int)) % n:=Int.emod_nonneg _ (by omega);have w2:=IntWalk.i64_in ((16777216 * (bt7 l 0:Int) + 65536 * (bt7 l 1:Int) + 256 * (bt7 l 2:Int) + (bt7 l 3:Int)) % n) (by omega);go_simp)) hB ?_
  simp only [Act.put,zz0,zz1,zz2]
  refine wpP (i:=20) (v:=.int .i64 ((16777216 * (bt7 l 0:Int) + 65536 * (bt7 l 1:Int) + 256 * (bt7 l 2:Int) + (bt7 l 3:Int)) % n)) HQN rfl (fun w hSw=>by kernel_rfl) hB ?_
  simp only [Act.put,zz0,zz1,zz2]
  exact ST _ hB
theorem dhome_any12 (l:ByteArray) (n:Int) (w:World) (hn:-9223372036854775808≤n∧n≤9223372036854775807) :
    Calls Tryz.prog 85 #[.string l,.int .i64 n] w fun e w'=>e=.returned (.int .i64 (homV12 l n))∧Below w.heap.size w w':=by
  by_cases h4:l.size < 4
  · have h1:(l.size:Int) < 4:=by omega
    rw [homV12,if_pos (.inl h4)]
    clear h4
    go_enter Tryz.func85,Tryz.ntmps85
    go_wp2
    go_ret
    exact ⟨rfl,Below.refl _ _⟩
  · have h1:¬ (l.size:Int) < 4:=by omega
    by_cases h2:n < 1
    · rw [homV12,if_pos (.inr h2)]
      clear h4
      go_enter Tryz.func85,Tryz.ntmps85
      go_wp2
      go_ret
      exact ⟨rfl,Below.refl _ _⟩
    · rw [homV12,if_neg (by omega),rd10]
      have c4:4≤l.size:=by omega
      clear h4
      have b0:=bt7_lt l 0
      have b1:=bt7_lt l 1
      have b2:=bt7_lt l 2
      have b3:=bt7_lt l 3
      go_enter Tryz.func85,Tryz.ntmps85
      go_upto_region 3 with (fail)
      refine Code.wp_mono ?_ (dhm12_3 w l n c4 (by omega) b0 b1 b2 b3 _ _ _ _ _ _ _ _ _ _ _ _ _ _ _ _ _ _ _ _ _ _ _ _ _ _ _ _ _ _)
      rintro ex ⟨T,D⟩ W5 ⟨rfl,hDf,_,hT,hb⟩
      simp only at hT hDf
      subst hT
      subst hDf
      clear b0 b1 b2 b3 c4 h1 h2
      go_wp2
      go_ret
      exact ⟨by go_num,hb⟩
end Go.Proofs.YtmggbbmpckcleaaGreat
namespace Go.Proofs.YtmggbbmpckcleaaGreat
open Go.RowKit Go.Shelf
end Go.Proofs.YtmggbbmpckcleaaGreat
namespace Go.Proofs.YtmggbbmpckcleaaGreat
open Go.RowKit Go.Shelf
def plz12:Option Nat→Int
  | some k=>(k:Int)
  | none=>-1
def FreB12 (B:List Bkt12) (l:ByteArray) (i:Nat) (fr:Int):Prop :=
  (fr=-1∧∀ j,j < i→open12 l (at12 B (way12 (hom12 l B.length) B.length j))=false) ∨
   ∃ j0,j0 < i∧fr=(way12 (hom12 l B.length) B.length j0:Int)∧open12 l (at12 B (way12 (hom12 l B.length) B.length j0))=true∧∀ j,j < j0→open12 l (at12 B (way12 (hom12 l B.length) B.length j))=false
theorem FreB12.keep {B:List Bkt12} {l:ByteArray} {i:Nat} {fr:Int} (h:FreB12 B l i fr) (ho:open12 l (at12 B (way12 (hom12 l B.length) B.length i))=false∨0≤fr):FreB12 B l (i + 1) fr:=by
  rcases h with ⟨rfl,h2⟩ | ⟨j0,a,rfl,c,d⟩
  · refine .inl ⟨rfl,fun j hj=>?_⟩
    by_cases e:j=i
    · rcases ho with ho | ho
      · rw [e];exact ho
      · exact absurd ho (by decide)
    · exact h2 j (by omega)
  · exact .inr ⟨j0,by omega,rfl,c,d⟩
theorem FreB12.found {B:List Bkt12} {l:ByteArray} {i:Nat} {fr:Int} (h:FreB12 B l i fr) (ho:open12 l (at12 B (way12 (hom12 l B.length) B.length i))=true) (hf:fr < 0):FreB12 B l (i + 1) (way12 (hom12 l B.length) B.length i:Int):=by
  rcases h with ⟨rfl,h2⟩ | ⟨j0,a,rfl,c,d⟩
  · exact .inr ⟨i,by omega,rfl,ho,h2⟩
  · omega
theorem FreB12.bd {B:List Bkt12} {l:ByteArray} {i:Nat} {fr:Int} (h:FreB12 B l i fr) (h0:0 < B.length):-1≤fr∧fr < B.length:=by
  rcases h with ⟨rfl,_⟩ | ⟨j0,a,rfl,c,d⟩
  · omega
  · have:=way_lt12 (hom12 l B.length) j0 h0
    omega
theorem fre_none12 {B:List Bkt12} {l:ByteArray} {i:Nat} {fr:Int} (hi:i≤B.length)
    (hh:∀ j,j < i→hit12 l (at12 B (way12 (hom12 l B.length) B.length j))=false)
    (hf:FreB12 B l i fr)
    (hl:i=B.length∨∃ i0,i=i0 + 1∧(at12 B (way12 (hom12 l B.length) B.length i0)).st=0∧∀ j,j < i0→end12 l (at12 B (way12 (hom12 l B.length) B.length j))=false) :
    plc12 B l=none∧fr=plz12 (gap12 B l):=by
  have hp:plc12 B l=none:=by
    cases hq:plc12 B l with
    | none=>rfl
    | some k =>
      obtain ⟨d,hd,hdk,hk,hb⟩:=plc_iff12.1 hq
      exfalso
      rcases hl with rfl | ⟨i0,rfl,h0,_⟩
      · have:=hh d hd
        rw [hdk,hk] at this
        cases this
      · by_cases hdi:d < i0 + 1
        · have:=hh d hdi
          rw [hdk,hk] at this
          cases this
        · have:=hb i0 (by omega)
          rw [end12,decide_eq_true h0,Bool.or_true] at this
          cases this
  refine ⟨hp,?_⟩
  rcases hf with ⟨rfl,hno⟩ | ⟨j0,hj,rfl,ho,hb⟩
  · rcases hl with rfl | ⟨i0,rfl,h0,_⟩
    · cases hg:gap12 B l with
      | none=>rfl
      | some k =>
        exfalso
        obtain ⟨d,hd,hdk,hk,_⟩:=gap_iff12.1 hg
        have:=hno d hd
        rw [hdk,open12,decide_eq_true hk,Bool.or_true] at this
        cases this
    · exfalso
      have:=hno i0 (by omega)
      rw [open12,h0] at this
      simp at this
  · have hn:=hh j0 hj
    rw [open12,hn,Bool.false_or,decide_eq_true_eq] at ho
    rw [show gap12 B l=some (way12 (hom12 l B.length) B.length j0) from gap_iff12.2 ⟨j0,by omega,rfl,ho,hb⟩]
    rfl
theorem dfind_any12 (s:Sto12) (A:Option Addr) (c:Nat) (l:ByteArray) (w:World) (h:InS w s A c) (hf:s.B.length≤4096) :
    Calls Tryz.prog 58 #[stoV s A c,.string l] w fun e w'=>∃ fr:Int,e=.returned (.tuple #[.int .i64 (plz12 (plc12 s.B l)),.int .i64 fr])∧(plc12 s.B l=none→fr=plz12 (gap12 s.B l))∧Below w.heap.size w w':=by
  have HI:=Lib.hid h
  have HF:=Lib.hid hf
  obtain ⟨W1,hW1⟩:∃ W1,W1=w.alloc (.cells (stoA s A c) 31):=⟨_,rfl⟩
  have i1:Is W1 w.heap.size 31 (stoA s A c):=by rw [hW1];exact Is.new _ _ _
  have hB1:Below w.heap.size w W1:=by rw [hW1];exact (Below.refl _ _).alloc (Nat.le_refl _) _
  have c0:W1.cell? ⟨w.heap.size,0,none⟩=some (.slice A s.B.length c):=i1.cell 0
  clear h hf
  go_enter Tryz.func58,Tryz.ntmps58
  go_upto_region 1 with (fail)
  rw [← hW1]
  clear hW1
  go_wp2
  clear c0
  go_loopw [7,8] (fun f i wr=>∃ (k:Nat) (fr:Int),k≤s.B.length∧i=.int .i64 (k:Int)∧f=.int .i64 fr∧(∀ j,j < k→end12 l (at12 s.B (way12 (hom12 l s.B.length) s.B.length j))=false)∧FreB12 s.B l k fr∧Is wr w.heap.size 31 (stoA s A c)∧Below w.heap.size w wr) (fun _ i _=>s.B.length - (intOf i).toNat)
  case atStart=>exact ⟨0,-1,by omega,rfl,rfl,fun j hj=>absurd hj (Nat.not_lt_zero _),.inl ⟨rfl,fun j hj=>absurd hj (Nat.not_lt_zero _)⟩,i1,hB1⟩
  case round =>
    clear i1 hB1
    obtain ⟨k,fr,hk,rfl,rfl,hend,hfre,i1,hB⟩:=hrel
    have HEN:=Lib.hid hend
    have HFR:=Lib.hid hfre
    clear hend
    have c0:wr.cell? ⟨w.heap.size,0,none⟩=some (.slice A s.B.length c):=i1.cell 0
    have hD:=i1.lt
    have hf4:=HF.out
    by_cases hlt:k < s.B.length
    · have hfb:=hfre.bd (by omega)
      clear hfre
      have q1:(k:Int) < (s.B.length:Int):=by omega
      have w1i:=IntWalk.i64_in ((k:Int) + 1) (by omega)
      have HH:=Lib.hid (fun W:World=>by
        have:=dhome_any12 l (s.B.length:Int) W (by omega)
        rwa [homV_nat12 l (by omega)] at this)
      have hgl:=way_lt12 (hom12 l s.B.length) k (n:=s.B.length) (by omega)
      have hhl:=hom_lt12 l (n:=s.B.length) (by omega)
      obtain ⟨x,hx⟩:∃ x,s.B[way12 (hom12 l s.B.length) s.B.length k]?=some x:=⟨_,List.getElem?_eq_getElem hgl⟩
      have hxa:at12 s.B (way12 (hom12 l s.B.length) s.B.length k)=x:=by rw [at_get12 hgl];exact Option.some.inj ((List.getElem?_eq_getElem hgl).symm.trans hx)
      obtain ⟨b,off,rfl,hbl,hr⟩:=(HI.out.keep hB).b.bkt hx
      have r1:((hom12 l s.B.length:Int) + (k:Int)).tmod (s.B.length:Int)=(way12 (hom12 l s.B.length) s.B.length k:Int):=by rw [IntWalk.rem_in _ _ (by omega),way12,Int.natCast_emod,Int.natCast_add]
      have w2i:=IntWalk.i64_in ((hom12 l s.B.length:Int) + (k:Int)) (by omega)
      obtain ⟨st,xl,xc⟩:=x
      have HPH:Hid (st=1→xl=l→plc12 s.B l=some (way12 (hom12 l s.B.length) s.B.length k)):=Lib.hid (fun e1 e2=>plc_iff12.2 ⟨k,hlt,rfl,by rw [hxa,e1,e2];exact hit_iff12.2 ⟨rfl,rfl⟩,HEN.out⟩)
      have HEC:Hid (end12 l ⟨st,xl,xc⟩=false→∀ j,j < k + 1→end12 l (at12 s.B (way12 (hom12 l s.B.length) s.B.length j))=false):=Lib.hid (fun h j hj=>by
        by_cases e:j=k
        · rw [e,hxa];exact h
        · exact HEN.out j (by omega))
      have HFK:Hid (open12 l ⟨st,xl,xc⟩=false∨0≤fr→FreB12 s.B l (k + 1) fr):=Lib.hid (fun h=>HFR.out.keep (by rw [hxa];exact h))
      have HFF:Hid (open12 l ⟨st,xl,xc⟩=true→fr < 0→FreB12 s.B l (k + 1) (way12 (hom12 l s.B.length) s.B.length k:Int)):=Lib.hid (fun h=>HFR.out.found (by rw [hxa];exact h))
      have HNO:Hid (∀ fr',FreB12 s.B l (k + 1) fr'→st=0→plc12 s.B l=none∧fr'=plz12 (gap12 s.B l)):=Lib.hid (fun fr' h h0=>fre_none12 (by omega) (fun j hj=>by
        by_cases e:j=k
        · rw [e,hxa,h0];rfl
        · have:=HEN.out j (by omega)
          rw [end12,Bool.or_eq_false_iff] at this
          exact this.1) h (.inr ⟨k,rfl,by rw [hxa];exact h0,HEN.out⟩))
      clear hx hxa HEN HFR
      generalize hgz:way12 (hom12 l s.B.length) s.B.length k=g at r1 hr hgl HPH HFF
      have gl2:(g:Int) < (s.B.length:Int):=by omega
      have n0:¬ (s.B.length:Int)=0:=by omega
      clear hgz hhl
      go_upto_region 8 with (first | (go_at_call 85;refine (HH.out _).mono ?_;rintro e wq ⟨rfl,hbq⟩;have hr:=rangeB12 hbq hbl hr;have c0:=cell_below12 hbq c0 hD;have hB:=hB.trans (hbq.mono hB.size);have i1:=i1.below hbq i1.lt;clear hbq) | (refine wpList_load_mid rfl 70 _ rfl b (off + g * 3) rfl _ _ hr Tryz.underlying70 rfl infoBkt12 ?_))
      have iX:=Is.new wq 70 (bktA ⟨st,xl,xc⟩)
      have x0:(wq.alloc (.cells (bktA ⟨st,xl,xc⟩) 70)).cell? ⟨wq.heap.size,0,none⟩=some (.int .i64 st):=iX.cell 0
      have x1:(wq.alloc (.cells (bktA ⟨st,xl,xc⟩) 70)).cell? ⟨wq.heap.size,1,none⟩=some (.string xl):=iX.cell 1
      have hB2:=hB.alloc hB.size (.cells (bktA ⟨st,xl,xc⟩) 70)
      have i2:=i1.alloc (.cells (bktA ⟨st,xl,xc⟩) 70)
      clear iX hB i1 c0 hr r1 w2i HH
      by_cases h1:st=1
      · by_cases hl:xl=l
        · have HP:=Lib.hid (HPH.out h1 hl)
          subst h1
          subst hl
          go_wp2
          exact bodyPost_ret (results_tmp2 Tryz.results58 _ _ _) rfl ⟨fr,by rw [HP.out];rfl,fun h=>(by rw [HP.out] at h;cases h),hB2⟩
        · have HE:=Lib.hid (HEC.out (by rw [end12,hit12,h1,decide_eq_false hl];rfl))
          have HF2:=Lib.hid (HFK.out (.inl (by rw [open12,hit12,h1,decide_eq_false hl];rfl)))
          have hl2:(xl.toList == l.toList)=false:=beq_false_of_ne fun e=>hl (toList_inj12.1 e)
          subst h1
          go_wp2
          go_roundw
          case rel=>exact ⟨k + 1,fr,by omega,by go_num,rfl,HE.out,HF2.out,i2,hB2⟩
          case measure=>simp [intOf];omega
      · by_cases hfr:fr < 0
        · have h0:st=0∨¬ st=0:=by omega
          rcases h0 with h0 | h0
          · have HN:=Lib.hid (HNO.out _ (HFF.out (by rw [open12,decide_eq_true h1,Bool.or_true]) hfr) h0)
            subst h0
            go_wp2
            exact bodyPost_ret (results_tmp2 Tryz.results58 _ _ _) rfl ⟨(g:Int),by rw [HN.out.1];rfl,fun _=>HN.out.2,hB2⟩
          · have HE:=Lib.hid (HEC.out (by rw [end12,hit12,decide_eq_false h1,decide_eq_false h0];rfl))
            have HF2:=Lib.hid (HFF.out (by rw [open12,decide_eq_true h1,Bool.or_true]) hfr)
            go_wp2
            go_roundw
            case rel=>exact ⟨k + 1,_,by omega,by go_num,rfl,HE.out,HF2.out,i2,hB2⟩
            case measure=>simp [intOf];omega
        · have hfr2:0≤fr:=by omega
          have h0:st=0∨¬ st=0:=by omega
          rcases h0 with h0 | h0
          · have HN:=Lib.hid (HNO.out _ (HFK.out (.inr hfr2)) h0)
            subst h0
            go_wp2
            exact bodyPost_ret (results_tmp2 Tryz.results58 _ _ _) rfl ⟨fr,by rw [HN.out.1];rfl,fun _=>HN.out.2,hB2⟩
          · have HE:=Lib.hid (HEC.out (by rw [end12,hit12,decide_eq_false h1,decide_eq_false h0];rfl))
            have HF2:=Lib.hid (HFK.out (.inr hfr2))
            go_wp2
            go_roundw
            case rel=>exact ⟨k + 1,_,by omega,by go_num,rfl,HE.out,HF2.out,i2,hB2⟩
            case measure=>simp [intOf];omega
    · have hkn:k=s.B.length:=by omega
      have q1:¬ (k:Int) < (s.B.length:Int):=by omega
      have HN:=Lib.hid (fre_none12 hk (fun j hj=>by have:=HEN.out j hj;rw [end12,Bool.or_eq_false_iff] at this;exact this.1) HFR.out (.inl hkn))
      clear hkn hfre
      go_wp2
      exact bodyPost_ret (results_tmp2 Tryz.results58 _ _ _) rfl ⟨fr,by rw [HN.out.1];rfl,fun _=>HN.out.2,hB⟩
end Go.Proofs.YtmggbbmpckcleaaGreat
namespace Go.Proofs.YtmggbbmpckcleaaGreat
open Go.RowKit Go.Shelf
theorem ne_isEmptyD12 {x:ByteArray} (h:¬ x=⟨#[]⟩):x.toList.isEmpty=false:=by
  rw [ByteArray.toList_eq]
  obtain ⟨⟨l⟩⟩:=x
  cases l with
  | nil=>exact absurd rfl h
  | cons a r=>rfl
theorem drt12_a (W0:World) (D1 D2 b off n c k:Nat) (v1 v2:Value) (st:Int) (h1:¬ st=1) (xl xc:ByteArray) (i1:Is W0 D1 31 #[.slice (some ⟨b,off,none⟩) n c,v1,v2]) (i2:Is W0 D2 70 #[.int .i64 st,.string xl,.string xc]) (x0 x2 x3 x4 x5 x7 x8 Xa Xb Xc Xd Xe Xf Xg Xh Xi Xj Xk Xl Xm Xn Xo Xp Xq Xr Xs Xt Xu Xv Xw Xx Xy Xz Ya Yb Yc Yd Ye Yf Yg Yh Yi Yj Yk Yl Ym Yn Yo Yp Yq Yr Ys Yt Yu Yv Yw Yx Yy Yz Za Zb Zc Zd Ze Zf Zg Zh Zi Zj Zk Zl Zm Zn Zo Zp Zq Zr Zs Zt Zu Zv Zw Zx Zy Zz Ua Ub Uc Ud Ue Uf Ug Uh Ui Uj Uk Ul Um Un Uo Up Uq Ur Us Ut Uu Uv Uw Ux Uy Uz Va Vb Vc Vd Ve Vf:Value) :
    (Code.region 25 (opsOf Tryz.f30 25) true).wp Tryz.prog (fun ex YY W=>ex=.normal∧YY.defers=[]∧∃ (_:Unit),YY.tmps=#[x0,.pointer (some ⟨D1,0,none⟩),x2,x3,x4,x5,.pointer (some ⟨D2,0,none⟩),x7,x8,.int .i64 (k:Int),Xa,Xb,Xc,Xd,Xe,Xf,Xg,Xh,Xi,Xj,Xk,Xl,Xm,Xn,Xo,Xp,Xq,Xr,Xs,Xt,Xu,Xv,Xw,Xx,Xy,Xz,Ya,Yb,Yc,Yd,Ye,Yf,Yg,Yh,Yi,Yj,Yk,Yl,Ym,Yn,Yo,Yp,Yq,Yr,Ys,Yt,Yu,Yv,Yw,Yx,Yy,Yz,Za,Zb,Zc,Zd,Ze,Zf,Zg,Zh,Zi,Zj,Zk,Zl,Zm,Zn,.pointer (some ⟨D2,0,none⟩),.int .i64 st,.bool false,.bool false,undef,undef,undef,undef,undef,undef,undef,.bool false,.bool false,undef,undef,undef,undef,undef,undef,undef,undef,undef,.bool false,Ul,Um,Un,Uo,Up,Uq,Ur,Us,Ut,Uu,Uv,Uw,Ux,Uy,Uz,Va,Vb,Vc,Vd,Ve,Vf]∧Below W0.heap.size W0 W) { tmps:=#[x0,.pointer (some ⟨D1,0,none⟩),x2,x3,x4,x5,.pointer (some ⟨D2,0,none⟩),x7,x8,.int .i64 (k:Int),Xa,Xb,Xc,Xd,Xe,Xf,Xg,Xh,Xi,Xj,Xk,Xl,Xm,Xn,Xo,Xp,Xq,Xr,Xs,Xt,Xu,Xv,Xw,Xx,Xy,Xz,Ya,Yb,Yc,Yd,Ye,Yf,Yg,Yh,Yi,Yj,Yk,Yl,Ym,Yn,Yo,Yp,Yq,Yr,Ys,Yt,Yu,Yv,Yw,Yx,Yy,Yz,Za,Zb,Zc,Zd,Ze,Zf,Zg,Zh,Zi,Zj,Zk,Zl,Zm,Zn,Zo,Zp,Zq,Zr,Zs,Zt,Zu,Zv,Zw,Zx,Zy,Zz,Ua,Ub,Uc,Ud,Ue,Uf,Ug,Uh,Ui,Uj,Uk,Ul,Um,Un,Uo,Up,Uq,Ur,Us,Ut,Uu,Uv,Uw,Ux,Uy,Uz,Va,Vb,Vc,Vd,Ve,Vf],defers:=[] } W0:=by
  have hB:Below W0.heap.size W0 (W0.drewN 1):=belowN (Below.refl _ _) 1
  generalize hQ:(fun (ex:Exit) (YY:Act) (W:World)=>ex=.normal∧YY.defers=[]∧∃ (_:Unit),YY.tmps=#[x0,.pointer (some ⟨D1,0,none⟩),x2,x3,x4,x5,.pointer (some ⟨D2,0,none⟩),x7,x8,.int .i64 (k:Int),Xa,Xb,Xc,Xd,Xe,Xf,Xg,Xh,Xi,Xj,Xk,Xl,Xm,Xn,Xo,Xp,Xq,Xr,Xs,Xt,Xu,Xv,Xw,Xx,Xy,Xz,Ya,Yb,Yc,Yd,Ye,Yf,Yg,Yh,Yi,Yj,Yk,Yl,Ym,Yn,Yo,Yp,Yq,Yr,Ys,Yt,Yu,Yv,Yw,Yx,Yy,Yz,Za,Zb,Zc,Zd,Ze,Zf,Zg,Zh,Zi,Zj,Zk,Zl,Zm,Zn,.pointer (some ⟨D2,0,none⟩),.int .i64 st,.bool false,.bool false,undef,undef,undef,undef,undef,undef,undef,.bool false,.bool false,undef,undef,undef,undef,undef,undef,undef,undef,undef,.bool false,Ul,Um,Un,Uo,Up,Uq,Ur,Us,Ut,Uu,Uv,Uw,Ux,Uy,Uz,Va,Vb,Vc,Vd,Ve,Vf]∧Below W0.heap.size W0 W)=Q
  have HQN:∀ c a W,¬ Q (.panic c) a W:=fun c a W h=>by subst hQ;exact nomatch h.1
  have ST:∀ (W:World),Below W0.heap.size W0 W→wpAnyH Tryz.prog .any (opsOf Tryz.f30 25) Q (fun W=>Below W0.heap.size W0 W) 0 #[true,true,true,true,true,true,true,true,true,true,true,true,true,true,true,true,true,true,true,true,true,true,true] { tmps:=#[x0,.pointer (some ⟨D1,0,none⟩),x2,x3,x4,x5,.pointer (some ⟨D2,0,none⟩),x7,x8,.int .i64 (k:Int),Xa,Xb,Xc,Xd,Xe,Xf,Xg,Xh,Xi,Xj,Xk,Xl,Xm,Xn,Xo,Xp,Xq,Xr,Xs,Xt,Xu,Xv,Xw,Xx,Xy,Xz,Ya,Yb,Yc,Yd,Ye,Yf,Yg,Yh,Yi,Yj,Yk,Yl,Ym,Yn,Yo,Yp,Yq,Yr,Ys,Yt,Yu,Yv,Yw,Yx,Yy,Yz,Za,Zb,Zc,Zd,Ze,Zf,Zg,Zh,Zi,Zj,Zk,Zl,Zm,Zn,.pointer (some ⟨D2,0,none⟩),.int .i64 st,.bool false,.bool false,undef,undef,undef,undef,undef,undef,undef,.bool false,.bool false,undef,undef,undef,undef,undef,undef,undef,undef,undef,.bool false,Ul,Um,Un,Uo,Up,Uq,Ur,Us,Ut,Uu,Uv,Uw,Ux,Uy,Uz,Va,Vb,Vc,Vd,Ve,Vf],defers:=[] } W:=by
    intro W hB
    refine wpAnyH_done (by kernel_rfl) ?_ _
    subst hQ
    exact ⟨rfl,rfl,(),rfl,hB⟩
  refine wp_region_held_drew (S:=fun W=>Below W0.heap.size W0 W) (by kernel_rfl) hB (fun hS=>?_)
  change wpAnyH _ _ (opsOf Tryz.f30 25) _ _ 23 (Array.replicate 23 false) _ (W0.drewN 1)
  clear hS
  replace hB:Below W0.heap.size W0 (W0.drewN 1):=belowN (Below.refl _ _) 1
  refine wpP (i:=0) (v:=.pointer (some ⟨D2,0,none⟩)) HQN rfl (fun w hSw=>by go_simp) hB ?_
  simp only [Act.put,zz0,zz1,zz2]
  refine wpP (i:=1) (v:=.int .i64 st) HQN rfl (fun w hSw=>by (have hc:=(i2.below hSw i2.lt).cell 0;go_simp)) hB ?_
  simp only [Act.put,zz0,zz1,zz2]
  refine wpP (i:=2) (v:=.bool false) HQN rfl (fun w hSw=>by (have h:=h1;go_simp)) hB ?_
  simp only [Act.put,zz0,zz1,zz2]
  refine wpP (i:=3) (v:=.bool false) HQN rfl (fun w hSw=>by kernel_rfl) hB ?_
  simp only [Act.put,zz0,zz1,zz2]
  refine wpAnyH_take (i:=4) (v:=undef) (at_nth rfl) (by kernel_rfl) (by kernel_rfl) (by kernel_rfl) (fun _ _ _ h=>absurd h (HQN _ _ _)) (Or.inr ⟨by kernel_rfl,rfl⟩) hB ?_
  simp only [Act.put,zz0,zz1,zz2]
  refine wpAnyH_take (i:=5) (v:=undef) (at_nth rfl) (by kernel_rfl) (by kernel_rfl) (by kernel_rfl) (fun _ _ _ h=>absurd h (HQN _ _ _)) (Or.inr ⟨by kernel_rfl,rfl⟩) hB ?_
  simp only [Act.put,zz0,zz1,zz2]
  refine wpAnyH_take (i:=6) (v:=undef) (at_nth rfl) (by kernel_rfl) (by kernel_rfl) (by kernel_rfl) (fun _ _ _ h=>absurd h (HQN _ _ _)) (Or.inr ⟨by kernel_rfl,rfl⟩) hB ?_
  simp only [Act.put,zz0,zz1,zz2]
  refine wpAnyH_take (i:=7) (v:=undef) (at_nth rfl) (by kernel_rfl) (by kernel_rfl) (by kernel_rfl) (fun _ _ _ h=>absurd h (HQN _ _ _)) (Or.inr ⟨by kernel_rfl,rfl⟩) hB ?_
  simp only [Act.put,zz0,zz1,zz2]
  refine wpAnyH_take (i:=8) (v:=undef) (at_nth rfl) (by kernel_rfl) (by kernel_rfl) (by kernel_rfl) (fun _ _ _ h=>absurd h (HQN _ _ _)) (Or.inr ⟨by kernel_rfl,rfl⟩) hB ?_
  simp only [Act.put,zz0,zz1,zz2]
  refine wpAnyH_take (i:=9) (v:=undef) (at_nth rfl) (by kernel_rfl) (by kernel_rfl) (by kernel_rfl) (fun _ _ _ h=>absurd h (HQN _ _ _)) (Or.inr ⟨by kernel_rfl,rfl⟩) hB ?_
  simp only [Act.put,zz0,zz1,zz2]
  refine wpAnyH_take (i:=10) (v:=undef) (at_nth rfl) (by kernel_rfl) (by kernel_rfl) (by kernel_rfl) (fun _ _ _ h=>absurd h (HQN _ _ _)) (Or.inr ⟨by kernel_rfl,rfl⟩) hB ?_
  simp only [Act.put,zz0,zz1,zz2]
  refine wpP (i:=11) (v:=.bool false) HQN rfl (fun w hSw=>by go_simp) hB ?_
  simp only [Act.put,zz0,zz1,zz2]
  refine wpP (i:=12) (v:=.bool false) HQN rfl (fun w hSw=>by kernel_rfl) hB ?_
  simp only [Act.put,zz0,zz1,zz2]
  refine wpAnyH_take (i:=13) (v:=undef) (at_nth rfl) (by kernel_rfl) (by kernel_rfl) (by kernel_rfl) (fun _ _ _ h=>absurd h (HQN _ _ _)) (Or.inr ⟨by kernel_rfl,rfl⟩) hB ?_
  simp only [Act.put,zz0,zz1,zz2]
  refine wpAnyH_take (i:=14) (v:=undef) (at_nth rfl) (by kernel_rfl) (by kernel_rfl) (by kernel_rfl) (fun _ _ _ h=>absurd h (HQN _ _ _)) (Or.inr ⟨by kernel_rfl,rfl⟩) hB ?_
  simp only [Act.put,zz0,zz1,zz2]
  refine wpAnyH_take (i:=15) (v:=undef) (at_nth rfl) (by kernel_rfl) (by kernel_rfl) (by kernel_rfl) (fun _ _ _ h=>absurd h (HQN _ _ _)) (Or.inr ⟨by kernel_rfl,rfl⟩) hB ?_
  simp only [Act.put,zz0,zz1,zz2]
  refine wpAnyH_take (i:=16) (v:=undef) (at_nth rfl) (by kernel_rfl) (by kernel_rfl) (by kernel_rfl) (fun _ _ _ h=>absurd h (HQN _ _ _)) (Or.inr ⟨by kernel_rfl,rfl⟩) hB ?_
  simp only [Act.put,zz0,zz1,zz2]
  refine wpAnyH_take (i:=17) (v:=undef) (at_nth rfl) (by kernel_rfl) (by kernel_rfl) (by kernel_rfl) (fun _ _ _ h=>absurd h (HQN _ _ _)) (Or.inr ⟨by kernel_rfl,rfl⟩) hB ?_
  simp only [Act.put,zz0,zz1,zz2]
  refine wpAnyH_take (i:=18) (v:=undef) (at_nth rfl) (by kernel_rfl) (by kernel_rfl) (by kernel_rfl) (fun _ _ _ h=>absurd h (HQN _ _ _)) (Or.inr ⟨by kernel_rfl,rfl⟩) hB ?_
  simp only [Act.put,zz0,zz1,zz2]
  refine wpAnyH_take (i:=19) (v:=undef) (at_nth rfl) (by kernel_rfl) (by kernel_rfl) (by kernel_rfl) (fun _ _ _ h=>absurd h (HQN _ _ _)) (Or.inr ⟨by kernel_rfl,rfl⟩) hB ?_
  simp only [Act.put,zz0,zz1,zz2]
  refine wpAnyH_take (i:=20) (v:=undef) (at_nth rfl) (by kernel_rfl) (by kernel_rfl) (by kernel_rfl) (fun _ _ _ h=>absurd h (HQN _ _ _)) (Or.inr ⟨by kernel_rfl,rfl⟩) hB ?_
  simp only [Act.put,zz0,zz1,zz2]
  refine wpAnyH_take (i:=21) (v:=undef) (at_nth rfl) (by kernel_rfl) (by kernel_rfl) (by kernel_rfl) (fun _ _ _ h=>absurd h (HQN _ _ _)) (Or.inr ⟨by kernel_rfl,rfl⟩) hB ?_
  simp only [Act.put,zz0,zz1,zz2]
  refine wpP (i:=22) (v:=.bool false) HQN rfl (fun w hSw=>by go_simp) hB ?_
  simp only [Act.put,zz0,zz1,zz2]
  exact ST _ hB
theorem drt12_b (W0:World) (D1 D2 b off n c k:Nat) (v1 v2:Value) (ys:Int) (hk:k < n) (hbl:b < W0.heap.size) (hy0:W0.cell? ⟨b,off + k * 3,none⟩=some (.int .i64 ys)) (hys:¬ ys=1) (xl xc:ByteArray) (i1:Is W0 D1 31 #[.slice (some ⟨b,off,none⟩) n c,v1,v2]) (i2:Is W0 D2 70 #[.int .i64 1,.string xl,.string xc]) (x0 x2 x3 x4 x5 x7 x8 Xa Xb Xc Xd Xe Xf Xg Xh Xi Xj Xk Xl Xm Xn Xo Xp Xq Xr Xs Xt Xu Xv Xw Xx Xy Xz Ya Yb Yc Yd Ye Yf Yg Yh Yi Yj Yk Yl Ym Yn Yo Yp Yq Yr Ys Yt Yu Yv Yw Yx Yy Yz Za Zb Zc Zd Ze Zf Zg Zh Zi Zj Zk Zl Zm Zn Zo Zp Zq Zr Zs Zt Zu Zv Zw Zx Zy Zz Ua Ub Uc Ud Ue Uf Ug Uh Ui Uj Uk Ul Um Un Uo Up Uq Ur Us Ut Uu Uv Uw Ux Uy Uz Va Vb Vc Vd Ve Vf:Value) :
    (Code.region 25 (opsOf Tryz.f30 25) true).wp Tryz.prog (fun ex YY W=>ex=.normal∧YY.defers=[]∧∃ (_:Unit),YY.tmps=#[x0,.pointer (some ⟨D1,0,none⟩),x2,x3,x4,x5,.pointer (some ⟨D2,0,none⟩),x7,x8,.int .i64 (k:Int),Xa,Xb,Xc,Xd,Xe,Xf,Xg,Xh,Xi,Xj,Xk,Xl,Xm,Xn,Xo,Xp,Xq,Xr,Xs,Xt,Xu,Xv,Xw,Xx,Xy,Xz,Ya,Yb,Yc,Yd,Ye,Yf,Yg,Yh,Yi,Yj,Yk,Yl,Ym,Yn,Yo,Yp,Yq,Yr,Ys,Yt,Yu,Yv,Yw,Yx,Yy,Yz,Za,Zb,Zc,Zd,Ze,Zf,Zg,Zh,Zi,Zj,Zk,Zl,Zm,Zn,.pointer (some ⟨D2,0,none⟩),.int .i64 1,.bool true,.bool true,.pointer (some ⟨D1,0,none⟩),.slice (some ⟨b,off,none⟩) n c,.int .i64 (k:Int),.pointer (some ⟨b,off + k * 3,none⟩),.pointer (some ⟨b,off + k * 3,none⟩),.int .i64 ys,.bool false,.bool false,.bool false,undef,undef,undef,undef,undef,undef,undef,undef,undef,.bool false,Ul,Um,Un,Uo,Up,Uq,Ur,Us,Ut,Uu,Uv,Uw,Ux,Uy,Uz,Va,Vb,Vc,Vd,Ve,Vf]∧Below W0.heap.size W0 W) { tmps:=#[x0,.pointer (some ⟨D1,0,none⟩),x2,x3,x4,x5,.pointer (some ⟨D2,0,none⟩),x7,x8,.int .i64 (k:Int),Xa,Xb,Xc,Xd,Xe,Xf,Xg,Xh,Xi,Xj,Xk,Xl,Xm,Xn,Xo,Xp,Xq,Xr,Xs,Xt,Xu,Xv,Xw,Xx,Xy,Xz,Ya,Yb,Yc,Yd,Ye,Yf,Yg,Yh,Yi,Yj,Yk,Yl,Ym,Yn,Yo,Yp,Yq,Yr,Ys,Yt,Yu,Yv,Yw,Yx,Yy,Yz,Za,Zb,Zc,Zd,Ze,Zf,Zg,Zh,Zi,Zj,Zk,Zl,Zm,Zn,Zo,Zp,Zq,Zr,Zs,Zt,Zu,Zv,Zw,Zx,Zy,Zz,Ua,Ub,Uc,Ud,Ue,Uf,Ug,Uh,Ui,Uj,Uk,Ul,Um,Un,Uo,Up,Uq,Ur,Us,Ut,Uu,Uv,Uw,Ux,Uy,Uz,Va,Vb,Vc,Vd,Ve,Vf],defers:=[] } W0:=by
  have hB:Below W0.heap.size W0 (W0.drewN 1):=belowN (Below.refl _ _) 1
  generalize hQ:(fun (ex:Exit) (YY:Act) (W:World)=>ex=.normal∧YY.defers=[]∧∃ (_:Unit),YY.tmps=#[x0,.pointer (some ⟨D1,0,none⟩),x2,x3,x4,x5,.pointer (some ⟨D2,0,none⟩),x7,x8,.int .i64 (k:Int),Xa,Xb,Xc,Xd,Xe,Xf,Xg,Xh,Xi,Xj,Xk,Xl,Xm,Xn,Xo,Xp,Xq,Xr,Xs,Xt,Xu,Xv,Xw,Xx,Xy,Xz,Ya,Yb,Yc,Yd,Ye,Yf,Yg,Yh,Yi,Yj,Yk,Yl,Ym,Yn,Yo,Yp,Yq,Yr,Ys,Yt,Yu,Yv,Yw,Yx,Yy,Yz,Za,Zb,Zc,Zd,Ze,Zf,Zg,Zh,Zi,Zj,Zk,Zl,Zm,Zn,.pointer (some ⟨D2,0,none⟩),.int .i64 1,.bool true,.bool true,.pointer (some ⟨D1,0,none⟩),.slice (some ⟨b,off,none⟩) n c,.int .i64 (k:Int),.pointer (some ⟨b,off + k * 3,none⟩),.pointer (some ⟨b,off + k * 3,none⟩),.int .i64 ys,.bool false,.bool false,.bool false,undef,undef,undef,undef,undef,undef,undef,undef,undef,.bool false,Ul,Um,Un,Uo,Up,Uq,Ur,Us,Ut,Uu,Uv,Uw,Ux,Uy,Uz,Va,Vb,Vc,Vd,Ve,Vf]∧Below W0.heap.size W0 W)=Q
  have HQN:∀ c a W,¬ Q (.panic c) a W:=fun c a W h=>by subst hQ;exact nomatch h.1
  have ST:∀ (W:World),Below W0.heap.size W0 W→wpAnyH Tryz.prog .any (opsOf Tryz.f30 25) Q (fun W=>Below W0.heap.size W0 W) 0 #[true,true,true,true,true,true,true,true,true,true,true,true,true,true,true,true,true,true,true,true,true,true,true] { tmps:=#[x0,.pointer (some ⟨D1,0,none⟩),x2,x3,x4,x5,.pointer (some ⟨D2,0,none⟩),x7,x8,.int .i64 (k:Int),Xa,Xb,Xc,Xd,Xe,Xf,Xg,Xh,Xi,Xj,Xk,Xl,Xm,Xn,Xo,Xp,Xq,Xr,Xs,Xt,Xu,Xv,Xw,Xx,Xy,Xz,Ya,Yb,Yc,Yd,Ye,Yf,Yg,Yh,Yi,Yj,Yk,Yl,Ym,Yn,Yo,Yp,Yq,Yr,Ys,Yt,Yu,Yv,Yw,Yx,Yy,Yz,Za,Zb,Zc,Zd,Ze,Zf,Zg,Zh,Zi,Zj,Zk,Zl,Zm,Zn,.pointer (some ⟨D2,0,none⟩),.int .i64 1,.bool true,.bool true,.pointer (some ⟨D1,0,none⟩),.slice (some ⟨b,off,none⟩) n c,.int .i64 (k:Int),.pointer (some ⟨b,off + k * 3,none⟩),.pointer (some ⟨b,off + k * 3,none⟩),.int .i64 ys,.bool false,.bool false,.bool false,undef,undef,undef,undef,undef,undef,undef,undef,undef,.bool false,Ul,Um,Un,Uo,Up,Uq,Ur,Us,Ut,Uu,Uv,Uw,Ux,Uy,Uz,Va,Vb,Vc,Vd,Ve,Vf],defers:=[] } W:=by
    intro W hB
    refine wpAnyH_done (by kernel_rfl) ?_ _
    subst hQ
    exact ⟨rfl,rfl,(),rfl,hB⟩
  refine wp_region_held_drew (S:=fun W=>Below W0.heap.size W0 W) (by kernel_rfl) hB (fun hS=>?_)
  change wpAnyH _ _ (opsOf Tryz.f30 25) _ _ 23 (Array.replicate 23 false) _ (W0.drewN 1)
  clear hS
  replace hB:Below W0.heap.size W0 (W0.drewN 1):=belowN (Below.refl _ _) 1
  refine wpP (i:=0) (v:=.pointer (some ⟨D2,0,none⟩)) HQN rfl (fun w hSw=>by go_simp) hB ?_
  simp only [Act.put,zz0,zz1,zz2]
  refine wpP (i:=1) (v:=.int .i64 1) HQN rfl (fun w hSw=>by (have hc:=(i2.below hSw i2.lt).cell 0;go_simp)) hB ?_
  simp only [Act.put,zz0,zz1,zz2]
  refine wpP (i:=2) (v:=.bool true) HQN rfl (fun w hSw=>by go_simp) hB ?_
  simp only [Act.put,zz0,zz1,zz2]
  refine wpP (i:=3) (v:=.bool true) HQN rfl (fun w hSw=>by kernel_rfl) hB ?_
  simp only [Act.put,zz0,zz1,zz2]
  refine wpP (i:=4) (v:=.pointer (some ⟨D1,0,none⟩)) HQN rfl (fun w hSw=>by go_simp) hB ?_
  simp only [Act.put,zz0,zz1,zz2]
  refine wpP (i:=5) (v:=.slice (some ⟨b,off,none⟩) n c) HQN rfl (fun w hSw=>by (have hc:=(i1.below hSw i1.lt).cell 0;go_simp)) hB ?_
  simp only [Act.put,zz0,zz1,zz2]
  refine wpP (i:=6) (v:=.int .i64 (k:Int)) HQN rfl (fun w hSw=>by kernel_rfl) hB ?_
  simp only [Act.put,zz0,zz1,zz2]
  refine wpP (i:=7) (v:=.pointer (some ⟨b,off + k * 3,none⟩)) HQN rfl (fun w hSw=>by have hk':=hk;go_simp) hB ?_
  simp only [Act.put,zz0,zz1,zz2]
  refine wpP (i:=8) (v:=.pointer (some ⟨b,off + k * 3,none⟩)) HQN rfl (fun w hSw=>by go_simp) hB ?_
  simp only [Act.put,zz0,zz1,zz2]
  refine wpP (i:=9) (v:=.int .i64 ys) HQN rfl (fun w hSw=>by (have hc:=cell_below12 hSw hy0 hbl;go_simp)) hB ?_
  simp only [Act.put,zz0,zz1,zz2]
  refine wpP (i:=10) (v:=.bool false) HQN rfl (fun w hSw=>by (have h:=hys;go_simp)) hB ?_
  simp only [Act.put,zz0,zz1,zz2]
  refine wpP (i:=11) (v:=.bool false) HQN rfl (fun w hSw=>by go_simp) hB ?_
  simp only [Act.put,zz0,zz1,zz2]
  refine wpP (i:=12) (v:=.bool false) HQN rfl (fun w hSw=>by kernel_rfl) hB ?_
  simp only [Act.put,zz0,zz1,zz2]
  refine wpAnyH_take (i:=13) (v:=undef) (at_nth rfl) (by kernel_rfl) (by kernel_rfl) (by kernel_rfl) (fun _ _ _ h=>absurd h (HQN _ _ _)) (Or.inr ⟨by kernel_rfl,rfl⟩) hB ?_
  simp only [Act.put,zz0,zz1,zz2]
  refine wpAnyH_take (i:=14) (v:=undef) (at_nth rfl) (by kernel_rfl) (by kernel_rfl) (by kernel_rfl) (fun _ _ _ h=>absurd h (HQN _ _ _)) (Or.inr ⟨by kernel_rfl,rfl⟩) hB ?_
  simp only [Act.put,zz0,zz1,zz2]
  refine wpAnyH_take (i:=15) (v:=undef) (at_nth rfl) (by kernel_rfl) (by kernel_rfl) (by kernel_rfl) (fun _ _ _ h=>absurd h (HQN _ _ _)) (Or.inr ⟨by kernel_rfl,rfl⟩) hB ?_
  simp only [Act.put,zz0,zz1,zz2]
  refine wpAnyH_take (i:=16) (v:=undef) (at_nth rfl) (by kernel_rfl) (by kernel_rfl) (by kernel_rfl) (fun _ _ _ h=>absurd h (HQN _ _ _)) (Or.inr ⟨by kernel_rfl,rfl⟩) hB ?_
  simp only [Act.put,zz0,zz1,zz2]
  refine wpAnyH_take (i:=17) (v:=undef) (at_nth rfl) (by kernel_rfl) (by kernel_rfl) (by kernel_rfl) (fun _ _ _ h=>absurd h (HQN _ _ _)) (Or.inr ⟨by kernel_rfl,rfl⟩) hB ?_
  simp only [Act.put,zz0,zz1,zz2]
  refine wpAnyH_take (i:=18) (v:=undef) (at_nth rfl) (by kernel_rfl) (by kernel_rfl) (by kernel_rfl) (fun _ _ _ h=>absurd h (HQN _ _ _)) (Or.inr ⟨by kernel_rfl,rfl⟩) hB ?_
  simp only [Act.put,zz0,zz1,zz2]
  refine wpAnyH_take (i:=19) (v:=undef) (at_nth rfl) (by kernel_rfl) (by kernel_rfl) (by kernel_rfl) (fun _ _ _ h=>absurd h (HQN _ _ _)) (Or.inr ⟨by kernel_rfl,rfl⟩) hB ?_
  simp only [Act.put,zz0,zz1,zz2]
  refine wpAnyH_take (i:=20) (v:=undef) (at_nth rfl) (by kernel_rfl) (by kernel_rfl) (by kernel_rfl) (fun _ _ _ h=>absurd h (HQN _ _ _)) (Or.inr ⟨by kernel_rfl,rfl⟩) hB ?_
  simp only [Act.put,zz0,zz1,zz2]
  refine wpAnyH_take (i:=21) (v:=undef) (at_nth rfl) (by kernel_rfl) (by kernel_rfl) (by kernel_rfl) (fun _ _ _ h=>absurd h (HQN _ _ _)) (Or.inr ⟨by kernel_rfl,rfl⟩) hB ?_
  simp only [Act.put,zz0,zz1,zz2]
  refine wpP (i:=22) (v:=.bool false) HQN rfl (fun w hSw=>by go_simp) hB ?_
  simp only [Act.put,zz0,zz1,zz2]
  exact ST _ hB
theorem drt12_c (W0:World) (D1 D2 b off n c k:Nat) (v1 v2:Value) (yl:ByteArray) (hk:k < n) (hbl:b < W0.heap.size) (hy0:W0.cell? ⟨b,off + k * 3,none⟩=some (.int .i64 1)) (hy1:W0.cell? ⟨b,off + k * 3 + 1,none⟩=some (.string yl)) (xl xc:ByteArray) (hne:¬ yl=xl) (i1:Is W0 D1 31 #[.slice (some ⟨b,off,none⟩) n c,v1,v2]) (i2:Is W0 D2 70 #[.int .i64 1,.string xl,.string xc]) (x0 x2 x3 x4 x5 x7 x8 Xa Xb Xc Xd Xe Xf Xg Xh Xi Xj Xk Xl Xm Xn Xo Xp Xq Xr Xs Xt Xu Xv Xw Xx Xy Xz Ya Yb Yc Yd Ye Yf Yg Yh Yi Yj Yk Yl Ym Yn Yo Yp Yq Yr Ys Yt Yu Yv Yw Yx Yy Yz Za Zb Zc Zd Ze Zf Zg Zh Zi Zj Zk Zl Zm Zn Zo Zp Zq Zr Zs Zt Zu Zv Zw Zx Zy Zz Ua Ub Uc Ud Ue Uf Ug Uh Ui Uj Uk Ul Um Un Uo Up Uq Ur Us Ut Uu Uv Uw Ux Uy Uz Va Vb Vc Vd Ve Vf:Value) :
    (Code.region 25 (opsOf Tryz.f30 25) true).wp Tryz.prog (fun ex YY W=>ex=.normal∧YY.defers=[]∧∃ (_:Unit),YY.tmps=#[x0,.pointer (some ⟨D1,0,none⟩),x2,x3,x4,x5,.pointer (some ⟨D2,0,none⟩),x7,x8,.int .i64 (k:Int),Xa,Xb,Xc,Xd,Xe,Xf,Xg,Xh,Xi,Xj,Xk,Xl,Xm,Xn,Xo,Xp,Xq,Xr,Xs,Xt,Xu,Xv,Xw,Xx,Xy,Xz,Ya,Yb,Yc,Yd,Ye,Yf,Yg,Yh,Yi,Yj,Yk,Yl,Ym,Yn,Yo,Yp,Yq,Yr,Ys,Yt,Yu,Yv,Yw,Yx,Yy,Yz,Za,Zb,Zc,Zd,Ze,Zf,Zg,Zh,Zi,Zj,Zk,Zl,Zm,Zn,.pointer (some ⟨D2,0,none⟩),.int .i64 1,.bool true,.bool true,.pointer (some ⟨D1,0,none⟩),.slice (some ⟨b,off,none⟩) n c,.int .i64 (k:Int),.pointer (some ⟨b,off + k * 3,none⟩),.pointer (some ⟨b,off + k * 3,none⟩),.int .i64 1,.bool true,.bool true,.bool true,.pointer (some ⟨D1,0,none⟩),.slice (some ⟨b,off,none⟩) n c,.int .i64 (k:Int),.pointer (some ⟨b,off + k * 3,none⟩),.pointer (some ⟨b,off + k * 3 + 1,none⟩),.string yl,.pointer (some ⟨D2,1,none⟩),.string xl,.bool false,.bool false,Ul,Um,Un,Uo,Up,Uq,Ur,Us,Ut,Uu,Uv,Uw,Ux,Uy,Uz,Va,Vb,Vc,Vd,Ve,Vf]∧Below W0.heap.size W0 W) { tmps:=#[x0,.pointer (some ⟨D1,0,none⟩),x2,x3,x4,x5,.pointer (some ⟨D2,0,none⟩),x7,x8,.int .i64 (k:Int),Xa,Xb,Xc,Xd,Xe,Xf,Xg,Xh,Xi,Xj,Xk,Xl,Xm,Xn,Xo,Xp,Xq,Xr,Xs,Xt,Xu,Xv,Xw,Xx,Xy,Xz,Ya,Yb,Yc,Yd,Ye,Yf,Yg,Yh,Yi,Yj,Yk,Yl,Ym,Yn,Yo,Yp,Yq,Yr,Ys,Yt,Yu,Yv,Yw,Yx,Yy,Yz,Za,Zb,Zc,Zd,Ze,Zf,Zg,Zh,Zi,Zj,Zk,Zl,Zm,Zn,Zo,Zp,Zq,Zr,Zs,Zt,Zu,Zv,Zw,Zx,Zy,Zz,Ua,Ub,Uc,Ud,Ue,Uf,Ug,Uh,Ui,Uj,Uk,Ul,Um,Un,Uo,Up,Uq,Ur,Us,Ut,Uu,Uv,Uw,Ux,Uy,Uz,Va,Vb,Vc,Vd,Ve,Vf],defers:=[] } W0:=by
  have hB:Below W0.heap.size W0 (W0.drewN 1):=belowN (Below.refl _ _) 1
  generalize hQ:(fun (ex:Exit) (YY:Act) (W:World)=>ex=.normal∧YY.defers=[]∧∃ (_:Unit),YY.tmps=#[x0,.pointer (some ⟨D1,0,none⟩),x2,x3,x4,x5,.pointer (some ⟨D2,0,none⟩),x7,x8,.int .i64 (k:Int),Xa,Xb,Xc,Xd,Xe,Xf,Xg,Xh,Xi,Xj,Xk,Xl,Xm,Xn,Xo,Xp,Xq,Xr,Xs,Xt,Xu,Xv,Xw,Xx,Xy,Xz,Ya,Yb,Yc,Yd,Ye,Yf,Yg,Yh,Yi,Yj,Yk,Yl,Ym,Yn,Yo,Yp,Yq,Yr,Ys,Yt,Yu,Yv,Yw,Yx,Yy,Yz,Za,Zb,Zc,Zd,Ze,Zf,Zg,Zh,Zi,Zj,Zk,Zl,Zm,Zn,.pointer (some ⟨D2,0,none⟩),.int .i64 1,.bool true,.bool true,.pointer (some ⟨D1,0,none⟩),.slice (some ⟨b,off,none⟩) n c,.int .i64 (k:Int),.pointer (some ⟨b,off + k * 3,none⟩),.pointer (some ⟨b,off + k * 3,none⟩),.int .i64 1,.bool true,.bool true,.bool true,.pointer (some ⟨D1,0,none⟩),.slice (some ⟨b,off,none⟩) n c,.int .i64 (k:Int),.pointer (some ⟨b,off + k * 3,none⟩),.pointer (some ⟨b,off + k * 3 + 1,none⟩),.string yl,.pointer (some ⟨D2,1,none⟩),.string xl,.bool false,.bool false,Ul,Um,Un,Uo,Up,Uq,Ur,Us,Ut,Uu,Uv,Uw,Ux,Uy,Uz,Va,Vb,Vc,Vd,Ve,Vf]∧Below W0.heap.size W0 W)=Q
  have HQN:∀ c a W,¬ Q (.panic c) a W:=fun c a W h=>by subst hQ;exact nomatch h.1
  have ST:∀ (W:World),Below W0.heap.size W0 W→wpAnyH Tryz.prog .any (opsOf Tryz.f30 25) Q (fun W=>Below W0.heap.size W0 W) 0 #[true,true,true,true,true,true,true,true,true,true,true,true,true,true,true,true,true,true,true,true,true,true,true] { tmps:=#[x0,.pointer (some ⟨D1,0,none⟩),x2,x3,x4,x5,.pointer (some ⟨D2,0,none⟩),x7,x8,.int .i64 (k:Int),Xa,Xb,Xc,Xd,Xe,Xf,Xg,Xh,Xi,Xj,Xk,Xl,Xm,Xn,Xo,Xp,Xq,Xr,Xs,Xt,Xu,Xv,Xw,Xx,Xy,Xz,Ya,Yb,Yc,Yd,Ye,Yf,Yg,Yh,Yi,Yj,Yk,Yl,Ym,Yn,Yo,Yp,Yq,Yr,Ys,Yt,Yu,Yv,Yw,Yx,Yy,Yz,Za,Zb,Zc,Zd,Ze,Zf,Zg,Zh,Zi,Zj,Zk,Zl,Zm,Zn,.pointer (some ⟨D2,0,none⟩),.int .i64 1,.bool true,.bool true,.pointer (some ⟨D1,0,none⟩),.slice (some ⟨b,off,none⟩) n c,.int .i64 (k:Int),.pointer (some ⟨b,off + k * 3,none⟩),.pointer (some ⟨b,off + k * 3,none⟩),.int .i64 1,.bool true,.bool true,.bool true,.pointer (some ⟨D1,0,none⟩),.slice (some ⟨b,off,none⟩) n c,.int .i64 (k:Int),.pointer (some ⟨b,off + k * 3,none⟩),.pointer (some ⟨b,off + k * 3 + 1,none⟩),.string yl,.pointer (some ⟨D2,1,none⟩),.string xl,.bool false,.bool false,Ul,Um,Un,Uo,Up,Uq,Ur,Us,Ut,Uu,Uv,Uw,Ux,Uy,Uz,Va,Vb,Vc,Vd,Ve,Vf],defers:=[] } W:=by
    intro W hB
    refine wpAnyH_done (by kernel_rfl) ?_ _
    subst hQ
    exact ⟨rfl,rfl,(),rfl,hB⟩
  refine wp_region_held_drew (S:=fun W=>Below W0.heap.size W0 W) (by kernel_rfl) hB (fun hS=>?_)
  change wpAnyH _ _ (opsOf Tryz.f30 25) _ _ 23 (Array.replicate 23 false) _ (W0.drewN 1)
  clear hS
  replace hB:Below W0.heap.size W0 (W0.drewN 1):=belowN (Below.refl _ _) 1
  refine wpP (i:=0) (v:=.pointer (some ⟨D2,0,none⟩)) HQN rfl (fun w hSw=>by go_simp) hB ?_
  simp only [Act.put,zz0,zz1,zz2]
  refine wpP (i:=1) (v:=.int .i64 1) HQN rfl (fun w hSw=>by (have hc:=(i2.below hSw i2.lt).cell 0;go_simp)) hB ?_
  simp only [Act.put,zz0,zz1,zz2]
  refine wpP (i:=2) (v:=.bool true) HQN rfl (fun w hSw=>by go_simp) hB ?_
  simp only [Act.put,zz0,zz1,zz2]
  refine wpP (i:=3) (v:=.bool true) HQN rfl (fun w hSw=>by kernel_rfl) hB ?_
  simp only [Act.put,zz0,zz1,zz2]
  refine wpP (i:=4) (v:=.pointer (some ⟨D1,0,none⟩)) HQN rfl (fun w hSw=>by go_simp) hB ?_
  simp only [Act.put,zz0,zz1,zz2]
  refine wpP (i:=5) (v:=.slice (some ⟨b,off,none⟩) n c) HQN rfl (fun w hSw=>by (have hc:=(i1.below hSw i1.lt).cell 0;go_simp)) hB ?_
  simp only [Act.put,zz0,zz1,zz2]
  refine wpP (i:=6) (v:=.int .i64 (k:Int)) HQN rfl (fun w hSw=>by kernel_rfl) hB ?_
  simp only [Act.put,zz0,zz1,zz2]
  refine wpP (i:=7) (v:=.pointer (some ⟨b,off + k * 3,none⟩)) HQN rfl (fun w hSw=>by have hk':=hk;go_simp) hB ?_
  simp only [Act.put,zz0,zz1,zz2]
  refine wpP (i:=8) (v:=.pointer (some ⟨b,off + k * 3,none⟩)) HQN rfl (fun w hSw=>by go_simp) hB ?_
  simp only [Act.put,zz0,zz1,zz2]
  refine wpP (i:=9) (v:=.int .i64 1) HQN rfl (fun w hSw=>by (have hc:=cell_below12 hSw hy0 hbl;go_simp)) hB ?_
  simp only [Act.put,zz0,zz1,zz2]
  refine wpP (i:=10) (v:=.bool true) HQN rfl (fun w hSw=>by go_simp) hB ?_
  simp only [Act.put,zz0,zz1,zz2]
  refine wpP (i:=11) (v:=.bool true) HQN rfl (fun w hSw=>by go_simp) hB ?_
  simp only [Act.put,zz0,zz1,zz2]
  refine wpP (i:=12) (v:=.bool true) HQN rfl (fun w hSw=>by kernel_rfl) hB ?_
  simp only [Act.put,zz0,zz1,zz2]
  refine wpP (i:=13) (v:=.pointer (some ⟨D1,0,none⟩)) HQN rfl (fun w hSw=>by go_simp) hB ?_
  simp only [Act.put,zz0,zz1,zz2]
  refine wpP (i:=14) (v:=.slice (some ⟨b,off,none⟩) n c) HQN rfl (fun w hSw=>by (have hc:=(i1.below hSw i1.lt).cell 0;go_simp)) hB ?_
  simp only [Act.put,zz0,zz1,zz2]
  refine wpP (i:=15) (v:=.int .i64 (k:Int)) HQN rfl (fun w hSw=>by kernel_rfl) hB ?_
  simp only [Act.put,zz0,zz1,zz2]
  refine wpP (i:=16) (v:=.pointer (some ⟨b,off + k * 3,none⟩)) HQN rfl (fun w hSw=>by have hk':=hk;go_simp) hB ?_
  simp only [Act.put,zz0,zz1,zz2]
  refine wpP (i:=17) (v:=.pointer (some ⟨b,off + k * 3 + 1,none⟩)) HQN rfl (fun w hSw=>by go_simp) hB ?_
  simp only [Act.put,zz0,zz1,zz2]
  refine wpP (i:=18) (v:=.string yl) HQN rfl (fun w hSw=>by (have hc:=cell_below12 hSw hy1 hbl;go_simp)) hB ?_
  simp only [Act.put,zz0,zz1,zz2]
  refine wpP (i:=19) (v:=.pointer (some ⟨D2,1,none⟩)) HQN rfl (fun w hSw=>by go_simp) hB ?_
  simp only [Act.put,zz0,zz1,zz2]
  refine wpP (i:=20) (v:=.string xl) HQN rfl (fun w hSw=>by (have hc:=(i2.below hSw i2.lt).cell 1;go_simp)) hB ?_
  simp only [Act.put,zz0,zz1,zz2]
  refine wpP (i:=21) (v:=.bool false) HQN rfl (fun w hSw=>by (have hl2:(yl.toList == xl.toList)=false:=beq_false_of_ne fun e=>hne (toList_inj12.1 e);go_simp)) hB ?_
  simp only [Act.put,zz0,zz1,zz2]
  refine wpP (i:=22) (v:=.bool false) HQN rfl (fun w hSw=>by go_simp) hB ?_
  simp only [Act.put,zz0,zz1,zz2]
  exact ST _ hB
end Go.Proofs.YtmggbbmpckcleaaGreat
namespace Go.Proofs.YtmggbbmpckcleaaGreat
open Go.RowKit Go.Shelf
theorem dright_any12 (s:Sto12) (A:Option Addr) (c:Nat) (w:World) (h:InS w s A c) :
    Calls Tryz.prog 30 #[stoV s A c] w fun e w'=>e=.returned (.bool (right12 s))∧Below w.heap.size w w':=by
  have HI:=Lib.hid h
  obtain ⟨W1,hW1⟩:∃ W1,W1=w.alloc (.cells (stoA s A c) 31):=⟨_,rfl⟩
  have i1:Is W1 w.heap.size 31 (stoA s A c):=by rw [hW1];exact Is.new _ _ _
  have hB1:Below w.heap.size w W1:=by rw [hW1];exact (Below.refl _ _).alloc (Nat.le_refl _) _
  have c0:W1.cell? ⟨w.heap.size,0,none⟩=some (.slice A s.B.length c):=i1.cell 0
  have HS:=Lib.hid (fun W=>dsize_any12 (s.B.length:Int) W)
  clear h
  cases hs:size12 (s.B.length:Int) with
  | false =>
    have HR:Hid (right12 s=false):=Lib.hid (by rw [right12,hs];rfl)
    rw [hs] at HS
    clear hs
    go_enter Tryz.func30,Tryz.ntmps30
    go_upto_region 1 with (fail)
    rw [← hW1]
    clear hW1
    go_wp2_with (go_at_call 52;refine (HS.out _).mono ?_;rintro e wq ⟨rfl,rfl⟩)
    go_ret
    exact ⟨by rw [HR.out];rfl,hB1⟩
  | true =>
    rw [hs] at HS
    have hn:=size_bd12 hs
    have HN:=Lib.hid hs
    have HBAD:Hid (∀ i,i < s.B.length→okB12 s.B i=false→right12 s=false):=Lib.hid (fun i hi hb=>by
      cases hr:right12 s with
      | false=>rfl
      | true =>
        have:=ok_iff12.2 (right_iff12.1 hr).ok i hi
        rw [hb] at this
        cases this)
    clear hs
    go_enter Tryz.func30,Tryz.ntmps30
    go_upto_region 1 with (fail)
    rw [← hW1]
    clear hW1
    go_wp2_with (go_at_call 52;refine (HS.out _).mono ?_;rintro e wq ⟨rfl,rfl⟩)
    clear c0 HS
    go_loopw [3,4,5] (fun u g i wr=>∃ k:Nat,k≤s.B.length∧u=.int .i64 (cnt12 (s.B.take k) 1:Int)∧g=.int .i64 (cnt12 (s.B.take k) 2:Int)∧i=.int .i64 (k:Int)∧(∀ i,i < k→okB12 s.B i=true)∧Is wr w.heap.size 31 (stoA s A c)∧Below w.heap.size w wr) (fun _ _ i _=>s.B.length - (intOf i).toNat)
    case atStart=>exact ⟨0,by omega,rfl,rfl,rfl,fun j hj=>absurd hj (Nat.not_lt_zero _),i1,hB1⟩
    case round =>
      clear i1 hB1
      obtain ⟨k,hk,rfl,rfl,rfl,hok,i1,hB⟩:=hrel
      have HOK:=Lib.hid hok
      clear hok
      have c0:wr.cell? ⟨w.heap.size,0,none⟩=some (.slice A s.B.length c):=i1.cell 0
      have hu1:=cnt_le12 (s.B.take k) 1
      have hu2:=cnt_le12 (s.B.take k) 2
      rw [List.length_take] at hu1 hu2
      by_cases hlt:k < s.B.length
      · have q1:(k:Int) < (s.B.length:Int):=by omega
        have w1i:=IntWalk.i64_in ((k:Int) + 1) (by omega)
        obtain ⟨x,hx⟩:∃ x,s.B[k]?=some x:=⟨_,List.getElem?_eq_getElem hlt⟩
        have hxa:at12 s.B k=x:=by rw [at_get12 hlt];exact Option.some.inj ((List.getElem?_eq_getElem hlt).symm.trans hx)
        have HC1:=Lib.hid (cnt_take12 hx 1)
        have HC2:=Lib.hid (cnt_take12 hx 2)
        obtain ⟨b,off,rfl,hbl,hr⟩:=(HI.out.keep hB).b.bkt hx
        obtain ⟨st,xl,xc⟩:=x
        have HXA:=Lib.hid hxa
        have hOK:okB12 s.B k=(if st=1 then decide (xl.size=16) && (decide (xc.size=40) && decide (plc12 s.B xl=some k)) else (decide (st=0) || decide (st=2)) && (decide (xl=⟨#[]⟩) && decide (xc=⟨#[]⟩))):=by rw [okB12,hxa]
        have HO:=Lib.hid hOK
        have HIN:=Lib.hid (HI.out.keep hB)
        clear hx hxa hOK
        go_upto_region 9 with (refine wpList_load_mid rfl 70 _ rfl b (off + k * 3) rfl _ _ hr Tryz.underlying70 rfl infoBkt12 ?_)
        have iX:=Is.new wr 70 (bktA ⟨st,xl,xc⟩)
        have hB2:=hB.alloc hB.size (.cells (bktA ⟨st,xl,xc⟩) 70)
        have hbl2:=Nat.lt_of_lt_of_le hbl ((Below.refl wr.heap.size wr).alloc (Nat.le_refl _) (.cells (bktA ⟨st,xl,xc⟩) 70)).size
        have i2:=i1.alloc (.cells (bktA ⟨st,xl,xc⟩) 70)
        have HIN2:=Lib.hid (HIN.out.keep ((Below.refl _ _).alloc (Nat.le_refl _) (.cells (bktA ⟨st,xl,xc⟩) 70)))
        have hdx:=hB.size
        clear hB i1 c0 hr hbl HIN
        generalize wr.alloc (.cells (bktA ⟨st,xl,xc⟩) 70)=V at *
        generalize wr.heap.size=DX at *
        have x0:V.cell? ⟨DX,0,none⟩=some (.int .i64 st):=iX.cell 0
        have x1:V.cell? ⟨DX,1,none⟩=some (.string xl):=iX.cell 1
        have x2:V.cell? ⟨DX,2,none⟩=some (.string xc):=iX.cell 2
        by_cases h1:st=1
        · subst h1
          have HF:=Lib.hid (fun W h=>dfind_any12 s (some ⟨b,off,none⟩) c xl W h (by omega))
          by_cases hl:(xl.size:Int)=16
          · have hl':xl.size=16:=by omega
            by_cases hc:(xc.size:Int)=40
            · have hc':xc.size=40:=by omega
              by_cases hp:plc12 s.B xl=some k
              · have hok2:∀ i,i < k + 1→okB12 s.B i=true:=fun i hi=>by
                  by_cases e:i=k
                  · rw [e,HO.out,if_pos rfl,decide_eq_true hl',decide_eq_true hc',decide_eq_true hp];rfl
                  · exact HOK.out i (by omega)
                have HOK2:=Lib.hid hok2
                rw [hp] at HF
                simp only [plz12] at HF
                have HP:=Lib.hid hp
                have w2i:=IntWalk.i64_in ((cnt12 (s.B.take k) 1:Int) + 1) (by omega)
                clear hok2 HO HXA hp hl' hc'
                go_wp2_with (first | (refine wpList_load_row rfl 31 _ rfl w.heap.size rfl _ _ _ _ i2 Tryz.underlying31 rfl infoSto12 ?_) | (go_at_call 58;refine (HF.out _ HIN2.out).mono ?_;rintro e W5 ⟨fr,rfl,_,hb⟩;have i2:=i2.below hb i2.lt;have iX:=iX.below hb iX.lt;have hB2:=hB2.trans (hb.mono hB2.size);have x1:W5.cell? ⟨DX,1,none⟩=some (.string xl):=iX.cell 1;have x2:W5.cell? ⟨DX,2,none⟩=some (.string xc):=iX.cell 2;clear hb))
                clear x1 x2 HF hl hc
                go_loopw [9] (fun i wr=>∃ q:Nat,q≤k∧i=.int .i64 (q:Int)∧Is wr w.heap.size 31 (stoA s (some ⟨b,off,none⟩) c)∧Is wr DX 70 #[.int .i64 1,.string xl,.string xc]∧Below w.heap.size w wr) (fun i _=>k - (intOf i).toNat)
                case atStart=>exact ⟨0,by omega,rfl,i2,iX,hB2⟩
                case round =>
                  clear i2 iX hB2 x0
                  obtain ⟨q,hq,rfl,i2,iX,hB2⟩:=hrel
                  by_cases hqk:q < k
                  · have q2:(q:Int) < (k:Int):=by omega
                    have w3i:=IntWalk.i64_in ((q:Int) + 1) (by omega)
                    have hqn:q < s.B.length:=by omega
                    obtain ⟨y,hy⟩:∃ y,s.B[q]?=some y:=⟨_,List.getElem?_eq_getElem hqn⟩
                    have hya:at12 s.B q=y:=by rw [at_get12 hqn];exact Option.some.inj ((List.getElem?_eq_getElem hqn).symm.trans hy)
                    obtain ⟨b2,off2,e2,hbl3,hry⟩:=(HI.out.keep hB2).b.bkt hy
                    cases e2
                    obtain ⟨ys,yl,yc⟩:=y
                    have hy0:wr.cell? ⟨b,off + q * 3,none⟩=some (.int .i64 ys):=hry 0 _ rfl
                    have hy1:wr.cell? ⟨b,off + q * 3 + 1,none⟩=some (.string yl):=hry 1 _ rfl
                    clear hry hy
                    by_cases hys:ys=1
                    · subst hys
                      have hne:¬ yl=xl:=fun e=>by
                        have h1:=HOK.out q hqk
                        rw [okB12,hya,if_pos rfl,Bool.and_eq_true,Bool.and_eq_true,decide_eq_true_eq,decide_eq_true_eq,decide_eq_true_eq] at h1
                        have h2:=h1.2.2
                        rw [e,HP.out] at h2
                        have:=Option.some.inj h2
                        omega
                      clear hya
                      go_upto_region 25 with (fail)
                      refine Code.wp_mono ?_ (drt12_c wr w.heap.size DX b off s.B.length c q _ _ yl hqn hbl3 hy0 hy1 xl xc hne i2 iX _ _ _ _ _ _ _ _ _ _ _ _ _ _ _ _ _ _ _ _ _ _ _ _ _ _ _ _ _ _ _ _ _ _ _ _ _ _ _ _ _ _ _ _ _ _ _ _ _ _ _ _ _ _ _ _ _ _ _ _ _ _ _ _ _ _ _ _ _ _ _ _ _ _ _ _ _ _ _ _ _ _ _ _ _ _ _ _ _ _ _ _ _ _ _ _ _ _ _ _ _ _ _ _ _ _ _ _ _ _ _ _ _ _ _ _ _)
                      rintro ex ⟨T,D⟩ W6 ⟨rfl,hDf,_,hT,hb⟩
                      simp only at hT hDf
                      subst hT
                      subst hDf
                      have hB5:=hB2.trans (hb.mono hB2.size)
                      have i3:=i2.below hb i2.lt
                      have iX3:=iX.below hb iX.lt
                      clear i2 iX hB2 hb hy0 hy1 hbl3
                      go_wp2
                      go_roundw
                      case rel=>exact ⟨q + 1,by omega,by go_num,i3,iX3,hB5⟩
                      case measure=>simp [intOf];omega
                    · clear hya
                      go_upto_region 25 with (fail)
                      refine Code.wp_mono ?_ (drt12_b wr w.heap.size DX b off s.B.length c q _ _ ys hqn hbl3 hy0 hys xl xc i2 iX _ _ _ _ _ _ _ _ _ _ _ _ _ _ _ _ _ _ _ _ _ _ _ _ _ _ _ _ _ _ _ _ _ _ _ _ _ _ _ _ _ _ _ _ _ _ _ _ _ _ _ _ _ _ _ _ _ _ _ _ _ _ _ _ _ _ _ _ _ _ _ _ _ _ _ _ _ _ _ _ _ _ _ _ _ _ _ _ _ _ _ _ _ _ _ _ _ _ _ _ _ _ _ _ _ _ _ _ _ _ _ _ _ _ _ _ _)
                      rintro ex ⟨T,D⟩ W6 ⟨rfl,hDf,_,hT,hb⟩
                      simp only at hT hDf
                      subst hT
                      subst hDf
                      have hB5:=hB2.trans (hb.mono hB2.size)
                      have i3:=i2.below hb i2.lt
                      have iX3:=iX.below hb iX.lt
                      clear i2 iX hB2 hb hy0 hy1 hbl3
                      go_wp2
                      go_roundw
                      case rel=>exact ⟨q + 1,by omega,by go_num,i3,iX3,hB5⟩
                      case measure=>simp [intOf];omega
                  · have q2:¬ (q:Int) < (k:Int):=by omega
                    go_wp2
                    go_roundw
                    case rel=>exact ⟨k + 1,by omega,by rw [HC1.out];go_num,by rw [HC2.out];rfl,by go_num,HOK2.out,i2,hB2⟩
                    case measure=>simp [intOf];omega
              · have hz:¬ plz12 (plc12 s.B xl)=(k:Int):=by
                  cases hq:plc12 s.B xl with
                  | none=>show ¬ (-1:Int)=(k:Int);omega
                  | some j=>show ¬ (j:Int)=(k:Int);intro e;exact hp (by rw [hq,Int.ofNat.inj e])
                have HR:=Lib.hid (HBAD.out k hlt (by rw [HO.out,if_pos rfl,decide_eq_false hp,Bool.and_false,Bool.and_false]))
                clear HC1 HC2 HXA HO hp
                generalize plz12 (plc12 s.B xl)=z at *
                go_wp2_with (first | (refine wpList_load_row rfl 31 _ rfl w.heap.size rfl _ _ _ _ i2 Tryz.underlying31 rfl infoSto12 ?_) | (go_at_call 58;refine (HF.out _ HIN2.out).mono ?_;rintro e W5 ⟨fr,rfl,_,hb⟩;have i2:=i2.below hb i2.lt;have iX:=iX.below hb iX.lt;have hB2:=hB2.trans (hb.mono hB2.size);have x1:W5.cell? ⟨DX,1,none⟩=some (.string xl):=iX.cell 1;have x2:W5.cell? ⟨DX,2,none⟩=some (.string xc):=iX.cell 2;clear hb))
                go_ret
                exact ⟨by rw [HR.out];rfl,hB2⟩
            · have hc':¬ xc.size=40:=by omega
              have HR:=Lib.hid (HBAD.out k hlt (by rw [HO.out,if_pos rfl,decide_eq_false hc',Bool.false_and,Bool.and_false]))
              clear HC1 HC2 HXA HO
              go_wp2_with (first | (refine wpList_load_row rfl 31 _ rfl w.heap.size rfl _ _ _ _ i2 Tryz.underlying31 rfl infoSto12 ?_) | (go_at_call 58;refine (HF.out _ HIN2.out).mono ?_;rintro e W5 ⟨fr,rfl,_,hb⟩;have i2:=i2.below hb i2.lt;have iX:=iX.below hb iX.lt;have hB2:=hB2.trans (hb.mono hB2.size);have x1:W5.cell? ⟨DX,1,none⟩=some (.string xl):=iX.cell 1;have x2:W5.cell? ⟨DX,2,none⟩=some (.string xc):=iX.cell 2;clear hb))
              go_ret
              exact ⟨by rw [HR.out];rfl,hB2⟩
          · have hl':¬ xl.size=16:=by omega
            have HR:=Lib.hid (HBAD.out k hlt (by rw [HO.out,if_pos rfl,decide_eq_false hl',Bool.false_and]))
            clear HC1 HC2 HXA HO
            go_wp2_with (first | (refine wpList_load_row rfl 31 _ rfl w.heap.size rfl _ _ _ _ i2 Tryz.underlying31 rfl infoSto12 ?_) | (go_at_call 58;refine (HF.out _ HIN2.out).mono ?_;rintro e W5 ⟨fr,rfl,_,hb⟩;have i2:=i2.below hb i2.lt;have iX:=iX.below hb iX.lt;have hB2:=hB2.trans (hb.mono hB2.size);have x1:W5.cell? ⟨DX,1,none⟩=some (.string xl):=iX.cell 1;have x2:W5.cell? ⟨DX,2,none⟩=some (.string xc):=iX.cell 2;clear hb))
            go_ret
            exact ⟨by rw [HR.out];rfl,hB2⟩
        · by_cases h0:st=0
          · subst h0
            by_cases hl:xl=⟨#[]⟩
            · by_cases hc:xc=⟨#[]⟩
              · subst hl
                subst hc
                have w2i:=IntWalk.i64_in ((cnt12 (s.B.take k) 2:Int) + 1) (by omega)
                go_wp2
                have ne1:¬ (0:Int)=1:=by decide
                have hok2:∀ i,i < k + 1→okB12 s.B i=true:=fun i hi=>by
                  by_cases e:i=k
                  · rw [e,HO.out];rfl
                  · exact HOK.out i (by omega)
                have HOK2:=Lib.hid hok2
                clear hok2 HO HXA x0 x1 x2
                go_loopw [9] (fun i wr=>∃ q:Nat,q≤k∧i=.int .i64 (q:Int)∧Is wr w.heap.size 31 (stoA s (some ⟨b,off,none⟩) c)∧Is wr DX 70 #[.int .i64 0,.string ⟨#[]⟩,.string ⟨#[]⟩]∧Below w.heap.size w wr) (fun i _=>k - (intOf i).toNat)
                case atStart=>exact ⟨0,by omega,rfl,i2,iX,hB2⟩
                case round =>
                  clear i2 iX hB2
                  obtain ⟨q,hq,rfl,i2,iX,hB2⟩:=hrel
                  by_cases hqk:q < k
                  · have q2:(q:Int) < (k:Int):=by omega
                    have w3i:=IntWalk.i64_in ((q:Int) + 1) (by omega)
                    go_upto_region 25 with (fail)
                    refine Code.wp_mono ?_ (drt12_a wr w.heap.size DX b off s.B.length c q _ _ 0 ne1 ⟨#[]⟩ ⟨#[]⟩ i2 iX _ _ _ _ _ _ _ _ _ _ _ _ _ _ _ _ _ _ _ _ _ _ _ _ _ _ _ _ _ _ _ _ _ _ _ _ _ _ _ _ _ _ _ _ _ _ _ _ _ _ _ _ _ _ _ _ _ _ _ _ _ _ _ _ _ _ _ _ _ _ _ _ _ _ _ _ _ _ _ _ _ _ _ _ _ _ _ _ _ _ _ _ _ _ _ _ _ _ _ _ _ _ _ _ _ _ _ _ _ _ _ _ _ _ _ _ _)
                    rintro ex ⟨T,D⟩ W5 ⟨rfl,hDf,_,hT,hb⟩
                    simp only at hT hDf
                    subst hT
                    subst hDf
                    have hB5:=hB2.trans (hb.mono hB2.size)
                    have i3:=i2.below hb i2.lt
                    have iX3:=iX.below hb iX.lt
                    clear i2 iX hB2 hb
                    go_wp2
                    go_roundw
                    case rel=>exact ⟨q + 1,by omega,by go_num,i3,iX3,hB5⟩
                    case measure=>simp [intOf];omega
                  · have q2:¬ (q:Int) < (k:Int):=by omega
                    go_wp2
                    go_roundw
                    case rel=>exact ⟨k + 1,by omega,by rw [HC1.out];rfl,by rw [HC2.out];rfl,by go_num,HOK2.out,i2,hB2⟩
                    case measure=>simp [intOf];omega
              · have hie:=ne_isEmptyD12 hc
                have HR:=Lib.hid (HBAD.out k hlt (by rw [HO.out,if_neg (by decide),decide_eq_false hc,Bool.and_false,Bool.and_false]))
                subst hl
                clear HC1 HC2 HXA HO
                go_wp2
                go_ret
                exact ⟨by rw [HR.out];rfl,hB2⟩
            · have hie:=ne_isEmptyD12 hl
              have HR:=Lib.hid (HBAD.out k hlt (by rw [HO.out,if_neg (by decide),decide_eq_false hl,Bool.false_and,Bool.and_false]))
              clear HC1 HC2 HXA HO
              go_wp2
              go_ret
              exact ⟨by rw [HR.out];rfl,hB2⟩
          · by_cases h2:st=2
            · subst h2
              by_cases hl:xl=⟨#[]⟩
              · by_cases hc:xc=⟨#[]⟩
                · subst hl
                  subst hc
                  have w2i:=IntWalk.i64_in ((cnt12 (s.B.take k) 2:Int) + 1) (by omega)
                  go_wp2
                  have ne1:¬ (2:Int)=1:=by decide
                  have hok2:∀ i,i < k + 1→okB12 s.B i=true:=fun i hi=>by
                    by_cases e:i=k
                    · rw [e,HO.out];rfl
                    · exact HOK.out i (by omega)
                  have HOK2:=Lib.hid hok2
                  clear hok2 HO HXA x0 x1 x2
                  go_loopw [9] (fun i wr=>∃ q:Nat,q≤k∧i=.int .i64 (q:Int)∧Is wr w.heap.size 31 (stoA s (some ⟨b,off,none⟩) c)∧Is wr DX 70 #[.int .i64 2,.string ⟨#[]⟩,.string ⟨#[]⟩]∧Below w.heap.size w wr) (fun i _=>k - (intOf i).toNat)
                  case atStart=>exact ⟨0,by omega,rfl,i2,iX,hB2⟩
                  case round =>
                    clear i2 iX hB2
                    obtain ⟨q,hq,rfl,i2,iX,hB2⟩:=hrel
                    by_cases hqk:q < k
                    · have q2:(q:Int) < (k:Int):=by omega
                      have w3i:=IntWalk.i64_in ((q:Int) + 1) (by omega)
                      go_upto_region 25 with (fail)
                      refine Code.wp_mono ?_ (drt12_a wr w.heap.size DX b off s.B.length c q _ _ 2 ne1 ⟨#[]⟩ ⟨#[]⟩ i2 iX _ _ _ _ _ _ _ _ _ _ _ _ _ _ _ _ _ _ _ _ _ _ _ _ _ _ _ _ _ _ _ _ _ _ _ _ _ _ _ _ _ _ _ _ _ _ _ _ _ _ _ _ _ _ _ _ _ _ _ _ _ _ _ _ _ _ _ _ _ _ _ _ _ _ _ _ _ _ _ _ _ _ _ _ _ _ _ _ _ _ _ _ _ _ _ _ _ _ _ _ _ _ _ _ _ _ _ _ _ _ _ _ _ _ _ _ _)
                      rintro ex ⟨T,D⟩ W5 ⟨rfl,hDf,_,hT,hb⟩
                      simp only at hT hDf
                      subst hT
                      subst hDf
                      have hB5:=hB2.trans (hb.mono hB2.size)
                      have i3:=i2.below hb i2.lt
                      have iX3:=iX.below hb iX.lt
                      clear i2 iX hB2 hb
                      go_wp2
                      go_roundw
                      case rel=>exact ⟨q + 1,by omega,by go_num,i3,iX3,hB5⟩
                      case measure=>simp [intOf];omega
                    · have q2:¬ (q:Int) < (k:Int):=by omega
                      go_wp2
                      go_roundw
                      case rel=>exact ⟨k + 1,by omega,by rw [HC1.out];rfl,by rw [HC2.out];go_num,by go_num,HOK2.out,i2,hB2⟩
                      case measure=>simp [intOf];omega
                · have hie:=ne_isEmptyD12 hc
                  have HR:=Lib.hid (HBAD.out k hlt (by rw [HO.out,if_neg (by decide),decide_eq_false hc,Bool.and_false,Bool.and_false]))
                  subst hl
                  clear HC1 HC2 HXA HO
                  go_wp2
                  go_ret
                  exact ⟨by rw [HR.out];rfl,hB2⟩
              · have hie:=ne_isEmptyD12 hl
                have HR:=Lib.hid (HBAD.out k hlt (by rw [HO.out,if_neg (by decide),decide_eq_false hl,Bool.false_and,Bool.and_false]))
                clear HC1 HC2 HXA HO
                go_wp2
                go_ret
                exact ⟨by rw [HR.out];rfl,hB2⟩
            · have HR:=Lib.hid (HBAD.out k hlt (by rw [HO.out,if_neg h1,decide_eq_false h0,decide_eq_false h2];rfl))
              clear HC1 HC2 HXA HO
              go_wp2
              go_ret
              exact ⟨by rw [HR.out];rfl,hB2⟩
      · have hkn:k=s.B.length:=by omega
        subst hkn
        rw [List.take_length] at hu1 hu2 ⊢
        have q1:¬ (s.B.length:Int) < (s.B.length:Int):=by omega
        have HRR:Hid (right12 s=(decide ((cnt12 s.B 1:Int)=s.many) && (decide ((cnt12 s.B 2:Int)=s.gone) && decide (4 * (cnt12 s.B 1 + cnt12 s.B 2)≤3 * s.B.length)))):=Lib.hid (by
          rw [right12,HN.out,Bool.true_and,show (List.range s.B.length).all (okB12 s.B)=true from List.all_eq_true.2 fun i hi=>HOK.out i (List.mem_range.1 hi),Bool.true_and])
        have c1:wr.cell? ⟨w.heap.size,1,none⟩=some (.int .i64 s.many):=i1.cell 1
        have c2:wr.cell? ⟨w.heap.size,2,none⟩=some (.int .i64 s.gone):=i1.cell 2
        generalize cnt12 s.B 1=u at *
        generalize cnt12 s.B 2=g at *
        generalize s.many=um at *
        generalize s.gone=gm at *
        have w2i:=IntWalk.i64_in ((u:Int) + (g:Int)) (by omega)
        have w3i:=IntWalk.i64_in (4 * ((u:Int) + (g:Int))) (by omega)
        have w4i:=IntWalk.i64_in (3 * (s.B.length:Int)) (by omega)
        clear i1
        by_cases e1:(u:Int)=um
        · by_cases e2:(g:Int)=gm
          · by_cases e3:4 * ((u:Int) + (g:Int))≤3 * (s.B.length:Int)
            · have HR:Hid (right12 s=true):=Lib.hid (by rw [HRR.out,decide_eq_true e1,decide_eq_true e2,decide_eq_true (by omega)];rfl)
              clear HRR
              subst e1 e2
              go_wp2
              go_ret
              exact ⟨by rw [HR.out];rfl,hB⟩
            · have HR:Hid (right12 s=false):=Lib.hid (by rw [HRR.out,decide_eq_true e1,decide_eq_true e2,decide_eq_false (by omega)];rfl)
              clear HRR
              subst e1 e2
              go_wp2
              go_ret
              exact ⟨by rw [HR.out];rfl,hB⟩
          · have HR:Hid (right12 s=false):=Lib.hid (by rw [HRR.out,decide_eq_true e1,decide_eq_false e2];rfl)
            clear HRR
            subst e1
            go_wp2
            go_ret
            exact ⟨by rw [HR.out];rfl,hB⟩
        · have HR:Hid (right12 s=false):=Lib.hid (by rw [HRR.out,decide_eq_false e1];rfl)
          clear HRR
          go_wp2
          go_ret
          exact ⟨by rw [HR.out];rfl,hB⟩
end Go.Proofs.YtmggbbmpckcleaaGreat
namespace Go.Proofs.YtmggbbmpckcleaaGreat
open Go.RowKit Go.Shelf
theorem dget_any12 (s:Sto12) (A:Option Addr) (c:Nat) (l:ByteArray) (w:World) (h:InS w s A c) :
    Calls Tryz.prog 38 #[stoV s A c,.string l] w fun e w'=>e=.returned (.tuple #[.string (getV12 s l).1,.bool (getV12 s l).2])∧Below w.heap.size w w':=by
  have HB:=Lib.hid (fun W (h:InS W s A c)=>dright_any12 s A c W h)
  have HI:=Lib.hid h
  obtain ⟨W1,hW1⟩:∃ W1,W1=w.alloc (.cells (stoA s A c) 31):=⟨_,rfl⟩
  have i1:Is W1 w.heap.size 31 (stoA s A c):=by rw [hW1];exact Is.new _ _ _
  have hB1:Below w.heap.size w W1:=by rw [hW1];exact (Below.refl _ _).alloc (Nat.le_refl _) _
  have HI1:=Lib.hid (HI.out.keep hB1)
  clear h
  cases hr:right12 s with
  | false =>
    rw [hr] at HB
    rw [getV_no12 hr]
    clear hr
    go_enter Tryz.func38,Tryz.ntmps38
    go_upto_region 1 with (fail)
    rw [← hW1]
    clear hW1
    go_wp2_with (first | (refine wpList_load_row rfl 31 _ rfl w.heap.size rfl _ _ _ _ i1 Tryz.underlying31 rfl infoSto12 ?_) | (go_at_call 30;refine (HB.out _ HI1.out).mono ?_;rintro e W2 ⟨rfl,hb⟩))
    exact bodyPost_ret (results_tmp2 Tryz.results38 _ _ _) rfl ⟨rfl,hB1.trans (hb.mono hB1.size)⟩
  | true =>
    rw [hr] at HB
    have hrt:=right_iff12.1 hr
    have hn:=size_bd12 hrt.size
    have HF:=Lib.hid (fun W h=>dfind_any12 s A c l W h (by omega))
    cases hp:plc12 s.B l with
    | none =>
      rw [getV_miss12 hr hp]
      rw [hp] at HF
      rw [show plz12 none=-1 from rfl] at HF
      clear hr hp hrt
      go_enter Tryz.func38,Tryz.ntmps38
      go_upto_region 1 with (fail)
      rw [← hW1]
      clear hW1
      go_wp2_with (first | (refine wpList_load_row rfl 31 _ rfl w.heap.size rfl _ _ _ _ i1 Tryz.underlying31 rfl infoSto12 ?_) | (go_at_call 30;refine (HB.out _ HI1.out).mono ?_;rintro e W2 ⟨rfl,hb⟩;have i1:=i1.below hb i1.lt;have HI1:=Lib.hid (HI1.out.keep hb);have hB1:=hB1.trans (hb.mono hB1.size);clear hb) | (go_at_call 58;refine (HF.out _ HI1.out).mono ?_;rintro e W3 ⟨fr,rfl,_,hb⟩))
      exact bodyPost_ret (results_tmp2 Tryz.results38 _ _ _) rfl ⟨rfl,hB1.trans (hb.mono hB1.size)⟩
    | some k =>
      obtain ⟨hk,hst,hkl⟩:=plc_lt12 hp
      rw [getV_hit12 hr hp]
      rw [hp] at HF
      rw [show plz12 (some k)=(k:Int) from rfl] at HF
      have HX:=Lib.hid (getD_at12 hk)
      clear hr hp hrt
      generalize at12 s.B k=x at *
      have q1:¬ (k:Int) < 0:=by omega
      have hk2:(k:Int) < (s.B.length:Int):=by omega
      go_enter Tryz.func38,Tryz.ntmps38
      go_upto_region 1 with (fail)
      rw [← hW1]
      clear hW1
      go_upto_region 6 with (first | (refine wpList_load_row rfl 31 _ rfl w.heap.size rfl _ _ _ _ i1 Tryz.underlying31 rfl infoSto12 ?_) | (go_at_call 30;refine (HB.out _ HI1.out).mono ?_;rintro e W2 ⟨rfl,hb⟩;have i1:=i1.below hb i1.lt;have HI1:=Lib.hid (HI1.out.keep hb);have hB1:=hB1.trans (hb.mono hB1.size);clear hb) | (go_at_call 58;refine (HF.out _ HI1.out).mono ?_;rintro e W3 ⟨fr,rfl,_,hb⟩;have i1:=i1.below hb i1.lt;have HI1:=Lib.hid (HI1.out.keep hb);have hB1:=hB1.trans (hb.mono hB1.size);clear hb))
      obtain ⟨b,off,rfl,hbl,hr2⟩:=HI1.out.b.bkt HX.out
      have c0:W3.cell? ⟨w.heap.size,0,none⟩=some (.slice (some ⟨b,off,none⟩) s.B.length c):=i1.cell 0
      have y2:W3.cell? ⟨b,off + k * 3 + 2,none⟩=some (.string x.c):=hr2 2 _ rfl
      clear hr2 HI1 HI HB HF
      go_wp2
      exact bodyPost_ret (results_tmp2 Tryz.results38 _ _ _) rfl ⟨rfl,hB1⟩
end Go.Proofs.YtmggbbmpckcleaaGreat
namespace Go.Proofs.YtmggbbmpckcleaaGreat
open Go.RowKit Go.Shelf
theorem InV.grown12 {W W':World} {D:Nat} {A:Option Addr} {B:List Bkt12} (h:InV W A (flB B)) (hg:W.grownBy W' (some D)) (hfar:∀ b off,A=some ⟨b,off,none⟩→B≠[]→b≠D):InV W' A (flB B):=fun j u hj=>by
  obtain ⟨b,off,rfl,hb,hc⟩:=h j u hj
  have hne:=hfar b off rfl (fun e=>by rw [e] at hj;cases hj)
  refine ⟨b,off,rfl,Nat.lt_of_lt_of_le hb hg.size,?_⟩
  rw [← hc]
  simp only [World.cell?,hg.block b hb (fun e=>hne (Option.some.inj e))]
theorem own12_1 (W0:World) (D1 D2:Nat) (s:Sto12) (A:Option Addr) (c:Nat) (hI:InS W0 s A c) (hf:s.B.length≤4096) (i1:Is W0 D1 31 (stoA s A c)) (i2:Is W0 D2 31 #[.slice none 0 0,.int .i64 0,.int .i64 0]) (hne:D1≠D2) (hfar:∀ b off,A=some ⟨b,off,none⟩→s.B≠[]→b≠D2) (x0 x3 x4 x5 x6 x7 x8 x9 Xa:Value) :
    (Code.region 1 (opsOf Tryz.f67 1) true).wp Tryz.prog (fun ex YY W=>ex=.normal∧YY.defers=[]∧∃ (AQ:Option Addr) (cQ:Nat),YY.tmps=#[x0,.pointer (some ⟨D1,0,none⟩),.pointer (some ⟨D2,0,none⟩),.pointer (some ⟨D1,0,none⟩),.slice A s.B.length c,.slice AQ s.B.length cQ,.pointer (some ⟨D1,1,none⟩),.int .i64 s.many,.pointer (some ⟨D1,2,none⟩),.int .i64 s.gone,.agg (stoA s AQ cQ)]∧W0.grownBy W (some D2)∧RowB W W0.heap.size AQ cQ s.B∧Is W D2 31 (stoA s AQ cQ)) { tmps:=#[x0,.pointer (some ⟨D1,0,none⟩),.pointer (some ⟨D2,0,none⟩),x3,x4,x5,x6,x7,x8,x9,Xa],defers:=[] } W0:=by
  obtain ⟨it,hi,hz0,hz1,hz2⟩:=infoThree10 infoBktz12
  have hB:W0.grownBy (W0.drewN 1) (some D2):=grown_below12 (belowN (Below.refl _ _) 1) _
  generalize hQ:(fun (ex:Exit) (YY:Act) (W:World)=>ex=.normal∧YY.defers=[]∧∃ (AQ:Option Addr) (cQ:Nat),YY.tmps=#[x0,.pointer (some ⟨D1,0,none⟩),.pointer (some ⟨D2,0,none⟩),.pointer (some ⟨D1,0,none⟩),.slice A s.B.length c,.slice AQ s.B.length cQ,.pointer (some ⟨D1,1,none⟩),.int .i64 s.many,.pointer (some ⟨D1,2,none⟩),.int .i64 s.gone,.agg (stoA s AQ cQ)]∧W0.grownBy W (some D2)∧RowB W W0.heap.size AQ cQ s.B∧Is W D2 31 (stoA s AQ cQ))=Q
  have HQN:∀ c a W,¬ Q (.panic c) a W:=fun c a W h=>by subst hQ;exact nomatch h.1
  have ST2_8:∀ (W:World) (AQ:Option Addr) (cQ:Nat),W0.grownBy W (some D2)→RowB W W0.heap.size AQ cQ s.B→Is W D2 31 (stoA s AQ cQ)→wpAnyH Tryz.prog .any (opsOf Tryz.f67 1) Q (fun W=>W0.grownBy W (some D2)) 0 #[true,true,true,true,true,true,true,true,true] { tmps:=#[x0,.pointer (some ⟨D1,0,none⟩),.pointer (some ⟨D2,0,none⟩),.pointer (some ⟨D1,0,none⟩),.slice A s.B.length c,.slice AQ s.B.length cQ,.pointer (some ⟨D1,1,none⟩),.int .i64 s.many,.pointer (some ⟨D1,2,none⟩),.int .i64 s.gone,.agg (stoA s AQ cQ)],defers:=[] } W:=by
    intro W AQ cQ hB hR iZ
    refine wpAnyH_done (by kernel_rfl) ?_ _
    subst hQ
    exact ⟨rfl,rfl,AQ,cQ,rfl,hB,hR,iZ⟩
  have ST2:∀ (W:World) (AQ:Option Addr) (cQ:Nat),W0.grownBy W (some D2)→Is W D2 31 #[.slice none 0 0,.int .i64 0,.int .i64 0]→RowB W W0.heap.size AQ cQ s.B→wpAnyH Tryz.prog .any (opsOf Tryz.f67 1) Q (fun W=>W0.grownBy W (some D2)) 1 #[true,true,true,true,true,true,true,true,false] { tmps:=#[x0,.pointer (some ⟨D1,0,none⟩),.pointer (some ⟨D2,0,none⟩),.pointer (some ⟨D1,0,none⟩),.slice A s.B.length c,.slice AQ s.B.length cQ,.pointer (some ⟨D1,1,none⟩),.int .i64 s.many,.pointer (some ⟨D1,2,none⟩),.int .i64 s.gone,.agg (stoA s AQ cQ)],defers:=[] } W:=by
    intro W AQ cQ hB iY hR
    refine wpAnyH_ready (by kernel_rfl) (by simp) (AllReadyH.cons (i:=8) (at_nth rfl) ?_ (AllReadyH.nil))
    · have hone:=stoA_one12 s AQ cQ
      have hB2:W0.grownBy (W.setRow D2 (stoA s AQ cQ)) (some D2):=⟨hB.os,hB.tape,hB.output,by simpa using hB.size,fun k hk hne2=>(setRow_other W D2 k _ (fun e=>hne2 (by rw [e]))).trans (hB.block k hk hne2)⟩
      have hR:=hR.rowFar iY (by decide) (stoA s AQ cQ)
      have iZ:=iY.row (stoA s AQ cQ)
      refine arm10_skip (w':=W.setRow D2 (stoA s AQ cQ)) (by kernel_rfl) (run_row10 (x:=.tmp 2) (y:=.tmp 10) (by kernel_rfl) (by kernel_rfl) (by kernel_rfl) iY infoSto12 rfl hone) hB2 ?_
      simp only [Act.put]
      have hB:=hB2
      clear hB2 hone iY
      exact ST2_8 _ _ _ hB hR iZ
  have ST:∀ (W:World),W0.grownBy W (some D2)→Is W D2 31 #[.slice none 0 0,.int .i64 0,.int .i64 0]→wpAnyH Tryz.prog .any (opsOf Tryz.f67 1) Q (fun W=>W0.grownBy W (some D2)) 3 #[true,true,false,true,true,true,true,false,false] { tmps:=#[x0,.pointer (some ⟨D1,0,none⟩),.pointer (some ⟨D2,0,none⟩),.pointer (some ⟨D1,0,none⟩),.slice A s.B.length c,x5,.pointer (some ⟨D1,1,none⟩),.int .i64 s.many,.pointer (some ⟨D1,2,none⟩),.int .i64 s.gone,Xa],defers:=[] } W:=by
    intro W hB iY
    refine wpAnyH_ready (by kernel_rfl) (by simp) (AllReadyH.cons (i:=2) (at_nth rfl) ?_ (AllReadyH.nil))
    · refine arm_copyV12 (by kernel_rfl) _ _ 29 70 it (.agg #[.int .i64 0,.string ⟨#[]⟩,.string ⟨#[]⟩]) 3 40 rfl Tryz.underlying29 hi hz0 hz1 hz2 rfl (by decide) A c s.B.length (flB s.B) (flB_len _) (flB_one _) (hI.b.grown12 hB hfar) hI.nil (by unfold maxLen;omega) (by omega) ⟨rfl,rfl⟩ W0.heap.size hB.size ?_
      intro AQ cQ Wn hR hb
      have iY:=iY.below hb iY.lt
      have hB:=grown_trans12 hB (grown_below12 hb _)
      clear hb
      refine ⟨hB,?_⟩
      simp only [Act.put,zz0,zz1,zz2]
      refine wpP (i:=7) (v:=.agg (stoA s AQ cQ)) HQN rfl (fun w hSw=>by go_simp) hB ?_
      simp only [Act.put,zz0,zz1,zz2]
      exact ST2 _ _ _ hB iY hR
  refine wp_region_held_drew (S:=fun W=>W0.grownBy W (some D2)) (by kernel_rfl) hB (fun hS=>?_)
  change wpAnyH _ _ (opsOf Tryz.f67 1) _ _ 9 (Array.replicate 9 false) _ (W0.drewN 1)
  clear hS
  replace hB:W0.grownBy (W0.drewN 1) (some D2):=grown_below12 (belowN (Below.refl _ _) 1) _
  refine wpP (i:=0) (v:=.pointer (some ⟨D1,0,none⟩)) HQN rfl (fun w hSw=>by go_simp) hB ?_
  simp only [Act.put,zz0,zz1,zz2]
  refine wpP (i:=1) (v:=.slice A s.B.length c) HQN rfl (fun w hSw=>by (have hc:=(Is.row_of12 hSw i1 hne).cell 0;go_simp)) hB ?_
  simp only [Act.put,zz0,zz1,zz2]
  refine wpP (i:=3) (v:=.pointer (some ⟨D1,1,none⟩)) HQN rfl (fun w hSw=>by go_simp) hB ?_
  simp only [Act.put,zz0,zz1,zz2]
  refine wpP (i:=4) (v:=.int .i64 s.many) HQN rfl (fun w hSw=>by (have hc:=(Is.row_of12 hSw i1 hne).cell 1;go_simp)) hB ?_
  simp only [Act.put,zz0,zz1,zz2]
  refine wpP (i:=5) (v:=.pointer (some ⟨D1,2,none⟩)) HQN rfl (fun w hSw=>by go_simp) hB ?_
  simp only [Act.put,zz0,zz1,zz2]
  refine wpP (i:=6) (v:=.int .i64 s.gone) HQN rfl (fun w hSw=>by (have hc:=(Is.row_of12 hSw i1 hne).cell 2;go_simp)) hB ?_
  simp only [Act.put,zz0,zz1,zz2]
  exact ST _ hB i2
theorem down_any12 (s:Sto12) (A:Option Addr) (c:Nat) (w:World) (h:InS w s A c) (hf:s.B.length≤4096) :
    Calls Tryz.prog 67 #[stoV s A c] w fun e w'=>∃ A1 c1,e=.returned (stoV s A1 c1)∧RowB w' w.heap.size A1 c1 s.B∧Below w.heap.size w w':=by
  obtain ⟨W1,hW1⟩:∃ W1,W1=(w.alloc (.cells (stoA s A c) 31)).alloc (.cells #[.slice none 0 0,.int .i64 0,.int .i64 0] 31):=⟨_,rfl⟩
  have i1:Is W1 w.heap.size 31 (stoA s A c):=by rw [hW1];exact heap_alloc2_old _ _ _
  have i2:Is W1 (w.heap.size + 1) 31 #[.slice none 0 0,.int .i64 0,.int .i64 0]:=by rw [hW1];exact heap_alloc2_new _ _ _
  have hB1:Below w.heap.size w W1:=by rw [hW1];exact ((Below.refl _ _).alloc (Nat.le_refl _) _).alloc (by simp) _
  have hI1:=h.keep hB1
  have hfar:∀ b off,A=some ⟨b,off,none⟩→s.B≠[]→b≠w.heap.size + 1:=fun b off e hn=>by
    have:=h.b.blkB _ e hn
    show b≠_
    have h2:b < w.heap.size:=this
    omega
  have hsz:w.heap.size≤W1.heap.size:=hB1.size
  go_enter Tryz.func67,Tryz.ntmps67
  go_upto_region 1 with (fail)
  rw [← hW1]
  clear hW1
  refine Code.wp_mono ?_ (own12_1 W1 w.heap.size (w.heap.size + 1) s A c hI1 hf i1 i2 (by omega) hfar _ _ _ _ _ _ _ _ _)
  rintro ex ⟨T,D⟩ W5 ⟨rfl,hDf,A1,c1,hT,hg,hR,iZ⟩
  simp only at hT hDf
  subst hT
  subst hDf
  go_wp2
  exact bodyPost_ret (results_cell_row Tryz.results67 _ _ (w.heap.size + 1) 31 _ (0,0) _ rfl iZ Tryz.underlying31 rfl infoSto12) rfl ⟨A1,c1,rfl,hR.mono hsz,⟨hg.os.trans hB1.os,hg.tape.trans hB1.tape,hg.output.trans hB1.output,Nat.le_trans hB1.size hg.size,fun k hk=>(hg.block k (Nat.lt_of_lt_of_le hk hB1.size) (by intro e;have:=Option.some.inj e;omega)).trans (hB1.block k hk)⟩⟩
end Go.Proofs.YtmggbbmpckcleaaGreat
namespace Go.Proofs.YtmggbbmpckcleaaGreat
open Go.RowKit Go.Shelf
theorem ddel_any12 (s:Sto12) (A:Option Addr) (c:Nat) (l:ByteArray) (w:World) (h:InS w s A c) (hf:s.B.length≤4096) :
    Calls Tryz.prog 39 #[stoV s A c,.string l] w fun e w'=>∃ A1 c1,e=.returned (.tuple #[stoV (delV12 s l).1 A1 c1,.bool (delV12 s l).2.1,.int .i64 (delV12 s l).2.2])∧InS w' (delV12 s l).1 A1 c1∧Below w.heap.size w w':=by
  have HB:=Lib.hid (fun W (hB:Below w.heap.size w W)=>dright_any12 s A c W (h.keep hB))
  have HC:=Lib.hid (fun W (hB:Below w.heap.size w W)=>down_any12 s A c W (h.keep hB) hf)
  have HI:=Lib.hid h
  have HLE:=Lib.hid hf
  obtain ⟨W0,hW0⟩:∃ W,W=(w.alloc (.cells (stoA s A c) 31)).alloc (.cells #[.slice none 0 0,.int .i64 0,.int .i64 0] 31):=⟨_,rfl⟩
  have i0:Is W0 w.heap.size 31 (stoA s A c):=by rw [hW0];exact heap_alloc2_old w _ _
  have j0:Is W0 (w.heap.size + 1) 31 #[.slice none 0 0,.int .i64 0,.int .i64 0]:=by rw [hW0];exact heap_alloc2_new w _ _
  have hB0:Below w.heap.size w W0:=by rw [hW0];exact ((Below.refl _ _).alloc (Nat.le_refl _) _).alloc (by simp) _
  cases hr:right12 s with
  | false =>
    rw [delV_no12 hr]
    rw [hr] at HB
    clear hr h
    go_enter Tryz.func39,Tryz.ntmps39
    go_upto_region 1 with (fail)
    rw [← hW0]
    clear hW0
    go_wp2_with (refine wpList_load_row rfl 31 _ rfl w.heap.size rfl _ _ _ _ i0 Tryz.underlying31 rfl infoSto12 ?_)
    refine (HC.out _ hB0).mono ?_
    rintro e W2 ⟨A1,c1,rfl,hr2,hb2⟩
    have hB2:=hB0.trans (hb2.mono hB0.size)
    have i2:=i0.below hb2 i0.lt
    have j2:=j0.below hb2 j0.lt
    have HS2:=Lib.hid (stoA_one12 s A1 c1)
    have HR2:=Lib.hid (RowV.alloc (hr2.mono hB0.size) (.cells (stoA s A1 c1) 31))
    have i3:=i2.alloc (.cells (stoA s A1 c1) 31)
    have j3:=j2.alloc (.cells (stoA s A1 c1) 31)
    have k3:=Is.new W2 31 (stoA s A1 c1)
    have hB3:=hB2.alloc hB2.size (.cells (stoA s A1 c1) 31)
    clear i2 j2 hB2 hb2 hr2 i0 j0 hB0
    go_wp2_with (refine wpList_load_row rfl 31 _ rfl w.heap.size rfl _ _ _ _ i3 Tryz.underlying31 rfl infoSto12 ?_)
    refine (HB.out _ hB3).mono ?_
    rintro e W4 ⟨rfl,hb4⟩
    have hB4:=hB3.trans (hb4.mono hB3.size)
    have j4:=j3.below hb4 j3.lt
    have k4:=k3.below hb4 k3.lt
    have HR4:=Lib.hid (RowV.below HR2.out hb4)
    clear hb4 i3 j3 k3
    go_wp2_with (first | (refine wpList_load_row rfl 31 _ rfl W2.heap.size rfl _ _ _ _ k4 Tryz.underlying31 rfl infoSto12 ?_) | (refine wpList_store_row rfl 31 _ _ rfl (w.heap.size + 1) (stoA s A1 c1) rfl rfl 31 _ j4 infoSto12 rfl HS2.out ?_))
    exact bodyPost_ret (results_rtt12 Tryz.results39 _ _ (w.heap.size + 1) 31 _ (0,0) _ rfl (j4.row _) Tryz.underlying31 rfl infoSto12) rfl ⟨A1,c1,rfl,RowB.inS (RowV.rowFar HR4.out j4 (by decide) _) HLE.out,belowRow hB4 (by omega) _⟩
  | true =>
    rw [hr] at HB
    have hrt:=(right_iff12.1 hr).bnd
    have HF:=Lib.hid (fun W (hB:Below w.heap.size w W)=>dfind_any12 s A c l W (h.keep hB) hf)
    have HLEN:=Lib.hid hrt.len
    have hmany:=hrt.many
    have hgone:=hrt.gone
    have w1:=IntWalk.i64_in (s.many - 1) (by omega)
    have w2:=IntWalk.i64_in (s.gone + 1) (by omega)
    cases hk:plc12 s.B l with
    | none =>
      rw [delV_miss12 hr hk]
      rw [hk,show plz12 none=-1 from rfl] at HF
      clear hr h hrt hk
      go_enter Tryz.func39,Tryz.ntmps39
      go_upto_region 1 with (fail)
      rw [← hW0]
      clear hW0
      go_wp2_with (refine wpList_load_row rfl 31 _ rfl w.heap.size rfl _ _ _ _ i0 Tryz.underlying31 rfl infoSto12 ?_)
      refine (HC.out _ hB0).mono ?_
      rintro e W2 ⟨A1,c1,rfl,hr2,hb2⟩
      have hB2:=hB0.trans (hb2.mono hB0.size)
      have i2:=i0.below hb2 i0.lt
      have j2:=j0.below hb2 j0.lt
      have HS2:=Lib.hid (stoA_one12 s A1 c1)
      have HR2:=Lib.hid (RowV.alloc (hr2.mono hB0.size) (.cells (stoA s A1 c1) 31))
      have i3:=i2.alloc (.cells (stoA s A1 c1) 31)
      have j3:=j2.alloc (.cells (stoA s A1 c1) 31)
      have k3:=Is.new W2 31 (stoA s A1 c1)
      have hB3:=hB2.alloc hB2.size (.cells (stoA s A1 c1) 31)
      clear i2 j2 hB2 hb2 hr2 i0 j0 hB0
      go_wp2_with (refine wpList_load_row rfl 31 _ rfl w.heap.size rfl _ _ _ _ i3 Tryz.underlying31 rfl infoSto12 ?_)
      refine (HB.out _ hB3).mono ?_
      rintro e W4 ⟨rfl,hb4⟩
      have hB4:=hB3.trans (hb4.mono hB3.size)
      have i4:=i3.below hb4 i3.lt
      have j4:=j3.below hb4 j3.lt
      have k4:=k3.below hb4 k3.lt
      have HR4:=Lib.hid (RowV.below HR2.out hb4)
      clear hb4 i3 j3 k3 hB3
      go_wp2_with (refine wpList_load_row rfl 31 _ rfl w.heap.size rfl _ _ _ _ i4 Tryz.underlying31 rfl infoSto12 ?_)
      refine (HF.out _ hB4).mono ?_
      rintro e W5 ⟨fr,rfl,_,hb5⟩
      have hB5:=hB4.trans (hb5.mono hB4.size)
      have j5:=j4.below hb5 j4.lt
      have k5:=k4.below hb5 k4.lt
      have HR5:=Lib.hid (RowV.below HR4.out hb5)
      clear hb5 i4 j4 k4 hB4
      go_wp2_with (first | (refine wpList_load_row rfl 31 _ rfl W2.heap.size rfl _ _ _ _ k5 Tryz.underlying31 rfl infoSto12 ?_) | (refine wpList_store_row rfl 31 _ _ rfl (w.heap.size + 1) (stoA s A1 c1) rfl rfl 31 _ j5 infoSto12 rfl HS2.out ?_))
      exact bodyPost_ret (results_rtt12 Tryz.results39 _ _ (w.heap.size + 1) 31 _ (0,0) _ rfl (j5.row _) Tryz.underlying31 rfl infoSto12) rfl ⟨A1,c1,rfl,RowB.inS (RowV.rowFar HR5.out j5 (by decide) _) HLE.out,belowRow hB5 (by omega) _⟩
    | some k =>
      rw [delV_hit12 hr hk]
      rw [hk,show plz12 (some k)=(k:Int) from rfl] at HF
      have hkl:=(plc_lt12 hk).1
      have hk1:(k:Int) < (s.B.length:Int):=by omega
      have hk0:¬ (k:Int) < 0:=by omega
      have HKL:=Lib.hid hkl
      have hlen:(s.B.set k gon12).length=s.B.length:=List.length_set
      clear hr h hrt hk
      go_enter Tryz.func39,Tryz.ntmps39
      go_upto_region 1 with (fail)
      rw [← hW0]
      clear hW0
      go_wp2_with (refine wpList_load_row rfl 31 _ rfl w.heap.size rfl _ _ _ _ i0 Tryz.underlying31 rfl infoSto12 ?_)
      refine (HC.out _ hB0).mono ?_
      rintro e W2 ⟨A1,c1,rfl,hr2,hb2⟩
      obtain ⟨g,cur,rfl,hgb,hgc,hz⟩:=hr2.open (by have:=HLEN.out;omega)
      have hgl:=hgc.lt
      clear hz hgc cur
      have hB2:=hB0.trans (hb2.mono hB0.size)
      have i2:=i0.below hb2 i0.lt
      have j2:=j0.below hb2 j0.lt
      have HR2:=Lib.hid (RowV.alloc (hr2.mono hB0.size) (.cells (stoA s (some ⟨g,0,none⟩) c1) 31))
      have i3:=i2.alloc (.cells (stoA s (some ⟨g,0,none⟩) c1) 31)
      have j3:=j2.alloc (.cells (stoA s (some ⟨g,0,none⟩) c1) 31)
      have k3:=Is.new W2 31 (stoA s (some ⟨g,0,none⟩) c1)
      have hB3:=hB2.alloc hB2.size (.cells (stoA s (some ⟨g,0,none⟩) c1) 31)
      have hjl:=j2.lt
      have hjl1:=j0.lt
      have hW2:=hB2.size
      clear i2 j2 hB2 hb2 hr2 i0 j0 hB0
      go_wp2_with (refine wpList_load_row rfl 31 _ rfl w.heap.size rfl _ _ _ _ i3 Tryz.underlying31 rfl infoSto12 ?_)
      refine (HB.out _ hB3).mono ?_
      rintro e W3 ⟨rfl,hb3⟩
      have hBx:=hB3.trans (hb3.mono hB3.size)
      have ix:=i3.below hb3 i3.lt
      have jx:=j3.below hb3 j3.lt
      have kx:=k3.below hb3 k3.lt
      have HRx:=Lib.hid (RowV.below HR2.out hb3)
      clear hb3 i3 j3 k3 hB3 HR2
      go_wp2_with (refine wpList_load_row rfl 31 _ rfl w.heap.size rfl _ _ _ _ ix Tryz.underlying31 rfl infoSto12 ?_)
      refine (HF.out _ hBx).mono ?_
      rintro e W4 ⟨fr,rfl,_,hb4⟩
      have hB4:=hBx.trans (hb4.mono hBx.size)
      have j4:=jx.below hb4 jx.lt
      have k4:=kx.below hb4 kx.lt
      have r4:RowB W4 w.heap.size (some ⟨g,0,none⟩) c1 s.B:=RowV.below HRx.out hb4
      clear hb4 ix jx kx HRx hBx
      have c0:W4.cell? ⟨W2.heap.size,0,none⟩=some (.slice (some ⟨g,0,none⟩) s.B.length c1):=k4.cell 0
      have HT:=Lib.hid (RowB.there r4 hkl)
      have M1:=Lib.hid (show Is (W4.setCells g (k * 3) [.int .i64 2,.string ⟨#[]⟩,.string ⟨#[]⟩]) (w.heap.size + 1) 31 #[.slice none 0 0,.int .i64 0,.int .i64 0] from j4.cells3 (by omega) _ _ _ _)
      have M2:=Lib.hid (show Is (W4.setCells g (k * 3) [.int .i64 2,.string ⟨#[]⟩,.string ⟨#[]⟩]) W2.heap.size 31 #[.slice (some ⟨g,0,none⟩) s.B.length c1,.int .i64 s.many,.int .i64 s.gone] from k4.cells3 (by omega) _ _ _ _)
      have M3:=Lib.hid (show RowB (W4.setCells g (k * 3) [.int .i64 2,.string ⟨#[]⟩,.string ⟨#[]⟩]) w.heap.size (some ⟨g,0,none⟩) c1 (s.B.set k gon12) from RowB.put r4 hkl gon12)
      have M4:=Lib.hid (below_cells3 hB4 (g:=g) (by omega) (k * 3) (.int .i64 2) (.string ⟨#[]⟩) (.string ⟨#[]⟩))
      clear j4 k4 r4 hB4
      go_upto_region 8 with (refine wpList_store_bkt12 rfl _ _ rfl g (k * 3) 2 ⟨#[]⟩ ⟨#[]⟩ rfl rfl HT.out ?_)
      have m1:=M1.out
      have m2:=M2.out
      have m3:=M3.out
      have m4:=M4.out
      clear M1 M2 M3 M4 HT c0
      generalize W4.setCells g (k * 3) [.int .i64 2,.string ⟨#[]⟩,.string ⟨#[]⟩]=W5 at *
      have d1:W5.cell? ⟨W2.heap.size,1,none⟩=some (.int .i64 s.many):=m2.cell 1
      have e1:=m2.frozen 1
      have hn2:Is (W5.setCell ⟨W2.heap.size,1,none⟩ (.int .i64 (s.many - 1))) W2.heap.size 31 #[.slice (some ⟨g,0,none⟩) s.B.length c1,.int .i64 (s.many - 1),.int .i64 s.gone]:=m2.set 1 _
      have d2:(W5.setCell ⟨W2.heap.size,1,none⟩ (.int .i64 (s.many - 1))).cell? ⟨W2.heap.size,2,none⟩=some (.int .i64 s.gone):=hn2.cell 2
      have e2:=hn2.frozen 2
      have n2:Is ((W5.setCell ⟨W2.heap.size,1,none⟩ (.int .i64 (s.many - 1))).setCell ⟨W2.heap.size,2,none⟩ (.int .i64 (s.gone + 1))) W2.heap.size 31 #[.slice (some ⟨g,0,none⟩) s.B.length c1,.int .i64 (s.many - 1),.int .i64 (s.gone + 1)]:=(m2.set 1 _).set 2 _
      have n1:=(m1.far (p:=⟨W2.heap.size,1,none⟩) (by simp only [];omega) (.int .i64 (s.many - 1))).far (p:=⟨W2.heap.size,2,none⟩) (by simp only [];omega) (.int .i64 (s.gone + 1))
      have n3:=(RowV.far m3 (p:=⟨W2.heap.size,1,none⟩) m2 (by decide) (.int .i64 (s.many - 1))).far (p:=⟨W2.heap.size,2,none⟩) (m2.set 1 _) (by decide) (.int .i64 (s.gone + 1))
      have n4:=(m4.setCell (p:=⟨W2.heap.size,1,none⟩) (by simp only [];omega) (.int .i64 (s.many - 1))).setCell (p:=⟨W2.heap.size,2,none⟩) (by simp only [];omega) (.int .i64 (s.gone + 1))
      have HONE:=Lib.hid (show (#[.slice (some ⟨g,0,none⟩) s.B.length c1,.int .i64 (s.many - 1),.int .i64 (s.gone + 1)]:Array Value).all (·.oneCell')=true by rw [← Array.all_toList];rfl)
      have Z3:=Lib.hid (RowV.rowFar n3 n1 (by decide) #[.slice (some ⟨g,0,none⟩) s.B.length c1,.int .i64 (s.many - 1),.int .i64 (s.gone + 1)])
      have Z4:=Lib.hid n4
      clear n3 n4 m1 m2 m3 m4 hn2
      go_wp2_with (first | (refine wpList_load_row rfl 31 _ rfl W2.heap.size rfl _ _ _ _ n2 Tryz.underlying31 rfl infoSto12 ?_) | (refine wpList_store_row rfl 31 _ _ rfl (w.heap.size + 1) #[.slice (some ⟨g,0,none⟩) s.B.length c1,.int .i64 (s.many - 1),.int .i64 (s.gone + 1)] rfl rfl 31 _ n1 infoSto12 rfl HONE.out ?_))
      exact bodyPost_ret (results_rtt12 Tryz.results39 _ _ (w.heap.size + 1) 31 _ (0,0) _ rfl (n1.row _) Tryz.underlying31 rfl infoSto12) rfl ⟨some ⟨g,0,none⟩,c1,by show _=Ending.returned (.tuple #[.agg #[.slice _ (s.B.set k gon12).length _,_,_],_,_]);rw [hlen];rfl,RowB.inS (s:=⟨s.B.set k gon12,s.many - 1,s.gone + 1⟩) Z3.out (by show (s.B.set k gon12).length≤4096;rw [hlen];exact HLEN.out.2),belowRow Z4.out (by omega) _⟩
end Go.Proofs.YtmggbbmpckcleaaGreat
