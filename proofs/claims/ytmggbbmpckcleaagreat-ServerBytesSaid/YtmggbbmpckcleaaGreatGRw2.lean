import Derived.Test.YtmggbbmpckcleaaGreatGRw1
import Derived.Deep.Matrix
set_option maxRecDepth 100000
set_option maxHeartbeats 16000000
namespace Go.Proofs.YtmggbbmpckcleaaGreat
open Go.ChangeShapes Go.WideShapes Go.ChangeAt Go.WideMaps Go.WideElems Go.RowKit
abbrev Row13:=Option Addr × List Int × Nat
def grV13 (Rs:List Row13):List Value:=Rs.map fun r=>.slice r.1 r.2.1.length r.2.2
def GrIn13 (W:World) (Rs:List Row13):Prop:=∀ r ∈ Rs,InV W r.1 (iV11 r.2.1)∧Big11 r.2.1∧r.2.1.length≤r.2.2∧r.2.1.length≤maxLen
theorem GrIn13.keep {W W':World} {Rs:List Row13} (h:GrIn13 W Rs) (hb:Below W.heap.size W W'):GrIn13 W' Rs:=fun r hr=>⟨(h r hr).1.keep hb,(h r hr).2⟩
section
variable {H:Type} {enc:TypeId × Value→H} {W:World} {base:Nat} {held:Bool}
theorem grid13 {fuel:Nat} {A:Option Addr} {len cap:Nat} {x:DataW H × List MemPlace}
  (hf:DataW.trod enc Tryz.prog W base (fun _=>true) held fuel 22 (Value.slice A len cap).cells.toList=some x):len≤maxLen∧∃ Rs:List Row13,Rs.length=len∧InV W A (grV13 Rs)∧GrIn13 W Rs:=by
 rcases Go.Deep.open_int_rows Tryz.underlying22 Tryz.underlying23 Tryz.underlying3 (by kernel_rfl) (by kernel_rfl) hf with ⟨hcs,_⟩ | ⟨a,l,c,AA,L,C,Z,hcs,_,hl,hm,_,hr⟩
 ·
  simp [Value.cells] at hcs
  obtain ⟨rfl,rfl,rfl⟩:=hcs
  exact ⟨by simp [maxLen],[],rfl,fun j u hj=>(by cases hj),fun r hr=>by cases hr⟩
 ·
  simp [Value.cells] at hcs
  obtain ⟨rfl,rfl,rfl⟩:=hcs
  have hzl:∀ j,j < cap→((Z j).take (L j)).length=L j:=fun j hj=>by
   obtain ⟨_,h2,_,h4,_⟩:=hr j hj
   rw [List.length_take];omega
  refine ⟨Nat.le_trans hl hm,(List.range len).map fun r=>(AA r,(Z r).take (L r),C r),by simp,fun j u hj=>?_,fun r hr2=>?_⟩
  ·
   have hj2:j < len:=by
    have:=(List.getElem?_eq_some_iff.1 hj).1
    simpa [grV13] using this
   have h0:=(hr 0 (by omega)).1
   have h1:=(hr j (by omega)).1
   rw [grV13,List.map_map,List.getElem?_map,List.getElem?_range hj2] at hj
   cases hj
   obtain ⟨ab,ao,sp⟩:=a
   have hspot:sp=none:=by simpa [Addr.add] using World.cell?_spot h0
   subst hspot
   rw [Go.WideShapes.add_plain] at h1
   refine ⟨ab,ao,rfl,block_lt_of_cell h1,?_⟩
   rw [h1]
   show some (Value.slice (AA j) (L j) (C j))=some (Value.slice (AA j) ((Z j).take (L j)).length (C j))
   rw [hzl j (by omega)]
  ·
   obtain ⟨j,hj,rfl⟩:=List.mem_map.1 hr2
   have hj2:=List.mem_range.1 hj
   have hlj:=hzl j (by omega)
   obtain ⟨h1,h2,h3,h4,h5,h6,h7⟩:=hr j (by omega)
   refine ⟨fun i u hi=>?_,fun y hy=>bounds_i64 (h5 y (List.mem_of_mem_take hy)),by rw [hlj];exact h2,by rw [hlj];exact Nat.le_trans h2 h3⟩
   have hi2:i < L j:=by
    have:=(List.getElem?_eq_some_iff.1 hi).1
    rw [List.length_map] at this
    rwa [hlj] at this
   cases hA:AA j with
   | none=>rw [h6 hA] at h2;omega
   | some a' =>
    obtain ⟨_,hc⟩:=h7 a' hA
    obtain ⟨b,off,rfl,hc2⟩:=ints_at (a:=a') (k:=.i64) (zs:=Z j) (fun i hi=>hc i (by omega)) (by omega)
    have hcj:=hc2 i (by omega)
    refine ⟨b,off,rfl,block_lt_of_cell hcj,?_⟩
    rw [hcj,← hi,List.getElem?_map,List.getElem?_take,if_pos hi2,List.getElem?_eq_getElem (by omega),List.getD_eq_getElem?_getD,List.getElem?_eq_getElem (by omega)]
    rfl
end
end Go.Proofs.YtmggbbmpckcleaaGreat
namespace Go.Proofs.YtmggbbmpckcleaaGreat
open Go.ChangeShapes Go.WideShapes Go.ChangeAt Go.WideMaps Go.WideElems Go.RowKit
section
variable {H:Type} {enc:TypeId × Value→H} {W:World} {base:Nat} {sp:Nat→Bool} {held:Bool}
theorem intsCap13 {fuel:Nat} {A:Option Addr} {len cap:Nat} {x:DataW H × List MemPlace}
  (hf:DataW.trod enc Tryz.prog W base sp held fuel 23 (Value.slice A len cap).cells.toList=some x):len≤cap:=by
 rcases open_ints Tryz.underlying23 Tryz.underlying3 (by kernel_rfl) hf with ⟨hcs,_⟩ | ⟨y,l,c,zs,hcs,_,hl,_⟩
 ·
  simp [Value.cells] at hcs
  obtain ⟨rfl,rfl,rfl⟩:=hcs
  exact Nat.le_refl _
 ·
  simp [Value.cells] at hcs
  obtain ⟨rfl,rfl,rfl⟩:=hcs
  exact hl
end
end Go.Proofs.YtmggbbmpckcleaaGreat
