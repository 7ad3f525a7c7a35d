import Derived.Test.YtmggbbmpckcleaaGreatGCo3
import Derived.Test.YtmggbbmpckcleaaGreatGWi2
import Derived.Test.YtmggbbmpckcleaaGreatRows
import Derived.ProofKit
import Derived.OpenShut
import Derived.LaidMore
import Derived.Below
import Derived.ChangeSame
import Derived.ChangeOld
import Derived.Carry
import Derived.SliceStrings
import Derived.Laws.IdiomArrays
import Derived.Deep.Slices
set_option maxRecDepth 100000
set_option maxHeartbeats 16000000
namespace Go.Proofs.YtmggbbmpckcleaaGreat
open Go.ChangeShapes Go.WideShapes Go.ChangeAt Go.WideMaps Go.WideElems Go.RowKit
theorem own:ownKnob Tryz.prog.godebug=none:=by kernel_rfl
theorem laidOut:laidOutB Tryz.prog=true:=by kernel_rfl
section
variable {H:Type} {enc:TypeId × Value→H} {W:World} {base:Nat} {sp:Nat→Bool} {held:Bool}
end
end Go.Proofs.YtmggbbmpckcleaaGreat
namespace Go.Proofs.YtmggbbmpckcleaaGreat
open Go.ChangeShapes Go.WideShapes Go.ChangeAt Go.WideMaps Go.WideElems Go.RowKit
section
variable {H:Type} {enc:TypeId × Value→H} {W:World} {base:Nat} {sp:Nat→Bool} {held:Bool}
theorem ints11 {fuel:Nat} {A:Option Addr} {len cap:Nat} {x:DataW H × List MemPlace}
  (hf:DataW.trod enc Tryz.prog W base sp held fuel 23 (Value.slice A len cap).cells.toList=some x):len≤maxLen∧∃ L:List Int,L.length=len∧InV W A (iV11 L)∧Big11 L:=by
 rcases open_ints Tryz.underlying23 Tryz.underlying3 (by kernel_rfl) hf with ⟨hcs,_⟩ | ⟨y,l,c,zs,hcs,_,hl,hm,hz,_,hcell,hwz⟩
 ·
  simp [Value.cells] at hcs
  obtain ⟨rfl,rfl,rfl⟩:=hcs
  exact ⟨by simp [maxLen],[],rfl,fun j u hj=>(by cases hj),fun y hy=>by cases hy⟩
 ·
  simp [Value.cells] at hcs
  obtain ⟨rfl,rfl,rfl⟩:=hcs
  have hzl:len≤zs.length:=by rw [hz];split <;> omega
  refine ⟨Nat.le_trans hl hm,zs.take len,by rw [List.length_take];omega,fun j u hj=>?_,fun u hu=>?_⟩
  ·
   have hj2:j < len:=by
    have:=(List.getElem?_eq_some_iff.1 hj).1
    rw [List.length_map,List.length_take] at this
    omega
   obtain ⟨b,off,rfl,hc⟩:=ints_at hcell (by omega)
   have hcj:=hc j (by omega)
   refine ⟨b,off,rfl,block_lt_of_cell hcj,?_⟩
   rw [hcj,← hj,List.getElem?_map,List.getElem?_take,if_pos hj2,List.getElem?_eq_getElem (by omega),List.getD_eq_getElem?_getD,List.getElem?_eq_getElem (by omega)]
   rfl
  ·
   obtain ⟨j,hj,rfl⟩:=List.getElem_of_mem hu
   have hj2:j < zs.length:=by rw [List.length_take] at hj;omega
   have:=range_i64 hwz j
   rw [List.getElem?_eq_getElem hj2] at this
   rw [List.getElem_take]
   exact this
end
end Go.Proofs.YtmggbbmpckcleaaGreat
