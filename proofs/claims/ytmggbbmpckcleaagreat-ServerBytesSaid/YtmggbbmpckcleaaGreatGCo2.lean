import Derived.Test.YtmggbbmpckcleaaGreatGCo1
import Derived.Test.YtmggbbmpckcleaaGreatGId1
import Derived.Test.YtmggbbmpckcleaaGreatGKit
import Derived.Test.YtmggbbmpckcleaaGreatChecked
import Derived.Lib.Strings
import Derived.Lib.Walk
import Derived.Lib.BufferWrite
import Derived.Lib.UnsafeStr
import Derived.Laws.MakeOwn
import Derived.Lib.FrozenHead
import Derived.Lib.OthersKept
import Derived.Lib.BufStepsIn
import Derived.RangeFuncFrom
set_option maxRecDepth 100000
set_option maxHeartbeats 16000000
namespace Go.Proofs.YtmggbbmpckcleaaGreat
open Go.RowKit Go.Shelf
theorem infoU8x:(Tryz.prog.info? 5).map (fun i=>(i.zero,i.size,i.bytes))=some (some (.int .u8 0),1,1):=by kernel_rfl
theorem conv_num10 {W:World} {g:Nat} {n:Int} (h:Is W g 5 #[.int .u8 (n / 16777216 % 256),.int .u8 (n / 65536 % 256),.int .u8 (n / 256 % 256),.int .u8 (n % 256)]) :
  (convert 93 9 (.slice (some ⟨g,0,none⟩) 4 4)).run Tryz.prog W=.ok (.string (num10 n)) W :=
 run_convert_bytes_arg (P:=Tryz.prog) W 93 5 Tryz.underlying93 Tryz.underlying5 g 0 4 4 (fb10 n) rfl (fun i hi=>by
  rw [Nat.zero_add,h.cell]
  match i,hi with
  | 0,_=>rfl
  | 1,_=>rfl
  | 2,_=>rfl
  | 3,_=>rfl) 9 Tryz.underlying9
theorem conv_num10s {W:World} {g:Nat} {n:Int} (h0:0≤n) (h1:n≤2147483647) (h:Is W g 5 #[.int .u8 (n / 16777216),.int .u8 (n / 65536 % 256),.int .u8 (n / 256 % 256),.int .u8 (n % 256)]) :
  (convert 93 9 (.slice (some ⟨g,0,none⟩) 4 4)).run Tryz.prog W=.ok (.string (num10 n)) W :=
 conv_num10 (n:=n) (by rw [show n / 16777216 % 256=n / 16777216 by omega];exact h)
theorem numB_any (n:Int) (w:World) (h0:0≤n) (h1:n≤2147483647) :
  Calls Tryz.prog 127 #[.int .i64 n] w fun e w'=>e=.returned (.string (num10 n))∧Below w.heap.size w w':=by
 have hc:=conv_num10s (n:=n) h0 h1 (Is.new w 5 #[.int .u8 (n / 16777216),.int .u8 (n / 65536 % 256),.int .u8 (n / 256 % 256),.int .u8 (n % 256)])
 go_enter Tryz.func127,Tryz.ntmps127
 go_wp2
 go_ret
 exact ⟨rfl,(Below.refl _ _).alloc (Nat.le_refl _) _⟩
def numR10 (n:Int):Value:=.tuple #[.string (numV10 n).1,.int .i64 (numV10 n).2]
theorem numR_ok10 {n:Int} (h0:0≤n) (h1:n≤2147483647):numR10 n=.tuple #[.string (num10 n),.int .i64 0]:=by
 rw [numR10,numV10,if_pos (show numE10 n=true by simp [numE10,h0,h1])]
theorem numR_no10 {n:Int} (h:¬ (0≤n∧n≤2147483647)):numR10 n=.tuple #[.string ⟨#[]⟩,.int .i64 1]:=by
 rw [numR10,numV10,if_neg (show ¬ numE10 n=true by simp only [numE10,Bool.and_eq_true,decide_eq_true_eq];exact h)]
theorem num_any10 (n:Int) (w:World) :
  Calls Tryz.prog 108 #[.int .i64 n] w fun e w'=>e=.returned (numR10 n)∧Below w.heap.size w w':=by
 by_cases h0:0≤n
 ·
  by_cases h1:n≤2147483647
  ·
   have HC:=Lib.hid (numB_any n w h0 h1)
   rw [numR_ok10 h0 h1]
   go_enter Tryz.func108,Tryz.ntmps108
   go_wp2_with (go_at_call 127;refine HC.out.mono ?_;rintro e w1 ⟨rfl,hb⟩)
   go_ret2
   exact ⟨rfl,hb⟩
  ·
   rw [numR_no10 (by omega)]
   go_enter Tryz.func108,Tryz.ntmps108
   go_wp2
   go_ret2
   exact ⟨rfl,Below.refl _ _⟩
 ·
  rw [numR_no10 (by omega)]
  go_enter Tryz.func108,Tryz.ntmps108
  go_wp2
  go_ret2
  exact ⟨rfl,Below.refl _ _⟩
theorem dnum_any10 (n:Int) (w:World) :
  Calls Tryz.prog 69 #[.int .i64 n] w fun e w'=>e=.returned (numR10 n)∧Below w.heap.size w w':=by
 by_cases h0:0≤n
 ·
  by_cases h1:n≤2147483647
  ·
   have hc:=conv_num10s (n:=n) h0 h1 (Is.new w 5 #[.int .u8 (n / 16777216),.int .u8 (n / 65536 % 256),.int .u8 (n / 256 % 256),.int .u8 (n % 256)])
   rw [numR_ok10 h0 h1]
   go_enter Tryz.func69,Tryz.ntmps69
   go_wp2
   go_ret2
   exact ⟨rfl,(Below.refl _ _).alloc (Nat.le_refl _) _⟩
  ·
   rw [numR_no10 (by omega)]
   go_enter Tryz.func69,Tryz.ntmps69
   go_wp2
   go_ret2
   exact ⟨rfl,Below.refl _ _⟩
 ·
  rw [numR_no10 (by omega)]
  go_enter Tryz.func69,Tryz.ntmps69
  go_wp2
  go_ret2
  exact ⟨rfl,Below.refl _ _⟩
def txtR10 (s:ByteArray):Value:=.tuple #[.string (txtV10 s).1,.int .i64 (txtV10 s).2]
theorem txtR_ok10 {s:ByteArray} (h:s.size≤65536):txtR10 s=.tuple #[.string (num10 (s.size:Int) ++ s),.int .i64 0]:=by
 rw [txtR10,txtV10,if_pos h];rfl
theorem txtR_no10 {s:ByteArray} (h:¬ s.size≤65536):txtR10 s=.tuple #[.string ⟨#[]⟩,.int .i64 2]:=by
 rw [txtR10,txtV10,if_neg h]
theorem dtxt_any10 (s:ByteArray) (w:World) :
  Calls Tryz.prog 93 #[.string s] w fun e w'=>e=.returned (txtR10 s)∧Below w.heap.size w w':=by
 by_cases h:s.size≤65536
 ·
  have HC:=dnum_any10 (s.size:Int) w
  rw [numR_ok10 (by omega) (by omega)] at HC
  have HC:=Lib.hid HC
  rw [txtR_ok10 h]
  have h1:(s.size:Int)≤65536:=by omega
  have hz:=num_size10 (s.size:Int)
  have hno:¬ 9223372036854775807 < (num10 (s.size:Int)).size + s.size:=by omega
  go_enter Tryz.func93,Tryz.ntmps93
  go_wp2_with (go_at_call 69;refine HC.out.mono ?_;rintro e w1 ⟨rfl,hb⟩)
  go_ret2
  exact ⟨rfl,hb⟩
 ·
  have h1:¬ (s.size:Int)≤65536:=by omega
  rw [txtR_no10 h]
  go_enter Tryz.func93,Tryz.ntmps93
  go_wp2
  go_ret2
  exact ⟨rfl,Below.refl _ _⟩
end Go.Proofs.YtmggbbmpckcleaaGreat
namespace Go.Proofs.YtmggbbmpckcleaaGreat
open Go.RowKit Go.Shelf
theorem clone_lite10 (s:ByteArray) (w:World) (hlim:s.size≤281474976710656) :
  Calls Tryz.prog 140 #[.string s] w fun e w'=>e=.returned (.string s)∧Below w.heap.size w w':=by
 by_cases h0:s.size=0
 ·
  have hs:s=⟨#[]⟩:=by
   apply ByteArray.ext
   exact Array.eq_empty_of_size_eq_zero h0
  subst hs
  go_enter Tryz.func140,Tryz.ntmps140
  go_wp2
  go_ret
  exact ⟨rfl,Below.refl _ _⟩
 ·
  obtain ⟨i0,hi,hz0,hz1,hz2⟩:=info_parts infoU8x
  have hinfo:(Tryz.prog.info? 5).map (·.size)=some 1:=by rw [hi];simp [hz1]
  have hco:Tryz.prog.cellsOf 5=1:=by kernel_rfl
  obtain ⟨M,hM⟩:∃ M,M=madeCells (Value.int .u8 0).cells (((s.size:Nat):Int).toNat * i0.size):=⟨_,rfl⟩
  have hMs:M.size=s.size:=by rw [hM,size_madeCells,hz1];simp
  have hmk:∀ W:World,(Instr.makeSlice 93 (.int .i64 (s.size:Int)) (.int .i64 (s.size:Int))).run Tryz.prog W=.ok (.slice (some ⟨W.heap.size,0,none⟩) s.size s.size) (W.alloc (.cells M 5)):=fun W=>by
   have h:=run_make (P:=Tryz.prog) W 93 5 i0 (.int .u8 0) Tryz.underlying93 hi hz0 .i64 .i64 (s.size:Int) (s.size:Int) (by omega) (by omega) (by rw [hz2];omega) (by omega)
   rw [← hM] at h
   simpa using h
  clear hM
  have hcp:=Lib.run_copy_row_string (P:=Tryz.prog) (w.alloc (.cells M 5)) 93 9 3 5 w.heap.size 0 s.size s.size s M 5 Tryz.underlying93 hinfo (heap_alloc_new w _) (Nat.le_refl _) (by omega)
  obtain ⟨Y,hY⟩:∃ Y,Y=(M.toList.take 0 ++ Lib.byteCells s.data.toList ++ M.toList.drop (0 + s.size)).toArray:=⟨_,rfl⟩
  rw [← hY] at hcp
  have hYl:Y.toList=Lib.byteCells s.data.toList:=by
   rw [hY,List.toList_toArray,List.take_zero,List.nil_append,List.drop_of_length_le (by rw [Array.length_toList];omega),List.append_nil]
  have hYs:Y.size=s.size:=by rw [← Array.length_toList,hYl,Lib.byteCells_length,← Lib.size_eq]
  have hgY:((w.alloc (.cells M 5)).setRow w.heap.size Y).heap[w.heap.size]?=some (.cells Y 5 (0,0)):=setRow_heap _ _ M _ 5 (0,0) (heap_alloc_new w _)
  have hne:s.data.toList≠[]:=fun e=>h0 (by rw [Lib.size_eq,e];rfl)
  have hUS:=Lib.run_unsafeString_row (P:=Tryz.prog) ((w.alloc (.cells M 5)).setRow w.heap.size Y) 168 3 9 5 Tryz.underlying168 hco w.heap.size Y.size (by unfold World.shape?;rw [hgY]) s.data.toList hne (by rw [← Lib.size_eq];omega) (by rw [← Lib.size_eq];omega)
   (fun j x hx=>Lib.cells_of_row hgY Y.size j _ (by rw [List.take_of_length_le (by rw [Array.length_toList];exact Nat.le_refl _),hYl];simp [Lib.byteCells,hx]))
  rw [← Lib.size_eq] at hUS
  clear hY
  go_enter Tryz.func140,Tryz.ntmps140
  go_wp2
  go_ret
  have hb1:Below w.heap.size w (w.alloc (.cells M 5)):=(Below.refl _ w).alloc (Nat.le_refl _) _
  exact ⟨rfl,Lib.below_freeze (belowRow hb1 (Nat.le_refl _) Y) (p:=⟨w.heap.size,0,none⟩) (Nat.le_refl _) _⟩
theorem clone_any10 (s:ByteArray) (w:World) (hlim:s.size≤281474976710656) :
  Calls Tryz.prog 139 #[.string s] w fun e w'=>e=.returned (.string s)∧Below w.heap.size w w':=by
 go_enter Tryz.func139,Tryz.ntmps139
 go_wp2_with fail
 refine (clone_lite10 _ _ hlim).mono ?_
 rintro e w1 ⟨rfl,hb⟩
 go_wp2
 go_ret
 exact ⟨rfl,hb⟩
theorem sizeB10:(Tryz.prog.info? 153).map (·.size)=some 2:=by kernel_rfl
theorem liesB10:liesAt Tryz.prog Tryz.prog.depth 153 (2 / Tryz.prog.cellsOf 153) 0 153 1=true:=by kernel_rfl
theorem ne_sb10:(153:TypeId)≠5:=by decide
theorem freeze_other10 (w:World) (p:Addr) (n k:Nat) (h:k≠p.block):(w.freeze p n).heap[k]?=w.heap[k]?:=by
 unfold World.freeze
 split
 · rfl
 ·
  simp only [Array.getElem?_modify]
  rw [if_neg (fun e=>h e.symm)]
theorem wpAnyH_run {P:Program} {md:Region.Mode} {ops:Array Oper} {Q:Exit→Act→World→Prop} {S:World→Prop} {fuel i:Nat} {listed:Array Bool} {a:Act} {w:World} {o:Oper} {v:Value} {w':World}
  (hr:Region.ready md ops listed=[i]) (ho:ops[i]?=some o) (hw:Region.wanted o (yielded ops a.tmps)=true) (hx:(execOp a.eval o).run P w=.ok (.value v) w') (hS:S w')
  (h:wpAnyH P md ops Q S fuel (listed.setIfInBounds i true) (a.put o.dst v) w'):wpAnyH P md ops Q S (fuel + 1) listed a w :=
 wpAnyH_next hr ho fun K' hK=>by
  rw [if_pos hw]
  unfold Oper.wp
  rw [hx,Oper.upon_value]
  exact hK.out _ _ hS fun _=>h
abbrev Bld10 (B b:Nat) (bs:List Value) (W:World):Prop:=Lib.IsBuilderF 153 5 B b bs W
theorem check_fresh10 (b:Nat) (v:Value) (w:World) (h:Is w b 153 #[.pointer none,v]) :
  Calls Tryz.prog 132 #[.pointer (some ⟨b,0,none⟩)] w fun e w'=>e=.returned (.tuple #[])∧w'=w.setCell ⟨b,0,none⟩ (.pointer (some ⟨b,0,none⟩)):=by
 obtain ⟨j,hj,hjs⟩:=Option.map_eq_some_iff.1 sizeB10
 have c0:w.cell? ⟨b,0,none⟩=some (.pointer none):=h.cell 0
 have f0:=h.frozen 0
 have hsh:w.shape? b=some (153,2):=by
  have:w.heap[b]?=some (.cells #[.pointer none,v] 153 (0,0)):=h
  simp [World.shape?,this]
 go_enter Tryz.func132,Tryz.ntmps132
 go_wp2
 rw [Lib.run_to_unsafe w ⟨b,0,none⟩ Tryz.underlying151 Tryz.underlying172 hj (by rw [hjs];decide) hsh (Nat.zero_lt_succ 1)]
 simp only [Result.andThen]
 rw [Oper.upon_value]
 go_wp2
 rw [run_callFunc_extern Tryz.func137 (by kernel_rfl) (by kernel_rfl) (by kernel_rfl) (e:=Extern.AbiNoEscape.same) (by kernel_rfl)]
 rw [Lib.run_noEscape]
 simp only [Result.andThen]
 rw [Oper.upon_value]
 go_wp2
 rw [Lib.run_from_unsafe w ⟨b,0,none⟩ Tryz.underlying172 Tryz.underlying151 hj hsh liesB10]
 simp only [Result.andThen]
 rw [Oper.upon_value]
 go_wp2
 go_end0
 exact ⟨rfl,rfl⟩
theorem check_used10 (b:Nat) (v:Value) (w:World) (h:Is w b 153 #[.pointer (some ⟨b,0,none⟩),v]) :
  Calls Tryz.prog 132 #[.pointer (some ⟨b,0,none⟩)] w fun e w'=>e=.returned (.tuple #[])∧w'=w:=by
 obtain ⟨j,hj,_⟩:=Option.map_eq_some_iff.1 sizeB10
 have c0:w.cell? ⟨b,0,none⟩=some (.pointer (some ⟨b,0,none⟩)):=h.cell 0
 go_enter Tryz.func132,Tryz.ntmps132
 go_wp2
 rw [Lib.run_neq_ptr_same w _ Tryz.underlying151 hj]
 go_wp2
 go_end0
 exact ⟨rfl,rfl⟩
theorem check_any10 (B b:Nat) (bs:List Value) (w:World) (h:Bld10 B b bs w) :
  Calls Tryz.prog 132 #[.pointer (some ⟨b,0,none⟩)] w fun e w'=>e=.returned (.tuple #[])∧(Lib.BuilderAtF 153 5 B b (.pointer (some ⟨b,0,none⟩)) bs w'∧Below B w w'∧Lib.OthersKept 5 (some b) w w'):=by
 rcases h with h | h
 ·
  obtain ⟨hB,v,hb,hown,hne⟩:=h
  refine (check_fresh10 b v w hb).mono ?_
  rintro e w' ⟨rfl,rfl⟩
  exact ⟨rfl,Lib.BuilderAtF.used ⟨hB,v,hb,hown,hne⟩ _,(Below.refl B w).setCell (p:=⟨b,0,none⟩) hB _,(Lib.OthersKept.refl _ _ w).setCell ⟨b,0,none⟩ rfl _⟩
 ·
  have h2:=h
  obtain ⟨hB,v,hb,hown,hne⟩:=h
  refine (check_used10 b v w hb).mono ?_
  rintro e w' ⟨rfl,rfl⟩
  exact ⟨rfl,h2,Below.refl B _,Lib.OthersKept.refl _ _ _⟩
theorem write_any10 (B b:Nat) (bs:List Value) (s:ByteArray) (w:World) (h:Bld10 B b bs w) (hlen:bs.length + s.size≤140737488355328) (hBw:B≤w.heap.size) :
  Calls Tryz.prog 125 #[.pointer (some ⟨b,0,none⟩),.string s] w fun e w'=>e=.returned (.tuple #[.int .i64 s.size,.nilIface])∧(Bld10 B b (bs ++ Lib.strCells s) w'∧Below B w w'∧Lib.OthersKept 5 (some b) w w'):=by
 obtain ⟨i0,hi,hz0,hz1,hz2⟩:=info_parts infoU8x
 go_enter Tryz.func125,Tryz.ntmps125
 go_wp2_with (go_at_call 132;refine (check_any10 B b bs _ h).mono ?_)
 rintro e w1 ⟨rfl,h1,hb1,hk1⟩
 obtain ⟨hB,v,hbk,hown,hne⟩:=h1
 have c0:w1.cell? ⟨b,0,none⟩=some (.pointer (some ⟨b,0,none⟩)):=by rw [Lib.cell_of_heap hbk];rfl
 have c1:w1.cell? ⟨b,1,none⟩=some v:=by rw [Lib.cell_of_heap hbk];rfl
 go_wp2_with (at_builtin;refine Lib.wpList_append_own_stringF _ rfl _ _ 93 9 rfl B 5 i0 Tryz.underlying93 Tryz.underlying9 hi hz0 hz1 hz2 _ _ _ rfl hown s rfl ?c3 ?c4 ?c5 ?_)
 case c3=>unfold maxLen;omega
 case c4=>omega
 case c5=>have:=hb1.size;omega
 intro v' w2 hown' hgrow _
 have hlt:b < w1.heap.size:=(Array.getElem?_eq_some_iff.1 hbk).1
 have hb2:w2.heap[b]?=some (.cells #[.pointer (some ⟨b,0,none⟩),v] 153 (0,0)):=(hgrow.block b hlt (fun e=>hne e.symm)).trans hbk
 have d0:w2.cell? ⟨b,0,none⟩=some (.pointer (some ⟨b,0,none⟩)):=by rw [Lib.cell_of_heap hb2];rfl
 have d1:w2.cell? ⟨b,1,none⟩=some v:=by rw [Lib.cell_of_heap hb2];rfl
 have f1:w2.frozen? ⟨b,1,none⟩=false:=Lib.frozen_of_heap hb2 1
 obtain ⟨ao,n',cap,rfl⟩:∃ ao n' cap,v'=.slice ao n' cap:=by
  rcases hown'.2 with ⟨hv,_⟩ | ⟨g,cap,cur,fz,hv,_⟩
  · exact ⟨_,_,_,hv⟩
  · exact ⟨_,_,_,hv⟩
 go_wp2
 go_ret2
 refine ⟨rfl,.inr ?_,?_,(hk1.grown hgrow (Lib.ownsRowF_kind hown)).setCell ⟨b,1,none⟩ rfl _⟩
 · exact Lib.BuilderAtF.put (T:=153) (e:=5) hB hb2 (bs':=bs ++ Lib.strCells s) (by simpa [Lib.strCells_length] using hown') ne_sb10
 · exact (hb1.grown hgrow (by have:=hb1.size;omega) (fun k hk=>(hown.lt k hk).1)).setCell (p:=⟨b,1,none⟩) hB _
theorem bstr_any10 (B b:Nat) (l:List UInt8) (w:World) (h:Bld10 B b (Lib.byteCells l) w) (h0:l≠[]) :
  Calls Tryz.prog 126 #[.pointer (some ⟨b,0,none⟩)] w fun e w'=>e=.returned (.string ⟨l.toArray⟩)∧Below B w w'∧Lib.OthersKept 5 (some b) w w':=by
 obtain ⟨p,hAt⟩:∃ p,Lib.BuilderAtF 153 5 B b p (Lib.byteCells l) w:=by
  rcases h with h | h
  · exact ⟨_,h⟩
  · exact ⟨_,h⟩
 obtain ⟨hB,v,hbk,hown,hne⟩:=hAt
 have hl0:l.length≠0:=by simpa using h0
 rw [Lib.byteCells_length] at hown
 obtain ⟨g,cap,cur,fz,rfl,hbg,hg,hfz,hnc,hcm,hcs,htake⟩:∃ g cap cur fz,v=.slice (some ⟨g,0,none⟩) l.length cap∧B≤g∧w.heap[g]?=some (.cells cur 5 fz)∧fz.2≤l.length * 1∧l.length≤cap∧cap≤maxLen∧cur.size=cap * 1∧cur.toList.take (l.length * 1)=Lib.byteCells l:=by
  rcases hown.2 with ⟨_,hz⟩ | ⟨g,cap,cur,fz,hv,r⟩
  · exact absurd hz hl0
  · exact ⟨g,cap,cur,fz,hv,r⟩
 have hSD':∀ W:World,(Builtin.unsafeSliceData_ #[93] 168 #[.slice (some ⟨g,0,none⟩) l.length cap]).run Tryz.prog W=.ok (.pointer (some ⟨g,0,none⟩)) W:=fun W =>
  Lib.run_unsafeSliceData_row _ _ _ _ _ _ (by omega)
 have hbg2:b≠g:=fun e=>hne (by rw [e];rfl)
 have hK2:Is (w.drew.freeze ⟨g,0,none⟩ l.length) b 153 #[p,.slice (some ⟨g,0,none⟩) l.length cap]:=(freeze_other10 _ ⟨g,0,none⟩ _ b hbg2).trans hbk
 have hUS:(Builtin.unsafeString_ #[168,3] 9 #[.pointer (some ⟨g,0,none⟩),.int .i64 l.length]).run Tryz.prog w.drew=.ok (.string ⟨l.toArray⟩) (w.drew.freeze ⟨g,0,none⟩ l.length):=by
  refine Lib.run_unsafeString_row w.drew 168 3 9 5 Tryz.underlying168 (by kernel_rfl) g cur.size (by have hg':w.drew.heap[g]?=some (.cells cur 5 fz):=hg;simp [World.shape?,hg']) l h0 (by omega) (by unfold maxLen at hcm;omega) ?_
  intro j x hx
  have:=hown.cells (g:=g) rfl j (.int .u8 x.toNat) (by simp [Lib.byteCells,hx])
  exact this
 go_enter Tryz.func126,Tryz.ntmps126
 go_wp2
 refine wp_region_held_drew (S:=fun W=>Is W b 153 #[p,.slice (some ⟨g,0,none⟩) l.length cap]) (by kernel_rfl) hbk (fun hS=>?_)
 change wpAnyH _ _ (opsOf Tryz.f126 1) _ _ 12 (Array.replicate 12 false) _ _
 clear hS
 have hK:Is w.drew b 153 #[p,.slice (some ⟨g,0,none⟩) l.length cap]:=hbk
 refine wpAnyH_pure (i := 0) (o := { dst := some 3, op := Op.move (Operand.tmp 0), type := 151, pos := "builder.go:47", after := #[], guard := none }) (v := .pointer (some ⟨b, 0, none⟩)) (by kernel_rfl) (by kernel_rfl) (by kernel_rfl) (by kernel_rfl) (fun _ _ _ h => h) (by kernel_rfl) (fun w hSw => by kernel_rfl) hK ?_
 simp only [Act.put,zz0,zz1,zz2]
 refine wpAnyH_pure (i := 1) (o := { dst := some 4, op := Op.nilCheck (Operand.tmp 3), type := 0, pos := "builder.go:47", after := #[{ on := 0, ground := Ground.data }], guard := none }) (v := .pointer (some ⟨b, 0, none⟩)) (by kernel_rfl) (by kernel_rfl) (by kernel_rfl) (by kernel_rfl) (fun _ _ _ h => h) (by kernel_rfl) (fun w hSw => by go_simp) hK ?_
 simp only [Act.put,zz0,zz1,zz2]
 refine wpAnyH_pure (i := 2) (o := { dst := some 5, op := Op.fieldAddr 153 (Operand.tmp 4) 1, type := 0, pos := "builder.go:47", after := #[{ on := 1, ground := Ground.data }], guard := none }) (v := .pointer (some ⟨b, 1, none⟩)) (by kernel_rfl) (by kernel_rfl) (by kernel_rfl) (by kernel_rfl) (fun _ _ _ h => h) (by kernel_rfl) (fun w hSw => by go_simp) hK ?_
 simp only [Act.put,zz0,zz1,zz2]
 refine wpAnyH_pure (i := 3) (o := { dst := some 6, op := Op.load 93 (Operand.tmp 5), type := 93, pos := "builder.go:47", after := #[{ on := 2, ground := Ground.data }], guard := none }) (v := .slice (some ⟨g, 0, none⟩) l.length cap) (by kernel_rfl) (by kernel_rfl) (by kernel_rfl) (by kernel_rfl) (fun _ _ _ h => h) (by kernel_rfl) (fun w hSw => by (have hc := hSw.cell 1; go_simp)) hK ?_
 simp only [Act.put,zz0,zz1,zz2]
 refine wpAnyH_pure (i := 4) (o := { dst := some 7, op := Op.call { callee := Callee.builtin Builtin.unsafeSliceData, args := #[Operand.tmp 6], argTypes := #[93] }, type := 168, pos := "builder.go:47", after := #[{ on := 3, ground := Ground.data }], guard := none }) (v := .pointer (some ⟨g, 0, none⟩)) (by kernel_rfl) (by kernel_rfl) (by kernel_rfl) (by kernel_rfl) (fun _ _ _ h => h) (by kernel_rfl) (fun w hSw => by (have hc := hSD' w; go_simp)) hK ?_
 simp only [Act.put,zz0,zz1,zz2]
 refine wpAnyH_pure (i := 5) (o := { dst := some 8, op := Op.move (Operand.tmp 0), type := 151, pos := "builder.go:47", after := #[], guard := none }) (v := .pointer (some ⟨b, 0, none⟩)) (by kernel_rfl) (by kernel_rfl) (by kernel_rfl) (by kernel_rfl) (fun _ _ _ h => h) (by kernel_rfl) (fun w hSw => by kernel_rfl) hK ?_
 simp only [Act.put,zz0,zz1,zz2]
 refine wpAnyH_pure (i := 6) (o := { dst := some 9, op := Op.nilCheck (Operand.tmp 8), type := 0, pos := "builder.go:47", after := #[{ on := 5, ground := Ground.data }], guard := none }) (v := .pointer (some ⟨b, 0, none⟩)) (by kernel_rfl) (by kernel_rfl) (by kernel_rfl) (by kernel_rfl) (fun _ _ _ h => h) (by kernel_rfl) (fun w hSw => by go_simp) hK ?_
 simp only [Act.put,zz0,zz1,zz2]
 refine wpAnyH_pure (i := 7) (o := { dst := some 10, op := Op.fieldAddr 153 (Operand.tmp 9) 1, type := 0, pos := "builder.go:47", after := #[{ on := 6, ground := Ground.data }], guard := none }) (v := .pointer (some ⟨b, 1, none⟩)) (by kernel_rfl) (by kernel_rfl) (by kernel_rfl) (by kernel_rfl) (fun _ _ _ h => h) (by kernel_rfl) (fun w hSw => by go_simp) hK ?_
 simp only [Act.put,zz0,zz1,zz2]
 refine wpAnyH_pure (i := 8) (o := { dst := some 11, op := Op.load 93 (Operand.tmp 10), type := 93, pos := "builder.go:47", after := #[{ on := 7, ground := Ground.data }], guard := none }) (v := .slice (some ⟨g, 0, none⟩) l.length cap) (by kernel_rfl) (by kernel_rfl) (by kernel_rfl) (by kernel_rfl) (fun _ _ _ h => h) (by kernel_rfl) (fun w hSw => by (have hc := hSw.cell 1; go_simp)) hK ?_
 simp only [Act.put,zz0,zz1,zz2]
 refine wpAnyH_pure (i := 9) (o := { dst := some 12, op := Op.call { callee := Callee.builtin Builtin.len, args := #[Operand.tmp 11], argTypes := #[93] }, type := 3, pos := "builder.go:47", after := #[{ on := 8, ground := Ground.data }], guard := none }) (v := .int .i64 (l.length : Int)) (by kernel_rfl) (by kernel_rfl) (by kernel_rfl) (by kernel_rfl) (fun _ _ _ h => h) (by kernel_rfl) (fun w hSw => by go_simp) hK ?_
 simp only [Act.put,zz0,zz1,zz2]
 refine wpAnyH_run (i := 10) (o := { dst := some 13, op := Op.call { callee := Callee.builtin Builtin.unsafeString, args := #[Operand.tmp 7, Operand.tmp 12], argTypes := #[168, 3] }, type := 9, pos := "builder.go:47", after := #[{ on := 4, ground := Ground.data }, { on := 9, ground := Ground.data }], guard := none }) (v := .string ⟨l.toArray⟩) (w' := w.drew.freeze ⟨g, 0, none⟩ l.length) (by kernel_rfl) (by kernel_rfl) (by kernel_rfl) (by go_simp) hK2 ?_
 simp only [Act.put,zz0,zz1,zz2]
 refine wpAnyH_pure (i := 11) (o := { dst := some 2, op := Op.assign (Operand.tmp 13), type := 9, pos := "builder.go:47", after := #[{ on := 10, ground := Ground.data }, { on := 0, ground := Ground.phase }, { on := 1, ground := Ground.phase }, { on := 2, ground := Ground.phase }, { on := 3, ground := Ground.phase }, { on := 4, ground := Ground.phase }, { on := 5, ground := Ground.phase }, { on := 6, ground := Ground.phase }, { on := 7, ground := Ground.phase }, { on := 8, ground := Ground.phase }, { on := 9, ground := Ground.phase }, { on := 10, ground := Ground.phase }], guard := none }) (v := .string ⟨l.toArray⟩) (by kernel_rfl) (by kernel_rfl) (by kernel_rfl) (by kernel_rfl) (fun _ _ _ h => h) (by kernel_rfl) (fun w hSw => by kernel_rfl) hK2 ?_
 simp only [Act.put,zz0,zz1,zz2]
 refine wpAnyH_done (by kernel_rfl) ?_ _
 go_wp2
 go_ret
 exact ⟨rfl,Lib.below_freeze (Below.drew (Below.refl B w)) (p:=⟨g,0,none⟩) hbg _,((Lib.OthersKept.refl _ _ w).drew).freeze ⟨g,0,none⟩ _ ⟨cur,fz,hg⟩⟩
end Go.Proofs.YtmggbbmpckcleaaGreat
namespace Go.Proofs.YtmggbbmpckcleaaGreat
open Go.RowKit Go.Shelf
theorem tor10 (y z:Nat) (hy:y < 16777216) (hz:z < 256):bits .or .i64 ((y:Int) * 256) (z:Int)=((256 * y + z:Nat):Int):=by
 have h1:(BitVec.ofInt 64 ((y:Int) * 256)).toNat=y * 256:=by
  rw [show (y:Int) * 256=((y * 256:Nat):Int) by omega,BitVec.ofInt_natCast,BitVec.toNat_ofNat];exact Nat.mod_eq_of_lt (by omega)
 have h2:(BitVec.ofInt 64 (z:Int)).toNat=z:=by
  rw [BitVec.ofInt_natCast,BitVec.toNat_ofNat];exact Nat.mod_eq_of_lt (by omega)
 have h3:y * 256 ||| z=y * 256 + z:=by
  rw [show y * 256=2 ^ 8 * y by omega,← Nat.two_pow_add_eq_or_of_lt (by omega)]
 show IntKind.i64.wrap ((BitVec.ofInt 64 ((y:Int) * 256) ||| BitVec.ofInt 64 (z:Int)).toNat:Int)=_
 rw [BitVec.toNat_or,h1,h2,h3]
 have:=IntWalk.i64_in ((256 * y + z:Nat):Int) (by omega)
 rw [show ((y * 256 + z:Nat):Int)=((256 * y + z:Nat):Int) by omega]
 exact this
def rdk10 (s:ByteArray):Nat→Nat
 | 0=>0
 | k + 1=>256 * rdk10 s k + bt7 s k
theorem rdk_four10 (s:ByteArray):rdk10 s 4=rd10 s 0:=by
 simp only [rdk10,rd10,Nat.zero_add];omega
theorem rdk_bd10 (s:ByteArray) (k:Nat) (h:k < 4):rdk10 s k < 16777216:=by
 have h0:=bt7_lt s 0
 have h1:=bt7_lt s 1
 have h2:=bt7_lt s 2
 rcases (by omega:k=0∨k=1∨k=2∨k=3) with rfl | rfl | rfl | rfl <;> simp only [rdk10] <;> omega
theorem cright_any10 (B:ByteArray) (a:Int) (w:World) :
  Calls Tryz.prog 120 #[.agg #[.string B,.int .i64 a]] w fun e w'=>e=.returned (.bool (rightV B a))∧Below w.heap.size w w':=by
 have HD:Hid (rightV B a=(decide ((B.size:Int)≤65536) && (decide (0≤a) && decide (a≤(B.size:Int))))):=Lib.hid rfl
 generalize rightV B a=R at *
 have hB:Below w.heap.size w (w.alloc (.cells #[.string B,.int .i64 a] 86)):=(Below.refl _ _).alloc (Nat.le_refl _) _
 have i1:=Is.new w 86 #[.string B,.int .i64 a]
 have c0:(w.alloc (.cells #[.string B,.int .i64 a] 86)).cell? ⟨w.heap.size,0,none⟩=some (.string B):=i1.cell 0
 have c1:(w.alloc (.cells #[.string B,.int .i64 a] 86)).cell? ⟨w.heap.size,1,none⟩=some (.int .i64 a):=i1.cell 1
 clear i1
 by_cases h1:(B.size:Int)≤65536
 ·
  by_cases h2:0≤a
  ·
   by_cases h3:a≤(B.size:Int)
   ·
    obtain rfl:R=true:=by rw [HD.out];simp [h1,h2,h3]
    go_enter Tryz.func120,Tryz.ntmps120
    go_wp2
    go_ret
    exact ⟨rfl,hB⟩
   ·
    obtain rfl:R=false:=by rw [HD.out];simp [h3]
    go_enter Tryz.func120,Tryz.ntmps120
    go_wp2
    go_ret
    exact ⟨rfl,hB⟩
  ·
   obtain rfl:R=false:=by rw [HD.out];simp [h2]
   go_enter Tryz.func120,Tryz.ntmps120
   go_wp2
   go_ret
   exact ⟨rfl,hB⟩
 ·
  obtain rfl:R=false:=by rw [HD.out];simp [h1]
  go_enter Tryz.func120,Tryz.ntmps120
  go_wp2
  go_ret
  exact ⟨rfl,hB⟩
def fnR10 (s:ByteArray):Value:=.tuple #[.int .i64 (tnV10 s 0).1,.int .i64 (tnV10 s 0).2.1,.int .i64 (tnV10 s 0).2.2]
theorem right_zero10 {s:ByteArray} (h:s.size≤65536):rightV s 0=true:=rightV_iff.2 ⟨h,by omega,by omega⟩
theorem fnR_short10 {s:ByteArray} (h:s.size≤65536) (h4:s.size < 4):fnR10 s=.tuple #[.int .i64 0,.int .i64 0,.int .i64 10]:=by
 rw [fnR10,tnV10,if_pos (right_zero10 h),if_pos (by omega)]
theorem fnR_form10 {s:ByteArray} (h:s.size≤65536) (h4:¬ s.size < 4) (h5:2147483647 < rd10 s 0):fnR10 s=.tuple #[.int .i64 0,.int .i64 0,.int .i64 13]:=by
 rw [fnR10,tnV10,if_pos (right_zero10 h),if_neg (by omega),if_pos (by show 2147483647 < (rd10 s 0:Int);omega)]
theorem fnR_ok10 {s:ByteArray} (h:s.size≤65536) (h4:¬ s.size < 4) (h5:¬ 2147483647 < rd10 s 0):fnR10 s=.tuple #[.int .i64 (rd10 s 0:Int),.int .i64 4,.int .i64 0]:=by
 rw [fnR10,tnV10,if_pos (right_zero10 h),if_neg (by omega),if_neg (by show ¬ 2147483647 < (rd10 s 0:Int);omega)]
 rfl
theorem fnum_any10 (s:ByteArray) (w:World) (h:s.size≤65536) :
  Calls Tryz.prog 117 #[.string s] w fun e w'=>e=.returned (fnR10 s)∧w=w':=by
 by_cases h4:s.size < 4
 ·
  have h1:(s.size:Int) < 4:=by omega
  rw [fnR_short10 h h4]
  clear h h4
  go_enter Tryz.func117,Tryz.ntmps117
  go_wp2
  go_ret3
  exact ⟨rfl,rfl⟩
 ·
  have h1:¬ (s.size:Int) < 4:=by omega
  have HF:=Lib.hid (fnR_form10 h h4)
  have HO:=Lib.hid (fnR_ok10 h h4)
  rw [← rdk_four10] at HF HO
  have H4:=Lib.hid h4
  have HBD:=Lib.hid (rdk_bd10 s)
  clear h h4
  generalize fnR10 s=R at *
  go_enter Tryz.func117,Tryz.ntmps117
  go_wp2
  go_loopw [5,10] (fun n i wr=>∃ k:Nat,k≤4∧i=.int .i64 (k:Int)∧n=.int .i64 (rdk10 s k:Int)∧w=wr)
   (fun _ i _=>4 - (intOf i).toNat)
  case atStart=>exact ⟨0,by omega,rfl,rfl,rfl⟩
  case round =>
   obtain ⟨k,hk,rfl,rfl,rfl⟩:=hrel
   by_cases hlt:k < 4
   ·
    have h2:(k:Int) < 4:=by omega
    have hb:=HBD.out k hlt
    have HST:=Lib.hid (show rdk10 s (k + 1)=256 * rdk10 s k + bt7 s k from rfl)
    have hkl:k < s.size:=by have:=H4.out;omega
    have hget:=bt7_get hkl
    have hbl:=bt7_lt s k
    generalize rdk10 s k=y at *
    generalize bt7 s k=z at *
    have wp:=IntWalk.i64_in ((y:Int) * 256) (by omega)
    have hor:=tor10 y z hb hbl
    go_wp2
    go_roundw
    case rel=>exact ⟨k + 1,by omega,by go_num,by rw [HST.out];go_num,trivial⟩
    case measure=>simp [intOf];omega
   ·
    have h2:¬ (k:Int) < 4:=by omega
    obtain rfl:k=4:=by omega
    generalize rdk10 s 4=N at *
    by_cases hN:2147483647 < N
    ·
     have h3:2147483647 < (N:Int):=by omega
     have HR:=Lib.hid (HF.out hN)
     clear hN HF HO
     go_wp2
     go_ret3
     exact ⟨by rw [HR.out];rfl,rfl⟩
    ·
     have h3:¬ 2147483647 < (N:Int):=by omega
     have HR:=Lib.hid (HO.out hN)
     clear hN HF HO
     go_wp2
     go_ret3
     exact ⟨by rw [HR.out];rfl,rfl⟩
def ftR10 (s:ByteArray):Value:=.tuple #[.string (ttV10 s 0).1,.int .i64 (ttV10 s 0).2.1,.int .i64 (ttV10 s 0).2.2]
theorem ftext_any10 (s:ByteArray) (w:World) (h:s.size≤65536) :
  Calls Tryz.prog 136 #[.string s] w fun e w'=>e=.returned (ftR10 s)∧Below w.heap.size w w':=by
 have HN:=fnum_any10 s w h
 by_cases h0:(tnV10 s 0).2.2=0
 ·
  obtain ⟨hN,hb⟩:=tn_ok10 h0
  have hq:tnV10 s 0=((tnV10 s 0).1,0 + 4,0):=Prod.ext rfl (Prod.ext hb h0)
  have h1:=hN.right
  have h2:=hN.bd
  rw [fnR10,hb,h0] at HN
  rw [ftR10]
  generalize (tnV10 s 0).1=n at *
  have HNN:=Lib.hid HN
  have z1:(4:Int)≤(s.size:Int):=by omega
  have z2:(s.size:Int)≤65536:=by omega
  by_cases hs:(4:Int) + n≤(s.size:Int)
  ·
   rw [tt_of10 hq (by omega)]
   have hsl:=fun wx:World=>run_slice_string (P:=Tryz.prog) wx 9 s .i64 .i64 4 (4 + n) Tryz.underlying9 (by omega) (by omega) hs
   have HCL:=Lib.hid (fun W=>clone_any10 (s.extract (4:Int).toNat (4 + n).toNat) W (by rw [ex_size10 (by omega)];omega))
   have w1i:=IntWalk.i64_in (4 + n) (by omega)
   have h3:¬ (s.size:Int) - 4 < n:=by omega
   have hn0:=h2.1
   have hn1:=h2.2
   clear hN hb hq h0 h h1 h2 HN
   go_enter Tryz.func136,Tryz.ntmps136
   go_wp2_with (first | (go_at_call 117;refine HNN.out.mono ?_;rintro e W1 ⟨rfl,rfl⟩) | (go_at_call 139;refine (HCL.out _).mono ?_;rintro e W1 ⟨rfl,hb⟩))
   go_ret3
   exact ⟨rfl,hb⟩
  ·
   rw [tt_short10 hq (by omega)]
   have h3:(s.size:Int) - 4 < n:=by omega
   have hn0:=h2.1
   have hn1:=h2.2
   clear hN hb hq h0 h h1 h2 HN
   go_enter Tryz.func136,Tryz.ntmps136
   go_wp2_with (go_at_call 117;refine HNN.out.mono ?_;rintro e W1 ⟨rfl,rfl⟩)
   go_ret3
   exact ⟨rfl,Below.refl _ _⟩
 ·
  have hk:=tn_keep10 h0
  rw [fnR10,hk] at HN
  rw [ftR10,tt_num10 h0]
  generalize (tnV10 s 0).2.2=e0 at *
  have HNN:=Lib.hid HN
  clear HN hk
  go_enter Tryz.func136,Tryz.ntmps136
  go_wp2_with (go_at_call 117;refine HNN.out.mono ?_;rintro e W1 ⟨rfl,rfl⟩)
  go_ret3
  exact ⟨rfl,Below.refl _ _⟩
end Go.Proofs.YtmggbbmpckcleaaGreat
namespace Go.Proofs.YtmggbbmpckcleaaGreat
open Go.RowKit Go.Shelf
attribute [local go_sem] Oper.semAt_some
abbrev enc10 (x:ByteArray × Int):Array Value:=#[.string x.1,.int .i64 x.2]
theorem texts_any10 (s:ByteArray) (N:Int) (w:World) :
  Calls Tryz.prog 131 #[.string s,.int .i64 N] w fun e w'=>e=.returned (.func (.func 135) #[] #[.pointer (some ⟨w.heap.size + 1,0,none⟩),.pointer (some ⟨w.heap.size,0,none⟩)])∧w'=(w.alloc (.cells #[.string s] 9)).alloc (.cells #[.int .i64 N] 3):=by
 go_enter Tryz.func131,Tryz.ntmps131
 go_wp2
 go_ret
 exact ⟨rfl,rfl⟩
theorem texts_seq10 (n:Nat) (hn:1≤n) (Bs Bn:Nat) (s:ByteArray) (N:Nat) (w:World) (hs:s.size≤65536) (hN:N≤1000) (hBs:Is w Bs 9 #[.string s]) (hBn:Is w Bn 3 #[.int .i64 (N:Int)]) (S:Nat→Prop) (hSs:S Bs) (hSn:S Bn) :
  SeqL Fence.wide n Tryz.prog 135 #[.pointer (some ⟨Bn,0,none⟩),.pointer (some ⟨Bs,0,none⟩)] enc10 (tld10 s N) S w:=by
 intro l J Jx W hW hJ hJx hY h0
 refine callsIn_of_wp Tryz.func135 rfl trivial ?_ rfl
 simp only [Tryz.ntmps135,List.size_toArray,List.length_cons,List.length_nil,Nat.reduceAdd,Nat.reduceSub,Array.replicate_succ,Array.replicate_zero,List.push_toArray,List.append_toArray,List.nil_append,List.cons_append]
 have cN:W.cell? ⟨Bn,0,none⟩=some (.int .i64 (N:Int)):=(hW.is hBn hSn).cell 0
 have iS:=hW.is hBs hSs
 have HY:=Lib.hid hY
 have HJ:=Lib.hid hJ
 have HS:=Lib.hid hs
 have HSS:=Lib.hid hSs
 clear hY hJ hJx hs hBs hBn hSs hSn hW
 gi_wp2
 clear cN
 gi_loopw [4,9] (fun a i wr=>∃ k:Nat,k≤N∧i=.int .i64 (k:Int)∧a=.int .i64 (pl10 s k)∧no10 s k=0∧J k wr∧Is wr Bs 9 #[.string s]∧W.heap.size≤wr.heap.size) (fun _ i _=>N - (intOf i).toNat)
 case atStart=>exact ⟨0,by omega,rfl,by rw [pl_zero10],rfl,h0,iS,Nat.le_refl _⟩
 case round =>
  clear h0 iS
  obtain ⟨k,hk,rfl,rfl,hno,hJk,iS,hsz⟩:=hrel
  by_cases hlt:k < N
  ·
   have hk1:(k:Int) < (N:Int):=by omega
   have cS:wr.cell? ⟨Bs,0,none⟩=some (.string s):=iS.cell 0
   have hT:=tks_ok10 (B:=s) (a:=0) (by omega) (by omega) k hno
   have t1:0≤pl10 s k:=by have:=hT.ahead;unfold pl10;omega
   have t2:pl10 s k≤(s.size:Int):=hT.right
   have hz:=HS.out
   have hsl:=fun wx:World=>run_slice_string (P:=Tryz.prog) wx 9 s .i64 .i64 (pl10 s k) (s.size:Int) Tryz.underlying9 t1 t2 (Int.le_refl _)
   have hFT:=fun W=>ftext_any10 (s.extract (pl10 s k).toNat (s.size:Int).toNat) W (by rw [ex_size10 (by omega)];omega)
   have hsh:=tt_sh10 (B:=s) (x:=(pl10 s k).toNat) (by omega) hz (a:=0) (by omega)
   rw [show (((pl10 s k).toNat:Nat):Int) + 0=pl10 s k by omega,show (((pl10 s k).toNat:Nat):Int)=pl10 s k by omega] at hsh
   rw [show ((s.size:Int)).toNat=s.size by omega] at hFT hsl
   rw [ftR10,hsh] at hFT
   have hI:it10 s k=((ttV10 s (pl10 s k)).1,(ttV10 s (pl10 s k)).2.2):=rfl
   have HAT:=Lib.hid (tld_at10 hno hlt)
   have HPL:=Lib.hid (pl_step10 hno)
   have HNO:=Lib.hid (no_step10 hno)
   have HEND:=Lib.hid (fun h=>tld_end10 hno h hlt)
   have hbd:(it10 s k).2=0→pl10 s k≤(ttV10 s (pl10 s k)).2.1∧(ttV10 s (pl10 s k)).2.1≤(s.size:Int):=fun h=>⟨by have:=(tt_ok10 h).to;omega,(tt_ok10 h).right.2.2⟩
   rw [hI] at HAT HPL HNO HEND hbd
   generalize ttV10 s (pl10 s k)=V at *
   obtain ⟨tx,en,er⟩:=V
   simp only at hFT HAT HPL HNO HEND hbd
   have HFT:=Lib.hid hFT
   generalize pl10 s k=a at *
   have hz1:(s.size:Int)≤65536:=by omega
   have w1i:=IntWalk.i64_in ((k:Int) + 1) (by omega)
   have HBD:=Lib.hid hbd
   clear hT hsh hFT hI hz hbd hno
   gi_wp2_with (refine ⟨trivial,?_⟩;gi_at_call 136;refine (callsIn_wide.2 (HFT.out _)).mono ?_;rintro e W4 ⟨rfl,hb4⟩)
   have hJ4:=HJ.out k wr W4 none hJk (grownG hb4) (fun r e=>by cases e)
   have iS4:=iS.below hb4 iS.lt
   have hsz4:=Nat.le_trans hsz hb4.size
   clear cS hsl hJk iS hsz hb4
   obtain ⟨fn,tmps,assign,body,hy,hR⟩:=HY.out k (tx,er) W4 HAT.out hJ4
   simp only [enc10] at hy
   have HR:=Lib.hid hR
   clear hR
   by_cases he:er=0
   ·
    subst he
    have hen:=(HBD.out rfl).2
    have hen1:=(HBD.out rfl).1
    have w2i:=IntWalk.i64_in (a + (en - a)) (by omega)
    have HPN:=Lib.hid (HPL.out rfl)
    clear HPL HBD HEND
    rw [hy]
    gi_wp2
    refine HR.out.mono ?_
    rintro e W5 (⟨rfl,hJ5,hS5⟩ | ⟨rfl,hJx5,_⟩)
    ·
     gi_wp2
     go_roundw
     case rel=>exact ⟨k + 1,by omega,by go_num,by rw [HPN.out];go_num,HNO.out,hJ5,hS5.is iS4 (.inl HSS.out),Nat.le_trans hsz4 hS5.size⟩
     case measure=>simp [intOf];omega
    ·
     gi_wp2
     refine bodyPost_ret (results_none rfl _ _ _) rfl ?_
     exact ⟨⟨_,rfl⟩,.inr ⟨_,hJx5⟩⟩
   ·
    have hL:=Lib.hid (HEND.out he)
    clear HPL HBD HEND
    rw [hy]
    gi_wp2
    refine HR.out.mono ?_
    rintro e W5 (⟨rfl,hJ5,_⟩ | ⟨rfl,hJx5,_⟩)
    ·
     gi_wp2
     refine bodyPost_ret (results_none rfl _ _ _) rfl ?_
     exact ⟨⟨_,rfl⟩,.inl (by rw [hL.out];exact hJ5)⟩
    ·
     gi_wp2
     refine bodyPost_ret (results_none rfl _ _ _) rfl ?_
     exact ⟨⟨_,rfl⟩,.inr ⟨_,hJx5⟩⟩
  ·
   have hk1:¬ (k:Int) < (N:Int):=by omega
   obtain rfl:k=N:=by omega
   have hL:=Lib.hid (tld_len10 hno)
   gi_wp2
   go_end0
   exact ⟨⟨_,rfl⟩,.inl (by rw [hL.out];exact hJk)⟩
end Go.Proofs.YtmggbbmpckcleaaGreat
namespace Go.Proofs.YtmggbbmpckcleaaGreat
open Go.RowKit Go.Shelf
abbrev tL10 (l:List ByteArray):List Value:=l.map Value.string
theorem take_snoc10 {α:Type} {l:List α} {k:Nat} {x:α} (h:l[k]?=some x):l.take (k + 1)=l.take k ++ [x]:=by
 obtain ⟨h1,h2⟩:=List.getElem?_eq_some_iff.1 h
 rw [List.take_succ_eq_append_getElem h1,h2]
theorem cat_take10 {l:List ByteArray} {k:Nat} {s:ByteArray} (h:l[k]?=some s):cat10 (l.take (k + 1))=cat10 (l.take k) ++ txt10 s:=by rw [take_snoc10 h,cat_snoc10]
theorem cat_bd10 {l:List ByteArray} {m:Nat} (hs:∀ s ∈ l,s.size≤m) (k:Nat):(cat10 (l.take k)).size≤k * (m + 4):=by
 induction k with
 | zero=>rw [List.take_zero];exact Nat.zero_le _
 | succ k ih =>
  cases h:l[k]? with
  | none =>
   have:l.length≤k:=List.getElem?_eq_none_iff.1 h
   rw [List.take_of_length_le (by omega)]
   rw [List.take_of_length_le (by omega)] at ih
   rw [Nat.add_mul];omega
  | some s =>
   have:=hs s (List.mem_of_getElem? h)
   rw [cat_take10 h,ByteArray.size_append,txt_size10,Nat.add_mul];omega
theorem InV.txt {W:World} {A:Option Addr} {l:List ByteArray} (h:InV W A (tL10 l)) {k:Nat} {s:ByteArray} (hk:l[k]?=some s):∃ b off,A=some ⟨b,off,none⟩∧b < W.heap.size∧W.cell? ⟨b,off + k,none⟩=some (.string s) :=
 h k (.string s) (by rw [List.getElem?_map,hk];rfl)
theorem InV.under {W W':World} {A:Option Addr} {vs:List Value} {B:Nat} (h:InV W A vs) (hW:W.heap.size=B) (hb:Below B W W'):InV W' A vs:=h.keep (by rw [hW];exact hb)
theorem lsize_any10 (A:Option Addr) (cap:Nat) (l:List ByteArray) (w:World) (hl:l.length≤1000) (hs:∀ s ∈ l,s.size≤140737488355328) (hc:InV w A (tL10 l)) :
  Calls Tryz.prog 128 #[.slice A l.length cap] w fun e w'=>e=.returned (.int .i64 ((lst10 l).size:Int))∧w=w':=by
 have HC:=Lib.hid hc
 have HS:=Lib.hid hs
 have HB:=Lib.hid (fun k=>cat_bd10 hs k)
 have HZ:=Lib.hid (lst_size10 l)
 clear hc hs
 go_enter Tryz.func128,Tryz.ntmps128
 go_wp2
 go_loopw [3,8] (fun z i wr=>∃ k:Nat,k≤l.length∧z=.int .i64 (4 + ((cat10 (l.take k)).size:Int))∧i=.int .i64 (k:Int)∧wr=w)
  (fun _ i _=>l.length - (intOf i).toNat)
 case atStart=>exact ⟨0,by omega,rfl,rfl,rfl⟩
 case round =>
  obtain ⟨k,hk,rfl,rfl,rfl⟩:=hrel
  by_cases hlt:k < l.length
  ·
   have h1:(k:Int) < (l.length:Int):=by omega
   obtain ⟨s,hx⟩:∃ s,l[k]?=some s:=⟨_,List.getElem?_eq_getElem hlt⟩
   have hsz:=HS.out s (List.mem_of_getElem? hx)
   have hb:=HB.out k
   obtain ⟨b,off,rfl,_,hcell⟩:=HC.out.txt hx
   have hstep:(cat10 (l.take (k + 1))).size=(cat10 (l.take k)).size + (4 + s.size):=by rw [cat_take10 hx,ByteArray.size_append,txt_size10]
   have HST:=Lib.hid hstep
   generalize (cat10 (l.take k)).size=z at *
   have hz:z≤1000 * 140737488355332:=Nat.le_trans hb (Nat.mul_le_mul (by omega) (Nat.le_refl _))
   have HX:=Lib.hid hx
   clear hstep hb hx
   go_wp2
   go_roundw
   case rel=>exact ⟨k + 1,by omega,by rw [HST.out];go_num,by go_num,by first | rfl | trivial⟩
   case measure=>simp [intOf];omega
  ·
   have h1:¬ (k:Int) < (l.length:Int):=by omega
   obtain rfl:k=l.length:=by omega
   go_wp2
   go_ret
   refine ⟨?_,rfl⟩
   rw [HZ.out,show ((4 + (cat10 l).size:Nat):Int)=4 + ((cat10 l).size:Int) by omega]
   rfl
theorem Bld10.keep {B b:Nat} {bs:List Value} {W W':World} (h:Bld10 B b bs W) (hg:Below W.heap.size W W'):Bld10 B b bs W':=by
 have e:∀ {p:Value},Lib.BuilderAtF 153 5 B b p bs W→Lib.BuilderAtF 153 5 B b p bs W':=fun ⟨hB,v,hb,hown,hne⟩ =>
  ⟨hB,v,(hg.block b (Array.getElem?_eq_some_iff.1 hb).1).trans hb,hown.kept (grownG hg) (by cases v.ownBlock with | none=>exact .inl rfl | some g=>exact .inr (fun e=>by cases e)),hne⟩
 exact h.imp e e
theorem Bld10.new (w:World):Bld10 w.heap.size w.heap.size [] (w.alloc (.cells #[.pointer none,.slice none 0 0] 153)) :=
 .inl ⟨Nat.le_refl _,.slice none 0 0,heap_alloc_new w _,World.ownsRowF_nil _ _ _ _,by simp [Value.ownBlock]⟩
theorem strCells_app10 (s t:ByteArray):Lib.strCells (s ++ t)=Lib.strCells s ++ Lib.strCells t:=by
 simp [Lib.strCells,ByteArray.data_append]
theorem cat_le10 (l:List ByteArray) (k:Nat):(cat10 (l.take k)).size≤(cat10 l).size:=by
 have h:=cat_app10 (l.take k) (l.drop k)
 rw [List.take_append_drop] at h
 rw [h,ByteArray.size_append];omega
def lstR10 (l:List ByteArray):Value:=.tuple #[.string (lstV10 l).1,.int .i64 (lstV10 l).2]
theorem lstR_ok10 {l:List ByteArray} (h:l.length≤1000) (hz:(lst10 l).size≤65536):lstR10 l=.tuple #[.string (lst10 l),.int .i64 0]:=by
 rw [lstR10,lstV10,if_pos ⟨h,hz⟩]
theorem lstR_no10 {l:List ByteArray} (h:¬ (l.length≤1000∧(lst10 l).size≤65536)):lstR10 l=.tuple #[.string ⟨#[]⟩,.int .i64 2]:=by
 rw [lstR10,lstV10,if_neg h]
theorem list_any10 (A:Option Addr) (cap:Nat) (l:List ByteArray) (w:World) (hs:∀ s ∈ l,s.size≤140737488355328) (hc:InV w A (tL10 l)) :
  Calls Tryz.prog 109 #[.slice A l.length cap] w fun e w'=>e=.returned (lstR10 l)∧Below w.heap.size w w':=by
 by_cases hn:l.length≤1000
 ·
  have HSZ:=Lib.hid (lsize_any10 A cap l w hn hs hc)
  have hn1:(l.length:Int)≤1000:=by omega
  obtain ⟨Z,hZ⟩:∃ Z,Z=(lst10 l).size:=⟨_,rfl⟩
  rw [← hZ] at HSZ
  by_cases hz:(lst10 l).size≤65536
  ·
   have hz1:(Z:Int)≤65536:=by omega
   rw [lstR_ok10 hn hz]
   have hcz:=lst_size10 l
   have HLE:=Lib.hid (fun s (h:s ∈ l)=>show s.size≤65532 by have:=(cat_size10 l).2 s h;omega)
   have HCL:=Lib.hid (fun k=>show (cat10 (l.take k)).size≤65532 by have:=cat_le10 l k;omega)
   have HNB:=Lib.hid (fun W=>numB_any (l.length:Int) W (by omega) (by omega))
   have HC:=Lib.hid hc
   have hw0:=Bld10.new w
   have hb0:Below w.heap.size w (w.alloc (.cells #[.pointer none,.slice none 0 0] 153)):=(Below.refl _ _).alloc (Nat.le_refl _) _
   have HN4:=Lib.hid (num_size10 (l.length:Int))
   have HLS:=Lib.hid (show lst10 l=num10 (l.length:Int) ++ cat10 (l.take l.length) by rw [List.take_length];rfl)
   have H0:=Lib.hid (show num10 (l.length:Int) ++ cat10 (l.take 0)=num10 (l.length:Int) from ByteArray.append_empty)
   generalize hW1:w.alloc (.cells #[.pointer none,.slice none 0 0] 153)=W1 at *
   have HW0:=Lib.hid hw0
   have HB0:=Lib.hid hb0
   clear hs hc hcz hw0 hb0 hZ hz
   go_enter Tryz.func109,Tryz.ntmps109
   go_wp2_with (go_at_call 128;refine HSZ.out.mono ?_;rintro e w' ⟨rfl,rfl⟩)
   clear HSZ hz1 hW1
   have hw0:=HW0.out
   have hb0:=HB0.out
   go_wp2_with (go_at_call 127;refine (HNB.out _).mono ?_)
   rintro e W2 ⟨rfl,hb⟩
   have hw2:=hw0.keep hb
   have hb2:=hb0.trans (hb.mono hb0.size)
   clear hw0 hb0 hb
   go_wp2_with (go_at_call 125;refine (write_any10 w.heap.size w.heap.size _ _ _ hw2 (by have:=HN4.out;simp;omega) hb2.size).mono ?_)
   rintro e W3 ⟨rfl,hw3,hb3,_⟩
   have hB3:=hb2.trans hb3
   clear hw2 hb2 hb3
   rw [List.nil_append] at hw3
   go_wp2
   go_loopw [21] (fun i wr=>∃ k:Nat,k≤l.length∧i=.int .i64 (k:Int)∧Bld10 w.heap.size w.heap.size (Lib.strCells (num10 (l.length:Int) ++ cat10 (l.take k))) wr∧Below w.heap.size w wr)
    (fun i _=>l.length - (intOf i).toNat)
   case atStart=>exact ⟨0,by omega,rfl,by rw [H0.out];exact hw3,hB3⟩
   case round =>
    clear hw3 hB3
    obtain ⟨k,hk,rfl,hW,hB⟩:=hrel
    by_cases hlt:k < l.length
    ·
     have h1:(k:Int) < (l.length:Int):=by omega
     obtain ⟨s,hx⟩:∃ s,l[k]?=some s:=⟨_,List.getElem?_eq_getElem hlt⟩
     have hsz:=HLE.out s (List.mem_of_getElem? hx)
     have hcl:=HCL.out k
     have HNS:=Lib.hid (fun W=>numB_any (s.size:Int) W (by omega) (by omega))
     have hin:=HC.out.keep hB
     obtain ⟨b,off,rfl,_,hcell⟩:=hin.txt hx
     have HST:=Lib.hid (show num10 (l.length:Int) ++ cat10 (l.take (k + 1))=num10 (l.length:Int) ++ cat10 (l.take k) ++ num10 (s.size:Int) ++ s by rw [cat_take10 hx,txt10];simp only [ByteArray.append_assoc])
     have hz4:=HN4.out
     have hps:(Lib.strCells (num10 (l.length:Int) ++ cat10 (l.take k))).length≤65536:=by rw [Lib.strCells_length,ByteArray.size_append];omega
     generalize num10 (l.length:Int) ++ cat10 (l.take k)=p at *
     have hs4:=num_size10 (s.size:Int)
     have HPS:=Lib.hid hps
     clear hx hps hz4 hin
     go_wp2_with (go_at_call 127;refine (HNS.out _).mono ?_)
     rintro e W4 ⟨rfl,hb⟩
     have hw4:=hW.keep hb
     have hb4:=hB.trans (hb.mono hB.size)
     clear hW hB hb hcell
     go_wp2_with (go_at_call 125;refine (write_any10 w.heap.size w.heap.size _ _ _ hw4 (by have:=HPS.out;omega) hb4.size).mono ?_)
     rintro e W5 ⟨rfl,hw5,hb5,_⟩
     have hB5:=hb4.trans hb5
     clear hw4 hb4 hb5
     rw [← strCells_app10] at hw5
     go_wp2_with (go_at_call 125;refine (write_any10 w.heap.size w.heap.size _ _ _ hw5 (by have:=HPS.out;rw [Lib.strCells_length,ByteArray.size_append];rw [Lib.strCells_length] at this;omega) hB5.size).mono ?_)
     rintro e W6 ⟨rfl,hw6,hb6,_⟩
     have hB6:=hB5.trans hb6
     clear hw5 hB5 hb6
     rw [← strCells_app10] at hw6
     go_wp2
     go_roundw
     case rel=>exact ⟨k + 1,by omega,by go_num,by rw [HST.out];exact hw6,hB6⟩
     case measure=>simp [intOf];omega
    ·
     have h1:¬ (k:Int) < (l.length:Int):=by omega
     obtain rfl:k=l.length:=by omega
     rw [← HLS.out,Lib.strCells_eq] at hW
     have HNE:=Lib.hid (show (lst10 l).data.toList≠[] from fun e=>by
      have h4:=lst_size10 l
      have h5:(lst10 l).size=(lst10 l).data.toList.length:=by rw [Array.length_toList];rfl
      have h6:(lst10 l).size=0:=by rw [h5,e];rfl
      omega)
     go_wp2_with (go_at_call 126;refine (bstr_any10 w.heap.size w.heap.size _ _ hW HNE.out).mono ?_;rintro e W4 ⟨rfl,hb,_⟩)
     go_ret2
     exact ⟨rfl,hB.trans hb⟩
  ·
   have hz1:¬ (Z:Int)≤65536:=by omega
   rw [lstR_no10 (by omega)]
   clear hs hc hZ hz
   go_enter Tryz.func109,Tryz.ntmps109
   go_wp2_with (go_at_call 128;refine HSZ.out.mono ?_;rintro e w' ⟨rfl,rfl⟩)
   go_ret2
   exact ⟨rfl,Below.refl _ _⟩
 ·
  have hn1:¬ (l.length:Int)≤1000:=by omega
  rw [lstR_no10 (by omega)]
  clear hs hc
  go_enter Tryz.func109,Tryz.ntmps109
  go_wp2
  go_ret2
  exact ⟨rfl,Below.refl _ _⟩
theorem dlist_any10 (A:Option Addr) (cap:Nat) (l:List ByteArray) (w:World) (hs:∀ s ∈ l,s.size≤140737488355328) (hc:InV w A (tL10 l)) :
  Calls Tryz.prog 70 #[.slice A l.length cap] w fun e w'=>e=.returned (lstR10 l)∧Below w.heap.size w w':=by
 by_cases hn:l.length≤1000
 ·
  have hn1:(l.length:Int)≤1000:=by omega
  have HNB:=Lib.hid (fun W=>by have:=dnum_any10 (l.length:Int) W;rwa [numR_ok10 (by omega) (by omega)] at this)
  have HC:=Lib.hid hc
  have HS:=Lib.hid hs
  have HT:=Lib.hid dtxt_any10
  have HN4:=Lib.hid (num_size10 (l.length:Int))
  have HLS:=Lib.hid (show lst10 l=num10 (l.length:Int) ++ cat10 (l.take l.length) by rw [List.take_length];rfl)
  have H0:=Lib.hid (show num10 (l.length:Int) ++ cat10 (l.take 0)=num10 (l.length:Int) from ByteArray.append_empty)
  have HOK:=Lib.hid (fun h=>lstR_ok10 (l:=l) hn h)
  have HNO:=Lib.hid (fun (k:Nat) (h:65536 < (num10 (l.length:Int) ++ cat10 (l.take k)).size)=>lstR_no10 (l:=l) (fun h2=>by
   have h3:=cat_le10 l k
   have h4:=lst_size10 l
   have h5:=num_size10 (l.length:Int)
   rw [ByteArray.size_append] at h
   omega))
  clear hs hc hn
  generalize lstR10 l=R at *
  go_enter Tryz.func70,Tryz.ntmps70
  go_wp2_with (go_at_call 69;refine (HNB.out _).mono ?_;rintro e W1 ⟨rfl,hB⟩)
  go_loopw [4,6] (fun o i wr=>∃ k:Nat,k≤l.length∧i=.int .i64 (k:Int)∧o=.string (num10 (l.length:Int) ++ cat10 (l.take k))∧(num10 (l.length:Int) ++ cat10 (l.take k)).size≤65536∧Below w.heap.size w wr)
   (fun _ i _=>l.length - (intOf i).toNat)
  case atStart=>exact ⟨0,by omega,rfl,by rw [H0.out],by rw [H0.out,HN4.out];omega,hB⟩
  case round =>
   clear hB
   obtain ⟨k,hk,rfl,rfl,hz,hB⟩:=hrel
   by_cases hlt:k < l.length
   ·
    have h1:(k:Int) < (l.length:Int):=by omega
    obtain ⟨s,hx⟩:∃ s,l[k]?=some s:=⟨_,List.getElem?_eq_getElem hlt⟩
    have HSZ:=Lib.hid (HS.out s (List.mem_of_getElem? hx))
    have hin:=HC.out.keep hB
    obtain ⟨b,off,rfl,_,hcell⟩:=hin.txt hx
    have HST:=Lib.hid (show num10 (l.length:Int) ++ cat10 (l.take (k + 1))=num10 (l.length:Int) ++ cat10 (l.take k) ++ txt10 s by rw [cat_take10 hx];simp only [ByteArray.append_assoc])
    have HNK:=Lib.hid (HNO.out (k + 1))
    rw [HST.out] at HNK
    have hct:=HT.out s
    by_cases h6:s.size≤65536
    ·
     rw [txtR_ok10 h6] at hct
     have HCT:=Lib.hid hct
     have hs4:=txt_size10 s
     have he:num10 (s.size:Int) ++ s=txt10 s:=rfl
     rw [he] at HCT
     have HPZ:=Lib.hid (ByteArray.size_append (a:=num10 (l.length:Int) ++ cat10 (l.take k)) (b:=txt10 s))
     generalize num10 (l.length:Int) ++ cat10 (l.take k)=p at *
     generalize txt10 s=t at *
     have hp1:(p.size:Int)≤65536:=by omega
     have hno:¬ 9223372036854775807 < p.size + t.size:=by omega
     have HZ:=Lib.hid hz
     have HS4:=Lib.hid hs4
     have w1i:=IntWalk.i64_in ((p.size:Int) + (t.size:Int)) (by omega)
     clear hx hin hct h6 he hz
     by_cases h7:p.size + t.size≤65536
     ·
      have h8:(p.size:Int) + (t.size:Int)≤65536:=by omega
      have H7:=Lib.hid h7
      clear h7 hs4
      go_wp2_with (go_at_call 93;refine (HCT.out _).mono ?_;rintro e W2 ⟨rfl,hb⟩)
      go_roundw
      case rel=>exact ⟨k + 1,by omega,by go_num,by rw [HST.out],by rw [HST.out,HPZ.out];exact H7.out,hB.trans (hb.mono hB.size)⟩
      case measure=>simp [intOf];omega
     ·
      have h8:¬ (p.size:Int) + (t.size:Int)≤65536:=by omega
      have HR:=Lib.hid (HNK.out (by rw [HPZ.out];omega))
      clear h7 hs4
      go_wp2_with (go_at_call 93;refine (HCT.out _).mono ?_;rintro e W2 ⟨rfl,hb⟩)
      go_ret2
      exact ⟨by rw [HR.out];rfl,hB.trans (hb.mono hB.size)⟩
    ·
     rw [txtR_no10 h6] at hct
     have HCT:=Lib.hid hct
     have HR:=Lib.hid (HNK.out (by rw [ByteArray.size_append,txt_size10];omega))
     generalize num10 (l.length:Int) ++ cat10 (l.take k)=p at *
     clear hx hin hct h6 hz
     go_wp2_with (go_at_call 93;refine (HCT.out _).mono ?_;rintro e W2 ⟨rfl,hb⟩)
     go_ret2
     exact ⟨by rw [HR.out];rfl,hB.trans (hb.mono hB.size)⟩
   ·
    have h1:¬ (k:Int) < (l.length:Int):=by omega
    obtain rfl:k=l.length:=by omega
    rw [← HLS.out] at hz ⊢
    have HR:=Lib.hid (HOK.out hz)
    clear hz
    go_wp2
    go_ret2
    exact ⟨by rw [HR.out];rfl,hB⟩
 ·
  have hn1:¬ (l.length:Int)≤1000:=by omega
  rw [lstR_no10 (by omega)]
  clear hs hc
  go_enter Tryz.func70,Tryz.ntmps70
  go_wp2
  go_ret2
  exact ⟨rfl,Below.refl _ _⟩
end Go.Proofs.YtmggbbmpckcleaaGreat
namespace Go.Proofs.YtmggbbmpckcleaaGreat
open Go.RowKit Go.Shelf
attribute [local go_sem] Oper.semAt_some
theorem InV.apart10 {W W':World} {A:Option Addr} {vs:List Value} {row:Option Nat} (h:InV W A vs) (hg:W.grownBy W' row) (hr:∀ p,A=some p→row≠some p.block):InV W' A vs:=fun j u hj=>by
 obtain ⟨b,off,rfl,h1,h2⟩:=h j u hj
 obtain ⟨ob,ho,_⟩:=cells_of_cell h2
 have h3:=hg.block b h1 (fun e=>hr _ rfl e.symm)
 refine ⟨b,off,rfl,Nat.lt_of_lt_of_le h1 hg.size,?_⟩
 rw [← h2]
 simp only [World.cell?,h3]
structure Lst10 (n:Nat) (W:World) (A:Option Addr) (l:List ByteArray):Prop where
 at':InV W A (tL10 l)
 own:∀ p,A=some p→n≤p.block
section
variable {n:Nat} {W W':World} {A:Option Addr} {l:List ByteArray}
theorem Lst10.nil (n:Nat) (W:World):Lst10 n W none []:=⟨fun j u hj=>(by cases hj),fun p e=>(by cases e)⟩
theorem Lst10.below (h:Lst10 n W A l) (hb:Below W.heap.size W W'):Lst10 n W' A l:=⟨h.at'.keep hb,h.own⟩
theorem Lst10.alloc (h:Lst10 n W A l) (o:Obj):Lst10 n (W.alloc o) A l:=h.below ((Below.refl _ _).alloc (Nat.le_refl _) _)
theorem Lst10.far (h:Lst10 n W A l) {p:Addr} (hp:p.block < n) (v:Value):Lst10 n (W.setCell p v) A l :=
 ⟨h.at'.apart10 (grownSetG W p v) (fun q e e2=>by have h1:=h.own q e;have h2:=Option.some.inj e2;omega),h.own⟩
theorem Lst10.drewN (h:Lst10 n W A l) (m:Nat):Lst10 n (W.drewN m) A l:=⟨h.at',h.own⟩
theorem Lst10.mono {m:Nat} (h:Lst10 n W A l) (hm:m≤n):Lst10 m W A l:=⟨h.at',fun p e=>Nat.le_trans hm (h.own p e)⟩
end
theorem aggL10 (w:World):(isAgg 24).run Tryz.prog w=.ok false w:=by go_simp
theorem aggI10 (w:World):(isAgg 3).run Tryz.prog w=.ok false w:=by go_simp
theorem aggE10 (w:World):(isAgg 34).run Tryz.prog w=.ok false w:=by go_simp
theorem results_sss10 {fn:Func} {s p u:Tmp} {t0 t1 t2:TypeId} (h:fn.results=#[.cell s t0,.cell p t1,.cell u t2]) (tmps:Array Value) (P:Program) (w:World) (g0 g1 g2:Nat) (y0 y1 y2:Value) (T0 T1 T2:TypeId)
  (hs:tmps.getD s undef=.pointer (some ⟨g0,0,none⟩)) (hp:tmps.getD p undef=.pointer (some ⟨g1,0,none⟩)) (hu:tmps.getD u undef=.pointer (some ⟨g2,0,none⟩))
  (i0:Is w g0 T0 #[y0]) (i1:Is w g1 T1 #[y1]) (i2:Is w g2 T2 #[y2]) (a0:(isAgg t0).run P w=.ok false w) (a1:(isAgg t1).run P w=.ok false w) (a2:(isAgg t2).run P w=.ok false w) :
  (results fn tmps).run P w=.ok (.tuple #[y0,y1,y2]) w:=by
 have e:(results fn tmps).run P w=((asAddr (tmps.getD s undef)).run P w).andThen fun b w0=>((loadVar t0 b).run P w0).andThen fun v0 w1=>((asAddr (tmps.getD p undef)).run P w1).andThen fun b w2=>((loadVar t1 b).run P w2).andThen fun v1 w3 =>
   ((asAddr (tmps.getD u undef)).run P w3).andThen fun b w4=>((loadVar t2 b).run P w4).andThen fun v2 w5=>.ok (.tuple #[v0,v1,v2]) w5:=by
  simp only [results,h]
  simp [Sem.run_bind,Result.andThen]
 have c0:=i0.cell 0
 have c1:=i1.cell 0
 have c2:=i2.cell 0
 have l0:(loadVar t0 ⟨g0,0,none⟩).run P w=.ok y0 w:=by
  simp only [loadVar,Sem.run_bind,a0,Result.andThen_ok]
  simp [go_sem,c0]
 have l1:(loadVar t1 ⟨g1,0,none⟩).run P w=.ok y1 w:=by
  simp only [loadVar,Sem.run_bind,a1,Result.andThen_ok]
  simp [go_sem,c1]
 have l2:(loadVar t2 ⟨g2,0,none⟩).run P w=.ok y2 w:=by
  simp only [loadVar,Sem.run_bind,a2,Result.andThen_ok]
  simp [go_sem,c2]
 rw [e,hs,hp,hu]
 simp [asAddr,l0,l1,l2]
structure Res10 (w W:World) (n:Nat) (y0 y1 y2:Value):Prop where
 c0:Is W n 24 #[y0]
 c1:Is W (n + 1) 3 #[y1]
 c2:Is W (n + 1 + 1) 34 #[y2]
 below:Below n w W
section
variable {w W W':World} {n:Nat} {y0 y1 y2:Value}
theorem Res10.step (h:Res10 w W n y0 y1 y2) (hb:Below W.heap.size W W') (hn:n≤W.heap.size):Res10 w W' n y0 y1 y2 :=
 ⟨h.c0.below hb h.c0.lt,h.c1.below hb h.c1.lt,h.c2.below hb h.c2.lt,h.below.trans (hb.mono hn)⟩
theorem Res10.alloc (h:Res10 w W n y0 y1 y2) (o:Obj):Res10 w (W.alloc o) n y0 y1 y2:=h.step ((Below.refl _ _).alloc (Nat.le_refl _) _) (by have:=h.c0.lt;omega)
theorem Res10.set3 (h:Res10 w W n y0 y1 y2) (z0 z1 z2:Value):Res10 w (((W.setCell ⟨n,0,none⟩ z0).setCell ⟨n + 1,0,none⟩ z1).setCell ⟨n + 1 + 1,0,none⟩ z2) n z0 z1 z2 :=
 ⟨((h.c0.set 0 z0).far (by simp) _).far (by simp;omega) _,((h.c1.far (by simp) _).set 0 z1).far (by simp) _,((h.c2.far (by simp;omega) _).far (by simp) _).set 0 z2,
  ((h.below.setCell (p:=⟨n,0,none⟩) (Nat.le_refl _) _).setCell (p:=⟨n + 1,0,none⟩) (by simp) _).setCell (p:=⟨n + 1 + 1,0,none⟩) (by simp;omega) _⟩
end
theorem flW10 (w:World):Res10 w (((w.alloc (.cells #[.slice none 0 0] 24)).alloc (.cells #[.int .i64 0] 3)).alloc (.cells #[.int .i64 0] 34)) w.heap.size (.slice none 0 0) (.int .i64 0) (.int .i64 0) :=
 ⟨((Is.new w _ _).alloc _).alloc _,Is.alloc (heap_alloc2_new w _ _) _,by
  have:=Is.new ((w.alloc (.cells #[.slice none 0 0] 24)).alloc (.cells #[.int .i64 0] 3)) 34 #[.int .i64 0]
  simpa using this,(((Below.refl _ _).alloc (Nat.le_refl _) _).alloc (by simp) _).alloc (by simp;omega) _⟩
def flR10 (s:ByteArray) (A:Option Addr) (c:Nat):Value:=.tuple #[.slice A (tlV10 s 0).1.length c,.int .i64 (tlV10 s 0).2.1,.int .i64 (tlV10 s 0).2.2]
theorem flist_no10 (s:ByteArray) (w:World) (h:s.size≤65536) (h0:(tnV10 s 0).2.2≠0∨1000 < (tnV10 s 0).1) :
  Calls Tryz.prog 119 #[.string s] w fun e w'=>∃ A c,e=.returned (flR10 s A c)∧Lst10 w.heap.size w' A (tlV10 s 0).1∧Below w.heap.size w w':=by
 have HN:=fnum_any10 s
 have hR:=flW10 w
 by_cases h1:(tnV10 s 0).2.2=0
 ·
  obtain ⟨hN,hb⟩:=tn_ok10 h1
  have h2:1000 < (tnV10 s 0).1:=by rcases h0 with h0 | h0;exact absurd h1 h0;exact h0
  have hv:tlV10 s 0=([],0,13):=by rw [tlV10,if_pos h1,if_pos h2]
  have HV:=Lib.hid hv
  have HA:=Lib.hid (show flR10 s none 0=.tuple #[.slice none 0 0,.int .i64 0,.int .i64 13] by rw [flR10,hv];rfl)
  simp only [fnR10,hb,h1] at HN
  have HNN:=Lib.hid (fun w=>HN w h)
  have hbd:=hN.bd.1
  generalize (tnV10 s 0).1=n at *
  clear hN hb hv h0 h1 HN h
  go_enter Tryz.func119,Tryz.ntmps119
  go_wp2_with fail
  generalize ((w.alloc (.cells #[.slice none 0 0] 24)).alloc (.cells #[.int .i64 0] 3)).alloc (.cells #[.int .i64 0] 34)=W1 at *
  refine (HNN.out _).mono ?_
  rintro e W1 ⟨rfl,rfl⟩
  have hR2:=hR.alloc (.cells #[.int .i64 4] 3)
  have c0:(W1.alloc (.cells #[.int .i64 4] 3)).cell? ⟨w.heap.size,0,none⟩=some (.slice none 0 0):=hR2.c0.cell 0
  have c1:(W1.alloc (.cells #[.int .i64 4] 3)).cell? ⟨w.heap.size + 1,0,none⟩=some (.int .i64 0):=hR2.c1.cell 0
  have c2:(W1.alloc (.cells #[.int .i64 4] 3)).cell? ⟨w.heap.size + 1 + 1,0,none⟩=some (.int .i64 0):=hR2.c2.cell 0
  have f0:=hR2.c0.frozen 0
  have f1:=hR2.c1.frozen 0
  have f2:=hR2.c2.frozen 0
  go_wp2
  have hR3:=hR2.set3 (.slice none 0 0) (.int .i64 0) (.int .i64 13)
  exact bodyPost_ret (results_sss10 Tryz.results119 _ _ _ w.heap.size (w.heap.size + 1) (w.heap.size + 1 + 1) (.slice none 0 0) (.int .i64 0) (.int .i64 13) 24 3 34 rfl rfl rfl hR3.c0 hR3.c1 hR3.c2 (aggL10 _) (aggI10 _) (aggE10 _)) rfl
   ⟨none,0,congrArg Ending.returned HA.out.symm,by rw [HV.out];exact Lst10.nil _ _,hR3.below⟩
 ·
  have hk:=tn_keep10 h1
  have hv:tlV10 s 0=([],0,(tnV10 s 0).2.2):=by rw [tlV10,if_neg h1]
  have HV:=Lib.hid hv
  have HA:=Lib.hid (show flR10 s none 0=.tuple #[.slice none 0 0,.int .i64 0,.int .i64 (tnV10 s 0).2.2] by rw [flR10,hv];rfl)
  simp only [fnR10] at HN
  rw [hk] at HN
  have HNN:=Lib.hid (fun w=>HN w h)
  generalize (tnV10 s 0).2.2=e0 at *
  clear hv hk h0 HN h
  go_enter Tryz.func119,Tryz.ntmps119
  go_wp2_with fail
  generalize ((w.alloc (.cells #[.slice none 0 0] 24)).alloc (.cells #[.int .i64 0] 3)).alloc (.cells #[.int .i64 0] 34)=W1 at *
  refine (HNN.out _).mono ?_
  rintro e W1 ⟨rfl,rfl⟩
  have hR2:=hR.alloc (.cells #[.int .i64 0] 3)
  have c0:(W1.alloc (.cells #[.int .i64 0] 3)).cell? ⟨w.heap.size,0,none⟩=some (.slice none 0 0):=hR2.c0.cell 0
  have c1:(W1.alloc (.cells #[.int .i64 0] 3)).cell? ⟨w.heap.size + 1,0,none⟩=some (.int .i64 0):=hR2.c1.cell 0
  have c2:(W1.alloc (.cells #[.int .i64 0] 3)).cell? ⟨w.heap.size + 1 + 1,0,none⟩=some (.int .i64 0):=hR2.c2.cell 0
  have f0:=hR2.c0.frozen 0
  have f1:=hR2.c1.frozen 0
  have f2:=hR2.c2.frozen 0
  go_wp2
  have hR3:=hR2.set3 (.slice none 0 0) (.int .i64 0) (.int .i64 e0)
  exact bodyPost_ret (results_sss10 Tryz.results119 _ _ _ w.heap.size (w.heap.size + 1) (w.heap.size + 1 + 1) (.slice none 0 0) (.int .i64 0) (.int .i64 e0) 24 3 34 rfl rfl rfl hR3.c0 hR3.c1 hR3.c2 (aggL10 _) (aggI10 _) (aggE10 _)) rfl
   ⟨none,0,congrArg Ending.returned HA.out.symm,by rw [HV.out];exact Lst10.nil _ _,hR3.below⟩
end Go.Proofs.YtmggbbmpckcleaaGreat
namespace Go.Proofs.YtmggbbmpckcleaaGreat
open Go.RowKit Go.Shelf
attribute [local go_sem] Oper.semAt_some
theorem infoTxt10:(Tryz.prog.info? 9).map (fun i=>(i.zero,i.size,i.bytes))=some (some (.string ⟨#[]⟩),1,16):=by kernel_rfl
def Row10 (W:World) (g N:Nat) (l:List ByteArray):Prop:=∃ cur:Array Value,Is W g 9 cur∧cur.size=N∧cur.toList.take l.length=tL10 l
section
variable {W W':World} {g N:Nat} {l:List ByteArray}
theorem Row10.keep (h:Row10 W g N l) {row:Option Nat} (hg:W.grownBy W' row) (hr:row≠some g):Row10 W' g N l:=by
 obtain ⟨cur,h1,h2,h3⟩:=h
 exact ⟨cur,(hg.block g h1.lt (fun e=>hr e.symm)).trans h1,h2,h3⟩
theorem Row10.keepT (h:Row10 W g N l) {row:Option Nat} (hg:W.grownBy W' row) (hr:∀ r,row=some r→∃ o:Obj,W.heap[r]?=some o∧o.isCells=false):Row10 W' g N l:=by
 obtain ⟨cur,h1,h2,h3⟩:=h
 exact ⟨cur,(grownBy_keeps_cells hg hr h1 rfl).trans h1,h2,h3⟩
theorem Row10.lt (h:Row10 W g N l):g < W.heap.size:=by obtain ⟨cur,h1,_⟩:=h;exact h1.lt
theorem Row10.far (h:Row10 W g N l) {p:Addr} (hp:g≠p.block) (v:Value):Row10 (W.setCell p v) g N l:=h.keep (grownSetG W p v) (fun e=>hp (Option.some.inj e).symm)
theorem Row10.made {base:Nat} (h:W.ownsRow base 9 1 (.slice (some ⟨g,0,none⟩) 0 N) 0 []):Row10 W g N []:=by
 rcases h.2 with ⟨h0,_⟩ | ⟨g2,cap,cur,h0,_,hg,_,_,hs,_⟩
 · cases h0
 ·
  injection h0 with e1 _ e2
  cases e1;cases e2
  exact ⟨cur,hg,by omega,rfl⟩
theorem Row10.inV (h:Row10 W g N l):InV W (some ⟨g,0,none⟩) (tL10 l):=fun j u hj=>by
 obtain ⟨cur,h1,h2,h3⟩:=h
 have hjl:j < l.length:=by have:=(List.getElem?_eq_some_iff.1 hj).1;rwa [List.length_map] at this
 refine ⟨g,0,rfl,h1.lt,?_⟩
 rw [Nat.zero_add,h1.cell,← hj,← h3,List.getElem?_take,if_pos hjl,Array.getElem?_toList]
theorem Row10.push (h:Row10 W g N l) (hN:l.length < N) {b:Nat} {x:ByteArray} (hb:W.cell? ⟨b,0,none⟩=some (.string x)) :
  ∃ cs,(Builtin.append_ #[24,24] 24 #[.slice (some ⟨g,0,none⟩) l.length N,.slice (some ⟨b,0,none⟩) 1 1]).run Tryz.prog W=.ok (.slice (some ⟨g,0,none⟩) (l.length + 1) N) (W.setRow g cs)∧Row10 (W.setRow g cs) g N (l ++ [x]):=by
 obtain ⟨i0,hi,hz0,hz1,hz2⟩:=info_parts infoTxt10
 obtain ⟨cur,h1,h2,h3⟩:=h
 refine ⟨_,run_append_room (P:=Tryz.prog) W 24 24 9 i0 Tryz.underlying24 hi g l.length N cur h1 ⟨b,0,none⟩ 1 1 [.string x] (by rw [hz1];rfl) (fun j u hj=>by
   cases j with
   | zero=>cases hj;rw [Addr.add_lit];exact hb
   | succ j=>cases hj) (fun u hu=>by rw [List.mem_singleton] at hu;subst hu;rfl) (by omega) (by rw [hz1,h2];simp;omega),_,h1.row _,?_,?_⟩
 ·
  simp only [List.size_toArray,List.length_append,List.length_take,List.length_drop,Array.length_toList,hz1,h2,List.length_cons,List.length_nil]
  omega
 ·
  rw [hz1,Nat.mul_one,h3,List.length_append,List.length_singleton,List.append_assoc,show (tL10 l ++ ([Value.string x] ++ List.drop (l.length + [Value.string x].length) cur.toList))=(tL10 (l ++ [x])) ++ List.drop (l.length + [Value.string x].length) cur.toList by simp]
  exact List.take_left' (by simp)
end
theorem wpListIn_append10 {F:Fence} {n:Nat} {P:Program} {ops:Array Oper} {rest:List Oper} {o:Oper} {a:Act} {Q:Exit→Act→World→Prop} {w w':World} (hgd:o.guard=none) (s x:Operand) (t:TypeId)
  (ho:o.op=.call { callee:=.builtin .append,args:=#[s,x],argTypes:=#[t,t] }) {v u r:Value} (hs:a.eval s=v) (hx:a.eval x=u) (hr:(Builtin.append_ #[t,t] o.type #[v,u]).run P w=.ok r w')
  (h:wpListIn F n P ops Q rest (a.put o.dst r) w'):wpListIn F n P ops Q (o :: rest) a w:=by
 refine wpListIn_plain hgd fun K hK=>?_
 unfold Oper.wpIn
 refine ⟨?_,?_⟩
 · simp [Oper.about,ho,resolve,Target.leads,Sem.run_pure]
 ·
  rw [Oper.semAt_plain F _ _ (by rw [ho];intro c hc';cases hc')]
  simp [execOp,ho,resolve,invoke,builtin,hs,hx,hr,Result.andThen]
  exact hK _ _ h
theorem isOwn10 {B:Nat} {g:Nat} {t:TypeId} {cs:Array Value} {X Y:World} {row:Option Nat} (h:Is X g t cs) (hg:X.grownBy Y row) (hr:∀ r,row=some r→B≤r∧∃ o:Obj,X.heap[r]?=some o∧o.isCells=false):Is Y g t cs :=
 (grownBy_keeps_cells hg (fun r e=>(hr r e).2) h rfl).trans h
theorem belowOwn10 {n B:Nat} {w X Y:World} {row:Option Nat} (h:Below n w X) (hx:n≤X.heap.size) (hn:n≤B) (hg:X.grownBy Y row) (hr:∀ r,row=some r→B≤r∧∃ o:Obj,X.heap[r]?=some o∧o.isCells=false):Below n w Y :=
 h.grown hg hx (fun k e=>Nat.le_trans hn (hr k e).1)
theorem Res10.ownT {w W W':World} {n B:Nat} {y0 y1 y2:Value} {row:Option Nat} (h:Res10 w W n y0 y1 y2) (hn:n≤B) (hg:W.grownBy W' row) (hr:∀ r,row=some r→B≤r∧∃ o:Obj,W.heap[r]?=some o∧o.isCells=false):Res10 w W' n y0 y1 y2 :=
 ⟨isOwn10 h.c0 hg hr,isOwn10 h.c1 hg hr,isOwn10 h.c2 hg hr,belowOwn10 h.below (by have:=h.c0.lt;omega) hn hg hr⟩
theorem Res10.far {w W:World} {n:Nat} {y0 y1 y2:Value} (h:Res10 w W n y0 y1 y2) {p:Addr} (hp:n + 1 + 1 < p.block) (v:Value):Res10 w (W.setCell p v) n y0 y1 y2 :=
 ⟨h.c0.far (by omega) _,h.c1.far (by omega) _,h.c2.far (by omega) _,h.below.setCell (by omega) _⟩
theorem Res10.rowFar {w W:World} {n:Nat} {y0 y1 y2:Value} (h:Res10 w W n y0 y1 y2) {g:Nat} (hp:n + 1 + 1 < g) (cs:Array Value):Res10 w (W.setRow g cs) n y0 y1 y2 :=
 ⟨h.c0.rowFar (by omega) _,h.c1.rowFar (by omega) _,h.c2.rowFar (by omega) _,belowRow h.below (by omega) _⟩
theorem Res10.rows3 {w W:World} {n:Nat} {y0 y1 y2:Value} (h:Res10 w W n y0 y1 y2) (z0 z1 z2:Value):Res10 w (((W.setRow n #[z0]).setRow (n + 1) #[z1]).setRow (n + 1 + 1) #[z2]) n z0 z1 z2 :=
 ⟨((h.c0.row _).rowFar (by omega) _).rowFar (by omega) _,((h.c1.rowFar (by omega) _).row _).rowFar (by omega) _,((h.c2.rowFar (by omega) _).rowFar (by omega) _).row _,belowRow (belowRow (belowRow h.below (Nat.le_refl _) _) (by omega) _) (by omega) _⟩
structure Run10 (w W:World) (n bZ bL g N:Nat) (z:Int) (l:List ByteArray):Prop where
 res:Res10 w W n (.slice none 0 0) (.int .i64 0) (.int .i64 0)
 iZ:Is W bZ 3 #[.int .i64 z]
 iL:Is W bL 24 #[.slice (some ⟨g,0,none⟩) l.length N]
 row:Row10 W g N l
theorem flist_go10 (s:ByteArray) (w:World) (h:s.size≤65536) (h0:(tnV10 s 0).2.2=0) (h1:(tnV10 s 0).1≤1000) :
  Calls Tryz.prog 119 #[.string s] w fun e w'=>∃ A c,e=.returned (flR10 s A c)∧Lst10 w.heap.size w' A (tlV10 s 0).1∧Below w.heap.size w w':=by
 obtain ⟨i0,hi,hz0,hz1,hz2⟩:=info_parts infoTxt10
 have HN:=fnum_any10 s
 have hR:=flW10 w
 obtain ⟨hN,hb⟩:=tn_ok10 h0
 obtain ⟨N,hNe⟩:∃ N:Nat,(tnV10 s 0).1=(N:Int):=⟨(tnV10 s 0).1.toNat,by have:=hN.bd.1;omega⟩
 have h4:=hN.right.2.2
 have hsh:=tks_sh10 (B:=s) (x:=4) (by omega) h (a:=0) (by omega) (by omega)
 have hvo:no10 (s.extract 4 s.size) N=0→tlV10 s 0=((tks10 (s.extract 4 s.size) N 0).1,pl10 (s.extract 4 s.size) N + 4,0):=fun hn=>by
  have e:=hsh N
  unfold no10 at hn
  have hn2:(tks10 s N (((4:Nat):Int) + 0)).2.2=0:=by rw [e] at hn;exact hn
  rw [tlV10,if_pos h0,if_neg (by omega),hNe,show ((N:Int)).toNat=N by omega,show (0:Int) + 4=((4:Nat):Int) + 0 from rfl,if_pos hn2]
  unfold pl10
  rw [e]
  refine Prod.ext rfl (Prod.ext ?_ hn2)
  show (tks10 s N (((4:Nat):Int) + 0)).2.1=(tks10 s N (((4:Nat):Int) + 0)).2.1 - ((4:Nat):Int) + 4
  omega
 have hve:no10 (s.extract 4 s.size) N≠0→tlV10 s 0=([],0,no10 (s.extract 4 s.size) N):=fun hn=>by
  have e:=hsh N
  have hn2:(tks10 s N (((4:Nat):Int) + 0)).2.2=no10 (s.extract 4 s.size) N:=by unfold no10;rw [e]
  rw [tlV10,if_pos h0,if_neg (by omega),hNe,show ((N:Int)).toNat=N by omega,show (0:Int) + 4=((4:Nat):Int) + 0 from rfl,if_neg (by rw [hn2];exact hn),hn2]
 obtain ⟨X,hX⟩:∃ X,X=s.extract 4 s.size:=⟨_,rfl⟩
 rw [← hX] at hvo hve
 have HVO:=Lib.hid hvo
 have HVE:=Lib.hid hve
 simp only [fnR10,hb,h0,hNe] at HN
 have HNN:=Lib.hid (fun w=>HN w h)
 have hz4:(s.extract 4 s.size).size≤65536:=by rw [ex_size10 (Nat.le_refl _)];omega
 rw [← hX] at hz4
 have HZ4:=Lib.hid hz4
 have hN1:N≤1000:=by omega
 have hsl:=fun wx:World=>run_slice_string (P:=Tryz.prog) wx 9 s .i64 .i64 4 (s.size:Int) Tryz.underlying9 (by omega) (by omega) (Int.le_refl _)
 rw [show ((4:Int)).toNat=4 from rfl,show ((s.size:Int)).toNat=s.size by omega,← hX] at hsl
 have hsz4:(4:Int)≤(s.size:Int):=by omega
 clear hsh hvo hve hN hb h0 h1 hNe HN h4 hz4
 have HX:=Lib.hid hX
 clear hX hsl
 have hN2:(N:Int)≤1000:=by omega
 refine (callsIn_wide (n:=5)).1 ?_
 refine callsIn_of_wp_marks Tryz.func119 rfl trivial ?_ rfl
 simp only [Tryz.ntmps119,List.size_toArray,List.length_cons,List.length_nil,Nat.reduceAdd,Nat.reduceSub,Array.replicate_succ,Array.replicate_zero,List.push_toArray,List.append_toArray,List.nil_append,List.cons_append]
 gi_wp2_with fail
 generalize ((w.alloc (.cells #[.slice none 0 0] 24)).alloc (.cells #[.int .i64 0] 3)).alloc (.cells #[.int .i64 0] 34)=W1 at *
 refine ⟨trivial,(callsIn_wide.2 (HNN.out _)).mono ?_⟩
 rintro e W1 ⟨rfl,rfl⟩
 have hR2:=hR.alloc (.cells #[.int .i64 4] 3)
 have iZ2:=Is.new W1 3 #[.int .i64 4]
 generalize hD:W1.alloc (.cells #[.int .i64 4] 3)=W2 at *
 have hZl:w.heap.size + 1 + 1 < W1.heap.size:=hR.c2.lt
 obtain ⟨bZ,hbZ⟩:∃ bZ,bZ=W1.heap.size:=⟨_,rfl⟩
 rw [← hbZ] at iZ2 hZl
 clear hR
 gi_wp2_with (gi_at_make;refine wpListIn_make_own _ rfl _ _ 24 rfl w.heap.size 9 i0 (.string ⟨#[]⟩) 1 Tryz.underlying24 hi hz0 hz1 .i64 .i64 (N:Int) N rfl rfl rfl (by rw [hz2];omega) (by unfold maxLen;omega) hR2.below.size ?_;intro W3 hown3 hg3;have hb3:Below W2.heap.size W2 W3:=(Below.refl _ _).grown hg3 (Nat.le_refl _) (fun k e=>by cases e);have q3:(W3.alloc (.cells #[.slice (some ⟨W2.heap.size,0,none⟩) 0 N] 24)).cell? ⟨W1.heap.size,0,none⟩=some (.int .i64 4):=by (rw [← hbZ];exact ((iZ2.below hb3 iZ2.lt).alloc _).cell 0))
 refine ⟨trivial,?_⟩
 rw [← HX.out]
 refine (callsIn_wide.2 (texts_any10 X (N:Int) _)).mono ?_
 rintro e W6 ⟨rfl,rfl⟩
 gi_wp2_with fail
 have hR3:=((hR2.step hb3 (by have:=hR2.c2.lt;omega)).alloc (.cells #[.slice (some ⟨W2.heap.size,0,none⟩) 0 N] 24)).alloc (.cells #[.string X] 9)
 have iZ3:=(((iZ2.below hb3 iZ2.lt).alloc (.cells #[.slice (some ⟨W2.heap.size,0,none⟩) 0 N] 24)).alloc (.cells #[.string X] 9)).alloc (.cells #[.int .i64 (N:Int)] 3)
 have iL3:=((Is.new W3 24 #[.slice (some ⟨W2.heap.size,0,none⟩) 0 N]).alloc (.cells #[.string X] 9)).alloc (.cells #[.int .i64 (N:Int)] 3)
 have hrow3:=(((Row10.made hown3).keep (World.grownBy_alloc W3 (.cells #[.slice (some ⟨W2.heap.size,0,none⟩) 0 N] 24) none) (fun e=>by cases e)).keep (World.grownBy_alloc _ (.cells #[.string X] 9) none) (fun e=>by cases e)).keep (World.grownBy_alloc _ (.cells #[.int .i64 (N:Int)] 3) none) (fun e=>by cases e)
 have iS3:Is (((W3.alloc (.cells #[.slice (some ⟨W2.heap.size,0,none⟩) 0 N] 24)).alloc (.cells #[.string X] 9)).alloc (.cells #[.int .i64 (N:Int)] 3)) (W3.heap.size + 1) 9 #[.string X]:=Is.alloc (heap_alloc2_new W3 _ _) _
 have iN3:Is (((W3.alloc (.cells #[.slice (some ⟨W2.heap.size,0,none⟩) 0 N] 24)).alloc (.cells #[.string X] 9)).alloc (.cells #[.int .i64 (N:Int)] 3)) (W3.heap.size + 1 + 1) 3 #[.int .i64 (N:Int)]:=by
  have:=Is.new ((W3.alloc (.cells #[.slice (some ⟨W2.heap.size,0,none⟩) 0 N] 24)).alloc (.cells #[.string X] 9)) 3 #[.int .i64 (N:Int)]
  simpa using this
 have hR4:=hR3.alloc (.cells #[.int .i64 (N:Int)] 3)
 have hgL:W2.heap.size < W3.heap.size:=(Row10.made hown3).lt
 have hZg:bZ < W2.heap.size:=iZ2.lt
 have hs5:(((W3.alloc (.cells #[.slice (some ⟨W2.heap.size,0,none⟩) 0 N] 24)).alloc (.cells #[.string X] 9)).alloc (.cells #[.int .i64 (N:Int)] 3)).heap.size=W3.heap.size + 3:=by simp
 rw [← hbZ]
 generalize (((W3.alloc (.cells #[.slice (some ⟨W2.heap.size,0,none⟩) 0 N] 24)).alloc (.cells #[.string X] 9)).alloc (.cells #[.int .i64 (N:Int)] 3))=W5 at *
 generalize W2.heap.size=g at *
 generalize W3.heap.size=bL at *
 clear hown3 hg3 hb3 q3 hR2 iZ2 hR3 hbZ hD
 have HPL0:4 + pl10 X 0=4:=rfl
 refine wpIn_rangeL rfl (by omega) (gf:=135) (lb:=#[.pointer (some ⟨bL + 1 + 1,0,none⟩),.pointer (some ⟨bL + 1,0,none⟩)]) rfl trivial (enters_of Tryz.func135 (by kernel_rfl) rfl)
  (S:=fun k=>k=bL + 1∨k=bL + 1 + 1)
  (texts_seq10 (5 - 1) (by omega) (bL + 1) (bL + 1 + 1) X N W5 HZ4.out hN1 iS3 iN3 _ (.inl rfl) (.inr rfl))
  (Stay.refl _ _) (fun k hk=>by rcases hk with h | h <;> omega) (fun _=>rfl)
  (fun i W=>no10 X i=0∧i≤N∧Run10 w W w.heap.size bZ bL g N (4 + pl10 X i) (tks10 X i 0).1)
  (fun c _ W=>c=.ret∧no10 X N≠0∧Res10 w W w.heap.size (.slice none 0 0) (.int .i64 0) (.int .i64 (no10 X N)))
  (fun s A B row hs hg hr=>⟨hs.1,hs.2.1,hs.2.2.res.ownT (by omega) hg hr,isOwn10 hs.2.2.iZ hg hr,isOwn10 hs.2.2.iL hg hr,hs.2.2.row.keepT hg (fun r e=>(hr r e).2)⟩)
  (fun c s A B row hs hg hr=>⟨hs.1,hs.2.1,hs.2.2.ownT (by omega) hg hr⟩)
  ⟨rfl,by omega,hR4,iZ3,iL3,hrow3⟩ ?round ?done ?stop
 case round =>
  rintro l2 i x W hl hlt hx ⟨hno,hiN,hrun⟩
  gi_wp2
  refine ⟨Stay.refl _ _,⟨hno,hiN,hrun⟩,fun _=>True,fun _ _ _ _ _ _ _=>trivial,trivial,?_⟩
  clear hrun
  rintro W4 hl4 ⟨_,_,hrun⟩ _
  have hiN2:i < N:=by have h1:=tld_le10 (B:=X) N;have h2:=(List.getElem?_eq_some_iff.1 hx).1;omega
  have hxe:x=it10 X i:=by
   rw [tld_at10 hno hiN2] at hx
   exact (Option.some.inj hx).symm
  have hT:=tks_ok10 (B:=X) (a:=0) (by omega) (by omega) i hno
  have hzX:=HZ4.out
  have hp1:0≤pl10 X i:=by have:=hT.ahead;unfold pl10;omega
  have hp2:pl10 X i≤(X.size:Int):=hT.right
  have hlen:(tks10 X i 0).1.length=i:=hT.len
  have hstep:=no_step10 hno
  have hpl:=pl_step10 hno
  have htk:=tk_step10 hno
  have hto:(it10 X i).2=0→(ttV10 X (pl10 X i)).2.1=pl10 X i + 4 + ((it10 X i).1.size:Int)∧(ttV10 X (pl10 X i)).2.1≤(X.size:Int):=fun h=>⟨(tt_ok10 h).to,(tt_ok10 h).right.2.2⟩
  have hst:no10 X (i + 1)≠0→no10 X N=no10 X (i + 1):=fun h=>no_stay10 h (by omega)
  rw [← hxe] at hstep hpl htk hto
  obtain ⟨tx,er⟩:=x
  simp only at hstep hpl htk hto
  generalize (ttV10 X (pl10 X i)).2.1=en at *
  have iR0:=hrun.res.c0
  have iR1:=hrun.res.c1
  have iR2:=hrun.res.c2
  by_cases he:er=0
  ·
   have hpn:=hpl he
   have htn:=htk he
   obtain ⟨ht1,ht2⟩:=hto he
   rw [he] at hstep
   subst he
   have HI:=Lib.hid (show no10 X (i + 1)=0∧i + 1≤N from ⟨hstep,hiN2⟩)
   have HPN:=Lib.hid (show 4 + pl10 X (i + 1)=4 + pl10 X i + (4 + (tx.size:Int)) by rw [hpn,ht1];omega)
   have HTN:=Lib.hid htn
   have hz8:4 + pl10 X i + (4 + (tx.size:Int))≤65540:=by omega
   have hlN:(tks10 X i 0).1.length < N:=by omega
   have hrun2:Run10 w W4 w.heap.size bZ bL g N (4 + pl10 X i) (tks10 X i 0).1:=hrun
   generalize (tks10 X i 0).1=L at *
   have hz0:0≤4 + pl10 X i:=by omega
   generalize 4 + pl10 X i=z at *
   clear hx hxe hT hzX hp1 hp2 hstep hpl htk hto hst hno hpn htn ht1 ht2 iR0 iR1 iR2 hrun hiN hiN2 hlen
   have cL:W4.cell? ⟨bL,0,none⟩=some (.slice (some ⟨g,0,none⟩) L.length N):=hrun2.iL.cell 0
   have hgr:W4.grownBy (W4.alloc (.cells #[.string tx] 9)) none:=World.grownBy_alloc _ _ none
   obtain ⟨cs,hrn,hrow⟩:=(hrun2.row.keep hgr (fun e=>by cases e)).push hlN ((Is.new W4 9 #[.string tx]).cell 0)
   have HRN:=Lib.hid hrn
   have hR5:=(hrun2.res.alloc (.cells #[.string tx] 9)).rowFar (g:=g) (by omega) cs
   have iZ5:=(hrun2.iZ.alloc (.cells #[.string tx] 9)).rowFar (k:=g) (by omega) cs
   have iL5:=(hrun2.iL.alloc (.cells #[.string tx] 9)).rowFar (k:=g) (by omega) cs
   have hSt:Stay (fun k=>(k=bL + 1∨k=bL + 1 + 1)∨W5.heap.size≤k) W4 ((W4.alloc (.cells #[.string tx] 9)).setRow g cs):=((Stay.refl _ _).grown hgr (fun r e=>by cases e)).grown (grownRowG _ g cs) (fun r e=>by cases e;exact .inl (by omega))
   clear hrn hrun2 hgr
   generalize (W4.alloc (.cells #[.string tx] 9)).setRow g cs=W7 at *
   have d0:W7.cell? ⟨bL,0,none⟩=some (.slice (some ⟨g,0,none⟩) L.length N):=iL5.cell 0
   have d1:W7.cell? ⟨bZ,0,none⟩=some (.int .i64 z):=iZ5.cell 0
   have f0:=iL5.frozen 0
   have f1:=iZ5.frozen 0
   have q1:bZ≠bL:=by omega
   have q2:bL≠bZ:=by omega
   gi_wp2_with (gi_at_builtin;refine wpListIn_append10 rfl _ _ 24 rfl rfl rfl HRN.out ?_)
   refine ⟨(hSt.grown (grownSetG _ _ _) (fun r e=>by cases e;exact .inl (by simp only [];omega))).grown (grownSetG _ _ _) (fun r e=>by cases e;exact .inl (by simp only [];omega)),HI.out.1,HI.out.2,?_⟩
   rw [HPN.out,HTN.out]
   refine ⟨(hR5.far (p:=⟨bL,0,none⟩) (by simp only [];omega) _).far (p:=⟨bZ,0,none⟩) (by simp only [];omega) _,(iZ5.far (p:=⟨bL,0,none⟩) q1 _).set 0 _,?_,(hrow.far (p:=⟨bL,0,none⟩) (by simp only [];omega) _).far (p:=⟨bZ,0,none⟩) (by simp only [];omega) _⟩
   rw [List.length_append,List.length_singleton]
   exact (iL5.set 0 _).far (p:=⟨bZ,0,none⟩) q2 _
  ·
   have hne:no10 X N=er:=by rw [hst (by rw [hstep];exact he),hstep]
   have HNE:=Lib.hid (show no10 X N≠0 by rw [hne];exact he)
   have HRE:=Lib.hid hne
   have hres:=hrun.res
   have d0:W4.cell? ⟨w.heap.size,0,none⟩=some (.slice none 0 0):=iR0.cell 0
   have d1:W4.cell? ⟨w.heap.size + 1,0,none⟩=some (.int .i64 0):=iR1.cell 0
   have d2:W4.cell? ⟨w.heap.size + 1 + 1,0,none⟩=some (.int .i64 0):=iR2.cell 0
   have f0:=iR0.frozen 0
   have f1:=iR1.frozen 0
   have f2:=iR2.frozen 0
   clear hx hxe hT hzX hp1 hp2 hstep hpl htk hto hst hno hlen iR0 iR1 iR2 hrun hiN hiN2 hne
   gi_wp2
   refine ⟨(((Stay.refl _ _).grown (grownSetG _ _ _) (fun r e=>by cases e;exact .inl (by simp only [];omega))).grown (grownSetG _ _ _) (fun r e=>by cases e;exact .inl (by simp only [];omega))).grown (grownSetG _ _ _) (fun r e=>by cases e;exact .inl (by simp only [];omega)),rfl,HNE.out,?_⟩
   rw [HRE.out]
   exact hres.set3 _ _ _
 case done =>
  rintro D W hD ⟨hno,hiN,hrun⟩ hK
  obtain ⟨m,hm⟩:∃ m,m=(tld10 X N).length:=⟨_,rfl⟩
  rw [← hm] at hno hrun
  have hmN:=tld_all10 hm hno
  rw [hmN] at hno hrun
  have HV:=Lib.hid (HVO.out hno)
  clear hm hmN hno hiN
  gi_wp2
  generalize (tks10 X N 0).1=L at *
  obtain ⟨z,hz⟩:∃ z,z=4 + pl10 X N:=⟨_,rfl⟩
  rw [show pl10 X N + 4=z by omega] at HV
  rw [← hz] at hrun
  clear hz
  obtain ⟨Wf,hWf⟩:∃ Wf,Wf=((W.drew.setRow w.heap.size #[.slice (some ⟨g,0,none⟩) L.length N]).setRow (w.heap.size + 1) #[.int .i64 z]).setRow (w.heap.size + 1 + 1) #[.int .i64 0]:=⟨_,rfl⟩
  have hK2:Wf.heap[D]?=some (.deferred (some [])):=by
   rw [hWf]
   exact ((setRow_other _ (w.heap.size + 1 + 1) D _ (by omega)).trans ((setRow_other _ (w.heap.size + 1) D _ (by omega)).trans (setRow_other _ w.heap.size D _ (by omega)))).trans hK
  have hRf:Res10 w Wf w.heap.size (.slice (some ⟨g,0,none⟩) L.length N) (.int .i64 z) (.int .i64 0):=by
   rw [hWf]
   exact Res10.rows3 (W:=W.drew) ⟨hrun.res.c0,hrun.res.c1,hrun.res.c2,belowN hrun.res.below 1⟩ _ _ _
  have hgf:Row10 Wf g N L:=by
   rw [hWf]
   exact ((Row10.keep (W:=W.drew) hrun.row (grownRowG _ _ _) (fun e=>by have:=Option.some.inj e;omega)).keep (grownRowG _ _ _) (fun e=>by have:=Option.some.inj e;omega)).keep (grownRowG _ _ _) (fun e=>by have:=Option.some.inj e;omega)
  have hgr:=grownBy_putObj' Wf D (.deferred none)
  have hrr:∀ r,some D=some r→W5.heap.size≤r∧∃ o:Obj,Wf.heap[r]?=some o∧o.isCells=false:=fun r e=>by cases e;exact ⟨hD,_,hK2,rfl⟩
  have hR9:=hRf.ownT (by omega) hgr hrr
  have hg9:=(hgf.keepT hgr (fun r e=>(hrr r e).2)).inV
  have iL:=hrun.iL.drewN 1
  have iZ:=hrun.iZ.drewN 1
  have c0:=hrun.res.c0.drewN 1
  have c1:=hrun.res.c1.drewN 1
  have c2:=hrun.res.c2.drewN 1
  have HFIN:=Lib.hid (fun (T:Array Value) (e0:T.getD 2 undef=.pointer (some ⟨w.heap.size,0,none⟩)) (e1:T.getD 3 undef=.pointer (some ⟨w.heap.size + 1,0,none⟩)) (e2:T.getD 4 undef=.pointer (some ⟨w.heap.size + 1 + 1,0,none⟩)) =>
   show ∃ v,(results Tryz.f119 T).run Tryz.prog (Wf.putObj D (.deferred none))=.ok v (Wf.putObj D (.deferred none))∧∃ A c,Ending.returned v=Ending.returned (flR10 s A c)∧Lst10 w.heap.size (Wf.putObj D (.deferred none)) A (tlV10 s 0).1∧Below w.heap.size w (Wf.putObj D (.deferred none)) from
   ⟨_,results_sss10 Tryz.results119 T _ _ w.heap.size (w.heap.size + 1) (w.heap.size + 1 + 1) (.slice (some ⟨g,0,none⟩) L.length N) (.int .i64 z) (.int .i64 0) 24 3 34 e0 e1 e2 hR9.c0 hR9.c1 hR9.c2 (aggL10 _) (aggI10 _) (aggE10 _),some ⟨g,0,none⟩,N,by rw [flR10,HV.out],by rw [HV.out];exact ⟨hg9,fun p e=>by cases e;show w.heap.size≤g;omega⟩,hR9.below⟩)
  have HKF:=Lib.hid hK2
  clear hrun hK2 hRf hgf hgr hrr hR9 hg9 HV hK
  refine wpIn_region_any (by kernel_rfl) ?_
  change wpAnyIn _ _ _ _ _ _ _ _ _ W.drew
  refine wpAnyIn_two (i:=0) (j:=1) (by kernel_rfl) (wpOpIn_value (v:=.slice (some ⟨g,0,none⟩) L.length N) rfl rfl (fun c h=>by cases h) rfl (run_load_one rfl rfl iL (by go_simp)) ?_) (wpOpIn_value (v:=.int .i64 z) rfl rfl (fun c h=>by cases h) rfl (run_load_one rfl rfl iZ (by go_simp)) ?_)
  ·
   refine wpAnyIn_two (i:=1) (j:=2) (by kernel_rfl) (wpOpIn_value (v:=.int .i64 z) rfl rfl (fun c h=>by cases h) rfl (run_load_one rfl rfl iZ (by go_simp)) ?_) (wpOpIn_skip (w':=W.drew.setRow w.heap.size #[.slice (some ⟨g,0,none⟩) L.length N]) rfl rfl (fun c h=>by cases h) rfl (run_store_oneO rfl rfl rfl c0 (by kernel_rfl) rfl) ?_)
   ·
    refine wpAnyIn_one (i:=2) (by kernel_rfl) (wpOpIn_skip (w':=W.drew.setRow w.heap.size #[.slice (some ⟨g,0,none⟩) L.length N]) rfl rfl (fun c h=>by cases h) rfl (run_store_oneO rfl rfl rfl c0 (by kernel_rfl) rfl) ?_)
    refine wpAnyIn_one (i:=3) (by kernel_rfl) (wpOpIn_skip (w':=(W.drew.setRow w.heap.size #[.slice (some ⟨g,0,none⟩) L.length N]).setRow (w.heap.size + 1) #[.int .i64 z]) rfl rfl (fun c h=>by cases h) rfl (run_store_oneO rfl rfl rfl (c1.rowFar (by simp) _) (by kernel_rfl) rfl) ?_)
    refine wpAnyIn_one (i:=4) (by kernel_rfl) (wpOpIn_skip (w':=((W.drew.setRow w.heap.size #[.slice (some ⟨g,0,none⟩) L.length N]).setRow (w.heap.size + 1) #[.int .i64 z]).setRow (w.heap.size + 1 + 1) #[.int .i64 0]) rfl rfl (fun c h=>by cases h) rfl (run_store_oneO rfl rfl rfl ((c2.rowFar (by simp;omega) _).rowFar (by simp) _) (by kernel_rfl) rfl) ?_)
    rw [← hWf]
    refine wpAnyIn_done (by kernel_rfl) ?_ _
    gi_wp2
    refine ⟨by simp,.inl ⟨_,_,rfl,run_takeDeferred HKF.out,?_⟩⟩
    exact HFIN.out _ rfl rfl rfl
   ·
    refine wpAnyIn_one (i:=1) (by kernel_rfl) (wpOpIn_value (v:=.int .i64 z) rfl rfl (fun c h=>by cases h) rfl (run_load_one rfl rfl (iZ.rowFar (by omega) _) (by go_simp)) ?_)
    refine wpAnyIn_one (i:=3) (by kernel_rfl) (wpOpIn_skip (w':=(W.drew.setRow w.heap.size #[.slice (some ⟨g,0,none⟩) L.length N]).setRow (w.heap.size + 1) #[.int .i64 z]) rfl rfl (fun c h=>by cases h) rfl (run_store_oneO rfl rfl rfl (c1.rowFar (by simp) _) (by kernel_rfl) rfl) ?_)
    refine wpAnyIn_one (i:=4) (by kernel_rfl) (wpOpIn_skip (w':=((W.drew.setRow w.heap.size #[.slice (some ⟨g,0,none⟩) L.length N]).setRow (w.heap.size + 1) #[.int .i64 z]).setRow (w.heap.size + 1 + 1) #[.int .i64 0]) rfl rfl (fun c h=>by cases h) rfl (run_store_oneO rfl rfl rfl ((c2.rowFar (by simp;omega) _).rowFar (by simp) _) (by kernel_rfl) rfl) ?_)
    rw [← hWf]
    refine wpAnyIn_done (by kernel_rfl) ?_ _
    gi_wp2
    refine ⟨by simp,.inl ⟨_,_,rfl,run_takeDeferred HKF.out,?_⟩⟩
    exact HFIN.out _ rfl rfl rfl
  ·
   refine wpAnyIn_one (i:=0) (by kernel_rfl) (wpOpIn_value (v:=.slice (some ⟨g,0,none⟩) L.length N) rfl rfl (fun c h=>by cases h) rfl (run_load_one rfl rfl iL (by go_simp)) ?_)
   refine wpAnyIn_one (i:=2) (by kernel_rfl) (wpOpIn_skip (w':=W.drew.setRow w.heap.size #[.slice (some ⟨g,0,none⟩) L.length N]) rfl rfl (fun c h=>by cases h) rfl (run_store_oneO rfl rfl rfl c0 (by kernel_rfl) rfl) ?_)
   refine wpAnyIn_one (i:=3) (by kernel_rfl) (wpOpIn_skip (w':=(W.drew.setRow w.heap.size #[.slice (some ⟨g,0,none⟩) L.length N]).setRow (w.heap.size + 1) #[.int .i64 z]) rfl rfl (fun c h=>by cases h) rfl (run_store_oneO rfl rfl rfl (c1.rowFar (by simp) _) (by kernel_rfl) rfl) ?_)
   refine wpAnyIn_one (i:=4) (by kernel_rfl) (wpOpIn_skip (w':=((W.drew.setRow w.heap.size #[.slice (some ⟨g,0,none⟩) L.length N]).setRow (w.heap.size + 1) #[.int .i64 z]).setRow (w.heap.size + 1 + 1) #[.int .i64 0]) rfl rfl (fun c h=>by cases h) rfl (run_store_oneO rfl rfl rfl ((c2.rowFar (by simp;omega) _).rowFar (by simp) _) (by kernel_rfl) rfl) ?_)
   rw [← hWf]
   refine wpAnyIn_done (by kernel_rfl) ?_ _
   gi_wp2
   refine ⟨by simp,.inl ⟨_,_,rfl,run_takeDeferred HKF.out,?_⟩⟩
   exact HFIN.out _ rfl rfl rfl
 case stop =>
  rintro D c i W hD ⟨rfl,hne,hres⟩ hK
  have HV:=Lib.hid (HVE.out hne)
  clear hne
  gi_wp2
  refine ⟨by simp,.inl ⟨_,_,rfl,run_takeDeferred hK,?_⟩⟩
  have hgr:=grownBy_putObj' W D (.deferred none)
  have hrr:∀ r,some D=some r→W5.heap.size≤r∧∃ o:Obj,W.heap[r]?=some o∧o.isCells=false:=fun r e=>by cases e;exact ⟨hD,_,hK,rfl⟩
  have hR9:=hres.ownT (by omega) hgr hrr
  exact ⟨_,results_sss10 Tryz.results119 _ _ _ w.heap.size (w.heap.size + 1) (w.heap.size + 1 + 1) (.slice none 0 0) (.int .i64 0) (.int .i64 (no10 X N)) 24 3 34 rfl rfl rfl hR9.c0 hR9.c1 hR9.c2 (aggL10 _) (aggI10 _) (aggE10 _),none,0,by rw [flR10,HV.out];rfl,by rw [HV.out];exact Lst10.nil _ _,hR9.below⟩
end Go.Proofs.YtmggbbmpckcleaaGreat
