import Derived.Test.YtmggbbmpckcleaaGreatSrdD
import Derived.Test.YtmggbbmpckcleaaGreatWirN
set_option maxRecDepth 100000
set_option maxHeartbeats 16000000
namespace Go.Proofs.YtmggbbmpckcleaaGreat
open Go.RowKit Go.Shelf
structure BoxQ13 (W0 W:World) (DN:Nat) (q:Req11) (B1:Option Addr) (d1:Nat) (B2:Option Addr) (d2:Nat):Prop where
 below:Below W0.heap.size W0 W
 ge:W0.heap.size≤DN
 req:Is W DN 26 (reqA q.k B1 q.L.length d1 B2 q.C.length d2)
 inL:InV W B1 (tL10 q.L)
 inC:InV W B2 (tL10 q.C)
theorem box_ofQ13 {W0 W:World} {q:Req11} {B1 B2:Option Addr} {d1 d2:Nat} (hL:InV W B1 (tL10 q.L)) (hC:InV W B2 (tL10 q.C)) (hb:Below W0.heap.size W0 W) :
  BoxQ13 W0 ((W.alloc (.cells #[.int .i64 0,.slice none 0 0,.slice none 0 0] 26)).setRow W.heap.size (reqA q.k B1 q.L.length d1 B2 q.C.length d2)) W.heap.size q B1 d1 B2 d2:=by
 have hbx:Below W.heap.size W (W.alloc (.cells #[.int .i64 0,.slice none 0 0,.slice none 0 0] 26)):=(Below.refl _ _).alloc (Nat.le_refl _) _
 have z1:=Is.new W 26 #[.int .i64 0,.slice none 0 0,.slice none 0 0]
 exact ⟨belowRow (hb.trans (hbx.mono hb.size)) hb.size _,hb.size,z1.row _,(hL.keep hbx).noT13 z1 rfl (grownRowG _ _ _),(hC.keep hbx).noT13 z1 rfl (grownRowG _ _ _)⟩
end Go.Proofs.YtmggbbmpckcleaaGreat
