/-
  awake, the statements' own: it answers true. What Decode and Read of the program tell, in one form.
-/
import Derived.Test.YtapfbcpbiagogaaGWi2
import Derived.Test.YtapfbcpbiagogaaGWi3
import Derived.Test.YtapfbcpbiagogaaWirR
namespace Go.Proofs.Ytapfbcpbiagogaa
open Go.RowKit Go.Shelf

theorem wdec11 (s : ByteArray) (w : World) : Calls Try.prog 16 #[.string s] w fun r w' => DecPost11 (decV11 s) w r w' := wdec_any11 s w
theorem wread11 (s : ByteArray) (w : World) : Calls Try.prog 18 #[.string s] w fun r w' => ReadPost11 (readV11 s) w r w' := wread_any11 s w
def aw1_11 : ByteArray := ⟨#[0, 0, 0, 4, 0, 0, 0, 0, 0, 0, 0, 0]⟩
def aw2_11 : ByteArray := ⟨#[0, 0, 0, 3, 0, 0, 0, 0, 0, 0, 0, 0, 0, 0, 0, 3, 0, 0, 0, 0]⟩
def aw3_11 : ByteArray := ⟨#[0, 0, 0, 4, 0, 0, 0, 0, 0, 0, 0, 0, 120]⟩
theorem aw_enc11 : encR11 ⟨4, [], []⟩ = .tuple #[.string aw1_11, .int .i64 0] := by kernel_rfl
theorem aw_dec11 : decV11 aw1_11 = (⟨4, [], []⟩, 0) := by kernel_rfl
theorem aw_answ11 : answR11 ⟨3, 0, [], 3, 0⟩ = .tuple #[.string aw2_11, .int .i64 0] := by kernel_rfl
theorem aw_read11 : readV11 aw2_11 = (⟨3, 0, [], 3, 0⟩, 0) := by kernel_rfl
theorem aw_decx11 : decV11 aw3_11 = (zreq11, 13) := by kernel_rfl
theorem aw_readx11 : readV11 ⟨#[]⟩ = (zrsp11, 10) := by kernel_rfl
theorem aw_encx11 : encR11 ⟨0, [], []⟩ = .tuple #[.string ⟨#[]⟩, .int .i64 1] := by kernel_rfl
theorem nil11 (W : World) : InV W none (tL10 []) := fun j u hj => by cases hj

set_option maxRecDepth 100000 in
set_option maxHeartbeats 4000000 in
theorem awake11_any (w : World) :
    Calls Try.prog 8 #[] w fun e w' => e = .returned (.bool true) ∧ Below w.heap.size w w' := by
  have M1 := Lib.hid (fun W => wenc_any11 4 none none 0 0 [] [] W (by decide) (by decide) (nil11 W) (nil11 W))
  rw [aw_enc11] at M1
  have M2 := Lib.hid (fun W => by have := wdec11 aw1_11 W; rw [aw_dec11] at this; exact this)
  have M3 := Lib.hid (fun W => wansw_any11 3 0 3 0 none 0 [] W (by decide) (nil11 W))
  rw [aw_answ11] at M3
  have M4 := Lib.hid (fun W => by have := wread11 aw2_11 W; rw [aw_read11] at this; exact this)
  have M5 := Lib.hid (fun W => by have := wdec11 aw3_11 W; rw [aw_decx11] at this; exact this)
  have M6 := Lib.hid (fun W => by have := wread11 ⟨#[]⟩ W; rw [aw_readx11] at this; exact this)
  have M7 := Lib.hid (fun W => wenc_any11 0 none none 0 0 [] [] W (by decide) (by decide) (nil11 W) (nil11 W))
  rw [aw_encx11] at M7
  have z1 : aw1_11.size = 12 := rfl
  have z2 : (aw2_11.size : Int) = 20 := rfl
  have hx : aw1_11 ++ ⟨#[120]⟩ = aw3_11 := rfl
  have hn : ¬ (9223372036854775807 < aw1_11.size + (⟨#[120]⟩ : ByteArray).size) := by rw [z1]; decide
  have hn2 : ¬ (9223372036854775807 < aw1_11.size + 1) := by rw [z1]; decide
  have mk : ∀ W : World, (Instr.makeSlice 45 (.int .i64 8) (.int .i64 8)).run Try.prog W = .ok (.slice (some ⟨W.heap.size, 0, none⟩) 8 8) (W.alloc (.cells (nulC10 8) 5)) := fun W => run_makeN10 W 8 (by omega)
  have cv : ∀ W : World, (convert 45 9 (.slice (some ⟨W.heap.size, 0, none⟩) 8 8)).run Try.prog (W.alloc (.cells (nulC10 8) 5)) = .ok (.string (nulN10 8)) (W.alloc (.cells (nulC10 8) 5)) := fun W => run_convN10 (Is.new W _ _)
  have he : aw1_11 = (⟨#[0, 0, 0, 4]⟩ : ByteArray) ++ nulN10 8 := by kernel_rfl
  have hn3 : ¬ (9223372036854775807 < (⟨#[0, 0, 0, 4]⟩ : ByteArray).size + (nulN10 8).size) := by decide
  have HE := Lib.hid he
  clear he
  go_enter Try.func8, Try.ntmps8
  go_wp2_with fail
  refine (M1.out _).mono ?_
  rintro e W1 ⟨rfl, hB1⟩
  go_wp2_with fail
  refine (M2.out _).mono ?_
  rintro e W2 ⟨B1, d1, B2, d2, rfl, _, _, hb⟩
  have hB2 := hB1.trans (hb.mono hB1.size)
  clear hb hB1
  go_wp2_with fail
  have iq := Is.new W2 26 #[.int .i64 4, .slice B1 0 d1, .slice B2 0 d2]
  have hB2 := hB2.alloc hB2.size (.cells #[.int .i64 4, .slice B1 0 d1, .slice B2 0 d2] 26)
  generalize W2.alloc (.cells #[.int .i64 4, .slice B1 0 d1, .slice B2 0 d2] 26) = X2 at *
  generalize W2.heap.size = gq at *
  refine (M3.out _).mono ?_
  rintro e W3 ⟨rfl, hb⟩
  have iq := iq.below hb iq.lt
  have hB3 := hB2.trans (hb.mono hB2.size)
  clear hb hB2
  go_wp2_with fail
  refine (M4.out _).mono ?_
  rintro e W4 ⟨B3, d3, rfl, _, hb⟩
  have iq := iq.below hb iq.lt
  have hB4 := hB3.trans (hb.mono hB3.size)
  clear hb hB3
  go_wp2_with fail
  have iq := iq.alloc (.cells #[.int .i64 3, .int .i64 0, .slice B3 0 d3, .int .i64 3, .int .i64 0] 28)
  have ia := Is.new W4 28 #[.int .i64 3, .int .i64 0, .slice B3 0 d3, .int .i64 3, .int .i64 0]
  have hB4 := hB4.alloc hB4.size (.cells #[.int .i64 3, .int .i64 0, .slice B3 0 d3, .int .i64 3, .int .i64 0] 28)
  generalize W4.alloc (.cells #[.int .i64 3, .int .i64 0, .slice B3 0 d3, .int .i64 3, .int .i64 0] 28) = X4 at *
  generalize W4.heap.size = ga at *
  try rw [hx]
  refine (M5.out _).mono ?_
  rintro e W5 ⟨B5, d5, B6, d6, rfl, _, _, hb⟩
  have iq := iq.below hb iq.lt
  have ia := ia.below hb ia.lt
  have hB5 := hB4.trans (hb.mono hB4.size)
  clear hb hB4
  go_wp2_with fail
  have iq := iq.alloc (.cells #[.int .i64 0, .slice B5 0 d5, .slice B6 0 d6] 26)
  have ia := ia.alloc (.cells #[.int .i64 0, .slice B5 0 d5, .slice B6 0 d6] 26)
  have hB5 := hB5.alloc hB5.size (.cells #[.int .i64 0, .slice B5 0 d5, .slice B6 0 d6] 26)
  refine (M6.out _).mono ?_
  rintro e W6 ⟨B7, d7, rfl, _, hb⟩
  have iq := iq.below hb iq.lt
  have ia := ia.below hb ia.lt
  have hB6 := hB5.trans (hb.mono hB5.size)
  clear hb hB5
  go_wp2_with fail
  have iq := iq.alloc (.cells #[.int .i64 0, .int .i64 0, .slice B7 0 d7, .int .i64 0, .int .i64 0] 28)
  have ia := ia.alloc (.cells #[.int .i64 0, .int .i64 0, .slice B7 0 d7, .int .i64 0, .int .i64 0] 28)
  have hB6 := hB6.alloc hB6.size (.cells #[.int .i64 0, .int .i64 0, .slice B7 0 d7, .int .i64 0, .int .i64 0] 28)
  refine (M7.out _).mono ?_
  rintro e W7 ⟨rfl, hb⟩
  have iq := (iq.below hb iq.lt).alloc (.cells (nulC10 8) 5)
  have ia := (ia.below hb ia.lt).alloc (.cells (nulC10 8) 5)
  have hB7 := hB6.trans (hb.mono hB6.size)
  have hB8 := hB7.alloc hB7.size (.cells (nulC10 8) 5)
  clear hb hB6 hB7
  have k0 : (W7.alloc (.cells (nulC10 8) 5)).cell? ⟨gq, 0, none⟩ = some (.int .i64 4) := iq.cell 0
  have k3 : (W7.alloc (.cells (nulC10 8) 5)).cell? ⟨ga, 3, none⟩ = some (.int .i64 3) := ia.cell 3
  clear M1 M2 M3 M4 M5 M6 M7 hx hn hn2 iq ia
  generalize hA : aw1_11 = a1 at *
  rw [HE.out]
  go_wp2
  go_ret
  exact ⟨rfl, hB8⟩
end Go.Proofs.Ytapfbcpbiagogaa
