/-
  IdealTells: the switch, the labels' loop and the pairs' loop, each a block of its own.
-/
import Derived.Test.YtdbdoammbnogaaaIdw2
import Derived.Test.YtdbdoammbnogaaaIdy5
import Derived.Test.YtdbdoammbnogaaaIdz1
namespace Go.Proofs.Ytdbdoammbnogaaa
open Go.RowKit Go.Shelf

/-- a block of a function's code, by its number. -/
def blkOf (n : Nat) : Code → Option Code
  | .block m a => match Nat.beq m n with
    | true => some (.block m a)
    | false => blkOf n a
  | .seq a b => match blkOf n a with
    | some c => some c
    | none => blkOf n b
  | .cond _ a b => match blkOf n a with
    | some c => some c
    | none => blkOf n b
  | .loop a => blkOf n a
  | .scope a => blkOf n a
  | _ => none
/-- a frame's slots told by one function. -/
structure Ends8 (F : (Nat → Value) → Array Value) (ex : Exit) (YY : Act) (R : Prop) : Prop where
  out : ex = .normal ∧ YY.defers = [] ∧ ∃ y, YY.tmps = F y ∧ R
theorem ex_frame {T : Array Value} {F : (Nat → Value) → Array Value} {R : Prop} (sl : List Nat) (h : T = F (fun i => T.getD (sl.getD i 0) undef)) (hr : R) : ∃ y, T = F y ∧ R := ⟨_, h, hr⟩
theorem of_blk {x : Option Code} {c : Code} {Pr : Code → Prop} (h : x = some c) (hp : Pr c) : ∀ c', x = some c' → Pr c' := fun c' h' => by
  rw [h] at h'
  cases h'
  exact hp
theorem two_rows8 {W : World} {g : Nat} {t : TypeId} {a0 a1 a2 a3 a4 b0 b1 b2 b3 b4 : Value} (h : Is W g t #[a0, a1, a2, a3, a4, b0, b1, b2, b3, b4]) : W.rangeAt g (0 * 5) [a0, a1, a2, a3, a4] ∧ W.rangeAt g (1 * 5) [b0, b1, b2, b3, b4] :=
  ⟨World.rangeAt_of_block h 0 5, World.rangeAt_of_block h 5 5⟩
theorem there8 {W : World} {g : Nat} {t : TypeId} {d : Ide} {A : Option Addr} {c : Nat} {A' : Option Addr} {c' : Nat} (h : Is W g t (ideL d A c A' c')) : W.there g 0 2 := fun j hj => by
  have hc := h.cell (0 + j)
  have hf := h.frozen (0 + j)
  rcases (show j = 0 ∨ j = 1 by omega) with rfl | rfl
  · exact ⟨by rw [hc]; rfl, hf⟩
  · exact ⟨by rw [hc]; rfl, hf⟩
/-- the ideal D, the changed one Z, and the three numbers, each in a block of its own. -/
structure Zst8 (w W : World) (DN DD DZ : Nat) (n : Raw8) (D : Ide) (A1 : Option Addr) (c1 : Nat) (A2 : Option Addr) (c2 : Nat) : Prop where
  out : ∃ (Z : Ide) (F1 : Option Addr) (f1 : Nat) (F2 : Option Addr) (f2 : Nat), Is W DN 24 #[.int .i64 n.1, .int .i64 n.2.1, .int .i64 n.2.2] ∧ Is W DD 30 (ideL D A1 c1 A2 c2) ∧ Is W DZ 30 (ideL Z F1 f1 F2 f2) ∧ InI W D A1 c1 A2 c2 ∧ InI W Z F1 f1 F2 f2 ∧ Below w.heap.size w W

set_option maxRecDepth 100000 in
set_option maxHeartbeats 16000000 in
theorem tells_labels (V : Ide) (G1 : Option Addr) (g1 : Nat) (G2 : Option Addr) (g2 : Nat) (an X6 : ByteArray) (DX DS : Nat) (W0 : World) (iX : Is W0 DX 30 (ideL V G1 g1 G2 g2)) (nX : InI W0 V G1 g1 G2 g2) (iS : Is W0 DS 9 #[.string an, .string X6]) (x0 x1 x2 x3 x4 x5 x6 x7 x8 x9 x10 x11 x12 x13 x14 x15 x16 x17 x18 x19 x20 x21 x22 x23 x24 x25 x26 x27 x29 x30 x31 x32 x33 x34 x35 x36 x37 x38 x39 x40 x41 x42 x43 x44 x45 x46 x47 x48 x49 x50 x51 x52 x53 x54 x55 x56 x57 x58 x59 x60 x61 x62 x63 x64 x65 x66 x67 x68 x69 x70 x71 x72 x73 x74 x75 x76 x77 x78 x79 x80 x81 x82 x83 x84 x85 x86 x87 x88 x89 x90 x91 x92 x93 x94 x95 x96 x97 x98 x99 x100 x101 x102 x103 x104 x105 x106 x107 x108 x109 x110 x111 x112 x113 x114 x115 x116 x117 x118 x119 x120 x121 x122 x123 x124 x125 x126 x127 x128 x129 x130 x131 x132 x133 x134 x135 x136 x137 x138 x139 x140 x141 x142 x143 x144 x145 x146 x147 x148 x149 x150 x151 x152 x153 x154 x155 x156 x157 x158 x159 x160 x161 x162 x163 x164 x165 x166 x167 x168 x172 x173 x174 x175 x176 x177 x178 x179 x180 x181 x182 x183 x184 x185 x186 x187 x188 x189 x190 x191 x192 x193 x194 x195 x196 x197 x198 x199 x200 x201 x202 x203 x204 x205 x206 x207 x208 x209 x210 x211 x212 x213 x214 x215 x216 x217 x218 x219 x220 x221 x222 x223 x224 x225 x226 x227 x228 x229 x230 x231 x232 x233 x234 x235 x236 x237 x238 x239 x240 x241 x242 x243 x244 x245 x246 x247 x248 x249 x250 x251 x252 x253 x254 x255 x256 x257 x258 x259 x260 x261 x262 x263 x264 x265 x266 x267 x268 x269 x270 x271 x272 x273 x274 x275 x276 x277 x278 x279 x280 x281 x282 x283 x284 x285 x286 x287 x288 x289 x290 x291 x292 x293 x294 x295 x296 x297 x298 x299 x300 x301 x302 x303 x304 x305 x306 x307 x308 x309 x310 x311 x312 x313 x314 x315 x316 x317 x318 x319 x320 x321 x322 x323 x324 : Value) :
    ∀ c : Code, (Try.f3.body.bind (blkOf 3)) = some c → c.wp Try.prog (fun ex YY W => Ends8 (fun y => #[x0, x1, x2, x3, x4, x5, x6, x7, x8, x9, x10, x11, x12, x13, (y 0), x15, x16, x17, x18, x19, x20, x21, x22, x23, x24, x25, x26, x27, .pointer (some ⟨DX, 0, none⟩), x29, (y 1), (y 2), (y 3), (y 4), (y 5), (y 6), (y 7), x37, x38, x39, x40, x41, x42, x43, x44, x45, x46, x47, x48, x49, x50, x51, x52, x53, x54, x55, x56, x57, x58, x59, x60, x61, x62, x63, x64, x65, x66, x67, x68, x69, x70, x71, x72, x73, x74, x75, x76, x77, x78, x79, x80, x81, x82, x83, x84, x85, x86, x87, x88, x89, x90, x91, x92, x93, x94, x95, x96, x97, x98, x99, x100, x101, x102, x103, x104, x105, x106, x107, x108, x109, x110, x111, x112, x113, x114, x115, x116, x117, x118, x119, x120, x121, x122, x123, x124, x125, x126, x127, x128, x129, x130, x131, x132, x133, x134, x135, x136, x137, x138, x139, x140, x141, x142, x143, x144, x145, x146, x147, x148, x149, x150, x151, x152, x153, x154, x155, x156, x157, x158, x159, x160, x161, x162, x163, x164, x165, x166, x167, x168, .slice (some ⟨DS, 0, none⟩) 2 2, .int .i64 2, (y 8), (y 9), (y 10), (y 11), (y 12), (y 13), (y 14), (y 15), (y 16), (y 17), (y 18), (y 19), (y 20), (y 21), (y 22), (y 23), (y 24), (y 25), (y 26), (y 27), (y 28), (y 29), (y 30), (y 31), (y 32), (y 33), (y 34), (y 35), (y 36), (y 37), (y 38), (y 39), (y 40), (y 41), (y 42), (y 43), (y 44), (y 45), (y 46), (y 47), x211, x212, x213, x214, x215, x216, x217, x218, x219, x220, x221, x222, x223, x224, x225, x226, x227, x228, x229, x230, x231, x232, x233, x234, x235, x236, x237, x238, x239, x240, x241, x242, x243, x244, x245, x246, x247, x248, x249, x250, x251, x252, x253, x254, x255, x256, x257, x258, x259, x260, x261, x262, x263, x264, x265, x266, x267, x268, x269, x270, x271, x272, x273, x274, x275, x276, x277, x278, x279, x280, x281, x282, x283, x284, x285, x286, x287, x288, x289, x290, x291, x292, x293, x294, x295, x296, x297, x298, x299, x300, x301, x302, x303, x304, x305, x306, x307, x308, x309, x310, x311, x312, x313, x314, x315, x316, x317, x318, x319, x320, x321, x322, x323, x324]) ex YY (Below W0.heap.size W0 W)) { tmps := #[x0, x1, x2, x3, x4, x5, x6, x7, x8, x9, x10, x11, x12, x13, x14, x15, x16, x17, x18, x19, x20, x21, x22, x23, x24, x25, x26, x27, .pointer (some ⟨DX, 0, none⟩), x29, x30, x31, x32, x33, x34, x35, x36, x37, x38, x39, x40, x41, x42, x43, x44, x45, x46, x47, x48, x49, x50, x51, x52, x53, x54, x55, x56, x57, x58, x59, x60, x61, x62, x63, x64, x65, x66, x67, x68, x69, x70, x71, x72, x73, x74, x75, x76, x77, x78, x79, x80, x81, x82, x83, x84, x85, x86, x87, x88, x89, x90, x91, x92, x93, x94, x95, x96, x97, x98, x99, x100, x101, x102, x103, x104, x105, x106, x107, x108, x109, x110, x111, x112, x113, x114, x115, x116, x117, x118, x119, x120, x121, x122, x123, x124, x125, x126, x127, x128, x129, x130, x131, x132, x133, x134, x135, x136, x137, x138, x139, x140, x141, x142, x143, x144, x145, x146, x147, x148, x149, x150, x151, x152, x153, x154, x155, x156, x157, x158, x159, x160, x161, x162, x163, x164, x165, x166, x167, x168, .slice (some ⟨DS, 0, none⟩) 2 2, .int .i64 2, .int .i64 0, x172, x173, x174, x175, x176, x177, x178, x179, x180, x181, x182, x183, x184, x185, x186, x187, x188, x189, x190, x191, x192, x193, x194, x195, x196, x197, x198, x199, x200, x201, x202, x203, x204, x205, x206, x207, x208, x209, x210, x211, x212, x213, x214, x215, x216, x217, x218, x219, x220, x221, x222, x223, x224, x225, x226, x227, x228, x229, x230, x231, x232, x233, x234, x235, x236, x237, x238, x239, x240, x241, x242, x243, x244, x245, x246, x247, x248, x249, x250, x251, x252, x253, x254, x255, x256, x257, x258, x259, x260, x261, x262, x263, x264, x265, x266, x267, x268, x269, x270, x271, x272, x273, x274, x275, x276, x277, x278, x279, x280, x281, x282, x283, x284, x285, x286, x287, x288, x289, x290, x291, x292, x293, x294, x295, x296, x297, x298, x299, x300, x301, x302, x303, x304, x305, x306, x307, x308, x309, x310, x311, x312, x313, x314, x315, x316, x317, x318, x319, x320, x321, x322, x323, x324], defers := [] } W0 := by
  refine of_blk rfl ?_
  dsimp only
  go_wp2
  go_loopw [171] (fun i wr => ∃ k : Nat, k ≤ 2 ∧ i = .int .i64 (k : Int) ∧ Below W0.heap.size W0 wr) (fun i _ => 2 - (intOf i).toNat)
  case atStart => exact ⟨0, by omega, rfl, Below.refl _ _⟩
  case round =>
    skip
    obtain ⟨k, hk, rfl, hb2⟩ := hrel
    have iX := iX.below hb2 iX.lt
    have nX := nX.keep hb2
    by_cases hlk : k < 2
    · obtain ⟨q, cq⟩ : ∃ q : ByteArray, wr.cell? ⟨DS, k, none⟩ = some (.string q) := by
        have iS := iS.below hb2 iS.lt
        rcases (show k = 0 ∨ k = 1 by omega) with rfl | rfl
        · exact ⟨_, iS.cell 0⟩
        · exact ⟨_, iS.cell 1⟩
      have lk : (k : Int) < 2 := by omega
      have w9k := IntWalk.i64_in ((k : Int) + 1) (by omega)
      obtain ⟨s, Y, er, hlab⟩ : ∃ s Y er, lab8 V q = (s, Y, er) := ⟨_, _, _, rfl⟩
      have LP := fun W (h : InI W V G1 g1 G2 g2) => label_any V G1 g1 G2 g2 q W h
      have LD := fun W (h : InI W V G1 g1 G2 g2) => dlabel_any V G1 g1 G2 g2 q W h
      simp only [hlab] at LP LD
      replace LP := Lib.hid LP
      replace LD := Lib.hid LD
      clear hlab iS
      have hB := hb2
      clear hb2
      go_wp2_with (first | (refine wpList_load_rowG (by kernel_rfl) 30 _ rfl (DX) rfl 30 _ iX Try.underlying30 rfl infoIde ?_))
      refine (LP.out _ nX).mono ?_
      rintro e W301 ⟨H1, h1, H2, h2, rfl, hI, hb⟩
      replace iX := iX.below hb iX.lt
      replace nX := nX.keep hb
      replace hB := hB.trans (hb.mono hB.size)
      clear hb
      have nP := hI
      clear hI
      have iP : Is (W301.alloc (.cells (ideL Y H1 h1 H2 h2) 30)) W301.heap.size 30 (ideL Y H1 h1 H2 h2) := Is.new _ _ _
      have qXP := iX.lt
      replace iX := iX.alloc (.cells (ideL Y H1 h1 H2 h2) 30)
      replace nX := nX.keep ((Below.refl _ _).alloc (Nat.le_refl _) (.cells (ideL Y H1 h1 H2 h2) 30))
      replace nP := nP.keep ((Below.refl _ _).alloc (Nat.le_refl _) (.cells (ideL Y H1 h1 H2 h2) 30))
      replace hB := hB.alloc hB.size (.cells (ideL Y H1 h1 H2 h2) 30)
      go_wp2_with (first | (refine wpList_load_rowG (by kernel_rfl) 30 _ rfl (DX) rfl 30 _ iX Try.underlying30 rfl infoIde ?_) | (refine wpList_load_rowG (by kernel_rfl) 30 _ rfl (W301.heap.size) rfl 30 _ iP Try.underlying30 rfl infoIde ?_))
      generalize W301.alloc (.cells (ideL Y H1 h1 H2 h2) 30) = W302 at *
      generalize W301.heap.size = DP at *
      refine (LD.out _ nX).mono ?_
      rintro e W303 ⟨J1, j1, J2, j2, rfl, hI, hb⟩
      replace iX := iX.below hb iX.lt
      replace iP := iP.below hb iP.lt
      replace nX := nX.keep hb
      replace nP := nP.keep hb
      replace hB := hB.trans (hb.mono hB.size)
      clear hb
      have nQ := hI
      clear hI
      have iQ : Is (W303.alloc (.cells (ideL Y J1 j1 J2 j2) 30)) W303.heap.size 30 (ideL Y J1 j1 J2 j2) := Is.new _ _ _
      have qXQ := iX.lt
      replace iX := iX.alloc (.cells (ideL Y J1 j1 J2 j2) 30)
      have qPQ := iP.lt
      replace iP := iP.alloc (.cells (ideL Y J1 j1 J2 j2) 30)
      replace nX := nX.keep ((Below.refl _ _).alloc (Nat.le_refl _) (.cells (ideL Y J1 j1 J2 j2) 30))
      replace nP := nP.keep ((Below.refl _ _).alloc (Nat.le_refl _) (.cells (ideL Y J1 j1 J2 j2) 30))
      replace nQ := nQ.keep ((Below.refl _ _).alloc (Nat.le_refl _) (.cells (ideL Y J1 j1 J2 j2) 30))
      replace hB := hB.alloc hB.size (.cells (ideL Y J1 j1 J2 j2) 30)
      go_wp2_with (first | (refine wpList_load_rowG (by kernel_rfl) 30 _ rfl (DX) rfl 30 _ iX Try.underlying30 rfl infoIde ?_) | (refine wpList_load_rowG (by kernel_rfl) 30 _ rfl (DP) rfl 30 _ iP Try.underlying30 rfl infoIde ?_) | (refine wpList_load_rowG (by kernel_rfl) 30 _ rfl (W303.heap.size) rfl 30 _ iQ Try.underlying30 rfl infoIde ?_))
      generalize W303.alloc (.cells (ideL Y J1 j1 J2 j2) 30) = W304 at *
      generalize W303.heap.size = DQ at *
      refine Code.wp_mono ?_ (tells_cmp V Y s er _ rfl G1 g1 G2 g2 H1 h1 H2 h2 J1 j1 J2 j2 DP DQ DX _ iP iQ iX nP nQ nX _ _ _ _ _ _ _ _ _ _ _ _ _ _ _ _ _ _ _ _ _ _ _ _ _ _ _ _ _ _ _ _ _ _ _ _ _ _ _ _ _ _ _ _ _ _ _ _ _ _ _ _ _ _ _ _ _ _ _ _ _ _ _ _ _ _ _ _ _ _ _ _ _ _ _ _ _ _ _ _ _ _ _ _ _ _ _ _ _ _ _ _ _ _ _ _ _ _ _ _ _ _ _ _ _ _ _ _ _ _ _ _ _ _ _ _ _ _ _ _ _ _ _ _ _ _ _ _ _ _ _ _ _ _ _ _ _ _ _ _ _ _ _ _ _ _ _ _ _ _ _ _ _ _ _ _ _ _ _ _ _ _ _ _ _ _ _ _ _ _ _ _ _ _ _ _ _ _ _ _ _ _ _ _ _ _ _ _ _ _ _ _ _ _ _ _ _ _ _ _ _ _ _ _ _ _ _ _ _ _ _ _ _ _ _ _ _ _ _ _ _ _ _ _ _ _ _ _ _ _ _ _ _ _ _ _ _ _ _ _ _ _ _ _ _ _ _ _ _ _ _ _ _ _ _ _ _ _ _ _ _ _ _ _ _ _ _ _ _ _ _ _ _ _ _ _ _ _ _ _ _ _ _ _ _ _ _ _ _ _ _ _ _ _ _ _ _ _ _ _ _ _ _ _ _ _ _ _ _ _ _ _ _ _ _ _ _ _)
      rintro e YY V3 ⟨rfl, hd, _, hT, hZ, _, _, _⟩
      obtain ⟨T0, Dd⟩ := YY
      subst hT
      obtain rfl : Dd = [] := hd
      replace hB := hB.trans (hZ.mono hB.size)
      clear hZ iP iQ iX nP nQ nX
      go_wp2
      go_roundw
      case rel => exact ⟨k + 1, by omega, by go_num, hB⟩
      case measure => simp [intOf]; omega
    · obtain rfl : k = 2 := by omega
      clear hk hlk iX nX iS
      go_wp2
      exact ⟨rfl, rfl, ex_frame [14, 30, 31, 32, 33, 34, 35, 36, 171, 172, 173, 174, 175, 176, 177, 178, 179, 180, 181, 182, 183, 184, 185, 186, 187, 188, 189, 190, 191, 192, 193, 194, 195, 196, 197, 198, 199, 200, 201, 202, 203, 204, 205, 206, 207, 208, 209, 210] (by kernel_rfl) hb2⟩

set_option maxRecDepth 100000 in
set_option maxHeartbeats 16000000 in
theorem tells_pairs (V : Ide) (G1 : Option Addr) (g1 : Nat) (G2 : Option Addr) (g2 : Nat) (lb tx an : ByteArray) (DX DG : Nat) (W0 : World) (iX : Is W0 DX 30 (ideL V G1 g1 G2 g2)) (nX : InI W0 V G1 g1 G2 g2) (i3 : Is W0 DG 46 #[.string lb, .string tx, .string an, .string tx, .string lb, .string an]) (x0 x1 x2 x3 x4 x5 x6 x7 x8 x9 x10 x11 x12 x13 x14 x15 x16 x17 x18 x19 x20 x21 x22 x23 x24 x25 x26 x27 x29 x30 x31 x32 x33 x34 x35 x36 x37 x38 x39 x40 x41 x42 x43 x44 x45 x46 x47 x48 x49 x50 x51 x52 x53 x54 x55 x56 x57 x58 x59 x60 x61 x62 x63 x64 x65 x66 x67 x68 x69 x70 x71 x72 x73 x74 x75 x76 x77 x78 x79 x80 x81 x82 x83 x84 x85 x86 x87 x88 x89 x90 x91 x92 x93 x94 x95 x96 x97 x98 x99 x100 x101 x102 x103 x104 x105 x106 x107 x108 x109 x110 x111 x112 x113 x114 x115 x116 x117 x118 x119 x120 x121 x122 x123 x124 x125 x126 x127 x128 x129 x130 x131 x132 x133 x134 x135 x136 x137 x138 x139 x140 x141 x142 x143 x144 x145 x146 x147 x148 x149 x150 x151 x152 x153 x154 x155 x156 x157 x158 x159 x160 x161 x162 x163 x164 x165 x166 x167 x168 x169 x170 x171 x172 x173 x174 x175 x176 x177 x178 x179 x180 x181 x182 x183 x184 x185 x186 x187 x188 x189 x190 x191 x192 x193 x194 x195 x196 x197 x198 x199 x200 x201 x202 x203 x204 x205 x206 x207 x208 x209 x210 x211 x212 x213 x214 x215 x216 x217 x218 x219 x220 x221 x222 x223 x224 x225 x226 x227 x231 x232 x233 x234 x235 x236 x237 x238 x239 x240 x241 x242 x243 x244 x245 x246 x247 x248 x249 x250 x251 x252 x253 x254 x255 x256 x257 x258 x259 x260 x261 x262 x263 x264 x265 x266 x267 x268 x269 x270 x271 x272 x273 x274 x275 x276 x277 x278 x279 x280 x281 x282 x283 x284 x285 x286 x287 x288 x289 x290 x291 x292 x293 x294 x295 x296 x297 x298 x299 x300 x301 x302 x303 x304 x305 x306 x307 x308 x309 x310 x311 x312 x313 x314 x315 x316 x317 x318 x319 x320 x321 x322 x323 x324 : Value) :
    ∀ c : Code, (Try.f3.body.bind (blkOf 5)) = some c → c.wp Try.prog (fun ex YY W => Ends8 (fun y => #[x0, x1, x2, x3, x4, x5, x6, x7, x8, x9, x10, x11, x12, x13, (y 0), x15, x16, x17, x18, x19, x20, x21, x22, x23, x24, x25, x26, x27, .pointer (some ⟨DX, 0, none⟩), x29, x30, x31, x32, x33, x34, x35, x36, x37, (y 1), (y 2), (y 3), (y 4), (y 5), (y 6), (y 7), (y 8), (y 9), (y 10), (y 11), (y 12), (y 13), (y 14), (y 15), x53, x54, x55, x56, x57, x58, x59, x60, x61, x62, x63, x64, x65, x66, x67, x68, x69, x70, x71, x72, x73, x74, x75, x76, x77, x78, x79, x80, x81, x82, x83, x84, x85, x86, x87, x88, x89, x90, x91, x92, x93, x94, x95, x96, x97, x98, x99, x100, x101, x102, x103, x104, x105, x106, x107, x108, x109, x110, x111, x112, x113, x114, x115, x116, x117, x118, x119, x120, x121, x122, x123, x124, x125, x126, x127, x128, x129, x130, x131, x132, x133, x134, x135, x136, x137, x138, x139, x140, x141, x142, x143, x144, x145, x146, x147, x148, x149, x150, x151, x152, x153, x154, x155, x156, x157, x158, x159, x160, x161, x162, x163, x164, x165, x166, x167, x168, x169, x170, x171, x172, x173, x174, x175, x176, x177, x178, x179, x180, x181, x182, x183, x184, x185, x186, x187, x188, x189, x190, x191, x192, x193, x194, x195, x196, x197, x198, x199, x200, x201, x202, x203, x204, x205, x206, x207, x208, x209, x210, x211, x212, x213, x214, x215, x216, x217, x218, x219, x220, x221, x222, x223, x224, x225, x226, x227, .slice (some ⟨DG, 0, none⟩) 3 3, .int .i64 3, (y 16), (y 17), (y 18), (y 19), (y 20), (y 21), (y 22), (y 23), (y 24), (y 25), (y 26), (y 27), (y 28), (y 29), (y 30), (y 31), (y 32), (y 33), (y 34), (y 35), (y 36), (y 37), (y 38), (y 39), (y 40), (y 41), (y 42), (y 43), (y 44), (y 45), (y 46), (y 47), (y 48), (y 49), (y 50), (y 51), (y 52), (y 53), (y 54), (y 55), (y 56), (y 57), (y 58), (y 59), (y 60), (y 61), (y 62), (y 63), (y 64), (y 65), (y 66), (y 67), (y 68), (y 69), (y 70), (y 71), (y 72), (y 73), (y 74), (y 75), (y 76), (y 77), (y 78), (y 79), (y 80), (y 81), (y 82), (y 83), (y 84), (y 85), (y 86), (y 87), (y 88), (y 89), (y 90), (y 91), (y 92), (y 93), (y 94), (y 95), (y 96), (y 97), (y 98), (y 99), (y 100), (y 101), (y 102), (y 103), (y 104), (y 105), (y 106), (y 107), (y 108), x323, x324]) ex YY (Below W0.heap.size W0 W)) { tmps := #[x0, x1, x2, x3, x4, x5, x6, x7, x8, x9, x10, x11, x12, x13, x14, x15, x16, x17, x18, x19, x20, x21, x22, x23, x24, x25, x26, x27, .pointer (some ⟨DX, 0, none⟩), x29, x30, x31, x32, x33, x34, x35, x36, x37, x38, x39, x40, x41, x42, x43, x44, x45, x46, x47, x48, x49, x50, x51, x52, x53, x54, x55, x56, x57, x58, x59, x60, x61, x62, x63, x64, x65, x66, x67, x68, x69, x70, x71, x72, x73, x74, x75, x76, x77, x78, x79, x80, x81, x82, x83, x84, x85, x86, x87, x88, x89, x90, x91, x92, x93, x94, x95, x96, x97, x98, x99, x100, x101, x102, x103, x104, x105, x106, x107, x108, x109, x110, x111, x112, x113, x114, x115, x116, x117, x118, x119, x120, x121, x122, x123, x124, x125, x126, x127, x128, x129, x130, x131, x132, x133, x134, x135, x136, x137, x138, x139, x140, x141, x142, x143, x144, x145, x146, x147, x148, x149, x150, x151, x152, x153, x154, x155, x156, x157, x158, x159, x160, x161, x162, x163, x164, x165, x166, x167, x168, x169, x170, x171, x172, x173, x174, x175, x176, x177, x178, x179, x180, x181, x182, x183, x184, x185, x186, x187, x188, x189, x190, x191, x192, x193, x194, x195, x196, x197, x198, x199, x200, x201, x202, x203, x204, x205, x206, x207, x208, x209, x210, x211, x212, x213, x214, x215, x216, x217, x218, x219, x220, x221, x222, x223, x224, x225, x226, x227, .slice (some ⟨DG, 0, none⟩) 3 3, .int .i64 3, .int .i64 0, x231, x232, x233, x234, x235, x236, x237, x238, x239, x240, x241, x242, x243, x244, x245, x246, x247, x248, x249, x250, x251, x252, x253, x254, x255, x256, x257, x258, x259, x260, x261, x262, x263, x264, x265, x266, x267, x268, x269, x270, x271, x272, x273, x274, x275, x276, x277, x278, x279, x280, x281, x282, x283, x284, x285, x286, x287, x288, x289, x290, x291, x292, x293, x294, x295, x296, x297, x298, x299, x300, x301, x302, x303, x304, x305, x306, x307, x308, x309, x310, x311, x312, x313, x314, x315, x316, x317, x318, x319, x320, x321, x322, x323, x324], defers := [] } W0 := by
  refine of_blk rfl ?_
  dsimp only
  go_wp2
  go_loopw [230] (fun i wr => ∃ m : Nat, m ≤ 3 ∧ i = .int .i64 (m : Int) ∧ Below W0.heap.size W0 wr) (fun i _ => 3 - (intOf i).toNat)
  case atStart => exact ⟨0, by omega, rfl, Below.refl _ _⟩
  case round =>
    obtain ⟨m, hm, rfl, hb3⟩ := hrel
    have iX := iX.below hb3 iX.lt
    have nX := nX.keep hb3
    by_cases hlm : m < 3
    · obtain ⟨l, t, cl, ct⟩ : ∃ l t : ByteArray, wr.cell? ⟨DG, m * 2, none⟩ = some (.string l) ∧ wr.cell? ⟨DG, m * 2 + 1, none⟩ = some (.string t) := by
        have i3 := i3.below hb3 i3.lt
        rcases (show m = 0 ∨ m = 1 ∨ m = 2 by omega) with rfl | rfl | rfl
        · exact ⟨_, _, i3.cell 0, i3.cell 1⟩
        · exact ⟨_, _, i3.cell 2, i3.cell 3⟩
        · exact ⟨_, _, i3.cell 4, i3.cell 5⟩
      have lm : (m : Int) < 3 := by omega
      have w9m := IntWalk.i64_in ((m : Int) + 1) (by omega)
      obtain ⟨s, Y, er, hsea⟩ : ∃ s Y er, sea8 V l t = (s, Y, er) := ⟨_, _, _, rfl⟩
      obtain ⟨m1, k1, ho1⟩ : ∃ x y, ope8 V l t = (x, y) := ⟨_, _, rfl⟩
      obtain ⟨m2, k2, ho2⟩ : ∃ x y, ope8 Y l s = (x, y) := ⟨_, _, rfl⟩
      have SP := fun W (h : InI W V G1 g1 G2 g2) => seal_any V G1 g1 G2 g2 l t W h
      have SD := fun W (h : InI W V G1 g1 G2 g2) => dseal_any V G1 g1 G2 g2 l t W h
      have OP := fun W (h : InI W V G1 g1 G2 g2) => open_any V G1 g1 G2 g2 l t W h
      have OD := fun W (h : InI W V G1 g1 G2 g2) => dopen_any V G1 g1 G2 g2 l t W h
      have YP := fun (F1 : Option Addr) (f1 : Nat) (F2 : Option Addr) (f2 : Nat) W (h : InI W Y F1 f1 F2 f2) => open_any Y F1 f1 F2 f2 l s W h
      have YD := fun (F1 : Option Addr) (f1 : Nat) (F2 : Option Addr) (f2 : Nat) W (h : InI W Y F1 f1 F2 f2) => dopen_any Y F1 f1 F2 f2 l s W h
      simp only [hsea] at SP SD
      simp only [ho1] at OP OD
      simp only [ho2] at YP YD
      replace SP := Lib.hid SP
      replace SD := Lib.hid SD
      replace OP := Lib.hid OP
      replace OD := Lib.hid OD
      replace YP := Lib.hid YP
      replace YD := Lib.hid YD
      clear hsea ho1 ho2 i3
      have hB := hb3
      clear hb3
      have iR : Is (wr.alloc (.cells #[.string l, .string t] 46)) wr.heap.size 46 #[.string l, .string t] := Is.new _ _ _
      have qXR := iX.lt
      replace iX := iX.alloc (.cells #[.string l, .string t] 46)
      replace nX := nX.keep ((Below.refl _ _).alloc (Nat.le_refl _) (.cells #[.string l, .string t] 46))
      replace hB := hB.alloc hB.size (.cells #[.string l, .string t] 46)
      have cR0 := iR.cell 0
      change _ = some (Value.string l) at cR0
      have cR1 := iR.cell 1
      change _ = some (Value.string t) at cR1
      go_wp2_with (first | (refine wpList_load_rowG (by kernel_rfl) 30 _ rfl (DX) rfl 30 _ iX Try.underlying30 rfl infoIde ?_))
      clear cR0
      clear cR1
      generalize wr.alloc (.cells #[.string l, .string t] 46) = W401 at *
      generalize wr.heap.size = DR at *
      clear cl ct
      refine (SP.out _ nX).mono ?_
      rintro e W402 ⟨H1, h1, H2, h2, rfl, hI, hb⟩
      replace iX := iX.below hb iX.lt
      replace iR := iR.below hb iR.lt
      replace nX := nX.keep hb
      replace hB := hB.trans (hb.mono hB.size)
      clear hb
      have nP := hI
      clear hI
      have iP : Is (W402.alloc (.cells (ideL Y H1 h1 H2 h2) 30)) W402.heap.size 30 (ideL Y H1 h1 H2 h2) := Is.new _ _ _
      have qXP := iX.lt
      replace iX := iX.alloc (.cells (ideL Y H1 h1 H2 h2) 30)
      have qRP := iR.lt
      replace iR := iR.alloc (.cells (ideL Y H1 h1 H2 h2) 30)
      replace nX := nX.keep ((Below.refl _ _).alloc (Nat.le_refl _) (.cells (ideL Y H1 h1 H2 h2) 30))
      replace nP := nP.keep ((Below.refl _ _).alloc (Nat.le_refl _) (.cells (ideL Y H1 h1 H2 h2) 30))
      replace hB := hB.alloc hB.size (.cells (ideL Y H1 h1 H2 h2) 30)
      have cR0 := iR.cell 0
      change _ = some (Value.string l) at cR0
      have cR1 := iR.cell 1
      change _ = some (Value.string t) at cR1
      go_wp2_with (first | (refine wpList_load_rowG (by kernel_rfl) 30 _ rfl (DX) rfl 30 _ iX Try.underlying30 rfl infoIde ?_) | (refine wpList_load_rowG (by kernel_rfl) 30 _ rfl (W402.heap.size) rfl 30 _ iP Try.underlying30 rfl infoIde ?_))
      clear cR0
      clear cR1
      generalize W402.alloc (.cells (ideL Y H1 h1 H2 h2) 30) = W403 at *
      generalize W402.heap.size = DP at *
      refine (SD.out _ nX).mono ?_
      rintro e W404 ⟨J1, j1, J2, j2, rfl, hI, hb⟩
      replace iX := iX.below hb iX.lt
      replace iR := iR.below hb iR.lt
      replace iP := iP.below hb iP.lt
      replace nX := nX.keep hb
      replace nP := nP.keep hb
      replace hB := hB.trans (hb.mono hB.size)
      clear hb
      have nQ := hI
      clear hI
      have iQ : Is (W404.alloc (.cells (ideL Y J1 j1 J2 j2) 30)) W404.heap.size 30 (ideL Y J1 j1 J2 j2) := Is.new _ _ _
      have qXQ := iX.lt
      replace iX := iX.alloc (.cells (ideL Y J1 j1 J2 j2) 30)
      have qRQ := iR.lt
      replace iR := iR.alloc (.cells (ideL Y J1 j1 J2 j2) 30)
      have qPQ := iP.lt
      replace iP := iP.alloc (.cells (ideL Y J1 j1 J2 j2) 30)
      replace nX := nX.keep ((Below.refl _ _).alloc (Nat.le_refl _) (.cells (ideL Y J1 j1 J2 j2) 30))
      replace nP := nP.keep ((Below.refl _ _).alloc (Nat.le_refl _) (.cells (ideL Y J1 j1 J2 j2) 30))
      replace nQ := nQ.keep ((Below.refl _ _).alloc (Nat.le_refl _) (.cells (ideL Y J1 j1 J2 j2) 30))
      replace hB := hB.alloc hB.size (.cells (ideL Y J1 j1 J2 j2) 30)
      have cR0 := iR.cell 0
      change _ = some (Value.string l) at cR0
      have cR1 := iR.cell 1
      change _ = some (Value.string t) at cR1
      go_wp2_with (first | (refine wpList_load_rowG (by kernel_rfl) 30 _ rfl (DX) rfl 30 _ iX Try.underlying30 rfl infoIde ?_) | (refine wpList_load_rowG (by kernel_rfl) 30 _ rfl (DP) rfl 30 _ iP Try.underlying30 rfl infoIde ?_) | (refine wpList_load_rowG (by kernel_rfl) 30 _ rfl (W404.heap.size) rfl 30 _ iQ Try.underlying30 rfl infoIde ?_))
      clear cR0
      clear cR1
      generalize W404.alloc (.cells (ideL Y J1 j1 J2 j2) 30) = W405 at *
      generalize W404.heap.size = DQ at *
      refine (OP.out _ nX).mono ?_
      rintro e W406 ⟨rfl, hb⟩
      replace iX := iX.below hb iX.lt
      replace iR := iR.below hb iR.lt
      replace iP := iP.below hb iP.lt
      replace iQ := iQ.below hb iQ.lt
      replace nX := nX.keep hb
      replace nP := nP.keep hb
      replace nQ := nQ.keep hb
      replace hB := hB.trans (hb.mono hB.size)
      clear hb
      have cR0 := iR.cell 0
      change _ = some (Value.string l) at cR0
      have cR1 := iR.cell 1
      change _ = some (Value.string t) at cR1
      go_wp2_with (first | (refine wpList_load_rowG (by kernel_rfl) 30 _ rfl (DX) rfl 30 _ iX Try.underlying30 rfl infoIde ?_) | (refine wpList_load_rowG (by kernel_rfl) 30 _ rfl (DP) rfl 30 _ iP Try.underlying30 rfl infoIde ?_) | (refine wpList_load_rowG (by kernel_rfl) 30 _ rfl (DQ) rfl 30 _ iQ Try.underlying30 rfl infoIde ?_))
      clear cR0
      clear cR1
      refine (OD.out _ nX).mono ?_
      rintro e W407 ⟨rfl, hb⟩
      replace iX := iX.below hb iX.lt
      replace iR := iR.below hb iR.lt
      replace iP := iP.below hb iP.lt
      replace iQ := iQ.below hb iQ.lt
      replace nX := nX.keep hb
      replace nP := nP.keep hb
      replace nQ := nQ.keep hb
      replace hB := hB.trans (hb.mono hB.size)
      clear hb
      have cR0 := iR.cell 0
      change _ = some (Value.string l) at cR0
      have cR1 := iR.cell 1
      change _ = some (Value.string t) at cR1
      go_wp2_with (first | (refine wpList_load_rowG (by kernel_rfl) 30 _ rfl (DX) rfl 30 _ iX Try.underlying30 rfl infoIde ?_) | (refine wpList_load_rowG (by kernel_rfl) 30 _ rfl (DP) rfl 30 _ iP Try.underlying30 rfl infoIde ?_) | (refine wpList_load_rowG (by kernel_rfl) 30 _ rfl (DQ) rfl 30 _ iQ Try.underlying30 rfl infoIde ?_))
      clear cR0
      clear cR1
      refine (YP.out _ _ _ _ _ nQ).mono ?_
      rintro e W408 ⟨rfl, hb⟩
      replace iX := iX.below hb iX.lt
      replace iR := iR.below hb iR.lt
      replace iP := iP.below hb iP.lt
      replace iQ := iQ.below hb iQ.lt
      replace nX := nX.keep hb
      replace nP := nP.keep hb
      replace nQ := nQ.keep hb
      replace hB := hB.trans (hb.mono hB.size)
      clear hb
      have cR0 := iR.cell 0
      change _ = some (Value.string l) at cR0
      have cR1 := iR.cell 1
      change _ = some (Value.string t) at cR1
      go_wp2_with (first | (refine wpList_load_rowG (by kernel_rfl) 30 _ rfl (DX) rfl 30 _ iX Try.underlying30 rfl infoIde ?_) | (refine wpList_load_rowG (by kernel_rfl) 30 _ rfl (DP) rfl 30 _ iP Try.underlying30 rfl infoIde ?_) | (refine wpList_load_rowG (by kernel_rfl) 30 _ rfl (DQ) rfl 30 _ iQ Try.underlying30 rfl infoIde ?_))
      clear cR0
      clear cR1
      refine (YD.out _ _ _ _ _ nQ).mono ?_
      rintro e W409 ⟨rfl, hb⟩
      replace iX := iX.below hb iX.lt
      replace iR := iR.below hb iR.lt
      replace iP := iP.below hb iP.lt
      replace iQ := iQ.below hb iQ.lt
      replace nX := nX.keep hb
      replace nP := nP.keep hb
      replace nQ := nQ.keep hb
      replace hB := hB.trans (hb.mono hB.size)
      clear hb
      have cR0 := iR.cell 0
      change _ = some (Value.string l) at cR0
      have cR1 := iR.cell 1
      change _ = some (Value.string t) at cR1
      go_wp2_with (first | (refine wpList_load_rowG (by kernel_rfl) 30 _ rfl (DX) rfl 30 _ iX Try.underlying30 rfl infoIde ?_) | (refine wpList_load_rowG (by kernel_rfl) 30 _ rfl (DP) rfl 30 _ iP Try.underlying30 rfl infoIde ?_) | (refine wpList_load_rowG (by kernel_rfl) 30 _ rfl (DQ) rfl 30 _ iQ Try.underlying30 rfl infoIde ?_))
      clear cR0
      clear cR1
      refine (same8_any Y H1 h1 H2 h2 J1 j1 J2 j2 _ nP nQ).mono ?_
      rintro e W410 ⟨rfl, hb⟩
      replace iX := iX.below hb iX.lt
      replace iR := iR.below hb iR.lt
      replace iP := iP.below hb iP.lt
      replace iQ := iQ.below hb iQ.lt
      replace nX := nX.keep hb
      replace nP := nP.keep hb
      replace nQ := nQ.keep hb
      replace hB := hB.trans (hb.mono hB.size)
      clear hb
      go_wp2
      go_roundw
      case rel =>
        exact ⟨m + 1, by omega, by go_num, hB⟩
      case measure => simp [intOf]; omega
    · obtain rfl : m = 3 := by omega
      clear iX nX i3
      go_wp2
      exact ⟨rfl, rfl, ex_frame [14, 38, 39, 40, 41, 42, 43, 44, 45, 46, 47, 48, 49, 50, 51, 52, 230, 231, 232, 233, 234, 235, 236, 237, 238, 239, 240, 241, 242, 243, 244, 245, 246, 247, 248, 249, 250, 251, 252, 253, 254, 255, 256, 257, 258, 259, 260, 261, 262, 263, 264, 265, 266, 267, 268, 269, 270, 271, 272, 273, 274, 275, 276, 277, 278, 279, 280, 281, 282, 283, 284, 285, 286, 287, 288, 289, 290, 291, 292, 293, 294, 295, 296, 297, 298, 299, 300, 301, 302, 303, 304, 305, 306, 307, 308, 309, 310, 311, 312, 313, 314, 315, 316, 317, 318, 319, 320, 321, 322] (by kernel_rfl) hb3⟩

end Go.Proofs.Ytdbdoammbnogaaa
