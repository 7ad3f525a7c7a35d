/-
  BucketTells: its loops and its switch, each a block of its own.
-/
import Derived.Test.YtglcckpkbnppoaaBTlR
import Derived.Deep.CutBlock
namespace Go.Proofs.Ytglcckpkbnppoaa
open Go.RowKit Go.Shelf

/-- a block of a function's code, by its number. -/
def blk12 (n : Nat) : Code → Option Code
  | .block m a => match Nat.beq m n with
    | true => some (.block m a)
    | false => blk12 n a
  | .seq a b => match blk12 n a with
    | some c => some c
    | none => blk12 n b
  | .cond _ a b => match blk12 n a with
    | some c => some c
    | none => blk12 n b
  | .loop a => blk12 n a
  | .scope a => blk12 n a
  | _ => none
/-- a frame's slots told by one function. -/
structure Ends12 (F : (Nat → Value) → Array Value) (ex : Exit) (YY : Act) (R : Prop) : Prop where
  out : ex = .normal ∧ YY.defers = [] ∧ ∃ y, YY.tmps = F y ∧ R
theorem ex_frame12 {T : Array Value} {F : (Nat → Value) → Array Value} {R : Prop} (sl : List Nat) (h : T = F (fun i => T.getD (sl.getD i 0) undef)) (hr : R) : ∃ y, T = F y ∧ R := ⟨_, h, hr⟩
theorem of_blk12 {x : Option Code} {c : Code} {Pr : Code → Prop} (h : x = some c) (hp : Pr c) : ∀ c', x = some c' → Pr c' := fun c' h' => by
  rw [h] at h'
  cases h'
  exact hp
/-! ### How many buckets there are at most -/
theorem set_len12 (N : List Bkt12) (l c : ByteArray) : (set12 N l c).length = N.length := by
  rw [set12]; split
  · exact List.length_set
  · rfl
theorem fold_len12 (L : List Bkt12) : ∀ N : List Bkt12, (fold12 N L).length = N.length := by
  induction L with
  | nil => intro N; rfl
  | cons b r ih => intro N; rw [fold_cons12, ih, set_len12]
theorem put_short12 {s : Sto12} (h : s.B.length ≤ 4096) (l c : ByteArray) : (putV12 s l c).1.B.length ≤ 4096 := by
  rw [putV12]
  split
  · split
    · show (s.B.set _ _).length ≤ 4096
      rw [List.length_set]; exact h
    · split
      · split
        · exact h
        · rename_i hg
          show (set12 (fold12 (new12 _) _) l c).length ≤ 4096
          rw [set_len12, fold_len12, new_len12]
          omega
      · show (set12 s.B l c).length ≤ 4096
        rw [set_len12]; exact h
  · exact h
theorem del_short12 {s : Sto12} (h : s.B.length ≤ 4096) (l : ByteArray) : (delV12 s l).1.B.length ≤ 4096 := by
  rw [delV12]
  split
  · split
    · show (s.B.set _ _).length ≤ 4096
      rw [List.length_set]; exact h
    · exact h
  · exact h
theorem new_short12 (k : Int) : (newV12 k).1.B.length ≤ 4096 := by
  rw [newV12]
  split
  · rename_i h
    have := size_bd12 h
    show (new12 k.toNat).length ≤ 4096
    rw [new_len12]; omega
  · show 0 ≤ 4096
    omega
theorem allV_short12 {s : Sto12} (h : s.B.length ≤ 4096) : (allV12 s).length ≤ 4096 := by
  rw [allV12]
  split
  · exact Nat.le_trans (all_le12 _) h
  · show 0 ≤ 4096
    omega
theorem InS.take12 {W : World} {s : Sto12} {A : Option Addr} {c : Nat} (h : InS W s A c) (K : Nat) : InS W ⟨s.B.take K, s.many, s.gone⟩ A c := by
  have e : (s.B.take K).length ≤ s.B.length := by rw [List.length_take]; omega
  refine ⟨?_, h.nil, Nat.le_trans e h.cap, Nat.le_trans (Nat.mul_le_mul_right 40 e) h.fit⟩
  show InV W A (flB (s.B.take K))
  rw [flB_take]
  exact InV.take12 h.b _
/-- the changed store, in its box. -/
structure Zst12 (B0 : Nat) (W0 W : World) (DZ : Nat) : Prop where
  out : ∃ (z : Sto12) (A : Option Addr) (c : Nat), z.B.length ≤ 4096 ∧ Is W DZ 31 (stoA z A c) ∧ InS W z A c ∧ Below B0 W0 W
set_option maxRecDepth 100000 in
set_option maxHeartbeats 16000000 in
theorem tells_cells12 (u : Sto12) (Au : Option Addr) (cu : Nat) (D28 : Nat) (W0 : World) (hl : u.B.length ≤ 4096) (iX : Is W0 D28 31 (stoA u Au cu)) (nX : InS W0 u Au cu) (l yt X : ByteArray) (DC : Nat) (iC : Is W0 DC 9 #[.string yt, .string X]) (x0 x1 x2 x3 x4 x5 x6 x7 x8 x9 x10 x11 x12 x13 x14 x15 x16 x17 x18 x19 x20 x21 x22 x23 x24 x25 x26 x27 x29 x31 x32 x33 x34 x35 x36 x37 x38 x39 x40 x41 x42 x43 x44 x45 x46 x47 x48 x49 x50 x51 x52 x53 x54 x55 x56 x57 x58 x59 x60 x61 x62 x63 x64 x65 x66 x67 x68 x69 x70 x71 x72 x73 x74 x75 x76 x77 x78 x79 x80 x81 x82 x83 x84 x85 x86 x87 x88 x89 x90 x91 x92 x93 x94 x95 x96 x97 x98 x99 x100 x101 x102 x103 x104 x105 x106 x107 x108 x109 x110 x111 x112 x113 x114 x115 x116 x117 x118 x119 x120 x121 x122 x123 x124 x125 x126 x127 x128 x129 x130 x131 x132 x133 x134 x135 x136 x137 x138 x139 x140 x141 x142 x143 x144 x145 x146 x147 x148 x149 x150 x151 x152 x153 x154 x155 x156 x157 x158 x159 x160 x161 x162 x163 x164 x165 x166 x167 x168 x169 x170 x171 x172 x173 x174 x175 x176 x177 x178 x179 x180 x181 x182 x183 x184 x185 x186 x187 x188 x189 x190 x191 x192 x193 x194 x198 x199 x200 x201 x202 x203 x204 x205 x206 x207 x208 x209 x210 x211 x212 x213 x214 x215 x216 x217 x218 x219 x220 x221 x222 x223 x224 x225 x226 x227 x228 x229 x230 x231 x232 x233 x234 x235 x236 x237 x238 x239 x240 x241 x242 x243 x244 x245 x246 x247 x248 x249 x250 x251 x252 x253 x254 x255 x256 x257 x258 x259 x260 x261 x262 x263 x264 x265 x266 x267 x268 x269 x270 x271 x272 x273 x274 x275 x276 x277 : Value) :
    ∀ c : Code, (Try.f3.body.bind (blk12 7)) = some c → c.wp Try.prog (fun ex YY W => Ends12 (fun y => #[x0, x1, x2, x3, x4, x5, x6, x7, x8, x9, x10, x11, x12, x13, (y 0), x15, x16, x17, x18, x19, x20, x21, x22, x23, x24, x25, x26, x27, .pointer (some ⟨D28, 0, none⟩), x29, .string l, x31, (y 1), (y 2), (y 3), (y 4), (y 5), x37, x38, x39, x40, x41, x42, x43, x44, x45, x46, x47, x48, x49, x50, x51, x52, x53, x54, x55, x56, x57, x58, x59, x60, x61, x62, x63, x64, x65, x66, x67, x68, x69, x70, x71, x72, x73, x74, x75, x76, x77, x78, x79, x80, x81, x82, x83, x84, x85, x86, x87, x88, x89, x90, x91, x92, x93, x94, x95, x96, x97, x98, x99, x100, x101, x102, x103, x104, x105, x106, x107, x108, x109, x110, x111, x112, x113, x114, x115, x116, x117, x118, x119, x120, x121, x122, x123, x124, x125, x126, x127, x128, x129, x130, x131, x132, x133, x134, x135, x136, x137, x138, x139, x140, x141, x142, x143, x144, x145, x146, x147, x148, x149, x150, x151, x152, x153, x154, x155, x156, x157, x158, x159, x160, x161, x162, x163, x164, x165, x166, x167, x168, x169, x170, x171, x172, x173, x174, x175, x176, x177, x178, x179, x180, x181, x182, x183, x184, x185, x186, x187, x188, x189, x190, x191, x192, x193, x194, .slice (some ⟨DC, 0, none⟩) 2 2, .int .i64 2, (y 6), (y 7), (y 8), (y 9), (y 10), (y 11), (y 12), (y 13), (y 14), (y 15), (y 16), (y 17), (y 18), (y 19), (y 20), (y 21), (y 22), (y 23), (y 24), (y 25), (y 26), (y 27), (y 28), (y 29), (y 30), (y 31), (y 32), (y 33), x225, x226, x227, x228, x229, x230, x231, x232, x233, x234, x235, x236, x237, x238, x239, x240, x241, x242, x243, x244, x245, x246, x247, x248, x249, x250, x251, x252, x253, x254, x255, x256, x257, x258, x259, x260, x261, x262, x263, x264, x265, x266, x267, x268, x269, x270, x271, x272, x273, x274, x275, x276, x277]) ex YY (Below W0.heap.size W0 W)) { tmps := #[x0, x1, x2, x3, x4, x5, x6, x7, x8, x9, x10, x11, x12, x13, x14, x15, x16, x17, x18, x19, x20, x21, x22, x23, x24, x25, x26, x27, .pointer (some ⟨D28, 0, none⟩), x29, .string l, x31, x32, x33, x34, x35, x36, x37, x38, x39, x40, x41, x42, x43, x44, x45, x46, x47, x48, x49, x50, x51, x52, x53, x54, x55, x56, x57, x58, x59, x60, x61, x62, x63, x64, x65, x66, x67, x68, x69, x70, x71, x72, x73, x74, x75, x76, x77, x78, x79, x80, x81, x82, x83, x84, x85, x86, x87, x88, x89, x90, x91, x92, x93, x94, x95, x96, x97, x98, x99, x100, x101, x102, x103, x104, x105, x106, x107, x108, x109, x110, x111, x112, x113, x114, x115, x116, x117, x118, x119, x120, x121, x122, x123, x124, x125, x126, x127, x128, x129, x130, x131, x132, x133, x134, x135, x136, x137, x138, x139, x140, x141, x142, x143, x144, x145, x146, x147, x148, x149, x150, x151, x152, x153, x154, x155, x156, x157, x158, x159, x160, x161, x162, x163, x164, x165, x166, x167, x168, x169, x170, x171, x172, x173, x174, x175, x176, x177, x178, x179, x180, x181, x182, x183, x184, x185, x186, x187, x188, x189, x190, x191, x192, x193, x194, .slice (some ⟨DC, 0, none⟩) 2 2, .int .i64 2, .int .i64 0, x198, x199, x200, x201, x202, x203, x204, x205, x206, x207, x208, x209, x210, x211, x212, x213, x214, x215, x216, x217, x218, x219, x220, x221, x222, x223, x224, x225, x226, x227, x228, x229, x230, x231, x232, x233, x234, x235, x236, x237, x238, x239, x240, x241, x242, x243, x244, x245, x246, x247, x248, x249, x250, x251, x252, x253, x254, x255, x256, x257, x258, x259, x260, x261, x262, x263, x264, x265, x266, x267, x268, x269, x270, x271, x272, x273, x274, x275, x276, x277], defers := [] } W0 := by
  refine of_blk12 rfl ?_
  dsimp only
  go_wp2
  go_loopw [197] (fun i wr => ∃ q : Nat, q ≤ 2 ∧ i = .int .i64 (q : Int) ∧ Below W0.heap.size W0 wr) (fun i _ => 2 - (intOf i).toNat)
  case atStart => exact ⟨0, by omega, rfl, Below.refl _ _⟩
  case round =>
    obtain ⟨q, hq, rfl, hb2⟩ := hrel
    have iX := iX.below hb2 iX.lt
    have nX := nX.keep hb2
    have iC := iC.below hb2 iC.lt
    by_cases hlt : q < 2
    · have q1 : (q : Int) < 2 := by omega
      have w1i := IntWalk.i64_in ((q : Int) + 1) (by omega)
      obtain ⟨cc, hqcc⟩ : ∃ cc, wr.cell? ⟨DC, q, none⟩ = some (.string cc) := by
        rcases (show q = 0 ∨ q = 1 by omega) with rfl | rfl
        · exact ⟨_, iC.cell 0⟩
        · exact ⟨_, iC.cell 1⟩
      obtain ⟨t, ev, ht⟩ : ∃ t ev, putV12 u l cc = (t, ev) := ⟨_, _, rfl⟩
      have htl := put_short12 hl l cc
      have HP := Lib.hid (fun W (h : InS W u Au cu) => bput_any12 u Au cu l cc W h)
      have HD := Lib.hid (fun W (h : InS W u Au cu) => dput_any12 u Au cu l cc W h hl)
      rw [ht] at htl HP HD
      clear ht iC
      go_upto_region 38 with (fail)
      clear hqcc
      go_wp2_with (refine wpList_load_row rfl 31 _ rfl D28 rfl _ _ _ _ iX Try.underlying31 rfl infoSto12 ?_)
      refine (HP.out _ nX).mono ?_
      rintro e W2 ⟨A1, c1, rfl, n33, hb⟩
      have iX := iX.below hb iX.lt
      have nX := nX.keep hb
      have hb2 := hb2.trans (hb.mono hb2.size)
      clear hb
      clear HP
      have i33 := Is.new W2 31 (stoA t A1 c1)
      have n33 := n33.keep ((Below.refl _ _).alloc (Nat.le_refl _) (.cells (stoA t A1 c1) 31))
      have iX := iX.alloc (.cells (stoA t A1 c1) 31)
      have nX := nX.keep ((Below.refl _ _).alloc (Nat.le_refl _) (.cells (stoA t A1 c1) 31))
      have hb2 := hb2.alloc hb2.size (.cells (stoA t A1 c1) 31)
      go_upto_region 39 with (fail)
      generalize W2.alloc (.cells (stoA t A1 c1) 31) = W2n at *
      generalize W2.heap.size = D33 at *
      go_wp2_with (refine wpList_load_row rfl 31 _ rfl D28 rfl _ _ _ _ iX Try.underlying31 rfl infoSto12 ?_)
      refine (HD.out _ nX).mono ?_
      rintro e W4 ⟨A2, c2, rfl, n35, hb⟩
      clear nX iX
      have i33 := i33.below hb i33.lt
      have n33 := n33.keep hb
      have hb2 := hb2.trans (hb.mono hb2.size)
      clear hb
      clear HD
      have i35 := Is.new W4 31 (stoA t A2 c2)
      have n35 := n35.keep ((Below.refl _ _).alloc (Nat.le_refl _) (.cells (stoA t A2 c2) 31))
      have i33 := i33.alloc (.cells (stoA t A2 c2) 31)
      have n33 := n33.keep ((Below.refl _ _).alloc (Nat.le_refl _) (.cells (stoA t A2 c2) 31))
      have hb2 := hb2.alloc hb2.size (.cells (stoA t A2 c2) 31)
      go_upto_region 40 with (fail)
      generalize W4.alloc (.cells (stoA t A2 c2) 31) = W4n at *
      generalize W4.heap.size = D35 at *
      refine wp_region_list (tl12_40 W4n ev D33 D35 t A1 A2 c1 c2 htl i33 i35 n33 n35 _ _ _ _ _ _ _ _ _ _ _ _ _ _ _ _ _ _ _ _ _ _ _ _ _ _ _ _ _ _ _ _ _ _ _ _ _ _ _ _ _ _ _ _ _ _ _ _ _ _ _ _ _ _ _ _ _ _ _ _ _ _ _ _ _ _ _ _ _ _ _ _ _ _ _ _ _ _ _ _ _ _ _ _ _ _ _ _ _ _ _ _ _ _ _ _ _ _ _ _ _ _ _ _ _ _ _ _ _ _ _ _ _ _ _ _ _ _ _ _ _ _ _ _ _ _ _ _ _ _ _ _ _ _ _ _ _ _ _ _ _ _ _ _ _ _ _ _ _ _ _ _ _ _ _ _ _ _ _ _ _ _ _ _ _ _ _ _ _ _ _ _ _ _ _ _ _ _ _ _ _ _ _ _ _ _ _ _ _ _ _ _ _ _ _ _ _ _ _ _ _ _ _ _ _ _ _ _ _ _ _ _ _ _ _ _ _ _ _ _ _ _ _ _ _ _ _ _ _ _ _ _ _ _ _ _ _ _ _ _ _ _ _ _ _ _ _ _ _ _ _ _ _ _ _ _ _ _ _ _ _ _ _ _ _ _ _ _ _ _ _ _ _ _ _ ?_)
      intro W6 hb
      have hb2 := hb2.trans (hb.mono hb2.size)
      clear hb
      clear i33 i35 n33 n35
      go_wp2
      go_roundw
      case rel => exact ⟨q + 1, by omega, by go_num, hb2⟩
      case measure => simp [intOf]; omega
    · obtain rfl : q = 2 := by omega
      clear iX nX iC
      go_wp2
      exact ⟨rfl, rfl, ex_frame12 [14, 32, 33, 34, 35, 36, 197, 198, 199, 200, 201, 202, 203, 204, 205, 206, 207, 208, 209, 210, 211, 212, 213, 214, 215, 216, 217, 218, 219, 220, 221, 222, 223, 224] (by kernel_rfl) hb2⟩


set_option maxRecDepth 100000 in
set_option maxHeartbeats 16000000 in
theorem tells_labels12 (u : Sto12) (Au : Option Addr) (cu : Nat) (D28 : Nat) (W0 : World) (hl : u.B.length ≤ 4096) (iX : Is W0 D28 31 (stoA u Au cu)) (nX : InS W0 u Au cu) (yt xl lb : ByteArray) (DS DL : Nat) (s0 s1 s2 : Int) (iS : Is W0 DS 23 #[.int .i64 s0, .int .i64 s1, .int .i64 s2]) (iL : Is W0 DL 9 #[.string xl, .string lb]) (hs2 : -9223372036854775808 ≤ s2 ∧ s2 ≤ 9223372036854775807) (x0 x1 x2 x3 x4 x5 x6 x7 x8 x9 x10 x12 x13 x14 x15 x16 x18 x19 x20 x21 x22 x23 x24 x25 x26 x27 x29 x30 x31 x32 x33 x34 x35 x36 x37 x38 x39 x40 x41 x42 x43 x44 x45 x46 x47 x48 x49 x50 x51 x52 x53 x54 x55 x56 x57 x58 x59 x60 x61 x62 x63 x64 x65 x66 x67 x68 x69 x70 x71 x72 x73 x74 x75 x76 x77 x78 x79 x80 x81 x82 x83 x84 x85 x86 x87 x88 x89 x90 x91 x92 x93 x94 x95 x96 x97 x98 x99 x100 x101 x102 x103 x104 x105 x106 x107 x108 x109 x110 x111 x112 x113 x114 x115 x116 x117 x118 x119 x120 x121 x122 x123 x124 x125 x126 x127 x128 x129 x130 x131 x132 x133 x134 x135 x136 x137 x138 x139 x140 x141 x142 x143 x144 x145 x146 x147 x148 x149 x150 x151 x152 x153 x154 x155 x156 x157 x158 x159 x160 x161 x162 x163 x164 x165 x166 x167 x168 x169 x170 x171 x172 x173 x174 x175 x176 x177 x178 x179 x180 x181 x182 x183 x184 x188 x189 x190 x191 x192 x193 x194 x195 x196 x197 x198 x199 x200 x201 x202 x203 x204 x205 x206 x207 x208 x209 x210 x211 x212 x213 x214 x215 x216 x217 x218 x219 x220 x221 x222 x223 x224 x225 x226 x227 x228 x229 x230 x231 x232 x233 x234 x235 x236 x237 x238 x239 x240 x241 x242 x243 x244 x245 x246 x247 x248 x249 x250 x251 x252 x253 x254 x255 x256 x257 x258 x259 x260 x261 x262 x263 x264 x265 x266 x267 x268 x269 x270 x271 x272 x273 x274 x275 x276 x277 : Value) :
    ∀ c : Code, (Try.f3.body.bind (blk12 5)) = some c → c.wp Try.prog (fun ex YY W => Ends12 (fun y => #[x0, x1, x2, x3, x4, x5, x6, x7, x8, x9, x10, .pointer (some ⟨DS, 0, none⟩), x12, x13, (y 0), x15, x16, .string yt, x18, x19, x20, x21, x22, x23, x24, x25, x26, x27, .pointer (some ⟨D28, 0, none⟩), x29, (y 1), x31, (y 2), (y 3), (y 4), (y 5), (y 6), (y 7), (y 8), (y 9), (y 10), (y 11), (y 12), (y 13), (y 14), (y 15), (y 16), x47, x48, x49, x50, x51, x52, x53, x54, x55, x56, x57, x58, x59, x60, x61, x62, x63, x64, x65, x66, x67, x68, x69, x70, x71, x72, x73, x74, x75, x76, x77, x78, x79, x80, x81, x82, x83, x84, x85, x86, x87, x88, x89, x90, x91, x92, x93, x94, x95, x96, x97, x98, x99, x100, x101, x102, x103, x104, x105, x106, x107, x108, x109, x110, x111, x112, x113, x114, x115, x116, x117, x118, x119, x120, x121, x122, x123, x124, x125, x126, x127, x128, x129, x130, x131, x132, x133, x134, x135, x136, x137, x138, x139, x140, x141, x142, x143, x144, x145, x146, x147, x148, x149, x150, x151, x152, x153, x154, x155, x156, x157, x158, x159, x160, x161, x162, x163, x164, x165, x166, x167, x168, x169, x170, x171, x172, x173, x174, x175, x176, x177, x178, x179, x180, x181, x182, x183, x184, .slice (some ⟨DL, 0, none⟩) 2 2, .int .i64 2, (y 17), (y 18), (y 19), (y 20), (y 21), (y 22), (y 23), (y 24), (y 25), (y 26), (y 27), (y 28), (y 29), (y 30), (y 31), (y 32), (y 33), (y 34), (y 35), (y 36), (y 37), (y 38), (y 39), (y 40), (y 41), (y 42), (y 43), (y 44), (y 45), (y 46), (y 47), (y 48), (y 49), (y 50), (y 51), (y 52), (y 53), (y 54), (y 55), (y 56), (y 57), (y 58), (y 59), (y 60), (y 61), (y 62), (y 63), (y 64), (y 65), (y 66), (y 67), (y 68), (y 69), (y 70), (y 71), (y 72), (y 73), (y 74), (y 75), (y 76), (y 77), (y 78), (y 79), (y 80), (y 81), (y 82), (y 83), (y 84), (y 85), (y 86), (y 87), (y 88), (y 89), (y 90), (y 91), (y 92), (y 93), (y 94), (y 95), (y 96), (y 97), (y 98), (y 99), (y 100), (y 101), (y 102), (y 103), (y 104), (y 105), x276, x277]) ex YY (Below W0.heap.size W0 W)) { tmps := #[x0, x1, x2, x3, x4, x5, x6, x7, x8, x9, x10, .pointer (some ⟨DS, 0, none⟩), x12, x13, x14, x15, x16, .string yt, x18, x19, x20, x21, x22, x23, x24, x25, x26, x27, .pointer (some ⟨D28, 0, none⟩), x29, x30, x31, x32, x33, x34, x35, x36, x37, x38, x39, x40, x41, x42, x43, x44, x45, x46, x47, x48, x49, x50, x51, x52, x53, x54, x55, x56, x57, x58, x59, x60, x61, x62, x63, x64, x65, x66, x67, x68, x69, x70, x71, x72, x73, x74, x75, x76, x77, x78, x79, x80, x81, x82, x83, x84, x85, x86, x87, x88, x89, x90, x91, x92, x93, x94, x95, x96, x97, x98, x99, x100, x101, x102, x103, x104, x105, x106, x107, x108, x109, x110, x111, x112, x113, x114, x115, x116, x117, x118, x119, x120, x121, x122, x123, x124, x125, x126, x127, x128, x129, x130, x131, x132, x133, x134, x135, x136, x137, x138, x139, x140, x141, x142, x143, x144, x145, x146, x147, x148, x149, x150, x151, x152, x153, x154, x155, x156, x157, x158, x159, x160, x161, x162, x163, x164, x165, x166, x167, x168, x169, x170, x171, x172, x173, x174, x175, x176, x177, x178, x179, x180, x181, x182, x183, x184, .slice (some ⟨DL, 0, none⟩) 2 2, .int .i64 2, .int .i64 0, x188, x189, x190, x191, x192, x193, x194, x195, x196, x197, x198, x199, x200, x201, x202, x203, x204, x205, x206, x207, x208, x209, x210, x211, x212, x213, x214, x215, x216, x217, x218, x219, x220, x221, x222, x223, x224, x225, x226, x227, x228, x229, x230, x231, x232, x233, x234, x235, x236, x237, x238, x239, x240, x241, x242, x243, x244, x245, x246, x247, x248, x249, x250, x251, x252, x253, x254, x255, x256, x257, x258, x259, x260, x261, x262, x263, x264, x265, x266, x267, x268, x269, x270, x271, x272, x273, x274, x275, x276, x277], defers := [] } W0 := by
  refine of_blk12 rfl ?_
  dsimp only
  have HCe := Lib.hid (fun W => qcell_any12 s2 W hs2)
  generalize cell12 s2 = X at *
  go_wp2
  go_loopw [187] (fun i wr => ∃ q : Nat, q ≤ 2 ∧ i = .int .i64 (q : Int) ∧ Below W0.heap.size W0 wr) (fun i _ => 2 - (intOf i).toNat)
  case atStart => exact ⟨0, by omega, rfl, Below.refl _ _⟩
  case round =>
    obtain ⟨q, hq, rfl, hb2⟩ := hrel
    have iX := iX.below hb2 iX.lt
    have nX := nX.keep hb2
    have iS := iS.below hb2 iS.lt
    have iL := iL.below hb2 iL.lt
    by_cases hlt : q < 2
    · have q1 : (q : Int) < 2 := by omega
      have w1i := IntWalk.i64_in ((q : Int) + 1) (by omega)
      obtain ⟨l, hql⟩ : ∃ l, wr.cell? ⟨DL, q, none⟩ = some (.string l) := by
        rcases (show q = 0 ∨ q = 1 by omega) with rfl | rfl
        · exact ⟨_, iL.cell 0⟩
        · exact ⟨_, iL.cell 1⟩
      obtain ⟨t, was, ev, ht⟩ : ∃ t was ev, delV12 u l = (t, was, ev) := ⟨_, _, _, rfl⟩
      obtain ⟨gc, gi, hgt⟩ : ∃ gc gi, getV12 u l = (gc, gi) := ⟨_, _, rfl⟩
      have htl := del_short12 hl l
      have HP := Lib.hid (fun W (h : InS W u Au cu) => bdel_any12 u Au cu l W h)
      have HD := Lib.hid (fun W (h : InS W u Au cu) => ddel_any12 u Au cu l W h hl)
      have HG := Lib.hid (fun W (h : InS W u Au cu) => bget_any12 u Au cu l W h)
      have HE := Lib.hid (fun W (h : InS W u Au cu) => dget_any12 u Au cu l W h)
      rw [ht] at htl HP HD
      rw [hgt] at HG HE
      clear ht hgt iL
      go_upto_region 35 with (fail)
      have c2 := iS.cell 2
      go_wp2_with fail
      refine (HCe.out _).mono ?_
      rintro e W1 ⟨rfl, hb⟩
      clear c2 iS
      have iX := iX.below hb iX.lt
      have nX := nX.keep hb
      have hb2 := hb2.trans (hb.mono hb2.size)
      clear hb
      have iC := Is.new W1 9 #[.string yt, .string X]
      have iX := iX.alloc (.cells #[.string yt, .string X] 9)
      have nX := nX.keep ((Below.refl _ _).alloc (Nat.le_refl _) (.cells #[.string yt, .string X] 9))
      have hb2 := hb2.alloc hb2.size (.cells #[.string yt, .string X] 9)
      go_upto_block 7 with fail
      generalize W1.alloc (.cells #[.string yt, .string X] 9) = W1n at *
      generalize W1.heap.size = DC at *
      refine Code.wp_mono ?_ (tells_cells12 u Au cu D28 W1n hl iX nX l yt X DC iC _ _ _ _ _ _ _ _ _ _ _ _ _ _ _ _ _ _ _ _ _ _ _ _ _ _ _ _ _ _ _ _ _ _ _ _ _ _ _ _ _ _ _ _ _ _ _ _ _ _ _ _ _ _ _ _ _ _ _ _ _ _ _ _ _ _ _ _ _ _ _ _ _ _ _ _ _ _ _ _ _ _ _ _ _ _ _ _ _ _ _ _ _ _ _ _ _ _ _ _ _ _ _ _ _ _ _ _ _ _ _ _ _ _ _ _ _ _ _ _ _ _ _ _ _ _ _ _ _ _ _ _ _ _ _ _ _ _ _ _ _ _ _ _ _ _ _ _ _ _ _ _ _ _ _ _ _ _ _ _ _ _ _ _ _ _ _ _ _ _ _ _ _ _ _ _ _ _ _ _ _ _ _ _ _ _ _ _ _ _ _ _ _ _ _ _ _ _ _ _ _ _ _ _ _ _ _ _ _ _ _ _ _ _ _ _ _ _ _ _ _ _ _ _ _ _ _ _ _ _ _ _ _ _ _ _ _ _ _ _ _ _ _ _ _ _ _ _ _ _ _ _ _ _ _ _ _ _ _ _ _ _ _ _ _ _ _ _ _ _ _ _ _ _ rfl)
      rintro ex ⟨T, Df⟩ W2 ⟨rfl, hDf, ys, hT, hb⟩
      simp only at hT hDf
      subst hT
      subst hDf
      clear iC
      have iX := iX.below hb iX.lt
      have nX := nX.keep hb
      have hb2 := hb2.trans (hb.mono hb2.size)
      clear hb
      go_wp2_with (refine wpList_load_row rfl 31 _ rfl D28 rfl _ _ _ _ iX Try.underlying31 rfl infoSto12 ?_)
      refine (HP.out _ nX).mono ?_
      rintro e W3 ⟨A1, c1, rfl, n37, hb⟩
      clear HP
      have iX := iX.below hb iX.lt
      have nX := nX.keep hb
      have hb2 := hb2.trans (hb.mono hb2.size)
      clear hb
      have i37 := Is.new W3 31 (stoA t A1 c1)
      have n37 := n37.keep ((Below.refl _ _).alloc (Nat.le_refl _) (.cells (stoA t A1 c1) 31))
      have iX := iX.alloc (.cells (stoA t A1 c1) 31)
      have nX := nX.keep ((Below.refl _ _).alloc (Nat.le_refl _) (.cells (stoA t A1 c1) 31))
      have hb2 := hb2.alloc hb2.size (.cells (stoA t A1 c1) 31)
      go_upto_region 44 with (fail)
      generalize W3.alloc (.cells (stoA t A1 c1) 31) = W3n at *
      generalize W3.heap.size = D37 at *
      go_wp2_with (refine wpList_load_row rfl 31 _ rfl D28 rfl _ _ _ _ iX Try.underlying31 rfl infoSto12 ?_)
      refine (HD.out _ nX).mono ?_
      rintro e W4 ⟨A2, c2, rfl, n40, hb⟩
      clear HD
      have iX := iX.below hb iX.lt
      have i37 := i37.below hb i37.lt
      have nX := nX.keep hb
      have n37 := n37.keep hb
      have hb2 := hb2.trans (hb.mono hb2.size)
      clear hb
      have i40 := Is.new W4 31 (stoA t A2 c2)
      have n40 := n40.keep ((Below.refl _ _).alloc (Nat.le_refl _) (.cells (stoA t A2 c2) 31))
      have iX := iX.alloc (.cells (stoA t A2 c2) 31)
      have i37 := i37.alloc (.cells (stoA t A2 c2) 31)
      have nX := nX.keep ((Below.refl _ _).alloc (Nat.le_refl _) (.cells (stoA t A2 c2) 31))
      have n37 := n37.keep ((Below.refl _ _).alloc (Nat.le_refl _) (.cells (stoA t A2 c2) 31))
      have hb2 := hb2.alloc hb2.size (.cells (stoA t A2 c2) 31)
      go_upto_region 45 with (fail)
      generalize W4.alloc (.cells (stoA t A2 c2) 31) = W4n at *
      generalize W4.heap.size = D40 at *
      go_wp2_with (refine wpList_load_row rfl 31 _ rfl D28 rfl _ _ _ _ iX Try.underlying31 rfl infoSto12 ?_)
      refine (HG.out _ nX).mono ?_
      rintro e W5 ⟨rfl, hb⟩
      clear HG
      have iX := iX.below hb iX.lt
      have i37 := i37.below hb i37.lt
      have i40 := i40.below hb i40.lt
      have nX := nX.keep hb
      have n37 := n37.keep hb
      have n40 := n40.keep hb
      have hb2 := hb2.trans (hb.mono hb2.size)
      clear hb
      go_upto_region 46 with (fail)
      go_wp2_with (refine wpList_load_row rfl 31 _ rfl D28 rfl _ _ _ _ iX Try.underlying31 rfl infoSto12 ?_)
      refine (HE.out _ nX).mono ?_
      rintro e W6 ⟨rfl, hb⟩
      clear HE iX nX
      have i37 := i37.below hb i37.lt
      have i40 := i40.below hb i40.lt
      have n37 := n37.keep hb
      have n40 := n40.keep hb
      have hb2 := hb2.trans (hb.mono hb2.size)
      clear hb
      go_upto_region 47 with (fail)
      refine wp_region_list (tl12_47 W6 was gi ev gc D37 D40 t A1 A2 c1 c2 htl i37 i40 n37 n40 _ _ _ _ _ _ _ _ _ _ _ _ _ _ _ _ _ _ _ _ _ _ _ _ _ _ _ _ _ _ _ _ _ _ _ _ _ _ _ _ _ _ _ _ _ _ _ _ _ _ _ _ _ _ _ _ _ _ _ _ _ _ _ _ _ _ _ _ _ _ _ _ _ _ _ _ _ _ _ _ _ _ _ _ _ _ _ _ _ _ _ _ _ _ _ _ _ _ _ _ _ _ _ _ _ _ _ _ _ _ _ _ _ _ _ _ _ _ _ _ _ _ _ _ _ _ _ _ _ _ _ _ _ _ _ _ _ _ _ _ _ _ _ _ _ _ _ _ _ _ _ _ _ _ _ _ _ _ _ _ _ _ _ _ _ _ _ _ _ _ _ _ _ _ _ _ _ _ _ _ _ _ _ _ _ _ _ _ _ _ _ _ _ _ _ _ _ _ _ _ _ _ _ _ _ _ _ _ _ _ _ _ _ _ _ _ _ _ _ _ _ _ _ _ _ _ _ _ _ _ _ _ _ _ _ _ _ _ _ _ _ _ _ _ _ _ _ _ _ _ _ _ _ _ _ _ _ _ _ _ _ _ _ _ _ _ _ _ _ ?_)
      intro W7 hb
      clear i37 i40 n37 n40
      have hb2 := hb2.trans (hb.mono hb2.size)
      clear hb
      go_wp2
      go_roundw
      case rel => exact ⟨q + 1, by omega, by go_num, hb2⟩
      case measure => simp [intOf]; omega
    · obtain rfl : q = 2 := by omega
      clear iX nX iS iL
      go_wp2
      exact ⟨rfl, rfl, ex_frame12 [14, 30, 32, 33, 34, 35, 36, 37, 38, 39, 40, 41, 42, 43, 44, 45, 46, 187, 188, 189, 190, 191, 192, 193, 194, 195, 196, 197, 198, 199, 200, 201, 202, 203, 204, 205, 206, 207, 208, 209, 210, 211, 212, 213, 214, 215, 216, 217, 218, 219, 220, 221, 222, 223, 224, 225, 226, 227, 228, 229, 230, 231, 232, 233, 234, 235, 236, 237, 238, 239, 240, 241, 242, 243, 244, 245, 246, 247, 248, 249, 250, 251, 252, 253, 254, 255, 256, 257, 258, 259, 260, 261, 262, 263, 264, 265, 266, 267, 268, 269, 270, 271, 272, 273, 274, 275] (by kernel_rfl) hb2⟩


set_option maxRecDepth 100000 in
set_option maxHeartbeats 16000000 in
theorem tells_stores12 (s z : Sto12) (As Az : Option Addr) (cs cz : Nat) (DW DS : Nat) (W0 : World) (hls : s.B.length ≤ 4096) (hlz : z.B.length ≤ 4096) (nS : InS W0 s As cs) (nZ : InS W0 z Az cz) (iW : Is W0 DW 31 #[.slice As s.B.length cs, .int .i64 s.many, .int .i64 s.gone, .slice Az z.B.length cz, .int .i64 z.many, .int .i64 z.gone]) (xl yt : ByteArray) (s0 s1 s2 : Int) (iS : Is W0 DS 23 #[.int .i64 s0, .int .i64 s1, .int .i64 s2]) (hs1 : -9223372036854775808 ≤ s1 ∧ s1 ≤ 9223372036854775807) (hs2 : -9223372036854775808 ≤ s2 ∧ s2 ≤ 9223372036854775807) (x0 x1 x2 x3 x4 x5 x6 x7 x8 x9 x10 x12 x13 x14 x15 x18 x19 x20 x21 x22 x23 x24 x25 x26 x27 x28 x29 x30 x31 x32 x33 x34 x35 x36 x37 x38 x39 x40 x41 x42 x43 x44 x45 x46 x47 x48 x49 x50 x51 x52 x53 x54 x55 x56 x57 x58 x59 x60 x61 x62 x63 x64 x65 x66 x67 x68 x69 x70 x71 x72 x73 x74 x75 x76 x77 x78 x79 x80 x81 x82 x83 x84 x85 x86 x87 x88 x89 x90 x91 x92 x93 x94 x95 x96 x97 x98 x99 x100 x101 x102 x103 x104 x105 x106 x107 x108 x109 x110 x111 x112 x113 x114 x115 x116 x117 x118 x119 x120 x121 x122 x123 x124 x125 x126 x127 x128 x129 x130 x131 x132 x133 x134 x135 x136 x137 x138 x139 x140 x141 x142 x143 x144 x145 x146 x147 x148 x149 x150 x151 x152 x153 x154 x155 x156 x157 x158 x159 x160 x161 x165 x166 x167 x168 x169 x170 x171 x172 x173 x174 x175 x176 x177 x178 x179 x180 x181 x182 x183 x184 x185 x186 x187 x188 x189 x190 x191 x192 x193 x194 x195 x196 x197 x198 x199 x200 x201 x202 x203 x204 x205 x206 x207 x208 x209 x210 x211 x212 x213 x214 x215 x216 x217 x218 x219 x220 x221 x222 x223 x224 x225 x226 x227 x228 x229 x230 x231 x232 x233 x234 x235 x236 x237 x238 x239 x240 x241 x242 x243 x244 x245 x246 x247 x248 x249 x250 x251 x252 x253 x254 x255 x256 x257 x258 x259 x260 x261 x262 x263 x264 x265 x266 x267 x268 x269 x270 x271 x272 x273 x274 x275 x276 x277 : Value) :
    ∀ c : Code, (Try.f3.body.bind (blk12 3)) = some c → c.wp Try.prog (fun ex YY W => Ends12 (fun y => #[x0, x1, x2, x3, x4, x5, x6, x7, x8, x9, x10, .pointer (some ⟨DS, 0, none⟩), x12, x13, (y 0), x15, .string xl, .string yt, x18, x19, x20, x21, x22, x23, x24, x25, x26, x27, (y 1), x29, (y 2), x31, (y 3), (y 4), (y 5), (y 6), (y 7), (y 8), (y 9), (y 10), (y 11), (y 12), (y 13), (y 14), (y 15), (y 16), (y 17), x47, x48, x49, x50, x51, x52, x53, x54, x55, x56, x57, x58, x59, x60, x61, x62, x63, x64, x65, x66, x67, x68, x69, x70, x71, x72, x73, x74, x75, x76, x77, x78, x79, x80, x81, x82, x83, x84, x85, x86, x87, x88, x89, x90, x91, x92, x93, x94, x95, x96, x97, x98, x99, x100, x101, x102, x103, x104, x105, x106, x107, x108, x109, x110, x111, x112, x113, x114, x115, x116, x117, x118, x119, x120, x121, x122, x123, x124, x125, x126, x127, x128, x129, x130, x131, x132, x133, x134, x135, x136, x137, x138, x139, x140, x141, x142, x143, x144, x145, x146, x147, x148, x149, x150, x151, x152, x153, x154, x155, x156, x157, x158, x159, x160, x161, .slice (some ⟨DW, 0, none⟩) 2 2, .int .i64 2, (y 18), (y 19), (y 20), (y 21), (y 22), (y 23), (y 24), (y 25), (y 26), (y 27), (y 28), (y 29), (y 30), (y 31), (y 32), (y 33), (y 34), (y 35), (y 36), (y 37), (y 38), (y 39), (y 40), (y 41), (y 42), (y 43), (y 44), (y 45), (y 46), (y 47), (y 48), (y 49), (y 50), (y 51), (y 52), (y 53), (y 54), (y 55), (y 56), (y 57), (y 58), (y 59), (y 60), (y 61), (y 62), (y 63), (y 64), (y 65), (y 66), (y 67), (y 68), (y 69), (y 70), (y 71), (y 72), (y 73), (y 74), (y 75), (y 76), (y 77), (y 78), (y 79), (y 80), (y 81), (y 82), (y 83), (y 84), (y 85), (y 86), (y 87), (y 88), (y 89), (y 90), (y 91), (y 92), (y 93), (y 94), (y 95), (y 96), (y 97), (y 98), (y 99), (y 100), (y 101), (y 102), (y 103), (y 104), (y 105), (y 106), (y 107), (y 108), (y 109), (y 110), (y 111), (y 112), (y 113), (y 114), (y 115), (y 116), (y 117), (y 118), (y 119), (y 120), (y 121), (y 122), (y 123), (y 124), (y 125), (y 126), (y 127), (y 128), (y 129), (y 130), x277]) ex YY (Below W0.heap.size W0 W)) { tmps := #[x0, x1, x2, x3, x4, x5, x6, x7, x8, x9, x10, .pointer (some ⟨DS, 0, none⟩), x12, x13, x14, x15, .string xl, .string yt, x18, x19, x20, x21, x22, x23, x24, x25, x26, x27, x28, x29, x30, x31, x32, x33, x34, x35, x36, x37, x38, x39, x40, x41, x42, x43, x44, x45, x46, x47, x48, x49, x50, x51, x52, x53, x54, x55, x56, x57, x58, x59, x60, x61, x62, x63, x64, x65, x66, x67, x68, x69, x70, x71, x72, x73, x74, x75, x76, x77, x78, x79, x80, x81, x82, x83, x84, x85, x86, x87, x88, x89, x90, x91, x92, x93, x94, x95, x96, x97, x98, x99, x100, x101, x102, x103, x104, x105, x106, x107, x108, x109, x110, x111, x112, x113, x114, x115, x116, x117, x118, x119, x120, x121, x122, x123, x124, x125, x126, x127, x128, x129, x130, x131, x132, x133, x134, x135, x136, x137, x138, x139, x140, x141, x142, x143, x144, x145, x146, x147, x148, x149, x150, x151, x152, x153, x154, x155, x156, x157, x158, x159, x160, x161, .slice (some ⟨DW, 0, none⟩) 2 2, .int .i64 2, .int .i64 0, x165, x166, x167, x168, x169, x170, x171, x172, x173, x174, x175, x176, x177, x178, x179, x180, x181, x182, x183, x184, x185, x186, x187, x188, x189, x190, x191, x192, x193, x194, x195, x196, x197, x198, x199, x200, x201, x202, x203, x204, x205, x206, x207, x208, x209, x210, x211, x212, x213, x214, x215, x216, x217, x218, x219, x220, x221, x222, x223, x224, x225, x226, x227, x228, x229, x230, x231, x232, x233, x234, x235, x236, x237, x238, x239, x240, x241, x242, x243, x244, x245, x246, x247, x248, x249, x250, x251, x252, x253, x254, x255, x256, x257, x258, x259, x260, x261, x262, x263, x264, x265, x266, x267, x268, x269, x270, x271, x272, x273, x274, x275, x276, x277], defers := [] } W0 := by
  refine of_blk12 rfl ?_
  dsimp only
  have HLb := Lib.hid (fun W => qlabel_any12 s1 W hs1)
  generalize label12 s1 = lb at *
  go_wp2
  go_loopw [164] (fun i wr => ∃ q : Nat, q ≤ 2 ∧ i = .int .i64 (q : Int) ∧ Below W0.heap.size W0 wr) (fun i _ => 2 - (intOf i).toNat)
  case atStart => exact ⟨0, by omega, rfl, Below.refl _ _⟩
  case round =>
    obtain ⟨q, hq, rfl, hb2⟩ := hrel
    by_cases hlt : q < 2
    · have q1 : (q : Int) < 2 := by omega
      have w1i := IntWalk.i64_in ((q : Int) + 1) (by omega)
      have iW := iW.below hb2 iW.lt
      obtain ⟨u, Au, cu, hl, nX, hr⟩ : ∃ (u : Sto12) (Au : Option Addr) (cu : Nat), u.B.length ≤ 4096 ∧ InS wr u Au cu ∧ wr.rangeAt DW (q * 3) [.slice Au u.B.length cu, .int .i64 u.many, .int .i64 u.gone] := by
        rcases (show q = 0 ∨ q = 1 by omega) with rfl | rfl
        · exact ⟨s, As, cs, hls, nS.keep hb2, World.rangeAt_of_block iW 0 3⟩
        · exact ⟨z, Az, cz, hlz, nZ.keep hb2, World.rangeAt_of_block iW 3 3⟩
      have hLu := allV_short12 hl
      have iS := iS.below hb2 iS.lt
      clear iW nS nZ
      have iX := Is.new wr 31 (stoA u Au cu)
      have nX := nX.keep ((Below.refl _ _).alloc (Nat.le_refl _) (.cells (stoA u Au cu) 31))
      have iS := iS.alloc (.cells (stoA u Au cu) 31)
      have hb2 := hb2.alloc hb2.size (.cells (stoA u Au cu) 31)
      go_upto_region 30 with (refine wpList_load_mid rfl 31 _ rfl DW (q * 3) rfl _ _ hr Try.underlying31 rfl infoSto12 ?_)
      clear hr
      generalize wr.alloc (.cells (stoA u Au cu) 31) = W1 at *
      generalize wr.heap.size = D28 at *
      refine Code.wp_mono ?_ (tl12_30 W1 D28 u Au cu hLu iX nX _ _ _ _ _ _ _ _ _ _ _ _ _ _ _ _ _ _ _ _ _ _ _ _ _ _ _ _ _ _ _ _ _ _ _ _ _ _ _ _ _ _ _ _ _ _ _ _ _ _ _ _ _ _ _ _ _ _ _ _ _ _ _ _ _ _ _ _ _ _ _ _ _ _ _ _ _ _ _ _ _ _ _ _ _ _ _ _ _ _ _ _ _ _ _ _ _ _ _ _ _ _ _ _ _ _ _ _ _ _ _ _ _ _ _ _ _ _ _ _ _ _ _ _ _ _ _ _ _ _ _ _ _ _ _ _ _ _ _ _ _ _ _ _ _ _ _ _ _ _ _ _ _ _ _ _ _ _ _ _ _ _ _ _ _ _ _ _ _ _ _ _ _ _ _ _ _ _ _ _ _ _ _ _ _ _ _ _ _ _ _ _ _ _ _ _ _ _ _ _ _ _ _ _ _ _ _ _ _ _ _ _ _ _ _ _ _ _ _ _ _ _ _ _ _ _ _ _ _ _ _ _ _ _ _ _ _ _ _ _ _ _ _ _ _ _ _ _ _ _ _ _ _ _ _ _ _ _ _ _ _ _ _ _ _ _ _ _ _ _ _ _ _ _ _ _ _)
      rintro ex ⟨T, Df⟩ W2 ⟨rfl, hDf, AX, cX, AY, cY, hT, hb, _, _⟩
      simp only at hT hDf
      subst hT
      subst hDf
      have iX := iX.below hb iX.lt
      have iS := iS.below hb iS.lt
      have nX := nX.keep hb
      have hb2 := hb2.trans (hb.mono hb2.size)
      clear hb
      have c1 := iS.cell 1
      go_wp2_with fail
      refine (HLb.out _).mono ?_
      rintro e W3 ⟨rfl, hb⟩
      clear c1
      have iX := iX.below hb iX.lt
      have iS := iS.below hb iS.lt
      have nX := nX.keep hb
      have hb2 := hb2.trans (hb.mono hb2.size)
      clear hb
      have iL := Is.new W3 9 #[.string xl, .string lb]
      have iX := iX.alloc (.cells #[.string xl, .string lb] 9)
      have iS := iS.alloc (.cells #[.string xl, .string lb] 9)
      have nX := nX.keep ((Below.refl _ _).alloc (Nat.le_refl _) (.cells #[.string xl, .string lb] 9))
      have hb2 := hb2.alloc hb2.size (.cells #[.string xl, .string lb] 9)
      go_upto_block 5 with fail
      generalize W3.alloc (.cells #[.string xl, .string lb] 9) = W3n at *
      generalize W3.heap.size = DL at *
      refine Code.wp_mono ?_ (tells_labels12 u Au cu D28 W3n hl iX nX yt xl lb DS DL s0 s1 s2 iS iL hs2 _ _ _ _ _ _ _ _ _ _ _ _ _ _ _ _ _ _ _ _ _ _ _ _ _ _ _ _ _ _ _ _ _ _ _ _ _ _ _ _ _ _ _ _ _ _ _ _ _ _ _ _ _ _ _ _ _ _ _ _ _ _ _ _ _ _ _ _ _ _ _ _ _ _ _ _ _ _ _ _ _ _ _ _ _ _ _ _ _ _ _ _ _ _ _ _ _ _ _ _ _ _ _ _ _ _ _ _ _ _ _ _ _ _ _ _ _ _ _ _ _ _ _ _ _ _ _ _ _ _ _ _ _ _ _ _ _ _ _ _ _ _ _ _ _ _ _ _ _ _ _ _ _ _ _ _ _ _ _ _ _ _ _ _ _ _ _ _ _ _ _ _ _ _ _ _ _ _ _ _ _ _ _ _ _ _ _ _ _ _ _ _ _ _ _ _ _ _ _ _ _ _ _ _ _ _ _ _ _ _ _ _ _ _ _ _ _ _ _ _ _ _ _ _ _ _ _ _ _ _ _ _ _ _ _ _ _ _ _ _ _ _ _ _ _ _ _ _ _ _ _ _ _ _ _ _ _ _ _ _ _ _ _ _ _ _ _ _ _ _ _ _ _ rfl)
      rintro ex ⟨T, Df⟩ W4 ⟨rfl, hDf, ys, hT, hb⟩
      simp only at hT hDf
      subst hT
      subst hDf
      clear iX nX iS iL
      have hb2 := hb2.trans (hb.mono hb2.size)
      clear hb
      go_wp2
      go_roundw
      case rel => exact ⟨q + 1, by omega, by go_num, hb2⟩
      case measure => simp [intOf]; omega
    · obtain rfl : q = 2 := by omega
      clear iW nS nZ iS
      go_wp2
      exact ⟨rfl, rfl, ex_frame12 [14, 28, 30, 32, 33, 34, 35, 36, 37, 38, 39, 40, 41, 42, 43, 44, 45, 46, 164, 165, 166, 167, 168, 169, 170, 171, 172, 173, 174, 175, 176, 177, 178, 179, 180, 181, 182, 183, 184, 185, 186, 187, 188, 189, 190, 191, 192, 193, 194, 195, 196, 197, 198, 199, 200, 201, 202, 203, 204, 205, 206, 207, 208, 209, 210, 211, 212, 213, 214, 215, 216, 217, 218, 219, 220, 221, 222, 223, 224, 225, 226, 227, 228, 229, 230, 231, 232, 233, 234, 235, 236, 237, 238, 239, 240, 241, 242, 243, 244, 245, 246, 247, 248, 249, 250, 251, 252, 253, 254, 255, 256, 257, 258, 259, 260, 261, 262, 263, 264, 265, 266, 267, 268, 269, 270, 271, 272, 273, 274, 275, 276] (by kernel_rfl) hb2⟩


set_option maxRecDepth 100000 in
set_option maxHeartbeats 16000000 in
theorem tells_sizes12 (xl : ByteArray) (DK : Nat) (k0 k1 k2 : Int) (W0 : World) (iK : Is W0 DK 3 #[.int .i64 k0, .int .i64 k1, .int .i64 k2]) (hk0 : (-9223372036854775808 ≤ k0 ∧ k0 ≤ 9223372036854775807)) (hk1 : (-9223372036854775808 ≤ k1 ∧ k1 ≤ 9223372036854775807)) (hk2 : (-9223372036854775808 ≤ k2 ∧ k2 ≤ 9223372036854775807)) (x0 x1 x2 x3 x4 x5 x6 x7 x8 x9 x10 x11 x12 x13 x14 x15 x17 x18 x19 x20 x21 x22 x23 x24 x25 x26 x27 x28 x29 x30 x31 x32 x33 x34 x35 x36 x37 x38 x39 x40 x41 x42 x43 x44 x45 x46 x47 x48 x49 x50 x51 x52 x53 x54 x55 x56 x57 x58 x59 x60 x61 x62 x63 x64 x65 x69 x70 x71 x72 x73 x74 x75 x76 x77 x78 x79 x80 x81 x82 x83 x84 x85 x86 x87 x88 x89 x90 x91 x92 x93 x94 x95 x96 x97 x98 x99 x100 x101 x102 x103 x104 x105 x106 x107 x108 x109 x110 x111 x112 x113 x114 x115 x116 x117 x118 x119 x120 x121 x122 x123 x124 x125 x126 x127 x128 x129 x130 x131 x132 x133 x134 x135 x136 x137 x138 x139 x140 x141 x142 x143 x144 x145 x146 x147 x148 x149 x150 x151 x152 x153 x154 x155 x156 x157 x158 x159 x160 x161 x162 x163 x164 x165 x166 x167 x168 x169 x170 x171 x172 x173 x174 x175 x176 x177 x178 x179 x180 x181 x182 x183 x184 x185 x186 x187 x188 x189 x190 x191 x192 x193 x194 x195 x196 x197 x198 x199 x200 x201 x202 x203 x204 x205 x206 x207 x208 x209 x210 x211 x212 x213 x214 x215 x216 x217 x218 x219 x220 x221 x222 x223 x224 x225 x226 x227 x228 x229 x230 x231 x232 x233 x234 x235 x236 x237 x238 x239 x240 x241 x242 x243 x244 x245 x246 x247 x248 x249 x250 x251 x252 x253 x254 x255 x256 x257 x258 x259 x260 x261 x262 x263 x264 x265 x266 x267 x268 x269 x270 x271 x272 x273 x274 x275 x276 x277 : Value) :
    ∀ c : Code, (Try.f3.body.bind (blk12 0)) = some c → c.wp Try.prog (fun ex YY W => Ends12 (fun y => #[x0, x1, x2, x3, x4, x5, x6, x7, x8, x9, x10, x11, x12, x13, (y 0), x15, .string xl, x17, x18, (y 1), (y 2), (y 3), (y 4), (y 5), x24, x25, x26, x27, x28, x29, x30, x31, x32, x33, x34, x35, x36, x37, x38, x39, x40, x41, x42, x43, x44, x45, x46, x47, x48, x49, x50, x51, x52, x53, x54, x55, x56, x57, x58, x59, x60, x61, x62, x63, x64, x65, .slice (some ⟨DK, 0, none⟩) 3 3, .int .i64 3, (y 6), (y 7), (y 8), (y 9), (y 10), (y 11), (y 12), (y 13), (y 14), (y 15), (y 16), (y 17), (y 18), (y 19), (y 20), (y 21), (y 22), (y 23), (y 24), (y 25), (y 26), (y 27), (y 28), (y 29), (y 30), (y 31), (y 32), (y 33), (y 34), (y 35), (y 36), (y 37), (y 38), x101, x102, x103, x104, x105, x106, x107, x108, x109, x110, x111, x112, x113, x114, x115, x116, x117, x118, x119, x120, x121, x122, x123, x124, x125, x126, x127, x128, x129, x130, x131, x132, x133, x134, x135, x136, x137, x138, x139, x140, x141, x142, x143, x144, x145, x146, x147, x148, x149, x150, x151, x152, x153, x154, x155, x156, x157, x158, x159, x160, x161, x162, x163, x164, x165, x166, x167, x168, x169, x170, x171, x172, x173, x174, x175, x176, x177, x178, x179, x180, x181, x182, x183, x184, x185, x186, x187, x188, x189, x190, x191, x192, x193, x194, x195, x196, x197, x198, x199, x200, x201, x202, x203, x204, x205, x206, x207, x208, x209, x210, x211, x212, x213, x214, x215, x216, x217, x218, x219, x220, x221, x222, x223, x224, x225, x226, x227, x228, x229, x230, x231, x232, x233, x234, x235, x236, x237, x238, x239, x240, x241, x242, x243, x244, x245, x246, x247, x248, x249, x250, x251, x252, x253, x254, x255, x256, x257, x258, x259, x260, x261, x262, x263, x264, x265, x266, x267, x268, x269, x270, x271, x272, x273, x274, x275, x276, x277]) ex YY (Below W0.heap.size W0 W)) { tmps := #[x0, x1, x2, x3, x4, x5, x6, x7, x8, x9, x10, x11, x12, x13, x14, x15, .string xl, x17, x18, x19, x20, x21, x22, x23, x24, x25, x26, x27, x28, x29, x30, x31, x32, x33, x34, x35, x36, x37, x38, x39, x40, x41, x42, x43, x44, x45, x46, x47, x48, x49, x50, x51, x52, x53, x54, x55, x56, x57, x58, x59, x60, x61, x62, x63, x64, x65, .slice (some ⟨DK, 0, none⟩) 3 3, .int .i64 3, .int .i64 0, x69, x70, x71, x72, x73, x74, x75, x76, x77, x78, x79, x80, x81, x82, x83, x84, x85, x86, x87, x88, x89, x90, x91, x92, x93, x94, x95, x96, x97, x98, x99, x100, x101, x102, x103, x104, x105, x106, x107, x108, x109, x110, x111, x112, x113, x114, x115, x116, x117, x118, x119, x120, x121, x122, x123, x124, x125, x126, x127, x128, x129, x130, x131, x132, x133, x134, x135, x136, x137, x138, x139, x140, x141, x142, x143, x144, x145, x146, x147, x148, x149, x150, x151, x152, x153, x154, x155, x156, x157, x158, x159, x160, x161, x162, x163, x164, x165, x166, x167, x168, x169, x170, x171, x172, x173, x174, x175, x176, x177, x178, x179, x180, x181, x182, x183, x184, x185, x186, x187, x188, x189, x190, x191, x192, x193, x194, x195, x196, x197, x198, x199, x200, x201, x202, x203, x204, x205, x206, x207, x208, x209, x210, x211, x212, x213, x214, x215, x216, x217, x218, x219, x220, x221, x222, x223, x224, x225, x226, x227, x228, x229, x230, x231, x232, x233, x234, x235, x236, x237, x238, x239, x240, x241, x242, x243, x244, x245, x246, x247, x248, x249, x250, x251, x252, x253, x254, x255, x256, x257, x258, x259, x260, x261, x262, x263, x264, x265, x266, x267, x268, x269, x270, x271, x272, x273, x274, x275, x276, x277], defers := [] } W0 := by
  refine of_blk12 rfl ?_
  dsimp only
  go_wp2
  go_loopw [68] (fun i wr => ∃ q : Nat, q ≤ 3 ∧ i = .int .i64 (q : Int) ∧ Below W0.heap.size W0 wr) (fun i _ => 3 - (intOf i).toNat)
  case atStart => exact ⟨0, by omega, rfl, Below.refl _ _⟩
  case round =>
    obtain ⟨q, hq, rfl, hb2⟩ := hrel
    have iK := iK.below hb2 iK.lt
    by_cases hlt : q < 3
    · have q1 : (q : Int) < 3 := by omega
      have w1i := IntWalk.i64_in ((q : Int) + 1) (by omega)
      obtain ⟨k, hkk, hk⟩ : ∃ k, wr.cell? ⟨DK, q, none⟩ = some (.int .i64 k) ∧ (-9223372036854775808 ≤ k ∧ k ≤ 9223372036854775807) := by
        rcases (show q = 0 ∨ q = 1 ∨ q = 2 by omega) with rfl | rfl | rfl
        · exact ⟨_, iK.cell 0, hk0⟩
        · exact ⟨_, iK.cell 1, hk1⟩
        · exact ⟨_, iK.cell 2, hk2⟩
      obtain ⟨u, ev, hu⟩ : ∃ u ev, newV12 k = (u, ev) := ⟨_, _, rfl⟩
      have hl := new_short12 k
      have HP := Lib.hid (fun W => bnew_any12 k W)
      have HD := Lib.hid (fun W => dnew_any12 k W)
      rw [hu] at hl HP HD
      clear hu iK
      go_upto_region 7 with (fail)
      clear hkk
      go_wp2_with fail
      refine (HP.out _).mono ?_
      rintro e W2 ⟨A1, c1, rfl, hr, hb⟩
      have n20 : InS W2 u A1 c1 := RowB.inS hr hl
      clear hr HP
      have hb2 := hb2.trans (hb.mono hb2.size)
      clear hb
      have i20 := Is.new W2 31 (stoA u A1 c1)
      have n20 := n20.keep ((Below.refl _ _).alloc (Nat.le_refl _) (.cells (stoA u A1 c1) 31))
      have hb2 := hb2.alloc hb2.size (.cells (stoA u A1 c1) 31)
      go_upto_region 8 with (fail)
      generalize W2.alloc (.cells (stoA u A1 c1) 31) = W2n at *
      generalize W2.heap.size = D20 at *
      go_wp2_with fail
      refine (HD.out _).mono ?_
      rintro e W4 ⟨A2, c2, rfl, hr, hb⟩
      have n22 : InS W4 u A2 c2 := RowB.inS hr hl
      clear hr HD
      have i20 := i20.below hb i20.lt
      have n20 := n20.keep hb
      have hb2 := hb2.trans (hb.mono hb2.size)
      clear hb
      have i22 := Is.new W4 31 (stoA u A2 c2)
      have n22 := n22.keep ((Below.refl _ _).alloc (Nat.le_refl _) (.cells (stoA u A2 c2) 31))
      have i20 := i20.alloc (.cells (stoA u A2 c2) 31)
      have n20 := n20.keep ((Below.refl _ _).alloc (Nat.le_refl _) (.cells (stoA u A2 c2) 31))
      have hb2 := hb2.alloc hb2.size (.cells (stoA u A2 c2) 31)
      go_upto_region 9 with (fail)
      generalize W4.alloc (.cells (stoA u A2 c2) 31) = W4n at *
      generalize W4.heap.size = D22 at *
      refine wp_region_list (tl12_9 W4n xl k ev hk D20 D22 u A1 A2 c1 c2 hl i20 i22 n20 n22 _ _ _ _ _ _ _ _ _ _ _ _ _ _ _ _ _ _ _ _ _ _ _ _ _ _ _ _ _ _ _ _ _ _ _ _ _ _ _ _ _ _ _ _ _ _ _ _ _ _ _ _ _ _ _ _ _ _ _ _ _ _ _ _ _ _ _ _ _ _ _ _ _ _ _ _ _ _ _ _ _ _ _ _ _ _ _ _ _ _ _ _ _ _ _ _ _ _ _ _ _ _ _ _ _ _ _ _ _ _ _ _ _ _ _ _ _ _ _ _ _ _ _ _ _ _ _ _ _ _ _ _ _ _ _ _ _ _ _ _ _ _ _ _ _ _ _ _ _ _ _ _ _ _ _ _ _ _ _ _ _ _ _ _ _ _ _ _ _ _ _ _ _ _ _ _ _ _ _ _ _ _ _ _ _ _ _ _ _ _ _ _ _ _ _ _ _ _ _ _ _ _ _ _ _ _ _ _ _ _ _ _ _ _ _ _ _ _ _ _ _ _ _ _ _ _ _ _ _ _ _ _ _ _ _ _ _ _ _ _ _ _ _ _ _ _ _ _ _ _ _ _ _ _ _ _ _ _ _ _ _ _ _ _ _ _ _ _ _ _ _ _ _ ?_)
      intro W6 hb
      clear i20 i22 n20 n22
      have hb2 := hb2.trans (hb.mono hb2.size)
      clear hb
      go_wp2
      go_roundw
      case rel => exact ⟨q + 1, by omega, by go_num, hb2⟩
      case measure => simp [intOf]; omega
    · obtain rfl : q = 3 := by omega
      clear iK
      go_wp2
      exact ⟨rfl, rfl, ex_frame12 [14, 19, 20, 21, 22, 23, 68, 69, 70, 71, 72, 73, 74, 75, 76, 77, 78, 79, 80, 81, 82, 83, 84, 85, 86, 87, 88, 89, 90, 91, 92, 93, 94, 95, 96, 97, 98, 99, 100] (by kernel_rfl) hb2⟩


set_option maxRecDepth 100000 in
set_option maxHeartbeats 16000000 in
theorem tells_way12_0 (n : Int) (DO DZ g c K B0 : Nat) (z : Sto12) (odd : Bkt12) (W0 : World) (hK : K < z.B.length) (hl : z.B.length ≤ 4096) (hm : -1000000 ≤ z.many ∧ z.many ≤ 1000000) (hgB : B0 ≤ g) (hgZ : DZ ≠ g) (hZB : B0 ≤ DZ) (iO : Is W0 DO 25 (bktA odd)) (iZ : Is W0 DZ 31 (stoA z (some ⟨g, 0, none⟩) c)) (nR : RowB W0 B0 (some ⟨g, 0, none⟩) c z.B) (x0 x2 x3 x4 x5 x6 x7 x8 x9 x10 x11 x13 x14 x15 x16 x17 x18 x19 x20 x21 x22 x23 x24 x27 x28 x29 x30 x31 x32 x33 x34 x35 x36 x37 x38 x39 x40 x41 x42 x43 x44 x45 x46 x47 x48 x49 x50 x51 x52 x53 x54 x55 x56 x57 x58 x59 x60 x61 x62 x63 x64 x65 x66 x67 x68 x69 x70 x71 x72 x73 x74 x75 x76 x77 x78 x79 x80 x81 x82 x83 x84 x85 x86 x87 x88 x89 x90 x91 x92 x93 x94 x95 x96 x97 x98 x99 x100 x101 x102 x103 x104 x105 x106 x107 x108 x109 x110 x111 x112 x113 x114 x115 x116 x117 x118 x120 x121 x122 x123 x124 x125 x126 x127 x128 x129 x130 x131 x132 x133 x134 x135 x136 x137 x138 x139 x140 x141 x142 x143 x144 x145 x146 x147 x148 x149 x150 x151 x152 x153 x154 x155 x156 x157 x158 x159 x160 x161 x162 x163 x164 x165 x166 x167 x168 x169 x170 x171 x172 x173 x174 x175 x176 x177 x178 x179 x180 x181 x182 x183 x184 x185 x186 x187 x188 x189 x190 x191 x192 x193 x194 x195 x196 x197 x198 x199 x200 x201 x202 x203 x204 x205 x206 x207 x208 x209 x210 x211 x212 x213 x214 x215 x216 x217 x218 x219 x220 x221 x222 x223 x224 x225 x226 x227 x228 x229 x230 x231 x232 x233 x234 x235 x236 x237 x238 x239 x240 x241 x242 x243 x244 x245 x246 x247 x248 x249 x250 x251 x252 x253 x254 x255 x256 x257 x258 x259 x260 x261 x262 x263 x264 x265 x266 x267 x268 x269 x270 x271 x272 x273 x274 x275 x276 x277 : Value) :
    ∀ c : Code, (Try.f3.body.bind (blk12 2)) = some c → c.wp Try.prog (fun ex YY W => Ends12 (fun y => #[x0, .int .i64 n, x2, x3, x4, x5, x6, x7, x8, x9, x10, x11, .pointer (some ⟨DO, 0, none⟩), x13, x14, x15, x16, x17, x18, x19, x20, x21, x22, x23, x24, .pointer (some ⟨DZ, 0, none⟩), .int .i64 (K : Int), x27, x28, x29, x30, x31, x32, x33, x34, x35, x36, x37, x38, x39, x40, x41, x42, x43, x44, x45, x46, x47, x48, x49, x50, x51, x52, x53, x54, x55, x56, x57, x58, x59, x60, x61, x62, x63, x64, x65, x66, x67, x68, x69, x70, x71, x72, x73, x74, x75, x76, x77, x78, x79, x80, x81, x82, x83, x84, x85, x86, x87, x88, x89, x90, x91, x92, x93, x94, x95, x96, x97, x98, x99, x100, x101, x102, x103, x104, x105, x106, x107, x108, x109, x110, x111, x112, x113, x114, x115, x116, x117, x118, .int .i64 0, (y 0), (y 1), (y 2), (y 3), (y 4), (y 5), (y 6), (y 7), (y 8), (y 9), (y 10), (y 11), (y 12), (y 13), (y 14), (y 15), (y 16), (y 17), (y 18), (y 19), (y 20), (y 21), (y 22), (y 23), (y 24), (y 25), (y 26), (y 27), (y 28), (y 29), (y 30), (y 31), (y 32), (y 33), (y 34), (y 35), (y 36), (y 37), (y 38), (y 39), x160, x161, x162, x163, x164, x165, x166, x167, x168, x169, x170, x171, x172, x173, x174, x175, x176, x177, x178, x179, x180, x181, x182, x183, x184, x185, x186, x187, x188, x189, x190, x191, x192, x193, x194, x195, x196, x197, x198, x199, x200, x201, x202, x203, x204, x205, x206, x207, x208, x209, x210, x211, x212, x213, x214, x215, x216, x217, x218, x219, x220, x221, x222, x223, x224, x225, x226, x227, x228, x229, x230, x231, x232, x233, x234, x235, x236, x237, x238, x239, x240, x241, x242, x243, x244, x245, x246, x247, x248, x249, x250, x251, x252, x253, x254, x255, x256, x257, x258, x259, x260, x261, x262, x263, x264, x265, x266, x267, x268, x269, x270, x271, x272, x273, x274, x275, x276, x277]) ex YY (Zst12 B0 W0 W DZ)) { tmps := #[x0, .int .i64 n, x2, x3, x4, x5, x6, x7, x8, x9, x10, x11, .pointer (some ⟨DO, 0, none⟩), x13, x14, x15, x16, x17, x18, x19, x20, x21, x22, x23, x24, .pointer (some ⟨DZ, 0, none⟩), .int .i64 (K : Int), x27, x28, x29, x30, x31, x32, x33, x34, x35, x36, x37, x38, x39, x40, x41, x42, x43, x44, x45, x46, x47, x48, x49, x50, x51, x52, x53, x54, x55, x56, x57, x58, x59, x60, x61, x62, x63, x64, x65, x66, x67, x68, x69, x70, x71, x72, x73, x74, x75, x76, x77, x78, x79, x80, x81, x82, x83, x84, x85, x86, x87, x88, x89, x90, x91, x92, x93, x94, x95, x96, x97, x98, x99, x100, x101, x102, x103, x104, x105, x106, x107, x108, x109, x110, x111, x112, x113, x114, x115, x116, x117, x118, .int .i64 0, x120, x121, x122, x123, x124, x125, x126, x127, x128, x129, x130, x131, x132, x133, x134, x135, x136, x137, x138, x139, x140, x141, x142, x143, x144, x145, x146, x147, x148, x149, x150, x151, x152, x153, x154, x155, x156, x157, x158, x159, x160, x161, x162, x163, x164, x165, x166, x167, x168, x169, x170, x171, x172, x173, x174, x175, x176, x177, x178, x179, x180, x181, x182, x183, x184, x185, x186, x187, x188, x189, x190, x191, x192, x193, x194, x195, x196, x197, x198, x199, x200, x201, x202, x203, x204, x205, x206, x207, x208, x209, x210, x211, x212, x213, x214, x215, x216, x217, x218, x219, x220, x221, x222, x223, x224, x225, x226, x227, x228, x229, x230, x231, x232, x233, x234, x235, x236, x237, x238, x239, x240, x241, x242, x243, x244, x245, x246, x247, x248, x249, x250, x251, x252, x253, x254, x255, x256, x257, x258, x259, x260, x261, x262, x263, x264, x265, x266, x267, x268, x269, x270, x271, x272, x273, x274, x275, x276, x277], defers := [] } W0 := by
  refine of_blk12 rfl ?_
  dsimp only
  have hT := RowB.there nR hK
  go_upto_region 20 with (fail)
  refine wp_region_list (tl12_20 W0 DZ g c K z iZ hK DO odd iO hT _ _ _ _ _ _ _ _ _ _ _ _ _ _ _ _ _ _ _ _ _ _ _ _ _ _ _ _ _ _ _ _ _ _ _ _ _ _ _ _ _ _ _ _ _ _ _ _ _ _ _ _ _ _ _ _ _ _ _ _ _ _ _ _ _ _ _ _ _ _ _ _ _ _ _ _ _ _ _ _ _ _ _ _ _ _ _ _ _ _ _ _ _ _ _ _ _ _ _ _ _ _ _ _ _ _ _ _ _ _ _ _ _ _ _ _ _ _ _ _ _ _ _ _ _ _ _ _ _ _ _ _ _ _ _ _ _ _ _ _ _ _ _ _ _ _ _ _ _ _ _ _ _ _ _ _ _ _ _ _ _ _ _ _ _ _ _ _ _ _ _ _ _ _ _ _ _ _ _ _ _ _ _ _ _ _ _ _ _ _ _ _ _ _ _ _ _ _ _ _ _ _ _ _ _ _ _ _ _ _ _ _ _ _ _ _ _ _ _ _ _ _ _ _ _ _ _ _ _ _ _ _ _ _ _ _ _ _ _ _ _ _ _ _ _ _ _ _ _ _ _ _ _ _ _ _ _ _ _ _ _ _ _ _ _ _ _ _ _ _ _ _ _ _ _ _ ?_)
  have hB2 := below_cells3 (Below.refl B0 W0) hgB (K * 3) (.int .i64 odd.st) (.string odd.l) (.string odd.c)
  have iZ2 := iZ.cells3 hgZ (K * 3) (.int .i64 odd.st) (.string odd.l) (.string odd.c)
  have nR2 := RowB.put nR hK odd
  generalize W0.setCells g (K * 3) [.int .i64 odd.st, .string odd.l, .string odd.c] = W1 at *
  have hlz : (z.B.set K odd).length ≤ 4096 := by rw [List.length_set]; exact hl
  have nz : InS W1 ⟨z.B.set K odd, z.many, z.gone⟩ (some ⟨g, 0, none⟩) c := RowB.inS nR2 hlz
  rw [show stoA z (some ⟨g, 0, none⟩) c = stoA ⟨z.B.set K odd, z.many, z.gone⟩ (some ⟨g, 0, none⟩) c by rw [stoA, stoA, List.length_set]] at iZ2
  clear iZ nR iO hT nR2
  go_wp2
  exact ⟨rfl, rfl, ex_frame12 [120, 121, 122, 123, 124, 125, 126, 127, 128, 129, 130, 131, 132, 133, 134, 135, 136, 137, 138, 139, 140, 141, 142, 143, 144, 145, 146, 147, 148, 149, 150, 151, 152, 153, 154, 155, 156, 157, 158, 159] (by kernel_rfl) ⟨⟨⟨z.B.set K odd, z.many, z.gone⟩, _, _, hlz, iZ2, nz, hB2⟩⟩⟩


set_option maxRecDepth 100000 in
set_option maxHeartbeats 16000000 in
theorem tells_way12_1 (n : Int) (DO DZ g c K B0 : Nat) (z : Sto12) (odd : Bkt12) (W0 : World) (hK : K < z.B.length) (hl : z.B.length ≤ 4096) (hm : -1000000 ≤ z.many ∧ z.many ≤ 1000000) (hgB : B0 ≤ g) (hgZ : DZ ≠ g) (hZB : B0 ≤ DZ) (iO : Is W0 DO 25 (bktA odd)) (iZ : Is W0 DZ 31 (stoA z (some ⟨g, 0, none⟩) c)) (nR : RowB W0 B0 (some ⟨g, 0, none⟩) c z.B) (x0 x2 x3 x4 x5 x6 x7 x8 x9 x10 x11 x13 x14 x15 x16 x17 x18 x19 x20 x21 x22 x23 x24 x27 x28 x29 x30 x31 x32 x33 x34 x35 x36 x37 x38 x39 x40 x41 x42 x43 x44 x45 x46 x47 x48 x49 x50 x51 x52 x53 x54 x55 x56 x57 x58 x59 x60 x61 x62 x63 x64 x65 x66 x67 x68 x69 x70 x71 x72 x73 x74 x75 x76 x77 x78 x79 x80 x81 x82 x83 x84 x85 x86 x87 x88 x89 x90 x91 x92 x93 x94 x95 x96 x97 x98 x99 x100 x101 x102 x103 x104 x105 x106 x107 x108 x109 x110 x111 x112 x113 x114 x115 x116 x117 x118 x120 x121 x122 x123 x124 x125 x126 x127 x128 x129 x130 x131 x132 x133 x134 x135 x136 x137 x138 x139 x140 x141 x142 x143 x144 x145 x146 x147 x148 x149 x150 x151 x152 x153 x154 x155 x156 x157 x158 x159 x160 x161 x162 x163 x164 x165 x166 x167 x168 x169 x170 x171 x172 x173 x174 x175 x176 x177 x178 x179 x180 x181 x182 x183 x184 x185 x186 x187 x188 x189 x190 x191 x192 x193 x194 x195 x196 x197 x198 x199 x200 x201 x202 x203 x204 x205 x206 x207 x208 x209 x210 x211 x212 x213 x214 x215 x216 x217 x218 x219 x220 x221 x222 x223 x224 x225 x226 x227 x228 x229 x230 x231 x232 x233 x234 x235 x236 x237 x238 x239 x240 x241 x242 x243 x244 x245 x246 x247 x248 x249 x250 x251 x252 x253 x254 x255 x256 x257 x258 x259 x260 x261 x262 x263 x264 x265 x266 x267 x268 x269 x270 x271 x272 x273 x274 x275 x276 x277 : Value) :
    ∀ c : Code, (Try.f3.body.bind (blk12 2)) = some c → c.wp Try.prog (fun ex YY W => Ends12 (fun y => #[x0, .int .i64 n, x2, x3, x4, x5, x6, x7, x8, x9, x10, x11, .pointer (some ⟨DO, 0, none⟩), x13, x14, x15, x16, x17, x18, x19, x20, x21, x22, x23, x24, .pointer (some ⟨DZ, 0, none⟩), .int .i64 (K : Int), x27, x28, x29, x30, x31, x32, x33, x34, x35, x36, x37, x38, x39, x40, x41, x42, x43, x44, x45, x46, x47, x48, x49, x50, x51, x52, x53, x54, x55, x56, x57, x58, x59, x60, x61, x62, x63, x64, x65, x66, x67, x68, x69, x70, x71, x72, x73, x74, x75, x76, x77, x78, x79, x80, x81, x82, x83, x84, x85, x86, x87, x88, x89, x90, x91, x92, x93, x94, x95, x96, x97, x98, x99, x100, x101, x102, x103, x104, x105, x106, x107, x108, x109, x110, x111, x112, x113, x114, x115, x116, x117, x118, .int .i64 1, (y 0), (y 1), (y 2), (y 3), (y 4), (y 5), (y 6), (y 7), (y 8), (y 9), (y 10), (y 11), (y 12), (y 13), (y 14), (y 15), (y 16), (y 17), (y 18), (y 19), (y 20), (y 21), (y 22), (y 23), (y 24), (y 25), (y 26), (y 27), (y 28), (y 29), (y 30), (y 31), (y 32), (y 33), (y 34), (y 35), (y 36), (y 37), (y 38), (y 39), x160, x161, x162, x163, x164, x165, x166, x167, x168, x169, x170, x171, x172, x173, x174, x175, x176, x177, x178, x179, x180, x181, x182, x183, x184, x185, x186, x187, x188, x189, x190, x191, x192, x193, x194, x195, x196, x197, x198, x199, x200, x201, x202, x203, x204, x205, x206, x207, x208, x209, x210, x211, x212, x213, x214, x215, x216, x217, x218, x219, x220, x221, x222, x223, x224, x225, x226, x227, x228, x229, x230, x231, x232, x233, x234, x235, x236, x237, x238, x239, x240, x241, x242, x243, x244, x245, x246, x247, x248, x249, x250, x251, x252, x253, x254, x255, x256, x257, x258, x259, x260, x261, x262, x263, x264, x265, x266, x267, x268, x269, x270, x271, x272, x273, x274, x275, x276, x277]) ex YY (Zst12 B0 W0 W DZ)) { tmps := #[x0, .int .i64 n, x2, x3, x4, x5, x6, x7, x8, x9, x10, x11, .pointer (some ⟨DO, 0, none⟩), x13, x14, x15, x16, x17, x18, x19, x20, x21, x22, x23, x24, .pointer (some ⟨DZ, 0, none⟩), .int .i64 (K : Int), x27, x28, x29, x30, x31, x32, x33, x34, x35, x36, x37, x38, x39, x40, x41, x42, x43, x44, x45, x46, x47, x48, x49, x50, x51, x52, x53, x54, x55, x56, x57, x58, x59, x60, x61, x62, x63, x64, x65, x66, x67, x68, x69, x70, x71, x72, x73, x74, x75, x76, x77, x78, x79, x80, x81, x82, x83, x84, x85, x86, x87, x88, x89, x90, x91, x92, x93, x94, x95, x96, x97, x98, x99, x100, x101, x102, x103, x104, x105, x106, x107, x108, x109, x110, x111, x112, x113, x114, x115, x116, x117, x118, .int .i64 1, x120, x121, x122, x123, x124, x125, x126, x127, x128, x129, x130, x131, x132, x133, x134, x135, x136, x137, x138, x139, x140, x141, x142, x143, x144, x145, x146, x147, x148, x149, x150, x151, x152, x153, x154, x155, x156, x157, x158, x159, x160, x161, x162, x163, x164, x165, x166, x167, x168, x169, x170, x171, x172, x173, x174, x175, x176, x177, x178, x179, x180, x181, x182, x183, x184, x185, x186, x187, x188, x189, x190, x191, x192, x193, x194, x195, x196, x197, x198, x199, x200, x201, x202, x203, x204, x205, x206, x207, x208, x209, x210, x211, x212, x213, x214, x215, x216, x217, x218, x219, x220, x221, x222, x223, x224, x225, x226, x227, x228, x229, x230, x231, x232, x233, x234, x235, x236, x237, x238, x239, x240, x241, x242, x243, x244, x245, x246, x247, x248, x249, x250, x251, x252, x253, x254, x255, x256, x257, x258, x259, x260, x261, x262, x263, x264, x265, x266, x267, x268, x269, x270, x271, x272, x273, x274, x275, x276, x277], defers := [] } W0 := by
  refine of_blk12 rfl ?_
  dsimp only
  have w1i := IntWalk.i64_in (z.many + 1) (by omega)
  go_upto_region 22 with (fail)
  refine wp_region_list (tl12_22 W0 DZ g c z iZ hm _ _ _ _ _ _ _ _ _ _ _ _ _ _ _ _ _ _ _ _ _ _ _ _ _ _ _ _ _ _ _ _ _ _ _ _ _ _ _ _ _ _ _ _ _ _ _ _ _ _ _ _ _ _ _ _ _ _ _ _ _ _ _ _ _ _ _ _ _ _ _ _ _ _ _ _ _ _ _ _ _ _ _ _ _ _ _ _ _ _ _ _ _ _ _ _ _ _ _ _ _ _ _ _ _ _ _ _ _ _ _ _ _ _ _ _ _ _ _ _ _ _ _ _ _ _ _ _ _ _ _ _ _ _ _ _ _ _ _ _ _ _ _ _ _ _ _ _ _ _ _ _ _ _ _ _ _ _ _ _ _ _ _ _ _ _ _ _ _ _ _ _ _ _ _ _ _ _ _ _ _ _ _ _ _ _ _ _ _ _ _ _ _ _ _ _ _ _ _ _ _ _ _ _ _ _ _ _ _ _ _ _ _ _ _ _ _ _ _ _ _ _ _ _ _ _ _ _ _ _ _ _ _ _ _ _ _ _ _ _ _ _ _ _ _ _ _ _ _ _ _ _ _ _ _ _ _ _ _ _ _ _ _ _ _ _ _ _ _ _ _ _ _ _ _ _ _ _ ?_)
  have hB2 := (Below.refl B0 W0).setCell (p := ⟨DZ, 1, none⟩) hZB (.int .i64 (z.many + 1))
  have iZ2 := iZ.set 1 (.int .i64 (z.many + 1))
  have nR2 := RowV.far nR (p := ⟨DZ, 1, none⟩) iZ (by decide) (.int .i64 (z.many + 1))
  generalize W0.setCell ⟨DZ, 1, none⟩ (.int .i64 (z.many + 1)) = W1 at *
  have hlz : (Sto12.B ⟨z.B, z.many + 1, z.gone⟩).length ≤ 4096 := by exact hl
  have nz : InS W1 ⟨z.B, z.many + 1, z.gone⟩ (some ⟨g, 0, none⟩) c := RowB.inS (s := ⟨z.B, z.many + 1, z.gone⟩) nR2 hlz
  have iZ3 : Is W1 DZ 31 (stoA ⟨z.B, z.many + 1, z.gone⟩ (some ⟨g, 0, none⟩) c) := by exact iZ2
  clear iZ nR iO nR2 iZ2
  go_wp2
  exact ⟨rfl, rfl, ex_frame12 [120, 121, 122, 123, 124, 125, 126, 127, 128, 129, 130, 131, 132, 133, 134, 135, 136, 137, 138, 139, 140, 141, 142, 143, 144, 145, 146, 147, 148, 149, 150, 151, 152, 153, 154, 155, 156, 157, 158, 159] (by kernel_rfl) ⟨⟨⟨z.B, z.many + 1, z.gone⟩, _, _, hlz, iZ3, nz, hB2⟩⟩⟩


set_option maxRecDepth 100000 in
set_option maxHeartbeats 16000000 in
theorem tells_way12_2 (n : Int) (DO DZ g c K B0 : Nat) (z : Sto12) (odd : Bkt12) (W0 : World) (hK : K < z.B.length) (hl : z.B.length ≤ 4096) (hm : -1000000 ≤ z.many ∧ z.many ≤ 1000000) (hgB : B0 ≤ g) (hgZ : DZ ≠ g) (hZB : B0 ≤ DZ) (iO : Is W0 DO 25 (bktA odd)) (iZ : Is W0 DZ 31 (stoA z (some ⟨g, 0, none⟩) c)) (nR : RowB W0 B0 (some ⟨g, 0, none⟩) c z.B) (x0 x2 x3 x4 x5 x6 x7 x8 x9 x10 x11 x13 x14 x15 x16 x17 x18 x19 x20 x21 x22 x23 x24 x27 x28 x29 x30 x31 x32 x33 x34 x35 x36 x37 x38 x39 x40 x41 x42 x43 x44 x45 x46 x47 x48 x49 x50 x51 x52 x53 x54 x55 x56 x57 x58 x59 x60 x61 x62 x63 x64 x65 x66 x67 x68 x69 x70 x71 x72 x73 x74 x75 x76 x77 x78 x79 x80 x81 x82 x83 x84 x85 x86 x87 x88 x89 x90 x91 x92 x93 x94 x95 x96 x97 x98 x99 x100 x101 x102 x103 x104 x105 x106 x107 x108 x109 x110 x111 x112 x113 x114 x115 x116 x117 x118 x120 x121 x122 x123 x124 x125 x126 x127 x128 x129 x130 x131 x132 x133 x134 x135 x136 x137 x138 x139 x140 x141 x142 x143 x144 x145 x146 x147 x148 x149 x150 x151 x152 x153 x154 x155 x156 x157 x158 x159 x160 x161 x162 x163 x164 x165 x166 x167 x168 x169 x170 x171 x172 x173 x174 x175 x176 x177 x178 x179 x180 x181 x182 x183 x184 x185 x186 x187 x188 x189 x190 x191 x192 x193 x194 x195 x196 x197 x198 x199 x200 x201 x202 x203 x204 x205 x206 x207 x208 x209 x210 x211 x212 x213 x214 x215 x216 x217 x218 x219 x220 x221 x222 x223 x224 x225 x226 x227 x228 x229 x230 x231 x232 x233 x234 x235 x236 x237 x238 x239 x240 x241 x242 x243 x244 x245 x246 x247 x248 x249 x250 x251 x252 x253 x254 x255 x256 x257 x258 x259 x260 x261 x262 x263 x264 x265 x266 x267 x268 x269 x270 x271 x272 x273 x274 x275 x276 x277 : Value) :
    ∀ c : Code, (Try.f3.body.bind (blk12 2)) = some c → c.wp Try.prog (fun ex YY W => Ends12 (fun y => #[x0, .int .i64 n, x2, x3, x4, x5, x6, x7, x8, x9, x10, x11, .pointer (some ⟨DO, 0, none⟩), x13, x14, x15, x16, x17, x18, x19, x20, x21, x22, x23, x24, .pointer (some ⟨DZ, 0, none⟩), .int .i64 (K : Int), x27, x28, x29, x30, x31, x32, x33, x34, x35, x36, x37, x38, x39, x40, x41, x42, x43, x44, x45, x46, x47, x48, x49, x50, x51, x52, x53, x54, x55, x56, x57, x58, x59, x60, x61, x62, x63, x64, x65, x66, x67, x68, x69, x70, x71, x72, x73, x74, x75, x76, x77, x78, x79, x80, x81, x82, x83, x84, x85, x86, x87, x88, x89, x90, x91, x92, x93, x94, x95, x96, x97, x98, x99, x100, x101, x102, x103, x104, x105, x106, x107, x108, x109, x110, x111, x112, x113, x114, x115, x116, x117, x118, .int .i64 2, (y 0), (y 1), (y 2), (y 3), (y 4), (y 5), (y 6), (y 7), (y 8), (y 9), (y 10), (y 11), (y 12), (y 13), (y 14), (y 15), (y 16), (y 17), (y 18), (y 19), (y 20), (y 21), (y 22), (y 23), (y 24), (y 25), (y 26), (y 27), (y 28), (y 29), (y 30), (y 31), (y 32), (y 33), (y 34), (y 35), (y 36), (y 37), (y 38), (y 39), x160, x161, x162, x163, x164, x165, x166, x167, x168, x169, x170, x171, x172, x173, x174, x175, x176, x177, x178, x179, x180, x181, x182, x183, x184, x185, x186, x187, x188, x189, x190, x191, x192, x193, x194, x195, x196, x197, x198, x199, x200, x201, x202, x203, x204, x205, x206, x207, x208, x209, x210, x211, x212, x213, x214, x215, x216, x217, x218, x219, x220, x221, x222, x223, x224, x225, x226, x227, x228, x229, x230, x231, x232, x233, x234, x235, x236, x237, x238, x239, x240, x241, x242, x243, x244, x245, x246, x247, x248, x249, x250, x251, x252, x253, x254, x255, x256, x257, x258, x259, x260, x261, x262, x263, x264, x265, x266, x267, x268, x269, x270, x271, x272, x273, x274, x275, x276, x277]) ex YY (Zst12 B0 W0 W DZ)) { tmps := #[x0, .int .i64 n, x2, x3, x4, x5, x6, x7, x8, x9, x10, x11, .pointer (some ⟨DO, 0, none⟩), x13, x14, x15, x16, x17, x18, x19, x20, x21, x22, x23, x24, .pointer (some ⟨DZ, 0, none⟩), .int .i64 (K : Int), x27, x28, x29, x30, x31, x32, x33, x34, x35, x36, x37, x38, x39, x40, x41, x42, x43, x44, x45, x46, x47, x48, x49, x50, x51, x52, x53, x54, x55, x56, x57, x58, x59, x60, x61, x62, x63, x64, x65, x66, x67, x68, x69, x70, x71, x72, x73, x74, x75, x76, x77, x78, x79, x80, x81, x82, x83, x84, x85, x86, x87, x88, x89, x90, x91, x92, x93, x94, x95, x96, x97, x98, x99, x100, x101, x102, x103, x104, x105, x106, x107, x108, x109, x110, x111, x112, x113, x114, x115, x116, x117, x118, .int .i64 2, x120, x121, x122, x123, x124, x125, x126, x127, x128, x129, x130, x131, x132, x133, x134, x135, x136, x137, x138, x139, x140, x141, x142, x143, x144, x145, x146, x147, x148, x149, x150, x151, x152, x153, x154, x155, x156, x157, x158, x159, x160, x161, x162, x163, x164, x165, x166, x167, x168, x169, x170, x171, x172, x173, x174, x175, x176, x177, x178, x179, x180, x181, x182, x183, x184, x185, x186, x187, x188, x189, x190, x191, x192, x193, x194, x195, x196, x197, x198, x199, x200, x201, x202, x203, x204, x205, x206, x207, x208, x209, x210, x211, x212, x213, x214, x215, x216, x217, x218, x219, x220, x221, x222, x223, x224, x225, x226, x227, x228, x229, x230, x231, x232, x233, x234, x235, x236, x237, x238, x239, x240, x241, x242, x243, x244, x245, x246, x247, x248, x249, x250, x251, x252, x253, x254, x255, x256, x257, x258, x259, x260, x261, x262, x263, x264, x265, x266, x267, x268, x269, x270, x271, x272, x273, x274, x275, x276, x277], defers := [] } W0 := by
  refine of_blk12 rfl ?_
  dsimp only
  have w1i := IntWalk.i64_in (z.many + 1) (by omega)
  go_upto_region 24 with (fail)
  refine wp_region_list (tl12_24 W0 DZ g c z iZ n _ _ _ _ _ _ _ _ _ _ _ _ _ _ _ _ _ _ _ _ _ _ _ _ _ _ _ _ _ _ _ _ _ _ _ _ _ _ _ _ _ _ _ _ _ _ _ _ _ _ _ _ _ _ _ _ _ _ _ _ _ _ _ _ _ _ _ _ _ _ _ _ _ _ _ _ _ _ _ _ _ _ _ _ _ _ _ _ _ _ _ _ _ _ _ _ _ _ _ _ _ _ _ _ _ _ _ _ _ _ _ _ _ _ _ _ _ _ _ _ _ _ _ _ _ _ _ _ _ _ _ _ _ _ _ _ _ _ _ _ _ _ _ _ _ _ _ _ _ _ _ _ _ _ _ _ _ _ _ _ _ _ _ _ _ _ _ _ _ _ _ _ _ _ _ _ _ _ _ _ _ _ _ _ _ _ _ _ _ _ _ _ _ _ _ _ _ _ _ _ _ _ _ _ _ _ _ _ _ _ _ _ _ _ _ _ _ _ _ _ _ _ _ _ _ _ _ _ _ _ _ _ _ _ _ _ _ _ _ _ _ _ _ _ _ _ _ _ _ _ _ _ _ _ _ _ _ _ _ _ _ _ _ _ _ _ _ _ _ _ _ _ _ _ _ _ _ ?_)
  have hB2 := (Below.refl B0 W0).setCell (p := ⟨DZ, 2, none⟩) hZB (.int .i64 n)
  have iZ2 := iZ.set 2 (.int .i64 n)
  have nR2 := RowV.far nR (p := ⟨DZ, 2, none⟩) iZ (by decide) (.int .i64 n)
  generalize W0.setCell ⟨DZ, 2, none⟩ (.int .i64 n) = W1 at *
  have hlz : (Sto12.B ⟨z.B, z.many, n⟩).length ≤ 4096 := by exact hl
  have nz : InS W1 ⟨z.B, z.many, n⟩ (some ⟨g, 0, none⟩) c := RowB.inS (s := ⟨z.B, z.many, n⟩) nR2 hlz
  have iZ3 : Is W1 DZ 31 (stoA ⟨z.B, z.many, n⟩ (some ⟨g, 0, none⟩) c) := by exact iZ2
  clear iZ nR iO nR2 iZ2
  go_wp2
  exact ⟨rfl, rfl, ex_frame12 [120, 121, 122, 123, 124, 125, 126, 127, 128, 129, 130, 131, 132, 133, 134, 135, 136, 137, 138, 139, 140, 141, 142, 143, 144, 145, 146, 147, 148, 149, 150, 151, 152, 153, 154, 155, 156, 157, 158, 159] (by kernel_rfl) ⟨⟨⟨z.B, z.many, n⟩, _, _, hlz, iZ3, nz, hB2⟩⟩⟩


set_option maxRecDepth 100000 in
set_option maxHeartbeats 16000000 in
theorem tells_way12_3 (n : Int) (DO DZ g c K B0 : Nat) (z : Sto12) (odd : Bkt12) (W0 : World) (hK : K < z.B.length) (hl : z.B.length ≤ 4096) (hm : -1000000 ≤ z.many ∧ z.many ≤ 1000000) (hgB : B0 ≤ g) (hgZ : DZ ≠ g) (hZB : B0 ≤ DZ) (iO : Is W0 DO 25 (bktA odd)) (iZ : Is W0 DZ 31 (stoA z (some ⟨g, 0, none⟩) c)) (nR : RowB W0 B0 (some ⟨g, 0, none⟩) c z.B) (x0 x2 x3 x4 x5 x6 x7 x8 x9 x10 x11 x13 x14 x15 x16 x17 x18 x19 x20 x21 x22 x23 x24 x27 x28 x29 x30 x31 x32 x33 x34 x35 x36 x37 x38 x39 x40 x41 x42 x43 x44 x45 x46 x47 x48 x49 x50 x51 x52 x53 x54 x55 x56 x57 x58 x59 x60 x61 x62 x63 x64 x65 x66 x67 x68 x69 x70 x71 x72 x73 x74 x75 x76 x77 x78 x79 x80 x81 x82 x83 x84 x85 x86 x87 x88 x89 x90 x91 x92 x93 x94 x95 x96 x97 x98 x99 x100 x101 x102 x103 x104 x105 x106 x107 x108 x109 x110 x111 x112 x113 x114 x115 x116 x117 x118 x120 x121 x122 x123 x124 x125 x126 x127 x128 x129 x130 x131 x132 x133 x134 x135 x136 x137 x138 x139 x140 x141 x142 x143 x144 x145 x146 x147 x148 x149 x150 x151 x152 x153 x154 x155 x156 x157 x158 x159 x160 x161 x162 x163 x164 x165 x166 x167 x168 x169 x170 x171 x172 x173 x174 x175 x176 x177 x178 x179 x180 x181 x182 x183 x184 x185 x186 x187 x188 x189 x190 x191 x192 x193 x194 x195 x196 x197 x198 x199 x200 x201 x202 x203 x204 x205 x206 x207 x208 x209 x210 x211 x212 x213 x214 x215 x216 x217 x218 x219 x220 x221 x222 x223 x224 x225 x226 x227 x228 x229 x230 x231 x232 x233 x234 x235 x236 x237 x238 x239 x240 x241 x242 x243 x244 x245 x246 x247 x248 x249 x250 x251 x252 x253 x254 x255 x256 x257 x258 x259 x260 x261 x262 x263 x264 x265 x266 x267 x268 x269 x270 x271 x272 x273 x274 x275 x276 x277 : Value) :
    ∀ c : Code, (Try.f3.body.bind (blk12 2)) = some c → c.wp Try.prog (fun ex YY W => Ends12 (fun y => #[x0, .int .i64 n, x2, x3, x4, x5, x6, x7, x8, x9, x10, x11, .pointer (some ⟨DO, 0, none⟩), x13, x14, x15, x16, x17, x18, x19, x20, x21, x22, x23, x24, .pointer (some ⟨DZ, 0, none⟩), .int .i64 (K : Int), x27, x28, x29, x30, x31, x32, x33, x34, x35, x36, x37, x38, x39, x40, x41, x42, x43, x44, x45, x46, x47, x48, x49, x50, x51, x52, x53, x54, x55, x56, x57, x58, x59, x60, x61, x62, x63, x64, x65, x66, x67, x68, x69, x70, x71, x72, x73, x74, x75, x76, x77, x78, x79, x80, x81, x82, x83, x84, x85, x86, x87, x88, x89, x90, x91, x92, x93, x94, x95, x96, x97, x98, x99, x100, x101, x102, x103, x104, x105, x106, x107, x108, x109, x110, x111, x112, x113, x114, x115, x116, x117, x118, .int .i64 3, (y 0), (y 1), (y 2), (y 3), (y 4), (y 5), (y 6), (y 7), (y 8), (y 9), (y 10), (y 11), (y 12), (y 13), (y 14), (y 15), (y 16), (y 17), (y 18), (y 19), (y 20), (y 21), (y 22), (y 23), (y 24), (y 25), (y 26), (y 27), (y 28), (y 29), (y 30), (y 31), (y 32), (y 33), (y 34), (y 35), (y 36), (y 37), (y 38), (y 39), x160, x161, x162, x163, x164, x165, x166, x167, x168, x169, x170, x171, x172, x173, x174, x175, x176, x177, x178, x179, x180, x181, x182, x183, x184, x185, x186, x187, x188, x189, x190, x191, x192, x193, x194, x195, x196, x197, x198, x199, x200, x201, x202, x203, x204, x205, x206, x207, x208, x209, x210, x211, x212, x213, x214, x215, x216, x217, x218, x219, x220, x221, x222, x223, x224, x225, x226, x227, x228, x229, x230, x231, x232, x233, x234, x235, x236, x237, x238, x239, x240, x241, x242, x243, x244, x245, x246, x247, x248, x249, x250, x251, x252, x253, x254, x255, x256, x257, x258, x259, x260, x261, x262, x263, x264, x265, x266, x267, x268, x269, x270, x271, x272, x273, x274, x275, x276, x277]) ex YY (Zst12 B0 W0 W DZ)) { tmps := #[x0, .int .i64 n, x2, x3, x4, x5, x6, x7, x8, x9, x10, x11, .pointer (some ⟨DO, 0, none⟩), x13, x14, x15, x16, x17, x18, x19, x20, x21, x22, x23, x24, .pointer (some ⟨DZ, 0, none⟩), .int .i64 (K : Int), x27, x28, x29, x30, x31, x32, x33, x34, x35, x36, x37, x38, x39, x40, x41, x42, x43, x44, x45, x46, x47, x48, x49, x50, x51, x52, x53, x54, x55, x56, x57, x58, x59, x60, x61, x62, x63, x64, x65, x66, x67, x68, x69, x70, x71, x72, x73, x74, x75, x76, x77, x78, x79, x80, x81, x82, x83, x84, x85, x86, x87, x88, x89, x90, x91, x92, x93, x94, x95, x96, x97, x98, x99, x100, x101, x102, x103, x104, x105, x106, x107, x108, x109, x110, x111, x112, x113, x114, x115, x116, x117, x118, .int .i64 3, x120, x121, x122, x123, x124, x125, x126, x127, x128, x129, x130, x131, x132, x133, x134, x135, x136, x137, x138, x139, x140, x141, x142, x143, x144, x145, x146, x147, x148, x149, x150, x151, x152, x153, x154, x155, x156, x157, x158, x159, x160, x161, x162, x163, x164, x165, x166, x167, x168, x169, x170, x171, x172, x173, x174, x175, x176, x177, x178, x179, x180, x181, x182, x183, x184, x185, x186, x187, x188, x189, x190, x191, x192, x193, x194, x195, x196, x197, x198, x199, x200, x201, x202, x203, x204, x205, x206, x207, x208, x209, x210, x211, x212, x213, x214, x215, x216, x217, x218, x219, x220, x221, x222, x223, x224, x225, x226, x227, x228, x229, x230, x231, x232, x233, x234, x235, x236, x237, x238, x239, x240, x241, x242, x243, x244, x245, x246, x247, x248, x249, x250, x251, x252, x253, x254, x255, x256, x257, x258, x259, x260, x261, x262, x263, x264, x265, x266, x267, x268, x269, x270, x271, x272, x273, x274, x275, x276, x277], defers := [] } W0 := by
  refine of_blk12 rfl ?_
  dsimp only
  have h0 : 0 < z.B.length := by omega
  obtain ⟨y0, hy0⟩ : ∃ y, z.B[0]? = some y := ⟨_, List.getElem?_eq_getElem h0⟩
  obtain ⟨yK, hyK⟩ : ∃ y, z.B[K]? = some y := ⟨_, List.getElem?_eq_getElem hK⟩
  go_upto_region 26 with (fail)
  refine Code.wp_mono ?_ (tl12_26 W0 B0 DZ g c K z y0 yK iZ nR hgB hgZ h0 hK hy0 hyK _ _ _ _ _ _ _ _ _ _ _ _ _ _ _ _ _ _ _ _ _ _ _ _ _ _ _ _ _ _ _ _ _ _ _ _ _ _ _ _ _ _ _ _ _ _ _ _ _ _ _ _ _ _ _ _ _ _ _ _ _ _ _ _ _ _ _ _ _ _ _ _ _ _ _ _ _ _ _ _ _ _ _ _ _ _ _ _ _ _ _ _ _ _ _ _ _ _ _ _ _ _ _ _ _ _ _ _ _ _ _ _ _ _ _ _ _ _ _ _ _ _ _ _ _ _ _ _ _ _ _ _ _ _ _ _ _ _ _ _ _ _ _ _ _ _ _ _ _ _ _ _ _ _ _ _ _ _ _ _ _ _ _ _ _ _ _ _ _ _ _ _ _ _ _ _ _ _ _ _ _ _ _ _ _ _ _ _ _ _ _ _ _ _ _ _ _ _ _ _ _ _ _ _ _ _ _ _ _ _ _ _ _ _ _ _ _ _ _ _ _ _ _ _ _ _ _ _ _ _ _ _ _ _ _ _ _ _ _ _ _ _ _ _ _ _ _ _ _ _ _ _ _ _ _ _ _ _ _ _ _ _ _ _ _ _ _ _ _ _ _ _ _ _ _ _)
  rintro ex ⟨T, Df⟩ W1 ⟨rfl, hDf, _, hT, hB2, iZ2, nR2⟩
  simp only at hT hDf
  subst hT
  subst hDf
  have hlz : (Sto12.B ⟨(z.B.set K y0).set 0 yK, z.many, z.gone⟩).length ≤ 4096 := by show ((z.B.set K y0).set 0 yK).length ≤ 4096; rw [List.length_set, List.length_set]; exact hl
  have nz : InS W1 ⟨(z.B.set K y0).set 0 yK, z.many, z.gone⟩ (some ⟨g, 0, none⟩) c := RowB.inS (s := ⟨(z.B.set K y0).set 0 yK, z.many, z.gone⟩) nR2 hlz
  rw [show stoA z (some ⟨g, 0, none⟩) c = stoA ⟨(z.B.set K y0).set 0 yK, z.many, z.gone⟩ (some ⟨g, 0, none⟩) c by rw [stoA, stoA]; show _ = #[Value.slice _ ((z.B.set K y0).set 0 yK).length c, _, _]; rw [List.length_set, List.length_set]] at iZ2
  clear iZ nR iO nR2
  go_wp2
  exact ⟨rfl, rfl, ex_frame12 [120, 121, 122, 123, 124, 125, 126, 127, 128, 129, 130, 131, 132, 133, 134, 135, 136, 137, 138, 139, 140, 141, 142, 143, 144, 145, 146, 147, 148, 149, 150, 151, 152, 153, 154, 155, 156, 157, 158, 159] (by kernel_rfl) ⟨⟨⟨(z.B.set K y0).set 0 yK, z.many, z.gone⟩, _, _, hlz, iZ2, nz, hB2⟩⟩⟩


set_option maxRecDepth 100000 in
set_option maxHeartbeats 16000000 in
theorem tells_way12_4 (n : Int) (DO DZ g c K B0 : Nat) (z : Sto12) (odd : Bkt12) (W0 : World) (hK : K < z.B.length) (hl : z.B.length ≤ 4096) (hm : -1000000 ≤ z.many ∧ z.many ≤ 1000000) (hgB : B0 ≤ g) (hgZ : DZ ≠ g) (hZB : B0 ≤ DZ) (iO : Is W0 DO 25 (bktA odd)) (iZ : Is W0 DZ 31 (stoA z (some ⟨g, 0, none⟩) c)) (nR : RowB W0 B0 (some ⟨g, 0, none⟩) c z.B) (x0 x2 x3 x4 x5 x6 x7 x8 x9 x10 x11 x13 x14 x15 x16 x17 x18 x19 x20 x21 x22 x23 x24 x27 x28 x29 x30 x31 x32 x33 x34 x35 x36 x37 x38 x39 x40 x41 x42 x43 x44 x45 x46 x47 x48 x49 x50 x51 x52 x53 x54 x55 x56 x57 x58 x59 x60 x61 x62 x63 x64 x65 x66 x67 x68 x69 x70 x71 x72 x73 x74 x75 x76 x77 x78 x79 x80 x81 x82 x83 x84 x85 x86 x87 x88 x89 x90 x91 x92 x93 x94 x95 x96 x97 x98 x99 x100 x101 x102 x103 x104 x105 x106 x107 x108 x109 x110 x111 x112 x113 x114 x115 x116 x117 x118 x120 x121 x122 x123 x124 x125 x126 x127 x128 x129 x130 x131 x132 x133 x134 x135 x136 x137 x138 x139 x140 x141 x142 x143 x144 x145 x146 x147 x148 x149 x150 x151 x152 x153 x154 x155 x156 x157 x158 x159 x160 x161 x162 x163 x164 x165 x166 x167 x168 x169 x170 x171 x172 x173 x174 x175 x176 x177 x178 x179 x180 x181 x182 x183 x184 x185 x186 x187 x188 x189 x190 x191 x192 x193 x194 x195 x196 x197 x198 x199 x200 x201 x202 x203 x204 x205 x206 x207 x208 x209 x210 x211 x212 x213 x214 x215 x216 x217 x218 x219 x220 x221 x222 x223 x224 x225 x226 x227 x228 x229 x230 x231 x232 x233 x234 x235 x236 x237 x238 x239 x240 x241 x242 x243 x244 x245 x246 x247 x248 x249 x250 x251 x252 x253 x254 x255 x256 x257 x258 x259 x260 x261 x262 x263 x264 x265 x266 x267 x268 x269 x270 x271 x272 x273 x274 x275 x276 x277 : Value) :
    ∀ c : Code, (Try.f3.body.bind (blk12 2)) = some c → c.wp Try.prog (fun ex YY W => Ends12 (fun y => #[x0, .int .i64 n, x2, x3, x4, x5, x6, x7, x8, x9, x10, x11, .pointer (some ⟨DO, 0, none⟩), x13, x14, x15, x16, x17, x18, x19, x20, x21, x22, x23, x24, .pointer (some ⟨DZ, 0, none⟩), .int .i64 (K : Int), x27, x28, x29, x30, x31, x32, x33, x34, x35, x36, x37, x38, x39, x40, x41, x42, x43, x44, x45, x46, x47, x48, x49, x50, x51, x52, x53, x54, x55, x56, x57, x58, x59, x60, x61, x62, x63, x64, x65, x66, x67, x68, x69, x70, x71, x72, x73, x74, x75, x76, x77, x78, x79, x80, x81, x82, x83, x84, x85, x86, x87, x88, x89, x90, x91, x92, x93, x94, x95, x96, x97, x98, x99, x100, x101, x102, x103, x104, x105, x106, x107, x108, x109, x110, x111, x112, x113, x114, x115, x116, x117, x118, .int .i64 4, (y 0), (y 1), (y 2), (y 3), (y 4), (y 5), (y 6), (y 7), (y 8), (y 9), (y 10), (y 11), (y 12), (y 13), (y 14), (y 15), (y 16), (y 17), (y 18), (y 19), (y 20), (y 21), (y 22), (y 23), (y 24), (y 25), (y 26), (y 27), (y 28), (y 29), (y 30), (y 31), (y 32), (y 33), (y 34), (y 35), (y 36), (y 37), (y 38), (y 39), x160, x161, x162, x163, x164, x165, x166, x167, x168, x169, x170, x171, x172, x173, x174, x175, x176, x177, x178, x179, x180, x181, x182, x183, x184, x185, x186, x187, x188, x189, x190, x191, x192, x193, x194, x195, x196, x197, x198, x199, x200, x201, x202, x203, x204, x205, x206, x207, x208, x209, x210, x211, x212, x213, x214, x215, x216, x217, x218, x219, x220, x221, x222, x223, x224, x225, x226, x227, x228, x229, x230, x231, x232, x233, x234, x235, x236, x237, x238, x239, x240, x241, x242, x243, x244, x245, x246, x247, x248, x249, x250, x251, x252, x253, x254, x255, x256, x257, x258, x259, x260, x261, x262, x263, x264, x265, x266, x267, x268, x269, x270, x271, x272, x273, x274, x275, x276, x277]) ex YY (Zst12 B0 W0 W DZ)) { tmps := #[x0, .int .i64 n, x2, x3, x4, x5, x6, x7, x8, x9, x10, x11, .pointer (some ⟨DO, 0, none⟩), x13, x14, x15, x16, x17, x18, x19, x20, x21, x22, x23, x24, .pointer (some ⟨DZ, 0, none⟩), .int .i64 (K : Int), x27, x28, x29, x30, x31, x32, x33, x34, x35, x36, x37, x38, x39, x40, x41, x42, x43, x44, x45, x46, x47, x48, x49, x50, x51, x52, x53, x54, x55, x56, x57, x58, x59, x60, x61, x62, x63, x64, x65, x66, x67, x68, x69, x70, x71, x72, x73, x74, x75, x76, x77, x78, x79, x80, x81, x82, x83, x84, x85, x86, x87, x88, x89, x90, x91, x92, x93, x94, x95, x96, x97, x98, x99, x100, x101, x102, x103, x104, x105, x106, x107, x108, x109, x110, x111, x112, x113, x114, x115, x116, x117, x118, .int .i64 4, x120, x121, x122, x123, x124, x125, x126, x127, x128, x129, x130, x131, x132, x133, x134, x135, x136, x137, x138, x139, x140, x141, x142, x143, x144, x145, x146, x147, x148, x149, x150, x151, x152, x153, x154, x155, x156, x157, x158, x159, x160, x161, x162, x163, x164, x165, x166, x167, x168, x169, x170, x171, x172, x173, x174, x175, x176, x177, x178, x179, x180, x181, x182, x183, x184, x185, x186, x187, x188, x189, x190, x191, x192, x193, x194, x195, x196, x197, x198, x199, x200, x201, x202, x203, x204, x205, x206, x207, x208, x209, x210, x211, x212, x213, x214, x215, x216, x217, x218, x219, x220, x221, x222, x223, x224, x225, x226, x227, x228, x229, x230, x231, x232, x233, x234, x235, x236, x237, x238, x239, x240, x241, x242, x243, x244, x245, x246, x247, x248, x249, x250, x251, x252, x253, x254, x255, x256, x257, x258, x259, x260, x261, x262, x263, x264, x265, x266, x267, x268, x269, x270, x271, x272, x273, x274, x275, x276, x277], defers := [] } W0 := by
  refine of_blk12 rfl ?_
  dsimp only
  have w1i := IntWalk.i64_in (z.many + 1) (by omega)
  go_upto_region 18 with (fail)
  refine wp_region_list (tl12_18 W0 DZ g c K z iZ hK nR.nil12.2 _ _ _ _ _ _ _ _ _ _ _ _ _ _ _ _ _ _ _ _ _ _ _ _ _ _ _ _ _ _ _ _ _ _ _ _ _ _ _ _ _ _ _ _ _ _ _ _ _ _ _ _ _ _ _ _ _ _ _ _ _ _ _ _ _ _ _ _ _ _ _ _ _ _ _ _ _ _ _ _ _ _ _ _ _ _ _ _ _ _ _ _ _ _ _ _ _ _ _ _ _ _ _ _ _ _ _ _ _ _ _ _ _ _ _ _ _ _ _ _ _ _ _ _ _ _ _ _ _ _ _ _ _ _ _ _ _ _ _ _ _ _ _ _ _ _ _ _ _ _ _ _ _ _ _ _ _ _ _ _ _ _ _ _ _ _ _ _ _ _ _ _ _ _ _ _ _ _ _ _ _ _ _ _ _ _ _ _ _ _ _ _ _ _ _ _ _ _ _ _ _ _ _ _ _ _ _ _ _ _ _ _ _ _ _ _ _ _ _ _ _ _ _ _ _ _ _ _ _ _ _ _ _ _ _ _ _ _ _ _ _ _ _ _ _ _ _ _ _ _ _ _ _ _ _ _ _ _ _ _ _ _ _ _ _ _ _ _ _ _ _ _ _ _ _ _ _ ?_)
  have hB2 := (Below.refl B0 W0).setCell (p := ⟨DZ, 0, none⟩) hZB (.slice (some ⟨g, 0, none⟩) K c)
  have iZ2 := iZ.set 0 (.slice (some ⟨g, 0, none⟩) K c)
  have nR2 := RowV.far nR (p := ⟨DZ, 0, none⟩) iZ (by decide) (.slice (some ⟨g, 0, none⟩) K c)
  generalize W0.setCell ⟨DZ, 0, none⟩ (.slice (some ⟨g, 0, none⟩) K c) = W1 at *
  have hlz : (Sto12.B ⟨z.B.take K, z.many, z.gone⟩).length ≤ 4096 := by show (z.B.take K).length ≤ 4096; rw [List.length_take]; omega
  have nz : InS W1 ⟨z.B.take K, z.many, z.gone⟩ (some ⟨g, 0, none⟩) c := InS.take12 (RowB.inS (s := z) nR2 hl) K
  have iZ3 : Is W1 DZ 31 (stoA ⟨z.B.take K, z.many, z.gone⟩ (some ⟨g, 0, none⟩) c) := by have := iZ2; rw [stoA, show (z.B.take K).length = K by rw [List.length_take]; omega]; exact this
  clear iZ nR iO nR2 iZ2
  go_wp2
  exact ⟨rfl, rfl, ex_frame12 [120, 121, 122, 123, 124, 125, 126, 127, 128, 129, 130, 131, 132, 133, 134, 135, 136, 137, 138, 139, 140, 141, 142, 143, 144, 145, 146, 147, 148, 149, 150, 151, 152, 153, 154, 155, 156, 157, 158, 159] (by kernel_rfl) ⟨⟨⟨z.B.take K, z.many, z.gone⟩, _, _, hlz, iZ3, nz, hB2⟩⟩⟩


set_option maxRecDepth 100000 in
set_option maxHeartbeats 16000000 in
theorem tells_switch12 (n p5 : Int) (hp5 : 0 ≤ p5 ∧ p5 < 5) (DO DZ g c K B0 : Nat) (z : Sto12) (odd : Bkt12) (W0 : World) (hK : K < z.B.length) (hl : z.B.length ≤ 4096) (hm : -1000000 ≤ z.many ∧ z.many ≤ 1000000) (hgB : B0 ≤ g) (hgZ : DZ ≠ g) (hZB : B0 ≤ DZ) (iO : Is W0 DO 25 (bktA odd)) (iZ : Is W0 DZ 31 (stoA z (some ⟨g, 0, none⟩) c)) (nR : RowB W0 B0 (some ⟨g, 0, none⟩) c z.B) (x0 x2 x3 x4 x5 x6 x7 x8 x9 x10 x11 x13 x14 x15 x16 x17 x18 x19 x20 x21 x22 x23 x24 x27 x28 x29 x30 x31 x32 x33 x34 x35 x36 x37 x38 x39 x40 x41 x42 x43 x44 x45 x46 x47 x48 x49 x50 x51 x52 x53 x54 x55 x56 x57 x58 x59 x60 x61 x62 x63 x64 x65 x66 x67 x68 x69 x70 x71 x72 x73 x74 x75 x76 x77 x78 x79 x80 x81 x82 x83 x84 x85 x86 x87 x88 x89 x90 x91 x92 x93 x94 x95 x96 x97 x98 x99 x100 x101 x102 x103 x104 x105 x106 x107 x108 x109 x110 x111 x112 x113 x114 x115 x116 x117 x118 x120 x121 x122 x123 x124 x125 x126 x127 x128 x129 x130 x131 x132 x133 x134 x135 x136 x137 x138 x139 x140 x141 x142 x143 x144 x145 x146 x147 x148 x149 x150 x151 x152 x153 x154 x155 x156 x157 x158 x159 x160 x161 x162 x163 x164 x165 x166 x167 x168 x169 x170 x171 x172 x173 x174 x175 x176 x177 x178 x179 x180 x181 x182 x183 x184 x185 x186 x187 x188 x189 x190 x191 x192 x193 x194 x195 x196 x197 x198 x199 x200 x201 x202 x203 x204 x205 x206 x207 x208 x209 x210 x211 x212 x213 x214 x215 x216 x217 x218 x219 x220 x221 x222 x223 x224 x225 x226 x227 x228 x229 x230 x231 x232 x233 x234 x235 x236 x237 x238 x239 x240 x241 x242 x243 x244 x245 x246 x247 x248 x249 x250 x251 x252 x253 x254 x255 x256 x257 x258 x259 x260 x261 x262 x263 x264 x265 x266 x267 x268 x269 x270 x271 x272 x273 x274 x275 x276 x277 : Value) :
    ∀ c : Code, (Try.f3.body.bind (blk12 2)) = some c → c.wp Try.prog (fun ex YY W => Ends12 (fun y => #[x0, .int .i64 n, x2, x3, x4, x5, x6, x7, x8, x9, x10, x11, .pointer (some ⟨DO, 0, none⟩), x13, x14, x15, x16, x17, x18, x19, x20, x21, x22, x23, x24, .pointer (some ⟨DZ, 0, none⟩), .int .i64 (K : Int), x27, x28, x29, x30, x31, x32, x33, x34, x35, x36, x37, x38, x39, x40, x41, x42, x43, x44, x45, x46, x47, x48, x49, x50, x51, x52, x53, x54, x55, x56, x57, x58, x59, x60, x61, x62, x63, x64, x65, x66, x67, x68, x69, x70, x71, x72, x73, x74, x75, x76, x77, x78, x79, x80, x81, x82, x83, x84, x85, x86, x87, x88, x89, x90, x91, x92, x93, x94, x95, x96, x97, x98, x99, x100, x101, x102, x103, x104, x105, x106, x107, x108, x109, x110, x111, x112, x113, x114, x115, x116, x117, x118, .int .i64 p5, (y 0), (y 1), (y 2), (y 3), (y 4), (y 5), (y 6), (y 7), (y 8), (y 9), (y 10), (y 11), (y 12), (y 13), (y 14), (y 15), (y 16), (y 17), (y 18), (y 19), (y 20), (y 21), (y 22), (y 23), (y 24), (y 25), (y 26), (y 27), (y 28), (y 29), (y 30), (y 31), (y 32), (y 33), (y 34), (y 35), (y 36), (y 37), (y 38), (y 39), x160, x161, x162, x163, x164, x165, x166, x167, x168, x169, x170, x171, x172, x173, x174, x175, x176, x177, x178, x179, x180, x181, x182, x183, x184, x185, x186, x187, x188, x189, x190, x191, x192, x193, x194, x195, x196, x197, x198, x199, x200, x201, x202, x203, x204, x205, x206, x207, x208, x209, x210, x211, x212, x213, x214, x215, x216, x217, x218, x219, x220, x221, x222, x223, x224, x225, x226, x227, x228, x229, x230, x231, x232, x233, x234, x235, x236, x237, x238, x239, x240, x241, x242, x243, x244, x245, x246, x247, x248, x249, x250, x251, x252, x253, x254, x255, x256, x257, x258, x259, x260, x261, x262, x263, x264, x265, x266, x267, x268, x269, x270, x271, x272, x273, x274, x275, x276, x277]) ex YY (Zst12 B0 W0 W DZ)) { tmps := #[x0, .int .i64 n, x2, x3, x4, x5, x6, x7, x8, x9, x10, x11, .pointer (some ⟨DO, 0, none⟩), x13, x14, x15, x16, x17, x18, x19, x20, x21, x22, x23, x24, .pointer (some ⟨DZ, 0, none⟩), .int .i64 (K : Int), x27, x28, x29, x30, x31, x32, x33, x34, x35, x36, x37, x38, x39, x40, x41, x42, x43, x44, x45, x46, x47, x48, x49, x50, x51, x52, x53, x54, x55, x56, x57, x58, x59, x60, x61, x62, x63, x64, x65, x66, x67, x68, x69, x70, x71, x72, x73, x74, x75, x76, x77, x78, x79, x80, x81, x82, x83, x84, x85, x86, x87, x88, x89, x90, x91, x92, x93, x94, x95, x96, x97, x98, x99, x100, x101, x102, x103, x104, x105, x106, x107, x108, x109, x110, x111, x112, x113, x114, x115, x116, x117, x118, .int .i64 p5, x120, x121, x122, x123, x124, x125, x126, x127, x128, x129, x130, x131, x132, x133, x134, x135, x136, x137, x138, x139, x140, x141, x142, x143, x144, x145, x146, x147, x148, x149, x150, x151, x152, x153, x154, x155, x156, x157, x158, x159, x160, x161, x162, x163, x164, x165, x166, x167, x168, x169, x170, x171, x172, x173, x174, x175, x176, x177, x178, x179, x180, x181, x182, x183, x184, x185, x186, x187, x188, x189, x190, x191, x192, x193, x194, x195, x196, x197, x198, x199, x200, x201, x202, x203, x204, x205, x206, x207, x208, x209, x210, x211, x212, x213, x214, x215, x216, x217, x218, x219, x220, x221, x222, x223, x224, x225, x226, x227, x228, x229, x230, x231, x232, x233, x234, x235, x236, x237, x238, x239, x240, x241, x242, x243, x244, x245, x246, x247, x248, x249, x250, x251, x252, x253, x254, x255, x256, x257, x258, x259, x260, x261, x262, x263, x264, x265, x266, x267, x268, x269, x270, x271, x272, x273, x274, x275, x276, x277], defers := [] } W0 := by
  intro co hc
  rcases (show p5 = 0 ∨ p5 = 1 ∨ p5 = 2 ∨ p5 = 3 ∨ p5 = 4 by omega) with rfl | rfl | rfl | rfl | rfl
  · exact tells_way12_0 n DO DZ g c K B0 z odd W0 hK hl hm hgB hgZ hZB iO iZ nR _ _ _ _ _ _ _ _ _ _ _ _ _ _ _ _ _ _ _ _ _ _ _ _ _ _ _ _ _ _ _ _ _ _ _ _ _ _ _ _ _ _ _ _ _ _ _ _ _ _ _ _ _ _ _ _ _ _ _ _ _ _ _ _ _ _ _ _ _ _ _ _ _ _ _ _ _ _ _ _ _ _ _ _ _ _ _ _ _ _ _ _ _ _ _ _ _ _ _ _ _ _ _ _ _ _ _ _ _ _ _ _ _ _ _ _ _ _ _ _ _ _ _ _ _ _ _ _ _ _ _ _ _ _ _ _ _ _ _ _ _ _ _ _ _ _ _ _ _ _ _ _ _ _ _ _ _ _ _ _ _ _ _ _ _ _ _ _ _ _ _ _ _ _ _ _ _ _ _ _ _ _ _ _ _ _ _ _ _ _ _ _ _ _ _ _ _ _ _ _ _ _ _ _ _ _ _ _ _ _ _ _ _ _ _ _ _ _ _ _ _ _ _ _ _ _ _ _ _ _ _ _ _ _ _ _ _ _ _ _ _ _ _ _ _ _ _ _ _ _ _ _ _ _ _ _ _ _ _ _ _ _ _ _ _ _ _ _ _ _ _ _ _ co hc
  · exact tells_way12_1 n DO DZ g c K B0 z odd W0 hK hl hm hgB hgZ hZB iO iZ nR _ _ _ _ _ _ _ _ _ _ _ _ _ _ _ _ _ _ _ _ _ _ _ _ _ _ _ _ _ _ _ _ _ _ _ _ _ _ _ _ _ _ _ _ _ _ _ _ _ _ _ _ _ _ _ _ _ _ _ _ _ _ _ _ _ _ _ _ _ _ _ _ _ _ _ _ _ _ _ _ _ _ _ _ _ _ _ _ _ _ _ _ _ _ _ _ _ _ _ _ _ _ _ _ _ _ _ _ _ _ _ _ _ _ _ _ _ _ _ _ _ _ _ _ _ _ _ _ _ _ _ _ _ _ _ _ _ _ _ _ _ _ _ _ _ _ _ _ _ _ _ _ _ _ _ _ _ _ _ _ _ _ _ _ _ _ _ _ _ _ _ _ _ _ _ _ _ _ _ _ _ _ _ _ _ _ _ _ _ _ _ _ _ _ _ _ _ _ _ _ _ _ _ _ _ _ _ _ _ _ _ _ _ _ _ _ _ _ _ _ _ _ _ _ _ _ _ _ _ _ _ _ _ _ _ _ _ _ _ _ _ _ _ _ _ _ _ _ _ _ _ _ _ _ _ _ _ _ _ _ _ _ _ _ _ _ _ _ _ _ _ _ _ co hc
  · exact tells_way12_2 n DO DZ g c K B0 z odd W0 hK hl hm hgB hgZ hZB iO iZ nR _ _ _ _ _ _ _ _ _ _ _ _ _ _ _ _ _ _ _ _ _ _ _ _ _ _ _ _ _ _ _ _ _ _ _ _ _ _ _ _ _ _ _ _ _ _ _ _ _ _ _ _ _ _ _ _ _ _ _ _ _ _ _ _ _ _ _ _ _ _ _ _ _ _ _ _ _ _ _ _ _ _ _ _ _ _ _ _ _ _ _ _ _ _ _ _ _ _ _ _ _ _ _ _ _ _ _ _ _ _ _ _ _ _ _ _ _ _ _ _ _ _ _ _ _ _ _ _ _ _ _ _ _ _ _ _ _ _ _ _ _ _ _ _ _ _ _ _ _ _ _ _ _ _ _ _ _ _ _ _ _ _ _ _ _ _ _ _ _ _ _ _ _ _ _ _ _ _ _ _ _ _ _ _ _ _ _ _ _ _ _ _ _ _ _ _ _ _ _ _ _ _ _ _ _ _ _ _ _ _ _ _ _ _ _ _ _ _ _ _ _ _ _ _ _ _ _ _ _ _ _ _ _ _ _ _ _ _ _ _ _ _ _ _ _ _ _ _ _ _ _ _ _ _ _ _ _ _ _ _ _ _ _ _ _ _ _ _ _ _ _ _ _ co hc
  · exact tells_way12_3 n DO DZ g c K B0 z odd W0 hK hl hm hgB hgZ hZB iO iZ nR _ _ _ _ _ _ _ _ _ _ _ _ _ _ _ _ _ _ _ _ _ _ _ _ _ _ _ _ _ _ _ _ _ _ _ _ _ _ _ _ _ _ _ _ _ _ _ _ _ _ _ _ _ _ _ _ _ _ _ _ _ _ _ _ _ _ _ _ _ _ _ _ _ _ _ _ _ _ _ _ _ _ _ _ _ _ _ _ _ _ _ _ _ _ _ _ _ _ _ _ _ _ _ _ _ _ _ _ _ _ _ _ _ _ _ _ _ _ _ _ _ _ _ _ _ _ _ _ _ _ _ _ _ _ _ _ _ _ _ _ _ _ _ _ _ _ _ _ _ _ _ _ _ _ _ _ _ _ _ _ _ _ _ _ _ _ _ _ _ _ _ _ _ _ _ _ _ _ _ _ _ _ _ _ _ _ _ _ _ _ _ _ _ _ _ _ _ _ _ _ _ _ _ _ _ _ _ _ _ _ _ _ _ _ _ _ _ _ _ _ _ _ _ _ _ _ _ _ _ _ _ _ _ _ _ _ _ _ _ _ _ _ _ _ _ _ _ _ _ _ _ _ _ _ _ _ _ _ _ _ _ _ _ _ _ _ _ _ _ _ _ _ _ co hc
  · exact tells_way12_4 n DO DZ g c K B0 z odd W0 hK hl hm hgB hgZ hZB iO iZ nR _ _ _ _ _ _ _ _ _ _ _ _ _ _ _ _ _ _ _ _ _ _ _ _ _ _ _ _ _ _ _ _ _ _ _ _ _ _ _ _ _ _ _ _ _ _ _ _ _ _ _ _ _ _ _ _ _ _ _ _ _ _ _ _ _ _ _ _ _ _ _ _ _ _ _ _ _ _ _ _ _ _ _ _ _ _ _ _ _ _ _ _ _ _ _ _ _ _ _ _ _ _ _ _ _ _ _ _ _ _ _ _ _ _ _ _ _ _ _ _ _ _ _ _ _ _ _ _ _ _ _ _ _ _ _ _ _ _ _ _ _ _ _ _ _ _ _ _ _ _ _ _ _ _ _ _ _ _ _ _ _ _ _ _ _ _ _ _ _ _ _ _ _ _ _ _ _ _ _ _ _ _ _ _ _ _ _ _ _ _ _ _ _ _ _ _ _ _ _ _ _ _ _ _ _ _ _ _ _ _ _ _ _ _ _ _ _ _ _ _ _ _ _ _ _ _ _ _ _ _ _ _ _ _ _ _ _ _ _ _ _ _ _ _ _ _ _ _ _ _ _ _ _ _ _ _ _ _ _ _ _ _ _ _ _ _ _ _ _ _ _ _ _ co hc

end Go.Proofs.Ytglcckpkbnppoaa
