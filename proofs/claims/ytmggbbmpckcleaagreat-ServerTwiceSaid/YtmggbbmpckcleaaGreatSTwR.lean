import Derived.Test.YtmggbbmpckcleaaGreatSrdD
import Derived.Test.YtmggbbmpckcleaaGreatWirN
set_option maxRecDepth 100000
set_option maxHeartbeats 16000000
namespace Go.Proofs.YtmggbbmpckcleaaGreat
open Go.RowKit Go.Shelf
structure BoxQ13 (W0 W : World) (DN : Nat) (q : Req11) (B1 : Option Addr) (d1 : Nat) (B2 : Option Addr) (d2 : Nat) : Prop where
 below : Below W0.heap.size W0 W
 ge : W0.heap.size ≤ DN
 req : Is W DN 26 (reqA q.k B1 q.L.length d1 B2 q.C.length d2)
 inL : InV W B1 (tL10 q.L)
 inC : InV W B2 (tL10 q.C)
theorem box_ofQ13 {W0 W : World} {q : Req11} {B1 B2 : Option Addr} {d1 d2 : Nat} (hL : InV W B1 (tL10 q.L)) (hC : InV W B2 (tL10 q.C)) (hb : Below W0.heap.size W0 W) :
  BoxQ13 W0 ((W.alloc (.cells #[.int .i64 0, .slice none 0 0, .slice none 0 0] 26)).setRow W.heap.size (reqA q.k B1 q.L.length d1 B2 q.C.length d2)) W.heap.size q B1 d1 B2 d2 := by
 have hbx : Below W.heap.size W (W.alloc (.cells #[.int .i64 0, .slice none 0 0, .slice none 0 0] 26)) := (Below.refl _ _).alloc (Nat.le_refl _) _
 have z1 := Is.new W 26 #[.int .i64 0, .slice none 0 0, .slice none 0 0]
 exact ⟨belowRow (hb.trans (hbx.mono hb.size)) hb.size _, hb.size, z1.row _, (hL.keep hbx).noT13 z1 rfl (grownRowG _ _ _), (hC.keep hbx).noT13 z1 rfl (grownRowG _ _ _)⟩
theorem eqI_no13 {a b : Int} (h : a ≠ b) (W : World) : (binOp .eql 3 (.int .i64 a) (.int .i64 b)).run Tryz.prog W = .ok (.bool false) W := by rw [eqI10, show (a == b) = false by simpa using h]
theorem neI_yes13 {a b : Int} (h : a ≠ b) (W : World) : (binOp .neq 3 (.int .i64 a) (.int .i64 b)).run Tryz.prog W = .ok (.bool true) W := by rw [neI10, show (a != b) = true by simpa using h]
theorem tw13_2 (W0 : World) (s : Srv13) (x0 : Int) (A0 : Option Addr) (n0 cp0 : Nat) (HS : Hid (∀ W, Below W0.heap.size W0 W → Calls Tryz.prog 10 #[.int .i64 x0, .slice A0 n0 cp0] W fun e w' => ∃ A c, e = .returned (srvV s A c) ∧ InS w' s.S A c ∧ Below W.heap.size W w')) (x2 x3 x4 x5 x6 x7 x8 x9 x10 x11 x12 x13 x14 x15 x16 x17 x18 x19 x20 x21 x22 x23 x24 x25 x26 x27 x28 x29 x30 x31 x32 x33 x34 x35 x36 x37 x38 x39 x40 x41 x42 x43 x44 x45 x46 x47 x48 x49 x50 x51 x52 x53 x54 x55 x56 x57 x58 x59 x60 x61 x62 x63 x64 x65 x66 x67 x68 x69 x70 x71 x72 : Value) (Q : Exit → Act → World → Prop) (hQ : ∀ DN A2 c2 W2, BoxS13 W0 W2 DN s A2 c2 → Q .normal { tmps := #[.int .i64 x0, .slice A0 n0 cp0, x2, x3, x4, x5, x6, x7, .pointer (some ⟨DN, 0, none⟩), x9, x10, x11, x12, x13, x14, .int .i64 x0, .slice A0 n0 cp0, .agg (srvA s A2 c2), x18, x19, x20, x21, x22, x23, x24, x25, x26, x27, x28, x29, x30, x31, x32, x33, x34, x35, x36, x37, x38, x39, x40, x41, x42, x43, x44, x45, x46, x47, x48, x49, x50, x51, x52, x53, x54, x55, x56, x57, x58, x59, x60, x61, x62, x63, x64, x65, x66, x67, x68, x69, x70, x71, x72], defers := [] } W2) :
  wpList Tryz.prog (opsOf Tryz.f4 2) Q (opsOf Tryz.f4 2).toList { tmps := #[.int .i64 x0, .slice A0 n0 cp0, x2, x3, x4, x5, x6, x7, x8, x9, x10, x11, x12, x13, x14, x15, x16, x17, x18, x19, x20, x21, x22, x23, x24, x25, x26, x27, x28, x29, x30, x31, x32, x33, x34, x35, x36, x37, x38, x39, x40, x41, x42, x43, x44, x45, x46, x47, x48, x49, x50, x51, x52, x53, x54, x55, x56, x57, x58, x59, x60, x61, x62, x63, x64, x65, x66, x67, x68, x69, x70, x71, x72], defers := [] } W0 := by
 refine line_start ?_
 refine lineP (i := 0) (v := .int .i64 x0) rfl (by kernel_rfl) ?_
 simp only [Act.put, zz0, zz1, zz2]
 refine lineP (i := 1) (v := .slice A0 n0 cp0) rfl (by kernel_rfl) ?_
 simp only [Act.put, zz0, zz1, zz2]
 refine line_call13 (i := 2) (at_nth rfl) (by kernel_rfl) (fun wy => by kernel_rfl) ((HS.out W0 (Below.refl _ _)).mono ?_)
 rintro e W1 ⟨A2, c2, rfl, hX, hb⟩
 refine ⟨_, rfl, ?_⟩
 simp only [Act.put, zz0, zz1, zz2]
 refine line_step13 (i := 3) (o := { dst := some 8, op := Op.alloc 33, type := 0, pos := "law.go:141", after := #[], guard := none }) (w' := W1.alloc (.cells #[.slice none 0 0, .int .i64 0, .int .i64 0, .int .i64 0] 33)) (v := .pointer (some ⟨W1.heap.size, 0, none⟩)) (by kernel_rfl) (by kernel_rfl) (by go_simp) ?_
 simp only [Act.put, zz0, zz1, zz2]
 refine line_skip13 (i := 4) (o := { dst := none, op := Op.store 33 (Operand.tmp 8) (Operand.tmp 17), type := 0, pos := "law.go:141", after := #[{ on := 3, ground := Ground.data }, { on := 2, ground := Ground.data }, { on := 2, ground := Ground.chain }, { on := 0, ground := Ground.phase }, { on := 1, ground := Ground.phase }, { on := 2, ground := Ground.phase }, { on := 3, ground := Ground.phase }], guard := none }) (w' := (W1.alloc (.cells #[.slice none 0 0, .int .i64 0, .int .i64 0, .int .i64 0] 33)).setRow W1.heap.size (srvA s A2 c2)) (by kernel_rfl) (by kernel_rfl) (run_row10 rfl rfl rfl (Is.new W1 33 #[.slice none 0 0, .int .i64 0, .int .i64 0, .int .i64 0]) infoSrv13 rfl (srvA_one13 _ _ _)) ?_
 try simp only [Act.put]
 exact line_done (by decide +kernel) (hQ _ _ _ _ (box_ofS13 hX hb))
theorem tw13_3 (W0 : World) (q : Req11) (A0 : Option Addr) (n0 cp0 : Nat) (HR : Hid (∀ W, Below W0.heap.size W0 W → Calls Tryz.prog 14 #[.slice A0 n0 cp0] W fun r w' => ReqPost11 q W r w')) (x0 x1 x3 x4 x5 x6 x7 x8 x9 x10 x11 x12 x13 x14 x15 x16 x17 x18 x19 x20 x21 x22 x23 x24 x25 x26 x27 x28 x29 x30 x31 x32 x33 x34 x35 x36 x37 x38 x39 x40 x41 x42 x43 x44 x45 x46 x47 x48 x49 x50 x51 x52 x53 x54 x55 x56 x57 x58 x59 x60 x61 x62 x63 x64 x65 x66 x67 x68 x69 x70 x71 x72 : Value) (Q : Exit → Act → World → Prop) (hQ : ∀ DN B1 d1 B2 d2 W2, BoxQ13 W0 W2 DN q B1 d1 B2 d2 → Q .normal { tmps := #[x0, x1, .slice A0 n0 cp0, x3, x4, x5, x6, x7, x8, .pointer (some ⟨DN, 0, none⟩), x10, x11, x12, x13, x14, x15, x16, x17, .slice A0 n0 cp0, .agg (reqA q.k B1 q.L.length d1 B2 q.C.length d2), x20, x21, x22, x23, x24, x25, x26, x27, x28, x29, x30, x31, x32, x33, x34, x35, x36, x37, x38, x39, x40, x41, x42, x43, x44, x45, x46, x47, x48, x49, x50, x51, x52, x53, x54, x55, x56, x57, x58, x59, x60, x61, x62, x63, x64, x65, x66, x67, x68, x69, x70, x71, x72], defers := [] } W2) :
  wpList Tryz.prog (opsOf Tryz.f4 3) Q (opsOf Tryz.f4 3).toList { tmps := #[x0, x1, .slice A0 n0 cp0, x3, x4, x5, x6, x7, x8, x9, x10, x11, x12, x13, x14, x15, x16, x17, x18, x19, x20, x21, x22, x23, x24, x25, x26, x27, x28, x29, x30, x31, x32, x33, x34, x35, x36, x37, x38, x39, x40, x41, x42, x43, x44, x45, x46, x47, x48, x49, x50, x51, x52, x53, x54, x55, x56, x57, x58, x59, x60, x61, x62, x63, x64, x65, x66, x67, x68, x69, x70, x71, x72], defers := [] } W0 := by
 refine line_start ?_
 refine lineP (i := 0) (v := .slice A0 n0 cp0) rfl (by kernel_rfl) ?_
 simp only [Act.put, zz0, zz1, zz2]
 refine line_call13 (i := 1) (at_nth rfl) (by kernel_rfl) (fun wy => by kernel_rfl) ((HR.out W0 (Below.refl _ _)).mono ?_)
 rintro e W1 ⟨B1, d1, B2, d2, rfl, hL, hC, hb⟩
 refine ⟨_, rfl, ?_⟩
 simp only [Act.put, zz0, zz1, zz2]
 refine line_step13 (i := 2) (o := { dst := some 9, op := Op.alloc 26, type := 0, pos := "law.go:142", after := #[], guard := none }) (w' := W1.alloc (.cells #[.int .i64 0, .slice none 0 0, .slice none 0 0] 26)) (v := .pointer (some ⟨W1.heap.size, 0, none⟩)) (by kernel_rfl) (by kernel_rfl) (by go_simp) ?_
 simp only [Act.put, zz0, zz1, zz2]
 refine line_skip13 (i := 3) (o := { dst := none, op := Op.store 26 (Operand.tmp 9) (Operand.tmp 19), type := 0, pos := "law.go:142", after := #[{ on := 2, ground := Ground.data }, { on := 1, ground := Ground.data }, { on := 1, ground := Ground.chain }, { on := 0, ground := Ground.phase }, { on := 1, ground := Ground.phase }, { on := 2, ground := Ground.phase }], guard := none }) (w' := (W1.alloc (.cells #[.int .i64 0, .slice none 0 0, .slice none 0 0] 26)).setRow W1.heap.size (reqA q.k B1 q.L.length d1 B2 q.C.length d2)) (by kernel_rfl) (by kernel_rfl) (run_row10 rfl rfl rfl (Is.new W1 26 #[.int .i64 0, .slice none 0 0, .slice none 0 0]) infoReq13 rfl (reqA_one13 _ _ _ _ _ _ _)) ?_
 try simp only [Act.put]
 exact line_done (by decide +kernel) (hQ _ _ _ _ _ _ (box_ofQ13 hL hC hb))
theorem tw13_4 (W0 : World) (D1 DQ : Nat) (s : Srv13) (A : Option Addr) (c : Nat) (q : Req11) (B1 B2 : Option Addr) (d1 d2 : Nat) (hl : q.L.length ≤ 9223372036854775807) (hl2 : q.C.length ≤ 9223372036854775807) (i1 : Is W0 D1 33 (srvA s A c)) (iq : Is W0 DQ 26 (reqA q.k B1 q.L.length d1 B2 q.C.length d2)) (hI : InS W0 s.S A c) (hL : InV W0 B1 (tL10 q.L)) (hC : InV W0 B2 (tL10 q.C)) (x0 x1 x2 x3 x4 x5 x6 x7 x10 x11 x12 x13 x14 x15 x16 x17 x18 x19 x20 x21 x22 x23 x24 x25 x26 x27 x28 x29 x30 x31 x32 x33 x34 x35 x36 x37 x38 x39 x40 x41 x42 x43 x44 x45 x46 x47 x48 x49 x50 x51 x52 x53 x54 x55 x56 x57 x58 x59 x60 x61 x62 x63 x64 x65 x66 x67 x68 x69 x70 x71 x72 : Value) (Q : Exit → Act → World → Prop) (hQ : ∀ DN DM A2 c2 RA rc W2, Box13 W0 W2 DN DM (do13 s q) A2 c2 RA rc → Q .normal { tmps := #[x0, x1, x2, x3, x4, x5, x6, x7, .pointer (some ⟨D1, 0, none⟩), .pointer (some ⟨DQ, 0, none⟩), .pointer (some ⟨DN, 0, none⟩), .pointer (some ⟨DM, 0, none⟩), x12, x13, x14, x15, x16, x17, x18, x19, .tuple #[.agg (srvA (do13 s q).1 A2 c2), .agg (rspA (do13 s q).2.k (do13 s q).2.st RA (do13 s q).2.C.length rc (do13 s q).2.many (do13 s q).2.room)], .agg (srvA s A c), .agg (reqA q.k B1 q.L.length d1 B2 q.C.length d2), .tuple #[.agg (srvA (do13 s q).1 A2 c2), .agg (rspA (do13 s q).2.k (do13 s q).2.st RA (do13 s q).2.C.length rc (do13 s q).2.many (do13 s q).2.room)], .agg (srvA (do13 s q).1 A2 c2), .agg (rspA (do13 s q).2.k (do13 s q).2.st RA (do13 s q).2.C.length rc (do13 s q).2.many (do13 s q).2.room), x26, x27, x28, x29, x30, x31, x32, x33, x34, x35, x36, x37, x38, x39, x40, x41, x42, x43, x44, x45, x46, x47, x48, x49, x50, x51, x52, x53, x54, x55, x56, x57, x58, x59, x60, x61, x62, x63, x64, x65, x66, x67, x68, x69, x70, x71, x72], defers := [] } W2) :
  wpList Tryz.prog (opsOf Tryz.f4 4) Q (opsOf Tryz.f4 4).toList { tmps := #[x0, x1, x2, x3, x4, x5, x6, x7, .pointer (some ⟨D1, 0, none⟩), .pointer (some ⟨DQ, 0, none⟩), x10, x11, x12, x13, x14, x15, x16, x17, x18, x19, x20, x21, x22, x23, x24, x25, x26, x27, x28, x29, x30, x31, x32, x33, x34, x35, x36, x37, x38, x39, x40, x41, x42, x43, x44, x45, x46, x47, x48, x49, x50, x51, x52, x53, x54, x55, x56, x57, x58, x59, x60, x61, x62, x63, x64, x65, x66, x67, x68, x69, x70, x71, x72], defers := [] } W0 := by
 refine line_start ?_
 refine lineP (i := 0) (v := .agg (srvA s A c)) rfl (by exact exec_load10 rfl rfl (run_loadVar_row _ _ 33 33 _ (0, 0) _ i1 Tryz.underlying33 rfl infoSrv13)) ?_
 simp only [Act.put, zz0, zz1, zz2]
 refine lineP (i := 1) (v := .agg (reqA q.k B1 q.L.length d1 B2 q.C.length d2)) rfl (by exact exec_load10 rfl rfl (run_loadVar_row _ _ 26 26 _ (0, 0) _ iq Tryz.underlying26 rfl infoReq13)) ?_
 simp only [Act.put, zz0, zz1, zz2]
 refine line_call13 (i := 2) (at_nth rfl) (by kernel_rfl) (fun wy => by kernel_rfl) ((sdo_any13 s A c q B1 B2 d1 d2 W0 hl hl2 hI hL hC).mono ?_)
 rintro e W1 hp
 obtain ⟨A2, c2, RA, rc, rfl, hX, hV, hb⟩ := hp
 refine ⟨_, rfl, ?_⟩
 simp only [Act.put, zz0, zz1, zz2]
 refine lineP (i := 3) (v := .tuple #[.agg (srvA (do13 s q).1 A2 c2), .agg (rspA (do13 s q).2.k (do13 s q).2.st RA (do13 s q).2.C.length rc (do13 s q).2.many (do13 s q).2.room)]) rfl (by kernel_rfl) ?_
 simp only [Act.put, zz0, zz1, zz2]
 refine lineP (i := 4) (v := .agg (srvA (do13 s q).1 A2 c2)) rfl (by kernel_rfl) ?_
 simp only [Act.put, zz0, zz1, zz2]
 refine lineP (i := 5) (v := .agg (rspA (do13 s q).2.k (do13 s q).2.st RA (do13 s q).2.C.length rc (do13 s q).2.many (do13 s q).2.room)) rfl (by kernel_rfl) ?_
 simp only [Act.put, zz0, zz1, zz2]
 refine line_step13 (i := 6) (o := { dst := some 10, op := Op.alloc 33, type := 0, pos := "law.go:143", after := #[], guard := none }) (w' := W1.alloc (.cells #[.slice none 0 0, .int .i64 0, .int .i64 0, .int .i64 0] 33)) (v := .pointer (some ⟨W1.heap.size, 0, none⟩)) (by kernel_rfl) (by kernel_rfl) (by go_simp) ?_
 simp only [Act.put, zz0, zz1, zz2]
 refine line_step13 (i := 7) (o := { dst := some 11, op := Op.alloc 45, type := 0, pos := "law.go:143", after := #[], guard := none }) (w' := ((W1.alloc (.cells #[.slice none 0 0, .int .i64 0, .int .i64 0, .int .i64 0] 33)).alloc (.cells (rspA 0 0 none 0 0 0 0) 45))) (v := .pointer (some ⟨W1.heap.size + 1, 0, none⟩)) (by kernel_rfl) (by kernel_rfl) (by go_simp) ?_
 simp only [Act.put, zz0, zz1, zz2]
 refine line_skip13 (i := 8) (o := { dst := none, op := Op.store 33 (Operand.tmp 10) (Operand.tmp 24), type := 0, pos := "law.go:143", after := #[{ on := 6, ground := Ground.data }, { on := 4, ground := Ground.data }, { on := 2, ground := Ground.chain }, { on := 0, ground := Ground.phase }, { on := 1, ground := Ground.phase }, { on := 2, ground := Ground.phase }, { on := 3, ground := Ground.phase }, { on := 4, ground := Ground.phase }, { on := 5, ground := Ground.textOnly Departure.lateStores }, { on := 6, ground := Ground.phase }, { on := 7, ground := Ground.phase }], guard := none }) (w' := ((W1.alloc (.cells #[.slice none 0 0, .int .i64 0, .int .i64 0, .int .i64 0] 33)).alloc (.cells (rspA 0 0 none 0 0 0 0) 45)).setRow W1.heap.size (srvA (do13 s q).1 A2 c2)) (by kernel_rfl) (by kernel_rfl) (run_row10 rfl rfl rfl (boxA13 W1) infoSrv13 rfl (srvA_one13 _ _ _)) ?_
 try simp only [Act.put]
 refine line_skip13 (i := 9) (o := { dst := none, op := Op.store 45 (Operand.tmp 11) (Operand.tmp 25), type := 0, pos := "law.go:143", after := #[{ on := 7, ground := Ground.data }, { on := 5, ground := Ground.data }, { on := 8, ground := Ground.chain }, { on := 0, ground := Ground.phase }, { on := 1, ground := Ground.phase }, { on := 2, ground := Ground.phase }, { on := 3, ground := Ground.phase }, { on := 4, ground := Ground.phase }, { on := 5, ground := Ground.phase }, { on := 6, ground := Ground.phase }, { on := 7, ground := Ground.phase }, { on := 8, ground := Ground.phase }], guard := none }) (w' := (((W1.alloc (.cells #[.slice none 0 0, .int .i64 0, .int .i64 0, .int .i64 0] 33)).alloc (.cells (rspA 0 0 none 0 0 0 0) 45)).setRow W1.heap.size (srvA (do13 s q).1 A2 c2)).setRow (W1.heap.size + 1) (rspA (do13 s q).2.k (do13 s q).2.st RA (do13 s q).2.C.length rc (do13 s q).2.many (do13 s q).2.room)) (by kernel_rfl) (by kernel_rfl) (run_row10 rfl rfl rfl (boxB13 W1 _) infoRsp13 rfl (rspA_one13 _ _ _ _ _ _ _)) ?_
 try simp only [Act.put]
 exact line_done (by decide +kernel) (hQ _ _ _ _ _ _ _ (box_of13 hX hV hb))
theorem tw13_5 (W0 : World) (D1 DQ : Nat) (s : Srv13) (A : Option Addr) (c : Nat) (q : Req11) (B1 B2 : Option Addr) (d1 d2 : Nat) (hl : q.L.length ≤ 9223372036854775807) (hl2 : q.C.length ≤ 9223372036854775807) (i1 : Is W0 D1 33 (srvA s A c)) (iq : Is W0 DQ 26 (reqA q.k B1 q.L.length d1 B2 q.C.length d2)) (hI : InS W0 s.S A c) (hL : InV W0 B1 (tL10 q.L)) (hC : InV W0 B2 (tL10 q.C)) (x0 x1 x2 x3 x4 x5 x6 x7 x8 x11 x12 x13 x14 x15 x16 x17 x18 x19 x20 x21 x22 x23 x24 x25 x26 x27 x28 x29 x30 x31 x32 x33 x34 x35 x36 x37 x38 x39 x40 x41 x42 x43 x44 x45 x46 x47 x48 x49 x50 x51 x52 x53 x54 x55 x56 x57 x58 x59 x60 x61 x62 x63 x64 x65 x66 x67 x68 x69 x70 x71 x72 : Value) (Q : Exit → Act → World → Prop) (hQ : ∀ DN DM A2 c2 RA rc W2, Box13 W0 W2 DN DM (do13 s q) A2 c2 RA rc → Q .normal { tmps := #[x0, x1, x2, x3, x4, x5, x6, x7, x8, .pointer (some ⟨DQ, 0, none⟩), .pointer (some ⟨D1, 0, none⟩), x11, .pointer (some ⟨DN, 0, none⟩), .pointer (some ⟨DM, 0, none⟩), x14, x15, x16, x17, x18, x19, x20, x21, x22, x23, x24, x25, .tuple #[.agg (srvA (do13 s q).1 A2 c2), .agg (rspA (do13 s q).2.k (do13 s q).2.st RA (do13 s q).2.C.length rc (do13 s q).2.many (do13 s q).2.room)], .agg (srvA s A c), .agg (reqA q.k B1 q.L.length d1 B2 q.C.length d2), .tuple #[.agg (srvA (do13 s q).1 A2 c2), .agg (rspA (do13 s q).2.k (do13 s q).2.st RA (do13 s q).2.C.length rc (do13 s q).2.many (do13 s q).2.room)], .agg (srvA (do13 s q).1 A2 c2), .agg (rspA (do13 s q).2.k (do13 s q).2.st RA (do13 s q).2.C.length rc (do13 s q).2.many (do13 s q).2.room), x32, x33, x34, x35, x36, x37, x38, x39, x40, x41, x42, x43, x44, x45, x46, x47, x48, x49, x50, x51, x52, x53, x54, x55, x56, x57, x58, x59, x60, x61, x62, x63, x64, x65, x66, x67, x68, x69, x70, x71, x72], defers := [] } W2) :
  wpList Tryz.prog (opsOf Tryz.f4 5) Q (opsOf Tryz.f4 5).toList { tmps := #[x0, x1, x2, x3, x4, x5, x6, x7, x8, .pointer (some ⟨DQ, 0, none⟩), .pointer (some ⟨D1, 0, none⟩), x11, x12, x13, x14, x15, x16, x17, x18, x19, x20, x21, x22, x23, x24, x25, x26, x27, x28, x29, x30, x31, x32, x33, x34, x35, x36, x37, x38, x39, x40, x41, x42, x43, x44, x45, x46, x47, x48, x49, x50, x51, x52, x53, x54, x55, x56, x57, x58, x59, x60, x61, x62, x63, x64, x65, x66, x67, x68, x69, x70, x71, x72], defers := [] } W0 := by
 refine line_start ?_
 refine lineP (i := 0) (v := .agg (srvA s A c)) rfl (by exact exec_load10 rfl rfl (run_loadVar_row _ _ 33 33 _ (0, 0) _ i1 Tryz.underlying33 rfl infoSrv13)) ?_
 simp only [Act.put, zz0, zz1, zz2]
 refine lineP (i := 1) (v := .agg (reqA q.k B1 q.L.length d1 B2 q.C.length d2)) rfl (by exact exec_load10 rfl rfl (run_loadVar_row _ _ 26 26 _ (0, 0) _ iq Tryz.underlying26 rfl infoReq13)) ?_
 simp only [Act.put, zz0, zz1, zz2]
 refine line_call13 (i := 2) (at_nth rfl) (by kernel_rfl) (fun wy => by kernel_rfl) ((sdo_any13 s A c q B1 B2 d1 d2 W0 hl hl2 hI hL hC).mono ?_)
 rintro e W1 hp
 obtain ⟨A2, c2, RA, rc, rfl, hX, hV, hb⟩ := hp
 refine ⟨_, rfl, ?_⟩
 simp only [Act.put, zz0, zz1, zz2]
 refine lineP (i := 3) (v := .tuple #[.agg (srvA (do13 s q).1 A2 c2), .agg (rspA (do13 s q).2.k (do13 s q).2.st RA (do13 s q).2.C.length rc (do13 s q).2.many (do13 s q).2.room)]) rfl (by kernel_rfl) ?_
 simp only [Act.put, zz0, zz1, zz2]
 refine lineP (i := 4) (v := .agg (srvA (do13 s q).1 A2 c2)) rfl (by kernel_rfl) ?_
 simp only [Act.put, zz0, zz1, zz2]
 refine lineP (i := 5) (v := .agg (rspA (do13 s q).2.k (do13 s q).2.st RA (do13 s q).2.C.length rc (do13 s q).2.many (do13 s q).2.room)) rfl (by kernel_rfl) ?_
 simp only [Act.put, zz0, zz1, zz2]
 refine line_step13 (i := 6) (o := { dst := some 12, op := Op.alloc 33, type := 0, pos := "law.go:144", after := #[], guard := none }) (w' := W1.alloc (.cells #[.slice none 0 0, .int .i64 0, .int .i64 0, .int .i64 0] 33)) (v := .pointer (some ⟨W1.heap.size, 0, none⟩)) (by kernel_rfl) (by kernel_rfl) (by go_simp) ?_
 simp only [Act.put, zz0, zz1, zz2]
 refine line_step13 (i := 7) (o := { dst := some 13, op := Op.alloc 45, type := 0, pos := "law.go:144", after := #[], guard := none }) (w' := ((W1.alloc (.cells #[.slice none 0 0, .int .i64 0, .int .i64 0, .int .i64 0] 33)).alloc (.cells (rspA 0 0 none 0 0 0 0) 45))) (v := .pointer (some ⟨W1.heap.size + 1, 0, none⟩)) (by kernel_rfl) (by kernel_rfl) (by go_simp) ?_
 simp only [Act.put, zz0, zz1, zz2]
 refine line_skip13 (i := 8) (o := { dst := none, op := Op.store 33 (Operand.tmp 12) (Operand.tmp 30), type := 0, pos := "law.go:144", after := #[{ on := 6, ground := Ground.data }, { on := 4, ground := Ground.data }, { on := 2, ground := Ground.chain }, { on := 0, ground := Ground.phase }, { on := 1, ground := Ground.phase }, { on := 2, ground := Ground.phase }, { on := 3, ground := Ground.phase }, { on := 4, ground := Ground.phase }, { on := 5, ground := Ground.textOnly Departure.lateStores }, { on := 6, ground := Ground.phase }, { on := 7, ground := Ground.phase }], guard := none }) (w' := ((W1.alloc (.cells #[.slice none 0 0, .int .i64 0, .int .i64 0, .int .i64 0] 33)).alloc (.cells (rspA 0 0 none 0 0 0 0) 45)).setRow W1.heap.size (srvA (do13 s q).1 A2 c2)) (by kernel_rfl) (by kernel_rfl) (run_row10 rfl rfl rfl (boxA13 W1) infoSrv13 rfl (srvA_one13 _ _ _)) ?_
 try simp only [Act.put]
 refine line_skip13 (i := 9) (o := { dst := none, op := Op.store 45 (Operand.tmp 13) (Operand.tmp 31), type := 0, pos := "law.go:144", after := #[{ on := 7, ground := Ground.data }, { on := 5, ground := Ground.data }, { on := 8, ground := Ground.chain }, { on := 0, ground := Ground.phase }, { on := 1, ground := Ground.phase }, { on := 2, ground := Ground.phase }, { on := 3, ground := Ground.phase }, { on := 4, ground := Ground.phase }, { on := 5, ground := Ground.phase }, { on := 6, ground := Ground.phase }, { on := 7, ground := Ground.phase }, { on := 8, ground := Ground.phase }], guard := none }) (w' := (((W1.alloc (.cells #[.slice none 0 0, .int .i64 0, .int .i64 0, .int .i64 0] 33)).alloc (.cells (rspA 0 0 none 0 0 0 0) 45)).setRow W1.heap.size (srvA (do13 s q).1 A2 c2)).setRow (W1.heap.size + 1) (rspA (do13 s q).2.k (do13 s q).2.st RA (do13 s q).2.C.length rc (do13 s q).2.many (do13 s q).2.room)) (by kernel_rfl) (by kernel_rfl) (run_row10 rfl rfl rfl (boxB13 W1 _) infoRsp13 rfl (rspA_one13 _ _ _ _ _ _ _)) ?_
 try simp only [Act.put]
 exact line_done (by decide +kernel) (hQ _ _ _ _ _ _ _ (box_of13 hX hV hb))
theorem tw13_6a (W0 : World) (D9 D10 D12 D11 D13 : Nat) (s : Srv13) (q : Req11) (A1 A2 B1 B2 R2 : Option Addr) (c1 c2 d1 d2 r2 : Nat) (hlen : s.S.B.length ≤ 4096) (i9 : Is W0 D9 26 (reqA q.k B1 q.L.length d1 B2 q.C.length d2)) (i10 : Is W0 D10 33 (srvA s A1 c1)) (i12 : Is W0 D12 33 (srvA s A2 c2)) (h1 : InS W0 s.S A1 c1) (h2 : InS W0 s.S A2 c2) (n2 : Nat) (k2 st2 ro2 : Int) (hk : q.k = 3) (i13 : Is W0 D13 45 (rspA k2 st2 R2 n2 r2 0 ro2)) (x0 x1 x2 x3 x4 x5 x6 x7 x8 x14 x15 x16 x17 x18 x19 x20 x21 x22 x23 x24 x25 x26 x27 x28 x29 x30 x31 x32 x33 x34 x35 x36 x37 x38 x39 x40 x41 x42 x43 x44 x45 x46 x47 x48 x49 x50 x51 x52 x53 x54 x55 x56 x57 x58 x59 x60 x61 x62 x63 x64 x65 x66 x67 x68 x69 x70 x71 x72 : Value) (Q : Exit → Act → World → Prop) (hQ : ∀ W1, Below W0.heap.size W0 W1 → Q .normal { tmps := #[x0, x1, x2, x3, x4, x5, x6, x7, x8, .pointer (some ⟨D9, 0, none⟩), .pointer (some ⟨D10, 0, none⟩), .pointer (some ⟨D11, 0, none⟩), .pointer (some ⟨D12, 0, none⟩), .pointer (some ⟨D13, 0, none⟩), x14, x15, x16, x17, x18, x19, x20, x21, x22, x23, x24, x25, x26, x27, x28, x29, x30, x31, .agg (srvA s A1 c1), .agg (srvA s A2 c2), .bool true, .bool false, .bool false, .pointer (some ⟨D9, 0, none⟩), .int .i64 q.k, .bool true, .bool true, .pointer (some ⟨D13, 3, none⟩), .int .i64 0, .bool false, .bool false, .bool false, .bool false, .pointer (some ⟨D9, 0, none⟩), .int .i64 q.k, .bool false, .bool false, undef, undef, undef, undef, .bool false, .bool false, x57, x58, x59, x60, x61, x62, x63, x64, x65, x66, x67, x68, x69, x70, x71, x72], defers := [] } W1) :
  wpList Tryz.prog (opsOf Tryz.f4 6) Q (opsOf Tryz.f4 6).toList { tmps := #[x0, x1, x2, x3, x4, x5, x6, x7, x8, .pointer (some ⟨D9, 0, none⟩), .pointer (some ⟨D10, 0, none⟩), .pointer (some ⟨D11, 0, none⟩), .pointer (some ⟨D12, 0, none⟩), .pointer (some ⟨D13, 0, none⟩), x14, x15, x16, x17, x18, x19, x20, x21, x22, x23, x24, x25, x26, x27, x28, x29, x30, x31, x32, x33, x34, x35, x36, x37, x38, x39, x40, x41, x42, x43, x44, x45, x46, x47, x48, x49, x50, x51, x52, x53, x54, x55, x56, x57, x58, x59, x60, x61, x62, x63, x64, x65, x66, x67, x68, x69, x70, x71, x72], defers := [] } W0 := by
 refine line_start ?_
 refine lineP (i := 0) (v := .agg (srvA s A1 c1)) rfl (by exact exec_load10 rfl rfl (run_loadVar_row _ _ 33 33 _ (0, 0) _ i10 Tryz.underlying33 rfl infoSrv13)) ?_
 simp only [Act.put, zz0, zz1, zz2]
 refine lineP (i := 1) (v := .agg (srvA s A2 c2)) rfl (by exact exec_load10 rfl rfl (run_loadVar_row _ _ 33 33 _ (0, 0) _ i12 Tryz.underlying33 rfl infoSrv13)) ?_
 simp only [Act.put, zz0, zz1, zz2]
 refine line_call13 (i := 2) (at_nth rfl) (by kernel_rfl) (fun wy => by kernel_rfl) ((dsame13_any s s A1 A2 c1 c2 W0 hlen h1 h2).mono ?_)
 rintro e W1 ⟨R, rfl, hR, hb⟩
 have hR : R = true := hR.2 rfl
 subst hR
 refine ⟨_, rfl, ?_⟩
 simp only [Act.put, zz0, zz1, zz2]
 replace i9 := i9.below hb i9.lt
 replace i13 := i13.below hb i13.lt
 refine lineP (i := 3) (v := .bool false) rfl (by go_simp) ?_
 simp only [Act.put, zz0, zz1, zz2]
 refine lineP (i := 4) (v := .bool false) rfl (by kernel_rfl) ?_
 simp only [Act.put, zz0, zz1, zz2]
 refine lineP (i := 5) (v := .pointer (some ⟨D9, 0, none⟩)) rfl (by go_simp) ?_
 simp only [Act.put, zz0, zz1, zz2]
 refine lineP (i := 6) (v := .int .i64 q.k) rfl (by (have hc := Is.cell i9 0; go_simp)) ?_
 simp only [Act.put, zz0, zz1, zz2]
 refine lineP (i := 7) (v := .bool true) rfl (by exact exec_bin10 rfl rfl rfl (eqI_yes10 hk _) (by go_simp)) ?_
 simp only [Act.put, zz0, zz1, zz2]
 refine lineP (i := 8) (v := .bool true) rfl (by kernel_rfl) ?_
 simp only [Act.put, zz0, zz1, zz2]
 refine lineP (i := 9) (v := .pointer (some ⟨D13, 3, none⟩)) rfl (by go_simp) ?_
 simp only [Act.put, zz0, zz1, zz2]
 refine lineP (i := 10) (v := .int .i64 0) rfl (by (have hc := Is.cell i13 3; go_simp)) ?_
 simp only [Act.put, zz0, zz1, zz2]
 refine lineP (i := 11) (v := .bool false) rfl (by exact exec_bin10 rfl rfl rfl (neI_no10 rfl _) (by go_simp)) ?_
 simp only [Act.put, zz0, zz1, zz2]
 refine lineP (i := 12) (v := .bool false) rfl (by kernel_rfl) ?_
 simp only [Act.put, zz0, zz1, zz2]
 refine lineP (i := 13) (v := .bool false) rfl (by kernel_rfl) ?_
 simp only [Act.put, zz0, zz1, zz2]
 refine lineP (i := 14) (v := .bool false) rfl (by kernel_rfl) ?_
 simp only [Act.put, zz0, zz1, zz2]
 refine lineP (i := 15) (v := .pointer (some ⟨D9, 0, none⟩)) rfl (by go_simp) ?_
 simp only [Act.put, zz0, zz1, zz2]
 refine lineP (i := 16) (v := .int .i64 q.k) rfl (by (have hc := Is.cell i9 0; go_simp)) ?_
 simp only [Act.put, zz0, zz1, zz2]
 refine lineP (i := 17) (v := .bool false) rfl (by exact exec_bin10 rfl rfl rfl (neI_no10 hk _) (by go_simp)) ?_
 simp only [Act.put, zz0, zz1, zz2]
 refine lineP (i := 18) (v := .bool false) rfl (by kernel_rfl) ?_
 simp only [Act.put, zz0, zz1, zz2]
 refine lineO (i := 19) rfl ?_
 simp only [Act.put, zz0, zz1, zz2]
 refine lineO (i := 20) rfl ?_
 simp only [Act.put, zz0, zz1, zz2]
 refine lineO (i := 21) rfl ?_
 simp only [Act.put, zz0, zz1, zz2]
 refine lineO (i := 22) rfl ?_
 simp only [Act.put, zz0, zz1, zz2]
 refine lineP (i := 23) (v := .bool false) rfl (by kernel_rfl) ?_
 simp only [Act.put, zz0, zz1, zz2]
 refine lineP (i := 24) (v := .bool false) rfl (by kernel_rfl) ?_
 simp only [Act.put, zz0, zz1, zz2]
 exact line_done (by decide +kernel) (hQ _ hb)
theorem tw13_6b (W0 : World) (D9 D10 D12 D11 D13 : Nat) (s : Srv13) (q : Req11) (A1 A2 B1 B2 R2 : Option Addr) (c1 c2 d1 d2 r2 : Nat) (hlen : s.S.B.length ≤ 4096) (i9 : Is W0 D9 26 (reqA q.k B1 q.L.length d1 B2 q.C.length d2)) (i10 : Is W0 D10 33 (srvA s A1 c1)) (i12 : Is W0 D12 33 (srvA s A2 c2)) (h1 : InS W0 s.S A1 c1) (h2 : InS W0 s.S A2 c2) (R1 : Option Addr) (r1 : Nat) (hk : q.k ≠ 3) (z : Rsp11) (hlz : z.C.length ≤ 9223372036854775807) (i11 : Is W0 D11 45 (rspA z.k z.st R1 z.C.length r1 z.many z.room)) (i13 : Is W0 D13 45 (rspA z.k z.st R2 z.C.length r2 z.many z.room)) (hV1 : InV W0 R1 (tL10 z.C)) (hV2 : InV W0 R2 (tL10 z.C)) (x0 x1 x2 x3 x4 x5 x6 x7 x8 x14 x15 x16 x17 x18 x19 x20 x21 x22 x23 x24 x25 x26 x27 x28 x29 x30 x31 x32 x33 x34 x35 x36 x37 x38 x39 x40 x41 x42 x43 x44 x45 x46 x47 x48 x49 x50 x51 x52 x53 x54 x55 x56 x57 x58 x59 x60 x61 x62 x63 x64 x65 x66 x67 x68 x69 x70 x71 x72 : Value) (Q : Exit → Act → World → Prop) (hQ : ∀ W1, Below W0.heap.size W0 W1 → Q .normal { tmps := #[x0, x1, x2, x3, x4, x5, x6, x7, x8, .pointer (some ⟨D9, 0, none⟩), .pointer (some ⟨D10, 0, none⟩), .pointer (some ⟨D11, 0, none⟩), .pointer (some ⟨D12, 0, none⟩), .pointer (some ⟨D13, 0, none⟩), x14, x15, x16, x17, x18, x19, x20, x21, x22, x23, x24, x25, x26, x27, x28, x29, x30, x31, .agg (srvA s A1 c1), .agg (srvA s A2 c2), .bool true, .bool false, .bool false, .pointer (some ⟨D9, 0, none⟩), .int .i64 q.k, .bool false, .bool false, undef, undef, undef, .bool false, .bool false, .bool false, .pointer (some ⟨D9, 0, none⟩), .int .i64 q.k, .bool true, .bool true, .agg (rspA z.k z.st R1 z.C.length r1 z.many z.room), .agg (rspA z.k z.st R2 z.C.length r2 z.many z.room), .bool true, .bool false, .bool false, .bool false, x57, x58, x59, x60, x61, x62, x63, x64, x65, x66, x67, x68, x69, x70, x71, x72], defers := [] } W1) :
  wpList Tryz.prog (opsOf Tryz.f4 6) Q (opsOf Tryz.f4 6).toList { tmps := #[x0, x1, x2, x3, x4, x5, x6, x7, x8, .pointer (some ⟨D9, 0, none⟩), .pointer (some ⟨D10, 0, none⟩), .pointer (some ⟨D11, 0, none⟩), .pointer (some ⟨D12, 0, none⟩), .pointer (some ⟨D13, 0, none⟩), x14, x15, x16, x17, x18, x19, x20, x21, x22, x23, x24, x25, x26, x27, x28, x29, x30, x31, x32, x33, x34, x35, x36, x37, x38, x39, x40, x41, x42, x43, x44, x45, x46, x47, x48, x49, x50, x51, x52, x53, x54, x55, x56, x57, x58, x59, x60, x61, x62, x63, x64, x65, x66, x67, x68, x69, x70, x71, x72], defers := [] } W0 := by
 refine line_start ?_
 refine lineP (i := 0) (v := .agg (srvA s A1 c1)) rfl (by exact exec_load10 rfl rfl (run_loadVar_row _ _ 33 33 _ (0, 0) _ i10 Tryz.underlying33 rfl infoSrv13)) ?_
 simp only [Act.put, zz0, zz1, zz2]
 refine lineP (i := 1) (v := .agg (srvA s A2 c2)) rfl (by exact exec_load10 rfl rfl (run_loadVar_row _ _ 33 33 _ (0, 0) _ i12 Tryz.underlying33 rfl infoSrv13)) ?_
 simp only [Act.put, zz0, zz1, zz2]
 refine line_call13 (i := 2) (at_nth rfl) (by kernel_rfl) (fun wy => by kernel_rfl) ((dsame13_any s s A1 A2 c1 c2 W0 hlen h1 h2).mono ?_)
 rintro e W1 ⟨R, rfl, hR, hb⟩
 have hR : R = true := hR.2 rfl
 subst hR
 refine ⟨_, rfl, ?_⟩
 simp only [Act.put, zz0, zz1, zz2]
 replace i9 := i9.below hb i9.lt
 replace i11 := i11.below hb i11.lt
 replace i13 := i13.below hb i13.lt
 replace hV1 := hV1.keep hb
 replace hV2 := hV2.keep hb
 refine lineP (i := 3) (v := .bool false) rfl (by go_simp) ?_
 simp only [Act.put, zz0, zz1, zz2]
 refine lineP (i := 4) (v := .bool false) rfl (by kernel_rfl) ?_
 simp only [Act.put, zz0, zz1, zz2]
 refine lineP (i := 5) (v := .pointer (some ⟨D9, 0, none⟩)) rfl (by go_simp) ?_
 simp only [Act.put, zz0, zz1, zz2]
 refine lineP (i := 6) (v := .int .i64 q.k) rfl (by (have hc := Is.cell i9 0; go_simp)) ?_
 simp only [Act.put, zz0, zz1, zz2]
 refine lineP (i := 7) (v := .bool false) rfl (by exact exec_bin10 rfl rfl rfl (eqI_no13 hk _) (by go_simp)) ?_
 simp only [Act.put, zz0, zz1, zz2]
 refine lineP (i := 8) (v := .bool false) rfl (by kernel_rfl) ?_
 simp only [Act.put, zz0, zz1, zz2]
 refine lineO (i := 9) rfl ?_
 simp only [Act.put, zz0, zz1, zz2]
 refine lineO (i := 10) rfl ?_
 simp only [Act.put, zz0, zz1, zz2]
 refine lineO (i := 11) rfl ?_
 simp only [Act.put, zz0, zz1, zz2]
 refine lineP (i := 12) (v := .bool false) rfl (by kernel_rfl) ?_
 simp only [Act.put, zz0, zz1, zz2]
 refine lineP (i := 13) (v := .bool false) rfl (by kernel_rfl) ?_
 simp only [Act.put, zz0, zz1, zz2]
 refine lineP (i := 14) (v := .bool false) rfl (by kernel_rfl) ?_
 simp only [Act.put, zz0, zz1, zz2]
 refine lineP (i := 15) (v := .pointer (some ⟨D9, 0, none⟩)) rfl (by go_simp) ?_
 simp only [Act.put, zz0, zz1, zz2]
 refine lineP (i := 16) (v := .int .i64 q.k) rfl (by (have hc := Is.cell i9 0; go_simp)) ?_
 simp only [Act.put, zz0, zz1, zz2]
 refine lineP (i := 17) (v := .bool true) rfl (by exact exec_bin10 rfl rfl rfl (neI_yes13 hk _) (by go_simp)) ?_
 simp only [Act.put, zz0, zz1, zz2]
 refine lineP (i := 18) (v := .bool true) rfl (by kernel_rfl) ?_
 simp only [Act.put, zz0, zz1, zz2]
 refine lineP (i := 19) (v := .agg (rspA z.k z.st R1 z.C.length r1 z.many z.room)) rfl (by exact exec_load10 rfl rfl (run_loadVar_row _ _ 45 45 _ (0, 0) _ i11 Tryz.underlying45 rfl infoRsp13)) ?_
 simp only [Act.put, zz0, zz1, zz2]
 refine lineP (i := 20) (v := .agg (rspA z.k z.st R2 z.C.length r2 z.many z.room)) rfl (by exact exec_load10 rfl rfl (run_loadVar_row _ _ 45 45 _ (0, 0) _ i13 Tryz.underlying45 rfl infoRsp13)) ?_
 simp only [Act.put, zz0, zz1, zz2]
 refine line_call13 (i := 21) (at_nth rfl) (by kernel_rfl) (fun wy => by kernel_rfl) ((alike_any11 z.k z.st z.many z.room z.k z.st z.many z.room R1 R2 r1 r2 z.C z.C W1 hlz hlz hV1 hV2).mono ?_)
 rintro e W2 ⟨rfl, hb2⟩
 refine ⟨.bool true, by simp, ?_⟩
 simp only [Act.put, zz0, zz1, zz2]
 refine lineP (i := 22) (v := .bool false) rfl (by go_simp) ?_
 simp only [Act.put, zz0, zz1, zz2]
 refine lineP (i := 23) (v := .bool false) rfl (by kernel_rfl) ?_
 simp only [Act.put, zz0, zz1, zz2]
 refine lineP (i := 24) (v := .bool false) rfl (by kernel_rfl) ?_
 simp only [Act.put, zz0, zz1, zz2]
 exact line_done (by decide +kernel) (hQ _ (hb.trans (hb2.mono hb.size)))
theorem tw13_8a (W0 : World) (D8 D9 D10 : Nat) (q : Req11) (B1 B2 : Option Addr) (d1 d2 : Nat) (i9 : Is W0 D9 26 (reqA q.k B1 q.L.length d1 B2 q.C.length d2)) (hk : q.k = 1) (x0 x1 x2 x3 x4 x5 x6 x11 x12 x13 x14 x15 x16 x17 x18 x19 x20 x21 x22 x23 x24 x25 x26 x27 x28 x29 x30 x31 x32 x33 x34 x35 x36 x37 x38 x39 x40 x41 x42 x43 x44 x45 x46 x47 x48 x49 x50 x51 x52 x53 x54 x55 x56 x57 x58 x59 x60 x61 x62 x63 x64 x65 x66 x67 x68 x69 x70 x71 x72 : Value) (Q : Exit → Act → World → Prop) (hQ : ∀ W1, Below W0.heap.size W0 W1 → Q .normal { tmps := #[x0, x1, x2, x3, x4, x5, .bool true, .bool true, .pointer (some ⟨D8, 0, none⟩), .pointer (some ⟨D9, 0, none⟩), .pointer (some ⟨D10, 0, none⟩), x11, x12, x13, x14, x15, x16, x17, x18, x19, x20, x21, x22, x23, x24, x25, x26, x27, x28, x29, x30, x31, x32, x33, x34, x35, x36, x37, x38, x39, x40, x41, x42, x43, x44, x45, x46, x47, x48, x49, x50, x51, x52, x53, x54, x55, x56, .bool true, .bool true, .pointer (some ⟨D9, 0, none⟩), .int .i64 q.k, .bool true, .bool true, undef, undef, undef, .bool true, .bool true, undef, undef, undef, .bool true, .bool true], defers := [] } W1) :
  wpList Tryz.prog (opsOf Tryz.f4 8) Q (opsOf Tryz.f4 8).toList { tmps := #[x0, x1, x2, x3, x4, x5, x6, .bool true, .pointer (some ⟨D8, 0, none⟩), .pointer (some ⟨D9, 0, none⟩), .pointer (some ⟨D10, 0, none⟩), x11, x12, x13, x14, x15, x16, x17, x18, x19, x20, x21, x22, x23, x24, x25, x26, x27, x28, x29, x30, x31, x32, x33, x34, x35, x36, x37, x38, x39, x40, x41, x42, x43, x44, x45, x46, x47, x48, x49, x50, x51, x52, x53, x54, x55, x56, x57, x58, x59, x60, x61, x62, x63, x64, x65, x66, x67, x68, x69, x70, x71, x72], defers := [] } W0 := by
 refine line_start ?_
 refine lineP (i := 0) (v := .bool true) rfl (by kernel_rfl) ?_
 simp only [Act.put, zz0, zz1, zz2]
 refine lineP (i := 1) (v := .bool true) rfl (by kernel_rfl) ?_
 simp only [Act.put, zz0, zz1, zz2]
 refine lineP (i := 2) (v := .pointer (some ⟨D9, 0, none⟩)) rfl (by go_simp) ?_
 simp only [Act.put, zz0, zz1, zz2]
 refine lineP (i := 3) (v := .int .i64 q.k) rfl (by (have hc := Is.cell i9 0; go_simp)) ?_
 simp only [Act.put, zz0, zz1, zz2]
 refine lineP (i := 4) (v := .bool true) rfl (by exact exec_bin10 rfl rfl rfl (eqI_yes10 hk _) (by go_simp)) ?_
 simp only [Act.put, zz0, zz1, zz2]
 refine lineP (i := 5) (v := .bool true) rfl (by kernel_rfl) ?_
 simp only [Act.put, zz0, zz1, zz2]
 refine lineO (i := 6) rfl ?_
 simp only [Act.put, zz0, zz1, zz2]
 refine lineO (i := 7) rfl ?_
 simp only [Act.put, zz0, zz1, zz2]
 refine lineO (i := 8) rfl ?_
 simp only [Act.put, zz0, zz1, zz2]
 refine lineP (i := 9) (v := .bool true) rfl (by kernel_rfl) ?_
 simp only [Act.put, zz0, zz1, zz2]
 refine lineP (i := 10) (v := .bool true) rfl (by kernel_rfl) ?_
 simp only [Act.put, zz0, zz1, zz2]
 refine lineO (i := 11) rfl ?_
 simp only [Act.put, zz0, zz1, zz2]
 refine lineO (i := 12) rfl ?_
 simp only [Act.put, zz0, zz1, zz2]
 refine lineO (i := 13) rfl ?_
 simp only [Act.put, zz0, zz1, zz2]
 refine lineP (i := 14) (v := .bool true) rfl (by kernel_rfl) ?_
 simp only [Act.put, zz0, zz1, zz2]
 refine lineP (i := 15) (v := .bool true) rfl (by kernel_rfl) ?_
 simp only [Act.put, zz0, zz1, zz2]
 refine lineP (i := 16) (v := .bool true) rfl (by kernel_rfl) ?_
 simp only [Act.put, zz0, zz1, zz2]
 exact line_done (by decide +kernel) (hQ _ (Below.refl _ _))
theorem tw13_8b (W0 : World) (D8 D9 D10 : Nat) (q : Req11) (B1 B2 : Option Addr) (d1 d2 : Nat) (i9 : Is W0 D9 26 (reqA q.k B1 q.L.length d1 B2 q.C.length d2)) (hk : q.k ≠ 1) (hk3 : q.k = 3) (x0 x1 x2 x3 x4 x5 x6 x11 x12 x13 x14 x15 x16 x17 x18 x19 x20 x21 x22 x23 x24 x25 x26 x27 x28 x29 x30 x31 x32 x33 x34 x35 x36 x37 x38 x39 x40 x41 x42 x43 x44 x45 x46 x47 x48 x49 x50 x51 x52 x53 x54 x55 x56 x57 x58 x59 x60 x61 x62 x63 x64 x65 x66 x67 x68 x69 x70 x71 x72 : Value) (Q : Exit → Act → World → Prop) (hQ : ∀ W1, Below W0.heap.size W0 W1 → Q .normal { tmps := #[x0, x1, x2, x3, x4, x5, .bool true, .bool true, .pointer (some ⟨D8, 0, none⟩), .pointer (some ⟨D9, 0, none⟩), .pointer (some ⟨D10, 0, none⟩), x11, x12, x13, x14, x15, x16, x17, x18, x19, x20, x21, x22, x23, x24, x25, x26, x27, x28, x29, x30, x31, x32, x33, x34, x35, x36, x37, x38, x39, x40, x41, x42, x43, x44, x45, x46, x47, x48, x49, x50, x51, x52, x53, x54, x55, x56, .bool true, .bool true, .pointer (some ⟨D9, 0, none⟩), .int .i64 q.k, .bool false, .bool false, .pointer (some ⟨D9, 0, none⟩), .int .i64 q.k, .bool true, .bool true, .bool true, undef, undef, undef, .bool true, .bool true], defers := [] } W1) :
  wpList Tryz.prog (opsOf Tryz.f4 8) Q (opsOf Tryz.f4 8).toList { tmps := #[x0, x1, x2, x3, x4, x5, x6, .bool true, .pointer (some ⟨D8, 0, none⟩), .pointer (some ⟨D9, 0, none⟩), .pointer (some ⟨D10, 0, none⟩), x11, x12, x13, x14, x15, x16, x17, x18, x19, x20, x21, x22, x23, x24, x25, x26, x27, x28, x29, x30, x31, x32, x33, x34, x35, x36, x37, x38, x39, x40, x41, x42, x43, x44, x45, x46, x47, x48, x49, x50, x51, x52, x53, x54, x55, x56, x57, x58, x59, x60, x61, x62, x63, x64, x65, x66, x67, x68, x69, x70, x71, x72], defers := [] } W0 := by
 refine line_start ?_
 refine lineP (i := 0) (v := .bool true) rfl (by kernel_rfl) ?_
 simp only [Act.put, zz0, zz1, zz2]
 refine lineP (i := 1) (v := .bool true) rfl (by kernel_rfl) ?_
 simp only [Act.put, zz0, zz1, zz2]
 refine lineP (i := 2) (v := .pointer (some ⟨D9, 0, none⟩)) rfl (by go_simp) ?_
 simp only [Act.put, zz0, zz1, zz2]
 refine lineP (i := 3) (v := .int .i64 q.k) rfl (by (have hc := Is.cell i9 0; go_simp)) ?_
 simp only [Act.put, zz0, zz1, zz2]
 refine lineP (i := 4) (v := .bool false) rfl (by exact exec_bin10 rfl rfl rfl (eqI_no13 hk _) (by go_simp)) ?_
 simp only [Act.put, zz0, zz1, zz2]
 refine lineP (i := 5) (v := .bool false) rfl (by kernel_rfl) ?_
 simp only [Act.put, zz0, zz1, zz2]
 refine lineP (i := 6) (v := .pointer (some ⟨D9, 0, none⟩)) rfl (by go_simp) ?_
 simp only [Act.put, zz0, zz1, zz2]
 refine lineP (i := 7) (v := .int .i64 q.k) rfl (by (have hc := Is.cell i9 0; go_simp)) ?_
 simp only [Act.put, zz0, zz1, zz2]
 refine lineP (i := 8) (v := .bool true) rfl (by exact exec_bin10 rfl rfl rfl (eqI_yes10 hk3 _) (by go_simp)) ?_
 simp only [Act.put, zz0, zz1, zz2]
 refine lineP (i := 9) (v := .bool true) rfl (by kernel_rfl) ?_
 simp only [Act.put, zz0, zz1, zz2]
 refine lineP (i := 10) (v := .bool true) rfl (by kernel_rfl) ?_
 simp only [Act.put, zz0, zz1, zz2]
 refine lineO (i := 11) rfl ?_
 simp only [Act.put, zz0, zz1, zz2]
 refine lineO (i := 12) rfl ?_
 simp only [Act.put, zz0, zz1, zz2]
 refine lineO (i := 13) rfl ?_
 simp only [Act.put, zz0, zz1, zz2]
 refine lineP (i := 14) (v := .bool true) rfl (by kernel_rfl) ?_
 simp only [Act.put, zz0, zz1, zz2]
 refine lineP (i := 15) (v := .bool true) rfl (by kernel_rfl) ?_
 simp only [Act.put, zz0, zz1, zz2]
 refine lineP (i := 16) (v := .bool true) rfl (by kernel_rfl) ?_
 simp only [Act.put, zz0, zz1, zz2]
 exact line_done (by decide +kernel) (hQ _ (Below.refl _ _))
theorem tw13_8c (W0 : World) (D8 D9 D10 : Nat) (q : Req11) (B1 B2 : Option Addr) (d1 d2 : Nat) (i9 : Is W0 D9 26 (reqA q.k B1 q.L.length d1 B2 q.C.length d2)) (hk : q.k ≠ 1) (hk3 : q.k ≠ 3) (s : Srv13) (A1 A2 : Option Addr) (c1 c2 : Nat) (hlen : s.S.B.length ≤ 4096) (i8 : Is W0 D8 33 (srvA s A1 c1)) (i10 : Is W0 D10 33 (srvA s A2 c2)) (h1 : InS W0 s.S A1 c1) (h2 : InS W0 s.S A2 c2) (x0 x1 x2 x3 x4 x5 x6 x11 x12 x13 x14 x15 x16 x17 x18 x19 x20 x21 x22 x23 x24 x25 x26 x27 x28 x29 x30 x31 x32 x33 x34 x35 x36 x37 x38 x39 x40 x41 x42 x43 x44 x45 x46 x47 x48 x49 x50 x51 x52 x53 x54 x55 x56 x57 x58 x59 x60 x61 x62 x63 x64 x65 x66 x67 x68 x69 x70 x71 x72 : Value) (Q : Exit → Act → World → Prop) (hQ : ∀ W1, Below W0.heap.size W0 W1 → Q .normal { tmps := #[x0, x1, x2, x3, x4, x5, .bool true, .bool true, .pointer (some ⟨D8, 0, none⟩), .pointer (some ⟨D9, 0, none⟩), .pointer (some ⟨D10, 0, none⟩), x11, x12, x13, x14, x15, x16, x17, x18, x19, x20, x21, x22, x23, x24, x25, x26, x27, x28, x29, x30, x31, x32, x33, x34, x35, x36, x37, x38, x39, x40, x41, x42, x43, x44, x45, x46, x47, x48, x49, x50, x51, x52, x53, x54, x55, x56, .bool true, .bool true, .pointer (some ⟨D9, 0, none⟩), .int .i64 q.k, .bool false, .bool false, .pointer (some ⟨D9, 0, none⟩), .int .i64 q.k, .bool false, .bool false, .bool false, .agg (srvA s A1 c1), .agg (srvA s A2 c2), .bool true, .bool true, .bool true], defers := [] } W1) :
  wpList Tryz.prog (opsOf Tryz.f4 8) Q (opsOf Tryz.f4 8).toList { tmps := #[x0, x1, x2, x3, x4, x5, x6, .bool true, .pointer (some ⟨D8, 0, none⟩), .pointer (some ⟨D9, 0, none⟩), .pointer (some ⟨D10, 0, none⟩), x11, x12, x13, x14, x15, x16, x17, x18, x19, x20, x21, x22, x23, x24, x25, x26, x27, x28, x29, x30, x31, x32, x33, x34, x35, x36, x37, x38, x39, x40, x41, x42, x43, x44, x45, x46, x47, x48, x49, x50, x51, x52, x53, x54, x55, x56, x57, x58, x59, x60, x61, x62, x63, x64, x65, x66, x67, x68, x69, x70, x71, x72], defers := [] } W0 := by
 refine line_start ?_
 refine lineP (i := 0) (v := .bool true) rfl (by kernel_rfl) ?_
 simp only [Act.put, zz0, zz1, zz2]
 refine lineP (i := 1) (v := .bool true) rfl (by kernel_rfl) ?_
 simp only [Act.put, zz0, zz1, zz2]
 refine lineP (i := 2) (v := .pointer (some ⟨D9, 0, none⟩)) rfl (by go_simp) ?_
 simp only [Act.put, zz0, zz1, zz2]
 refine lineP (i := 3) (v := .int .i64 q.k) rfl (by (have hc := Is.cell i9 0; go_simp)) ?_
 simp only [Act.put, zz0, zz1, zz2]
 refine lineP (i := 4) (v := .bool false) rfl (by exact exec_bin10 rfl rfl rfl (eqI_no13 hk _) (by go_simp)) ?_
 simp only [Act.put, zz0, zz1, zz2]
 refine lineP (i := 5) (v := .bool false) rfl (by kernel_rfl) ?_
 simp only [Act.put, zz0, zz1, zz2]
 refine lineP (i := 6) (v := .pointer (some ⟨D9, 0, none⟩)) rfl (by go_simp) ?_
 simp only [Act.put, zz0, zz1, zz2]
 refine lineP (i := 7) (v := .int .i64 q.k) rfl (by (have hc := Is.cell i9 0; go_simp)) ?_
 simp only [Act.put, zz0, zz1, zz2]
 refine lineP (i := 8) (v := .bool false) rfl (by exact exec_bin10 rfl rfl rfl (eqI_no13 hk3 _) (by go_simp)) ?_
 simp only [Act.put, zz0, zz1, zz2]
 refine lineP (i := 9) (v := .bool false) rfl (by kernel_rfl) ?_
 simp only [Act.put, zz0, zz1, zz2]
 refine lineP (i := 10) (v := .bool false) rfl (by kernel_rfl) ?_
 simp only [Act.put, zz0, zz1, zz2]
 refine lineP (i := 11) (v := .agg (srvA s A1 c1)) rfl (by exact exec_load10 rfl rfl (run_loadVar_row _ _ 33 33 _ (0, 0) _ i8 Tryz.underlying33 rfl infoSrv13)) ?_
 simp only [Act.put, zz0, zz1, zz2]
 refine lineP (i := 12) (v := .agg (srvA s A2 c2)) rfl (by exact exec_load10 rfl rfl (run_loadVar_row _ _ 33 33 _ (0, 0) _ i10 Tryz.underlying33 rfl infoSrv13)) ?_
 simp only [Act.put, zz0, zz1, zz2]
 refine line_call13 (i := 13) (at_nth rfl) (by kernel_rfl) (fun wy => by kernel_rfl) ((dsame13_any s s A1 A2 c1 c2 W0 hlen h1 h2).mono ?_)
 rintro e W1 ⟨R, rfl, hR, hb⟩
 have hR : R = true := hR.2 rfl
 subst hR
 refine ⟨_, rfl, ?_⟩
 simp only [Act.put, zz0, zz1, zz2]
 refine lineP (i := 14) (v := .bool true) rfl (by kernel_rfl) ?_
 simp only [Act.put, zz0, zz1, zz2]
 refine lineP (i := 15) (v := .bool true) rfl (by kernel_rfl) ?_
 simp only [Act.put, zz0, zz1, zz2]
 refine lineP (i := 16) (v := .bool true) rfl (by kernel_rfl) ?_
 simp only [Act.put, zz0, zz1, zz2]
 exact line_done (by decide +kernel) (hQ _ hb)
end Go.Proofs.YtmggbbmpckcleaaGreat
