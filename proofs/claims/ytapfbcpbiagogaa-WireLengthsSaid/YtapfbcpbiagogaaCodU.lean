/-
  Contracts of codec.texts and of the iterator that it returns: one text after another, the first error last. Condition: bytes that a right cursor may have; at most a thousand are asked for.
-/
import Derived.Test.YtapfbcpbiagogaaCodT
import Derived.Test.YtapfbcpbiagogaaSeqL
import Derived.Lib.BufStepsIn
namespace Go.Proofs.Ytapfbcpbiagogaa
open Go.RowKit Go.Shelf
attribute [local go_sem] Oper.semAt_some

theorem yieldAt_any10 {m m' : Nat} {P : Program} {l : Nat} {args : Array Value} {W : World} {R : Ending → World → Prop} (h : YieldAt Fence.wide m P l args W R) : YieldAt Fence.wide m' P l args W R := by
  obtain ⟨fn, tmps, assign, body, h1, h2, h3⟩ := h
  exact ⟨fn, tmps, assign, body, h1, h2, fun c cs _ => h3 c cs (room_wide _)⟩
abbrev enc10 (x : ByteArray × Int) : Array Value := #[.string x.1, .int .i64 x.2]
set_option maxRecDepth 100000 in
set_option maxHeartbeats 1000000 in
theorem texts_any10 (s : ByteArray) (N : Int) (w : World) :
    Calls Try.prog 78 #[.string s, .int .i64 N] w fun e w' => e = .returned (.func (.func 81) #[] #[.pointer (some ⟨w.heap.size + 1, 0, none⟩), .pointer (some ⟨w.heap.size, 0, none⟩)]) ∧ w' = (w.alloc (.cells #[.string s] 9)).alloc (.cells #[.int .i64 N] 3) := by
  go_enter Try.func78, Try.ntmps78
  go_wp2
  go_ret
  exact ⟨rfl, rfl⟩

set_option maxRecDepth 100000 in
set_option maxHeartbeats 4000000 in
theorem texts_seq10 (n : Nat) (hn : 1 ≤ n) (Bs Bn : Nat) (s : ByteArray) (N : Nat) (w : World) (hs : s.size ≤ 65536) (hN : N ≤ 1000) (hBs : Is w Bs 9 #[.string s]) (hBn : Is w Bn 3 #[.int .i64 (N : Int)]) (S : Nat → Prop) (hSs : S Bs) (hSn : S Bn) :
    SeqL Fence.wide n Try.prog 81 #[.pointer (some ⟨Bn, 0, none⟩), .pointer (some ⟨Bs, 0, none⟩)] enc10 (tld10 s N) S w := by
  intro l J Jx W hW hJ hJx hY h0
  refine callsIn_of_wp Try.func81 rfl trivial ?_ rfl
  simp only [Try.ntmps81, List.size_toArray, List.length_cons, List.length_nil, Nat.reduceAdd, Nat.reduceSub, Array.replicate_succ, Array.replicate_zero, List.push_toArray, List.append_toArray, List.nil_append, List.cons_append]
  have cN : W.cell? ⟨Bn, 0, none⟩ = some (.int .i64 (N : Int)) := (hW.is hBn hSn).cell 0
  have iS := hW.is hBs hSs
  have HY := Lib.hid hY
  have HJ := Lib.hid hJ
  have HS := Lib.hid hs
  have HSS := Lib.hid hSs
  clear hY hJ hJx hs hBs hBn hSs hSn hW
  gi_wp2
  clear cN
  gi_loopw [4, 9] (fun a i wr => ∃ k : Nat, k ≤ N ∧ i = .int .i64 (k : Int) ∧ a = .int .i64 (pl10 s k) ∧ no10 s k = 0 ∧ J k wr ∧ Is wr Bs 9 #[.string s] ∧ W.heap.size ≤ wr.heap.size) (fun _ i _ => N - (intOf i).toNat)
  case atStart => exact ⟨0, by omega, rfl, by rw [pl_zero10], rfl, h0, iS, Nat.le_refl _⟩
  case round =>
    clear h0 iS
    obtain ⟨k, hk, rfl, rfl, hno, hJk, iS, hsz⟩ := hrel
    by_cases hlt : k < N
    · have hk1 : (k : Int) < (N : Int) := by omega
      have cS : wr.cell? ⟨Bs, 0, none⟩ = some (.string s) := iS.cell 0
      have hT := tks_ok10 (B := s) (a := 0) (by omega) (by omega) k hno
      have t1 : 0 ≤ pl10 s k := by have := hT.ahead; unfold pl10; omega
      have t2 : pl10 s k ≤ (s.size : Int) := hT.right
      have hz := HS.out
      have hsl := fun wx : World => run_slice_string (P := Try.prog) wx 9 s .i64 .i64 (pl10 s k) (s.size : Int) Try.underlying9 t1 t2 (Int.le_refl _)
      have hFT := fun W => ftext_any10 (s.extract (pl10 s k).toNat (s.size : Int).toNat) W (by rw [ex_size10 (by omega)]; omega)
      have hsh := tt_sh10 (B := s) (x := (pl10 s k).toNat) (by omega) hz (a := 0) (by omega)
      rw [show (((pl10 s k).toNat : Nat) : Int) + 0 = pl10 s k by omega, show (((pl10 s k).toNat : Nat) : Int) = pl10 s k by omega] at hsh
      rw [show ((s.size : Int)).toNat = s.size by omega] at hFT hsl
      rw [ftR10, hsh] at hFT
      have hI : it10 s k = ((ttV10 s (pl10 s k)).1, (ttV10 s (pl10 s k)).2.2) := rfl
      have HAT := Lib.hid (tld_at10 hno hlt)
      have HPL := Lib.hid (pl_step10 hno)
      have HNO := Lib.hid (no_step10 hno)
      have HEND := Lib.hid (fun h => tld_end10 hno h hlt)
      have hbd : (it10 s k).2 = 0 → pl10 s k ≤ (ttV10 s (pl10 s k)).2.1 ∧ (ttV10 s (pl10 s k)).2.1 ≤ (s.size : Int) := fun h => ⟨by have := (tt_ok10 h).to; omega, (tt_ok10 h).right.2.2⟩
      rw [hI] at HAT HPL HNO HEND hbd
      generalize ttV10 s (pl10 s k) = V at *
      obtain ⟨tx, en, er⟩ := V
      simp only at hFT HAT HPL HNO HEND hbd
      have HFT := Lib.hid hFT
      generalize pl10 s k = a at *
      have hz1 : (s.size : Int) ≤ 65536 := by omega
      have w1i := IntWalk.i64_in ((k : Int) + 1) (by omega)
      have HBD := Lib.hid hbd
      clear hT hsh hFT hI hz hbd hno
      gi_wp2_with (refine ⟨trivial, ?_⟩; gi_at_call 82; refine (callsIn_wide.2 (HFT.out _)).mono ?_; rintro e W4 ⟨rfl, hb4⟩)
      have hJ4 := HJ.out k wr W4 none hJk (grownG hb4) (fun r e => by cases e)
      have iS4 := iS.below hb4 iS.lt
      have hsz4 := Nat.le_trans hsz hb4.size
      clear cS hsl hJk iS hsz hb4
      obtain ⟨fn, tmps, assign, body, hy, hR⟩ := HY.out k (tx, er) W4 HAT.out hJ4
      simp only [enc10] at hy
      have HR := Lib.hid hR
      clear hR
      by_cases he : er = 0
      · subst he
        have hen := (HBD.out rfl).2
        have hen1 := (HBD.out rfl).1
        have w2i := IntWalk.i64_in (a + (en - a)) (by omega)
        have HPN := Lib.hid (HPL.out rfl)
        clear HPL HBD HEND
        rw [hy]
        gi_wp2
        refine HR.out.mono ?_
        rintro e W5 (⟨rfl, hJ5, hS5⟩ | ⟨rfl, hJx5, _⟩)
        · gi_wp2
          go_roundw
          case rel => exact ⟨k + 1, by omega, by go_num, by rw [HPN.out]; go_num, HNO.out, hJ5, hS5.is iS4 (.inl HSS.out), Nat.le_trans hsz4 hS5.size⟩
          case measure => simp [intOf]; omega
        · gi_wp2
          refine bodyPost_ret (results_none rfl _ _ _) rfl ?_
          exact ⟨⟨_, rfl⟩, .inr ⟨_, hJx5⟩⟩
      · have hL := Lib.hid (HEND.out he)
        clear HPL HBD HEND
        rw [hy]
        gi_wp2
        refine HR.out.mono ?_
        rintro e W5 (⟨rfl, hJ5, _⟩ | ⟨rfl, hJx5, _⟩)
        · gi_wp2
          refine bodyPost_ret (results_none rfl _ _ _) rfl ?_
          exact ⟨⟨_, rfl⟩, .inl (by rw [hL.out]; exact hJ5)⟩
        · gi_wp2
          refine bodyPost_ret (results_none rfl _ _ _) rfl ?_
          exact ⟨⟨_, rfl⟩, .inr ⟨_, hJx5⟩⟩
    · have hk1 : ¬ (k : Int) < (N : Int) := by omega
      obtain rfl : k = N := by omega
      have hL := Lib.hid (tld_len10 hno)
      gi_wp2
      go_end0
      exact ⟨⟨_, rfl⟩, .inl (by rw [hL.out]; exact hJk)⟩
end Go.Proofs.Ytapfbcpbiagogaa
