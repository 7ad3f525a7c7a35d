/-
  Contracts of columbariumref07.Turn, whatever it is asked, of Ints where both lists are one, and of the statements' own pick and Tape.
-/
import Derived.Test.YtchgkiallbpjkaaTapR
import Derived.Test.YtchgkiallbpjkaaPick
import Derived.Lib.MinMax
namespace Go.Proofs.Ytchgkiallbpjkaa
open Go.RowKit Go.Shelf

set_option maxHeartbeats 1000000 in
/-- the document's Turn, whatever it is asked. -/
theorem dturn_any (B : ByteArray) (a : Int) (A : Option Addr) (cap : Nat) (L : List Int) (w : World) (hc : InL w A L) (hn : A = none → cap = 0) :
    Calls Try.prog 20 #[.agg #[.string B, .int .i64 a], .slice A L.length cap] w fun e w' => ∃ A' c', e = .returned (.tuple #[.slice A' (turnV B a L).length c', .agg #[.string B, .int .i64 (turnA B a L)], .int .i64 (turnE B a L)]) ∧ RowD w' w.heap.size A' c' (turnV B a L) ∧ Below w.heap.size w w' := by
  cases hr : rightV B a with
  | false =>
    have hE : turnE B a L = 1 := by rw [turnE, hr]; rfl
    have hV : turnV B a L = [] := by rw [turnV, hE]; rfl
    have hA : turnA B a L = a := by rw [turnA, hE]; rfl
    rw [hE, hV, hA]
    exact rturn_no B a A cap L w hr
  | true =>
    by_cases hl : 1000 < L.length
    · have hE : turnE B a L = 2 := by rw [turnE, if_pos hr, if_pos hl]
      have hV : turnV B a L = [] := by rw [turnV, hE]; rfl
      have hA : turnA B a L = a := by rw [turnA, hE]; rfl
      rw [hE, hV, hA]
      exact rturn_long B a A cap L w hr hl
    · exact rturn_go B a A cap L w hr (by omega) hc hn
theorem RowD.inL {W : World} {base : Nat} {A : Option Addr} {c : Nat} {L : List Int} (h : RowD W base A c L) : InL W A L := fun j hj => by
  obtain ⟨g, cur, rfl, _, hI, _, _, _, ht⟩ := h.open (by omega)
  refine ⟨g, 0, rfl, hI.lt, ?_⟩
  rw [Nat.zero_add, hI.cell]
  exact row_at ht hj

set_option maxRecDepth 100000 in
set_option maxHeartbeats 2000000 in
theorem ints_same (A A2 : Option Addr) (c c2 : Nat) (L : List Int) (w : World) (hL : L.length ≤ 1000) (h1 : InL w A L) (h2 : InL w A2 L) :
    Calls Try.prog 21 #[.slice A L.length c, .slice A2 L.length c2] w fun e w' => e = .returned (.bool true) ∧ Below w.heap.size w w' := by
  have H1 := Lib.hid h1
  have H2 := Lib.hid h2
  clear h1 h2
  go_enter Try.func21, Try.ntmps21
  go_wp2
  go_loopw [5] (fun i wr => ∃ k m : Nat, k ≤ L.length ∧ i = .int .i64 (k : Int) ∧ wr = w.drewN m) (fun i _ => L.length - (intOf i).toNat)
  case atStart => exact ⟨0, 0, by omega, rfl, rfl⟩
  case round =>
    obtain ⟨k, m, hk, rfl, rfl⟩ := hrel
    by_cases hlt : k < L.length
    · obtain ⟨b, off, rfl, _, e1⟩ := H1.out k hlt
      obtain ⟨b2, off2, rfl, _, e2⟩ := H2.out k hlt
      generalize L.getD k 0 = y at *
      have hl1 : (k : Int) < (L.length : Int) := by omega
      go_wp2
      go_region
      go_wp2
      go_roundw
      case rel => exact ⟨k + 1, m + 1, by omega, by go_num, rfl⟩
      case measure => simp [intOf]; omega
    · have hl1 : ¬ (k : Int) < (L.length : Int) := by omega
      go_wp2
      go_ret
      exact ⟨rfl, belowN (Below.refl _ _) m⟩

set_option maxHeartbeats 1000000 in
theorem pick7_any (c n : Int) (w : World) (h0 : -9223372036854775808 ≤ c) (h1 : c ≤ 9223372036854775807) (hn : 0 < n) (hn2 : n ≤ 9223372036854775807) :
    Calls Try.prog 14 #[.int .i64 c, .int .i64 n] w fun e w' => e = .returned (.int .i64 (pickN c n)) ∧ w = w' := by
  by_cases hc : c < 0
  · have hd : pickN c n = (-(c + 1)) % n := by simp [pickN, hc]
    rw [hd]
    clear hd
    go_enter Try.func14, Try.ntmps14
    go_wp2
    go_ret
    refine ⟨?_, rfl⟩
    have e : -((c + 1).tmod n) = (-(c + 1)) % n := by rw [← Int.neg_tmod, Int.tmod_eq_emod_of_nonneg (by omega)]
    rw [← e]
    rfl
  · have hd : pickN c n = c % n := by simp [pickN, hc]
    rw [hd]
    clear hd
    go_enter Try.func14, Try.ntmps14
    go_wp2
    go_ret
    exact ⟨rfl, rfl⟩

/-- at most so many bytes of a text. -/
def cut7 (s : ByteArray) : ByteArray := s.extract 0 (min s.size 500)
theorem cut7_size (s : ByteArray) : (cut7 s).size = min s.size 500 := by simp [cut7]
/-- a place on a tape, of a raw number. -/
def at7 (s : ByteArray) (at_ : Int) : Int := pickN at_ ((cut7 s).size + 1)
theorem at7_bd (s : ByteArray) (at_ : Int) : 0 ≤ at7 s at_ ∧ at7 s at_ ≤ (cut7 s).size := by
  have := pickN_bd at_ ((cut7 s).size + 1) (by omega)
  unfold at7
  omega
theorem at7_right (s : ByteArray) (at_ : Int) : rightV (cut7 s) (at7 s at_) = true := rightV_iff.2 ⟨by rw [cut7_size]; omega, (at7_bd s at_).1, (at7_bd s at_).2⟩

set_option maxRecDepth 100000 in
set_option maxHeartbeats 1000000 in
theorem tape7_any (s : ByteArray) (at_ : Int) (w : World) (h0 : -9223372036854775808 ≤ at_ ∧ at_ ≤ 9223372036854775807) :
    Calls Try.prog 9 #[.string s, .int .i64 at_] w fun e w' => e = .returned (.agg #[.string (cut7 s), .int .i64 (at7 s at_)]) ∧ Below w.heap.size w w' := by
  have hs := cut7_size s
  have PK := Lib.hid (fun w => pick7_any at_ ((cut7 s).size + 1) w h0.1 h0.2 (by omega) (by omega))
  change Hid (∀ w, Calls _ _ _ w fun e w' => e = .returned (.int .i64 (at7 s at_)) ∧ w = w') at PK
  have w1i := IntWalk.i64_in (((cut7 s).size : Int) + 1) (by omega)
  have hsl : ∀ wx : World, (Instr.slice 9 (.string s) none (some (.int .i64 (min (s.size : Int) 500))) none).run Try.prog wx = .ok (.string (cut7 s)) wx := fun wx => by
    obtain ⟨m, hm⟩ : ∃ m : Nat, m = min s.size 500 := ⟨_, rfl⟩
    have := run_slice_string_h (P := Try.prog) (w := wx) (t := 9) (s := s) Try.underlying9 .i64 (m : Int) (by omega) (by omega)
    rw [Int.toNat_natCast] at this
    rw [show min (s.size : Int) 500 = (m : Int) by omega, cut7, ← hm]
    exact this
  generalize at7 s at_ = p at *
  generalize cut7 s = C at *
  clear hs
  go_enter Try.func9, Try.ntmps9
  go_wp2_with fail
  refine (PK.out _).mono ?_
  rintro e w' ⟨rfl, rfl⟩
  go_wp2
  exact bodyPost_ret (results_cell_row Try.results9 _ _ w.heap.size 23 #[.string C, .int .i64 p] (0, 0) _ rfl (Is.new w _ _) Try.underlying23 rfl infoTape) rfl ⟨rfl, (Below.refl _ _).alloc (Nat.le_refl _) _⟩
end Go.Proofs.Ytchgkiallbpjkaa
