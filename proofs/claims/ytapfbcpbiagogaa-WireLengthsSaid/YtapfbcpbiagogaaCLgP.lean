/-
  CodecLong: noughts as lists of empty texts; rows of empty texts made; operations of its drawn region.
-/
import Derived.Test.YtapfbcpbiagogaaCoeE
import Derived.OwnWalk
import Derived.SizedLaws
namespace Go.Proofs.Ytapfbcpbiagogaa
open Go.RowKit Go.Shelf

theorem infoThree10 {P : Program} {t : TypeId} {z : Value} {s b : Nat} (h : (P.info? t).map (fun i => (i.zero, i.size, i.bytes)) = some (some z, s, b)) : ∃ i, P.info? t = some i ∧ i.zero = some z ∧ i.size = s ∧ i.bytes = b := by
  cases hq : P.info? t with
  | none => rw [hq] at h; cases h
  | some i =>
    rw [hq] at h
    simp only [Option.map_some, Option.some.injEq, Prod.mk.injEq] at h
    exact ⟨i, rfl, h.1, h.2.1, h.2.2⟩
/-- n noughts. -/
def nulN10 (n : Nat) : ByteArray := strOfNums (List.replicate n 0)
theorem nulN10_size (n : Nat) : (nulN10 n).size = n := by rw [nulN10, strOfNums_size, List.length_replicate]
/-- the cells of n noughts. -/
def nulC10 (n : Nat) : Array Value := (List.replicate n (Value.int .u8 0)).toArray
theorem run_makeN10 (W : World) (n : Nat) (h : n ≤ 2000000) :
    (Instr.makeSlice 45 (.int .i64 (n : Int)) (.int .i64 (n : Int))).run Try.prog W = .ok (.slice (some ⟨W.heap.size, 0, none⟩) n n) (W.alloc (.cells (nulC10 n) 5)) := by
  obtain ⟨i0, hi, hz0, hz1, hz2⟩ := infoThree10 infoU8x
  have h1 := run_make (P := Try.prog) W 45 5 i0 (.int .u8 0) Try.underlying45 hi hz0 .i64 .i64 (n : Int) (n : Int) (by omega) (by omega) (by rw [hz2]; omega) (by omega)
  rw [hz1, Int.toNat_natCast, Nat.mul_one] at h1
  have e : madeCells (Value.int .u8 0).cells n = nulC10 n := by
    apply Array.toList_inj.1
    show (madeCells #[.int .u8 0] n).toList = _
    rw [toList_madeCells_one]
    simp [nulC10]
  rw [e] at h1
  exact h1
theorem run_convN10 {W : World} {g n : Nat} (h : Is W g 5 (nulC10 n)) :
    (convert 45 9 (.slice (some ⟨g, 0, none⟩) n n)).run Try.prog W = .ok (.string (nulN10 n)) W :=
  run_convert_bytes_arg (P := Try.prog) W 45 5 Try.underlying45 Try.underlying5 g 0 n n (List.replicate n 0) (by simp) (fun i hi => by
    rw [Nat.zero_add, h.cell, nulC10]
    simp [hi]) 9 Try.underlying9

/-- n empty texts. -/
def emp10 (n : Nat) : List ByteArray := List.replicate n ⟨#[]⟩
def empC10 (n : Nat) : Array Value := (List.replicate n (Value.string ⟨#[]⟩)).toArray
theorem run_makeS10 (W : World) (n : Nat) (h : n ≤ 100000) :
    (Instr.makeSlice 24 (.int .i64 (n : Int)) (.int .i64 (n : Int))).run Try.prog W = .ok (.slice (some ⟨W.heap.size, 0, none⟩) n n) (W.alloc (.cells (empC10 n) 9)) := by
  obtain ⟨i0, hi, hz0, hz1, hz2⟩ := infoThree10 infoTxt10
  have h1 := run_make (P := Try.prog) W 24 9 i0 (.string ⟨#[]⟩) Try.underlying24 hi hz0 .i64 .i64 (n : Int) (n : Int) (by omega) (by omega) (by rw [hz2]; omega) (by omega)
  rw [hz1, Int.toNat_natCast, Nat.mul_one] at h1
  have e : madeCells (Value.string ⟨#[]⟩).cells n = empC10 n := by
    apply Array.toList_inj.1
    show (madeCells #[.string ⟨#[]⟩] n).toList = _
    rw [toList_madeCells_one]
    simp [empC10]
  rw [e] at h1
  exact h1
theorem emp_in10 (W : World) (n : Nat) : InV (W.alloc (.cells (empC10 n) 9)) (some ⟨W.heap.size, 0, none⟩) (tL10 (emp10 n)) := fun j u hj => by
  have hD := Is.new W 9 (empC10 n)
  refine ⟨W.heap.size, 0, rfl, hD.lt, ?_⟩
  rw [Nat.zero_add, hD.cell j]
  rw [← hj]
  simp [empC10, tL10, emp10, Array.getElem?_replicate, List.getElem?_replicate]
theorem one_in10 (W : World) (s : ByteArray) : InV (W.alloc (.cells #[.string s] 9)) (some ⟨W.heap.size, 0, none⟩) (tL10 [s]) := fun j u hj => by
  have hD := Is.new W 9 #[.string s]
  refine ⟨W.heap.size, 0, rfl, hD.lt, ?_⟩
  rw [Nat.zero_add, hD.cell j]
  rw [← hj]
  simp [tL10]
theorem bt_nul10 {k j : Nat} (h : j < k) : bt7 (nulN10 k) j = 0 := by
  have h1 := bt_nums10 (List.replicate k 0) (fun x hx => by rw [(List.mem_replicate.1 hx).2]; omega) j (by simpa using h)
  rw [show (List.replicate k (0 : Int)).getD j 0 = 0 by simp [List.getD, List.getElem?_replicate]; split <;> rfl] at h1
  rw [nulN10]
  omega
theorem emp_cat10 : ∀ n : Nat, (cat10 (emp10 n)).size = 4 * n ∧ ∀ j, j < 4 * n → bt7 (cat10 (emp10 n)) j = 0
  | 0 => ⟨rfl, fun j h => absurd h (by omega)⟩
  | n + 1 => by
    obtain ⟨h1, h2⟩ := emp_cat10 n
    have e : cat10 (emp10 (n + 1)) = txt10 ⟨#[]⟩ ++ cat10 (emp10 n) := by rw [emp10, List.replicate_succ, cat_cons10]; rfl
    have z : (txt10 ⟨#[]⟩).size = 4 := by rw [txt_size10]; rfl
    rw [e]
    refine ⟨by rw [ByteArray.size_append, z, h1]; omega, fun j h => ?_⟩
    by_cases hj : j < 4
    · rw [bt_app_l10 (by omega)]
      match j, hj with
      | 0, _ => rfl
      | 1, _ => rfl
      | 2, _ => rfl
      | 3, _ => rfl
    · rw [bt_app_r10 (by omega), z]
      exact h2 _ (by omega)
theorem emp_lst10 (n : Nat) : lst10 (emp10 n) = num10 (n : Int) ++ nulN10 (4 * n) := by
  have h : cat10 (emp10 n) = nulN10 (4 * n) := eq_bt10 (by rw [(emp_cat10 n).1, nulN10_size]) fun j hj => by
    rw [(emp_cat10 n).1] at hj
    rw [(emp_cat10 n).2 j hj, bt_nul10 hj]
  rw [lst10, h, emp10, List.length_replicate]
theorem emp_size10 (n : Nat) : (lst10 (emp10 n)).size = 4 + 4 * n := by rw [lst_size10, (emp_cat10 n).1]
theorem app_none10 (x : ByteArray) : x ++ ⟨#[]⟩ = x := eq_bt10 (by rw [ByteArray.size_append]; rfl) fun j hj => bt_app_l10 (by rw [ByteArray.size_append] at hj; exact hj)
theorem none_app10 (x : ByteArray) : (⟨#[]⟩ : ByteArray) ++ x = x := eq_bt10 (by rw [ByteArray.size_append]; show 0 + x.size = x.size; omega) fun j hj => by
  rw [bt_app_r10 (by show 0 ≤ j; omega)]; rfl
/-- what is taken of so many empty texts, and of noughts. -/
theorem emp_take10 {n : Nat} (h : n ≤ 1000) : (tlV10 (num10 (n : Int) ++ nulN10 (4 * n)) 0).2.2 = 0 := by
  have h1 := tl_app10 ⟨#[]⟩ (emp10 n) ⟨#[]⟩ (by simp [emp10]; exact h) (by rw [none_app10, app_none10, emp_size10]; omega)
  rw [none_app10, app_none10, emp_lst10] at h1
  rw [show (((⟨#[]⟩ : ByteArray).size : Nat) : Int) = 0 from rfl] at h1
  rw [h1]
theorem emp_long10 {n : Nat} (h : 1000 < n) (h2 : n ≤ 2000) : tlV10 (num10 (n : Int) ++ nulN10 (4 * n)) 0 = ([], 0, 13) := by
  have h1 := tn_app10 ⟨#[]⟩ (nulN10 (4 * n)) (n := (n : Int)) (by omega) (by rw [none_app10, ByteArray.size_append, num_size10, nulN10_size]; omega)
  rw [none_app10] at h1
  rw [show (((⟨#[]⟩ : ByteArray).size : Nat) : Int) = 0 from rfl] at h1
  rw [tlV10, h1, if_pos rfl, if_pos (by show (1000 : Int) < (n : Int); omega)]
theorem nul_take10 {k : Nat} (h : 4 ≤ k) (h2 : k ≤ 65536) : (tnV10 (nulN10 k) 0).2.2 = 0 := by
  rw [tn_of10 (n := 0) (by rw [nulN10_size]; exact h2) (by omega) (by rw [nulN10_size]; omega) (by
    show ((rd10 (nulN10 k) 0 : Nat) : Int) = 0
    rw [rd10, bt_nul10 (by omega), bt_nul10 (by omega), bt_nul10 (by omega), bt_nul10 (by omega)]; rfl) (by omega)]
theorem nul_long10 {k : Nat} (h : 65536 < k) : tnV10 (nulN10 k) 0 = (0, 0, 1) := tn_wrong10 (by
  cases hr : rightV (nulN10 k) 0 with
  | false => rfl
  | true => exact absurd (rightV_iff.1 hr).1 (by rw [nulN10_size]; omega))
theorem one_size10 (s : ByteArray) : (lst10 [s]).size = s.size + 8 := by
  rw [lst_size10, cat_cons10, ByteArray.size_append, txt_size10]
  show 4 + (4 + s.size + 0) = _
  omega

theorem exec_make10 {P : Program} {w w' : World} {o : Oper} {a : Act} {t : TypeId} {x : Operand} {u v : Value} (ho : o.op = .makeSlice t x x) (hx : a.eval x = u) (h : (Instr.makeSlice t u u).run P w = .ok v w') : (execOp a.eval o).run P w = .ok (.value v) w' := by
  simp only [execOp, ho, hx, h, Sem.run_bind, Sem.run_pure, Result.andThen_ok]
theorem exec_conv10 {P : Program} {w w' : World} {o : Oper} {a : Act} {t t2 : TypeId} {x : Operand} {u v : Value} (ho : o.op = .convert t t2 x) (hx : a.eval x = u) (h : (convert t t2 u).run P w = .ok v w') : (execOp a.eval o).run P w = .ok (.value v) w' := by
  simp only [execOp, ho, hx, h, Sem.run_bind, Sem.run_pure, Result.andThen_ok]
theorem quo10 {n : Int} (h0 : 0 ≤ n) (h1 : n ≤ 2000) (W : World) : (binOp .quo 3 (.int .i64 n) (.int .i64 256)).run Try.prog W = .ok (.int .i64 (n / 256)) W := by
  have e : n.tdiv 256 = n / 256 := Int.tdiv_eq_ediv_of_nonneg h0
  have w1 := IntWalk.i64_in (n / 256) (by omega)
  go_simp
theorem rem10 {n : Int} (h0 : 0 ≤ n) (_h1 : n ≤ 2000) (W : World) : (binOp .rem 3 (.int .i64 n) (.int .i64 256)).run Try.prog W = .ok (.int .i64 (n % 256)) W := by
  have e : n.tmod 256 = n % 256 := Int.tmod_eq_emod_of_nonneg h0
  have w1 := IntWalk.i64_in (n % 256) (by omega)
  go_simp
theorem leI10 (a b : Int) (W : World) : (binOp .leq 3 (.int .i64 a) (.int .i64 b)).run Try.prog W = .ok (.bool (decide (a ≤ b))) W := by
  go_simp
theorem eqE_b10 {a b : Int} {B : Bool} (h : (a == b) = B) (W : World) : (binOp .eql 32 (.int .i64 a) (.int .i64 b)).run Try.prog W = .ok (.bool B) W := by rw [eqE10, h]
theorem leI_b10 {a b : Int} {B : Bool} (h : decide (a ≤ b) = B) (W : World) : (binOp .leq 3 (.int .i64 a) (.int .i64 b)).run Try.prog W = .ok (.bool B) W := by rw [leI10, h]
theorem neB10 (b : Bool) (W : World) : (binOp .neq 4 (.bool b) (.bool b)).run Try.prog W = .ok (.bool false) W := by
  cases b <;> go_simp
theorem conv_four10 {W : World} {g : Nat} {n : Int} (h0 : 0 ≤ n) (h1 : n ≤ 2000) (h : Is W g 5 #[.int .u8 0, .int .u8 0, .int .u8 (n / 256), .int .u8 (n % 256)]) :
    (convert 45 9 (.slice (some ⟨g, 0, none⟩) 4 4)).run Try.prog W = .ok (.string (num10 n)) W :=
  conv_num10 (n := n) (by rw [show n / 16777216 % 256 = 0 by omega, show n / 65536 % 256 = 0 by omega, show n / 256 % 256 = n / 256 by omega]; exact h)
end Go.Proofs.Ytapfbcpbiagogaa
