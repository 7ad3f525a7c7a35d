/-
  strings.Join of a few texts with nothing between them: the shelf's contract, laid over this program.
-/
import Derived.Test.YtapfbcpbiagogaaWirQ
import Derived.Test.YtapfbcpbiagogaaCodL
import Derived.Shelf.Strings.OnBuilder
namespace Go.Proofs.Ytapfbcpbiagogaa
open Go.RowKit Go.Shelf

def renF11 (n : Nat) : Nat := if n = 156 then 50 else if n = 165 then 66 else if n = 166 then 67 else if n = 169 then 68 else if n = 240 then 76 else if n = 241 then 77 else if n = 276 then 79 else if n = 277 then 80 else n
def renT11 (n : Nat) : Nat := if n = 0 then 0 else if n = 3 then 3 else if n = 4 then 4 else if n = 5 then 5 else if n = 9 then 9 else if n = 20 then 20 else if n = 31 then 24 else if n = 37 then 45 else if n = 70 then 93 else if n = 72 then 95 else if n = 75 then 98 else if n = 76 then 99 else if n = 80 then 101 else if n = 127 then 107 else if n = 164 then 114 else n
def ren11 : Ren := ⟨renF11, renT11, fun n => n⟩
theorem lays11 : Lays.n156 Try.prog ren11 where
  mixed := by kernel_rfl
  f156 := Try.func50.trans (by kernel_rfl)
  f165 := Try.func66.trans (by kernel_rfl)
  f166 := Try.func67.trans (by kernel_rfl)
  f169 := Try.func68.trans (by kernel_rfl)
  f240 := Try.func76.trans (by kernel_rfl)
  f241 := Try.func77.trans (by kernel_rfl)
  f276 := Try.func79.trans (by kernel_rfl)
  f277 := Try.func80.trans (by kernel_rfl)
  t0 := Try.underlying0
  a0 := Try.isAgg0
  z0 := Try.sizeOf0
  v0 := Try.zeroValue0
  t3 := Try.underlying3
  a3 := Try.isAgg3
  z3 := Try.sizeOf3
  v3 := Try.zeroValue3
  t4 := Try.underlying4
  a4 := Try.isAgg4
  z4 := Try.sizeOf4
  v4 := Try.zeroValue4
  t9 := Try.underlying9
  a9 := Try.isAgg9
  z9 := Try.sizeOf9
  v9 := Try.zeroValue9
  t20 := Try.underlying20
  a20 := Try.isAgg20
  z20 := Try.sizeOf20
  v20 := Try.zeroValue20
  t31 := Try.underlying24
  a31 := Try.isAgg24
  z31 := Try.sizeOf24
  v31 := Try.zeroValue24
  t37 := Try.underlying45
  a37 := Try.isAgg45
  z37 := Try.sizeOf45
  v37 := Try.zeroValue45
  t70 := Try.underlying93
  a70 := Try.isAgg93
  z70 := Try.sizeOf93
  v70 := Try.zeroValue93
  t72 := Try.underlying95
  a72 := Try.isAgg95
  z72 := Try.sizeOf95
  v72 := Try.zeroValue95
  t75 := Try.underlying98
  a75 := Try.isAgg98
  z75 := Try.sizeOf98
  v75 := Try.zeroValue98
  t76 := Try.underlying99
  a76 := Try.isAgg99
  z76 := Try.sizeOf99
  v76 := Try.zeroValue99
  t127 := Try.underlying107
  a127 := Try.isAgg107
  z127 := Try.sizeOf107
  v127 := Try.zeroValue107
  t164 := Try.underlying114
  a164 := Try.isAgg114
  z164 := Try.sizeOf114
  v164 := Try.zeroValue114
theorem extra11 : Builder.Extra Try.prog ren11 where
  sizeBuilder := by kernel_rfl
  liesBuilder := by kernel_rfl
  t5 := Try.underlying5
  a5 := Try.isAgg5
  z5 := Try.sizeOf5
  v5 := Try.zeroValue5
  infoByte := by kernel_rfl
  cellsByte := by kernel_rfl
  sizeByte := by kernel_rfl
  neB5 := by decide
/-- some texts, one behind the other. -/
def all11 (l : List ByteArray) : ByteArray := l.foldl (fun o s => o ++ s) ⟨#[]⟩
theorem join_all11 (l : List ByteArray) : (⟨(Lib.join (l.map (·.data.toList)) []).toArray⟩ : ByteArray) = all11 l := by
  have hcat : ∀ (l : List ByteArray) (o : ByteArray), l.foldl (fun o s => o ++ s) o = o ++ all11 l := fun l => by
    induction l with
    | nil => intro o; exact ByteArray.append_empty.symm
    | cons s r ih =>
      intro o
      rw [all11, List.foldl_cons, List.foldl_cons, ih, ih (⟨#[]⟩ ++ s), ← ByteArray.append_assoc, show (⟨#[]⟩ : ByteArray) ++ s = s from ByteArray.empty_append]
  induction l with
  | nil => rfl
  | cons s r ih =>
    rw [all11, List.foldl_cons, hcat, ← ih, show (⟨#[]⟩ : ByteArray) ++ s = s from ByteArray.empty_append]
    apply ByteArray.ext
    apply Array.toList_inj.1
    cases r with
    | nil => simp [Lib.join, ByteArray.data_append]
    | cons x t => simp [Lib.join, ByteArray.data_append]
theorem join_any11 (g : Nat) (l : List ByteArray) (w : World) (h : Is w g 9 (l.map Value.string).toArray) (hl : l.length ≤ 1000) (hz : (all11 l).size ≤ 1000000) :
    Calls Try.prog 50 #[.slice (some ⟨g, 0, none⟩) l.length l.length, .string ⟨#[]⟩] w fun e w' => e = .returned (.string (all11 l)) ∧ Below w.heap.size w w' := by
  have h1 := Any.strings_Join lays11 extra11 g 0 l.length l ⟨#[]⟩ w (fun j x hj => by rw [Nat.zero_add, h.cell]; simp [hj]) h.lt (by omega) (Nat.le_refl _) (by
    have e := congrArg ByteArray.size (join_all11 l)
    have e2 : (Lib.join (l.map (·.data.toList)) []).length = (all11 l).size := by rw [← e]; simp [ByteArray.size]
    show (Lib.join (l.map (·.data.toList)) []).length ≤ _
    omega)
  have e3 := join_all11 l
  refine h1.mono ?_
  rintro e w' ⟨rfl, hb⟩
  exact ⟨by rw [← e3], hb⟩
end Go.Proofs.Ytapfbcpbiagogaa
