/-
  Layer 11, plain: requests and responses as bytes, written and taken. Nothing of the program stands here.
-/
import Derived.Test.YtapfbcpbiagogaaCodQ
namespace Go.Proofs.Ytapfbcpbiagogaa
open Go.RowKit

/-- each text has so many bytes, or, where that may be, none; and there are few. -/
def szd11 (l : List ByteArray) (n : Nat) (none : Bool) : Bool := l.all (fun s => decide (s.size = n) || (none && decide (s.size = 0))) && decide (l.length ≤ 200)
structure Req11 where
  k : Int
  L : List ByteArray
  C : List ByteArray
def right11 (q : Req11) : Bool :=
  decide (1 ≤ q.k) && (decide (q.k ≤ 4) && (szd11 q.L 16 false && (szd11 q.C 40 false && (decide q.L.Nodup &&
    (if q.k = 1 then decide (q.C.length = q.L.length) else if q.k = 4 then decide (q.C.length = 0) && decide (q.L.length = 0) else decide (q.C.length = 0))))))
structure Rsp11 where
  k : Int
  st : Int
  C : List ByteArray
  many : Int
  room : Int
def may11 (a : Rsp11) : Bool :=
  decide (0 ≤ a.k) && (decide (a.k ≤ 4) && (decide (0 ≤ a.st) && (decide (a.st ≤ 2) && (szd11 a.C 40 true && (decide (0 ≤ a.many) && (decide (a.many ≤ 2147483647) && (decide (0 ≤ a.room) && (decide (a.room ≤ 2147483647) &&
    ((decide (a.k = 1) || decide (a.st = 0)) && ((decide (a.k = 2) || decide (a.C.length = 0)) && ((decide (a.k = 3) || (decide (a.k = 4) || decide (a.many = 0))) && (decide (a.k = 4) || decide (a.room = 0)))))))))))))
def reqB11 (q : Req11) : ByteArray := num10 q.k ++ lst10 q.L ++ lst10 q.C
def rspB11 (a : Rsp11) : ByteArray := num10 a.k ++ num10 a.st ++ lst10 a.C ++ num10 a.many ++ num10 a.room
def encV11 (q : Req11) : ByteArray × Int := if right11 q then (reqB11 q, 0) else (⟨#[]⟩, 1)
def answV11 (a : Rsp11) : ByteArray × Int := if may11 a then (rspB11 a, 0) else (⟨#[]⟩, 1)
def zreq11 : Req11 := ⟨0, [], []⟩
def zrsp11 : Rsp11 := ⟨0, 0, [], 0, 0⟩
def decV11 (s : ByteArray) : Req11 × Int :=
  if 65536 < s.size then (zreq11, 2)
  else if (tnV10 s 0).2.2 ≠ 0 then (zreq11, (tnV10 s 0).2.2)
  else if (tlV10 s (tnV10 s 0).2.1).2.2 ≠ 0 then (zreq11, (tlV10 s (tnV10 s 0).2.1).2.2)
  else if (tlV10 s (tlV10 s (tnV10 s 0).2.1).2.1).2.2 ≠ 0 then (zreq11, (tlV10 s (tlV10 s (tnV10 s 0).2.1).2.1).2.2)
  else if endV10 s (tlV10 s (tlV10 s (tnV10 s 0).2.1).2.1).2.1 ≠ 0 ∨ right11 ⟨(tnV10 s 0).1, (tlV10 s (tnV10 s 0).2.1).1, (tlV10 s (tlV10 s (tnV10 s 0).2.1).2.1).1⟩ = false then (zreq11, 13)
  else (⟨(tnV10 s 0).1, (tlV10 s (tnV10 s 0).2.1).1, (tlV10 s (tlV10 s (tnV10 s 0).2.1).2.1).1⟩, 0)
/-- what a response's bytes tell, one thing behind the other. -/
def rk11 (s : ByteArray) := tnV10 s 0
def rs11 (s : ByteArray) := tnV10 s (rk11 s).2.1
def rc11 (s : ByteArray) := tlV10 s (rs11 s).2.1
def rm11 (s : ByteArray) := tnV10 s (rc11 s).2.1
def rr11 (s : ByteArray) := tnV10 s (rm11 s).2.1
def rsp11 (s : ByteArray) : Rsp11 := ⟨(rk11 s).1, (rs11 s).1, (rc11 s).1, (rm11 s).1, (rr11 s).1⟩
def readV11 (s : ByteArray) : Rsp11 × Int :=
  if 65536 < s.size then (zrsp11, 2)
  else if (rk11 s).2.2 ≠ 0 then (zrsp11, (rk11 s).2.2)
  else if (rs11 s).2.2 ≠ 0 then (zrsp11, (rs11 s).2.2)
  else if (rc11 s).2.2 ≠ 0 then (zrsp11, (rc11 s).2.2)
  else if (rm11 s).2.2 ≠ 0 then (zrsp11, (rm11 s).2.2)
  else if (rr11 s).2.2 ≠ 0 then (zrsp11, (rr11 s).2.2)
  else if endV10 s (rr11 s).2.1 ≠ 0 ∨ may11 (rsp11 s) = false then (zrsp11, 13)
  else (rsp11 s, 0)
theorem end_ok11 {s : ByteArray} {a : Int} (h : s.size ≤ 65536) (ha : a = (s.size : Int)) : endV10 s a = 0 := by
  rw [endV10, if_pos (rightV_iff.2 ⟨h, by omega, by omega⟩), if_neg (by omega)]
theorem end_zero11 {s : ByteArray} {a : Int} (h : endV10 s a = 0) : a = (s.size : Int) := by
  unfold endV10 at h
  split at h
  · rename_i hr
    have := rightV_iff.1 hr
    split at h
    · exact absurd (show (13 : Int) = 0 from h) (by decide)
    · omega
  · exact absurd (show (1 : Int) = 0 from h) (by decide)
theorem szd_cat11 {l : List ByteArray} {n : Nat} (h : szd11 l n false = true) : (cat10 l).size = (n + 4) * l.length ∧ l.length ≤ 200 := by
  rw [szd11, Bool.and_eq_true, decide_eq_true_eq] at h
  refine ⟨?_, h.2⟩
  have ha := h.1
  clear h
  induction l with
  | nil => rfl
  | cons s r ih =>
    rw [List.all_cons, Bool.and_eq_true] at ha
    have hs : s.size = n := by simpa using ha.1
    rw [cat_cons10, ByteArray.size_append, txt_size10, ih ha.2, hs, List.length_cons, Nat.mul_add]
    omega
theorem szd_le11 {l : List ByteArray} {n : Nat} (h : szd11 l n true = true) : (cat10 l).size ≤ (n + 4) * l.length ∧ l.length ≤ 200 := by
  rw [szd11, Bool.and_eq_true, decide_eq_true_eq] at h
  refine ⟨?_, h.2⟩
  have ha := h.1
  clear h
  induction l with
  | nil => exact Nat.le_refl _
  | cons s r ih =>
    rw [List.all_cons, Bool.and_eq_true] at ha
    have hs : s.size = n ∨ s.size = 0 := by simpa using ha.1
    have := ih ha.2
    rw [cat_cons10, ByteArray.size_append, txt_size10, List.length_cons, Nat.mul_add]
    omega
/-- the bytes of two lists behind a number, taken. -/
theorem dec_bytes11 (q : Req11) (hk : 0 ≤ q.k ∧ q.k ≤ 2147483647) (hL : q.L.length ≤ 1000) (hC : q.C.length ≤ 1000) (hz : (reqB11 q).size ≤ 65536) :
    decV11 (reqB11 q) = if right11 q then (q, 0) else (zreq11, 13) := by
  have e1 : reqB11 q = ⟨#[]⟩ ++ num10 q.k ++ (lst10 q.L ++ lst10 q.C) := by rw [show (⟨#[]⟩ : ByteArray) ++ num10 q.k = num10 q.k from ByteArray.empty_append, reqB11, ByteArray.append_assoc]
  have e3 : reqB11 q = (num10 q.k ++ lst10 q.L) ++ lst10 q.C ++ ⟨#[]⟩ := by rw [show num10 q.k ++ lst10 q.L ++ lst10 q.C ++ (⟨#[]⟩ : ByteArray) = num10 q.k ++ lst10 q.L ++ lst10 q.C from ByteArray.append_empty]; rfl
  have hs := num_size10 q.k
  have t1 := tn_app10 ⟨#[]⟩ (lst10 q.L ++ lst10 q.C) hk (by rw [← e1]; exact hz)
  rw [← e1] at t1
  have t1' : tnV10 (reqB11 q) 0 = (q.k, 4, 0) := t1
  have t2 := tl_app10 (num10 q.k) q.L (lst10 q.C) hL hz
  have t2' : tlV10 (reqB11 q) 4 = (q.L, 4 + ((lst10 q.L).size : Int), 0) := by rw [hs] at t2; exact t2
  have t3 := tl_app10 (num10 q.k ++ lst10 q.L) q.C ⟨#[]⟩ hC (by rw [← e3]; exact hz)
  rw [← e3] at t3
  have t3' : tlV10 (reqB11 q) (4 + ((lst10 q.L).size : Int)) = (q.C, 4 + ((lst10 q.L).size : Int) + ((lst10 q.C).size : Int), 0) := by
    rw [ByteArray.size_append, hs, show (((4 + (lst10 q.L).size : Nat) : Int)) = 4 + ((lst10 q.L).size : Int) by omega] at t3
    exact t3
  have hsz : ((reqB11 q).size : Int) = 4 + ((lst10 q.L).size : Int) + ((lst10 q.C).size : Int) := by rw [reqB11, ByteArray.size_append, ByteArray.size_append, hs]; omega
  have hend := end_ok11 (a := 4 + ((lst10 q.L).size : Int) + ((lst10 q.C).size : Int)) hz hsz.symm
  rw [decV11, if_neg (by omega), t1', if_neg (by simp), t2', if_neg (by simp), t3', if_neg (by simp), hend]
  cases hr : right11 q with
  | true => rw [if_neg (by simp), if_pos rfl]
  | false => rw [if_pos (Or.inr rfl), if_neg (by simp)]
theorem right_sizes11 {q : Req11} (h : right11 q = true) : (1 ≤ q.k ∧ q.k ≤ 4) ∧ (lst10 q.L).size = 4 + 20 * q.L.length ∧ (lst10 q.C).size = 4 + 44 * q.C.length ∧ q.L.length ≤ 200 ∧ q.C.length ≤ 200 := by
  simp only [right11, Bool.and_eq_true, decide_eq_true_eq] at h
  obtain ⟨h1, h2, h3, h4, _⟩ := h
  obtain ⟨l1, l2⟩ := szd_cat11 h3
  obtain ⟨c1, c2⟩ := szd_cat11 h4
  rw [lst_size10, lst_size10, l1, c1]
  exact ⟨⟨h1, h2⟩, rfl, rfl, l2, c2⟩
theorem req_size11 {q : Req11} (h : right11 q = true) : (reqB11 q).size = 12 + 20 * q.L.length + 44 * q.C.length := by
  obtain ⟨_, h1, h2, _⟩ := right_sizes11 h
  rw [reqB11, ByteArray.size_append, ByteArray.size_append, num_size10, h1, h2]
  omega
theorem dec_enc11 {q : Req11} (h : right11 q = true) : decV11 (reqB11 q) = (q, 0) := by
  obtain ⟨h1, _, _, h2, h3⟩ := right_sizes11 h
  have hz := req_size11 h
  rw [dec_bytes11 q (by omega) (by omega) (by omega) (by omega), h, if_pos rfl]
theorem req_inj11 {p q : Req11} (hp : right11 p = true) (hq : right11 q = true) (h : reqB11 p = reqB11 q) : p = q := by
  have h1 := dec_enc11 hp
  rw [h, dec_enc11 hq] at h1
  exact (Prod.mk.inj h1).1.symm
/-- what is taken as a request is one, and these are its bytes. -/
theorem enc_dec11 {s : ByteArray} (h : (decV11 s).2 = 0) : right11 (decV11 s).1 = true ∧ reqB11 (decV11 s).1 = s := by
  unfold decV11 at h ⊢
  split at h
  · exact absurd (show (2 : Int) = 0 from h) (by decide)
  · rename_i h0
    rw [if_neg h0]
    split at h
    · rename_i h1; exact absurd h h1
    · rename_i h1
      rw [if_neg h1]
      have h1 := Decidable.of_not_not h1
      obtain ⟨hN, hp⟩ := tn_ok10 h1
      split at h
      · rename_i h2; exact absurd h h2
      · rename_i h2
        rw [if_neg h2]
        have hL := tl_ok10 (Decidable.of_not_not h2)
        split at h
        · rename_i h3; exact absurd h h3
        · rename_i h3
          rw [if_neg h3]
          have hC := tl_ok10 (Decidable.of_not_not h3)
          split at h
          · exact absurd (show (13 : Int) = 0 from h) (by decide)
          · rename_i h4
            rw [if_neg h4]
            have he : endV10 s (tlV10 s (tlV10 s (tnV10 s 0).2.1).2.1).2.1 = 0 := Decidable.of_not_not fun e => h4 (Or.inl e)
            have hr : right11 ⟨(tnV10 s 0).1, (tlV10 s (tnV10 s 0).2.1).1, (tlV10 s (tlV10 s (tnV10 s 0).2.1).2.1).1⟩ = true := by
              cases hh : right11 ⟨(tnV10 s 0).1, (tlV10 s (tnV10 s 0).2.1).1, (tlV10 s (tlV10 s (tnV10 s 0).2.1).2.1).1⟩ with
              | true => rfl
              | false => exact absurd (Or.inr hh) h4
            refine ⟨hr, ?_⟩
            have hend := end_zero11 he
            have nb := hN.bytes
            have lb := hL.bytes
            have cb := hC.bytes
            have a1 := hL.ahead
            have a2 := hC.ahead
            have r2 := hL.right
            have r3 := hC.right
            show num10 (tnV10 s 0).1 ++ lst10 (tlV10 s (tnV10 s 0).2.1).1 ++ lst10 (tlV10 s (tlV10 s (tnV10 s 0).2.1).2.1).1 = s
            rw [nb, lb, cb]
            rw [hp] at *
            generalize (tlV10 s (0 + 4)).2.1 = p at *
            generalize (tlV10 s p).2.1 = r at *
            rw [ex_app10 (by omega) (by omega) (by omega), ex_app10 (by omega) (by omega) (by omega), hend, show ((s.size : Int)).toNat = s.size by omega, show ((0 : Int)).toNat = 0 from rfl, ex_all10]
/-! ### Responses -/
theorem may_sizes11 {a : Rsp11} (h : may11 a = true) : (0 ≤ a.k ∧ a.k ≤ 4) ∧ (0 ≤ a.st ∧ a.st ≤ 2) ∧ (0 ≤ a.many ∧ a.many ≤ 2147483647) ∧ (0 ≤ a.room ∧ a.room ≤ 2147483647) ∧ a.C.length ≤ 200 ∧ (lst10 a.C).size ≤ 8804 := by
  simp only [may11, Bool.and_eq_true, decide_eq_true_eq] at h
  obtain ⟨h1, h2, h3, h4, h5, h6, h7, h8, h9, _⟩ := h
  obtain ⟨c1, c2⟩ := szd_le11 h5
  rw [lst_size10]
  refine ⟨⟨h1, h2⟩, ⟨h3, h4⟩, ⟨h6, h7⟩, ⟨h8, h9⟩, c2, ?_⟩
  have : (40 + 4) * a.C.length ≤ 44 * 200 := Nat.mul_le_mul (by omega) c2
  omega
theorem rsp_size11 (a : Rsp11) : (rspB11 a).size = 16 + (lst10 a.C).size := by
  rw [rspB11]
  simp only [ByteArray.size_append, num_size10]
  omega
theorem read_bytes11 (a : Rsp11) (hk : 0 ≤ a.k ∧ a.k ≤ 2147483647) (hs : 0 ≤ a.st ∧ a.st ≤ 2147483647) (hm : 0 ≤ a.many ∧ a.many ≤ 2147483647) (hr : 0 ≤ a.room ∧ a.room ≤ 2147483647) (hC : a.C.length ≤ 1000) (hz : (rspB11 a).size ≤ 65536) :
    readV11 (rspB11 a) = if may11 a then (a, 0) else (zrsp11, 13) := by
  have z := rsp_size11 a
  have s1 := num_size10 a.k
  have s2 := num_size10 a.st
  have s3 := num_size10 a.many
  have e1 : rspB11 a = ⟨#[]⟩ ++ num10 a.k ++ (num10 a.st ++ lst10 a.C ++ num10 a.many ++ num10 a.room) := by
    rw [show (⟨#[]⟩ : ByteArray) ++ num10 a.k = num10 a.k from ByteArray.empty_append, rspB11]; simp only [ByteArray.append_assoc]
  have e2 : rspB11 a = num10 a.k ++ num10 a.st ++ (lst10 a.C ++ num10 a.many ++ num10 a.room) := by rw [rspB11]; simp only [ByteArray.append_assoc]
  have e3 : rspB11 a = (num10 a.k ++ num10 a.st) ++ lst10 a.C ++ (num10 a.many ++ num10 a.room) := by rw [rspB11]; simp only [ByteArray.append_assoc]
  have e4 : rspB11 a = (num10 a.k ++ num10 a.st ++ lst10 a.C) ++ num10 a.many ++ num10 a.room := rfl
  have e5 : rspB11 a = (num10 a.k ++ num10 a.st ++ lst10 a.C ++ num10 a.many) ++ num10 a.room ++ ⟨#[]⟩ := by
    rw [show num10 a.k ++ num10 a.st ++ lst10 a.C ++ num10 a.many ++ num10 a.room ++ (⟨#[]⟩ : ByteArray) = num10 a.k ++ num10 a.st ++ lst10 a.C ++ num10 a.many ++ num10 a.room from ByteArray.append_empty]; rfl
  have t1 := tn_app10 ⟨#[]⟩ (num10 a.st ++ lst10 a.C ++ num10 a.many ++ num10 a.room) hk (by rw [← e1]; exact hz)
  have t2 := tn_app10 (num10 a.k) (lst10 a.C ++ num10 a.many ++ num10 a.room) hs (by rw [← e2]; exact hz)
  have t3 := tl_app10 (num10 a.k ++ num10 a.st) a.C (num10 a.many ++ num10 a.room) hC (by rw [← e3]; exact hz)
  have t4 := tn_app10 (num10 a.k ++ num10 a.st ++ lst10 a.C) (num10 a.room) hm (by rw [← e4]; exact hz)
  have t5 := tn_app10 (num10 a.k ++ num10 a.st ++ lst10 a.C ++ num10 a.many) ⟨#[]⟩ hr (by rw [← e5]; exact hz)
  rw [← e1] at t1
  rw [← e2] at t2
  rw [← e3] at t3
  rw [← e4] at t4
  rw [← e5] at t5
  simp only [ByteArray.size_append, s1, s2, s3] at t2 t3 t4 t5
  have q1 : rk11 (rspB11 a) = (a.k, 4, 0) := t1
  have q2 : rs11 (rspB11 a) = (a.st, 8, 0) := by rw [rs11, q1]; exact t2
  have q3 : rc11 (rspB11 a) = (a.C, 8 + ((lst10 a.C).size : Int), 0) := by rw [rc11, q2]; exact t3
  have q4 : rm11 (rspB11 a) = (a.many, 8 + ((lst10 a.C).size : Int) + 4, 0) := by
    rw [rm11, q3]
    rw [show (((4 + 4 + (lst10 a.C).size : Nat) : Int)) = 8 + ((lst10 a.C).size : Int) by omega] at t4
    exact t4
  have q5 : rr11 (rspB11 a) = (a.room, 8 + ((lst10 a.C).size : Int) + 4 + 4, 0) := by
    rw [rr11, q4]
    rw [show (((4 + 4 + (lst10 a.C).size + 4 : Nat) : Int)) = 8 + ((lst10 a.C).size : Int) + 4 by omega] at t5
    exact t5
  have hend := end_ok11 (a := 8 + ((lst10 a.C).size : Int) + 4 + 4) hz (by omega)
  have hv : rsp11 (rspB11 a) = a := by rw [rsp11, q1, q2, q3, q4, q5]
  rw [readV11, if_neg (by omega), q1, if_neg (by simp), q2, if_neg (by simp), q3, if_neg (by simp), q4, if_neg (by simp), q5, if_neg (by simp), hv, hend]
  cases hr2 : may11 a with
  | true => rw [if_neg (by simp), if_pos rfl]
  | false => rw [if_pos (Or.inr rfl), if_neg (by simp)]
theorem read_answ11 {a : Rsp11} (h : may11 a = true) : readV11 (rspB11 a) = (a, 0) := by
  obtain ⟨h1, h2, h3, h4, h5, h6⟩ := may_sizes11 h
  rw [read_bytes11 a (by omega) (by omega) (by omega) (by omega) (by omega) (by rw [rsp_size11]; omega), h, if_pos rfl]
theorem answ_read11 {s : ByteArray} (h : (readV11 s).2 = 0) : may11 (readV11 s).1 = true ∧ rspB11 (readV11 s).1 = s := by
  unfold readV11 at h ⊢
  split at h
  · exact absurd (show (2 : Int) = 0 from h) (by decide)
  rename_i h0
  rw [if_neg h0]
  split at h
  · rename_i h1; exact absurd h h1
  rename_i h1
  rw [if_neg h1]
  split at h
  · rename_i h2; exact absurd h h2
  rename_i h2
  rw [if_neg h2]
  split at h
  · rename_i h3; exact absurd h h3
  rename_i h3
  rw [if_neg h3]
  split at h
  · rename_i h4; exact absurd h h4
  rename_i h4
  rw [if_neg h4]
  split at h
  · rename_i h5; exact absurd h h5
  rename_i h5
  rw [if_neg h5]
  split at h
  · exact absurd (show (13 : Int) = 0 from h) (by decide)
  rename_i h6
  rw [if_neg h6]
  obtain ⟨n1, p1⟩ := tn_ok10 (Decidable.of_not_not h1)
  obtain ⟨n2, p2⟩ := tn_ok10 (Decidable.of_not_not h2)
  have n3 := tl_ok10 (Decidable.of_not_not h3)
  obtain ⟨n4, p4⟩ := tn_ok10 (Decidable.of_not_not h4)
  obtain ⟨n5, p5⟩ := tn_ok10 (Decidable.of_not_not h5)
  have he : endV10 s (rr11 s).2.1 = 0 := Decidable.of_not_not fun e => h6 (Or.inl e)
  have hr : may11 (rsp11 s) = true := by
    cases hh : may11 (rsp11 s) with
    | true => rfl
    | false => exact absurd (Or.inr hh) h6
  refine ⟨hr, ?_⟩
  have hend := end_zero11 he
  have p1' : (rk11 s).2.1 = 0 + 4 := p1
  have p2' : (rs11 s).2.1 = (rk11 s).2.1 + 4 := p2
  have p4' : (rm11 s).2.1 = (rc11 s).2.1 + 4 := p4
  have p5' : (rr11 s).2.1 = (rm11 s).2.1 + 4 := p5
  have b1 : num10 (rk11 s).1 = s.extract (0 : Int).toNat ((0 : Int) + 4).toNat := n1.bytes
  have b2 : num10 (rs11 s).1 = s.extract (rk11 s).2.1.toNat ((rk11 s).2.1 + 4).toNat := n2.bytes
  have b3 : lst10 (rc11 s).1 = s.extract (rs11 s).2.1.toNat (rc11 s).2.1.toNat := n3.bytes
  have b4 : num10 (rm11 s).1 = s.extract (rc11 s).2.1.toNat ((rc11 s).2.1 + 4).toNat := n4.bytes
  have b5 : num10 (rr11 s).1 = s.extract (rm11 s).2.1.toNat ((rm11 s).2.1 + 4).toNat := n5.bytes
  have a3 : (rs11 s).2.1 + 4 + 4 * (((rc11 s).1).length : Int) ≤ (rc11 s).2.1 := n3.ahead
  have r5 : s.size ≤ 65536 ∧ 0 ≤ (rm11 s).2.1 ∧ (rm11 s).2.1 + 4 ≤ (s.size : Int) := n5.right
  show num10 (rk11 s).1 ++ num10 (rs11 s).1 ++ lst10 (rc11 s).1 ++ num10 (rm11 s).1 ++ num10 (rr11 s).1 = s
  rw [b1, b2, b3, b4, b5]
  generalize (rk11 s).2.1 = v1 at *
  generalize (rs11 s).2.1 = v2 at *
  generalize (rc11 s).2.1 = v3 at *
  generalize (rm11 s).2.1 = v4 at *
  generalize (rr11 s).2.1 = v5 at *
  subst p1' p2' p4' p5'
  rw [ex_app10 (by omega) (by omega) (by omega), ex_app10 (by omega) (by omega) (by omega), ex_app10 (by omega) (by omega) (by omega), ex_app10 (by omega) (by omega) (by omega), hend, show ((s.size : Int)).toNat = s.size by omega, show ((0 : Int)).toNat = 0 from rfl, ex_all10]
end Go.Proofs.Ytapfbcpbiagogaa
