/-
  CursorParts: the contracts with letters, and the mathematics.
-/
import Derived.Test.YtkoejogmcoigoaaDoorCurStr
import Derived.Test.YtkoejogmcoigoaaDoorOpen
namespace Go.Proofs.YtkoejogmcoigoaaDoor
open Go.RowKit
set_option linter.unusedVariables false

theorem fold_beL (m : List UInt8) : ∀ n : Nat, m.foldl (fun n b => n * 256 + b.toNat) n = n * 256 ^ m.length + beL m := by
  induction m with
  | nil => intro n; simp [beL]
  | cons b m ih =>
    intro n
    have h2 : beL (b :: m) = (0 * 256 + b.toNat) * 256 ^ m.length + beL m := ih _
    rw [List.foldl_cons, ih, h2, List.length_cons, Nat.pow_succ, Nat.add_mul, Nat.zero_mul, Nat.zero_add, Nat.mul_comm (256 ^ m.length) 256, ← Nat.mul_assoc]
    omega
theorem beL_app (l m : List UInt8) : beL (l ++ m) = beL l * 256 ^ m.length + beL m := by
  have := fold_beL m (beL l)
  rw [← this]
  simp [beL]
theorem extract_list (s : ByteArray) (a b : Nat) : (s.extract a b).data.toList = (s.data.toList.drop a).take (b - a) := by
  simp [ByteArray.data_extract, List.take_drop]
theorem numAt_add (s : ByteArray) (a i j : Nat) (h : a + i + j ≤ s.size) : numAt s a (i + j) = numAt s a i * 256 ^ j + numAt s (a + i) j := by
  unfold numAt
  have hl : s.data.toList.length = s.size := by rw [Array.length_toList]; rfl
  have e : (s.extract a (a + (i + j))).data.toList = (s.extract a (a + i)).data.toList ++ (s.extract (a + i) (a + i + j)).data.toList := by
    rw [extract_list, extract_list, extract_list, show a + (i + j) - a = i + j by omega, show a + i - a = i by omega, show a + i + j - (a + i) = j by omega, List.take_add, List.drop_drop]
  have e2 : (s.extract (a + i) (a + i + j)).data.toList.length = j := by
    rw [extract_list, List.length_take, List.length_drop, hl]; omega
  rw [e, beL_app, e2]
theorem extract_add (s : ByteArray) (a i j : Nat) : s.extract a (a + i) ++ s.extract (a + i) (a + i + j) = s.extract a (a + (i + j)) := by
  apply ByteArray.ext
  apply Array.ext'
  rw [ByteArray.data_append, Array.toList_append, extract_list, extract_list, extract_list, show a + (i + j) - a = i + j by omega, show a + i - a = i by omega, show a + i + j - (a + i) = j by omega, List.take_add, List.drop_drop]

/-- What reading a number of k bytes gives. -/
def Num (s : ByteArray) (a k v : Nat) (er : Int) (a' : Nat) : Prop := (a + k ≤ s.size ∧ er = 0 ∧ v = numAt s a k ∧ a' = a + k) ∨ (s.size < a + k ∧ er = 4 ∧ a' = a)
/-- What taking n bytes gives. -/
def Tak (s : ByteArray) (a n : Nat) (t : ByteArray) (er : Int) (a' : Nat) : Prop := (a + n ≤ s.size ∧ er = 0 ∧ t = s.extract a (a + n) ∧ a' = a + n) ∨ (s.size < a + n ∧ er = 4 ∧ a' = a)

section
variable {w : World} {g : Nat} {s : ByteArray} {a : Nat}
theorem Two_l (h : Cur w g s a) (he : ErrT w) (ha : a ≤ s.size) (hs : s.size ≤ maxLen) :
    Calls Tryd.prog 21 #[.pointer (some ⟨g, 0, none⟩)] w fun e w' => ∃ (v : Nat) (er : Int) (a' : Nat), e = .returned (.tuple #[.int .u16 v, .int .i64 er]) ∧ Cur w' g s a' ∧ Only (· = g) w w' ∧ ErrT w' ∧ a' ≤ s.size ∧ Num s a 2 v er a' := by
  rcases Nat.lt_or_ge s.size (a + 2) with hn | hn
  · exact (Two_short h he ha hs hn).mono fun e w' ⟨h1, h2⟩ => ⟨0, 4, a, h1, h.still h2, h2.mono (fun _ _ h => h.elim), he.still h2, ha, .inr ⟨hn, rfl, rfl⟩⟩
  · exact (Two_in h ha hs hn).mono fun e w' ⟨h1, h2, h3⟩ => ⟨_, 0, a + 2, h1, h2, h3, he.by_cur h h3, hn, .inl ⟨hn, rfl, rfl, rfl⟩⟩
end
end Go.Proofs.YtkoejogmcoigoaaDoor
