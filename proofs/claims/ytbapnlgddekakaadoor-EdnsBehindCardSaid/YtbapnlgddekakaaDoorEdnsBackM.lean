/-
  EDNS options: what is written is read so; what is read is written so; where it is cut.
-/
import Derived.Test.YtbapnlgddekakaaDoorEdnsOpen
namespace Go.Proofs.YtbapnlgddekakaaDoor
open Go.RowKit
set_option linter.unusedVariables false
set_option linter.unusedSimpArgs false

theorem ext_list (s : ByteArray) (a b : Nat) : (s.extract a b).data.toList = (s.data.toList.drop a).take (b - a) := by
  simp [ByteArray.data_extract, List.take_drop]
theorem num_str (l m r : List UInt8) (a k : Nat) (hl : l.length = a) (hm : m.length = k) : numAt (str (l ++ (m ++ r))) a k = beL m := by
  unfold numAt
  rw [ext_list, str_list, show a + k - a = k by omega, List.drop_append_of_le_length (by omega), List.drop_of_length_le (by omega), List.nil_append, List.take_append_of_le_length (by omega), List.take_of_length_le (by omega)]
theorem num_beB (l r : List UInt8) (a n : Nat) (hl : l.length = a) (hn : n < 65536) : numAt (str (l ++ (beB 2 n ++ r))) a 2 = n := by
  rw [num_str l (beB 2 n) r a 2 hl (beB_length 2 n), beL_beB 2 n hn]
/-- Codes and lengths are numbers of two bytes. -/
def fits (os : List Opt) : Prop := ∀ o ∈ os, o.1 < 65536 ∧ o.2.size < 65536
theorem size_list (s : ByteArray) : s.data.toList.length = s.size := by rw [Array.length_toList]; rfl
theorem optAt_step (pre r : List UInt8) (o : Opt) (h1 : o.1 < 65536) (h2 : o.2.size < 65536) : optAt (str (pre ++ (optB o ++ r))) pre.length = some (o, pre.length + (4 + o.2.size)) := by
  have e : pre ++ (optB o ++ r) = pre ++ (beB 2 o.1 ++ (beB 2 o.2.size ++ (o.2.data.toList ++ r))) := by unfold optB; simp only [List.append_assoc]
  have e' : pre ++ (optB o ++ r) = (pre ++ beB 2 o.1) ++ (beB 2 o.2.size ++ (o.2.data.toList ++ r)) := by rw [e]; simp only [List.append_assoc]
  have n1 : numAt (str (pre ++ (optB o ++ r))) pre.length 2 = o.1 := by rw [e]; exact num_beB _ _ _ _ rfl h1
  have n2 : numAt (str (pre ++ (optB o ++ r))) (pre.length + 2) 2 = o.2.size := by rw [e']; exact num_beB _ _ _ _ (by rw [List.length_append, beB_length]) h2
  have hs : (str (pre ++ (optB o ++ r))).size = pre.length + (4 + o.2.size) + r.length := by rw [str_size, List.length_append, List.length_append, optB_length]; omega
  have hx : (str (pre ++ (optB o ++ r))).extract (pre.length + 4) (pre.length + 4 + o.2.size) = o.2 := by
    refine (str_of _).symm.trans (Eq.trans ?_ (str_of o.2))
    congr 1
    rw [ext_list, str_list]
    have e3 : pre ++ (optB o ++ r) = (pre ++ beB 2 o.1 ++ beB 2 o.2.size) ++ (o.2.data.toList ++ r) := by rw [e]; simp only [List.append_assoc]
    have hl : (pre ++ beB 2 o.1 ++ beB 2 o.2.size).length = pre.length + 4 := by rw [List.length_append, List.length_append, beB_length, beB_length]
    have hz := size_list o.2
    rw [e3, ← hl, List.drop_left, hl, show pre.length + 4 + o.2.size - (pre.length + 4) = o.2.data.toList.length by omega, List.take_left]
  unfold optAt
  rw [n1, n2, if_pos (by omega), if_pos (by omega), hx]
  congr 2
  omega
theorem optAt_cut (pre : List UInt8) (o : Opt) (k : Nat) (h1 : o.1 < 65536) (h2 : o.2.size < 65536) (hk : k < 4 + o.2.size) (r : List UInt8) : optAt (str (pre ++ (optB o ++ r).take k)) pre.length = none := by
  have hs : (str (pre ++ (optB o ++ r).take k)).size = pre.length + k := by rw [str_size, List.length_append, List.length_take, List.length_append, optB_length]; omega
  unfold optAt
  by_cases h4 : 4 ≤ k
  · have hr : (optB o ++ r).take k = beB 2 o.1 ++ (beB 2 o.2.size ++ (o.2.data.toList ++ r).take (k - 4)) := by
      have e : optB o ++ r = (beB 2 o.1 ++ beB 2 o.2.size) ++ (o.2.data.toList ++ r) := by unfold optB; simp only [List.append_assoc]
      have hl : (beB 2 o.1 ++ beB 2 o.2.size).length = 4 := by rw [List.length_append, beB_length, beB_length]
      rw [e, List.take_append, hl, List.take_of_length_le (by omega), List.append_assoc]
    have n2 : numAt (str (pre ++ (optB o ++ r).take k)) (pre.length + 2) 2 = o.2.size := by
      rw [hr, ← List.append_assoc pre]
      exact num_beB _ _ _ _ (by rw [List.length_append, beB_length]) h2
    rw [n2, if_pos (by omega), if_neg (by omega)]
  · rw [if_neg (by omega)]
/-- How many options lie whole before k, where k lies between options. -/
def cutAt : List Opt → Nat → Option Nat
  | [], _ => some 0
  | o :: os, k => if k = 0 then some 0 else if k < 4 + o.2.size then none else (cutAt os (k - (4 + o.2.size))).map (· + 1)
theorem wB_cons (o : Opt) (os : List Opt) : wB (o :: os) = optB o ++ wB os := by unfold wB; simp
theorem pars_cut : ∀ (os : List Opt) (pre : List UInt8) (f k : Nat), fits os → ((wB os).take k).length < f → pars f (str (pre ++ (wB os).take k)) pre.length = (cutAt os k).map (os.take ·)
  | os, pre, 0, k, _, h => absurd h (Nat.not_lt_zero _)
  | [], pre, f + 1, k, _, _ => by
    have e : (wB []).take k = [] := by unfold wB; simp
    rw [e, List.append_nil, pars_succ, if_pos (by rw [str_size]; exact Nat.le_refl _)]
    rfl
  | o :: os, pre, f + 1, k, hf, hl => by
    have ⟨h1, h2⟩ := hf o (List.mem_cons_self ..)
    have hf' : fits os := fun q hq => hf q (List.mem_cons_of_mem _ hq)
    rw [pars_succ, wB_cons, cutAt]
    by_cases k0 : k = 0
    · subst k0
      rw [List.take_zero, List.append_nil, if_pos (by rw [str_size]; exact Nat.le_refl _), if_pos rfl]
      rfl
    · have hs : pre.length < (str (pre ++ (optB o ++ wB os).take k)).size := by rw [str_size, List.length_append, List.length_take, List.length_append, optB_length]; omega
      rw [if_neg (by omega), if_neg k0]
      by_cases hk : k < 4 + o.2.size
      · rw [if_pos hk, optAt_cut pre o k h1 h2 hk]
        rfl
      · have hlo := optB_length o
        have e : (optB o ++ wB os).take k = optB o ++ (wB os).take (k - (4 + o.2.size)) := by rw [List.take_append, hlo, List.take_of_length_le (by omega)]
        have ih := pars_cut os (pre ++ optB o) f (k - (4 + o.2.size)) hf' (by rw [wB_cons, e, List.length_append, hlo] at hl; omega)
        rw [List.length_append, hlo, List.append_assoc] at ih
        rw [if_neg hk, e, optAt_step pre _ o h1 h2]
        simp only []
        rw [ih, Option.map_map, Option.map_map]
        congr 1
theorem cutAt_all : ∀ (os : List Opt), cutAt os (wB os).length = some os.length
  | [] => rfl
  | o :: os => by
    have hlo := optB_length o
    rw [wB_cons, List.length_append, hlo, cutAt, if_neg (by omega), if_neg (by omega), show 4 + o.2.size + (wB os).length - (4 + o.2.size) = (wB os).length by omega, cutAt_all os]
    rfl
theorem wB_many : ∀ (os : List Opt), 4 * os.length ≤ (wB os).length
  | [] => Nat.zero_le _
  | o :: os => by
    have := wB_many os
    rw [wB_cons, List.length_append, optB_length, List.length_cons]
    omega
theorem optsOf_cut (os : List Opt) (k : Nat) (hf : fits os) : optsOf (str ((wB os).take k)) = (cutAt os k).map (os.take ·) := by
  have h := pars_cut os [] ((str ((wB os).take k)).size + 1) k hf (by rw [str_size]; exact Nat.lt_succ_self _)
  rw [List.nil_append] at h
  exact h
theorem optsOf_wB (os : List Opt) (hf : fits os) : optsOf (str (wB os)) = some os := by
  have h := optsOf_cut os (wB os).length hf
  rw [List.take_of_length_le (Nat.le_refl _), cutAt_all] at h
  rw [h]
  simp
theorem fits_of_len {os : List Opt} (hc : ∀ o ∈ os, o.1 < 65536) (h : (wB os).length ≤ 65535) : fits os := by
  have key : ∀ (os : List Opt) (o : Opt), o ∈ os → 4 + o.2.size ≤ (wB os).length := by
    intro os
    induction os with
    | nil => intro o h; cases h
    | cons a os ih =>
      intro o h
      rw [wB_cons, List.length_append, optB_length]
      rcases List.mem_cons.1 h with rfl | h
      · omega
      · have := ih o h; omega
  intro o ho
  have := key os o ho
  exact ⟨hc o ho, by omega⟩
theorem optAt_back {s : ByteArray} {a b : Nat} {o : Opt} (h : optAt s a = some (o, b)) : s.data.toList.drop a = optB o ++ s.data.toList.drop b ∧ b = a + (4 + o.2.size) ∧ b ≤ s.size ∧ o.1 < 65536 ∧ o.2.size < 65536 := by
  obtain ⟨hb1, hb2, ho⟩ := optAt_le h
  unfold optAt at h
  split at h
  · rename_i h4
    split at h
    · rename_i hn
      have hL := size_list s
      have hlt : numAt s (a + 2) 2 < 65536 := beL_len s (a + 2) 2 (by omega)
      obtain ⟨n, hn'⟩ : ∃ n, n = numAt s (a + 2) 2 := ⟨_, rfl⟩
      rw [← hn'] at h hn hlt
      injection h with h
      injection h with h1 h2
      have hd : o.2.data.toList = (s.data.toList.drop (a + 4)).take n := by
        rw [← h1]
        show (s.extract (a + 4) (a + 4 + n)).data.toList = _
        rw [ext_list, show a + 4 + n - (a + 4) = n by omega]
      have hsz : o.2.size = n := by
        rw [← size_list, hd, List.length_take, List.length_drop]
        omega
      have c1 : beB 2 o.1 = (s.data.toList.drop a).take 2 := by
        rw [← h1]
        show beB 2 (numAt s a 2) = _
        unfold numAt
        rw [ext_list, show a + 2 - a = 2 by omega, beB_beL]
        rw [List.length_take, List.length_drop]; omega
      have c2 : beB 2 n = (s.data.toList.drop (a + 2)).take 2 := by
        rw [hn']
        unfold numAt
        rw [ext_list, show a + 2 + 2 - (a + 2) = 2 by omega, beB_beL]
        rw [List.length_take, List.length_drop]; omega
      refine ⟨?_, by omega, hb2, ho, by omega⟩
      unfold optB
      rw [hsz, c1, c2, hd, ← h2]
      have d (i j : Nat) : (s.data.toList.drop i).take j ++ s.data.toList.drop (i + j) = s.data.toList.drop i := by rw [← List.drop_drop, List.take_append_drop]
      rw [List.append_assoc, List.append_assoc, d (a + 4) n, d (a + 2) 2, d a 2]
    · cases h
  · cases h
theorem pars_back : ∀ (f : Nat) (s : ByteArray) (a : Nat) (os : List Opt), s.size - a < f → pars f s a = some os → s.data.toList.drop a = wB os ∧ fits os
  | f + 1, s, a, os, hf, h => by
    rw [pars_succ] at h
    by_cases ha : s.size ≤ a
    · rw [if_pos ha] at h
      injection h with h
      subst h
      refine ⟨?_, fun o ho => by cases ho⟩
      rw [List.drop_of_length_le (by rw [size_list]; exact ha)]
      rfl
    · rw [if_neg ha] at h
      cases hp : optAt s a with
      | none => rw [hp] at h; cases h
      | some ob =>
        obtain ⟨o, b⟩ := ob
        rw [hp] at h
        simp only [] at h
        obtain ⟨e1, e2, e3, e4, e5⟩ := optAt_back hp
        cases hq : pars f s b with
        | none => rw [hq] at h; cases h
        | some os' =>
          rw [hq] at h
          injection h with h
          subst h
          obtain ⟨i1, i2⟩ := pars_back f s b os' (by omega) hq
          refine ⟨by rw [e1, i1, wB_cons], fun q hq => ?_⟩
          rcases List.mem_cons.1 hq with rfl | hq
          · exact ⟨e4, e5⟩
          · exact i2 q hq
theorem optsOf_back {s : ByteArray} {os : List Opt} (h : optsOf s = some os) : str (wB os) = s ∧ (wB os).length = s.size ∧ fits os := by
  obtain ⟨h1, h2⟩ := pars_back _ s 0 os (by omega) h
  rw [List.drop_zero] at h1
  exact ⟨by rw [← h1, str_of], by rw [← h1, size_list], h2⟩
end Go.Proofs.YtbapnlgddekakaaDoor
