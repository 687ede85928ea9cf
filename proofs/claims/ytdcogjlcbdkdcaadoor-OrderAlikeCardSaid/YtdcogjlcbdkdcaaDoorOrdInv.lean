/-
  Package repute: what acts leave as it is. No program text.
-/
import Derived.Test.YtdcogjlcbdkdcaaDoorOrdActs
namespace Go.Proofs.YtdcogjlcbdkdcaaDoor
open Go.RowKit
set_option linter.unusedVariables false
set_option linter.unusedSimpArgs false

def free (us : List Up) : Nat := us.countP fun u => !u.rests
theorem mayK_count (us : List Up) : ∀ k, k ≤ us.length → (mayK us k).length = (us.take k).countP fun u => !u.rests
  | 0, _ => rfl
  | k + 1, h => by
    have hu : us[k]? = some us[k] := List.getElem?_eq_getElem (by omega)
    have ih := mayK_count us k (by omega)
    rw [List.take_add_one, hu, List.countP_append, ← ih]
    rcases hr : us[k].rests with _ | _
    · rw [mayK_in hu hr]; simp [hr]
    · rw [mayK_out hu hr]; simp [hr]
theorem may_len (us : List Up) : (mayL us).length = free us := by
  unfold mayL free
  rw [mayK_count us us.length (Nat.le_refl _), List.take_length]
theorem may_pair (us : List Up) : (mayL us).Pairwise (· < ·) := by
  unfold mayL mayK
  rw [List.pairwise_map]
  have h := (List.pairwise_lt_range (n := us.length)).filter (fun i => !((us[i]?).getD up0).rests)
  exact h.imp (fun h => by omega)
theorem may_mem {us : List Up} {x : Int} (h : x ∈ mayL us) : ∃ (j : Nat) (u : Up), x = j ∧ us[j]? = some u ∧ u.rests = false := by
  unfold mayL mayK at h
  obtain ⟨j, hj, rfl⟩ := List.mem_map.1 h
  rw [List.mem_filter, List.mem_range] at hj
  refine ⟨j, us[j]'hj.1, rfl, List.getElem?_eq_getElem hj.1, ?_⟩
  have := hj.2
  rw [List.getElem?_eq_getElem hj.1] at this
  simpa using this

structure Inv (n : Nat) (lim : Int) (us : List Up) : Prop where
  len : us.length = n
  tr : ∀ (k : Nat) (u : Up), us[k]? = some u → u.trial = true → u.rests = false ∧ u.score < top lim
  may : n / 2 + 1 ≤ free us

theorem endTrial_tr {lim : Int} {u : Up} (h : u.trial = true → u.rests = false) (ht : (endTrial lim u).trial = true) : (endTrial lim u).rests = false ∧ (endTrial lim u).score < top lim := by
  unfold endTrial at ht ⊢
  simp at ht
  exact ⟨h ht.1, ht.2⟩
theorem free_upd {us : List Up} {i : Int} {f : Up → Up} (hf : ∀ u, (f u).rests = u.rests) : free (upd us i f) = free us := by
  by_cases h : 0 ≤ i ∧ i < us.length
  · obtain ⟨k, rfl⟩ : ∃ k : Nat, i = (k : Int) := ⟨i.toNat, by omega⟩
    have hk : k < us.length := by omega
    rw [upd_in (List.getElem?_eq_getElem hk)]
    unfold free
    rw [List.countP_set hk]
    simp only [hf]
    have : (if (!us[k].rests) = true then 1 else 0) ≤ us.countP fun u => !u.rests := by
      split
      · rename_i h1
        exact List.countP_pos_iff.2 ⟨us[k], List.getElem_mem hk, h1⟩
      · omega
    omega
  · rw [upd_out h]
theorem tr_upd {us : List Up} {lim : Int} {i : Int} {f : Up → Up} (h : ∀ (k : Nat) (u : Up), us[k]? = some u → u.trial = true → u.rests = false ∧ u.score < top lim)
    (hf : ∀ u, (u.trial = true → u.rests = false) → (f u).trial = true → (f u).rests = false ∧ (f u).score < top lim) :
    ∀ (k : Nat) (u : Up), (upd us i f)[k]? = some u → u.trial = true → u.rests = false ∧ u.score < top lim := by
  intro k u hu
  rw [upd_get] at hu
  obtain ⟨v, hv, rfl⟩ := Option.map_eq_some_iff.1 hu
  split
  · exact hf v (fun ht => (h k v hv ht).1)
  · exact h k v hv
theorem agree_rests (lim : Int) (u : Up) : (agreeUp lim u).rests = u.rests := rfl
theorem silent_rests (lim : Int) (u : Up) : (silentUp lim u).rests = u.rests := rfl
theorem Inv.dissent {n : Nat} {lim rst i now : Int} {us : List Up} (h : Inv n lim us) : Inv n lim (dissentL lim rst n i now us) := by
  unfold dissentL
  split
  · refine ⟨by rw [upd_length]; exact h.len, tr_upd h.tr (fun u hu ht => ?_), ?_⟩
    · unfold dissentUp at ht ⊢
      split at ht
      · cases ht
      · rename_i hs
        rw [if_neg hs]
        exact endTrial_tr (u := hitUp u) hu ht
    · by_cases hi : 0 ≤ i ∧ i < us.length
      · obtain ⟨k, rfl⟩ : ∃ k : Nat, i = (k : Int) := ⟨i.toNat, by omega⟩
        have hk : k < us.length := by omega
        rw [upd_in (List.getElem?_eq_getElem hk)]
        have hc : free (us.set k (dissentUp lim rst (mayL us).length n now us[k])) = free us - (if (!us[k].rests) = true then 1 else 0) + (if (!(dissentUp lim rst (mayL us).length n now us[k]).rests) = true then 1 else 0) := by
          unfold free
          rw [List.countP_set hk]
        rw [hc]
        have hle : (if (!us[k].rests) = true then 1 else 0) ≤ free us := by
          split
          · rename_i h1
            exact List.countP_pos_iff.2 ⟨us[k], List.getElem_mem hk, h1⟩
          · omega
        have hm := h.may
        rcases hs : spare lim (mayL us).length n (hitUp us[k]) with _ | _
        · have hd : (dissentUp lim rst (mayL us).length n now us[k]).rests = us[k].rests := by unfold dissentUp; rw [hs]; rfl
          rw [hd]
          omega
        · have hd : (dissentUp lim rst (mayL us).length n now us[k]).rests = true := by unfold dissentUp; rw [hs]; rfl
          rw [hd]
          unfold spare at hs
          simp only [Bool.and_eq_true, decide_eq_true_eq] at hs
          have hs2 := hs.2
          rw [may_len] at hs2
          have hle1 : (if (!us[k].rests) = true then 1 else 0) ≤ 1 := by split <;> omega
          simp only [Bool.not_true, Bool.false_eq_true, if_false]
          omega
      · rw [upd_out hi]; exact h.may
  · exact h
theorem Inv.agree {n : Nat} {lim i : Int} {us : List Up} (h : Inv n lim us) : Inv n lim (upd us i (agreeUp lim)) :=
  ⟨by rw [upd_length]; exact h.len, tr_upd h.tr (fun u hu ht => endTrial_tr (u := { u with ag := mn u.ag, score := cl (u.score + 1) }) hu ht), by rw [free_upd (agree_rests lim)]; exact h.may⟩
theorem Inv.silent {n : Nat} {lim i : Int} {us : List Up} (h : Inv n lim us) : Inv n lim (upd us i (silentUp lim)) :=
  ⟨by rw [upd_length]; exact h.len, tr_upd h.tr (fun u hu ht => endTrial_tr (u := { u with si := mn u.si, score := cl (u.score + -2) }) hu ht), by rw [free_upd (silent_rests lim)]; exact h.may⟩
theorem Inv.back {n : Nat} {lim now : Int} {us : List Up} (h : Inv n lim us) : Inv n lim (us.map (backOne lim now)) := by
  refine ⟨by rw [List.length_map]; exact h.len, ?_, ?_⟩
  · intro k u hu
    rw [List.getElem?_map] at hu
    obtain ⟨v, hv, rfl⟩ := Option.map_eq_some_iff.1 hu
    unfold backOne
    split
    · exact endTrial_tr (u := { v with rests := false, til := 0, score := lim, trial := true }) (fun _ => rfl)
    · exact h.tr k v hv
  · unfold free
    rw [List.countP_map]
    refine Nat.le_trans h.may (List.countP_mono_left fun u _ hu => ?_)
    show (!(backOne lim now u).rests) = true
    unfold backOne
    split
    · rfl
    · exact hu
theorem Inv.act {n : Nat} {lim rst : Int} {us : List Up} (h : Inv n lim us) (a : A3) : Inv n lim (act3 lim rst n us a) := by
  unfold act3
  split
  · exact h.agree
  · split
    · exact h.dissent
    · split
      · exact h.silent
      · split
        · exact h.back
        · exact h
theorem Inv.acts {n : Nat} {lim rst : Int} (l : List A3) : ∀ {us : List Up}, Inv n lim us → Inv n lim (acts3 lim rst n us l) := by
  unfold acts3
  induction l with
  | nil => exact fun h => h
  | cons a l ih => exact fun h => ih (h.act a)
theorem Inv.new {n : Nat} (lim : Int) (h1 : 1 ≤ n) : Inv n lim (List.replicate n up1) := by
  refine ⟨by simp, ?_, ?_⟩
  · intro k u hu ht
    rw [List.getElem?_replicate] at hu
    split at hu
    · injection hu with hu; subst hu; cases ht
    · cases hu
  · unfold free
    rw [List.countP_replicate]
    simp [up1]
    omega
end Go.Proofs.YtdcogjlcbdkdcaaDoor
