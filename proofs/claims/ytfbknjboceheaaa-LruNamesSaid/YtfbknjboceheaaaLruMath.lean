/-
  Package lru: a ring of places as two functions. Plain mathematics.
-/
import Derived.Test.YtfbknjboceheaaaRows
namespace Go.Proofs.Ytfbknjboceheaaa
set_option linter.unusedVariables false

/-- The place behind q, in the ring a, L.., 0. -/
def sc : Nat → List Nat → Nat → Nat
  | a, [], q => if q = a then 0 else q
  | a, b :: r, q => if q = a then b else sc b r q
/-- The place ahead of q. -/
def pd : Nat → List Nat → Nat → Nat
  | a, [], q => if q = 0 then a else q
  | a, b :: r, q => if q = b then a else pd b r q

/-- The places of a list, in their row. -/
structure Row (a : Nat) (L : List Nat) : Prop where
  nd : L.Nodup
  na : a ∉ L
  nz : 0 ∉ L
theorem Row.tail {a b : Nat} {r : List Nat} (h : Row a (b :: r)) : Row b r :=
  ⟨(List.nodup_cons.1 h.nd).2, (List.nodup_cons.1 h.nd).1, fun hh => h.nz (List.mem_cons_of_mem _ hh)⟩
theorem Row.ab {a b : Nat} {r : List Nat} (h : Row a (b :: r)) : a ≠ b := fun e => h.na (by simp [e])
theorem Row.b0 {a b : Nat} {r : List Nat} (h : Row a (b :: r)) : b ≠ 0 := fun e => h.nz (by simp [e])
theorem Row.ar {a b : Nat} {r : List Nat} (h : Row a (b :: r)) : a ∉ r := fun e => h.na (List.mem_cons_of_mem _ e)

theorem sc_self (a : Nat) : ∀ L : List Nat, sc a L a = L.headD 0
  | [] => by simp [sc]
  | b :: r => by simp [sc]
theorem sc_start (a p q : Nat) (ha : q ≠ a) (hp : q ≠ p) : ∀ L : List Nat, sc a L q = sc p L q
  | [] => by simp [sc, ha, hp]
  | b :: r => by simp [sc, ha, hp]
theorem sc_not {a : Nat} : ∀ {L : List Nat} {q : Nat}, q ≠ a → q ∉ L → sc a L q = q
  | [], q, h, _ => by simp [sc, h]
  | b :: r, q, h, hn => by
    simp only [List.mem_cons, not_or] at hn
    simp only [sc, h, if_false]
    exact sc_not hn.1 hn.2
theorem pd_not {a : Nat} : ∀ {L : List Nat} {q : Nat}, q ≠ 0 → q ∉ L → pd a L q = q
  | [], q, h, _ => by simp [pd, h]
  | b :: r, q, h, hn => by
    simp only [List.mem_cons, not_or] at hn
    simp only [pd, hn.1, if_false]
    exact pd_not h hn.2
theorem pd_mem : ∀ (b : Nat) (r : List Nat) (p : Nat), pd b r p = p ∨ pd b r p ∈ b :: r
  | b, [], p => by
    simp only [pd]
    by_cases h : p = 0
    · simp [h]
    · simp [h]
  | b, c :: r, p => by
    simp only [pd]
    by_cases h : p = c
    · simp [h]
    · simp only [h, if_false]
      rcases pd_mem c r p with e | e
      · exact .inl e
      · exact .inr (List.mem_cons_of_mem _ e)
theorem pd_zero_mem : ∀ (b : Nat) (r : List Nat), 0 ∉ r → pd b r 0 ∈ b :: r
  | b, [], _ => by simp [pd]
  | b, c :: r, h => by
    have h0 : ¬ (0 = c) := fun e => h (by simp [e])
    simp only [pd, h0, if_false]
    exact List.mem_cons_of_mem _ (pd_zero_mem c r (fun e => h (List.mem_cons_of_mem _ e)))
theorem sc_mem : ∀ (b : Nat) (r : List Nat) (p : Nat), sc b r p = p ∨ sc b r p = 0 ∨ sc b r p ∈ r
  | b, [], p => by
    simp only [sc]
    by_cases h : p = b
    · simp [h]
    · simp [h]
  | b, c :: r, p => by
    simp only [sc]
    by_cases h : p = b
    · simp [h]
    · simp only [h, if_false]
      rcases sc_mem c r p with e | e | e
      · exact .inl e
      · exact .inr (.inl e)
      · exact .inr (.inr (List.mem_cons_of_mem _ e))

def out (p : Nat) (L : List Nat) : List Nat := L.filter (fun x => x ≠ p)
theorem out_cons_self (p : Nat) (r : List Nat) (h : p ∉ r) : out p (p :: r) = r := by
  unfold out
  rw [List.filter_cons, if_neg (by simp), List.filter_eq_self]
  intro x hx
  simp
  rintro rfl
  exact h hx
theorem out_cons_ne {p b : Nat} (r : List Nat) (h : b ≠ p) : out p (b :: r) = b :: out p r := by
  unfold out
  rw [List.filter_cons, if_pos (by simp [h])]

theorem sc_out {p : Nat} (hp0 : p ≠ 0) : ∀ (a : Nat) (L : List Nat), Row a L → p ≠ a → ∀ q, sc a (out p L) q = if q = p then p else if q = pd a L p then sc a L p else sc a L q
  | a, [], h, hpa, q => by
    simp only [out, List.filter_nil, pd, hp0, if_false]
    by_cases e : q = p
    · subst e; simp [sc, hpa]
    · simp [e]
  | a, b :: r, h, hpa, q => by
    by_cases e : b = p
    · subst e
      rw [out_cons_self b r h.tail.na]
      by_cases eq : q = b
      · subst eq
        rw [if_pos rfl]
        exact sc_not hpa h.tail.na
      · rw [if_neg eq]
        simp only [pd, if_true]
        by_cases ea : q = a
        · subst ea
          rw [if_pos rfl, sc_self]
          simp only [sc, hpa, if_false]
          rw [sc_self]
        · rw [if_neg ea]
          simp only [sc, ea, if_false]
          exact sc_start a b q ea eq r
    · rw [out_cons_ne r e]
      have ih := sc_out hp0 b r h.tail (fun x => e x.symm) q
      have hpb : ¬ p = b := fun x => e x.symm
      simp only [sc, pd, hpb, hpa, if_false]
      by_cases ea : q = a
      · subst ea
        rw [if_pos rfl]
        have h1 : ¬ q = pd b r p := by
          intro x
          rcases pd_mem b r p with y | y
          · exact hpa (by rw [← y, ← x])
          · rw [← x] at y
            exact h.na y
        have h2 : ¬ q = p := fun x => hpa x.symm
        rw [if_neg h2, if_neg h1, if_pos rfl]
      · rw [if_neg ea, ih, if_neg ea]

theorem pd_start (a p q : Nat) : ∀ r : List Nat, q ≠ r.headD 0 → pd a r q = pd p r q
  | [], h => by simp only [List.headD] at h; simp [pd, h]
  | c :: r, h => by simp only [List.headD] at h; simp [pd, h]
theorem pd_head (a : Nat) : ∀ r : List Nat, pd a r (r.headD 0) = a
  | [] => by simp [pd]
  | c :: r => by simp [pd]
theorem pd_out {p : Nat} (hp0 : p ≠ 0) : ∀ (a : Nat) (L : List Nat), Row a L → p ≠ a → ∀ q, pd a (out p L) q = if q = p then p else if q = sc a L p then pd a L p else pd a L q
  | a, [], h, hpa, q => by
    simp only [out, List.filter_nil, sc, hpa, if_false]
    by_cases e : q = p
    · subst e; simp [pd, hp0]
    · simp [e]
  | a, b :: r, h, hpa, q => by
    by_cases e : b = p
    · subst e
      rw [out_cons_self b r h.tail.na]
      by_cases eq : q = b
      · subst eq
        rw [if_pos rfl]
        exact pd_not hp0 h.tail.na
      · rw [if_neg eq]
        simp only [sc, hpa, if_false, pd, if_true]
        rw [sc_self]
        by_cases eh : q = r.headD 0
        · rw [if_pos eh, eh, pd_head]
        · rw [if_neg eh, if_neg eq]
          exact pd_start a b q r eh
    · rw [out_cons_ne r e]
      have ih := pd_out hp0 b r h.tail (fun x => e x.symm) q
      have hpb : ¬ p = b := fun x => e x.symm
      simp only [sc, pd, hpb, hpa, if_false]
      by_cases eb : q = b
      · subst eb
        rw [if_pos rfl]
        have h1 : ¬ q = sc q r p := by
          intro x
          rcases sc_mem q r p with y | y | y
          · exact hpb (by rw [← y, ← x])
          · exact h.b0 (by rw [x, y])
          · rw [← x] at y; exact h.tail.na y
        rw [if_neg e, if_neg h1, if_pos rfl]
      · rw [if_neg eb, ih, if_neg eb]

theorem sc_link {p : Nat} (hp0 : p ≠ 0) : ∀ (a : Nat) (L : List Nat), Row a L → p ≠ a → p ∉ L → ∀ q, sc a (L ++ [p]) q = if q = p then 0 else if q = pd a L 0 then p else sc a L q
  | a, [], h, hpa, hpL, q => by
    simp only [List.nil_append, sc, pd, if_true]
    by_cases e : q = a
    · subst e
      have : ¬ q = p := fun x => hpa x.symm
      simp [this]
    · simp [e]
  | a, b :: r, h, hpa, hpL, q => by
    simp only [List.mem_cons, not_or] at hpL
    have ih := sc_link hp0 b r h.tail hpL.1 hpL.2 q
    have h0b : ¬ 0 = b := fun x => h.b0 x.symm
    simp only [List.cons_append, sc, pd, h0b, if_false]
    by_cases ea : q = a
    · subst ea
      have h1 : ¬ q = pd b r 0 := fun x => h.na (by rw [x]; exact pd_zero_mem b r h.tail.nz)
      have h2 : ¬ q = p := fun x => hpa x.symm
      rw [if_pos rfl, if_neg h2, if_neg h1, if_pos rfl]
    · rw [if_neg ea, ih, if_neg ea]
theorem pd_link {p : Nat} (hp0 : p ≠ 0) : ∀ (a : Nat) (L : List Nat), Row a L → p ∉ L → ∀ q, pd a (L ++ [p]) q = if q = 0 then p else if q = p then pd a L 0 else pd a L q
  | a, [], h, hpL, q => by
    simp only [List.nil_append, pd, if_true]
    by_cases e : q = p
    · subst e; simp [hp0]
    · simp only [e, if_false]
      by_cases e0 : q = 0
      · simp [e0]
      · simp [e0]
  | a, b :: r, h, hpL, q => by
    simp only [List.mem_cons, not_or] at hpL
    have ih := pd_link hp0 b r h.tail hpL.2 q
    have h0b : ¬ 0 = b := fun x => h.b0 x.symm
    simp only [List.cons_append, pd, h0b, if_false]
    by_cases eb : q = b
    · subst eb
      have h2 : ¬ q = p := fun x => hpL.1 x.symm
      rw [if_pos rfl, if_neg h.b0, if_neg h2, if_pos rfl]
    · rw [if_neg eb, ih, if_neg eb]

theorem sc_ne {a : Nat} : ∀ {L : List Nat} {p : Nat}, Row a L → p ∈ L → sc a L p ≠ p
  | b :: r, p, h, hp => by
    have hpa : ¬ p = a := fun x => h.na (by rw [← x]; exact hp)
    simp only [sc, hpa, if_false]
    rcases List.mem_cons.1 hp with rfl | hr
    · rw [sc_self]
      cases r with
      | nil => exact fun x => h.b0 x.symm
      | cons c r => exact fun x => h.tail.ab x.symm
    · exact sc_ne h.tail hr
theorem sc_at {a : Nat} : ∀ {D : List Nat} {b : Nat} {R : List Nat}, Row a (D ++ b :: R) → sc a (D ++ b :: R) b = R.headD 0
  | [], b, R, h => by
    have hba : ¬ b = a := fun x => h.ab x.symm
    simp only [List.nil_append, sc, hba, if_false]
    exact sc_self b R
  | d :: D, b, R, h => by
    have hba : ¬ b = a := fun x => h.na (by simp [← x])
    simp only [List.cons_append, sc, hba, if_false]
    exact sc_at h.tail
theorem pd_last : ∀ (a : Nat) (L : List Nat), 0 ∉ L → pd a L 0 = L.getLastD a
  | a, [], _ => by simp [pd]
  | a, b :: r, h => by
    have h0 : ¬ 0 = b := fun x => h (by simp [x])
    simp only [pd, h0, if_false]
    rw [pd_last b r (fun x => h (List.mem_cons_of_mem _ x)), List.getLastD_cons]

theorem out_row {a p : Nat} {L : List Nat} (h : Row a L) : Row a (out p L) :=
  ⟨List.Nodup.sublist List.filter_sublist h.nd, fun x => h.na ((List.mem_filter.1 x).1), fun x => h.nz ((List.mem_filter.1 x).1)⟩
theorem out_not (p : Nat) (L : List Nat) : p ∉ out p L := by
  unfold out
  intro x
  have := List.mem_filter.1 x
  simp at this
theorem link_row {a p : Nat} {L : List Nat} (h : Row a L) (hp0 : p ≠ 0) (hpa : p ≠ a) (hpL : p ∉ L) : Row a (L ++ [p]) := by
  refine ⟨?_, ?_, ?_⟩
  · rw [List.nodup_append]
    exact ⟨h.nd, by simp, fun x hx y hy => by simp at hy; subst hy; rintro rfl; exact hpL hx⟩
  · simp only [List.mem_append, List.mem_singleton, not_or]; exact ⟨h.na, fun x => hpa x.symm⟩
  · simp only [List.mem_append, List.mem_singleton, not_or]; exact ⟨h.nz, fun x => hp0 x.symm⟩
end Go.Proofs.Ytfbknjboceheaaa
