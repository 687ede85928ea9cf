/-
  The laws of zone: are zones, or names, more than a statement goes over?
-/
import Derived.Test.YtinjfongndlpgaaZoneLaw
namespace Go.Proofs.Ytinjfongndlpgaa
open Go.RowKit
set_option linter.unusedVariables false
set_option linter.unusedSimpArgs false

theorem str_at {w : World} {B n : Nat} {C : Option Addr} {zs : List ByteArray} (h : Reads w B 1 C n (zs.map .string)) {k : Nat} (hk : k < n) :
    ∃ ad s, C = some ad ∧ ad.block < B ∧ zs[k]? = some s ∧ s ∈ zs ∧ w.cell? (ad.add k) = some (.string s) := by
  obtain ⟨ad, u, e, hb, hu, hc⟩ := h.at_ hk
  rw [List.getElem?_map] at hu
  cases hz : zs[k]? with
  | none => rw [hz] at hu; cases hu
  | some s =>
    rw [hz] at hu
    cases hu
    exact ⟨ad, s, e, hb, rfl, List.mem_of_getElem? hz, hc⟩
theorem take_all {α : Type} {P : α → Prop} {l : List α} {k : Nat} {z : α} (h : ∀ y ∈ l.take k, P y) (hz : l[k]? = some z) (hp : P z) : ∀ y ∈ l.take (k + 1), P y := by
  obtain ⟨hk, e⟩ := List.getElem?_eq_some_iff.1 hz
  rw [List.take_succ_eq_append_getElem hk, e]
  intro y hy
  rcases List.mem_append.1 hy with hy | hy
  · exact h y hy
  · rw [List.mem_singleton.1 hy]; exact hp
set_option maxRecDepth 1000000 in
set_option maxHeartbeats 6400000 in
theorem long18 (w : World) (A : Option Addr) (n c : Nat) (l : List Zn) (hl : l.length = n) (hr : Reads w w.heap.size 3 A n (zRow l)) (hn : n ≤ maxLen) (hsz : ∀ z ∈ l, z.nm.size ≤ maxLen)
    (A' : Option Addr) (n' c' : Nat) (zs : List ByteArray) (hr' : Reads w w.heap.size 1 A' n' (zs.map .string)) (hn' : n' ≤ maxLen) (hsz' : ∀ s ∈ zs, s.size ≤ maxLen) :
    Calls Try.prog 9 #[.slice A n c, .slice A' n' c'] w fun e w' =>
      (e = .returned (.bool true) ∧ Still w w') ∨
      (Hid (n ≤ 1000 ∧ (∀ z ∈ l, z.nm.size < 10000) ∧ n' ≤ 1000 ∧ ∀ s ∈ zs, s.size < 10000) ∧ e = .returned (.bool false) ∧ Still w w') := by
  unfold maxLen at hn hn' hsz hsz'
  have hl' : zs.length = n' := by have := hr'.1; simpa using this
  have HL := Lib.hid hl
  have HL' := Lib.hid hl'
  clear hl'
  go_enter Try.func9, Try.ntmps9
  go_wp2_with fail
  go_loopw [5, 6] (fun i5 i6 wr => ∃ k m : Nat, k ≤ n ∧ i5 = .int .i64 m ∧ i6 = .int .i64 k ∧ m ≤ 20020 ∧ Hid (20 * k ≤ m ∧ ∀ z ∈ l.take k, min 10000 z.nm.size ≤ m) ∧ Still w wr) (fun _ i6 _ => n - (intOf i6).toNat)
  case atStart => exact ⟨0, 0, Nat.zero_le _, rfl, rfl, by omega, Lib.hid ⟨by omega, by simp⟩, Only.refl _ _⟩
  case round =>
    obtain ⟨k, m, hk, rfl, rfl, hm, hinv, hst⟩ := hrel
    have hrr' := hr'.only hst (Nat.le_refl _) (fun _ _ h => h)
    by_cases hc : k < n ∧ m < 10000
    · obtain ⟨c1, c2⟩ := hc
      have hrr := hr.only hst (Nat.le_refl _) (fun _ _ h => h)
      obtain ⟨bl, off, z, hA, hbl, hlk, hz, x0, x1, x2⟩ := z3_cells hrr hl c1
      subst hA
      have d1 : decide ((k : Int) < n) = true := decide_eq_true (by omega)
      have d2 : decide ((m : Int) < 10000) = true := decide_eq_true (by omega)
      have zz := hsz z hz
      have Hlk := Lib.hid hlk
      clear hlk hz
      go_wp2_with fail
      obtain ⟨i1, i2⟩ := hinv.out
      refine ⟨⟨k + 1, m + 20 + min 10000 z.nm.size, by omega, ?_, by go_num, by omega, Lib.hid ⟨by omega, ?_⟩, hst⟩, ?_⟩
      · split <;> (congr 1; omega)
      · exact take_all (fun y hy => by have := i2 y hy; omega) Hlk.out (by omega)
      · simp [intOf]; omega
    · obtain ⟨i1, i2⟩ := hinv.out
      have hl1 : Hid (m < 10000 → n ≤ 1000 ∧ ∀ z ∈ l, z.nm.size < 10000) := Lib.hid (fun hm' => by
        obtain rfl : k = n := by
          rcases Nat.lt_or_ge k n with h | h
          · exact absurd ⟨h, hm'⟩ hc
          · omega
        rw [List.take_of_length_le (by omega)] at i2
        exact ⟨by omega, fun z hz => by have := i2 z hz; omega⟩)
      obtain ⟨m0, hm0⟩ : ∃ m0 : Nat, m0 = m := ⟨_, rfl⟩
      have h12 : ¬ k < n ∨ (k < n ∧ decide ((m : Int) < 10000) = false) := by
        by_cases h : k < n
        · exact .inr ⟨h, decide_eq_false (fun h' => hc ⟨h, by omega⟩)⟩
        · exact .inl h
      clear hinv i1 i2 hc hm0 m0
      rcases h12 with d1 | ⟨d1, d2⟩
      · go_wp2_with fail
        go_loopw [5, 7] (fun i5 i7 wx => ∃ k m : Nat, k ≤ n' ∧ i5 = .int .i64 m ∧ i7 = .int .i64 k ∧ m ≤ 20020 + 20020 ∧ Hid (m < 10000 → (n ≤ 1000 ∧ ∀ z ∈ l, z.nm.size < 10000) ∧ 20 * k ≤ m ∧ ∀ s ∈ zs.take k, min 10000 s.size ≤ m) ∧ Still w wx) (fun _ i7 _ => n' - (intOf i7).toNat)
        case atStart => exact ⟨0, m, Nat.zero_le _, rfl, rfl, by omega, Lib.hid (fun h => ⟨hl1.out h, by omega, by simp⟩), hst⟩
        case round =>
          clear hst hrr' hl1 d1 hm
          try clear d2
          obtain ⟨k, m, hk, rfl, rfl, hm, hinv, hst⟩ := hrel
          have hrr' := hr'.only hst (Nat.le_refl _) (fun _ _ h => h)
          by_cases hc : k < n' ∧ m < 10000
          · obtain ⟨c1, c2⟩ := hc
            obtain ⟨ad, s, hA, hbl, hlk, hz, x0⟩ := str_at hrr' c1
            subst hA
            have d1 : k < n' := by omega
            have d2 : decide ((m : Int) < 10000) = true := decide_eq_true (by omega)
            have zz := hsz' s hz
            have Hlk := Lib.hid hlk
            clear hlk hz
            go_wp2_with fail
            refine ⟨⟨k + 1, m + 20 + min 10000 s.size, by omega, ?_, by go_num, by omega, Lib.hid (fun h => ?_), hst⟩, ?_⟩
            · split <;> (congr 1; omega)
            · obtain ⟨i0, i1, i2⟩ := hinv.out c2
              exact ⟨i0, by omega, take_all (fun y hy => by have := i2 y hy; omega) Hlk.out (by omega)⟩
            · simp [intOf]; omega
          · by_cases hm' : m < 10000
            · have hk' : k = n' := by
                rcases Nat.lt_or_ge k n' with h | h
                · exact absurd ⟨h, hm'⟩ hc
                · omega
              have d1 : ¬ k < n' := by omega
              have d2 : decide ((m : Int) ≥ 10000) = false := decide_eq_false (by omega)
              obtain ⟨⟨j1, j2⟩, i1, i2⟩ := hinv.out hm'
              rw [List.take_of_length_le (by have := HL'.out; omega)] at i2
              have HJ : Hid (n ≤ 1000 ∧ (∀ z ∈ l, z.nm.size < 10000) ∧ n' ≤ 1000 ∧ ∀ s ∈ zs, s.size < 10000) := Lib.hid ⟨j1, j2, by omega, fun s hs => by have := i2 s hs; omega⟩
              clear i1 i2 j1 j2 hinv hc hk'
              go_wp2_with fail
              go_ret
              exact .inr ⟨HJ, rfl, hst⟩
            · have d2 : decide ((m : Int) ≥ 10000) = true := decide_eq_true (by omega)
              have d3 : decide ((m : Int) < 10000) = false := decide_eq_false (by omega)
              clear hinv hc
              by_cases hk' : k < n'
              · have d1 : k < n' := by omega
                go_wp2_with fail
                go_ret
                exact .inl ⟨rfl, hst⟩
              · have d1 : ¬ k < n' := by omega
                go_wp2_with fail
                go_ret
                exact .inl ⟨rfl, hst⟩
      · go_wp2_with fail
        go_loopw [5, 7] (fun i5 i7 wx => ∃ k m : Nat, k ≤ n' ∧ i5 = .int .i64 m ∧ i7 = .int .i64 k ∧ m ≤ 20020 + 20020 ∧ Hid (m < 10000 → (n ≤ 1000 ∧ ∀ z ∈ l, z.nm.size < 10000) ∧ 20 * k ≤ m ∧ ∀ s ∈ zs.take k, min 10000 s.size ≤ m) ∧ Still w wx) (fun _ i7 _ => n' - (intOf i7).toNat)
        case atStart => exact ⟨0, m, Nat.zero_le _, rfl, rfl, by omega, Lib.hid (fun h => ⟨hl1.out h, by omega, by simp⟩), hst⟩
        case round =>
          clear hst hrr' hl1 d1 hm
          try clear d2
          obtain ⟨k, m, hk, rfl, rfl, hm, hinv, hst⟩ := hrel
          have hrr' := hr'.only hst (Nat.le_refl _) (fun _ _ h => h)
          by_cases hc : k < n' ∧ m < 10000
          · obtain ⟨c1, c2⟩ := hc
            obtain ⟨ad, s, hA, hbl, hlk, hz, x0⟩ := str_at hrr' c1
            subst hA
            have d1 : k < n' := by omega
            have d2 : decide ((m : Int) < 10000) = true := decide_eq_true (by omega)
            have zz := hsz' s hz
            have Hlk := Lib.hid hlk
            clear hlk hz
            go_wp2_with fail
            refine ⟨⟨k + 1, m + 20 + min 10000 s.size, by omega, ?_, by go_num, by omega, Lib.hid (fun h => ?_), hst⟩, ?_⟩
            · split <;> (congr 1; omega)
            · obtain ⟨i0, i1, i2⟩ := hinv.out c2
              exact ⟨i0, by omega, take_all (fun y hy => by have := i2 y hy; omega) Hlk.out (by omega)⟩
            · simp [intOf]; omega
          · by_cases hm' : m < 10000
            · have hk' : k = n' := by
                rcases Nat.lt_or_ge k n' with h | h
                · exact absurd ⟨h, hm'⟩ hc
                · omega
              have d1 : ¬ k < n' := by omega
              have d2 : decide ((m : Int) ≥ 10000) = false := decide_eq_false (by omega)
              obtain ⟨⟨j1, j2⟩, i1, i2⟩ := hinv.out hm'
              rw [List.take_of_length_le (by have := HL'.out; omega)] at i2
              have HJ : Hid (n ≤ 1000 ∧ (∀ z ∈ l, z.nm.size < 10000) ∧ n' ≤ 1000 ∧ ∀ s ∈ zs, s.size < 10000) := Lib.hid ⟨j1, j2, by omega, fun s hs => by have := i2 s hs; omega⟩
              clear i1 i2 j1 j2 hinv hc hk'
              go_wp2_with fail
              go_ret
              exact .inr ⟨HJ, rfl, hst⟩
            · have d2 : decide ((m : Int) ≥ 10000) = true := decide_eq_true (by omega)
              have d3 : decide ((m : Int) < 10000) = false := decide_eq_false (by omega)
              clear hinv hc
              by_cases hk' : k < n'
              · have d1 : k < n' := by omega
                go_wp2_with fail
                go_ret
                exact .inl ⟨rfl, hst⟩
              · have d1 : ¬ k < n' := by omega
                go_wp2_with fail
                go_ret
                exact .inl ⟨rfl, hst⟩
end Go.Proofs.Ytinjfongndlpgaa
