/-
  Package pend: Draw.
-/
import Derived.Test.YthbapdajmpplhaaPend
namespace Go.Proofs.Ythbapdajmpplhaa
open Go.RowKit
open Go.Maps (Keyed)
set_option linter.unusedVariables false
set_option linter.unusedSimpArgs false

/-- The draw's lowest 16 bits. -/
def low16 (x : Int) : Nat := (x % 65536).toNat
theorem low16_lt (x : Int) : low16 x < 65536 := by unfold low16; omega
theorem low16_wrap (x : Int) : IntKind.u16.wrap x = (low16 x : Int) := by
  unfold low16
  rw [show IntKind.u16.wrap x = x % 65536 from by simp [IntKind.wrap_u16]]
  omega
theorem next_wrap (s j : Nat) : IntKind.u16.wrap (((s : Int) + (j : Int)) % 65536 + 1) = (((s + (j + 1)) % 65536 : Nat) : Int) := by
  rw [show ∀ x, IntKind.u16.wrap x = x % 65536 from fun x => by simp [IntKind.wrap_u16]]
  omega
theorem vint {k : IntKind} {a b : Int} (h : a = b) : Value.int k a = .int k b := by rw [h]
theorem next_meas (s j : Nat) (hs : s < 65536) (hj : j < 65536) : ((s + j) % 65536 + 65536 - s) % 65536 = j := by omega

theorem PT.put {w w' : World} {t u b id : Nat} {bs : List Nat} {L : List Out} {slot : Int} (h : PT w t bs L) (hu : bs[u]? = some b) (hid : id < 65536) (hs : 0 ≤ slot ∧ slot < 32) (hn : isO L u id = false)
    (hm : MapIs w' Try.prog 32 b (lenO L u + 1) (upd (atU L u) (.int .u16 (id : Int)) (.int .i64 slot))) (ho : Only (· = b) w w') : PT w' t bs (L ++ [⟨u, slot, id⟩]) := by
  have hbm := List.mem_of_getElem? hu
  obtain ⟨A, c, h1, h2⟩ := h.tab
  obtain ⟨es, ck, hb⟩ := h.map_blk hbm
  refine ⟨⟨A, c, h1.only ho (fun e => ?_), own_only h2 ho (fun k hk e => ?_)⟩, h.nd, fun u2 b2 h3 => ?_, h.inv.put (List.getElem?_eq_some_iff.1 hu).1 hid hs hn, h.nine⟩
  · subst e
    unfold Blk at h1
    rw [h1] at hb
    cases hb
  · subst e
    rcases h2.2 with ⟨e, _⟩ | ⟨g', cap, cur, e, _, hh, _⟩
    · rw [e] at hk; simp [Value.ownBlock] at hk
    · rw [e] at hk
      simp [Value.ownBlock] at hk
      subst hk
      rw [hh] at hb
      cases hb
  · by_cases e : u2 = u
    · subst e
      rw [hu] at h3
      cases h3
      rw [lenO_app]
      simp only [if_true]
      exact hm.turn (atU_put (o := ⟨u2, slot, id⟩) hn)
    · have hne : b2 ≠ b := fun e' => e (by
        subst e'
        obtain ⟨i1, j1⟩ := List.getElem?_eq_some_iff.1 h3
        obtain ⟨i2, j2⟩ := List.getElem?_eq_some_iff.1 hu
        exact (List.getElem_inj h.nd).1 (j1.trans j2.symm))
      have e' : (⟨u, slot, id⟩ : Out).u ≠ u2 := fun x => e x.symm
      rw [lenO_app, if_neg e']
      exact ((h.maps u2 b2 h3).only ho hne).turn (atU_keep L e')

set_option maxRecDepth 1000000 in
set_option maxHeartbeats 3200000 in
theorem draw_in {w : World} {t g n : Nat} {bs : List Nat} {L : List Out} {seed : Int} {xs : List Int} (h : PT w t bs L) (ht : Tape w g seed xs n) (hn : n ≤ 1000000) (u : Nat) (slot : Int) (hu : u < bs.length) (hs : 0 ≤ slot ∧ slot < 32) (hl : lenO L u < 65536) :
    Calls Try.prog 12 #[.pointer (some ⟨t, 0, none⟩), .int .i64 u, .int .i64 slot, .pointer (some ⟨g, 0, none⟩)] w fun e w' =>
      e = .returned (.tuple #[.int .u16 (nextO L u (low16 (draw seed xs n)) : Nat), .int .i64 0]) ∧ PT w' t bs (L ++ [⟨u, slot, nextO L u (low16 (draw seed xs n))⟩]) ∧ Tape w' g seed xs (n + 1) ∧ Only (fun i => i ∈ bs ∨ i = g) w w' := by
  have hb : bs[u]? = some bs[u] := List.getElem?_eq_getElem hu
  obtain ⟨b, hbb⟩ : ∃ b, b = bs[u] := ⟨_, rfl⟩
  rw [← hbb] at hb
  clear hbb
  have hlen := (h.maps u _ hb).len Try.underlying69
  obtain ⟨h1, h2, h3⟩ := stepsO_spec h.inv u (low16 (draw seed xs n)) hl
  have hmax := h.inv.len_max u
  have hq := eqlm_some
  obtain ⟨m, hm⟩ : ∃ m, m = lenO L u := ⟨_, rfl⟩
  rw [← hm] at hlen h1 hl hmax
  have Hm := Lib.hid hm
  clear hm
  obtain ⟨s, hs'⟩ : ∃ s, s = low16 (draw seed xs n) := ⟨_, rfl⟩
  have hdl : IntKind.u16.wrap (draw seed xs n) = (s : Int) := by rw [hs']; exact low16_wrap _
  have hs64 := low16_lt (draw seed xs n)
  unfold nextO
  rw [← hs'] at h1 h2 h3 hs64 ⊢
  clear hs'
  obtain ⟨d, hd⟩ : ∃ d, d = stepsO L u s := ⟨_, rfl⟩
  rw [← hd] at h1 h2 h3 ⊢
  clear hd
  obtain ⟨id, hid⟩ : ∃ id, id = (s + d) % 65536 := ⟨_, rfl⟩
  rw [← hid] at h2 ⊢
  have hid64 : id < 65536 := by omega
  have Hid_ := Lib.hid hid
  clear hid
  have hd0 : decide ((m : Int) = 65536) = false := decide_eq_false (by omega)
  have hd1 : ((m : Int) == 65536) = false := by rw [beq_eq_false_iff_ne]; omega
  obtain ⟨hs0, hs32⟩ := hs
  go_enter Try.func12, Try.ntmps12
  go_wp2_with (first
    | (go_at_call 32; refine (at_in h u _ hb).mono ?_; rintro e w' ⟨rfl, rfl⟩)
    | (go_at_call 29; refine (next_any ht hn).mono ?_; rintro e w1 ⟨rfl, ht1, ho1⟩))
  have hp1 := h.tape ht ho1
  go_loopw [11] (fun i wr => ∃ j, j ≤ d ∧ i = .int .u16 ((s + j) % 65536 : Nat) ∧ wr = w1) (fun i _ => d - ((intOf i).toNat + 65536 - s) % 65536)
  case atStart => exact ⟨0, Nat.zero_le _, by rw [Nat.add_zero, Nat.mod_eq_of_lt hs64], rfl⟩
  case round =>
    obtain ⟨j, hj, rfl, rfl⟩ := hrel
    by_cases hlt : j < d
    · have htk := h3 j hlt
      have hnw := next_wrap s j
      go_wp2_with (go_at_call 33; refine (taken_any (hp1.maps u b hb) _ (Nat.mod_lt _ (by omega))).mono ?_; rintro e w' ⟨rfl, rfl⟩; rw [htk])
      go_roundw
      case rel => exact ⟨j + 1, hlt, vint (by omega), trivial⟩
      case measure =>
        have m1 := next_meas s j hs64 (by omega)
        have m2 := next_meas s (j + 1) hs64 (by omega)
        simp only [intOf]
        have e1 : ((s : Int) + ((j : Int) + 1)) % 65536 = (((s + (j + 1)) % 65536 : Nat) : Int) := by omega
        rw [e1]
        simp only [Int.toNat_natCast]
        omega
    · obtain rfl : j = d := by omega
      rw [← Hid_.out]
      go_wp2_with (first
        | (go_at_call 33; refine (taken_any (hp1.maps u b hb) _ hid64).mono ?_; rintro e w' ⟨rfl, rfl⟩; rw [h2])
        | (at_mapUpdate; refine wpList_mapPut _ rfl (.tmp 42) (.tmp 43) (.tmp 44) 69 rfl 32 3 klaw_u16 Try.underlying69 b _ _ rfl (hp1.maps u b hb) (by have := Hm.out; unfold maxLen; omega) _ _ _ rfl rfl (key_u16 hid64) ?_; intro w2 hm2 ho2 hz2))
      go_ret2
      have hp2 : PT w2 t bs (L ++ [⟨u, slot, id⟩]) := hp1.put hb hid64 ⟨hs0, hs32⟩ h2 (by
        rw [← findO_isO] at h2
        rw [atU_nat, Option.isSome_map, h2] at hm2
        exact hm2) ho2
      have hbm := List.mem_of_getElem? hb
      exact ⟨rfl, hp2, ht1.maps hp1 (ho2.mono (fun i _ e => by rw [e]; exact hbm)), (ho1.mono (fun i _ e => .inr e)).trans ho2 (fun i _ e => .inl (by rw [e]; exact hbm))⟩
set_option maxRecDepth 1000000 in
theorem draw_full {w : World} {t g : Nat} {bs : List Nat} {L : List Out} (h : PT w t bs L) (u : Nat) (slot : Int) (hu : u < bs.length) (hs : 0 ≤ slot ∧ slot < 32) (hl : lenO L u = 65536) :
    Calls Try.prog 12 #[.pointer (some ⟨t, 0, none⟩), .int .i64 u, .int .i64 slot, .pointer (some ⟨g, 0, none⟩)] w fun e w' => e = .returned (.tuple #[.int .u16 0, .int .i64 9]) ∧ w = w' := by
  have hb : bs[u]? = some bs[u] := List.getElem?_eq_getElem hu
  have hlen := (h.maps u _ hb).len Try.underlying69
  rw [hl] at hlen
  have hq := eqlm_some
  obtain ⟨hs0, hs32⟩ := hs
  go_enter Try.func12, Try.ntmps12
  go_wp2_with (go_at_call 32; refine (at_in h u _ hb).mono ?_; rintro e w' ⟨rfl, rfl⟩)
  go_ret2
  exact ⟨rfl, rfl⟩
set_option maxRecDepth 1000000 in
/-- Where it may not be. -/
theorem draw_out {w : World} {t g : Nat} {bs : List Nat} {L : List Out} (h : PT w t bs L) (u slot : Int) (hu : u < 0 ∨ (bs.length : Int) ≤ u ∨ slot < 0 ∨ 32 ≤ slot) :
    Calls Try.prog 12 #[.pointer (some ⟨t, 0, none⟩), .int .i64 u, .int .i64 slot, .pointer (some ⟨g, 0, none⟩)] w fun e w' => e = .returned (.tuple #[.int .u16 0, .int .i64 1]) ∧ w = w' := by
  have hq := eqlm_some
  have hq2 := eqlm_none
  by_cases hu' : 0 ≤ u ∧ u < bs.length
  · obtain ⟨u', rfl⟩ : ∃ u' : Nat, u = u' := ⟨u.toNat, by omega⟩
    have hb : bs[u']? = some bs[u'] := List.getElem?_eq_getElem (by omega)
    go_enter Try.func12, Try.ntmps12
    by_cases hs0 : slot < 0
    · go_wp2_with (go_at_call 32; refine (at_in h u' _ hb).mono ?_; rintro e w' ⟨rfl, rfl⟩)
      go_ret2
      exact ⟨rfl, rfl⟩
    · have hs32 : 32 ≤ slot := by omega
      go_wp2_with (go_at_call 32; refine (at_in h u' _ hb).mono ?_; rintro e w' ⟨rfl, rfl⟩)
      go_ret2
      exact ⟨rfl, rfl⟩
  · go_enter Try.func12, Try.ntmps12
    go_wp2_with (go_at_call 32; refine (at_out h u (by omega)).mono ?_; rintro e w' ⟨rfl, rfl⟩)
    go_ret2
    exact ⟨rfl, rfl⟩
theorem draw_nilT (u slot : Int) (v : Option Addr) (w : World) :
    Calls Try.prog 12 #[.pointer none, .int .i64 u, .int .i64 slot, .pointer v] w fun e w' => e = .returned (.tuple #[.int .u16 0, .int .i64 2]) ∧ w = w' := by
  go_enter Try.func12, Try.ntmps12
  go_wp2
  go_ret2
  exact ⟨rfl, rfl⟩
theorem draw_nilD (t : Nat) (u slot : Int) (w : World) :
    Calls Try.prog 12 #[.pointer (some ⟨t, 0, none⟩), .int .i64 u, .int .i64 slot, .pointer none] w fun e w' => e = .returned (.tuple #[.int .u16 0, .int .i64 2]) ∧ w = w' := by
  go_enter Try.func12, Try.ntmps12
  go_wp2
  go_ret2
  exact ⟨rfl, rfl⟩
end Go.Proofs.Ythbapdajmpplhaa
