/-
  law29: does, made: what acts make of a table and its tape.
-/
import Derived.Test.YthbapdajmpplhaaPendCopy
import Derived.Test.YthbapdajmpplhaaPendActs
import Derived.Test.YthbapdajmpplhaaRowAt
namespace Go.Proofs.Ythbapdajmpplhaa
open Go.RowKit
open Go.Maps (Keyed)
set_option linter.unusedVariables false
set_option linter.unusedSimpArgs false

def freeAtI (n : Nat) (slot u : Int) (L : List Out) : List Out := if 0 ≤ u ∧ u < n then freeAtO slot u.toNat L else L
def okD (n : Nat) (u slot : Int) : Prop := 0 ≤ u ∧ u < n ∧ 0 ≤ slot ∧ slot < 32
instance (n : Nat) (u slot : Int) : Decidable (okD n u slot) := by unfold okD; infer_instance
def putO (seed : Int) (xs : List Int) (u : Nat) (slot : Int) (s : List Out × Nat) : List Out × Nat := (s.1 ++ [⟨u, slot, nextO s.1 u (low16 (draw seed xs s.2))⟩], s.2 + 1)
def doL (n : Nat) (seed : Int) (xs : List Int) (p : A3) (s : List Out × Nat) : List Out × Nat :=
  if p.1 = 0 then (if okD n p.2.1 p.2.2 then putO seed xs p.2.1.toNat p.2.2 s else s)
  else if p.1 = 1 then (freeO p.2.2 s.1, s.2)
  else if p.1 = 2 then (freeAtI n p.2.2 p.2.1 s.1, s.2)
  else s
theorem freeAtI_len (n : Nat) (slot u : Int) (L : List Out) : (freeAtI n slot u L).length ≤ L.length := by
  unfold freeAtI
  split
  · exact List.length_filter_le _ _
  · exact Nat.le_refl _
theorem doL_len (n : Nat) (seed : Int) (xs : List Int) (p : A3) (s : List Out × Nat) : (doL n seed xs p s).1.length ≤ s.1.length + 1 ∧ (doL n seed xs p s).2 ≤ s.2 + 1 := by
  unfold doL
  split
  · split
    · simp [putO]
    · omega
  · split
    · exact ⟨Nat.le_succ_of_le (List.length_filter_le _ _), by simp⟩
    · split
      · exact ⟨Nat.le_succ_of_le (freeAtI_len _ _ _ _), by simp⟩
      · omega
def run (n : Nat) (seed : Int) (xs : List Int) (l : List A3) (s : List Out × Nat) : List Out × Nat := l.foldl (fun s p => doL n seed xs p s) s
theorem run_succ (n : Nat) (seed : Int) (xs : List Int) (l : List A3) (s : List Out × Nat) {k : Nat} {p : A3} (h : l[k]? = some p) : run n seed xs (l.take (k + 1)) s = doL n seed xs p (run n seed xs (l.take k) s) := by
  obtain ⟨hk, e⟩ := List.getElem?_eq_some_iff.1 h
  unfold run
  rw [List.take_succ_eq_append_getElem hk, e, List.foldl_append]
  rfl
theorem run_len (n : Nat) (seed : Int) (xs : List Int) : ∀ (l : List A3) (s : List Out × Nat), (run n seed xs l s).1.length ≤ s.1.length + l.length ∧ (run n seed xs l s).2 ≤ s.2 + l.length
  | [], s => ⟨Nat.le_refl _, Nat.le_refl _⟩
  | p :: l, s => by
    have h1 := doL_len n seed xs p s
    have h2 := run_len n seed xs l (doL n seed xs p s)
    show (run n seed xs l (doL n seed xs p s)).1.length ≤ _ ∧ (run n seed xs l (doL n seed xs p s)).2 ≤ _
    simp only [List.length_cons]
    omega
theorem take_len {l : List A3} (k : Nat) : (l.take k).length ≤ l.length := by rw [List.length_take]; omega

section
variable {w : World} {t g n : Nat} {bs : List Nat} {L : List Out} {seed : Int} {xs : List Int}
/-- Draw, whatever is asked, where there is room. -/
theorem draw_any (h : PT w t bs L) (ht : Tape w g seed xs n) (hn : n ≤ 1000000) (hL : L.length < 65536) (u slot : Int) :
    Calls Try.prog 12 #[.pointer (some ⟨t, 0, none⟩), .int .i64 u, .int .i64 slot, .pointer (some ⟨g, 0, none⟩)] w fun e w' =>
      (Hid (okD bs.length u slot) ∧ e = .returned (.tuple #[.int .u16 (nextO L u.toNat (low16 (draw seed xs n)) : Nat), .int .i64 0]) ∧ PT w' t bs (putO seed xs u.toNat slot (L, n)).1 ∧ Tape w' g seed xs (n + 1) ∧ Only (fun i => i ∈ bs ∨ i = g) w w') ∨
      (Hid (¬ okD bs.length u slot) ∧ e = .returned (.tuple #[.int .u16 0, .int .i64 1]) ∧ w = w') := by
  by_cases hk : okD bs.length u slot
  · obtain ⟨k1, k2, k3, k4⟩ := id hk
    obtain ⟨u', rfl⟩ : ∃ u' : Nat, u = u' := ⟨u.toNat, by omega⟩
    refine (draw_in h ht hn u' slot (by omega) ⟨k3, k4⟩ (by have := lenO_le L u'; omega)).mono ?_
    rintro e w' ⟨rfl, r1, r2, r3⟩
    exact .inl ⟨Lib.hid hk, rfl, r1, r2, r3⟩
  · refine (draw_out h u slot (by unfold okD at hk; omega)).mono ?_
    rintro e w' ⟨rfl, rfl⟩
    exact .inr ⟨Lib.hid hk, rfl, rfl⟩
theorem freeAt_any (h : PT w t bs L) (slot u : Int) :
    Calls Try.prog 15 #[.pointer (some ⟨t, 0, none⟩), .int .i64 slot, .int .i64 u] w fun e w' =>
      e = .returned (.int .i64 (L.length - (freeAtI bs.length slot u L).length : Nat)) ∧ PT w' t bs (freeAtI bs.length slot u L) ∧ Only (· ∈ bs) w w' := by
  unfold freeAtI
  by_cases hk : 0 ≤ u ∧ u < bs.length
  · rw [if_pos hk]
    obtain ⟨u', rfl⟩ : ∃ u' : Nat, u = u' := ⟨u.toNat, by omega⟩
    exact freeAt_in h slot u' (by omega)
  · rw [if_neg hk]
    refine (freeAt_out h slot u (by omega)).mono ?_
    rintro e w' ⟨rfl, ho⟩
    exact ⟨by simp, h.still ho, Only.of_still ho _⟩
set_option maxRecDepth 1000000 in
theorem does_any (h : PT w t bs L) (ht : Tape w g seed xs n) (hn : n ≤ 1000000) (hL : L.length ≤ 10000) (a b c : Int) :
    Calls Try.prog 27 #[.pointer (some ⟨t, 0, none⟩), .agg #[.int .u8 a, .int .i64 b, .int .i64 c], .pointer (some ⟨g, 0, none⟩)] w fun e w' =>
      e = .returned (.tuple #[]) ∧ PT w' t bs (doL bs.length seed xs (a, b, c) (L, n)).1 ∧ Tape w' g seed xs (doL bs.length seed xs (a, b, c) (L, n)).2 ∧ Only (fun i => i ∈ bs ∨ i = g) w w' := by
  have hs0 := Still.new w (.cells #[.int .u8 a, .int .i64 b, .int .i64 c] 52)
  have h0 := h.still hs0
  have ht0 := ht.still hs0
  have hO : Only (fun i => i ∈ bs ∨ i = g) w (w.alloc (.cells #[.int .u8 a, .int .i64 b, .int .i64 c] 52)) := Only.of_still hs0 _
  obtain ⟨R, hR⟩ : ∃ R, R = doL bs.length seed xs (a, b, c) (L, n) := ⟨_, rfl⟩
  rw [← hR]
  unfold doL at hR
  dsimp only at hR
  clear hs0 h ht
  by_cases ha0 : a = 0
  · subst ha0
    rw [if_pos rfl] at hR
    have HR := Lib.hid hR
    clear hR
    go_enter Try.func27, Try.ntmps27
    go_wp2_with (go_at_call 12; refine (draw_any h0 ht0 hn (by omega) b c).mono ?_; rintro e w1 (⟨hk, rfl, r1, r2, r3⟩ | ⟨hk, rfl, rfl⟩))
    · have e := HR.out
      rw [if_pos hk.out] at e
      subst e
      go_end0
      exact ⟨rfl, r1, r2, hO.trans r3 (fun _ _ h => h)⟩
    · have e := HR.out
      rw [if_neg hk.out] at e
      subst e
      go_end0
      exact ⟨rfl, h0, ht0, hO⟩
  · rw [if_neg ha0] at hR
    by_cases ha1 : a = 1
    · subst ha1
      rw [if_pos rfl] at hR
      subst hR
      go_enter Try.func27, Try.ntmps27
      go_wp2_with (go_at_call 16; refine (free_any h0 c (by omega)).mono ?_; rintro e w1 ⟨rfl, r1, r3⟩)
      go_end0
      exact ⟨rfl, r1, ht0.maps h0 r3, hO.trans r3 (fun _ _ h => .inl h)⟩
    · rw [if_neg ha1] at hR
      by_cases ha2 : a = 2
      · subst ha2
        rw [if_pos rfl] at hR
        subst hR
        go_enter Try.func27, Try.ntmps27
        go_wp2_with (go_at_call 15; refine (freeAt_any h0 c b).mono ?_; rintro e w1 ⟨rfl, r1, r3⟩)
        go_end0
        exact ⟨rfl, r1, ht0.maps h0 r3, hO.trans r3 (fun _ _ h => .inl h)⟩
      · rw [if_neg ha2] at hR
        subst hR
        have b0 : (a == 0) = false := by rw [beq_eq_false_iff_ne]; exact ha0
        have b1 : (a == 1) = false := by rw [beq_eq_false_iff_ne]; exact ha1
        have b2 : (a == 2) = false := by rw [beq_eq_false_iff_ne]; exact ha2
        go_enter Try.func27, Try.ntmps27
        go_wp2_with fail
        go_end0
        exact ⟨rfl, h0, ht0, hO⟩
end
theorem load_a3 {w : World} {bl off : Nat} {a b c : Int} (h0 : w.cell? ⟨bl, off, none⟩ = some (.int .u8 a)) (h1 : w.cell? ⟨bl, off + 1, none⟩ = some (.int .i64 b)) (h2 : w.cell? ⟨bl, off + 2, none⟩ = some (.int .i64 c)) :
    (loadVar 52 ⟨bl, off, none⟩).run Try.prog w = .ok (.agg #[.int .u8 a, .int .i64 b, .int .i64 c]) w :=
  run_loadVar_at w bl off _ (a3C (a, b, c)) _ (cells3 h0 h1 h2) Try.underlying52 rfl (by kernel_rfl)

set_option maxRecDepth 1000000 in
set_option maxHeartbeats 6400000 in
theorem made_any (w : World) (u : Int) (N1 : Nat) (hN0 : (N1 : Int) = IntKind.u64.wrap u % 9 + 1) (seed : Int) (hs : 0 ≤ seed ∧ seed < 18446744073709551616) (A : Option Addr) (n c : Nat) (xs : List Int) (hA : A = none → n = 0 ∧ c = 0)
    (hr : Reads w w.heap.size 1 A n (xs.map (.int .u64))) (hx : ∀ x ∈ xs, 0 ≤ x ∧ x < 18446744073709551616) (hn : n ≤ 300)
    (A2 : Option Addr) (m c2 : Nat) (l : List A3) (hl : l.length = m) (hm : m ≤ 200) (hr2 : Reads w w.heap.size 3 A2 m (a3Cells l)) :
    Calls Try.prog 26 #[.int .i64 u, .int .u64 seed, .slice A n c, .slice A2 m c2] w fun e w' => ∃ t bs g, e = .returned (.tuple #[.pointer (some ⟨t, 0, none⟩), .pointer (some ⟨g, 0, none⟩), .int .i64 N1]) ∧ bs.length = N1 ∧
      PT w' t bs (run N1 seed xs l ([], 0)).1 ∧ Tape w' g seed xs (run N1 seed xs l ([], 0)).2 ∧ w.heap.size ≤ t ∧ w.heap.size ≤ g ∧ (∀ b ∈ bs, w.heap.size ≤ b) ∧ Still w w' := by
  obtain ⟨hs1, hs2⟩ := hs
  obtain ⟨N, hN⟩ : ∃ N : Nat, (N : Int) = IntKind.u64.wrap u % 9 := ⟨N1 - 1, by rw [IntKind.wrap_u64] at *; omega⟩
  have hN1 : N1 = N + 1 := by omega
  clear hN0
  have hN9 : N < 9 := by rw [IntKind.wrap_u64] at hN; omega
  have hN' : (IntKind.u64.wrap u).tmod 9 = (N : Int) := by
    rw [hN, Int.tmod_eq_emod_of_nonneg (by rw [IntKind.wrap_u64]; omega)]
  have hxlen : xs.length = n := by have := hr.1; simpa using this
  have Hx := Lib.hid hx
  have Hl := Lib.hid hl
  have Hxl := Lib.hid hxlen
  clear hx hN hl hxlen
  have hw1 : IntKind.i64.wrap (1 + (N : Int)) = (N1 : Int) := by rw [IntKind.wrap_i64]; omega
  have hw2 : (1 + (N : Int)) = (N1 : Int) := by omega
  have h19 : 1 ≤ N1 ∧ N1 ≤ 9 := by omega
  clear hN1
  go_enter Try.func26, Try.ntmps26
  go_wp2_with (first
    | (go_at_call 10; refine (new_pend w N1 h19.1 h19.2).mono ?_; rintro e w1 ⟨t, bs, rfl, hlen, hP1, ht1, hb1, hst1⟩)
    | (go_at_call 11; refine (new_any seed A n c xs _ ((hr.only hst1 (Nat.le_refl _) (fun _ _ h => h)).more hst1.size) hA (by omega) hs1 hs2 Hx.out).mono ?_; rintro e w2 ⟨g, rfl, hg, hT2, hst2⟩))
  have hP2 := hP1.still hst2
  have hst := hst1.still hst2
  have hgw : w.heap.size ≤ g := by have := hst1.size; omega
  clear hP1 hst1 hst2 hg hr
  have Hlen := Lib.hid hlen
  clear hlen
  go_loopw [14] (fun i wr => ∃ k, k ≤ m ∧ i = .int .i64 k ∧ PT wr t bs (run N1 seed xs (l.take k) ([], 0)).1 ∧ Tape wr g seed xs (run N1 seed xs (l.take k) ([], 0)).2 ∧ Still w wr) (fun i _ => m - (intOf i).toNat)
  case atStart => exact ⟨0, Nat.zero_le _, rfl, hP2, hT2, hst⟩
  case round =>
    clear hP2 hT2 hst
    obtain ⟨k, hk, rfl, hP, hT, hst⟩ := hrel
    by_cases hlt : k < m
    · have hrr := hr2.only hst (Nat.le_refl _) (fun _ _ h => h)
      obtain ⟨bl, off, x, y, z, rfl, hbl, hlk, d0, d1, d2⟩ := a3_cells hrr Hl.out hlt
      have hld := load_a3 d0 d1 d2
      have hrl := run_len N1 seed xs (l.take k) ([], 0)
      have htk := take_len (l := l) k
      have hL1 := Hl.out
      have hsucc := run_succ N1 seed xs l ([], 0) hlk
      have Hs := Lib.hid hsucc
      obtain ⟨s, hs⟩ : ∃ s, s = run N1 seed xs (l.take k) ([], 0) := ⟨_, rfl⟩
      rw [← hs] at hP hT hrl Hs
      simp at hrl
      have b1 : s.2 ≤ 1000000 := by omega
      have b2 : s.1.length ≤ 10000 := by omega
      clear hs hsucc hrl htk hL1 hlk hrr hld
      go_wp2_with (go_at_call 27; refine (does_any hP hT b1 b2 x y z).mono ?_; rintro e w3 ⟨rfl, r1, r2, r3⟩)
      rw [Hlen.out, ← Hs.out] at r1 r2
      go_roundw
      case rel => exact ⟨k + 1, hlt, by go_num, r1, r2, hst.trans r3 (fun i hi e => e.elim (fun e => by have := hb1 i e; omega) (fun e => by omega))⟩
      case measure => simp [intOf]; omega
    · obtain rfl : k = m := by omega
      rw [List.take_of_length_le (by rw [Hl.out]; omega)] at hP hT
      go_wp2_with fail
      go_ret3
      exact ⟨t, bs, g, rfl, Hlen.out, hP, hT, ht1, hgw, hb1, hst⟩
end Go.Proofs.Ythbapdajmpplhaa
