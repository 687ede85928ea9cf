/-
  PendNames: the examples; each error in its row; all IDs out; nil, and what nobody made.
-/
import Derived.Test.YthbapdajmpplhaaPendApart
namespace Go.Proofs.Ythbapdajmpplhaa
open Go.RowKit
set_option linter.unusedVariables false
set_option linter.unusedSimpArgs false

def fullL (k : Nat) : List Out := (List.range k).map (fun i => (⟨8, ((i % 32 : Nat) : Int), i⟩ : Out))
theorem full_succ (k : Nat) : fullL (k + 1) = fullL k ++ [⟨8, ((k % 32 : Nat) : Int), k⟩] := by
  unfold fullL
  rw [List.range_succ, List.map_append]; rfl
theorem full_mem {k : Nat} {o : Out} : o ∈ fullL k ↔ ∃ i, i < k ∧ o = ⟨8, ((i % 32 : Nat) : Int), i⟩ := by
  unfold fullL
  rw [List.mem_map]
  exact ⟨fun ⟨i, h1, h2⟩ => ⟨i, List.mem_range.1 h1, h2.symm⟩, fun ⟨i, h1, h2⟩ => ⟨i, List.mem_range.2 h1, h2.symm⟩⟩
theorem full_len (k : Nat) : (fullL k).length = k := by unfold fullL; simp
theorem full_lenO (k : Nat) : lenO (fullL k) 8 = k := by
  unfold lenO
  rw [List.filter_eq_self.2, full_len]
  intro o ho
  obtain ⟨i, _, rfl⟩ := full_mem.1 ho
  rfl
theorem full_len7 (k : Nat) : lenO (fullL k) 7 = 0 := by
  unfold lenO
  rw [List.length_eq_zero_iff, List.filter_eq_nil_iff]
  intro o ho
  obtain ⟨i, _, rfl⟩ := full_mem.1 ho
  simp [onU]
theorem full_next (k : Nat) (hk : k < 65536) : nextO (fullL k) 8 k = k := by
  rw [(nextO_of 0 (by omega) (isO_no.2 (fun o ho => ?_)) (fun j hj => by omega)).2]
  · omega
  · obtain ⟨i, hi, rfl⟩ := full_mem.1 ho
    simp
    omega
theorem full_at7 (k : Nat) : freeAtI 9 31 7 (fullL k) = fullL k := by
  unfold freeAtI
  rw [if_pos (by omega)]
  unfold freeAtO
  rw [List.filter_eq_self]
  intro o ho
  obtain ⟨i, _, rfl⟩ := full_mem.1 ho
  simp
theorem full_free (k : Nat) : (freeO 31 (fullL k)).length + k / 32 = k := by
  induction k with
  | zero => rfl
  | succ k ih =>
    rw [full_succ]
    unfold freeO at ih ⊢
    rw [List.filter_append, List.length_append]
    by_cases h : k % 32 = 31
    · simp [h]
      omega
    · have : ¬ ((k % 32 : Nat) : Int) = 31 := by omega
      simp only [List.filter_cons, this, decide_false, Bool.not_false, if_true, List.filter_nil, List.length_cons, List.length_nil]
      omega
def halfL (K : Nat) : List Out := freeO 31 (fullL K)
theorem half_def (K : Nat) : freeO 31 (fullL K) = halfL K := rfl
theorem half_len (K : Nat) : (halfL K).length + K / 32 = K := full_free K
theorem half_mem {K : Nat} {o : Out} : o ∈ halfL K ↔ ∃ i, i < K ∧ i % 32 ≠ 31 ∧ o = ⟨8, ((i % 32 : Nat) : Int), i⟩ := by
  unfold halfL freeO
  rw [List.mem_filter, full_mem]
  constructor
  · rintro ⟨⟨i, hi, rfl⟩, h⟩
    exact ⟨i, hi, by simp at h; omega, rfl⟩
  · rintro ⟨i, hi, hn, rfl⟩
    exact ⟨⟨i, hi, rfl⟩, by simp; omega⟩
theorem half_lenO (K : Nat) : lenO (halfL K) 8 = (halfL K).length := by
  unfold lenO
  rw [List.filter_eq_self.2]
  intro o ho
  obtain ⟨i, _, _, rfl⟩ := half_mem.1 ho
  rfl
theorem half_next (K : Nat) (hK : 32 ≤ K) : nextO (halfL K) 8 0 = 31 := by
  rw [(nextO_of 31 (by omega) (isO_no.2 (fun o ho => ?_)) (fun j hj => isO_iff.2 ⟨⟨8, ((j % 32 : Nat) : Int), j⟩, half_mem.2 ⟨j, by omega, by omega, rfl⟩, rfl, ?_⟩)).2]
  · obtain ⟨i, hi, hn, rfl⟩ := half_mem.1 ho
    simp
    omega
  · show j = (0 + j) % 65536
    omega
theorem half_neg (K : Nat) : freeO (-1) (halfL K) = halfL K := by
  unfold freeO
  rw [List.filter_eq_self]
  intro o ho
  obtain ⟨i, _, _, rfl⟩ := half_mem.1 ho
  simp
  omega
theorem low16_nat (k : Nat) (hk : k < 65536) : low16 (k : Int) = k := by unfold low16; omega
theorem draw_one (x : Int) : draw 0 [x] 0 = x := rfl

theorem find_nil (u : Int) (id : Nat) (hid : id < 65536) (w : World) :
    Calls Try.prog 17 #[.pointer none, .int .i64 u, .int .u16 id] w fun e w' => e = .returned (.tuple #[.int .i64 0, .bool false]) ∧ w = w' := by
  have hl := Maps.look_nil (P := Try.prog) (w := w) true klaw_u16 Try.underlying69 (zero_i w) (key_u16 hid)
  go_enter Try.func17, Try.ntmps17
  go_wp2_with (go_at_call 32; refine (at_nil u w).mono ?_; rintro e w' ⟨rfl, rfl⟩)
  go_ret2
  exact ⟨rfl, rfl⟩
theorem len_nil (u : Int) (w : World) :
    Calls Try.prog 14 #[.pointer none, .int .i64 u] w fun e w' => e = .returned (.int .i64 0) ∧ w = w' := by
  go_enter Try.func14, Try.ntmps14
  go_wp2_with (go_at_call 32; refine (at_nil u w).mono ?_; rintro e w' ⟨rfl, rfl⟩)
  go_ret
  exact ⟨rfl, rfl⟩

theorem Tape.act {w w' : World} {t3 g g3 n n3 : Nat} {bs3 : List Nat} {L3 : List Out} {seed seed3 : Int} {xs xs3 : List Int} (h : Tape w g seed xs n) (h3 : PT w t3 bs3 L3) (ht : Tape w g3 seed3 xs3 n3) (o : Only (fun i => i ∈ bs3 ∨ i = g3) w w') (hne : g ≠ g3) : Tape w' g seed xs n := by
  obtain ⟨f, hf, _⟩ := ht.src
  obtain ⟨f2, hf2, _⟩ := h.src
  refine h.only o (fun e => ?_) (fun i T cs e hc => ?_)
  · rcases e with e | e
    · obtain ⟨es, c, e'⟩ := h3.map_blk e
      unfold Blk at hf2
      rw [hf2] at e'
      cases e'
    · exact hne e
  · rcases e with e | e
    · obtain ⟨es, c, e'⟩ := h3.map_blk e
      rw [hc] at e'
      cases e'
    · subst e
      have : T = 74 := by
        unfold Blk at hf
        rw [hf] at hc
        cases hc
        rfl
      subst this
      exact ⟨by decide, by decide⟩
theorem zero_pt {w : World} {t : Nat} (h : Blk w t 41 #[.slice none 0 0]) : PT w t [] [] :=
  ⟨⟨none, 0, h, World.ownsRow_nil _ _ _ _⟩, by simp, by simp, Inv.nil _, by simp⟩
def tb : Nat → Int × Int
  | 0 => (-1, 0) | 1 => (9, 0) | 2 => (0, -1) | _ => (0, 32)
abbrev tbA : Array Value := #[.int .i64 (-1), .int .i64 0, .int .i64 9, .int .i64 0, .int .i64 0, .int .i64 (-1), .int .i64 0, .int .i64 32]
theorem tb_cell : ∀ (k : Nat) (hk : k < 4), tbA[k * 2]? = some (.int .i64 (tb k).1) ∧ tbA[k * 2 + 1]? = some (.int .i64 (tb k).2) ∧ ((tb k).1 < 0 ∨ 9 ≤ (tb k).1 ∨ (tb k).2 < 0 ∨ 32 ≤ (tb k).2)
  | 0, _ => ⟨rfl, rfl, by decide⟩
  | 1, _ => ⟨rfl, rfl, by decide⟩
  | 2, _ => ⟨rfl, rfl, by decide⟩
  | 3, _ => ⟨rfl, rfl, by decide⟩
  | n + 4, h => absurd h (by omega)

set_option maxRecDepth 1000000 in
set_option maxHeartbeats 12800000 in
theorem names_walk (w : World) : Calls Try.prog 3 #[] w fun e w' => e = .returned (.bool true) ∧ Still w w' := by
  go_enter Try.func3, Try.ntmps3
  go_wp2_with fail
  refine (pend_awake _).mono ?_
  rintro e w0 ⟨rfl, ho0⟩
  go_wp2_with fail
  refine (new_bad w0 0 (by omega)).mono ?_
  rintro e w1 ⟨rfl, rfl⟩
  go_wp2_with fail
  refine (new_bad w0 10 (by omega)).mono ?_
  rintro e w1 ⟨rfl, rfl⟩
  go_wp2_with fail
  refine (new_pend w0 9 (by omega) (by omega)).mono ?_
  rintro e w1 ⟨t, bs, rfl, hlen, hP1, ht1, hb1, hst1⟩
  go_wp2_with fail
  refine (new_any 3 none 0 0 [] w1 Reads.none_ (fun _ => ⟨rfl, rfl⟩) (by omega) (by omega) (by omega) (by simp)).mono ?_
  rintro e w2 ⟨g, rfl, hg, hT2, hst2⟩
  have hP2 := hP1.still hst2
  have hge : ∀ i ∈ bs, w.heap.size ≤ i := fun i hi => by have := hb1 i hi; have := ho0.size; omega
  have hgw : w.heap.size ≤ g := by have := ho0.size; have := hst1.size; omega
  have hS2 := (ho0.still hst1).still hst2
  have Hlen := Lib.hid hlen
  clear hP1 ho0 hst1 hst2 hb1 ht1 hg hlen
  have hs3 := Still.new w2 (.cells tbA 30)
  have hB3 := Blk.new w2 30 tbA
  have hP3 := hP2.still hs3
  have hT3 := hT2.still hs3
  have hS3 := hS2.still hs3
  go_wp2_with fail
  obtain ⟨w3, hw3⟩ : ∃ w3, w3 = w2.alloc (.cells tbA 30) := ⟨_, rfl⟩
  obtain ⟨q, hq⟩ : ∃ q, q = w2.heap.size := ⟨_, rfl⟩
  rw [← hw3] at hB3 hP3 hT3 hS3 ⊢
  rw [← hq] at hB3 ⊢
  have hqw : w.heap.size ≤ q := by rw [hq]; exact hS2.size
  clear hw3 hq hs3 hP2 hT2 hS2
  go_loopw [9, 10, 11, 64] (fun _ _ _ i wr => ∃ k : Nat, k ≤ 4 ∧ i = .int .i64 k ∧ PT wr t bs [] ∧ Tape wr g 3 [] 0 ∧ Blk wr q 30 tbA ∧ Hid (Still w wr)) (fun _ _ _ i _ => 4 - (intOf i).toNat)
  case atStart => exact ⟨0, by omega, rfl, hP3, hT3, hB3, Lib.hid hS3⟩
  case round =>
    clear hP3 hT3 hB3 hS3
    obtain ⟨k, hk, rfl, hP, hT, hB, hst⟩ := hrel
    by_cases hlt : k < 4
    · obtain ⟨a, b, d0, d1, hab⟩ : ∃ a b : Int, wr.cell? ⟨q, k * 2, none⟩ = some (.int .i64 a) ∧ wr.cell? ⟨q, k * 2 + 1, none⟩ = some (.int .i64 b) ∧ (a < 0 ∨ 9 ≤ a ∨ b < 0 ∨ 32 ≤ b) := by
        obtain ⟨x, y, z⟩ := tb_cell k hlt
        exact ⟨_, _, (hB.cell _).trans x, (hB.cell _).trans y, z⟩
      have hs5 := Still.new wr (.cells #[.int .i64 a, .int .i64 b] 30)
      have hP5 := hP.still hs5
      have hT5 := hT.still hs5
      have hB5 := hB.only hs5 (fun h => h)
      have hst5 : Hid (Still w _) := Lib.hid (hst.out.still hs5)
      clear hP hT hB hst hs5
      go_wp2_with fail
      refine (draw_out hP5 a b (by have := Hlen.out; omega)).mono ?_
      rintro e w6 ⟨rfl, rfl⟩
      go_wp2_with (go_at_call 13; refine (used_any hT5).mono ?_; rintro e wz ⟨rfl, rfl⟩)
      go_roundw
      case rel => exact ⟨k + 1, hlt, by go_num, hP5, hT5, hB5, hst5⟩
      case measure => simp [intOf]; omega
    · clear hB
      have hS := hst.out
      clear hst
      go_wp2_with fail
      go_loopw [12, 13, 14] (fun i _ _ wr => ∃ k : Nat, k ≤ 65536 ∧ i = .int .i64 k ∧ PT wr t bs (fullL k) ∧ Tape wr g 3 [] 0 ∧ Hid (Still w wr)) (fun i _ _ _ => 65536 - (intOf i).toNat)
      case atStart => exact ⟨0, by omega, rfl, hP, hT, Lib.hid hS⟩
      case round =>
        clear hP hT hS
        obtain ⟨k, hk, rfl, hP, hT, hst⟩ := hrel
        by_cases hlt : k < 65536
        · have hs5 := Still.new wr (.cells #[.int .u64 (k : Int)] 29)
          have hr := Reads.of_own (World.ownsRow_lit (e := 29) (size := 1) (base := 0) wr #[.int .u64 (k : Int)] 1 (Nat.zero_le _) (by unfold maxLen; omega) rfl)
          have hw1 : IntKind.u64.wrap (k : Int) = k := by rw [IntKind.wrap_u64]; omega
          have hw2 : (k : Int).tmod 32 = ((k % 32 : Nat) : Int) := by rw [Int.tmod_eq_emod_of_nonneg (by omega)]; omega
          obtain ⟨r, hr32⟩ : ∃ r, r = k % 32 := ⟨_, rfl⟩
          have hr31 : r < 32 := by omega
          rw [← hr32] at hw2
          have Hr := Lib.hid hr32
          clear hr32
          go_wp2_with (go_at_call 11; refine (new_any 0 _ 1 1 [(k : Int)] _ hr (by simp) (by omega) (by omega) (by omega) (by intro x hx; rw [List.mem_singleton.1 hx]; omega)).mono ?_; rintro e w5 ⟨g5, rfl, hg5, hT5, hst5⟩)
          have hP5 := (hP.still hs5).still hst5
          have hT6 := (hT.still hs5).still hst5
          have hS5 : Hid (Still w w5) := Lib.hid ((hst.out.still hs5).still hst5)
          have hg5w : w.heap.size ≤ g5 := by have := hst.out.size; have := hs5.size; omega
          have hgg : g < g5 := by have := hT.lt; have := hs5.size; omega
          have hfn : nextO (fullL k) 8 (low16 (draw 0 [(k : Int)] 0)) = k := by rw [draw_one, low16_nat k hlt]; exact full_next k hlt
          have Hfn := Lib.hid hfn
          clear hP hT hs5 hr hst hst5 hg5 hfn
          refine (draw_in hP5 hT5 (by omega) 8 (r : Int) (by have := Hlen.out; omega) (by omega) (by rw [full_lenO]; exact hlt)).mono ?_
          rintro e w7 ⟨rfl, q1, q2, q3⟩
          rw [Hfn.out] at q1 ⊢
          rw [Hr.out, ← full_succ] at q1
          have hT7 := hT6.act hP5 hT5 q3 (by omega)
          have hS7 : Hid (Still w w7) := Lib.hid (hS5.out.trans q3 (fun i hi e => e.elim (fun e => by have := hge i e; omega) (fun e => by omega)))
          have hw3 : IntKind.i64.wrap (k : Int) = k := by rw [IntKind.wrap_i64]; omega
          clear hP5 hT6 hT5 hS5 q2 q3 Hfn Hr
          go_wp2_with fail
          go_roundw
          case rel => exact ⟨k + 1, hlt, by go_num, q1, hT7, hS7⟩
          case measure => simp [intOf]; omega
        · have hk6 : k = 65536 := by omega
          have hg0 : ¬ (k : Int) < 65536 := by omega
          have hl9 := Hlen.out
          have f1 : lenI bs.length (fullL k) 8 = k := by unfold lenI; rw [if_pos (by omega)]; exact full_lenO k
          have f2 : lenI bs.length (fullL k) 7 = 0 := by unfold lenI; rw [if_pos (by omega)]; exact full_len7 k
          have f3 : freeAtI bs.length 31 7 (fullL k) = fullL k := by rw [hl9]; exact full_at7 k
          have f4 : (fullL k).length - (freeO 31 (fullL k)).length = 2048 := by have := full_free k; rw [full_len]; omega
          have f5 : (halfL k).length = 63488 := by have := half_len k; omega
          have f6 : lenI bs.length (halfL k) 8 = 63488 := by unfold lenI; rw [if_pos (by omega)]; exact (half_lenO k).trans f5
          have f7 : nextO (halfL k) 8 (low16 (draw 0 [0] 0)) = 31 := half_next k (by omega)
          have f8 : lenO (halfL k) 8 < 65536 := by rw [half_lenO]; omega
          have F1 := Lib.hid f1
          have F2 := Lib.hid f2
          have F3 := Lib.hid f3
          have F4 := Lib.hid f4
          have F5 := Lib.hid f5
          have F6 := Lib.hid f6
          have F7 := Lib.hid f7
          have F8 := Lib.hid f8
          have Hk := Lib.hid hk6
          clear f1 f2 f3 f4 f5 f6 f7 f8 hl9 hlt hk hk6
          go_wp2_with fail
          refine (draw_full hP 8 0 (by have := Hlen.out; omega) (by omega) (by rw [full_lenO]; exact Hk.out)).mono ?_
          rintro e wz ⟨rfl, rfl⟩
          go_wp2_with (go_at_call 13; refine (used_any hT).mono ?_; rintro e wz ⟨rfl, rfl⟩)
          refine (len_any hP 8).mono ?_
          rintro e wz ⟨rfl, rfl⟩
          rw [F1.out, Hk.out]
          go_wp2_with fail
          refine (len_any hP 7).mono ?_
          rintro e wz ⟨rfl, rfl⟩
          rw [F2.out]
          go_wp2_with fail
          refine (freeAt_any hP 31 7).mono ?_
          rintro e w7 ⟨rfl, q1, q2⟩
          rw [F3.out] at q1 ⊢
          rw [Nat.sub_self]
          have hT7 := hT.maps hP q2
          have hS7 : Hid (Still w w7) := Lib.hid (hst.out.trans q2 (fun i hi e => by have := hge i e; omega))
          clear hP hT hst q2
          go_wp2_with fail
          refine (free_any q1 31 (by rw [full_len, Hk.out]; omega)).mono ?_
          rintro e w8 ⟨rfl, q2, q3⟩
          rw [F4.out]
          rw [half_def] at q2
          have hT8 := hT7.maps q1 q3
          have hS8 : Hid (Still w w8) := Lib.hid (hS7.out.trans q3 (fun i hi e => by have := hge i e; omega))
          clear q1 hT7 hS7 q3
          go_wp2_with fail
          refine (len_any q2 8).mono ?_
          rintro e wz ⟨rfl, rfl⟩
          rw [F6.out]
          go_wp2_with fail
          refine (free_any q2 (-1) (by rw [F5.out]; omega)).mono ?_
          rintro e w9 ⟨rfl, q4, q5⟩
          rw [half_neg] at q4 ⊢
          rw [Nat.sub_self]
          have hT9 := hT8.maps q2 q5
          have hS9 : Hid (Still w w9) := Lib.hid (hS8.out.trans q5 (fun i hi e => by have := hge i e; omega))
          clear q2 hT8 hS8 q5
          have hs5 := Still.new w9 (.cells #[.int .u64 0] 29)
          have hr := Reads.of_own (World.ownsRow_lit (e := 29) (size := 1) (base := 0) w9 #[.int .u64 0] 1 (Nat.zero_le _) (by unfold maxLen; omega) rfl)
          go_wp2_with (go_at_call 11; refine (new_any 0 _ 1 1 [(0 : Int)] _ hr (by simp) (by omega) (by omega) (by omega) (by intro x hx; rw [List.mem_singleton.1 hx]; omega)).mono ?_; rintro e w10 ⟨g5, rfl, hg5, hT5, hst5⟩)
          have hP10 := (q4.still hs5).still hst5
          have hS10 : Hid (Still w w10) := Lib.hid ((hS9.out.still hs5).still hst5)
          have hg5w : w.heap.size ≤ g5 := by have := hS9.out.size; have := hs5.size; omega
          clear q4 hS9 hs5 hr hst5 hg5 hT9
          refine (draw_in hP10 hT5 (by omega) 8 4 (by have := Hlen.out; omega) (by omega) F8.out).mono ?_
          rintro e w11 ⟨rfl, q6, q7, q8⟩
          rw [F7.out] at q6 ⊢
          have hS11 : Hid (Still w w11) := Lib.hid (hS10.out.trans q8 (fun i hi e => e.elim (fun e => by have := hge i e; omega) (fun e => by omega)))
          clear hP10 hT5 hS10 q6 q7 q8
          have hs12 := Still.new w11 (.cells #[.slice none 0 0] 41)
          have hZ := zero_pt (Blk.new w11 41 #[.slice none 0 0])
          have hS12 : Hid (Still w _) := Lib.hid (hS11.out.still hs12)
          clear hs12 hS11
          go_wp2_with fail
          refine (draw_nilT 0 0 _ _).mono ?_
          rintro e wz ⟨rfl, rfl⟩
          go_wp2_with fail
          refine (draw_nilD t 0 0 _).mono ?_
          rintro e wz ⟨rfl, rfl⟩
          go_wp2_with fail
          refine (find_nil 0 0 (by omega) _).mono ?_
          rintro e wz ⟨rfl, rfl⟩
          go_wp2_with fail
          refine (draw_out hZ 0 0 (.inr (.inl (Int.le_refl _)))).mono ?_
          rintro e wz ⟨rfl, rfl⟩
          go_wp2_with fail
          refine (free_nil 0 _).mono ?_
          rintro e wz ⟨rfl, rfl⟩
          go_wp2_with fail
          refine (freeAt_nil 0 0 _).mono ?_
          rintro e w13 ⟨rfl, hst13⟩
          have hZ13 := hZ.still hst13
          have hS13 := hS12.out.still hst13
          clear hZ hS12 hst13
          go_wp2_with fail
          refine (len_nil 0 _).mono ?_
          rintro e wz ⟨rfl, rfl⟩
          go_wp2_with fail
          refine (copy_nil _).mono ?_
          rintro e wz ⟨rfl, rfl⟩
          go_wp2_with fail
          refine (len_any hZ13 0).mono ?_
          rintro e wz ⟨rfl, rfl⟩
          rw [show lenI ([] : List Nat).length [] 0 = 0 from rfl]
          go_wp2_with fail
          go_ret
          exact ⟨rfl, hS13⟩
end Go.Proofs.Ythbapdajmpplhaa
