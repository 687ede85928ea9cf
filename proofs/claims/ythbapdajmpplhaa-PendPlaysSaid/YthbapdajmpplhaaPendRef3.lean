/-
  hustingsref29: Draw, Copy.
-/
import Derived.Test.YthbapdajmpplhaaPendRef2
import Derived.Deep.Cut
namespace Go.Proofs.Ythbapdajmpplhaa
open Go.RowKit
set_option linter.unusedVariables false
set_option linter.unusedSimpArgs false

theorem Ref.range {w : World} {g : Nat} {seed : Int} {xs : List Int} {n : Nat} (h : Ref w g seed xs n) (k : Nat) : 0 ≤ draw seed xs k ∧ draw seed xs k < 18446744073709551616 := by
  unfold draw
  split
  · rename_i hk
    rw [List.getD_eq_getElem?_getD, List.getElem?_eq_getElem hk]
    exact h.els _ (List.getElem_mem hk)
  · exact mixed_range _

theorem RT.by_ref {w w' : World} {x n g m : Nat} {L : List Out} {seed : Int} {xs : List Int} (h : RT w x n L) (hr : Ref w g seed xs m) (o : Only (· = g) w w') : RT w' x n L := by
  obtain ⟨A, c, h1, _⟩ := hr.src
  refine h.only o (fun i e cs T hc => ?_)
  have := blk_type h1 e hc
  subst this
  exact ⟨by decide, by decide⟩
theorem Ref.by_rt {w w' : World} {x n g m : Nat} {L : List Out} {seed : Int} {xs : List Int} (hr : Ref w g seed xs m) (h : RT w x n L) (o : Only (· = x) w w') : Ref w' g seed xs m := by
  obtain ⟨A, c, h1, _⟩ := hr.src
  obtain ⟨A2, c2, h2, _⟩ := h.tab
  refine hr.only o (fun e => (h1.ne_ h2 (by decide)) e) ?_
  intro k t cs hk hh
  rw [blk_type h2 hk hh]; decide

set_option maxRecDepth 1000000 in
set_option maxHeartbeats 6400000 in
theorem rdraw_in {w : World} {x g n m : Nat} {L : List Out} {seed : Int} {xs : List Int} (h : RT w x n L) (ht : Ref w g seed xs m) (hm : m ≤ 100000) (hL : L.length ≤ 60000) (u slot : Int) (hok : okD n u slot) (hn9 : n ≤ 9) :
    Calls Try.prog 21 #[.pointer (some ⟨x, 0, none⟩), .int .i64 u, .int .i64 slot, .pointer (some ⟨g, 0, none⟩)] w fun e w' =>
      e = .returned (.tuple #[.int .u16 (nextO L u.toNat (low16 (draw seed xs m)) : Nat), .int .i64 0]) ∧ RT w' x n (L ++ [⟨u.toNat, slot, nextO L u.toNat (low16 (draw seed xs m))⟩]) ∧ Ref w' g seed xs (m + 1) ∧ Only (fun i => i = x ∨ i = g) w w' := by
  obtain ⟨i0, hi, hz0, hz1, hz2⟩ := info_parts info_o
  obtain ⟨k1, k2, k3, k4⟩ := hok
  obtain ⟨u', rfl⟩ : ∃ u' : Nat, u = u' := ⟨u.toNat, by omega⟩
  rw [Int.toNat_natCast]
  have hrg := ht.range m
  have hsp := stepsO_spec (u := u') h.inv (low16 (draw seed xs m)) (by have := lenO_le L u'; omega)
  have hlL := lenO_le L u'
  have hnx : nextO L u' (low16 (draw seed xs m)) = (low16 (draw seed xs m) + stepsO L u' (low16 (draw seed xs m))) % 65536 := rfl
  have hs64 := low16_lt (draw seed xs m)
  obtain ⟨s, hs'⟩ : ∃ s, s = low16 (draw seed xs m) := ⟨_, rfl⟩
  have hw1 : (draw seed xs m).tmod 65536 = (s : Int) := by
    rw [hs', Int.tmod_eq_emod_of_nonneg hrg.1]; unfold low16; omega
  have hw2 : IntKind.u16.wrap (s : Int) = s := by
    rw [show ∀ x, IntKind.u16.wrap x = x % 65536 from fun x => by simp [IntKind.wrap_u16]]; omega
  rw [← hs'] at hsp hnx hs64 ⊢
  obtain ⟨d, hd⟩ : ∃ d, d = stepsO L u' s := ⟨_, rfl⟩
  rw [← hd] at hsp hnx
  obtain ⟨h1, h2, h3⟩ := hsp
  obtain ⟨id, hid⟩ : ∃ id, id = (s + d) % 65536 := ⟨_, rfl⟩
  rw [← hid] at h2 hnx
  rw [hnx]
  have hid64 : id < 65536 := by omega
  have hd200 : d ≤ 60000 := by omega
  have hfa : ∀ j, j < d → (findR L (u' : Int) ((s + j) % 65536)).isSome = true := fun j hj => by
    unfold findR
    rw [if_pos (by omega), Int.toNat_natCast, findO_isO]
    exact h3 j hj
  have hfn : findR L (u' : Int) id = none := by
    unfold findR
    rw [if_pos (by omega), Int.toNat_natCast]
    exact findO_none h2
  have hll : lenR L (u' : Int) ≤ 60000 := Nat.le_trans (lenR_le _ _) hL
  have hge : ¬ (65536 : Int) ≤ (lenR L (u' : Int) : Nat) := by omega
  obtain ⟨ln, hln⟩ : ∃ ln, ln = lenR L (u' : Int) := ⟨_, rfl⟩
  rw [← hln] at hge
  have hged : decide ((65536 : Int) ≤ (ln : Int)) = false := decide_eq_false hge
  have Hln := Lib.hid hln
  have Hid_ := Lib.hid hid
  have Hfa := Lib.hid hfa
  have Hfn := Lib.hid hfn
  have h2' := Lib.hid h2
  clear hnx hs' hid hd h1 hlL hll hln hfa hfn h2 h3 hrg
  have Hw1 := Lib.hid hw1
  have Hw2 := Lib.hid hw2
  clear hw1 hw2
  have H := Lib.hid h
  obtain ⟨A0, c0, b1, _⟩ := h.tab
  have c00 := b1.cell 0
  simp at c00
  clear b1 h
  go_enter Try.func21, Try.ntmps21
  go_wp2_with fail
  clear hge
  refine (rlen_any H.out (Nat.le_trans hL (by decide)) u').mono ?_
  rintro e wz ⟨rfl, rfl⟩
  rw [← Hln.out]
  go_wp2_with fail
  refine (ref_next ht (by omega)).mono ?_
  rintro e w1 ⟨rfl, ht1, ho1⟩
  have hR1 := H.out.by_ref ht ho1
  have HR1 := Lib.hid hR1
  clear hR1 ht c00 H hged
  have hw1 := Hw1.out
  have hw2 := Hw2.out
  go_upto_region 6 with fail
  clear hw1 hw2
  go_wp2_with fail
  go_loopw [10, 11, 12, 13] (fun y i _ _ wr => ∃ j : Nat, j ≤ d ∧ y = .int .u16 ((s + j) % 65536 : Nat) ∧ i = .int .i64 j ∧ wr = w1) (fun _ i _ _ _ => d - (intOf i).toNat)
  case atStart => exact ⟨0, Nat.zero_le _, by rw [Nat.add_zero, Nat.mod_eq_of_lt hs64], rfl, rfl⟩
  case round =>
    obtain ⟨j, hj, rfl, rfl, rfl⟩ := hrel
    have hj6 : decide ((j : Int) < 65536) = true := decide_eq_true (by omega)
    by_cases hlt : j < d
    · obtain ⟨v, hv⟩ := Option.isSome_iff_exists.1 (Hfa.out j hlt)
      obtain ⟨y, hy⟩ : ∃ y, y = (s + j) % 65536 := ⟨_, rfl⟩
      have hyw : IntKind.u16.wrap ((y : Int) + 1) = ((s + (j + 1)) % 65536 : Nat) := by
        rw [hy]; exact next_wrap s j
      rw [← hy] at hv ⊢
      have hy64 : y < 65536 := by omega
      have Hv := Lib.hid hv
      clear hv hy
      go_wp2_with fail
      refine (rfind_any HR1.out (by omega) u' y hy64).mono ?_
      rintro e wz ⟨rfl, rfl⟩
      rw [Hv.out]
      dsimp only [Option.getD, Option.isSome]
      go_wp2_with fail
      go_roundw
      case rel => exact ⟨j + 1, hlt, vint (by omega), by go_num, trivial⟩
      case measure => simp [intOf]; omega
    · obtain rfl : j = d := by omega
      rw [← Hid_.out]
      clear Hid_ Hfa
      go_wp2_with fail
      refine (rfind_any HR1.out (by omega) u' id hid64).mono ?_
      rintro e wz ⟨rfl, rfl⟩
      rw [Hfn.out]
      dsimp only [Option.getD, Option.isSome]
      have hI := HR1.out.inv
      obtain ⟨A, c, b1, b2⟩ := HR1.out.tab
      have hwx := HR1.out.lt
      have hs1 := Still.new wr (.cells #[] 82)
      have b1' := b1.only hs1 (fun h => h)
      have hrr := (Reads.of_own b2).alloc (Nat.le_refl _) (.cells #[] 82)
      have hown0 := World.ownsRow_made (base := wr.heap.size) (e := 82) (size := 3) wr #[] 0 (Nat.le_refl _) (by unfold maxLen; omega) rfl
      have q1 := b1'.cell 1
      have q1' := b1.cell 1
      simp at q1 q1'
      go_wp2_with (at_builtin; refine wpList_append_any _ rfl (.tmp 56) (.tmp 60) 78 rfl wr.heap.size 82 i0 (.agg #[.int .i64 0, .int .i64 0, .int .u16 0]) 3 24 Try.underlying78 hi hz0 hz1 hz2 rfl (by decide) _ 0 [] rfl hown0 wr.heap.size _ _ c _ rfl hrr ?c1 ?c2 ?c3 ?c4 ?_)
      case c1 => exact otRow_one L
      case c2 => unfold maxLen; omega
      case c3 => omega
      case c4 => simp
      intro v2 w2 hown2 hgrow2 hblk2
      try rw [Nat.zero_add, List.nil_append] at hown2
      obtain ⟨A2, c2, rfl⟩ := own_shape hown2
      have hst2 : Still wr w2 := hs1.grown hgrow2 (fun i hi => .inr (by simp [Value.ownBlock] at hi; omega))
      have hs3 := Still.new w2 (.cells #[.int .i64 (u' : Int), .int .i64 slot, .int .u16 (id : Int)] 82)
      have hown3 := own_only hown2 hs3 (fun _ _ h => h)
      have hrd := lit3 w2 (.int .i64 (u' : Int)) (.int .i64 slot) (.int .u16 (id : Int))
      have hz2 := hst2.size
      have hst3 := hst2.still hs3
      clear hown2 hgrow2 hblk2 hown0 hrr b1' hs1 q1
      go_wp2_with (at_builtin; refine wpList_append_any _ rfl (.tmp 61) (.tmp 66) 78 rfl wr.heap.size 82 i0 (.agg #[.int .i64 0, .int .i64 0, .int .u16 0]) 3 24 Try.underlying78 hi hz0 hz1 (by assumption) rfl (by decide) _ _ _ rfl hown3 _ _ 1 1 _ rfl hrd ?c1 ?c2 ?c3 ?c4 ?_)
      case c1 => intro v hv; simp at hv; rcases hv with rfl | rfl | rfl <;> rfl
      case c2 => unfold maxLen; omega
      case c3 => omega
      case c4 => simp; omega
      intro v3 w3 hown4 hgrow4 hblk4
      obtain ⟨A4, c4, rfl⟩ := own_shape hown4
      have hst4 : Still wr w3 := hst3.grown hgrow4 (fun i hi => by
        right
        rcases hown3.2 with ⟨e, _⟩ | ⟨g', cap, cur, e, hbq, hh, _⟩
        · rw [e] at hi; simp [Value.ownBlock] at hi
        · rw [e] at hi
          simp [Value.ownBlock] at hi
          omega)
      have hB := b1.only hst4 (fun h => h)
      have f1 := hB.frozen 1
      have q2 := hB.cell 1
      simp at q2
      have hxo : ∀ i, (Value.slice A4 (L.length + 1) c4).ownBlock = some i → i ≠ x := fun i hi e => by
        subst e
        exact own_blk_ne hown4 hB (by decide) hi
      have hRT : RT (w3.setCell ⟨x, 1, none⟩ (.slice A4 (L.length + 1) c4)) x n (L ++ [⟨u', slot, id⟩]) := by
        refine ⟨⟨A4, c4, ?_, ?_⟩, hI.put (o := ⟨u', slot, id⟩) (by show u' < n; omega) hid64 ⟨k3, k4⟩ h2'.out⟩
        · have := hB.set_ 1 (.slice A4 (L.length + 1) c4)
          simpa using this
        · have := own_base (own_only hown4 ((Only.refl (· = x) w3).setCell (p := ⟨x, 1, none⟩) (.inl rfl) (.slice A4 (L.length + 1) c4)) hxo) (Nat.zero_le _)
          rw [otRow_append, otRow_single, List.length_append]
          exact this
      have hO : Only (· = x) wr (w3.setCell ⟨x, 1, none⟩ (.slice A4 (L.length + 1) c4)) := (Only.of_still hst4 (fun i => i = x)).setCell (p := ⟨x, 1, none⟩) (.inl rfl) _
      have ht2 := ht1.by_rt HR1.out hO
      have hO2 : Only (fun i => i = x ∨ i = g) w (w3.setCell ⟨x, 1, none⟩ (.slice A4 (L.length + 1) c4)) := (ho1.mono (fun i _ e => .inr e)).trans hO (fun i _ e => .inl e)
      clear hown3 hrd hst2 hs3 hst3 hown4 hgrow4 hblk4 hst4 hB hxo hO b1 b2 q1'
      go_wp2_with fail
      go_ret2
      exact ⟨rfl, hRT, ht2, hO2⟩
theorem rdraw_out {w : World} {x g n : Nat} {L : List Out} (h : RT w x n L) (u slot : Int) (hok : ¬ okD n u slot) :
    Calls Try.prog 21 #[.pointer (some ⟨x, 0, none⟩), .int .i64 u, .int .i64 slot, .pointer (some ⟨g, 0, none⟩)] w fun e w' => e = .returned (.tuple #[.int .u16 0, .int .i64 1]) ∧ w = w' := by
  obtain ⟨A0, c0, b1, _⟩ := h.tab
  have c00 := b1.cell 0
  simp at c00
  clear b1 h
  go_enter Try.func21, Try.ntmps21
  by_cases h1 : u < 0
  · go_wp2
    go_ret2
    exact ⟨rfl, rfl⟩
  · by_cases h2 : (n : Int) ≤ u
    · go_wp2
      go_ret2
      exact ⟨rfl, rfl⟩
    · by_cases h3 : slot < 0
      · go_wp2
        go_ret2
        exact ⟨rfl, rfl⟩
      · have h4 : 32 ≤ slot := by unfold okD at hok; omega
        go_wp2
        go_ret2
        exact ⟨rfl, rfl⟩
end Go.Proofs.Ythbapdajmpplhaa
