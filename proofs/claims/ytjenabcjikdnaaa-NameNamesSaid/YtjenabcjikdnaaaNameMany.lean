/-
  NameNames.
-/
import Derived.Test.YtjenabcjikdnaaaNameRef8
namespace Go.Proofs.Ytjenabcjikdnaaa
open Go.RowKit
set_option linter.unusedVariables false
set_option linter.unusedSimpArgs false

set_option maxRecDepth 1000000 in
set_option maxHeartbeats 3200000 in
theorem many_any (n : Nat) (hn : n ≤ 1000) (w : World) :
    Calls Try.prog 14 #[.int .i64 n] w fun e w' => e = .returned (.string (mk (List.replicate n 120))) ∧ Still w w' := by
  obtain ⟨i0, hi, hz0, hz1, hz2⟩ := info_parts info_u8
  go_enter Try.func14, Try.ntmps14
  go_wp2_with (at_make; refine wpList_make_full _ rfl _ _ 42 rfl w.heap.size 5 i0 (.int .u8 0) 1 Try.underlying42 hi hz0 hz1 _ _ _ _ n rfl rfl rfl rfl (by rw [hz2]; omega) (by unfold maxLen; omega) (Nat.le_refl _) ?_)
  intro w1 hown hgrow
  have hst1 : Still w w1 := (Only.refl _ _).grown hgrow (fun k hk => by cases hk)
  have hblk : Blk w1 w.heap.size 5 (madeCells #[Value.int .u8 0] n) := by
    rcases hown.2 with ⟨h1, _⟩ | ⟨g', cap, cur, h1, _, hg, _, _, hcs, ht⟩
    · simp at h1
    · simp only [Value.slice.injEq, Option.some.injEq, Addr.mk.injEq, and_true, true_and] at h1
      obtain ⟨rfl, rfl⟩ := h1
      rw [List.take_of_length_le (by rw [Array.length_toList]; omega)] at ht
      have : cur = madeCells #[Value.int .u8 0] n := Array.toList_inj.1 ht
      rw [← this]
      exact hg
  have hsz : (madeCells #[Value.int .u8 0] n).size = n := by have := hown.1; simpa using this
  generalize madeCells #[Value.int .u8 0] n = cur at *
  clear hown hgrow
  go_wp2_with fail
  go_loopw [4] (fun i wr => ∃ (k : Nat) (cu : Array Value), k ≤ n ∧ i = .int .i64 k ∧ cu.size = n ∧ Blk wr w.heap.size 5 cu ∧ Hid (∀ j, j < k → cu[j]? = some (.int .u8 120)) ∧ Still w wr) (fun i _ => n - (intOf i).toNat)
  case atStart => exact ⟨0, cur, by omega, rfl, hsz, hblk, Lib.hid (fun j hj => by omega), hst1⟩
  case round =>
    clear hblk hsz cur hst1
    obtain ⟨k, cu, hk, rfl, hcu, hB, hp, hst⟩ := hrel
    by_cases hlt : k < n
    · have i1 : (k : Int) < (n : Int) := by omega
      have ck : wr.cell? ⟨w.heap.size, k, none⟩ = some cu[k] := by rw [hB.cell k, Array.getElem?_eq_getElem (by omega)]
      have fk := hB.frozen k
      have i2 : IntKind.i64.wrap ((k : Int) + 1) = ((k + 1 : Nat) : Int) := by rw [IntWalk.i64_in _ (by omega)]; push_cast; rfl
      have hBf := hB.set_ k (.int .u8 120)
      have hsf := hst.setCell (p := ⟨w.heap.size, k, none⟩) (.inr (Nat.le_refl _)) (.int .u8 120)
      have hpf : Hid (∀ j, j < k + 1 → (cu.setIfInBounds k (.int .u8 120))[j]? = some (.int .u8 120)) := Lib.hid (fun j hj => by
        rw [Array.getElem?_setIfInBounds]
        by_cases e : k = j
        · rw [if_pos e, if_pos (by omega)]
        · rw [if_neg e]; exact hp.out j (by omega))
      clear hB hst
      go_wp2_with fail
      exact ⟨⟨k + 1, _, by omega, by push_cast; rfl, by rw [Array.size_setIfInBounds]; exact hcu, hBf, hpf, hsf⟩, by simp [intOf]; omega⟩
    · have i1 : ¬ (k : Int) < (n : Int) := by omega
      have hb := of_bytes wr w.heap.size n (List.replicate n 120) (fun j hj => by
        have hj' : j < n := by simpa using hj
        rw [hB.cell j, hp.out j (by omega), List.getElem_replicate]
        rfl)
      rw [List.length_replicate] at hb
      go_wp2_with fail
      go_ret
      exact ⟨rfl, hst⟩
theorem many_lit (n : Int) (hn : 0 ≤ n ∧ n ≤ 1000) (w : World) :
    Calls Try.prog 14 #[.int .i64 n] w fun e w' => e = .returned (.string (mk (List.replicate n.toNat 120))) ∧ Still w w' := by
  have := many_any n.toNat (by omega) w
  rw [show ((n.toNat : Nat) : Int) = n by omega] at this
  exact this
theorem parse_s (s : ByteArray) (hs : s.size ≤ 3000) (w : World) : Calls Try.prog 17 #[.string s] w fun e w' => e = .returned (.tuple #[.string (mk (parseB s.data.toList)), .int .i64 (parseE s.data.toList)]) ∧ Still w w' := parse_any s (by omega) w

set_option maxRecDepth 1000000 in
theorem reads_ok (s n own : ByteArray) (hs : s.size ≤ 3000) (hn : n.size ≤ 3000) (h1 : parseE s.data.toList = 0) (h2 : mk (parseB s.data.toList) = n) (h3 : textS n = own) (w : World) :
    Calls Try.prog 16 #[.string s, .string n, .string own] w fun e w' => e = .returned (.bool true) ∧ Still w w' := by
  have H1 := Lib.hid h1
  have H2 := Lib.hid h2
  have H3 := Lib.hid h3
  clear h1 h2 h3
  go_enter Try.func16, Try.ntmps16
  go_wp2_with fail
  refine (parse_s s hs w).mono ?_
  rintro e w1 ⟨rfl, k1⟩
  rw [H1.out, H2.out]
  go_wp2_with fail
  refine (text_s n hn w1).mono ?_
  rintro e w2 ⟨rfl, k2⟩
  rw [H3.out]
  have k2 := k1.still k2
  go_wp2_with fail
  go_ret
  exact ⟨rfl, k2⟩
/-- A letter, so many times. -/
def xs (k : Nat) : ByteArray := mk (List.replicate k 120)
theorem xs_size (k : Nat) : (xs k).size = k := by unfold xs; rw [mk_size, List.length_replicate]
theorem many_x (n : Int) (hn : 0 ≤ n ∧ n ≤ 1000) (w : World) :
    Calls Try.prog 14 #[.int .i64 n] w fun e w' => e = .returned (.string (xs n.toNat)) ∧ Still w w' := many_lit n hn w
end Go.Proofs.Ytjenabcjikdnaaa
