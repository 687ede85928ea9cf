/-
  The laws of zone: what they share: long, labels, none, the examples as they are told.
-/
import Derived.Test.YtinjfongndlpgaaZoneLen
import Derived.Laws.StructEq
namespace Go.Proofs.Ytinjfongndlpgaa
open Go.RowKit
set_option linter.unusedVariables false
set_option linter.unusedSimpArgs false

theorem reads_blk {w : World} {K B n size : Nat} {t : TypeId} {cs : Array Value} (h : Blk w K t cs) (hK : K < B) (hn : cs.toList.length = n * size) : Reads w B size (some ⟨K, 0, none⟩) n cs.toList :=
  ⟨hn, fun _ => ⟨_, rfl, hK, fun j u hu => by
    rw [show (⟨K, 0, none⟩ : Addr).add j = ⟨K, j, none⟩ by rw [addr_at]; simp, h.cell]
    rw [← hu]; simp⟩⟩
theorem new_lit (w : World) (l : List Zn) (cs : Array Value) (n : Nat) (hcs : cs.toList = zRow l) (hn : l.length = n) (hm : n ≤ 1000000) (hok : ∀ z ∈ l, okZ z) :
    Calls Try.prog 11 #[.slice (some ⟨w.heap.size, 0, none⟩) n n] (w.alloc (.cells cs 35)) fun e w' =>
      (Hid (errZ l = 0) ∧ ∃ t, e = .returned (.tuple #[.pointer (some ⟨t, 0, none⟩), .int .i64 0]) ∧ Tab w' 0 t l ∧ Still w w') ∨
      (Hid (errZ l ≠ 0) ∧ e = .returned (.tuple #[.pointer none, .int .i64 (errZ l : Nat)]) ∧ Still w w') := by
  have hs := Still.new w (.cells cs 35)
  have hr : Reads (w.alloc (.cells cs 35)) (w.alloc (.cells cs 35)).heap.size 3 (some ⟨w.heap.size, 0, none⟩) n (zRow l) := by
    rw [← hcs]
    exact reads_blk (Blk.new w 35 cs) (by simp) (by rw [hcs, zRow_length, hn])
  refine (new_any _ _ n n l hn hr hok hm).mono ?_
  rintro e w' (⟨h1, t, rfl, hT, h2⟩ | ⟨h1, rfl, h2⟩)
  · exact .inl ⟨h1, t, rfl, hT.lower (Nat.zero_le _), hs.still h2⟩
  · exact .inr ⟨h1, rfl, hs.still h2⟩
theorem new_ok (w : World) (l : List Zn) (cs : Array Value) (n : Nat) (hcs : cs.toList = zRow l) (hn : l.length = n) (hm : n ≤ 1000000) (hok : ∀ z ∈ l, okZ z) (he : errZ l = 0) :
    Calls Try.prog 11 #[.slice (some ⟨w.heap.size, 0, none⟩) n n] (w.alloc (.cells cs 35)) fun e w' =>
      ∃ t, e = .returned (.tuple #[.pointer (some ⟨t, 0, none⟩), .int .i64 0]) ∧ Tab w' 0 t l ∧ Still w w' := by
  refine (new_lit w l cs n hcs hn hm hok).mono ?_
  rintro e w' (⟨h1, h2⟩ | ⟨h1, _⟩)
  · exact h2
  · exact absurd he h1.out
theorem new_no (w : World) (l : List Zn) (cs : Array Value) (n k : Nat) (hcs : cs.toList = zRow l) (hn : l.length = n) (hm : n ≤ 1000000) (hok : ∀ z ∈ l, okZ z) (he : errZ l = k) (hk : k ≠ 0) :
    Calls Try.prog 11 #[.slice (some ⟨w.heap.size, 0, none⟩) n n] (w.alloc (.cells cs 35)) fun e w' =>
      e = .returned (.tuple #[.pointer none, .int .i64 k]) ∧ Still w w' := by
  refine (new_lit w l cs n hcs hn hm hok).mono ?_
  rintro e w' (⟨h1, h2⟩ | ⟨h1, rfl, h2⟩)
  · exact absurd (he.symm.trans h1.out) hk
  · exact ⟨by rw [he], h2⟩
def okZb (l : List Zn) : Bool := l.all (fun z => decide (z.nm.size ≤ 30000) && decide (z.pol < 256) && decide (z.tr < 65536))
theorem okZ_of {l : List Zn} (h : okZb l = true) : ∀ z ∈ l, okZ z := by
  intro z hz
  unfold okZb at h
  rw [List.all_eq_true] at h
  have := h z hz
  rw [Bool.and_eq_true, Bool.and_eq_true, decide_eq_true_eq, decide_eq_true_eq, decide_eq_true_eq] at this
  exact ⟨this.1.1, this.1.2, this.2⟩
theorem find_at {w : World} {base t : Nat} {Z : List Zn} (s : ByteArray) (v : Zn) (hT : Tab w base t Z) (hs : s.size ≤ 30000) (hv : findZ Z s = v) :
    Calls Try.prog 13 #[.pointer (some ⟨t, 0, none⟩), .string s] w fun e w' => e = .returned (.agg #[.string v.nm, .int .u8 v.pol, .int .u16 v.tr]) ∧ Still w w' := by
  refine (find_any w base t Z s hT hs).mono ?_
  rintro e w' ⟨rfl, h⟩
  exact ⟨by rw [hv]; rfl, h⟩
theorem eqz_any (a a' : ByteArray) (b c b' c' : Int) (w : World) : (Op.equalIn 10000 35 (.agg #[.string a, .int .u8 b, .int .u16 c]) (.agg #[.string a', .int .u8 b', .int .u16 c'])).run Try.prog w = .ok (decide (a = a') && decide (b = b') && decide (c = c')) w := by
  rw [run_equalIn_struct w 9999 _ _ _ (by kernel_rfl) (by kernel_rfl)]
  simp only [Program.fieldsOf, Try.underlying35]
  go_simp
  have e0 : (a.toList = a'.toList) = (a = a') := propext ⟨fun h => list_nm.1 (by rw [← ByteArray.toList_eq, ← ByteArray.toList_eq]; exact h), fun h => by rw [h]⟩
  simp only [e0]
  by_cases h0 : a = a' <;> by_cases h1 : b = b' <;> by_cases h2 : c = c' <;> simp [h0, h1, h2]
theorem fld_any (a : ByteArray) (b c : Int) (w : World) : (Instr.field 35 (.agg #[.string a, .int .u8 b, .int .u16 c]) 0).run Try.prog w = .ok (.string a) w := by kernel_rfl
theorem eqz_refl (a : ByteArray) (b c : Int) (w : World) : (Op.equalIn 10000 35 (.agg #[.string a, .int .u8 b, .int .u16 c]) (.agg #[.string a, .int .u8 b, .int .u16 c])).run Try.prog w = .ok true w := by
  rw [eqz_any]; simp

set_option maxRecDepth 1000000 in
set_option maxHeartbeats 1600000 in
theorem none_any (w : World) : Calls Try.prog 16 #[] w fun e w' => e = .returned (.agg #[.string ⟨#[0]⟩, .int .u8 1, .int .u16 0]) ∧ Still w w' := by
  go_enter Try.func16, Try.ntmps16
  go_wp2_with fail
  (try simp only [Exit.inBlock, Exit.then])
  refine bodyPost_ret (results_cell_row rfl _ _ _ _ _ (0, 0) _ rfl (Blk.new w 35 #[.string ⟨#[0]⟩, .int .u8 1, .int .u16 0]) (Try.underlying35) rfl (by kernel_rfl)) rfl ?_
  exact ⟨rfl, Still.new _ _⟩
set_option maxRecDepth 1000000 in
set_option maxHeartbeats 1600000 in
theorem labels18 (w : World) (s : ByteArray) (hs : s.size ≤ 30000) : Calls Try.prog 18 #[.string s] w fun e w' => e = .returned (.int .i64 (nl s : Nat)) ∧ Still w w' := by
  go_enter Try.func18, Try.ntmps18
  go_wp2_with (go_at_call 24; refine (labels_c s hs _).mono ?_; rintro e w8 ⟨A, c, rfl, hs8⟩)
  go_ret
  exact ⟨rfl, hs8⟩

set_option maxRecDepth 1000000 in
set_option maxHeartbeats 6400000 in
theorem zone_awake (w : World) : Calls Try.prog 10 #[] w fun e w' => e = .returned (.bool true) ∧ Still w w' := by
  have eqz := eqz_refl
  have fld := fld_any
  go_enter Try.func10, Try.ntmps10
  go_wp2_with fail
  refine (new_ok w [⟨⟨#[2, 101, 120, 0]⟩, 1, 0⟩, ⟨⟨#[1, 97, 2, 101, 120, 0]⟩, 2, 0⟩] _ 2 (by rfl) rfl (by decide) (okZ_of (by kernel_rfl)) (by kernel_rfl)).mono ?_
  rintro e w1 ⟨t, rfl, hT1, h1⟩
  go_wp2_with fail
  refine (new_no w1 [⟨⟨#[2, 101, 120, 0]⟩, 1, 0⟩, ⟨⟨#[2, 101, 120, 0]⟩, 2, 0⟩] _ 2 7 (by rfl) rfl (by decide) (okZ_of (by kernel_rfl)) (by kernel_rfl) (by decide)).mono ?_
  rintro e w2 ⟨rfl, h2⟩
  have hT2 := hT1.still h2
  have h2 := h1.still h2
  go_wp2_with fail
  refine (new_no w2 [⟨⟨#[2, 69, 120, 0]⟩, 1, 0⟩] _ 1 3 (by rfl) rfl (by decide) (okZ_of (by kernel_rfl)) (by kernel_rfl) (by decide)).mono ?_
  rintro e w3 ⟨rfl, h3⟩
  have hT3 := hT2.still h3
  have h3 := h2.still h3
  go_wp2_with fail
  refine (find_at (Z := [⟨⟨#[2, 101, 120, 0]⟩, 1, 0⟩, ⟨⟨#[1, 97, 2, 101, 120, 0]⟩, 2, 0⟩]) ⟨#[1, 98, 2, 101, 120, 0]⟩ ⟨⟨#[2, 101, 120, 0]⟩, 1, 0⟩ hT3 (by decide) (by kernel_rfl)).mono ?_
  rintro e w4 ⟨rfl, h4⟩
  have hT4 := hT3.still h4
  have h4 := h3.still h4
  go_wp2_with fail
  refine (find_at (Z := [⟨⟨#[2, 101, 120, 0]⟩, 1, 0⟩, ⟨⟨#[1, 97, 2, 101, 120, 0]⟩, 2, 0⟩]) ⟨#[1, 97, 2, 101, 120, 0]⟩ ⟨⟨#[1, 97, 2, 101, 120, 0]⟩, 2, 0⟩ hT4 (by decide) (by kernel_rfl)).mono ?_
  rintro e w5 ⟨rfl, h5⟩
  have hT5 := hT4.still h5
  have h5 := h4.still h5
  go_wp2_with fail
  refine (find_at (Z := [⟨⟨#[2, 101, 120, 0]⟩, 1, 0⟩, ⟨⟨#[1, 97, 2, 101, 120, 0]⟩, 2, 0⟩]) ⟨#[1, 120, 1, 65, 2, 101, 120, 0]⟩ ⟨⟨#[1, 97, 2, 101, 120, 0]⟩, 2, 0⟩ hT5 (by decide) (by kernel_rfl)).mono ?_
  rintro e w6 ⟨rfl, h6⟩
  have hT6 := hT5.still h6
  have h6 := h5.still h6
  go_wp2_with fail
  refine (find_at (Z := [⟨⟨#[2, 101, 120, 0]⟩, 1, 0⟩, ⟨⟨#[1, 97, 2, 101, 120, 0]⟩, 2, 0⟩]) ⟨#[3, 99, 111, 109, 0]⟩ ⟨⟨#[0]⟩, 1, 0⟩ hT6 (by decide) (by kernel_rfl)).mono ?_
  rintro e w7 ⟨rfl, h7⟩
  have hT7 := hT6.still h7
  have h7 := h6.still h7
  go_wp2_with fail
  refine (none_any w7).mono ?_
  rintro e w8 ⟨rfl, h8⟩
  have hT8 := hT7.still h8
  have h8 := h7.still h8
  go_wp2_with fail
  refine (len_any w8 0 t [⟨⟨#[2, 101, 120, 0]⟩, 1, 0⟩, ⟨⟨#[1, 97, 2, 101, 120, 0]⟩, 2, 0⟩] hT8 (by decide)).mono ?_
  rintro e w9 ⟨rfl, h9⟩
  have h9 := h8.still h9
  go_wp2_with fail
  go_ret
  exact ⟨rfl, h9⟩
end Go.Proofs.Ytinjfongndlpgaa
