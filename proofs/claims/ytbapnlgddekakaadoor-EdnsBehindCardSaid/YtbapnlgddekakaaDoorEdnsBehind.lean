/-
  Package edns: EdnsBehind.
-/
import Derived.Test.YtbapnlgddekakaaDoorEdnsWrites
import Derived.Test.YtbapnlgddekakaaDoorStepApp
namespace Go.Proofs.YtbapnlgddekakaaDoor
open Go.RowKit
set_option linter.unusedVariables false
set_option linter.unusedSimpArgs false

theorem cut_loop : ∀ (M : List Opt) (j k : Nat), (∀ i, i < j → (wB (M.take i)).length < k) → j ≤ M.length → (k ≤ (wB (M.take j)).length ∨ j = M.length) → k ≤ (wB M).length → cutAt M k = if (wB (M.take j)).length = k then some j else none
  | [], j, k, _, hj, _, hk => by
    have e : wB ([] : List Opt) = [] := rfl
    rw [e] at hk
    have hk0 : k = 0 := Nat.le_zero.1 hk
    have hj0 : j = 0 := Nat.le_zero.1 hj
    subst hk0 hj0
    rfl
  | o :: os, 0, k, _, _, h, _ => by
    have e : wB ((o :: os).take 0) = [] := rfl
    rw [e] at h ⊢
    have hk0 : k = 0 := by rcases h with h | h; exact Nat.le_zero.1 h; cases h
    subst hk0
    rfl
  | o :: os, j + 1, k, hi, hj, h, hk => by
    have h0 : 0 < k := by have := hi 0 (Nat.succ_pos _); omega
    have key : ∀ i, (wB ((o :: os).take (i + 1))).length = (4 + o.2.size) + (wB (os.take i)).length := fun i => by rw [List.take_succ_cons, wB_cons, List.length_append, optB_length]
    rw [key j] at h ⊢
    have hk' : k ≤ 4 + o.2.size + (wB os).length := by rw [wB_cons, List.length_append, optB_length] at hk; exact hk
    rw [cutAt, if_neg (by omega)]
    by_cases hlt : k < 4 + o.2.size
    · rw [if_pos hlt, if_neg (by omega)]
    · have hj' : j ≤ os.length := by simpa using hj
      rw [if_neg hlt, cut_loop os j (k - (4 + o.2.size)) (fun i hij => by have := hi (i + 1) (by omega); rw [key i] at this; omega) hj' (by rcases h with h | h; exact .inl (by omega); exact .inr (by simpa using h)) (by omega)]
      by_cases e : (wB (os.take j)).length = k - (4 + o.2.size)
      · rw [if_pos e, if_pos (by omega)]; rfl
      · rw [if_neg e, if_neg (by omega)]; rfl
theorem oRow_append (a b : List Opt) : oRow (a ++ b) = oRow a ++ oRow b := by unfold oRow; simp
set_option maxRecDepth 1000000 in
set_option maxHeartbeats 6400000 in
theorem behind_walk (w : World) (cl x v f : Nat) (A : Option Addr) (n c : Nat) (os : List Opt) (hcl : cl < 65536) (hx : x < 256) (hv : v < 256) (hf : f < 65536) (hnm : n ≤ maxLen) (hl : os.length = n) (hr : Reads w w.heap.size 2 A n (oRow os)) (hcd : ∀ o ∈ os, o.1 < 65536)
    (cl' x' v' f' : Nat) (A' : Option Addr) (n' c' : Nat) (os' : List Opt) (hcl' : cl' < 65536) (hx' : x' < 256) (hv' : v' < 256) (hf' : f' < 65536) (hnm' : n' ≤ maxLen) (hl' : os'.length = n') (hr' : Reads w w.heap.size 2 A' n' (oRow os')) (hcd' : ∀ o ∈ os', o.1 < 65536) (he : ErrT w) (N : Int) :
    Calls Tryd.prog 6 #[.agg (eA cl x v f A n c), .agg (eA cl' x' v' f' A' n' c'), .int .i64 N] w fun e w' => e = .returned (.bool true) ∧ Still w w' := by
  obtain ⟨i0, hi, hz0, hz1, hz2⟩ := info_parts info_opt
  have Hcd := Lib.hid hcd
  have Hcd' := Lib.hid hcd'
  clear hcd hcd'
  obtain ⟨a1, b1, D1, g1, hW1, hV1⟩ : ∃ (a b : Int) (D : ByteArray) (g : Int), (∀ (e : Ending) (wa wb : World),
      ((Hid ((wB os).length ≤ 65535) ∧ e = .returned (.tuple #[.int .u16 cl, .int .u32 ((ttlOf x v f : Nat) : Int), .string (str (wB os)), .int .i64 0]) ∧ Still wa wb) ∨
      (Hid (65535 < (wB os).length) ∧ e = .returned (.tuple #[.int .u16 0, .int .u32 0, .string ⟨#[]⟩, .int .i64 5]) ∧ Still wa wb)) →
      e = .returned (.tuple #[.int .u16 a, .int .u32 b, .string D, .int .i64 g]) ∧ Still wa wb) ∧ (((wB os).length ≤ 65535 ∧ g = 0 ∧ D = str (wB os)) ∨ (65535 < (wB os).length ∧ g = 5)) := by
    by_cases h : (wB os).length ≤ 65535
    · refine ⟨cl, (ttlOf x v f : Nat), str (wB os), 0, fun e wa wb hh => ?_, .inl ⟨h, rfl, rfl⟩⟩
      rcases hh with ⟨_, rfl, hs⟩ | ⟨h', _, _⟩
      · exact ⟨rfl, hs⟩
      · exact absurd h'.out (by omega)
    · refine ⟨0, 0, ⟨#[]⟩, 5, fun e wa wb hh => ?_, .inr ⟨by omega, rfl⟩⟩
      rcases hh with ⟨h', _, _⟩ | ⟨_, rfl, hs⟩
      · exact absurd h'.out (by omega)
      · exact ⟨rfl, hs⟩
  have HW1 := Lib.hid hW1
  have HV1 := Lib.hid hV1
  clear hW1 hV1
  obtain ⟨a2, b2, D2, g2, hW2, hV2⟩ : ∃ (a b : Int) (D : ByteArray) (g : Int), (∀ (e : Ending) (wa wb : World),
      ((Hid ((wB os').length ≤ 65535) ∧ e = .returned (.tuple #[.int .u16 cl', .int .u32 ((ttlOf x' v' f' : Nat) : Int), .string (str (wB os')), .int .i64 0]) ∧ Still wa wb) ∨
      (Hid (65535 < (wB os').length) ∧ e = .returned (.tuple #[.int .u16 0, .int .u32 0, .string ⟨#[]⟩, .int .i64 5]) ∧ Still wa wb)) →
      e = .returned (.tuple #[.int .u16 a, .int .u32 b, .string D, .int .i64 g]) ∧ Still wa wb) ∧ (((wB os').length ≤ 65535 ∧ g = 0 ∧ D = str (wB os')) ∨ (65535 < (wB os').length ∧ g = 5)) := by
    by_cases h : (wB os').length ≤ 65535
    · refine ⟨cl', (ttlOf x' v' f' : Nat), str (wB os'), 0, fun e wa wb hh => ?_, .inl ⟨h, rfl, rfl⟩⟩
      rcases hh with ⟨_, rfl, hs⟩ | ⟨h', _, _⟩
      · exact ⟨rfl, hs⟩
      · exact absurd h'.out (by omega)
    · refine ⟨0, 0, ⟨#[]⟩, 5, fun e wa wb hh => ?_, .inr ⟨by omega, rfl⟩⟩
      rcases hh with ⟨h', _, _⟩ | ⟨_, rfl, hs⟩
      · exact absurd h'.out (by omega)
      · exact ⟨rfl, hs⟩
  have HW2 := Lib.hid hW2
  have HV2 := Lib.hid hV2
  clear hW2 hV2
  obtain ⟨a3, b3, D3, g3, hW3, hV3⟩ : ∃ (a b : Int) (D : ByteArray) (g : Int), (∀ (e : Ending) (wa wb : World),
      ((Hid ((wB (os ++ os')).length ≤ 65535) ∧ e = .returned (.tuple #[.int .u16 cl, .int .u32 ((ttlOf x v f : Nat) : Int), .string (str (wB (os ++ os'))), .int .i64 0]) ∧ Still wa wb) ∨
      (Hid (65535 < (wB (os ++ os')).length) ∧ e = .returned (.tuple #[.int .u16 0, .int .u32 0, .string ⟨#[]⟩, .int .i64 5]) ∧ Still wa wb)) →
      e = .returned (.tuple #[.int .u16 a, .int .u32 b, .string D, .int .i64 g]) ∧ Still wa wb) ∧ (((wB (os ++ os')).length ≤ 65535 ∧ g = 0 ∧ D = str (wB (os ++ os'))) ∨ (65535 < (wB (os ++ os')).length ∧ g = 5)) := by
    by_cases h : (wB (os ++ os')).length ≤ 65535
    · refine ⟨cl, (ttlOf x v f : Nat), str (wB (os ++ os')), 0, fun e wa wb hh => ?_, .inl ⟨h, rfl, rfl⟩⟩
      rcases hh with ⟨_, rfl, hs⟩ | ⟨h', _, _⟩
      · exact ⟨rfl, hs⟩
      · exact absurd h'.out (by omega)
    · refine ⟨0, 0, ⟨#[]⟩, 5, fun e wa wb hh => ?_, .inr ⟨by omega, rfl⟩⟩
      rcases hh with ⟨h', _, _⟩ | ⟨_, rfl, hs⟩
      · exact absurd h'.out (by omega)
      · exact ⟨rfl, hs⟩
  have HW3 := Lib.hid hW3
  have HV3 := Lib.hid hV3
  clear hW3 hV3
  have hS2 := (Still.new w (.cells #[.int .u16 cl, .int .u8 x, .int .u8 v, .int .u16 f, .slice A n c] 25)).alloc (.cells #[.int .u16 cl', .int .u8 x', .int .u8 v', .int .u16 f', .slice A' n' c'] 25)
  have he2 := he.still hS2
  have hrx2 := (hr.only hS2 (Nat.le_refl _) (fun _ _ h => h)).more hS2.size
  have hry2 := (hr'.only hS2 (Nat.le_refl _) (fun _ _ h => h)).more hS2.size
  have hBx2 := (Blk.new w 25 #[.int .u16 cl, .int .u8 x, .int .u8 v, .int .u16 f, .slice A n c]).alloc (.cells #[.int .u16 cl', .int .u8 x', .int .u8 v', .int .u16 f', .slice A' n' c'] 25)
  have hBy2 := Blk.at_ (w.alloc (.cells #[.int .u16 cl, .int .u8 x, .int .u8 v, .int .u16 f, .slice A n c] 25)) 25 #[.int .u16 cl', .int .u8 x', .int .u8 v', .int .u16 f', .slice A' n' c'] (g := w.heap.size + 1) (by simp)
  clear hr hr' he
  unfold eA
  go_enter Tryd.func6, Tryd.ntmps6
  obtain ⟨x0, x1, x2, x3, x4⟩ := blk5 hBx2
  obtain ⟨y0, y1, y2, y3, y4⟩ := blk5 hBy2
  go_wp2_with fail
  clear x0 x1 x2 x3 x4 y0 y1 y2 y3 y4
  obtain ⟨w2, hw2⟩ : ∃ w2, w2 = (w.alloc (.cells #[.int .u16 cl, .int .u8 x, .int .u8 v, .int .u16 f, .slice A n c] 25)).alloc (.cells #[.int .u16 cl', .int .u8 x', .int .u8 v', .int .u16 f', .slice A' n' c'] 25) := ⟨_, rfl⟩
  rw [← hw2] at hS2 he2 hrx2 hry2 hBx2 hBy2 ⊢
  obtain ⟨K, hK⟩ : ∃ K, K = w.heap.size := ⟨_, rfl⟩
  rw [← hK] at hBx2 hBy2 ⊢
  clear hw2 hK
  refine (long_any w2 cl x v f A n c w2.heap.size os hl hrx2 (Nat.le_refl _) hnm).mono ?_
  rintro e w3 (⟨rfl, hs3⟩ | ⟨hsh, rfl, hs3⟩)
  · have hS3 := hS2.still hs3
    have he3 := he2.still hs3
    go_wp2_with fail
    refine (edns_awake _ he3).mono ?_
    rintro e wz ⟨rfl, hsz⟩
    go_wp2_with fail
    go_ret
    exact ⟨rfl, hS3.still hsz⟩
  have hS3 := hS2.still hs3
  have he3 := he2.still hs3
  have hrx3 := (hrx2.only hs3 (Nat.le_refl _) (fun _ _ h => h)).more hs3.size
  have hBx3 := hBx2.only hs3 (fun h => h)
  have hry3 := (hry2.only hs3 (Nat.le_refl _) (fun _ _ h => h)).more hs3.size
  have hBy3 := hBy2.only hs3 (fun h => h)
  clear hS2 he2 hrx2 hBx2 hry2 hBy2 hs3
  obtain ⟨x0, x1, x2, x3, x4⟩ := blk5 hBx3
  obtain ⟨y0, y1, y2, y3, y4⟩ := blk5 hBy3
  go_wp2_with fail
  clear x0 x1 x2 x3 x4 y0 y1 y2 y3 y4
  refine (long_any w3 cl' x' v' f' A' n' c' w3.heap.size os' hl' hry3 (Nat.le_refl _) hnm').mono ?_
  rintro e w4 (⟨rfl, hs4⟩ | ⟨hsh', rfl, hs4⟩)
  · have hS4 := hS3.still hs4
    have he4 := he3.still hs4
    go_wp2_with fail
    refine (edns_awake _ he4).mono ?_
    rintro e wz ⟨rfl, hsz⟩
    go_wp2_with fail
    go_ret
    exact ⟨rfl, hS4.still hsz⟩
  have hS4 := hS3.still hs4
  have he4 := he3.still hs4
  have hrx4 := (hrx3.only hs4 (Nat.le_refl _) (fun _ _ h => h)).more hs4.size
  have hBx4 := hBx3.only hs4 (fun h => h)
  have hry4 := (hry3.only hs4 (Nat.le_refl _) (fun _ _ h => h)).more hs4.size
  have hBy4 := hBy3.only hs4 (fun h => h)
  clear hS3 he3 hrx3 hBx3 hry3 hBy3 hs4
  go_wp2_with fail
  refine (edns_awake w4 he4).mono ?_
  rintro e w5 ⟨rfl, hs5⟩
  have hS5 := hS4.still hs5
  have he5 := he4.still hs5
  have hrx5 := (hrx4.only hs5 (Nat.le_refl _) (fun _ _ h => h)).more hs5.size
  have hBx5 := hBx4.only hs5 (fun h => h)
  have hry5 := (hry4.only hs5 (Nat.le_refl _) (fun _ _ h => h)).more hs5.size
  have hBy5 := hBy4.only hs5 (fun h => h)
  clear hS4 he4 hrx4 hBx4 hry4 hBy4 hs5
  have hn3 : n ≤ 300 := by have := hsh.out.1; omega
  have hn3' : n' ≤ 300 := by have := hsh'.out.1; omega
  have hco : codesOk os := fun o ho => ⟨Hcd.out o ho, hsh.out.2 o ho⟩
  have hco' : codesOk os' := fun o ho => ⟨Hcd'.out o ho, hsh'.out.2 o ho⟩
  have hcb : codesOk (os ++ os') := fun o ho => (List.mem_append.1 ho).elim (hco o) (hco' o)
  have Hco := Lib.hid hco
  have Hco' := Lib.hid hco'
  have Hcb := Lib.hid hcb
  clear hco hco' hcb hsh hsh' hnm hnm'
  have hsn := Still.new w5 (.cells #[.int .u16 cl, .int .u8 x, .int .u8 v, .int .u16 f, .slice A n c] 25)
  have hBn := Blk.new w5 25 #[.int .u16 cl, .int .u8 x, .int .u8 v, .int .u16 f, .slice A n c]
  obtain ⟨x0, x1, x2, x3, x4⟩ := blk5 hBx5
  go_wp2_with fail
  clear x0 x1 x2 x3 x4
  have hs6 := hsn.drew
  have hBi6 := hBn.drew
  obtain ⟨w6, hw6⟩ : ∃ w6, w6 = (w5.alloc (.cells #[.int .u16 cl, .int .u8 x, .int .u8 v, .int .u16 f, .slice A n c] 25)).drew := ⟨_, rfl⟩
  obtain ⟨Ki, hKi⟩ : ∃ Ki, Ki = w5.heap.size := ⟨_, rfl⟩
  rw [← hKi]
  refine wp_region_held_drew (S := fun w' => Only (· = Ki) (w5.alloc (.cells #[.int .u16 cl, .int .u8 x, .int .u8 v, .int .u16 f, .slice A n c] 25)).drew w') (by kernel_rfl) (Only.refl _ _) (fun hS => ?_)
  rw [← hw6] at hs6 hBi6 hS ⊢
  have hKx := hBx5.lt
  have hKy := hBy5.lt
  have hre := he5.lt
  have hsz5 := hS5.size
  have hrxK := hrx5.only hs6 (Nat.le_refl _) (fun _ _ h => h)
  have hryK := hry5.only hs6 (Nat.le_refl _) (fun _ _ h => h)
  rw [← hKi] at hBi6 hKx hKy hre hsz5 hrxK hryK
  have hK6 := hBi6.lt
  clear hw6 hKi hsn hBn
  have hS6 := hS5.still hs6
  have he6 := he5.still hs6
  have hrx6 := (hrx5.only hs6 (Nat.le_refl _) (fun _ _ h => h)).more hs6.size
  have hBx6 := hBx5.only hs6 (fun h => h)
  have hry6 := (hry5.only hs6 (Nat.le_refl _) (fun _ _ h => h)).more hs6.size
  have hBy6 := hBy5.only hs6 (fun h => h)
  clear hS5 he5 hrx5 hBx5 hry5 hBy5 hs6
  obtain ⟨x0, x1, x2, x3, x4⟩ := blk5 hBx6
  obtain ⟨y0, y1, y2, y3, y4⟩ := blk5 hBy6
  (refine take_p (i := 1) (v := ?_) rfl (by kernel_rfl) (by kernel_rfl) (by kernel_rfl) (fun _ _ _ h => h) (Or.inl ⟨by rfl, ?_⟩) hS ?_; rotate_left; (focus (intro w0 hSw; go_simp; try with_reducible rfl)); try simp only [Act.put, List.setIfInBounds_toArray, List.set_cons_zero, List.set_cons_succ])
  (refine take_p (i := 2) (v := ?_) rfl (by kernel_rfl) (by kernel_rfl) (by kernel_rfl) (fun _ _ _ h => h) (Or.inl ⟨by rfl, ?_⟩) hS ?_; rotate_left; (focus (intro w0 hSw; have q_ := hSw.cell_some (fun e => by have e' : K = Ki := e; omega) x4; go_simp; try with_reducible rfl)); try simp only [Act.put, List.setIfInBounds_toArray, List.set_cons_zero, List.set_cons_succ])
  (refine take_p (i := 4) (v := ?_) rfl (by kernel_rfl) (by kernel_rfl) (by kernel_rfl) (fun _ _ _ h => h) (Or.inl ⟨by rfl, ?_⟩) hS ?_; rotate_left; (focus (intro w0 hSw; go_simp; try with_reducible rfl)); try simp only [Act.put, List.setIfInBounds_toArray, List.set_cons_zero, List.set_cons_succ])
  (refine take_p (i := 5) (v := ?_) rfl (by kernel_rfl) (by kernel_rfl) (by kernel_rfl) (fun _ _ _ h => h) (Or.inl ⟨by rfl, ?_⟩) hS ?_; rotate_left; (focus (intro w0 hSw; have q_ := hSw.cell_some (fun e => by have e' : K + 1 = Ki := e; omega) y4; go_simp; try with_reducible rfl)); try simp only [Act.put, List.setIfInBounds_toArray, List.set_cons_zero, List.set_cons_succ])
  clear x0 x1 x2 x3 x4 y0 y1 y2 y3 y4
  refine wpAnyH_ready (rs := [0]) (by kernel_rfl) (by simp) ?_
  refine cons_p rfl (fun K_ hK => ?_) AllReadyH.nil
  go_simp
  have hown0 := World.ownsRow_lit (e := 40) (size := 2) (base := w6.heap.size) w6 #[] 0 (Nat.le_refl _) (by unfold maxLen; omega) rfl
  have hs7 := Still.new w6 (.cells #[] 40)
  have hrx7 := hrx6.only hs7 (Nat.le_refl _) (fun _ _ h => h)
  refine hK.out _ _ (Only.of_still hs7 _) (fun hHeld => ?_)
  clear hK K_ hHeld
  try simp only [Act.put, List.setIfInBounds_toArray, List.set_cons_zero, List.set_cons_succ]
  refine wpAnyH_ready (rs := [3]) (by kernel_rfl) (by simp) ?_
  refine cons_p rfl (fun K_ hK => ?_) AllReadyH.nil
  refine step_append_any rfl (.tmp 38) (.tmp 40) 23 rfl w6.heap.size 40 i0 (.agg #[.int .u16 0, .string ⟨#[]⟩]) 2 24 Tryd.underlying23 hi hz0 hz1 hz2 rfl (by decide) _ _ _ rfl hown0 _ A n c (oRow os) rfl hrx7 (oRow_one os) ?_ ?_ ?_ ?_
  · unfold maxLen; omega
  · omega
  · exact hs7.size
  intro v8 w8 ownv8 grv8 blv8
  have hs8 := hs7.grown grv8 (fun q hq => .inr (hown0.lt q hq).1)
  refine hK.out _ _ (Only.of_still hs8 _) (fun hHeld => ?_)
  clear hK K_ hHeld
  try simp only [Act.put, List.setIfInBounds_toArray, List.set_cons_zero, List.set_cons_succ]
  have hry8 := hry6.only hs8 (Nat.le_refl _) (fun _ _ h => h)
  refine wpAnyH_ready (rs := [6]) (by kernel_rfl) (by simp) ?_
  refine cons_p rfl (fun K_ hK => ?_) AllReadyH.nil
  refine step_append_any rfl (.tmp 41) (.tmp 43) 23 rfl w6.heap.size 40 i0 (.agg #[.int .u16 0, .string ⟨#[]⟩]) 2 24 Tryd.underlying23 hi hz0 hz1 hz2 rfl (by decide) _ _ _ rfl ownv8 _ A' n' c' (oRow os') rfl hry8 (oRow_one os') ?_ ?_ ?_ ?_
  · unfold maxLen; omega
  · omega
  · exact hs8.size
  intro v9 w9 ownv9 grv9 blv9
  have hs9 := hs8.grown grv9 (fun q hq => .inr (ownv8.lt q hq).1)
  refine hK.out _ _ (Only.of_still hs9 _) (fun hHeld => ?_)
  clear hK K_ hHeld
  try simp only [Act.put, List.setIfInBounds_toArray, List.set_cons_zero, List.set_cons_succ]
  obtain ⟨Ai, ci, rfl⟩ := own_shape ownv9
  rw [Nat.zero_add] at ownv9 ⊢
  replace hS := Only.of_still hs9 (· = Ki)
  (refine take_p (i := 7) (v := ?_) rfl (by kernel_rfl) (by kernel_rfl) (by kernel_rfl) (fun _ _ _ h => h) (Or.inl ⟨by rfl, ?_⟩) hS ?_; rotate_left; (focus (intro w0 hSw; go_simp; try with_reducible rfl)); try simp only [Act.put, List.setIfInBounds_toArray, List.set_cons_zero, List.set_cons_succ])
  have hBi9 := hBi6.only hs9 (fun h => h)
  have hBx9 := hBx6.only hs9 (fun h => h)
  have hBy9 := hBy6.only hs9 (fun h => h)
  have hne := own_blk_ne ownv9 hBi9 (by decide)
  have hos : Only (· = Ki) w9 (w9.setCell ⟨Ki, 4, none⟩ (.slice Ai (n + n') ci)) := (Only.refl (· = Ki) w9).setCell (p := ⟨Ki, 4, none⟩) (.inl rfl) _
  obtain ⟨_, _, _, _, i4_⟩ := blk5 hBi9
  have hfz := hBi9.frozen 4
  refine wpAnyH_ready (rs := [8]) (by kernel_rfl) (by simp) ?_
  refine cons_p rfl (fun K_ hK => ?_) AllReadyH.nil
  go_simp
  refine hK.out _ _ ((Only.of_still hs9 _).trans hos (fun _ _ h => h)) (fun hHeld => ?_)
  clear hK K_ hHeld i4_ hfz
  try simp only [Act.put, List.setIfInBounds_toArray, List.set_cons_zero, List.set_cons_succ]
  refine wpAnyH_done (by kernel_rfl) ?_ _
  have hS10 := (hS6.still hs9).trans hos (fun i hi h => by have h' : i = Ki := h; omega)
  have he10 := (he6.still hs9).only hos (fun e => by have e' : 0 = Ki := e; omega)
  have own10 := own_only ownv9 hos (fun k hk e => hne (by have e' : k = Ki := e; rw [← e']; exact hk))
  have hri10 : Reads (w9.setCell ⟨Ki, 4, none⟩ (.slice Ai (n + n') ci)) (w9.setCell ⟨Ki, 4, none⟩ (.slice Ai (n + n') ci)).heap.size 2 Ai (n + n') (oRow (os ++ os')) := by
    rw [oRow_append]
    exact Reads.of_own own10
  have hsz9 := hs9.size
  have hsz10 := hos.size
  have hrx10 := ((hrxK.only hs9 (by omega) (fun _ _ h => h)).only hos (by omega) (fun k hk e => by have e' : k = Ki := e; omega)).more (by omega : Ki ≤ (w9.setCell ⟨Ki, 4, none⟩ (.slice Ai (n + n') ci)).heap.size)
  have hry10 := ((hryK.only hs9 (by omega) (fun _ _ h => h)).only hos (by omega) (fun k hk e => by have e' : k = Ki := e; omega)).more (by omega : Ki ≤ (w9.setCell ⟨Ki, 4, none⟩ (.slice Ai (n + n') ci)).heap.size)
  have hBx10 := hBx9.only hos (fun e => by have e' : K = Ki := e; omega)
  have hBy10 := hBy9.only hos (fun e => by have e' : K + 1 = Ki := e; omega)
  have hBi10 := hBi9.set_ 4 (.slice Ai (n + n') ci)
  simp at hBi10
  clear hne own10 ownv9 hBx9 hBy9 hBi9 hos hs9 hs8 hs7 hrxK hryK hrx6 hry6 hrx7 hry8 hBx6 hBy6 hBi6 hS6 he6 hS hown0 ownv8 grv8 grv9 blv8 blv9 hsz9 hsz10
  obtain ⟨w10, hw10⟩ : ∃ w10, w10 = w9.setCell ⟨Ki, 4, none⟩ (.slice Ai (n + n') ci) := ⟨_, rfl⟩
  rw [← hw10] at hS10 he10 hrx10 hry10 hri10 hBx10 hBy10 hBi10 ⊢
  clear hw10
  obtain ⟨x0, x1, x2, x3, x4⟩ := blk5 hBx10
  go_wp2_with fail
  clear x0 x1 x2 x3 x4
  refine (write_any w10 cl x v f hcl hx hv hf A n c os hl (by omega) Hco.out hrx10).mono ?_
  intro e w11 hh
  obtain ⟨rfl, hs11⟩ := HW1.out _ _ _ hh
  clear hh
  have hS11 := hS10.still hs11
  have he11 := he10.still hs11
  have hrx11 := (hrx10.only hs11 (Nat.le_refl _) (fun _ _ h => h)).more hs11.size
  have hBx11 := hBx10.only hs11 (fun h => h)
  have hry11 := (hry10.only hs11 (Nat.le_refl _) (fun _ _ h => h)).more hs11.size
  have hBy11 := hBy10.only hs11 (fun h => h)
  have hri11 := (hri10.only hs11 (Nat.le_refl _) (fun _ _ h => h)).more hs11.size
  have hBi11 := hBi10.only hs11 (fun h => h)
  clear hS10 he10 hrx10 hBx10 hry10 hBy10 hri10 hBi10 hs11
  obtain ⟨y0, y1, y2, y3, y4⟩ := blk5 hBy11
  go_wp2_with fail
  clear y0 y1 y2 y3 y4
  refine (write_any w11 cl' x' v' f' hcl' hx' hv' hf' A' n' c' os' hl' (by omega) Hco'.out hry11).mono ?_
  intro e w12 hh
  obtain ⟨rfl, hs12⟩ := HW2.out _ _ _ hh
  clear hh
  have hS12 := hS11.still hs12
  have he12 := he11.still hs12
  have hrx12 := (hrx11.only hs12 (Nat.le_refl _) (fun _ _ h => h)).more hs12.size
  have hBx12 := hBx11.only hs12 (fun h => h)
  have hry12 := (hry11.only hs12 (Nat.le_refl _) (fun _ _ h => h)).more hs12.size
  have hBy12 := hBy11.only hs12 (fun h => h)
  have hri12 := (hri11.only hs12 (Nat.le_refl _) (fun _ _ h => h)).more hs12.size
  have hBi12 := hBi11.only hs12 (fun h => h)
  clear hS11 he11 hrx11 hBx11 hry11 hBy11 hri11 hBi11 hs12
  obtain ⟨i0, i1, i2, i3, i4⟩ := blk5 hBi12
  go_wp2_with fail
  clear i0 i1 i2 i3 i4
  refine (write_any w12 cl x v f hcl hx hv hf Ai (n + n') ci (os ++ os') (by rw [List.length_append, hl, hl']) (by omega) Hcb.out hri12).mono ?_
  intro e w13 hh
  obtain ⟨rfl, hs13⟩ := HW3.out _ _ _ hh
  clear hh
  have hS13 := hS12.still hs13
  have he13 := he12.still hs13
  have hrx13 := (hrx12.only hs13 (Nat.le_refl _) (fun _ _ h => h)).more hs13.size
  have hBx13 := hBx12.only hs13 (fun h => h)
  have hry13 := (hry12.only hs13 (Nat.le_refl _) (fun _ _ h => h)).more hs13.size
  have hBy13 := hBy12.only hs13 (fun h => h)
  have hri13 := (hri12.only hs13 (Nat.le_refl _) (fun _ _ h => h)).more hs13.size
  have hBi13 := hBi12.only hs13 (fun h => h)
  clear hS12 he12 hrx12 hBx12 hry12 hBy12 hri12 hBi12 hs13
  rcases HV1.out with ⟨l1, rfl, rfl⟩ | ⟨l1, rfl⟩
  rotate_left
  · have l3 : ¬ (wB (os ++ os')).length ≤ 65535 := by rw [wB_append, List.length_append]; omega
    obtain rfl : g3 = 5 := HV3.out.elim (fun h => absurd h.1 l3) (fun h => h.2)
    clear HV1 HV2 HV3
    go_wp2_with fail
    go_ret
    exact ⟨rfl, hS13⟩
  rcases HV2.out with ⟨l2, rfl, rfl⟩ | ⟨l2, rfl⟩
  rotate_left
  · have l3 : ¬ (wB (os ++ os')).length ≤ 65535 := by rw [wB_append, List.length_append]; omega
    obtain rfl : g3 = 5 := HV3.out.elim (fun h => absurd h.1 l3) (fun h => h.2)
    clear HV1 HV2 HV3
    go_wp2_with fail
    go_ret
    exact ⟨rfl, hS13⟩
  have z1 : ((str (wB os)).size : Int) = ((wB os).length : Int) := by rw [str_size]
  have z2 : ((str (wB os')).size : Int) = ((wB os').length : Int) := by rw [str_size]
  have zn1 : (str (wB os)).size = (wB os).length := str_size _
  have zn2 : (str (wB os')).size = (wB os').length := str_size _
  have yL : IntKind.i64.wrap (((str (wB os)).size : Int) + ((str (wB os')).size : Int)) = ((str (wB os)).size : Int) + ((str (wB os')).size : Int) := IntWalk.i64_in _ (by omega)
  rcases HV3.out with ⟨l3, rfl, rfl⟩ | ⟨l3, rfl⟩
  rotate_left
  · have l3' : (65535 : Int) < ((str (wB os)).size : Int) + ((str (wB os')).size : Int) := by rw [wB_append, List.length_append] at l3; omega
    clear HV1 HV2 HV3 z1 z2 zn1 zn2
    go_wp2_with fail
    go_ret
    exact ⟨rfl, hS13⟩
  have l3' : ¬ (65535 : Int) < ((str (wB os)).size : Int) + ((str (wB os')).size : Int) := by rw [wB_append, List.length_append] at l3; omega
  have zcat : str (wB os) ++ str (wB os') = str (wB (os ++ os')) := by rw [str_append, wB_append]
  have zno : ¬ 9223372036854775807 < (str (wB os)).size + (str (wB os')).size := by omega
  have zD : (str (wB (os ++ os'))).size = (wB (os ++ os')).length := str_size _
  have hfit : fits (os ++ os') := fits_of_len (fun o ho => (Hcb.out o ho).1) l3
  have hlm : (os ++ os').length = n + n' := by rw [List.length_append, hl, hl']
  have hns : n + n' ≤ 600 := by omega
  clear HV1 HV2 HV3 HW1 HW2 HW3 Hco Hco' Hcd Hcd' z1 z2
  generalize n + n' = m at *
  generalize os ++ os' = M at *
  have hD : Hid (str (wB M) = str (wB M)) := Lib.hid rfl
  obtain ⟨D, hDe⟩ : ∃ D, D = str (wB M) := ⟨_, rfl⟩
  rw [← hDe] at zcat zD ⊢
  have HD := Lib.hid hDe
  have HFit := Lib.hid hfit
  clear hD hDe hfit
  have hD65 : D.size ≤ 65535 := by omega
  obtain ⟨k, hk⟩ : ∃ k : Nat, (IntKind.u64.wrap N) % ((D.size : Int) + 1) = (k : Int) := ⟨((IntKind.u64.wrap N) % ((D.size : Int) + 1)).toNat, by have := Int.emod_nonneg (IntKind.u64.wrap N) (show ((D.size : Int) + 1) ≠ 0 by omega); omega⟩
  have hkD : k ≤ D.size := by have := Int.emod_lt_of_pos (IntKind.u64.wrap N) (show (0 : Int) < (D.size : Int) + 1 by omega); omega
  have yk : (IntKind.u64.wrap N).tmod ((D.size : Int) + 1) = (k : Int) := by rw [Int.tmod_eq_emod_of_nonneg (by rw [IntKind.wrap_u64]; omega)]; exact hk
  have yA : IntKind.i64.wrap ((D.size : Int) + 1) = (D.size : Int) + 1 := IntWalk.i64_in _ (by omega)
  have yB : IntKind.u64.wrap ((D.size : Int) + 1) = (D.size : Int) + 1 := by rw [IntKind.wrap_u64]; omega
  have yC : ¬ ((D.size : Int) + 1) = 0 := by omega
  have yD : IntKind.i64.wrap (k : Int) = (k : Int) := IntWalk.i64_in _ (by omega)
  have ZD := Lib.hid zD
  have L3 := Lib.hid l3
  have LL := Lib.hid (And.intro l1 l2)
  have i00 : (0 : Int) ≤ (k : Int) := by omega
  have HKD := Lib.hid hkD
  clear hk zn1 zn2 zD l1 l2 l3
  go_wp2_with fail
  go_loopw [21, 22, 23] (fun at_ ends i wr => ∃ j p : Nat, j ≤ m ∧ i = .int .i64 j ∧ ends = .int .i64 j ∧ at_ = .int .i64 p ∧ p ≤ 65535 ∧ Hid (p = (wB (M.take j)).length ∧ ∀ j', j' < j → (wB (M.take j')).length < k) ∧ Hid (Still w13 wr)) (fun _ _ i _ => m - (intOf i).toNat)
  case atStart => exact ⟨0, 0, Nat.zero_le _, rfl, rfl, rfl, Nat.zero_le _, Lib.hid ⟨rfl, fun j' h => absurd h (Nat.not_lt_zero _)⟩, Lib.hid (Only.refl _ _)⟩
  case round =>
    obtain ⟨j, p, hj, rfl, rfl, rfl, hp65, hpe, hst⟩ := hrel
    have hri := hri13.only hst.out (Nat.le_refl _) (fun _ _ h => h)
    have hBi := hBi13.only hst.out (fun h => h)
    have hBx := hBx13.only hst.out (fun h => h)
    have hew := he13.still hst.out
    have hSw := hS13.still hst.out
    obtain ⟨i0_, i1_, i2_, i3_, i4_⟩ := blk5 hBi
    by_cases hlt : j < m
    · have i1 : (j : Int) < (m : Int) := by omega
      by_cases hpk : p < k
      · have i2 : (p : Int) < (k : Int) := by omega
        obtain ⟨bl, off, o, rfl, _, hok, s0, s1⟩ := o2_cells hri hlm hlt
        obtain ⟨oc, od⟩ := o
        simp only at s0 s1
        have hnx := wB_take_succ hok
        have hle := wB_take_le M (j + 1)
        have hln : (wB (M.take (j + 1))).length = p + (4 + od.size) := by rw [hnx, List.length_append, optB_length, hpe.out.1]
        have h65 : p + (4 + od.size) ≤ 65535 := by have := L3.out; omega
        have Hn : Hid (p + (4 + od.size) = (wB (M.take (j + 1))).length ∧ ∀ j', j' < j + 1 → (wB (M.take j')).length < k) := Lib.hid ⟨hln.symm, fun j' h => by
          by_cases e : j' = j
          · subst e; rw [← hpe.out.1]; exact hpk
          · exact hpe.out.2 j' (by omega)⟩
        have y1 : IntKind.i64.wrap ((p : Int) + 4) = (p : Int) + 4 := IntWalk.i64_in _ (by omega)
        have y2 : IntKind.i64.wrap ((p : Int) + 4 + (od.size : Int)) = (p : Int) + 4 + (od.size : Int) := IntWalk.i64_in _ (by omega)
        have y3 : IntKind.i64.wrap ((j : Int) + 1) = (j : Int) + 1 := IntWalk.i64_in _ (by omega)
        clear hnx hle hln hok hBx hew hSw hri hBi hpe
        go_wp2
        go_roundw
        case rel => exact ⟨j + 1, p + (4 + od.size), by omega, by go_num, by go_num, by push_cast; first | rfl | (congr 1; omega), h65, Hn, hst⟩
        case measure => first | go_num | omega | (simp only [intOf]; omega) | (simp [intOf]; omega)
      · have i2 : ¬ (p : Int) < (k : Int) := by omega
        have hcut := cut_loop M j k hpe.out.2 (by omega) (.inl (by have := hpe.out.1; omega)) (by have := HKD.out; have := ZD.out; omega)
        rw [← hpe.out.1] at hcut
        obtain ⟨x0, x1, x2, x3, x4⟩ := blk5 hBx
        clear x1 x2 x3 x4
        have HC := Lib.hid hcut
        have hkD := HKD.out
        have hkD' : (k : Int) ≤ (D.size : Int) := by omega
        clear hcut hri hBi hpe
        go_wp2_with fail
        clear i0_ i1_ i2_ i3_ i4_
        by_cases hpk_ : p = k
        · have HX : Hid ((D.extract 0 k).size ≤ 1000000) := Lib.hid (by rw [ByteArray.size_extract]; omega)
          have HO : Hid (optsOf (D.extract 0 k) = some (M.take j)) := Lib.hid (by
            have h1 : D.extract 0 k = str ((wB M).take k) := by
              rw [HD.out]
              refine (str_of _).symm.trans (congrArg str ?_)
              rw [ext_list, str_list, List.drop_zero, Nat.sub_zero]
            rw [h1, optsOf_cut M k HFit.out, HC.out, if_pos hpk_]
            rfl)
          have HJ : Hid ((M.take j).length = j) := Lib.hid (by rw [List.length_take]; omega)
          have hpk2 : (p : Int) = (k : Int) := by omega
          have hs_ : Still wr wr.drew := (Only.refl _ _).drew
          have heA := hew.still hs_
          have hSA := hSw.still hs_
          have x0 := hs_.cell_some (fun h => h) x0
          obtain ⟨wA, hwA⟩ : ∃ wA, wA = wr.drew := ⟨_, rfl⟩
          refine wp_region_held_drew (S := fun w' => Still wr.drew w') (by kernel_rfl) (Only.refl _ _) (fun hS => ?_)
          rw [← hwA] at heA hSA hS x0 ⊢
          clear hwA hs_ hew hSw hst
          have hSz : Still wA wA := Only.refl _ _
          (refine take_p (i := 0) (v := ?_) rfl (by kernel_rfl) (by kernel_rfl) (by kernel_rfl) (fun _ _ _ h => h) (Or.inl ⟨by rfl, ?_⟩) hS ?_; rotate_left; (focus (intro w0 hSw; go_simp; try with_reducible rfl)); try simp only [Act.put, List.setIfInBounds_toArray, List.set_cons_zero, List.set_cons_succ])
          (refine take_p (i := 1) (v := ?_) rfl (by kernel_rfl) (by kernel_rfl) (by kernel_rfl) (fun _ _ _ h => h) (Or.inl ⟨by rfl, ?_⟩) hS ?_; rotate_left; (focus (intro w0 hSw; have q_ := hSw.cell_some (fun h => h) x0; go_simp; try with_reducible rfl)); try simp only [Act.put, List.setIfInBounds_toArray, List.set_cons_zero, List.set_cons_succ])
          (refine take_p (i := 2) (v := ?_) rfl (by kernel_rfl) (by kernel_rfl) (by kernel_rfl) (fun _ _ _ h => h) (Or.inl ⟨by rfl, ?_⟩) hS ?_; rotate_left; (focus (intro w0 hSw; go_simp; try with_reducible rfl)); try simp only [Act.put, List.setIfInBounds_toArray, List.set_cons_zero, List.set_cons_succ])
          (refine take_p (i := 3) (v := ?_) rfl (by kernel_rfl) (by kernel_rfl) (by kernel_rfl) (fun _ _ _ h => h) (Or.inl ⟨by rfl, ?_⟩) hS ?_; rotate_left; (focus (intro w0 hSw; go_simp; try with_reducible rfl)); try simp only [Act.put, List.setIfInBounds_toArray, List.set_cons_zero, List.set_cons_succ])
          (refine take_p (i := 4) (v := ?_) rfl (by kernel_rfl) (by kernel_rfl) (by kernel_rfl) (fun _ _ _ h => h) (Or.inl ⟨by rfl, ?_⟩) hS ?_; rotate_left; (focus (intro w0 hSw; go_simp; try with_reducible rfl)); try simp only [Act.put, List.setIfInBounds_toArray, List.set_cons_zero, List.set_cons_succ])
          refine wpAnyH_ready (rs := [5, 9]) (by kernel_rfl) (by simp) ?_
          refine cons_p rfl (fun K_ hK => ?_) (cons_p rfl (fun K_ hK => ?_) AllReadyH.nil)
          · go_simp
            refine (read_any wA heA cl 0 (by omega) 0 0 0 (by decide) (by decide) (by decide) (D.extract 0 k) HX.out).mono ?_
            rintro e wR (⟨oz, Az, cz, hoz, rfl, -, hsr⟩ | ⟨hoz, -, -⟩)
            rotate_left
            · cases hoz.out.symm.trans HO.out
            obtain rfl : oz = M.take j := Option.some.inj (hoz.out.symm.trans HO.out)
            rw [HJ.out]
            clear hoz
            unfold eA
            have hS' := Only.still hS hsr
            refine hK.out _ _ hS' (fun hHeld => ?_)
            clear hK K_ hHeld
            try simp only [Act.put, List.setIfInBounds_toArray, List.set_cons_zero, List.set_cons_succ]
            replace hS := hS'
            clear hS'
            (refine take_p (i := 6) (v := ?_) rfl (by kernel_rfl) (by kernel_rfl) (by kernel_rfl) (fun _ _ _ h => h) (Or.inl ⟨by rfl, ?_⟩) hS ?_; rotate_left; (focus (intro w0 hSw; go_simp; try with_reducible rfl)); try simp only [Act.put, List.setIfInBounds_toArray, List.set_cons_zero, List.set_cons_succ])
            (refine take_p (i := 7) (v := ?_) rfl (by kernel_rfl) (by kernel_rfl) (by kernel_rfl) (fun _ _ _ h => h) (Or.inl ⟨by rfl, ?_⟩) hS ?_; rotate_left; (focus (intro w0 hSw; go_simp; try with_reducible rfl)); try simp only [Act.put, List.setIfInBounds_toArray, List.set_cons_zero, List.set_cons_succ])
            (refine take_p (i := 8) (v := ?_) rfl (by kernel_rfl) (by kernel_rfl) (by kernel_rfl) (fun _ _ _ h => h) (Or.inl ⟨by rfl, ?_⟩) hS ?_; rotate_left; (focus (intro w0 hSw; go_simp; try with_reducible rfl)); try simp only [Act.put, List.setIfInBounds_toArray, List.set_cons_zero, List.set_cons_succ])
            replace hSz := hsr
            refine wpAnyH_ready (rs := [9]) (by kernel_rfl) (by simp) ?_
            refine cons_p rfl (fun K_ hK => ?_) AllReadyH.nil
            go_simp
            have hsz_ := Still.new wR (.cells #[.int .u16 0, .int .u8 0, .int .u8 0, .int .u16 0, .slice none 0 0] 25)
            have hBz := Blk.new wR 25 #[.int .u16 0, .int .u8 0, .int .u8 0, .int .u16 0, .slice none 0 0]
            refine hK.out _ _ (Only.alloc hS _) (fun hHeld => ?_)
            clear hK K_ hHeld
            try simp only [Act.put, List.setIfInBounds_toArray, List.set_cons_zero, List.set_cons_succ]
            obtain ⟨wZ, hw_⟩ : ∃ wZ, wZ = wR.alloc (.cells #[.int .u16 0, .int .u8 0, .int .u8 0, .int .u16 0, .slice none 0 0] 25) := ⟨_, rfl⟩
            obtain ⟨Kz, hKz⟩ : ∃ Kz, Kz = wR.heap.size := ⟨_, rfl⟩
            have hS := (Only.alloc hS (.cells #[.int .u16 0, .int .u8 0, .int .u8 0, .int .u16 0, .slice none 0 0] 25))
            rw [← hw_] at hsz_ hBz hS ⊢
            rw [← hKz] at hBz ⊢
            have hzl : wA.heap.size ≤ Kz := by have := hSz.size; omega
            clear hw_ hKz
            refine wpAnyH_ready (rs := [10]) (by kernel_rfl) (by simp) ?_
            refine cons_p rfl (fun K_ hK => ?_) AllReadyH.nil
            refine step_store_blk rfl 25 (.tmp 24) (.tmp 131) rfl Kz rfl #[.int .u16 cl, .int .u8 0, .int .u8 0, .int .u16 0, .slice Az j cz] rfl 25 _ hBz (by kernel_rfl) rfl (by kernel_rfl) ?_
            intro wS hBS hoS
            have hS' := hS.trans hoS (fun i hi e => by have e' : i = Kz := e; omega)
            refine hK.out _ _ hS' (fun hHeld => ?_)
            clear hK K_ hHeld
            try simp only [Act.put, List.setIfInBounds_toArray, List.set_cons_zero, List.set_cons_succ]
            replace hS := hS'
            (refine take_p (i := 11) (v := ?_) rfl (by kernel_rfl) (by kernel_rfl) (by kernel_rfl) (fun _ _ _ h => h) (Or.inl ⟨by rfl, ?_⟩) hS ?_; rotate_left; (focus (intro w0 hSw; go_simp; try with_reducible rfl)); try simp only [Act.put, List.setIfInBounds_toArray, List.set_cons_zero, List.set_cons_succ])
            refine wpAnyH_done (by kernel_rfl) ?_ _
            obtain ⟨q0, q1, q2, q3, q4⟩ := blk5 hBS
            go_wp2_with fail
            go_ret
            exact ⟨rfl, hSA.still hS⟩
          · go_simp
            have hsz_ := Still.new wA (.cells #[.int .u16 0, .int .u8 0, .int .u8 0, .int .u16 0, .slice none 0 0] 25)
            have hBz := Blk.new wA 25 #[.int .u16 0, .int .u8 0, .int .u8 0, .int .u16 0, .slice none 0 0]
            refine hK.out _ _ (Only.alloc hS _) (fun hHeld => ?_)
            clear hK K_ hHeld
            try simp only [Act.put, List.setIfInBounds_toArray, List.set_cons_zero, List.set_cons_succ]
            obtain ⟨wZ, hw_⟩ : ∃ wZ, wZ = wA.alloc (.cells #[.int .u16 0, .int .u8 0, .int .u8 0, .int .u16 0, .slice none 0 0] 25) := ⟨_, rfl⟩
            obtain ⟨Kz, hKz⟩ : ∃ Kz, Kz = wA.heap.size := ⟨_, rfl⟩
            have hS := (Only.alloc hS (.cells #[.int .u16 0, .int .u8 0, .int .u8 0, .int .u16 0, .slice none 0 0] 25))
            rw [← hw_] at hsz_ hBz hS ⊢
            rw [← hKz] at hBz ⊢
            have hzl : wA.heap.size ≤ Kz := by have := hSz.size; omega
            clear hw_ hKz
            have heZ := heA.still hsz_
            refine wpAnyH_ready (rs := [5]) (by kernel_rfl) (by simp) ?_
            refine cons_p rfl (fun K_ hK => ?_) AllReadyH.nil
            go_simp
            refine (read_any wZ heZ cl 0 (by omega) 0 0 0 (by decide) (by decide) (by decide) (D.extract 0 k) HX.out).mono ?_
            rintro e wR (⟨oz, Az, cz, hoz, rfl, -, hsr⟩ | ⟨hoz, -, -⟩)
            rotate_left
            · cases hoz.out.symm.trans HO.out
            obtain rfl : oz = M.take j := Option.some.inj (hoz.out.symm.trans HO.out)
            rw [HJ.out]
            clear hoz
            unfold eA
            have hS' := Only.still hS hsr
            refine hK.out _ _ hS' (fun hHeld => ?_)
            clear hK K_ hHeld
            try simp only [Act.put, List.setIfInBounds_toArray, List.set_cons_zero, List.set_cons_succ]
            replace hS := hS'
            clear hS'
            (refine take_p (i := 6) (v := ?_) rfl (by kernel_rfl) (by kernel_rfl) (by kernel_rfl) (fun _ _ _ h => h) (Or.inl ⟨by rfl, ?_⟩) hS ?_; rotate_left; (focus (intro w0 hSw; go_simp; try with_reducible rfl)); try simp only [Act.put, List.setIfInBounds_toArray, List.set_cons_zero, List.set_cons_succ])
            (refine take_p (i := 7) (v := ?_) rfl (by kernel_rfl) (by kernel_rfl) (by kernel_rfl) (fun _ _ _ h => h) (Or.inl ⟨by rfl, ?_⟩) hS ?_; rotate_left; (focus (intro w0 hSw; go_simp; try with_reducible rfl)); try simp only [Act.put, List.setIfInBounds_toArray, List.set_cons_zero, List.set_cons_succ])
            (refine take_p (i := 8) (v := ?_) rfl (by kernel_rfl) (by kernel_rfl) (by kernel_rfl) (fun _ _ _ h => h) (Or.inl ⟨by rfl, ?_⟩) hS ?_; rotate_left; (focus (intro w0 hSw; go_simp; try with_reducible rfl)); try simp only [Act.put, List.setIfInBounds_toArray, List.set_cons_zero, List.set_cons_succ])
            have hBz := hBz.only hsr (fun h => h)
            refine wpAnyH_ready (rs := [10]) (by kernel_rfl) (by simp) ?_
            refine cons_p rfl (fun K_ hK => ?_) AllReadyH.nil
            refine step_store_blk rfl 25 (.tmp 24) (.tmp 131) rfl Kz rfl #[.int .u16 cl, .int .u8 0, .int .u8 0, .int .u16 0, .slice Az j cz] rfl 25 _ hBz (by kernel_rfl) rfl (by kernel_rfl) ?_
            intro wS hBS hoS
            have hS' := hS.trans hoS (fun i hi e => by have e' : i = Kz := e; omega)
            refine hK.out _ _ hS' (fun hHeld => ?_)
            clear hK K_ hHeld
            try simp only [Act.put, List.setIfInBounds_toArray, List.set_cons_zero, List.set_cons_succ]
            replace hS := hS'
            (refine take_p (i := 11) (v := ?_) rfl (by kernel_rfl) (by kernel_rfl) (by kernel_rfl) (fun _ _ _ h => h) (Or.inl ⟨by rfl, ?_⟩) hS ?_; rotate_left; (focus (intro w0 hSw; go_simp; try with_reducible rfl)); try simp only [Act.put, List.setIfInBounds_toArray, List.set_cons_zero, List.set_cons_succ])
            refine wpAnyH_done (by kernel_rfl) ?_ _
            obtain ⟨q0, q1, q2, q3, q4⟩ := blk5 hBS
            go_wp2_with fail
            go_ret
            exact ⟨rfl, hSA.still hS⟩
        · have HX : Hid ((D.extract 0 k).size ≤ 1000000) := Lib.hid (by rw [ByteArray.size_extract]; omega)
          have HO : Hid (optsOf (D.extract 0 k) = none) := Lib.hid (by
            have h1 : D.extract 0 k = str ((wB M).take k) := by
              rw [HD.out]
              refine (str_of _).symm.trans (congrArg str ?_)
              rw [ext_list, str_list, List.drop_zero, Nat.sub_zero]
            rw [h1, optsOf_cut M k HFit.out, HC.out, if_neg hpk_]
            rfl)
          have hpk2 : ¬ (p : Int) = (k : Int) := by omega
          have hs_ : Still wr wr.drew := (Only.refl _ _).drew
          have heA := hew.still hs_
          have hSA := hSw.still hs_
          have x0 := hs_.cell_some (fun h => h) x0
          obtain ⟨wA, hwA⟩ : ∃ wA, wA = wr.drew := ⟨_, rfl⟩
          refine wp_region_held_drew (S := fun w' => Still wr.drew w') (by kernel_rfl) (Only.refl _ _) (fun hS => ?_)
          rw [← hwA] at heA hSA hS x0 ⊢
          clear hwA hs_ hew hSw hst
          have hSz : Still wA wA := Only.refl _ _
          (refine take_p (i := 0) (v := ?_) rfl (by kernel_rfl) (by kernel_rfl) (by kernel_rfl) (fun _ _ _ h => h) (Or.inl ⟨by rfl, ?_⟩) hS ?_; rotate_left; (focus (intro w0 hSw; go_simp; try with_reducible rfl)); try simp only [Act.put, List.setIfInBounds_toArray, List.set_cons_zero, List.set_cons_succ])
          (refine take_p (i := 1) (v := ?_) rfl (by kernel_rfl) (by kernel_rfl) (by kernel_rfl) (fun _ _ _ h => h) (Or.inl ⟨by rfl, ?_⟩) hS ?_; rotate_left; (focus (intro w0 hSw; have q_ := hSw.cell_some (fun h => h) x0; go_simp; try with_reducible rfl)); try simp only [Act.put, List.setIfInBounds_toArray, List.set_cons_zero, List.set_cons_succ])
          (refine take_p (i := 2) (v := ?_) rfl (by kernel_rfl) (by kernel_rfl) (by kernel_rfl) (fun _ _ _ h => h) (Or.inl ⟨by rfl, ?_⟩) hS ?_; rotate_left; (focus (intro w0 hSw; go_simp; try with_reducible rfl)); try simp only [Act.put, List.setIfInBounds_toArray, List.set_cons_zero, List.set_cons_succ])
          (refine take_p (i := 3) (v := ?_) rfl (by kernel_rfl) (by kernel_rfl) (by kernel_rfl) (fun _ _ _ h => h) (Or.inl ⟨by rfl, ?_⟩) hS ?_; rotate_left; (focus (intro w0 hSw; go_simp; try with_reducible rfl)); try simp only [Act.put, List.setIfInBounds_toArray, List.set_cons_zero, List.set_cons_succ])
          (refine take_p (i := 4) (v := ?_) rfl (by kernel_rfl) (by kernel_rfl) (by kernel_rfl) (fun _ _ _ h => h) (Or.inl ⟨by rfl, ?_⟩) hS ?_; rotate_left; (focus (intro w0 hSw; go_simp; try with_reducible rfl)); try simp only [Act.put, List.setIfInBounds_toArray, List.set_cons_zero, List.set_cons_succ])
          refine wpAnyH_ready (rs := [5, 9]) (by kernel_rfl) (by simp) ?_
          refine cons_p rfl (fun K_ hK => ?_) (cons_p rfl (fun K_ hK => ?_) AllReadyH.nil)
          · go_simp
            refine (read_any wA heA cl 0 (by omega) 0 0 0 (by decide) (by decide) (by decide) (D.extract 0 k) HX.out).mono ?_
            rintro e wR (⟨oz, Az, cz, hoz, -, -, -⟩ | ⟨-, rfl, hsr⟩)
            · cases hoz.out.symm.trans HO.out
            unfold ez
            have hS' := Only.still hS hsr
            refine hK.out _ _ hS' (fun hHeld => ?_)
            clear hK K_ hHeld
            try simp only [Act.put, List.setIfInBounds_toArray, List.set_cons_zero, List.set_cons_succ]
            replace hS := hS'
            clear hS'
            (refine take_p (i := 6) (v := ?_) rfl (by kernel_rfl) (by kernel_rfl) (by kernel_rfl) (fun _ _ _ h => h) (Or.inl ⟨by rfl, ?_⟩) hS ?_; rotate_left; (focus (intro w0 hSw; go_simp; try with_reducible rfl)); try simp only [Act.put, List.setIfInBounds_toArray, List.set_cons_zero, List.set_cons_succ])
            (refine take_p (i := 7) (v := ?_) rfl (by kernel_rfl) (by kernel_rfl) (by kernel_rfl) (fun _ _ _ h => h) (Or.inl ⟨by rfl, ?_⟩) hS ?_; rotate_left; (focus (intro w0 hSw; go_simp; try with_reducible rfl)); try simp only [Act.put, List.setIfInBounds_toArray, List.set_cons_zero, List.set_cons_succ])
            (refine take_p (i := 8) (v := ?_) rfl (by kernel_rfl) (by kernel_rfl) (by kernel_rfl) (fun _ _ _ h => h) (Or.inl ⟨by rfl, ?_⟩) hS ?_; rotate_left; (focus (intro w0 hSw; go_simp; try with_reducible rfl)); try simp only [Act.put, List.setIfInBounds_toArray, List.set_cons_zero, List.set_cons_succ])
            replace hSz := hsr
            refine wpAnyH_ready (rs := [9]) (by kernel_rfl) (by simp) ?_
            refine cons_p rfl (fun K_ hK => ?_) AllReadyH.nil
            go_simp
            have hsz_ := Still.new wR (.cells #[.int .u16 0, .int .u8 0, .int .u8 0, .int .u16 0, .slice none 0 0] 25)
            have hBz := Blk.new wR 25 #[.int .u16 0, .int .u8 0, .int .u8 0, .int .u16 0, .slice none 0 0]
            refine hK.out _ _ (Only.alloc hS _) (fun hHeld => ?_)
            clear hK K_ hHeld
            try simp only [Act.put, List.setIfInBounds_toArray, List.set_cons_zero, List.set_cons_succ]
            obtain ⟨wZ, hw_⟩ : ∃ wZ, wZ = wR.alloc (.cells #[.int .u16 0, .int .u8 0, .int .u8 0, .int .u16 0, .slice none 0 0] 25) := ⟨_, rfl⟩
            obtain ⟨Kz, hKz⟩ : ∃ Kz, Kz = wR.heap.size := ⟨_, rfl⟩
            have hS := (Only.alloc hS (.cells #[.int .u16 0, .int .u8 0, .int .u8 0, .int .u16 0, .slice none 0 0] 25))
            rw [← hw_] at hsz_ hBz hS ⊢
            rw [← hKz] at hBz ⊢
            have hzl : wA.heap.size ≤ Kz := by have := hSz.size; omega
            clear hw_ hKz
            refine wpAnyH_ready (rs := [10]) (by kernel_rfl) (by simp) ?_
            refine cons_p rfl (fun K_ hK => ?_) AllReadyH.nil
            refine step_store_blk rfl 25 (.tmp 24) (.tmp 131) rfl Kz rfl #[.int .u16 0, .int .u8 0, .int .u8 0, .int .u16 0, .slice none 0 0] rfl 25 _ hBz (by kernel_rfl) rfl (by kernel_rfl) ?_
            intro wS hBS hoS
            have hS' := hS.trans hoS (fun i hi e => by have e' : i = Kz := e; omega)
            refine hK.out _ _ hS' (fun hHeld => ?_)
            clear hK K_ hHeld
            try simp only [Act.put, List.setIfInBounds_toArray, List.set_cons_zero, List.set_cons_succ]
            replace hS := hS'
            (refine take_p (i := 11) (v := ?_) rfl (by kernel_rfl) (by kernel_rfl) (by kernel_rfl) (fun _ _ _ h => h) (Or.inl ⟨by rfl, ?_⟩) hS ?_; rotate_left; (focus (intro w0 hSw; go_simp; try with_reducible rfl)); try simp only [Act.put, List.setIfInBounds_toArray, List.set_cons_zero, List.set_cons_succ])
            refine wpAnyH_done (by kernel_rfl) ?_ _
            obtain ⟨q0, q1, q2, q3, q4⟩ := blk5 hBS
            go_wp2_with fail
            go_ret
            exact ⟨rfl, hSA.still hS⟩
          · go_simp
            have hsz_ := Still.new wA (.cells #[.int .u16 0, .int .u8 0, .int .u8 0, .int .u16 0, .slice none 0 0] 25)
            have hBz := Blk.new wA 25 #[.int .u16 0, .int .u8 0, .int .u8 0, .int .u16 0, .slice none 0 0]
            refine hK.out _ _ (Only.alloc hS _) (fun hHeld => ?_)
            clear hK K_ hHeld
            try simp only [Act.put, List.setIfInBounds_toArray, List.set_cons_zero, List.set_cons_succ]
            obtain ⟨wZ, hw_⟩ : ∃ wZ, wZ = wA.alloc (.cells #[.int .u16 0, .int .u8 0, .int .u8 0, .int .u16 0, .slice none 0 0] 25) := ⟨_, rfl⟩
            obtain ⟨Kz, hKz⟩ : ∃ Kz, Kz = wA.heap.size := ⟨_, rfl⟩
            have hS := (Only.alloc hS (.cells #[.int .u16 0, .int .u8 0, .int .u8 0, .int .u16 0, .slice none 0 0] 25))
            rw [← hw_] at hsz_ hBz hS ⊢
            rw [← hKz] at hBz ⊢
            have hzl : wA.heap.size ≤ Kz := by have := hSz.size; omega
            clear hw_ hKz
            have heZ := heA.still hsz_
            refine wpAnyH_ready (rs := [5]) (by kernel_rfl) (by simp) ?_
            refine cons_p rfl (fun K_ hK => ?_) AllReadyH.nil
            go_simp
            refine (read_any wZ heZ cl 0 (by omega) 0 0 0 (by decide) (by decide) (by decide) (D.extract 0 k) HX.out).mono ?_
            rintro e wR (⟨oz, Az, cz, hoz, -, -, -⟩ | ⟨-, rfl, hsr⟩)
            · cases hoz.out.symm.trans HO.out
            unfold ez
            have hS' := Only.still hS hsr
            refine hK.out _ _ hS' (fun hHeld => ?_)
            clear hK K_ hHeld
            try simp only [Act.put, List.setIfInBounds_toArray, List.set_cons_zero, List.set_cons_succ]
            replace hS := hS'
            clear hS'
            (refine take_p (i := 6) (v := ?_) rfl (by kernel_rfl) (by kernel_rfl) (by kernel_rfl) (fun _ _ _ h => h) (Or.inl ⟨by rfl, ?_⟩) hS ?_; rotate_left; (focus (intro w0 hSw; go_simp; try with_reducible rfl)); try simp only [Act.put, List.setIfInBounds_toArray, List.set_cons_zero, List.set_cons_succ])
            (refine take_p (i := 7) (v := ?_) rfl (by kernel_rfl) (by kernel_rfl) (by kernel_rfl) (fun _ _ _ h => h) (Or.inl ⟨by rfl, ?_⟩) hS ?_; rotate_left; (focus (intro w0 hSw; go_simp; try with_reducible rfl)); try simp only [Act.put, List.setIfInBounds_toArray, List.set_cons_zero, List.set_cons_succ])
            (refine take_p (i := 8) (v := ?_) rfl (by kernel_rfl) (by kernel_rfl) (by kernel_rfl) (fun _ _ _ h => h) (Or.inl ⟨by rfl, ?_⟩) hS ?_; rotate_left; (focus (intro w0 hSw; go_simp; try with_reducible rfl)); try simp only [Act.put, List.setIfInBounds_toArray, List.set_cons_zero, List.set_cons_succ])
            have hBz := hBz.only hsr (fun h => h)
            refine wpAnyH_ready (rs := [10]) (by kernel_rfl) (by simp) ?_
            refine cons_p rfl (fun K_ hK => ?_) AllReadyH.nil
            refine step_store_blk rfl 25 (.tmp 24) (.tmp 131) rfl Kz rfl #[.int .u16 0, .int .u8 0, .int .u8 0, .int .u16 0, .slice none 0 0] rfl 25 _ hBz (by kernel_rfl) rfl (by kernel_rfl) ?_
            intro wS hBS hoS
            have hS' := hS.trans hoS (fun i hi e => by have e' : i = Kz := e; omega)
            refine hK.out _ _ hS' (fun hHeld => ?_)
            clear hK K_ hHeld
            try simp only [Act.put, List.setIfInBounds_toArray, List.set_cons_zero, List.set_cons_succ]
            replace hS := hS'
            (refine take_p (i := 11) (v := ?_) rfl (by kernel_rfl) (by kernel_rfl) (by kernel_rfl) (fun _ _ _ h => h) (Or.inl ⟨by rfl, ?_⟩) hS ?_; rotate_left; (focus (intro w0 hSw; go_simp; try with_reducible rfl)); try simp only [Act.put, List.setIfInBounds_toArray, List.set_cons_zero, List.set_cons_succ])
            refine wpAnyH_done (by kernel_rfl) ?_ _
            obtain ⟨q0, q1, q2, q3, q4⟩ := blk5 hBS
            go_wp2_with fail
            go_ret
            exact ⟨rfl, hSA.still hS⟩
    · have i1 : ¬ (j : Int) < (m : Int) := by omega
      have hcut := cut_loop M j k hpe.out.2 (by omega) (.inr (by omega)) (by have := HKD.out; have := ZD.out; omega)
      rw [← hpe.out.1] at hcut
      obtain ⟨x0, x1, x2, x3, x4⟩ := blk5 hBx
      clear x1 x2 x3 x4
      have HC := Lib.hid hcut
      have hkD := HKD.out
      have hkD' : (k : Int) ≤ (D.size : Int) := by omega
      clear hcut hri hBi hpe
      go_wp2_with fail
      clear i0_ i1_ i2_ i3_ i4_
      by_cases hpk_ : p = k
      · have HX : Hid ((D.extract 0 k).size ≤ 1000000) := Lib.hid (by rw [ByteArray.size_extract]; omega)
        have HO : Hid (optsOf (D.extract 0 k) = some (M.take j)) := Lib.hid (by
          have h1 : D.extract 0 k = str ((wB M).take k) := by
            rw [HD.out]
            refine (str_of _).symm.trans (congrArg str ?_)
            rw [ext_list, str_list, List.drop_zero, Nat.sub_zero]
          rw [h1, optsOf_cut M k HFit.out, HC.out, if_pos hpk_]
          rfl)
        have HJ : Hid ((M.take j).length = j) := Lib.hid (by rw [List.length_take]; omega)
        have hpk2 : (p : Int) = (k : Int) := by omega
        have hs_ : Still wr wr.drew := (Only.refl _ _).drew
        have heA := hew.still hs_
        have hSA := hSw.still hs_
        have x0 := hs_.cell_some (fun h => h) x0
        obtain ⟨wA, hwA⟩ : ∃ wA, wA = wr.drew := ⟨_, rfl⟩
        refine wp_region_held_drew (S := fun w' => Still wr.drew w') (by kernel_rfl) (Only.refl _ _) (fun hS => ?_)
        rw [← hwA] at heA hSA hS x0 ⊢
        clear hwA hs_ hew hSw hst
        have hSz : Still wA wA := Only.refl _ _
        (refine take_p (i := 0) (v := ?_) rfl (by kernel_rfl) (by kernel_rfl) (by kernel_rfl) (fun _ _ _ h => h) (Or.inl ⟨by rfl, ?_⟩) hS ?_; rotate_left; (focus (intro w0 hSw; go_simp; try with_reducible rfl)); try simp only [Act.put, List.setIfInBounds_toArray, List.set_cons_zero, List.set_cons_succ])
        (refine take_p (i := 1) (v := ?_) rfl (by kernel_rfl) (by kernel_rfl) (by kernel_rfl) (fun _ _ _ h => h) (Or.inl ⟨by rfl, ?_⟩) hS ?_; rotate_left; (focus (intro w0 hSw; have q_ := hSw.cell_some (fun h => h) x0; go_simp; try with_reducible rfl)); try simp only [Act.put, List.setIfInBounds_toArray, List.set_cons_zero, List.set_cons_succ])
        (refine take_p (i := 2) (v := ?_) rfl (by kernel_rfl) (by kernel_rfl) (by kernel_rfl) (fun _ _ _ h => h) (Or.inl ⟨by rfl, ?_⟩) hS ?_; rotate_left; (focus (intro w0 hSw; go_simp; try with_reducible rfl)); try simp only [Act.put, List.setIfInBounds_toArray, List.set_cons_zero, List.set_cons_succ])
        (refine take_p (i := 3) (v := ?_) rfl (by kernel_rfl) (by kernel_rfl) (by kernel_rfl) (fun _ _ _ h => h) (Or.inl ⟨by rfl, ?_⟩) hS ?_; rotate_left; (focus (intro w0 hSw; go_simp; try with_reducible rfl)); try simp only [Act.put, List.setIfInBounds_toArray, List.set_cons_zero, List.set_cons_succ])
        (refine take_p (i := 4) (v := ?_) rfl (by kernel_rfl) (by kernel_rfl) (by kernel_rfl) (fun _ _ _ h => h) (Or.inl ⟨by rfl, ?_⟩) hS ?_; rotate_left; (focus (intro w0 hSw; go_simp; try with_reducible rfl)); try simp only [Act.put, List.setIfInBounds_toArray, List.set_cons_zero, List.set_cons_succ])
        refine wpAnyH_ready (rs := [5, 9]) (by kernel_rfl) (by simp) ?_
        refine cons_p rfl (fun K_ hK => ?_) (cons_p rfl (fun K_ hK => ?_) AllReadyH.nil)
        · go_simp
          refine (read_any wA heA cl 0 (by omega) 0 0 0 (by decide) (by decide) (by decide) (D.extract 0 k) HX.out).mono ?_
          rintro e wR (⟨oz, Az, cz, hoz, rfl, -, hsr⟩ | ⟨hoz, -, -⟩)
          rotate_left
          · cases hoz.out.symm.trans HO.out
          obtain rfl : oz = M.take j := Option.some.inj (hoz.out.symm.trans HO.out)
          rw [HJ.out]
          clear hoz
          unfold eA
          have hS' := Only.still hS hsr
          refine hK.out _ _ hS' (fun hHeld => ?_)
          clear hK K_ hHeld
          try simp only [Act.put, List.setIfInBounds_toArray, List.set_cons_zero, List.set_cons_succ]
          replace hS := hS'
          clear hS'
          (refine take_p (i := 6) (v := ?_) rfl (by kernel_rfl) (by kernel_rfl) (by kernel_rfl) (fun _ _ _ h => h) (Or.inl ⟨by rfl, ?_⟩) hS ?_; rotate_left; (focus (intro w0 hSw; go_simp; try with_reducible rfl)); try simp only [Act.put, List.setIfInBounds_toArray, List.set_cons_zero, List.set_cons_succ])
          (refine take_p (i := 7) (v := ?_) rfl (by kernel_rfl) (by kernel_rfl) (by kernel_rfl) (fun _ _ _ h => h) (Or.inl ⟨by rfl, ?_⟩) hS ?_; rotate_left; (focus (intro w0 hSw; go_simp; try with_reducible rfl)); try simp only [Act.put, List.setIfInBounds_toArray, List.set_cons_zero, List.set_cons_succ])
          (refine take_p (i := 8) (v := ?_) rfl (by kernel_rfl) (by kernel_rfl) (by kernel_rfl) (fun _ _ _ h => h) (Or.inl ⟨by rfl, ?_⟩) hS ?_; rotate_left; (focus (intro w0 hSw; go_simp; try with_reducible rfl)); try simp only [Act.put, List.setIfInBounds_toArray, List.set_cons_zero, List.set_cons_succ])
          replace hSz := hsr
          refine wpAnyH_ready (rs := [9]) (by kernel_rfl) (by simp) ?_
          refine cons_p rfl (fun K_ hK => ?_) AllReadyH.nil
          go_simp
          have hsz_ := Still.new wR (.cells #[.int .u16 0, .int .u8 0, .int .u8 0, .int .u16 0, .slice none 0 0] 25)
          have hBz := Blk.new wR 25 #[.int .u16 0, .int .u8 0, .int .u8 0, .int .u16 0, .slice none 0 0]
          refine hK.out _ _ (Only.alloc hS _) (fun hHeld => ?_)
          clear hK K_ hHeld
          try simp only [Act.put, List.setIfInBounds_toArray, List.set_cons_zero, List.set_cons_succ]
          obtain ⟨wZ, hw_⟩ : ∃ wZ, wZ = wR.alloc (.cells #[.int .u16 0, .int .u8 0, .int .u8 0, .int .u16 0, .slice none 0 0] 25) := ⟨_, rfl⟩
          obtain ⟨Kz, hKz⟩ : ∃ Kz, Kz = wR.heap.size := ⟨_, rfl⟩
          have hS := (Only.alloc hS (.cells #[.int .u16 0, .int .u8 0, .int .u8 0, .int .u16 0, .slice none 0 0] 25))
          rw [← hw_] at hsz_ hBz hS ⊢
          rw [← hKz] at hBz ⊢
          have hzl : wA.heap.size ≤ Kz := by have := hSz.size; omega
          clear hw_ hKz
          refine wpAnyH_ready (rs := [10]) (by kernel_rfl) (by simp) ?_
          refine cons_p rfl (fun K_ hK => ?_) AllReadyH.nil
          refine step_store_blk rfl 25 (.tmp 24) (.tmp 131) rfl Kz rfl #[.int .u16 cl, .int .u8 0, .int .u8 0, .int .u16 0, .slice Az j cz] rfl 25 _ hBz (by kernel_rfl) rfl (by kernel_rfl) ?_
          intro wS hBS hoS
          have hS' := hS.trans hoS (fun i hi e => by have e' : i = Kz := e; omega)
          refine hK.out _ _ hS' (fun hHeld => ?_)
          clear hK K_ hHeld
          try simp only [Act.put, List.setIfInBounds_toArray, List.set_cons_zero, List.set_cons_succ]
          replace hS := hS'
          (refine take_p (i := 11) (v := ?_) rfl (by kernel_rfl) (by kernel_rfl) (by kernel_rfl) (fun _ _ _ h => h) (Or.inl ⟨by rfl, ?_⟩) hS ?_; rotate_left; (focus (intro w0 hSw; go_simp; try with_reducible rfl)); try simp only [Act.put, List.setIfInBounds_toArray, List.set_cons_zero, List.set_cons_succ])
          refine wpAnyH_done (by kernel_rfl) ?_ _
          obtain ⟨q0, q1, q2, q3, q4⟩ := blk5 hBS
          go_wp2_with fail
          go_ret
          exact ⟨rfl, hSA.still hS⟩
        · go_simp
          have hsz_ := Still.new wA (.cells #[.int .u16 0, .int .u8 0, .int .u8 0, .int .u16 0, .slice none 0 0] 25)
          have hBz := Blk.new wA 25 #[.int .u16 0, .int .u8 0, .int .u8 0, .int .u16 0, .slice none 0 0]
          refine hK.out _ _ (Only.alloc hS _) (fun hHeld => ?_)
          clear hK K_ hHeld
          try simp only [Act.put, List.setIfInBounds_toArray, List.set_cons_zero, List.set_cons_succ]
          obtain ⟨wZ, hw_⟩ : ∃ wZ, wZ = wA.alloc (.cells #[.int .u16 0, .int .u8 0, .int .u8 0, .int .u16 0, .slice none 0 0] 25) := ⟨_, rfl⟩
          obtain ⟨Kz, hKz⟩ : ∃ Kz, Kz = wA.heap.size := ⟨_, rfl⟩
          have hS := (Only.alloc hS (.cells #[.int .u16 0, .int .u8 0, .int .u8 0, .int .u16 0, .slice none 0 0] 25))
          rw [← hw_] at hsz_ hBz hS ⊢
          rw [← hKz] at hBz ⊢
          have hzl : wA.heap.size ≤ Kz := by have := hSz.size; omega
          clear hw_ hKz
          have heZ := heA.still hsz_
          refine wpAnyH_ready (rs := [5]) (by kernel_rfl) (by simp) ?_
          refine cons_p rfl (fun K_ hK => ?_) AllReadyH.nil
          go_simp
          refine (read_any wZ heZ cl 0 (by omega) 0 0 0 (by decide) (by decide) (by decide) (D.extract 0 k) HX.out).mono ?_
          rintro e wR (⟨oz, Az, cz, hoz, rfl, -, hsr⟩ | ⟨hoz, -, -⟩)
          rotate_left
          · cases hoz.out.symm.trans HO.out
          obtain rfl : oz = M.take j := Option.some.inj (hoz.out.symm.trans HO.out)
          rw [HJ.out]
          clear hoz
          unfold eA
          have hS' := Only.still hS hsr
          refine hK.out _ _ hS' (fun hHeld => ?_)
          clear hK K_ hHeld
          try simp only [Act.put, List.setIfInBounds_toArray, List.set_cons_zero, List.set_cons_succ]
          replace hS := hS'
          clear hS'
          (refine take_p (i := 6) (v := ?_) rfl (by kernel_rfl) (by kernel_rfl) (by kernel_rfl) (fun _ _ _ h => h) (Or.inl ⟨by rfl, ?_⟩) hS ?_; rotate_left; (focus (intro w0 hSw; go_simp; try with_reducible rfl)); try simp only [Act.put, List.setIfInBounds_toArray, List.set_cons_zero, List.set_cons_succ])
          (refine take_p (i := 7) (v := ?_) rfl (by kernel_rfl) (by kernel_rfl) (by kernel_rfl) (fun _ _ _ h => h) (Or.inl ⟨by rfl, ?_⟩) hS ?_; rotate_left; (focus (intro w0 hSw; go_simp; try with_reducible rfl)); try simp only [Act.put, List.setIfInBounds_toArray, List.set_cons_zero, List.set_cons_succ])
          (refine take_p (i := 8) (v := ?_) rfl (by kernel_rfl) (by kernel_rfl) (by kernel_rfl) (fun _ _ _ h => h) (Or.inl ⟨by rfl, ?_⟩) hS ?_; rotate_left; (focus (intro w0 hSw; go_simp; try with_reducible rfl)); try simp only [Act.put, List.setIfInBounds_toArray, List.set_cons_zero, List.set_cons_succ])
          have hBz := hBz.only hsr (fun h => h)
          refine wpAnyH_ready (rs := [10]) (by kernel_rfl) (by simp) ?_
          refine cons_p rfl (fun K_ hK => ?_) AllReadyH.nil
          refine step_store_blk rfl 25 (.tmp 24) (.tmp 131) rfl Kz rfl #[.int .u16 cl, .int .u8 0, .int .u8 0, .int .u16 0, .slice Az j cz] rfl 25 _ hBz (by kernel_rfl) rfl (by kernel_rfl) ?_
          intro wS hBS hoS
          have hS' := hS.trans hoS (fun i hi e => by have e' : i = Kz := e; omega)
          refine hK.out _ _ hS' (fun hHeld => ?_)
          clear hK K_ hHeld
          try simp only [Act.put, List.setIfInBounds_toArray, List.set_cons_zero, List.set_cons_succ]
          replace hS := hS'
          (refine take_p (i := 11) (v := ?_) rfl (by kernel_rfl) (by kernel_rfl) (by kernel_rfl) (fun _ _ _ h => h) (Or.inl ⟨by rfl, ?_⟩) hS ?_; rotate_left; (focus (intro w0 hSw; go_simp; try with_reducible rfl)); try simp only [Act.put, List.setIfInBounds_toArray, List.set_cons_zero, List.set_cons_succ])
          refine wpAnyH_done (by kernel_rfl) ?_ _
          obtain ⟨q0, q1, q2, q3, q4⟩ := blk5 hBS
          go_wp2_with fail
          go_ret
          exact ⟨rfl, hSA.still hS⟩
      · have HX : Hid ((D.extract 0 k).size ≤ 1000000) := Lib.hid (by rw [ByteArray.size_extract]; omega)
        have HO : Hid (optsOf (D.extract 0 k) = none) := Lib.hid (by
          have h1 : D.extract 0 k = str ((wB M).take k) := by
            rw [HD.out]
            refine (str_of _).symm.trans (congrArg str ?_)
            rw [ext_list, str_list, List.drop_zero, Nat.sub_zero]
          rw [h1, optsOf_cut M k HFit.out, HC.out, if_neg hpk_]
          rfl)
        have hpk2 : ¬ (p : Int) = (k : Int) := by omega
        have hs_ : Still wr wr.drew := (Only.refl _ _).drew
        have heA := hew.still hs_
        have hSA := hSw.still hs_
        have x0 := hs_.cell_some (fun h => h) x0
        obtain ⟨wA, hwA⟩ : ∃ wA, wA = wr.drew := ⟨_, rfl⟩
        refine wp_region_held_drew (S := fun w' => Still wr.drew w') (by kernel_rfl) (Only.refl _ _) (fun hS => ?_)
        rw [← hwA] at heA hSA hS x0 ⊢
        clear hwA hs_ hew hSw hst
        have hSz : Still wA wA := Only.refl _ _
        (refine take_p (i := 0) (v := ?_) rfl (by kernel_rfl) (by kernel_rfl) (by kernel_rfl) (fun _ _ _ h => h) (Or.inl ⟨by rfl, ?_⟩) hS ?_; rotate_left; (focus (intro w0 hSw; go_simp; try with_reducible rfl)); try simp only [Act.put, List.setIfInBounds_toArray, List.set_cons_zero, List.set_cons_succ])
        (refine take_p (i := 1) (v := ?_) rfl (by kernel_rfl) (by kernel_rfl) (by kernel_rfl) (fun _ _ _ h => h) (Or.inl ⟨by rfl, ?_⟩) hS ?_; rotate_left; (focus (intro w0 hSw; have q_ := hSw.cell_some (fun h => h) x0; go_simp; try with_reducible rfl)); try simp only [Act.put, List.setIfInBounds_toArray, List.set_cons_zero, List.set_cons_succ])
        (refine take_p (i := 2) (v := ?_) rfl (by kernel_rfl) (by kernel_rfl) (by kernel_rfl) (fun _ _ _ h => h) (Or.inl ⟨by rfl, ?_⟩) hS ?_; rotate_left; (focus (intro w0 hSw; go_simp; try with_reducible rfl)); try simp only [Act.put, List.setIfInBounds_toArray, List.set_cons_zero, List.set_cons_succ])
        (refine take_p (i := 3) (v := ?_) rfl (by kernel_rfl) (by kernel_rfl) (by kernel_rfl) (fun _ _ _ h => h) (Or.inl ⟨by rfl, ?_⟩) hS ?_; rotate_left; (focus (intro w0 hSw; go_simp; try with_reducible rfl)); try simp only [Act.put, List.setIfInBounds_toArray, List.set_cons_zero, List.set_cons_succ])
        (refine take_p (i := 4) (v := ?_) rfl (by kernel_rfl) (by kernel_rfl) (by kernel_rfl) (fun _ _ _ h => h) (Or.inl ⟨by rfl, ?_⟩) hS ?_; rotate_left; (focus (intro w0 hSw; go_simp; try with_reducible rfl)); try simp only [Act.put, List.setIfInBounds_toArray, List.set_cons_zero, List.set_cons_succ])
        refine wpAnyH_ready (rs := [5, 9]) (by kernel_rfl) (by simp) ?_
        refine cons_p rfl (fun K_ hK => ?_) (cons_p rfl (fun K_ hK => ?_) AllReadyH.nil)
        · go_simp
          refine (read_any wA heA cl 0 (by omega) 0 0 0 (by decide) (by decide) (by decide) (D.extract 0 k) HX.out).mono ?_
          rintro e wR (⟨oz, Az, cz, hoz, -, -, -⟩ | ⟨-, rfl, hsr⟩)
          · cases hoz.out.symm.trans HO.out
          unfold ez
          have hS' := Only.still hS hsr
          refine hK.out _ _ hS' (fun hHeld => ?_)
          clear hK K_ hHeld
          try simp only [Act.put, List.setIfInBounds_toArray, List.set_cons_zero, List.set_cons_succ]
          replace hS := hS'
          clear hS'
          (refine take_p (i := 6) (v := ?_) rfl (by kernel_rfl) (by kernel_rfl) (by kernel_rfl) (fun _ _ _ h => h) (Or.inl ⟨by rfl, ?_⟩) hS ?_; rotate_left; (focus (intro w0 hSw; go_simp; try with_reducible rfl)); try simp only [Act.put, List.setIfInBounds_toArray, List.set_cons_zero, List.set_cons_succ])
          (refine take_p (i := 7) (v := ?_) rfl (by kernel_rfl) (by kernel_rfl) (by kernel_rfl) (fun _ _ _ h => h) (Or.inl ⟨by rfl, ?_⟩) hS ?_; rotate_left; (focus (intro w0 hSw; go_simp; try with_reducible rfl)); try simp only [Act.put, List.setIfInBounds_toArray, List.set_cons_zero, List.set_cons_succ])
          (refine take_p (i := 8) (v := ?_) rfl (by kernel_rfl) (by kernel_rfl) (by kernel_rfl) (fun _ _ _ h => h) (Or.inl ⟨by rfl, ?_⟩) hS ?_; rotate_left; (focus (intro w0 hSw; go_simp; try with_reducible rfl)); try simp only [Act.put, List.setIfInBounds_toArray, List.set_cons_zero, List.set_cons_succ])
          replace hSz := hsr
          refine wpAnyH_ready (rs := [9]) (by kernel_rfl) (by simp) ?_
          refine cons_p rfl (fun K_ hK => ?_) AllReadyH.nil
          go_simp
          have hsz_ := Still.new wR (.cells #[.int .u16 0, .int .u8 0, .int .u8 0, .int .u16 0, .slice none 0 0] 25)
          have hBz := Blk.new wR 25 #[.int .u16 0, .int .u8 0, .int .u8 0, .int .u16 0, .slice none 0 0]
          refine hK.out _ _ (Only.alloc hS _) (fun hHeld => ?_)
          clear hK K_ hHeld
          try simp only [Act.put, List.setIfInBounds_toArray, List.set_cons_zero, List.set_cons_succ]
          obtain ⟨wZ, hw_⟩ : ∃ wZ, wZ = wR.alloc (.cells #[.int .u16 0, .int .u8 0, .int .u8 0, .int .u16 0, .slice none 0 0] 25) := ⟨_, rfl⟩
          obtain ⟨Kz, hKz⟩ : ∃ Kz, Kz = wR.heap.size := ⟨_, rfl⟩
          have hS := (Only.alloc hS (.cells #[.int .u16 0, .int .u8 0, .int .u8 0, .int .u16 0, .slice none 0 0] 25))
          rw [← hw_] at hsz_ hBz hS ⊢
          rw [← hKz] at hBz ⊢
          have hzl : wA.heap.size ≤ Kz := by have := hSz.size; omega
          clear hw_ hKz
          refine wpAnyH_ready (rs := [10]) (by kernel_rfl) (by simp) ?_
          refine cons_p rfl (fun K_ hK => ?_) AllReadyH.nil
          refine step_store_blk rfl 25 (.tmp 24) (.tmp 131) rfl Kz rfl #[.int .u16 0, .int .u8 0, .int .u8 0, .int .u16 0, .slice none 0 0] rfl 25 _ hBz (by kernel_rfl) rfl (by kernel_rfl) ?_
          intro wS hBS hoS
          have hS' := hS.trans hoS (fun i hi e => by have e' : i = Kz := e; omega)
          refine hK.out _ _ hS' (fun hHeld => ?_)
          clear hK K_ hHeld
          try simp only [Act.put, List.setIfInBounds_toArray, List.set_cons_zero, List.set_cons_succ]
          replace hS := hS'
          (refine take_p (i := 11) (v := ?_) rfl (by kernel_rfl) (by kernel_rfl) (by kernel_rfl) (fun _ _ _ h => h) (Or.inl ⟨by rfl, ?_⟩) hS ?_; rotate_left; (focus (intro w0 hSw; go_simp; try with_reducible rfl)); try simp only [Act.put, List.setIfInBounds_toArray, List.set_cons_zero, List.set_cons_succ])
          refine wpAnyH_done (by kernel_rfl) ?_ _
          obtain ⟨q0, q1, q2, q3, q4⟩ := blk5 hBS
          go_wp2_with fail
          go_ret
          exact ⟨rfl, hSA.still hS⟩
        · go_simp
          have hsz_ := Still.new wA (.cells #[.int .u16 0, .int .u8 0, .int .u8 0, .int .u16 0, .slice none 0 0] 25)
          have hBz := Blk.new wA 25 #[.int .u16 0, .int .u8 0, .int .u8 0, .int .u16 0, .slice none 0 0]
          refine hK.out _ _ (Only.alloc hS _) (fun hHeld => ?_)
          clear hK K_ hHeld
          try simp only [Act.put, List.setIfInBounds_toArray, List.set_cons_zero, List.set_cons_succ]
          obtain ⟨wZ, hw_⟩ : ∃ wZ, wZ = wA.alloc (.cells #[.int .u16 0, .int .u8 0, .int .u8 0, .int .u16 0, .slice none 0 0] 25) := ⟨_, rfl⟩
          obtain ⟨Kz, hKz⟩ : ∃ Kz, Kz = wA.heap.size := ⟨_, rfl⟩
          have hS := (Only.alloc hS (.cells #[.int .u16 0, .int .u8 0, .int .u8 0, .int .u16 0, .slice none 0 0] 25))
          rw [← hw_] at hsz_ hBz hS ⊢
          rw [← hKz] at hBz ⊢
          have hzl : wA.heap.size ≤ Kz := by have := hSz.size; omega
          clear hw_ hKz
          have heZ := heA.still hsz_
          refine wpAnyH_ready (rs := [5]) (by kernel_rfl) (by simp) ?_
          refine cons_p rfl (fun K_ hK => ?_) AllReadyH.nil
          go_simp
          refine (read_any wZ heZ cl 0 (by omega) 0 0 0 (by decide) (by decide) (by decide) (D.extract 0 k) HX.out).mono ?_
          rintro e wR (⟨oz, Az, cz, hoz, -, -, -⟩ | ⟨-, rfl, hsr⟩)
          · cases hoz.out.symm.trans HO.out
          unfold ez
          have hS' := Only.still hS hsr
          refine hK.out _ _ hS' (fun hHeld => ?_)
          clear hK K_ hHeld
          try simp only [Act.put, List.setIfInBounds_toArray, List.set_cons_zero, List.set_cons_succ]
          replace hS := hS'
          clear hS'
          (refine take_p (i := 6) (v := ?_) rfl (by kernel_rfl) (by kernel_rfl) (by kernel_rfl) (fun _ _ _ h => h) (Or.inl ⟨by rfl, ?_⟩) hS ?_; rotate_left; (focus (intro w0 hSw; go_simp; try with_reducible rfl)); try simp only [Act.put, List.setIfInBounds_toArray, List.set_cons_zero, List.set_cons_succ])
          (refine take_p (i := 7) (v := ?_) rfl (by kernel_rfl) (by kernel_rfl) (by kernel_rfl) (fun _ _ _ h => h) (Or.inl ⟨by rfl, ?_⟩) hS ?_; rotate_left; (focus (intro w0 hSw; go_simp; try with_reducible rfl)); try simp only [Act.put, List.setIfInBounds_toArray, List.set_cons_zero, List.set_cons_succ])
          (refine take_p (i := 8) (v := ?_) rfl (by kernel_rfl) (by kernel_rfl) (by kernel_rfl) (fun _ _ _ h => h) (Or.inl ⟨by rfl, ?_⟩) hS ?_; rotate_left; (focus (intro w0 hSw; go_simp; try with_reducible rfl)); try simp only [Act.put, List.setIfInBounds_toArray, List.set_cons_zero, List.set_cons_succ])
          have hBz := hBz.only hsr (fun h => h)
          refine wpAnyH_ready (rs := [10]) (by kernel_rfl) (by simp) ?_
          refine cons_p rfl (fun K_ hK => ?_) AllReadyH.nil
          refine step_store_blk rfl 25 (.tmp 24) (.tmp 131) rfl Kz rfl #[.int .u16 0, .int .u8 0, .int .u8 0, .int .u16 0, .slice none 0 0] rfl 25 _ hBz (by kernel_rfl) rfl (by kernel_rfl) ?_
          intro wS hBS hoS
          have hS' := hS.trans hoS (fun i hi e => by have e' : i = Kz := e; omega)
          refine hK.out _ _ hS' (fun hHeld => ?_)
          clear hK K_ hHeld
          try simp only [Act.put, List.setIfInBounds_toArray, List.set_cons_zero, List.set_cons_succ]
          replace hS := hS'
          (refine take_p (i := 11) (v := ?_) rfl (by kernel_rfl) (by kernel_rfl) (by kernel_rfl) (fun _ _ _ h => h) (Or.inl ⟨by rfl, ?_⟩) hS ?_; rotate_left; (focus (intro w0 hSw; go_simp; try with_reducible rfl)); try simp only [Act.put, List.setIfInBounds_toArray, List.set_cons_zero, List.set_cons_succ])
          refine wpAnyH_done (by kernel_rfl) ?_ _
          obtain ⟨q0, q1, q2, q3, q4⟩ := blk5 hBS
          go_wp2_with fail
          go_ret
          exact ⟨rfl, hSA.still hS⟩
end Go.Proofs.YtbapnlgddekakaaDoor
