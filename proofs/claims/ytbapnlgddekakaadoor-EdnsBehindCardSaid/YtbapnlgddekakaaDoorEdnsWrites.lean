/-
  Package edns: EdnsWrites.
-/
import Derived.Test.YtbapnlgddekakaaDoorEdnsRWr
namespace Go.Proofs.YtbapnlgddekakaaDoor
open Go.RowKit
set_option linter.unusedVariables false
set_option linter.unusedSimpArgs false

theorem blk_cells {w : World} {g : Nat} {t : TypeId} {l : List Value} (h : Blk w g t l.toArray) : ∀ j v, l[j]? = some v → w.cell? ⟨g, 0 + j, none⟩ = some v := by
  intro j v hv
  rw [Nat.zero_add, h.cell j]
  simpa using hv
theorem oRow_one (os : List Opt) : ∀ u ∈ oRow os, u.oneCell' = true := by
  intro u hu
  unfold oRow at hu
  rw [List.mem_flatten] at hu
  obtain ⟨l, hl, hu⟩ := hu
  rw [List.mem_map] at hl
  obtain ⟨o, _, rfl⟩ := hl
  exact oC_one o u hu

set_option maxRecDepth 1000000 in
set_option maxHeartbeats 6400000 in
theorem writes_walk (w : World) (cl x v f : Nat) (A : Option Addr) (n c : Nat) (os : List Opt) (hcl : cl < 65536) (hx : x < 256) (hv : v < 256) (hf : f < 65536) (hnm : n ≤ maxLen) (hl : os.length = n) (hr : Reads w w.heap.size 2 A n (oRow os)) (hcd : ∀ o ∈ os, o.1 < 65536)
    (cl' x' v' f' : Nat) (A' : Option Addr) (n' c' : Nat) (os' : List Opt) (hcl' : cl' < 65536) (hx' : x' < 256) (hv' : v' < 256) (hf' : f' < 65536) (hnm' : n' ≤ maxLen) (hl' : os'.length = n') (hr' : Reads w w.heap.size 2 A' n' (oRow os')) (hcd' : ∀ o ∈ os', o.1 < 65536) (he : ErrT w)
    (co ex : Nat) (hco8 : co < 256) (hex8 : ex < 256) (N : Int) :
    Calls Tryd.prog 3 #[.agg (eA cl x v f A n c), .agg (eA cl' x' v' f' A' n' c'), .int .u8 co, .int .u8 ex, .int .i64 N] w fun e w' => e = .returned (.bool true) ∧ Still w w' := by
  obtain ⟨i0, hi, hz0, hz1, hz2⟩ := info_parts info_opt
  have Hcd := Lib.hid hcd
  obtain ⟨a, b, D, g, hW⟩ : ∃ (a b : Int) (D : ByteArray) (g : Int), ∀ (e : Ending) (wa wb : World),
      ((Hid ((wB os).length ≤ 65535) ∧ e = .returned (.tuple #[.int .u16 cl, .int .u32 ((ttlOf x v f : Nat) : Int), .string (str (wB os)), .int .i64 0]) ∧ Still wa wb) ∨
      (Hid (65535 < (wB os).length) ∧ e = .returned (.tuple #[.int .u16 0, .int .u32 0, .string ⟨#[]⟩, .int .i64 5]) ∧ Still wa wb)) →
      e = .returned (.tuple #[.int .u16 a, .int .u32 b, .string D, .int .i64 g]) ∧ Still wa wb := by
    by_cases h : (wB os).length ≤ 65535
    · refine ⟨cl, (ttlOf x v f : Nat), str (wB os), 0, fun e wa wb hh => ?_⟩
      rcases hh with ⟨_, rfl, hs⟩ | ⟨h', _, _⟩
      · exact ⟨rfl, hs⟩
      · exact absurd h'.out (by omega)
    · refine ⟨0, 0, ⟨#[]⟩, 5, fun e wa wb hh => ?_⟩
      rcases hh with ⟨h', _, _⟩ | ⟨_, rfl, hs⟩
      · exact absurd h'.out (by omega)
      · exact ⟨rfl, hs⟩
  obtain ⟨p, q, r, hs1, hs2⟩ : ∃ p q r : Int, (∀ w, Calls Tryd.prog 13 #[.int .i64 N] w fun ev w' => ev = .returned (.tuple #[.int .u8 p, .int .u8 q, .int .i64 r]) ∧ w = w') ∧
      (∀ w, Calls Tryd.prog 14 #[.int .i64 N] w fun ev w' => ev = .returned (.tuple #[.int .u8 p, .int .u8 q, .int .i64 r]) ∧ w = w') := by
    by_cases h : N < 0 ∨ 4095 < N
    · exact ⟨0, 0, 1, split_out N h, rsplit_out N h⟩
    · obtain ⟨m, rfl⟩ : ∃ m : Nat, N = m := ⟨N.toNat, by omega⟩
      exact ⟨_, _, _, split_in m (by omega), rsplit_in m (by omega)⟩
  obtain ⟨bb, hbb⟩ : ∃ bb, bb = decide ((cl : Int) = cl' ∧ (x : Int) = x' ∧ (v : Int) = v' ∧ (f : Int) = f' ∧ os = os') := ⟨_, rfl⟩
  have HBB := Lib.hid hbb
  have HW := Lib.hid hW
  have HS1 := Lib.hid hs1
  have HS2 := Lib.hid hs2
  clear hcd hcd' hW hs1 hs2 hbb
  have hS2 := (Still.new w (.cells #[.int .u16 cl, .int .u8 x, .int .u8 v, .int .u16 f, .slice A n c] 25)).alloc (.cells #[.int .u16 cl', .int .u8 x', .int .u8 v', .int .u16 f', .slice A' n' c'] 25)
  have he2 := he.still hS2
  have hrx2 := (hr.only hS2 (Nat.le_refl _) (fun _ _ h => h)).more hS2.size
  have hry2 := (hr'.only hS2 (Nat.le_refl _) (fun _ _ h => h)).more hS2.size
  have hBx2 := (Blk.new w 25 #[.int .u16 cl, .int .u8 x, .int .u8 v, .int .u16 f, .slice A n c]).alloc (.cells #[.int .u16 cl', .int .u8 x', .int .u8 v', .int .u16 f', .slice A' n' c'] 25)
  have hBy2 := Blk.at_ (w.alloc (.cells #[.int .u16 cl, .int .u8 x, .int .u8 v, .int .u16 f, .slice A n c] 25)) 25 #[.int .u16 cl', .int .u8 x', .int .u8 v', .int .u16 f', .slice A' n' c'] (g := w.heap.size + 1) (by simp)
  clear hr hr' he
  unfold eA
  go_enter Tryd.func3, Tryd.ntmps3
  obtain ⟨x0, x1, x2, x3, x4⟩ := blk5 hBx2
  obtain ⟨y0, y1, y2, y3, y4⟩ := blk5 hBy2
  go_wp2_with fail
  clear x0 x1 x2 x3 x4 y0 y1 y2 y3 y4
  obtain ⟨w2, hw2⟩ : ∃ w2, w2 = (w.alloc (.cells #[.int .u16 cl, .int .u8 x, .int .u8 v, .int .u16 f, .slice A n c] 25)).alloc (.cells #[.int .u16 cl', .int .u8 x', .int .u8 v', .int .u16 f', .slice A' n' c'] 25) := ⟨_, rfl⟩
  rw [← hw2] at hS2 he2 hrx2 hry2 hBx2 hBy2 ⊢
  obtain ⟨K, hK⟩ : ∃ K, K = w.heap.size := ⟨_, rfl⟩
  rw [← hK] at hBx2 hBy2 ⊢
  clear hw2 hK
  refine (long_any w2 cl x v f A n c w2.heap.size os hl hrx2 (Nat.le_refl _) hnm).mono ?_
  rintro e w3 (⟨rfl, hs3⟩ | ⟨hsh, rfl, hs3⟩)
  · have hS3 := hS2.still hs3
    have he3 := he2.still hs3
    go_wp2_with fail
    refine (edns_awake _ he3).mono ?_
    rintro e wz ⟨rfl, hsz⟩
    go_wp2_with fail
    go_ret
    exact ⟨rfl, hS3.still hsz⟩
  have hS3 := hS2.still hs3
  have he3 := he2.still hs3
  have hrx3 := (hrx2.only hs3 (Nat.le_refl _) (fun _ _ h => h)).more hs3.size
  have hBx3 := hBx2.only hs3 (fun h => h)
  have hry3 := (hry2.only hs3 (Nat.le_refl _) (fun _ _ h => h)).more hs3.size
  have hBy3 := hBy2.only hs3 (fun h => h)
  clear hS2 he2 hrx2 hBx2 hry2 hBy2 hs3
  obtain ⟨x0, x1, x2, x3, x4⟩ := blk5 hBx3
  obtain ⟨y0, y1, y2, y3, y4⟩ := blk5 hBy3
  go_wp2_with fail
  clear x0 x1 x2 x3 x4 y0 y1 y2 y3 y4
  refine (long_any w3 cl' x' v' f' A' n' c' w3.heap.size os' hl' hry3 (Nat.le_refl _) hnm').mono ?_
  rintro e w4 (⟨rfl, hs4⟩ | ⟨hsh', rfl, hs4⟩)
  · have hS4 := hS3.still hs4
    have he4 := he3.still hs4
    go_wp2_with fail
    refine (edns_awake _ he4).mono ?_
    rintro e wz ⟨rfl, hsz⟩
    go_wp2_with fail
    go_ret
    exact ⟨rfl, hS4.still hsz⟩
  have hS4 := hS3.still hs4
  have he4 := he3.still hs4
  have hrx4 := (hrx3.only hs4 (Nat.le_refl _) (fun _ _ h => h)).more hs4.size
  have hBx4 := hBx3.only hs4 (fun h => h)
  have hry4 := (hry3.only hs4 (Nat.le_refl _) (fun _ _ h => h)).more hs4.size
  have hBy4 := hBy3.only hs4 (fun h => h)
  clear hS3 he3 hrx3 hBx3 hry3 hBy3 hs4
  have hn3 : n ≤ 1000000 := by have := hsh.out.1; omega
  have hn3' : n' ≤ 1000000 := by have := hsh'.out.1; omega
  have hco : codesOk os := fun o ho => ⟨Hcd.out o ho, hsh.out.2 o ho⟩
  have Hco := Lib.hid hco
  clear hco hsh hsh' hnm hnm'
  have hsn := (Still.new w4 (.cells #[.int .u16 cl, .int .u8 x, .int .u8 v, .int .u16 f, .slice A n c] 25)).alloc (.cells #[] 40)
  have hown0 := World.ownsRow_lit (e := 40) (size := 2) (base := w4.heap.size) (w4.alloc (.cells #[.int .u16 cl, .int .u8 x, .int .u8 v, .int .u16 f, .slice A n c] 25)) #[] 0 (by simp) (by unfold maxLen; omega) rfl
  have hz4 : (w4.alloc (.cells #[.int .u16 cl, .int .u8 x, .int .u8 v, .int .u16 f, .slice A n c] 25)).heap.size = w4.heap.size + 1 := by simp
  rw [hz4] at hown0
  have hBi := (Blk.new w4 25 #[.int .u16 cl, .int .u8 x, .int .u8 v, .int .u16 f, .slice A n c]).alloc (.cells #[] 40)
  obtain ⟨x0, x1, x2, x3, x4⟩ := blk5 hBx4
  have hBx5 := hBx4.only hsn (fun h => h)
  have hrx5 := hrx4.only hsn (Nat.le_refl _) (fun _ _ h => h)
  obtain ⟨_, _, _, _, x5⟩ := blk5 hBx5
  have hsz5 : ((w4.alloc (.cells #[.int .u16 cl, .int .u8 x, .int .u8 v, .int .u16 f, .slice A n c] 25)).alloc (.cells #[] 40)).heap.size = w4.heap.size + 2 := by simp
  go_wp2_with (at_builtin; refine wpList_append_any _ rfl (.tmp 34) (.tmp 36) 23 rfl w4.heap.size 40 i0 (.agg #[.int .u16 0, .string ⟨#[]⟩]) 2 24 Tryd.underlying23 hi hz0 hz1 hz2 rfl (by decide) _ _ _ rfl hown0 _ A n c (oRow os) rfl hrx5 ?q1 ?q2 ?q3 ?q4 ?_)
  case q1 => exact oRow_one os
  case q2 => unfold maxLen; omega
  case q3 => omega
  case q4 => omega
  clear x0 x1 x2 x3 x4 x5
  intro v6 w6 hown hgrow hblk
  obtain ⟨Ai, ci, rfl⟩ := own_shape hown
  obtain ⟨w5, hw5⟩ : ∃ w5, w5 = (w4.alloc (.cells #[.int .u16 cl, .int .u8 x, .int .u8 v, .int .u16 f, .slice A n c] 25)).alloc (.cells #[] 40) := ⟨_, rfl⟩
  obtain ⟨Ki, hKi⟩ : ∃ Ki, Ki = w4.heap.size := ⟨_, rfl⟩
  have hKx := hBx4.lt
  have hKy := hBy4.lt
  have hsz4 := hS4.size
  have hre := he4.lt
  rw [← hw5] at hsn hBi hBx5 hrx5 hsz5 hgrow
  rw [← hKi] at hown hown0 hBi hgrow hblk hKx hKy hsz4 hsz5 ⊢
  have hog : Only (fun z => Ki + 1 ≤ z) w5 w6 := (Only.refl _ _).grown hgrow (fun k hk => .inl (by simp [Value.ownBlock] at hk; omega))
  have hBi6 := hBi.only hog (by omega)
  have hBx6 := hBx5.only hog (by omega)
  have hBy6 := (hBy4.only hsn (fun h => h)).only hog (by omega)
  have hrx6 := hrx5.only hog (by omega) (fun k hk h => by have h' : Ki + 1 ≤ k := h; omega)
  have hry6 := (hry4.only hsn (Nat.le_refl _) (fun _ _ h => h)).only hog (by omega) (fun k hk h => by have h' : Ki + 1 ≤ k := h; omega)
  have hS6 := (hS4.still hsn).trans hog (fun i hi h => by have h' : Ki + 1 ≤ i := h; omega)
  have he6 := (he4.still hsn).only hog (fun e => by have e' : Ki + 1 ≤ 0 := e; omega)
  have hne := own_blk_ne hown hBi6 (by decide)
  have hos : Only (· = Ki) w6 (w6.setCell ⟨Ki, 4, none⟩ (.slice Ai n ci)) := (Only.refl (· = Ki) w6).setCell (p := ⟨Ki, 4, none⟩) (.inl rfl) _
  have hown7 := own_only hown hos (fun k hk e => hne (by have e' : k = Ki := e; rw [← e']; exact hk))
  have hBi7 := hBi6.set_ 4 (.slice Ai n ci)
  simp at hBi7
  obtain ⟨i0_, i1_, i2_, i3_, i4_⟩ := blk5 hBi6
  have hfz := hBi6.frozen 4
  have hs6 := hog.size
  have hS7 := hS6.trans hos (fun i hi h => by have h' : i = Ki := h; omega)
  have he7 := he6.only hos (fun e => by have e' : 0 = Ki := e; omega)
  have hrx7 := (hrx6.only hos (by omega) (fun k hk h => by have h' : k = Ki := h; omega)).more (by have := hos.size; omega : w4.heap.size ≤ (w6.setCell ⟨Ki, 4, none⟩ (.slice Ai n ci)).heap.size)
  have hry7 := (hry6.only hos (by omega) (fun k hk h => by have h' : k = Ki := h; omega)).more (by have := hos.size; omega : _ ≤ (w6.setCell ⟨Ki, 4, none⟩ (.slice Ai n ci)).heap.size)
  have hri7 := Reads.of_own hown7
  have hBx7 := hBx6.only hos (fun e => by have e' : K = Ki := e; omega)
  have hBy7 := hBy6.only hos (fun e => by have e' : K + 1 = Ki := e; omega)
  clear hrx6 hry6 hS6 he6 hown hown7 hBx6 hBy6 hos hne
  clear hgrow hblk hown0 hBi hBx4 hBy4 hBx5 hrx5 hry4 hrx4 hS4 he4 hsn hog hw5 hKi hsz5
  go_wp2_with fail
  clear i0_ i1_ i2_ i3_ i4_ hfz hBi6
  obtain ⟨w7, hw7⟩ : ∃ w7, w7 = w6.setCell ⟨Ki, 4, none⟩ (.slice Ai n ci) := ⟨_, rfl⟩
  rw [← hw7] at hS7 he7 hrx7 hry7 hri7 hBx7 hBy7 hBi7 ⊢
  clear hw7
  refine (write_any w7 cl x v f hcl hx hv hf Ai n ci os hl hn3 Hco.out hri7).mono ?_
  intro e w8 hh
  obtain ⟨rfl, hs8⟩ := HW.out _ _ _ hh
  clear hh
  have hS8 := hS7.still hs8
  have he8 := he7.still hs8
  have hrx8 := (hrx7.only hs8 (Nat.le_refl _) (fun _ _ h => h)).more hs8.size
  have hBx8 := hBx7.only hs8 (fun h => h)
  have hry8 := (hry7.only hs8 (Nat.le_refl _) (fun _ _ h => h)).more hs8.size
  have hBy8 := hBy7.only hs8 (fun h => h)
  have hri8 := (hri7.only hs8 (Nat.le_refl _) (fun _ _ h => h)).more hs8.size
  have hBi8 := hBi7.only hs8 (fun h => h)
  clear hS7 he7 hrx7 hBx7 hry7 hBy7 hri7 hBi7 hs8
  obtain ⟨x0, x1, x2, x3, x4⟩ := blk5 hBx8
  go_wp2_with fail
  clear x0 x1 x2 x3 x4
  refine (rwrite_any w8 cl x v f hcl hx hv hf A n c os hl hn3 Hco.out hrx8).mono ?_
  intro e w9 hh
  obtain ⟨rfl, hs9⟩ := HW.out _ _ _ hh
  clear hh
  have hS9 := hS8.still hs9
  have he9 := he8.still hs9
  have hrx9 := (hrx8.only hs9 (Nat.le_refl _) (fun _ _ h => h)).more hs9.size
  have hBx9 := hBx8.only hs9 (fun h => h)
  have hry9 := (hry8.only hs9 (Nat.le_refl _) (fun _ _ h => h)).more hs9.size
  have hBy9 := hBy8.only hs9 (fun h => h)
  have hri9 := (hri8.only hs9 (Nat.le_refl _) (fun _ _ h => h)).more hs9.size
  have hBi9 := hBi8.only hs9 (fun h => h)
  clear hS8 he8 hrx8 hBx8 hry8 hBy8 hri8 hBi8 hs9
  go_wp2_with fail
  refine (HS1.out _).mono ?_
  rintro e wx ⟨rfl, rfl⟩
  go_wp2_with fail
  refine (HS2.out _).mono ?_
  rintro e wx ⟨rfl, rfl⟩
  go_wp2_with fail
  have hs10 : Still w9 w9.drew := (Only.refl _ _).drew
  obtain ⟨w10, hw10⟩ : ∃ w10, w10 = w9.drew := ⟨_, rfl⟩
  refine wp_region_held_drew (S := fun w' => Still w9.drew w') (by kernel_rfl) (Only.refl _ _) (fun hS => ?_)
  rw [← hw10] at hs10 hS ⊢
  clear hw10
  have hS10 := hS9.still hs10
  have he10 := he9.still hs10
  have hrx10 := (hrx9.only hs10 (Nat.le_refl _) (fun _ _ h => h)).more hs10.size
  have hBx10 := hBx9.only hs10 (fun h => h)
  have hry10 := (hry9.only hs10 (Nat.le_refl _) (fun _ _ h => h)).more hs10.size
  have hBy10 := hBy9.only hs10 (fun h => h)
  have hri10 := (hri9.only hs10 (Nat.le_refl _) (fun _ _ h => h)).more hs10.size
  have hBi10 := hBi9.only hs10 (fun h => h)
  clear hS9 he9 hrx9 hBx9 hry9 hBy9 hri9 hBi9 hs10
  (refine take_p (i := 0) (v := ?_) rfl (by kernel_rfl) (by kernel_rfl) (by kernel_rfl) (fun _ _ _ h => h) (Or.inl ⟨by rfl, ?_⟩) hS ?_; rotate_left; (focus (intro w0 hSw; go_simp; try with_reducible rfl)); try simp only [Act.put, List.setIfInBounds_toArray, List.set_cons_zero, List.set_cons_succ])
  (refine take_p (i := 1) (v := ?_) rfl (by kernel_rfl) (by kernel_rfl) (by kernel_rfl) (fun _ _ _ h => h) (Or.inl ⟨by rfl, ?_⟩) hS ?_; rotate_left; (focus (intro w0 hSw; go_simp; try with_reducible rfl)); try simp only [Act.put, List.setIfInBounds_toArray, List.set_cons_zero, List.set_cons_succ])
  (refine take_p (i := 2) (v := ?_) rfl (by kernel_rfl) (by kernel_rfl) (by kernel_rfl) (fun _ _ _ h => h) (Or.inl ⟨by rfl, ?_⟩) hS ?_; rotate_left; (focus (intro w0 hSw; go_simp; try with_reducible rfl)); try simp only [Act.put, List.setIfInBounds_toArray, List.set_cons_zero, List.set_cons_succ])
  (refine take_p (i := 3) (v := ?_) rfl (by kernel_rfl) (by kernel_rfl) (by kernel_rfl) (fun _ _ _ h => h) (Or.inl ⟨by rfl, ?_⟩) hS ?_; rotate_left; (focus (intro w0 hSw; go_simp; try with_reducible rfl)); try simp only [Act.put, List.setIfInBounds_toArray, List.set_cons_zero, List.set_cons_succ])
  (refine take_p (i := 4) (v := ?_) rfl (by kernel_rfl) (by kernel_rfl) (by kernel_rfl) (fun _ _ _ h => h) (Or.inl ⟨by rfl, ?_⟩) hS ?_; rotate_left; (focus (intro w0 hSw; go_simp; try with_reducible rfl)); try simp only [Act.put, List.setIfInBounds_toArray, List.set_cons_zero, List.set_cons_succ])
  (refine take_p (i := 5) (v := ?_) rfl (by kernel_rfl) (by kernel_rfl) (by kernel_rfl) (fun _ _ _ h => h) (Or.inl ⟨by rfl, ?_⟩) hS ?_; rotate_left; (focus (intro w0 hSw; go_simp; try with_reducible rfl)); try simp only [Act.put, List.setIfInBounds_toArray, List.set_cons_zero, List.set_cons_succ])
  (refine take_p (i := 6) (v := ?_) rfl (by kernel_rfl) (by kernel_rfl) (by kernel_rfl) (fun _ _ _ h => h) (Or.inl ⟨by rfl, ?_⟩) hS ?_; rotate_left; (focus (intro w0 hSw; go_simp; try with_reducible rfl)); try simp only [Act.put, List.setIfInBounds_toArray, List.set_cons_zero, List.set_cons_succ])
  (refine take_p (i := 7) (v := ?_) rfl (by kernel_rfl) (by kernel_rfl) (by kernel_rfl) (fun _ _ _ h => h) (Or.inl ⟨by rfl, ?_⟩) hS ?_; rotate_left; (focus (intro w0 hSw; go_simp; try with_reducible rfl)); try simp only [Act.put, List.setIfInBounds_toArray, List.set_cons_zero, List.set_cons_succ])
  (refine take_p (i := 8) (v := ?_) rfl (by kernel_rfl) (by kernel_rfl) (by kernel_rfl) (fun _ _ _ h => h) (Or.inl ⟨by rfl, ?_⟩) hS ?_; rotate_left; (focus (intro w0 hSw; go_simp; try with_reducible rfl)); try simp only [Act.put, List.setIfInBounds_toArray, List.set_cons_zero, List.set_cons_succ])
  (refine take_p (i := 9) (v := ?_) rfl (by kernel_rfl) (by kernel_rfl) (by kernel_rfl) (fun _ _ _ h => h) (Or.inl ⟨by rfl, ?_⟩) hS ?_; rotate_left; (focus (intro w0 hSw; go_simp; try with_reducible rfl)); try simp only [Act.put, List.setIfInBounds_toArray, List.set_cons_zero, List.set_cons_succ])
  (refine take_p (i := 10) (v := ?_) rfl (by kernel_rfl) (by kernel_rfl) (by kernel_rfl) (fun _ _ _ h => h) (Or.inl ⟨by rfl, ?_⟩) hS ?_; rotate_left; (focus (intro w0 hSw; go_simp; try with_reducible rfl)); try simp only [Act.put, List.setIfInBounds_toArray, List.set_cons_zero, List.set_cons_succ])
  (refine take_p (i := 11) (v := ?_) rfl (by kernel_rfl) (by kernel_rfl) (by kernel_rfl) (fun _ _ _ h => h) (Or.inl ⟨by rfl, ?_⟩) hS ?_; rotate_left; (focus (intro w0 hSw; go_simp; try with_reducible rfl)); try simp only [Act.put, List.setIfInBounds_toArray, List.set_cons_zero, List.set_cons_succ])
  (refine take_p (i := 12) (v := ?_) rfl (by kernel_rfl) (by kernel_rfl) (by kernel_rfl) (fun _ _ _ h => h) (Or.inl ⟨by rfl, ?_⟩) hS ?_; rotate_left; (focus (intro w0 hSw; go_simp; try with_reducible rfl)); try simp only [Act.put, List.setIfInBounds_toArray, List.set_cons_zero, List.set_cons_succ])
  (refine take_p (i := 13) (v := ?_) rfl (by kernel_rfl) (by kernel_rfl) (by kernel_rfl) (fun _ _ _ h => h) (Or.inl ⟨by rfl, ?_⟩) hS ?_; rotate_left; (focus (intro w0 hSw; go_simp; try with_reducible rfl)); try simp only [Act.put, List.setIfInBounds_toArray, List.set_cons_zero, List.set_cons_succ])
  (refine take_p (i := 14) (v := ?_) rfl (by kernel_rfl) (by kernel_rfl) (by kernel_rfl) (fun _ _ _ h => h) (Or.inl ⟨by rfl, ?_⟩) hS ?_; rotate_left; (focus (intro w0 hSw; go_simp; try with_reducible rfl)); try simp only [Act.put, List.setIfInBounds_toArray, List.set_cons_zero, List.set_cons_succ])
  (refine take_p (i := 15) (v := ?_) rfl (by kernel_rfl) (by kernel_rfl) (by kernel_rfl) (fun _ _ _ h => h) (Or.inl ⟨by rfl, ?_⟩) hS ?_; rotate_left; (focus (intro w0 hSw; go_simp; try with_reducible rfl)); try simp only [Act.put, List.setIfInBounds_toArray, List.set_cons_zero, List.set_cons_succ])
  (refine take_p (i := 16) (v := ?_) rfl (by kernel_rfl) (by kernel_rfl) (by kernel_rfl) (fun _ _ _ h => h) (Or.inl ⟨by rfl, ?_⟩) hS ?_; rotate_left; (focus (intro w0 hSw; go_simp; try with_reducible rfl)); try simp only [Act.put, List.setIfInBounds_toArray, List.set_cons_zero, List.set_cons_succ])
  (refine take_p (i := 17) (v := ?_) rfl (by kernel_rfl) (by kernel_rfl) (by kernel_rfl) (fun _ _ _ h => h) (Or.inl ⟨by rfl, ?_⟩) hS ?_; rotate_left; (focus (intro w0 hSw; go_simp; try with_reducible rfl)); try simp only [Act.put, List.setIfInBounds_toArray, List.set_cons_zero, List.set_cons_succ])
  (refine take_p (i := 18) (v := ?_) rfl (by kernel_rfl) (by kernel_rfl) (by kernel_rfl) (fun _ _ _ h => h) (Or.inl ⟨by rfl, ?_⟩) hS ?_; rotate_left; (focus (intro w0 hSw; go_simp; try with_reducible rfl)); try simp only [Act.put, List.setIfInBounds_toArray, List.set_cons_zero, List.set_cons_succ])
  refine take_p (i := 19) (v := .agg ([.int .u16 cl, .int .u8 x, .int .u8 v, .int .u16 f, .slice Ai n ci] : List Value).toArray) rfl (by kernel_rfl) (by kernel_rfl) (by kernel_rfl) (fun _ _ _ h => h) ?_ hS ?_
  · exact yieldsIf_load_at rfl 25 (.tmp 11) rfl Ki 0 rfl [.int .u16 cl, .int .u8 x, .int .u8 v, .int .u16 f, .slice Ai n ci] _ (fun _ hSw j v hv => blk_cells (hBi10.only hSw (fun h => h)) j v hv) Tryd.underlying25 rfl (by kernel_rfl)
  try simp only [Act.put, List.setIfInBounds_toArray, List.set_cons_zero, List.set_cons_succ]
  refine take_p (i := 20) (v := .agg ([.int .u16 cl', .int .u8 x', .int .u8 v', .int .u16 f', .slice A' n' c'] : List Value).toArray) rfl (by kernel_rfl) (by kernel_rfl) (by kernel_rfl) (fun _ _ _ h => h) ?_ hS ?_
  · exact yieldsIf_load_at rfl 25 (.tmp 6) rfl (K + 1) 0 rfl [.int .u16 cl', .int .u8 x', .int .u8 v', .int .u16 f', .slice A' n' c'] _ (fun _ hSw j v hv => blk_cells (hBy10.only hSw (fun h => h)) j v hv) Tryd.underlying25 rfl (by kernel_rfl)
  try simp only [Act.put, List.setIfInBounds_toArray, List.set_cons_zero, List.set_cons_succ]
  refine take_p (i := 22) (v := .agg ([.int .u16 cl, .int .u8 x, .int .u8 v, .int .u16 f, .slice A n c] : List Value).toArray) rfl (by kernel_rfl) (by kernel_rfl) (by kernel_rfl) (fun _ _ _ h => h) ?_ hS ?_
  · exact yieldsIf_load_at rfl 25 (.tmp 5) rfl K 0 rfl [.int .u16 cl, .int .u8 x, .int .u8 v, .int .u16 f, .slice A n c] _ (fun _ hSw j v hv => blk_cells (hBx10.only hSw (fun h => h)) j v hv) Tryd.underlying25 rfl (by kernel_rfl)
  try simp only [Act.put, List.setIfInBounds_toArray, List.set_cons_zero, List.set_cons_succ]
  refine take_p (i := 23) (v := .agg ([.int .u16 cl', .int .u8 x', .int .u8 v', .int .u16 f', .slice A' n' c'] : List Value).toArray) rfl (by kernel_rfl) (by kernel_rfl) (by kernel_rfl) (fun _ _ _ h => h) ?_ hS ?_
  · exact yieldsIf_load_at rfl 25 (.tmp 6) rfl (K + 1) 0 rfl [.int .u16 cl', .int .u8 x', .int .u8 v', .int .u16 f', .slice A' n' c'] _ (fun _ hSw j v hv => blk_cells (hBy10.only hSw (fun h => h)) j v hv) Tryd.underlying25 rfl (by kernel_rfl)
  try simp only [Act.put, List.setIfInBounds_toArray, List.set_cons_zero, List.set_cons_succ]
  refine wpAnyH_ready (rs := [21]) (by kernel_rfl) (by simp) ?_
  refine cons_p rfl (fun K_ hK => ?_) AllReadyH.nil
  go_simp
  refine (same_any w10 cl x v f cl' x' v' f' Ai A' n ci n' c' w10.heap.size w10.heap.size os os' hl hl' hri10 hry10 (Nat.le_refl _) (Nat.le_refl _) hn3 hn3').mono ?_
  rintro e w11 ⟨hev, hs11⟩
  obtain rfl : e = .returned (.bool bb) := hev.trans (ret_bool HBB.out.symm)
  clear hev
  refine hK.out _ _ hs11 (fun hHeld => ?_)
  clear hK K_ hHeld
  try simp only [Act.put, List.setIfInBounds_toArray, List.set_cons_zero, List.set_cons_succ]
  refine held_mono (S' := fun w' => Still w11 w') (fun _ h => hs11.still h) ?_
  replace hS : (fun w' : World => Still w11 w') w11 := Only.refl _ _
  have hS11 := hS10.still hs11
  have he11 := he10.still hs11
  have hrx11 := (hrx10.only hs11 (Nat.le_refl _) (fun _ _ h => h)).more hs11.size
  have hBx11 := hBx10.only hs11 (fun h => h)
  have hry11 := (hry10.only hs11 (Nat.le_refl _) (fun _ _ h => h)).more hs11.size
  have hBy11 := hBy10.only hs11 (fun h => h)
  have hri11 := (hri10.only hs11 (Nat.le_refl _) (fun _ _ h => h)).more hs11.size
  have hBi11 := hBi10.only hs11 (fun h => h)
  clear hS10 he10 hrx10 hBx10 hry10 hBy10 hri10 hBi10 hs11
  refine wpAnyH_ready (rs := [24]) (by kernel_rfl) (by simp) ?_
  refine cons_p rfl (fun K_ hK => ?_) AllReadyH.nil
  go_simp
  refine (rsame_any w11 cl x v f cl' x' v' f' A A' n c n' c' w11.heap.size w11.heap.size os os' hl hl' hrx11 hry11 (Nat.le_refl _) (Nat.le_refl _) hn3 hn3').mono ?_
  rintro e w12 ⟨hev, hs12⟩
  obtain rfl : e = .returned (.bool bb) := hev.trans (ret_bool HBB.out.symm)
  clear hev
  refine hK.out _ _ hs12 (fun hHeld => ?_)
  clear hK K_ hHeld
  try simp only [Act.put, List.setIfInBounds_toArray, List.set_cons_zero, List.set_cons_succ]
  refine held_mono (S' := fun w' => Still w12 w') (fun _ h => hs12.still h) ?_
  replace hS : (fun w' : World => Still w12 w') w12 := Only.refl _ _
  have hS12 := hS11.still hs12
  have he12 := he11.still hs12
  have hrx12 := (hrx11.only hs12 (Nat.le_refl _) (fun _ _ h => h)).more hs12.size
  have hBx12 := hBx11.only hs12 (fun h => h)
  have hry12 := (hry11.only hs12 (Nat.le_refl _) (fun _ _ h => h)).more hs12.size
  have hBy12 := hBy11.only hs12 (fun h => h)
  have hri12 := (hri11.only hs12 (Nat.le_refl _) (fun _ _ h => h)).more hs12.size
  have hBi12 := hBi11.only hs12 (fun h => h)
  clear hS11 he11 hrx11 hBx11 hry11 hBy11 hri11 hBi11 hs12
  (refine take_p (i := 25) (v := ?_) rfl (by kernel_rfl) (by kernel_rfl) (by kernel_rfl) (fun _ _ _ h => h) (Or.inl ⟨by rfl, ?_⟩) hS ?_; rotate_left; (focus (intro w0 hSw; go_simp; try with_reducible rfl)); try simp only [Act.put, List.setIfInBounds_toArray, List.set_cons_zero, List.set_cons_succ])
  (refine take_p (i := 26) (v := ?_) rfl (by kernel_rfl) (by kernel_rfl) (by kernel_rfl) (fun _ _ _ h => h) (Or.inl ⟨by rfl, ?_⟩) hS ?_; rotate_left; (focus (intro w0 hSw; go_simp; try with_reducible rfl)); try simp only [Act.put, List.setIfInBounds_toArray, List.set_cons_zero, List.set_cons_succ])
  (refine take_p (i := 27) (v := ?_) rfl (by kernel_rfl) (by kernel_rfl) (by kernel_rfl) (fun _ _ _ h => h) (Or.inl ⟨by rfl, ?_⟩) hS ?_; rotate_left; (focus (intro w0 hSw; go_simp; try with_reducible rfl)); try simp only [Act.put, List.setIfInBounds_toArray, List.set_cons_zero, List.set_cons_succ])
  refine take_p (i := 28) (v := .agg ([.int .u16 cl, .int .u8 x, .int .u8 v, .int .u16 f, .slice Ai n ci] : List Value).toArray) rfl (by kernel_rfl) (by kernel_rfl) (by kernel_rfl) (fun _ _ _ h => h) ?_ hS ?_
  · exact yieldsIf_load_at rfl 25 (.tmp 11) rfl Ki 0 rfl [.int .u16 cl, .int .u8 x, .int .u8 v, .int .u16 f, .slice Ai n ci] _ (fun _ hSw j v hv => blk_cells (hBi12.only hSw (fun h => h)) j v hv) Tryd.underlying25 rfl (by kernel_rfl)
  try simp only [Act.put, List.setIfInBounds_toArray, List.set_cons_zero, List.set_cons_succ]
  refine take_p (i := 29) (v := .agg ([.int .u16 cl, .int .u8 x, .int .u8 v, .int .u16 f, .slice A n c] : List Value).toArray) rfl (by kernel_rfl) (by kernel_rfl) (by kernel_rfl) (fun _ _ _ h => h) ?_ hS ?_
  · exact yieldsIf_load_at rfl 25 (.tmp 5) rfl K 0 rfl [.int .u16 cl, .int .u8 x, .int .u8 v, .int .u16 f, .slice A n c] _ (fun _ hSw j v hv => blk_cells (hBx12.only hSw (fun h => h)) j v hv) Tryd.underlying25 rfl (by kernel_rfl)
  try simp only [Act.put, List.setIfInBounds_toArray, List.set_cons_zero, List.set_cons_succ]
  refine wpAnyH_ready (rs := [30]) (by kernel_rfl) (by simp) ?_
  refine cons_p rfl (fun K_ hK => ?_) AllReadyH.nil
  go_simp
  refine (same_any w12 cl x v f cl x v f Ai A n ci n c w12.heap.size w12.heap.size os os hl hl hri12 hrx12 (Nat.le_refl _) (Nat.le_refl _) hn3 hn3).mono ?_
  rintro e w13 ⟨hev, hs13⟩
  obtain rfl : e = .returned (.bool true) := hev.trans (ret_bool (decide_eq_true ⟨rfl, rfl, rfl, rfl, rfl⟩))
  clear hev
  refine hK.out _ _ hs13 (fun hHeld => ?_)
  clear hK K_ hHeld
  try simp only [Act.put, List.setIfInBounds_toArray, List.set_cons_zero, List.set_cons_succ]
  refine held_mono (S' := fun w' => Still w13 w') (fun _ h => hs13.still h) ?_
  replace hS : (fun w' : World => Still w13 w') w13 := Only.refl _ _
  have hS13 := hS12.still hs13
  have he13 := he12.still hs13
  have hrx13 := (hrx12.only hs13 (Nat.le_refl _) (fun _ _ h => h)).more hs13.size
  have hBx13 := hBx12.only hs13 (fun h => h)
  have hry13 := (hry12.only hs13 (Nat.le_refl _) (fun _ _ h => h)).more hs13.size
  have hBy13 := hBy12.only hs13 (fun h => h)
  have hri13 := (hri12.only hs13 (Nat.le_refl _) (fun _ _ h => h)).more hs13.size
  have hBi13 := hBi12.only hs13 (fun h => h)
  clear hS12 he12 hrx12 hBx12 hry12 hBy12 hri12 hBi12 hs13
  (refine take_p (i := 31) (v := ?_) rfl (by kernel_rfl) (by kernel_rfl) (by kernel_rfl) (fun _ _ _ h => h) (Or.inl ⟨by rfl, ?_⟩) hS ?_; rotate_left; (focus (intro w0 hSw; go_simp; try with_reducible rfl)); try simp only [Act.put, List.setIfInBounds_toArray, List.set_cons_zero, List.set_cons_succ])
  (refine take_p (i := 32) (v := ?_) rfl (by kernel_rfl) (by kernel_rfl) (by kernel_rfl) (fun _ _ _ h => h) (Or.inl ⟨by rfl, ?_⟩) hS ?_; rotate_left; (focus (intro w0 hSw; go_simp; try with_reducible rfl)); try simp only [Act.put, List.setIfInBounds_toArray, List.set_cons_zero, List.set_cons_succ])
  refine take_p (i := 33) (v := .agg ([.int .u16 cl, .int .u8 x, .int .u8 v, .int .u16 f, .slice Ai n ci] : List Value).toArray) rfl (by kernel_rfl) (by kernel_rfl) (by kernel_rfl) (fun _ _ _ h => h) ?_ hS ?_
  · exact yieldsIf_load_at rfl 25 (.tmp 11) rfl Ki 0 rfl [.int .u16 cl, .int .u8 x, .int .u8 v, .int .u16 f, .slice Ai n ci] _ (fun _ hSw j v hv => blk_cells (hBi13.only hSw (fun h => h)) j v hv) Tryd.underlying25 rfl (by kernel_rfl)
  try simp only [Act.put, List.setIfInBounds_toArray, List.set_cons_zero, List.set_cons_succ]
  refine take_p (i := 34) (v := .agg ([.int .u16 cl, .int .u8 x, .int .u8 v, .int .u16 f, .slice A n c] : List Value).toArray) rfl (by kernel_rfl) (by kernel_rfl) (by kernel_rfl) (fun _ _ _ h => h) ?_ hS ?_
  · exact yieldsIf_load_at rfl 25 (.tmp 5) rfl K 0 rfl [.int .u16 cl, .int .u8 x, .int .u8 v, .int .u16 f, .slice A n c] _ (fun _ hSw j v hv => blk_cells (hBx13.only hSw (fun h => h)) j v hv) Tryd.underlying25 rfl (by kernel_rfl)
  try simp only [Act.put, List.setIfInBounds_toArray, List.set_cons_zero, List.set_cons_succ]
  refine wpAnyH_ready (rs := [35]) (by kernel_rfl) (by simp) ?_
  refine cons_p rfl (fun K_ hK => ?_) AllReadyH.nil
  go_simp
  refine (rsame_any w13 cl x v f cl x v f Ai A n ci n c w13.heap.size w13.heap.size os os hl hl hri13 hrx13 (Nat.le_refl _) (Nat.le_refl _) hn3 hn3).mono ?_
  rintro e w14 ⟨hev, hs14⟩
  obtain rfl : e = .returned (.bool true) := hev.trans (ret_bool (decide_eq_true ⟨rfl, rfl, rfl, rfl, rfl⟩))
  clear hev
  refine hK.out _ _ hs14 (fun hHeld => ?_)
  clear hK K_ hHeld
  try simp only [Act.put, List.setIfInBounds_toArray, List.set_cons_zero, List.set_cons_succ]
  refine held_mono (S' := fun w' => Still w14 w') (fun _ h => hs14.still h) ?_
  replace hS : (fun w' : World => Still w14 w') w14 := Only.refl _ _
  have hS14 := hS13.still hs14
  have he14 := he13.still hs14
  have hrx14 := (hrx13.only hs14 (Nat.le_refl _) (fun _ _ h => h)).more hs14.size
  have hBx14 := hBx13.only hs14 (fun h => h)
  have hry14 := (hry13.only hs14 (Nat.le_refl _) (fun _ _ h => h)).more hs14.size
  have hBy14 := hBy13.only hs14 (fun h => h)
  have hri14 := (hri13.only hs14 (Nat.le_refl _) (fun _ _ h => h)).more hs14.size
  have hBi14 := hBi13.only hs14 (fun h => h)
  clear hS13 he13 hrx13 hBx13 hry13 hBy13 hri13 hBi13 hs14
  (refine take_p (i := 36) (v := ?_) rfl (by kernel_rfl) (by kernel_rfl) (by kernel_rfl) (fun _ _ _ h => h) (Or.inl ⟨by rfl, ?_⟩) hS ?_; rotate_left; (focus (intro w0 hSw; go_simp; try with_reducible rfl)); try simp only [Act.put, List.setIfInBounds_toArray, List.set_cons_zero, List.set_cons_succ])
  (refine take_p (i := 37) (v := ?_) rfl (by kernel_rfl) (by kernel_rfl) (by kernel_rfl) (fun _ _ _ h => h) (Or.inl ⟨by rfl, ?_⟩) hS ?_; rotate_left; (focus (intro w0 hSw; go_simp; try with_reducible rfl)); try simp only [Act.put, List.setIfInBounds_toArray, List.set_cons_zero, List.set_cons_succ])
  (refine take_p (i := 38) (v := ?_) rfl (by kernel_rfl) (by kernel_rfl) (by kernel_rfl) (fun _ _ _ h => h) (Or.inl ⟨by rfl, ?_⟩) hS ?_; rotate_left; (focus (intro w0 hSw; go_simp; try with_reducible rfl)); try simp only [Act.put, List.setIfInBounds_toArray, List.set_cons_zero, List.set_cons_succ])
  (refine take_p (i := 39) (v := ?_) rfl (by kernel_rfl) (by kernel_rfl) (by kernel_rfl) (fun _ _ _ h => h) (Or.inl ⟨by rfl, ?_⟩) hS ?_; rotate_left; (focus (intro w0 hSw; go_simp; try with_reducible rfl)); try simp only [Act.put, List.setIfInBounds_toArray, List.set_cons_zero, List.set_cons_succ])
  (refine take_p (i := 41) (v := ?_) rfl (by kernel_rfl) (by kernel_rfl) (by kernel_rfl) (fun _ _ _ h => h) (Or.inl ⟨by rfl, ?_⟩) hS ?_; rotate_left; (focus (intro w0 hSw; go_simp; try with_reducible rfl)); try simp only [Act.put, List.setIfInBounds_toArray, List.set_cons_zero, List.set_cons_succ])
  (refine take_p (i := 42) (v := ?_) rfl (by kernel_rfl) (by kernel_rfl) (by kernel_rfl) (fun _ _ _ h => h) (Or.inl ⟨by rfl, ?_⟩) hS ?_; rotate_left; (focus (intro w0 hSw; go_simp; try with_reducible rfl)); try simp only [Act.put, List.setIfInBounds_toArray, List.set_cons_zero, List.set_cons_succ])
  refine wpAnyH_ready (rs := [40]) (by kernel_rfl) (by simp) ?_
  refine cons_p rfl (fun K_ hK => ?_) AllReadyH.nil
  go_simp
  refine (code_any co ex hco8 hex8 w14).mono ?_
  rintro e wx ⟨rfl, rfl⟩
  refine hK.out _ _ hS (fun hHeld => ?_)
  clear hK K_ hHeld
  try simp only [Act.put, List.setIfInBounds_toArray, List.set_cons_zero, List.set_cons_succ]
  refine wpAnyH_ready (rs := [43]) (by kernel_rfl) (by simp) ?_
  refine cons_p rfl (fun K_ hK => ?_) AllReadyH.nil
  go_simp
  refine (rcode_any co ex hco8 hex8 w14).mono ?_
  rintro e wx ⟨rfl, rfl⟩
  refine hK.out _ _ hS (fun hHeld => ?_)
  clear hK K_ hHeld
  try simp only [Act.put, List.setIfInBounds_toArray, List.set_cons_zero, List.set_cons_succ]
  (refine take_p (i := 44) (v := ?_) rfl (by kernel_rfl) (by kernel_rfl) (by kernel_rfl) (fun _ _ _ h => h) (Or.inl ⟨by rfl, ?_⟩) hS ?_; rotate_left; (focus (intro w0 hSw; go_simp; try with_reducible rfl)); try simp only [Act.put, List.setIfInBounds_toArray, List.set_cons_zero, List.set_cons_succ])
  (refine take_p (i := 45) (v := ?_) rfl (by kernel_rfl) (by kernel_rfl) (by kernel_rfl) (fun _ _ _ h => h) (Or.inl ⟨by rfl, ?_⟩) hS ?_; rotate_left; (focus (intro w0 hSw; go_simp; try with_reducible rfl)); try simp only [Act.put, List.setIfInBounds_toArray, List.set_cons_zero, List.set_cons_succ])
  (refine take_p (i := 46) (v := ?_) rfl (by kernel_rfl) (by kernel_rfl) (by kernel_rfl) (fun _ _ _ h => h) (Or.inl ⟨by rfl, ?_⟩) hS ?_; rotate_left; (focus (intro w0 hSw; go_simp; try with_reducible rfl)); try simp only [Act.put, List.setIfInBounds_toArray, List.set_cons_zero, List.set_cons_succ])
  (refine take_p (i := 47) (v := ?_) rfl (by kernel_rfl) (by kernel_rfl) (by kernel_rfl) (fun _ _ _ h => h) (Or.inl ⟨by rfl, ?_⟩) hS ?_; rotate_left; (focus (intro w0 hSw; go_simp; try with_reducible rfl)); try simp only [Act.put, List.setIfInBounds_toArray, List.set_cons_zero, List.set_cons_succ])
  (refine take_p (i := 48) (v := ?_) rfl (by kernel_rfl) (by kernel_rfl) (by kernel_rfl) (fun _ _ _ h => h) (Or.inl ⟨by rfl, ?_⟩) hS ?_; rotate_left; (focus (intro w0 hSw; go_simp; try with_reducible rfl)); try simp only [Act.put, List.setIfInBounds_toArray, List.set_cons_zero, List.set_cons_succ])
  (refine take_p (i := 49) (v := ?_) rfl (by kernel_rfl) (by kernel_rfl) (by kernel_rfl) (fun _ _ _ h => h) (Or.inl ⟨by rfl, ?_⟩) hS ?_; rotate_left; (focus (intro w0 hSw; go_simp; try with_reducible rfl)); try simp only [Act.put, List.setIfInBounds_toArray, List.set_cons_zero, List.set_cons_succ])
  (refine take_p (i := 50) (v := ?_) rfl (by kernel_rfl) (by kernel_rfl) (by kernel_rfl) (fun _ _ _ h => h) (Or.inl ⟨by rfl, ?_⟩) hS ?_; rotate_left; (focus (intro w0 hSw; go_simp; try with_reducible rfl)); try simp only [Act.put, List.setIfInBounds_toArray, List.set_cons_zero, List.set_cons_succ])
  (refine take_p (i := 51) (v := ?_) rfl (by kernel_rfl) (by kernel_rfl) (by kernel_rfl) (fun _ _ _ h => h) (Or.inl ⟨by rfl, ?_⟩) hS ?_; rotate_left; (focus (intro w0 hSw; go_simp; try with_reducible rfl)); try simp only [Act.put, List.setIfInBounds_toArray, List.set_cons_zero, List.set_cons_succ])
  (refine take_p (i := 52) (v := ?_) rfl (by kernel_rfl) (by kernel_rfl) (by kernel_rfl) (fun _ _ _ h => h) (Or.inl ⟨by rfl, ?_⟩) hS ?_; rotate_left; (focus (intro w0 hSw; go_simp; try with_reducible rfl)); try simp only [Act.put, List.setIfInBounds_toArray, List.set_cons_zero, List.set_cons_succ])
  (refine take_p (i := 53) (v := ?_) rfl (by kernel_rfl) (by kernel_rfl) (by kernel_rfl) (fun _ _ _ h => h) (Or.inl ⟨by rfl, ?_⟩) hS ?_; rotate_left; (focus (intro w0 hSw; go_simp; try with_reducible rfl)); try simp only [Act.put, List.setIfInBounds_toArray, List.set_cons_zero, List.set_cons_succ])
  (refine take_p (i := 54) (v := ?_) rfl (by kernel_rfl) (by kernel_rfl) (by kernel_rfl) (fun _ _ _ h => h) (Or.inl ⟨by rfl, ?_⟩) hS ?_; rotate_left; (focus (intro w0 hSw; go_simp; try with_reducible rfl)); try simp only [Act.put, List.setIfInBounds_toArray, List.set_cons_zero, List.set_cons_succ])
  (refine take_p (i := 55) (v := ?_) rfl (by kernel_rfl) (by kernel_rfl) (by kernel_rfl) (fun _ _ _ h => h) (Or.inl ⟨by rfl, ?_⟩) hS ?_; rotate_left; (focus (intro w0 hSw; go_simp; try with_reducible rfl)); try simp only [Act.put, List.setIfInBounds_toArray, List.set_cons_zero, List.set_cons_succ])
  (refine take_p (i := 56) (v := ?_) rfl (by kernel_rfl) (by kernel_rfl) (by kernel_rfl) (fun _ _ _ h => h) (Or.inl ⟨by rfl, ?_⟩) hS ?_; rotate_left; (focus (intro w0 hSw; go_simp; try with_reducible rfl)); try simp only [Act.put, List.setIfInBounds_toArray, List.set_cons_zero, List.set_cons_succ])
  (refine take_p (i := 57) (v := ?_) rfl (by kernel_rfl) (by kernel_rfl) (by kernel_rfl) (fun _ _ _ h => h) (Or.inl ⟨by rfl, ?_⟩) hS ?_; rotate_left; (focus (intro w0 hSw; go_simp; try with_reducible rfl)); try simp only [Act.put, List.setIfInBounds_toArray, List.set_cons_zero, List.set_cons_succ])
  (refine take_p (i := 58) (v := ?_) rfl (by kernel_rfl) (by kernel_rfl) (by kernel_rfl) (fun _ _ _ h => h) (Or.inl ⟨by rfl, ?_⟩) hS ?_; rotate_left; (focus (intro w0 hSw; go_simp; try with_reducible rfl)); try simp only [Act.put, List.setIfInBounds_toArray, List.set_cons_zero, List.set_cons_succ])
  (refine take_p (i := 59) (v := ?_) rfl (by kernel_rfl) (by kernel_rfl) (by kernel_rfl) (fun _ _ _ h => h) (Or.inl ⟨by rfl, ?_⟩) hS ?_; rotate_left; (focus (intro w0 hSw; go_simp; try with_reducible rfl)); try simp only [Act.put, List.setIfInBounds_toArray, List.set_cons_zero, List.set_cons_succ])
  (refine take_p (i := 60) (v := ?_) rfl (by kernel_rfl) (by kernel_rfl) (by kernel_rfl) (fun _ _ _ h => h) (Or.inl ⟨by rfl, ?_⟩) hS ?_; rotate_left; (focus (intro w0 hSw; go_simp; try with_reducible rfl)); try simp only [Act.put, List.setIfInBounds_toArray, List.set_cons_zero, List.set_cons_succ])
  (refine take_p (i := 61) (v := ?_) rfl (by kernel_rfl) (by kernel_rfl) (by kernel_rfl) (fun _ _ _ h => h) (Or.inl ⟨by rfl, ?_⟩) hS ?_; rotate_left; (focus (intro w0 hSw; go_simp; try with_reducible rfl)); try simp only [Act.put, List.setIfInBounds_toArray, List.set_cons_zero, List.set_cons_succ])
  refine wpAnyH_ready (rs := [62]) (by kernel_rfl) (by simp) ?_
  refine cons_p rfl (fun K_ hK => ?_) AllReadyH.nil
  go_simp
  refine (edns_awake w14 he14).mono ?_
  rintro e w15 ⟨rfl, hs15⟩
  refine hK.out _ _ hs15 (fun hHeld => ?_)
  clear hK K_ hHeld
  try simp only [Act.put, List.setIfInBounds_toArray, List.set_cons_zero, List.set_cons_succ]
  refine held_mono (S' := fun w' => Still w15 w') (fun _ h => hs15.still h) ?_
  replace hS : (fun w' : World => Still w15 w') w15 := Only.refl _ _
  have hS15 := hS14.still hs15
  have he15 := he14.still hs15
  clear hS14 he14  hs15
  (refine take_p (i := 63) (v := ?_) rfl (by kernel_rfl) (by kernel_rfl) (by kernel_rfl) (fun _ _ _ h => h) (Or.inl ⟨by rfl, ?_⟩) hS ?_; rotate_left; (focus (intro w0 hSw; go_simp; try with_reducible rfl)); try simp only [Act.put, List.setIfInBounds_toArray, List.set_cons_zero, List.set_cons_succ])
  (refine take_p (i := 64) (v := ?_) rfl (by kernel_rfl) (by kernel_rfl) (by kernel_rfl) (fun _ _ _ h => h) (Or.inl ⟨by rfl, ?_⟩) hS ?_; rotate_left; (focus (intro w0 hSw; go_simp; try with_reducible rfl)); try simp only [Act.put, List.setIfInBounds_toArray, List.set_cons_zero, List.set_cons_succ])
  refine wpAnyH_done (by kernel_rfl) ?_ _
  go_wp2_with fail
  go_ret
  exact ⟨rfl, hS15⟩

theorem writes_all (w : World) (cl x v f : Nat) (A : Option Addr) (n c : Nat) (os : List Opt) (hcl : cl < 65536) (hx : x < 256) (hv : v < 256) (hf : f < 65536) (hnm : n ≤ maxLen) (hl : os.length = n) (hr : Reads w w.heap.size 2 A n (oRow os)) (hcd : ∀ o ∈ os, o.1 < 65536)
    (cl' x' v' f' : Nat) (A' : Option Addr) (n' c' : Nat) (os' : List Opt) (hcl' : cl' < 65536) (hx' : x' < 256) (hv' : v' < 256) (hf' : f' < 65536) (hnm' : n' ≤ maxLen) (hl' : os'.length = n') (hr' : Reads w w.heap.size 2 A' n' (oRow os')) (hcd' : ∀ o ∈ os', o.1 < 65536)
    (co : Int) (wc : (Lit.int .u8 co).wf = true) (ex : Int) (we : (Lit.int .u8 ex).wf = true) (N : Int) (he : ErrT w) :
    Calls Tryd.prog 3 #[.agg (eA cl x v f A n c), .agg (eA cl' x' v' f' A' n' c'), .int .u8 co, .int .u8 ex, .int .i64 N] w fun e w' => e = .returned (.bool true) ∧ Still w w' := by
  have hC := wf_u8 wc
  have hE := wf_u8 we
  obtain ⟨co, rfl⟩ : ∃ c : Nat, co = c := ⟨co.toNat, by omega⟩
  obtain ⟨ex, rfl⟩ : ∃ c : Nat, ex = c := ⟨ex.toNat, by omega⟩
  exact writes_walk w cl x v f A n c os hcl hx hv hf hnm hl hr hcd cl' x' v' f' A' n' c' os' hcl' hx' hv' hf' hnm' hl' hr' hcd' he co ex (by omega) (by omega) N
end Go.Proofs.YtbapnlgddekakaaDoor
