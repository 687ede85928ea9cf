/-
  Package draw: the examples are as they are told.
-/
import Derived.Test.YtpgebejnpncemaaShuf
import Derived.Test.YtpgebejnpncemaaInts
import Derived.KernelRfl
namespace Go.Proofs.Ytpgebejnpncemaa
open Go.RowKit
set_option linter.unusedVariables false

theorem reads_made (w : World) (e : TypeId) (kd : IntKind) (xs : List Int) (n : Nat) (hn : xs.length = n) : Reads (w.alloc (.cells (xs.map (Value.int kd)).toArray e)) (w.heap.size + 1) 1 (some ⟨w.heap.size, 0, none⟩) n (xs.map (.int kd)) := by
  refine ⟨by simp [hn], fun _ => ⟨_, rfl, by simp, fun j u hu => ?_⟩⟩
  have hadd : (⟨w.heap.size, 0, none⟩ : Addr).add j = ⟨w.heap.size, j, none⟩ := by unfold Addr.add; split <;> simp_all
  rw [hadd, (Blk.new w e _).cell j]
  simpa using hu

theorem d0 : draw 0 [7, 9] 0 = 7 := by decide
theorem d1 : draw 0 [7, 9] 1 = 9 := by decide
theorem d2 : draw 0 [7, 9] 2 = 16294208416658607535 := by kernel_rfl
theorem d3 : draw 0 [7, 9] 3 = 7960286522194355700 := by kernel_rfl
theorem d47 : draw 0 [47] 0 % 10 = 7 := by decide
theorem shuf012 : shuffled (draw 0 [0, 0]) 0 3 = [1, 2, 0] := by kernel_rfl

set_option maxRecDepth 1000000 in
set_option maxHeartbeats 1600000 in
theorem draw_awake (w : World) : Calls Try.prog 15 #[] w fun e w' => e = .returned (.bool true) ∧ Still w w' := by
  have e0 := d0
  have e1 := d1
  have e2 := d2
  have e3 := d3
  have e47 := d47
  have r1 := reads_made w 22 .u64 [7, 9] 2 rfl
  go_enter Try.func15, Try.ntmps15
  go_wp2_with fail
  refine (new_any 0 _ 2 2 [7, 9] _ (r1.more (by simp)) (by simp) (by omega) (by omega) (by omega) (by simp)).mono ?_
  rintro e w1 ⟨g, rfl, hg, ht, ho⟩
  clear r1
  have hs1 : Still w w1 := (Still.new w _).still ho
  have hgw : w.heap.size < g := by simp at hg; omega
  clear ho hg
  go_wp2_with fail
  refine (next_any ht (by omega)).mono ?_
  rintro e w2 ⟨rfl, ht2, ho2⟩
  have hg1 := ht.lt
  clear ht
  go_wp2_with fail
  refine (next_any (n := 1) ht2 (by omega)).mono ?_
  rintro e w3 ⟨rfl, ht3, ho3⟩
  clear ht2
  go_wp2_with fail
  refine (next_any (n := 2) ht3 (by omega)).mono ?_
  rintro e w4 ⟨rfl, ht4, ho4⟩
  clear ht3
  go_wp2_with fail
  refine (next_any (n := 3) ht4 (by omega)).mono ?_
  rintro e w5 ⟨rfl, ht5, ho5⟩
  clear ht4
  have hs5 : Still w w5 := (((hs1.trans ho2 (fun i hi e => by omega)).trans ho3 (fun i hi e => by omega)).trans ho4 (fun i hi e => by omega)).trans ho5 (fun i hi e => by omega)
  clear hs1 ho2 ho3 ho4 ho5 ht5 hg1 hgw
  have r2 := reads_made w5 22 .u64 [47] 1 rfl
  go_wp2_with fail
  refine (new_any 0 _ 1 1 [47] _ (r2.more (by simp)) (by simp) (by omega) (by omega) (by omega) (by simp)).mono ?_
  rintro e w6 ⟨g2, rfl, hg, ht, ho⟩
  have hs6 : Still w w6 := ((hs5.alloc _).still ho)
  have hg2 : w.heap.size < g2 := by have := hs5.size; simp at hg; omega
  clear r2 ho hg hs5
  go_wp2_with fail
  refine (below_any ht (by omega) 10 (by omega) (by omega)).mono ?_
  rintro e w7 ⟨rfl, ht7, ho7⟩
  have hs7 : Still w w7 := hs6.trans ho7 (fun i hi e => by omega)
  clear ht ht7 ho7 hs6 hg2
  have r3 := reads_made w7 22 .u64 [0, 0] 2 rfl
  go_wp2_with fail
  refine (new_any 0 _ 2 2 [0, 0] _ (r3.more (by simp)) (by simp) (by omega) (by omega) (by omega) (by simp)).mono ?_
  rintro e w8 ⟨g3, rfl, hg, ht, ho⟩
  have hs8 : Still w w8 := ((hs7.alloc _).still ho)
  have hg3 : w.heap.size < g3 := by have := hs7.size; simp at hg; omega
  clear r3 ho hg hs7
  go_wp2_with fail
  refine (shuf_any ht (by omega) 3 (by omega) (by omega)).mono ?_
  rintro e w9 ⟨b, c, rfl, hb, hown, ht9, ho9⟩
  have hs9 : Still w w9 := hs8.trans ho9 (fun i hi e => by omega)
  have hr9 := Reads.of_own hown
  rw [shuf012] at hr9
  clear ht ht9 ho9 hs8 hg3 hown hb
  have r4 := reads_made w9 3 .i64 [1, 2, 0] 3 rfl
  go_wp2_with fail
  refine (ints_any _ _ _ _ _ _ _ _ [1, 2, 0] [1, 2, 0] _ (hr9.alloc (Nat.le_refl _) _) r4 (by omega) (by omega)).mono ?_
  rintro e w10 ⟨rfl, q, rfl⟩
  go_wp2
  go_ret
  exact ⟨rfl, (hs9.alloc _).drewN _⟩
end Go.Proofs.Ytpgebejnpncemaa
