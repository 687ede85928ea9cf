/-
  DrawNames: the examples; numbers that are none; rows at their ends; nobody's tape. A closed statement.
-/
import Derived.Test.YtpgebejnpncemaaDrawAwake
import Derived.Laws.EntriesVeiled
namespace Go.Proofs.Ytpgebejnpncemaa
open Go.RowKit
set_option linter.unusedVariables false

theorem next_nil (w : World) : Calls Try.prog 18 #[.pointer none] w fun e w' => e = .returned (.int .u64 0) ∧ w = w' := by
  go_enter Try.func18, Try.ntmps18
  go_wp2
  go_ret
  exact ⟨rfl, rfl⟩
theorem below_nil (m : Int) (w : World) : Calls Try.prog 20 #[.pointer none, .int .i64 m] w fun e w' => e = .returned (.int .i64 0) ∧ w = w' := by
  go_enter Try.func20, Try.ntmps20
  go_wp2
  go_ret
  exact ⟨rfl, rfl⟩
theorem shuf_nil (m : Int) (w : World) : Calls Try.prog 22 #[.pointer none, .int .i64 m] w fun e w' => e = .returned (.slice none 0 0) ∧ w = w' := by
  go_enter Try.func22, Try.ntmps22
  go_wp2
  go_ret
  exact ⟨rfl, rfl⟩
theorem used_nil (w : World) : Calls Try.prog 27 #[.pointer none] w fun e w' => e = .returned (.int .i64 0) ∧ w = w' := by
  go_enter Try.func27, Try.ntmps27
  go_wp2
  go_ret
  exact ⟨rfl, rfl⟩
theorem copy_nil (w : World) : Calls Try.prog 25 #[.pointer none] w fun e w' => e = .returned (.pointer none) ∧ w = w' := by
  go_enter Try.func25, Try.ntmps25
  go_wp2
  go_ret
  exact ⟨rfl, rfl⟩

theorem nil_is_nil (w : World) : (binOp .eql 43 .nilFunc .nilFunc).run Try.prog w = .ok (.bool true) w := by kernel_rfl

set_option maxRecDepth 1000000 in
theorem next_fresh {w : World} {g : Nat} (hb : Blk w g 45 #[.nilFunc, .int .i64 0]) :
    Calls Try.prog 18 #[.pointer (some ⟨g, 0, none⟩)] w fun e w' => e = .returned (.int .u64 (draw 0 [] 0)) ∧ Tape w' g 0 [] 1 ∧ Only (· = g) w w' := by
  have c0 := hb.cell 0
  have c1 := hb.cell 1
  have f0 := hb.frozen 0
  have f1 := hb.frozen 1
  have hlt := hb.lt
  simp at c0 c1
  have hn1 := nil_is_nil
  have hmf : ∀ (fn : Fn) (first cap : Array Value) (w : World), (Instr.makeFunc fn first cap).run Try.prog w = .ok (.func fn first cap) w := fun _ _ _ _ => rfl
  go_enter Try.func18, Try.ntmps18
  go_wp2_with go_in
  obtain ⟨F, hF⟩ : ∃ F, F = Value.func (Fn.func 47) #[] #[.pointer (some ⟨w.heap.size + 1, 0, none⟩), .pointer (some ⟨w.heap.size, 0, none⟩)] := ⟨_, rfl⟩
  obtain ⟨W, hW⟩ : ∃ W, W = ((w.setCell ⟨g, 0, none⟩ F).alloc (Obj.cells #[Value.int IntKind.u64 0] 22)).alloc (Obj.cells #[Value.slice none 0 0] 23) := ⟨_, rfl⟩
  have hbW : Blk W g 45 #[F, .int .i64 0] := by
    rw [hW]; exact ((hb.set_ 0 F).alloc _).alloc _
  have hoW : Only (· = g) w W := by
    rw [hW]; exact (((Only.refl (· = g) _).setCell (p := ⟨g, 0, none⟩) (.inl rfl) _).alloc _).alloc _
  have hb1 : Blk W (w.heap.size + 1) 23 #[.slice none 0 0] := by
    rw [hW]; exact Blk.at_ _ _ _ (by simp)
  have hb2 : Blk W w.heap.size 22 #[.int .u64 0] := by
    rw [hW]; exact (Blk.at_ _ _ _ (by simp)).alloc _
  rw [hF] at hW hbW
  rw [← hW]
  have d0 := hbW.cell 0
  have d1 := hbW.cell 1
  have e1 := hb1.cell 0
  have e2 := hb2.cell 0
  have g1 := hbW.frozen 1
  simp at d0 d1 e1 e2
  clear c0 c1 f0 f1 hW hF
  go_quiet ((go_at_call 47; exact quiet_left (src_next (w.heap.size + 1) w.heap.size none 0 0 0 0 _ (by omega) (by omega) (by omega) (by omega) e1 e2)))
  go_wp2
  go_ret
  obtain ⟨k, hk⟩ : ∃ k, k = nq := ⟨_, rfl⟩
  rw [← hk]
  have ho : Only (· = g) w ((W.drewN k).setCell ⟨g, 1, none⟩ (.int .i64 1)) := (hoW.drewN k).setCell (p := ⟨g, 1, none⟩) (.inl rfl) _
  refine ⟨rfl, ⟨by omega, by omega, by simp, by simp, _, (hbW.drewN k).set_ 1 _, w.heap.size + 1, w.heap.size, _, rfl, ?_, ?_, World.ownsRow_nil _ _ _ _⟩, ho⟩
  · exact (hb1.drewN k).far (by simp; omega) _
  · exact (hb2.drewN k).far (by simp; omega) _

theorem big_below : draw 0 [18446744073709551615] 0 % 4611686018427387904 = 4611686018427387903 := by decide
theorem zero_below : draw 1 [18446744073709551615] 0 % 1 = 0 := by decide
theorem iota1 : shuffled (draw 1 [18446744073709551615]) 0 1 = [0] := by decide
theorem fresh0 : draw 0 [] 0 = 16294208416658607535 := by kernel_rfl

set_option maxRecDepth 1000000 in
set_option maxHeartbeats 6400000 in
theorem names_walk (w : World) : Calls Try.prog 4 #[] w fun e w' => e = .returned (.bool true) ∧ Still w w' := by
  have hnn := fun W a l cc => run_neq_slice_nil_any (P := Try.prog) W 34 3 a l cc 0 0 Try.underlying34
  go_enter Try.func4, Try.ntmps4
  go_wp2_with fail
  refine (draw_awake _).mono ?_
  rintro e w0 ⟨rfl, ho0⟩
  have r1 := reads_made w0 22 .u64 [18446744073709551615] 1 rfl
  go_wp2_with fail
  refine (new_any 1 _ 1 1 [18446744073709551615] _ (r1.more (by simp)) (by simp) (by omega) (by omega) (by omega) (by simp)).mono ?_
  rintro e w1 ⟨g, rfl, hg, ht, ho⟩
  have hs1 : Still w w1 := (ho0.alloc _).still ho
  have hgw : w.heap.size ≤ g := by have := ho0.size; simp at hg; omega
  clear r1 ho ho0 hg
  go_wp2_with fail
  refine (below_zero g 0 (by omega)).mono ?_
  rintro e w2 ⟨rfl, rfl⟩
  go_wp2_with fail
  refine (below_zero g (-5) (by omega)).mono ?_
  rintro e w2 ⟨rfl, rfl⟩
  go_wp2_with fail
  refine (shuf_zero g 0 (by omega)).mono ?_
  rintro e w2 ⟨rfl, rfl⟩
  go_wp2_with fail
  refine (shuf_zero g (-1) (by omega)).mono ?_
  rintro e w2 ⟨rfl, rfl⟩
  go_wp2_with fail
  refine (shuf_zero g 257 (by omega)).mono ?_
  rintro e w2 ⟨rfl, rfl⟩
  go_wp2_with fail
  refine (shuf_zero g 4611686018427387904 (by omega)).mono ?_
  rintro e w2 ⟨rfl, rfl⟩
  go_wp2_with fail
  refine (used_any ht).mono ?_
  rintro e w2 ⟨rfl, rfl⟩
  go_wp2_with fail
  refine (shuf_any ht (by omega) 1 (by omega) (by omega)).mono ?_
  rintro e w2 ⟨b, c, rfl, hb, hown, ht2, ho2⟩
  have hs2 : Still w w2 := hs1.trans ho2 (fun i hi e => by omega)
  have hr2 := Reads.of_own hown
  rw [iota1] at hr2
  clear hown ho2 hs1 hb ht
  have r4 := reads_made w2 3 .i64 [0] 1 rfl
  go_wp2_with fail
  refine (ints_any _ _ _ _ _ _ _ _ [0] [0] _ (hr2.alloc (Nat.le_refl _) _) r4 (by omega) (by omega)).mono ?_
  rintro e w3 ⟨rfl, q, rfl⟩
  have ht3 := ht2.still (((Still.new w2 (.cells #[.int .i64 0] 3)).drewN q))
  have hs3 := (hs2.alloc (.cells #[.int .i64 0] 3)).drewN q
  clear hr2 r4 ht2 hs2
  go_wp2_with fail
  refine (used_any (n := 0) ht3).mono ?_
  rintro e w4 ⟨rfl, rfl⟩
  go_wp2_with fail
  refine (below_any (n := 0) ht3 (by omega) 1 (by omega) (by omega)).mono ?_
  rintro e w4 ⟨rfl, ht4, ho4⟩
  have hs4 : Still w w4 := hs3.trans ho4 (fun i hi e => by omega)
  have z1 := zero_below
  clear hs3 ho4 ht3
  go_wp2_with fail
  refine (used_any (n := 1) ht4).mono ?_
  rintro e w5 ⟨rfl, rfl⟩
  go_wp2_with fail
  refine (shuf_any ht4 (by omega) 256 (by omega) (by omega)).mono ?_
  rintro e w5 ⟨b, c, rfl, hb, hown, ht5, ho5⟩
  have hs5 : Still w w5 := hs4.trans ho5 (fun i hi e => by omega)
  clear hs4 ho5 ht4 hown hb
  go_wp2_with fail
  refine (used_any (n := 256) ht5).mono ?_
  rintro e w6 ⟨rfl, rfl⟩
  clear ht5 z1
  have r1 := reads_made w5 22 .u64 [18446744073709551615] 1 rfl
  go_wp2_with fail
  refine (new_any 0 _ 1 1 [18446744073709551615] _ (r1.more (by simp)) (by simp) (by omega) (by omega) (by omega) (by simp)).mono ?_
  rintro e w6 ⟨g2, rfl, hg, ht, ho⟩
  have hs6 : Still w w6 := (hs5.alloc _).still ho
  have hg2 : w.heap.size ≤ g2 := by have := hs5.size; simp at hg; omega
  have z2 := big_below
  clear r1 ho hg hs5
  go_wp2_with fail
  refine (below_any ht (by omega) 4611686018427387904 (by omega) (by omega)).mono ?_
  rintro e w7 ⟨rfl, ht7, ho7⟩
  have hs7 : Still w w7 := hs6.trans ho7 (fun i hi e => by omega)
  clear hs6 ho7 ht ht7
  go_wp2_with fail
  refine (next_fresh (Blk.new _ _ _)).mono ?_
  rintro e w8 ⟨rfl, ht8, ho8⟩
  have hs8 : Still w w8 := (hs7.alloc (.cells #[.nilFunc, .int .i64 0] 45)).trans ho8 (fun i hi e => by have := hs7.size; omega)
  have z3 := fresh0
  clear hs7 ho8 z2
  go_wp2_with fail
  refine (used_any (n := 1) ht8).mono ?_
  rintro e w9 ⟨rfl, rfl⟩
  clear ht8
  go_wp2_with fail
  refine (next_nil _).mono ?_
  rintro e w9 ⟨rfl, rfl⟩
  go_wp2_with fail
  refine (below_nil _ _).mono ?_
  rintro e w9 ⟨rfl, rfl⟩
  go_wp2_with fail
  refine (shuf_nil _ _).mono ?_
  rintro e w9 ⟨rfl, rfl⟩
  go_wp2_with fail
  refine (used_nil _).mono ?_
  rintro e w9 ⟨rfl, rfl⟩
  go_wp2_with fail
  refine (copy_nil _).mono ?_
  rintro e w9 ⟨rfl, rfl⟩
  go_wp2
  go_ret
  exact ⟨rfl, hs8⟩
end Go.Proofs.Ytpgebejnpncemaa
