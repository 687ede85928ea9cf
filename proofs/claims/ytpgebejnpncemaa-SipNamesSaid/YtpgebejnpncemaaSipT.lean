/-
  Package sip: Len, Copy, Sum of a text; the examples.
-/
import Derived.Test.YtpgebejnpncemaaSipS
namespace Go.Proofs.Ytpgebejnpncemaa
open Go.RowKit
set_option linter.unusedVariables false

def hash (k0 k1 : Int) (bs : List Int) : Int := ((st0 k0 k1).eat bs).sum

set_option maxRecDepth 1000000 in
set_option maxHeartbeats 1600000 in
theorem Len_any {w : World} {g : Nat} {s : St} (h : Hsh w g s) (hs : s.Ok) :
    Calls Try.prog 33 #[.pointer (some ⟨g, 0, none⟩)] w fun e w' => e = .returned (.int .i64 s.n) ∧ w = w' := by
  have c13 := (Blk.cell h 13).trans (hcells_n hs.v hs.l)
  go_enter Try.func33, Try.ntmps33
  go_wp2
  go_ret
  exact ⟨rfl, rfl⟩

set_option maxRecDepth 1000000 in
set_option maxHeartbeats 1600000 in
theorem Copy_any {w : World} {g : Nat} {s : St} (h : Hsh w g s) (hs : s.Ok) :
    Calls Try.prog 35 #[.pointer (some ⟨g, 0, none⟩)] w fun e w' => ∃ g', e = .returned (.pointer (some ⟨g', 0, none⟩)) ∧ w.heap.size ≤ g' ∧ Hsh w' g' s ∧ Still w w' := by
  obtain ⟨v, l, N⟩ := s
  obtain ⟨hv, hl⟩ := hs
  simp only at hv hl
  obtain ⟨v0, v1, v2, v3, rfl⟩ := hv.cases
  obtain ⟨b0, b1, b2, b3, b4, b5, b6, b7, rfl⟩ := hl.cases
  have c0 : w.cell? ⟨g, 0, none⟩ = some (.bool true) := (Blk.cell h 0)
  have c1 : w.cell? ⟨g, 1, none⟩ = some (.int .u64 v0) := (Blk.cell h 1)
  have c2 : w.cell? ⟨g, 2, none⟩ = some (.int .u64 v1) := (Blk.cell h 2)
  have c3 : w.cell? ⟨g, 3, none⟩ = some (.int .u64 v2) := (Blk.cell h 3)
  have c4 : w.cell? ⟨g, 4, none⟩ = some (.int .u64 v3) := (Blk.cell h 4)
  have c5 : w.cell? ⟨g, 5, none⟩ = some (.int .u8 b0) := (Blk.cell h 5)
  have c6 : w.cell? ⟨g, 6, none⟩ = some (.int .u8 b1) := (Blk.cell h 6)
  have c7 : w.cell? ⟨g, 7, none⟩ = some (.int .u8 b2) := (Blk.cell h 7)
  have c8 : w.cell? ⟨g, 8, none⟩ = some (.int .u8 b3) := (Blk.cell h 8)
  have c9 : w.cell? ⟨g, 9, none⟩ = some (.int .u8 b4) := (Blk.cell h 9)
  have c10 : w.cell? ⟨g, 10, none⟩ = some (.int .u8 b5) := (Blk.cell h 10)
  have c11 : w.cell? ⟨g, 11, none⟩ = some (.int .u8 b6) := (Blk.cell h 11)
  have c12 : w.cell? ⟨g, 12, none⟩ = some (.int .u8 b7) := (Blk.cell h 12)
  have c13 : w.cell? ⟨g, 13, none⟩ = some (.int .i64 N) := (Blk.cell h 13)
  have hb := Blk.new w 60 (hcells [v0, v1, v2, v3] [b0, b1, b2, b3, b4, b5, b6, b7] N)
  have hst := Still.new w (.cells (hcells [v0, v1, v2, v3] [b0, b1, b2, b3, b4, b5, b6, b7] N) 60)
  clear h
  go_enter Try.func35, Try.ntmps35
  go_wp2
  go_ret
  exact ⟨_, rfl, Nat.le_refl _, hb, hst⟩

set_option maxRecDepth 1000000 in
set_option maxHeartbeats 1600000 in
theorem SumTop_any {w : World} {k0 k1 : Int} (h0 : 0 ≤ k0 ∧ k0 < 18446744073709551616) (h1 : 0 ≤ k1 ∧ k1 < 18446744073709551616) (t : ByteArray) (hn : t.size < 1000000000) :
    Calls Try.prog 29 #[.int .u64 k0, .int .u64 k1, .string t] w fun e w' => e = .returned (.int .u64 (hash k0 k1 (byts t))) ∧ Still w w' := by
  go_enter Try.func29, Try.ntmps29
  go_wp2_with fail
  refine (New_any h0 h1).mono ?_
  rintro e w1 ⟨g, rfl, hg, hb, hs1⟩
  have hb1 : Hsh w1 g (st0 k0 k1) := hb
  go_wp2_with fail
  refine (Write_any hb1 (st0_ok h0 h1) t (by show 0 + _ < _; omega)).mono ?_
  rintro e w2 ⟨rfl, hb2, ho2⟩
  have hs2 := hs1.trans (ho2.mono (T := fun k => k = g) (fun _ _ h => h)) (S := fun _ => False) (fun i hi e => by omega)
  have hok := St.eat_ok (st0_ok h0 h1) _ (byts_ok t)
  have hn2 : ((st0 k0 k1).eat (byts t)).n < 1000000000 := by rw [St.eat_n, byts_len]; show 0 + _ < _; omega
  clear hb hb1 hs1 ho2
  go_wp2_with fail
  refine (Sum_any hb2 hok hn2).mono ?_
  rintro e w3 ⟨rfl, hs3⟩
  have hs4 := hs2.still hs3
  go_wp2_with fail
  go_ret
  exact ⟨rfl, hs4⟩

theorem SumTop_at {w : World} {k0 k1 : Int} (h0 : 0 ≤ k0 ∧ k0 < 18446744073709551616) (h1 : 0 ≤ k1 ∧ k1 < 18446744073709551616) (t : ByteArray) (bs : List Int) (x : Int) (hn : t.size < 1000000000) (hb : byts t = bs) (hx : hash k0 k1 bs = x) :
    Calls Try.prog 29 #[.int .u64 k0, .int .u64 k1, .string t] w fun e w' => e = .returned (.int .u64 x) ∧ Still w w' := by
  subst hb hx
  exact SumTop_any h0 h1 t hn

set_option maxRecDepth 1000000 in
theorem ex0 : hash 506097522914230528 1084818905618843912 [] = 8246050544436514353 := by kernel_rfl
set_option maxRecDepth 1000000 in
theorem ex1 : hash 506097522914230528 1084818905618843912 [0] = 8428550223375919101 := by kernel_rfl
set_option maxRecDepth 1000000 in
theorem ex2 : hash 506097522914230528 1084818905618843912 [0, 1] = 967288799772626778 := by kernel_rfl
set_option maxRecDepth 1000000 in
theorem ex8 : hash 506097522914230528 1084818905618843912 [0, 1, 2, 3, 4, 5, 6, 7] = 10661697595502699618 := by kernel_rfl
set_option maxRecDepth 1000000 in
theorem ex15 : hash 506097522914230528 1084818905618843912 [0, 1, 2, 3, 4, 5, 6, 7, 8, 9, 10, 11, 12, 13, 14] = 11613035633349379557 := by kernel_rfl

set_option maxRecDepth 1000000 in
set_option maxHeartbeats 1600000 in
theorem sip_awake (w : World) : Calls Try.prog 28 #[] w fun e w' => e = .returned (.bool true) ∧ Still w w' := by
  go_enter Try.func28, Try.ntmps28
  go_wp2_with fail
  refine (SumTop_at (by omega) (by omega) _ [] _ (by decide) (by kernel_rfl) ex0).mono ?_
  rintro e w1 ⟨rfl, hs1⟩
  go_wp2_with fail
  refine (SumTop_at (by omega) (by omega) _ [0] _ (by decide) (by kernel_rfl) ex1).mono ?_
  rintro e w2 ⟨rfl, hs2⟩
  have hs2' := hs1.still hs2
  clear hs1 hs2
  go_wp2_with fail
  refine (SumTop_at (by omega) (by omega) _ [0, 1] _ (by decide) (by kernel_rfl) ex2).mono ?_
  rintro e w3 ⟨rfl, hs3⟩
  have hs3' := hs2'.still hs3
  clear hs2' hs3
  go_wp2_with fail
  refine (SumTop_at (by omega) (by omega) _ [0, 1, 2, 3, 4, 5, 6, 7] _ (by decide) (by kernel_rfl) ex8).mono ?_
  rintro e w4 ⟨rfl, hs4⟩
  have hs4' := hs3'.still hs4
  clear hs3' hs4
  go_wp2_with fail
  refine (SumTop_at (by omega) (by omega) _ [0, 1, 2, 3, 4, 5, 6, 7, 8, 9, 10, 11, 12, 13, 14] _ (by decide) (by kernel_rfl) ex15).mono ?_
  rintro e w5 ⟨rfl, hs5⟩
  have hs5' := hs4'.still hs5
  go_wp2_with fail
  go_ret
  exact ⟨rfl, hs5'⟩
end Go.Proofs.Ytpgebejnpncemaa
