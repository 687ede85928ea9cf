/-
  The reference of names: Texts, Labels, May, Low, Bytes.
-/
import Derived.Test.YtinjfongndlpgaaZoneFacts
import Derived.Test.YtinjfongndlpgaaNameS
import Derived.Test.YtinjfongndlpgaaStepApp
import Derived.Test.YtinjfongndlpgaaTake
namespace Go.Proofs.Ytinjfongndlpgaa
open Go.RowKit
set_option linter.unusedVariables false
set_option linter.unusedSimpArgs false

theorem mk_append (a b : List UInt8) : mk a ++ mk b = mk (a ++ b) := by
  apply ByteArray.ext
  apply Array.toList_inj.1
  simp [mk]
theorem mk_beq (a b : List UInt8) : ((mk a).toList == (mk b).toList) = decide (a = b) := by
  rw [list_beq]
  by_cases e : a = b
  · rw [e]; simp
  · rw [decide_eq_false e, decide_eq_false (fun h => e (mk_inj h))]
theorem read_at {w : World} {B n : Nat} {A : Option Addr} {L : List Lab} (h : Reads w B 1 A n (sv L)) {k : Nat} (hk : k < L.length) (hn : k < n) : ∃ ad, A = some ad ∧ ad.block < B ∧ w.cell? (ad.add k) = some (.string (mk L[k])) := by
  obtain ⟨ad, u, hA, hb, hu, hc⟩ := h.at_ (k := k) hn
  refine ⟨ad, hA, hb, ?_⟩
  unfold sv at hu
  rw [List.getElem?_map, List.getElem?_eq_getElem hk] at hu
  rw [hc, ← Option.some.inj hu]
theorem read_len {w : World} {B n : Nat} {A : Option Addr} {L : List Lab} (h : Reads w B 1 A n (sv L)) : L.length = n := by have := h.1; rw [sv_length] at this; omega

set_option maxRecDepth 1000000 in
set_option maxHeartbeats 3200000 in
theorem low_any (s : ByteArray) (hs : s.size ≤ 30000) (w : World) :
    Calls Try.prog 28 #[.string s] w fun e w' => e = .returned (.string (mk (s.data.toList.map low))) ∧ Still w w' := by
  have hL : s.data.toList.length = s.size := by rw [Array.length_toList]; rfl
  go_enter Try.func28, Try.ntmps28
  go_wp2_with fail
  go_loopw [3, 4] (fun i3 i wr => ∃ k : Nat, k ≤ s.size ∧ i3 = .string (mk ((s.data.toList.take k).map low)) ∧ i = .int .i64 k ∧ Still w wr) (fun _ i _ => s.size - (intOf i).toNat)
  case atStart => exact ⟨0, by omega, rfl, rfl, Only.refl _ _⟩
  case round =>
    obtain ⟨k, hk, rfl, rfl, hst⟩ := hrel
    by_cases hlt : k < s.size
    · have i1 : (k : Int) < (s.size : Int) := by omega
      have hkl : k < s.data.toList.length := by rw [hL]; exact hlt
      have hsn : (s.data.toList.take (k + 1)).map low = (s.data.toList.take k).map low ++ [low s[k]] := by
        rw [List.take_add_one, List.getElem?_eq_getElem hkl, List.map_append, Array.getElem_toList]; rfl
      obtain ⟨b, hb⟩ : ∃ b, b = s[k] := ⟨_, rfl⟩
      have hb' : s[k] = b := hb.symm
      rw [hb'] at hsn
      obtain ⟨P, hP⟩ : ∃ P, P = (s.data.toList.take k).map low := ⟨_, rfl⟩
      have hPl : P.length ≤ 30000 := by rw [hP, List.length_map, List.length_take]; omega
      rw [← hP] at hsn ⊢
      have HS := Lib.hid hsn
      have hsum : ¬ 9223372036854775807 < (mk P).size + (mk [low b]).size := by rw [mk_size, mk_size]; simp only [List.length_cons, List.length_nil]; omega
      have hb8 : b.toNat < 256 := UInt8.toNat_lt _
      have i2 : IntKind.i64.wrap ((k : Int) + 1) = ((k + 1 : Nat) : Int) := by rw [IntWalk.i64_in _ (by omega)]; push_cast; rfl
      have cv : ∀ x : Int, x = ((low b).toNat : Int) → (convert 40 9 (.slice (some ⟨wr.heap.size, 0, none⟩) 1 1)).run Try.prog (wr.alloc (.cells #[.int .u8 x] 5)) = .ok (.string (mk [low b])) (wr.alloc (.cells #[.int .u8 x] 5)) := fun x hx => by
        subst hx
        exact of_bytes _ wr.heap.size 1 [low b] (fun j hj => by
          have hj0 : j = 0 := by simp at hj; omega
          subst hj0
          exact (Blk.new wr 5 #[.int .u8 ((low b).toNat : Int)]).cell 0)
      have hap := mk_append P [low b]
      clear hsn hP hb
      by_cases hu : 65 ≤ b.toNat ∧ b.toNat ≤ 90
      · have j1 : (65 : Int) ≤ (b.toNat : Int) := by omega
        have j2 : (b.toNat : Int) ≤ 90 := by omega
        have j3 : IntKind.u8.wrap ((b.toNat : Int) + 32) = ((b.toNat + 32 : Nat) : Int) := by rw [show ((b.toNat : Int) + 32) = ((b.toNat + 32 : Nat) : Int) by push_cast; rfl]; exact IntWalk.u8_in _ (by omega)
        have cv1 := cv ((b.toNat : Int) + 32) (by rw [low_cap hu]; push_cast; rfl)
        have hs3 := hst.alloc (.cells #[.int .u8 ((b.toNat : Int) + 32)] 5)
        clear cv
        go_wp2_with fail
        exact ⟨⟨k + 1, by omega, by rw [HS.out], by push_cast; rfl, hs3⟩, by simp [intOf]; omega⟩
      · have cv1 := cv (b.toNat : Int) (by rw [low_not hu])
        have hs3 := hst.alloc (.cells #[.int .u8 (b.toNat : Int)] 5)
        clear cv
        by_cases hu1 : 65 ≤ b.toNat
        · have j1 : (65 : Int) ≤ (b.toNat : Int) := by omega
          have j2 : ¬ (b.toNat : Int) ≤ 90 := by omega
          go_wp2_with fail
          exact ⟨⟨k + 1, by omega, by rw [HS.out], by push_cast; rfl, hs3⟩, by simp [intOf]; omega⟩
        · have j1 : ¬ (65 : Int) ≤ (b.toNat : Int) := by omega
          go_wp2_with fail
          exact ⟨⟨k + 1, by omega, by rw [HS.out], by push_cast; rfl, hs3⟩, by simp [intOf]; omega⟩
    · have i1 : ¬ (k : Int) < (s.size : Int) := by omega
      rw [List.take_of_length_le (by omega)]
      go_wp2_with fail
      go_ret
      exact ⟨rfl, hst⟩
end Go.Proofs.Ytinjfongndlpgaa
