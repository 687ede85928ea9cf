/-
  Package comp: Read.
-/
import Derived.Test.YtfhnfjfjmjopeaaDoorCompStep
import Derived.Test.YtfhnfjfjmjopeaaDoorTake
namespace Go.Proofs.YtfhnfjfjmjopeaaDoor
open Go.RowKit
set_option linter.unusedVariables false
set_option linter.unusedSimpArgs false

def lenOf : Value → Nat
  | .slice _ n _ => n
  | _ => 0
def doneN : Value → Nat
  | .bool true => 0
  | _ => 1
def meas (w : World) (g : Nat) (d : Value) : Nat := 300 * (intOf ((w.cell? ⟨g, 2, none⟩).getD undef)).toNat + 300 - lenOf ((w.cell? ⟨g, 1, none⟩).getD undef) + doneN d
theorem Rdg.meas {w : World} {base g cg : Nat} {m : ByteArray} {a b nx : Nat} {acc : List UInt8} {A : Option Addr} {c : Nat} (h : Rdg w base g cg m a b nx acc A c) (d : Value) : meas w g d = 300 * b + 300 - acc.length + doneN d := by
  obtain ⟨c0, c1, c2, c3⟩ := blk4 h.blk
  unfold Go.Proofs.YtfhnfjfjmjopeaaDoor.meas
  rw [c1, c2]
  rfl
theorem own_some {w : World} {base : Nat} {e : TypeId} {size n c : Nat} {A : Option Addr} {xs : List Value} (h : w.ownsRow base e size (.slice A n c) n xs) (hn : 0 < n) : ∃ k, A = some ⟨k, 0, none⟩ := by
  rcases h.2 with ⟨hv, h0⟩ | ⟨g, cap, cur, hv, _⟩
  · omega
  · injection hv with h1
    exact ⟨g, h1⟩

set_option maxRecDepth 1000000 in
set_option maxHeartbeats 6400000 in
theorem read_in (w : World) (m : ByteArray) (at_ : Nat) (he : ErrT w) (hat : at_ ≤ m.size) (hm : m.size ≤ 1000000000000) :
    Calls Tryd.prog 10 #[.string m, .int .i64 at_] w fun e w' => e = .returned (.tuple #[.string (mk (readL m.data.toList at_).2.1), .int .i64 ((readL m.data.toList at_).2.2 : Nat), .int .i64 ((readL m.data.toList at_).1 : Nat)]) ∧ Still w w' := by
  have hl : m.data.toList.length = m.size := by rw [Array.length_toList]; rfl
  have hE : 0 < w.heap.size := by
    have he' := he
    unfold ErrT at he'
    exact World.block_lt_of_cell? w _ he'
  obtain ⟨R, hR⟩ : ∃ R, R = readL m.data.toList at_ := ⟨_, rfl⟩
  rw [← hR]
  have HR := Lib.hid hR
  clear hR
  obtain ⟨er, n, nx⟩ := R
  go_enter Tryd.func10, Tryd.ntmps10
  go_wp2_with fail
  refine (cur_new m w).mono ?_
  rintro e w1 ⟨cg, rfl, hcg, hc1, h1⟩
  have he1 := he.still h1
  go_wp2_with fail
  refine (Seek_in hc1 at_ hat).mono ?_
  rintro e w2 ⟨rfl, hc2, ho2⟩
  have he2 := he1.by_cur hc1 ho2
  have hS2 : Still w w2 := h1.trans ho2 (fun i hi e => by have e' : i = cg := e; omega)
  have hs3 := Still.new w2 (.cells #[.pointer (some ⟨cg, 0, none⟩), .slice none 0 0, .int .i64 at_, .int .i64 0] 56)
  have hb3 := Blk.new w2 56 #[.pointer (some ⟨cg, 0, none⟩), .slice none 0 0, .int .i64 at_, .int .i64 0]
  have hSa := hS2.still hs3
  have hea := he2.still hs3
  have hca := hc2.still hs3
  have hw2 := hS2.size
  clear h1 he1 hc1 ho2 hs3
  go_wp2_with fail
  obtain ⟨wa, hwa⟩ : ∃ wa, wa = w2.alloc (.cells #[.pointer (some ⟨cg, 0, none⟩), .slice none 0 0, .int .i64 at_, .int .i64 0] 56) := ⟨_, rfl⟩
  rw [← hwa] at hSa hea hca hb3 ⊢
  clear hwa
  obtain ⟨g, hg⟩ : ∃ g, g = w2.heap.size := ⟨_, rfl⟩
  rw [← hg] at hb3 ⊢
  have hgw : w.heap.size ≤ g := by omega
  have hRa : Rdg wa w.heap.size g cg m at_ at_ 0 [] none 0 := ⟨hgw, hcg, hb3, hca, World.ownsRow_nil _ _ _ _⟩
  clear hc2 he2 hS2 hw2 hg hb3 hca
  go_loopw [10] (fun i wr => Still w wr ∧ ErrT wr ∧
    ((∃ a b A c, i = .bool true ∧ Rdg wr w.heap.size g cg m a b nx n A c ∧ Hid (er = 0 ∧ 0 < n.length)) ∨
     (∃ f a b nx1 acc A c, i = .bool false ∧ Rdg wr w.heap.size g cg m a b nx1 acc A c ∧ Hid (rd f m.data.toList a b nx1 acc = (er, n, nx) ∧ 300 * b + 300 < f + acc.length ∧ acc.length ≤ 254 ∧ a ≤ m.size ∧ b ≤ m.size ∧ nx1 ≤ m.size)))) (fun i wr => meas wr g i)
  case atStart =>
    refine ⟨hSa, hea, .inr ⟨300 * at_ + 400, at_, at_, 0, [], none, 0, rfl, hRa, Lib.hid ⟨?_, ?_, ?_, hat, hat, ?_⟩⟩⟩
    · exact HR.out.symm
    · show 300 * at_ + 300 < 300 * at_ + 400 + 0
      omega
    · exact Nat.zero_le _
    · exact Nat.zero_le _
  case round =>
    clear hSa hea hRa
    obtain ⟨hst, he, ⟨a, b, A, c, rfl, hR, hfin⟩ | ⟨f, a, b, nx1, acc, A, c, rfl, hR, hgo⟩⟩ := hrel
    · obtain ⟨rfl, hn0⟩ := hfin.out
      obtain ⟨kA, rfl⟩ := own_some hR.own hn0
      go_wp2_with fail
      have hs_wz : Still wr wr.drew := (Only.refl _ _).drew
      obtain ⟨wz, hwz⟩ : ∃ wz, wz = wr.drew := ⟨_, rfl⟩
      refine wp_region_held_drew (S := fun w' => Still wr.drew w') (by kernel_rfl) (Only.refl _ _) (fun hS => ?_)
      rw [← hwz] at hs_wz hS ⊢
      clear hwz
      have hSz := hst.still hs_wz
      have hrz := hR.still hs_wz
      clear hs_wz
      obtain ⟨c0, c1, c2, c3⟩ := blk4 hrz.blk
      (refine take_p (i := 0) (v := ?_) rfl (by kernel_rfl) (by kernel_rfl) (by kernel_rfl) (fun _ _ _ h => h) (Or.inl ⟨by rfl, ?_⟩) hS ?_; rotate_left; (focus (intro w0_ hSw; go_simp; try with_reducible rfl)); try simp only [Act.put, List.setIfInBounds_toArray, List.set_cons_zero, List.set_cons_succ])
      (refine take_p (i := 1) (v := ?_) rfl (by kernel_rfl) (by kernel_rfl) (by kernel_rfl) (fun _ _ _ h => h) (Or.inl ⟨by rfl, ?_⟩) hS ?_; rotate_left; (focus (intro w0_ hSw; have z0_ := hSw.cell_some (fun h => h) c1; go_simp; try with_reducible rfl)); try simp only [Act.put, List.setIfInBounds_toArray, List.set_cons_zero, List.set_cons_succ])
      (refine take_p (i := 2) (v := ?_) rfl (by kernel_rfl) (by kernel_rfl) (by kernel_rfl) (fun _ _ _ h => h) (Or.inl ⟨by rfl, ?_⟩) hS ?_; rotate_left; (focus (intro w0_ hSw; have q_ := conv_own (own_only hrz.own hSw (fun _ _ h => h)); go_simp; try with_reducible rfl)); try simp only [Act.put, List.setIfInBounds_toArray, List.set_cons_zero, List.set_cons_succ])
      (refine take_p (i := 3) (v := ?_) rfl (by kernel_rfl) (by kernel_rfl) (by kernel_rfl) (fun _ _ _ h => h) (Or.inl ⟨by rfl, ?_⟩) hS ?_; rotate_left; (focus (intro w0_ hSw; go_simp; try with_reducible rfl)); try simp only [Act.put, List.setIfInBounds_toArray, List.set_cons_zero, List.set_cons_succ])
      (refine take_p (i := 4) (v := ?_) rfl (by kernel_rfl) (by kernel_rfl) (by kernel_rfl) (fun _ _ _ h => h) (Or.inl ⟨by rfl, ?_⟩) hS ?_; rotate_left; (focus (intro w0_ hSw; have z0_ := hSw.cell_some (fun h => h) c3; go_simp; try with_reducible rfl)); try simp only [Act.put, List.setIfInBounds_toArray, List.set_cons_zero, List.set_cons_succ])
      (refine take_p (i := 5) (v := ?_) rfl (by kernel_rfl) (by kernel_rfl) (by kernel_rfl) (fun _ _ _ h => h) (Or.inl ⟨by rfl, ?_⟩) hS ?_; rotate_left; (focus (intro w0_ hSw; go_simp; try with_reducible rfl)); try simp only [Act.put, List.setIfInBounds_toArray, List.set_cons_zero, List.set_cons_succ])
      (refine take_p (i := 6) (v := ?_) rfl (by kernel_rfl) (by kernel_rfl) (by kernel_rfl) (fun _ _ _ h => h) (Or.inl ⟨by rfl, ?_⟩) hS ?_; rotate_left; (focus (intro w0_ hSw; go_simp; try with_reducible rfl)); try simp only [Act.put, List.setIfInBounds_toArray, List.set_cons_zero, List.set_cons_succ])
      (refine take_p (i := 7) (v := ?_) rfl (by kernel_rfl) (by kernel_rfl) (by kernel_rfl) (fun _ _ _ h => h) (Or.inl ⟨by rfl, ?_⟩) hS ?_; rotate_left; (focus (intro w0_ hSw; go_simp; try with_reducible rfl)); try simp only [Act.put, List.setIfInBounds_toArray, List.set_cons_zero, List.set_cons_succ])
      refine wpAnyH_done (by kernel_rfl) ?_ _
      go_wp2_with fail
      go_ret3
      exact ⟨rfl, hSz.still hS⟩
    · obtain ⟨hrd, hf, hacc, ha, hb, hnx⟩ := hgo.out
      have hms := Lib.hid (hR.meas (.bool false))
      go_wp2_with fail
      refine (step_any hR hst.size he hE ha hm hb hacc (by omega)).mono ?_
      rintro e w3 ⟨ho3, hP⟩
      have hst3 : Still w w3 := hst.trans ho3 (fun i hi e => by have e' : w.heap.size ≤ i := e; omega)
      have he3 : ErrT w3 := he.only ho3 (fun e => by have e' : w.heap.size ≤ 0 := e; omega)
      obtain ⟨f', rfl⟩ : ∃ f', f = f' + 1 := ⟨f - 1, by omega⟩
      rcases hP with ⟨e1, d, hs, h0, rfl⟩ | ⟨acc', nx', a', A', c', hs, rfl, hR'⟩ | ⟨a', b', nx', acc', A', c', hs, rfl, hR'⟩
      · rw [rd_err hs] at hrd
        injection hrd with r1 r2
        injection r2 with r2 r3
        subst r1 r2 r3
        have hd0 : decide ((e1 : Int) = 0) = false := decide_eq_false (by omega)
        have hd1 : ((e1 : Int) == 0) = false := by rw [beq_eq_false_iff_ne]; omega
        clear hs hgo hf hR hst ho3
        go_wp2_with fail
        go_ret3
        exact ⟨rfl, hst3⟩
      · rw [rd_fin hs] at hrd
        injection hrd with r1 r2
        injection r2 with r2 r3
        subst r1 r2 r3
        have hpos : 0 < acc'.length ∧ acc'.length = acc.length + 1 := by
          rcases st1_cases m.data.toList a b nx1 acc with ⟨_, _, h⟩ | ⟨_, h⟩ | ⟨_, _, _, _, _, h⟩ | ⟨_, _, _, h⟩
          all_goals (rw [hs] at h; first | (injection h with h1 h2; rw [h1, List.length_append, List.length_singleton]; exact ⟨by omega, rfl⟩) | cases h)
        have hm' := Lib.hid (hR'.meas (.bool true))
        have hmm : Hid (meas w3 g (.bool true) < meas wr g (.bool false)) := Lib.hid (by rw [hm'.out, hms.out]; simp only [doneN]; omega)
        clear hs hgo hf hR hst ho3 hms hm'
        go_wp2_with fail
        go_roundw
        case rel => exact ⟨hst3, he3, .inl ⟨a', b, A', c', rfl, hR', Lib.hid (by first | exact ⟨rfl, hpos.1⟩ | exact ⟨trivial, hpos.1⟩)⟩⟩
        case measure => exact hmm.out
      · rw [rd_go hs] at hrd
        have hcs : (acc'.length ≤ 254 ∧ a' ≤ m.size ∧ b' ≤ m.size ∧ nx' ≤ m.size) ∧ 300 * b' + 300 < f' + acc'.length ∧ 300 * b' + 300 - acc'.length < 300 * b + 300 - acc.length := by
          rcases st1_cases m.data.toList a b nx1 acc with ⟨_, _, h⟩ | ⟨_, h⟩ | ⟨x, hx, hx2, hx3, _, h⟩ | ⟨to, hto, ham, h⟩
          · rw [hs] at h; cases h
          · rw [hs] at h; cases h
          · rw [hs] at h
            injection h with h1 h2 h3 h4
            have := hx.1
            have hlen : acc'.length = acc.length + 1 + x.length := by rw [h4, List.length_append, List.length_cons]; omega
            subst h1 h2 h3
            refine ⟨⟨by omega, by omega, hb, hnx⟩, by omega, by omega⟩
          · rw [hs] at h
            injection h with h1 h2 h3 h4
            subst h1 h2 h4
            refine ⟨⟨hacc, by omega, by omega, ?_⟩, by omega, by omega⟩
            rw [h3]
            split <;> omega
        have hm' := Lib.hid (hR'.meas (.bool false))
        have hmm : Hid (meas w3 g (.bool false) < meas wr g (.bool false)) := Lib.hid (by rw [hm'.out, hms.out]; have := hcs.2.2; omega)
        have hkeep : Hid (rd f' m.data.toList a' b' nx' acc' = (er, n, nx) ∧ 300 * b' + 300 < f' + acc'.length ∧ acc'.length ≤ 254 ∧ a' ≤ m.size ∧ b' ≤ m.size ∧ nx' ≤ m.size) := Lib.hid ⟨hrd, hcs.2.1, hcs.1⟩
        clear hs hgo hf hR hst ho3 hms hm' hcs hrd hacc ha hb hnx
        go_wp2_with fail
        go_roundw
        case rel => exact ⟨hst3, he3, .inr ⟨f', a', b', nx', acc', A', c', rfl, hR', hkeep⟩⟩
        case measure => exact hmm.out
theorem read_out (w : World) (m : ByteArray) (at_ : Int) (he : ErrT w) (hat : at_ < 0 ∨ (m.size : Int) < at_) :
    Calls Tryd.prog 10 #[.string m, .int .i64 at_] w fun e w' => e = .returned (.tuple #[.string ⟨#[]⟩, .int .i64 0, .int .i64 1]) ∧ Still w w' := by
  go_enter Tryd.func10, Tryd.ntmps10
  go_wp2_with fail
  refine (cur_new m w).mono ?_
  rintro e w1 ⟨cg, rfl, hcg, hc1, h1⟩
  have he1 := he.still h1
  go_wp2_with fail
  refine (Seek_out hc1 he1 at_ hat).mono ?_
  rintro e w2 ⟨rfl, ho2⟩
  go_wp2_with fail
  go_ret3
  exact ⟨rfl, h1.still ho2⟩
end Go.Proofs.YtfhnfjfjmjopeaaDoor
