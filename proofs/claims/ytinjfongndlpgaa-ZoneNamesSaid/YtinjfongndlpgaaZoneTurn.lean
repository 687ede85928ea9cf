/-
  A name with a label ahead; small facts for ZoneLetters.
-/
import Derived.Test.YtinjfongndlpgaaZoneFacts
import Derived.Test.YtinjfongndlpgaaNameTurn
namespace Go.Proofs.Ytinjfongndlpgaa
open Go.RowKit
set_option linter.unusedVariables false
set_option linter.unusedSimpArgs false

theorem find_fold (Z : List Zn) (s : ByteArray) : findZ Z (foldS s) = findZ Z s := by
  rcases h : mayN s.data.toList with _ | _
  · rw [foldS_no h]
    unfold findZ
    rw [h]
    rfl
  · obtain ⟨L, hL, rfl⟩ := may_mk h
    rw [foldS_enc hL]
    exact find_letters Z hL hL.fold (fold_fold L)
theorem find_small {Z : List Zn} (h : okT Z) (s : ByteArray) : (findZ Z s).nm.size ≤ 30000 := by
  obtain ⟨S, hS, e, _⟩ := find_name Z h s
  rw [e]
  exact enc_30 hS
theorem mk_app (a b : List UInt8) : mk a ++ mk b = mk (a ++ b) := by
  apply ByteArray.ext
  apply Array.toList_inj.1
  simp [mk]
theorem in_str (q s : ByteArray) (h1 : 1 ≤ q.size) (h2 : q.size ≤ 63) (hq : q.size < 10000) (hs : s.size < 10000) :
    ∃ I X1 B1 : ByteArray, B1 ++ q = X1 ∧ X1 ++ s = I ∧ B1.size = 1 ∧ X1.size = 1 + q.size ∧ I.size = 1 + q.size + s.size ∧
      (∀ w : World, (convert 40 9 (.slice (some ⟨w.heap.size, 0, none⟩) 1 1)).run Try.prog (w.alloc (.cells #[.int .u8 (q.size : Int)] 5)) = .ok (.string B1) (w.alloc (.cells #[.int .u8 (q.size : Int)] 5))) ∧
      Hid (mayN I.data.toList = true → mayN s.data.toList = true → ∃ x L, okL (x :: L) ∧ I = mk (enc (x :: L)) ∧ s = mk (enc L)) := by
  have hql : q.data.toList.length = q.size := by rw [Array.length_toList]; rfl
  have hsl : s.data.toList.length = s.size := by rw [Array.length_toList]; rfl
  refine ⟨mk (UInt8.ofNat q.size :: (q.data.toList ++ s.data.toList)), mk (UInt8.ofNat q.size :: q.data.toList), mk [UInt8.ofNat q.size], ?_, ?_, rfl, ?_, ?_, fun w => ?_, Lib.hid (fun hI hm => ?_)⟩
  · exact (congrArg (mk [UInt8.ofNat q.size] ++ ·) (mk_of q).symm).trans (mk_app _ _)
  · exact (congrArg (mk (UInt8.ofNat q.size :: q.data.toList) ++ ·) (mk_of s).symm).trans (mk_app _ _)
  · rw [mk_size, List.length_cons, hql]; omega
  · rw [mk_size, List.length_cons, List.length_append, hql, hsl]; omega
  · refine of_bytes _ w.heap.size 1 [UInt8.ofNat q.size] (fun j hj => ?_)
    have hj0 : j = 0 := by simp at hj; exact hj
    subst hj0
    rw [(Blk.new w 5 #[.int .u8 (q.size : Int)]).cell]
    show some (Value.int .u8 (q.size : Int)) = some (.int .u8 ((UInt8.ofNat q.size).toNat : Int))
    rw [toNat_len h2]
  · obtain ⟨L, hL, e⟩ := may_mk hm
    refine ⟨q.data.toList, L, ⟨fun y hy => ?_, ?_⟩, ?_, e⟩
    · rcases List.mem_cons.1 hy with rfl | hy
      · exact ⟨by omega, by omega⟩
      · exact hL.1 y hy
    · have h3 := hI
      unfold mayN at h3
      rw [Bool.and_eq_true, decide_eq_true_eq, mk_list, List.length_cons, List.length_append] at h3
      have h4 : s.data.toList.length = sz L + 1 := by rw [e, mk_list, enc_len]
      simp only [sz]
      omega
    · rw [enc, hql]
      congr 3
      rw [e, mk_list]
end Go.Proofs.Ytinjfongndlpgaa
