/-
  Package repute: May, spares.
-/
import Derived.Test.YtdcogjlcbdkdcaaDoorRep
namespace Go.Proofs.YtdcogjlcbdkdcaaDoor
open Go.RowKit
set_option linter.unusedVariables false

def up0 : Up := ⟨0, 0, 0, 0, false, 0, false⟩
def mayK (us : List Up) (k : Nat) : List Int := ((List.range k).filter (fun i => !((us[i]?).getD up0).rests)).map (fun (i : Nat) => (i : Int))
def mayL (us : List Up) : List Int := mayK us us.length
theorem mayK_in {us : List Up} {k : Nat} {u : Up} (h : us[k]? = some u) (hr : u.rests = false) : mayK us (k + 1) = mayK us k ++ [(k : Int)] := by
  unfold mayK
  rw [List.range_succ, List.filter_append, List.map_append, List.filter_cons, h]
  simp [hr]
theorem mayK_out {us : List Up} {k : Nat} {u : Up} (h : us[k]? = some u) (hr : u.rests = true) : mayK us (k + 1) = mayK us k := by
  unfold mayK
  rw [List.range_succ, List.filter_append, List.map_append, List.filter_cons, h]
  simp [hr]
theorem mayK_le (us : List Up) (k : Nat) : (mayK us k).length ≤ k := by
  unfold mayK
  rw [List.length_map]
  exact Nat.le_trans (List.length_filter_le _ _) (by simp)
theorem reads_made (w : World) (e : TypeId) (kd : IntKind) (xs : List Int) (n : Nat) (hn : xs.length = n) : Reads (w.alloc (.cells (xs.map (Value.int kd)).toArray e)) (w.heap.size + 1) 1 (some ⟨w.heap.size, 0, none⟩) n (xs.map (.int kd)) := by
  refine ⟨by simp [hn], fun _ => ⟨_, rfl, by simp, fun j u hu => ?_⟩⟩
  have hadd : (⟨w.heap.size, 0, none⟩ : Addr).add j = ⟨w.heap.size, j, none⟩ := by unfold Addr.add; split <;> simp_all
  rw [hadd, (Blk.new w e _).cell j]
  simpa using hu
theorem info_int : (Tryd.prog.info? 3).map (fun i => (i.zero, i.size, i.bytes)) = some (some (.int .i64 0), 1, 8) := by kernel_rfl

section
variable {w : World} {g b n c : Nat} {lim rst : Int} {us : List Up}

/-- All seven cells of an upstream, as the walk spells their places. -/
theorem Bk.seven (h : Bk w g b n c lim rst us) {i : Nat} {u : Up} (hi : us[i]? = some u) :
    w.cell? ⟨b, i * 7, none⟩ = some (.int .i64 u.score) ∧ w.cell? ⟨b, i * 7 + 1, none⟩ = some (.int .i64 u.ag) ∧ w.cell? ⟨b, i * 7 + 2, none⟩ = some (.int .i64 u.ds) ∧ w.cell? ⟨b, i * 7 + 3, none⟩ = some (.int .i64 u.si) ∧
    w.cell? ⟨b, i * 7 + 4, none⟩ = some (.bool u.rests) ∧ w.cell? ⟨b, i * 7 + 5, none⟩ = some (.int .i64 u.til) ∧ w.cell? ⟨b, i * 7 + 6, none⟩ = some (.bool u.trial) :=
  ⟨h.at_ hi 0 rfl, h.at_ hi 1 rfl, h.at_ hi 2 rfl, h.at_ hi 3 rfl, h.at_ hi 4 rfl, h.at_ hi 5 rfl, h.at_ hi 6 rfl⟩

set_option maxRecDepth 1000000 in
set_option maxHeartbeats 6400000 in
theorem may_any (h : Bk w g b n c lim rst us) (hn : n ≤ 9) :
    Calls Tryd.prog 24 #[.pointer (some ⟨g, 0, none⟩)] w fun e w' => ∃ A cc, e = .returned (.slice A (mayL us).length cc) ∧ w'.ownsRow w.heap.size 3 1 (.slice A (mayL us).length cc) (mayL us).length ((mayL us).map (.int .i64)) ∧ Still w w' := by
  have c0 := h.blk.cell 0
  simp at c0
  obtain ⟨i0, hi, hz0, hz1, hz2⟩ := info_parts info_int
  go_enter Tryd.func24, Tryd.ntmps24
  go_wp2_with fail
  go_loopw [3, 13] (fun v i wr => ∃ k : Nat, k ≤ n ∧ i = .int .i64 k ∧ wr.ownsRow w.heap.size 3 1 v (mayK us k).length ((mayK us k).map (.int .i64)) ∧ Hid (Still w wr)) (fun _ i _ => n - (intOf i).toNat)
  case atStart => exact ⟨0, by omega, rfl, World.ownsRow_nil _ _ _ _, Lib.hid (Only.refl _ _)⟩
  case round =>
    obtain ⟨k, hk, rfl, hown, hst⟩ := hrel
    have hbr := h.still hst.out
    obtain ⟨A, cc, rfl⟩ := own_shape hown
    have hle := mayK_le us k
    have hsz := hst.out.size
    by_cases hlt : k < n
    · obtain ⟨u, hu⟩ := h.get hlt
      obtain ⟨k0, k1, k2, k3, k4, k5, k6⟩ := hbr.seven hu
      rcases hr : u.rests with _ | _
      · have hsn := mayK_in hu hr
        rw [hr] at k4
        have Hsn := Lib.hid hsn
        have hp0 := hown.alloc (.cells #[.int .i64 u.score, .int .i64 u.ag, .int .i64 u.ds, .int .i64 u.si, .bool false, .int .i64 u.til, .bool u.trial] 81)
        have hp1 := hp0.alloc (.cells #[.int .i64 k] 3)
        have hrd := reads_made (wr.alloc (.cells #[.int .i64 u.score, .int .i64 u.ag, .int .i64 u.ds, .int .i64 u.si, .bool false, .int .i64 u.til, .bool u.trial] 81)) 3 .i64 [(k : Int)] 1 rfl
        rw [show (wr.alloc (.cells #[.int .i64 u.score, .int .i64 u.ag, .int .i64 u.ds, .int .i64 u.si, .bool false, .int .i64 u.til, .bool u.trial] 81)).heap.size = wr.heap.size + 1 by simp] at hrd
        clear hsn hu hr
        go_wp2_with (at_builtin; refine wpList_append_any _ rfl (.tmp 21) (.tmp 23) 37 rfl w.heap.size 3 i0 (.int .i64 0) 1 8 Tryd.underlying37 hi hz0 hz1 hz2 rfl (by decide) _ _ _ rfl hp1 _ (some _) 1 1 _ rfl hrd ?c1 ?c2 ?c3 ?c4 ?_)
        case c1 => intro v hv; simp at hv; subst hv; rfl
        case c2 => unfold maxLen; omega
        case c3 => omega
        case c4 => simp; omega
        intro v' w' hown' hgrow hblk
        have hst' : Still w w' := ((hst.out.alloc _).alloc _).grown hgrow (fun k hk => .inr (hown.lt k hk).1)
        obtain ⟨A', c', hv⟩ := own_shape hown'
        subst hv
        go_wp2_with fail
        go_roundw
        case rel =>
          refine ⟨k + 1, by omega, by go_num, ?_, Lib.hid hst'⟩
          rw [Hsn.out, List.length_append, List.map_append]
          exact hown'
        case measure => simp [intOf]; omega
      · have hsn := mayK_out hu hr
        rw [hr] at k4
        have Hsn := Lib.hid hsn
        clear hsn hu hr
        go_wp2_with fail
        go_roundw
        case rel => exact ⟨k + 1, by omega, by go_num, by rw [Hsn.out]; exact hown.alloc _, Lib.hid (hst.out.alloc _)⟩
        case measure => simp [intOf]; omega
    · obtain rfl : k = n := by omega
      have hm : mayK us k = mayL us := by unfold mayL; rw [h.len]
      rw [hm] at hown
      rw [hm]
      have hM : ∃ M, M = mayL us := ⟨_, rfl⟩
      obtain ⟨M, hM⟩ := hM
      rw [← hM] at hown
      rw [← hM]
      have HM := Lib.hid hM
      clear hM hm
      go_wp2_with fail
      go_ret
      rw [← HM.out]
      exact ⟨A, cc, rfl, hown, hst.out⟩
end
end Go.Proofs.YtdcogjlcbdkdcaaDoor
