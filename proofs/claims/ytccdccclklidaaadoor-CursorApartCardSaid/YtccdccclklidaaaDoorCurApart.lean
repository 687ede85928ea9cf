/-
  CursorApart: what is put shares nothing with the slice it is put behind, nor with what was put behind it otherwise; for every text of at most 10000 bytes, any room behind it and any two numbers.
-/
import Derived.Test.YtccdccclklidaaaDoorCurPartsM
import Derived.Test.YtccdccclklidaaaDoorCurLaw
import Derived.Test.YtccdccclklidaaaDoorRowW
import Derived.Lib.BufferWrite
import Derived.Deep.CutRange
import Derived.Deep.DeepCutAuto
import Derived.Laws.MakeOwn
namespace Go.Proofs.YtccdccclklidaaaDoor
open Go.RowKit
set_option linter.unusedVariables false
set_option linter.unusedSimpArgs false

theorem bv_cells (l : List UInt8) : Lib.byteCells l = bv l := rfl
theorem conv_at {w : World} {g n c : Nat} {l r : List UInt8} (hl : l.length = n) (h : Blk w g 5 (bv (l ++ r)).toArray) :
    (convert 34 9 (.slice (some ⟨g, 0, none⟩) n c)).run Tryd.prog w = .ok (.string (str l)) w := by
  have := run_convert_bytes_arg (P := Tryd.prog) w 34 5 Tryd.underlying34 Tryd.underlying5 g 0 n c (l.map fun b => (b.toNat : Int)) (by simp [hl]) (fun i hi => by
    have hc := h.cell i
    have hi' : i < (l ++ r).length := by rw [List.length_append]; omega
    have hil : i < l.length := by omega
    rw [Nat.zero_add, hc]
    simp [bv, List.getD_eq_getElem?_getD, hil]
    rw [List.getElem?_append_left (by simpa using hil)]
    simp [hil]) 9 Tryd.underlying9
  rw [strOfNums_bytes] at this
  exact this
theorem str_len (l : List UInt8) : ((str l).size : Int) = (l.length : Int) := by rw [str_size]
theorem first_byte (l r : List UInt8) (h : 0 < (str l).size) : ((bv (l ++ r)).toArray)[0]? = some (.int .u8 ((str l)[0]'h).toNat) := by
  cases l with
  | nil => exact absurd h (by rw [str_size]; simp)
  | cons b t => rfl
theorem w64r (a : Nat) (h : a < 20) : wrap64 (a : Int) = (a : Int) := by unfold wrap64; omega
theorem reads_row {w : World} {g n : Nat} {l r : List UInt8} (hl : l.length = n) (h : Blk w g 5 (bv (l ++ r)).toArray) : Reads w w.heap.size 1 (some ⟨g, 0, none⟩) n (bv l) := by
  refine ⟨by rw [bv_length, hl, Nat.mul_one], fun _ => ⟨_, rfl, h.lt, fun j u hu => ?_⟩⟩
  have hadd : (⟨g, 0, none⟩ : Addr).add j = ⟨g, j, none⟩ := by unfold Addr.add; split <;> simp_all
  rw [hadd, h.cell j, List.getElem?_toArray, bv_append, List.getElem?_append_left (by rw [bv_length]; have := (List.getElem?_eq_some_iff.1 hu).1; rw [bv_length] at this; exact this)]
  exact hu
theorem own_blk' {w : World} {base g n : Nat} {l : List UInt8} (h : w.ownsRow base 5 1 (.slice (some ⟨g, 0, none⟩) n n) n (bv l)) : Blk w g 5 (bv l).toArray := own_full h
theorem sum4 (n : Nat) (k : Nat) (hn : n ≤ 10000) (hk : k ≤ 100) : IntKind.i64.wrap ((n : Int) + k) = (n : Int) + k := IntWalk.i64_in _ (by omega)

set_option maxRecDepth 1000000 in
set_option maxHeartbeats 3200000 in
theorem apart_walk (w : World) (he : ErrT w) (l : List UInt8) (hl : l.length ≤ 10000) (room : Int) (x y : Nat) (hx : x < 4294967296) (hy : y < 4294967296) :
    Calls Tryd.prog 9 #[.string (str l), .int .i64 room, .int .u32 x, .int .u32 y] w fun e w' => e = .returned (.bool true) ∧ Still w w' := by
  obtain ⟨n, hn⟩ : ∃ n, l.length = n := ⟨_, rfl⟩
  have hsz : ((str l).size : Int) = (n : Int) := by rw [str_size, hn]
  have hszn : (str l).size = n := by rw [str_size, hn]
  have h10 : ¬ (10000 : Int) < (n : Int) := by omega
  have hd10 : decide ((10000 : Int) < (n : Int)) = false := decide_eq_false h10
  obtain ⟨U, hU⟩ : ∃ U : Int, IntKind.u64.wrap room = U := ⟨_, rfl⟩
  have hU0 : 0 ≤ U := by rw [← hU, IntKind.wrap_u64]; omega
  obtain ⟨R, hR⟩ : ∃ R : Nat, U.tmod 20 = (R : Int) := ⟨(U % 20).toNat, by rw [Int.tmod_eq_emod_of_nonneg hU0]; omega⟩
  have hR20 : R < 20 := by rw [Int.tmod_eq_emod_of_nonneg hU0] at hR; omega
  have jR : wrap64 (R : Int) = (R : Int) := w64r R hR20
  have iR : IntKind.i64.wrap (R : Int) = (R : Int) := IntWalk.i64_in _ (by omega)
  have hn1 : n ≤ 10000 := by omega
  have y0 := sum4 n R hn1 (by omega)
  have Hn := Lib.hid hn
  obtain ⟨i0, hi, hz0, hz1, hz2⟩ := info_parts info_u8
  clear hU0 hn
  go_enter Tryd.func9, Tryd.ntmps9
  go_wp2_with fail
  refine (cur_awake _ he).mono ?_
  rintro e w0 ⟨rfl, hs0⟩
  have hmk := run_makeSlice (P := Tryd.prog) w0 34 5 i0 (.int .u8 0) Tryd.underlying34 hi hz0 .i64 .i64 (n : Int) ((n : Int) + R) (by omega) (by omega) (by rw [hz1]; omega) (by rw [hz2]; omega) (by omega)
  have ht1 : ((n : Int) + R).toNat = n + R := by omega
  have ht2 : (n : Int).toNat = n := by omega
  rw [ht1, ht2, hz1, Nat.mul_one] at hmk
  have hM : (madeCells #[Value.int .u8 0] (n + R)).toList = bv (List.replicate (n + R) 0) := made_bytes (n + R)
  have hMs : (madeCells #[Value.int .u8 0] (n + R)).size = n + R := by rw [← Array.length_toList, hM, bv_length, List.length_replicate]
  have hB0 := Blk.new w0 5 (madeCells #[Value.int .u8 0] (n + R))
  have hcp := Lib.run_copy_row_string (P := Tryd.prog) (w0.alloc (.cells (madeCells #[Value.int .u8 0] (n + R)) 5)) 34 9 3 5 w0.heap.size 0 n (n + R) (str l) _ 5 Tryd.underlying34 (by kernel_rfl) hB0 (by rw [hszn]; exact Nat.le_refl _) (by rw [hszn, hMs]; omega)
  have hB1 : Blk ((w0.alloc (.cells (madeCells #[Value.int .u8 0] (n + R)) 5)).setRow w0.heap.size ((madeCells #[Value.int .u8 0] (n + R)).toList.take 0 ++ Lib.byteCells (str l).data.toList ++ (madeCells #[Value.int .u8 0] (n + R)).toList.drop (0 + (str l).size)).toArray) w0.heap.size 5 (bv (l ++ List.replicate R 0)).toArray := by
    have h := Blk.setRow_ (cs := ((madeCells #[Value.int .u8 0] (n + R)).toList.take 0 ++ Lib.byteCells (str l).data.toList ++ (madeCells #[Value.int .u8 0] (n + R)).toList.drop (0 + (str l).size)).toArray) hB0
    have e : (madeCells #[Value.int .u8 0] (n + R)).toList.take 0 ++ Lib.byteCells (str l).data.toList ++ (madeCells #[Value.int .u8 0] (n + R)).toList.drop (0 + (str l).size) = bv (l ++ List.replicate R 0) := by
      rw [hM, hszn, str_list, bv_cells, List.take_zero, List.nil_append, Nat.zero_add, bv_append]
      congr 1
      unfold bv
      rw [List.map_replicate, List.drop_replicate, Nat.add_sub_cancel_left, List.map_replicate]
    rw [e] at h ⊢
    exact h
  have hst1 := (hs0.alloc (.cells (madeCells #[Value.int .u8 0] (n + R)) 5)).trans (only_setRow _ w0.heap.size ((madeCells #[Value.int .u8 0] (n + R)).toList.take 0 ++ Lib.byteCells (str l).data.toList ++ (madeCells #[Value.int .u8 0] (n + R)).toList.drop (0 + (str l).size)).toArray) (fun i hi e => by have := hs0.size; omega)
  generalize (w0.alloc (.cells (madeCells #[Value.int .u8 0] (n + R)) 5)).setRow w0.heap.size ((madeCells #[Value.int .u8 0] (n + R)).toList.take 0 ++ Lib.byteCells (str l).data.toList ++ (madeCells #[Value.int .u8 0] (n + R)).toList.drop (0 + (str l).size)).toArray = w1 at *
  have hgo : goInt (str l).size = .int .i64 (n : Int) := by rw [hszn]; rfl
  rw [hgo] at hcp
  have hbw : w.heap.size ≤ w0.heap.size := hs0.size
  clear hM hMs hB0 hs0 hgo
  go_wp2_with fail
  clear hcp hmk ht1 ht2 hU hR jR iR y0 hz0 hz1 hz2 hi
  generalize w0.heap.size = β at *
  have hB := hB1
  have hst := hst1
  clear hB1 hst1
  have hβ := hB.lt
  refine (Put4_any (some ⟨β, 0, none⟩) n (n + R) l _ (reads_row Hn.out hB) (by omega) x hx).mono ?_
  rintro e w2 ⟨gp, rfl, hgp, hown, hs⟩
  have hst := hst.still hs
  have hB := hB.only hs (fun h => h)
  have bp := own_blk' hown
  have lp := bp.lt
  clear hs hown
  go_wp2_with fail
  refine (Put4_any (some ⟨β, 0, none⟩) n (n + R) l _ (reads_row Hn.out hB) (by omega) y hy).mono ?_
  rintro e w3 ⟨gq, rfl, hgq, hown, hs⟩
  have hst := hst.still hs
  have hB := hB.only hs (fun h => h)
  have bp := bp.only hs (fun h => h)
  have bq := own_blk' hown
  have lq := bq.lt
  clear hs hown
  go_wp2_with fail
  refine (Put1_any (some ⟨β, 0, none⟩) n (n + R) l _ (reads_row Hn.out hB) (by omega) 7 (by omega)).mono ?_
  rintro e w4 ⟨gu, rfl, hgu, hown, hs⟩
  have hst := hst.still hs
  have hB := hB.only hs (fun h => h)
  have bp := bp.only hs (fun h => h)
  have bq := bq.only hs (fun h => h)
  have bu := own_blk' hown
  have lu := bu.lt
  clear hs hown
  go_wp2_with fail
  refine (Put2_any (some ⟨β, 0, none⟩) n (n + R) l _ (reads_row Hn.out hB) (by omega) 9 (by omega)).mono ?_
  rintro e w5 ⟨gv, rfl, hgv, hown, hs⟩
  have hst := hst.still hs
  have hB := hB.only hs (fun h => h)
  have bp := bp.only hs (fun h => h)
  have bq := bq.only hs (fun h => h)
  have bu := bu.only hs (fun h => h)
  have bv := own_blk' hown
  have lv := bv.lt
  clear hs hown
  have z4 : IntKind.i64.wrap ((n : Int) + 4) = (n : Int) + 4 := sum4 n 4 hn1 (by omega)
  have z1 : IntKind.i64.wrap ((n : Int) + 1) = (n : Int) + 1 := sum4 n 1 hn1 (by omega)
  have z2 : IntKind.i64.wrap ((n : Int) + 2) = (n : Int) + 2 := sum4 n 2 hn1 (by omega)
  have cq : (convert 34 9 (.slice (some ⟨gq, 0, none⟩) (n + 4) (n + 4))).run Tryd.prog w5 = .ok (.string (str (l ++ beB 4 y))) w5 := conv_at (r := []) (by rw [List.length_append, Hn.out, beB_length]) (by rw [List.append_nil]; exact bq)
  go_wp2_with fail
  clear z4 z2 cq
  go_loopw [15] (fun i wr => ∃ (k : Nat) (cs : Array Value), k ≤ n + 4 ∧ i = .int .i64 k ∧ cs.size = n + 4 ∧ Blk wr gp 5 cs ∧ Hid (Only (· = gp) w5 wr)) (fun i _ => n + 4 - (intOf i).toNat)
  case atStart => exact ⟨0, _, by omega, rfl, by simp [bv_length, Hn.out, beB_length], bp, Lib.hid (Only.refl _ _)⟩
  case round =>
    clear bp
    obtain ⟨k, cs, hk, rfl, hcs, hbp, ho⟩ := hrel
    by_cases hlt : k < n + 4
    · have hkk : (k : Int) < (n : Int) + 4 := by omega
      obtain ⟨vc, hc⟩ : ∃ v, wr.cell? ⟨gp, k, none⟩ = some v := ⟨_, by rw [hbp.cell k]; exact Array.getElem?_eq_getElem (by omega)⟩
      have hf := hbp.frozen k
      have hb2 := hbp.set_ k (.int .u8 99)
      have ho2 : Hid (Only (· = gp) w5 (wr.setCell ⟨gp, k, none⟩ (.int .u8 99))) := Lib.hid (ho.out.setCell (p := ⟨gp, k, none⟩) (.inl rfl) _)
      have hcs2 : (cs.setIfInBounds k (.int .u8 99)).size = n + 4 := by rw [Array.size_setIfInBounds]; exact hcs
      have Hcs := Lib.hid hcs2
      clear hcs hcs2
      go_wp2_with fail
      go_roundw
      case rel => exact ⟨k + 1, _, by omega, by go_num, Hcs.out, hb2, ho2⟩
      case measure => simp [intOf]; omega
    · obtain rfl : k = n + 4 := by omega
      have ho := ho.out
      have hB := hB.only ho (by omega)
      have bq := bq.only ho (by omega)
      have bu := bu.only ho (by omega)
      have bv_ := bv.only ho (by omega)
      have hst := hst.trans ho (fun i hi e => by omega)
      have cu : wr.cell? ⟨gu, n, none⟩ = some (.int .u8 7) := by rw [bu.cell n]; simp [YtccdccclklidaaaDoor.bv, Hn.out, beB]
      have fu := bu.frozen n
      have hst := hst.setCell (p := ⟨gu, n, none⟩) (.inr (by show w.heap.size ≤ gu; omega)) (.int .u8 98)
      have hB := hB.far (p := ⟨gu, n, none⟩) (by show β ≠ gu; omega) (.int .u8 98)
      have bq := bq.far (p := ⟨gu, n, none⟩) (by show gq ≠ gu; omega) (.int .u8 98)
      have bw := bv_.far (p := ⟨gu, n, none⟩) (by show gv ≠ gu; omega) (.int .u8 98)
      go_wp2_with fail
      generalize wr.setCell ⟨gu, n, none⟩ (.int .u8 98) = w7 at *
      clear cu fu bu ho hbp bv_ z1
      have c1 : ∀ k, (convert 34 9 (.slice (some ⟨β, 0, none⟩) n (n + R))).run Tryd.prog (w7.drewN k) = .ok (.string (str l)) (w7.drewN k) := fun k => conv_at Hn.out (hB.drewN k)
      have c2 : ∀ k, (convert 34 9 (.slice (some ⟨gq, 0, none⟩) (n + 4) (n + 4))).run Tryd.prog (w7.drewN k) = .ok (.string (str (l ++ beB 4 y))) (w7.drewN k) := fun k => conv_at (r := []) (by rw [List.length_append, Hn.out, beB_length]) (by rw [List.append_nil]; exact bq.drewN k)
      have c3 : ∀ k, (convert 34 9 (.slice (some ⟨gv, 0, none⟩) n (n + 2))).run Tryd.prog (w7.drewN k) = .ok (.string (str l)) (w7.drewN k) := fun k => conv_at (r := beB 2 9) Hn.out (bw.drewN k)
      have u0 : (0 : Int) ≤ (n : Int) := by omega
      have u1 : (n : Int) ≤ ((n + 2 : Nat) : Int) := by omega
      by_cases h0 : n = 0
      · have e0 : ((n : Int) == 0) = true := beq_iff_eq.2 (by omega)
        clear h0
        go_quiet (fail)
        go_wp2_with fail
        go_ret
        exact ⟨rfl, hst.drewN _⟩
      · have e0 : ((n : Int) == 0) = false := beq_eq_false_iff_ne.2 (by omega)
        have e1 : (0 : Int) < (n : Int) := by omega
        have e2 : 0 < n := by omega
        have e3 : 0 < (str l).size := by omega
        have hq0 : w7.cell? ⟨gq, 0, none⟩ = some (.int .u8 ((str l)[0]'e3).toNat) := by
          rw [bq.cell 0]
          exact first_byte l _ e3
        clear h0
        go_quiet (fail)
        go_wp2_with fail
        go_ret
        exact ⟨rfl, hst.drewN _⟩
set_option maxRecDepth 100000 in
theorem apart_long (w : World) (he : ErrT w) (s : ByteArray) (hs : 10000 < s.size) (room : Int) (x y : Int) :
    Calls Tryd.prog 9 #[.string s, .int .i64 room, .int .u32 x, .int .u32 y] w fun e w' => e = .returned (.bool true) ∧ Still w w' := by
  have h20 : (10000 : Int) < (s.size : Int) := by omega
  go_enter Tryd.func9, Tryd.ntmps9
  go_wp2_with fail
  refine (cur_awake _ he).mono ?_
  rintro e w0 ⟨rfl, hs0⟩
  go_wp2_with fail
  go_ret
  exact ⟨rfl, hs0⟩
theorem apart_all (w : World) (s : ByteArray) (ws : s.size ≤ maxLen) (room : Int) (w1 : (Lit.int .i64 room).wf = true) (x : Int) (w2 : (Lit.int .u32 x).wf = true) (y : Int) (w3 : (Lit.int .u32 y).wf = true) (he : ErrT w) :
    Calls Tryd.prog 9 #[.string s, .int .i64 room, .int .u32 x, .int .u32 y] w fun e w' => e = .returned (.bool true) ∧ Still w w' := by
  rcases Nat.lt_or_ge 10000 s.size with h | h
  · exact apart_long w he s h room x y
  · have b2 := wf_u32 w2
    have b3 := wf_u32 w3
    obtain ⟨X, rfl⟩ : ∃ X : Nat, x = (X : Int) := ⟨x.toNat, by omega⟩
    obtain ⟨Y, rfl⟩ : ∃ Y : Nat, y = (Y : Int) := ⟨y.toNat, by omega⟩
    have hl : s.data.toList.length = s.size := by rw [Array.length_toList]; rfl
    have := apart_walk w he s.data.toList (by omega) room X Y (by omega) (by omega)
    rw [str_of] at this
    exact this
end Go.Proofs.YtccdccclklidaaaDoor
