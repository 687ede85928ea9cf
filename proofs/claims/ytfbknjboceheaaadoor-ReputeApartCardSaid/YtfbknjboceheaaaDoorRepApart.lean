/-
  ReputeApart: what is done with a copy changes nothing of the book, and the other way about.
-/
import Derived.Test.YtfbknjboceheaaaDoorRepMd
import Derived.Test.YtfbknjboceheaaaDoorRepOf
import Derived.Test.YtfbknjboceheaaaDoorTake
namespace Go.Proofs.YtfbknjboceheaaaDoor
open Go.RowKit
set_option linter.unusedVariables false
set_option linter.unusedSimpArgs false

def ofC (u : Up) : List Value := [.int .i64 u.score, .int .i64 u.ag, .int .i64 u.ds, .int .i64 u.si, .bool u.rests, .bool u.trial, .int .i64 0]
def ofRows (us : List Up) : List Value := (us.map ofC).flatten
theorem ofRows_at {us : List Up} {i : Nat} {u : Up} (h : us[i]? = some u) (j : Nat) (hj : j < 7) : (ofRows us)[i * 7 + j]? = (ofC u)[j]? := by
  unfold ofRows
  rw [flatten_getElem? _ i j (by intro r hr; obtain ⟨u, _, rfl⟩ := List.mem_map.1 hr; rfl) hj, List.getElem?_map, h]
  rfl
theorem ofRows_snoc {us : List Up} {k : Nat} {u : Up} (h : us[k]? = some u) : ofRows (us.take (k + 1)) = ofRows (us.take k) ++ ofC u := by
  unfold ofRows
  rw [List.take_add_one, h, List.map_append, List.flatten_append]
  simp
def zone : Value := .agg #[.int .i64 0, .int .i64 0, .int .i64 0, .int .i64 0, .bool false, .bool false, .int .i64 0]
theorem info_one : (Tryd.prog.info? 45).map (fun i => (i.zero, i.size, i.bytes)) = some (some zone, 7, 48) := by kernel_rfl
theorem ofC_one (u : Up) : ∀ v ∈ ofC u, v.oneCell' = true := by
  intro v hv
  simp [ofC] at hv
  rcases hv with rfl | rfl | rfl | rfl | rfl | rfl | rfl <;> rfl
theorem Live.base {w0 w1 w : World} {g b n c : Nat} {lim rst : Int} {us : List Up} (h : Live w1 w g b n c lim rst us) (hs : Still w0 w1) (hg : Gains w0) : Live w0 w g b n c lim rst us :=
  ⟨h.bk, h.ok, hg, h.us, Nat.le_trans hs.size h.g0, Nat.le_trans hs.size h.b0, hs.still h.st⟩

theorem Live.only_ {w0 w w' : World} {g b n c : Nat} {lim rst : Int} {us : List Up} {B : Nat} (h : Live w0 w g b n c lim rst us) (ho : Only (· = B) w w') (hg : g ≠ B) (hb : b ≠ B) (hB : w0.heap.size ≤ B := by omega) : Live w0 w' g b n c lim rst us :=
  ⟨h.bk.only ho hg hb, h.ok, h.gains, h.us, h.g0, h.b0, h.st.trans ho (fun i hi e => by omega)⟩
set_option maxRecDepth 1000000 in
set_option maxHeartbeats 6400000 in
theorem apart_walk (w : World) (hg : Gains w) (a b c : Int) (C : Option Addr) (m cc : Nat) (l : List A3) (hm : m ≤ maxLen) (hl : l.length = m) (hr : Reads w w.heap.size 3 C m (a3Cells l))
    (D : Option Addr) (m2 dc : Nat) (l2 : List A3) (hm2 : m2 ≤ maxLen) (hl2 : l2.length = m2) (hq : Reads w w.heap.size 3 D m2 (a3Cells l2)) :
    Calls Tryd.prog 8 #[.int .i64 a, .int .i64 b, .int .i64 c, .slice C m cc, .slice D m2 dc] w fun e w' => e = .returned (.bool true) ∧ Still w w' := by
  by_cases p1 : (300 : Int) < (m : Int)
  · have q1 := decide_eq_true p1
    go_enter Tryd.func8, Tryd.ntmps8
    go_wp2_with fail
    refine (rep_awake _ hg).mono ?_
    rintro e w1 ⟨rfl, hs⟩
    go_wp2_with fail
    go_ret
    exact ⟨rfl, hs⟩
  · have q1 := decide_eq_false p1
    by_cases p2 : (300 : Int) < (m2 : Int)
    · have q2 := decide_eq_true p2
      go_enter Tryd.func8, Tryd.ntmps8
      go_wp2_with fail
      refine (rep_awake _ hg).mono ?_
      rintro e w1 ⟨rfl, hs⟩
      go_wp2_with fail
      go_ret
      exact ⟨rfl, hs⟩
    · have q2 := decide_eq_false p2
      have Hl := Lib.hid hl
      have Hl2 := Lib.hid hl2
      clear hl hl2
      obtain ⟨i0, hi, hz0, hz1, hz2⟩ := info_parts info_one
      go_enter Tryd.func8, Tryd.ntmps8
      go_wp2_with fail
      refine (rep_awake _ hg).mono ?_
      rintro e w1 ⟨rfl, hs1⟩
      have hg1 := hg.still hs1
      have hr1 := hr.only hs1 (Nat.le_refl _) (fun _ _ h => h)
      have hq1 := hq.only hs1 (Nat.le_refl _) (fun _ _ h => h)
      clear hr hq
      go_wp2_with fail
      refine (made_live w1 hg1 a b c C m cc l (by omega) Hl.out (hr1.more hs1.size)).mono ?_
      rintro e w2 ⟨G, B, n, lim, rst, rfl, hodd, h2⟩
      generalize acts3 lim rst n (List.replicate n up1) l = us at *
      have hq2 := hq1.only h2.st hs1.size (fun _ _ h => h)
      have n9 := h2.ok.n9
      have n1 := h2.ok.n1
      have hg2 := hg1.still h2.st
      clear hr1 hq1
      have b2 := h2.bk.blt
      have g2 := h2.bk.lt
      have w12 := h2.st.size
      have w01 := hs1.size
      go_wp2_with fail
      refine (Copy_any h2.bk n9 n1).mono ?_
      rintro e w3 ⟨G', B', c', rfl, hG, hB, hk3, hs3⟩
      have h3 := h2.still hs3
      have hc3 : Live w1 w3 G' B' n c' lim rst us := ⟨hk3, h2.ok, hg1, h2.us, Nat.le_trans h2.st.size hG, Nat.le_trans h2.st.size hB, h2.st.still hs3⟩
      have hq3 := hq2.only hs3 (by omega) (fun _ _ h => h)
      have b3 := hk3.blt
      have g3 := hk3.lt
      have w23 := hs3.size
      clear h2 hk3 hs3 hq2 hg2
      go_wp2_with fail
      go_loopw [16, 17] (fun v i wr => ∃ k : Nat, k ≤ n ∧ i = .int .i64 k ∧ wr.ownsRow w3.heap.size 45 7 v k (ofRows (us.take k)) ∧ Hid (Still w3 wr)) (fun _ i _ => n - (intOf i).toNat)
      case atStart => exact ⟨0, by omega, rfl, World.ownsRow_nil _ _ _ _, Lib.hid (Only.refl _ _)⟩
      case round =>
        obtain ⟨k, hk, rfl, hown, hst⟩ := hrel
        obtain ⟨A, ca, rfl⟩ := own_shape hown
        by_cases hlt : k < n
        · have h4 := h3.still hst.out
          obtain ⟨x, hx⟩ := h4.bk.get hlt
          have Hsn := Lib.hid (ofRows_snoc hx)
          go_wp2_with fail
          refine (of_in h4.bk k hx).mono ?_
          rintro e w5 ⟨rfl, hs5⟩
          have hst5 := hst.out.still hs5
          have hown5 := own_only hown hs5 (fun _ _ h => h)
          have hp1 := hown5.alloc (.cells (ofA x) 45)
          have hrd := Reads.of_own (World.ownsRow_lit (e := 45) (size := 7) (base := 0) w5 (ofA x) 1 (Nat.zero_le _) (by unfold maxLen; omega) rfl)
          have hsz := hst5.size
          have hst6 := hst5.alloc (.cells (ofA x) 45)
          clear hx h4 hst hown hown5 hs5
          rw [show (ofA x).toList = ofC x from rfl] at hrd
          unfold ofA at hp1 hrd hst6 ⊢
          go_wp2_with (at_builtin; refine wpList_append_any _ rfl (.tmp 52) (.tmp 56) 59 rfl w3.heap.size 45 i0 zone 7 48 Tryd.underlying59 hi hz0 hz1 hz2 rfl (by decide) _ _ _ rfl hp1 _ (some _) 1 1 _ rfl hrd ?c1 ?c2 ?c3 ?c4 ?_)
          case c1 => exact ofC_one x
          case c2 => unfold maxLen; omega
          case c3 => omega
          case c4 => simp; omega
          intro v' w' hown' hgrow hblk
          have hst' := hst6.grown hgrow (fun q hq => .inr (hp1.lt q hq).1)
          obtain ⟨A', c'', hv⟩ := own_shape hown'
          subst hv
          go_wp2_with fail
          go_roundw
          case rel => exact ⟨k + 1, by omega, by go_num, by rw [Hsn.out]; exact hown', Lib.hid hst'⟩
          case measure => simp [intOf] <;> omega
        · obtain rfl : n = k := by omega
          rw [List.take_of_length_le (by rw [h3.bk.len]; exact Nat.le_refl _)] at hown
          have h4 := h3.still hst.out
          have hc4 := hc3.still hst.out
          have hq4 := hq3.only hst.out (by omega) (fun _ _ h => h)
          have w34 := hst.out.size
          clear h3 hc3 hq3 hst
          go_wp2_with fail
          go_loopw [18] (fun i wr => ∃ k : Nat, k ≤ m2 ∧ i = .int .i64 k ∧ wr.ownsRow w3.heap.size 45 7 (.slice A n ca) n (ofRows us) ∧ Live w1 wr G B n n lim rst us ∧ Live w1 wr G' B' n c' lim rst (acts3 lim rst n us (l2.take k)) ∧ Reads wr w.heap.size 3 D m2 (a3Cells l2)) (fun i _ => m2 - (intOf i).toNat)
          case atStart => exact ⟨0, by omega, rfl, hown, h4, hc4, hq4⟩
          case round =>
            clear hown h4 hc4 hq4
            obtain ⟨k, hk, rfl, hown, h4, hc4, hq4⟩ := hrel
            by_cases hlt : k < m2
            · obtain ⟨bl, off, x1, x2, x3, rfl, hbl, hlk, c0, c1, c2⟩ := a3_cells hq4 Hl2.out hlt
              have Hnext := Lib.hid (acts3_snoc (lim := lim) (rst := rst) (n := n) (us := us) hlk)
              clear hlk
              generalize acts3 lim rst n us (l2.take k) = vs at *
              go_wp2_with fail
              refine (does_live hc4 x1 x2 x3).mono ?_
              rintro e w5 ⟨rfl, hc5, o5⟩
              have h5 := h4.only_ o5 (by omega) (by omega)
              have w14 := h4.st.size
              have hq5 := hq4.only o5 (by omega) (fun i hi e => by omega)
              have hown5 := own_only hown o5 (fun q hq e => by have := (hown.lt q hq).1; have e' : q = B' := e; omega)
              clear hc4 h4 hq4 hown o5 c0 c1 c2
              go_wp2_with fail
              go_roundw
              case rel => exact ⟨k + 1, by omega, by go_num, hown5, h5, by rw [Hnext.out]; exact hc5, hq5⟩
              case measure => simp [intOf] <;> omega
            · obtain rfl : m2 = k := by omega
              rw [List.take_of_length_le (by rw [Hl2.out]; exact Nat.le_refl _)] at hc4
              go_wp2_with fail
              go_loopw [19] (fun i wr => ∃ k : Nat, k ≤ n ∧ i = .int .i64 k ∧ wr.ownsRow w3.heap.size 45 7 (.slice A n ca) n (ofRows us) ∧ Live w1 wr G B n n lim rst us ∧ Live w1 wr G' B' n c' lim rst (acts3 lim rst n us l2) ∧ Reads wr w.heap.size 3 D m2 (a3Cells l2)) (fun i _ => n - (intOf i).toNat)
              case atStart => exact ⟨0, by omega, rfl, hown, h4, hc4, hq4⟩
              case round =>
                rename_i wr
                clear hown h4 hc4 hq4
                obtain ⟨k, hk, rfl, hown, h4, hc4, hq4⟩ := hrel
                have w14 := h4.st.size
                by_cases hlt : k < n
                · obtain ⟨x, hx⟩ := h4.bk.get hlt
                  have hd := h4.bk.drew
                  have hbw : ∃ bw, A = some ⟨bw, 0, none⟩ := by
                    rcases hown.2 with ⟨_, h0⟩ | ⟨bw, cap, cur, hv, _⟩
                    · omega
                    · injection hv with hA
                      exact ⟨bw, hA⟩
                  obtain ⟨bw, rfl⟩ := hbw
                  have hcs := hown.cells (g := bw) rfl
                  have f0 : wr.cell? ⟨bw, k * 7, none⟩ = some (.int .i64 x.score) := by
                    have h := hcs _ _ (ofRows_at hx 0 (by omega))
                    rw [add_none] at h
                    simpa using h
                  have f1 : wr.cell? ⟨bw, k * 7 + 1, none⟩ = some (.int .i64 x.ag) := by
                    have h := hcs _ _ (ofRows_at hx 1 (by omega))
                    rw [add_none] at h
                    simpa using h
                  have f2 : wr.cell? ⟨bw, k * 7 + 2, none⟩ = some (.int .i64 x.ds) := by
                    have h := hcs _ _ (ofRows_at hx 2 (by omega))
                    rw [add_none] at h
                    simpa using h
                  have f3 : wr.cell? ⟨bw, k * 7 + 3, none⟩ = some (.int .i64 x.si) := by
                    have h := hcs _ _ (ofRows_at hx 3 (by omega))
                    rw [add_none] at h
                    simpa using h
                  have f4 : wr.cell? ⟨bw, k * 7 + 4, none⟩ = some (.bool x.rests) := by
                    have h := hcs _ _ (ofRows_at hx 4 (by omega))
                    rw [add_none] at h
                    simpa using h
                  have f5 : wr.cell? ⟨bw, k * 7 + 5, none⟩ = some (.bool x.trial) := by
                    have h := hcs _ _ (ofRows_at hx 5 (by omega))
                    rw [add_none] at h
                    simpa using h
                  have f6 : wr.cell? ⟨bw, k * 7 + 6, none⟩ = some (.int .i64 0) := by
                    have h := hcs _ _ (ofRows_at hx 6 (by omega))
                    rw [add_none] at h
                    simpa using h
                  clear hcs
                  go_wp2_with fail
                  refine wp_region_held_drew (S := fun w' => Still wr w') (by kernel_rfl) (Only.refl (fun _ => False) wr).drew (fun hS => ?_)
                  (refine take_p (i := 0) (v := ?_) rfl (by kernel_rfl) (by kernel_rfl) (by kernel_rfl) (fun _ _ _ h => h) (Or.inl ⟨by rfl, ?_⟩) hS ?_; rotate_left; (focus (intro w0 hSw; go_simp; try with_reducible rfl)); try simp only [Act.put, List.setIfInBounds_toArray, List.set_cons_zero, List.set_cons_succ])
                  (refine take_p (i := 1) (v := ?_) rfl (by kernel_rfl) (by kernel_rfl) (by kernel_rfl) (fun _ _ _ h => h) (Or.inl ⟨by rfl, ?_⟩) hS ?_; rotate_left; (focus (intro w0 hSw; go_simp; try with_reducible rfl)); try simp only [Act.put, List.setIfInBounds_toArray, List.set_cons_zero, List.set_cons_succ])
                  (refine take_p (i := 3) (v := ?_) rfl (by kernel_rfl) (by kernel_rfl) (by kernel_rfl) (fun _ _ _ h => h) (Or.inl ⟨by rfl, ?_⟩) hS ?_; rotate_left; (focus (intro w0 hSw; go_simp; try with_reducible rfl)); try simp only [Act.put, List.setIfInBounds_toArray, List.set_cons_zero, List.set_cons_succ])
                  (refine take_p (i := 4) (v := ?_) rfl (by kernel_rfl) (by kernel_rfl) (by kernel_rfl) (fun _ _ _ h => h) (Or.inl ⟨by rfl, ?_⟩) hS ?_; rotate_left; (focus (intro w0 hSw; go_simp; try with_reducible rfl)); try simp only [Act.put, List.setIfInBounds_toArray, List.set_cons_zero, List.set_cons_succ])
                  (refine take_p (i := 5) (v := ?_) rfl (by kernel_rfl) (by kernel_rfl) (by kernel_rfl) (fun _ _ _ h => h) (Or.inl ⟨by rfl, ?_⟩) hS ?_; rotate_left; (focus (intro w0 hSw; go_simp; try with_reducible rfl)); try simp only [Act.put, List.setIfInBounds_toArray, List.set_cons_zero, List.set_cons_succ])
                  (refine take_p (i := 6) (v := ?_) rfl (by kernel_rfl) (by kernel_rfl) (by kernel_rfl) (fun _ _ _ h => h) (Or.inl ⟨by rfl, ?_⟩) hS ?_; rotate_left; (focus (intro w0 hSw; have s0_ := hSw.cell_some (fun h => h) f0; have s1_ := hSw.cell_some (fun h => h) f1; have s2_ := hSw.cell_some (fun h => h) f2; have s3_ := hSw.cell_some (fun h => h) f3; have s4_ := hSw.cell_some (fun h => h) f4; have s5_ := hSw.cell_some (fun h => h) f5; have s6_ := hSw.cell_some (fun h => h) f6; go_simp; try with_reducible rfl)); try simp only [Act.put, List.setIfInBounds_toArray, List.set_cons_zero, List.set_cons_succ])
                  refine wpAnyH_ready (rs := [2]) (by kernel_rfl) (by simp) ?_
                  refine cons_p rfl (fun K hK => ?_) AllReadyH.nil
                  go_simp
                  refine (of_in hd k hx).mono ?_
                  rintro e w9 ⟨rfl, hs9⟩
                  unfold ofA
                  have hS := hS.still hs9
                  refine hK.out _ _ hS (fun hHeld => ?_)
                  clear hK K hHeld
                  try simp only [Act.put, List.setIfInBounds_toArray, List.set_cons_zero, List.set_cons_succ]
                  (refine take_p (i := 7) (v := ?_) rfl (by kernel_rfl) (by kernel_rfl) (by kernel_rfl) (fun _ _ _ h => h) (Or.inl ⟨by rfl, ?_⟩) hS ?_; rotate_left; (focus (intro w0 hSw; go_simp; try with_reducible rfl)); try simp only [Act.put, List.setIfInBounds_toArray, List.set_cons_zero, List.set_cons_succ])
                  refine wpAnyH_done (by kernel_rfl) ?_ _
                  go_wp2_with fail
                  go_roundw
                  case rel => exact ⟨k + 1, by omega, by go_num, own_only hown hS (fun _ _ h => h), h4.still hS, hc4.still hS, hq4.only hS (by omega) (fun _ _ h => h)⟩
                  case measure => simp [intOf] <;> omega
                · obtain rfl : n = k := by omega
                  clear hown
                  go_wp2_with fail
                  go_loopw [20] (fun i wr => ∃ k : Nat, k ≤ m2 ∧ i = .int .i64 k ∧ Live w1 wr G B n n lim rst (acts3 lim rst n us (l2.take k)) ∧ Live w1 wr G' B' n c' lim rst (acts3 lim rst n us l2) ∧ Reads wr w.heap.size 3 D m2 (a3Cells l2)) (fun i _ => m2 - (intOf i).toNat)
                  case atStart => exact ⟨0, by omega, rfl, h4, hc4, hq4⟩
                  case round =>
                    clear h4 hc4 hq4
                    obtain ⟨k, hk, rfl, h4, hc4, hq4⟩ := hrel
                    by_cases hlt : k < m2
                    · obtain ⟨bl, off, x1, x2, x3, rfl, hbl, hlk, c0, c1, c2⟩ := a3_cells hq4 Hl2.out hlt
                      have Hnext := Lib.hid (acts3_snoc (lim := lim) (rst := rst) (n := n) (us := us) hlk)
                      clear hlk
                      generalize acts3 lim rst n us (l2.take k) = vs at *
                      go_wp2_with fail
                      refine (does_live h4 x1 x2 x3).mono ?_
                      rintro e w5 ⟨rfl, h5, o5⟩
                      have hk5 := hc4.bk.only o5 (by omega) (by omega)
                      have b1' := h4.b0
                      have hc5 := hc4.only_ o5 (by omega) (by omega)
                      have hq5 := hq4.only o5 (by have := h4.st.size; omega) (fun i hi e => by omega)
                      clear hc4 h4 hq4 o5 c0 c1 c2
                      go_wp2_with fail
                      go_roundw
                      case rel => exact ⟨k + 1, by omega, by go_num, by rw [Hnext.out]; exact h5, hc5, hq5⟩
                      case measure => simp [intOf] <;> omega
                    · obtain rfl : m2 = k := by omega
                      rw [List.take_of_length_le (by rw [Hl2.out]; exact Nat.le_refl _)] at h4
                      generalize acts3 lim rst n us l2 = vs at *
                      go_wp2_with fail
                      go_loopw [21] (fun i wr => ∃ k : Nat, k ≤ n ∧ i = .int .i64 k ∧ Live w1 wr G B n n lim rst vs ∧ Live w1 wr G' B' n c' lim rst vs) (fun i _ => n - (intOf i).toNat)
                      case atStart => exact ⟨0, by omega, rfl, h4, hc4⟩
                      case round =>
                        clear h4 hc4 hq4
                        obtain ⟨k, hk, rfl, h4, hc4⟩ := hrel
                        by_cases hlt : k < n
                        · obtain ⟨x, hx⟩ := h4.bk.get hlt
                          go_wp2_with fail
                          refine (of_in h4.bk k hx).mono ?_
                          rintro e w5 ⟨rfl, hs5⟩
                          have h5 := h4.still hs5
                          have hc5 := hc4.still hs5
                          clear h4 hc4 hs5
                          go_wp2_with fail
                          refine (of_in hc5.bk k hx).mono ?_
                          rintro e w6 ⟨rfl, hs6⟩
                          have h6 := h5.still hs6
                          have hc6 := hc5.still hs6
                          clear h5 hc5 hs6
                          unfold ofA
                          go_wp2_with fail
                          go_roundw
                          case rel => exact ⟨k + 1, by omega, by go_num, h6, hc6⟩
                          case measure => simp [intOf] <;> omega
                        · obtain rfl : n = k := by omega
                          go_wp2_with fail
                          go_ret
                          exact ⟨rfl, hs1.still h4.st⟩
end Go.Proofs.YtfbknjboceheaaaDoor
