/-
  hustingslaw20.book: a book of the program and one of the reference, behind the same acts.
-/
import Derived.Test.YtdcogjlcbdkdcaaDoorRefNew
import Derived.Test.YtdcogjlcbdkdcaaDoorOrdAwake
namespace Go.Proofs.YtdcogjlcbdkdcaaDoor
open Go.RowKit
set_option linter.unusedVariables false
set_option linter.unusedSimpArgs false

section
variable {w0 w w' : World} {g b c x bx cx n : Nat} {lim rst : Int} {us : List Up}
theorem ragree_any (h : RBk w x bx n cx lim rst us) (ho : BOK n lim rst) (huo : UsOK us) (i : Int) :
    Calls Tryd.prog 32 #[.pointer (some ⟨x, 0, none⟩), .int .i64 i] w fun e w' => e = .returned (.int .i64 (if 0 ≤ i ∧ i < n then 0 else 1)) ∧ RBk w' x bx n cx lim rst (upd us i (agreeUp lim)) ∧ Only (· = bx) w w' := by
  by_cases hi : 0 ≤ i ∧ i < n
  · obtain ⟨k, rfl⟩ : ∃ k : Nat, i = k := ⟨i.toNat, by omega⟩
    obtain ⟨u, hu⟩ := h.get (i := k) (by omega)
    rw [if_pos hi, upd_in hu]
    exact ragree_in h ho k hu (huo k u hu)
  · rw [if_neg hi, upd_out (by rw [h.len]; exact hi)]
    refine (ragree_out h i hi).mono ?_
    rintro e w' ⟨rfl, rfl⟩
    exact ⟨rfl, h, Only.refl _ _⟩
theorem rsilent_any (h : RBk w x bx n cx lim rst us) (ho : BOK n lim rst) (huo : UsOK us) (hinv : Inv n lim us) (i : Int) :
    Calls Tryd.prog 35 #[.pointer (some ⟨x, 0, none⟩), .int .i64 i] w fun e w' => e = .returned (.int .i64 (if 0 ≤ i ∧ i < n then 0 else 1)) ∧ RBk w' x bx n cx lim rst (upd us i (silentUp lim)) ∧ Only (· = bx) w w' := by
  by_cases hi : 0 ≤ i ∧ i < n
  · obtain ⟨k, rfl⟩ : ∃ k : Nat, i = k := ⟨i.toNat, by omega⟩
    obtain ⟨u, hu⟩ := h.get (i := k) (by omega)
    rw [if_pos hi, upd_in hu]
    exact rsilent_in h ho k hu (huo k u hu) (fun ht => (hinv.tr k u hu ht).2)
  · rw [if_neg hi, upd_out (by rw [h.len]; exact hi)]
    refine (rsilent_out h i hi).mono ?_
    rintro e w' ⟨rfl, rfl⟩
    exact ⟨rfl, h, Only.refl _ _⟩
theorem rdissent_any (h : RBk w x bx n cx lim rst us) (ho : BOK n lim rst) (hodd : n % 2 = 1) (huo : UsOK us) (hinv : Inv n lim us) (i now : Int) :
    Calls Tryd.prog 33 #[.pointer (some ⟨x, 0, none⟩), .int .i64 i, .int .i64 now] w fun e w' => e = .returned (.int .i64 (if nowOk now ∧ 0 ≤ i ∧ i < n then 0 else 1)) ∧ RBk w' x bx n cx lim rst (dissentL lim rst n i now us) ∧ Only (· = bx) w w' := by
  unfold dissentL
  by_cases hi : 0 ≤ i ∧ i < n
  · obtain ⟨k, rfl⟩ : ∃ k : Nat, i = k := ⟨i.toNat, by omega⟩
    obtain ⟨u, hu⟩ := h.get (i := k) (by omega)
    by_cases hn : nowOk now
    · rw [if_pos ⟨hn, hi⟩, if_pos hn, upd_in hu]
      exact rdissent_in h ho hodd k hu (huo k u hu) (fun ht => (hinv.tr k u hu ht).2) now hn.1 hn.2
    · rw [if_neg (fun e => hn e.1), if_neg hn]
      refine (rdissent_late h k (by omega) now hn).mono ?_
      rintro e w' ⟨rfl, rfl⟩
      exact ⟨rfl, h, Only.refl _ _⟩
  · have e : (if nowOk now then upd us i (dissentUp lim rst (mayL us).length n now) else us) = us := by
      split
      · exact upd_out (by rw [h.len]; exact hi) _
      · rfl
    rw [if_neg (fun e => hi e.2), e]
    refine (rdissent_out h i now hi).mono ?_
    rintro e w' ⟨rfl, rfl⟩
    exact ⟨rfl, h, Only.refl _ _⟩

/-- The program's book and the reference's, alike. -/
structure Both (w0 w : World) (g b c x bx cx n : Nat) (lim rst : Int) (us : List Up) : Prop where
  live : Live w0 w g b n c lim rst us
  ref : RBk w x bx n cx lim rst us
  inv : Inv n lim us
  odd : n % 2 = 1
  x0 : w0.heap.size ≤ x
  bx0 : w0.heap.size ≤ bx
  dx : b ≠ x
  db : b ≠ bx
  dg : g ≠ bx
theorem Live.base {w00 : World} (h : Live w0 w g b n c lim rst us) (hs : Still w00 w0) (hg : Gains w00) : Live w00 w g b n c lim rst us :=
  ⟨h.bk, h.ok, hg, h.us, Nat.le_trans hs.size h.g0, Nat.le_trans hs.size h.b0, hs.still h.st⟩
theorem Both.still (h : Both w0 w g b c x bx cx n lim rst us) (hs : Still w w') : Both w0 w' g b c x bx cx n lim rst us :=
  ⟨h.live.still hs, h.ref.still hs, h.inv, h.odd, h.x0, h.bx0, h.dx, h.db, h.dg⟩
/-- One act of each. -/
theorem Both.two {w1 w2 : World} {us' : List Up} (h : Both w0 w g b c x bx cx n lim rst us) (h1 : Live w0 w1 g b n c lim rst us') (h2 : RBk w2 x bx n cx lim rst us') (o2 : Only (· = bx) w1 w2) (hi : Inv n lim us') : Both w0 w2 g b c x bx cx n lim rst us' :=
  ⟨⟨h1.bk.only o2 h.dg h.db, h1.ok, h1.gains, h1.us, h1.g0, h1.b0, h1.st.trans o2 (fun i hi' e => by have := h.bx0; omega)⟩, h2, hi, h.odd, h.x0, h.bx0, h.dx, h.db, h.dg⟩
theorem Both.one {w1 : World} (h : Both w0 w g b c x bx cx n lim rst us) (o1 : Only (· = b) w w1) : RBk w1 x bx n cx lim rst us := h.ref.only o1 (fun e => h.dx e.symm) (fun e => h.db e.symm)

set_option maxRecDepth 1000000 in
set_option maxHeartbeats 6400000 in
theorem book_bad (w : World) {u lim rst seed : Int} {A F : Option Addr} {m cc kf fc : Nat} (hu : IntKind.i64.wrap u = u) (hb : ¬ bookOk u lim rst) :
    Calls Tryd.prog 10 #[.agg #[.int .i64 u, .int .i64 lim, .int .i64 rst, .slice A m cc, .int .u64 seed, .slice F kf fc]] w fun e w' => e = .returned (.tuple #[.pointer none, .pointer none]) ∧ Still w w' := by
  have hs := Still.new w (.cells #[.int .i64 u, .int .i64 lim, .int .i64 rst, .slice A m cc, .int .u64 seed, .slice F kf fc] 26)
  go_enter Tryd.func10, Tryd.ntmps10
  go_wp2_with fail
  refine (pnew_bad _ hu hb).mono ?_
  rintro e w1 ⟨rfl, rfl⟩
  go_wp2_with fail
  refine (rnew_bad _ hu hb).mono ?_
  rintro e w1 ⟨rfl, rfl⟩
  go_wp2_with fail
  go_ret2
  exact ⟨rfl, hs⟩
set_option maxRecDepth 1000000 in
set_option maxHeartbeats 6400000 in
theorem book_ok (w : World) (hg : Gains w) {u lim rst seed : Int} {A F : Option Addr} {m cc kf fc : Nat} {l : List A3} (hb : bookOk u lim rst) (hr : Reads w w.heap.size 3 A m (a3Cells l)) (hl : l.length = m) (hm : m ≤ 500) :
    Calls Tryd.prog 10 #[.agg #[.int .i64 u, .int .i64 lim, .int .i64 rst, .slice A m cc, .int .u64 seed, .slice F kf fc]] w fun e w' => ∃ (g b c x bx cx n : Nat), Hid (u = (n : Int)) ∧ e = .returned (.tuple #[.pointer (some ⟨g, 0, none⟩), .pointer (some ⟨x, 0, none⟩)]) ∧ Both w w' g b c x bx cx n lim rst (acts3 lim rst n (List.replicate n up1) l) := by
  obtain ⟨n, rfl, hok, hodd⟩ := bookOk_nat hb
  have hs := Still.new w (.cells #[.int .i64 (n : Int), .int .i64 lim, .int .i64 rst, .slice A m cc, .int .u64 seed, .slice F kf fc] 26)
  have hB := Blk.new w 26 #[.int .i64 (n : Int), .int .i64 lim, .int .i64 rst, .slice A m cc, .int .u64 seed, .slice F kf fc]
  have hszB : (w.alloc (.cells #[.int .i64 (n : Int), .int .i64 lim, .int .i64 rst, .slice A m cc, .int .u64 seed, .slice F kf fc] 26)).heap.size = w.heap.size + 1 := by simp
  go_enter Tryd.func10, Tryd.ntmps10
  go_wp2_with fail
  obtain ⟨wB, hwB⟩ : ∃ wB, wB = w.alloc (.cells #[.int .i64 (n : Int), .int .i64 lim, .int .i64 rst, .slice A m cc, .int .u64 seed, .slice F kf fc] 26) := ⟨_, rfl⟩
  obtain ⟨K, hK⟩ : ∃ K, K = w.heap.size := ⟨_, rfl⟩
  rw [← hwB] at hs hB hszB ⊢
  rw [← hK] at hB hszB ⊢
  have hgB := hg.still hs
  have HK := Lib.hid hK
  clear hwB hK
  refine (new_live wB hgB hok hodd).mono ?_
  rintro e w1 ⟨g, b, rfl, h1⟩
  have hB1 := hB.only h1.st (fun h => h)
  have b0 := hB1.cell 0
  have b1 := hB1.cell 1
  have b2 := hB1.cell 2
  simp at b0 b1 b2
  have n1 := hok.n1
  have n9 := hok.n9
  go_wp2_with fail
  refine (rnew_in w1 hok hodd).mono ?_
  rintro e w2 ⟨x, bx, cx, rfl, hx0, hbx0, hr2, hs2⟩
  have h2 := (h1.still hs2).base hs hg
  have hbd : Both w w2 g b n x bx cx n lim rst (List.replicate n up1) := by
    have e1 := h1.bk.lt
    have e2 := h1.bk.blt
    have e3 := h1.st.size
    exact ⟨h2, hr2, Inv.new lim n1, hodd, by have := HK.out; omega, by have := HK.out; omega, by omega, by omega, by omega⟩
  have hBK : Still wB w2 := h1.st.still hs2
  have hbB : wB.heap.size ≤ b := h1.b0
  have hbxB : wB.heap.size ≤ bx := by have := h1.st.size; omega
  clear h1 h2 hr2 hs2 hx0 hbx0 b0 b1 b2 hB1 hgB
  go_wp2_with fail
  go_loopw [8] (fun i wr => ∃ (k : Nat) (us : List Up), k ≤ m ∧ i = .int .i64 k ∧ Hid (us = acts3 lim rst n (List.replicate n up1) (l.take k)) ∧ Both w wr g b n x bx cx n lim rst us ∧ Hid (Still wB wr)) (fun i _ => m - (intOf i).toNat)
  case atStart => exact ⟨0, _, by omega, rfl, Lib.hid rfl, hbd, Lib.hid hBK⟩
  case round =>
    clear hbd hBK
    obtain ⟨k, us, hk, rfl, hus, hbd, hst⟩ := hrel
    have hBr := hB.only hst.out (fun h => h)
    have b3 := hBr.cell 3
    simp at b3
    by_cases hlt : k < m
    · have hlt' : (k : Int) < (m : Int) := by omega
      obtain ⟨bl, off, a0, a1, a2, rfl, hbl, hlk, x0, x1, x2⟩ := a3_cells (hr.only (hbd.live.st) (Nat.le_refl _) (fun _ _ h => h)) hl hlt
      have hsn := acts3_snoc (lim := lim) (rst := rst) (n := n) (us := List.replicate n up1) hlk
      rw [← hus.out] at hsn
      have Hsn := Lib.hid hsn
      have H := hbd.still (Still.new wr (.cells #[.int .u8 a0, .int .i64 a1, .int .i64 a2] 65))
      have hstB := hst.out.alloc (.cells #[.int .u8 a0, .int .i64 a1, .int .i64 a2] 65)
      clear hsn hlk hst
      by_cases ck : a0 = 0
      · have e0 : act3 lim rst n us (a0, a1, a2) = upd us a1 (agreeUp lim) := by unfold act3; simp [ck]
        have E0 := Lib.hid e0
        subst ck
        clear e0
        go_wp2_with fail
        refine (agree_live H.live a1).mono ?_
        rintro e w3 ⟨rfl, h3, o1⟩
        generalize (if 0 ≤ a1 ∧ a1 < (n : Int) then (0 : Int) else 1) = r1
        have y1 := o1.cell_some (p := ⟨wr.heap.size, 1, none⟩) (fun e => by have e' : wr.heap.size = b := e; have := hbd.live.bk.blt; omega) ((Blk.new wr 65 #[.int .u8 0, .int .i64 a1, .int .i64 a2]).cell 1)
        have y2 := o1.cell_some (p := ⟨wr.heap.size, 2, none⟩) (fun e => by have e' : wr.heap.size = b := e; have := hbd.live.bk.blt; omega) ((Blk.new wr 65 #[.int .u8 0, .int .i64 a1, .int .i64 a2]).cell 2)
        go_wp2_with fail
        refine (ragree_any (H.one o1) H.live.ok H.live.us a1).mono ?_
        rintro e w4 ⟨rfl, r4, o2⟩
        generalize (if 0 ≤ a1 ∧ a1 < (n : Int) then (0 : Int) else 1) = r2
        have H4 := H.two h3 r4 o2 (H.inv.agree)
        have hs4 := (hstB.trans o1 (fun i hi e => by have e' : i = b := e; have := hbB; omega)).trans o2 (fun i hi e => by have e' : i = bx := e; have := hbxB; omega)
        clear o1 o2 h3 r4 H
        go_wp2_with fail
        all_goals (go_roundw)
        case rel => exact ⟨k + 1, _, by omega, by go_num, Lib.hid (by rw [Hsn.out, E0.out]), H4, Lib.hid hs4⟩
        case measure => simp [intOf]; omega
      ·
        by_cases ck : a0 = 1
        · have e0 : act3 lim rst n us (a0, a1, a2) = dissentL lim rst n a1 a2 us := by unfold act3; simp [ck]
          have E0 := Lib.hid e0
          subst ck
          clear e0
          go_wp2_with fail
          refine (dissent_live H.live a1 a2).mono ?_
          rintro e w3 ⟨rfl, h3, o1⟩
          generalize (if nowOk a2 ∧ 0 ≤ a1 ∧ a1 < (n : Int) then (0 : Int) else 1) = r1
          have y1 := o1.cell_some (p := ⟨wr.heap.size, 1, none⟩) (fun e => by have e' : wr.heap.size = b := e; have := hbd.live.bk.blt; omega) ((Blk.new wr 65 #[.int .u8 1, .int .i64 a1, .int .i64 a2]).cell 1)
          have y2 := o1.cell_some (p := ⟨wr.heap.size, 2, none⟩) (fun e => by have e' : wr.heap.size = b := e; have := hbd.live.bk.blt; omega) ((Blk.new wr 65 #[.int .u8 1, .int .i64 a1, .int .i64 a2]).cell 2)
          go_wp2_with fail
          refine (rdissent_any (H.one o1) H.live.ok H.odd H.live.us H.inv a1 a2).mono ?_
          rintro e w4 ⟨rfl, r4, o2⟩
          generalize (if nowOk a2 ∧ 0 ≤ a1 ∧ a1 < (n : Int) then (0 : Int) else 1) = r2
          have H4 := H.two h3 r4 o2 (H.inv.dissent)
          have hs4 := (hstB.trans o1 (fun i hi e => by have e' : i = b := e; have := hbB; omega)).trans o2 (fun i hi e => by have e' : i = bx := e; have := hbxB; omega)
          clear o1 o2 h3 r4 H
          go_wp2_with fail
          all_goals (go_roundw)
          case rel => exact ⟨k + 1, _, by omega, by go_num, Lib.hid (by rw [Hsn.out, E0.out]), H4, Lib.hid hs4⟩
          case measure => simp [intOf]; omega
        ·
          by_cases ck : a0 = 2
          · have e0 : act3 lim rst n us (a0, a1, a2) = upd us a1 (silentUp lim) := by unfold act3; simp [ck]
            have E0 := Lib.hid e0
            subst ck
            clear e0
            go_wp2_with fail
            refine (silent_live H.live a1).mono ?_
            rintro e w3 ⟨rfl, h3, o1⟩
            generalize (if 0 ≤ a1 ∧ a1 < (n : Int) then (0 : Int) else 1) = r1
            have y1 := o1.cell_some (p := ⟨wr.heap.size, 1, none⟩) (fun e => by have e' : wr.heap.size = b := e; have := hbd.live.bk.blt; omega) ((Blk.new wr 65 #[.int .u8 2, .int .i64 a1, .int .i64 a2]).cell 1)
            have y2 := o1.cell_some (p := ⟨wr.heap.size, 2, none⟩) (fun e => by have e' : wr.heap.size = b := e; have := hbd.live.bk.blt; omega) ((Blk.new wr 65 #[.int .u8 2, .int .i64 a1, .int .i64 a2]).cell 2)
            go_wp2_with fail
            refine (rsilent_any (H.one o1) H.live.ok H.live.us H.inv a1).mono ?_
            rintro e w4 ⟨rfl, r4, o2⟩
            generalize (if 0 ≤ a1 ∧ a1 < (n : Int) then (0 : Int) else 1) = r2
            have H4 := H.two h3 r4 o2 (H.inv.silent)
            have hs4 := (hstB.trans o1 (fun i hi e => by have e' : i = b := e; have := hbB; omega)).trans o2 (fun i hi e => by have e' : i = bx := e; have := hbxB; omega)
            clear o1 o2 h3 r4 H
            go_wp2_with fail
            all_goals (go_roundw)
            case rel => exact ⟨k + 1, _, by omega, by go_num, Lib.hid (by rw [Hsn.out, E0.out]), H4, Lib.hid hs4⟩
            case measure => simp [intOf]; omega
          ·
            by_cases ck : a0 = 3
            · have e0 : act3 lim rst n us (a0, a1, a2) = us.map (backOne lim a2) := by unfold act3; simp [ck]
              have E0 := Lib.hid e0
              subst ck
              clear e0
              go_wp2_with fail
              refine (back_live H.live a2).mono ?_
              rintro e w3 ⟨Aq, cq, rfl, _, h3, o1⟩
              have y2 := o1.cell_some (p := ⟨wr.heap.size, 2, none⟩) (fun e => by have e' : wr.heap.size = b := e; have := hbd.live.bk.blt; omega) ((Blk.new wr 65 #[.int .u8 3, .int .i64 a1, .int .i64 a2]).cell 2)
              go_wp2_with fail
              refine (rback_any (H.one o1) H.live.ok a2).mono ?_
              rintro e w4 ⟨Aq', cq', rfl, r4, o2⟩
              have H4 := H.two h3 r4 o2 (H.inv.back)
              have hs4 := (hstB.trans o1 (fun i hi e => by have e' : i = b := e; have := hbB; omega)).trans o2 (fun i hi e => by have e' : i = bx := e; have := hbxB; omega)
              clear o1 o2 h3 r4 H
              go_wp2_with fail
              all_goals (go_roundw)
              case rel => exact ⟨k + 1, _, by omega, by go_num, Lib.hid (by rw [Hsn.out, E0.out]), H4, Lib.hid hs4⟩
              case measure => simp [intOf]; omega
            · have e0 : act3 lim rst n us (a0, a1, a2) = us := by unfold act3; simp [*]
              have E0 := Lib.hid e0
              clear e0
              go_wp2_with fail
              all_goals (go_roundw)
              case rel => exact ⟨k + 1, _, by omega, by go_num, Lib.hid (by rw [Hsn.out, E0.out]), H, Lib.hid hstB⟩
              case measure => simp [intOf]; omega
    · obtain rfl : m = k := by omega
      have hfin : us = acts3 lim rst n (List.replicate n up1) l := by rw [hus.out, List.take_of_length_le (by omega)]
      have Hfin := Lib.hid hfin
      clear hfin hus
      go_wp2_with fail
      go_ret2
      exact ⟨g, b, n, x, bx, cx, n, Lib.hid rfl, rfl, Hfin.out ▸ hbd⟩
end
end Go.Proofs.YtdcogjlcbdkdcaaDoor
