/-
  Package lru: Use, Has, Oldest, Newest, Copy on a list in memory.
-/
import Derived.Test.YtfbknjboceheaaaLru
namespace Go.Proofs.Ytfbknjboceheaaa
open Go.RowKit
set_option linter.unusedVariables false

/-- A list of n places, those of L in it. -/
structure LL (n : Nat) (L : List Nat) : Prop where
  mx : n ≤ 256
  row : Row 0 L
  le : ∀ p ∈ L, p ≤ n
/-- Places above n are never touched: they hold 0. -/
def cut (n : Nat) (F : Nat → Nat) : Nat → Nat := fun q => if q ≤ n then F q else 0
theorem cut_le {n q : Nat} (F : Nat → Nat) (h : q ≤ n) : cut n F q = F q := if_pos h
theorem cut_upd {n x : Nat} (F : Nat → Nat) (v : Nat) (h : x ≤ n) : upd (cut n F) x v = cut n (upd F x v) := by
  funext q
  unfold upd cut
  by_cases e : q = x
  · subst e; simp [h]
  · simp [e]
theorem cut_congr {n : Nat} {F G : Nat → Nat} (h : ∀ q, F q = G q) : cut n F = cut n G := by
  funext q
  unfold cut
  rw [h q]
theorem cut_lt {n q : Nat} {F : Nat → Nat} (h : F q < 257) : cut n F q < 257 := by
  unfold cut
  split
  · exact h
  · omega
def Lst (w : World) (g n : Nat) (L : List Nat) : Prop := LB w g n (cut n (sc 0 L)) (cut n (pd 0 L))
theorem Lst.cf {w : World} {g n : Nat} {L : List Nat} (hb : Lst w g n L) (hn : n ≤ 256) {q : Nat} (hq : q ≤ n) : w.cell? ⟨g, 1 + q, none⟩ = some (.int .i64 (sc 0 L q)) := by
  have := LB.cf hb (q := q) (by omega)
  rwa [cut_le _ hq] at this
theorem Lst.ch {w : World} {g n : Nat} {L : List Nat} (hb : Lst w g n L) (hn : n ≤ 256) {q : Nat} (hq : q ≤ n) : w.cell? ⟨g, 258 + q, none⟩ = some (.int .i64 (pd 0 L q)) := by
  have := LB.ch hb (q := q) (by omega)
  rwa [cut_le _ hq] at this
theorem LL.sc_lt {n : Nat} {L : List Nat} (h : LL n L) {p : Nat} (hp : p < 257) : sc 0 L p < 257 := by
  rcases sc_mem 0 L p with e | e | e
  · rw [e]; exact hp
  · rw [e]; omega
  · have := h.le _ e; have := h.mx; omega
theorem LL.pd_lt {n : Nat} {L : List Nat} (h : LL n L) {p : Nat} (hp : p < 257) : pd 0 L p < 257 := by
  rcases pd_mem 0 L p with e | e
  · rw [e]; exact hp
  · rcases List.mem_cons.1 e with e | e
    · rw [e]; omega
    · have := h.le _ e; have := h.mx; omega
theorem LL.sc_le {n : Nat} {L : List Nat} (h : LL n L) {p : Nat} (hp : p ≤ n) : sc 0 L p ≤ n := by
  rcases sc_mem 0 L p with e | e | e
  · rw [e]; exact hp
  · rw [e]; omega
  · exact h.le _ e
theorem LL.pd_le {n : Nat} {L : List Nat} (h : LL n L) {p : Nat} (hp : p ≤ n) : pd 0 L p ≤ n := by
  rcases pd_mem 0 L p with e | e
  · rw [e]; exact hp
  · rcases List.mem_cons.1 e with e | e
    · rw [e]; omega
    · exact h.le _ e
theorem LL.out {n : Nat} {L : List Nat} (h : LL n L) (p : Nat) : LL n (out p L) := ⟨h.mx, out_row h.row, fun q hq => h.le q (List.mem_filter.1 hq).1⟩
theorem LL.link {n : Nat} {L : List Nat} (h : LL n L) {p : Nat} (hp0 : p ≠ 0) (hpn : p ≤ n) (hpL : p ∉ L) : LL n (L ++ [p]) :=
  ⟨h.mx, link_row h.row hp0 hp0 hpL, fun q hq => by
    rcases List.mem_append.1 hq with hq | hq
    · exact h.le q hq
    · rw [List.mem_singleton.1 hq]; exact hpn⟩

theorem unlink_L {w : World} {g n : Nat} {L : List Nat} (hb : Lst w g n L) (hl : LL n L) {p : Nat} (hp0 : p ≠ 0) (hpn : p ≤ n) :
    Calls Try.prog 28 #[.pointer (some ⟨g, 0, none⟩), .int .i64 p] w fun e w' => e = .returned (.tuple #[]) ∧ Lst w' g n (out p L) ∧ Only (· = g) w w' := by
  have hp : p < 257 := by have := hl.mx; omega
  have hsl := hl.sc_le hpn
  have hpl := hl.pd_le hpn
  refine (unlink_any hb hp (cut_lt (hl.sc_lt hp)) (cut_lt (hl.pd_lt hp))).mono ?_
  rintro e w' ⟨rfl, h1, h2⟩
  refine ⟨rfl, ?_, h2⟩
  rw [cut_le (sc 0 L) hpn, cut_le (pd 0 L) hpn, cut_upd _ _ hpl, cut_upd _ _ hpn, cut_upd _ _ hsl, cut_upd _ _ hpn] at h1
  have e : fcells (n : Int) (cut n (upd (upd (sc 0 L) (pd 0 L p) (sc 0 L p)) p p)) (cut n (upd (upd (pd 0 L) (sc 0 L p) (pd 0 L p)) p p)) = fcells (n : Int) (cut n (sc 0 (Proofs.Ytfbknjboceheaaa.out p L))) (cut n (pd 0 (Proofs.Ytfbknjboceheaaa.out p L))) := by
    have e1 : ∀ q, upd (upd (sc 0 L) (pd 0 L p) (sc 0 L p)) p p q = sc 0 (Proofs.Ytfbknjboceheaaa.out p L) q := fun q => (sc_out hp0 0 L hl.row hp0 q).symm
    have e2 : ∀ q, upd (upd (pd 0 L) (sc 0 L p) (pd 0 L p)) p p q = pd 0 (Proofs.Ytfbknjboceheaaa.out p L) q := fun q => (pd_out hp0 0 L hl.row hp0 q).symm
    rw [cut_congr e1, cut_congr e2]
  unfold LB at h1
  rw [e] at h1
  exact h1

set_option maxRecDepth 1000000 in
set_option maxHeartbeats 1600000 in
theorem is_any {w : World} {g n : Nat} {L : List Nat} (hb : Lst w g n L) (p : Int) :
    Calls Try.prog 27 #[.pointer (some ⟨g, 0, none⟩), .int .i64 p] w fun e w' => e = .returned (.bool (decide (0 ≤ p ∧ p < n))) ∧ w = w' := by
  have c0 := (Blk.cell hb 0).trans fc_0
  obtain ⟨b, hbe⟩ : ∃ b, b = decide (0 ≤ p ∧ p < (n : Int)) := ⟨_, rfl⟩
  rw [← hbe]
  have Hbe := Lib.hid hbe
  clear hbe
  go_enter Try.func27, Try.ntmps27
  by_cases h0 : 0 ≤ p
  · by_cases h1 : p < (n : Int)
    · go_wp2
      go_ret
      exact ⟨ret_bool ((Hbe.out).trans (decide_eq_true ⟨h0, h1⟩)).symm, rfl⟩
    · go_wp2
      go_ret
      exact ⟨ret_bool ((Hbe.out).trans (decide_eq_false (by omega))).symm, rfl⟩
  · go_wp2
    go_ret
    exact ⟨ret_bool ((Hbe.out).trans (decide_eq_false (by omega))).symm, rfl⟩
set_option maxRecDepth 1000000 in
theorem is_nil (p : Int) (w : World) : Calls Try.prog 27 #[.pointer none, .int .i64 p] w fun e w' => e = .returned (.bool false) ∧ w = w' := by
  go_enter Try.func27, Try.ntmps27
  go_wp2
  go_ret
  exact ⟨rfl, rfl⟩

set_option maxRecDepth 1000000 in
set_option maxHeartbeats 1600000 in
theorem Use_out {w : World} {g n : Nat} {L : List Nat} (hb : Lst w g n L) (p : Int) (hp : ¬ (0 ≤ p ∧ p < n)) :
    Calls Try.prog 11 #[.pointer (some ⟨g, 0, none⟩), .int .i64 p] w fun e w' => e = .returned (.int .i64 1) ∧ w = w' := by
  have hi := is_any hb p
  rw [decide_eq_false hp] at hi
  go_enter Try.func11, Try.ntmps11
  go_wp2_with fail
  refine hi.mono ?_
  rintro e w1 ⟨rfl, rfl⟩
  go_wp2_with fail
  go_ret
  exact ⟨rfl, rfl⟩

set_option maxRecDepth 1000000 in
set_option maxHeartbeats 1600000 in
theorem Use_in {w : World} {g n : Nat} {L : List Nat} (hb : Lst w g n L) (hl : LL n L) (k p : Nat) (hp : p = k + 1) (hk : k < n) :
    Calls Try.prog 11 #[.pointer (some ⟨g, 0, none⟩), .int .i64 k] w fun e w' => e = .returned (.int .i64 0) ∧ Lst w' g n (out p L ++ [p]) ∧ Only (· = g) w w' := by
  have hi := is_any hb (k : Int)
  rw [decide_eq_true (by omega)] at hi
  have hn := hl.mx
  have hu := unlink_L hb hl (p := p) (by omega) (by omega)
  have hl1 := hl.out p
  have hno := out_not p L
  have hp0 : p ≠ 0 := by omega
  have hpn : p ≤ n := by omega
  generalize out p L = M at *
  have hpi : (k : Int) + 1 = (p : Int) := by omega
  have hk63 : (k : Int) < 256 := by omega
  have Hp := Lib.hid hp
  clear hp
  go_enter Try.func11, Try.ntmps11
  go_wp2_with fail
  refine hi.mono ?_
  rintro e w1 ⟨rfl, rfl⟩
  go_wp2_with fail
  refine hu.mono ?_
  rintro e w1 ⟨rfl, hb1, ho1⟩
  clear hu hi hb hl
  have hp257 : p < 257 := by omega
  have hlast := hl1.pd_lt (p := 0) (by omega)
  have c0 : w1.cell? ⟨g, 258, none⟩ = some (.int .i64 (pd 0 M 0)) := hb1.ch hn (q := 0) (by omega)
  obtain ⟨b, hbe⟩ : ∃ b, b = pd 0 M 0 := ⟨_, rfl⟩
  rw [← hbe] at c0 hlast
  have hbp : b ≠ p := by
    rw [hbe]
    rcases List.mem_cons.1 (pd_zero_mem 0 M hl1.row.nz) with e | e
    · rw [e]; exact fun x => hp0 x.symm
    · exact fun x => hno (by rw [← x]; exact e)
  have Hbe := Lib.hid hbe
  have ib : (b : Int) < 257 := by omega
  have ip : (p : Int) < 257 := by omega
  clear hbe
  go_wp2_with fail
  have hbn : b ≤ n := by rw [Hbe.out]; exact hl1.pd_le (by omega)
  obtain ⟨F, hF⟩ : ∃ F, F = cut n (sc 0 M) := ⟨_, rfl⟩
  obtain ⟨H, hH⟩ : ∃ H, H = cut n (pd 0 M) := ⟨_, rfl⟩
  have hb1' : LB w1 g n F H := by rw [hF, hH]; exact hb1
  clear hb1
  have HF := Lib.hid hF
  have HH := Lib.hid hH
  clear hF hH c0
  have k1 := hb1'.cf hlast
  have k2 : w1.cell? ⟨g, 258 + p, none⟩ = some _ := hb1'.ch hp257
  have j1 := Blk.frozen hb1' (1 + b)
  have j2 := Blk.frozen hb1' (258 + p)
  have hne : ¬ (258 + p = 1 + b) := by omega
  have hne' : ¬ (1 + b = 258 + p) := by omega
  have k3 : (w1.setCell ⟨g, 1 + b, none⟩ (.int .i64 (p : Int))).cell? ⟨g, 258 + p, none⟩ = _ := (World.cell?_setCell_other _ _ _ _ (fun e => by injection e; omega)).trans k2
  have k4 : (w1.setCell ⟨g, 258 + p, none⟩ (.int .i64 (b : Int))).cell? ⟨g, 1 + b, none⟩ = _ := (World.cell?_setCell_other _ _ _ _ (fun e => by injection e; omega)).trans k1
  go_cut [] from 23 to 34 (fun wx => wx = ((w1.setCell ⟨g, 1 + b, none⟩ (.int .i64 (p : Int))).setCell ⟨g, 258 + p, none⟩ (.int .i64 (b : Int))).drew)
  case first =>
    go_region
    all_goals (go_wp2_with fail; go_meet; rfl)
  subst hcut
  have hb' := Blk.drew ((hb1'.setF p hlast).setH b hp257)
  have ho' : Only (· = g) w ((w1.setCell ⟨g, 1 + b, none⟩ (.int .i64 (p : Int))).setCell ⟨g, 258 + p, none⟩ (.int .i64 (b : Int))).drew := ((ho1.setCell (p := ⟨g, 1 + b, none⟩) (.inl rfl) _).setCell (p := ⟨g, 258 + p, none⟩) (.inl rfl) _).drew
  have hb' : LB ((w1.setCell ⟨g, 1 + b, none⟩ (.int .i64 (p : Int))).setCell ⟨g, 258 + p, none⟩ (.int .i64 (b : Int))).drew g n _ _ := hb'
  generalize ((w1.setCell ⟨g, 1 + b, none⟩ (.int .i64 (p : Int))).setCell ⟨g, 258 + p, none⟩ (.int .i64 (b : Int))).drew = w2 at *
  clear hb1' ho1 k1 k2 k3 k4 j1 j2 hne hne'
  generalize hF2 : upd F b p = F2 at *
  generalize hH2 : upd H p b = H2 at *
  have HF2 := Lib.hid hF2
  have HH2 := Lib.hid hH2
  clear hF2 hH2
  have hb2 := hb'
  have ho2 := ho'
  clear hb' ho'
  go_wp2_with fail
  have k1 := hb2.cf hp257
  have k2 : w2.cell? ⟨g, 258, none⟩ = some _ := hb2.ch (show 0 < 257 by omega)
  have j1 := Blk.frozen hb2 (1 + p)
  have j2 := Blk.frozen hb2 (258 + 0)
  have hne : ¬ (258 + 0 = 1 + p) := by omega
  have hne' : ¬ (1 + p = 258 + 0) := by omega
  have k3 : (w2.setCell ⟨g, 1 + p, none⟩ (.int .i64 (0 : Int))).cell? ⟨g, 258, none⟩ = _ := (World.cell?_setCell_other _ _ _ _ (fun e => by injection e; omega)).trans k2
  have k4 : (w2.setCell ⟨g, 258, none⟩ (.int .i64 (p : Int))).cell? ⟨g, 1 + p, none⟩ = _ := (World.cell?_setCell_other _ _ _ _ (fun e => by injection e; omega)).trans k1
  go_cut [] from 35 to 44 (fun wx => wx = ((w2.setCell ⟨g, 1 + p, none⟩ (.int .i64 (0 : Int))).setCell ⟨g, 258, none⟩ (.int .i64 (p : Int))).drew)
  case first =>
    go_region
    all_goals (go_wp2_with fail; go_meet; rfl)
  subst hcut
  have hb' := Blk.drew ((hb2.setF 0 hp257).setH p (show 0 < 257 by omega))
  have ho' : Only (· = g) w ((w2.setCell ⟨g, 1 + p, none⟩ (.int .i64 (0 : Int))).setCell ⟨g, 258, none⟩ (.int .i64 (p : Int))).drew := ((ho2.setCell (p := ⟨g, 1 + p, none⟩) (.inl rfl) _).setCell (p := ⟨g, 258, none⟩) (.inl rfl) _).drew
  have hb' : LB ((w2.setCell ⟨g, 1 + p, none⟩ (.int .i64 (0 : Int))).setCell ⟨g, 258, none⟩ (.int .i64 (p : Int))).drew g n _ _ := hb'
  generalize ((w2.setCell ⟨g, 1 + p, none⟩ (.int .i64 (0 : Int))).setCell ⟨g, 258, none⟩ (.int .i64 (p : Int))).drew = w3 at *
  clear hb2 ho2 k1 k2 k3 k4 j1 j2 hne hne'
  go_wp2_with fail
  go_ret
  refine ⟨rfl, ?_, ho'⟩
  have e : fcells (n : Int) (upd F2 p 0) (upd H2 0 p) = fcells (n : Int) (cut n (sc 0 (M ++ [p]))) (cut n (pd 0 (M ++ [p]))) := by
    rw [← HF2.out, ← HH2.out, HF.out, HH.out, cut_upd _ _ hbn, cut_upd _ _ hpn, cut_upd _ _ hpn, cut_upd _ _ (Nat.zero_le n)]
    have e1 : ∀ q, upd (upd (sc 0 M) b p) p 0 q = sc 0 (M ++ [p]) q := fun q => by
      rw [sc_link hp0 0 M hl1.row hp0 hno]
      unfold upd
      rw [Hbe.out]
    have e2 : ∀ q, upd (upd (pd 0 M) p b) 0 p q = pd 0 (M ++ [p]) q := fun q => by
      rw [pd_link hp0 0 M hl1.row hno]
      unfold upd
      rw [Hbe.out]
    rw [cut_congr e1, cut_congr e2]
  show LB w3 g n _ _
  unfold LB at hb' ⊢
  rw [← e]
  exact hb'
end Go.Proofs.Ytfbknjboceheaaa
