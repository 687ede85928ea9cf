/-
  ReputeBounds: scores and counts are within their bounds; who agrees has no lesser score behind it, who dissents, or is silent, no greater one; of the others nothing is another one.
-/
import Derived.Test.YtfbknjboceheaaaDoorRepMd
import Derived.Test.YtfbknjboceheaaaDoorRepOf
import Derived.OpenShut
import Derived.Test.YtfbknjboceheaaaDoorRepOpen
namespace Go.Proofs.YtfbknjboceheaaaDoor
open Go.RowKit
set_option linter.unusedVariables false
set_option linter.unusedSimpArgs false

structure Bd (kk : Int) (x y : Up) : Prop where
  a : x.ag ≤ y.ag
  d : x.ds ≤ y.ds
  i : x.si ≤ y.si
  up : kk = 0 → x.score ≤ y.score
  dn : 0 < kk → y.score ≤ x.score
theorem Bd.refl (kk : Int) (x : Up) : Bd kk x x := ⟨Int.le_refl _, Int.le_refl _, Int.le_refl _, fun _ => Int.le_refl _, fun _ => Int.le_refl _⟩
theorem mn_ge {x : Int} (h : x ≤ 65535) : x ≤ mn x := by unfold mn; split <;> omega
theorem cl_ge {x : Int} (h0 : 0 ≤ x) (h1 : x ≤ 100) : x ≤ cl (x + 1) := by unfold cl; split <;> split <;> omega
theorem cl_le {x : Int} (h0 : 0 ≤ x) (h1 : x ≤ 100) (d : Int) (hd : d ≤ 0) : cl (x + d) ≤ x := by unfold cl; split <;> split <;> omega
theorem bd_agree {lim : Int} {x : Up} (h : UOK x) : Bd 0 x (agreeUp lim x) := ⟨mn_ge h.a1, Int.le_refl _, Int.le_refl _, fun _ => cl_ge h.s0 h.s1, fun h => absurd h (by decide)⟩
theorem bd_silent {lim : Int} {x : Up} (h : UOK x) : Bd 2 x (silentUp lim x) := ⟨Int.le_refl _, Int.le_refl _, mn_ge h.i1, fun h => absurd h (by decide), fun _ => cl_le h.s0 h.s1 _ (by decide)⟩
theorem bd_dissent {lim rst may n now : Int} {x : Up} (h : UOK x) : Bd 1 x (dissentUp lim rst may n now x) := by
  unfold dissentUp
  split
  · exact ⟨Int.le_refl _, mn_ge h.d1, Int.le_refl _, fun h => absurd h (by decide), fun _ => cl_le h.s0 h.s1 _ (by decide)⟩
  · exact ⟨Int.le_refl _, mn_ge h.d1, Int.le_refl _, fun h => absurd h (by decide), fun _ => cl_le h.s0 h.s1 _ (by decide)⟩
theorem bd_upd {kk i : Int} {us : List Up} {f : Up → Up} (hf : ∀ u, UOK u → Bd kk u (f u)) (hus : UsOK us) {k : Nat} {u v : Up} (hu : us[k]? = some u) (hv : (upd us i f)[k]? = some v) : ((k : Int) ≠ i → v = u) ∧ Bd kk u v := by
  rw [upd_get, hu] at hv
  simp only [Option.map_some, Option.some.injEq] at hv
  subst hv
  refine ⟨fun h => by rw [if_neg h], ?_⟩
  split
  · exact hf u (hus k u hu)
  · exact Bd.refl kk u
theorem bd_act {lim rst : Int} {n : Nat} {us : List Up} {kk p q : Int} (h0 : 0 ≤ kk) (h3 : kk < 3) (hus : UsOK us) {k : Nat} {u v : Up} (hu : us[k]? = some u) (hv : (act3 lim rst n us (kk, p, q))[k]? = some v) : ((k : Int) ≠ p → v = u) ∧ Bd kk u v := by
  unfold act3 at hv
  simp only at hv
  split at hv
  · rename_i h; subst h
    exact bd_upd (fun u h => bd_agree h) hus hu hv
  · split at hv
    · rename_i h; subst h
      unfold dissentL at hv
      split at hv
      · exact bd_upd (fun u h => bd_dissent h) hus hu hv
      · rw [hu] at hv; injection hv with hv; subst hv; exact ⟨fun _ => rfl, Bd.refl 1 u⟩
    · split at hv
      · rename_i h; subst h
        exact bd_upd (fun u h => bd_silent h) hus hu hv
      · omega

theorem Live.base {w0 w1 w : World} {g b n c : Nat} {lim rst : Int} {us : List Up} (h : Live w1 w g b n c lim rst us) (hs : Still w0 w1) (hg : Gains w0) : Live w0 w g b n c lim rst us :=
  ⟨h.bk, h.ok, hg, h.us, Nat.le_trans hs.size h.g0, Nat.le_trans hs.size h.b0, hs.still h.st⟩
set_option maxRecDepth 1000000 in
set_option maxHeartbeats 6400000 in
theorem bounds_walk (w : World) (hg : Gains w) (a b c : Int) (C : Option Addr) (m cc : Nat) (l : List A3) (hm : m ≤ maxLen) (hl : l.length = m) (hr : Reads w w.heap.size 3 C m (a3Cells l)) (k0 p q : Int) (hk0 : (Lit.int .u8 k0).wf = true) :
    Calls Tryd.prog 5 #[.int .i64 a, .int .i64 b, .int .i64 c, .slice C m cc, .agg #[.int .u8 k0, .int .i64 p, .int .i64 q]] w fun e w' => e = .returned (.bool true) ∧ Still w w' := by
  have hs0 := Still.new w (.cells #[.int .u8 k0, .int .i64 p, .int .i64 q] 54)
  have hB0 := Blk.new w 54 #[.int .u8 k0, .int .i64 p, .int .i64 q]
  have hg0 := hg.still hs0
  have hr0 := hr.only hs0 (Nat.le_refl _) (fun _ _ h => h)
  by_cases h600 : (600 : Int) < (m : Int)
  · have hd : decide ((600 : Int) < (m : Int)) = true := decide_eq_true h600
    go_enter Tryd.func5, Tryd.ntmps5
    go_wp2_with fail
    refine (rep_awake _ hg0).mono ?_
    rintro e w1 ⟨rfl, hs⟩
    go_wp2_with fail
    go_ret
    exact ⟨rfl, hs0.still hs⟩
  · have hd : decide ((600 : Int) < (m : Int)) = false := decide_eq_false h600
    have hm6 : m ≤ 1000000 := by omega
    have Hl := Lib.hid hl
    clear hl
    go_enter Tryd.func5, Tryd.ntmps5
    go_wp2_with fail
    refine (rep_awake _ hg0).mono ?_
    rintro e w1 ⟨rfl, hs1⟩
    have hg1 := hg0.still hs1
    have hr1 := hr0.only hs1 (by simp) (fun _ _ h => h)
    have hB1 := hB0.only hs1 (fun h => h)
    have hs1 := hs0.still hs1
    clear hg0 hs0 hr0 hB0
    go_wp2_with fail
    refine (made_live w1 hg1 a b c C m cc l hm6 Hl.out (hr1.more hs1.size)).mono ?_
    rintro e w2 ⟨G, B, n, lim, rst, rfl, hodd, h2⟩
    have hB2 := hB1.only h2.st (fun h => h)
    have hbB : w.heap.size ≠ B := by have := hB1.lt; have := h2.b0; omega
    have hbG : w.heap.size ≠ G := by have := hB1.lt; have := h2.g0; omega
    generalize acts3 lim rst n (List.replicate n up1) l = us at *
    clear hr1 hr hg1 hB1
    obtain ⟨kk, hkk⟩ : ∃ kk : Int, kk = k0.tmod 3 := ⟨_, rfl⟩
    have hk1 : 0 ≤ kk ∧ kk < 3 := by
      have h0 := bounds_u8 hk0
      rw [hkk, Int.tmod_eq_emod_of_nonneg h0.1]
      omega
    have hkk' : k0.tmod 3 = kk := hkk.symm
    obtain ⟨hk1, hk2⟩ := hk1
    have x0 := hB2.cell 0
    simp at x0
    have f0 := hB2.frozen 0
    clear hkk
    go_wp2_with fail
    have hB3 : Blk (w2.setCell ⟨w.heap.size, 0, none⟩ (.int .u8 kk)) w.heap.size 54 #[.int .u8 kk, .int .i64 p, .int .i64 q] := hB2.set_ 0 _
    have h2' := h2.base hs1 hg
    have oW : Only (· = w.heap.size) w2 (w2.setCell ⟨w.heap.size, 0, none⟩ (.int .u8 kk)) := (Only.refl (· = w.heap.size) w2).setCell (p := ⟨w.heap.size, 0, none⟩) (.inl rfl) _
    have h3 : Live w (w2.setCell ⟨w.heap.size, 0, none⟩ (.int .u8 kk)) G B n n lim rst us := ⟨h2'.bk.only oW (fun e => hbG e.symm) (fun e => hbB e.symm), h2'.ok, hg, h2'.us, h2'.g0, h2'.b0, h2'.st.trans oW (fun i hi e => by omega)⟩
    clear h2' oW
    generalize w2.setCell ⟨w.heap.size, 0, none⟩ (.int .u8 kk) = w3 at *
    clear x0 f0 hB2 h2
    refine (Copy_any h3.bk h3.ok.n9 h3.ok.n1).mono ?_
    rintro e w4 ⟨G', B', c', rfl, hG, hB, hk4, hs4⟩
    have hB4 := hB3.only hs4 (fun h => h)
    have b3 := h3.bk.blt
    have g3 := h3.bk.lt
    have hGB : G ≠ B' := by omega
    have hBB : B ≠ B' := by omega
    have hbB' : w.heap.size ≠ B' := by have := hB3.lt; omega
    have h4 : Live w3 w4 G' B' n c' lim rst us := ⟨hk4, h3.ok, h3.gw, h3.us, hG, hB, hs4⟩
    have hb4 := h3.bk.still hs4
    have w3s := h3.st.size
    have hs4 := h3.st.still hs4
    have hok := h3.ok
    have hus := h3.us
    clear h3 hk4 hB3 hG hB b3 g3
    have q0 := hB4.cell 0
    have q1 := hB4.cell 1
    have q2 := hB4.cell 2
    simp at q0 q1 q2
    go_wp2_with fail
    refine (does_live h4 kk p q).mono ?_
    rintro e w5 ⟨rfl, h5, o5⟩
    have hb5 := hb4.only o5 hGB hBB
    have hB5 := hB4.only o5 hbB'
    have hbd := fun (k : Nat) (u v : Up) (hu : us[k]? = some u) (hv : (act3 lim rst n us (kk, p, q))[k]? = some v) => bd_act hk1 hk2 hus hu hv
    have Hbd := Lib.hid hbd
    have n9 := h5.ok.n9
    have hst5 : Still w w5 := hs4.trans o5 (fun i hi e => by have := h4.b0; omega)
    clear h4 hb4 hB4 o5 hbd hs4 q0 q1 q2 hus
    generalize act3 lim rst n us (kk, p, q) = vs at *
    go_wp2_with fail
    go_loopw [16] (fun i wr => ∃ k : Nat, k ≤ n ∧ i = .int .i64 k ∧ Hid (Still w5 wr)) (fun i _ => n - (intOf i).toNat)
    case atStart => exact ⟨0, by omega, rfl, Lib.hid (Only.refl _ _)⟩
    case round =>
      obtain ⟨k, hk, rfl, hst⟩ := hrel
      by_cases hlt2 : k < n
      · have h6 := h5.still hst.out
        have hk6 := hb5.still hst.out
        have hB6 := hB5.only hst.out (fun h => h)
        obtain ⟨x, hx⟩ := hk6.get hlt2
        obtain ⟨y, hy⟩ := h6.bk.get hlt2
        obtain ⟨hne, hbd⟩ := Hbd.out k x y hx hy
        have hyo := h6.us k y hy
        go_wp2_with fail
        refine (of_in hk6 k hx).mono ?_
        rintro e w7 ⟨rfl, hs7⟩
        have h7 := h6.still hs7
        have hB7 := hB6.only hs7 (fun h => h)
        have hst7 := hst.out.still hs7
        clear h6 hk6 hst hB6
        go_wp2_with fail
        refine (of_in h7.bk k hy).mono ?_
        rintro e w8 ⟨rfl, hs8⟩
        have hB8 := hB7.only hs8 (fun h => h)
        have hst8 := hst7.still hs8
        clear h7 hst7 hs7 hs8 hB7
        have r0 := ((hB8.only (Still.new _ (.cells (ofA x) 45)) (fun h => h)).only (Still.new _ (.cells (ofA y) 45)) (fun h => h)).cell 0
        have r1 := ((hB8.only (Still.new _ (.cells (ofA x) 45)) (fun h => h)).only (Still.new _ (.cells (ofA y) 45)) (fun h => h)).cell 1
        have lt8 := hB8.lt
        unfold ofA at r0 r1
        have d1 := decide_eq_false (show ¬ y.score < 0 by have := hyo.s0; omega)
        have d2 := decide_eq_false (show ¬ 100 < y.score by have := hyo.s1; omega)
        have d3 := decide_eq_false (show ¬ 65535 < y.ag by have := hyo.a1; omega)
        have d4 := decide_eq_false (show ¬ 65535 < y.ds by have := hyo.d1; omega)
        have d5 := decide_eq_false (show ¬ 65535 < y.si by have := hyo.i1; omega)
        have d6 := decide_eq_false (show ¬ y.ag < x.ag by have := hbd.a; omega)
        have d7 := decide_eq_false (show ¬ y.ds < x.ds by have := hbd.d; omega)
        have d8 := decide_eq_false (show ¬ y.si < x.si by have := hbd.i; omega)
        by_cases hkp : (k : Int) = p
        · subst hkp
          by_cases hk0' : kk = 0
          · have d9 := decide_eq_false (show ¬ y.score < x.score by have := hbd.up hk0'; omega)
            clear hbd hyo hne hx hy hB8
            subst hk0'
            unfold ofA
            go_wp2_with fail
            go_roundw
            case rel => exact ⟨k + 1, by omega, by go_num, Lib.hid ((hst8.alloc _).alloc _)⟩
            case measure => simp [intOf] <;> omega
          · have d9 := decide_eq_false (show ¬ x.score < y.score by have := hbd.dn (by omega); omega)
            clear hbd hyo hne hx hy hB8
            unfold ofA
            go_wp2_with fail
            go_roundw
            case rel => exact ⟨k + 1, by omega, by go_num, Lib.hid ((hst8.alloc _).alloc _)⟩
            case measure => simp [intOf] <;> omega
        · obtain rfl := hne hkp
          clear hbd hyo hne hx hy hB8
          unfold ofA
          go_wp2_with fail
          go_roundw
          case rel => exact ⟨k + 1, by omega, by go_num, Lib.hid ((hst8.alloc _).alloc _)⟩
          case measure => simp [intOf] <;> omega
      · obtain rfl : n = k := by omega
        go_wp2_with fail
        go_ret
        exact ⟨rfl, hst5.still hst.out⟩
end Go.Proofs.YtfbknjboceheaaaDoor
