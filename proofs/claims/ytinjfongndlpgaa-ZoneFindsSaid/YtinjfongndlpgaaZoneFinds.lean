/-
  ZoneFinds.
-/
import Derived.Test.YtinjfongndlpgaaZoneRefD
import Derived.Test.YtinjfongndlpgaaZoneMore
import Derived.Test.YtinjfongndlpgaaZoneOrd
namespace Go.Proofs.Ytinjfongndlpgaa
open Go.RowKit
set_option linter.unusedVariables false
set_option linter.unusedSimpArgs false

theorem rfind_at {w : World} {q t : Nat} {Z : List Zn} (s : ByteArray) (v : Zn) (hT : RTab w q t Z) (hO : okT Z) (hs : s.size ≤ 30000) (hv : findZ Z s = v) (hZ : Z.length ≤ 1000) :
    Calls Try.prog 14 #[.pointer (some ⟨t, 0, none⟩), .string s] w fun e w' => e = .returned (.agg #[.string v.nm, .int .u8 v.pol, .int .u16 v.tr]) ∧ Still w w' := by
  refine (rfind_any w q t Z s hT hO hs hZ).mono ?_
  rintro e w' ⟨rfl, h⟩
  exact ⟨by rw [hv]; rfl, h⟩
theorem own_is {w : World} {base n c : Nat} {A : Option Addr} {xs : List Value} (h : w.ownsRow base 35 3 (.slice A n c) n xs) (hn : 0 < n) :
    ∃ g cs, A = some ⟨g, 0, none⟩ ∧ base ≤ g ∧ Blk w g 35 cs ∧ n * 3 ≤ cs.size := by
  rcases h.2 with ⟨hv, h0⟩ | ⟨g, cap, cur, hv, hb, hg, hnc, _, hsz, _⟩
  · omega
  · injection hv with h1 h2 h3
    exact ⟨g, cur, h1, hb, hg, by rw [hsz]; exact Nat.mul_le_mul_right 3 hnc⟩
theorem Tab.only_ {w w' : World} {base t : Nat} {Z : List Zn} {S : Nat → Prop} (h : Tab w base t Z) (o : Only S w w') (hS : ∀ i, base ≤ i → ¬ S i) : Tab w' base t Z := by
  obtain ⟨bo, no, β, h⟩ := h
  exact ⟨bo, no, β, h.only o hS⟩
theorem name_at {w : World} {B n : Nat} {A : Option Addr} {zs : List ByteArray} (h : Reads w B 1 A n (zs.map .string)) {k : Nat} (hk : k < n) :
    ∃ ad s, A = some ad ∧ s ∈ zs ∧ w.cell? (ad.add k) = some (.string s) := by
  obtain ⟨ad, u, h1, h2, h3, h4⟩ := h.at_ hk
  rw [List.getElem?_map] at h3
  cases e : zs[k]? with
  | none => rw [e] at h3; cases h3
  | some s =>
    rw [e] at h3
    cases h3
    exact ⟨ad, s, h1, List.mem_of_getElem? e, h4⟩

set_option maxRecDepth 1000000 in
set_option maxHeartbeats 6400000 in
theorem finds_walk (w : World) (A : Option Addr) (n c : Nat) (l : List Zn) (hnc : n ≤ c) (hcm : c ≤ maxLen) (hl : l.length = n) (hr : Reads w w.heap.size 3 A n (zRow l)) (hw : ∀ z ∈ l, okA z) (A' : Option Addr) (n' c' : Nat) (zs : List ByteArray) (hnc' : n' ≤ c') (hcm' : c' ≤ maxLen) (hna' : A' = none → n' = 0 ∧ c' = 0) (hr' : Reads w w.heap.size 1 A' n' (zs.map Value.string)) (hz' : ∀ z ∈ zs, z.size ≤ maxLen) :
    Calls Try.prog 3 #[.slice A n c, .slice A' n' c'] w fun e w' => e = .returned (.bool true) ∧ Still w w' := by
  have hn : n ≤ maxLen := Nat.le_trans hnc hcm
  obtain ⟨i0, hi, hz0, hz1, hz2⟩ := info_parts info_zn
  have eqz := eqz_refl
  go_enter Try.func3, Try.ntmps3
  go_wp2_with fail
  refine (long18 _ A n c l hl hr hn (fun z hz => (hw z hz).1) A' n' c' zs hr' (by unfold maxLen at *; omega) hz').mono ?_
  rintro e w2 (⟨rfl, h2⟩ | ⟨hok, rfl, h2⟩)
  · go_wp2_with (go_at_call 10; refine (zone_awake _).mono ?_; rintro e w3 ⟨rfl, h3⟩)
    go_ret
    exact ⟨rfl, h2.still h3⟩
  · obtain ⟨ho1, ho2, ho3, ho4⟩ := hok.out
    have hokZ : ∀ z ∈ l, okZ z := fun z hz => ⟨by have := ho2 z hz; omega, (hw z hz).2⟩
    have ho4' := Lib.hid ho4
    have hrl := hr.only h2 (Nat.le_refl _) (fun _ _ h => h)
    have hrn := hr'.only h2 (Nat.le_refl _) (fun _ _ h => h)
    have own0 := World.ownsRow_lit (e := 35) (size := 3) (base := w2.heap.size) w2 #[] 0 (Nat.le_refl _) (by unfold maxLen; omega) rfl
    have hsn := Still.new w2 (.cells #[] 35)
    have hrl3 := (hrl.only hsn h2.size (fun _ _ h => h)).more (Nat.le_trans h2.size hsn.size)
    have hS2 := h2.still hsn
    have hq3 : w2.heap.size ≤ (w2.alloc (.cells #[] 35)).heap.size := hsn.size
    clear hok ho2 ho4
    go_wp2_with (at_builtin; refine wpList_append_any _ rfl (.tmp 16) (.tmp 17) 22 rfl w2.heap.size 35 i0 zNo 3 24 Try.underlying22 hi hz0 hz1 hz2 rfl (by decide) _ _ _ rfl own0 _ A n c (zRow l) rfl hrl3 ?q1 ?q2 ?q3 ?q4 ?_)
    case q1 => exact zRow_one l
    case q2 => unfold maxLen; omega
    case q3 => omega
    case q4 => first | exact hq3 | (simp; omega) | omega
    intro v' w3 hown hgrow hblk
    obtain ⟨A1, c1, hv⟩ := own_shape hown
    subst hv
    have hqW := h2.size
    have hS3 := hS2.grown hgrow (fun k hk => .inr (Nat.le_trans hqW (own0.lt k hk).1))
    obtain ⟨q, hq⟩ : ∃ q, q = w2.heap.size := ⟨_, rfl⟩
    rw [← hq] at hown hqW
    have hrl := hr.only hS3 (Nat.le_refl _) (fun _ _ h => h)
    have hrn := hr'.only hS3 (Nat.le_refl _) (fun _ _ h => h)
    clear own0 hsn hrl3 hS2 hq3 hgrow hblk hq h2
    go_wp2_with fail
    refine (new_any w3 A1 n c1 l hl (Reads.of_own hown) hokZ (by omega)).mono ?_
    rintro e w4 (⟨he, t, rfl, hT, h4⟩ | ⟨he, rfl, h4⟩)
    · have hE0 := he.out
      have HT : okT l := ((errZ_ok l).1 hE0).2
      have HT := Lib.hid HT
      have hK3 : Hid (∀ g, (Value.slice A1 n c1).ownBlock = some g → g < w3.heap.size) := Lib.hid (fun g hg => (hown.lt g hg).2)
      have hown := own_only hown h4 (fun _ _ h => h)
      have hS4 := hS3.still h4
      have hrl4 := (hr.only hS4 (Nat.le_refl _) (fun _ _ h => h)).more hS4.size
      clear hS3 hrl hrn
      go_wp2_with fail
      refine (rnew_any w4 A n c l hl hrl4 hokZ (by omega)).mono ?_
      rintro e w5 (⟨_, u, rfl, hR, h5⟩ | ⟨he', _, _⟩)
      rotate_left
      · exact absurd hE0 he'.out
      have hown := own_only hown h5 (fun _ _ h => h)
      have hS5 := hS4.still h5
      have hT := hT.still h5
      have hK4 : Hid (w3.heap.size ≤ w4.heap.size) := Lib.hid h4.size
      clear hS4 hrl4 h5 h4 he hE0
      go_wp2_with fail
      by_cases hn0 : n = 0
      · subst hn0
        go_loopw [10] (fun i wr => i = .int .i64 0 ∧ wr = w5) (fun _ _ => 0)
        case atStart => exact ⟨rfl, rfl⟩
        case round =>
          obtain ⟨rfl, rfl⟩ := hrel
          go_wp2_with fail
          go_loopw [11] (fun i wr => ∃ k : Nat, k ≤ n' ∧ i = .int .i64 k ∧ Still w wr ∧ Tab wr w3.heap.size t l ∧ RTab wr w4.heap.size u l) (fun i _ => n' - (intOf i).toNat)
          case atStart => exact ⟨0, Nat.zero_le _, rfl, hS5, hT, hR⟩
          case round =>
            clear hS5 hT hR
            obtain ⟨k, hk, rfl, hst, hT, hR⟩ := hrel
            have hOk := HT.out
            by_cases hlt : k < n'
            · have hrr := hr'.only hst (Nat.le_refl _) (fun _ _ h => h)
              obtain ⟨ad, s, rfl, hsm, s0⟩ := name_at hrr hlt
              have ss : s.size ≤ 30000 := by have := ho4'.out s hsm; omega
              obtain ⟨v, hV⟩ : ∃ v, findZ l s = v := ⟨_, rfl⟩
              have hk1 : k + 1 ≤ n' := hlt
              clear hsm hrr
              go_wp2_with fail
              have hs_wz : Still wr wr.drew := (Only.refl _ _).drew
              obtain ⟨wz, hwz⟩ : ∃ wz, wz = wr.drew := ⟨_, rfl⟩
              refine wp_region_held_drew (S := fun w' => Still wr.drew w') (by kernel_rfl) (Only.refl _ _) (fun hS => ?_)
              rw [← hwz] at hs_wz hS ⊢
              clear hwz
              have z0 := hs_wz.cell_some (fun h => h) s0
              have hS0 := hst.still hs_wz
              have hTz := hT.still hs_wz
              have hRz := hR.still hs_wz
              clear hs_wz s0 hst hT hR
              (refine take_p (i := 0) (v := ?_) rfl (by kernel_rfl) (by kernel_rfl) (by kernel_rfl) (fun _ _ _ h => h) (Or.inl ⟨by rfl, ?_⟩) hS ?_; rotate_left; (focus (intro w0_ hSw; go_simp; try with_reducible rfl)); try simp only [Act.put, List.setIfInBounds_toArray, List.set_cons_zero, List.set_cons_succ])
              (refine take_p (i := 1) (v := ?_) rfl (by kernel_rfl) (by kernel_rfl) (by kernel_rfl) (fun _ _ _ h => h) (Or.inl ⟨by rfl, ?_⟩) hS ?_; rotate_left; (focus (intro w0_ hSw; go_simp; try with_reducible rfl)); try simp only [Act.put, List.setIfInBounds_toArray, List.set_cons_zero, List.set_cons_succ])
              (refine take_p (i := 2) (v := ?_) rfl (by kernel_rfl) (by kernel_rfl) (by kernel_rfl) (fun _ _ _ h => h) (Or.inl ⟨by rfl, ?_⟩) hS ?_; rotate_left; (focus (intro w0_ hSw; go_simp; try with_reducible rfl)); try simp only [Act.put, List.setIfInBounds_toArray, List.set_cons_zero, List.set_cons_succ])
              (refine take_p (i := 3) (v := ?_) rfl (by kernel_rfl) (by kernel_rfl) (by kernel_rfl) (fun _ _ _ h => h) (Or.inl ⟨by rfl, ?_⟩) hS ?_; rotate_left; (focus (intro w0_ hSw; go_simp; try with_reducible rfl)); try simp only [Act.put, List.setIfInBounds_toArray, List.set_cons_zero, List.set_cons_succ])
              (refine take_p (i := 4) (v := ?_) rfl (by kernel_rfl) (by kernel_rfl) (by kernel_rfl) (fun _ _ _ h => h) (Or.inl ⟨by rfl, ?_⟩) hS ?_; rotate_left; (focus (intro w0_ hSw; have z0_ := hSw.cell_some (fun h => h) z0; go_simp; try with_reducible rfl)); try simp only [Act.put, List.setIfInBounds_toArray, List.set_cons_zero, List.set_cons_succ])
              (refine take_p (i := 6) (v := ?_) rfl (by kernel_rfl) (by kernel_rfl) (by kernel_rfl) (fun _ _ _ h => h) (Or.inl ⟨by rfl, ?_⟩) hS ?_; rotate_left; (focus (intro w0_ hSw; go_simp; try with_reducible rfl)); try simp only [Act.put, List.setIfInBounds_toArray, List.set_cons_zero, List.set_cons_succ])
              (refine take_p (i := 7) (v := ?_) rfl (by kernel_rfl) (by kernel_rfl) (by kernel_rfl) (fun _ _ _ h => h) (Or.inl ⟨by rfl, ?_⟩) hS ?_; rotate_left; (focus (intro w0_ hSw; go_simp; try with_reducible rfl)); try simp only [Act.put, List.setIfInBounds_toArray, List.set_cons_zero, List.set_cons_succ])
              (refine take_p (i := 8) (v := ?_) rfl (by kernel_rfl) (by kernel_rfl) (by kernel_rfl) (fun _ _ _ h => h) (Or.inl ⟨by rfl, ?_⟩) hS ?_; rotate_left; (focus (intro w0_ hSw; go_simp; try with_reducible rfl)); try simp only [Act.put, List.setIfInBounds_toArray, List.set_cons_zero, List.set_cons_succ])
              (refine take_p (i := 9) (v := ?_) rfl (by kernel_rfl) (by kernel_rfl) (by kernel_rfl) (fun _ _ _ h => h) (Or.inl ⟨by rfl, ?_⟩) hS ?_; rotate_left; (focus (intro w0_ hSw; go_simp; try with_reducible rfl)); try simp only [Act.put, List.setIfInBounds_toArray, List.set_cons_zero, List.set_cons_succ])
              (refine take_p (i := 10) (v := ?_) rfl (by kernel_rfl) (by kernel_rfl) (by kernel_rfl) (fun _ _ _ h => h) (Or.inl ⟨by rfl, ?_⟩) hS ?_; rotate_left; (focus (intro w0_ hSw; have z0_ := hSw.cell_some (fun h => h) z0; go_simp; try with_reducible rfl)); try simp only [Act.put, List.setIfInBounds_toArray, List.set_cons_zero, List.set_cons_succ])
              refine wpAnyH_ready (rs := [5]) (by kernel_rfl) (by simp) ?_
              refine cons_p rfl (fun K_ hK => ?_) AllReadyH.nil
              go_simp
              refine (find_at s v (hTz.still hS) ss hV).mono ?_
              rintro e w9 ⟨rfl, hs_⟩
              refine hK.out _ _ (hS.still hs_) (fun hHeld => ?_)
              replace hS := hS.still hs_
              clear hK K_ hHeld hs_
              try simp only [Act.put, List.setIfInBounds_toArray, List.set_cons_zero, List.set_cons_succ]
              refine wpAnyH_ready (rs := [11]) (by kernel_rfl) (by simp) ?_
              refine cons_p rfl (fun K_ hK => ?_) AllReadyH.nil
              go_simp
              refine (rfind_at s v (hRz.still hS) hOk ss hV (by omega)).mono ?_
              rintro e w9 ⟨rfl, hs_⟩
              refine hK.out _ _ (hS.still hs_) (fun hHeld => ?_)
              replace hS := hS.still hs_
              clear hK K_ hHeld hs_
              try simp only [Act.put, List.setIfInBounds_toArray, List.set_cons_zero, List.set_cons_succ]
              (refine take_p (i := 12) (v := ?_) rfl (by kernel_rfl) (by kernel_rfl) (by kernel_rfl) (fun _ _ _ h => h) (Or.inl ⟨by rfl, ?_⟩) hS ?_; rotate_left; (focus (intro w0_ hSw; go_simp; try with_reducible rfl)); try simp only [Act.put, List.setIfInBounds_toArray, List.set_cons_zero, List.set_cons_succ])
              refine wpAnyH_done (by kernel_rfl) ?_ _
              have hst := hS0.still hS
              have hT := hTz.still hS
              have hR := hRz.still hS
              go_wp2_with fail
              go_roundw
              case rel => exact ⟨k + 1, hk1, by go_num, hst, hT, hR⟩
              case measure => simp [intOf]; omega
            · have hk' : k = n' := by omega
              subst hk'
              have hl' := Lib.hid hl
              clear hOk
              go_wp2_with (first | (go_at_call 15; refine (len_any _ _ _ _ hT (by have := hl'.out; omega)).mono ?_; rintro e w7 ⟨rfl, h7⟩; rw [hl'.out]; have hst := hst.still h7; clear h7) | (go_at_call 10; refine (zone_awake _).mono ?_; rintro e w3 ⟨rfl, h3⟩))
              go_ret
              exact ⟨rfl, hst.still h3⟩
      · obtain ⟨g, cs, rfl, hgq, hbg, hcs⟩ := own_is hown (by omega)
        have hgK := hK3.out g rfl
        have hg3 : ∀ i, w3.heap.size ≤ i → ¬ i = g := fun i hi e => by omega
        have hg4 : ∀ i, w4.heap.size ≤ i → ¬ i = g := fun i hi e => by have := hK4.out; omega
        go_loopw [10] (fun i wr => ∃ (k : Nat) (cs : Array Value), k ≤ n ∧ i = .int .i64 k ∧ Blk wr g 35 cs ∧ n * 3 ≤ cs.size ∧ Hid (Only (· = g) w5 wr)) (fun i _ => n - (intOf i).toNat)
        case atStart => exact ⟨0, cs, Nat.zero_le _, rfl, hbg, hcs, Lib.hid (Only.refl _ _)⟩
        case round =>
          clear hbg hcs
          obtain ⟨k, cs, hk, rfl, hb, hcs, hO⟩ := hrel
          by_cases hlt : k < n
          · obtain ⟨a0, x0⟩ : ∃ a, wr.cell? ⟨g, k * 3, none⟩ = some a := ⟨_, (hb.cell _).trans (Array.getElem?_eq_getElem (by omega))⟩
            obtain ⟨a1, x1⟩ : ∃ a, wr.cell? ⟨g, k * 3 + 1, none⟩ = some a := ⟨_, (hb.cell _).trans (Array.getElem?_eq_getElem (by omega))⟩
            obtain ⟨a2, x2⟩ : ∃ a, wr.cell? ⟨g, k * 3 + 2, none⟩ = some a := ⟨_, (hb.cell _).trans (Array.getElem?_eq_getElem (by omega))⟩
            have f0 := hb.frozen (k * 3)
            have f1 := hb.frozen (k * 3 + 1)
            have f2 := hb.frozen (k * 3 + 2)
            have hb' := ((hb.set_ (k * 3) (.string ⟨#[]⟩)).set_ (k * 3 + 1) (.int .u8 0)).set_ (k * 3 + 2) (.int .u16 0)
            have hO' := ((hO.out.setCell (p := ⟨g, k * 3, none⟩) (.inl rfl) (.string ⟨#[]⟩)).setCell (p := ⟨g, k * 3 + 1, none⟩) (.inl rfl) (.int .u8 0)).setCell (p := ⟨g, k * 3 + 2, none⟩) (.inl rfl) (.int .u16 0)
            have hO' := Lib.hid hO'
            have Hcs := Lib.hid hcs
            have hk1 : k + 1 ≤ n := hlt
            clear hb hcs hO
            go_wp2_with fail
            go_roundw
            case rel => exact ⟨k + 1, _, hk1, by go_num, hb', by simpa using Hcs.out, hO'⟩
            case measure => simp [intOf]; omega
          · have hO := hO.out
            have hT := Tab.only_ hT hO hg3
            have hR := hR.only hO hg4
            have hS5 := hS5.trans hO (fun i hi e => by have e' : i = g := e; omega)
            clear hO hb hcs hgK hg3 hg4 hgq
            go_wp2_with fail
            go_loopw [11] (fun i wr => ∃ k : Nat, k ≤ n' ∧ i = .int .i64 k ∧ Still w wr ∧ Tab wr w3.heap.size t l ∧ RTab wr w4.heap.size u l) (fun i _ => n' - (intOf i).toNat)
            case atStart => exact ⟨0, Nat.zero_le _, rfl, hS5, hT, hR⟩
            case round =>
              clear hS5 hT hR
              obtain ⟨k, hk, rfl, hst, hT, hR⟩ := hrel
              have hOk := HT.out
              by_cases hlt : k < n'
              · have hrr := hr'.only hst (Nat.le_refl _) (fun _ _ h => h)
                obtain ⟨ad, s, rfl, hsm, s0⟩ := name_at hrr hlt
                have ss : s.size ≤ 30000 := by have := ho4'.out s hsm; omega
                obtain ⟨v, hV⟩ : ∃ v, findZ l s = v := ⟨_, rfl⟩
                have hk1 : k + 1 ≤ n' := hlt
                clear hsm hrr
                go_wp2_with fail
                have hs_wz : Still wr wr.drew := (Only.refl _ _).drew
                obtain ⟨wz, hwz⟩ : ∃ wz, wz = wr.drew := ⟨_, rfl⟩
                refine wp_region_held_drew (S := fun w' => Still wr.drew w') (by kernel_rfl) (Only.refl _ _) (fun hS => ?_)
                rw [← hwz] at hs_wz hS ⊢
                clear hwz
                have z0 := hs_wz.cell_some (fun h => h) s0
                have hS0 := hst.still hs_wz
                have hTz := hT.still hs_wz
                have hRz := hR.still hs_wz
                clear hs_wz s0 hst hT hR
                (refine take_p (i := 0) (v := ?_) rfl (by kernel_rfl) (by kernel_rfl) (by kernel_rfl) (fun _ _ _ h => h) (Or.inl ⟨by rfl, ?_⟩) hS ?_; rotate_left; (focus (intro w0_ hSw; go_simp; try with_reducible rfl)); try simp only [Act.put, List.setIfInBounds_toArray, List.set_cons_zero, List.set_cons_succ])
                (refine take_p (i := 1) (v := ?_) rfl (by kernel_rfl) (by kernel_rfl) (by kernel_rfl) (fun _ _ _ h => h) (Or.inl ⟨by rfl, ?_⟩) hS ?_; rotate_left; (focus (intro w0_ hSw; go_simp; try with_reducible rfl)); try simp only [Act.put, List.setIfInBounds_toArray, List.set_cons_zero, List.set_cons_succ])
                (refine take_p (i := 2) (v := ?_) rfl (by kernel_rfl) (by kernel_rfl) (by kernel_rfl) (fun _ _ _ h => h) (Or.inl ⟨by rfl, ?_⟩) hS ?_; rotate_left; (focus (intro w0_ hSw; go_simp; try with_reducible rfl)); try simp only [Act.put, List.setIfInBounds_toArray, List.set_cons_zero, List.set_cons_succ])
                (refine take_p (i := 3) (v := ?_) rfl (by kernel_rfl) (by kernel_rfl) (by kernel_rfl) (fun _ _ _ h => h) (Or.inl ⟨by rfl, ?_⟩) hS ?_; rotate_left; (focus (intro w0_ hSw; go_simp; try with_reducible rfl)); try simp only [Act.put, List.setIfInBounds_toArray, List.set_cons_zero, List.set_cons_succ])
                (refine take_p (i := 4) (v := ?_) rfl (by kernel_rfl) (by kernel_rfl) (by kernel_rfl) (fun _ _ _ h => h) (Or.inl ⟨by rfl, ?_⟩) hS ?_; rotate_left; (focus (intro w0_ hSw; have z0_ := hSw.cell_some (fun h => h) z0; go_simp; try with_reducible rfl)); try simp only [Act.put, List.setIfInBounds_toArray, List.set_cons_zero, List.set_cons_succ])
                (refine take_p (i := 6) (v := ?_) rfl (by kernel_rfl) (by kernel_rfl) (by kernel_rfl) (fun _ _ _ h => h) (Or.inl ⟨by rfl, ?_⟩) hS ?_; rotate_left; (focus (intro w0_ hSw; go_simp; try with_reducible rfl)); try simp only [Act.put, List.setIfInBounds_toArray, List.set_cons_zero, List.set_cons_succ])
                (refine take_p (i := 7) (v := ?_) rfl (by kernel_rfl) (by kernel_rfl) (by kernel_rfl) (fun _ _ _ h => h) (Or.inl ⟨by rfl, ?_⟩) hS ?_; rotate_left; (focus (intro w0_ hSw; go_simp; try with_reducible rfl)); try simp only [Act.put, List.setIfInBounds_toArray, List.set_cons_zero, List.set_cons_succ])
                (refine take_p (i := 8) (v := ?_) rfl (by kernel_rfl) (by kernel_rfl) (by kernel_rfl) (fun _ _ _ h => h) (Or.inl ⟨by rfl, ?_⟩) hS ?_; rotate_left; (focus (intro w0_ hSw; go_simp; try with_reducible rfl)); try simp only [Act.put, List.setIfInBounds_toArray, List.set_cons_zero, List.set_cons_succ])
                (refine take_p (i := 9) (v := ?_) rfl (by kernel_rfl) (by kernel_rfl) (by kernel_rfl) (fun _ _ _ h => h) (Or.inl ⟨by rfl, ?_⟩) hS ?_; rotate_left; (focus (intro w0_ hSw; go_simp; try with_reducible rfl)); try simp only [Act.put, List.setIfInBounds_toArray, List.set_cons_zero, List.set_cons_succ])
                (refine take_p (i := 10) (v := ?_) rfl (by kernel_rfl) (by kernel_rfl) (by kernel_rfl) (fun _ _ _ h => h) (Or.inl ⟨by rfl, ?_⟩) hS ?_; rotate_left; (focus (intro w0_ hSw; have z0_ := hSw.cell_some (fun h => h) z0; go_simp; try with_reducible rfl)); try simp only [Act.put, List.setIfInBounds_toArray, List.set_cons_zero, List.set_cons_succ])
                refine wpAnyH_ready (rs := [5]) (by kernel_rfl) (by simp) ?_
                refine cons_p rfl (fun K_ hK => ?_) AllReadyH.nil
                go_simp
                refine (find_at s v (hTz.still hS) ss hV).mono ?_
                rintro e w9 ⟨rfl, hs_⟩
                refine hK.out _ _ (hS.still hs_) (fun hHeld => ?_)
                replace hS := hS.still hs_
                clear hK K_ hHeld hs_
                try simp only [Act.put, List.setIfInBounds_toArray, List.set_cons_zero, List.set_cons_succ]
                refine wpAnyH_ready (rs := [11]) (by kernel_rfl) (by simp) ?_
                refine cons_p rfl (fun K_ hK => ?_) AllReadyH.nil
                go_simp
                refine (rfind_at s v (hRz.still hS) hOk ss hV (by omega)).mono ?_
                rintro e w9 ⟨rfl, hs_⟩
                refine hK.out _ _ (hS.still hs_) (fun hHeld => ?_)
                replace hS := hS.still hs_
                clear hK K_ hHeld hs_
                try simp only [Act.put, List.setIfInBounds_toArray, List.set_cons_zero, List.set_cons_succ]
                (refine take_p (i := 12) (v := ?_) rfl (by kernel_rfl) (by kernel_rfl) (by kernel_rfl) (fun _ _ _ h => h) (Or.inl ⟨by rfl, ?_⟩) hS ?_; rotate_left; (focus (intro w0_ hSw; go_simp; try with_reducible rfl)); try simp only [Act.put, List.setIfInBounds_toArray, List.set_cons_zero, List.set_cons_succ])
                refine wpAnyH_done (by kernel_rfl) ?_ _
                have hst := hS0.still hS
                have hT := hTz.still hS
                have hR := hRz.still hS
                go_wp2_with fail
                go_roundw
                case rel => exact ⟨k + 1, hk1, by go_num, hst, hT, hR⟩
                case measure => simp [intOf]; omega
              · have hk' : k = n' := by omega
                subst hk'
                have hl' := Lib.hid hl
                clear hOk
                go_wp2_with (first | (go_at_call 15; refine (len_any _ _ _ _ hT (by have := hl'.out; omega)).mono ?_; rintro e w7 ⟨rfl, h7⟩; rw [hl'.out]; have hst := hst.still h7; clear h7) | (go_at_call 10; refine (zone_awake _).mono ?_; rintro e w3 ⟨rfl, h3⟩))
                go_ret
                exact ⟨rfl, hst.still h3⟩
    · have hE := he.out
      have hS4 := hS3.still h4
      have hrl4 := (hr.only hS4 (Nat.le_refl _) (fun _ _ h => h)).more hS4.size
      clear he hS3 hrl hrn
      obtain ⟨m, hm⟩ : ∃ m, m = errZ l := ⟨_, rfl⟩
      rw [← hm] at hE ⊢
      have Hm := Lib.hid hm
      clear hm
      go_wp2_with fail
      refine (rnew_any w4 A n c l hl hrl4 hokZ (by omega)).mono ?_
      rintro e w5 (⟨he', _⟩ | ⟨_, rfl, h5⟩)
      · exact absurd (Hm.out.trans he'.out) hE
      rw [← Hm.out]
      have hS5 := hS4.still h5
      have hd0 : decide ((m : Int) = 0) = false := decide_eq_false (by omega)
      have hd1 : ((m : Int) == 0) = false := by rw [beq_eq_false_iff_ne]; omega
      have hd2 : ((m : Int) != 0) = true := by rw [bne, hd1]; rfl
      clear h4 h5 hS4 hrl4 hown
      go_wp2_with (go_at_call 10; refine (zone_awake _).mono ?_; rintro e w3 ⟨rfl, h3⟩)
      go_ret
      exact ⟨rfl, hS5.still h3⟩
end Go.Proofs.Ytinjfongndlpgaa
