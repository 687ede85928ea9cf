/-
  Package order: Order, as a contract.
-/
import Derived.Test.YtdcogjlcbdkdcaaDoorOrdSort
import Derived.Test.YtdcogjlcbdkdcaaDoorOrdInv
import Derived.Test.YtdcogjlcbdkdcaaDoorShufO
import Derived.Test.YtdcogjlcbdkdcaaDoorDrawRowMathO
import Derived.Test.YtdcogjlcbdkdcaaDoorInts
namespace Go.Proofs.YtdcogjlcbdkdcaaDoor
open Go.RowKit
set_option linter.unusedVariables false
set_option linter.unusedSimpArgs false

def cnd (us : List Up) (x : Int) : Cnd := (x, (us.getD x.toNat up0).score, (us.getD x.toNat up0).trial)
/-- Those that may be asked, shuffled. -/
def rowL (D : Nat → Int) (k : Nat) (us : List Up) : List Int := (shuffled D k (mayL us).length).map fun j => (mayL us).getD j.toNat 0
def ordC (D : Nat → Int) (k : Nat) (us : List Up) : List Cnd := isrt ((rowL D k us).map (cnd us))
/-- Their order. -/
def ordL (D : Nat → Int) (k : Nat) (us : List Up) : List Int := (ordC D k us).map (·.1)

theorem rowL_length (D : Nat → Int) (k : Nat) (us : List Up) (h : 1 ≤ (mayL us).length) : (rowL D k us).length = (mayL us).length := by
  unfold rowL; rw [List.length_map]; exact (each_shuffled D k _ h).1
theorem ordC_length (D : Nat → Int) (k : Nat) (us : List Up) (h : 1 ≤ (mayL us).length) : (ordC D k us).length = (mayL us).length := by
  unfold ordC; rw [(isrt_srt _).length, List.length_map, rowL_length D k us h]
theorem ordL_length (D : Nat → Int) (k : Nat) (us : List Up) (h : 1 ≤ (mayL us).length) : (ordL D k us).length = (mayL us).length := by
  unfold ordL; rw [List.length_map, ordC_length D k us h]
theorem cnd_of {us : List Up} {j : Nat} {u : Up} (h : us[j]? = some u) : cnd us (j : Int) = ((j : Int), u.score, u.trial) := by
  unfold cnd; rw [Int.toNat_natCast, List.getD_eq_getElem?_getD, h]; rfl
theorem up_range {us : List Up} (h : UsOK us) (k : Nat) : 0 ≤ (us.getD k up0).score ∧ (us.getD k up0).score ≤ 100 := by
  rw [List.getD_eq_getElem?_getD]
  rcases hk : us[k]? with _ | u
  · exact ⟨by decide, by decide⟩
  · exact ⟨(h k u hk).s0, (h k u hk).s1⟩
theorem cok_map {us : List Up} (h : UsOK us) (l : List Int) : cOK (l.map (cnd us)) := by
  intro i
  unfold cAt
  rw [List.getD_eq_getElem?_getD, List.getElem?_map]
  rcases l[i]? with _ | x
  · exact ⟨Int.le_refl 0, (by decide : (0:Int) ≤ 100)⟩
  · exact up_range h _
theorem take_snoc {α : Type} {l : List α} {k : Nat} {a : α} (h : l[k]? = some a) : l.take (k + 1) = l.take k ++ [a] := by
  rw [List.take_add_one, h]; rfl

theorem own_some {w : World} {base : Nat} {e : TypeId} {size n : Nat} {v : Value} {xs : List Value} (h : w.ownsRow base e size v n xs) (hn : 1 ≤ n) : ∃ bq cq, v = .slice (some ⟨bq, 0, none⟩) n cq ∧ base ≤ bq := by
  rcases h.2 with ⟨rfl, h0⟩ | ⟨g', cap, cur, rfl, hb, _⟩
  · omega
  · exact ⟨g', cap, rfl, hb⟩

section
variable {w0 w w' : World} {g b n c t n0 : Nat} {lim rst seed : Int} {us : List Up} {xs : List Int}
theorem Live.tape (h : Live w0 w g b n c lim rst us) (ho : Only (· = t) w w') (t0 : w0.heap.size ≤ t) (hg : g ≠ t) (hb : b ≠ t) : Live w0 w' g b n c lim rst us :=
  ⟨h.bk.only ho hg hb, h.ok, h.gains, h.us, h.g0, h.b0, h.st.trans ho (fun i hi e => by omega)⟩
theorem Live.not_tape (h : Live w0 w g b n c lim rst us) (ht : Tape w t seed xs n0) : g ≠ t ∧ b ≠ t := by
  obtain ⟨f, h1, _⟩ := ht.src
  refine ⟨Blk.ne_ h.bk.blk h1 (by decide), ?_⟩
  rintro rfl
  exact own_blk_ne h.bk.own h1 (by decide) rfl
theorem info_cand : (Tryd.prog.info? 74).map (fun i => (i.zero, i.size, i.bytes)) = some (some (.agg #[.int .i64 0, .int .i64 0, .bool false]), 3, 24) := by kernel_rfl
theorem cC_one (c : Cnd) : ∀ v ∈ cC c, v.oneCell' = true := by
  intro v hv
  simp only [cC, List.mem_cons, List.not_mem_nil, or_false] at hv
  rcases hv with rfl | rfl | rfl <;> rfl

set_option maxRecDepth 1000000 in
set_option maxHeartbeats 6400000 in
theorem order_any (h : Live w0 w g b n c lim rst us) (ht : Tape w t seed xs n0) (t0 : w0.heap.size ≤ t) (hn0 : n0 ≤ 900000) (hmay : 1 ≤ (mayL us).length) :
    Calls Tryd.prog 13 #[.pointer (some ⟨g, 0, none⟩), .pointer (some ⟨t, 0, none⟩)] w fun e w' => ∃ A cc, e = .returned (.slice A (mayL us).length cc) ∧
      w'.ownsRow w.heap.size 3 1 (.slice A (mayL us).length cc) (mayL us).length ((ordL (draw seed xs) n0 us).map (.int .i64)) ∧ Live w0 w' g b n c lim rst us ∧ Tape w' t seed xs (n0 + ((mayL us).length - 1)) ∧ Only (· = t) w w' := by
  obtain ⟨i0, hi, hz0, hz1, hz2⟩ := info_parts info_int
  obtain ⟨i3, hi3, hy0, hy1, hy2⟩ := info_parts info_cand
  obtain ⟨ngt, nbt⟩ := h.not_tape ht
  have hM9 : (mayL us).length ≤ 9 := by
    have h1 := mayK_le us us.length
    have h2 := h.bk.len
    have h3 := h.ok.n9
    unfold mayL; omega
  have hcnd : ∀ k X J : Nat, ∀ u : Up, (shuffled (draw seed xs) n0 (mayL us).length).getD k 0 = X → k < (mayL us).length → (mayL us).getD X 0 = J → us[J]? = some u → ((rowL (draw seed xs) n0 us).map (cnd us))[k]? = some ((J : Int), u.score, u.trial) := by
    intro k X J u h1 hk h2 h3
    have hl := (each_shuffled (draw seed xs) n0 _ hmay).1
    rw [List.getElem?_map]
    unfold rowL
    rw [List.getElem?_map, List.getElem?_eq_getElem (by omega)]
    rw [List.getD_eq_getElem?_getD, List.getElem?_eq_getElem (by omega)] at h1
    simp only [Option.getD_some] at h1
    simp only [Option.map_some, h1, Int.toNat_natCast, h2, cnd_of h3]
  have hCl : ((rowL (draw seed xs) n0 us).map (cnd us)).length = (mayL us).length := by rw [List.length_map]; exact rowL_length _ _ _ hmay
  have hOC : ordC (draw seed xs) n0 us = isrt ((rowL (draw seed xs) n0 us).map (cnd us)) := rfl
  have hcok := cok_map h.us (rowL (draw seed xs) n0 us)
  have hEach := each_shuffled (draw seed xs) n0 _ hmay
  have hOl := ordC_length (draw seed xs) n0 us hmay
  have hmm := fun x (h : x ∈ mayL us) => may_mem h
  obtain ⟨C, hC⟩ : ∃ C, C = (rowL (draw seed xs) n0 us).map (cnd us) := ⟨_, rfl⟩
  unfold ordL
  rw [hOC]
  rw [hOC] at hOl
  rw [← hC] at hcnd hCl hcok hOl ⊢
  have Hcnd := Lib.hid hcnd
  have Hmm := Lib.hid hmm
  have HEach := Lib.hid hEach
  have Hcok := Lib.hid hcok
  clear hC hOC hcnd hmm hEach hcok
  go_enter Tryd.func13, Tryd.ntmps13
  go_wp2_with fail
  refine (may_any h.bk h.ok.n9).mono ?_
  rintro e w1 ⟨A, ca, rfl, hown1, hs1⟩
  have h1 := h.still hs1
  have ht1 := ht.still hs1
  go_wp2_with fail
  refine (shuf_any ht1 hn0 _ hmay (by omega)).mono ?_
  rintro e w2 ⟨bs, cs, rfl, hbs, hown2, ht2, ho2⟩
  generalize hD : (some (⟨bs, 0, none⟩ : Addr)) = D at hown2 ⊢
  clear hD
  have ho2' := (Only.of_still hs1 (· = t)).trans ho2 (fun _ _ h => h)
  have h2 := h1.tape ho2 t0 ngt nbt
  have htlt := ht1.lt
  have hown1 := own_only hown1 ho2 (fun q hq => by have := (hown1.lt q hq).1; have := ht.lt; omega)
  obtain ⟨M, hM⟩ : ∃ M, M = (mayL us).length := ⟨_, rfl⟩
  rw [← hM] at hown1 hown2 hM9 hmay hCl ht2 HEach hOl ⊢
  have HM := Lib.hid hM
  clear hM hs1 h1 ht1 ht ho2 hbs
  have hrd1 := Reads.of_own hown1
  have hrd2 := Reads.of_own hown2
  have hsz2 := ho2'.size
  clear hown1 hown2
  go_wp2_with fail
  go_loopw [6, 26] (fun v i wr => ∃ k : Nat, k ≤ M ∧ i = .int .i64 k ∧ wr.ownsRow w2.heap.size 74 3 v k (cRow (C.take k)) ∧ Hid (Still w2 wr)) (fun _ i _ => M - (intOf i).toNat)
  case atStart => exact ⟨0, by omega, rfl, World.ownsRow_nil _ _ _ _, Lib.hid (Only.refl _ _)⟩
  case round =>
    obtain ⟨k, hk, rfl, hown, hst⟩ := hrel
    by_cases hlt : k < M
    · obtain ⟨ad, x, rfl, _, hx, hxc⟩ := reads_int (hrd2.only hst.out (Nat.le_refl _) (fun _ _ h => h)) hlt
      have hxg : (shuffled (draw seed xs) n0 M).getD k 0 = x := by rw [List.getD_eq_getElem?_getD, hx]; rfl
      obtain ⟨X, rfl⟩ : ∃ X : Nat, x = X := ⟨x.toNat, by have := HEach.out.2.1 k hlt; omega⟩
      have hXM : X < M := by have := HEach.out.2.1 k hlt; omega
      obtain ⟨ad', y, rfl, _, hy, hyc⟩ := reads_int (hrd1.only hst.out (Nat.le_refl _) (fun _ _ h => h)) hXM
      obtain ⟨J, u, rfl, hu, hr0⟩ := Hmm.out y (List.mem_of_getElem? hy)
      have hyg : (mayL us).getD X 0 = (J : Int) := by rw [List.getD_eq_getElem?_getD, hy]; rfl
      have hCk := Hcnd.out k X J u (by rw [← HM.out]; exact hxg) (by rw [← HM.out]; exact hlt) hyg hu
      have hsn := congrArg cRow (take_snoc hCk)
      rw [cRow_snoc] at hsn
      have Hsn := Lib.hid hsn
      have h3 := h2.still hst.out
      clear hxg hyg hCk hsn hx hy hr0
      go_wp2_with fail
      refine (score_in h3.bk J hu).mono ?_
      rintro e w9 ⟨rfl, rfl⟩
      go_wp2_with fail
      refine (trial_in h3.bk J hu).mono ?_
      rintro e w9 ⟨rfl, rfl⟩
      have hp1 := hown.alloc (.cells #[.int .i64 J, .int .i64 u.score, .bool u.trial] 74)
      have hrd := Reads.of_own (World.ownsRow_lit (e := 74) (size := 3) (base := 0) wr #[.int .i64 J, .int .i64 u.score, .bool u.trial] 1 (Nat.zero_le _) (by unfold maxLen; omega) rfl)
      have hst6 := hst.out.alloc (.cells #[.int .i64 J, .int .i64 u.score, .bool u.trial] 74)
      have hsz := hst.out.size
      clear hst h3 hu
      go_wp2_with (at_builtin; refine wpList_append_any _ rfl (.tmp 34) (.tmp 43) 72 rfl w2.heap.size 74 i3 (.agg #[.int .i64 0, .int .i64 0, .bool false]) 3 24 Tryd.underlying72 hi3 hy0 hy1 hy2 rfl (by decide) _ _ _ rfl hp1 _ (some _) 1 1 _ rfl hrd ?c1 ?c2 ?c3 ?c4 ?_)
      case c1 => exact cC_one ((J : Int), u.score, u.trial)
      case c2 => unfold maxLen; omega
      case c3 => omega
      case c4 => simp; omega
      intro v' w' hown' hgrow hblk
      have hst' := hst6.grown hgrow (fun q hq => .inr (hp1.lt q hq).1)
      go_wp2_with fail
      go_roundw
      case rel => exact ⟨k + 1, by omega, by go_num, by rw [Hsn.out]; exact hown', Lib.hid hst'⟩
      case measure => simp [intOf] <;> omega
    · obtain rfl : M = k := by omega
      rw [List.take_of_length_le (by omega)] at hown
      obtain ⟨bq, cq, rfl, hbq⟩ := own_some hown hmay
      have hCR : CR wr w2.heap.size bq M cq C := ⟨hown, hCl⟩
      clear hown hrd1 hrd2
      go_wp2_with fail
      refine (sort_any hCR Hcok.out (by omega)).mono ?_
      rintro e w3 ⟨rfl, hCR3, ho3⟩
      have hst3 := hst.out.trans ho3 (fun i hi e => by omega)
      have Hst3 := Lib.hid hst3
      have hsz3 := hst3.size
      clear hst hst3 hCR ho3
      obtain ⟨O, hO⟩ : ∃ O, O = isrt C := ⟨_, rfl⟩
      rw [← hO] at hCR3
      have HO := Lib.hid hO
      clear hO
      obtain ⟨VL, hVL⟩ : ∃ VL, VL = (O.map (·.1)).map (Value.int .i64) := ⟨_, rfl⟩
      have hVl : VL.length = M := by rw [hVL, List.length_map, List.length_map]; exact hCR3.len
      have HVL := Lib.hid hVL
      clear hVL
      go_wp2_with fail
      go_loopw [10, 50] (fun v i wr => ∃ k : Nat, k ≤ M ∧ i = .int .i64 k ∧ wr.ownsRow w3.heap.size 3 1 v k (VL.take k) ∧ Hid (Still w3 wr)) (fun _ i _ => M - (intOf i).toNat)
      case atStart => exact ⟨0, by omega, rfl, World.ownsRow_nil _ _ _ _, Lib.hid (Only.refl _ _)⟩
      case round =>
        obtain ⟨k, hk, rfl, hown, hst⟩ := hrel
        by_cases hlt : k < M
        · obtain ⟨x0, x1, x2⟩ := (hCR3.still hst.out).cells hlt
          have hO := cAt_get (L := O) (k := k) (by rw [hCR3.len]; exact hlt)
          obtain ⟨X, hX⟩ : ∃ X, X = cAt O k := ⟨_, rfl⟩
          rw [← hX] at x0 x1 x2 hO
          have hv : VL[k]? = some (.int .i64 X.1) := by rw [HVL.out, List.getElem?_map, List.getElem?_map, hO]; rfl
          have hsn := take_snoc hv
          have Hsn := Lib.hid hsn
          clear hX hO hsn hv
          have hp1 := (hown.alloc (.cells #[.int .i64 X.1, .int .i64 X.2.1, .bool X.2.2] 74)).alloc (.cells #[.int .i64 X.1] 3)
          have hrd := Reads.of_own (World.ownsRow_lit (e := 3) (size := 1) (base := 0) (wr.alloc (.cells #[.int .i64 X.1, .int .i64 X.2.1, .bool X.2.2] 74)) #[.int .i64 X.1] 1 (Nat.zero_le _) (by unfold maxLen; omega) rfl)
          rw [show (wr.alloc (.cells #[.int .i64 X.1, .int .i64 X.2.1, .bool X.2.2] 74)).heap.size = wr.heap.size + 1 by simp] at hrd
          have hst6 := (hst.out.alloc (.cells #[.int .i64 X.1, .int .i64 X.2.1, .bool X.2.2] 74)).alloc (.cells #[.int .i64 X.1] 3)
          have hsz := hst.out.size
          clear hst
          go_wp2_with (at_builtin; refine wpList_append_any _ rfl (.tmp 54) (.tmp 57) 37 rfl w3.heap.size 3 i0 (.int .i64 0) 1 8 Tryd.underlying37 hi hz0 hz1 hz2 rfl (by decide) _ _ _ rfl hp1 _ (some _) 1 1 _ rfl hrd ?c1 ?c2 ?c3 ?c4 ?_)
          case c1 => rfl
          case c2 => unfold maxLen; omega
          case c3 => omega
          case c4 => omega
          intro v' w' hown' hgrow hblk
          have hst' := hst6.grown hgrow (fun q hq => .inr (hp1.lt q hq).1)
          go_wp2_with fail
          go_roundw
          case rel => exact ⟨k + 1, by omega, by go_num, by rw [Hsn.out]; exact hown', Lib.hid hst'⟩
          case measure => simp [intOf] <;> omega
        · obtain rfl : M = k := by omega
          rw [List.take_of_length_le (by omega), HVL.out] at hown
          obtain ⟨A', c', rfl⟩ := own_shape hown
          go_wp2_with fail
          rw [← HM.out, ← HO.out]
          go_ret
          have hs4 := Hst3.out.still hst.out
          exact ⟨A', c', rfl, own_base hown (by omega), (h2.still hs4), ht2.still hs4, ho2'.still hs4⟩
end
end Go.Proofs.YtdcogjlcbdkdcaaDoor
