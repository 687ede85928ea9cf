/-
  Package sip: Sum of a Hash that nobody made; nil.
-/
import Derived.Test.YtpgebejnpncemaaSipRefD
namespace Go.Proofs.Ytpgebejnpncemaa
open Go.RowKit
set_option linter.unusedVariables false

set_option maxRecDepth 1000000 in
set_option maxHeartbeats 1600000 in
theorem Sum_gen {w0 : World} {g : Nat} {s : St} (hk : Calls Try.prog 43 #[.pointer (some ⟨g, 0, none⟩)] w0 fun e w => e = .returned (.tuple #[]) ∧ Hsh w g s ∧ Only (· = g) w0 w) (hs : s.Ok) (hn : s.n < 1000000000) :
    Calls Try.prog 32 #[.pointer (some ⟨g, 0, none⟩)] w0 fun e w' => e = .returned (.int .u64 s.sum) ∧ ∃ w, Hsh w g s ∧ Only (· = g) w0 w ∧ Still w w' := by
  obtain ⟨v, l, N⟩ := s
  obtain ⟨hv, hl⟩ := hs
  simp only at hv hl hn
  obtain ⟨M, hM⟩ : ∃ M, M = N % 8 := ⟨_, rfl⟩
  obtain ⟨Z, hZ⟩ : ∃ Z, Z = N % 256 := ⟨_, rfl⟩
  have hm8 : M < 8 := by omega
  have htm : (N : Int).tmod 8 = (M : Int) := by rw [Int.tmod_eq_emod_of_nonneg (by omega)]; omega
  have hwr : IntKind.u8.wrap (N : Int) = (Z : Int) := by rw [IntKind.wrap_u8]; omega
  have hm8i : (M : Int) ≤ 8 := by omega
  have HM := Lib.hid hM
  have HZ := Lib.hid hZ
  clear hM hZ
  go_enter Try.func32, Try.ntmps32
  go_wp2_with fail
  refine hk.mono ?_
  rintro e w ⟨rfl, h, ho⟩
  have hH := Lib.hid h
  have hO := Lib.hid ho
  have c13 := (Blk.cell h 13).trans (hcells_n hv hl)
  have c13' := (Blk.cell (Blk.alloc h (.cells (lastCells Z).toArray 58)) 13).trans (hcells_n hv hl)
  have hb1 := Blk.new w 58 (lastCells Z).toArray
  go_wp2_with fail
  have h1 : Hsh (w.alloc (.cells (lastCells Z).toArray 58)) g ⟨v, l, N⟩ := Blk.alloc h _
  have hs1 : Still w (w.alloc (.cells (lastCells Z).toArray 58)) := Still.new w _
  have hgB : g < w.heap.size := Blk.lt h
  have hsz1 : w.heap.size < (w.alloc (.cells (lastCells Z).toArray 58)).heap.size := by simp
  generalize hW1 : w.alloc (.cells (lastCells Z).toArray 58) = w1 at hb1 c13' h1 hs1 hsz1
  have hW1 : w.alloc (.cells #[.int .u8 0, .int .u8 0, .int .u8 0, .int .u8 0, .int .u8 0, .int .u8 0, .int .u8 0, .int .u8 (Z : Int)] 58) = w1 := hW1
  generalize w.alloc (.cells #[.int .u8 0, .int .u8 0, .int .u8 0, .int .u8 0, .int .u8 0, .int .u8 0, .int .u8 0, .int .u8 (Z : Int)] 58) = w1' at hW1 ⊢
  subst hW1
  clear c13 h
  generalize hBe : w.heap.size = B at *
  have HB := Lib.hid hBe
  clear hBe
  go_still_tail 10, (by kernel_rfl)
  refine wpList_copy_splice rfl (.tmp 15) (.tmp 24) 54 54 rfl 5 Try.underlying54 (by kernel_rfl) (some ⟨B, 0, none⟩) (some ⟨g, 5, none⟩) 7 8 M 8 rfl rfl B 0 (lastCells Z) 58 hb1.drew ((l.take M).map (Value.int .u8)) ?c1 ?c2 ?c3 ?c4 B w1'.drew (Below.refl _ _) (Nat.le_refl _) ?_
  case c1 => rw [List.length_map, List.length_take, hl.len]; exact (Nat.min_eq_left (by omega : M ≤ 8)).trans (Nat.min_eq_left (by omega : M ≤ 7)).symm
  case c2 =>
    refine fun _ => ⟨rfl, _, rfl, fun j u hu => ?_⟩
    have hj : j < M := by
      have := (List.getElem?_eq_some_iff.1 hu).1
      rw [List.length_map, List.length_take] at this
      omega
    have e : (⟨g, 5, none⟩ : Addr).add j = ⟨g, 5 + j, none⟩ := by unfold Addr.add; split <;> simp_all
    rw [e]
    refine (Blk.cell h1 (5 + j)).trans ((hcells_l hv hl (by omega)).trans ?_)
    rw [← hu, List.getElem?_map, List.getElem?_take_of_lt hj, List.getD_eq_getElem?_getD, List.getElem?_eq_getElem (by rw [hl.len]; omega)]
    rfl
  case c3 => rw [List.length_map, List.length_take, hl.len]; show 0 + min M 8 ≤ 8; omega
  case c4 => intro u hu; obtain ⟨x, _, rfl⟩ := List.mem_map.1 hu; rfl
  intro w2 HG hB2
  have hs2 : Still w w2 := hs1.drew.below hB2 (fun k hk => .inr (by rw [HB.out]; exact hk))
  have h2 : Hsh w2 g ⟨v, l, N⟩ := (hB2.block g hgB).trans h1
  have hl8 := last_oct (v := v) (N := N) hl
  obtain ⟨L, hL⟩ : ∃ L, L = St.last ⟨v, l, N⟩ := ⟨_, rfl⟩
  have hb2 : Blk w2 B 58 (L.map (Value.int .u8)).toArray := by
    have e := last_eq (N := N) hl HM.out 0
    rw [← HZ.out] at e
    have := HG.out
    rw [e] at this
    rw [hL]
    exact this
  rw [← hL] at hl8
  have HL := Lib.hid hL
  clear hL HG h1 hs1 hb1 c13' hB2
  obtain ⟨V, hV⟩ : ∃ V, V = v := ⟨_, rfl⟩
  have hvV := hv
  obtain ⟨v0, v1, v2, v3, hve⟩ := hv.cases
  rw [← hV] at hvV
  have d0 : w2.cell? ⟨g, 1, none⟩ = some (.int .u64 v0) := by subst hve; exact (Blk.cell h2 1).trans (lay_get (pre := [.bool true]) (o := 1) rfl hv (i := 0) (by omega))
  have d1 : w2.cell? ⟨g, 2, none⟩ = some (.int .u64 v1) := by subst hve; exact (Blk.cell h2 2).trans (lay_get (pre := [.bool true]) (o := 1) rfl hv (i := 1) (by omega))
  have d2 : w2.cell? ⟨g, 3, none⟩ = some (.int .u64 v2) := by subst hve; exact (Blk.cell h2 3).trans (lay_get (pre := [.bool true]) (o := 1) rfl hv (i := 2) (by omega))
  have d3 : w2.cell? ⟨g, 4, none⟩ = some (.int .u64 v3) := by subst hve; exact (Blk.cell h2 4).trans (lay_get (pre := [.bool true]) (o := 1) rfl hv (i := 3) (by omega))
  have HV := Lib.hid (hV.trans hve)
  have hVv := Lib.hid hV
  clear hV hve
  obtain ⟨b0, b1, b2, b3, b4, b5, b6, b7, hLe⟩ := hl8.cases
  subst hLe
  have hV0 : Blk (w2.alloc (.cells #[.int .u64 v0, .int .u64 v1, .int .u64 v2, .int .u64 v3] 57)) w2.heap.size 57 (lay [] V []) := by
    rw [HV.out]; exact Blk.new w2 _ _
  have hb3 := hb2.alloc (.cells #[.int .u64 v0, .int .u64 v1, .int .u64 v2, .int .u64 v3] 57)
  have hs3 := hs2.alloc (.cells #[.int .u64 v0, .int .u64 v1, .int .u64 v2, .int .u64 v3] 57)
  obtain ⟨w3, hw3⟩ : ∃ w3, w3 = w2.alloc (.cells #[.int .u64 v0, .int .u64 v1, .int .u64 v2, .int .u64 v3] 57) := ⟨_, rfl⟩
  rw [← hw3] at hV0 hb3 hs3
  have hB3 : w.heap.size ≤ w2.heap.size := hs2.size
  obtain ⟨G, hG⟩ : ∃ G, G = w2.heap.size := ⟨_, rfl⟩
  rw [← hG] at hV0 hB3
  have e0 : w3.cell? ⟨B, 0, none⟩ = some (.int .u8 b0) := hb3.cell 0
  have e1 : w3.cell? ⟨B, 1, none⟩ = some (.int .u8 b1) := hb3.cell 1
  have e2 : w3.cell? ⟨B, 2, none⟩ = some (.int .u8 b2) := hb3.cell 2
  have e3 : w3.cell? ⟨B, 3, none⟩ = some (.int .u8 b3) := hb3.cell 3
  have e4 : w3.cell? ⟨B, 4, none⟩ = some (.int .u8 b4) := hb3.cell 4
  have e5 : w3.cell? ⟨B, 5, none⟩ = some (.int .u8 b5) := hb3.cell 5
  have e6 : w3.cell? ⟨B, 6, none⟩ = some (.int .u8 b6) := hb3.cell 6
  have e7 : w3.cell? ⟨B, 7, none⟩ = some (.int .u8 b7) := hb3.cell 7
  clear hb2 hs2 h2
  subst hw3
  go_wp2_with fail
  refine (number_oct hl8 _).mono ?_
  rintro e w4 ⟨rfl, hst4⟩
  have hV4 := hV0.only hst4 (fun h => h)
  have hs4 := hs3.still hst4
  clear e0 e1 e2 e3 e4 e5 e6 e7 hb3 hV0 hs3 d0 d1 d2 d3
  have hG' := hG.symm
  clear hG
  rw [hG']
  generalize w2.heap.size = G2 at hG'
  clear hst4
  go_wp2_with fail
  refine (mix_blk (pre := []) (post := []) hV4 rfl hvV hl8.num64).mono ?_
  rintro e w5 ⟨rfl, hV5, ho5⟩
  have hs5 := hs4.trans (ho5.mono (T := fun k => k = G) (fun _ _ h => h)) (S := fun _ => False) (fun i hi e => by omega)
  clear hV4 hs4 ho5 hG'
  obtain ⟨X, hX⟩ : ∃ X, X = num [b0, b1, b2, b3, b4, b5, b6, b7] := ⟨_, rfl⟩
  have hx64 := hl8.num64
  rw [← hX] at hV5 hx64 ⊢
  have HX := Lib.hid hX
  clear hX
  have hu := mix_ok hvV hx64
  obtain ⟨U, hU⟩ : ∃ U, U = mix V X := ⟨_, rfl⟩
  rw [← hU] at hu hV5
  have HU := Lib.hid hU
  clear hU
  have c2 := (hV5.cell 2).trans (lay_get (pre := []) (o := 0) (i := 2) rfl hu (by omega))
  have f2 := hV5.frozen 2
  obtain ⟨x, hx⟩ : ∃ x, x = U.getD 2 0 := ⟨_, rfl⟩
  rw [← hx] at c2
  have Hx := Lib.hid hx
  have hu2 := hu.set 2 (bits .xor .u64 x 255) (xor64 x 255 (by rw [hx]; exact hu.rg 2 (by omega)) (by omega))
  clear hx
  have hV6 : Blk (w5.setCell ⟨G, 2, none⟩ (.int .u64 (bits .xor .u64 x 255))) G 57 (lay [] (U.set 2 (bits .xor .u64 x 255)) []) := by
    have := hV5.set_ 2 (.int .u64 (bits .xor .u64 x 255))
    rw [show (2 : Nat) = 0 + 2 from rfl, lay_set (pre := []) (o := 0) rfl hu (by omega)] at this
    exact this
  have hs6 : Still w (w5.setCell ⟨G, 2, none⟩ (.int .u64 (bits .xor .u64 x 255))) := hs5.setCell (p := ⟨G, 2, none⟩) (.inr hB3) _
  obtain ⟨Y, hY⟩ : ∃ Y, Y = U.set 2 (bits .xor .u64 x 255) := ⟨_, rfl⟩
  rw [← hY] at hu2 hV6
  have HY := Lib.hid hY
  clear hY
  go_wp2_with fail
  generalize w5.setCell ⟨G, 2, none⟩ (.int .u64 (bits .xor .u64 x 255)) = w6 at *
  clear c2 f2 hV5 hs5
  go_loopw [37] (fun i wr => ∃ k : Nat, k ≤ 4 ∧ i = .int .i64 k ∧ Blk wr G 57 (lay [] (rdn k Y) []) ∧ Hid (Still w wr)) (fun i _ => 4 - (intOf i).toNat)
  case atStart => exact ⟨0, by omega, rfl, hV6, Lib.hid hs6⟩
  case round =>
    clear hV6 hs6
    obtain ⟨k, hk, rfl, hV6, hs6⟩ := hrel
    have hrk := rdn_ok hu2 k
    by_cases hlt : k < 4
    · have hlti : (k : Int) < 4 := by omega
      go_wp2_with fail
      refine (round_blk (pre := []) (post := []) hV6 rfl hrk).mono ?_
      rintro e w7 ⟨rfl, hV7, ho7⟩
      have hs7 : Still w w7 := hs6.out.trans ho7 (fun i hi e => by omega)
      clear hV6 hs6 ho7
      go_wp2_with fail
      go_roundw
      case rel => exact ⟨k + 1, by omega, by go_num, hV7, Lib.hid hs7⟩
      case measure => simp [intOf]; omega
    · have hk4 : k = 4 := by omega
      subst hk4
      obtain ⟨R, hR⟩ : ∃ R, R = rdn 4 Y := ⟨_, rfl⟩
      rw [← hR] at hrk hV6
      have HR := Lib.hid hR
      clear hR
      obtain ⟨r0, r1, r2, r3, hRe⟩ := hrk.cases
      subst hRe
      have c0 : wr.cell? ⟨G, 0, none⟩ = some (.int .u64 r0) := hV6.cell 0
      have c1 : wr.cell? ⟨G, 1, none⟩ = some (.int .u64 r1) := hV6.cell 1
      have c2 : wr.cell? ⟨G, 2, none⟩ = some (.int .u64 r2) := hV6.cell 2
      have c3 : wr.cell? ⟨G, 3, none⟩ = some (.int .u64 r3) := hV6.cell 3
      go_wp2_with fail
      go_ret
      refine ⟨ret_int ?_, w, hH.out, hO.out, hs6.out⟩
      have e : St.sum ⟨v, l, N⟩ = xors [r0, r1, r2, r3] := by
        have ev : v = V := hVv.out.symm
        have ex : num (St.last ⟨v, l, N⟩) = X := by rw [HX.out, HL.out]
        unfold St.sum St.fin
        simp only []
        rw [ex, ev, ← HU.out, ← Hx.out, ← HY.out, HR.out]
        rfl
      rw [e]
      rfl

def zcells : Array Value := #[.bool false, .int .u64 0, .int .u64 0, .int .u64 0, .int .u64 0, .int .u8 0, .int .u8 0, .int .u8 0, .int .u8 0, .int .u8 0, .int .u8 0, .int .u8 0, .int .u8 0, .int .i64 0]

set_option maxRecDepth 1000000 in
set_option maxHeartbeats 1600000 in
theorem key_zero {w : World} {g : Nat} (h : Blk w g 60 zcells) :
    Calls Try.prog 43 #[.pointer (some ⟨g, 0, none⟩)] w fun e w' => e = .returned (.tuple #[]) ∧ Hsh w' g (st0 0 0) ∧ Only (· = g) w w' := by
  have c0 : w.cell? ⟨g, 0, none⟩ = some (.bool false) := h.cell 0
  obtain ⟨b0, b1, b2, b3, hB⟩ := (beg_ok (k0 := 0) (k1 := 0) (by omega) (by omega)).cases
  have hbg := fun W => begin_any (w := W) (k0 := 0) (k1 := 0) (by omega) (by omega)
  rw [hB] at hbg
  have hbg : ∀ W, Calls Try.prog 42 #[.int .u64 0, .int .u64 0] W fun e w' => e = .returned (.agg #[.int .u64 b0, .int .u64 b1, .int .u64 b2, .int .u64 b3]) ∧ Still W w' := hbg
  have HB := Lib.hid hB
  clear hB
  go_enter Try.func43, Try.ntmps43
  go_wp2_with fail
  refine (hbg w).mono ?_
  rintro e w1 ⟨rfl, hs1⟩
  have hb := h.only hs1 (fun h => h)
  have d0 : w1.cell? ⟨g, 0, none⟩ = some (.bool false) := hb.cell 0
  have d1 : w1.cell? ⟨g, 1, none⟩ = some (.int .u64 0) := hb.cell 1
  have d2 : w1.cell? ⟨g, 2, none⟩ = some (.int .u64 0) := hb.cell 2
  have d3 : w1.cell? ⟨g, 3, none⟩ = some (.int .u64 0) := hb.cell 3
  have d4 : w1.cell? ⟨g, 4, none⟩ = some (.int .u64 0) := hb.cell 4
  have f0 := hb.frozen 0
  have f1 := hb.frozen 1
  have f2 := hb.frozen 2
  have f3 := hb.frozen 3
  have f4 := hb.frozen 4
  have hb5 := ((((hb.set_ 0 (.bool true)).set_ 1 (.int .u64 b0)).set_ 2 (.int .u64 b1)).set_ 3 (.int .u64 b2)).set_ 4 (.int .u64 b3)
  have ho0 : Only (· = g) w w1 := Only.of_still hs1 _
  have ho5 := ((((ho0.setCell (p := ⟨g, 0, none⟩) (.inl rfl) (.bool true)).setCell (p := ⟨g, 1, none⟩) (.inl rfl) (.int .u64 b0)).setCell (p := ⟨g, 2, none⟩) (.inl rfl) (.int .u64 b1)).setCell (p := ⟨g, 3, none⟩) (.inl rfl) (.int .u64 b2)).setCell (p := ⟨g, 4, none⟩) (.inl rfl) (.int .u64 b3)
  clear h hb c0
  go_wp2_with fail
  go_end0
  refine ⟨rfl, ?_, ho5⟩
  have e : hcells (beg 0 0) oct0 0 = #[.bool true, .int .u64 b0, .int .u64 b1, .int .u64 b2, .int .u64 b3, .int .u8 0, .int .u8 0, .int .u8 0, .int .u8 0, .int .u8 0, .int .u8 0, .int .u8 0, .int .u8 0, .int .i64 0] := by rw [HB.out]; rfl
  show Blk _ g _ (hcells (beg 0 0) oct0 0)
  rw [e]
  exact hb5

set_option maxRecDepth 1000000 in
theorem Write_nil (t : ByteArray) (w : World) : Calls Try.prog 34 #[.pointer none, .string t] w fun e w' => e = .returned (.int .i64 2) ∧ w = w' := by
  go_enter Try.func34, Try.ntmps34
  go_wp2
  go_ret
  exact ⟨rfl, rfl⟩
set_option maxRecDepth 1000000 in
theorem Sum_nil (w : World) : Calls Try.prog 32 #[.pointer none] w fun e w' => e = .returned (.int .u64 0) ∧ w = w' := by
  go_enter Try.func32, Try.ntmps32
  go_wp2
  go_ret
  exact ⟨rfl, rfl⟩
set_option maxRecDepth 1000000 in
theorem Len_nil (w : World) : Calls Try.prog 33 #[.pointer none] w fun e w' => e = .returned (.int .i64 0) ∧ w = w' := by
  go_enter Try.func33, Try.ntmps33
  go_wp2
  go_ret
  exact ⟨rfl, rfl⟩
set_option maxRecDepth 1000000 in
theorem SCopy_nil (w : World) : Calls Try.prog 35 #[.pointer none] w fun e w' => e = .returned (.pointer none) ∧ w = w' := by
  go_enter Try.func35, Try.ntmps35
  go_wp2
  go_ret
  exact ⟨rfl, rfl⟩
end Go.Proofs.Ytpgebejnpncemaa
