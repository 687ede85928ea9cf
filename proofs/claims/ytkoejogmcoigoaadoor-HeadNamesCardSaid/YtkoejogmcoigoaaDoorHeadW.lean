/-
  Package head and its reference: Write.
-/
import Derived.Test.YtkoejogmcoigoaaDoorHeadRef
namespace Go.Proofs.YtkoejogmcoigoaaDoor
open Go.RowKit
set_option linter.unusedVariables false
set_option linter.unusedSimpArgs false

/-- May a count be? -/
def okC (x : Int) : Bool := decide (0 ≤ x ∧ x ≤ 65535)
/-- The bytes of so many counts. -/
def cntB (l : List Int) : Nat → List UInt8
  | 0 => []
  | k + 1 => cntB l k ++ beB 2 (l.getD k 0).toNat
theorem cntB_length (l : List Int) : ∀ k, (cntB l k).length = 2 * k
  | 0 => rfl
  | k + 1 => by rw [cntB, List.length_append, cntB_length l k, beB_length]; omega
def writeV (id : Nat) (qr : Bool) (op : Nat) (aa tc rd ra z ad cd : Bool) (code : Nat) (c : List Int) : ByteArray × Int :=
  if (flagsV qr op aa tc rd ra z ad cd code).2 = 0 ∧ c.all okC = true then (str (beB 2 id ++ beB 2 (flagsV qr op aa tc rd ra z ad cd code).1.toNat ++ cntB c 4), 0) else (⟨#[]⟩, 1)
theorem idx4 (b0 b1 b2 b3 : Int) : ∀ (k : Nat) (hk : k < 4) (w : World), (Instr.index 34 (.agg #[.int .i64 b0, .int .i64 b1, .int .i64 b2, .int .i64 b3]) (.int .i64 (k : Int))).run Tryd.prog w = .ok (.int .i64 ([b0, b1, b2, b3].getD k 0)) w
  | 0, _, _ => by kernel_rfl
  | 1, _, _ => by kernel_rfl
  | 2, _, _ => by kernel_rfl
  | 3, _, _ => by kernel_rfl
theorem all_ok (c0 c1 c2 c3 : Int) (h : ∀ j, j < 4 → okC ([c0, c1, c2, c3].getD j 0) = true) : [c0, c1, c2, c3].all okC = true := by
  have h0 := h 0 (by omega)
  have h1 := h 1 (by omega)
  have h2 := h 2 (by omega)
  have h3 := h 3 (by omega)
  simp at h0 h1 h2 h3
  simp [h0, h1, h2, h3]
theorem not_ok (c0 c1 c2 c3 : Int) (j : Nat) (hj : j < 4) (h : okC ([c0, c1, c2, c3].getD j 0) = false) : ¬ [c0, c1, c2, c3].all okC = true := by
  intro ha
  have hm : [c0, c1, c2, c3].getD j 0 ∈ [c0, c1, c2, c3] := by
    rw [List.getD_eq_getElem?_getD, List.getElem?_eq_getElem (by simpa using hj)]
    exact List.getElem_mem _
  rw [List.all_eq_true.1 ha _ hm] at h
  cases h
theorem flagsV_no (id : Nat) (qr : Bool) (op : Nat) (aa tc rd ra z ad cd : Bool) (code : Nat) (h : (flagsV qr op aa tc rd ra z ad cd code).2 ≠ 0) : (flagsV qr op aa tc rd ra z ad cd code).2 = 1 ∧ (flagsV qr op aa tc rd ra z ad cd code).1 = 0 := by
  unfold flagsV at *
  split at h
  · exact absurd rfl h
  · rename_i hn; rw [if_neg hn]; exact ⟨rfl, rfl⟩
theorem flagsV_lt (id : Nat) (qr : Bool) (op : Nat) (aa tc rd ra z ad cd : Bool) (code : Nat) : 0 ≤ (flagsV qr op aa tc rd ra z ad cd code).1 ∧ (flagsV qr op aa tc rd ra z ad cd code).1 < 65536 := by
  unfold flagsV
  split
  · rename_i h
    have := acc_lt [qr, aa, tc, rd, ra, z, ad, cd] op code h.1 h.2 8 (by omega)
    show 0 ≤ ((flagsN qr op aa tc rd ra z ad cd code : Nat) : Int) ∧ ((flagsN qr op aa tc rd ra z ad cd code : Nat) : Int) < 65536
    unfold flagsN
    omega
  · exact ⟨by decide, by decide⟩

set_option maxRecDepth 1000000 in
set_option maxHeartbeats 1600000 in
theorem write_any (id : Nat) (qr : Bool) (op : Nat) (aa tc rd ra z ad cd : Bool) (code : Nat) (c0 c1 c2 c3 : Int) (w : World) (hb : BitsT w) (h0 : op < 256) (h : code < 256) (hid : id < 65536) :
    Calls Tryd.prog 11 #[.agg #[.int .u16 id, .bool qr, .int .u8 op, .bool aa, .bool tc, .bool rd, .bool ra, .bool z, .bool ad, .bool cd, .int .u8 code], .agg #[.int .i64 c0, .int .i64 c1, .int .i64 c2, .int .i64 c3]] w fun e w' => e = .returned (.tuple #[.string (writeV id qr op aa tc rd ra z ad cd code [c0, c1, c2, c3]).1, .int .i64 (writeV id qr op aa tc rd ra z ad cd code [c0, c1, c2, c3]).2]) ∧ Still w w' := by
  have hst := (Still.new w (.cells #[.int .u16 id, .bool qr, .int .u8 op, .bool aa, .bool tc, .bool rd, .bool ra, .bool z, .bool ad, .bool cd, .int .u8 code] 25)).alloc (.cells #[.int .i64 c0, .int .i64 c1, .int .i64 c2, .int .i64 c3] 34)
  have hb1 := hb.still hst
  have hB := (Blk.new w 25 #[.int .u16 id, .bool qr, .int .u8 op, .bool aa, .bool tc, .bool rd, .bool ra, .bool z, .bool ad, .bool cd, .int .u8 code]).alloc (.cells #[.int .i64 c0, .int .i64 c1, .int .i64 c2, .int .i64 c3] 34)
  have hC := Blk.at_ (w.alloc (.cells #[.int .u16 id, .bool qr, .int .u8 op, .bool aa, .bool tc, .bool rd, .bool ra, .bool z, .bool ad, .bool cd, .int .u8 code] 25)) 34 #[.int .i64 c0, .int .i64 c1, .int .i64 c2, .int .i64 c3] (g := w.heap.size + 1) (by simp)
  have hno := flagsV_no id qr op aa tc rd ra z ad cd code
  have hlt := flagsV_lt id qr op aa tc rd ra z ad cd code
  have hfa := fun w hb => flags_all id qr op aa tc rd ra z ad cd code w hb h0 h
  have hw : writeV id qr op aa tc rd ra z ad cd code [c0, c1, c2, c3] = if (flagsV qr op aa tc rd ra z ad cd code).2 = 0 ∧ [c0, c1, c2, c3].all okC = true then (str (beB 2 id ++ beB 2 (flagsV qr op aa tc rd ra z ad cd code).1.toNat ++ cntB [c0, c1, c2, c3] 4), 0) else (⟨#[]⟩, 1) := rfl
  generalize flagsV qr op aa tc rd ra z ad cd code = F at *
  obtain ⟨fl, fe⟩ := F
  have hfa' : ∀ w, BitsT w → Calls Tryd.prog 10 #[.agg #[.int .u16 id, .bool qr, .int .u8 op, .bool aa, .bool tc, .bool rd, .bool ra, .bool z, .bool ad, .bool cd, .int .u8 code]] w fun e w' => e = .returned (.tuple #[.int .u16 fl, .int .i64 fe]) ∧ Still w w' := hfa
  obtain ⟨FL, rfl⟩ : ∃ n : Nat, fl = (n : Int) := ⟨fl.toNat, by have := hlt.1; simp at this; omega⟩
  have hF : FL < 65536 := by have := hlt.2; simp at this; omega
  have hwv : writeV id qr op aa tc rd ra z ad cd code [c0, c1, c2, c3] = if fe = 0 ∧ [c0, c1, c2, c3].all okC = true then (str (beB 2 id ++ beB 2 FL ++ cntB [c0, c1, c2, c3] 4), 0) else (⟨#[]⟩, 1) := hw
  generalize writeV id qr op aa tc rd ra z ad cd code [c0, c1, c2, c3] = V at *
  have Hwv := Lib.hid hwv
  have Hfa := Lib.hid hfa'
  have hno' : fe ≠ 0 → fe = 1 := fun h => (hno h).1
  clear hfa hfa' hw hwv hlt hno
  have y1 : (id : Int).toNat = id := by omega
  have HC := hC
  have HB' := hB
  by_cases hfe : fe = 0
  · subst hfe
    obtain ⟨L, hL⟩ : ∃ L, L = [c0, c1, c2, c3] := ⟨_, rfl⟩
    have hix := idx4 c0 c1 c2 c3
    have hao := all_ok c0 c1 c2 c3
    have hnk := not_ok c0 c1 c2 c3
    rw [← hL] at hix hao hnk Hwv
    have Hix := Lib.hid hix
    have Hnk := Lib.hid hnk
    have Hao := Lib.hid hao
    have hL4 : L.length = 4 := by rw [hL]; rfl
    have HL := Lib.hid hL
    clear hix hnk hao hL hno' hL4
    go_enter Tryd.func11, Tryd.ntmps11
    go_wp2_with (refine wpList_load_row rfl 25 (.tmp 2) rfl _ rfl 25 _ (0, 0) _ hB Tryd.underlying25 rfl (by kernel_rfl) ?_)
    generalize (w.alloc (.cells #[.int .u16 id, .bool qr, .int .u8 op, .bool aa, .bool tc, .bool rd, .bool ra, .bool z, .bool ad, .bool cd, .int .u8 code] 25)).alloc (.cells #[.int .i64 c0, .int .i64 c1, .int .i64 c2, .int .i64 c3] 34) = w1 at *
    obtain ⟨g, hg⟩ : ∃ g, w.heap.size = g := ⟨_, rfl⟩
    rw [hg] at hB hC HC HB'
    rw [hg]
    have Hg := Lib.hid hg
    clear hg
    refine (Hfa.out _ hb1).mono ?_
    rintro e w2 ⟨rfl, hs2⟩
    have hB := hB.only hs2 (fun h => h)
    have hC := hC.only hs2 (fun h => h)
    have hst2 := hst.still hs2
    have d0 : w2.cell? ⟨g, 0, none⟩ = some (.int .u16 id) := hB.cell 0
    clear HC HB' hb1 hst hs2
    go_wp2_with fail
    refine (Put2_any none 0 0 [] _ (Reads.nil_bytes _ _) (by omega) id hid).mono ?_
    rintro e w3 ⟨b, rfl, hbg, hown, hs3⟩
    have hB := hB.only hs3 (fun h => h)
    have hC := hC.only hs3 (fun h => h)
    have hst3 := hst2.still hs3
    have hr3 := Reads.of_own hown
    rw [List.nil_append] at hr3
    clear hown d0 hst2 hs3 hbg
    go_wp2_with fail
    refine (Put2_any _ _ _ _ _ hr3 (by omega) FL hF).mono ?_
    rintro e w4 ⟨b', rfl, hbg, hown, hs4⟩
    have hC := hC.only hs4 (fun h => h)
    have hst4 := hst3.still hs4
    have hown := own_base (base' := w.heap.size) hown (by have := hst3.size; omega)
    clear hst3 hs4 hbg hB hr3
    obtain ⟨l0, hl0⟩ : ∃ l0, l0 = beB 2 id ++ beB 2 FL := ⟨_, rfl⟩
    rw [← hl0] at hown Hwv
    have hl4 : l0.length = 4 := by rw [hl0, List.length_append, beB_length, beB_length]
    have HL0 := Lib.hid hl4
    clear hl0 hl4
    have c0' : w4.cell? ⟨g + 1, 0, none⟩ = some (.int .i64 c0) := hC.cell 0
    have c1' : w4.cell? ⟨g + 1, 1, none⟩ = some (.int .i64 c1) := hC.cell 1
    have c2' : w4.cell? ⟨g + 1, 2, none⟩ = some (.int .i64 c2) := hC.cell 2
    have c3' : w4.cell? ⟨g + 1, 3, none⟩ = some (.int .i64 c3) := hC.cell 3
    go_wp2_with fail
    clear c0' c1' c2' c3'
    go_loopw [8, 26] (fun v i wr => ∃ (k b : Nat), k ≤ 4 ∧ i = .int .i64 k ∧ Hid (∀ j, j < k → okC (L.getD j 0) = true) ∧ v = .slice (some ⟨b, 0, none⟩) (4 + 2 * k) (4 + 2 * k) ∧ wr.ownsRow w.heap.size 5 1 (.slice (some ⟨b, 0, none⟩) (4 + 2 * k) (4 + 2 * k)) (4 + 2 * k) (bv (l0 ++ cntB L k)) ∧ Hid (Still w wr)) (fun _ i _ => 4 - (intOf i).toNat)
    case atStart => exact ⟨0, b', by omega, rfl, Lib.hid (fun j hj => absurd hj (by omega)), rfl, by rw [cntB, List.append_nil]; exact hown, Lib.hid hst4⟩
    case round =>
      clear hown hst4
      obtain ⟨k, b, hk, rfl, hok, rfl, hown, hst⟩ := hrel
      by_cases hlt : k < 4
      · have hi := Hix.out k hlt
        have hkk : (k : Int) < 4 := by omega
        obtain ⟨x, hx⟩ : ∃ x, x = L.getD k 0 := ⟨_, rfl⟩
        have hnk := Hnk.out k hlt
        have hcn : cntB L (k + 1) = cntB L k ++ beB 2 (L.getD k 0).toNat := rfl
        rw [← hx] at hi hnk hcn
        by_cases ho : okC x = true
        · have hx1 : 0 ≤ x ∧ x ≤ 65535 := of_decide_eq_true ho
          obtain ⟨X, rfl⟩ : ∃ X : Nat, x = (X : Int) := ⟨x.toNat, by omega⟩
          have hX : X < 65536 := by omega
          have j1 : ¬ (X : Int) < 0 := by omega
          have j1' : decide ((X : Int) < 0) = false := decide_eq_false j1
          have j2 : ¬ (65535 : Int) < (X : Int) := by omega
          have j2' : decide ((65535 : Int) < (X : Int)) = false := decide_eq_false j2
          have j3 : (X : Int) % 65536 = X := by omega
          have hok' : ∀ j, j < k + 1 → okC (L.getD j 0) = true := fun j hj => by
            rcases Nat.lt_or_ge j k with h | h
            · exact hok.out j h
            · obtain rfl : j = k := by omega
              rw [← hx]; exact ho
          have Hok := Lib.hid hok'
          have hr := Reads.of_own hown
          rw [Int.toNat_natCast] at hcn
          have Hcn := Lib.hid hcn
          clear hx ho hx1 hok' hcn hnk hown hok
          go_wp2_with fail
          refine (Put2_any _ _ _ _ _ hr (by omega) X hX).mono ?_
          rintro e w5 ⟨b5, rfl, hbg, hown, hs5⟩
          have hst5 := hst.out.still hs5
          have hown := own_base (base' := w.heap.size) hown (by have := hst.out.size; omega)
          rw [List.append_assoc, ← Hcn.out] at hown
          have Hst5 := Lib.hid hst5
          clear hr hs5 hst5 j1 j1' j2 j2' j3 hi hst hbg
          go_wp2_with fail
          go_roundw
          case rel => exact ⟨k + 1, b5, by omega, by go_num, Hok, rfl, hown, Hst5⟩
          case measure => simp [intOf]; omega
        · have hV : V = (⟨#[]⟩, 1) := by rw [Hwv.out, if_neg (fun h => hnk (by simpa using ho) h.2)]
          have HV := Lib.hid hV
          have hst' := hst.out
          have hx1 : x < 0 ∨ ¬ x < 0 ∧ 65535 < x := by
            rcases Int.lt_or_le x 0 with h | h
            · exact .inl h
            · exact .inr ⟨by omega, by rcases Int.lt_or_le 65535 x with h' | h'; exact h'; exact absurd (decide_eq_true ⟨h, h'⟩) ho⟩
          clear hx ho hnk hcn hV hst hok
          rcases hx1 with j1 | ⟨j1, j2⟩
          · go_wp2_with fail
            go_ret2
            rw [HV.out]
            exact ⟨rfl, hst'⟩
          · have j1' : decide (x < 0) = false := decide_eq_false j1
            go_wp2_with fail
            go_ret2
            rw [HV.out]
            exact ⟨rfl, hst'⟩
      · obtain rfl : k = 4 := by omega
        have hV : V = (str (l0 ++ cntB L 4), 0) := by rw [Hwv.out, if_pos (by simpa using Hao.out hok.out)]
        have HV := Lib.hid hV
        have hcv := conv_own hown
        have hst' := hst.out
        clear hV hown hok hst
        go_wp2_with fail
        go_ret2
        rw [HV.out]
        exact ⟨rfl, hst'⟩
  · obtain rfl := hno' hfe
    have e1 : ((1 : Int) != 0) = true := rfl
    have hV : V = (⟨#[]⟩, 1) := by rw [Hwv.out, if_neg (fun h => hfe h.1)]
    have HV := Lib.hid hV
    clear hV Hwv hfe hno'
    go_enter Tryd.func11, Tryd.ntmps11
    go_wp2_with (refine wpList_load_row rfl 25 (.tmp 2) rfl _ rfl 25 _ (0, 0) _ hB Tryd.underlying25 rfl (by kernel_rfl) ?_)
    generalize (w.alloc (.cells #[.int .u16 id, .bool qr, .int .u8 op, .bool aa, .bool tc, .bool rd, .bool ra, .bool z, .bool ad, .bool cd, .int .u8 code] 25)).alloc (.cells #[.int .i64 c0, .int .i64 c1, .int .i64 c2, .int .i64 c3] 34) = w1 at *
    refine (Hfa.out _ hb1).mono ?_
    rintro e w2 ⟨rfl, hs2⟩
    have hst2 := hst.still hs2
    go_wp2_with fail
    go_ret2
    rw [HV.out]
    exact ⟨rfl, hst2⟩

theorem cells4 {w : World} {g : Nat} {T : TypeId} (c0 c1 c2 c3 : Int) (h : Blk w g T #[.int .i64 c0, .int .i64 c1, .int .i64 c2, .int .i64 c3]) : ∀ k, k < 4 → w.cell? ⟨g, k, none⟩ = some (.int .i64 ([c0, c1, c2, c3].getD k 0))
  | 0, _ => h.cell 0
  | 1, _ => h.cell 1
  | 2, _ => h.cell 2
  | 3, _ => h.cell 3
theorem cat_ok (l m : List UInt8) (h : l.length + m.length ≤ 1000) : ¬ 9223372036854775807 < (str l).size + (str m).size := by rw [str_size, str_size]; omega
set_option maxRecDepth 1000000 in
set_option maxHeartbeats 1600000 in
theorem rwrite_any (id : Nat) (qr : Bool) (op : Nat) (aa tc rd ra z ad cd : Bool) (code : Nat) (c0 c1 c2 c3 : Int) (w : World) (h0 : op < 256) (h : code < 256) (hid : id < 65536) :
    Calls Tryd.prog 15 #[.agg #[.int .u16 id, .bool qr, .int .u8 op, .bool aa, .bool tc, .bool rd, .bool ra, .bool z, .bool ad, .bool cd, .int .u8 code], .agg #[.int .i64 c0, .int .i64 c1, .int .i64 c2, .int .i64 c3]] w fun e w' => e = .returned (.tuple #[.string (writeV id qr op aa tc rd ra z ad cd code [c0, c1, c2, c3]).1, .int .i64 (writeV id qr op aa tc rd ra z ad cd code [c0, c1, c2, c3]).2]) ∧ Still w w' := by
  have hst := (Still.new w (.cells #[.int .u16 id, .bool qr, .int .u8 op, .bool aa, .bool tc, .bool rd, .bool ra, .bool z, .bool ad, .bool cd, .int .u8 code] 25)).alloc (.cells #[.int .i64 c0, .int .i64 c1, .int .i64 c2, .int .i64 c3] 33)
  have hB := (Blk.new w 25 #[.int .u16 id, .bool qr, .int .u8 op, .bool aa, .bool tc, .bool rd, .bool ra, .bool z, .bool ad, .bool cd, .int .u8 code]).alloc (.cells #[.int .i64 c0, .int .i64 c1, .int .i64 c2, .int .i64 c3] 33)
  have hC := Blk.at_ (w.alloc (.cells #[.int .u16 id, .bool qr, .int .u8 op, .bool aa, .bool tc, .bool rd, .bool ra, .bool z, .bool ad, .bool cd, .int .u8 code] 25)) 33 #[.int .i64 c0, .int .i64 c1, .int .i64 c2, .int .i64 c3] (g := w.heap.size + 1) (by simp)
  have hno := flagsV_no id qr op aa tc rd ra z ad cd code
  have hlt := flagsV_lt id qr op aa tc rd ra z ad cd code
  have hfa := fun w => rflags_all id qr op aa tc rd ra z ad cd code w h0 h
  have hw : writeV id qr op aa tc rd ra z ad cd code [c0, c1, c2, c3] = if (flagsV qr op aa tc rd ra z ad cd code).2 = 0 ∧ [c0, c1, c2, c3].all okC = true then (str (beB 2 id ++ beB 2 (flagsV qr op aa tc rd ra z ad cd code).1.toNat ++ cntB [c0, c1, c2, c3] 4), 0) else (⟨#[]⟩, 1) := rfl
  generalize flagsV qr op aa tc rd ra z ad cd code = F at *
  obtain ⟨fl, fe⟩ := F
  have hfa' : ∀ w, Calls Tryd.prog 16 #[.agg #[.int .u16 id, .bool qr, .int .u8 op, .bool aa, .bool tc, .bool rd, .bool ra, .bool z, .bool ad, .bool cd, .int .u8 code]] w fun e w' => e = .returned (.tuple #[.int .u16 fl, .int .i64 fe]) ∧ Still w w' := hfa
  obtain ⟨FL, rfl⟩ : ∃ n : Nat, fl = (n : Int) := ⟨fl.toNat, by have := hlt.1; simp at this; omega⟩
  have hF : FL < 65536 := by have := hlt.2; simp at this; omega
  have hwv : writeV id qr op aa tc rd ra z ad cd code [c0, c1, c2, c3] = if fe = 0 ∧ [c0, c1, c2, c3].all okC = true then (str (beB 2 id ++ beB 2 FL ++ cntB [c0, c1, c2, c3] 4), 0) else (⟨#[]⟩, 1) := hw
  generalize writeV id qr op aa tc rd ra z ad cd code [c0, c1, c2, c3] = V at *
  have Hwv := Lib.hid hwv
  have Hfa := Lib.hid hfa'
  have hno' : fe ≠ 0 → fe = 1 := fun h => (hno h).1
  clear hfa hfa' hw hwv hlt hno
  by_cases hfe : fe = 0
  · subst hfe
    obtain ⟨L, hL⟩ : ∃ L, L = [c0, c1, c2, c3] := ⟨_, rfl⟩
    have hix := fun (w : World) (g : Nat) h => cells4 (w := w) (g := g) (T := 33) c0 c1 c2 c3 h
    have hao := all_ok c0 c1 c2 c3
    have hnk := not_ok c0 c1 c2 c3
    rw [← hL] at hix hao hnk Hwv
    have Hix := Lib.hid hix
    have Hnk := Lib.hid hnk
    have Hao := Lib.hid hao
    have HL := Lib.hid hL
    clear hix hnk hao hL hno'
    go_enter Tryd.func15, Tryd.ntmps15
    go_wp2_with (refine wpList_load_row rfl 25 (.tmp 2) rfl _ rfl 25 _ (0, 0) _ hB Tryd.underlying25 rfl (by kernel_rfl) ?_)
    generalize (w.alloc (.cells #[.int .u16 id, .bool qr, .int .u8 op, .bool aa, .bool tc, .bool rd, .bool ra, .bool z, .bool ad, .bool cd, .int .u8 code] 25)).alloc (.cells #[.int .i64 c0, .int .i64 c1, .int .i64 c2, .int .i64 c3] 33) = w1 at *
    obtain ⟨g, hg⟩ : ∃ g, w.heap.size = g := ⟨_, rfl⟩
    rw [hg] at hB hC
    rw [hg]
    clear hg
    refine (Hfa.out _).mono ?_
    rintro e w2 ⟨rfl, hs2⟩
    have hB := hB.only hs2 (fun h => h)
    have hC := hC.only hs2 (fun h => h)
    have hst2 := hst.still hs2
    have d0 : w2.cell? ⟨g, 0, none⟩ = some (.int .u16 id) := hB.cell 0
    clear hst hs2 hB
    go_wp2_with fail
    refine (two_any id hid _).mono ?_
    rintro e w3 ⟨rfl, hs3⟩
    have hC := hC.only hs3 (fun h => h)
    have hst3 := hst2.still hs3
    clear d0 hst2 hs3
    go_wp2_with fail
    refine (two_any FL hF _).mono ?_
    rintro e w4 ⟨rfl, hs4⟩
    have hC := hC.only hs4 (fun h => h)
    have hst4 := hst3.still hs4
    clear hst3 hs4
    have q0 := str_append (beB 2 id) (beB 2 FL)
    have z0 := cat_ok (beB 2 id) (beB 2 FL) (by rw [beB_length, beB_length]; omega)
    obtain ⟨l0, hl0⟩ : ∃ l0, l0 = beB 2 id ++ beB 2 FL := ⟨_, rfl⟩
    rw [← hl0] at q0 Hwv
    have hl4 : l0.length = 4 := by rw [hl0, List.length_append, beB_length, beB_length]
    have HL0 := Lib.hid hl4
    clear hl0 hl4
    go_wp2_with fail
    clear q0 z0
    go_loopw [8, 9] (fun v i wr => ∃ (k : Nat), k ≤ 4 ∧ i = .int .i64 k ∧ Hid (∀ j, j < k → okC (L.getD j 0) = true) ∧ v = .string (str (l0 ++ cntB L k)) ∧ Blk wr (g + 1) 33 #[.int .i64 c0, .int .i64 c1, .int .i64 c2, .int .i64 c3] ∧ Hid (Still w wr)) (fun _ i _ => 4 - (intOf i).toNat)
    case atStart => exact ⟨0, by omega, rfl, Lib.hid (fun j hj => absurd hj (by omega)), by rw [cntB, List.append_nil], hC, Lib.hid hst4⟩
    case round =>
      clear hC hst4
      obtain ⟨k, hk, rfl, hok, rfl, hC, hst⟩ := hrel
      by_cases hlt : k < 4
      · have hi := Hix.out wr (g + 1) hC k hlt
        have hkk : (k : Int) < 4 := by omega
        obtain ⟨x, hx⟩ : ∃ x, x = L.getD k 0 := ⟨_, rfl⟩
        have hnk := Hnk.out k hlt
        have hcn : cntB L (k + 1) = cntB L k ++ beB 2 (L.getD k 0).toNat := rfl
        rw [← hx] at hi hnk hcn
        by_cases ho : okC x = true
        · have hx1 : 0 ≤ x ∧ x ≤ 65535 := of_decide_eq_true ho
          obtain ⟨X, rfl⟩ : ∃ X : Nat, x = (X : Int) := ⟨x.toNat, by omega⟩
          have hX : X < 65536 := by omega
          have j1 : ¬ (X : Int) < 0 := by omega
          have j1' : decide ((X : Int) < 0) = false := decide_eq_false j1
          have j2 : ¬ (65535 : Int) < (X : Int) := by omega
          have j2' : decide ((65535 : Int) < (X : Int)) = false := decide_eq_false j2
          have hok' : ∀ j, j < k + 1 → okC (L.getD j 0) = true := fun j hj => by
            rcases Nat.lt_or_ge j k with h | h
            · exact hok.out j h
            · obtain rfl : j = k := by omega
              rw [← hx]; exact ho
          have Hok := Lib.hid hok'
          rw [Int.toNat_natCast] at hcn
          have q1 := str_append (l0 ++ cntB L k) (beB 2 X)
          have z1 := cat_ok (l0 ++ cntB L k) (beB 2 X) (by rw [List.length_append, beB_length, cntB_length, HL0.out]; omega)
          rw [List.append_assoc, ← hcn] at q1
          have HC := Lib.hid hC
          clear hx ho hx1 hok' hcn hnk hok hC
          go_wp2_with fail
          refine (two_any X hX _).mono ?_
          rintro e w5 ⟨rfl, hs5⟩
          have hst5 := hst.out.still hs5
          have hC := HC.out.only hs5 (fun h => h)
          have Hst5 := Lib.hid hst5
          clear hs5 hst5 j1 j1' j2 j2' hi hst HC
          go_wp2_with fail
          go_roundw
          case rel => exact ⟨k + 1, by omega, by go_num, Hok, rfl, hC, Hst5⟩
          case measure => simp [intOf]; omega
        · have hV : V = (⟨#[]⟩, 1) := by rw [Hwv.out, if_neg (fun h => hnk (by simpa using ho) h.2)]
          have HV := Lib.hid hV
          have hst' := hst.out
          have hx1 : x < 0 ∨ ¬ x < 0 ∧ 65535 < x := by
            rcases Int.lt_or_le x 0 with h | h
            · exact .inl h
            · exact .inr ⟨by omega, by rcases Int.lt_or_le 65535 x with h' | h'; exact h'; exact absurd (decide_eq_true ⟨h, h'⟩) ho⟩
          clear hx ho hnk hcn hV hst hok
          rcases hx1 with j1 | ⟨j1, j2⟩
          · go_wp2_with fail
            go_ret2
            rw [HV.out]
            exact ⟨rfl, hst'⟩
          · have j1' : decide (x < 0) = false := decide_eq_false j1
            go_wp2_with fail
            go_ret2
            rw [HV.out]
            exact ⟨rfl, hst'⟩
      · obtain rfl : k = 4 := by omega
        have hV : V = (str (l0 ++ cntB L 4), 0) := by rw [Hwv.out, if_pos (by simpa using Hao.out hok.out)]
        have HV := Lib.hid hV
        have hst' := hst.out
        clear hV hok hst
        go_wp2_with fail
        go_ret2
        rw [HV.out]
        exact ⟨rfl, hst'⟩
  · obtain rfl := hno' hfe
    have e1 : ((1 : Int) != 0) = true := rfl
    have hV : V = (⟨#[]⟩, 1) := by rw [Hwv.out, if_neg (fun h => hfe h.1)]
    have HV := Lib.hid hV
    clear hV Hwv hfe hno'
    go_enter Tryd.func15, Tryd.ntmps15
    go_wp2_with (refine wpList_load_row rfl 25 (.tmp 2) rfl _ rfl 25 _ (0, 0) _ hB Tryd.underlying25 rfl (by kernel_rfl) ?_)
    generalize (w.alloc (.cells #[.int .u16 id, .bool qr, .int .u8 op, .bool aa, .bool tc, .bool rd, .bool ra, .bool z, .bool ad, .bool cd, .int .u8 code] 25)).alloc (.cells #[.int .i64 c0, .int .i64 c1, .int .i64 c2, .int .i64 c3] 33) = w1 at *
    refine (Hfa.out _).mono ?_
    rintro e w2 ⟨rfl, hs2⟩
    have hst2 := hst.still hs2
    go_wp2_with fail
    go_ret2
    rw [HV.out]
    exact ⟨rfl, hst2⟩
end Go.Proofs.YtkoejogmcoigoaaDoor
