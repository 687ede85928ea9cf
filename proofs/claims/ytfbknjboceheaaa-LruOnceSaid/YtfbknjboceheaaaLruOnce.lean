/-
  LruOnce: each is in the row once; its ends are Oldest and Newest; Len and Has tell the same; for every list that acts make, and every place.
-/
import Derived.Test.YtfbknjboceheaaaLruMore
namespace Go.Proofs.Ytfbknjboceheaaa
open Go.RowKit
set_option linter.unusedVariables false

/-- How often p is there. -/
def cnt (p : Int) (xs : List Int) : Nat := (xs.filter (fun x => decide (x = p))).length
theorem cnt_in {xs : List Int} {k : Nat} {x p : Int} (h : xs[k]? = some x) (hx : x = p) : cnt p (xs.take (k + 1)) = cnt p (xs.take k) + 1 := by
  unfold cnt
  rw [List.take_add_one, h, List.filter_append, List.length_append]
  simp [hx]
theorem cnt_out {xs : List Int} {k : Nat} {x p : Int} (h : xs[k]? = some x) (hx : x ≠ p) : cnt p (xs.take (k + 1)) = cnt p (xs.take k) := by
  unfold cnt
  rw [List.take_add_one, h, List.filter_append, List.length_append]
  simp [hx]
theorem cnt_le (p : Int) (xs : List Int) : cnt p xs ≤ xs.length := List.length_filter_le _ _
theorem cnt_not {xs : List Int} {p : Int} (h : p ∉ xs) : cnt p xs = 0 := by
  unfold cnt
  rw [List.length_eq_zero_iff, List.filter_eq_nil_iff]
  intro a ha he
  simp at he
  exact h (he ▸ ha)
theorem cnt_mem {xs : List Int} {p : Int} (hn : xs.Nodup) (h : p ∈ xs) : cnt p xs = 1 := by
  unfold cnt
  have h1 := hn.filter (fun x => decide (x = p))
  have h2 : p ∈ xs.filter (fun x => decide (x = p)) := by simp [h]
  have h3 : ∀ x ∈ xs.filter (fun x => decide (x = p)), x = p := by intro x hx; simpa using (List.mem_filter.1 hx).2
  generalize xs.filter (fun x => decide (x = p)) = l at h1 h2 h3
  match l, h1, h2, h3 with
  | [a], _, _, _ => rfl
  | a :: b :: l, h1, _, h3 =>
    have ea := h3 a (by simp)
    have eb := h3 b (by simp)
    rw [ea, eb] at h1
    simp at h1
theorem toInts_nodup {L : List Nat} (h : L.Nodup) : (toInts L).Nodup := by
  unfold toInts
  rw [List.Nodup, List.pairwise_map]
  exact h.imp (fun hne he => hne (by omega))
theorem toInts_at {n : Nat} {L : List Nat} {k : Nat} {x : Int} (hl : LL n L) (h : (toInts L)[k]? = some x) : ∃ p : Nat, x = p ∧ p < n ∧ p + 1 ∈ L ∧ L[k]? = some (p + 1) := by
  unfold toInts at h
  rw [List.getElem?_map] at h
  obtain ⟨q, hq, rfl⟩ := Option.map_eq_some_iff.1 h
  have hm := List.mem_of_getElem? hq
  have h0 : q ≠ 0 := fun e => hl.row.nz (e ▸ hm)
  have h1 := hl.le q hm
  obtain ⟨p, rfl⟩ : ∃ p, q = p + 1 := ⟨q - 1, by omega⟩
  exact ⟨p, by omega, by omega, hm, hq⟩
theorem toInts_unlike {n : Nat} {L : List Nat} {j k : Nat} {x y : Int} (hl : LL n L) (hy : (toInts L)[j]? = some y) (hx : (toInts L)[k]? = some x) (hj : j < k) : y ≠ x := by
  rintro rfl
  have h := toInts_nodup hl.row.nd
  have h1 := (List.getElem?_eq_some_iff.1 hy)
  have h2 := (List.getElem?_eq_some_iff.1 hx)
  obtain ⟨b1, e1⟩ := h1
  obtain ⟨b2, e2⟩ := h2
  have := (List.pairwise_iff_getElem.1 h) j k b1 b2 hj
  exact this (e1.trans e2.symm)

/-- What Has tells, in one form. -/
theorem Has_all {w : World} {g n : Nat} {L : List Nat} (hb : Lst w g n L) (hl : LL n L) (p : Int) :
    Calls Try.prog 15 #[.pointer (some ⟨g, 0, none⟩), .int .i64 p] w fun e w' => e = .returned (.bool (decide (p ∈ toInts L))) ∧ w = w' := by
  by_cases h : 0 ≤ p ∧ p < (n : Int)
  · obtain ⟨k, rfl⟩ : ∃ k : Nat, p = (k : Int) := ⟨p.toNat, by omega⟩
    refine (Has_in hb hl k (k + 1) rfl (by omega)).mono ?_
    rintro e w' ⟨rfl, rfl⟩
    exact ⟨ret_bool (by rw [decide_eq_decide]; exact mem_toInts.symm), rfl⟩
  · refine (Has_out hb p h).mono ?_
    rintro e w' ⟨rfl, rfl⟩
    refine ⟨ret_bool (decide_eq_false ?_).symm, rfl⟩
    intro hm
    obtain ⟨k, hk⟩ := List.getElem?_of_mem hm
    obtain ⟨q, rfl, hq, _⟩ := toInts_at hl hk
    omega

set_option maxRecDepth 1000000 in
set_option maxHeartbeats 6400000 in
theorem once_walk (w : World) (n : Int) (C : Option Addr) (m cc : Nat) (l : List (Int × Int)) (hm : m ≤ 1000) (hl : l.length = m) (hr : Reads w w.heap.size 2 C m (actCells l))
    (hw : ∀ p ∈ l, (Lit.int .u8 p.1).wf = true ∧ (Lit.int .i64 p.2).wf = true) (pl : Int) :
    Calls Try.prog 6 #[.int .i64 n, .slice C m cc, .int .i64 pl] w fun e w' => e = .returned (.bool true) ∧ Still w w' := by
  have h1000 : ¬ (1000 : Int) < (m : Int) := by omega
  have Hl := Lib.hid hl
  have Hw := Lib.hid hw
  clear hl hw
  go_enter Try.func6, Try.ntmps6
  go_wp2_with fail
  refine (lru_awake _).mono ?_
  rintro e w0 ⟨rfl, ho0⟩
  have hr0 := hr.only ho0 (Nat.le_refl _) (fun _ _ h => h)
  go_wp2_with fail
  refine (made_any n C m cc l (by omega) Hl.out (hr0.more ho0.size) Hw.out).mono ?_
  rintro e w1 ⟨g, K, rfl, hK1, hK2, hg, hb1, hs1⟩
  have hst1 := ho0.still hs1
  have hlk := doActs_ok hK2 l
  generalize doActs K l = L at hb1 hlk
  clear hr hr0 ho0 hs1 hg
  have hLl := hlk.length_le
  go_wp2_with fail
  refine (Row_any hb1 hlk).mono ?_
  rintro e w2 ⟨A, c, rfl, hown, hs2⟩
  have hb2 := hb1.still hs2
  have hst2 := hst1.still hs2
  have hrow := Reads.of_own hown
  clear hst1 hs2 hb1
  go_wp2_with fail
  go_loopw [10, 11] (fun c i wr => ∃ k q : Nat, k ≤ L.length ∧ i = .int .i64 k ∧ c = .int .i64 (cnt pl ((toInts L).take k)) ∧ wr = w2.drewN q) (fun _ i _ => L.length - (intOf i).toNat)
  case atStart => exact ⟨0, 0, by omega, rfl, rfl, rfl⟩
  case round =>
    obtain ⟨k, q, hk, rfl, rfl, rfl⟩ := hrel
    have hb3 : Lst (w2.drewN q) g K L := Blk.drewN hb2 q
    by_cases hlt : k < L.length
    · obtain ⟨ad, x, rfl, had, hxk, hcx⟩ := reads_int hrow hlt
      obtain ⟨p, rfl, hpK, hpL, _⟩ := toInts_at hlk hxk
      have hpi : (p : Int) < (K : Int) := by omega
      have hdec : decide ((p : Int) ∈ toInts L) = true := decide_eq_true (mem_toInts.2 hpL)
      have Hdec := Lib.hid hdec
      have Hxk := Lib.hid hxk
      have hcl := cnt_le pl ((toInts L).take k)
      have htk : ((toInts L).take k).length ≤ k := List.length_take_le _ _
      have hc0 : cnt pl ((toInts L).take k) ≤ 256 := by omega
      clear hdec hxk hcl htk hpL
      generalize hcc : cnt pl ((toInts L).take k) = cc0 at *
      have Hcc := Lib.hid hcc
      clear hcc
      go_wp2_with fail
      refine (Has_all hb3 hlk p).mono ?_
      rintro e w4 ⟨he, rfl⟩
      rw [Hdec.out] at he
      subst he
      go_wp2_with fail
      go_loopw [12] (fun j wz => ∃ t z : Nat, t ≤ k ∧ j = .int .i64 t ∧ wz = w2.drewN z) (fun j _ => k - (intOf j).toNat)
      case atStart => exact ⟨0, q, by omega, rfl, rfl⟩
      case round =>
        obtain ⟨t, z, ht, rfl, rfl⟩ := hrel
        by_cases htk : t < k
        · obtain ⟨bd, y, he, _, hyt, hcy⟩ := reads_int hrow (k := t) (by omega)
          injection he with he
          subst he
          have hne := toInts_unlike hlk hyt Hxk.out htk
          have hb0 : (y == (p : Int)) = false := by simp [hne]
          clear hyt hne
          go_wp2_with fail
          go_quiet (fail)
          go_wp2_with fail
          go_roundw
          case rel => exact ⟨t + 1, _, by omega, by go_num, rfl⟩
          case measure => simp [intOf]; omega
        · obtain rfl : t = k := by omega
          by_cases hpl : (p : Int) = pl
          · have hsn := cnt_in Hxk.out hpl
            have Hsn := Lib.hid hsn
            clear hsn
            subst hpl
            go_wp2_with fail
            go_roundw
            case rel => exact ⟨t + 1, z, by omega, by go_num, by rw [Hsn.out, Hcc.out]; go_num, rfl⟩
            case measure => simp [intOf]; omega
          · have hsn := cnt_out Hxk.out hpl
            have Hsn := Lib.hid hsn
            have hb0 : ((p : Int) == pl) = false := by simp [hpl]
            clear hsn hpl
            go_wp2_with fail
            go_roundw
            case rel => exact ⟨t + 1, z, by omega, by go_num, by rw [Hsn.out, Hcc.out], rfl⟩
            case measure => simp [intOf]; omega
    · obtain rfl : L.length = k := by omega
      rw [List.take_of_length_le (by rw [toInts_length]; exact Nat.le_refl _)]
      have hst3 : Still w (w2.drewN q) := hst2.drewN q
      have hrow3 := hrow.drewN q
      generalize w2.drewN q = w3 at *
      clear hb2 hst2 hown hrow
      obtain ⟨cc0, hcc⟩ : ∃ cc0 : Nat, cc0 = cnt pl (toInts L) := ⟨_, rfl⟩
      rw [← hcc]
      cases L with
      | nil =>
        have h0 : cc0 = 0 := by rw [hcc]; rfl
        subst h0
        clear hcc
        go_wp2_with fail
        refine (Oldest_none hb3 (by omega)).mono ?_
        rintro e w4 ⟨rfl, rfl⟩
        go_wp2_with fail
        refine (Newest_none hb3 (by omega)).mono ?_
        rintro e w4 ⟨rfl, rfl⟩
        go_wp2_with fail
        refine (Len_any hb3 hlk).mono ?_
        rintro e w4 ⟨rfl, hs4⟩
        have hb4 := hb3.still hs4
        have hst4 := hst3.still hs4
        go_wp2_with fail
        refine (Has_all hb4 hlk pl).mono ?_
        rintro e w5 ⟨he, rfl⟩
        rw [decide_eq_false (by simp [toInts])] at he
        subst he
        go_wp2_with fail
        go_ret
        exact ⟨rfl, hst4⟩
      | cons a r =>
        have hrow0 := reads_int hrow3 (k := 0) (by simp)
        have hrowz := reads_int hrow3 (k := r.length) (by simp)
        obtain ⟨ad, x0, rfl, _, hx0, hc0⟩ := hrow0
        obtain ⟨ad', xz, he, _, hxz, hcz⟩ := hrowz
        injection he with he
        subst he
        have h2 : (a :: r).getLast? = (a :: r)[r.length]? := by rw [List.getLast?_eq_getElem?]; simp
        obtain ⟨b, hbr⟩ : ∃ b, (a :: r)[r.length]? = some b := ⟨_, List.getElem?_eq_getElem (by simp)⟩
        have hbz : b = (a :: r).getLastD 0 := by rw [List.getLastD_eq_getLast?, h2, hbr]; rfl
        have e0 : x0 = (a : Int) - 1 := by simpa [toInts] using hx0.symm
        have ez : xz = (b : Int) - 1 := by
          unfold toInts at hxz
          rw [List.getElem?_map, hbr] at hxz
          simpa using hxz.symm
        subst e0
        subst ez
        have Hbz := Lib.hid hbz
        have hlen0 : (0 : Int) < ((r.length + 1 : Nat) : Int) := by omega
        have hlz : (((r.length + 1 : Nat) : Int) - 1).toNat = r.length := by omega
        have hrl : r.length ≤ 255 := by simp at hLl; omega
        clear hx0 hxz h2 hbr hbz
        have hcz' : ∀ pl' : Int, cc0 = (if pl' = pl ∧ pl ∈ toInts (a :: r) then 1 else if pl' = pl then 0 else cc0) := by
          intro pl'
          by_cases e : pl' = pl
          · by_cases hm : pl ∈ toInts (a :: r)
            · simp [e, hm, hcc, cnt_mem (toInts_nodup hlk.row.nd) hm]
            · simp [e, hm, hcc, cnt_not hm]
          · simp [e]
        have hor : (pl ∈ toInts (a :: r) ∧ cc0 = 1) ∨ (¬ pl ∈ toInts (a :: r) ∧ cc0 = 0) := by
          by_cases hm : pl ∈ toInts (a :: r)
          · exact .inl ⟨hm, by rw [hcc, cnt_mem (toInts_nodup hlk.row.nd) hm]⟩
          · exact .inr ⟨hm, by rw [hcc, cnt_not hm]⟩
        clear hcz' hcc
        go_wp2_with fail
        refine (Oldest_some hb3 hlk).mono ?_
        rintro e w4 ⟨rfl, rfl⟩
        go_wp2_with fail
        refine (Newest_some hb3 hlk (by simp) Hbz.out).mono ?_
        rintro e w4 ⟨rfl, rfl⟩
        go_wp2_with fail
        refine (Len_any hb3 hlk).mono ?_
        rintro e w4 ⟨rfl, hs4⟩
        have hb4 := hb3.still hs4
        have hst4 := hst3.still hs4
        have hd1 := (World.block_lt_of_cell? w3 _ hc0)
        have hk0 : w4.cell? (ad.add 0) = some (.int .i64 ((a : Int) - 1)) := hs4.cell_some (fun h => h) hc0
        have hk00 : w4.cell? ad = some (.int .i64 ((a : Int) - 1)) := by simpa [Addr.add] using hk0
        have hkz : w4.cell? (ad.add r.length) = some (.int .i64 ((b : Int) - 1)) := hs4.cell_some (fun h => h) hcz
        rcases hor with ⟨hm, rfl⟩ | ⟨hm, rfl⟩
        · go_wp2_with fail
          refine (Has_all hb4 hlk pl).mono ?_
          rintro e w5 ⟨he, rfl⟩
          rw [decide_eq_true hm] at he
          subst he
          go_wp2_with fail
          go_ret
          exact ⟨rfl, hst4⟩
        · go_wp2_with fail
          refine (Has_all hb4 hlk pl).mono ?_
          rintro e w5 ⟨he, rfl⟩
          rw [decide_eq_false hm] at he
          subst he
          go_wp2_with fail
          go_ret
          exact ⟨rfl, hst4⟩

theorem once_long (w : World) (n : Int) (C : Option Addr) (m cc : Nat) (pl : Int) (h : 1000 < m) :
    Calls Try.prog 6 #[.int .i64 n, .slice C m cc, .int .i64 pl] w fun e w' => e = .returned (.bool true) ∧ Still w w' := by
  have h5 : (1000 : Int) < (m : Int) := by omega
  go_enter Try.func6, Try.ntmps6
  go_wp2_with fail
  refine (lru_awake _).mono ?_
  rintro e w0 ⟨rfl, ho0⟩
  go_wp2
  go_ret
  exact ⟨rfl, ho0⟩

theorem once_all (w : World) (n : Int) (wf : (Lit.int .i64 n).wf = true) (C : Option Addr) (m cc : Nat) (l : List (Int × Int)) (hmc : m ≤ cc) (hc : cc ≤ maxLen) (hl : l.length = m) (hr : Reads w w.heap.size 2 C m (actCells l))
    (hw : ∀ p ∈ l, (Lit.int .u8 p.1).wf = true ∧ (Lit.int .i64 p.2).wf = true) (pl : Int) (wf2 : (Lit.int .i64 pl).wf = true) :
    Calls Try.prog 6 #[.int .i64 n, .slice C m cc, .int .i64 pl] w fun e w' => e = .returned (.bool true) ∧ Still w w' := by
  by_cases h : 1000 < m
  · exact once_long w n C m cc pl h
  · exact once_walk w n C m cc l (by omega) hl hr hw pl
end Go.Proofs.Ytfbknjboceheaaa
