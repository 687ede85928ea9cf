/-
  SipParts: however bytes are cut, the hash is the same: Sum's; for any key, any pieces.
-/
import Derived.Test.YtpgebejnpncemaaSipOn
namespace Go.Proofs.Ytpgebejnpncemaa
open Go.RowKit
set_option linter.unusedVariables false

theorem reads_string {w : World} {B n k : Nat} {A : Option Addr} {xs : List ByteArray} (h : Reads w B 1 A n (xs.map Value.string)) (hk : k < n) :
    ∃ ad x, A = some ad ∧ ad.block < B ∧ xs[k]? = some x ∧ w.cell? (ad.add k) = some (.string x) := by
  obtain ⟨ad, u, e, hb, hu, hc⟩ := h.at_ hk
  rw [List.getElem?_map] at hu
  obtain ⟨x, hx, rfl⟩ := Option.map_eq_some_iff.1 hu
  exact ⟨ad, x, e, hb, hx, hc⟩

/-- What the pieces weigh. -/
def wt (a b : Nat) : List ByteArray → Nat
  | [] => 0
  | z :: r => a + min b z.size + wt a b r
theorem wt_append (a b : Nat) : ∀ x y : List ByteArray, wt a b (x ++ y) = wt a b x + wt a b y
  | [], y => by simp [wt]
  | z :: r, y => by simp only [List.cons_append, wt, wt_append a b r y]; omega
theorem wt_snoc {a b : Nat} {zs : List ByteArray} {k : Nat} {z : ByteArray} (h : zs[k]? = some z) : wt a b (zs.take (k + 1)) = wt a b (zs.take k) + (a + min b z.size) := by
  rw [List.take_add_one, h, wt_append]
  simp [wt]
/-- All their bytes. -/
def flat (zs : List ByteArray) : List Int := zs.flatMap byts
theorem flat_snoc {zs : List ByteArray} {k : Nat} {z : ByteArray} (h : zs[k]? = some z) : flat (zs.take (k + 1)) = flat (zs.take k) ++ byts z := by
  rw [List.take_add_one, h]
  simp [flat]
theorem flat_len (a b : Nat) (hb : b ≠ 0) : ∀ zs : List ByteArray, wt a b zs < b → (flat zs).length ≤ wt a b zs
  | [], _ => by simp [flat, wt]
  | z :: r, h => by
    simp only [wt] at h
    have ih := flat_len a b hb r (by omega)
    have e : (flat (z :: r)).length = z.size + (flat r).length := by simp [flat, byts_len]
    rw [e]
    simp only [wt]
    omega
theorem flat_take_len (zs : List ByteArray) (k : Nat) : (flat (zs.take k)).length ≤ (flat zs).length := by
  have e : flat zs = flat (zs.take k) ++ flat (zs.drop k) := by
    conv => lhs; rw [← List.take_append_drop k zs]
    unfold flat
    rw [List.flatMap_append]
  rw [e, List.length_append]
  omega
theorem flat_ok (zs : List ByteArray) : Byts (flat zs) := by
  intro x hx
  obtain ⟨z, _, hz⟩ := List.mem_flatMap.1 hx
  exact byts_ok z x hz

set_option maxRecDepth 1000000 in
set_option maxHeartbeats 6400000 in
theorem sipParts_walk (w : World) (k0 : Int) (h0 : (Lit.int .u64 k0).wf = true) (k1 : Int) (h1 : (Lit.int .u64 k1).wf = true)
    (A : Option Addr) (n c : Nat) (zs : List ByteArray) (hnc : n ≤ c) (hc : c ≤ maxLen) (hA : A = none → n = 0 ∧ c = 0) (hr : Reads w w.heap.size 1 A n (zs.map Value.string)) (hwf : ∀ z ∈ zs, z.size ≤ maxLen) :
    Calls Try.prog 13 #[.int .u64 k0, .int .u64 k1, .slice A n c] w fun e w' => e = .returned (.bool true) ∧ Still w w' := by
  have h0 := wf_u64 h0
  have h1 := wf_u64 h1
  have hlen : zs.length = n := by simpa using hr.1
  subst hlen
  have hmax : zs.length ≤ maxLen := by omega
  have Hwf := Lib.hid hwf
  clear hwf
  unfold maxLen at hmax
  go_enter Try.func13, Try.ntmps13
  go_wp2_with fail
  go_loop [7, 8] (fun x i => ∃ k m : Nat, k ≤ zs.length ∧ i = .int .i64 k ∧ x = .int .i64 m ∧ Hid (m = wt 10 5000 (zs.take k))) (fun _ i => zs.length - (intOf i).toNat)
  case atStart => exact ⟨0, 0, by omega, rfl, rfl, Lib.hid rfl⟩
  case round =>
    obtain ⟨k, m, hk, rfl, rfl, hm⟩ := hrel
    by_cases hbig : m < 5000
    · by_cases hlt : k < zs.length
      · obtain ⟨ad, z, rfl, had, hzk, hc⟩ := reads_string hr hlt
        have hmn : m + (10 + min 5000 z.size) = wt 10 5000 (zs.take (k + 1)) := by rw [wt_snoc hzk, hm.out]
        have hmn := Lib.hid hmn
        have hzs : z.size ≤ maxLen := Hwf.out z (List.mem_of_getElem? hzk)
        unfold maxLen at hzs
        clear hzk hA
        have hmi : (m : Int) < 5000 := by omega
        go_wp2_with fail
        go_round
        case rel => exact ⟨k + 1, m + (10 + min 5000 z.size), by omega, by go_num, by go_num, hmn⟩
        case measure => simp [intOf]; omega
      · have hkn : k = zs.length := by omega
        subst hkn
        rw [List.take_of_length_le (Nat.le_refl _)] at hm
        have hfl : (flat zs).length < 5000 := by
          have := flat_len 10 5000 (by omega) zs (by rw [← hm.out]; exact hbig)
          rw [← hm.out] at this
          omega
        have hmi : ¬ (5000 : Int) ≤ (m : Int) := by omega
        have hmi' : (m : Int) < 5000 := by omega
        clear hm
        go_wp2_with fail
        refine (sip_awake _).mono ?_
        rintro e w1 ⟨rfl, hs1⟩
        go_wp2_with fail
        refine (New_any h0 h1).mono ?_
        rintro e w2 ⟨g, rfl, hg, hb, hs2⟩
        have hgw : w.heap.size ≤ g := Nat.le_trans hs1.size hg
        have hb : Hsh w2 g (st0 k0 k1) := hb
        have hst := hs1.still hs2
        have hr2 := hr.only hst (Nat.le_refl _) (fun _ _ h => h)
        have ok0 := st0_ok h0 h1
        clear hs1 hs2 hg
        go_wp2_with fail
        clear hr
        go_loopw [10, 11] (fun x i wr => ∃ (k : Nat) (J : ByteArray), k ≤ zs.length ∧ i = .int .i64 k ∧ x = .string J ∧ Hsh wr g ((st0 k0 k1).eat (flat (zs.take k))) ∧ Reads wr w.heap.size 1 A zs.length (zs.map Value.string) ∧ Hid (byts J = flat (zs.take k)) ∧ Hid (Still w wr)) (fun _ i _ => zs.length - (intOf i).toNat)
        case atStart => exact ⟨0, _, by omega, rfl, rfl, hb, hr2, Lib.hid (by unfold byts flat; simp [ByteArray.toList_eq]), Lib.hid hst⟩
        case round =>
          clear hb hr2 hst
          obtain ⟨k, J, hk, rfl, rfl, hb, hr2, hJ, hst⟩ := hrel
          have hJs : J.size < 5000 := by
            have h1 := flat_take_len zs k
            rw [← hJ.out, byts_len] at h1
            omega
          have okk := St.eat_ok ok0 _ (flat_ok (zs.take k))
          have hnk : ((st0 k0 k1).eat (flat (zs.take k))).n = J.size := by rw [St.eat_n, ← hJ.out, byts_len]; exact Nat.zero_add _
          by_cases hlt : k < zs.length
          · obtain ⟨ad, z, rfl, had, hzk, hc⟩ := reads_string hr2 hlt
            have hzn : J.size + z.size < 5000 := by
              have h1 := flat_take_len zs (k + 1)
              rw [flat_snoc hzk, ← hJ.out, List.length_append, byts_len, byts_len] at h1
              omega
            have hJ' : byts (J ++ z) = flat (zs.take (k + 1)) := by rw [byts_append, flat_snoc hzk, hJ.out]
            have hst' : (st0 k0 k1).eat (flat (zs.take (k + 1))) = ((st0 k0 k1).eat (flat (zs.take k))).eat (byts z) := by rw [flat_snoc hzk, St.eat_append]
            have HJ' := Lib.hid hJ'
            have Hst' := Lib.hid hst'
            generalize (st0 k0 k1).eat (flat (zs.take k)) = sk at *
            clear hzk hJ' hst' hA
            go_wp2_with fail
            refine (Write_any hb okk z (by omega)).mono ?_
            rintro e w3 ⟨rfl, hb3, ho3⟩
            have hbn : ¬ (ad.add k).block = g := by rw [block_of_add]; omega
            have hc3 := ho3.cell_some hbn hc
            have hr3 := hr2.only ho3 hst.out.size (fun i hi e => by omega)
            have hst3 := hst.out.far ho3 hgw
            rw [← Hst'.out] at hb3
            clear hb hr2 hc ho3
            go_wp2_with fail
            go_roundw
            case rel => exact ⟨k + 1, J ++ z, by omega, by go_num, rfl, hb3, hr3, HJ', Lib.hid hst3⟩
            case measure => simp [intOf]; omega
          · have hkn : k = zs.length := by omega
            subst hkn
            rw [List.take_of_length_le (Nat.le_refl _)] at hb okk hnk
            have HJ : byts J = flat zs := by rw [hJ.out, List.take_of_length_le (Nat.le_refl _)]
            have hsum : hash k0 k1 (flat zs) = ((st0 k0 k1).eat (flat zs)).sum := rfl
            have Hsum := Lib.hid hsum
            have HJ := Lib.hid HJ
            clear hJ hsum
            generalize (st0 k0 k1).eat (flat zs) = sk at *
            have hnki : (sk.n : Int) = (J.size : Int) := by omega
            go_wp2_with fail
            refine (Sum_any hb okk (by omega)).mono ?_
            rintro e w3 ⟨rfl, hs3⟩
            have hb3 := hb.still hs3
            have hst3 := hst.out.still hs3
            clear hb hs3 hr2 hst
            go_wp2_with fail
            refine (SumTop_at h0 h1 J _ _ (by omega) HJ.out Hsum.out).mono ?_
            rintro e w4 ⟨rfl, hs4⟩
            have hb4 := hb3.still hs4
            have hst4 := hst3.still hs4
            clear hb3 hs4 hst3
            go_wp2_with fail
            refine (Len_any hb4 okk).mono ?_
            rintro e w5 ⟨rfl, rfl⟩
            go_wp2_with fail
            go_ret
            exact ⟨rfl, hst4⟩
    · have hmi : (5000 : Int) ≤ (m : Int) := by omega
      have hmi' : ¬ (m : Int) < 5000 := by omega
      go_wp2_with fail
      all_goals
        refine (sip_awake _).mono ?_
        rintro e w1 ⟨rfl, hs1⟩
        go_wp2_with fail
        go_ret
        exact ⟨rfl, hs1⟩
end Go.Proofs.Ytpgebejnpncemaa
