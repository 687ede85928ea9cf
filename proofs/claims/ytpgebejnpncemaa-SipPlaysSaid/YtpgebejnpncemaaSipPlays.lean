/-
  SipPlays: whatever is written, piece by piece, and copied: the hash, and how many bytes came, are at each moment the document's; for any key, any acts.
-/
import Derived.Test.YtpgebejnpncemaaSipParts
import Derived.Test.YtpgebejnpncemaaSipRefD
import Derived.Test.YtpgebejnpncemaaSipActs
namespace Go.Proofs.Ytpgebejnpncemaa
open Go.RowKit
set_option linter.unusedVariables false

theorem add_none' (b off n : Nat) : (⟨b, off, none⟩ : Addr).add n = ⟨b, off + n, none⟩ := by
  unfold Addr.add; split <;> simp_all
theorem sact_cells {w : World} {B m : Nat} {C : Option Addr} {l : List (Int × ByteArray)} (h : Reads w B 2 C m (sactCells l)) (hl : l.length = m) {k : Nat} (hk : k < m) :
    ∃ bl off a b, C = some ⟨bl, off, none⟩ ∧ bl < B ∧ l[k]? = some (a, b) ∧ w.cell? ⟨bl, off + k * 2, none⟩ = some (.int .u8 a) ∧ w.cell? ⟨bl, off + k * 2 + 1, none⟩ = some (.string b) := by
  obtain ⟨ad, e, hb, hc⟩ := h.2 (by omega)
  have hk' : k < l.length := by omega
  have hx := sactCells_at l k l[k] (List.getElem?_eq_getElem hk')
  have c0 := hc _ _ hx.1
  have c1 := hc _ _ hx.2
  obtain ⟨bl, off, spot⟩ := ad
  have hspot : spot = none := by
    have h0 := sactCells_at l 0 (l[0]'(by omega)) (List.getElem?_eq_getElem (by omega))
    have := World.cell?_spot (hc _ _ h0.1)
    simpa [Addr.add] using this
  subst hspot
  rw [add_none'] at c0 c1
  exact ⟨bl, off, l[k].1, l[k].2, e, hb, List.getElem?_eq_getElem hk', c0, c1⟩

set_option maxRecDepth 1000000 in
set_option maxHeartbeats 1600000 in
theorem long_any {w : World} (C : Option Addr) (m cc : Nat) (l : List (Int × ByteArray)) (hl : l.length = m) (hm : m ≤ maxLen) (hr : Reads w w.heap.size 2 C m (sactCells l)) (hw : ∀ p ∈ l, (Lit.int .u8 p.1).wf = true ∧ p.2.size ≤ maxLen) :
    Calls Try.prog 36 #[.slice C m cc] w fun e w' => (e = .returned (.bool false) ∧ w = w' ∧ wt 20 4000 (l.map Prod.snd) < 4000) ∨ (e = .returned (.bool true) ∧ w = w') := by
  have Hl := Lib.hid hl
  have Hw := Lib.hid hw
  clear hl hw
  unfold maxLen at hm
  go_enter Try.func36, Try.ntmps36
  go_wp2_with fail
  go_loop [3, 4] (fun x i => ∃ k N : Nat, k ≤ m ∧ i = .int .i64 k ∧ x = .int .i64 N ∧ Hid (N = wt 20 4000 ((l.map Prod.snd).take k))) (fun _ i => m - (intOf i).toNat)
  case atStart => exact ⟨0, 0, by omega, rfl, rfl, Lib.hid rfl⟩
  case round =>
    obtain ⟨k, N, hk, rfl, rfl, hN⟩ := hrel
    by_cases hbig : N < 4000
    · by_cases hlt : k < m
      · obtain ⟨bl, off, a, b, rfl, hbl, hlk, c0, c1⟩ := sact_cells hr Hl.out hlt
        have hzk : (l.map Prod.snd)[k]? = some b := by rw [List.getElem?_map, hlk]; rfl
        have hNn : N + (20 + min 4000 b.size) = wt 20 4000 ((l.map Prod.snd).take (k + 1)) := by rw [wt_snoc hzk, hN.out]
        have hNn := Lib.hid hNn
        have hbs : b.size ≤ maxLen := (Hw.out _ (List.mem_of_getElem? hlk)).2
        unfold maxLen at hbs
        clear hzk hlk
        have hmi : (N : Int) < 4000 := by omega
        go_wp2_with fail
        go_round
        case rel => exact ⟨k + 1, N + (20 + min 4000 b.size), by omega, by go_num, by go_num, hNn⟩
        case measure => simp [intOf]; omega
      · have hkn : k = m := by omega
        subst hkn
        have hmi : (N : Int) < 4000 := by omega
        have hmi' : ¬ (4000 : Int) ≤ (N : Int) := by omega
        go_wp2_with fail
        go_ret
        refine .inl ⟨rfl, rfl, ?_⟩
        have := hN.out
        rw [List.take_of_length_le (by rw [List.length_map, Hl.out]; exact Nat.le_refl _)] at this
        omega
    · have hmi : ¬ (N : Int) < 4000 := by omega
      have hmi' : (4000 : Int) ≤ (N : Int) := by omega
      go_wp2_with fail
      all_goals
        go_ret
        exact .inr ⟨rfl, rfl⟩

set_option maxRecDepth 1000000 in
set_option maxHeartbeats 6400000 in
theorem sipPlays_walk (w : World) (k0 : Int) (h0 : (Lit.int .u64 k0).wf = true) (k1 : Int) (h1 : (Lit.int .u64 k1).wf = true)
    (C : Option Addr) (m cc : Nat) (l : List (Int × ByteArray)) (hmc : m ≤ cc) (hcc : cc ≤ maxLen) (hl : l.length = m) (hr : Reads w w.heap.size 2 C m (sactCells l)) (hw : ∀ p ∈ l, (Lit.int .u8 p.1).wf = true ∧ p.2.size ≤ maxLen) :
    Calls Try.prog 12 #[.int .u64 k0, .int .u64 k1, .slice C m cc] w fun e w' => e = .returned (.bool true) ∧ Still w w' := by
  have h0 := wf_u64 h0
  have h1 := wf_u64 h1
  have hlong := long_any (w := w) C m cc l hl (by omega) hr hw
  have Hl := Lib.hid hl
  have Hw := Lib.hid hw
  have hm63 : m ≤ maxLen := by omega
  unfold maxLen at hm63
  clear hl hw hmc hcc
  go_enter Try.func12, Try.ntmps12
  go_wp2_with fail
  refine hlong.mono ?_
  rintro e w1 (⟨rfl, rfl, hwt⟩ | ⟨rfl, rfl⟩)
  · have Hwt := Lib.hid hwt
    clear hwt hlong
    go_wp2_with fail
    refine (New_any h0 h1).mono ?_
    rintro e w2 ⟨g, rfl, hg, hb, hs2⟩
    have hb : Hsh w2 g (st0 k0 k1) := hb
    have hr2 := hr.only hs2 (Nat.le_refl _) (fun _ _ h => h)
    have ok0 := st0_ok h0 h1
    clear hr
    go_wp2_with fail
    go_loopw [7, 8, 9] (fun p x i wr => ∃ (k g : Nat) (J : ByteArray), k ≤ m ∧ i = .int .i64 k ∧ x = .string J ∧ p = .pointer (some ⟨g, 0, none⟩) ∧ w.heap.size ≤ g ∧ Hsh wr g ((st0 k0 k1).eat (byts J)) ∧ Reads wr w.heap.size 2 C m (sactCells l) ∧ Hid (J.size ≤ wt 20 4000 ((l.map Prod.snd).take k)) ∧ Hid (Still w wr)) (fun _ _ i _ => m - (intOf i).toNat)
    case atStart => exact ⟨0, g, _, by omega, rfl, rfl, rfl, hg, (show Hsh w2 g ((st0 k0 k1).eat (byts ⟨#[]⟩)) by rw [show byts ⟨#[]⟩ = [] by unfold byts; simp [ByteArray.toList_eq]]; exact hb), hr2, Lib.hid (Nat.zero_le _), Lib.hid hs2⟩
    case round =>
      clear hb hr2 hs2 hg
      obtain ⟨k, g, J, hk, rfl, rfl, rfl, hgw, hb, hr2, hJ, hst⟩ := hrel
      by_cases hlt : k < m
      · obtain ⟨bl, off, a, s, rfl, hbl, hlk, c0, c1⟩ := sact_cells hr2 Hl.out hlt
        have hzk : (l.map Prod.snd)[k]? = some s := by rw [List.getElem?_map, hlk]; rfl
        have hsn := wt_snoc (a := 20) (b := 4000) hzk
        have htot : wt 20 4000 ((l.map Prod.snd).take (k + 1)) < 4000 := by
          have e : wt 20 4000 (l.map Prod.snd) = wt 20 4000 ((l.map Prod.snd).take (k + 1)) + wt 20 4000 ((l.map Prod.snd).drop (k + 1)) := by rw [← wt_append, List.take_append_drop]
          have := Hwt.out
          omega
        have hJs : J.size + s.size < 4000 := by have := hJ.out; omega
        have hJ1 : J.size + s.size ≤ wt 20 4000 ((l.map Prod.snd).take (k + 1)) := by have := hJ.out; omega
        have HJ1 := Lib.hid hJ1
        have okk := St.eat_ok ok0 _ (byts_ok J)
        have hnk : ((st0 k0 k1).eat (byts J)).n = J.size := by rw [St.eat_n, byts_len]; exact Nat.zero_add _
        have hbl' : ¬ bl = g := by omega
        clear hzk hsn htot hJ1 hlk
        have hold : J.size ≤ wt 20 4000 ((l.map Prod.snd).take (k + 1)) := by have := HJ1.out; omega
        have Hold := Lib.hid hold
        clear hold
        by_cases ha0 : a = 0
        · subst ha0
          have hJ' : byts (J ++ s) = byts J ++ byts s := byts_append J s
          have heq : ((st0 k0 k1).eat (byts J)).eat (byts s) = (st0 k0 k1).eat (byts (J ++ s)) := by rw [hJ', St.eat_append]
          have hRef := fun W => refSum_any (w := W) h0 h1 (J ++ s) (by rw [ByteArray.size_append]; omega)
          have hsum : hash k0 k1 (byts (J ++ s)) = (((st0 k0 k1).eat (byts J)).eat (byts s)).sum := by rw [heq]; rfl
          have okn := St.eat_ok okk _ (byts_ok s)
          have hnn : (((st0 k0 k1).eat (byts J)).eat (byts s)).n = J.size + s.size := by rw [St.eat_n, hnk, byts_len]
          have hJs' : Hid ((J ++ s).size ≤ wt 20 4000 ((l.map Prod.snd).take (k + 1))) := by rw [ByteArray.size_append]; exact HJ1
          have hsz2 : ((J ++ s).size : Int) = (J.size : Int) + (s.size : Int) := by rw [ByteArray.size_append]; omega
          rw [hsum] at hRef
          have Heq := Lib.hid heq
          clear heq hsum hJ'
          generalize (st0 k0 k1).eat (byts J) = sk at *
          go_wp2_with fail
          refine (Write_any hb okk s (by omega)).mono ?_
          rintro e y0 ⟨rfl, hb0, ho0⟩
          have d1 := ho0.cell_some (show ¬ bl = g from hbl') c1
          have hr0 := hr2.only ho0 hst.out.size (fun i hi e => by omega)
          have hst0 := hst.out.far ho0 hgw
          clear hb hr2 hst c0 c1
          generalize sk.eat (byts s) = sn at *
          have hnni : (sn.n : Int) = (J.size : Int) + (s.size : Int) := by omega
          go_wp2_with fail
          refine (Sum_any hb0 okn (by omega)).mono ?_
          rintro e y1 ⟨rfl, ht1⟩
          have hby := hb0.still ht1
          have hry := hr0.only ht1 (hst0).size (fun _ _ h => h)
          have hsy := (hst0).still ht1
          go_wp2_with fail
          refine (hRef _).mono ?_
          rintro e y2 ⟨rfl, ht2⟩
          have hbz := hby.still ht2
          have hrz := hry.only ht2 hsy.size (fun _ _ h => h)
          have hsz := hsy.still ht2
          clear hby hry hsy
          go_wp2_with fail
          refine (Len_any hbz okn).mono ?_
          rintro e y3 ⟨rfl, rfl⟩
          go_wp2_with fail
          go_roundw
          case rel => exact ⟨k + 1, g, J ++ s, by omega, by go_num, rfl, rfl, hgw, by rw [← Heq.out] <;> exact hbz, hrz, hJs', Lib.hid hsz⟩
          case measure => simp [intOf]; omega
        · by_cases ha1 : a = 1
          · subst ha1
            have hRef := fun W => refSum_any (w := W) h0 h1 J (by omega)
            have hsum : hash k0 k1 (byts J) = ((st0 k0 k1).eat (byts J)).sum := rfl
            rw [hsum] at hRef
            obtain ⟨sk, heq⟩ : ∃ sk, sk = (st0 k0 k1).eat (byts J) := ⟨_, rfl⟩
            rw [← heq] at hb okk hnk hRef
            have Heq := Lib.hid heq
            clear heq hsum
            have hnni : (sk.n : Int) = (J.size : Int) := by omega
            go_wp2_with fail
            refine (Copy_any hb okk).mono ?_
            rintro e y0 ⟨g', rfl, hg', hc0, ht0⟩
            have hb0 := hb.still ht0
            have hgg : g < g' := Nat.lt_of_lt_of_le (Blk.lt hb) hg'
            have hgw' : w.heap.size ≤ g' := by omega
            have hr0 := hr2.only ht0 hst.out.size (fun _ _ h => h)
            have hst0 := hst.out.still ht0
            clear hb hr2 hst c0 c1 ht0 hg'
            go_wp2_with fail
            refine (Write_any hb0 okk _ (by show _ + 6 < _; omega)).mono ?_
            rintro e y4 ⟨rfl, hb4, ho4⟩
            have hc4 := hc0.far ho4 (by omega)
            have hr4 := hr0.only ho4 hst0.size (fun i hi e => by omega)
            have hst4 := hst0.far ho4 hgw
            clear hb0 hr0 hst0 hb4 hc0
            go_wp2_with fail
            refine (Sum_any hc4 okk (by omega)).mono ?_
            rintro e y1 ⟨rfl, ht1⟩
            have hby := hc4.still ht1
            have hry := hr4.only ht1 (hst4).size (fun _ _ h => h)
            have hsy := (hst4).still ht1
            go_wp2_with fail
            refine (hRef _).mono ?_
            rintro e y2 ⟨rfl, ht2⟩
            have hbz := hby.still ht2
            have hrz := hry.only ht2 hsy.size (fun _ _ h => h)
            have hsz := hsy.still ht2
            clear hby hry hsy
            go_wp2_with fail
            refine (Len_any hbz okk).mono ?_
            rintro e y3 ⟨rfl, rfl⟩
            go_wp2_with fail
            go_roundw
            case rel => exact ⟨k + 1, g', J, by omega, by go_num, rfl, rfl, hgw', by rw [← Heq.out] <;> exact hbz, hrz, Hold, Lib.hid hsz⟩
            case measure => simp [intOf]; omega
          · have hRef := fun W => refSum_any (w := W) h0 h1 J (by omega)
            have hsum : hash k0 k1 (byts J) = ((st0 k0 k1).eat (byts J)).sum := rfl
            rw [hsum] at hRef
            obtain ⟨sk, heq⟩ : ∃ sk, sk = (st0 k0 k1).eat (byts J) := ⟨_, rfl⟩
            rw [← heq] at hb okk hnk hRef
            have Heq := Lib.hid heq
            clear heq hsum
            have hnni : (sk.n : Int) = (J.size : Int) := by omega
            go_wp2_with fail
            refine (Sum_any hb okk (by omega)).mono ?_
            rintro e y1 ⟨rfl, ht1⟩
            have hby := hb.still ht1
            have hry := hr2.only ht1 (hst.out).size (fun _ _ h => h)
            have hsy := (hst.out).still ht1
            go_wp2_with fail
            refine (hRef _).mono ?_
            rintro e y2 ⟨rfl, ht2⟩
            have hbz := hby.still ht2
            have hrz := hry.only ht2 hsy.size (fun _ _ h => h)
            have hsz := hsy.still ht2
            clear hby hry hsy
            go_wp2_with fail
            refine (Len_any hbz okk).mono ?_
            rintro e y3 ⟨rfl, rfl⟩
            go_wp2_with fail
            go_roundw
            case rel => exact ⟨k + 1, g, J, by omega, by go_num, rfl, rfl, hgw, by rw [← Heq.out] <;> exact hbz, hrz, Hold, Lib.hid hsz⟩
            case measure => simp [intOf]; omega
      · have hkn : k = m := by omega
        subst hkn
        go_wp2_with fail
        refine (sip_awake _).mono ?_
        rintro e w3 ⟨rfl, hs3⟩
        have hs4 := hst.out.still hs3
        go_wp2_with fail
        go_ret
        exact ⟨rfl, hs4⟩
  · go_wp2_with fail
    refine (sip_awake _).mono ?_
    rintro e w3 ⟨rfl, hs3⟩
    go_wp2_with fail
    go_ret
    exact ⟨rfl, hs3⟩
end Go.Proofs.Ytpgebejnpncemaa
