/-
  Package name: Join.
-/
import Derived.Test.YtjenabcjikdnaaaNameTxt
import Derived.Lib.AppendStr
namespace Go.Proofs.Ytjenabcjikdnaaa
open Go.RowKit
set_option linter.unusedVariables false
set_option linter.unusedSimpArgs false

/-- 'string(b)' of an own row. -/
theorem conv_own {w : World} {base n c : Nat} {A : Option Addr} {l : List UInt8} (h : w.ownsRow base 5 1 (.slice A n c) n (bv l)) :
    (convert 42 9 (.slice A n c)).run Try.prog w = .ok (.string (mk l)) w := by
  have hl : l.length = n := by have := h.1; rw [bv_length] at this; omega
  have h0 := h
  rcases h.2 with ⟨h1, hn⟩ | ⟨g, cap, cur, h1, _⟩
  · injection h1 with h1 h2 h3
    subst h1
    have hl : l = [] := List.eq_nil_of_length_eq_zero (by omega)
    subst hl
    exact run_convert_bytes_nil (P := Try.prog) w 42 5 Try.underlying42 Try.underlying5 _ _ 9 Try.underlying9
  · injection h1 with h1 h2 h3
    subst h1
    have := of_bytes w g c l (fun j hj => by
      have := h0.cells (g := g) rfl j (.int .u8 (l[j].toNat : Int)) (by unfold bv; rw [List.getElem?_map, List.getElem?_eq_getElem hj]; rfl)
      rw [show (⟨g, 0, none⟩ : Addr).add j = ⟨g, j, none⟩ by unfold Addr.add; split <;> simp_all] at this
      exact this)
    rw [hl] at this
    exact this
instance (x : Lab) : Decidable (okLab x) := by unfold okLab; infer_instance
/-- What Join of labels says. -/
def joinE (L : List Lab) : Int := if ∀ x ∈ L, okLab x then (if sz L + 1 ≤ 255 then 0 else 5) else 1
def joinB (L : List Lab) : List UInt8 := if (∀ x ∈ L, okLab x) ∧ sz L + 1 ≤ 255 then enc L else []
theorem join_arg {L : List Lab} (h : ¬ ∀ x ∈ L, okLab x) : joinE L = 1 ∧ joinB L = [] := by
  unfold joinE joinB; rw [if_neg h, if_neg (fun k => h k.1)]; exact ⟨rfl, rfl⟩
theorem join_long {L : List Lab} (h : ∀ x ∈ L, okLab x) (k : 255 < sz L + 1) : joinE L = 5 ∧ joinB L = [] := by
  unfold joinE joinB; rw [if_pos h, if_neg (by omega), if_neg (fun k => by omega)]; exact ⟨rfl, rfl⟩
theorem join_ok {L : List Lab} (h : okL L) : joinE L = 0 ∧ joinB L = enc L := by
  unfold joinE joinB; rw [if_pos h.1, if_pos h.2, if_pos ⟨h.1, h.2⟩]; exact ⟨rfl, rfl⟩
/-- The bytes of labels, without the 0. -/
def encs (L : List Lab) : List UInt8 := L.flatMap fun x => UInt8.ofNat x.length :: x
theorem enc_encs : ∀ L : List Lab, enc L = encs L ++ [0]
  | [] => rfl
  | x :: r => by rw [enc, enc_encs r]; simp [encs]
theorem encs_len : ∀ L : List Lab, (encs L).length = sz L
  | [] => rfl
  | x :: r => by
      have := encs_len r
      unfold encs at *
      rw [List.flatMap_cons, List.length_append, this]
      simp only [List.length_cons, sz]; omega
theorem encs_take (L : List Lab) (k : Nat) (h : k < L.length) : encs (L.take (k + 1)) = encs (L.take k) ++ (UInt8.ofNat L[k].length :: L[k]) := take_snoc _ L k h
theorem sz_snoc (L : List Lab) (k : Nat) (h : k < L.length) : sz (L.take (k + 1)) = sz (L.take k) + (1 + L[k].length) := by
  rw [List.take_add_one, sz_app, List.getElem?_eq_getElem h]; simp [sz]
theorem sz_ok : ∀ {L : List Lab} (k : Nat), (∀ x ∈ L.take k, okLab x) → sz (L.take k) ≤ 64 * k
  | [], k, _ => by simp [sz]
  | x :: r, 0, _ => by simp [sz]
  | x :: r, k + 1, h => by
      rw [List.take_succ_cons] at h ⊢
      have h1 := sz_ok (L := r) k (fun y hy => h y (List.mem_cons_of_mem _ hy))
      have h2 := (h x List.mem_cons_self).2
      simp only [sz]; omega
theorem take_ok {L : List Lab} {k : Nat} (h : k < L.length) (ha : ∀ x ∈ L.take k, okLab x) (hx : okLab L[k]) : ∀ x ∈ L.take (k + 1), okLab x := by
  intro x hx'
  rw [List.take_add_one, List.getElem?_eq_getElem h] at hx'
  rcases List.mem_append.1 hx' with h1 | h1
  · exact ha x h1
  · have e : x = L[k] := by simpa using h1
    rw [e]; exact hx

set_option maxRecDepth 1000000 in
set_option maxHeartbeats 3200000 in
theorem join_any (A : Option Addr) (n c : Nat) (L : List Lab) (hn : L.length = n) (hn9 : n ≤ 1000000000) (w : World) (hr : Reads w w.heap.size 1 A n (sv L)) :
    Calls Try.prog 15 #[.slice A n c] w fun e w' => e = .returned (.tuple #[.string (mk (joinB L)), .int .i64 (joinE L)]) ∧ Still w w' := by
  subst hn
  obtain ⟨i0, hi, hz0, hz1, hz2⟩ := info_parts info_u8
  go_enter Try.func15, Try.ntmps15
  go_wp2_with fail
  go_loopw [4, 12] (fun i4 i12 wr => ∃ k : Nat, k ≤ L.length ∧ i4 = .int .i64 ((sz (L.take k) + 1 : Nat) : Int) ∧ i12 = .int .i64 k ∧ Hid (∀ x ∈ L.take k, okLab x) ∧ wr = w) (fun _ i _ => L.length - (intOf i).toNat)
  case atStart => exact ⟨0, by omega, rfl, rfl, Lib.hid (by intro x hx; simp at hx), rfl⟩
  case round =>
    obtain ⟨k, hk, rfl, rfl, hok, rfl⟩ := hrel
    by_cases hlt : k < L.length
    · have i1 : (k : Int) < (L.length : Int) := by omega
      obtain ⟨ad, u, hA, hab, hu, hcell⟩ := hr.at_ (k := k) hlt
      subst hA
      obtain rfl : u = .string (mk L[k]) := by
        unfold sv at hu
        rw [List.getElem?_map, List.getElem?_eq_getElem hlt] at hu
        exact (Option.some.inj hu).symm
      have hs6 := sz_ok k hok.out
      have hsn := sz_snoc L k hlt
      have hba : ¬ okLab L[k] → ¬ ∀ x ∈ L, okLab x := fun h h' => h (h' _ (List.getElem_mem hlt))
      have hgo : okLab L[k] → ∀ x ∈ L.take (k + 1), okLab x := take_ok hlt hok.out
      obtain ⟨x, hx⟩ : ∃ x, x = L[k] := ⟨_, rfl⟩
      rw [← hx] at hcell hsn hba hgo
      have HSN := Lib.hid hsn
      have HB := Lib.hid hba
      have HG := Lib.hid hgo
      have hxs := mk_size x
      clear hx hsn hba hgo hu
      by_cases e0 : x.length = 0
      · have hb := join_arg (HB.out (by unfold okLab; omega))
        have Hb := Lib.hid hb
        have j1 : (x.length : Int) = 0 := by omega
        clear hb
        go_wp2_with fail
        go_ret2
        exact ⟨by rw [Hb.out.1, Hb.out.2]; rfl, Only.refl _ _⟩
      · have j1 : ¬ (x.length : Int) = 0 := by omega
        have j1' : ((x.length : Int) == 0) = false := by rw [beq_eq_false_iff_ne]; omega
        by_cases e6 : 63 < x.length
        · have hb := join_arg (HB.out (by unfold okLab; omega))
          have Hb := Lib.hid hb
          have j2 : (63 : Int) < (x.length : Int) := by omega
          clear hb
          go_wp2_with fail
          go_ret2
          exact ⟨by rw [Hb.out.1, Hb.out.2]; rfl, Only.refl _ _⟩
        · have j2 : ¬ (63 : Int) < (x.length : Int) := by omega
          have y1 : IntKind.i64.wrap (1 + (x.length : Int)) = 1 + (x.length : Int) := IntWalk.i64_in _ (by omega)
          have y2 : IntKind.i64.wrap (((sz (L.take k) + 1 : Nat) : Int) + (1 + (x.length : Int))) = ((sz (L.take (k + 1)) + 1 : Nat) : Int) := by rw [HSN.out, IntWalk.i64_in _ (by omega)]; push_cast; omega
          have y3 : IntKind.i64.wrap ((k : Int) + 1) = ((k + 1 : Nat) : Int) := by rw [IntWalk.i64_in _ (by omega)]; push_cast; rfl
          have hok' := HG.out (by unfold okLab; omega)
          have HK := Lib.hid hok'
          clear hok'
          go_wp2_with fail
          refine ⟨⟨k + 1, by omega, by first | (have := HSN.out; congr 1; push_cast; omega) | (have := HSN.out; push_cast; omega), by push_cast; rfl, HK, by first | rfl | trivial⟩, by simp [intOf]; omega⟩
    · have i1 : ¬ (k : Int) < (L.length : Int) := by omega
      have ht : L.take k = L := List.take_of_length_le (by omega)
      have hok1 : ∀ x ∈ L, okLab x := by rw [← ht]; exact hok.out
      have hsL : sz L ≤ 64 * L.length := by
        have := sz_ok k hok.out
        rw [ht] at this
        have e : k = L.length := by omega
        rw [e] at this
        exact this
      rw [ht]
      by_cases hbig : 255 < sz L + 1
      · have Hb := Lib.hid (join_long hok1 hbig)
        have j1 : (255 : Int) < ((sz L + 1 : Nat) : Int) := by omega
        clear hok1 hok ht
        go_wp2_with fail
        go_ret2
        exact ⟨by rw [Hb.out.1, Hb.out.2]; rfl, Only.refl _ _⟩
      · have Hb := Lib.hid (join_ok ⟨hok1, by omega⟩)
        have j1 : ¬ (255 : Int) < ((sz L + 1 : Nat) : Int) := by omega
        have Hok := Lib.hid hok1
        clear hok1 hok ht
        obtain ⟨w0, hw0⟩ : ∃ w0, w0 = wr := ⟨_, rfl⟩
        have HW := Lib.hid hw0
        rw [← hw0] at hr ⊢
        clear hw0
        have HR := Lib.hid hr
        clear hr
        go_wp2_with (at_make; refine wpList_make_own _ rfl _ _ 42 rfl w0.heap.size 5 i0 (.int .u8 0) 1 Try.underlying42 hi hz0 hz1 _ _ _ (sz L + 1) rfl rfl (by push_cast; rfl) (by rw [hz2]; omega) (by unfold maxLen; omega) (Nat.le_refl _) ?_)
        intro w1 hown hgrow
        have hst := (Only.refl (fun _ => False) w0).grown hgrow (fun k hk => by cases hk)
        clear hgrow
        go_wp2_with fail
        go_loopw [7, 36] (fun i7 i36 wq => ∃ (j : Nat) (B : Option Addr) (cB : Nat), j ≤ L.length ∧ i7 = .slice B (sz (L.take j)) cB ∧ i36 = .int .i64 j ∧ wq.ownsRow w0.heap.size 5 1 (.slice B (sz (L.take j)) cB) (sz (L.take j)) (bv (encs (L.take j))) ∧ Still w0 wq) (fun _ i _ => L.length - (intOf i).toNat)
        case atStart => exact ⟨0, _, _, by omega, rfl, rfl, hown, hst⟩
        case round =>
          clear hown hst
          obtain ⟨j, B, cB, hj, rfl, rfl, hown, hst⟩ := hrel
          have hszw := hst.size
          by_cases hlt : j < L.length
          · have i1 : (j : Int) < (L.length : Int) := by omega
            obtain ⟨ad, u, hA, hab, hu, hcell⟩ := HR.out.at_ (k := j) hlt
            subst hA
            obtain rfl : u = .string (mk L[j]) := by
              unfold sv at hu
              rw [List.getElem?_map, List.getElem?_eq_getElem hlt] at hu
              exact (Option.some.inj hu).symm
            have hcell := hst.cell_some (p := ad.add j) (fun h => h) hcell
            have hx63 := (Hok.out _ (List.getElem_mem hlt)).2
            have hsn := sz_snoc L j hlt
            have htk := encs_take L j hlt
            have hle : sz (L.take j) ≤ 254 := by have := sz_take L j; omega
            obtain ⟨x, hx⟩ : ∃ x, x = L[j] := ⟨_, rfl⟩
            rw [← hx] at hcell hx63 hsn htk
            have HSN := Lib.hid hsn
            have HT := Lib.hid htk
            have hxs := mk_size x
            clear hx hsn htk hu
            obtain ⟨m, hm⟩ : ∃ m, m = sz (L.take j) := ⟨_, rfl⟩
            obtain ⟨P, hP⟩ : ∃ P, P = encs (L.take j) := ⟨_, rfl⟩
            rw [← hm] at hown HSN hle ⊢
            rw [← hP] at hown HT
            have y1 : IntKind.u8.wrap (x.length : Int) = (x.length : Int) := IntWalk.u8_in _ (by omega)
            have i2 : IntKind.i64.wrap ((j : Int) + 1) = ((j + 1 : Nat) : Int) := by rw [IntWalk.i64_in _ (by omega)]; push_cast; rfl
            have hp1 := hown.alloc (.cells #[.int .u8 (x.length : Int)] 5)
            have hs1 := hst.alloc (.cells #[.int .u8 (x.length : Int)] 5)
            have hrd := Reads.of_own (World.ownsRow_lit (e := 5) (size := 1) (base := 0) wr #[.int .u8 (x.length : Int)] 1 (Nat.zero_le _) (by unfold maxLen; omega) rfl)
            clear hm hP hown hst
            go_wp2_with (at_builtin; refine wpList_append_any _ rfl (.tmp 40) (.tmp 44) 42 rfl w0.heap.size 5 i0 (.int .u8 0) 1 1 Try.underlying42 hi hz0 hz1 hz2 rfl (by decide) _ _ _ rfl hp1 _ (some _) 1 1 _ rfl hrd (by first | rfl | (intro u hu; simp at hu; subst hu; rfl)) (by unfold maxLen; omega) (by omega) (by first | (simp; omega) | omega) ?_)
            intro v' wg hown' hgrow hblk
            obtain ⟨A', c', hv⟩ := own_shape hown'
            subst hv
            have hs2 := hs1.grown hgrow (fun k hk => .inr (hp1.lt k hk).1)
            have hsz2 := hs2.size
            clear hgrow hblk hp1 hrd hs1 hcell
            go_wp2_with (at_builtin; refine Lib.wpList_append_own_string _ rfl (.tmp 46) (.tmp 47) 42 9 rfl w0.heap.size 5 i0 Try.underlying42 Try.underlying9 hi hz0 hz1 hz2 _ _ _ rfl hown' (mk x) rfl (by rw [mk_size]; unfold maxLen; omega) (by rw [mk_size]; omega) (by omega) ?_)
            intro v2 wh hown2 hgrow2 _
            obtain ⟨A2, c2, hv⟩ := own_shape hown2
            subst hv
            have hs3 := hs2.grown hgrow2 (fun k hk => .inr (hown'.lt k hk).1)
            have hlen2 : m + 1 + x.length = sz (L.take (j + 1)) := by rw [HSN.out]; omega
            have hrow2 : bv P ++ Value.int .u8 (x.length : Int) :: Lib.strCells (mk x) = bv (encs (L.take (j + 1))) := by
              rw [HT.out, bv_append]
              show bv P ++ Value.int .u8 (x.length : Int) :: bv x = bv P ++ (Value.int .u8 ((UInt8.ofNat x.length).toNat : Int) :: bv x)
              rw [toNat_len hx63]
            have hown3 : wh.ownsRow w0.heap.size 5 1 (.slice A2 (sz (L.take (j + 1))) c2) (sz (L.take (j + 1))) (bv (encs (L.take (j + 1)))) := by
              rw [← hlen2, ← hrow2]
              simpa using hown2
            have HL2 := Lib.hid hlen2
            clear hgrow2 hown' hs2 hrow2 hown2 hlen2
            go_wp2_with fail
            exact ⟨⟨j + 1, A2, c2, by omega, by rw [← HL2.out], by push_cast; rfl, hown3, hs3⟩, by simp [intOf]; omega⟩
          · have i1 : ¬ (j : Int) < (L.length : Int) := by omega
            have ht : L.take j = L := List.take_of_length_le (by omega)
            rw [ht] at hown ⊢
            go_wp2_with (at_builtin; refine Lib.wpList_append_own_string _ rfl (.tmp 50) (.const (.string ⟨#[0]⟩)) 42 9 rfl w0.heap.size 5 i0 Try.underlying42 Try.underlying9 hi hz0 hz1 hz2 _ _ _ rfl hown ⟨#[0]⟩ rfl (by show sz L + 1 ≤ _; unfold maxLen; omega) (by show sz L + 1 ≤ _; omega) (by omega) ?_)
            intro v2 wh hown2 hgrow2 _
            obtain ⟨A2, c2, hv⟩ := own_shape hown2
            subst hv
            have hs3 := hst.grown hgrow2 (fun k hk => .inr (hown.lt k hk).1)
            have hrow : bv (encs L) ++ Lib.strCells ⟨#[0]⟩ = bv (enc L) := by rw [enc_encs, bv_append]; rfl
            rw [hrow] at hown2
            have hcv := conv_own (l := enc L) hown2
            clear hrow hown2 hgrow2 hown hst
            go_wp2_with fail
            go_ret2
            exact ⟨by rw [Hb.out.1, Hb.out.2]; rfl, by rw [← HW.out]; exact hs3⟩
end Go.Proofs.Ytjenabcjikdnaaa
