/-
  Package zone: Find.
-/
import Derived.Test.YtinjfongndlpgaaZoneNew
namespace Go.Proofs.Ytinjfongndlpgaa
open Go.RowKit
set_option linter.unusedVariables false
set_option linter.unusedSimpArgs false

theorem zV_none0 : zV none0 = .agg #[.string ⟨#[0]⟩, .int .u8 1, .int .u16 0] := rfl
theorem up_hit {Z : List Zn} {S : List Lab} {y : Zn} (h : ofN Z (mk (enc S)) = some y) : up Z S = some y := by
  cases S with
  | nil => rw [up, h]
  | cons x r => rw [up, h]; rfl
theorem up_miss {Z : List Zn} {x : Lab} {r : List Lab} (h : ofN Z (mk (enc (x :: r))) = none) : up Z (x :: r) = up Z r := by rw [up, h]; rfl
theorem blk3 {w : World} {g : Nat} {t : TypeId} {a b c : Value} (h : Blk w g t #[a, b, c]) : w.cell? ⟨g, 0, none⟩ = some a ∧ w.cell? ⟨g, 1, none⟩ = some b ∧ w.cell? ⟨g, 2, none⟩ = some c := by
  have x0 := h.cell 0
  have x1 := h.cell 1
  have x2 := h.cell 2
  simp at x0 x1 x2
  exact ⟨x0, x1, x2⟩
theorem enc_30 {L : List Lab} (h : okL L) : (mk (enc L)).size ≤ 30000 := by rw [mk_size, enc_len]; have := h.2; omega

set_option maxRecDepth 1000000 in
set_option maxHeartbeats 6400000 in
theorem find_any (w : World) (base t : Nat) (Z : List Zn) (s : ByteArray) (hT : Tab w base t Z) (hs : s.size ≤ 30000) :
    Calls Try.prog 13 #[.pointer (some ⟨t, 0, none⟩), .string s] w fun e w' => e = .returned (zV (findZ Z s)) ∧ Still w w' := by
  obtain ⟨bo, no, β, hB⟩ := hT
  obtain ⟨v, hv⟩ : ∃ v, v = findZ Z s := ⟨_, rfl⟩
  rw [← hv]
  have HV := Lib.hid hv
  clear hv
  unfold zV
  have hs0 := (Still.new w (.cells #[.string ⟨#[]⟩, .int .u8 0, .int .u16 0] 35)).alloc (.cells #[.string ⟨#[]⟩, .int .u8 0, .int .u16 0] 35)
  have h40 := (Blk.new w 35 #[.string ⟨#[]⟩, .int .u8 0, .int .u16 0]).alloc (.cells #[.string ⟨#[]⟩, .int .u8 0, .int .u16 0] 35)
  have h50 := Blk.at_ (w.alloc (.cells #[.string ⟨#[]⟩, .int .u8 0, .int .u16 0] 35)) 35 #[.string ⟨#[]⟩, .int .u8 0, .int .u16 0] (g := w.heap.size + 1) (by simp)
  go_enter Try.func13, Try.ntmps13
  go_wp2_with ((refine wpList_store_blk rfl 35 (.tmp 5) (.tmp 9) rfl (w.heap.size + 1) rfl #[.string ⟨#[0]⟩, .int .u8 1, .int .u16 0] rfl 35 _ h50 (by kernel_rfl) rfl (by kernel_rfl) ?_); intro wa hBa hoa)
  have hSa : Still w wa := hs0.trans hoa (fun i hi e => by have e' : i = w.heap.size + 1 := e; omega)
  have h4a := h40.only hoa (by omega)
  obtain ⟨K4, hK4⟩ : ∃ K, K = w.heap.size := ⟨_, rfl⟩
  obtain ⟨K5, hK5⟩ : ∃ K, K = w.heap.size + 1 := ⟨_, rfl⟩
  rw [← hK5] at hBa ⊢
  rw [← hK4] at h4a ⊢
  have HK : Hid (K4 = w.heap.size ∧ K5 = w.heap.size + 1) := Lib.hid ⟨hK4, hK5⟩
  have hK45 : ¬ K4 = K5 := by omega
  have hBw := hB.still hSa
  clear hs0 h40 h50 hoa hK4 hK5
  rcases hm : mayN s.data.toList with _ | _
  · have hf : v = none0 := by rw [HV.out]; unfold findZ; rw [hm]; rfl
    subst hf
    refine (may_s s hs _).mono ?_
    rintro e w3 ⟨rfl, hs3⟩
    rw [hm]
    have h53 := hBa.only hs3 (fun h => h)
    have h43 := h4a.only hs3 (fun h => h)
    obtain ⟨z0, z1, z2⟩ := blk3 h53
    go_wp2_with (((refine wpList_store_blk rfl 35 (.tmp 4) (.tmp 17) rfl K4 rfl #[.string ⟨#[0]⟩, .int .u8 1, .int .u16 0] rfl 35 _ h43 (by kernel_rfl) rfl (by kernel_rfl) ?_); intro wb hBb hob))
    (try simp only [Exit.inBlock, Exit.then])
    refine bodyPost_ret (results_cell_row rfl _ _ _ _ _ (0, 0) _ rfl hBb (Try.underlying35) rfl (by kernel_rfl)) rfl ?_
    exact ⟨rfl, (hSa.still hs3).trans hob (fun i hi e => by have e' : i = K4 := e; have := HK.out; omega)⟩
  · obtain ⟨L, hL, e⟩ := may_mk hm
    subst e
    rw [findZ_enc Z hL] at HV
    have hfo := foldS_enc hL
    have hFL := hL.fold
    have hszF := enc_size hFL
    refine (may_s _ hs _).mono ?_
    rintro e w3 ⟨rfl, hs3⟩
    rw [hm]
    have h53 := hBa.only hs3 (fun h => h)
    have h43 := h4a.only hs3 (fun h => h)
    go_wp2_with (first
      | (go_at_call 20; refine (fold_s _ hs _).mono ?_; rintro e w4 ⟨rfl, hs4⟩; rw [hfo])
      | (go_at_call 24; refine (labels_c _ (enc_30 hFL) _).mono ?_; rintro e w5 ⟨A, c, rfl, hs5⟩))
    have hS5 := hs3.still (hs4.still hs5)
    have h45 := h4a.only hS5 (fun h => h)
    have h55 := hBa.only hS5 (fun h => h)
    have hB5 := hBw.still hS5
    have hS5 := hSa.still hS5
    clear hs3 hs4 hs5 h4a hBa hBw hSa h53 h43 hm hfo hs
    generalize fold L = F at *
    clear hL
    go_loopw [1, 6] (fun i1 i6 wr => Still w wr ∧ Blk wr K4 35 #[.string ⟨#[]⟩, .int .u8 0, .int .u16 0] ∧ Blk wr K5 35 #[.string ⟨#[0]⟩, .int .u8 1, .int .u16 0] ∧ TabB wr base t bo no β Z ∧
      ((∃ S, okL S ∧ i1 = .string (mk (enc S)) ∧ i6 = .int .i64 (nl (mk (enc S)) : Nat) ∧ Hid (up Z F = up Z S)) ∨ (i1 = .string (mk []) ∧ i6 = .int .i64 (-1) ∧ Hid (up Z F = none)))) (fun _ i6 _ => (intOf i6 + 1).toNat)
    case atStart => exact ⟨hS5, h45, h55, hB5, .inl ⟨F, hFL, rfl, rfl, Lib.hid rfl⟩⟩
    case round =>
      obtain ⟨hst, h4r, h5r, hBr, ⟨S, hSo, rfl, rfl, heq⟩ | ⟨rfl, rfl, heq⟩⟩ := hrel
      · clear h45 h55 hB5 hS5
        obtain ⟨s1, hs1e⟩ : ∃ s1, s1 = mk (enc S) := ⟨_, rfl⟩
        rw [← hs1e]
        have hs1 : s1.size ≤ 30000 := by rw [hs1e]; exact enc_30 hSo
        have h1000 : nl s1 ≤ 1000 := by have := nl_le s1; omega
        have hge : decide ((nl s1 : Int) ≥ 0) = true := decide_eq_true (by omega)
        have HS := Lib.hid hs1e
        clear hs1e
        have l1 := hBr.look_out (L := nl s1) h1000
        have c0 := hBr.blk.cell 0
        simp at c0
        rcases hN : ofN Z s1 with _ | y
        · have l2 := hBr.look_no hs1 hN
          generalize (if hasL Z (nl s1) = true then some (β (nl s1)) else none) = ob at l1 l2
          have hsn := Still.new wr (.cells #[.string ⟨#[]⟩, .int .u8 0, .int .u16 0] 35)
          go_wp2_with fail
          have hst' := hst.still hsn
          have h4' := h4r.only hsn (fun h => h)
          have h5' := h5r.only hsn (fun h => h)
          have hB' := hBr.still hsn
          generalize wr.alloc (.cells #[.string ⟨#[]⟩, .int .u8 0, .int .u16 0] 35) = wx at *
          have e1 := HS.out
          subst e1
          clear hsn l1 l2 c0 hst h4r h5r hBr
          rcases S with _ | ⟨x, r⟩
          · refine (parent_root _).mono ?_
            rintro e w6 ⟨rfl, hs6⟩
            have hn0 : nl (mk (enc [])) = 0 := nl_enc okL.nil
            rw [hn0] at *
            go_wp2_with fail
            go_roundw
            case rel =>
              refine ⟨hst'.still hs6, h4'.only hs6 (fun h => h), h5'.only hs6 (fun h => h), hB'.still hs6, .inr ⟨rfl, rfl, Lib.hid ?_⟩⟩
              rw [heq.out, up, hN]
            case measure => simp [intOf]
          · refine (parent_up x r hSo _).mono ?_
            rintro e w6 ⟨rfl, hs6⟩
            have hn1 : nl (mk (enc (x :: r))) = nl (mk (enc r)) + 1 := by rw [nl_enc hSo, nl_enc hSo.tail]; rfl
            have hn2 : ((nl (mk (enc (x :: r))) : Nat) : Int) - 1 = (nl (mk (enc r)) : Nat) := by omega
            go_wp2_with fail
            go_roundw
            case rel =>
              refine ⟨hst'.still hs6, h4'.only hs6 (fun h => h), h5'.only hs6 (fun h => h), hB'.still hs6, .inl ⟨r, hSo.tail, rfl, by go_num, Lib.hid ?_⟩⟩
              rw [heq.out, up_miss hN]
            case measure => simp [intOf]; omega
        · have l2 := hBr.look_yes hs1 hN
          generalize (if hasL Z (nl s1) = true then some (β (nl s1)) else none) = ob at l1 l2
          have hsn := Still.new wr (.cells #[.string y.nm, .int .u8 y.pol, .int .u16 y.tr] 35)
          have hv : v = y := by rw [HV.out, heq.out, up_hit (by rw [← HS.out]; exact hN)]; rfl
          subst hv
          have h4' := h4r.only hsn (fun h => h)
          have hst' := hst.still hsn
          go_wp2_with ((refine wpList_store_blk rfl 35 (.tmp 4) (.tmp 39) rfl K4 rfl #[.string v.nm, .int .u8 v.pol, .int .u16 v.tr] rfl 35 _ h4' (by kernel_rfl) rfl (by kernel_rfl) ?_); intro wb hBb hob)
          (try simp only [Exit.inBlock, Exit.then])
          refine bodyPost_ret (results_cell_row rfl _ _ _ _ _ (0, 0) _ rfl hBb (Try.underlying35) rfl (by kernel_rfl)) rfl ?_
          exact ⟨rfl, hst'.trans hob (fun i hi e => by have e' : i = K4 := e; have := HK.out; omega)⟩
      · have hf : v = none0 := by rw [HV.out, heq.out]; rfl
        subst hf
        obtain ⟨z0, z1, z2⟩ := blk3 h5r
        go_wp2_with ((refine wpList_store_blk rfl 35 (.tmp 4) (.tmp 45) rfl K4 rfl #[.string ⟨#[0]⟩, .int .u8 1, .int .u16 0] rfl 35 _ h4r (by kernel_rfl) rfl (by kernel_rfl) ?_); intro wb hBb hob)
        (try simp only [Exit.inBlock, Exit.then])
        refine bodyPost_ret (results_cell_row rfl _ _ _ _ _ (0, 0) _ rfl hBb (Try.underlying35) rfl (by kernel_rfl)) rfl ?_
        exact ⟨rfl, hst.trans hob (fun i hi e => by have e' : i = K4 := e; have := HK.out; omega)⟩
end Go.Proofs.Ytinjfongndlpgaa
