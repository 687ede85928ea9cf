/-
  The reference's table of zones: Find.
-/
import Derived.Test.YtinjfongndlpgaaZoneRefN
import Derived.Test.YtinjfongndlpgaaZoneTurn
namespace Go.Proofs.Ytinjfongndlpgaa
open Go.RowKit
set_option linter.unusedVariables false
set_option linter.unusedSimpArgs false

def Best (Z : List Zn) (s : ByteArray) (v : Zn) (m : Int) : Prop :=
  (m = -1 ∧ v = none0 ∧ ∀ y ∈ Z, inS s y.nm = false) ∨ (v ∈ Z ∧ inS s v.nm = true ∧ m = (nl v.nm : Nat) ∧ ∀ y ∈ Z, inS s y.nm = true → nl y.nm ≤ nl v.nm)
theorem Best.no {Z : List Zn} {s : ByteArray} {v : Zn} {m : Int} {z : Zn} (h : Best Z s v m) (hz : inS s z.nm = false) : Best (Z ++ [z]) s v m := by
  rcases h with ⟨a, b, c⟩ | ⟨a, b, c, d⟩
  · refine .inl ⟨a, b, fun y hy => ?_⟩
    rcases List.mem_append.1 hy with hy | hy
    · exact c y hy
    · rw [List.mem_singleton.1 hy]; exact hz
  · refine .inr ⟨List.mem_append_left _ a, b, c, fun y hy hi => ?_⟩
    rcases List.mem_append.1 hy with hy | hy
    · exact d y hy hi
    · rw [List.mem_singleton.1 hy, hz] at hi; cases hi
theorem Best.less {Z : List Zn} {s : ByteArray} {v : Zn} {m : Int} {z : Zn} (h : Best Z s v m) (hm : ¬ ((nl z.nm : Nat) : Int) > m) : Best (Z ++ [z]) s v m := by
  rcases h with ⟨a, b, c⟩ | ⟨a, b, c, d⟩
  · omega
  · refine .inr ⟨List.mem_append_left _ a, b, c, fun y hy hi => ?_⟩
    rcases List.mem_append.1 hy with hy | hy
    · exact d y hy hi
    · rw [List.mem_singleton.1 hy]; omega
theorem Best.yes {Z : List Zn} {s : ByteArray} {v : Zn} {m : Int} {z : Zn} (h : Best Z s v m) (hz : inS s z.nm = true) (hm : ((nl z.nm : Nat) : Int) > m) : Best (Z ++ [z]) s z (nl z.nm : Nat) := by
  refine .inr ⟨List.mem_append_right _ (List.mem_singleton_self z), hz, rfl, fun y hy hi => ?_⟩
  rcases List.mem_append.1 hy with hy | hy
  · rcases h with ⟨a, b, c⟩ | ⟨a, b, c, d⟩
    · rw [c y hy] at hi; cases hi
    · have := d y hy hi
      omega
  · rw [List.mem_singleton.1 hy]; exact Nat.le_refl _
theorem Best.is {Z : List Zn} {s : ByteArray} {v : Zn} {m : Int} (h : Best Z s v m) (ho : okT Z) : v = findZ Z s := by
  rcases find_cases ho s with ⟨a, b, c⟩ | ⟨a, b⟩
  · rcases h with ⟨_, _, h3⟩ | ⟨h1, h2, h3, h4⟩
    · rw [h3 _ a] at b; cases b
    · exact uniq_in ho h1 a h2 b (Nat.le_antisymm (c _ h1 h2) (h4 _ a b))
  · rcases h with ⟨_, h2, _⟩ | ⟨h1, h2, _⟩
    · rw [h2, a]
    · rw [b _ h1] at h2; cases h2

set_option maxRecDepth 1000000 in
set_option maxHeartbeats 6400000 in
theorem rfind_any (w : World) (q t : Nat) (Z : List Zn) (s : ByteArray) (hT : RTab w q t Z) (hO : okT Z) (hs : s.size ≤ 30000) (hZ : Z.length ≤ 1000) :
    Calls Try.prog 14 #[.pointer (some ⟨t, 0, none⟩), .string s] w fun e w' => e = .returned (zV (findZ Z s)) ∧ Still w w' := by
  obtain ⟨n, hn⟩ : ∃ n, n = Z.length := ⟨_, rfl⟩
  obtain ⟨f, hf⟩ : ∃ f, f = findZ Z s := ⟨_, rfl⟩
  rw [← hf]
  have HF := Lib.hid hf
  clear hf
  unfold zV
  obtain ⟨A, c, hqt, hbt0, hown0⟩ := hT
  rw [← hn] at hbt0 hown0
  have htw : t < w.heap.size := hbt0.lt
  have hrw := Reads.of_own hown0
  clear hown0
  have hs0 := (Still.new w (.cells #[.string ⟨#[]⟩, .int .u8 0, .int .u16 0] 35)).alloc (.cells #[.string ⟨#[]⟩, .int .u8 0, .int .u16 0] 35)
  have h40 := (Blk.new w 35 #[.string ⟨#[]⟩, .int .u8 0, .int .u16 0]).alloc (.cells #[.string ⟨#[]⟩, .int .u8 0, .int .u16 0] 35)
  have h50 := Blk.at_ (w.alloc (.cells #[.string ⟨#[]⟩, .int .u8 0, .int .u16 0] 35)) 35 #[.string ⟨#[]⟩, .int .u8 0, .int .u16 0] (g := w.heap.size + 1) (by simp)
  go_enter Try.func14, Try.ntmps14
  go_wp2_with ((refine wpList_store_blk rfl 35 (.tmp 5) (.tmp 10) rfl (w.heap.size + 1) rfl #[.string ⟨#[0]⟩, .int .u8 1, .int .u16 0] rfl 35 _ h50 (by kernel_rfl) rfl (by kernel_rfl) ?_); intro wa hBa hoa)
  have hSa : Still w wa := hs0.trans hoa (fun i hi e => by have e' : i = w.heap.size + 1 := e; omega)
  have h4a := h40.only hoa (by omega)
  obtain ⟨K4, hK4⟩ : ∃ K, K = w.heap.size := ⟨_, rfl⟩
  obtain ⟨K5, hK5⟩ : ∃ K, K = w.heap.size + 1 := ⟨_, rfl⟩
  rw [← hK5] at hBa ⊢
  rw [← hK4] at h4a ⊢
  have HK : Hid (K4 = w.heap.size ∧ K5 = w.heap.size + 1) := Lib.hid ⟨hK4, hK5⟩
  have hK45 : ¬ K4 = K5 := by omega
  clear hs0 h40 h50 hoa hK4 hK5
  have h4T : Hid (Only (fun i => i = K5) wa wa) := Lib.hid (Only.refl _ _)
  go_wp2_with fail
  go_loopw [6, 7] (fun i6 i7 wr => ∃ (k : Nat) (m : Int) (v : Zn), k ≤ n ∧ i6 = .int .i64 m ∧ i7 = .int .i64 k ∧ Blk wr K5 35 #[.string v.nm, .int .u8 v.pol, .int .u16 v.tr] ∧ Hid (Blk wr t 55 #[.slice A n c] ∧ Reads wr w.heap.size 3 A n (zRow Z) ∧ Blk wr K4 35 #[.string ⟨#[]⟩, .int .u8 0, .int .u16 0]) ∧ Still w wr ∧ Hid (Best (Z.take k) s v m)) (fun _ i7 _ => n - (intOf i7).toNat)
  case atStart => exact ⟨0, -1, none0, Nat.zero_le _, rfl, rfl, hBa, Lib.hid ⟨hbt0.only hSa (fun h => h), hrw.only hSa (Nat.le_refl _) (fun _ _ h => h), h4a⟩, hSa, Lib.hid (.inl ⟨rfl, rfl, fun y hy => by cases hy⟩)⟩
  case round =>
    clear hBa hSa h4a h4T hbt0 hrw
    obtain ⟨k, m, v, hk, rfl, rfl, h5, hRT, hst, hbest⟩ := hrel
    obtain ⟨hbt, hrr, h4_⟩ := hRT.out
    have c0 := hbt.cell 0
    simp at c0
    by_cases hlt : k < n
    · obtain ⟨bl, off, z, hA, hbl, hlk, hz, x0, x1, x2⟩ := z3_cells hrr hn.symm hlt
      subst hA
      obtain ⟨S, hS, hSe, _⟩ := good_out (hO.1 z hz)
      have hz1 : z.nm.size ≤ 30000 := by rw [hSe]; exact enc_30_ hS
      have hmz : mayN z.nm.data.toList = true := by rw [hSe, mk_list]; exact may_enc hS
      have Hlk := Lib.hid hlk
      have hk1 : k + 1 ≤ n := hlt
      have Hta := Lib.hid (take_more hlk)
      clear hlk hz hbl hrr hS hSe h4_
      go_wp2_with fail
      refine (rlabels_any z.nm hz1 wr).mono ?_
      rintro e w6 (⟨h, _⟩ | ⟨L, A2, c2, hL, rfl, _, h6⟩)
      · exact absurd (h.out.symm.trans hmz) (by decide)
      have hnl : L.length = nl z.nm := by rw [hL.out.2, nl_enc hL.out.1]
      rw [hnl]
      obtain ⟨N, hN⟩ : ∃ N, N = nl z.nm := ⟨_, rfl⟩
      rw [← hN]
      have HN := Lib.hid hN
      have y0 := h6.cell_some (fun h => h) x0
      have y1 := h6.cell_some (fun h => h) x1
      have y2 := h6.cell_some (fun h => h) x2
      have d0 := h6.cell_some (fun h => h) c0
      have h56 := h5.only h6 (fun h => h)
      have hst6 := hst.still h6
      have hRT6 : Hid (Blk w6 t 55 #[.slice (some ⟨bl, off, none⟩) n c] ∧ Reads w6 w.heap.size 3 (some ⟨bl, off, none⟩) n (zRow Z) ∧ Blk w6 K4 35 #[.string ⟨#[]⟩, .int .u8 0, .int .u16 0]) := Lib.hid ⟨hRT.out.1.only h6 (fun h => h), hRT.out.2.1.only h6 hst.size (fun _ _ h => h), hRT.out.2.2.only h6 (fun h => h)⟩
      clear x0 x1 x2 c0 h5 hst h6 hL hnl hN hRT hbt
      go_wp2_with fail
      refine (rwithin_any s z.nm hs hz1 w6).mono ?_
      rintro e w7 ⟨rfl, h7⟩
      have x0 := h7.cell_some (fun h => h) y0
      have x1 := h7.cell_some (fun h => h) y1
      have x2 := h7.cell_some (fun h => h) y2
      have c0 := h7.cell_some (fun h => h) d0
      have h5 := h56.only h7 (fun h => h)
      have hst := hst6.still h7
      have hRT : Hid (Blk w7 t 55 #[.slice (some ⟨bl, off, none⟩) n c] ∧ Reads w7 w.heap.size 3 (some ⟨bl, off, none⟩) n (zRow Z) ∧ Blk w7 K4 35 #[.string ⟨#[]⟩, .int .u8 0, .int .u16 0]) := Lib.hid ⟨hRT6.out.1.only h7 (fun h => h), hRT6.out.2.1.only h7 hst6.size (fun _ _ h => h), hRT6.out.2.2.only h7 (fun h => h)⟩
      clear y0 y1 y2 d0 h56 hst6 h7 hRT6
      rcases hin : inS s z.nm with _ | _
      · go_wp2_with fail
        go_roundw
        case rel => exact ⟨k + 1, m, v, hk1, rfl, by go_num, h5, hRT, hst, Lib.hid (by rw [Hta.out]; exact hbest.out.no hin)⟩
        case measure => simp [intOf]; omega
      · by_cases hgt : (N : Int) > m
        · have hd : decide ((N : Int) > m) = true := decide_eq_true hgt
          have Hgt : Hid (Best (Z.take (k + 1)) s z (N : Nat)) := Lib.hid (by rw [Hta.out, HN.out]; exact hbest.out.yes hin (by rw [← HN.out]; exact hgt))
          clear hgt hbest
          go_wp2_with ((refine wpList_store_blk rfl 35 (.tmp 5) (.tmp 54) rfl K5 rfl #[.string z.nm, .int .u8 z.pol, .int .u16 z.tr] rfl 35 _ h5 (by kernel_rfl) rfl (by kernel_rfl) ?_); intro wb hBb hob)
          have hRT' : Hid (Blk wb t 55 #[.slice (some ⟨bl, off, none⟩) n c] ∧ Reads wb w.heap.size 3 (some ⟨bl, off, none⟩) n (zRow Z) ∧ Blk wb K4 35 #[.string ⟨#[]⟩, .int .u8 0, .int .u16 0]) := Lib.hid ⟨hRT.out.1.only hob (by have := HK.out; omega), hRT.out.2.1.only hob hst.size (fun i hi e => by have e' : i = K5 := e; have := HK.out; omega), hRT.out.2.2.only hob hK45⟩
          have hst' := hst.trans hob (fun i hi e => by have e' : i = K5 := e; have := HK.out; omega)
          go_roundw
          case rel => exact ⟨k + 1, (N : Nat), z, hk1, rfl, by go_num, hBb, hRT', hst', Hgt⟩
          case measure => simp [intOf]; omega
        · have hd : decide ((N : Int) > m) = false := decide_eq_false hgt
          have Hgt : Hid (Best (Z.take (k + 1)) s v m) := Lib.hid (by rw [Hta.out]; exact hbest.out.less (by rw [← HN.out]; exact hgt))
          clear hgt hbest
          go_wp2_with fail
          go_roundw
          case rel => exact ⟨k + 1, m, v, hk1, rfl, by go_num, h5, hRT, hst, Hgt⟩
          case measure => simp [intOf]; omega
    · have hkn : k = n := by omega
      subst hkn
      have hb := hbest.out
      rw [List.take_of_length_le (by omega)] at hb
      have hvf : v = f := (hb.is hO).trans HF.out.symm
      subst hvf
      have h4 := h4_
      obtain ⟨z0, z1, z2⟩ := blk3 h5
      clear hb hbest
      go_wp2_with ((refine wpList_store_blk rfl 35 (.tmp 4) (.tmp 57) rfl K4 rfl #[.string v.nm, .int .u8 v.pol, .int .u16 v.tr] rfl 35 _ h4 (by kernel_rfl) rfl (by kernel_rfl) ?_); intro wa hBa hoa)
      (try simp only [Exit.inBlock, Exit.then])
      refine bodyPost_ret (results_cell_row rfl _ _ _ _ _ (0, 0) _ rfl hBa (Try.underlying35) rfl (by kernel_rfl)) rfl ?_
      exact ⟨rfl, hst.trans hoa (fun i hi e => by have e' : i = K4 := e; have := HK.out; omega)⟩
end Go.Proofs.Ytinjfongndlpgaa
