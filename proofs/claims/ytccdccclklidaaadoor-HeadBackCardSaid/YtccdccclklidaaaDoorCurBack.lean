/-
  CursorBack: what is put, one behind the other, is read so; then nothing is left; for all numbers, at most 2000 of them.
-/
import Derived.Test.YtccdccclklidaaaDoorCurLaw
import Derived.Test.YtccdccclklidaaaDoorOpen
namespace Go.Proofs.YtccdccclklidaaaDoor
open Go.RowKit
set_option linter.unusedVariables false

theorem reads_int {w : World} {B n k : Nat} {A : Option Addr} {kd : IntKind} {xs : List Int} (h : Reads w B 1 A n (xs.map (.int kd))) (hk : k < n) :
    ∃ ad x, A = some ad ∧ ad.block < B ∧ xs[k]? = some x ∧ w.cell? (ad.add k) = some (.int kd x) := by
  obtain ⟨ad, u, e, hb, hu, hc⟩ := h.at_ hk
  rw [List.getElem?_map] at hu
  obtain ⟨x, hx, rfl⟩ := Option.map_eq_some_iff.1 hu
  exact ⟨ad, x, e, hb, hx, hc⟩
/-- Draws, then calls that read. -/
theorem quiet_draws {P : Program} {f : FuncId} {args : Array Value} {w : World} {n : Nat} {v : Value} (h : Calls P f args (w.drewN n) fun e w' => e = .returned v ∧ ∃ q, w' = (w.drewN n).drewN q) :
    Calls P f args (w.drewN n) fun e w'' => e = .returned v ∧ ∃ m, w'' = w.drewN m :=
  h.mono fun _ _ ⟨he, q, hw⟩ => ⟨he, n + q, hw.trans (World.drewN_drewN w n q)⟩

def szOf (i : Nat) : Nat := if i % 3 = 0 then 1 else if i % 3 = 1 then 2 else 4
def piece (xs : List Int) (i : Nat) : List UInt8 := beB (szOf i) ((xs.getD i 0).toNat % 256 ^ szOf i)
def encK (xs : List Int) : Nat → List UInt8
  | 0 => []
  | k + 1 => encK xs k ++ piece xs k
theorem szOf_le (i : Nat) : szOf i ≤ 4 := by
  unfold szOf; split
  · omega
  · split <;> omega
theorem encK_le (xs : List Int) : ∀ k, (encK xs k).length ≤ 4 * k
  | 0 => by simp [encK]
  | k + 1 => by
    have := encK_le xs k
    have := szOf_le k
    simp only [encK, List.length_append, piece, beB_length]
    omega
theorem encK_split (xs : List Int) (k : Nat) : ∀ m, k < m → ∃ R, encK xs m = encK xs k ++ (piece xs k ++ R)
  | 0, h => absurd h (Nat.not_lt_zero _)
  | m + 1, h => by
    rcases Nat.lt_or_ge k m with h1 | h1
    · obtain ⟨R, hR⟩ := encK_split xs k m h1
      exact ⟨R ++ piece xs m, by rw [encK, hR]; simp⟩
    · have : k = m := by omega
      subst this
      exact ⟨[], by simp [encK]⟩
theorem str_extract (L : List UInt8) (a b : Nat) : ((str L).extract a b).data.toList = (L.drop a).take (b - a) := by
  simp [str, ByteArray.data_extract, List.take_drop]
theorem num_piece (xs : List Int) (k m : Nat) (h : k < m) : numAt (str (encK xs m)) (encK xs k).length (szOf k) = (xs.getD k 0).toNat % 256 ^ szOf k ∧ (encK xs k).length + szOf k ≤ (str (encK xs m)).size := by
  obtain ⟨R, hR⟩ := encK_split xs k m h
  have hp : (piece xs k).length = szOf k := beB_length _ _
  constructor
  · unfold numAt
    rw [str_extract, hR, List.drop_left, Nat.add_sub_cancel_left, ← hp, List.take_left]
    rw [hp]
    exact beL_beB _ _ (Nat.mod_lt _ (Nat.pow_pos (by omega)))
  · rw [str_size, hR]
    simp only [List.length_append, hp]
    omega

set_option maxRecDepth 100000 in
theorem conv_any {w : World} {base n c : Nat} {A : Option Addr} {l : List UInt8} (h : w.ownsRow base 5 1 (.slice A n c) n (bv l)) :
    (convert 34 9 (.slice A n c)).run Tryd.prog w = .ok (.string (str l)) w := by
  rcases h.2 with ⟨h1, h0⟩ | ⟨g, cap, cur, h1, _⟩
  · injection h1 with h1 h2 h3
    subst h1
    have hl : l = [] := List.eq_nil_of_length_eq_zero (by have := h.1; rw [bv_length] at this; omega)
    subst hl
    exact run_convert_bytes_nil (P := Tryd.prog) w 34 5 Tryd.underlying34 Tryd.underlying5 _ _ 9 Tryd.underlying9
  · injection h1 with h1 h2 h3
    subst h1
    exact conv_own h
set_option maxRecDepth 1000000 in
set_option maxHeartbeats 6400000 in
theorem back_walk (w : World) (he : ErrT w) (A : Option Addr) (m cc : Nat) (xs : List Int) (hm : m ≤ 2000) (hr : Reads w w.heap.size 1 A m (xs.map (.int .u32))) (hx : ∀ x ∈ xs, 0 ≤ x ∧ x < 4294967296) :
    Calls Tryd.prog 6 #[.slice A m cc] w fun e w' => e = .returned (.bool true) ∧ Still w w' := by
  have h20 : ¬ (2000 : Int) < (m : Int) := by omega
  have hlen : xs.length = m := by simpa using hr.1
  have Hlen := Lib.hid hlen
  have Hx := Lib.hid hx
  clear hlen hx
  go_enter Tryd.func6, Tryd.ntmps6
  go_wp2_with fail
  refine (cur_awake _ he).mono ?_
  rintro e w0 ⟨rfl, hs0⟩
  have hErr := Lib.hid he
  clear he
  go_wp2_with fail
  go_loopw [3, 4] (fun v i wr => ∃ k : Nat, k ≤ m ∧ i = .int .i64 k ∧ wr.ownsRow w.heap.size 5 1 v (encK xs k).length (bv (encK xs k)) ∧ Hid (Still w wr)) (fun _ i _ => m - (intOf i).toNat)
  case atStart => exact ⟨0, by omega, rfl, World.ownsRow_nil _ _ _ _, Lib.hid hs0⟩
  case round =>
    obtain ⟨k, hk, rfl, hown, hst⟩ := hrel
    obtain ⟨B, cb, rfl⟩ := own_shape hown
    have hle := encK_le xs k
    by_cases hlt : k < m
    · obtain ⟨ad, x, rfl, had, hxk, hcx⟩ := reads_int (hr.only hst.out (Nat.le_refl _) (fun _ _ h => h)) hlt
      obtain ⟨hx0, hx1⟩ := Hx.out x (List.mem_of_getElem? hxk)
      obtain ⟨X, rfl⟩ : ∃ X : Nat, x = (X : Int) := ⟨x.toNat, by omega⟩
      have hget : (xs.getD k 0).toNat = X := by rw [List.getD_eq_getElem?_getD, hxk]; simp
      have hsrc := Reads.of_own hown
      have h3 : k % 3 = 0 ∨ k % 3 = 1 ∨ k % 3 = 2 := by omega
      rcases h3 with h3 | h3 | h3
      · have hsz : szOf k = 1 := by simp [szOf, h3]
        obtain ⟨Y, hY⟩ : ∃ Y : Nat, Y = X % 256 := ⟨_, rfl⟩
        have hp : piece xs k = beB 1 Y := by unfold piece; rw [hsz, hget, hY]
        have hnext : encK xs (k + 1) = encK xs k ++ beB 1 Y := by rw [encK, hp]
        have hnl : (encK xs (k + 1)).length = (encK xs k).length + 1 := by rw [hnext, List.length_append, beB_length]
        have hYm : Y < 256 := by omega
        have e3 : (k : Int) % 3 = 0 := by omega
        have e4 : ((X : Int)) % 256 = (Y : Int) := by omega
        have Hnext := Lib.hid hnext
        have Hnl := Lib.hid hnl
        clear hxk hget hsz hp hnext hnl h3 hY
        go_wp2_with fail
        refine (Put1_any B _ cb _ _ hsrc (by omega) Y hYm).mono ?_
        rintro e w2 ⟨b, rfl, hb, hown2, hst2⟩
        go_wp2_with fail
        go_roundw
        case rel =>
          refine ⟨k + 1, by omega, by go_num, ?_, Lib.hid (hst.out.still hst2)⟩
          rw [Hnl.out, Hnext.out]
          exact own_base hown2 hst.out.size
        case measure => simp [intOf]; omega
      · have hsz : szOf k = 2 := by simp [szOf, h3]
        obtain ⟨Y, hY⟩ : ∃ Y : Nat, Y = X % 65536 := ⟨_, rfl⟩
        have hp : piece xs k = beB 2 Y := by unfold piece; rw [hsz, hget, hY]
        have hnext : encK xs (k + 1) = encK xs k ++ beB 2 Y := by rw [encK, hp]
        have hnl : (encK xs (k + 1)).length = (encK xs k).length + 2 := by rw [hnext, List.length_append, beB_length]
        have hYm : Y < 65536 := by omega
        have e3 : (k : Int) % 3 = 1 := by omega
        have e4 : IntKind.u16.wrap (X : Int) = (Y : Int) := by rw [IntKind.wrap_u16]; omega
        have Hnext := Lib.hid hnext
        have Hnl := Lib.hid hnl
        clear hxk hget hsz hp hnext hnl h3 hY
        go_wp2_with fail
        refine (Put2_any B _ cb _ _ hsrc (by omega) Y hYm).mono ?_
        rintro e w2 ⟨b, rfl, hb, hown2, hst2⟩
        go_wp2_with fail
        go_roundw
        case rel =>
          refine ⟨k + 1, by omega, by go_num, ?_, Lib.hid (hst.out.still hst2)⟩
          rw [Hnl.out, Hnext.out]
          exact own_base hown2 hst.out.size
        case measure => simp [intOf]; omega
      · have hsz : szOf k = 4 := by simp [szOf, h3]
        obtain ⟨Y, hY⟩ : ∃ Y : Nat, Y = X % 4294967296 := ⟨_, rfl⟩
        have hp : piece xs k = beB 4 Y := by unfold piece; rw [hsz, hget, hY]
        have hnext : encK xs (k + 1) = encK xs k ++ beB 4 Y := by rw [encK, hp]
        have hnl : (encK xs (k + 1)).length = (encK xs k).length + 4 := by rw [hnext, List.length_append, beB_length]
        have hYm : Y < 4294967296 := by omega
        have e3 : (k : Int) % 3 = 2 := by omega
        obtain rfl : X = Y := by rw [hY]; exact (Nat.mod_eq_of_lt (by omega)).symm
        have Hnext := Lib.hid hnext
        have Hnl := Lib.hid hnl
        clear hxk hget hsz hp hnext hnl h3 hY
        go_wp2_with fail
        refine (Put4_any B _ cb _ _ hsrc (by omega) X hYm).mono ?_
        rintro e w2 ⟨b, rfl, hb, hown2, hst2⟩
        go_wp2_with fail
        go_roundw
        case rel =>
          refine ⟨k + 1, by omega, by go_num, ?_, Lib.hid (hst.out.still hst2)⟩
          rw [Hnl.out, Hnext.out]
          exact own_base hown2 hst.out.size
        case measure => simp [intOf]; omega
    · obtain rfl : m = k := by omega
      have hs : ∃ s, s = str (encK xs m) := ⟨_, rfl⟩
      obtain ⟨s, hs⟩ := hs
      have hsz : s.size = (encK xs m).length := by rw [hs, str_size]
      have hmax : s.size ≤ maxLen := by unfold maxLen; omega
      have heT : ErrT wr := hErr.out.still hst.out
      have Hs := Lib.hid hs
      have Hsz := Lib.hid hsz
      clear hs hsz
      have hcv : (convert 34 9 (.slice B (encK xs m).length cb)).run Tryd.prog wr = .ok (.string s) wr := by
        rw [Hs.out]
        exact conv_any hown
      go_wp2_with fail
      refine (cur_new s _).mono ?_
      rintro e w1 ⟨g, rfl, hg, h1, hst1⟩
      have he1 := heT.still hst1
      have hs1 := hst.out.still hst1
      have hgw : w.heap.size ≤ g := by have := hst.out.size; omega
      clear hcv hown heT hst hst1 hg
      go_wp2_with fail
      go_loopw [6] (fun i wr => ∃ k : Nat, k ≤ m ∧ i = .int .i64 k ∧ Cur wr g s (encK xs k).length ∧ ErrT wr ∧ Hid (Still w wr)) (fun i _ => m - (intOf i).toNat)
      case atStart => exact ⟨0, by omega, rfl, h1, he1, Lib.hid hs1⟩
      case round =>
        clear h1 he1 hs1
        obtain ⟨k, hk, rfl, hc, heT, hst⟩ := hrel
        by_cases hlt : k < m
        · obtain ⟨ad, x, rfl, had, hxk, hcx⟩ := reads_int (hr.only hst.out (Nat.le_refl _) (fun _ _ h => h)) hlt
          obtain ⟨hx0, hx1⟩ := Hx.out x (List.mem_of_getElem? hxk)
          obtain ⟨X, rfl⟩ : ∃ X : Nat, x = (X : Int) := ⟨x.toNat, by omega⟩
          have hget : (xs.getD k 0).toNat = X := by rw [List.getD_eq_getElem?_getD, hxk]; simp
          have hnum := num_piece xs k m hlt
          rw [← Hs.out, hget] at hnum
          have hnl : (encK xs (k + 1)).length = (encK xs k).length + szOf k := by rw [encK, List.length_append, piece, beB_length]
          have hadg : ad.block ≠ g := by omega
          have h3 : k % 3 = 0 ∨ k % 3 = 1 ∨ k % 3 = 2 := by omega
          rcases h3 with h3 | h3 | h3
          · have hsz : szOf k = 1 := by simp [szOf, h3]
            rw [hsz] at hnum hnl
            obtain ⟨Y, hY⟩ : ∃ Y : Nat, Y = X % 256 := ⟨_, rfl⟩
            rw [show 256 ^ 1 = 256 by decide, ← hY] at hnum
            obtain ⟨hn1, hn2⟩ := hnum
            have e3 : (k : Int) % 3 = 0 := by omega
            have e4 : ((X : Int)) % 256 = (Y : Int) := by omega
            have Hnl := Lib.hid hnl
            have Hn1 := Lib.hid hn1
            clear hxk hget hsz hnl h3 hY hn1
            go_wp2_with fail
            refine (Byte_in hc (by omega) hmax hn2).mono ?_
            rintro e w2 ⟨hee, hc2, ho2⟩
            rw [Hn1.out] at hee
            subst hee
            rw [← Hnl.out] at hc2
            have heT2 := heT.by_cur hc ho2
            have hst2 : Still w w2 := hst.out.trans ho2 (fun i hi e => by omega)
            have hcx2 := ho2.cell_some (p := ad.add k) (by rw [block_of_add]; exact hadg) hcx
            clear hc heT hst ho2 hcx
            go_wp2_with fail
            go_roundw
            case rel => exact ⟨k + 1, by omega, by go_num, hc2, heT2, Lib.hid hst2⟩
            case measure => simp [intOf]; omega
          · have hsz : szOf k = 2 := by simp [szOf, h3]
            rw [hsz] at hnum hnl
            obtain ⟨Y, hY⟩ : ∃ Y : Nat, Y = X % 65536 := ⟨_, rfl⟩
            rw [show 256 ^ 2 = 65536 by decide, ← hY] at hnum
            obtain ⟨hn1, hn2⟩ := hnum
            have e3 : (k : Int) % 3 = 1 := by omega
            have e4 : IntKind.u16.wrap (X : Int) = (Y : Int) := by rw [IntKind.wrap_u16]; omega
            have Hnl := Lib.hid hnl
            have Hn1 := Lib.hid hn1
            clear hxk hget hsz hnl h3 hY hn1
            go_wp2_with fail
            refine (Two_in hc (by omega) hmax hn2).mono ?_
            rintro e w2 ⟨hee, hc2, ho2⟩
            rw [Hn1.out] at hee
            subst hee
            rw [← Hnl.out] at hc2
            have heT2 := heT.by_cur hc ho2
            have hst2 : Still w w2 := hst.out.trans ho2 (fun i hi e => by omega)
            have hcx2 := ho2.cell_some (p := ad.add k) (by rw [block_of_add]; exact hadg) hcx
            clear hc heT hst ho2 hcx
            go_wp2_with fail
            go_roundw
            case rel => exact ⟨k + 1, by omega, by go_num, hc2, heT2, Lib.hid hst2⟩
            case measure => simp [intOf]; omega
          · have hsz : szOf k = 4 := by simp [szOf, h3]
            rw [hsz] at hnum hnl
            obtain ⟨Y, hY⟩ : ∃ Y : Nat, Y = X % 4294967296 := ⟨_, rfl⟩
            rw [show 256 ^ 4 = 4294967296 by decide, ← hY] at hnum
            obtain ⟨hn1, hn2⟩ := hnum
            have e3 : (k : Int) % 3 = 2 := by omega
            obtain rfl : X = Y := by rw [hY]; exact (Nat.mod_eq_of_lt (by omega)).symm
            have Hnl := Lib.hid hnl
            have Hn1 := Lib.hid hn1
            clear hxk hget hsz hnl h3 hY hn1
            go_wp2_with fail
            refine (Four_in hc (by omega) hmax hn2).mono ?_
            rintro e w2 ⟨hee, hc2, ho2⟩
            rw [Hn1.out] at hee
            subst hee
            rw [← Hnl.out] at hc2
            have heT2 := heT.by_cur hc ho2
            have hst2 : Still w w2 := hst.out.trans ho2 (fun i hi e => by omega)
            have hcx2 := ho2.cell_some (p := ad.add k) (by rw [block_of_add]; exact hadg) hcx
            clear hc heT hst ho2 hcx
            go_wp2_with fail
            go_roundw
            case rel => exact ⟨k + 1, by omega, by go_num, hc2, heT2, Lib.hid hst2⟩
            case measure => simp [intOf]; omega
        · obtain rfl : m = k := by omega
          have hzero : (s.size : Int) - (encK xs m).length = 0 := by rw [Hsz.out]; omega
          go_wp2_with fail
          refine (Left_any hc (by rw [Hsz.out]; exact Nat.le_refl _) hmax).mono ?_
          rintro e w2 ⟨hee, q, rfl⟩
          rw [hzero] at hee
          subst hee
          have hc2 := hc.still ((Only.refl (fun _ => False) wr).drewN q)
          have hst2 := hst.out.drewN q
          generalize wr.drewN q = w2 at *
          clear hzero
          go_wp2_with fail
          refine (At_any hc2).mono ?_
          rintro e w3 ⟨rfl, rfl⟩
          go_wp2_with fail
          go_ret
          exact ⟨rfl, hst2⟩

theorem back_long (w : World) (he : ErrT w) (A : Option Addr) (m cc : Nat) (h : 2000 < m) :
    Calls Tryd.prog 6 #[.slice A m cc] w fun e w' => e = .returned (.bool true) ∧ Still w w' := by
  have h20 : (2000 : Int) < (m : Int) := by omega
  go_enter Tryd.func6, Tryd.ntmps6
  go_wp2_with fail
  refine (cur_awake _ he).mono ?_
  rintro e w0 ⟨rfl, ho0⟩
  go_wp2
  go_ret
  exact ⟨rfl, ho0⟩

theorem back_all (w : World) (A : Option Addr) (m cc : Nat) (xs : List Int) (hmc : m ≤ cc) (hc : cc ≤ maxLen) (hA : A = none → m = 0 ∧ cc = 0) (hr : Reads w w.heap.size 1 A m (xs.map (.int .u32))) (hx : ∀ x ∈ xs, (Lit.int .u32 x).wf = true) (he : ErrT w) :
    Calls Tryd.prog 6 #[.slice A m cc] w fun e w' => e = .returned (.bool true) ∧ Still w w' := by
  by_cases h : 2000 < m
  · exact back_long w he A m cc h
  · exact back_walk w he A m cc xs (by omega) hr (fun x h => wf_u32 (hx x h))
end Go.Proofs.YtccdccclklidaaaDoor
