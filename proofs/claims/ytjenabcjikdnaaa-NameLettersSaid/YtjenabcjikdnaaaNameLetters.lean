/-
  NameLetters.
-/
import Derived.Test.YtjenabcjikdnaaaNameLaw
import Derived.Test.YtjenabcjikdnaaaOpen
namespace Go.Proofs.Ytjenabcjikdnaaa
open Go.RowKit
set_option linter.unusedVariables false
set_option linter.unusedSimpArgs false

/-- A letter, of the other case. -/
def flip (c : UInt8) : UInt8 := if 97 ≤ c.toNat then UInt8.ofNat (c.toNat - 32) else UInt8.ofNat (c.toNat + 32)
def isL (n : Nat) : Prop := (97 ≤ n ∧ n ≤ 122) ∨ (65 ≤ n ∧ n ≤ 90)
theorem flip_nat {c : UInt8} (h : isL c.toNat) : (flip c).toNat = if 97 ≤ c.toNat then c.toNat - 32 else c.toNat + 32 := by
  unfold flip
  unfold isL at h
  by_cases h1 : 97 ≤ c.toNat
  · rw [if_pos h1, if_pos h1]; simp [UInt8.toNat_ofNat']; omega
  · rw [if_neg h1, if_neg h1]; simp [UInt8.toNat_ofNat']; omega
theorem low_nat (c : UInt8) : (low c).toNat = if 65 ≤ c.toNat ∧ c.toNat ≤ 90 then c.toNat + 32 else c.toNat := by
  unfold low
  by_cases h : 65 ≤ c.toNat ∧ c.toNat ≤ 90
  · rw [if_pos h, if_pos h]; simp [UInt8.toNat_ofNat']; omega
  · rw [if_neg h, if_neg h]
theorem low_flip {c : UInt8} (h : isL c.toNat) : low (flip c) = low c := by
  apply UInt8.toNat_inj.1
  rw [low_nat, low_nat, flip_nat h]
  unfold isL at h
  (repeat' split) <;> omega
theorem flip_int {c : UInt8} (h : isL c.toNat) : bits BinOp.xor IntKind.u8 (c.toNat : Int) 32 = ((flip c).toNat : Int) := by
  have key : (List.range 256).all (fun n => decide (bits BinOp.xor IntKind.u8 ((n : Nat) : Int) 32 = (((n ^^^ 32 : Nat)) : Int)) && (decide (n < 65 ∨ (90 < n ∧ n < 97) ∨ 122 < n) || decide (n ^^^ 32 = if 97 ≤ n then n - 32 else n + 32))) = true := by kernel_rfl
  rw [List.all_eq_true] at key
  have := key c.toNat (List.mem_range.2 (UInt8.toNat_lt _))
  rw [Bool.and_eq_true, Bool.or_eq_true, decide_eq_true_eq, decide_eq_true_eq, decide_eq_true_eq] at this
  rw [this.1, flip_nat h]
  rcases this.2 with h' | h'
  · unfold isL at h; omega
  · rw [h']
theorem cells_set {l : List UInt8} {w : World} {g k : Nat} (hk : k < l.length) (c : UInt8) (x : Int) (hx : x = (c.toNat : Int)) (h : ∀ j (hj : j < l.length), w.cell? ⟨g, j, none⟩ = some (.int .u8 (l[j].toNat : Int)) ∧ w.frozen? ⟨g, j, none⟩ = false) :
    ∀ j (hj : j < (l.set k c).length), (w.setCell ⟨g, k, none⟩ (.int .u8 x)).cell? ⟨g, j, none⟩ = some (.int .u8 ((l.set k c)[j].toNat : Int)) ∧ (w.setCell ⟨g, k, none⟩ (.int .u8 x)).frozen? ⟨g, j, none⟩ = false := by
  intro j hj
  have hj' : j < l.length := by rw [List.length_set] at hj; exact hj
  refine ⟨?_, by rw [World.frozen?_setCell]; exact (h j hj').2⟩
  rw [List.getElem_set]
  by_cases h2 : k = j
  · subst h2
    rw [World.cell?_setCell_same _ _ _ (h k hj').1, if_pos rfl, hx]
  · rw [World.cell?_setCell_other _ _ _ _ (fun e => h2 (by injection e with _ e _)), (h j hj').1, if_neg h2]
theorem turn_set {l : List UInt8} {k : Nat} (h : k < l.length) (hl : isL l[k].toNat) : (l.set k (flip l[k])).map low = l.map low := by
  rw [List.map_set, low_flip hl]
  apply List.ext_getElem
  · simp
  · intro i h1 h2
    rw [List.getElem_set]
    by_cases e : k = i
    · subst e; simp
    · simp [e]

set_option maxRecDepth 1000000 in
set_option maxHeartbeats 3200000 in
theorem turned_any (s : ByteArray) (hs : s.size ≤ 3000) (A : Option Addr) (n c : Nat) (zs : List Int) (hn : n ≤ 1000) (w : World) (hr : Reads w w.heap.size 1 A n (zs.map (Value.int .u8))) (hz : ∀ z ∈ zs, (Lit.int .u8 z).wf = true) :
    Calls Try.prog 35 #[.string s, .slice A n c] w fun e w' => ∃ t : ByteArray, e = .returned (.string t) ∧ Hid (t.data.toList.map low = s.data.toList.map low) ∧ Still w w' := by
  have hL : s.data.toList.length = s.size := by rw [Array.length_toList]; rfl
  obtain ⟨cb, w2, hcv, hc, hst, hzw, hcell⟩ := to_bytes w s
  have hzl : zs.length = n := by have := hr.1; simpa using this
  go_enter Try.func35, Try.ntmps35
  go_wp2_with fail
  clear hcv
  go_loopw [6] (fun i wr => ∃ (k : Nat) (l : List UInt8), k ≤ n ∧ i = .int .i64 k ∧ l.length = s.size ∧ Hid (l.map low = s.data.toList.map low) ∧ Still w wr ∧ w.heap.size < wr.heap.size ∧ Hid (∀ j (hj : j < l.length), wr.cell? ⟨w.heap.size, j, none⟩ = some (.int .u8 (l[j].toNat : Int)) ∧ wr.frozen? ⟨w.heap.size, j, none⟩ = false)) (fun i _ => n - (intOf i).toNat)
  case atStart => exact ⟨0, s.data.toList, by omega, rfl, hL, Lib.hid rfl, hst, by omega, Lib.hid (fun j hj => by
      have := hcell j (by rw [← hL]; exact hj)
      rw [Array.getElem_toList]; exact this)⟩
  case round =>
    clear hcell hst hzw
    obtain ⟨k, l, hk, rfl, hl, hlow, hst, hwz, hcl⟩ := hrel
    by_cases hlt : k < n
    · have i1 : (k : Int) < (n : Int) := by omega
      by_cases h0 : s.size = 0
      · have i2 : ¬ (0 : Int) < (s.size : Int) := by omega
        have i2' : ¬ 0 < s.size := by omega
        have hb := of_bytes wr w.heap.size cb l (fun j hj => (hcl.out j hj).1)
        rw [hl] at hb
        have hb0 := hb
        rw [h0] at hb0
        go_wp2_with fail
        go_ret
        exact ⟨_, rfl, hlow, hst⟩
      · have i2 : (0 : Int) < (s.size : Int) := by omega
        obtain ⟨ad, u, hA, hab, hu, hce⟩ := hr.at_ (k := k) hlt
        subst hA
        have hkz : k < zs.length := by omega
        obtain rfl : u = .int .u8 zs[k] := by
          rw [List.getElem?_map, List.getElem?_eq_getElem hkz] at hu
          exact (Option.some.inj hu).symm
        have hce := hst.cell_some (p := ad.add k) (fun h => h) hce
        have hw8 := wf_u8 (hz _ (List.getElem_mem hkz))
        obtain ⟨z, hzz⟩ : ∃ z : Nat, zs[k] = (z : Int) := ⟨zs[k].toNat, by omega⟩
        rw [hzz] at hce hw8
        obtain ⟨j, hj⟩ : ∃ j, j = z % s.size := ⟨_, rfl⟩
        have hjl : j < s.size := by rw [hj]; exact Nat.mod_lt _ (by omega)
        have i3 : ((z : Int)).tmod (s.size : Int) = (j : Int) := by rw [hj]; exact (Int.ofNat_tmod z s.size).symm
        obtain ⟨c1, f1⟩ := hcl.out j (by omega)
        have hjl' : j < l.length := by omega
        have hset := fun h => turn_set (l := l) hjl' h
        obtain ⟨x, hx⟩ : ∃ x, x = l[j]'hjl' := ⟨_, rfl⟩
        rw [← hx] at c1 hset
        have hx8 : x.toNat < 256 := UInt8.toNat_lt _
        have i4 : (j : Int) < (s.size : Int) := by omega
        have i5 : ¬ (s.size : Int) = 0 := by omega
        have HSet := Lib.hid hset
        clear hj hx hset
        have i6 : IntKind.i64.wrap ((k : Int) + 1) = ((k + 1 : Nat) : Int) := by rw [IntWalk.i64_in _ (by omega)]; push_cast; rfl
        have i7 : IntKind.i64.wrap (j : Int) = (j : Int) := IntWalk.i64_in _ (by omega)
        go_wp2_with fail
        all_goals first
          | exact ⟨⟨k + 1, l, by omega, by push_cast; rfl, hl, hlow, hst, hwz, hcl⟩, by simp [intOf]; omega⟩
          | (have hLx : isL x.toNat := by unfold isL; omega
             refine ⟨⟨k + 1, l.set j (flip x), by omega, by push_cast; rfl, by rw [List.length_set]; exact hl, Lib.hid ((HSet.out hLx).trans hlow.out), hst.setCell (.inr (Nat.le_refl _)) _, by simpa [World.setCell] using hwz, Lib.hid (cells_set hjl' _ _ (flip_int hLx) hcl.out)⟩, by simp [intOf]; omega⟩)
    · have i1 : ¬ (k : Int) < (n : Int) := by omega
      have hb := of_bytes wr w.heap.size cb l (fun j hj => (hcl.out j hj).1)
      rw [hl] at hb
      go_wp2_with fail
      go_ret
      exact ⟨_, rfl, hlow, hst⟩
/-- Bytes that are alike a name, folded, are one; it is the same. -/
theorem turned_is {a t : ByteArray} (ha : mayN a.data.toList = true) (h : t.data.toList.map low = a.data.toList.map low) : ∃ L M, okL L ∧ okL M ∧ fold M = fold L ∧ a = mk (enc L) ∧ t = mk (enc M) := by
  obtain ⟨L, hL, rfl⟩ := may_mk ha
  rw [mk_list] at h
  obtain ⟨M, e1, e2, e3⟩ := turned_name hL.1 h
  refine ⟨L, M, hL, ⟨e3, ?_⟩, e2, rfl, by rw [← e1]; rfl⟩
  have h1 := sz_fold M
  rw [e2, sz_fold] at h1
  have := hL.2
  omega

set_option maxRecDepth 1000000 in
set_option maxHeartbeats 6400000 in
theorem letters_walk (w : World) (a : ByteArray) (ha : a.size ≤ maxLen) (b : ByteArray) (hb : b.size ≤ maxLen) (A : Option Addr) (n c : Nat) (zs : List Int) (hnc : n ≤ c) (hc : c ≤ maxLen) (hA : A = none → n = 0 ∧ c = 0) (hr : Reads w w.heap.size 1 A n (zs.map (Value.int .u8))) (hz : ∀ z ∈ zs, (Lit.int .u8 z).wf = true) :
    Calls Try.prog 10 #[.string a, .string b, .slice A n c] w fun e w' => e = .returned (.bool true) ∧ Still w w' := by
  clear ha hb hnc hc hA
  have hS : Still w w := Only.refl _ _
  go_enter Try.func10, Try.ntmps10
  by_cases za : 1000 < a.size
  · have ia : (1000 : Int) < (a.size : Int) := by omega
    go_wp2_with (first | (go_at_call 12; refine (name_awake _).mono ?_; rintro e w' ⟨rfl, hst⟩; have hS := hS.still hst; clear hst) | (go_at_call 13; refine (may_s _ (by assumption) _).mono ?_; rintro e w' ⟨rfl, hst⟩; have hS := hS.still hst; clear hst) | (go_at_call 21; refine (same_s _ _ (by assumption) (by assumption) _).mono ?_; rintro e w' ⟨rfl, hst⟩; have hS := hS.still hst; clear hst) | (go_at_call 22; refine (compare_s _ _ (by assumption) (by assumption) _).mono ?_; rintro e w' ⟨rfl, hst⟩; have hS := hS.still hst; clear hst) | (go_at_call 30; refine (within_s _ _ (by assumption) (by assumption) _).mono ?_; rintro e w' ⟨rfl, hst⟩; have hS := hS.still hst; clear hst) | (go_at_call 23; refine (fold_s _ (by assumption) _).mono ?_; rintro e w' ⟨rfl, hst⟩; have hS := hS.still hst; clear hst))
    go_ret
    exact ⟨rfl, hS⟩
  have ia : ¬ (1000 : Int) < (a.size : Int) := by omega
  have sa : a.size ≤ 3000 := by omega
  clear za
  by_cases zb : 1000 < b.size
  · have ib : (1000 : Int) < (b.size : Int) := by omega
    go_wp2_with (first | (go_at_call 12; refine (name_awake _).mono ?_; rintro e w' ⟨rfl, hst⟩; have hS := hS.still hst; clear hst) | (go_at_call 13; refine (may_s _ (by assumption) _).mono ?_; rintro e w' ⟨rfl, hst⟩; have hS := hS.still hst; clear hst) | (go_at_call 21; refine (same_s _ _ (by assumption) (by assumption) _).mono ?_; rintro e w' ⟨rfl, hst⟩; have hS := hS.still hst; clear hst) | (go_at_call 22; refine (compare_s _ _ (by assumption) (by assumption) _).mono ?_; rintro e w' ⟨rfl, hst⟩; have hS := hS.still hst; clear hst) | (go_at_call 30; refine (within_s _ _ (by assumption) (by assumption) _).mono ?_; rintro e w' ⟨rfl, hst⟩; have hS := hS.still hst; clear hst) | (go_at_call 23; refine (fold_s _ (by assumption) _).mono ?_; rintro e w' ⟨rfl, hst⟩; have hS := hS.still hst; clear hst))
    go_ret
    exact ⟨rfl, hS⟩
  have ib : ¬ (1000 : Int) < (b.size : Int) := by omega
  have sb : b.size ≤ 3000 := by omega
  clear zb
  by_cases zn : 300 < n
  · have i_n : (300 : Int) < (n : Int) := by omega
    go_wp2_with (first | (go_at_call 12; refine (name_awake _).mono ?_; rintro e w' ⟨rfl, hst⟩; have hS := hS.still hst; clear hst) | (go_at_call 13; refine (may_s _ (by assumption) _).mono ?_; rintro e w' ⟨rfl, hst⟩; have hS := hS.still hst; clear hst) | (go_at_call 21; refine (same_s _ _ (by assumption) (by assumption) _).mono ?_; rintro e w' ⟨rfl, hst⟩; have hS := hS.still hst; clear hst) | (go_at_call 22; refine (compare_s _ _ (by assumption) (by assumption) _).mono ?_; rintro e w' ⟨rfl, hst⟩; have hS := hS.still hst; clear hst) | (go_at_call 30; refine (within_s _ _ (by assumption) (by assumption) _).mono ?_; rintro e w' ⟨rfl, hst⟩; have hS := hS.still hst; clear hst) | (go_at_call 23; refine (fold_s _ (by assumption) _).mono ?_; rintro e w' ⟨rfl, hst⟩; have hS := hS.still hst; clear hst))
    go_ret
    exact ⟨rfl, hS⟩
  have i_n : ¬ (300 : Int) < (n : Int) := by omega
  have HZ := Lib.hid hz
  have HR := Lib.hid hr
  clear hz hr
  rcases ma : mayN a.data.toList with _ | _
  · go_wp2_with (first | (go_at_call 12; refine (name_awake _).mono ?_; rintro e w' ⟨rfl, hst⟩; have hS := hS.still hst; clear hst) | (go_at_call 13; refine (may_s _ (by assumption) _).mono ?_; rintro e w' ⟨rfl, hst⟩; have hS := hS.still hst; clear hst) | (go_at_call 21; refine (same_s _ _ (by assumption) (by assumption) _).mono ?_; rintro e w' ⟨rfl, hst⟩; have hS := hS.still hst; clear hst) | (go_at_call 22; refine (compare_s _ _ (by assumption) (by assumption) _).mono ?_; rintro e w' ⟨rfl, hst⟩; have hS := hS.still hst; clear hst) | (go_at_call 30; refine (within_s _ _ (by assumption) (by assumption) _).mono ?_; rintro e w' ⟨rfl, hst⟩; have hS := hS.still hst; clear hst) | (go_at_call 23; refine (fold_s _ (by assumption) _).mono ?_; rintro e w' ⟨rfl, hst⟩; have hS := hS.still hst; clear hst))
    go_ret
    exact ⟨rfl, hS⟩
  rcases mb : mayN b.data.toList with _ | _
  · go_wp2_with (first | (go_at_call 12; refine (name_awake _).mono ?_; rintro e w' ⟨rfl, hst⟩; have hS := hS.still hst; clear hst) | (go_at_call 13; refine (may_s _ (by assumption) _).mono ?_; rintro e w' ⟨rfl, hst⟩; have hS := hS.still hst; clear hst) | (go_at_call 21; refine (same_s _ _ (by assumption) (by assumption) _).mono ?_; rintro e w' ⟨rfl, hst⟩; have hS := hS.still hst; clear hst) | (go_at_call 22; refine (compare_s _ _ (by assumption) (by assumption) _).mono ?_; rintro e w' ⟨rfl, hst⟩; have hS := hS.still hst; clear hst) | (go_at_call 30; refine (within_s _ _ (by assumption) (by assumption) _).mono ?_; rintro e w' ⟨rfl, hst⟩; have hS := hS.still hst; clear hst) | (go_at_call 23; refine (fold_s _ (by assumption) _).mono ?_; rintro e w' ⟨rfl, hst⟩; have hS := hS.still hst; clear hst))
    go_ret
    exact ⟨rfl, hS⟩
  go_wp2_with (first | (go_at_call 12; refine (name_awake _).mono ?_; rintro e w' ⟨rfl, hst⟩; have hS := hS.still hst; clear hst) | (go_at_call 13; refine (may_s _ (by assumption) _).mono ?_; rintro e w' ⟨rfl, hst⟩; have hS := hS.still hst; clear hst) | (go_at_call 21; refine (same_s _ _ (by assumption) (by assumption) _).mono ?_; rintro e w' ⟨rfl, hst⟩; have hS := hS.still hst; clear hst) | (go_at_call 22; refine (compare_s _ _ (by assumption) (by assumption) _).mono ?_; rintro e w' ⟨rfl, hst⟩; have hS := hS.still hst; clear hst) | (go_at_call 30; refine (within_s _ _ (by assumption) (by assumption) _).mono ?_; rintro e w' ⟨rfl, hst⟩; have hS := hS.still hst; clear hst) | (go_at_call 23; refine (fold_s _ (by assumption) _).mono ?_; rintro e w' ⟨rfl, hst⟩; have hS := hS.still hst; clear hst))
  refine (turned_any a sa A n c zs (by omega) _ ((HR.out.at_still hS)) HZ.out).mono ?_
  rintro e wt ⟨t, rfl, ht, hst⟩
  have hS := hS.still hst
  obtain ⟨L, M, hL, hM, hf, rfl, rfl⟩ := turned_is ma ht.out
  obtain ⟨N, hN, rfl⟩ := may_mk mb
  have mt := may_b hM
  have f1 : sameS (mk (enc L)) (mk (enc M)) = true := by rw [sameS_enc hL hM, hf]; exact decide_eq_true rfl
  have f2 : foldS (mk (enc M)) = foldS (mk (enc L)) := by rw [foldS_enc hM, foldS_enc hL, hf]
  have f3 : foldS (foldS (mk (enc L))) = foldS (mk (enc L)) := by rw [foldS_enc hL, foldS_enc hL.fold, fold_fold]
  have f4 : cmpS (mk (enc M)) (mk (enc N)) = cmpS (mk (enc L)) (mk (enc N)) := by rw [cmpS_enc hM hN, cmpS_enc hL hN]; unfold cmpN; rw [hf]
  have f5 : inS (mk (enc M)) (mk (enc N)) = inS (mk (enc L)) (mk (enc N)) := by rw [inS_enc hM hN, inS_enc hL hN]; unfold inN; rw [hf]
  have f6 : inS (mk (enc N)) (mk (enc M)) = inS (mk (enc N)) (mk (enc L)) := by rw [inS_enc hN hM, inS_enc hN hL]; unfold inN; rw [hf]
  have st : (mk (enc M)).size ≤ 3000 := by rw [mk_size, enc_len]; have := hM.2; omega
  have sf := foldS_size _ sa
  clear ht hst hf hL hM hN HR HZ
  generalize mk (enc L) = a at *
  generalize mk (enc M) = t at *
  generalize mk (enc N) = b at *
  go_wp2_with (first | (go_at_call 12; refine (name_awake _).mono ?_; rintro e w' ⟨rfl, hst⟩; have hS := hS.still hst; clear hst) | (go_at_call 13; refine (may_s _ (by assumption) _).mono ?_; rintro e w' ⟨rfl, hst⟩; have hS := hS.still hst; clear hst) | (go_at_call 21; refine (same_s _ _ (by assumption) (by assumption) _).mono ?_; rintro e w' ⟨rfl, hst⟩; have hS := hS.still hst; clear hst) | (go_at_call 22; refine (compare_s _ _ (by assumption) (by assumption) _).mono ?_; rintro e w' ⟨rfl, hst⟩; have hS := hS.still hst; clear hst) | (go_at_call 30; refine (within_s _ _ (by assumption) (by assumption) _).mono ?_; rintro e w' ⟨rfl, hst⟩; have hS := hS.still hst; clear hst) | (go_at_call 23; refine (fold_s _ (by assumption) _).mono ?_; rintro e w' ⟨rfl, hst⟩; have hS := hS.still hst; clear hst))
  go_ret
  exact ⟨rfl, hS⟩
end Go.Proofs.Ytjenabcjikdnaaa
