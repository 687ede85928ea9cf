/-
  NameReads.
-/
import Derived.Test.YtjenabcjikdnaaaNameRef8
namespace Go.Proofs.Ytjenabcjikdnaaa
open Go.RowKit
set_option linter.unusedVariables false
set_option linter.unusedSimpArgs false

theorem sv_of (zs : List ByteArray) : zs.map Value.string = sv (zs.map (·.data.toList)) := by
  unfold sv
  rw [List.map_map]
  rfl
set_option maxRecDepth 1000000 in
set_option maxHeartbeats 6400000 in
theorem reads_walk (w : World) (s : ByteArray) (hs : s.size ≤ maxLen) (A : Option Addr) (n c : Nat) (L : List Lab) (hr : Reads w w.heap.size 1 A n (sv L)) :
    Calls Try.prog 6 #[.string s, .slice A n c] w fun e w' => e = .returned (.bool true) ∧ Still w w' := by
  clear hs
  obtain ⟨i0, hi, hz0, hz1, hz2⟩ := info_parts info_str
  have hln := read_len hr
  have hS : Still w w := Only.refl _ _
  go_enter Try.func6, Try.ntmps6
  by_cases zn : 3000 < s.size
  · have i_n : (3000 : Int) < (s.size : Int) := by omega
    go_wp2_with (go_at_call 12; refine (name_awake _).mono ?_; rintro e w' ⟨rfl, hst⟩; have hS := hS.still hst; clear hst)
    go_ret
    exact ⟨rfl, hS⟩
  have i_n : ¬ (3000 : Int) < (s.size : Int) := by omega
  have ss : s.size ≤ 3000 := by omega
  clear zn
  by_cases zm : 300 < n
  · have i_m : (300 : Int) < (n : Int) := by omega
    go_wp2_with (go_at_call 12; refine (name_awake _).mono ?_; rintro e w' ⟨rfl, hst⟩; have hS := hS.still hst; clear hst)
    go_ret
    exact ⟨rfl, hS⟩
  have i_m : ¬ (300 : Int) < (n : Int) := by omega
  have hn300 : n ≤ 300 := by omega
  clear zm
  have hpar := parse_any s (by omega)
  have hrpa := rparse_any s ss
  obtain ⟨PB, hPB⟩ : ∃ x, x = mk (parseB s.data.toList) := ⟨_, rfl⟩
  obtain ⟨PE, hPE⟩ : ∃ x, x = parseE s.data.toList := ⟨_, rfl⟩
  rw [← hPB, ← hPE] at hpar hrpa
  have HPAR := Lib.hid hpar
  have HRPA := Lib.hid hrpa
  clear hpar hrpa hPB hPE
  go_wp2_with fail
  go_loopw [5] (fun i wr => ∃ k : Nat, k ≤ n ∧ i = .int .i64 k ∧ wr = w) (fun i _ => n - (intOf i).toNat)
  case atStart => exact ⟨0, by omega, rfl, rfl⟩
  case round =>
    obtain ⟨k, hk, rfl, rfl⟩ := hrel
    by_cases hlt : k < n
    · have i1 : (k : Int) < (n : Int) := by omega
      obtain ⟨ad, hA, hab, ca⟩ := read_at hr (k := k) (by omega) hlt
      subst hA
      obtain ⟨x, hx⟩ : ∃ x, x = L[k]'(by omega) := ⟨_, rfl⟩
      rw [← hx] at ca
      have hxs := mk_size x
      have y3 : IntKind.i64.wrap ((k : Int) + 1) = ((k + 1 : Nat) : Int) := by rw [IntWalk.i64_in _ (by omega)]; push_cast; rfl
      clear hx
      by_cases e3 : 300 < x.length
      · have j1 : (300 : Int) < (x.length : Int) := by omega
        go_wp2_with (go_at_call 12; refine (name_awake _).mono ?_; rintro e w' ⟨rfl, hst⟩; have hS := hS.still hst; clear hst)
        go_ret
        exact ⟨rfl, hS⟩
      · have j1 : ¬ (300 : Int) < (x.length : Int) := by omega
        go_wp2_with fail
        exact ⟨⟨k + 1, by omega, by push_cast; rfl, by first | rfl | trivial⟩, by simp [intOf]; omega⟩
    · have i1 : ¬ (k : Int) < (n : Int) := by omega
      have hown0 := World.ownsRow_lit (e := 9) (size := 1) (base := wr.heap.size) wr #[] 0 (Nat.le_refl _) (by unfold maxLen; omega) rfl
      have hs1 := Still.new wr (.cells #[] 9)
      have hr1 := hr.only hs1 (Nat.le_refl _) (fun _ _ h => h)
      have HR := Lib.hid hr
      clear hr
      go_wp2_with (at_builtin; refine wpList_append_any _ rfl (.tmp 37) (.tmp 38) 25 rfl wr.heap.size 9 i0 (.string ⟨#[]⟩) 1 16 Try.underlying25 hi hz0 hz1 hz2 rfl (by decide) _ _ _ rfl hown0 _ A n c (sv L) rfl hr1 (sv_one L) (by unfold maxLen; omega) (by omega) (by first | (simp; done) | (simp; omega) | omega) ?_)
      intro v' wg hown' hgrow hblk
      obtain ⟨A', c', hv⟩ := own_shape hown'
      subst hv
      have hsg := hs1.grown hgrow (fun k hk => .inr (hown0.lt k hk).1)
      have HRg := Lib.hid ((HR.out.only hsg (Nat.le_refl _) (fun _ _ h => h)).more hsg.size)
      have HO := Lib.hid hown'
      clear hgrow hblk hown0 hs1 hr1 hown' hS HR
      go_wp2_with fail
      refine (HPAR.out wg).mono ?_
      rintro e w2 ⟨rfl, h2⟩
      go_wp2_with fail
      refine (HRPA.out w2).mono ?_
      rintro e w3 ⟨rfl, h3⟩
      have h3 := h2.still h3
      have HO := Lib.hid (own_only HO.out h3 (fun _ _ h => h))
      have HRg := Lib.hid (HRg.out.at_still h3)
      have hsg := hsg.still h3
      clear h2 h3 HPAR HRPA
      go_wp2_with fail
      have hj := join_any A' n c' L hln (by omega) w3 (Reads.of_own HO.out)
      have hrj := fun w hr => rjoin_any A n c L hln (by omega) w hr
      obtain ⟨JB, hJB⟩ : ∃ x, x = mk (joinB L) := ⟨_, rfl⟩
      obtain ⟨JE, hJE⟩ : ∃ x, x = joinE L := ⟨_, rfl⟩
      rw [← hJB, ← hJE] at hj hrj
      have HJ := Lib.hid hj
      have HRJ := Lib.hid hrj
      clear hj hrj hJB hJE
      refine HJ.out.mono ?_
      rintro e w4 ⟨rfl, h4⟩
      have HO := Lib.hid (own_only HO.out h4 (fun _ _ h => h))
      have HRg := Lib.hid (HRg.out.at_still h4)
      have hsg := hsg.still h4
      clear h4 HJ
      go_wp2_with fail
      refine (HRJ.out w4 HRg.out).mono ?_
      rintro e w5 ⟨rfl, h5⟩
      have HO := Lib.hid (own_only HO.out h5 (fun _ _ h => h))
      have HRg := Lib.hid (HRg.out.at_still h5)
      have hsg := hsg.still h5
      clear h5 HRJ
      go_wp2_with fail
      refine (texts_any A' n c' L A n c L (by omega) w5 (Reads.of_own HO.out) HRg.out).mono ?_
      rintro e w6 ⟨rfl, h6⟩
      have hsg := hsg.still h6
      rw [decide_eq_true (rfl : L = L)]
      clear h6
      go_wp2_with fail
      refine (name_awake w6).mono ?_
      rintro e w7 ⟨rfl, h7⟩
      have hsg := hsg.still h7
      go_wp2_with fail
      go_ret
      exact ⟨rfl, hsg⟩
theorem reads_all (w : World) (s : ByteArray) (hs : s.size ≤ maxLen) (A : Option Addr) (n c : Nat) (zs : List ByteArray) (hnc : n ≤ c) (hc : c ≤ maxLen) (hA : A = none → n = 0 ∧ c = 0) (hr : Reads w w.heap.size 1 A n (zs.map Value.string)) (hz : ∀ z ∈ zs, z.size ≤ maxLen) :
    Calls Try.prog 6 #[.string s, .slice A n c] w fun e w' => e = .returned (.bool true) ∧ Still w w' := by
  rw [sv_of] at hr
  exact reads_walk w s hs A n c _ hr
end Go.Proofs.Ytjenabcjikdnaaa
