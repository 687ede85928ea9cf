/-
  The reference of names: Parse; NameReads.
-/
import Derived.Test.YtjenabcjikdnaaaNameRef7
import Derived.Deep.AppendSrc
namespace Go.Proofs.Ytjenabcjikdnaaa
open Go.RowKit
set_option linter.unusedVariables false
set_option linter.unusedSimpArgs false

theorem empty_beq (x : Lab) : ((mk x).toList == []) = decide (x.length = 0) := by
  have := mk_beq x []
  rw [show (mk []).toList = [] by rw [ByteArray.toList_eq]; rfl] at this
  rw [this]
  cases x <;> simp
theorem pf_end (s : St) : pf s [] = fin s := rfl
theorem labs_pf {l : List UInt8} (h : ¬ l = [46]) : labsOf l = pf st0 l := by unfold labsOf pf; rw [if_neg h]; cases run st0 l <;> rfl

set_option maxRecDepth 1000000 in
set_option maxHeartbeats 6400000 in
theorem rparse_any (s : ByteArray) (hs : s.size ≤ 3000) (w : World) :
    Calls Try.prog 33 #[.string s] w fun e w' => e = .returned (.tuple #[.string (mk (parseB s.data.toList)), .int .i64 (parseE s.data.toList)]) ∧ Still w w' := by
  obtain ⟨i0, hi, hz0, hz1, hz2⟩ := info_parts info_str
  go_enter Try.func33, Try.ntmps33
  by_cases hdot : s = mk [46]
  · subst hdot
    have h46 := eq_list [46]
    go_wp2_with fail
    go_ret2
    exact ⟨rfl, Only.refl _ _⟩
  have hne := not_list hdot
  have hrun : labsOf s.data.toList = pf st0 s.data.toList := labs_pf (fun e => hdot (by rw [← mk_of s, e]))
  have HR := Lib.hid hrun
  clear hrun hdot
  go_wp2_with fail
  go_loopw [4, 5, 6] (fun i4 i5 i6 wr => ∃ (a : Nat) (ls : List Lab) (lab : Lab) (A : Option Addr) (c : Nat), a ≤ s.size ∧ i4 = .slice A ls.length c ∧ i5 = .string (mk lab) ∧ i6 = .int .i64 a ∧ ls.length ≤ a ∧ lab.length ≤ a ∧ Hid (labsOf s.data.toList = pf ⟨ls, lab, false, 0, 0⟩ (s.data.toList.drop a)) ∧ wr.ownsRow w.heap.size 9 1 (.slice A ls.length c) ls.length (sv ls) ∧ Still w wr) (fun _ _ i _ => s.size - (intOf i).toNat)
  case atStart => exact ⟨0, [], [], none, 0, by omega, rfl, rfl, rfl, by simp, by simp, HR, World.ownsRow_nil _ _ _ _, Only.refl _ _⟩
  case round =>
    clear HR
    obtain ⟨a, ls, lab, A, c, ha, rfl, rfl, rfl, hls, hlb, hpf, hown, hst⟩ := hrel
    have hszw := hst.size
    by_cases hlt : a < s.size
    · have i1 : (a : Int) < (s.size : Int) := by omega
      have hdr := drop_get hlt
      have hla := letter_any s hs a hlt
      obtain ⟨R, hR⟩ : ∃ R, R = s.data.toList.drop a := ⟨_, rfl⟩
      rw [← hR] at hdr hla hpf
      have hRl : R.length = s.size - a := by rw [hR, List.length_drop, Array.length_toList]; rfl
      have hRd : ∀ n, R.drop n = s.data.toList.drop (a + n) := fun n => by rw [hR, List.drop_drop]
      obtain ⟨x, hx⟩ : ∃ x, x = s[a] := ⟨_, rfl⟩
      have ex : s[a] = x := hx.symm
      rw [← hx] at hdr
      have hx8 : x.toNat < 256 := UInt8.toNat_lt _
      have HDR := Lib.hid hdr
      have HLA := Lib.hid hla
      have HRL := Lib.hid hRl
      have HRD := Lib.hid hRd
      clear hR hx hdr hla hRl hRd
      by_cases e46 : x.toNat = 46
      · have hx46 : x = 46 := UInt8.toNat_inj.1 (by rw [e46]; rfl)
        have j1 : ((x.toNat : Int) == 46) = true := by rw [beq_iff_eq]; omega
        have hb := empty_beq lab
        have hpf2 := hpf.out
        rw [HDR.out, hx46] at hpf2
        have HP2 := Lib.hid hpf2
        clear hpf2 hx46
        by_cases e0 : lab.length = 0
        · have HE := Lib.hid (parse_none (HP2.out.trans (pf_none (c := 46) (by
            show step ⟨ls, lab, false, 0, 0⟩ 46 = none
            unfold step
            rw [if_neg (by omega), if_neg (by simp), if_neg (by omega), if_pos rfl, if_pos e0]))))
          rw [decide_eq_true e0] at hb
          clear hown e0 hpf HP2 e46
          go_wp2_with fail
          go_ret2
          exact ⟨by rw [HE.out.1, HE.out.2]; rfl, hst⟩
        · have HP3 := Lib.hid (HP2.out.trans (pf_some (c := 46) (step_dot (by omega))))
          rw [decide_eq_false e0] at hb
          have i2 : IntKind.i64.wrap ((a : Int) + 1) = ((a + 1 : Nat) : Int) := by rw [IntWalk.i64_in _ (by omega)]; push_cast; rfl
          clear e0 hpf HP2 e46
          have hrd := Reads.of_own (World.ownsRow_lit (e := 9) (size := 1) (base := 0) wr #[.string (mk lab)] 1 (Nat.zero_le _) (by unfold maxLen; omega) rfl)
          have hp1 := hown.alloc (.cells #[.string (mk lab)] 9)
          have hst1 := hst.alloc (.cells #[.string (mk lab)] 9)
          clear hst
          go_wp2_with (at_builtin; refine wpList_append_any _ rfl (.tmp 23) (.tmp 25) 25 rfl w.heap.size 9 i0 (.string ⟨#[]⟩) 1 16 Try.underlying25 hi hz0 hz1 hz2 rfl (by decide) _ _ _ rfl hp1 _ (some _) 1 1 [.string (mk lab)] rfl hrd (by first | rfl | exact sv_one [lab]) (by unfold maxLen; omega) (by omega) (by first | (simp; omega) | omega) ?_)
          intro v' wg hown' hgrow hblk
          obtain ⟨A', c', hv⟩ := own_shape hown'
          subst hv
          have hst := hst1.grown hgrow (fun k hk => .inr (hp1.lt k hk).1)
          have hsz := hst.size
          rw [show sv ls ++ [Value.string (mk lab)] = sv (ls ++ [lab]) from (sv_append ls [lab]).symm] at hown'
          clear hgrow hblk hp1 hrd hst1
          go_wp2_with fail
          exact ⟨⟨a + 1, ls ++ [lab], [], A', c', by omega, by simp, by rfl, by push_cast; rfl, by simp; omega, by simp, HP3, by simpa using hown', hst⟩, by simp [intOf]; omega⟩
      · have j1 : ((x.toNat : Int) == 46) = false := by rw [beq_eq_false_iff_ne]; omega
        have hR46 : ∀ b t, R = b :: t → ¬ b.toNat = 46 := fun b t e => by
          rw [HDR.out] at e
          injection e with e1 e2
          rw [← e1]; exact e46
        have hRne : R ≠ [] := by rw [HDR.out]; simp
        have HR46 := Lib.hid hR46
        have HRne := Lib.hid hRne
        clear hR46 hRne e46
        go_wp2_with fail
        refine (HLA.out wr).mono ?_
        rintro e w3 ⟨rfl, h3⟩
        have hst := hst.still h3
        have hown := own_only hown h3 (fun _ _ h => h)
        have hsz3 := hst.size
        clear h3 HLA
        rcases hl : letP R with _ | ⟨cc, n⟩
        · have HE := Lib.hid (parse_none (hpf.out.trans (letP_none hl HRne.out ls lab)))
          rw [(let_none hl).1, (let_none hl).2]
          clear hown hpf hl
          go_wp2_with fail
          go_ret2
          exact ⟨by rw [HE.out.1, HE.out.2]; rfl, hst⟩
        · have hsome := letP_some hl HR46.out ls lab
          rw [(let_some hl).1, (let_some hl).2]
          have hn1 := hsome.2.1
          have hn2 := hsome.2.2.1
          have hn4 := hsome.2.2.2
          rw [HRL.out] at hn2
          have HP3 : Hid (labsOf s.data.toList = pf ⟨ls, lab ++ [cc], false, 0, 0⟩ (s.data.toList.drop (a + n))) := Lib.hid (by rw [← HRD.out n]; exact hpf.out.trans hsome.1)
          have j2 : ((n : Int) == 0) = false := by rw [beq_eq_false_iff_ne]; omega
          have j2' : ¬ n = 0 := by omega
          have i2 : IntKind.i64.wrap ((a : Int) + (n : Int)) = ((a + n : Nat) : Int) := by rw [IntWalk.i64_in _ (by omega)]; push_cast; rfl
          have a1 := mk_append lab [cc]
          have m1 : ¬ 9223372036854775807 < (mk lab).size + (mk [cc]).size := by rw [mk_size, mk_size]; simp only [List.length_cons, List.length_nil]; omega
          have cv : (convert 42 9 (.slice (some ⟨w3.heap.size, 0, none⟩) 1 1)).run Try.prog (w3.alloc (.cells #[.int .u8 (cc.toNat : Int)] 5)) = .ok (.string (mk [cc])) (w3.alloc (.cells #[.int .u8 (cc.toNat : Int)] 5)) := of_bytes _ w3.heap.size 1 [cc] (fun j hj => by
            have hj0 : j = 0 := by simp at hj; omega
            subst hj0
            exact (Blk.new w3 5 #[.int .u8 (cc.toNat : Int)]).cell 0)
          have hsa := hst.alloc (.cells #[.int .u8 (cc.toNat : Int)] 5)
          have howa := hown.alloc (.cells #[.int .u8 (cc.toNat : Int)] 5)
          clear hl hsome hst hown hpf
          go_wp2_with fail
          exact ⟨⟨a + n, ls, lab ++ [cc], A, c, by omega, rfl, rfl, by push_cast; rfl, by omega, by simp; omega, HP3, howa, hsa⟩, by simp [intOf]; omega⟩
    · have i1 : ¬ (a : Int) < (s.size : Int) := by omega
      have hfin := hpf.out
      rw [drop_end (by omega), pf_end] at hfin
      have HF := Lib.hid hfin
      have hb := empty_beq lab
      clear hfin hpf
      by_cases e0 : lab.length = 0
      · rw [decide_eq_true e0] at hb
        by_cases e1 : ls.length = 0
        · have HE := Lib.hid (parse_none (HF.out.trans (by unfold fin; rw [if_neg (by simp), if_pos e0, if_pos e1])))
          have k1 : ((ls.length : Int) == 0) = true := by rw [beq_iff_eq]; omega
          clear e0 e1 hown
          go_wp2_with fail
          go_ret2
          exact ⟨by rw [HE.out.1, HE.out.2]; rfl, hst⟩
        · have HE := Lib.hid (parse_some (HF.out.trans (by unfold fin; rw [if_neg (by simp), if_pos e0, if_neg e1])))
          have k1 : ((ls.length : Int) == 0) = false := by rw [beq_eq_false_iff_ne]; omega
          have hrd := Reads.of_own hown
          clear e0 hown
          go_wp2_with fail
          refine (rjoin_any A ls.length c ls rfl (by first | omega | (simp; omega)) _ hrd).mono ?_
          rintro e w5 ⟨rfl, h5⟩
          have hst := hst.still h5
          clear h5 hrd
          by_cases hj : joinE (ls) = 0
          · have HJ := Lib.hid hj
            generalize joinB (ls) = jb at *
            go_wp2_with fail
            go_ret2
            exact ⟨by rw [HE.out.1, HE.out.2, if_pos HJ.out]; rfl, hst⟩
          · have hj' : (joinE (ls) == 0) = false := by rw [beq_eq_false_iff_ne]; exact hj
            have HJ := Lib.hid hj
            have HJB := Lib.hid (join_not hj)
            clear hj
            go_wp2_with fail
            go_ret2
            exact ⟨by rw [HE.out.1, HE.out.2, if_neg HJ.out, HJB.out]; rfl, hst⟩
      · rw [decide_eq_false e0] at hb
        have HE := Lib.hid (parse_some (HF.out.trans (by unfold fin; rw [if_neg (by simp), if_neg e0, if_neg (by simp)])))
        clear e0
        have hrd := Reads.of_own (World.ownsRow_lit (e := 9) (size := 1) (base := 0) wr #[.string (mk lab)] 1 (Nat.zero_le _) (by unfold maxLen; omega) rfl)
        have hp1 := hown.alloc (.cells #[.string (mk lab)] 9)
        have hst1 := hst.alloc (.cells #[.string (mk lab)] 9)
        clear hst
        go_wp2_with (at_builtin; refine wpList_append_any _ rfl (.tmp 47) (.tmp 49) 25 rfl w.heap.size 9 i0 (.string ⟨#[]⟩) 1 16 Try.underlying25 hi hz0 hz1 hz2 rfl (by decide) _ _ _ rfl hp1 _ (some _) 1 1 [.string (mk lab)] rfl hrd (by first | rfl | exact sv_one [lab]) (by unfold maxLen; omega) (by omega) (by first | (simp; omega) | omega) ?_)
        intro v' wg hown' hgrow hblk
        obtain ⟨A', c', hv⟩ := own_shape hown'
        subst hv
        have hst := hst1.grown hgrow (fun k hk => .inr (hp1.lt k hk).1)
        have hsz := hst.size
        rw [show sv ls ++ [Value.string (mk lab)] = sv (ls ++ [lab]) from (sv_append ls [lab]).symm] at hown'
        clear hgrow hblk hp1 hrd hst1
        have hrd := Reads.of_own hown'
        have hll : (ls ++ [lab]).length = ls.length + 1 := by simp
        rw [← hll] at hown' hrd ⊢
        have hpos : 0 < (ls ++ [lab]).length := by omega
        have k1 : (((ls ++ [lab]).length : Int) == 0) = false := by rw [beq_eq_false_iff_ne]; omega
        have hl9 : (ls ++ [lab]).length ≤ 3001 := by omega
        have HE2 := HE
        clear hown' HE hll
        generalize ls ++ [lab] = Lf at *
        have HE := HE2
        go_wp2_with fail
        refine (rjoin_any A' Lf.length c' Lf rfl (by first | omega | (simp; omega)) _ hrd).mono ?_
        rintro e w5 ⟨rfl, h5⟩
        have hst := hst.still h5
        clear h5 hrd
        by_cases hj : joinE (Lf) = 0
        · have HJ := Lib.hid hj
          generalize joinB (Lf) = jb at *
          go_wp2_with fail
          go_ret2
          exact ⟨by rw [HE.out.1, HE.out.2, if_pos HJ.out]; rfl, hst⟩
        · have hj' : (joinE (Lf) == 0) = false := by rw [beq_eq_false_iff_ne]; exact hj
          have HJ := Lib.hid hj
          have HJB := Lib.hid (join_not hj)
          clear hj
          go_wp2_with fail
          go_ret2
          exact ⟨by rw [HE.out.1, HE.out.2, if_neg HJ.out, HJB.out]; rfl, hst⟩
end Go.Proofs.Ytjenabcjikdnaaa
