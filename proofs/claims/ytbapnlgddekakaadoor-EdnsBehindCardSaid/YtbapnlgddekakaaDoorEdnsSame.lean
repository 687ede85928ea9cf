/-
  The reference's Same; Split and Code of both.
-/
import Derived.Test.YtbapnlgddekakaaDoorEdnsRd
import Derived.Laws.StructEq
namespace Go.Proofs.YtbapnlgddekakaaDoor
open Go.RowKit
set_option linter.unusedVariables false
set_option linter.unusedSimpArgs false

theorem o2_cells {w : World} {B n : Nat} {C : Option Addr} {l : List Opt} (h : Reads w B 2 C n (oRow l)) (hl : l.length = n) {k : Nat} (hk : k < n) :
    ∃ bl off o, C = some ⟨bl, off, none⟩ ∧ bl < B ∧ l[k]? = some o ∧ w.cell? ⟨bl, off + k * 2, none⟩ = some (.int .u16 o.1) ∧ w.cell? ⟨bl, off + k * 2 + 1, none⟩ = some (.string o.2) := by
  obtain ⟨ad, e, hb, hc⟩ := h.2 (by omega)
  have hk' : k < l.length := by omega
  have hx : ∀ j, j < 2 → ∀ v, (oC l[k])[j]? = some v → w.cell? (ad.add (k * 2 + j)) = some v := fun j hj v hv => hc _ _ ((oRow_at (List.getElem?_eq_getElem hk') j hj).trans hv)
  obtain ⟨bl, off, spot⟩ := ad
  have hspot : spot = none := by
    have h0 := hc (0 * 2 + 0) _ (oRow_at (List.getElem?_eq_getElem (show 0 < l.length by omega)) 0 (by omega))
    have := World.cell?_spot h0
    simpa [Addr.add] using this
  subst hspot
  have c0 := hx 0 (by omega) _ rfl
  have c1 := hx 1 (by omega) _ rfl
  rw [addr_at] at c0 c1
  exact ⟨bl, off, l[k], e, hb, List.getElem?_eq_getElem hk', by simpa using c0, by rw [Nat.add_assoc]; exact c1⟩

theorem bytes_ext {a b : ByteArray} (h : a.toList = b.toList) : a = b := by
  rw [ByteArray.toList_eq, ByteArray.toList_eq] at h
  obtain ⟨⟨x⟩⟩ := a
  obtain ⟨⟨y⟩⟩ := b
  simp at h
  rw [h]
theorem eqo (a b : Int) (s t : ByteArray) (w : World) : (Op.equalIn 10000 40 (.agg #[.int .u16 a, .string s]) (.agg #[.int .u16 b, .string t])).run Tryd.prog w = .ok (a == b && s.toList == t.toList) w := by
  rw [run_equalIn_struct w 9999 _ _ _ (by kernel_rfl) (by kernel_rfl)]
  simp only [Program.fieldsOf, Tryd.underlying40]
  go_simp
  by_cases h0 : a = b <;> by_cases h1 : s.toList = t.toList <;> simp [h0, h1]
set_option maxRecDepth 1000000 in
set_option maxHeartbeats 6400000 in
theorem rsame_any (w : World) (cl x v f cl' x' v' f' : Int) (A A' : Option Addr) (n c n' c' B B' : Nat) (os os' : List Opt) (hl : os.length = n) (hl' : os'.length = n') (hr : Reads w B 2 A n (oRow os)) (hr' : Reads w B' 2 A' n' (oRow os')) (hB : B ≤ w.heap.size) (hB' : B' ≤ w.heap.size)
    (hn : n ≤ 1000000) (hn' : n' ≤ 1000000) :
    Calls Tryd.prog 16 #[.agg (eA cl x v f A n c), .agg (eA cl' x' v' f' A' n' c')] w fun e w' => e = .returned (.bool (decide (cl = cl' ∧ x = x' ∧ v = v' ∧ f = f' ∧ os = os'))) ∧ Still w w' := by
  unfold eA
  have hsA := (Still.new w (.cells #[.int .u16 cl, .int .u8 x, .int .u8 v, .int .u16 f, .slice A n c] 25)).alloc (.cells #[.int .u16 cl', .int .u8 x', .int .u8 v', .int .u16 f', .slice A' n' c'] 25)
  by_cases e1 : cl = cl'
  · by_cases e2 : x = x'
    · by_cases e3 : v = v'
      · by_cases e4 : f = f'
        · by_cases e5 : n = n'
          · subst e1; subst e2; subst e3; subst e4; subst e5
            have hB8 := (Blk.new w 25 #[.int .u16 cl, .int .u8 x, .int .u8 v, .int .u16 f, .slice A n c]).alloc (.cells #[.int .u16 cl, .int .u8 x, .int .u8 v, .int .u16 f, .slice A' n c'] 25)
            have hB9 := Blk.at_ (w.alloc (.cells #[.int .u16 cl, .int .u8 x, .int .u8 v, .int .u16 f, .slice A n c] 25)) 25 #[.int .u16 cl, .int .u8 x, .int .u8 v, .int .u16 f, .slice A' n c'] (g := w.heap.size + 1) (by simp)
            have hr := hr.only hsA hB (fun _ _ h => h)
            have hr' := hr'.only hsA hB' (fun _ _ h => h)
            go_enter Tryd.func16, Tryd.ntmps16
            go_wp2_with fail
            generalize (w.alloc (.cells #[.int .u16 cl, .int .u8 x, .int .u8 v, .int .u16 f, .slice A n c] 25)).alloc (.cells #[.int .u16 cl, .int .u8 x, .int .u8 v, .int .u16 f, .slice A' n c'] 25) = w1 at *
            obtain ⟨K, hK⟩ : ∃ K, K = w.heap.size := ⟨_, rfl⟩
            rw [← hK] at hB8 hB9 ⊢
            clear hK
            obtain ⟨_, _, _, _, c4⟩ := blk5 hB8
            obtain ⟨_, _, _, _, d4⟩ := blk5 hB9
            clear hB8 hB9
            go_loopw [5] (fun i wr => ∃ k q : Nat, k ≤ n ∧ i = .int .i64 k ∧ Hid (os.take k = os'.take k) ∧ wr = w1.drewN q) (fun i _ => n - (intOf i).toNat)
            case atStart => exact ⟨0, 0, Nat.zero_le _, rfl, by simp [Hid], rfl⟩
            case round =>
              obtain ⟨k, q, hk, rfl, heq, rfl⟩ := hrel
              by_cases hlt : k < n
              · obtain ⟨bl, off, o, rfl, _, hok, x0, x1⟩ := o2_cells hr hl hlt
                obtain ⟨bl', off', o', rfl, _, hok', y0, y1⟩ := o2_cells hr' hl' hlt
                have i1 : (k : Int) < (n : Int) := by omega
                have Hok := Lib.hid hok
                have Hok' := Lib.hid hok'
                obtain ⟨oc, od⟩ := o
                obtain ⟨oc', od'⟩ := o'
                simp only at x0 x1 y0 y1
                clear hok hok'
                by_cases h1 : oc = oc' ∧ od = od'
                · obtain ⟨rfl, rfl⟩ := h1
                  have eqk : ∀ w, (Op.equalIn 10000 40 (.agg #[.int .u16 oc, .string od]) (.agg #[.int .u16 oc, .string od])).run Tryd.prog w = .ok true w := fun w => by rw [eqo]; simp
                  go_wp2_with fail
                  go_quiet (fail)
                  go_wp2_with fail
                  go_roundw
                  case rel => exact ⟨k + 1, _, by omega, by go_num, Lib.hid (by rw [List.take_add_one, List.take_add_one, heq.out, Hok.out, Hok'.out]), rfl⟩
                  case measure => simp [intOf]; omega
                · have eqk : ∀ w, (Op.equalIn 10000 40 (.agg #[.int .u16 oc, .string od]) (.agg #[.int .u16 oc', .string od'])).run Tryd.prog w = .ok false w := fun w => by
                    rw [eqo]
                    have : ¬ (oc = oc' ∧ od.toList = od'.toList) := fun ⟨e1, e2⟩ => h1 ⟨e1, bytes_ext e2⟩
                    by_cases e1 : oc = oc'
                    · have e2 : ¬ od.toList = od'.toList := fun e2 => this ⟨e1, e2⟩
                      simp [e2]
                    · have : ¬ (oc : Int) = (oc' : Int) := by omega
                      simp [this, e1]
                  have hfin : false = decide (cl = cl ∧ x = x ∧ v = v ∧ f = f ∧ os = os') := by
                    refine (decide_eq_false ?_).symm
                    rintro ⟨_, _, _, _, e⟩
                    subst e
                    have := Hok.out.symm.trans Hok'.out
                    injection this with this
                    injection this with e1 e2
                    exact h1 ⟨e1, e2⟩
                  have Hfin := Lib.hid hfin
                  clear hfin
                  go_wp2_with fail
                  go_quiet (fail)
                  go_wp2_with fail
                  go_ret
                  exact ⟨ret_bool (by simpa using Hfin.out), (hsA.drewN q).drewN _⟩
              · have hkn : k = n := by omega
                subst hkn
                have hfin : true = decide (cl = cl ∧ x = x ∧ v = v ∧ f = f ∧ os = os') := by
                  refine (decide_eq_true ⟨rfl, rfl, rfl, rfl, ?_⟩).symm
                  have := heq.out
                  rwa [List.take_of_length_le (by omega), List.take_of_length_le (by omega)] at this
                have Hfin := Lib.hid hfin
                clear hfin
                go_wp2_with fail
                go_ret
                exact ⟨ret_bool (by simpa using Hfin.out), hsA.drewN q⟩
          · have hfin : false = decide (cl = cl' ∧ x = x' ∧ v = v' ∧ f = f' ∧ os = os') := (decide_eq_false (fun h => e5 (by rw [← hl, ← hl', h.2.2.2.2]))).symm
            have Hfin := Lib.hid hfin
            clear hfin
            have hb : ((n : Int) != (n' : Int)) = true := by simp; omega
            have hb2 : ¬ (n : Int) = (n' : Int) := by omega
            go_enter Tryd.func16, Tryd.ntmps16
            go_wp2_with fail
            go_ret
            exact ⟨ret_bool Hfin.out, (Still.new _ _).alloc _⟩
        · have hfin : false = decide (cl = cl' ∧ x = x' ∧ v = v' ∧ f = f' ∧ os = os') := (decide_eq_false (fun h => e4 h.2.2.2.1)).symm
          have Hfin := Lib.hid hfin
          clear hfin
          have hb : (f != f') = true := by simp [e4]
          go_enter Tryd.func16, Tryd.ntmps16
          go_wp2_with fail
          go_ret
          exact ⟨ret_bool Hfin.out, (Still.new _ _).alloc _⟩
      · have hfin : false = decide (cl = cl' ∧ x = x' ∧ v = v' ∧ f = f' ∧ os = os') := (decide_eq_false (fun h => e3 h.2.2.1)).symm
        have Hfin := Lib.hid hfin
        clear hfin
        have hb : (v != v') = true := by simp [e3]
        go_enter Tryd.func16, Tryd.ntmps16
        go_wp2_with fail
        go_ret
        exact ⟨ret_bool Hfin.out, (Still.new _ _).alloc _⟩
    · have hfin : false = decide (cl = cl' ∧ x = x' ∧ v = v' ∧ f = f' ∧ os = os') := (decide_eq_false (fun h => e2 h.2.1)).symm
      have Hfin := Lib.hid hfin
      clear hfin
      have hb : (x != x') = true := by simp [e2]
      go_enter Tryd.func16, Tryd.ntmps16
      go_wp2_with fail
      go_ret
      exact ⟨ret_bool Hfin.out, (Still.new _ _).alloc _⟩
  · have hfin : false = decide (cl = cl' ∧ x = x' ∧ v = v' ∧ f = f' ∧ os = os') := (decide_eq_false (fun h => e1 h.1)).symm
    have Hfin := Lib.hid hfin
    clear hfin
    have hb : (cl != cl') = true := by simp [e1]
    go_enter Tryd.func16, Tryd.ntmps16
    go_wp2_with fail
    go_ret
    exact ⟨ret_bool Hfin.out, (Still.new _ _).alloc _⟩
end Go.Proofs.YtbapnlgddekakaaDoor
