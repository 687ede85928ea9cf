/-
  Package edns: Same; and the laws' Long.
-/
import Derived.Test.YtbapnlgddekakaaDoorEdnsParts
namespace Go.Proofs.YtbapnlgddekakaaDoor
open Go.RowKit
set_option linter.unusedVariables false
set_option linter.unusedSimpArgs false

set_option maxRecDepth 1000000 in
set_option maxHeartbeats 6400000 in
theorem eqs_any (w : World) (A A' : Option Addr) (n c n' c' B B' : Nat) (os os' : List Opt) (hl : os.length = n) (hl' : os'.length = n') (hr : Reads w B 2 A n (oRow os)) (hr' : Reads w B' 2 A' n' (oRow os'))
    (hn : n ≤ 1000000) (hn' : n' ≤ 1000000) :
    Calls Tryd.prog 22 #[.slice A n c, .slice A' n' c'] w fun e w' => e = .returned (.bool (decide (os = os'))) ∧ Still w w' := by
  by_cases e5 : n = n'
  · subst e5
    go_enter Tryd.func22, Tryd.ntmps22
    go_wp2_with fail
    go_loopw [13] (fun i wr => ∃ k q : Nat, k ≤ n ∧ i = .int .i64 k ∧ Hid (os.take k = os'.take k) ∧ wr = w.drewN q) (fun i _ => n - (intOf i).toNat)
    case atStart => exact ⟨0, 0, Nat.zero_le _, rfl, by simp [Hid], rfl⟩
    case round =>
      obtain ⟨k, q, hk, rfl, heq, rfl⟩ := hrel
      by_cases hlt : k < n
      · obtain ⟨bl, off, o, rfl, _, hok, x0, x1⟩ := o2_cells hr hl hlt
        obtain ⟨bl', off', o', rfl, _, hok', y0, y1⟩ := o2_cells hr' hl' hlt
        have i1 : (k : Int) < (n : Int) := by omega
        have Hok := Lib.hid hok
        have Hok' := Lib.hid hok'
        obtain ⟨oc, od⟩ := o
        obtain ⟨oc', od'⟩ := o'
        simp only at x0 x1 y0 y1
        clear hok hok'
        by_cases h1 : oc = oc' ∧ od = od'
        · obtain ⟨rfl, rfl⟩ := h1
          have eqk : ∀ w, (Op.equalIn 10000 40 (.agg #[.int .u16 oc, .string od]) (.agg #[.int .u16 oc, .string od])).run Tryd.prog w = .ok true w := fun w => by rw [eqo]; simp
          go_wp2_with fail
          go_quiet (fail)
          go_wp2_with fail
          go_roundw
          case rel => exact ⟨k + 1, _, by omega, by go_num, Lib.hid (by rw [List.take_add_one, List.take_add_one, heq.out, Hok.out, Hok'.out]), rfl⟩
          case measure => simp [intOf]; omega
        · have eqk : ∀ w, (Op.equalIn 10000 40 (.agg #[.int .u16 oc, .string od]) (.agg #[.int .u16 oc', .string od'])).run Tryd.prog w = .ok false w := fun w => by
            rw [eqo]
            have : ¬ (oc = oc' ∧ od.toList = od'.toList) := fun ⟨e1, e2⟩ => h1 ⟨e1, bytes_ext e2⟩
            by_cases e1 : oc = oc'
            · have e2 : ¬ od.toList = od'.toList := fun e2 => this ⟨e1, e2⟩
              simp [e2]
            · have : ¬ (oc : Int) = (oc' : Int) := by omega
              simp [this, e1]
          have hfin : false = decide (os = os') := by
            refine (decide_eq_false ?_).symm
            intro e
            subst e
            have := Hok.out.symm.trans Hok'.out
            injection this with this
            injection this with e1 e2
            exact h1 ⟨e1, e2⟩
          have Hfin := Lib.hid hfin
          clear hfin
          go_wp2_with fail
          go_quiet (fail)
          go_wp2_with fail
          go_ret
          exact ⟨ret_bool Hfin.out, ((Only.refl _ _).drewN q).drewN _⟩
      · have hkn : k = n := by omega
        subst hkn
        have hfin : true = decide (os = os') := by
          refine (decide_eq_true ?_).symm
          have := heq.out
          rwa [List.take_of_length_le (by omega), List.take_of_length_le (by omega)] at this
        have Hfin := Lib.hid hfin
        clear hfin
        go_wp2_with fail
        go_ret
        exact ⟨ret_bool Hfin.out, (Only.refl _ _).drewN q⟩
  · have hfin : false = decide (os = os') := (decide_eq_false (fun h => e5 (by rw [← hl, ← hl', h]))).symm
    have Hfin := Lib.hid hfin
    clear hfin
    have hb : ((n : Int) != (n' : Int)) = true := by simp; omega
    have hb2 : ¬ (n : Int) = (n' : Int) := by omega
    go_enter Tryd.func22, Tryd.ntmps22
    go_wp2_with fail
    go_ret
    exact ⟨ret_bool Hfin.out, Only.refl _ _⟩

set_option maxRecDepth 1000000 in
set_option maxHeartbeats 6400000 in
theorem same_any (w : World) (cl x v f cl' x' v' f' : Int) (A A' : Option Addr) (n c n' c' B B' : Nat) (os os' : List Opt) (hl : os.length = n) (hl' : os'.length = n') (hr : Reads w B 2 A n (oRow os)) (hr' : Reads w B' 2 A' n' (oRow os')) (hB : B ≤ w.heap.size) (hB' : B' ≤ w.heap.size)
    (hn : n ≤ 1000000) (hn' : n' ≤ 1000000) :
    Calls Tryd.prog 15 #[.agg (eA cl x v f A n c), .agg (eA cl' x' v' f' A' n' c')] w fun e w' => e = .returned (.bool (decide (cl = cl' ∧ x = x' ∧ v = v' ∧ f = f' ∧ os = os'))) ∧ Still w w' := by
  unfold eA
  have hsA := (Still.new w (.cells #[.int .u16 cl, .int .u8 x, .int .u8 v, .int .u16 f, .slice A n c] 25)).alloc (.cells #[.int .u16 cl', .int .u8 x', .int .u8 v', .int .u16 f', .slice A' n' c'] 25)
  by_cases e1 : cl = cl'
  · by_cases e2 : x = x'
    · by_cases e3 : v = v'
      · by_cases e4 : f = f'
        · subst e1; subst e2; subst e3; subst e4
          have hB8 := (Blk.new w 25 #[.int .u16 cl, .int .u8 x, .int .u8 v, .int .u16 f, .slice A n c]).alloc (.cells #[.int .u16 cl, .int .u8 x, .int .u8 v, .int .u16 f, .slice A' n' c'] 25)
          have hB9 := Blk.at_ (w.alloc (.cells #[.int .u16 cl, .int .u8 x, .int .u8 v, .int .u16 f, .slice A n c] 25)) 25 #[.int .u16 cl, .int .u8 x, .int .u8 v, .int .u16 f, .slice A' n' c'] (g := w.heap.size + 1) (by simp)
          have hr := hr.only hsA hB (fun _ _ h => h)
          have hr' := hr'.only hsA hB' (fun _ _ h => h)
          go_enter Tryd.func15, Tryd.ntmps15
          go_wp2_with fail
          refine (eqs_any _ A A' n c n' c' B B' os os' hl hl' hr hr' hn hn').mono ?_
          rintro e w2 ⟨rfl, hs2⟩
          have hs := hsA.still hs2
          by_cases ho : os = os'
          · rw [decide_eq_true ho]
            go_wp2_with fail
            go_ret
            exact ⟨ret_bool (by simp [ho]), hs⟩
          · rw [decide_eq_false ho]
            go_wp2_with fail
            go_ret
            exact ⟨ret_bool (by simp [ho]), hs⟩
        · have hfin : false = decide (cl = cl' ∧ x = x' ∧ v = v' ∧ f = f' ∧ os = os') := (decide_eq_false (fun h => e4 h.2.2.2.1)).symm
          have Hfin := Lib.hid hfin
          clear hfin
          have hb : (f == f') = false := by simp [e4]
          go_enter Tryd.func15, Tryd.ntmps15
          go_wp2_with fail
          go_ret
          exact ⟨ret_bool Hfin.out, (Still.new _ _).alloc _⟩
      · have hfin : false = decide (cl = cl' ∧ x = x' ∧ v = v' ∧ f = f' ∧ os = os') := (decide_eq_false (fun h => e3 h.2.2.1)).symm
        have Hfin := Lib.hid hfin
        clear hfin
        have hb : (v == v') = false := by simp [e3]
        go_enter Tryd.func15, Tryd.ntmps15
        go_wp2_with fail
        go_ret
        exact ⟨ret_bool Hfin.out, (Still.new _ _).alloc _⟩
    · have hfin : false = decide (cl = cl' ∧ x = x' ∧ v = v' ∧ f = f' ∧ os = os') := (decide_eq_false (fun h => e2 h.2.1)).symm
      have Hfin := Lib.hid hfin
      clear hfin
      have hb : (x == x') = false := by simp [e2]
      go_enter Tryd.func15, Tryd.ntmps15
      go_wp2_with fail
      go_ret
      exact ⟨ret_bool Hfin.out, (Still.new _ _).alloc _⟩
  · have hfin : false = decide (cl = cl' ∧ x = x' ∧ v = v' ∧ f = f' ∧ os = os') := (decide_eq_false (fun h => e1 h.1)).symm
    have Hfin := Lib.hid hfin
    clear hfin
    have hb : (cl == cl') = false := by simp [e1]
    go_enter Tryd.func15, Tryd.ntmps15
    go_wp2_with fail
    go_ret
    exact ⟨ret_bool Hfin.out, (Still.new _ _).alloc _⟩

/-- What Long counts. -/
def tot (os : List Opt) : Nat := (os.map fun o => 10 + min 200000 o.2.size).sum
theorem tot_snoc (os : List Opt) (o : Opt) : tot (os ++ [o]) = tot os + (10 + min 200000 o.2.size) := by unfold tot; simp
theorem tot_take_succ {os : List Opt} {k : Nat} {o : Opt} (h : os[k]? = some o) : tot (os.take (k + 1)) = tot (os.take k) + (10 + min 200000 o.2.size) := by
  rw [List.take_add_one, h]; exact tot_snoc _ _
theorem tot_mem : ∀ {os : List Opt} {o : Opt}, o ∈ os → tot os < 200000 → o.2.size < 200000 ∧ o.2.size ≤ tot os
  | a :: os, o, h, ht => by
    have e : tot (a :: os) = 10 + min 200000 a.2.size + tot os := by unfold tot; simp
    rcases List.mem_cons.mp h with rfl | h
    · omega
    · have := tot_mem h (by omega); omega
/-- Not long: few options, none of them huge. -/
def short (os : List Opt) : Prop := os.length ≤ 300 ∧ ∀ o ∈ os, o.2.size ≤ 1000000
set_option maxRecDepth 1000000 in
set_option maxHeartbeats 6400000 in
theorem long_any (w : World) (cl x v f : Int) (A : Option Addr) (n c B : Nat) (os : List Opt) (hl : os.length = n) (hr : Reads w B 2 A n (oRow os)) (hB : B ≤ w.heap.size) (hn : n ≤ maxLen) :
    Calls Tryd.prog 9 #[.agg (eA cl x v f A n c)] w fun e w' => (e = .returned (.bool true) ∧ Still w w') ∨ (Hid (short os) ∧ e = .returned (.bool false) ∧ Still w w') := by
  unfold maxLen at hn
  unfold eA
  have hsA := Still.new w (.cells #[.int .u16 cl, .int .u8 x, .int .u8 v, .int .u16 f, .slice A n c] 25)
  have hBE := Blk.new w 25 #[.int .u16 cl, .int .u8 x, .int .u8 v, .int .u16 f, .slice A n c]
  have hr := hr.only hsA hB (fun _ _ h => h)
  go_enter Tryd.func9, Tryd.ntmps9
  go_wp2_with fail
  obtain ⟨w1, hw1⟩ : ∃ w1, w1 = w.alloc (.cells #[.int .u16 cl, .int .u8 x, .int .u8 v, .int .u16 f, .slice A n c] 25) := ⟨_, rfl⟩
  rw [← hw1] at hsA hBE hr ⊢
  obtain ⟨K, hK⟩ : ∃ K, K = w.heap.size := ⟨_, rfl⟩
  rw [← hK] at hBE ⊢
  clear hw1 hK hB
  obtain ⟨b0, b1, b2, b3, b4⟩ := blk5 hBE
  clear hBE
  go_loopw [3, 4] (fun s i wr => ∃ k S q : Nat, k ≤ n ∧ i = .int .i64 k ∧ s = .int .i64 S ∧ S ≤ 500000 ∧ Hid (S = tot (os.take k)) ∧ wr = w1.drewN q) (fun _ i _ => n - (intOf i).toNat)
  case atStart => exact ⟨0, 0, 0, Nat.zero_le _, rfl, rfl, by omega, Lib.hid rfl, rfl⟩
  case round =>
    obtain ⟨k, S, q, hk, rfl, rfl, hS, hSe, rfl⟩ := hrel
    by_cases hlt : k < n
    · obtain ⟨bl, off, o, rfl, _, hok, x0, x1⟩ := o2_cells hr hl hlt
      obtain ⟨oc, od⟩ := o
      simp only at x0 x1
      have hnx := tot_take_succ hok
      have Hnx := Lib.hid hnx
      have i1 : (k : Int) < (n : Int) := by omega
      clear hok hnx
      by_cases hb : S < 200000
      · have i2 : (S : Int) < 200000 := by omega
        have y1 : IntKind.i64.wrap ((S : Int) + 10) = (S : Int) + 10 := IntWalk.i64_in _ (by omega)
        go_wp2_with fail
        refine ⟨⟨k + 1, S + (10 + min 200000 od.size), q, by omega, by go_num, ?_, by omega, Lib.hid (by rw [hSe.out]; exact Hnx.out.symm), rfl⟩, ?_⟩
        · congr 1
          split <;> omega
        · simp [intOf]; omega
      · have i2 : ¬ (S : Int) < 200000 := by omega
        have i3 : (200000 : Int) ≤ (S : Int) := by omega
        go_wp2_with fail
        go_ret
        exact .inl ⟨rfl, hsA.drewN q⟩
    · obtain rfl : n = k := by omega
      have hnl : ¬ (n : Int) < (n : Int) := by omega
      have h1 := hSe.out
      rw [List.take_of_length_le (by omega)] at h1
      have HS := Lib.hid h1
      clear h1 hSe
      by_cases hb : S < 200000
      · have i2 : ¬ (200000 : Int) ≤ (S : Int) := by omega
        by_cases h3 : 300 < n
        · have i3 : (300 : Int) < (n : Int) := by omega
          go_wp2_with fail
          go_ret
          exact .inl ⟨rfl, hsA.drewN q⟩
        · have i3 : ¬ (300 : Int) < (n : Int) := by omega
          have hsh : short os := ⟨by omega, fun o ho => by have := tot_mem ho (by rw [← HS.out]; exact hb); omega⟩
          have Hsh := Lib.hid hsh
          clear hsh
          go_wp2_with fail
          go_ret
          first | exact .inr ⟨Hsh, rfl, hsA.drewN q⟩ | exact .inr ⟨rfl, hsA.drewN q⟩
      · have i2 : (200000 : Int) ≤ (S : Int) := by omega
        go_wp2_with fail
        go_ret
        exact .inl ⟨rfl, hsA.drewN q⟩
end Go.Proofs.YtbapnlgddekakaaDoor
