/-
  hustingsref29: the document's table: its row, what is found in it, what its functions do.
-/
import Derived.Test.YthbapdajmpplhaaPendAwake
import Derived.Test.YthbapdajmpplhaaDrawRefP
namespace Go.Proofs.Ythbapdajmpplhaa
open Go.RowKit
set_option linter.unusedVariables false
set_option linter.unusedSimpArgs false

def otC (o : Out) : List Value := [.int .i64 (o.u : Int), .int .i64 o.slot, .int .u16 (o.id : Int)]
def otRow (l : List Out) : List Value := (l.map otC).flatten
theorem otRow_at {l : List Out} {i : Nat} {o : Out} (h : l[i]? = some o) (j : Nat) (hj : j < 3) : (otRow l)[i * 3 + j]? = (otC o)[j]? := by
  unfold otRow
  rw [flatten_getElem? _ i j (by intro r hr; simp only [List.mem_map] at hr; obtain ⟨_, _, rfl⟩ := hr; rfl) hj, List.getElem?_map, h]
  rfl
theorem otRow_length (l : List Out) : (otRow l).length = l.length * 3 := by
  unfold otRow
  rw [flatten_length (s := 3) _ (by intro r hr; simp only [List.mem_map] at hr; obtain ⟨_, _, rfl⟩ := hr; rfl), List.length_map]
theorem otRow_append (a b : List Out) : otRow (a ++ b) = otRow a ++ otRow b := by unfold otRow; simp
theorem otRow_single (o : Out) : otRow [o] = otC o := by unfold otRow; simp
theorem otRow_one (l : List Out) : ∀ v ∈ otRow l, v.oneCell' = true := by
  intro v hv
  unfold otRow at hv
  simp only [List.mem_flatten, List.mem_map] at hv
  obtain ⟨r, ⟨z, _, rfl⟩, hv⟩ := hv
  simp only [otC, List.mem_cons, List.not_mem_nil, or_false] at hv
  rcases hv with rfl | rfl | rfl <;> rfl

structure RT (w : World) (x n : Nat) (L : List Out) : Prop where
  tab : ∃ A c, Blk w x 80 #[.int .i64 (n : Int), .slice A L.length c] ∧ w.ownsRow 0 82 3 (.slice A L.length c) L.length (otRow L)
  inv : Inv n L
section
variable {w w' : World} {x n : Nat} {L : List Out}
theorem RT.only {S : Nat → Prop} (h : RT w x n L) (o : Only S w w') (hS : ∀ i, S i → ∀ cs T, w.heap[i]? = some (.cells cs T (0, 0)) → T ≠ 80 ∧ T ≠ 82) : RT w' x n L := by
  obtain ⟨A, c, h1, h2⟩ := h.tab
  refine ⟨⟨A, c, h1.only o (fun hs => (hS _ hs _ _ h1).1 rfl), own_only h2 o (fun k hk hs => ?_)⟩, h.inv⟩
  rcases h2.2 with ⟨e, _⟩ | ⟨g', cap, cur, e, _, hh, _⟩
  · rw [e] at hk; simp [Value.ownBlock] at hk
  · rw [e] at hk
    simp [Value.ownBlock] at hk
    subst hk
    exact (hS _ hs _ _ hh).2 rfl
theorem RT.still (h : RT w x n L) (o : Still w w') : RT w' x n L := h.only o (fun _ h => h.elim)
theorem RT.lt (h : RT w x n L) : x < w.heap.size := by
  obtain ⟨A, c, h1, _⟩ := h.tab
  exact h1.lt
end
theorem own_cells3 {w : World} {A : Option Addr} {c : Nat} {L : List Out} (h2 : w.ownsRow 0 82 3 (.slice A L.length c) L.length (otRow L)) {k : Nat} {o : Out} (hk : L[k]? = some o) :
    ∃ g, A = some ⟨g, 0, none⟩ ∧ w.cell? ⟨g, k * 3, none⟩ = some (.int .i64 (o.u : Int)) ∧ w.cell? ⟨g, k * 3 + 1, none⟩ = some (.int .i64 o.slot) ∧ w.cell? ⟨g, k * 3 + 2, none⟩ = some (.int .u16 (o.id : Int)) := by
  have hlt := (List.getElem?_eq_some_iff.1 hk).1
  rcases h2.2 with ⟨e, h0⟩ | ⟨g', cap, cur, e, _, hh, _⟩
  · omega
  · cases e
    have ha : ∀ j, (⟨g', 0, none⟩ : Addr).add j = ⟨g', j, none⟩ := fun j => by unfold Addr.add; split <;> simp_all
    have x0 := h2.cells (g := g') rfl (k * 3 + 0) _ (otRow_at hk 0 (by omega))
    have x1 := h2.cells (g := g') rfl (k * 3 + 1) _ (otRow_at hk 1 (by omega))
    have x2 := h2.cells (g := g') rfl (k * 3 + 2) _ (otRow_at hk 2 (by omega))
    rw [ha] at x0 x1 x2
    exact ⟨g', rfl, x0, x1, x2⟩

theorem refnew_any (w : World) (n : Nat) (h1 : 1 ≤ n) (h9 : n ≤ 9) :
    Calls Try.prog 19 #[.int .i64 n] w fun e w' => ∃ x, e = .returned (.tuple #[.pointer (some ⟨x, 0, none⟩), .int .i64 0]) ∧ w.heap.size ≤ x ∧ RT w' x n [] ∧ Still w w' := by
  have hd1 : ¬ (n : Int) < 1 := by omega
  have hd2 : ¬ (9 : Int) < (n : Int) := by omega
  go_enter Try.func19, Try.ntmps19
  go_wp2
  go_ret2
  exact ⟨_, rfl, Nat.le_refl _, ⟨⟨none, 0, Blk.new _ _ _, World.ownsRow_nil _ _ _ _⟩, Inv.nil _⟩, Still.new _ _⟩
theorem refnew_bad (w : World) (n : Int) (h : n < 1 ∨ 9 < n) :
    Calls Try.prog 19 #[.int .i64 n] w fun e w' => e = .returned (.tuple #[.pointer none, .int .i64 1]) ∧ w = w' := by
  go_enter Try.func19, Try.ntmps19
  by_cases h1 : n < 1
  · go_wp2
    go_ret2
    exact ⟨rfl, rfl⟩
  · have h9 : 9 < n := by omega
    go_wp2
    go_ret2
    exact ⟨rfl, rfl⟩

def findR (L : List Out) (u : Int) (id : Nat) : Option Int := if 0 ≤ u then findO L u.toNat id else none
theorem findR_yes {n : Nat} {L : List Out} (h : Inv n L) {o : Out} (ho : o ∈ L) : findR L (o.u : Int) o.id = some o.slot := by
  unfold findR
  rw [if_pos (by omega), Int.toNat_natCast]
  exact h.find ho
theorem findR_no {L : List Out} {u : Int} {id : Nat} (h : ∀ o ∈ L, ¬ ((o.u : Int) = u ∧ o.id = id)) : findR L u id = none := by
  unfold findR
  split
  · refine findO_none (isO_no.2 (fun o ho e => h o ho ⟨by omega, e.2⟩))
  · rfl
theorem findR_in {n : Nat} {L : List Out} (h : Inv n L) (u : Int) (id : Nat) : findR L u id = findI n L u id := by
  unfold findR findI
  by_cases h0 : 0 ≤ u
  · rw [if_pos h0]
    by_cases hn : u < n
    · rw [if_pos ⟨h0, hn⟩]
    · rw [if_neg (fun e => hn e.2)]
      refine findO_none (isO_no.2 (fun o ho e => ?_))
      have := h.us o ho
      omega
  · rw [if_neg h0, if_neg (fun e => h0 e.1)]
set_option maxRecDepth 1000000 in
set_option maxHeartbeats 6400000 in
theorem rfind_any {w : World} {x n : Nat} {L : List Out} (h : RT w x n L) (hL : L.length ≤ 100000) (u : Int) (id : Nat) (hid : id < 65536) :
    Calls Try.prog 37 #[.pointer (some ⟨x, 0, none⟩), .int .i64 u, .int .u16 id] w fun e w' =>
      e = .returned (.tuple #[.int .i64 ((findR L u id).getD 0), .bool (findR L u id).isSome]) ∧ w = w' := by
  obtain ⟨A, c, h1, h2⟩ := h.tab
  have c1 := h1.cell 1
  simp at c1
  obtain ⟨m, hm⟩ : ∃ m, m = L.length := ⟨_, rfl⟩
  rw [← hm] at c1 hL
  have hcs : ∀ k o, L[k]? = some o → ∃ g, A = some ⟨g, 0, none⟩ ∧ w.cell? ⟨g, k * 3, none⟩ = some (.int .i64 (o.u : Int)) ∧ w.cell? ⟨g, k * 3 + 1, none⟩ = some (.int .i64 o.slot) ∧ w.cell? ⟨g, k * 3 + 2, none⟩ = some (.int .u16 (o.id : Int)) := fun k o hk => own_cells3 h2 hk
  have Hm := Lib.hid hm
  have HI := Lib.hid h.inv
  obtain ⟨R, hR⟩ : ∃ R, R = findR L u id := ⟨_, rfl⟩
  rw [← hR]
  have HR := Lib.hid hR
  clear hm h h1 h2 hR
  go_enter Try.func37, Try.ntmps37
  go_wp2_with fail
  go_loopw [8] (fun i wr => ∃ k, k ≤ m ∧ i = .int .i64 k ∧ wr = w ∧ Hid (∀ j o, L[j]? = some o → j < k → ¬ ((o.u : Int) = u ∧ o.id = id))) (fun i _ => m - (intOf i).toNat)
  case atStart => exact ⟨0, Nat.zero_le _, rfl, rfl, Lib.hid (fun j o _ hj => by omega)⟩
  case round =>
    obtain ⟨k, hk, rfl, rfl, hno⟩ := hrel
    by_cases hlt : k < m
    · obtain ⟨o, ho⟩ : ∃ o, L[k]? = some o := ⟨L[k]'(by have := Hm.out; omega), List.getElem?_eq_getElem _⟩
      obtain ⟨g, rfl, d0, d1, d2⟩ := hcs k o ho
      have Ho := Lib.hid ho
      clear ho hcs
      have nxt : ¬ ((o.u : Int) = u ∧ o.id = id) → Hid (∀ j o, L[j]? = some o → j < k + 1 → ¬ ((o.u : Int) = u ∧ o.id = id)) := fun hne => Lib.hid (fun j o' ho' hj => by
        by_cases e : j = k
        · subst e
          rw [Ho.out] at ho'
          cases ho'
          exact hne
        · exact hno.out j o' ho' (by omega))
      by_cases e1 : (o.u : Int) = u
      · by_cases e2 : o.id = id
        · have hr : R = some o.slot := by
            rw [HR.out, ← e1, ← e2]
            exact findR_yes HI.out (List.mem_of_getElem? Ho.out)
          subst hr
          subst e1
          subst e2
          clear nxt hno
          try dsimp only [Option.getD, Option.isSome]
          go_wp2_with fail
          go_ret2
          exact ⟨rfl, rfl⟩
        · have n1 := nxt (fun e => e2 e.2)
          subst e1
          have b2 : ((o.id : Int) == (id : Int)) = false := by rw [beq_eq_false_iff_ne]; omega
          have b3 : ¬ (o.id : Int) = (id : Int) := by omega
          clear nxt hno
          go_wp2_with fail
          go_roundw
          case rel => exact ⟨k + 1, hlt, by go_num, trivial, n1⟩
          case measure => simp [intOf]; omega
      · have n1 := nxt (fun e => e1 e.1)
        have b1 : ((o.u : Int) == u) = false := by rw [beq_eq_false_iff_ne]; exact e1
        clear nxt hno
        go_wp2_with fail
        go_roundw
        case rel => exact ⟨k + 1, hlt, by go_num, trivial, n1⟩
        case measure => simp [intOf]; omega
    · have hr : R = none := by
        rw [HR.out]
        refine findR_no (fun o ho => ?_)
        obtain ⟨j, hj, e⟩ := List.getElem_of_mem ho
        exact hno.out j o (by rw [List.getElem?_eq_getElem hj, e]) (by have := Hm.out; omega)
      subst hr
      clear hno hcs
      try dsimp only [Option.getD, Option.isSome]
      go_wp2_with fail
      go_ret2
      exact ⟨rfl, rfl⟩

def lenR (L : List Out) (u : Int) : Nat := (L.filter (fun o => decide ((o.u : Int) = u))).length
theorem lenR_in {n : Nat} {L : List Out} (h : Inv n L) (u : Int) : lenR L u = lenI n L u := by
  unfold lenR lenI
  by_cases hu : 0 ≤ u ∧ u < n
  · rw [if_pos hu]
    unfold lenO
    congr 1
    refine List.filter_congr (fun o _ => ?_)
    unfold onU
    rw [decide_eq_decide]
    omega
  · rw [if_neg hu, List.length_eq_zero_iff, List.filter_eq_nil_iff]
    intro o ho
    have := h.us o ho
    simp
    omega
theorem lenR_succ {L : List Out} {k : Nat} {o : Out} (h : L[k]? = some o) (u : Int) : lenR (L.take (k + 1)) u = lenR (L.take k) u + if (o.u : Int) = u then 1 else 0 := by
  obtain ⟨hk, e⟩ := List.getElem?_eq_some_iff.1 h
  unfold lenR
  rw [List.take_succ_eq_append_getElem hk, e, List.filter_append, List.length_append]
  by_cases h : (o.u : Int) = u <;> simp [h]
theorem lenR_le (L : List Out) (u : Int) : lenR L u ≤ L.length := List.length_filter_le _ _
set_option maxRecDepth 1000000 in
set_option maxHeartbeats 6400000 in
theorem rlen_any {w : World} {x n : Nat} {L : List Out} (h : RT w x n L) (hL : L.length ≤ 100000) (u : Int) :
    Calls Try.prog 35 #[.pointer (some ⟨x, 0, none⟩), .int .i64 u] w fun e w' => e = .returned (.int .i64 (lenR L u : Nat)) ∧ w = w' := by
  obtain ⟨A, c, h1, h2⟩ := h.tab
  have c1 := h1.cell 1
  simp at c1
  obtain ⟨m, hm⟩ : ∃ m, m = L.length := ⟨_, rfl⟩
  rw [← hm] at c1 hL
  have hcs : ∀ k o, L[k]? = some o → ∃ g, A = some ⟨g, 0, none⟩ ∧ w.cell? ⟨g, k * 3, none⟩ = some (.int .i64 (o.u : Int)) ∧ w.cell? ⟨g, k * 3 + 1, none⟩ = some (.int .i64 o.slot) ∧ w.cell? ⟨g, k * 3 + 2, none⟩ = some (.int .u16 (o.id : Int)) := fun k o hk => own_cells3 h2 hk
  have Hm := Lib.hid hm
  clear hm h h1 h2
  go_enter Try.func35, Try.ntmps35
  go_wp2_with fail
  go_loopw [5, 6] (fun y i wr => ∃ k, k ≤ m ∧ i = .int .i64 k ∧ y = .int .i64 (lenR (L.take k) u : Nat) ∧ wr = w) (fun _ i _ => m - (intOf i).toNat)
  case atStart => exact ⟨0, Nat.zero_le _, rfl, rfl, rfl⟩
  case round =>
    obtain ⟨k, hk, rfl, rfl, rfl⟩ := hrel
    by_cases hlt : k < m
    · obtain ⟨o, ho⟩ : ∃ o, L[k]? = some o := ⟨L[k]'(by have := Hm.out; omega), List.getElem?_eq_getElem _⟩
      obtain ⟨g, rfl, d0, d1, d2⟩ := hcs k o ho
      have hs := lenR_succ ho u
      have hle := lenR_le (L.take k) u
      rw [List.length_take] at hle
      obtain ⟨a, ha⟩ : ∃ a, a = lenR (L.take k) u := ⟨_, rfl⟩
      rw [← ha] at hs hle ⊢
      clear ho hcs ha
      by_cases e1 : (o.u : Int) = u
      · subst e1
        rw [if_pos rfl] at hs
        have Hs := Lib.hid hs
        clear hs
        go_wp2_with fail
        go_roundw
        case rel => exact ⟨k + 1, hlt, by go_num, by rw [Hs.out]; go_num, trivial⟩
        case measure => simp [intOf]; omega
      · have b1 : ((o.u : Int) == u) = false := by rw [beq_eq_false_iff_ne]; exact e1
        rw [if_neg e1] at hs
        have Hs := Lib.hid hs
        clear hs
        go_wp2_with fail
        go_roundw
        case rel => exact ⟨k + 1, hlt, by go_num, by rw [Hs.out]; rfl, trivial⟩
        case measure => simp [intOf]; omega
    · obtain rfl : k = m := by omega
      rw [List.take_of_length_le (by rw [Hm.out]; omega)]
      clear hcs
      go_wp2_with fail
      go_ret
      exact ⟨rfl, rfl⟩
end Go.Proofs.Ythbapdajmpplhaa
