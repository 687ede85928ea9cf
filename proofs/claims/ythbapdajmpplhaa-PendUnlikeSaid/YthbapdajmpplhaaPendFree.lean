/-
  Package pend: FreeAt, Free.
-/
import Derived.Test.YthbapdajmpplhaaPendDraw
namespace Go.Proofs.Ythbapdajmpplhaa
open Go.RowKit
open Go.Maps (Keyed)
set_option linter.unusedVariables false
set_option linter.unusedSimpArgs false

/-- What is left at u while the ones that are to come are told by a function. -/
def midO (slot : Int) (u : Nat) (left : Lit → Bool) (L : List Out) : List Out := L.filter (fun o => !(decide (o.slot = slot) && decide (o.u = u)) || left (.int .u16 (o.id : Int)))
theorem freeAt_no (slot : Int) {u : Nat} {ups : Nat} {L : List Out} (h : Inv ups L) (hu : ups ≤ u) : freeAtO slot u L = L := by
  unfold freeAtO
  rw [List.filter_eq_self]
  intro o ho
  have := h.us o ho
  have : ¬ o.u = u := by omega
  simp [this]

def slotIs (slot : Int) : Option Value → Bool
  | some (.int .i64 s) => decide (s = slot)
  | _ => false
theorem slotIs_atU (slot : Int) (L : List Out) (u i : Nat) : slotIs slot (atU L u (.int .u16 (i : Int))) = decide (findO L u i = some slot) := by
  rw [atU_nat]
  cases findO L u i with
  | none => rfl
  | some s => simp [slotIs]
/-- What lies in the map at u, going over it: entries of the slot are gone once they were come to. -/
def atMid (slot : Int) (L : List Out) (u : Nat) (left : Lit → Bool) : Lit → Option Value := fun kl => if (slotIs slot (atU L u kl) && !left kl) = true then none else atU L u kl
theorem atMid_start (slot : Int) (L : List Out) (u : Nat) : atMid slot L u (fun kl => (atU L u kl).isSome) = atU L u := by
  funext kl
  unfold atMid
  cases h : atU L u kl with
  | none => simp
  | some v =>
    rw [if_neg]
    simp [h]
theorem atMid_stay {slot : Int} {L : List Out} {u : Nat} {left : Lit → Bool} {kl : Lit} (h : slotIs slot (atU L u kl) = false) : atMid slot L u (fun z => left z && !z.sameKey kl) = atMid slot L u left := by
  funext x
  unfold atMid
  by_cases hx : x.sameKey kl = true
  · obtain rfl := WideAt.sameKey_eq hx
    simp [h]
  · have : x.sameKey kl = false := by simpa using hx
    simp [this]
theorem atMid_gone {slot : Int} {L : List Out} {u : Nat} {left : Lit → Bool} {kl : Lit} (h : slotIs slot (atU L u kl) = true) : atMid slot L u (fun z => left z && !z.sameKey kl) = del1 (atMid slot L u left) kl := by
  funext x
  unfold atMid del1
  by_cases hx : x.sameKey kl = true
  · obtain rfl := WideAt.sameKey_eq hx
    simp [h, hx]
  · have : x.sameKey kl = false := by simpa using hx
    simp [this]
theorem del1_twice (left : Lit → Bool) (kl : Lit) : (fun z => (left z && !z.sameKey kl) && !z.sameKey kl) = (fun z => left z && !z.sameKey kl) := by
  funext z
  cases left z <;> cases z.sameKey kl <;> rfl
theorem atMid_end {ups : Nat} {slot : Int} {L : List Out} (hI : Inv ups L) {u : Nat} {left : Lit → Bool} (hl : ∀ kl, left kl = false) : atMid slot L u left = atU (freeAtO slot u L) u := by
  funext kl
  unfold atMid atU
  split
  · rename_i kl' i
    rw [hl]
    have hsl := slotIs_atU slot L u i
    rw [atU_nat] at hsl
    simp only [hsl]
    clear hsl
    cases hf : findO L u i with
    | none =>
      have : findO (freeAtO slot u L) u i = none := by
        refine findO_none (isO_no.2 (fun o ho x => ?_))
        have := hI.find (List.mem_filter.1 ho).1
        rw [x.1, x.2, hf] at this
        cases this
      rw [this]
      simp
    | some s =>
      by_cases e : s = slot
      · subst e
        have : findO (freeAtO s u L) u i = none := findO_gone hI u i _ (fun o ho h1 h2 => by
          have := hI.find ho
          rw [h1, h2, hf] at this
          have := Option.some.inj this
          simp [← this, h1])
        rw [this]
        simp
      · have : findO (freeAtO slot u L) u i = findO L u i := findO_filter hI u i _ (fun o ho h1 h2 => by
          have := hI.find ho
          rw [h1, h2, hf] at this
          have := Option.some.inj this
          have : ¬ o.slot = slot := by rw [← this]; exact e
          simp [this])
        rw [this, hf]
        simp [e]
  · simp [slotIs]

def keysU (L : List Out) (u : Nat) : List Lit := (L.filter (onU u)).map (fun o => .int .u16 (o.id : Int))
theorem keysU_len (L : List Out) (u : Nat) : (keysU L u).length = lenO L u := by unfold keysU lenO; rw [List.length_map]
theorem keysU_nodup {ups : Nat} {L : List Out} (h : Inv ups L) (u : Nat) : (keysU L u).Nodup := by
  have h1 := onU_ids_nodup h u
  unfold keysU
  rw [List.Nodup, List.pairwise_map] at h1 ⊢
  refine h1.imp (fun {a b} hab e => hab ?_)
  injection e with _ e
  omega
theorem keysU_self (L : List Out) (u : Nat) : ∀ x ∈ keysU L u, x.sameKey x = true := by
  intro x hx
  obtain ⟨o, _, rfl⟩ := List.mem_map.1 hx
  exact WideAt.sameKey_self (by trivial)
theorem keysU_has (L : List Out) (u : Nat) (kl : Lit) : (atU L u kl).isSome = (keysU L u).any (fun y => y.sameKey kl) := by
  rw [Bool.eq_iff_iff, List.any_eq_true]
  constructor
  · intro h
    unfold atU at h
    split at h
    · rename_i i
      rw [Option.isSome_map, findO_isO] at h
      obtain ⟨o, ho, h1, h2⟩ := isO_iff.1 h
      subst h2
      exact ⟨_, List.mem_map.2 ⟨o, List.mem_filter.2 ⟨ho, by simp [onU, h1]⟩, rfl⟩, WideAt.sameKey_self (by trivial)⟩
    · cases h
  · rintro ⟨x, hx, e⟩
    obtain rfl := WideAt.sameKey_eq e
    obtain ⟨o, ho, rfl⟩ := List.mem_map.1 hx
    obtain ⟨h1, h2⟩ := List.mem_filter.1 ho
    rw [atU_nat, Option.isSome_map, findO_isO]
    exact isO_iff.2 ⟨o, h1, by simpa [onU] using h2, rfl⟩
theorem atU_int {L : List Out} {u : Nat} {kl : Lit} {v : Value} (h : atU L u kl = some v) : ∃ (i : Nat) (s : Int), kl = .int .u16 i ∧ v = .int .i64 s ∧ findO L u i = some s := by
  unfold atU at h
  split at h
  · rename_i i
    obtain ⟨s, hs, rfl⟩ := Option.map_eq_some_iff.1 h
    exact ⟨i, s, rfl, rfl, hs⟩
  · cases h
theorem atMid_le {slot : Int} {L : List Out} {u : Nat} {left : Lit → Bool} {kl : Lit} {v : Value} (h : atMid slot L u left kl = some v) : atU L u kl = some v := by
  unfold atMid at h
  split at h
  · cases h
  · exact h
theorem freeAt_len (slot : Int) (u : Nat) (L : List Out) : (freeAtO slot u L).length + (lenO L u - lenO (freeAtO slot u L) u) = L.length ∧ lenO (freeAtO slot u L) u ≤ lenO L u := by
  unfold freeAtO lenO
  induction L with
  | nil => simp
  | cons o r ih =>
    by_cases h1 : o.slot = slot <;> by_cases h2 : o.u = u <;> simp [h1, h2, onU] at ih ⊢ <;> omega

theorem PT.freed {w w' : World} {t u b : Nat} {bs : List Nat} {L : List Out} {slot : Int} (h : PT w t bs L) (hu : bs[u]? = some b)
    (hm : MapIs w' Try.prog 32 b (lenO (freeAtO slot u L) u) (atU (freeAtO slot u L) u)) (ho : Only (· = b) w w') : PT w' t bs (freeAtO slot u L) := by
  have hbm := List.mem_of_getElem? hu
  obtain ⟨A, c, h1, h2⟩ := h.tab
  obtain ⟨es, ck, hb⟩ := h.map_blk hbm
  refine ⟨⟨A, c, h1.only ho (fun e => ?_), own_only h2 ho (fun k hk e => ?_)⟩, h.nd, fun u2 b2 h3 => ?_, h.inv.filter _, h.nine⟩
  · subst e
    unfold Blk at h1
    rw [h1] at hb
    cases hb
  · subst e
    rcases h2.2 with ⟨e, _⟩ | ⟨g', cap, cur, e, _, hh, _⟩
    · rw [e] at hk; simp [Value.ownBlock] at hk
    · rw [e] at hk
      simp [Value.ownBlock] at hk
      subst hk
      rw [hh] at hb
      cases hb
  · by_cases e : u2 = u
    · subst e
      rw [hu] at h3
      cases h3
      exact hm
    · have hne : b2 ≠ b := fun e' => e (by
        subst e'
        obtain ⟨i1, j1⟩ := List.getElem?_eq_some_iff.1 h3
        obtain ⟨i2, j2⟩ := List.getElem?_eq_some_iff.1 hu
        exact (List.getElem_inj h.nd).1 (j1.trans j2.symm))
      have e2 : lenO (freeAtO slot u L) u2 = lenO L u2 := lenO_filter L u2 _ (fun o _ ho => by
        have : ¬ o.u = u := fun x => e (ho.symm.trans x)
        simp [this])
      have e3 : ∀ kl, atU L u2 kl = atU (freeAtO slot u L) u2 kl := fun kl => by
        unfold atU
        split
        · rename_i i
          rw [show findO (freeAtO slot u L) u2 i = findO L u2 i from findO_filter h.inv u2 i _ (fun o _ ho _ => by
            have : ¬ o.u = u := fun x => e (ho.symm.trans x)
            simp [this])]
        · rfl
      rw [e2]
      exact ((h.maps u2 b2 h3).only ho hne).turn e3

theorem mid_inv {slot : Int} {L : List Out} {u : Nat} {left : Lit → Bool} (key : Value) (kl : Lit) (v : Value) (hk : keyOf Try.prog 32 key = some kl) (hM : atMid slot L u left kl = some v) : ∃ (x : Nat) (c : Int), key = .int .u16 (x : Int) ∧ v = .int .i64 c := by
  obtain ⟨i, s, rfl, rfl, _⟩ := atU_int (atMid_le hM)
  obtain ⟨x, ex, el, _⟩ := Maps.keyOf_int_inv Try.underlying32 hk
  cases el
  exact ⟨i, s, ex, rfl⟩

set_option maxRecDepth 1000000 in
set_option maxHeartbeats 3200000 in
theorem freeAt_in {w : World} {t : Nat} {bs : List Nat} {L : List Out} (h : PT w t bs L) (slot : Int) (u : Nat) (hu : u < bs.length) :
    Calls Try.prog 15 #[.pointer (some ⟨t, 0, none⟩), .int .i64 slot, .int .i64 u] w fun e w' =>
      e = .returned (.int .i64 (L.length - (freeAtO slot u L).length : Nat)) ∧ PT w' t bs (freeAtO slot u L) ∧ Only (· ∈ bs) w w' := by
  have hb : bs[u]? = some bs[u] := List.getElem?_eq_getElem hu
  obtain ⟨b, hbb⟩ : ∃ b, b = bs[u] := ⟨_, rfl⟩
  rw [← hbb] at hb
  clear hbb
  have hm0 := h.maps u b hb
  have hbm := List.mem_of_getElem? hb
  have hlen := hm0.len Try.underlying69
  have hcnt := freeAt_len slot u L
  obtain ⟨m, hm⟩ : ∃ m, m = lenO L u := ⟨_, rfl⟩
  rw [← hm] at hlen hcnt hm0
  obtain ⟨m', hm'⟩ : ∃ m', m' = lenO (freeAtO slot u L) u := ⟨_, rfl⟩
  rw [← hm'] at hcnt
  obtain ⟨r, hr⟩ : ∃ r, r = L.length - (freeAtO slot u L).length := ⟨_, rfl⟩
  rw [← hr]
  have hrm : (r : Int) = m - m' := by omega
  have Hm := Lib.hid hm
  have Hm' := Lib.hid hm'
  have Hrm := Lib.hid hrm
  have Hmax := Lib.hid (h.inv.len_max u)
  clear hm hm' hrm hr hcnt
  have H := Lib.hid h
  go_enter Try.func15, Try.ntmps15
  go_wp2_with (first
    | (go_at_call 32; refine (at_in H.out u _ hb).mono ?_; rintro e w' ⟨rfl, rfl⟩)
    | (at_range; refine wpList_mapRange _ rfl _ 69 rfl 32 3 klaw_u16 Try.underlying69 b _ _ rfl hm0 ?_; intro w0 hrg0 hg0 hs0))
  go_frame
  obtain ⟨q, hq⟩ : ∃ q, q = w.heap.size := ⟨_, rfl⟩
  rw [← hq] at hrg0 ⊢
  have Hq := Lib.hid hq
  clear hq
  go_loopw [9] (fun _ wr => ∃ left cnt, MapOn wr Try.prog 32 b q m (atMid slot L u left) left cnt ∧ Only (· = b) w wr) (fun _ wr => wr.rangeLeft b q)
  case atStart => exact ⟨_, _, by rw [atMid_start]; exact hrg0, Only.of_still hg0 _⟩
  case round =>
    obtain ⟨left, cnt, hrg, hO⟩ := hrel
    go_wp2_with (at_next; refine wpList_mapNext (α := Nat) (γ := Int) _ rfl _ rfl 32 klaw_u16 _ (fun i => .int .u16 (i : Int)) (fun _ s => .int .i64 s) b q _ _ _ mid_inv rfl hrg ?_ ?_)
    · intro _ hl0
      have hB := hrg.back klaw_u16 (keysU (freeAtO slot u L) u) (keysU_nodup (H.out.inv.filter _) u) (keysU_self _ u) (fun kl => by rw [atMid_end H.out.inv hl0]; exact keysU_has _ u kl)
      rw [atMid_end H.out.inv hl0, keysU_len, ← Hm'.out] at hB
      have hl2 := hB.len Try.underlying69
      rw [Hm'.out] at hB
      have e1 := Hrm.out
      have e2 := Hm'.out
      have hP := H.out.freed hb hB hO
      have hO2 : Only (· ∈ bs) w wr := hO.mono (fun i _ e => by rw [e]; exact hbm)
      clear hrg hB hO hl0 hm0 hlen
      have Hmax2 := Hmax.out
      have Hm2 := Hm.out
      have hle := (freeAt_len slot u L).2
      have hw : IntKind.i64.wrap ((m : Int) - m') = r := by rw [IntKind.wrap_i64]; omega
      clear e1 e2 Hmax2 Hm2 hle
      go_wp2_with fail
      go_ret
      exact ⟨rfl, hP, hO2⟩
    · intro i s kl w1 cnt1 hkey hlx hM hrg1 hlt hg1 hs1 hen
      by_cases hs : s = slot
      · subst hs
        go_wp2_with (at_delete; refine wpList_mapDel _ rfl _ _ 69 32 rfl 3 klaw_u16 Try.underlying69 b q m _ _ _ rfl hrg1 _ kl rfl hkey ?_; intro w2 cnt2 hrg2 hle ho2 hz2; go_frame)
        obtain ⟨i', s', e1, e2, hf⟩ := atU_int (atMid_le hM)
        cases e2
        have hsl : slotIs s (atU L u kl) = true := by rw [atMid_le hM]; simp [slotIs]
        rw [← atMid_gone hsl, del1_twice] at hrg2
        go_roundw
        case rel => exact ⟨_, cnt2, hrg2, (hO.trans hg1 (fun i hi e => by have e' : i = q := e; have := Hq.out; omega)).trans ho2 (fun _ _ e => e)⟩
        case measure => rw [hrg2.left_eq, hrg.left_eq]; omega
      · have hd0 : decide (s = slot) = false := decide_eq_false hs
        have hd1 : (s == slot) = false := by rw [beq_eq_false_iff_ne]; exact hs
        go_wp2_with fail
        have hsl : slotIs slot (atU L u kl) = false := by rw [atMid_le hM]; simp [slotIs, hs]
        go_roundw
        case rel => exact ⟨_, cnt1, by rw [atMid_stay hsl]; exact hrg1, hO.trans hg1 (fun i hi e => by have e' : i = q := e; have := Hq.out; omega)⟩
        case measure => rw [hrg1.left_eq, hrg.left_eq]; exact hlt
set_option maxRecDepth 1000000 in
theorem freeAt_out {w : World} {t : Nat} {bs : List Nat} {L : List Out} (h : PT w t bs L) (slot u : Int) (hu : u < 0 ∨ (bs.length : Int) ≤ u) :
    Calls Try.prog 15 #[.pointer (some ⟨t, 0, none⟩), .int .i64 slot, .int .i64 u] w fun e w' => e = .returned (.int .i64 0) ∧ Still w w' := by
  have hrg := fun w => run_range_nilMap (P := Try.prog) w 69 32 3 Try.underlying69
  have hnx : ∀ ty, (Instr.next (.pointer (some ⟨w.heap.size, 0, none⟩)) false ty).run Try.prog (w.alloc (.mapIter none 0 #[] 0)) = _ := fun ty => run_next_nilMap w ty 0 0 #[]
  go_enter Try.func15, Try.ntmps15
  go_wp2_with (go_at_call 32; refine (at_out h u hu).mono ?_; rintro e w' ⟨rfl, rfl⟩)
  refine wp_loop_rounds 1 ?_
  rw [rounds_succ]
  go_wp2
  go_ret
  exact ⟨rfl, Still.new _ _⟩
set_option maxRecDepth 1000000 in
theorem freeAt_nil (slot u : Int) (w : World) :
    Calls Try.prog 15 #[.pointer none, .int .i64 slot, .int .i64 u] w fun e w' => e = .returned (.int .i64 0) ∧ Still w w' := by
  have hrg := fun w => run_range_nilMap (P := Try.prog) w 69 32 3 Try.underlying69
  have hnx : ∀ ty, (Instr.next (.pointer (some ⟨w.heap.size, 0, none⟩)) false ty).run Try.prog (w.alloc (.mapIter none 0 #[] 0)) = _ := fun ty => run_next_nilMap w ty 0 0 #[]
  go_enter Try.func15, Try.ntmps15
  go_wp2_with (go_at_call 32; refine (at_nil u w).mono ?_; rintro e w' ⟨rfl, rfl⟩)
  refine wp_loop_rounds 1 ?_
  rw [rounds_succ]
  go_wp2
  go_ret
  exact ⟨rfl, Still.new _ _⟩

/-- Freed at the first k upstreams. -/
def freeTo (slot : Int) (k : Nat) (L : List Out) : List Out := L.filter (fun o => !(decide (o.slot = slot) && decide (o.u < k)))
theorem freeTo_zero (slot : Int) (L : List Out) : freeTo slot 0 L = L := by
  unfold freeTo
  rw [List.filter_eq_self]
  intro o _
  simp
theorem freeTo_succ (slot : Int) (k : Nat) (L : List Out) : freeAtO slot k (freeTo slot k L) = freeTo slot (k + 1) L := by
  unfold freeTo freeAtO
  rw [List.filter_filter]
  refine List.filter_congr (fun o _ => ?_)
  by_cases h1 : o.slot = slot
  · by_cases h2 : o.u = k
    · simp [h1, h2]
    · by_cases h3 : o.u < k
      · have : o.u < k + 1 := by omega
        simp [h1, h2, h3, this]
      · have : ¬ o.u < k + 1 := by omega
        simp [h1, h2, h3, this]
  · simp [h1]
theorem freeTo_all {ups : Nat} {L : List Out} (h : Inv ups L) (slot : Int) : freeTo slot ups L = freeO slot L := by
  unfold freeTo freeO
  refine List.filter_congr (fun o ho => ?_)
  have := h.us o ho
  simp [this]
theorem freeTo_le (slot : Int) (k : Nat) (L : List Out) : (freeTo slot (k + 1) L).length ≤ (freeTo slot k L).length := by
  rw [← freeTo_succ]
  exact List.length_filter_le _ _
theorem freeTo_le0 (slot : Int) (k : Nat) (L : List Out) : (freeTo slot k L).length ≤ L.length := List.length_filter_le _ _

set_option maxRecDepth 1000000 in
set_option maxHeartbeats 3200000 in
theorem free_any {w : World} {t : Nat} {bs : List Nat} {L : List Out} (h : PT w t bs L) (slot : Int) (hL : L.length ≤ 10000000) :
    Calls Try.prog 16 #[.pointer (some ⟨t, 0, none⟩), .int .i64 slot] w fun e w' =>
      e = .returned (.int .i64 (L.length - (freeO slot L).length : Nat)) ∧ PT w' t bs (freeO slot L) ∧ Only (· ∈ bs) w w' := by
  have H := Lib.hid h
  obtain ⟨A, c, h1, h2⟩ := h.tab
  have c0 := h1.cell 0
  simp at c0
  clear h1 h2 h
  obtain ⟨n, hn⟩ : ∃ n, n = bs.length := ⟨_, rfl⟩
  rw [← hn] at c0
  have hn9 : n ≤ 9 := by rw [hn]; exact H.out.nine
  have Hn := Lib.hid hn
  clear hn
  go_enter Try.func16, Try.ntmps16
  go_wp2_with fail
  go_loopw [5, 6, 14] (fun x _ i wr => ∃ k, k ≤ n ∧ i = .int .i64 k ∧ x = .int .i64 (L.length - (freeTo slot k L).length : Nat) ∧ PT wr t bs (freeTo slot k L) ∧ Only (· ∈ bs) w wr) (fun _ _ i _ => n - (intOf i).toNat)
  case atStart => exact ⟨0, Nat.zero_le _, rfl, by rw [freeTo_zero]; simp, by rw [freeTo_zero]; exact H.out, Only.refl _ _⟩
  case round =>
    obtain ⟨k, hk, rfl, rfl, hP, hO⟩ := hrel
    by_cases hlt : k < n
    · have hkb : k < bs.length := by have := Hn.out; omega
      obtain ⟨m, hm⟩ : ∃ m, m = L.length - (freeTo slot k L).length := ⟨_, rfl⟩
      obtain ⟨r, hr⟩ : ∃ r, r = (freeTo slot k L).length - (freeAtO slot k (freeTo slot k L)).length := ⟨_, rfl⟩
      rw [← hm]
      have hle := freeTo_le slot k L
      have hle0 := freeTo_le0 slot k L
      have hsum : m + r = L.length - (freeTo slot (k + 1) L).length := by rw [hm, hr, freeTo_succ]; omega
      have hw : IntKind.i64.wrap ((m : Int) + r) = ((m + r : Nat) : Int) := by rw [IntKind.wrap_i64]; omega
      have Hm := Lib.hid hm
      have Hr := Lib.hid hr
      have Hs := Lib.hid hsum
      clear hm hr hsum hle hle0
      go_wp2_with (go_at_call 15; refine (freeAt_in hP slot k hkb).mono ?_; rintro e w1 ⟨rfl, hP1, hO1⟩; rw [← Hr.out])
      rw [freeTo_succ] at hP1
      go_roundw
      case rel => exact ⟨k + 1, hlt, by go_num, by rw [← Hs.out]; rfl, hP1, hO.trans hO1 (fun _ _ h => h)⟩
      case measure => simp [intOf]; omega
    · obtain rfl : k = n := by omega
      rw [Hn.out, freeTo_all H.out.inv] at hP ⊢
      go_wp2_with fail
      go_ret
      exact ⟨rfl, hP, hO⟩
theorem free_nil (slot : Int) (w : World) :
    Calls Try.prog 16 #[.pointer none, .int .i64 slot] w fun e w' => e = .returned (.int .i64 0) ∧ w = w' := by
  go_enter Try.func16, Try.ntmps16
  go_wp2
  go_ret
  exact ⟨rfl, rfl⟩
end Go.Proofs.Ythbapdajmpplhaa
