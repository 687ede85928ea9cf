/-
  Package zone: New.
-/
import Derived.Test.YtinjfongndlpgaaZoneAdd
import Derived.Test.YtinjfongndlpgaaRowAt
import Derived.Test.YtinjfongndlpgaaRowsOpen
namespace Go.Proofs.Ytinjfongndlpgaa
open Go.RowKit
set_option linter.unusedVariables false
set_option linter.unusedSimpArgs false

def zRow (l : List Zn) : List Value := (l.map zC).flatten
theorem zRow_at {l : List Zn} {i : Nat} {o : Zn} (h : l[i]? = some o) (j : Nat) (hj : j < 3) : (zRow l)[i * 3 + j]? = (zC o)[j]? := by
  unfold zRow
  rw [flatten_getElem? _ i j (by intro r hr; simp only [List.mem_map] at hr; obtain ⟨_, _, rfl⟩ := hr; rfl) hj, List.getElem?_map, h]
  rfl
theorem zRow_length (l : List Zn) : (zRow l).length = l.length * 3 := by
  unfold zRow
  rw [flatten_length (s := 3) _ (by intro r hr; simp only [List.mem_map] at hr; obtain ⟨_, _, rfl⟩ := hr; rfl), List.length_map]
theorem zRow_append (a b : List Zn) : zRow (a ++ b) = zRow a ++ zRow b := by unfold zRow; simp
theorem zRow_one (l : List Zn) : ∀ v ∈ zRow l, v.oneCell' = true := by
  intro v hv
  unfold zRow at hv
  simp only [List.mem_flatten, List.mem_map] at hv
  obtain ⟨r, ⟨z, _, rfl⟩, hv⟩ := hv
  simp only [zC, List.mem_cons, List.not_mem_nil, or_false] at hv
  rcases hv with rfl | rfl | rfl <;> rfl
/-- The bounds of a zone's numbers. -/
def okZ (z : Zn) : Prop := z.nm.size ≤ 30000 ∧ z.pol < 256 ∧ z.tr < 65536
theorem z3_cells {w : World} {B n : Nat} {C : Option Addr} {l : List Zn} (h : Reads w B 3 C n (zRow l)) (hl : l.length = n) {k : Nat} (hk : k < n) :
    ∃ bl off z, C = some ⟨bl, off, none⟩ ∧ bl < B ∧ l[k]? = some z ∧ z ∈ l ∧ w.cell? ⟨bl, off + k * 3, none⟩ = some (.string z.nm) ∧ w.cell? ⟨bl, off + k * 3 + 1, none⟩ = some (.int .u8 z.pol) ∧ w.cell? ⟨bl, off + k * 3 + 2, none⟩ = some (.int .u16 z.tr) := by
  obtain ⟨ad, e, hb, hc⟩ := h.2 (by omega)
  have hk' : k < l.length := by omega
  have hx : ∀ j, j < 3 → ∀ v, (zC l[k])[j]? = some v → w.cell? (ad.add (k * 3 + j)) = some v := fun j hj v hv => hc _ _ ((zRow_at (List.getElem?_eq_getElem hk') j hj).trans hv)
  obtain ⟨bl, off, spot⟩ := ad
  have hspot : spot = none := by
    have h0 := hc (0 * 3 + 0) _ (zRow_at (List.getElem?_eq_getElem (show 0 < l.length by omega)) 0 (by omega))
    have := World.cell?_spot h0
    simpa [Addr.add] using this
  subst hspot
  have c0 := hx 0 (by omega) _ rfl
  have c1 := hx 1 (by omega) _ rfl
  have c2 := hx 2 (by omega) _ rfl
  rw [addr_at] at c0 c1 c2
  exact ⟨bl, off, l[k], e, hb, List.getElem?_eq_getElem hk', List.getElem_mem hk', by simpa using c0, by rw [Nat.add_assoc]; exact c1, by rw [Nat.add_assoc]; exact c2⟩
theorem load_zn {w : World} {bl off : Nat} {z : Zn} (h0 : w.cell? ⟨bl, off, none⟩ = some (.string z.nm)) (h1 : w.cell? ⟨bl, off + 1, none⟩ = some (.int .u8 z.pol)) (h2 : w.cell? ⟨bl, off + 2, none⟩ = some (.int .u16 z.tr)) :
    (loadVar 35 ⟨bl, off, none⟩).run Try.prog w = .ok (.agg #[.string z.nm, .int .u8 z.pol, .int .u16 z.tr]) w :=
  run_loadVar_at w bl off _ (zC z) _ (cells3 h0 h1 h2) Try.underlying35 rfl (by kernel_rfl)
theorem newE_step {l : List Zn} {k : Nat} {z : Zn} (h : l[k]? = some z) : newE (l.take k) (l.drop k) = if add1 (l.take k) z = 0 then newE (l.take (k + 1)) (l.drop (k + 1)) else add1 (l.take k) z := by
  obtain ⟨hk, e⟩ := List.getElem?_eq_some_iff.1 h
  rw [List.drop_eq_getElem_cons hk, e, newE, List.take_succ_eq_append_getElem hk, e]

set_option maxRecDepth 1000000 in
set_option maxHeartbeats 6400000 in
theorem new_any (w : World) (A : Option Addr) (n c : Nat) (l : List Zn) (hl : l.length = n) (hr : Reads w w.heap.size 3 A n (zRow l)) (hok : ∀ z ∈ l, okZ z) (hn : n ≤ 1000000) :
    Calls Try.prog 11 #[.slice A n c] w fun e w' =>
      (Hid (errZ l = 0) ∧ ∃ t, e = .returned (.tuple #[.pointer (some ⟨t, 0, none⟩), .int .i64 0]) ∧ Tab w' w.heap.size t l ∧ Still w w') ∨
      (Hid (errZ l ≠ 0) ∧ e = .returned (.tuple #[.pointer none, .int .i64 (errZ l : Nat)]) ∧ Still w w') := by
  obtain ⟨r, hr0⟩ : ∃ r, r = errZ l := ⟨_, rfl⟩
  rw [← hr0]
  have HR := Lib.hid hr0
  clear hr0
  go_enter Try.func11, Try.ntmps11
  by_cases h16 : 16 < n
  · have he : errZ l = 5 := by unfold errZ; rw [if_pos (by omega)]
    have hd : decide ((n : Int) > 16) = true := decide_eq_true (by omega)
    go_wp2_with fail
    go_ret2
    exact .inr ⟨Lib.hid (by rw [HR.out, he]; decide), by rw [HR.out, he]; rfl, Only.refl _ _⟩
  · have he : errZ l = newE [] l := by unfold errZ; rw [if_neg (by omega)]
    have hd : decide ((n : Int) > 16) = false := decide_eq_false (by omega)
    have hmk : (Instr.makeMap 41 none).run Try.prog w = .ok (.map (some w.heap.size)) (w.alloc (.map #[] 0)) := rfl
    have hm1 := MapIs.made w Try.prog 3
    have hs1 := Still.new w (.map #[] 0)
    have hs2 := Still.new (w.alloc (.map #[] 0)) (.cells #[.map (some w.heap.size)] 43)
    have hm2 := hm1.still hs2
    have hb2 := Blk.at_ (w.alloc (.map #[] 0)) 43 #[.map (some w.heap.size)] (g := w.heap.size + 1) (by simp)
    have hT : Tab ((w.alloc (.map #[] 0)).alloc (.cells #[.map (some w.heap.size)] 43)) w.heap.size (w.heap.size + 1) [] :=
      ⟨w.heap.size, 0, fun _ => 0, Nat.le_succ _, Nat.le_refl _, hb2, Nat.le_refl _, hm2.turn (fun kl => by unfold outAt; split <;> rfl), fun L h => (by cases h), fun L L' h => (by cases h)⟩
    have hs2 := hs1.still hs2
    clear hs1 hm1 hm2 hb2
    go_wp2_with fail
    clear hmk
    generalize (w.alloc (.map #[] 0)).alloc (.cells #[.map (some w.heap.size)] 43) = w2 at *
    have HE := Lib.hid he
    clear he
    obtain ⟨q, hq⟩ : ∃ q, q = w.heap.size := ⟨_, rfl⟩
    rw [← hq] at hT ⊢
    have Hq := Lib.hid hq
    clear hq
    go_loopw [16] (fun i wr => ∃ k, k ≤ n ∧ i = .int .i64 k ∧ Tab wr q (q + 1) (l.take k) ∧ Still w wr ∧ Hid (newE [] l = newE (l.take k) (l.drop k))) (fun i _ => n - (intOf i).toNat)
    case atStart => exact ⟨0, Nat.zero_le _, rfl, hT, hs2, Lib.hid rfl⟩
    case round =>
      obtain ⟨k, hk, rfl, hTr, hst, heq⟩ := hrel
      by_cases hlt : k < n
      · have hrr := hr.only hst (Nat.le_refl _) (fun _ _ h => h)
        obtain ⟨bl, off, z, hA, hbl, hlk, hz, c0, c1, c2⟩ := z3_cells hrr hl hlt
        subst hA
        have hlz := hst.size
        have hld := load_zn c0 c1 c2
        obtain ⟨hz1, hz2, hz3⟩ := hok z hz
        have hstep := newE_step hlk
        have Hlk := Lib.hid hlk
        have Hst := Lib.hid hstep
        have hsn := Still.new wr (.cells #[.string z.nm, .int .u8 z.pol, .int .u16 z.tr] 35)
        have hBn := Blk.new wr 35 #[.string z.nm, .int .u8 z.pol, .int .u16 z.tr]
        have hTn := hTr.still hsn
        clear hlk hstep hz
        go_wp2_with fail
        have hxx : wr.heap.size = wr.heap.size := rfl
        refine (add_any _ q (q + 1) (l.take k) z hTn (by have := Hq.out; have := hsn.size; omega) (by rw [List.length_take]; omega) hz1 hz2 hz3).mono ?_
        rintro e w3 ⟨rfl, hT3, ho3⟩
        have hS3 : Still w w3 := (hst.still hsn).trans ho3 (fun i hi hq' => by have e' : q ≤ i := hq'; have := Hq.out; omega)
        clear ho3 hTn hTr hBn
        obtain ⟨m, hm⟩ : ∃ m, m = add1 (l.take k) z := ⟨_, rfl⟩
        rw [← hm] at hT3 ⊢
        have Hm := Lib.hid hm
        clear hm
        have hk1 : k + 1 ≤ n := by omega
        by_cases h0 : m = 0
        · subst h0
          go_wp2_with fail
          go_roundw
          case rel =>
            refine ⟨k + 1, hk1, by go_num, ?_, hS3, Lib.hid ?_⟩
            · obtain ⟨hk2, e2⟩ := List.getElem?_eq_some_iff.1 Hlk.out
              rw [List.take_succ_eq_append_getElem hk2, e2]
              exact hT3
            · rw [heq.out, Hst.out, if_pos Hm.out.symm]
          case measure => simp [intOf]; omega
        · have hd0 : decide ((m : Int) = 0) = false := decide_eq_false (by omega)
          have hd1 : ((m : Int) == 0) = false := by rw [beq_eq_false_iff_ne]; omega
          have hr : r = m := by rw [HR.out, HE.out, heq.out, Hst.out, if_neg (by rw [← Hm.out]; exact h0), ← Hm.out]
          subst hr
          go_wp2_with fail
          all_goals (go_ret2; exact .inr ⟨Lib.hid h0, rfl, hS3⟩)
      · obtain rfl : k = n := by omega
        have hr : r = 0 := by
          rw [HR.out, HE.out, heq.out, List.drop_eq_nil_iff.2 (by omega)]; rfl
        subst hr
        rw [List.take_of_length_le (by omega)] at hTr
        go_wp2_with fail
        go_ret2
        exact .inl ⟨Lib.hid (by trivial), _, rfl, by rw [← Hq.out]; exact hTr, hst⟩
end Go.Proofs.Ytinjfongndlpgaa
