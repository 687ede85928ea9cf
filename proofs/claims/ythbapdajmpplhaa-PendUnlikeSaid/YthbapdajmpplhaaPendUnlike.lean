/-
  PendUnlike: of those that are out at an upstream no two are the same; each is found, for its slot, and no other one is; for any table, any tape, any acts.
-/
import Derived.Test.YthbapdajmpplhaaPendFreeL
import Derived.Test.YthbapdajmpplhaaPendRef
import Derived.Test.YthbapdajmpplhaaThree
import Derived.BigQuiet
import Derived.Deep.CutRange
import Derived.Deep.DeepCutAuto
namespace Go.Proofs.Ythbapdajmpplhaa
open Go.RowKit
set_option linter.unusedVariables false
set_option linter.unusedSimpArgs false

def usV (L : List Out) : List Value := L.map (fun o => .int .i64 (o.u : Int))
def ssV (L : List Out) : List Value := L.map (fun o => .int .i64 o.slot)
def isV (L : List Out) : List Value := L.map (fun o => .int .u16 (o.id : Int))
theorem info_i64 : (Try.prog.info? 3).map (fun i => (i.zero, i.size, i.bytes)) = some (some (.int .i64 0), 1, 8) := by kernel_rfl
theorem info_u16 : (Try.prog.info? 32).map (fun i => (i.zero, i.size, i.bytes)) = some (some (.int .u16 0), 1, 2) := by kernel_rfl
theorem usV_len (L : List Out) : (usV L).length = L.length := by unfold usV; simp
theorem ssV_len (L : List Out) : (ssV L).length = L.length := by unfold ssV; simp
theorem isV_len (L : List Out) : (isV L).length = L.length := by unfold isV; simp
/-- The law's own book of what is out: three rows. -/
structure Book (w : World) (q : Nat) (u v i : Value) (L : List Out) : Prop where
  ru : w.ownsRow q 3 1 u L.length (usV L)
  rv : w.ownsRow q 3 1 v L.length (ssV L)
  ri : w.ownsRow q 32 1 i L.length (isV L)
  suv : Sep u v
theorem Book.nil (w : World) (q : Nat) : Book w q (.slice none 0 0) (.slice none 0 0) (.slice none 0 0) [] :=
  ⟨World.ownsRow_nil _ _ _ _, World.ownsRow_nil _ _ _ _, World.ownsRow_nil _ _ _ _, fun k h => by cases h⟩
section
variable {w w' : World} {q : Nat} {u v i : Value} {L : List Out}
theorem Book.only {S : Nat → Prop} (h : Book w q u v i L) (o : Only S w w') (hS : ∀ k, S k → k < q) : Book w' q u v i L :=
  ⟨own_only h.ru o (fun k e s => by have := (h.ru.lt k e).1; have := hS k s; omega), own_only h.rv o (fun k e s => by have := (h.rv.lt k e).1; have := hS k s; omega), own_only h.ri o (fun k e s => by have := (h.ri.lt k e).1; have := hS k s; omega), h.suv⟩
theorem Book.still (h : Book w q u v i L) (o : Still w w') : Book w' q u v i L := h.only o (fun _ h => h.elim)
theorem Book.three (h : Book w q u v i L) : Three w w q u v i u v i (usV L) (ssV L) (isV L) [] :=
  .start (by rw [usV_len]; exact h.ru) (by rw [ssV_len]; exact h.rv) (by rw [isV_len]; exact h.ri) h.suv (sep_type h.ru h.ri (by decide)) (sep_type h.rv h.ri (by decide))
theorem Three.book {wd : World} {u0 v0 i0 : Value} {arrs : List (Nat × Value)} {o : Out} (h : Three wd w q u0 v0 i0 u v i (usV L ++ [.int .i64 (o.u : Int)]) (ssV L ++ [.int .i64 o.slot]) (isV L ++ [.int .u16 (o.id : Int)]) arrs) : Book w q u v i (L ++ [o]) := by
  have e1 : usV (L ++ [o]) = usV L ++ [.int .i64 (o.u : Int)] := by unfold usV; simp
  have e2 : ssV (L ++ [o]) = ssV L ++ [.int .i64 o.slot] := by unfold ssV; simp
  have e3 : isV (L ++ [o]) = isV L ++ [.int .u16 (o.id : Int)] := by unfold isV; simp
  have l1 := usV_len (L ++ [o])
  have l2 := ssV_len (L ++ [o])
  have l3 := isV_len (L ++ [o])
  have r1 := h.ru
  have r2 := h.rv
  have r3 := h.ri
  rw [← e1, l1] at r1
  rw [← e2, l2] at r2
  rw [← e3, l3] at r3
  exact ⟨r1, r2, r3, h.suv⟩
end
theorem row_cell {w : World} {q n c : Nat} {e : TypeId} {A : Option Addr} {xs : List Value} (h : w.ownsRow q e 1 (.slice A n c) n xs) {k : Nat} {x : Value} (hk : xs[k]? = some x) : ∃ g, A = some ⟨g, 0, none⟩ ∧ q ≤ g ∧ w.cell? ⟨g, k, none⟩ = some x := by
  have hlt := (List.getElem?_eq_some_iff.1 hk).1
  have hl := h.1
  rcases h.2 with ⟨e, h0⟩ | ⟨g', cap, cur, e, hq, hh, _⟩
  · omega
  · cases e
    have ha : (⟨g', 0, none⟩ : Addr).add k = ⟨g', k, none⟩ := by unfold Addr.add; split <;> simp_all
    have x0 := h.cells (g := g') rfl k _ hk
    rw [ha] at x0
    exact ⟨g', rfl, hq, x0⟩
theorem book_cells {w : World} {q n c1 c2 c3 : Nat} {A1 A2 A3 : Option Addr} {L : List Out} (h : Book w q (.slice A1 n c1) (.slice A2 n c2) (.slice A3 n c3) L) (hn : n = L.length) {k : Nat} {o : Out} (hk : L[k]? = some o) :
    ∃ g1 g2 g3, A1 = some ⟨g1, 0, none⟩ ∧ A2 = some ⟨g2, 0, none⟩ ∧ A3 = some ⟨g3, 0, none⟩ ∧ w.cell? ⟨g1, k, none⟩ = some (.int .i64 (o.u : Int)) ∧ w.cell? ⟨g2, k, none⟩ = some (.int .i64 o.slot) ∧ w.cell? ⟨g3, k, none⟩ = some (.int .u16 (o.id : Int)) := by
  subst hn
  obtain ⟨g1, e1, _, d1⟩ := row_cell h.ru (x := .int .i64 (o.u : Int)) (by unfold usV; rw [List.getElem?_map, hk]; rfl)
  obtain ⟨g2, e2, _, d2⟩ := row_cell h.rv (x := .int .i64 o.slot) (by unfold ssV; rw [List.getElem?_map, hk]; rfl)
  obtain ⟨g3, e3, _, d3⟩ := row_cell h.ri (x := .int .u16 (o.id : Int)) (by unfold isV; rw [List.getElem?_map, hk]; rfl)
  exact ⟨g1, g2, g3, e1, e2, e3, d1, d2, d3⟩
theorem book_shape {w : World} {q : Nat} {u v i : Value} {L : List Out} (h : Book w q u v i L) : ∃ A1 c1 A2 c2 A3 c3, u = .slice A1 L.length c1 ∧ v = .slice A2 L.length c2 ∧ i = .slice A3 L.length c3 := by
  obtain ⟨A1, c1, e1⟩ := own_shape h.ru
  obtain ⟨A2, c2, e2⟩ := own_shape h.rv
  obtain ⟨A3, c3, e3⟩ := own_shape h.ri
  exact ⟨A1, c1, A2, c2, A3, c3, e1, e2, e3⟩

theorem own_type {w : World} {b sz n k : Nat} {e T : TypeId} {v : Value} {xs : List Value} {cs : Array Value} (h : w.ownsRow b e sz v n xs) (hk : v.ownBlock = some k) (hc : w.heap[k]? = some (.cells cs T (0, 0))) : T = e := by
  rcases h.2 with ⟨rfl, _⟩ | ⟨g, cap, cur, rfl, _, hh, _⟩
  · simp [Value.ownBlock] at hk
  · simp [Value.ownBlock] at hk
    subst hk
    rw [hh] at hc
    cases hc
    rfl
section
variable {wd w w' : World} {q : Nat} {u0 v0 i0 u v i : Value} {xu xv xi : List Value} {arrs : List (Nat × Value)} {L0 L : List Out} {t g n : Nat} {bs : List Nat} {seed : Int} {xs : List Int}
theorem Three.cell_type (h : Three wd w' q u0 v0 i0 u v i xu xv xi arrs) (hb : Book wd q u0 v0 i0 L0) : ∀ k, (u0.ownBlock = some k ∨ v0.ownBlock = some k ∨ i0.ownBlock = some k) → q ≤ k ∧ ∀ cs T, wd.heap[k]? = some (.cells cs T (0, 0)) → T = 3 ∨ T = 32 := fun k e => by
  rcases e with e | e | e
  · exact ⟨(hb.ru.lt k e).1, fun cs T hc => .inl (own_type hb.ru e hc)⟩
  · exact ⟨(hb.rv.lt k e).1, fun cs T hc => .inl (own_type hb.rv e hc)⟩
  · exact ⟨(hb.ri.lt k e).1, fun cs T hc => .inr (own_type hb.ri e hc)⟩
theorem Three.pt (h : Three wd w' q u0 v0 i0 u v i xu xv xi arrs) (hb : Book wd q u0 v0 i0 L0) (hP : PT wd t bs L) (hlt : ∀ b ∈ bs, b < q) : PT w' t bs L :=
  hP.only h.only (fun k e hk => by have := (h.cell_type hb k e).1; have := hlt k hk; omega) (fun k e cs T hc => by
    rcases (h.cell_type hb k e).2 cs T hc with rfl | rfl
    · exact ⟨by decide, by decide⟩
    · exact ⟨by decide, by decide⟩)
theorem Three.tp (h : Three wd w' q u0 v0 i0 u v i xu xv xi arrs) (hb : Book wd q u0 v0 i0 L0) (hT : Tape wd g seed xs n) (hlt : g < q) : Tape w' g seed xs n :=
  hT.only h.only (fun e => by have := (h.cell_type hb g e).1; omega) (fun k T cs e hc => by
    rcases (h.cell_type hb k e).2 cs T hc with rfl | rfl
    · exact ⟨by decide, by decide⟩
    · exact ⟨by decide, by decide⟩)
theorem Three.stl (h : Three wd w' q u0 v0 i0 u v i xu xv xi arrs) (hb : Book wd q u0 v0 i0 L0) (hs : Still w wd) (hq : w.heap.size ≤ q) : Still w w' :=
  hs.trans h.only (fun k hk e => by have := (h.cell_type hb k e).1; omega)
theorem Three.blk {qa : Nat} {T : TypeId} {cs : Array Value} (h : Three wd w' q u0 v0 i0 u v i xu xv xi arrs) (hb : Book wd q u0 v0 i0 L0) (hB : Blk wd qa T cs) (h1 : T ≠ 3) (h2 : T ≠ 32) : Blk w' qa T cs :=
  hB.only h.only (fun e => by
    rcases (h.cell_type hb qa e).2 cs T hB with e | e
    · exact h1 e
    · exact h2 e)
/-- Another book, all below. -/
theorem Three.bk {q' : Nat} {u1 v1 i1 : Value} {L1 : List Out} (h : Three wd w' q u0 v0 i0 u v i xu xv xi arrs) (hb : Book wd q u0 v0 i0 L0) (hB : Book wd q' u1 v1 i1 L1) (hu : ∀ k, (u1.ownBlock = some k ∨ v1.ownBlock = some k ∨ i1.ownBlock = some k) → k < q) : Book w' q' u1 v1 i1 L1 :=
  ⟨own_only hB.ru h.only (fun k e s => by have := (h.cell_type hb k s).1; have := hu k (.inl e); omega), own_only hB.rv h.only (fun k e s => by have := (h.cell_type hb k s).1; have := hu k (.inr (.inl e)); omega),
   own_only hB.ri h.only (fun k e s => by have := (h.cell_type hb k s).1; have := hu k (.inr (.inr e)); omega), hB.suv⟩
end
theorem Book.base {w : World} {q q2 : Nat} {u v i : Value} {L : List Out} (h : Book w q2 u v i L) (hq : q ≤ q2) : Book w q u v i L :=
  ⟨own_base h.ru hq, own_base h.rv hq, own_base h.ri hq, h.suv⟩
theorem Book.ub {w : World} {q : Nat} {u v i : Value} {L : List Out} (h : Book w q u v i L) : ∀ k, (u.ownBlock = some k ∨ v.ownBlock = some k ∨ i.ownBlock = some k) → k < w.heap.size := fun k e => by
  rcases e with e | e | e
  · exact (h.ru.lt k e).2
  · exact (h.rv.lt k e).2
  · exact (h.ri.lt k e).2
theorem next_free {n : Nat} {L : List Out} (h : Inv n L) (u s : Nat) (hl : lenO L u < 65536) : ∀ o ∈ L, ¬ (o.u = u ∧ o.id = nextO L u s) :=
  isO_no.1 (stepsO_spec h u s hl).2.1

/-- What an act frees, of the ones that are out. -/
def goneB (a b s : Int) (o : Out) : Bool := (decide (a = 1) && decide (o.slot = s)) || (decide (a = 2) && decide (o.slot = s) && decide ((o.u : Int) = b))
theorem doL_gone {n : Nat} {L : List Out} (h : Inv n L) (seed : Int) (xs : List Int) (a b s : Int) (q : Nat) (ha : a ≠ 0) : doL n seed xs (a, b, s) (L, q) = (L.filter (fun o => !goneB a b s o), q) := by
  unfold doL
  dsimp only
  rw [if_neg ha]
  by_cases h1 : a = 1
  · rw [if_pos h1]
    subst h1
    unfold freeO
    congr 1
    refine List.filter_congr (fun o _ => ?_)
    simp [goneB]
  · rw [if_neg h1]
    by_cases h2 : a = 2
    · rw [if_pos h2]
      subst h2
      congr 1
      unfold freeAtI
      split
      · rename_i hb
        unfold freeAtO
        refine List.filter_congr (fun o _ => ?_)
        have : decide ((o.u : Int) = b) = decide (o.u = b.toNat) := by rw [decide_eq_decide]; omega
        simp [goneB, this]
      · rename_i hb
        rw [List.filter_eq_self.2]
        intro o ho
        have := h.us o ho
        have : ¬ (o.u : Int) = b := by omega
        simp [goneB, this]
    · rw [if_neg h2, List.filter_eq_self.2]
      intro o _
      simp [goneB, h1, h2]
theorem filt_succ {L : List Out} {k : Nat} {o : Out} (h : L[k]? = some o) (p : Out → Bool) : (L.take (k + 1)).filter p = (L.take k).filter p ++ if p o = true then [o] else [] := by
  obtain ⟨hk, e⟩ := List.getElem?_eq_some_iff.1 h
  rw [List.take_succ_eq_append_getElem hk, e, List.filter_append]
  by_cases h : p o = true <;> simp [h]

set_option maxRecDepth 1000000 in
set_option maxHeartbeats 25600000 in
theorem unlike_walk (w : World) (ups : Int) (seed : Int) (hs : 0 ≤ seed ∧ seed < 18446744073709551616) (A : Option Addr) (n c : Nat) (xs : List Int) (hA : A = none → n = 0 ∧ c = 0)
    (hr : Reads w w.heap.size 1 A n (xs.map (.int .u64))) (hx : ∀ x ∈ xs, 0 ≤ x ∧ x < 18446744073709551616)
    (A2 : Option Addr) (m c2 : Nat) (l : List A3) (hl : l.length = m) (hr2 : Reads w w.heap.size 3 A2 m (a3Cells l)) :
    Calls Try.prog 5 #[.int .i64 ups, .int .u64 seed, .slice A n c, .slice A2 m c2] w fun e w' => e = .returned (.bool true) ∧ Still w w' := by
  by_cases hbig : m ≤ 200 ∧ n ≤ 300
  · obtain ⟨hm, hn⟩ := hbig
    obtain ⟨ii, hii, hiz, hi1, hi2⟩ := info_parts info_i64
    obtain ⟨iu, hiu, huz, hu1, hu2⟩ := info_parts info_u16
    obtain ⟨N1, hN, hN1, hN9⟩ := n9 ups
    have HN := Lib.hid hN
    have Hx := Lib.hid hx
    have Hl := Lib.hid hl
    clear hN hx hl
    have g1 : ¬ (200 : Int) < (m : Int) := by omega
    have g2 : ¬ (300 : Int) < (n : Int) := by omega
    go_enter Try.func5, Try.ntmps5
    go_wp2_with fail
    refine (pend_awake _).mono ?_
    rintro e w0 ⟨rfl, ho0⟩
    go_wp2_with fail
    refine (made_any w0 ups N1 HN.out seed hs A n c xs hA ((hr.only ho0 (Nat.le_refl _) (fun _ _ h => h)).more ho0.size) Hx.out hn none 0 0 [] rfl (by omega) Reads.none_).mono ?_
    rintro e w1 ⟨t, bs, g, rfl, hlen, hP1, hT1, ht1, hg1, hb1, hst1⟩
    have hs1 : Hid (Still w w1) := Lib.hid (ho0.still hst1)
    have hge1 : ∀ i ∈ bs, w.heap.size ≤ i := fun i hi => by have := hb1 i hi; have := ho0.size; omega
    have hgw : w.heap.size ≤ g := by have := ho0.size; omega
    have Hlen := Lib.hid hlen
    have hltb : ∀ i ∈ bs, i < w1.heap.size := fun i hi => hP1.b_lt hi
    have hltg : g < w1.heap.size := hT1.lt
    have hP1 : PT w1 t bs [] := hP1
    have hT1 : Tape w1 g seed xs 0 := hT1
    clear hlen ho0 hst1 ht1 hg1 hb1 hr g1 g2
    obtain ⟨q, hq⟩ : ∃ q, q = w1.heap.size := ⟨_, rfl⟩
    rw [← hq] at hltb hltg
    have hqw : q ≤ w1.heap.size := by omega
    have hwq : w.heap.size ≤ q := by rw [hq]; exact hs1.out.size
    clear hq
    go_wp2_with fail
    go_loopw [12, 13, 14, 15, 16, 17, 18, 19, 20, 21, 22, 23, 24] (fun a1 a2 a3 i _ _ _ _ _ _ _ _ _ wr => ∃ (k d : Nat) (L : List Out) (B1 B2 B3 : Option Addr) (c1 c2 c3 : Nat), k ≤ m ∧ i = .int .i64 k ∧ a1 = .slice B1 L.length c1 ∧ a2 = .slice B2 L.length c2 ∧ a3 = .slice B3 L.length c3 ∧ PT wr t bs L ∧ Tape wr g seed xs d ∧ Book wr q (.slice B1 L.length c1) (.slice B2 L.length c2) (.slice B3 L.length c3) L ∧ L.length ≤ k ∧ d ≤ k ∧ q ≤ wr.heap.size ∧ Hid (Still w wr)) (fun _ _ _ i _ _ _ _ _ _ _ _ _ _ => m - (intOf i).toNat)
    case atStart => exact ⟨0, 0, [], none, none, none, 0, 0, 0, Nat.zero_le _, rfl, rfl, rfl, rfl, hP1, hT1, Book.nil _ _, by simp, Nat.le_refl _, hqw, hs1⟩
    case round =>
      clear hP1 hT1 hqw hs1
      obtain ⟨k, d, L, B1, B2, B3, c1, c2, c3, hk, rfl, rfl, rfl, rfl, hP, hT, hB, hLk, hdk, hqr, hst⟩ := hrel
      by_cases hlt : k < m
      · have hrr := hr2.only hst.out (Nat.le_refl _) (fun _ _ h => h)
        obtain ⟨bl, off, a, b, s, rfl, hbl, hlk, d0, d1, d2⟩ := a3_cells hrr Hl.out hlt
        have hs0 := Still.new wr (.cells #[.int .u8 a, .int .i64 b, .int .i64 s] 52)
        have hP0 := hP.still hs0
        have hT0 := hT.still hs0
        have hBk0 := hB.still hs0
        have hz0 : Hid (Still w _) := Lib.hid (hst.out.still hs0)
        have hA0 := Blk.new wr 52 #[.int .u8 a, .int .i64 b, .int .i64 s]
        have hab : ∀ i ∈ bs, i ≠ wr.heap.size := fun i hi e => by have := hP.b_lt hi; omega
        have hag : g ≠ wr.heap.size := fun e => by have := hT.lt; omega
        have hq0 : q ≤ (wr.alloc (.cells #[.int .u8 a, .int .i64 b, .int .i64 s] 52)).heap.size := by have := hs0.size; omega
        clear hP hT hB hst hrr hs0 hlk
        by_cases ha0 : a = 0
        · subst ha0
          go_wp2_with fail
          generalize wr.alloc (.cells #[.int .u8 0, .int .i64 b, .int .i64 s] 52) = w0 at *
          generalize wr.heap.size = qa at *
          have y1 := hA0.cell 1
          have y2 := hA0.cell 2
          simp at y1 y2
          by_cases hok : okD bs.length b s
          · obtain ⟨bu, rfl⟩ : ∃ bu : Nat, b = bu := ⟨b.toNat, by have := hok.1; omega⟩
            have hll : lenO L bu < 65536 := by have := lenO_le L bu; omega
            have hno := next_free hP0.inv bu (low16 (draw seed xs d)) hll
            refine (draw_in hP0 hT0 (by omega) bu s (by have := hok.2.1; omega) hok.2.2 hll).mono ?_
            rintro e w5 ⟨rfl, hP5, hT5, ho5⟩
            obtain ⟨id, hid⟩ : ∃ id, id = nextO L bu (low16 (draw seed xs d)) := ⟨_, rfl⟩
            rw [← hid] at hP5 hno ⊢
            clear hid hll
            have hBk5 := hBk0.only ho5 (fun i e => e.elim (fun e => hltb i e) (fun e => by omega))
            have hA5 := hA0.only ho5 (fun e => e.elim (fun e => hab _ e rfl) (fun e => hag e.symm))
            have hz5 : Hid (Still w w5) := Lib.hid (hz0.out.trans ho5 (fun i hi e => e.elim (fun e => by have := hge1 i e; omega) (fun e => by omega)))
            have hq5 : q ≤ w5.heap.size := by have := ho5.size; omega
            clear hP0 hT0 hBk0 hz0 hA0 ho5 y1 y2 hq0
            have y1 := hA5.cell 1
            have y2 := hA5.cell 2
            simp at y1 y2
            have hcs : ∀ j o, L[j]? = some o → _ := fun j o hj => book_cells hBk5 rfl hj
            go_wp2_with fail
            go_loopw [19] (fun i wr' => ∃ j dd, j ≤ L.length ∧ i = .int .i64 j ∧ wr' = w5.drewN dd) (fun i _ => L.length - (intOf i).toNat)
            case atStart => exact ⟨0, 0, Nat.zero_le _, rfl, rfl⟩
            case round =>
              obtain ⟨j, dd, hj, rfl, rfl⟩ := hrel
              by_cases hlt2 : j < L.length
              · obtain ⟨o, ho⟩ : ∃ o, L[j]? = some o := ⟨L[j], List.getElem?_eq_getElem _⟩
                obtain ⟨gg1, gg2, gg3, rfl, rfl, rfl, z1, z2, z3⟩ := hcs j o ho
                have hne := hno o (List.mem_of_getElem? ho)
                clear hcs hno ho
                by_cases e1 : o.u = bu
                · have e2 : ¬ o.id = id := fun e => hne ⟨e1, e⟩
                  have b2 : ((o.id : Int) == (id : Int)) = false := by rw [beq_eq_false_iff_ne]; omega
                  have b3 : decide ((o.id : Int) = (id : Int)) = false := decide_eq_false (by omega)
                  subst e1
                  clear hne e2
                  go_wp2_with fail
                  go_quiet (fail)
                  go_wp2_with fail
                  go_roundw
                  case rel => exact ⟨j + 1, _, hlt2, by go_num, rfl⟩
                  case measure => simp [intOf]; omega
                · have b2 : ((o.u : Int) == (bu : Int)) = false := by rw [beq_eq_false_iff_ne]; omega
                  have b3 : decide ((o.u : Int) = (bu : Int)) = false := decide_eq_false (by omega)
                  clear hne
                  go_wp2_with fail
                  go_quiet (fail)
                  go_wp2_with fail
                  go_roundw
                  case rel => exact ⟨j + 1, _, hlt2, by go_num, rfl⟩
                  case measure => simp [intOf]; omega
              · clear hcs hno
                have hsd : Still w5 (w5.drewN dd) := (Only.refl _ w5).drewN dd
                have hP6 := hP5.still hsd
                have hT6 := hT5.still hsd
                have hBk6 := hBk5.still hsd
                have hA6 := hA5.only hsd (fun h => h)
                have hz6 : Hid (Still w (w5.drewN dd)) := Lib.hid (hz5.out.still hsd)
                have hq6 : q ≤ (w5.drewN dd).heap.size := hq5
                clear hP5 hT5 hBk5 hA5 hz5 hq5 y1 y2 hsd
                go_wp2_with fail
                generalize w5.drewN dd = w6 at *
                go_cut [12, 13, 14] from 97 to 110 (fun v12 v13 v14 wx => ∃ D1 e1 D2 e2 D3 e3, v12 = .slice D1 (L.length + 1) e1 ∧ v13 = .slice D2 (L.length + 1) e2 ∧ v14 = .slice D3 (L.length + 1) e3 ∧ Book wx q (.slice D1 (L.length + 1) e1) (.slice D2 (L.length + 1) e2) (.slice D3 (L.length + 1) e3) (L ++ [⟨bu, s, id⟩]) ∧ PT wx t bs (L ++ [⟨bu, s, id⟩]) ∧ Tape wx g seed xs (d + 1) ∧ q ≤ wx.heap.size ∧ Hid (Still w wx))
                case first =>
                  have hs0 : Still w6 w6.drew := (Only.refl _ _).drew
                  replace hP6 := hP6.still hs0
                  replace hT6 := hT6.still hs0
                  replace hBk6 := hBk6.still hs0
                  replace hA6 := hA6.only hs0 (fun h => h)
                  replace hz6 : Hid (Still w w6.drew) := Lib.hid (hz6.out.still hs0)
                  replace hq6 : q ≤ w6.drew.heap.size := hq6
                  clear hs0
                  refine wp_region_held_drew (S := fun w' => Only (fun k => (Value.slice B1 L.length c1).ownBlock = some k ∨ (Value.slice B2 L.length c2).ownBlock = some k ∨ (Value.slice B3 L.length c3).ownBlock = some k) w6.drew w') (by kernel_rfl) (Only.refl _ _) (fun hS => ?_)
                  generalize w6.drew = wd at *
                  have hTh0 : Three wd wd q (Value.slice B1 L.length c1) (Value.slice B2 L.length c2) (Value.slice B3 L.length c3) (Value.slice B1 L.length c1) (Value.slice B2 L.length c2) (Value.slice B3 L.length c3) (usV L) (ssV L) (isV L) [] := hBk6.three
                  have y1 := hA6.cell 1
                  have y2 := hA6.cell 2
                  simp at y1 y2
                  have hna : ¬ (fun k => (Value.slice B1 L.length c1).ownBlock = some k ∨ (Value.slice B2 L.length c2).ownBlock = some k ∨ (Value.slice B3 L.length c3).ownBlock = some k) qa := fun e => e.elim (own_blk_ne hBk6.ru hA6 (by decide)) (fun e => e.elim (own_blk_ne hBk6.rv hA6 (by decide)) (own_blk_ne hBk6.ri hA6 (by decide)))
                  (refine take_p (i := 0) (v := ?_) rfl (by kernel_rfl) (by kernel_rfl) (by kernel_rfl) (fun _ _ _ h => h) (Or.inl ⟨by rfl, ?_⟩) hS ?_; rotate_left; (focus (intro w0_ hSw; have z1_ := hSw.cell_some hna y1; have z2_ := hSw.cell_some hna y2; go_simp; try with_reducible rfl)); try simp only [Act.put, List.setIfInBounds_toArray, List.set_cons_zero, List.set_cons_succ])
                  (refine take_p (i := 1) (v := ?_) rfl (by kernel_rfl) (by kernel_rfl) (by kernel_rfl) (fun _ _ _ h => h) (Or.inl ⟨by rfl, ?_⟩) hS ?_; rotate_left; (focus (intro w0_ hSw; have z1_ := hSw.cell_some hna y1; have z2_ := hSw.cell_some hna y2; go_simp; try with_reducible rfl)); try simp only [Act.put, List.setIfInBounds_toArray, List.set_cons_zero, List.set_cons_succ])
                  (refine take_p (i := 2) (v := ?_) rfl (by kernel_rfl) (by kernel_rfl) (by kernel_rfl) (fun _ _ _ h => h) (Or.inl ⟨by rfl, ?_⟩) hS ?_; rotate_left; (focus (intro w0_ hSw; have z1_ := hSw.cell_some hna y1; have z2_ := hSw.cell_some hna y2; go_simp; try with_reducible rfl)); try simp only [Act.put, List.setIfInBounds_toArray, List.set_cons_zero, List.set_cons_succ])
                  (refine take_p (i := 5) (v := ?_) rfl (by kernel_rfl) (by kernel_rfl) (by kernel_rfl) (fun _ _ _ h => h) (Or.inl ⟨by rfl, ?_⟩) hS ?_; rotate_left; (focus (intro w0_ hSw; have z1_ := hSw.cell_some hna y1; have z2_ := hSw.cell_some hna y2; go_simp; try with_reducible rfl)); try simp only [Act.put, List.setIfInBounds_toArray, List.set_cons_zero, List.set_cons_succ])
                  (refine take_p (i := 6) (v := ?_) rfl (by kernel_rfl) (by kernel_rfl) (by kernel_rfl) (fun _ _ _ h => h) (Or.inl ⟨by rfl, ?_⟩) hS ?_; rotate_left; (focus (intro w0_ hSw; have z1_ := hSw.cell_some hna y1; have z2_ := hSw.cell_some hna y2; go_simp; try with_reducible rfl)); try simp only [Act.put, List.setIfInBounds_toArray, List.set_cons_zero, List.set_cons_succ])
                  (refine take_p (i := 7) (v := ?_) rfl (by kernel_rfl) (by kernel_rfl) (by kernel_rfl) (fun _ _ _ h => h) (Or.inl ⟨by rfl, ?_⟩) hS ?_; rotate_left; (focus (intro w0_ hSw; have z1_ := hSw.cell_some hna y1; have z2_ := hSw.cell_some hna y2; go_simp; try with_reducible rfl)); try simp only [Act.put, List.setIfInBounds_toArray, List.set_cons_zero, List.set_cons_succ])
                  (refine take_p (i := 10) (v := ?_) rfl (by kernel_rfl) (by kernel_rfl) (by kernel_rfl) (fun _ _ _ h => h) (Or.inl ⟨by rfl, ?_⟩) hS ?_; rotate_left; (focus (intro w0_ hSw; have z1_ := hSw.cell_some hna y1; have z2_ := hSw.cell_some hna y2; go_simp; try with_reducible rfl)); try simp only [Act.put, List.setIfInBounds_toArray, List.set_cons_zero, List.set_cons_succ])
                  (refine take_p (i := 11) (v := ?_) rfl (by kernel_rfl) (by kernel_rfl) (by kernel_rfl) (fun _ _ _ h => h) (Or.inl ⟨by rfl, ?_⟩) hS ?_; rotate_left; (focus (intro w0_ hSw; have z1_ := hSw.cell_some hna y1; have z2_ := hSw.cell_some hna y2; go_simp; try with_reducible rfl)); try simp only [Act.put, List.setIfInBounds_toArray, List.set_cons_zero, List.set_cons_succ])
                  refine wpAnyH_ready (rs := [3, 8, 12]) (by kernel_rfl) (by simp) ?_
                  refine cons_p rfl (fun K_ hK => ?_) (cons_p rfl (fun K_ hK => ?_) (cons_p rfl (fun K_ hK => ?_) AllReadyH.nil))
                  · as_aux_lemma =>
                      have hTh1 := hTh0.build (.int .i64 (bu : Int)) 3
                      refine step_build1 rfl 61 3 (.tmp 99) rfl .i64 _ rfl ii _ Try.underlying61 hii hiz hi1 ?_
                      refine hK.out _ _ hTh1.only (fun hHeld => ?_)
                      clear hK K_ hHeld
                      try simp only [Act.put, List.setIfInBounds_toArray, List.set_cons_zero, List.set_cons_succ]
                      replace hS := hTh1.only
                      generalize hwx1 : wd.alloc (.cells #[.int .i64 (bu : Int)] 3) = wx1 at hTh1 hS ⊢
                      obtain ⟨ga, hga⟩ : ∃ g, g = wd.heap.size := ⟨_, rfl⟩
                      rw [← hga] at hTh1 ⊢
                      clear hwx1 hga
                      refine wpAnyH_ready (rs := [4, 8, 12]) (by kernel_rfl) (by simp) ?_
                      refine cons_p rfl (fun K_ hK => ?_) (cons_p rfl (fun K_ hK => ?_) (cons_p rfl (fun K_ hK => ?_) AllReadyH.nil))
                      · as_aux_lemma =>
                          refine step_append_any rfl (.tmp 97) (.tmp 100) 61 rfl q 3 ii (.int .i64 0) 1 8 Try.underlying61 hii hiz hi1 hi2 rfl (by decide) _ _ _ rfl hTh1.ru _ (some ⟨ga, 0, none⟩) 1 1 [.int .i64 (bu : Int)] rfl (hTh1.reads (by simp)) (by intro y hy; rw [List.mem_singleton.1 hy]; rfl) (by have := usV_len L; have := ssV_len L; have := isV_len L; unfold maxLen; omega) (by have := usV_len L; have := ssV_len L; have := isV_len L; omega) (by have := hTh1.only.size; have := hq6; omega) ?_
                          intro rowu wx2 hown hgrow hblk
                          have hTh2 := hTh1.grow_u hown hgrow hblk
                          refine hK.out _ _ hTh2.only (fun hHeld => ?_)
                          clear hK K_ hHeld hown hgrow hblk
                          try simp only [Act.put, List.setIfInBounds_toArray, List.set_cons_zero, List.set_cons_succ]
                          replace hS := hTh2.only
                          refine wpAnyH_ready (rs := [8, 12]) (by kernel_rfl) (by simp) ?_
                          refine cons_p rfl (fun K_ hK => ?_) (cons_p rfl (fun K_ hK => ?_) AllReadyH.nil)
                          · as_aux_lemma =>
                              have hTh3 := hTh2.build (.int .i64 s) 3
                              refine step_build1 rfl 61 3 (.tmp 104) rfl .i64 _ rfl ii _ Try.underlying61 hii hiz hi1 ?_
                              refine hK.out _ _ hTh3.only (fun hHeld => ?_)
                              clear hK K_ hHeld
                              try simp only [Act.put, List.setIfInBounds_toArray, List.set_cons_zero, List.set_cons_succ]
                              replace hS := hTh3.only
                              generalize hwx3 : wx2.alloc (.cells #[.int .i64 s] 3) = wx3 at hTh3 hS ⊢
                              obtain ⟨gb, hgb⟩ : ∃ g, g = wx2.heap.size := ⟨_, rfl⟩
                              rw [← hgb] at hTh3 ⊢
                              clear hwx3 hgb
                              refine wpAnyH_ready (rs := [9, 12]) (by kernel_rfl) (by simp) ?_
                              refine cons_p rfl (fun K_ hK => ?_) (cons_p rfl (fun K_ hK => ?_) AllReadyH.nil)
                              · as_aux_lemma =>
                                  refine step_append_any rfl (.tmp 102) (.tmp 105) 61 rfl q 3 ii (.int .i64 0) 1 8 Try.underlying61 hii hiz hi1 hi2 rfl (by decide) _ _ _ rfl hTh3.rv _ (some ⟨gb, 0, none⟩) 1 1 [.int .i64 s] rfl (hTh3.reads (by simp)) (by intro y hy; rw [List.mem_singleton.1 hy]; rfl) (by have := usV_len L; have := ssV_len L; have := isV_len L; unfold maxLen; omega) (by have := usV_len L; have := ssV_len L; have := isV_len L; omega) (by have := hTh3.only.size; have := hq6; omega) ?_
                                  intro rowv wx4 hown hgrow hblk
                                  have hTh4 := hTh3.grow_v hown hgrow hblk
                                  refine hK.out _ _ hTh4.only (fun hHeld => ?_)
                                  clear hK K_ hHeld hown hgrow hblk
                                  try simp only [Act.put, List.setIfInBounds_toArray, List.set_cons_zero, List.set_cons_succ]
                                  replace hS := hTh4.only
                                  refine wpAnyH_ready (rs := [12]) (by kernel_rfl) (by simp) ?_
                                  refine cons_p rfl (fun K_ hK => ?_) AllReadyH.nil
                                  have hTh5 := hTh4.build (.int .u16 (id : Int)) 32
                                  refine step_build1 rfl 62 32 (.tmp 108) rfl .u16 _ rfl iu _ Try.underlying62 hiu huz hu1 ?_
                                  refine hK.out _ _ hTh5.only (fun hHeld => ?_)
                                  clear hK K_ hHeld
                                  try simp only [Act.put, List.setIfInBounds_toArray, List.set_cons_zero, List.set_cons_succ]
                                  replace hS := hTh5.only
                                  generalize hwx5 : wx4.alloc (.cells #[.int .u16 (id : Int)] 32) = wx5 at hTh5 hS ⊢
                                  obtain ⟨gc, hgc⟩ : ∃ g, g = wx4.heap.size := ⟨_, rfl⟩
                                  rw [← hgc] at hTh5 ⊢
                                  clear hwx5 hgc
                                  refine wpAnyH_ready (rs := [13]) (by kernel_rfl) (by simp) ?_
                                  refine cons_p rfl (fun K_ hK => ?_) AllReadyH.nil
                                  refine step_append_any rfl (.tmp 107) (.tmp 109) 62 rfl q 32 iu (.int .u16 0) 1 2 Try.underlying62 hiu huz hu1 hu2 rfl (by decide) _ _ _ rfl hTh5.ri _ (some ⟨gc, 0, none⟩) 1 1 [.int .u16 (id : Int)] rfl (hTh5.reads (by simp)) (by intro y hy; rw [List.mem_singleton.1 hy]; rfl) (by have := usV_len L; have := ssV_len L; have := isV_len L; unfold maxLen; omega) (by have := usV_len L; have := ssV_len L; have := isV_len L; omega) (by have := hTh5.only.size; have := hq6; omega) ?_
                                  intro rowi wx6 hown hgrow hblk
                                  have hTh6 := hTh5.grow_i hown hgrow hblk
                                  refine hK.out _ _ hTh6.only (fun hHeld => ?_)
                                  clear hK K_ hHeld hown hgrow hblk
                                  try simp only [Act.put, List.setIfInBounds_toArray, List.set_cons_zero, List.set_cons_succ]
                                  replace hS := hTh6.only
                                  (refine take_p (i := 14) (v := ?_) rfl (by kernel_rfl) (by kernel_rfl) (by kernel_rfl) (fun _ _ _ h => h) (Or.inl ⟨by rfl, ?_⟩) hS ?_; rotate_left; (focus (intro w0_ hSw; go_simp; try with_reducible rfl)); try simp only [Act.put, List.setIfInBounds_toArray, List.set_cons_zero, List.set_cons_succ])
                                  (refine take_p (i := 15) (v := ?_) rfl (by kernel_rfl) (by kernel_rfl) (by kernel_rfl) (fun _ _ _ h => h) (Or.inl ⟨by rfl, ?_⟩) hS ?_; rotate_left; (focus (intro w0_ hSw; go_simp; try with_reducible rfl)); try simp only [Act.put, List.setIfInBounds_toArray, List.set_cons_zero, List.set_cons_succ])
                                  (refine take_p (i := 16) (v := ?_) rfl (by kernel_rfl) (by kernel_rfl) (by kernel_rfl) (fun _ _ _ h => h) (Or.inl ⟨by rfl, ?_⟩) hS ?_; rotate_left; (focus (intro w0_ hSw; go_simp; try with_reducible rfl)); try simp only [Act.put, List.setIfInBounds_toArray, List.set_cons_zero, List.set_cons_succ])
                                  refine wpAnyH_done (by kernel_rfl) ?_ _
                                  have hBn := hTh6.book (o := ⟨bu, s, id⟩)
                                  have hPn := hTh6.pt hBk6 hP6 hltb
                                  have hTn := hTh6.tp hBk6 hT6 hltg
                                  have hzn : Hid (Still w wx6) := Lib.hid (hTh6.stl hBk6 hz6.out hwq)
                                  have hqn : q ≤ wx6.heap.size := by have := hTh6.only.size; omega
                                  obtain ⟨D1, e1, D2, e2, D3, e3, r1, r2, r3⟩ := book_shape hBn
                                  subst r1 r2 r3
                                  rw [List.length_append, List.length_singleton] at hBn ⊢
                                  clear hTh0 hTh1 hTh2 hTh3 hTh4 hTh5 hTh6 hBk6 hP6 hT6 hz6 hS y1 y2 hna
                                  go_wp2_with fail
                                  go_meet
                                  exact ⟨D1, e1, D2, e2, D3, e3, rfl, rfl, rfl, hBn, hPn, hTn, hqn, hzn⟩
                              · as_aux_lemma =>
                                  have hTh4 := hTh3.build (.int .u16 (id : Int)) 32
                                  refine step_build1 rfl 62 32 (.tmp 108) rfl .u16 _ rfl iu _ Try.underlying62 hiu huz hu1 ?_
                                  refine hK.out _ _ hTh4.only (fun hHeld => ?_)
                                  clear hK K_ hHeld
                                  try simp only [Act.put, List.setIfInBounds_toArray, List.set_cons_zero, List.set_cons_succ]
                                  replace hS := hTh4.only
                                  generalize hwx4 : wx3.alloc (.cells #[.int .u16 (id : Int)] 32) = wx4 at hTh4 hS ⊢
                                  obtain ⟨gc, hgc⟩ : ∃ g, g = wx3.heap.size := ⟨_, rfl⟩
                                  rw [← hgc] at hTh4 ⊢
                                  clear hwx4 hgc
                                  refine wpAnyH_ready (rs := [9]) (by kernel_rfl) (by simp) ?_
                                  refine cons_p rfl (fun K_ hK => ?_) AllReadyH.nil
                                  refine step_append_any rfl (.tmp 102) (.tmp 105) 61 rfl q 3 ii (.int .i64 0) 1 8 Try.underlying61 hii hiz hi1 hi2 rfl (by decide) _ _ _ rfl hTh4.rv _ (some ⟨gb, 0, none⟩) 1 1 [.int .i64 s] rfl (hTh4.reads (by simp)) (by intro y hy; rw [List.mem_singleton.1 hy]; rfl) (by have := usV_len L; have := ssV_len L; have := isV_len L; unfold maxLen; omega) (by have := usV_len L; have := ssV_len L; have := isV_len L; omega) (by have := hTh4.only.size; have := hq6; omega) ?_
                                  intro rowv wx5 hown hgrow hblk
                                  have hTh5 := hTh4.grow_v hown hgrow hblk
                                  refine hK.out _ _ hTh5.only (fun hHeld => ?_)
                                  clear hK K_ hHeld hown hgrow hblk
                                  try simp only [Act.put, List.setIfInBounds_toArray, List.set_cons_zero, List.set_cons_succ]
                                  replace hS := hTh5.only
                                  refine wpAnyH_ready (rs := [13]) (by kernel_rfl) (by simp) ?_
                                  refine cons_p rfl (fun K_ hK => ?_) AllReadyH.nil
                                  refine step_append_any rfl (.tmp 107) (.tmp 109) 62 rfl q 32 iu (.int .u16 0) 1 2 Try.underlying62 hiu huz hu1 hu2 rfl (by decide) _ _ _ rfl hTh5.ri _ (some ⟨gc, 0, none⟩) 1 1 [.int .u16 (id : Int)] rfl (hTh5.reads (by simp)) (by intro y hy; rw [List.mem_singleton.1 hy]; rfl) (by have := usV_len L; have := ssV_len L; have := isV_len L; unfold maxLen; omega) (by have := usV_len L; have := ssV_len L; have := isV_len L; omega) (by have := hTh5.only.size; have := hq6; omega) ?_
                                  intro rowi wx6 hown hgrow hblk
                                  have hTh6 := hTh5.grow_i hown hgrow hblk
                                  refine hK.out _ _ hTh6.only (fun hHeld => ?_)
                                  clear hK K_ hHeld hown hgrow hblk
                                  try simp only [Act.put, List.setIfInBounds_toArray, List.set_cons_zero, List.set_cons_succ]
                                  replace hS := hTh6.only
                                  (refine take_p (i := 14) (v := ?_) rfl (by kernel_rfl) (by kernel_rfl) (by kernel_rfl) (fun _ _ _ h => h) (Or.inl ⟨by rfl, ?_⟩) hS ?_; rotate_left; (focus (intro w0_ hSw; go_simp; try with_reducible rfl)); try simp only [Act.put, List.setIfInBounds_toArray, List.set_cons_zero, List.set_cons_succ])
                                  (refine take_p (i := 15) (v := ?_) rfl (by kernel_rfl) (by kernel_rfl) (by kernel_rfl) (fun _ _ _ h => h) (Or.inl ⟨by rfl, ?_⟩) hS ?_; rotate_left; (focus (intro w0_ hSw; go_simp; try with_reducible rfl)); try simp only [Act.put, List.setIfInBounds_toArray, List.set_cons_zero, List.set_cons_succ])
                                  (refine take_p (i := 16) (v := ?_) rfl (by kernel_rfl) (by kernel_rfl) (by kernel_rfl) (fun _ _ _ h => h) (Or.inl ⟨by rfl, ?_⟩) hS ?_; rotate_left; (focus (intro w0_ hSw; go_simp; try with_reducible rfl)); try simp only [Act.put, List.setIfInBounds_toArray, List.set_cons_zero, List.set_cons_succ])
                                  refine wpAnyH_done (by kernel_rfl) ?_ _
                                  have hBn := hTh6.book (o := ⟨bu, s, id⟩)
                                  have hPn := hTh6.pt hBk6 hP6 hltb
                                  have hTn := hTh6.tp hBk6 hT6 hltg
                                  have hzn : Hid (Still w wx6) := Lib.hid (hTh6.stl hBk6 hz6.out hwq)
                                  have hqn : q ≤ wx6.heap.size := by have := hTh6.only.size; omega
                                  obtain ⟨D1, e1, D2, e2, D3, e3, r1, r2, r3⟩ := book_shape hBn
                                  subst r1 r2 r3
                                  rw [List.length_append, List.length_singleton] at hBn ⊢
                                  clear hTh0 hTh1 hTh2 hTh3 hTh4 hTh5 hTh6 hBk6 hP6 hT6 hz6 hS y1 y2 hna
                                  go_wp2_with fail
                                  go_meet
                                  exact ⟨D1, e1, D2, e2, D3, e3, rfl, rfl, rfl, hBn, hPn, hTn, hqn, hzn⟩
                          · as_aux_lemma =>
                              have hTh3 := hTh2.build (.int .u16 (id : Int)) 32
                              refine step_build1 rfl 62 32 (.tmp 108) rfl .u16 _ rfl iu _ Try.underlying62 hiu huz hu1 ?_
                              refine hK.out _ _ hTh3.only (fun hHeld => ?_)
                              clear hK K_ hHeld
                              try simp only [Act.put, List.setIfInBounds_toArray, List.set_cons_zero, List.set_cons_succ]
                              replace hS := hTh3.only
                              generalize hwx3 : wx2.alloc (.cells #[.int .u16 (id : Int)] 32) = wx3 at hTh3 hS ⊢
                              obtain ⟨gc, hgc⟩ : ∃ g, g = wx2.heap.size := ⟨_, rfl⟩
                              rw [← hgc] at hTh3 ⊢
                              clear hwx3 hgc
                              refine wpAnyH_ready (rs := [8]) (by kernel_rfl) (by simp) ?_
                              refine cons_p rfl (fun K_ hK => ?_) AllReadyH.nil
                              have hTh4 := hTh3.build (.int .i64 s) 3
                              refine step_build1 rfl 61 3 (.tmp 104) rfl .i64 _ rfl ii _ Try.underlying61 hii hiz hi1 ?_
                              refine hK.out _ _ hTh4.only (fun hHeld => ?_)
                              clear hK K_ hHeld
                              try simp only [Act.put, List.setIfInBounds_toArray, List.set_cons_zero, List.set_cons_succ]
                              replace hS := hTh4.only
                              generalize hwx4 : wx3.alloc (.cells #[.int .i64 s] 3) = wx4 at hTh4 hS ⊢
                              obtain ⟨gb, hgb⟩ : ∃ g, g = wx3.heap.size := ⟨_, rfl⟩
                              rw [← hgb] at hTh4 ⊢
                              clear hwx4 hgb
                              refine wpAnyH_ready (rs := [9]) (by kernel_rfl) (by simp) ?_
                              refine cons_p rfl (fun K_ hK => ?_) AllReadyH.nil
                              refine step_append_any rfl (.tmp 102) (.tmp 105) 61 rfl q 3 ii (.int .i64 0) 1 8 Try.underlying61 hii hiz hi1 hi2 rfl (by decide) _ _ _ rfl hTh4.rv _ (some ⟨gb, 0, none⟩) 1 1 [.int .i64 s] rfl (hTh4.reads (by simp)) (by intro y hy; rw [List.mem_singleton.1 hy]; rfl) (by have := usV_len L; have := ssV_len L; have := isV_len L; unfold maxLen; omega) (by have := usV_len L; have := ssV_len L; have := isV_len L; omega) (by have := hTh4.only.size; have := hq6; omega) ?_
                              intro rowv wx5 hown hgrow hblk
                              have hTh5 := hTh4.grow_v hown hgrow hblk
                              refine hK.out _ _ hTh5.only (fun hHeld => ?_)
                              clear hK K_ hHeld hown hgrow hblk
                              try simp only [Act.put, List.setIfInBounds_toArray, List.set_cons_zero, List.set_cons_succ]
                              replace hS := hTh5.only
                              refine wpAnyH_ready (rs := [13]) (by kernel_rfl) (by simp) ?_
                              refine cons_p rfl (fun K_ hK => ?_) AllReadyH.nil
                              refine step_append_any rfl (.tmp 107) (.tmp 109) 62 rfl q 32 iu (.int .u16 0) 1 2 Try.underlying62 hiu huz hu1 hu2 rfl (by decide) _ _ _ rfl hTh5.ri _ (some ⟨gc, 0, none⟩) 1 1 [.int .u16 (id : Int)] rfl (hTh5.reads (by simp)) (by intro y hy; rw [List.mem_singleton.1 hy]; rfl) (by have := usV_len L; have := ssV_len L; have := isV_len L; unfold maxLen; omega) (by have := usV_len L; have := ssV_len L; have := isV_len L; omega) (by have := hTh5.only.size; have := hq6; omega) ?_
                              intro rowi wx6 hown hgrow hblk
                              have hTh6 := hTh5.grow_i hown hgrow hblk
                              refine hK.out _ _ hTh6.only (fun hHeld => ?_)
                              clear hK K_ hHeld hown hgrow hblk
                              try simp only [Act.put, List.setIfInBounds_toArray, List.set_cons_zero, List.set_cons_succ]
                              replace hS := hTh6.only
                              (refine take_p (i := 14) (v := ?_) rfl (by kernel_rfl) (by kernel_rfl) (by kernel_rfl) (fun _ _ _ h => h) (Or.inl ⟨by rfl, ?_⟩) hS ?_; rotate_left; (focus (intro w0_ hSw; go_simp; try with_reducible rfl)); try simp only [Act.put, List.setIfInBounds_toArray, List.set_cons_zero, List.set_cons_succ])
                              (refine take_p (i := 15) (v := ?_) rfl (by kernel_rfl) (by kernel_rfl) (by kernel_rfl) (fun _ _ _ h => h) (Or.inl ⟨by rfl, ?_⟩) hS ?_; rotate_left; (focus (intro w0_ hSw; go_simp; try with_reducible rfl)); try simp only [Act.put, List.setIfInBounds_toArray, List.set_cons_zero, List.set_cons_succ])
                              (refine take_p (i := 16) (v := ?_) rfl (by kernel_rfl) (by kernel_rfl) (by kernel_rfl) (fun _ _ _ h => h) (Or.inl ⟨by rfl, ?_⟩) hS ?_; rotate_left; (focus (intro w0_ hSw; go_simp; try with_reducible rfl)); try simp only [Act.put, List.setIfInBounds_toArray, List.set_cons_zero, List.set_cons_succ])
                              refine wpAnyH_done (by kernel_rfl) ?_ _
                              have hBn := hTh6.book (o := ⟨bu, s, id⟩)
                              have hPn := hTh6.pt hBk6 hP6 hltb
                              have hTn := hTh6.tp hBk6 hT6 hltg
                              have hzn : Hid (Still w wx6) := Lib.hid (hTh6.stl hBk6 hz6.out hwq)
                              have hqn : q ≤ wx6.heap.size := by have := hTh6.only.size; omega
                              obtain ⟨D1, e1, D2, e2, D3, e3, r1, r2, r3⟩ := book_shape hBn
                              subst r1 r2 r3
                              rw [List.length_append, List.length_singleton] at hBn ⊢
                              clear hTh0 hTh1 hTh2 hTh3 hTh4 hTh5 hTh6 hBk6 hP6 hT6 hz6 hS y1 y2 hna
                              go_wp2_with fail
                              go_meet
                              exact ⟨D1, e1, D2, e2, D3, e3, rfl, rfl, rfl, hBn, hPn, hTn, hqn, hzn⟩
                      · as_aux_lemma =>
                          have hTh2 := hTh1.build (.int .i64 s) 3
                          refine step_build1 rfl 61 3 (.tmp 104) rfl .i64 _ rfl ii _ Try.underlying61 hii hiz hi1 ?_
                          refine hK.out _ _ hTh2.only (fun hHeld => ?_)
                          clear hK K_ hHeld
                          try simp only [Act.put, List.setIfInBounds_toArray, List.set_cons_zero, List.set_cons_succ]
                          replace hS := hTh2.only
                          generalize hwx2 : wx1.alloc (.cells #[.int .i64 s] 3) = wx2 at hTh2 hS ⊢
                          obtain ⟨gb, hgb⟩ : ∃ g, g = wx1.heap.size := ⟨_, rfl⟩
                          rw [← hgb] at hTh2 ⊢
                          clear hwx2 hgb
                          refine wpAnyH_ready (rs := [4, 12]) (by kernel_rfl) (by simp) ?_
                          refine cons_p rfl (fun K_ hK => ?_) (cons_p rfl (fun K_ hK => ?_) AllReadyH.nil)
                          · as_aux_lemma =>
                              refine step_append_any rfl (.tmp 97) (.tmp 100) 61 rfl q 3 ii (.int .i64 0) 1 8 Try.underlying61 hii hiz hi1 hi2 rfl (by decide) _ _ _ rfl hTh2.ru _ (some ⟨ga, 0, none⟩) 1 1 [.int .i64 (bu : Int)] rfl (hTh2.reads (by simp)) (by intro y hy; rw [List.mem_singleton.1 hy]; rfl) (by have := usV_len L; have := ssV_len L; have := isV_len L; unfold maxLen; omega) (by have := usV_len L; have := ssV_len L; have := isV_len L; omega) (by have := hTh2.only.size; have := hq6; omega) ?_
                              intro rowu wx3 hown hgrow hblk
                              have hTh3 := hTh2.grow_u hown hgrow hblk
                              refine hK.out _ _ hTh3.only (fun hHeld => ?_)
                              clear hK K_ hHeld hown hgrow hblk
                              try simp only [Act.put, List.setIfInBounds_toArray, List.set_cons_zero, List.set_cons_succ]
                              replace hS := hTh3.only
                              refine wpAnyH_ready (rs := [9, 12]) (by kernel_rfl) (by simp) ?_
                              refine cons_p rfl (fun K_ hK => ?_) (cons_p rfl (fun K_ hK => ?_) AllReadyH.nil)
                              · as_aux_lemma =>
                                  refine step_append_any rfl (.tmp 102) (.tmp 105) 61 rfl q 3 ii (.int .i64 0) 1 8 Try.underlying61 hii hiz hi1 hi2 rfl (by decide) _ _ _ rfl hTh3.rv _ (some ⟨gb, 0, none⟩) 1 1 [.int .i64 s] rfl (hTh3.reads (by simp)) (by intro y hy; rw [List.mem_singleton.1 hy]; rfl) (by have := usV_len L; have := ssV_len L; have := isV_len L; unfold maxLen; omega) (by have := usV_len L; have := ssV_len L; have := isV_len L; omega) (by have := hTh3.only.size; have := hq6; omega) ?_
                                  intro rowv wx4 hown hgrow hblk
                                  have hTh4 := hTh3.grow_v hown hgrow hblk
                                  refine hK.out _ _ hTh4.only (fun hHeld => ?_)
                                  clear hK K_ hHeld hown hgrow hblk
                                  try simp only [Act.put, List.setIfInBounds_toArray, List.set_cons_zero, List.set_cons_succ]
                                  replace hS := hTh4.only
                                  refine wpAnyH_ready (rs := [12]) (by kernel_rfl) (by simp) ?_
                                  refine cons_p rfl (fun K_ hK => ?_) AllReadyH.nil
                                  have hTh5 := hTh4.build (.int .u16 (id : Int)) 32
                                  refine step_build1 rfl 62 32 (.tmp 108) rfl .u16 _ rfl iu _ Try.underlying62 hiu huz hu1 ?_
                                  refine hK.out _ _ hTh5.only (fun hHeld => ?_)
                                  clear hK K_ hHeld
                                  try simp only [Act.put, List.setIfInBounds_toArray, List.set_cons_zero, List.set_cons_succ]
                                  replace hS := hTh5.only
                                  generalize hwx5 : wx4.alloc (.cells #[.int .u16 (id : Int)] 32) = wx5 at hTh5 hS ⊢
                                  obtain ⟨gc, hgc⟩ : ∃ g, g = wx4.heap.size := ⟨_, rfl⟩
                                  rw [← hgc] at hTh5 ⊢
                                  clear hwx5 hgc
                                  refine wpAnyH_ready (rs := [13]) (by kernel_rfl) (by simp) ?_
                                  refine cons_p rfl (fun K_ hK => ?_) AllReadyH.nil
                                  refine step_append_any rfl (.tmp 107) (.tmp 109) 62 rfl q 32 iu (.int .u16 0) 1 2 Try.underlying62 hiu huz hu1 hu2 rfl (by decide) _ _ _ rfl hTh5.ri _ (some ⟨gc, 0, none⟩) 1 1 [.int .u16 (id : Int)] rfl (hTh5.reads (by simp)) (by intro y hy; rw [List.mem_singleton.1 hy]; rfl) (by have := usV_len L; have := ssV_len L; have := isV_len L; unfold maxLen; omega) (by have := usV_len L; have := ssV_len L; have := isV_len L; omega) (by have := hTh5.only.size; have := hq6; omega) ?_
                                  intro rowi wx6 hown hgrow hblk
                                  have hTh6 := hTh5.grow_i hown hgrow hblk
                                  refine hK.out _ _ hTh6.only (fun hHeld => ?_)
                                  clear hK K_ hHeld hown hgrow hblk
                                  try simp only [Act.put, List.setIfInBounds_toArray, List.set_cons_zero, List.set_cons_succ]
                                  replace hS := hTh6.only
                                  (refine take_p (i := 14) (v := ?_) rfl (by kernel_rfl) (by kernel_rfl) (by kernel_rfl) (fun _ _ _ h => h) (Or.inl ⟨by rfl, ?_⟩) hS ?_; rotate_left; (focus (intro w0_ hSw; go_simp; try with_reducible rfl)); try simp only [Act.put, List.setIfInBounds_toArray, List.set_cons_zero, List.set_cons_succ])
                                  (refine take_p (i := 15) (v := ?_) rfl (by kernel_rfl) (by kernel_rfl) (by kernel_rfl) (fun _ _ _ h => h) (Or.inl ⟨by rfl, ?_⟩) hS ?_; rotate_left; (focus (intro w0_ hSw; go_simp; try with_reducible rfl)); try simp only [Act.put, List.setIfInBounds_toArray, List.set_cons_zero, List.set_cons_succ])
                                  (refine take_p (i := 16) (v := ?_) rfl (by kernel_rfl) (by kernel_rfl) (by kernel_rfl) (fun _ _ _ h => h) (Or.inl ⟨by rfl, ?_⟩) hS ?_; rotate_left; (focus (intro w0_ hSw; go_simp; try with_reducible rfl)); try simp only [Act.put, List.setIfInBounds_toArray, List.set_cons_zero, List.set_cons_succ])
                                  refine wpAnyH_done (by kernel_rfl) ?_ _
                                  have hBn := hTh6.book (o := ⟨bu, s, id⟩)
                                  have hPn := hTh6.pt hBk6 hP6 hltb
                                  have hTn := hTh6.tp hBk6 hT6 hltg
                                  have hzn : Hid (Still w wx6) := Lib.hid (hTh6.stl hBk6 hz6.out hwq)
                                  have hqn : q ≤ wx6.heap.size := by have := hTh6.only.size; omega
                                  obtain ⟨D1, e1, D2, e2, D3, e3, r1, r2, r3⟩ := book_shape hBn
                                  subst r1 r2 r3
                                  rw [List.length_append, List.length_singleton] at hBn ⊢
                                  clear hTh0 hTh1 hTh2 hTh3 hTh4 hTh5 hTh6 hBk6 hP6 hT6 hz6 hS y1 y2 hna
                                  go_wp2_with fail
                                  go_meet
                                  exact ⟨D1, e1, D2, e2, D3, e3, rfl, rfl, rfl, hBn, hPn, hTn, hqn, hzn⟩
                              · as_aux_lemma =>
                                  have hTh4 := hTh3.build (.int .u16 (id : Int)) 32
                                  refine step_build1 rfl 62 32 (.tmp 108) rfl .u16 _ rfl iu _ Try.underlying62 hiu huz hu1 ?_
                                  refine hK.out _ _ hTh4.only (fun hHeld => ?_)
                                  clear hK K_ hHeld
                                  try simp only [Act.put, List.setIfInBounds_toArray, List.set_cons_zero, List.set_cons_succ]
                                  replace hS := hTh4.only
                                  generalize hwx4 : wx3.alloc (.cells #[.int .u16 (id : Int)] 32) = wx4 at hTh4 hS ⊢
                                  obtain ⟨gc, hgc⟩ : ∃ g, g = wx3.heap.size := ⟨_, rfl⟩
                                  rw [← hgc] at hTh4 ⊢
                                  clear hwx4 hgc
                                  refine wpAnyH_ready (rs := [9]) (by kernel_rfl) (by simp) ?_
                                  refine cons_p rfl (fun K_ hK => ?_) AllReadyH.nil
                                  refine step_append_any rfl (.tmp 102) (.tmp 105) 61 rfl q 3 ii (.int .i64 0) 1 8 Try.underlying61 hii hiz hi1 hi2 rfl (by decide) _ _ _ rfl hTh4.rv _ (some ⟨gb, 0, none⟩) 1 1 [.int .i64 s] rfl (hTh4.reads (by simp)) (by intro y hy; rw [List.mem_singleton.1 hy]; rfl) (by have := usV_len L; have := ssV_len L; have := isV_len L; unfold maxLen; omega) (by have := usV_len L; have := ssV_len L; have := isV_len L; omega) (by have := hTh4.only.size; have := hq6; omega) ?_
                                  intro rowv wx5 hown hgrow hblk
                                  have hTh5 := hTh4.grow_v hown hgrow hblk
                                  refine hK.out _ _ hTh5.only (fun hHeld => ?_)
                                  clear hK K_ hHeld hown hgrow hblk
                                  try simp only [Act.put, List.setIfInBounds_toArray, List.set_cons_zero, List.set_cons_succ]
                                  replace hS := hTh5.only
                                  refine wpAnyH_ready (rs := [13]) (by kernel_rfl) (by simp) ?_
                                  refine cons_p rfl (fun K_ hK => ?_) AllReadyH.nil
                                  refine step_append_any rfl (.tmp 107) (.tmp 109) 62 rfl q 32 iu (.int .u16 0) 1 2 Try.underlying62 hiu huz hu1 hu2 rfl (by decide) _ _ _ rfl hTh5.ri _ (some ⟨gc, 0, none⟩) 1 1 [.int .u16 (id : Int)] rfl (hTh5.reads (by simp)) (by intro y hy; rw [List.mem_singleton.1 hy]; rfl) (by have := usV_len L; have := ssV_len L; have := isV_len L; unfold maxLen; omega) (by have := usV_len L; have := ssV_len L; have := isV_len L; omega) (by have := hTh5.only.size; have := hq6; omega) ?_
                                  intro rowi wx6 hown hgrow hblk
                                  have hTh6 := hTh5.grow_i hown hgrow hblk
                                  refine hK.out _ _ hTh6.only (fun hHeld => ?_)
                                  clear hK K_ hHeld hown hgrow hblk
                                  try simp only [Act.put, List.setIfInBounds_toArray, List.set_cons_zero, List.set_cons_succ]
                                  replace hS := hTh6.only
                                  (refine take_p (i := 14) (v := ?_) rfl (by kernel_rfl) (by kernel_rfl) (by kernel_rfl) (fun _ _ _ h => h) (Or.inl ⟨by rfl, ?_⟩) hS ?_; rotate_left; (focus (intro w0_ hSw; go_simp; try with_reducible rfl)); try simp only [Act.put, List.setIfInBounds_toArray, List.set_cons_zero, List.set_cons_succ])
                                  (refine take_p (i := 15) (v := ?_) rfl (by kernel_rfl) (by kernel_rfl) (by kernel_rfl) (fun _ _ _ h => h) (Or.inl ⟨by rfl, ?_⟩) hS ?_; rotate_left; (focus (intro w0_ hSw; go_simp; try with_reducible rfl)); try simp only [Act.put, List.setIfInBounds_toArray, List.set_cons_zero, List.set_cons_succ])
                                  (refine take_p (i := 16) (v := ?_) rfl (by kernel_rfl) (by kernel_rfl) (by kernel_rfl) (fun _ _ _ h => h) (Or.inl ⟨by rfl, ?_⟩) hS ?_; rotate_left; (focus (intro w0_ hSw; go_simp; try with_reducible rfl)); try simp only [Act.put, List.setIfInBounds_toArray, List.set_cons_zero, List.set_cons_succ])
                                  refine wpAnyH_done (by kernel_rfl) ?_ _
                                  have hBn := hTh6.book (o := ⟨bu, s, id⟩)
                                  have hPn := hTh6.pt hBk6 hP6 hltb
                                  have hTn := hTh6.tp hBk6 hT6 hltg
                                  have hzn : Hid (Still w wx6) := Lib.hid (hTh6.stl hBk6 hz6.out hwq)
                                  have hqn : q ≤ wx6.heap.size := by have := hTh6.only.size; omega
                                  obtain ⟨D1, e1, D2, e2, D3, e3, r1, r2, r3⟩ := book_shape hBn
                                  subst r1 r2 r3
                                  rw [List.length_append, List.length_singleton] at hBn ⊢
                                  clear hTh0 hTh1 hTh2 hTh3 hTh4 hTh5 hTh6 hBk6 hP6 hT6 hz6 hS y1 y2 hna
                                  go_wp2_with fail
                                  go_meet
                                  exact ⟨D1, e1, D2, e2, D3, e3, rfl, rfl, rfl, hBn, hPn, hTn, hqn, hzn⟩
                          · as_aux_lemma =>
                              have hTh3 := hTh2.build (.int .u16 (id : Int)) 32
                              refine step_build1 rfl 62 32 (.tmp 108) rfl .u16 _ rfl iu _ Try.underlying62 hiu huz hu1 ?_
                              refine hK.out _ _ hTh3.only (fun hHeld => ?_)
                              clear hK K_ hHeld
                              try simp only [Act.put, List.setIfInBounds_toArray, List.set_cons_zero, List.set_cons_succ]
                              replace hS := hTh3.only
                              generalize hwx3 : wx2.alloc (.cells #[.int .u16 (id : Int)] 32) = wx3 at hTh3 hS ⊢
                              obtain ⟨gc, hgc⟩ : ∃ g, g = wx2.heap.size := ⟨_, rfl⟩
                              rw [← hgc] at hTh3 ⊢
                              clear hwx3 hgc
                              refine wpAnyH_ready (rs := [4]) (by kernel_rfl) (by simp) ?_
                              refine cons_p rfl (fun K_ hK => ?_) AllReadyH.nil
                              refine step_append_any rfl (.tmp 97) (.tmp 100) 61 rfl q 3 ii (.int .i64 0) 1 8 Try.underlying61 hii hiz hi1 hi2 rfl (by decide) _ _ _ rfl hTh3.ru _ (some ⟨ga, 0, none⟩) 1 1 [.int .i64 (bu : Int)] rfl (hTh3.reads (by simp)) (by intro y hy; rw [List.mem_singleton.1 hy]; rfl) (by have := usV_len L; have := ssV_len L; have := isV_len L; unfold maxLen; omega) (by have := usV_len L; have := ssV_len L; have := isV_len L; omega) (by have := hTh3.only.size; have := hq6; omega) ?_
                              intro rowu wx4 hown hgrow hblk
                              have hTh4 := hTh3.grow_u hown hgrow hblk
                              refine hK.out _ _ hTh4.only (fun hHeld => ?_)
                              clear hK K_ hHeld hown hgrow hblk
                              try simp only [Act.put, List.setIfInBounds_toArray, List.set_cons_zero, List.set_cons_succ]
                              replace hS := hTh4.only
                              refine wpAnyH_ready (rs := [9]) (by kernel_rfl) (by simp) ?_
                              refine cons_p rfl (fun K_ hK => ?_) AllReadyH.nil
                              refine step_append_any rfl (.tmp 102) (.tmp 105) 61 rfl q 3 ii (.int .i64 0) 1 8 Try.underlying61 hii hiz hi1 hi2 rfl (by decide) _ _ _ rfl hTh4.rv _ (some ⟨gb, 0, none⟩) 1 1 [.int .i64 s] rfl (hTh4.reads (by simp)) (by intro y hy; rw [List.mem_singleton.1 hy]; rfl) (by have := usV_len L; have := ssV_len L; have := isV_len L; unfold maxLen; omega) (by have := usV_len L; have := ssV_len L; have := isV_len L; omega) (by have := hTh4.only.size; have := hq6; omega) ?_
                              intro rowv wx5 hown hgrow hblk
                              have hTh5 := hTh4.grow_v hown hgrow hblk
                              refine hK.out _ _ hTh5.only (fun hHeld => ?_)
                              clear hK K_ hHeld hown hgrow hblk
                              try simp only [Act.put, List.setIfInBounds_toArray, List.set_cons_zero, List.set_cons_succ]
                              replace hS := hTh5.only
                              refine wpAnyH_ready (rs := [13]) (by kernel_rfl) (by simp) ?_
                              refine cons_p rfl (fun K_ hK => ?_) AllReadyH.nil
                              refine step_append_any rfl (.tmp 107) (.tmp 109) 62 rfl q 32 iu (.int .u16 0) 1 2 Try.underlying62 hiu huz hu1 hu2 rfl (by decide) _ _ _ rfl hTh5.ri _ (some ⟨gc, 0, none⟩) 1 1 [.int .u16 (id : Int)] rfl (hTh5.reads (by simp)) (by intro y hy; rw [List.mem_singleton.1 hy]; rfl) (by have := usV_len L; have := ssV_len L; have := isV_len L; unfold maxLen; omega) (by have := usV_len L; have := ssV_len L; have := isV_len L; omega) (by have := hTh5.only.size; have := hq6; omega) ?_
                              intro rowi wx6 hown hgrow hblk
                              have hTh6 := hTh5.grow_i hown hgrow hblk
                              refine hK.out _ _ hTh6.only (fun hHeld => ?_)
                              clear hK K_ hHeld hown hgrow hblk
                              try simp only [Act.put, List.setIfInBounds_toArray, List.set_cons_zero, List.set_cons_succ]
                              replace hS := hTh6.only
                              (refine take_p (i := 14) (v := ?_) rfl (by kernel_rfl) (by kernel_rfl) (by kernel_rfl) (fun _ _ _ h => h) (Or.inl ⟨by rfl, ?_⟩) hS ?_; rotate_left; (focus (intro w0_ hSw; go_simp; try with_reducible rfl)); try simp only [Act.put, List.setIfInBounds_toArray, List.set_cons_zero, List.set_cons_succ])
                              (refine take_p (i := 15) (v := ?_) rfl (by kernel_rfl) (by kernel_rfl) (by kernel_rfl) (fun _ _ _ h => h) (Or.inl ⟨by rfl, ?_⟩) hS ?_; rotate_left; (focus (intro w0_ hSw; go_simp; try with_reducible rfl)); try simp only [Act.put, List.setIfInBounds_toArray, List.set_cons_zero, List.set_cons_succ])
                              (refine take_p (i := 16) (v := ?_) rfl (by kernel_rfl) (by kernel_rfl) (by kernel_rfl) (fun _ _ _ h => h) (Or.inl ⟨by rfl, ?_⟩) hS ?_; rotate_left; (focus (intro w0_ hSw; go_simp; try with_reducible rfl)); try simp only [Act.put, List.setIfInBounds_toArray, List.set_cons_zero, List.set_cons_succ])
                              refine wpAnyH_done (by kernel_rfl) ?_ _
                              have hBn := hTh6.book (o := ⟨bu, s, id⟩)
                              have hPn := hTh6.pt hBk6 hP6 hltb
                              have hTn := hTh6.tp hBk6 hT6 hltg
                              have hzn : Hid (Still w wx6) := Lib.hid (hTh6.stl hBk6 hz6.out hwq)
                              have hqn : q ≤ wx6.heap.size := by have := hTh6.only.size; omega
                              obtain ⟨D1, e1, D2, e2, D3, e3, r1, r2, r3⟩ := book_shape hBn
                              subst r1 r2 r3
                              rw [List.length_append, List.length_singleton] at hBn ⊢
                              clear hTh0 hTh1 hTh2 hTh3 hTh4 hTh5 hTh6 hBk6 hP6 hT6 hz6 hS y1 y2 hna
                              go_wp2_with fail
                              go_meet
                              exact ⟨D1, e1, D2, e2, D3, e3, rfl, rfl, rfl, hBn, hPn, hTn, hqn, hzn⟩
                      · as_aux_lemma =>
                          have hTh2 := hTh1.build (.int .u16 (id : Int)) 32
                          refine step_build1 rfl 62 32 (.tmp 108) rfl .u16 _ rfl iu _ Try.underlying62 hiu huz hu1 ?_
                          refine hK.out _ _ hTh2.only (fun hHeld => ?_)
                          clear hK K_ hHeld
                          try simp only [Act.put, List.setIfInBounds_toArray, List.set_cons_zero, List.set_cons_succ]
                          replace hS := hTh2.only
                          generalize hwx2 : wx1.alloc (.cells #[.int .u16 (id : Int)] 32) = wx2 at hTh2 hS ⊢
                          obtain ⟨gc, hgc⟩ : ∃ g, g = wx1.heap.size := ⟨_, rfl⟩
                          rw [← hgc] at hTh2 ⊢
                          clear hwx2 hgc
                          refine wpAnyH_ready (rs := [4, 8]) (by kernel_rfl) (by simp) ?_
                          refine cons_p rfl (fun K_ hK => ?_) (cons_p rfl (fun K_ hK => ?_) AllReadyH.nil)
                          · as_aux_lemma =>
                              refine step_append_any rfl (.tmp 97) (.tmp 100) 61 rfl q 3 ii (.int .i64 0) 1 8 Try.underlying61 hii hiz hi1 hi2 rfl (by decide) _ _ _ rfl hTh2.ru _ (some ⟨ga, 0, none⟩) 1 1 [.int .i64 (bu : Int)] rfl (hTh2.reads (by simp)) (by intro y hy; rw [List.mem_singleton.1 hy]; rfl) (by have := usV_len L; have := ssV_len L; have := isV_len L; unfold maxLen; omega) (by have := usV_len L; have := ssV_len L; have := isV_len L; omega) (by have := hTh2.only.size; have := hq6; omega) ?_
                              intro rowu wx3 hown hgrow hblk
                              have hTh3 := hTh2.grow_u hown hgrow hblk
                              refine hK.out _ _ hTh3.only (fun hHeld => ?_)
                              clear hK K_ hHeld hown hgrow hblk
                              try simp only [Act.put, List.setIfInBounds_toArray, List.set_cons_zero, List.set_cons_succ]
                              replace hS := hTh3.only
                              refine wpAnyH_ready (rs := [8]) (by kernel_rfl) (by simp) ?_
                              refine cons_p rfl (fun K_ hK => ?_) AllReadyH.nil
                              have hTh4 := hTh3.build (.int .i64 s) 3
                              refine step_build1 rfl 61 3 (.tmp 104) rfl .i64 _ rfl ii _ Try.underlying61 hii hiz hi1 ?_
                              refine hK.out _ _ hTh4.only (fun hHeld => ?_)
                              clear hK K_ hHeld
                              try simp only [Act.put, List.setIfInBounds_toArray, List.set_cons_zero, List.set_cons_succ]
                              replace hS := hTh4.only
                              generalize hwx4 : wx3.alloc (.cells #[.int .i64 s] 3) = wx4 at hTh4 hS ⊢
                              obtain ⟨gb, hgb⟩ : ∃ g, g = wx3.heap.size := ⟨_, rfl⟩
                              rw [← hgb] at hTh4 ⊢
                              clear hwx4 hgb
                              refine wpAnyH_ready (rs := [9]) (by kernel_rfl) (by simp) ?_
                              refine cons_p rfl (fun K_ hK => ?_) AllReadyH.nil
                              refine step_append_any rfl (.tmp 102) (.tmp 105) 61 rfl q 3 ii (.int .i64 0) 1 8 Try.underlying61 hii hiz hi1 hi2 rfl (by decide) _ _ _ rfl hTh4.rv _ (some ⟨gb, 0, none⟩) 1 1 [.int .i64 s] rfl (hTh4.reads (by simp)) (by intro y hy; rw [List.mem_singleton.1 hy]; rfl) (by have := usV_len L; have := ssV_len L; have := isV_len L; unfold maxLen; omega) (by have := usV_len L; have := ssV_len L; have := isV_len L; omega) (by have := hTh4.only.size; have := hq6; omega) ?_
                              intro rowv wx5 hown hgrow hblk
                              have hTh5 := hTh4.grow_v hown hgrow hblk
                              refine hK.out _ _ hTh5.only (fun hHeld => ?_)
                              clear hK K_ hHeld hown hgrow hblk
                              try simp only [Act.put, List.setIfInBounds_toArray, List.set_cons_zero, List.set_cons_succ]
                              replace hS := hTh5.only
                              refine wpAnyH_ready (rs := [13]) (by kernel_rfl) (by simp) ?_
                              refine cons_p rfl (fun K_ hK => ?_) AllReadyH.nil
                              refine step_append_any rfl (.tmp 107) (.tmp 109) 62 rfl q 32 iu (.int .u16 0) 1 2 Try.underlying62 hiu huz hu1 hu2 rfl (by decide) _ _ _ rfl hTh5.ri _ (some ⟨gc, 0, none⟩) 1 1 [.int .u16 (id : Int)] rfl (hTh5.reads (by simp)) (by intro y hy; rw [List.mem_singleton.1 hy]; rfl) (by have := usV_len L; have := ssV_len L; have := isV_len L; unfold maxLen; omega) (by have := usV_len L; have := ssV_len L; have := isV_len L; omega) (by have := hTh5.only.size; have := hq6; omega) ?_
                              intro rowi wx6 hown hgrow hblk
                              have hTh6 := hTh5.grow_i hown hgrow hblk
                              refine hK.out _ _ hTh6.only (fun hHeld => ?_)
                              clear hK K_ hHeld hown hgrow hblk
                              try simp only [Act.put, List.setIfInBounds_toArray, List.set_cons_zero, List.set_cons_succ]
                              replace hS := hTh6.only
                              (refine take_p (i := 14) (v := ?_) rfl (by kernel_rfl) (by kernel_rfl) (by kernel_rfl) (fun _ _ _ h => h) (Or.inl ⟨by rfl, ?_⟩) hS ?_; rotate_left; (focus (intro w0_ hSw; go_simp; try with_reducible rfl)); try simp only [Act.put, List.setIfInBounds_toArray, List.set_cons_zero, List.set_cons_succ])
                              (refine take_p (i := 15) (v := ?_) rfl (by kernel_rfl) (by kernel_rfl) (by kernel_rfl) (fun _ _ _ h => h) (Or.inl ⟨by rfl, ?_⟩) hS ?_; rotate_left; (focus (intro w0_ hSw; go_simp; try with_reducible rfl)); try simp only [Act.put, List.setIfInBounds_toArray, List.set_cons_zero, List.set_cons_succ])
                              (refine take_p (i := 16) (v := ?_) rfl (by kernel_rfl) (by kernel_rfl) (by kernel_rfl) (fun _ _ _ h => h) (Or.inl ⟨by rfl, ?_⟩) hS ?_; rotate_left; (focus (intro w0_ hSw; go_simp; try with_reducible rfl)); try simp only [Act.put, List.setIfInBounds_toArray, List.set_cons_zero, List.set_cons_succ])
                              refine wpAnyH_done (by kernel_rfl) ?_ _
                              have hBn := hTh6.book (o := ⟨bu, s, id⟩)
                              have hPn := hTh6.pt hBk6 hP6 hltb
                              have hTn := hTh6.tp hBk6 hT6 hltg
                              have hzn : Hid (Still w wx6) := Lib.hid (hTh6.stl hBk6 hz6.out hwq)
                              have hqn : q ≤ wx6.heap.size := by have := hTh6.only.size; omega
                              obtain ⟨D1, e1, D2, e2, D3, e3, r1, r2, r3⟩ := book_shape hBn
                              subst r1 r2 r3
                              rw [List.length_append, List.length_singleton] at hBn ⊢
                              clear hTh0 hTh1 hTh2 hTh3 hTh4 hTh5 hTh6 hBk6 hP6 hT6 hz6 hS y1 y2 hna
                              go_wp2_with fail
                              go_meet
                              exact ⟨D1, e1, D2, e2, D3, e3, rfl, rfl, rfl, hBn, hPn, hTn, hqn, hzn⟩
                          · as_aux_lemma =>
                              have hTh3 := hTh2.build (.int .i64 s) 3
                              refine step_build1 rfl 61 3 (.tmp 104) rfl .i64 _ rfl ii _ Try.underlying61 hii hiz hi1 ?_
                              refine hK.out _ _ hTh3.only (fun hHeld => ?_)
                              clear hK K_ hHeld
                              try simp only [Act.put, List.setIfInBounds_toArray, List.set_cons_zero, List.set_cons_succ]
                              replace hS := hTh3.only
                              generalize hwx3 : wx2.alloc (.cells #[.int .i64 s] 3) = wx3 at hTh3 hS ⊢
                              obtain ⟨gb, hgb⟩ : ∃ g, g = wx2.heap.size := ⟨_, rfl⟩
                              rw [← hgb] at hTh3 ⊢
                              clear hwx3 hgb
                              refine wpAnyH_ready (rs := [4]) (by kernel_rfl) (by simp) ?_
                              refine cons_p rfl (fun K_ hK => ?_) AllReadyH.nil
                              refine step_append_any rfl (.tmp 97) (.tmp 100) 61 rfl q 3 ii (.int .i64 0) 1 8 Try.underlying61 hii hiz hi1 hi2 rfl (by decide) _ _ _ rfl hTh3.ru _ (some ⟨ga, 0, none⟩) 1 1 [.int .i64 (bu : Int)] rfl (hTh3.reads (by simp)) (by intro y hy; rw [List.mem_singleton.1 hy]; rfl) (by have := usV_len L; have := ssV_len L; have := isV_len L; unfold maxLen; omega) (by have := usV_len L; have := ssV_len L; have := isV_len L; omega) (by have := hTh3.only.size; have := hq6; omega) ?_
                              intro rowu wx4 hown hgrow hblk
                              have hTh4 := hTh3.grow_u hown hgrow hblk
                              refine hK.out _ _ hTh4.only (fun hHeld => ?_)
                              clear hK K_ hHeld hown hgrow hblk
                              try simp only [Act.put, List.setIfInBounds_toArray, List.set_cons_zero, List.set_cons_succ]
                              replace hS := hTh4.only
                              refine wpAnyH_ready (rs := [9]) (by kernel_rfl) (by simp) ?_
                              refine cons_p rfl (fun K_ hK => ?_) AllReadyH.nil
                              refine step_append_any rfl (.tmp 102) (.tmp 105) 61 rfl q 3 ii (.int .i64 0) 1 8 Try.underlying61 hii hiz hi1 hi2 rfl (by decide) _ _ _ rfl hTh4.rv _ (some ⟨gb, 0, none⟩) 1 1 [.int .i64 s] rfl (hTh4.reads (by simp)) (by intro y hy; rw [List.mem_singleton.1 hy]; rfl) (by have := usV_len L; have := ssV_len L; have := isV_len L; unfold maxLen; omega) (by have := usV_len L; have := ssV_len L; have := isV_len L; omega) (by have := hTh4.only.size; have := hq6; omega) ?_
                              intro rowv wx5 hown hgrow hblk
                              have hTh5 := hTh4.grow_v hown hgrow hblk
                              refine hK.out _ _ hTh5.only (fun hHeld => ?_)
                              clear hK K_ hHeld hown hgrow hblk
                              try simp only [Act.put, List.setIfInBounds_toArray, List.set_cons_zero, List.set_cons_succ]
                              replace hS := hTh5.only
                              refine wpAnyH_ready (rs := [13]) (by kernel_rfl) (by simp) ?_
                              refine cons_p rfl (fun K_ hK => ?_) AllReadyH.nil
                              refine step_append_any rfl (.tmp 107) (.tmp 109) 62 rfl q 32 iu (.int .u16 0) 1 2 Try.underlying62 hiu huz hu1 hu2 rfl (by decide) _ _ _ rfl hTh5.ri _ (some ⟨gc, 0, none⟩) 1 1 [.int .u16 (id : Int)] rfl (hTh5.reads (by simp)) (by intro y hy; rw [List.mem_singleton.1 hy]; rfl) (by have := usV_len L; have := ssV_len L; have := isV_len L; unfold maxLen; omega) (by have := usV_len L; have := ssV_len L; have := isV_len L; omega) (by have := hTh5.only.size; have := hq6; omega) ?_
                              intro rowi wx6 hown hgrow hblk
                              have hTh6 := hTh5.grow_i hown hgrow hblk
                              refine hK.out _ _ hTh6.only (fun hHeld => ?_)
                              clear hK K_ hHeld hown hgrow hblk
                              try simp only [Act.put, List.setIfInBounds_toArray, List.set_cons_zero, List.set_cons_succ]
                              replace hS := hTh6.only
                              (refine take_p (i := 14) (v := ?_) rfl (by kernel_rfl) (by kernel_rfl) (by kernel_rfl) (fun _ _ _ h => h) (Or.inl ⟨by rfl, ?_⟩) hS ?_; rotate_left; (focus (intro w0_ hSw; go_simp; try with_reducible rfl)); try simp only [Act.put, List.setIfInBounds_toArray, List.set_cons_zero, List.set_cons_succ])
                              (refine take_p (i := 15) (v := ?_) rfl (by kernel_rfl) (by kernel_rfl) (by kernel_rfl) (fun _ _ _ h => h) (Or.inl ⟨by rfl, ?_⟩) hS ?_; rotate_left; (focus (intro w0_ hSw; go_simp; try with_reducible rfl)); try simp only [Act.put, List.setIfInBounds_toArray, List.set_cons_zero, List.set_cons_succ])
                              (refine take_p (i := 16) (v := ?_) rfl (by kernel_rfl) (by kernel_rfl) (by kernel_rfl) (fun _ _ _ h => h) (Or.inl ⟨by rfl, ?_⟩) hS ?_; rotate_left; (focus (intro w0_ hSw; go_simp; try with_reducible rfl)); try simp only [Act.put, List.setIfInBounds_toArray, List.set_cons_zero, List.set_cons_succ])
                              refine wpAnyH_done (by kernel_rfl) ?_ _
                              have hBn := hTh6.book (o := ⟨bu, s, id⟩)
                              have hPn := hTh6.pt hBk6 hP6 hltb
                              have hTn := hTh6.tp hBk6 hT6 hltg
                              have hzn : Hid (Still w wx6) := Lib.hid (hTh6.stl hBk6 hz6.out hwq)
                              have hqn : q ≤ wx6.heap.size := by have := hTh6.only.size; omega
                              obtain ⟨D1, e1, D2, e2, D3, e3, r1, r2, r3⟩ := book_shape hBn
                              subst r1 r2 r3
                              rw [List.length_append, List.length_singleton] at hBn ⊢
                              clear hTh0 hTh1 hTh2 hTh3 hTh4 hTh5 hTh6 hBk6 hP6 hT6 hz6 hS y1 y2 hna
                              go_wp2_with fail
                              go_meet
                              exact ⟨D1, e1, D2, e2, D3, e3, rfl, rfl, rfl, hBn, hPn, hTn, hqn, hzn⟩
                  · as_aux_lemma =>
                      have hTh1 := hTh0.build (.int .i64 s) 3
                      refine step_build1 rfl 61 3 (.tmp 104) rfl .i64 _ rfl ii _ Try.underlying61 hii hiz hi1 ?_
                      refine hK.out _ _ hTh1.only (fun hHeld => ?_)
                      clear hK K_ hHeld
                      try simp only [Act.put, List.setIfInBounds_toArray, List.set_cons_zero, List.set_cons_succ]
                      replace hS := hTh1.only
                      generalize hwx1 : wd.alloc (.cells #[.int .i64 s] 3) = wx1 at hTh1 hS ⊢
                      obtain ⟨gb, hgb⟩ : ∃ g, g = wd.heap.size := ⟨_, rfl⟩
                      rw [← hgb] at hTh1 ⊢
                      clear hwx1 hgb
                      refine wpAnyH_ready (rs := [3, 12]) (by kernel_rfl) (by simp) ?_
                      refine cons_p rfl (fun K_ hK => ?_) (cons_p rfl (fun K_ hK => ?_) AllReadyH.nil)
                      · as_aux_lemma =>
                          have hTh2 := hTh1.build (.int .i64 (bu : Int)) 3
                          refine step_build1 rfl 61 3 (.tmp 99) rfl .i64 _ rfl ii _ Try.underlying61 hii hiz hi1 ?_
                          refine hK.out _ _ hTh2.only (fun hHeld => ?_)
                          clear hK K_ hHeld
                          try simp only [Act.put, List.setIfInBounds_toArray, List.set_cons_zero, List.set_cons_succ]
                          replace hS := hTh2.only
                          generalize hwx2 : wx1.alloc (.cells #[.int .i64 (bu : Int)] 3) = wx2 at hTh2 hS ⊢
                          obtain ⟨ga, hga⟩ : ∃ g, g = wx1.heap.size := ⟨_, rfl⟩
                          rw [← hga] at hTh2 ⊢
                          clear hwx2 hga
                          refine wpAnyH_ready (rs := [4, 12]) (by kernel_rfl) (by simp) ?_
                          refine cons_p rfl (fun K_ hK => ?_) (cons_p rfl (fun K_ hK => ?_) AllReadyH.nil)
                          · as_aux_lemma =>
                              refine step_append_any rfl (.tmp 97) (.tmp 100) 61 rfl q 3 ii (.int .i64 0) 1 8 Try.underlying61 hii hiz hi1 hi2 rfl (by decide) _ _ _ rfl hTh2.ru _ (some ⟨ga, 0, none⟩) 1 1 [.int .i64 (bu : Int)] rfl (hTh2.reads (by simp)) (by intro y hy; rw [List.mem_singleton.1 hy]; rfl) (by have := usV_len L; have := ssV_len L; have := isV_len L; unfold maxLen; omega) (by have := usV_len L; have := ssV_len L; have := isV_len L; omega) (by have := hTh2.only.size; have := hq6; omega) ?_
                              intro rowu wx3 hown hgrow hblk
                              have hTh3 := hTh2.grow_u hown hgrow hblk
                              refine hK.out _ _ hTh3.only (fun hHeld => ?_)
                              clear hK K_ hHeld hown hgrow hblk
                              try simp only [Act.put, List.setIfInBounds_toArray, List.set_cons_zero, List.set_cons_succ]
                              replace hS := hTh3.only
                              refine wpAnyH_ready (rs := [9, 12]) (by kernel_rfl) (by simp) ?_
                              refine cons_p rfl (fun K_ hK => ?_) (cons_p rfl (fun K_ hK => ?_) AllReadyH.nil)
                              · as_aux_lemma =>
                                  refine step_append_any rfl (.tmp 102) (.tmp 105) 61 rfl q 3 ii (.int .i64 0) 1 8 Try.underlying61 hii hiz hi1 hi2 rfl (by decide) _ _ _ rfl hTh3.rv _ (some ⟨gb, 0, none⟩) 1 1 [.int .i64 s] rfl (hTh3.reads (by simp)) (by intro y hy; rw [List.mem_singleton.1 hy]; rfl) (by have := usV_len L; have := ssV_len L; have := isV_len L; unfold maxLen; omega) (by have := usV_len L; have := ssV_len L; have := isV_len L; omega) (by have := hTh3.only.size; have := hq6; omega) ?_
                                  intro rowv wx4 hown hgrow hblk
                                  have hTh4 := hTh3.grow_v hown hgrow hblk
                                  refine hK.out _ _ hTh4.only (fun hHeld => ?_)
                                  clear hK K_ hHeld hown hgrow hblk
                                  try simp only [Act.put, List.setIfInBounds_toArray, List.set_cons_zero, List.set_cons_succ]
                                  replace hS := hTh4.only
                                  refine wpAnyH_ready (rs := [12]) (by kernel_rfl) (by simp) ?_
                                  refine cons_p rfl (fun K_ hK => ?_) AllReadyH.nil
                                  have hTh5 := hTh4.build (.int .u16 (id : Int)) 32
                                  refine step_build1 rfl 62 32 (.tmp 108) rfl .u16 _ rfl iu _ Try.underlying62 hiu huz hu1 ?_
                                  refine hK.out _ _ hTh5.only (fun hHeld => ?_)
                                  clear hK K_ hHeld
                                  try simp only [Act.put, List.setIfInBounds_toArray, List.set_cons_zero, List.set_cons_succ]
                                  replace hS := hTh5.only
                                  generalize hwx5 : wx4.alloc (.cells #[.int .u16 (id : Int)] 32) = wx5 at hTh5 hS ⊢
                                  obtain ⟨gc, hgc⟩ : ∃ g, g = wx4.heap.size := ⟨_, rfl⟩
                                  rw [← hgc] at hTh5 ⊢
                                  clear hwx5 hgc
                                  refine wpAnyH_ready (rs := [13]) (by kernel_rfl) (by simp) ?_
                                  refine cons_p rfl (fun K_ hK => ?_) AllReadyH.nil
                                  refine step_append_any rfl (.tmp 107) (.tmp 109) 62 rfl q 32 iu (.int .u16 0) 1 2 Try.underlying62 hiu huz hu1 hu2 rfl (by decide) _ _ _ rfl hTh5.ri _ (some ⟨gc, 0, none⟩) 1 1 [.int .u16 (id : Int)] rfl (hTh5.reads (by simp)) (by intro y hy; rw [List.mem_singleton.1 hy]; rfl) (by have := usV_len L; have := ssV_len L; have := isV_len L; unfold maxLen; omega) (by have := usV_len L; have := ssV_len L; have := isV_len L; omega) (by have := hTh5.only.size; have := hq6; omega) ?_
                                  intro rowi wx6 hown hgrow hblk
                                  have hTh6 := hTh5.grow_i hown hgrow hblk
                                  refine hK.out _ _ hTh6.only (fun hHeld => ?_)
                                  clear hK K_ hHeld hown hgrow hblk
                                  try simp only [Act.put, List.setIfInBounds_toArray, List.set_cons_zero, List.set_cons_succ]
                                  replace hS := hTh6.only
                                  (refine take_p (i := 14) (v := ?_) rfl (by kernel_rfl) (by kernel_rfl) (by kernel_rfl) (fun _ _ _ h => h) (Or.inl ⟨by rfl, ?_⟩) hS ?_; rotate_left; (focus (intro w0_ hSw; go_simp; try with_reducible rfl)); try simp only [Act.put, List.setIfInBounds_toArray, List.set_cons_zero, List.set_cons_succ])
                                  (refine take_p (i := 15) (v := ?_) rfl (by kernel_rfl) (by kernel_rfl) (by kernel_rfl) (fun _ _ _ h => h) (Or.inl ⟨by rfl, ?_⟩) hS ?_; rotate_left; (focus (intro w0_ hSw; go_simp; try with_reducible rfl)); try simp only [Act.put, List.setIfInBounds_toArray, List.set_cons_zero, List.set_cons_succ])
                                  (refine take_p (i := 16) (v := ?_) rfl (by kernel_rfl) (by kernel_rfl) (by kernel_rfl) (fun _ _ _ h => h) (Or.inl ⟨by rfl, ?_⟩) hS ?_; rotate_left; (focus (intro w0_ hSw; go_simp; try with_reducible rfl)); try simp only [Act.put, List.setIfInBounds_toArray, List.set_cons_zero, List.set_cons_succ])
                                  refine wpAnyH_done (by kernel_rfl) ?_ _
                                  have hBn := hTh6.book (o := ⟨bu, s, id⟩)
                                  have hPn := hTh6.pt hBk6 hP6 hltb
                                  have hTn := hTh6.tp hBk6 hT6 hltg
                                  have hzn : Hid (Still w wx6) := Lib.hid (hTh6.stl hBk6 hz6.out hwq)
                                  have hqn : q ≤ wx6.heap.size := by have := hTh6.only.size; omega
                                  obtain ⟨D1, e1, D2, e2, D3, e3, r1, r2, r3⟩ := book_shape hBn
                                  subst r1 r2 r3
                                  rw [List.length_append, List.length_singleton] at hBn ⊢
                                  clear hTh0 hTh1 hTh2 hTh3 hTh4 hTh5 hTh6 hBk6 hP6 hT6 hz6 hS y1 y2 hna
                                  go_wp2_with fail
                                  go_meet
                                  exact ⟨D1, e1, D2, e2, D3, e3, rfl, rfl, rfl, hBn, hPn, hTn, hqn, hzn⟩
                              · as_aux_lemma =>
                                  have hTh4 := hTh3.build (.int .u16 (id : Int)) 32
                                  refine step_build1 rfl 62 32 (.tmp 108) rfl .u16 _ rfl iu _ Try.underlying62 hiu huz hu1 ?_
                                  refine hK.out _ _ hTh4.only (fun hHeld => ?_)
                                  clear hK K_ hHeld
                                  try simp only [Act.put, List.setIfInBounds_toArray, List.set_cons_zero, List.set_cons_succ]
                                  replace hS := hTh4.only
                                  generalize hwx4 : wx3.alloc (.cells #[.int .u16 (id : Int)] 32) = wx4 at hTh4 hS ⊢
                                  obtain ⟨gc, hgc⟩ : ∃ g, g = wx3.heap.size := ⟨_, rfl⟩
                                  rw [← hgc] at hTh4 ⊢
                                  clear hwx4 hgc
                                  refine wpAnyH_ready (rs := [9]) (by kernel_rfl) (by simp) ?_
                                  refine cons_p rfl (fun K_ hK => ?_) AllReadyH.nil
                                  refine step_append_any rfl (.tmp 102) (.tmp 105) 61 rfl q 3 ii (.int .i64 0) 1 8 Try.underlying61 hii hiz hi1 hi2 rfl (by decide) _ _ _ rfl hTh4.rv _ (some ⟨gb, 0, none⟩) 1 1 [.int .i64 s] rfl (hTh4.reads (by simp)) (by intro y hy; rw [List.mem_singleton.1 hy]; rfl) (by have := usV_len L; have := ssV_len L; have := isV_len L; unfold maxLen; omega) (by have := usV_len L; have := ssV_len L; have := isV_len L; omega) (by have := hTh4.only.size; have := hq6; omega) ?_
                                  intro rowv wx5 hown hgrow hblk
                                  have hTh5 := hTh4.grow_v hown hgrow hblk
                                  refine hK.out _ _ hTh5.only (fun hHeld => ?_)
                                  clear hK K_ hHeld hown hgrow hblk
                                  try simp only [Act.put, List.setIfInBounds_toArray, List.set_cons_zero, List.set_cons_succ]
                                  replace hS := hTh5.only
                                  refine wpAnyH_ready (rs := [13]) (by kernel_rfl) (by simp) ?_
                                  refine cons_p rfl (fun K_ hK => ?_) AllReadyH.nil
                                  refine step_append_any rfl (.tmp 107) (.tmp 109) 62 rfl q 32 iu (.int .u16 0) 1 2 Try.underlying62 hiu huz hu1 hu2 rfl (by decide) _ _ _ rfl hTh5.ri _ (some ⟨gc, 0, none⟩) 1 1 [.int .u16 (id : Int)] rfl (hTh5.reads (by simp)) (by intro y hy; rw [List.mem_singleton.1 hy]; rfl) (by have := usV_len L; have := ssV_len L; have := isV_len L; unfold maxLen; omega) (by have := usV_len L; have := ssV_len L; have := isV_len L; omega) (by have := hTh5.only.size; have := hq6; omega) ?_
                                  intro rowi wx6 hown hgrow hblk
                                  have hTh6 := hTh5.grow_i hown hgrow hblk
                                  refine hK.out _ _ hTh6.only (fun hHeld => ?_)
                                  clear hK K_ hHeld hown hgrow hblk
                                  try simp only [Act.put, List.setIfInBounds_toArray, List.set_cons_zero, List.set_cons_succ]
                                  replace hS := hTh6.only
                                  (refine take_p (i := 14) (v := ?_) rfl (by kernel_rfl) (by kernel_rfl) (by kernel_rfl) (fun _ _ _ h => h) (Or.inl ⟨by rfl, ?_⟩) hS ?_; rotate_left; (focus (intro w0_ hSw; go_simp; try with_reducible rfl)); try simp only [Act.put, List.setIfInBounds_toArray, List.set_cons_zero, List.set_cons_succ])
                                  (refine take_p (i := 15) (v := ?_) rfl (by kernel_rfl) (by kernel_rfl) (by kernel_rfl) (fun _ _ _ h => h) (Or.inl ⟨by rfl, ?_⟩) hS ?_; rotate_left; (focus (intro w0_ hSw; go_simp; try with_reducible rfl)); try simp only [Act.put, List.setIfInBounds_toArray, List.set_cons_zero, List.set_cons_succ])
                                  (refine take_p (i := 16) (v := ?_) rfl (by kernel_rfl) (by kernel_rfl) (by kernel_rfl) (fun _ _ _ h => h) (Or.inl ⟨by rfl, ?_⟩) hS ?_; rotate_left; (focus (intro w0_ hSw; go_simp; try with_reducible rfl)); try simp only [Act.put, List.setIfInBounds_toArray, List.set_cons_zero, List.set_cons_succ])
                                  refine wpAnyH_done (by kernel_rfl) ?_ _
                                  have hBn := hTh6.book (o := ⟨bu, s, id⟩)
                                  have hPn := hTh6.pt hBk6 hP6 hltb
                                  have hTn := hTh6.tp hBk6 hT6 hltg
                                  have hzn : Hid (Still w wx6) := Lib.hid (hTh6.stl hBk6 hz6.out hwq)
                                  have hqn : q ≤ wx6.heap.size := by have := hTh6.only.size; omega
                                  obtain ⟨D1, e1, D2, e2, D3, e3, r1, r2, r3⟩ := book_shape hBn
                                  subst r1 r2 r3
                                  rw [List.length_append, List.length_singleton] at hBn ⊢
                                  clear hTh0 hTh1 hTh2 hTh3 hTh4 hTh5 hTh6 hBk6 hP6 hT6 hz6 hS y1 y2 hna
                                  go_wp2_with fail
                                  go_meet
                                  exact ⟨D1, e1, D2, e2, D3, e3, rfl, rfl, rfl, hBn, hPn, hTn, hqn, hzn⟩
                          · as_aux_lemma =>
                              have hTh3 := hTh2.build (.int .u16 (id : Int)) 32
                              refine step_build1 rfl 62 32 (.tmp 108) rfl .u16 _ rfl iu _ Try.underlying62 hiu huz hu1 ?_
                              refine hK.out _ _ hTh3.only (fun hHeld => ?_)
                              clear hK K_ hHeld
                              try simp only [Act.put, List.setIfInBounds_toArray, List.set_cons_zero, List.set_cons_succ]
                              replace hS := hTh3.only
                              generalize hwx3 : wx2.alloc (.cells #[.int .u16 (id : Int)] 32) = wx3 at hTh3 hS ⊢
                              obtain ⟨gc, hgc⟩ : ∃ g, g = wx2.heap.size := ⟨_, rfl⟩
                              rw [← hgc] at hTh3 ⊢
                              clear hwx3 hgc
                              refine wpAnyH_ready (rs := [4]) (by kernel_rfl) (by simp) ?_
                              refine cons_p rfl (fun K_ hK => ?_) AllReadyH.nil
                              refine step_append_any rfl (.tmp 97) (.tmp 100) 61 rfl q 3 ii (.int .i64 0) 1 8 Try.underlying61 hii hiz hi1 hi2 rfl (by decide) _ _ _ rfl hTh3.ru _ (some ⟨ga, 0, none⟩) 1 1 [.int .i64 (bu : Int)] rfl (hTh3.reads (by simp)) (by intro y hy; rw [List.mem_singleton.1 hy]; rfl) (by have := usV_len L; have := ssV_len L; have := isV_len L; unfold maxLen; omega) (by have := usV_len L; have := ssV_len L; have := isV_len L; omega) (by have := hTh3.only.size; have := hq6; omega) ?_
                              intro rowu wx4 hown hgrow hblk
                              have hTh4 := hTh3.grow_u hown hgrow hblk
                              refine hK.out _ _ hTh4.only (fun hHeld => ?_)
                              clear hK K_ hHeld hown hgrow hblk
                              try simp only [Act.put, List.setIfInBounds_toArray, List.set_cons_zero, List.set_cons_succ]
                              replace hS := hTh4.only
                              refine wpAnyH_ready (rs := [9]) (by kernel_rfl) (by simp) ?_
                              refine cons_p rfl (fun K_ hK => ?_) AllReadyH.nil
                              refine step_append_any rfl (.tmp 102) (.tmp 105) 61 rfl q 3 ii (.int .i64 0) 1 8 Try.underlying61 hii hiz hi1 hi2 rfl (by decide) _ _ _ rfl hTh4.rv _ (some ⟨gb, 0, none⟩) 1 1 [.int .i64 s] rfl (hTh4.reads (by simp)) (by intro y hy; rw [List.mem_singleton.1 hy]; rfl) (by have := usV_len L; have := ssV_len L; have := isV_len L; unfold maxLen; omega) (by have := usV_len L; have := ssV_len L; have := isV_len L; omega) (by have := hTh4.only.size; have := hq6; omega) ?_
                              intro rowv wx5 hown hgrow hblk
                              have hTh5 := hTh4.grow_v hown hgrow hblk
                              refine hK.out _ _ hTh5.only (fun hHeld => ?_)
                              clear hK K_ hHeld hown hgrow hblk
                              try simp only [Act.put, List.setIfInBounds_toArray, List.set_cons_zero, List.set_cons_succ]
                              replace hS := hTh5.only
                              refine wpAnyH_ready (rs := [13]) (by kernel_rfl) (by simp) ?_
                              refine cons_p rfl (fun K_ hK => ?_) AllReadyH.nil
                              refine step_append_any rfl (.tmp 107) (.tmp 109) 62 rfl q 32 iu (.int .u16 0) 1 2 Try.underlying62 hiu huz hu1 hu2 rfl (by decide) _ _ _ rfl hTh5.ri _ (some ⟨gc, 0, none⟩) 1 1 [.int .u16 (id : Int)] rfl (hTh5.reads (by simp)) (by intro y hy; rw [List.mem_singleton.1 hy]; rfl) (by have := usV_len L; have := ssV_len L; have := isV_len L; unfold maxLen; omega) (by have := usV_len L; have := ssV_len L; have := isV_len L; omega) (by have := hTh5.only.size; have := hq6; omega) ?_
                              intro rowi wx6 hown hgrow hblk
                              have hTh6 := hTh5.grow_i hown hgrow hblk
                              refine hK.out _ _ hTh6.only (fun hHeld => ?_)
                              clear hK K_ hHeld hown hgrow hblk
                              try simp only [Act.put, List.setIfInBounds_toArray, List.set_cons_zero, List.set_cons_succ]
                              replace hS := hTh6.only
                              (refine take_p (i := 14) (v := ?_) rfl (by kernel_rfl) (by kernel_rfl) (by kernel_rfl) (fun _ _ _ h => h) (Or.inl ⟨by rfl, ?_⟩) hS ?_; rotate_left; (focus (intro w0_ hSw; go_simp; try with_reducible rfl)); try simp only [Act.put, List.setIfInBounds_toArray, List.set_cons_zero, List.set_cons_succ])
                              (refine take_p (i := 15) (v := ?_) rfl (by kernel_rfl) (by kernel_rfl) (by kernel_rfl) (fun _ _ _ h => h) (Or.inl ⟨by rfl, ?_⟩) hS ?_; rotate_left; (focus (intro w0_ hSw; go_simp; try with_reducible rfl)); try simp only [Act.put, List.setIfInBounds_toArray, List.set_cons_zero, List.set_cons_succ])
                              (refine take_p (i := 16) (v := ?_) rfl (by kernel_rfl) (by kernel_rfl) (by kernel_rfl) (fun _ _ _ h => h) (Or.inl ⟨by rfl, ?_⟩) hS ?_; rotate_left; (focus (intro w0_ hSw; go_simp; try with_reducible rfl)); try simp only [Act.put, List.setIfInBounds_toArray, List.set_cons_zero, List.set_cons_succ])
                              refine wpAnyH_done (by kernel_rfl) ?_ _
                              have hBn := hTh6.book (o := ⟨bu, s, id⟩)
                              have hPn := hTh6.pt hBk6 hP6 hltb
                              have hTn := hTh6.tp hBk6 hT6 hltg
                              have hzn : Hid (Still w wx6) := Lib.hid (hTh6.stl hBk6 hz6.out hwq)
                              have hqn : q ≤ wx6.heap.size := by have := hTh6.only.size; omega
                              obtain ⟨D1, e1, D2, e2, D3, e3, r1, r2, r3⟩ := book_shape hBn
                              subst r1 r2 r3
                              rw [List.length_append, List.length_singleton] at hBn ⊢
                              clear hTh0 hTh1 hTh2 hTh3 hTh4 hTh5 hTh6 hBk6 hP6 hT6 hz6 hS y1 y2 hna
                              go_wp2_with fail
                              go_meet
                              exact ⟨D1, e1, D2, e2, D3, e3, rfl, rfl, rfl, hBn, hPn, hTn, hqn, hzn⟩
                      · as_aux_lemma =>
                          have hTh2 := hTh1.build (.int .u16 (id : Int)) 32
                          refine step_build1 rfl 62 32 (.tmp 108) rfl .u16 _ rfl iu _ Try.underlying62 hiu huz hu1 ?_
                          refine hK.out _ _ hTh2.only (fun hHeld => ?_)
                          clear hK K_ hHeld
                          try simp only [Act.put, List.setIfInBounds_toArray, List.set_cons_zero, List.set_cons_succ]
                          replace hS := hTh2.only
                          generalize hwx2 : wx1.alloc (.cells #[.int .u16 (id : Int)] 32) = wx2 at hTh2 hS ⊢
                          obtain ⟨gc, hgc⟩ : ∃ g, g = wx1.heap.size := ⟨_, rfl⟩
                          rw [← hgc] at hTh2 ⊢
                          clear hwx2 hgc
                          refine wpAnyH_ready (rs := [3]) (by kernel_rfl) (by simp) ?_
                          refine cons_p rfl (fun K_ hK => ?_) AllReadyH.nil
                          have hTh3 := hTh2.build (.int .i64 (bu : Int)) 3
                          refine step_build1 rfl 61 3 (.tmp 99) rfl .i64 _ rfl ii _ Try.underlying61 hii hiz hi1 ?_
                          refine hK.out _ _ hTh3.only (fun hHeld => ?_)
                          clear hK K_ hHeld
                          try simp only [Act.put, List.setIfInBounds_toArray, List.set_cons_zero, List.set_cons_succ]
                          replace hS := hTh3.only
                          generalize hwx3 : wx2.alloc (.cells #[.int .i64 (bu : Int)] 3) = wx3 at hTh3 hS ⊢
                          obtain ⟨ga, hga⟩ : ∃ g, g = wx2.heap.size := ⟨_, rfl⟩
                          rw [← hga] at hTh3 ⊢
                          clear hwx3 hga
                          refine wpAnyH_ready (rs := [4]) (by kernel_rfl) (by simp) ?_
                          refine cons_p rfl (fun K_ hK => ?_) AllReadyH.nil
                          refine step_append_any rfl (.tmp 97) (.tmp 100) 61 rfl q 3 ii (.int .i64 0) 1 8 Try.underlying61 hii hiz hi1 hi2 rfl (by decide) _ _ _ rfl hTh3.ru _ (some ⟨ga, 0, none⟩) 1 1 [.int .i64 (bu : Int)] rfl (hTh3.reads (by simp)) (by intro y hy; rw [List.mem_singleton.1 hy]; rfl) (by have := usV_len L; have := ssV_len L; have := isV_len L; unfold maxLen; omega) (by have := usV_len L; have := ssV_len L; have := isV_len L; omega) (by have := hTh3.only.size; have := hq6; omega) ?_
                          intro rowu wx4 hown hgrow hblk
                          have hTh4 := hTh3.grow_u hown hgrow hblk
                          refine hK.out _ _ hTh4.only (fun hHeld => ?_)
                          clear hK K_ hHeld hown hgrow hblk
                          try simp only [Act.put, List.setIfInBounds_toArray, List.set_cons_zero, List.set_cons_succ]
                          replace hS := hTh4.only
                          refine wpAnyH_ready (rs := [9]) (by kernel_rfl) (by simp) ?_
                          refine cons_p rfl (fun K_ hK => ?_) AllReadyH.nil
                          refine step_append_any rfl (.tmp 102) (.tmp 105) 61 rfl q 3 ii (.int .i64 0) 1 8 Try.underlying61 hii hiz hi1 hi2 rfl (by decide) _ _ _ rfl hTh4.rv _ (some ⟨gb, 0, none⟩) 1 1 [.int .i64 s] rfl (hTh4.reads (by simp)) (by intro y hy; rw [List.mem_singleton.1 hy]; rfl) (by have := usV_len L; have := ssV_len L; have := isV_len L; unfold maxLen; omega) (by have := usV_len L; have := ssV_len L; have := isV_len L; omega) (by have := hTh4.only.size; have := hq6; omega) ?_
                          intro rowv wx5 hown hgrow hblk
                          have hTh5 := hTh4.grow_v hown hgrow hblk
                          refine hK.out _ _ hTh5.only (fun hHeld => ?_)
                          clear hK K_ hHeld hown hgrow hblk
                          try simp only [Act.put, List.setIfInBounds_toArray, List.set_cons_zero, List.set_cons_succ]
                          replace hS := hTh5.only
                          refine wpAnyH_ready (rs := [13]) (by kernel_rfl) (by simp) ?_
                          refine cons_p rfl (fun K_ hK => ?_) AllReadyH.nil
                          refine step_append_any rfl (.tmp 107) (.tmp 109) 62 rfl q 32 iu (.int .u16 0) 1 2 Try.underlying62 hiu huz hu1 hu2 rfl (by decide) _ _ _ rfl hTh5.ri _ (some ⟨gc, 0, none⟩) 1 1 [.int .u16 (id : Int)] rfl (hTh5.reads (by simp)) (by intro y hy; rw [List.mem_singleton.1 hy]; rfl) (by have := usV_len L; have := ssV_len L; have := isV_len L; unfold maxLen; omega) (by have := usV_len L; have := ssV_len L; have := isV_len L; omega) (by have := hTh5.only.size; have := hq6; omega) ?_
                          intro rowi wx6 hown hgrow hblk
                          have hTh6 := hTh5.grow_i hown hgrow hblk
                          refine hK.out _ _ hTh6.only (fun hHeld => ?_)
                          clear hK K_ hHeld hown hgrow hblk
                          try simp only [Act.put, List.setIfInBounds_toArray, List.set_cons_zero, List.set_cons_succ]
                          replace hS := hTh6.only
                          (refine take_p (i := 14) (v := ?_) rfl (by kernel_rfl) (by kernel_rfl) (by kernel_rfl) (fun _ _ _ h => h) (Or.inl ⟨by rfl, ?_⟩) hS ?_; rotate_left; (focus (intro w0_ hSw; go_simp; try with_reducible rfl)); try simp only [Act.put, List.setIfInBounds_toArray, List.set_cons_zero, List.set_cons_succ])
                          (refine take_p (i := 15) (v := ?_) rfl (by kernel_rfl) (by kernel_rfl) (by kernel_rfl) (fun _ _ _ h => h) (Or.inl ⟨by rfl, ?_⟩) hS ?_; rotate_left; (focus (intro w0_ hSw; go_simp; try with_reducible rfl)); try simp only [Act.put, List.setIfInBounds_toArray, List.set_cons_zero, List.set_cons_succ])
                          (refine take_p (i := 16) (v := ?_) rfl (by kernel_rfl) (by kernel_rfl) (by kernel_rfl) (fun _ _ _ h => h) (Or.inl ⟨by rfl, ?_⟩) hS ?_; rotate_left; (focus (intro w0_ hSw; go_simp; try with_reducible rfl)); try simp only [Act.put, List.setIfInBounds_toArray, List.set_cons_zero, List.set_cons_succ])
                          refine wpAnyH_done (by kernel_rfl) ?_ _
                          have hBn := hTh6.book (o := ⟨bu, s, id⟩)
                          have hPn := hTh6.pt hBk6 hP6 hltb
                          have hTn := hTh6.tp hBk6 hT6 hltg
                          have hzn : Hid (Still w wx6) := Lib.hid (hTh6.stl hBk6 hz6.out hwq)
                          have hqn : q ≤ wx6.heap.size := by have := hTh6.only.size; omega
                          obtain ⟨D1, e1, D2, e2, D3, e3, r1, r2, r3⟩ := book_shape hBn
                          subst r1 r2 r3
                          rw [List.length_append, List.length_singleton] at hBn ⊢
                          clear hTh0 hTh1 hTh2 hTh3 hTh4 hTh5 hTh6 hBk6 hP6 hT6 hz6 hS y1 y2 hna
                          go_wp2_with fail
                          go_meet
                          exact ⟨D1, e1, D2, e2, D3, e3, rfl, rfl, rfl, hBn, hPn, hTn, hqn, hzn⟩
                  · as_aux_lemma =>
                      have hTh1 := hTh0.build (.int .u16 (id : Int)) 32
                      refine step_build1 rfl 62 32 (.tmp 108) rfl .u16 _ rfl iu _ Try.underlying62 hiu huz hu1 ?_
                      refine hK.out _ _ hTh1.only (fun hHeld => ?_)
                      clear hK K_ hHeld
                      try simp only [Act.put, List.setIfInBounds_toArray, List.set_cons_zero, List.set_cons_succ]
                      replace hS := hTh1.only
                      generalize hwx1 : wd.alloc (.cells #[.int .u16 (id : Int)] 32) = wx1 at hTh1 hS ⊢
                      obtain ⟨gc, hgc⟩ : ∃ g, g = wd.heap.size := ⟨_, rfl⟩
                      rw [← hgc] at hTh1 ⊢
                      clear hwx1 hgc
                      refine wpAnyH_ready (rs := [3, 8]) (by kernel_rfl) (by simp) ?_
                      refine cons_p rfl (fun K_ hK => ?_) (cons_p rfl (fun K_ hK => ?_) AllReadyH.nil)
                      · as_aux_lemma =>
                          have hTh2 := hTh1.build (.int .i64 (bu : Int)) 3
                          refine step_build1 rfl 61 3 (.tmp 99) rfl .i64 _ rfl ii _ Try.underlying61 hii hiz hi1 ?_
                          refine hK.out _ _ hTh2.only (fun hHeld => ?_)
                          clear hK K_ hHeld
                          try simp only [Act.put, List.setIfInBounds_toArray, List.set_cons_zero, List.set_cons_succ]
                          replace hS := hTh2.only
                          generalize hwx2 : wx1.alloc (.cells #[.int .i64 (bu : Int)] 3) = wx2 at hTh2 hS ⊢
                          obtain ⟨ga, hga⟩ : ∃ g, g = wx1.heap.size := ⟨_, rfl⟩
                          rw [← hga] at hTh2 ⊢
                          clear hwx2 hga
                          refine wpAnyH_ready (rs := [4, 8]) (by kernel_rfl) (by simp) ?_
                          refine cons_p rfl (fun K_ hK => ?_) (cons_p rfl (fun K_ hK => ?_) AllReadyH.nil)
                          · as_aux_lemma =>
                              refine step_append_any rfl (.tmp 97) (.tmp 100) 61 rfl q 3 ii (.int .i64 0) 1 8 Try.underlying61 hii hiz hi1 hi2 rfl (by decide) _ _ _ rfl hTh2.ru _ (some ⟨ga, 0, none⟩) 1 1 [.int .i64 (bu : Int)] rfl (hTh2.reads (by simp)) (by intro y hy; rw [List.mem_singleton.1 hy]; rfl) (by have := usV_len L; have := ssV_len L; have := isV_len L; unfold maxLen; omega) (by have := usV_len L; have := ssV_len L; have := isV_len L; omega) (by have := hTh2.only.size; have := hq6; omega) ?_
                              intro rowu wx3 hown hgrow hblk
                              have hTh3 := hTh2.grow_u hown hgrow hblk
                              refine hK.out _ _ hTh3.only (fun hHeld => ?_)
                              clear hK K_ hHeld hown hgrow hblk
                              try simp only [Act.put, List.setIfInBounds_toArray, List.set_cons_zero, List.set_cons_succ]
                              replace hS := hTh3.only
                              refine wpAnyH_ready (rs := [8]) (by kernel_rfl) (by simp) ?_
                              refine cons_p rfl (fun K_ hK => ?_) AllReadyH.nil
                              have hTh4 := hTh3.build (.int .i64 s) 3
                              refine step_build1 rfl 61 3 (.tmp 104) rfl .i64 _ rfl ii _ Try.underlying61 hii hiz hi1 ?_
                              refine hK.out _ _ hTh4.only (fun hHeld => ?_)
                              clear hK K_ hHeld
                              try simp only [Act.put, List.setIfInBounds_toArray, List.set_cons_zero, List.set_cons_succ]
                              replace hS := hTh4.only
                              generalize hwx4 : wx3.alloc (.cells #[.int .i64 s] 3) = wx4 at hTh4 hS ⊢
                              obtain ⟨gb, hgb⟩ : ∃ g, g = wx3.heap.size := ⟨_, rfl⟩
                              rw [← hgb] at hTh4 ⊢
                              clear hwx4 hgb
                              refine wpAnyH_ready (rs := [9]) (by kernel_rfl) (by simp) ?_
                              refine cons_p rfl (fun K_ hK => ?_) AllReadyH.nil
                              refine step_append_any rfl (.tmp 102) (.tmp 105) 61 rfl q 3 ii (.int .i64 0) 1 8 Try.underlying61 hii hiz hi1 hi2 rfl (by decide) _ _ _ rfl hTh4.rv _ (some ⟨gb, 0, none⟩) 1 1 [.int .i64 s] rfl (hTh4.reads (by simp)) (by intro y hy; rw [List.mem_singleton.1 hy]; rfl) (by have := usV_len L; have := ssV_len L; have := isV_len L; unfold maxLen; omega) (by have := usV_len L; have := ssV_len L; have := isV_len L; omega) (by have := hTh4.only.size; have := hq6; omega) ?_
                              intro rowv wx5 hown hgrow hblk
                              have hTh5 := hTh4.grow_v hown hgrow hblk
                              refine hK.out _ _ hTh5.only (fun hHeld => ?_)
                              clear hK K_ hHeld hown hgrow hblk
                              try simp only [Act.put, List.setIfInBounds_toArray, List.set_cons_zero, List.set_cons_succ]
                              replace hS := hTh5.only
                              refine wpAnyH_ready (rs := [13]) (by kernel_rfl) (by simp) ?_
                              refine cons_p rfl (fun K_ hK => ?_) AllReadyH.nil
                              refine step_append_any rfl (.tmp 107) (.tmp 109) 62 rfl q 32 iu (.int .u16 0) 1 2 Try.underlying62 hiu huz hu1 hu2 rfl (by decide) _ _ _ rfl hTh5.ri _ (some ⟨gc, 0, none⟩) 1 1 [.int .u16 (id : Int)] rfl (hTh5.reads (by simp)) (by intro y hy; rw [List.mem_singleton.1 hy]; rfl) (by have := usV_len L; have := ssV_len L; have := isV_len L; unfold maxLen; omega) (by have := usV_len L; have := ssV_len L; have := isV_len L; omega) (by have := hTh5.only.size; have := hq6; omega) ?_
                              intro rowi wx6 hown hgrow hblk
                              have hTh6 := hTh5.grow_i hown hgrow hblk
                              refine hK.out _ _ hTh6.only (fun hHeld => ?_)
                              clear hK K_ hHeld hown hgrow hblk
                              try simp only [Act.put, List.setIfInBounds_toArray, List.set_cons_zero, List.set_cons_succ]
                              replace hS := hTh6.only
                              (refine take_p (i := 14) (v := ?_) rfl (by kernel_rfl) (by kernel_rfl) (by kernel_rfl) (fun _ _ _ h => h) (Or.inl ⟨by rfl, ?_⟩) hS ?_; rotate_left; (focus (intro w0_ hSw; go_simp; try with_reducible rfl)); try simp only [Act.put, List.setIfInBounds_toArray, List.set_cons_zero, List.set_cons_succ])
                              (refine take_p (i := 15) (v := ?_) rfl (by kernel_rfl) (by kernel_rfl) (by kernel_rfl) (fun _ _ _ h => h) (Or.inl ⟨by rfl, ?_⟩) hS ?_; rotate_left; (focus (intro w0_ hSw; go_simp; try with_reducible rfl)); try simp only [Act.put, List.setIfInBounds_toArray, List.set_cons_zero, List.set_cons_succ])
                              (refine take_p (i := 16) (v := ?_) rfl (by kernel_rfl) (by kernel_rfl) (by kernel_rfl) (fun _ _ _ h => h) (Or.inl ⟨by rfl, ?_⟩) hS ?_; rotate_left; (focus (intro w0_ hSw; go_simp; try with_reducible rfl)); try simp only [Act.put, List.setIfInBounds_toArray, List.set_cons_zero, List.set_cons_succ])
                              refine wpAnyH_done (by kernel_rfl) ?_ _
                              have hBn := hTh6.book (o := ⟨bu, s, id⟩)
                              have hPn := hTh6.pt hBk6 hP6 hltb
                              have hTn := hTh6.tp hBk6 hT6 hltg
                              have hzn : Hid (Still w wx6) := Lib.hid (hTh6.stl hBk6 hz6.out hwq)
                              have hqn : q ≤ wx6.heap.size := by have := hTh6.only.size; omega
                              obtain ⟨D1, e1, D2, e2, D3, e3, r1, r2, r3⟩ := book_shape hBn
                              subst r1 r2 r3
                              rw [List.length_append, List.length_singleton] at hBn ⊢
                              clear hTh0 hTh1 hTh2 hTh3 hTh4 hTh5 hTh6 hBk6 hP6 hT6 hz6 hS y1 y2 hna
                              go_wp2_with fail
                              go_meet
                              exact ⟨D1, e1, D2, e2, D3, e3, rfl, rfl, rfl, hBn, hPn, hTn, hqn, hzn⟩
                          · as_aux_lemma =>
                              have hTh3 := hTh2.build (.int .i64 s) 3
                              refine step_build1 rfl 61 3 (.tmp 104) rfl .i64 _ rfl ii _ Try.underlying61 hii hiz hi1 ?_
                              refine hK.out _ _ hTh3.only (fun hHeld => ?_)
                              clear hK K_ hHeld
                              try simp only [Act.put, List.setIfInBounds_toArray, List.set_cons_zero, List.set_cons_succ]
                              replace hS := hTh3.only
                              generalize hwx3 : wx2.alloc (.cells #[.int .i64 s] 3) = wx3 at hTh3 hS ⊢
                              obtain ⟨gb, hgb⟩ : ∃ g, g = wx2.heap.size := ⟨_, rfl⟩
                              rw [← hgb] at hTh3 ⊢
                              clear hwx3 hgb
                              refine wpAnyH_ready (rs := [4]) (by kernel_rfl) (by simp) ?_
                              refine cons_p rfl (fun K_ hK => ?_) AllReadyH.nil
                              refine step_append_any rfl (.tmp 97) (.tmp 100) 61 rfl q 3 ii (.int .i64 0) 1 8 Try.underlying61 hii hiz hi1 hi2 rfl (by decide) _ _ _ rfl hTh3.ru _ (some ⟨ga, 0, none⟩) 1 1 [.int .i64 (bu : Int)] rfl (hTh3.reads (by simp)) (by intro y hy; rw [List.mem_singleton.1 hy]; rfl) (by have := usV_len L; have := ssV_len L; have := isV_len L; unfold maxLen; omega) (by have := usV_len L; have := ssV_len L; have := isV_len L; omega) (by have := hTh3.only.size; have := hq6; omega) ?_
                              intro rowu wx4 hown hgrow hblk
                              have hTh4 := hTh3.grow_u hown hgrow hblk
                              refine hK.out _ _ hTh4.only (fun hHeld => ?_)
                              clear hK K_ hHeld hown hgrow hblk
                              try simp only [Act.put, List.setIfInBounds_toArray, List.set_cons_zero, List.set_cons_succ]
                              replace hS := hTh4.only
                              refine wpAnyH_ready (rs := [9]) (by kernel_rfl) (by simp) ?_
                              refine cons_p rfl (fun K_ hK => ?_) AllReadyH.nil
                              refine step_append_any rfl (.tmp 102) (.tmp 105) 61 rfl q 3 ii (.int .i64 0) 1 8 Try.underlying61 hii hiz hi1 hi2 rfl (by decide) _ _ _ rfl hTh4.rv _ (some ⟨gb, 0, none⟩) 1 1 [.int .i64 s] rfl (hTh4.reads (by simp)) (by intro y hy; rw [List.mem_singleton.1 hy]; rfl) (by have := usV_len L; have := ssV_len L; have := isV_len L; unfold maxLen; omega) (by have := usV_len L; have := ssV_len L; have := isV_len L; omega) (by have := hTh4.only.size; have := hq6; omega) ?_
                              intro rowv wx5 hown hgrow hblk
                              have hTh5 := hTh4.grow_v hown hgrow hblk
                              refine hK.out _ _ hTh5.only (fun hHeld => ?_)
                              clear hK K_ hHeld hown hgrow hblk
                              try simp only [Act.put, List.setIfInBounds_toArray, List.set_cons_zero, List.set_cons_succ]
                              replace hS := hTh5.only
                              refine wpAnyH_ready (rs := [13]) (by kernel_rfl) (by simp) ?_
                              refine cons_p rfl (fun K_ hK => ?_) AllReadyH.nil
                              refine step_append_any rfl (.tmp 107) (.tmp 109) 62 rfl q 32 iu (.int .u16 0) 1 2 Try.underlying62 hiu huz hu1 hu2 rfl (by decide) _ _ _ rfl hTh5.ri _ (some ⟨gc, 0, none⟩) 1 1 [.int .u16 (id : Int)] rfl (hTh5.reads (by simp)) (by intro y hy; rw [List.mem_singleton.1 hy]; rfl) (by have := usV_len L; have := ssV_len L; have := isV_len L; unfold maxLen; omega) (by have := usV_len L; have := ssV_len L; have := isV_len L; omega) (by have := hTh5.only.size; have := hq6; omega) ?_
                              intro rowi wx6 hown hgrow hblk
                              have hTh6 := hTh5.grow_i hown hgrow hblk
                              refine hK.out _ _ hTh6.only (fun hHeld => ?_)
                              clear hK K_ hHeld hown hgrow hblk
                              try simp only [Act.put, List.setIfInBounds_toArray, List.set_cons_zero, List.set_cons_succ]
                              replace hS := hTh6.only
                              (refine take_p (i := 14) (v := ?_) rfl (by kernel_rfl) (by kernel_rfl) (by kernel_rfl) (fun _ _ _ h => h) (Or.inl ⟨by rfl, ?_⟩) hS ?_; rotate_left; (focus (intro w0_ hSw; go_simp; try with_reducible rfl)); try simp only [Act.put, List.setIfInBounds_toArray, List.set_cons_zero, List.set_cons_succ])
                              (refine take_p (i := 15) (v := ?_) rfl (by kernel_rfl) (by kernel_rfl) (by kernel_rfl) (fun _ _ _ h => h) (Or.inl ⟨by rfl, ?_⟩) hS ?_; rotate_left; (focus (intro w0_ hSw; go_simp; try with_reducible rfl)); try simp only [Act.put, List.setIfInBounds_toArray, List.set_cons_zero, List.set_cons_succ])
                              (refine take_p (i := 16) (v := ?_) rfl (by kernel_rfl) (by kernel_rfl) (by kernel_rfl) (fun _ _ _ h => h) (Or.inl ⟨by rfl, ?_⟩) hS ?_; rotate_left; (focus (intro w0_ hSw; go_simp; try with_reducible rfl)); try simp only [Act.put, List.setIfInBounds_toArray, List.set_cons_zero, List.set_cons_succ])
                              refine wpAnyH_done (by kernel_rfl) ?_ _
                              have hBn := hTh6.book (o := ⟨bu, s, id⟩)
                              have hPn := hTh6.pt hBk6 hP6 hltb
                              have hTn := hTh6.tp hBk6 hT6 hltg
                              have hzn : Hid (Still w wx6) := Lib.hid (hTh6.stl hBk6 hz6.out hwq)
                              have hqn : q ≤ wx6.heap.size := by have := hTh6.only.size; omega
                              obtain ⟨D1, e1, D2, e2, D3, e3, r1, r2, r3⟩ := book_shape hBn
                              subst r1 r2 r3
                              rw [List.length_append, List.length_singleton] at hBn ⊢
                              clear hTh0 hTh1 hTh2 hTh3 hTh4 hTh5 hTh6 hBk6 hP6 hT6 hz6 hS y1 y2 hna
                              go_wp2_with fail
                              go_meet
                              exact ⟨D1, e1, D2, e2, D3, e3, rfl, rfl, rfl, hBn, hPn, hTn, hqn, hzn⟩
                      · as_aux_lemma =>
                          have hTh2 := hTh1.build (.int .i64 s) 3
                          refine step_build1 rfl 61 3 (.tmp 104) rfl .i64 _ rfl ii _ Try.underlying61 hii hiz hi1 ?_
                          refine hK.out _ _ hTh2.only (fun hHeld => ?_)
                          clear hK K_ hHeld
                          try simp only [Act.put, List.setIfInBounds_toArray, List.set_cons_zero, List.set_cons_succ]
                          replace hS := hTh2.only
                          generalize hwx2 : wx1.alloc (.cells #[.int .i64 s] 3) = wx2 at hTh2 hS ⊢
                          obtain ⟨gb, hgb⟩ : ∃ g, g = wx1.heap.size := ⟨_, rfl⟩
                          rw [← hgb] at hTh2 ⊢
                          clear hwx2 hgb
                          refine wpAnyH_ready (rs := [3]) (by kernel_rfl) (by simp) ?_
                          refine cons_p rfl (fun K_ hK => ?_) AllReadyH.nil
                          have hTh3 := hTh2.build (.int .i64 (bu : Int)) 3
                          refine step_build1 rfl 61 3 (.tmp 99) rfl .i64 _ rfl ii _ Try.underlying61 hii hiz hi1 ?_
                          refine hK.out _ _ hTh3.only (fun hHeld => ?_)
                          clear hK K_ hHeld
                          try simp only [Act.put, List.setIfInBounds_toArray, List.set_cons_zero, List.set_cons_succ]
                          replace hS := hTh3.only
                          generalize hwx3 : wx2.alloc (.cells #[.int .i64 (bu : Int)] 3) = wx3 at hTh3 hS ⊢
                          obtain ⟨ga, hga⟩ : ∃ g, g = wx2.heap.size := ⟨_, rfl⟩
                          rw [← hga] at hTh3 ⊢
                          clear hwx3 hga
                          refine wpAnyH_ready (rs := [4]) (by kernel_rfl) (by simp) ?_
                          refine cons_p rfl (fun K_ hK => ?_) AllReadyH.nil
                          refine step_append_any rfl (.tmp 97) (.tmp 100) 61 rfl q 3 ii (.int .i64 0) 1 8 Try.underlying61 hii hiz hi1 hi2 rfl (by decide) _ _ _ rfl hTh3.ru _ (some ⟨ga, 0, none⟩) 1 1 [.int .i64 (bu : Int)] rfl (hTh3.reads (by simp)) (by intro y hy; rw [List.mem_singleton.1 hy]; rfl) (by have := usV_len L; have := ssV_len L; have := isV_len L; unfold maxLen; omega) (by have := usV_len L; have := ssV_len L; have := isV_len L; omega) (by have := hTh3.only.size; have := hq6; omega) ?_
                          intro rowu wx4 hown hgrow hblk
                          have hTh4 := hTh3.grow_u hown hgrow hblk
                          refine hK.out _ _ hTh4.only (fun hHeld => ?_)
                          clear hK K_ hHeld hown hgrow hblk
                          try simp only [Act.put, List.setIfInBounds_toArray, List.set_cons_zero, List.set_cons_succ]
                          replace hS := hTh4.only
                          refine wpAnyH_ready (rs := [9]) (by kernel_rfl) (by simp) ?_
                          refine cons_p rfl (fun K_ hK => ?_) AllReadyH.nil
                          refine step_append_any rfl (.tmp 102) (.tmp 105) 61 rfl q 3 ii (.int .i64 0) 1 8 Try.underlying61 hii hiz hi1 hi2 rfl (by decide) _ _ _ rfl hTh4.rv _ (some ⟨gb, 0, none⟩) 1 1 [.int .i64 s] rfl (hTh4.reads (by simp)) (by intro y hy; rw [List.mem_singleton.1 hy]; rfl) (by have := usV_len L; have := ssV_len L; have := isV_len L; unfold maxLen; omega) (by have := usV_len L; have := ssV_len L; have := isV_len L; omega) (by have := hTh4.only.size; have := hq6; omega) ?_
                          intro rowv wx5 hown hgrow hblk
                          have hTh5 := hTh4.grow_v hown hgrow hblk
                          refine hK.out _ _ hTh5.only (fun hHeld => ?_)
                          clear hK K_ hHeld hown hgrow hblk
                          try simp only [Act.put, List.setIfInBounds_toArray, List.set_cons_zero, List.set_cons_succ]
                          replace hS := hTh5.only
                          refine wpAnyH_ready (rs := [13]) (by kernel_rfl) (by simp) ?_
                          refine cons_p rfl (fun K_ hK => ?_) AllReadyH.nil
                          refine step_append_any rfl (.tmp 107) (.tmp 109) 62 rfl q 32 iu (.int .u16 0) 1 2 Try.underlying62 hiu huz hu1 hu2 rfl (by decide) _ _ _ rfl hTh5.ri _ (some ⟨gc, 0, none⟩) 1 1 [.int .u16 (id : Int)] rfl (hTh5.reads (by simp)) (by intro y hy; rw [List.mem_singleton.1 hy]; rfl) (by have := usV_len L; have := ssV_len L; have := isV_len L; unfold maxLen; omega) (by have := usV_len L; have := ssV_len L; have := isV_len L; omega) (by have := hTh5.only.size; have := hq6; omega) ?_
                          intro rowi wx6 hown hgrow hblk
                          have hTh6 := hTh5.grow_i hown hgrow hblk
                          refine hK.out _ _ hTh6.only (fun hHeld => ?_)
                          clear hK K_ hHeld hown hgrow hblk
                          try simp only [Act.put, List.setIfInBounds_toArray, List.set_cons_zero, List.set_cons_succ]
                          replace hS := hTh6.only
                          (refine take_p (i := 14) (v := ?_) rfl (by kernel_rfl) (by kernel_rfl) (by kernel_rfl) (fun _ _ _ h => h) (Or.inl ⟨by rfl, ?_⟩) hS ?_; rotate_left; (focus (intro w0_ hSw; go_simp; try with_reducible rfl)); try simp only [Act.put, List.setIfInBounds_toArray, List.set_cons_zero, List.set_cons_succ])
                          (refine take_p (i := 15) (v := ?_) rfl (by kernel_rfl) (by kernel_rfl) (by kernel_rfl) (fun _ _ _ h => h) (Or.inl ⟨by rfl, ?_⟩) hS ?_; rotate_left; (focus (intro w0_ hSw; go_simp; try with_reducible rfl)); try simp only [Act.put, List.setIfInBounds_toArray, List.set_cons_zero, List.set_cons_succ])
                          (refine take_p (i := 16) (v := ?_) rfl (by kernel_rfl) (by kernel_rfl) (by kernel_rfl) (fun _ _ _ h => h) (Or.inl ⟨by rfl, ?_⟩) hS ?_; rotate_left; (focus (intro w0_ hSw; go_simp; try with_reducible rfl)); try simp only [Act.put, List.setIfInBounds_toArray, List.set_cons_zero, List.set_cons_succ])
                          refine wpAnyH_done (by kernel_rfl) ?_ _
                          have hBn := hTh6.book (o := ⟨bu, s, id⟩)
                          have hPn := hTh6.pt hBk6 hP6 hltb
                          have hTn := hTh6.tp hBk6 hT6 hltg
                          have hzn : Hid (Still w wx6) := Lib.hid (hTh6.stl hBk6 hz6.out hwq)
                          have hqn : q ≤ wx6.heap.size := by have := hTh6.only.size; omega
                          obtain ⟨D1, e1, D2, e2, D3, e3, r1, r2, r3⟩ := book_shape hBn
                          subst r1 r2 r3
                          rw [List.length_append, List.length_singleton] at hBn ⊢
                          clear hTh0 hTh1 hTh2 hTh3 hTh4 hTh5 hTh6 hBk6 hP6 hT6 hz6 hS y1 y2 hna
                          go_wp2_with fail
                          go_meet
                          exact ⟨D1, e1, D2, e2, D3, e3, rfl, rfl, rfl, hBn, hPn, hTn, hqn, hzn⟩
                case rest =>
                  obtain ⟨D1, e1, D2, e2, D3, e3, rfl, rfl, rfl, hBn, hPn, hTn, hqn, hzn⟩ := hcut
                  clear hBk6 hP6 hT6 hz6 hA6
                  go_wp2_with fail
                  go_roundw
                  case rel => exact ⟨k + 1, d + 1, L ++ [⟨bu, s, id⟩], D1, D2, D3, e1, e2, e3, hlt, by go_num, by rw [List.length_append, List.length_singleton], by rw [List.length_append, List.length_singleton], by rw [List.length_append, List.length_singleton], hPn, hTn, by rw [List.length_append, List.length_singleton]; exact hBn, by rw [List.length_append, List.length_singleton]; omega, by omega, hqn, hzn⟩
                  case measure => simp [intOf]; omega
          · refine (draw_out hP0 b s (by unfold okD at hok; omega)).mono ?_
            rintro e wz ⟨rfl, rfl⟩
            go_wp2_with fail
            go_roundw
            case rel => exact ⟨k + 1, d, L, B1, B2, B3, c1, c2, c3, hlt, by go_num, rfl, rfl, rfl, hP0, hT0, hBk0, by omega, by omega, hq0, hz0⟩
            case measure => simp [intOf]; omega
        · have n0 : (a == 0) = false := by rw [beq_eq_false_iff_ne]; exact ha0
          go_wp2_with fail
          generalize wr.alloc (.cells #[.int .u8 a, .int .i64 b, .int .i64 s] 52) = w0 at *
          generalize wr.heap.size = qa at *
          refine (does_any hP0 hT0 (by omega) (by omega) a b s).mono ?_
          rintro e w5 ⟨rfl, hP5, hT5, ho5⟩
          rw [doL_gone hP0.inv _ _ a b s d ha0] at hP5 hT5
          dsimp only at hP5 hT5
          have hBk5 := hBk0.only ho5 (fun i e => e.elim (fun e => hltb i e) (fun e => by omega))
          have hA5 := hA0.only ho5 (fun e => e.elim (fun e => hab _ e rfl) (fun e => hag e.symm))
          have hz5 : Hid (Still w w5) := Lib.hid (hz0.out.trans ho5 (fun i hi e => e.elim (fun e => by have := hge1 i e; omega) (fun e => by omega)))
          have hq5 : q ≤ w5.heap.size := by have := ho5.size; omega
          clear hP0 hT0 hBk0 hz0 hA0 ho5 hq0 n0
          have hub := hBk5.ub
          have hqa := hA5.lt
          obtain ⟨q2, hq2⟩ : ∃ q2, q2 = w5.heap.size := ⟨_, rfl⟩
          rw [← hq2] at hub hq5 hqa
          have hq25 : q2 ≤ w5.heap.size := by omega
          have hwq2 : w.heap.size ≤ q2 := by omega
          have hltb2 : ∀ i ∈ bs, i < q2 := fun i hi => by have := hltb i hi; omega
          have hltg2 : g < q2 := by omega
          clear hq2
          obtain ⟨kp, hkp⟩ : ∃ kp : Out → Bool, kp = fun o => !goneB a b s o := ⟨_, rfl⟩
          rw [← hkp] at hP5
          have Hkp := Lib.hid hkp
          obtain ⟨L', hL'⟩ : ∃ L', L' = L.filter kp := ⟨_, rfl⟩
          rw [← hL'] at hP5
          have hL'len : L'.length ≤ L.length := by rw [hL']; exact List.length_filter_le _ _
          have HL' := Lib.hid hL'
          clear hkp hL'
          go_wp2_with fail
          go_loopw [20, 21, 22, 23, 24] (fun a1 a2 a3 i _ wr' => ∃ (j : Nat) (B4 : Option Addr) (c4 : Nat) (B5 : Option Addr) (c5 : Nat) (B6 : Option Addr) (c6 : Nat), j ≤ L.length ∧ i = .int .i64 j ∧ a1 = .slice B4 ((L.take j).filter kp).length c4 ∧ a2 = .slice B5 ((L.take j).filter kp).length c5 ∧ a3 = .slice B6 ((L.take j).filter kp).length c6 ∧ PT wr' t bs L' ∧ Tape wr' g seed xs d ∧ Book wr' q (.slice B1 L.length c1) (.slice B2 L.length c2) (.slice B3 L.length c3) L ∧ Book wr' q2 (.slice B4 ((L.take j).filter kp).length c4) (.slice B5 ((L.take j).filter kp).length c5) (.slice B6 ((L.take j).filter kp).length c6) ((L.take j).filter kp) ∧ Blk wr' qa 52 #[.int .u8 a, .int .i64 b, .int .i64 s] ∧ q2 ≤ wr'.heap.size ∧ Hid (Still w wr')) (fun _ _ _ i _ _ => L.length - (intOf i).toNat)
          case atStart => exact ⟨0, none, 0, none, 0, none, 0, Nat.zero_le _, rfl, rfl, rfl, rfl, hP5, hT5, hBk5, Book.nil _ _, hA5, hq25, hz5⟩
          case round =>
            clear hP5 hT5 hBk5 hA5 hz5 hq25
            obtain ⟨j, B4, c4, B5, c5, B6, c6, hj, rfl, rfl, rfl, rfl, hP6, hT6, hBk6, hBi6, hA6, hq6, hz6⟩ := hrel
            by_cases hlt2 : j < L.length
            · obtain ⟨o, ho⟩ : ∃ o, L[j]? = some o := ⟨L[j], List.getElem?_eq_getElem _⟩
              obtain ⟨gg1, gg2, gg3, eg1, eg2, eg3, z1, z2, z3⟩ := book_cells hBk6 rfl ho
              have hF := filt_succ ho kp
              obtain ⟨F, hFd⟩ : ∃ F, F = (L.take j).filter kp := ⟨_, rfl⟩
              rw [← hFd] at hF hBi6 ⊢
              have hFl : F.length ≤ 1000 := by rw [hFd]; have := List.length_filter_le kp (L.take j); rw [List.length_take] at this; omega
              have HFd := Lib.hid hFd
              clear hFd ho
              have hg1 : gg1 < q2 := hub gg1 (.inl (by rw [eg1]; rfl))
              have hg2 : gg2 < q2 := hub gg2 (.inr (.inl (by rw [eg2]; rfl)))
              have hg3 : gg3 < q2 := hub gg3 (.inr (.inr (by rw [eg3]; rfl)))
              subst eg1 eg2 eg3
              have y0 := hA6.cell 0
              have y1 := hA6.cell 1
              have y2 := hA6.cell 2
              simp at y0 y1 y2
              go_wp2_with fail
              go_cut [24] from 121 to 155 (fun v wx => v = .bool (goneB a b s o) ∧ ∃ dd, wx = wr.drewN dd)
              case first =>
                by_cases a1 : a = 1
                · subst a1
                  by_cases a2 : o.slot = s
                  · have hgv : goneB 1 b s o = true := by simp [goneB, a2]
                    rw [a2] at z2
                    have Hgv := Lib.hid hgv
                    clear hgv
                    go_wp2_with fail
                    go_quiet (fail)
                    go_wp2_with fail
                    go_meet
                    exact ⟨by rw [Hgv.out], _, rfl⟩
                  · have hgv : goneB 1 b s o = false := by simp [goneB, a2]
                    have q2' : (o.slot == s) = false := by rw [beq_eq_false_iff_ne]; exact a2
                    have q3' : decide (o.slot = s) = false := decide_eq_false a2
                    have Hgv := Lib.hid hgv
                    clear hgv
                    go_wp2_with fail
                    go_quiet (fail)
                    go_wp2_with fail
                    go_meet
                    exact ⟨by rw [Hgv.out], _, rfl⟩
                · have q1' : (a == 1) = false := by rw [beq_eq_false_iff_ne]; exact a1
                  have q1'' : decide (a = 1) = false := decide_eq_false a1
                  by_cases a3 : a = 2
                  · subst a3
                    by_cases a2 : o.slot = s
                    · rw [a2] at z2
                      by_cases a4 : (o.u : Int) = b
                      · have hgv : goneB 2 b s o = true := by simp [goneB, a2, a4]
                        rw [a4] at z1
                        have Hgv := Lib.hid hgv
                        clear hgv
                        go_wp2_with fail
                        go_quiet (fail)
                        go_wp2_with fail
                        go_meet
                        exact ⟨by rw [Hgv.out], _, rfl⟩
                      · have hgv : goneB 2 b s o = false := by simp [goneB, a2, a4]
                        have q4' : ((o.u : Int) == b) = false := by rw [beq_eq_false_iff_ne]; exact a4
                        have q5' : decide ((o.u : Int) = b) = false := decide_eq_false a4
                        have Hgv := Lib.hid hgv
                        clear hgv
                        go_wp2_with fail
                        go_quiet (fail)
                        go_wp2_with fail
                        go_meet
                        exact ⟨by rw [Hgv.out], _, rfl⟩
                    · have hgv : goneB 2 b s o = false := by simp [goneB, a2]
                      have q2' : (o.slot == s) = false := by rw [beq_eq_false_iff_ne]; exact a2
                      have q3' : decide (o.slot = s) = false := decide_eq_false a2
                      have Hgv := Lib.hid hgv
                      clear hgv
                      go_wp2_with fail
                      go_quiet (fail)
                      go_wp2_with fail
                      go_meet
                      exact ⟨by rw [Hgv.out], _, rfl⟩
                  · have hgv : goneB a b s o = false := by simp [goneB, a1, a3]
                    have q6' : (a == 2) = false := by rw [beq_eq_false_iff_ne]; exact a3
                    have q6'' : decide (a = 2) = false := decide_eq_false a3
                    have Hgv := Lib.hid hgv
                    clear hgv
                    go_wp2_with fail
                    go_quiet (fail)
                    go_wp2_with fail
                    go_meet
                    exact ⟨by rw [Hgv.out], _, rfl⟩
              case rest =>
                obtain ⟨rfl, dd, rfl⟩ := hcut
                have hsd : Still wr (wr.drewN dd) := (Only.refl _ wr).drewN dd
                replace hP6 := hP6.still hsd
                replace hT6 := hT6.still hsd
                replace hBk6 := hBk6.still hsd
                replace hBi6 := hBi6.still hsd
                replace hA6 := hA6.only hsd (fun h => h)
                replace hz6 : Hid (Still w (wr.drewN dd)) := Lib.hid (hz6.out.still hsd)
                replace hq6 : q2 ≤ (wr.drewN dd).heap.size := hq6
                replace z1 := hsd.cell_some (fun h => h) z1
                replace z2 := hsd.cell_some (fun h => h) z2
                replace z3 := hsd.cell_some (fun h => h) z3
                clear hsd y0 y1 y2
                generalize wr.drewN dd = w6 at *
                rcases hg : goneB a b s o with _ | _
                · have hk1 : kp o = true := by rw [Hkp.out]; simp [hg]
                  rw [if_pos hk1] at hF
                  have HF := Lib.hid hF
                  clear hF hk1 hg
                  go_wp2_with fail
                  have hs0 : Still w6 w6.drew := (Only.refl _ _).drew
                  replace hP6 := hP6.still hs0
                  replace hT6 := hT6.still hs0
                  replace hBk6 := hBk6.still hs0
                  replace hBi6 := hBi6.still hs0
                  replace hA6 := hA6.only hs0 (fun h => h)
                  replace hz6 : Hid (Still w w6.drew) := Lib.hid (hz6.out.still hs0)
                  replace hq6 : q2 ≤ w6.drew.heap.size := hq6
                  replace z1 := hs0.cell_some (fun h => h) z1
                  replace z2 := hs0.cell_some (fun h => h) z2
                  replace z3 := hs0.cell_some (fun h => h) z3
                  clear hs0
                  refine wp_region_held_drew (S := fun w' => Only (fun k => (Value.slice B4 F.length c4).ownBlock = some k ∨ (Value.slice B5 F.length c5).ownBlock = some k ∨ (Value.slice B6 F.length c6).ownBlock = some k) w6.drew w') (by kernel_rfl) (Only.refl _ _) (fun hS => ?_)
                  generalize w6.drew = wd at *
                  have hTh0 : Three wd wd q2 (Value.slice B4 F.length c4) (Value.slice B5 F.length c5) (Value.slice B6 F.length c6) (Value.slice B4 F.length c4) (Value.slice B5 F.length c5) (Value.slice B6 F.length c6) (usV F) (ssV F) (isV F) [] := hBi6.three
                  have hlow : ∀ x, x < q2 → ¬ (fun k => (Value.slice B4 F.length c4).ownBlock = some k ∨ (Value.slice B5 F.length c5).ownBlock = some k ∨ (Value.slice B6 F.length c6).ownBlock = some k) x := fun x hx e => by have := (hTh0.cell_type hBi6 x e).1; omega
                  have hn1 := hlow gg1 hg1
                  have hn2 := hlow gg2 hg2
                  have hn3 := hlow gg3 hg3
                  (refine take_p (i := 0) (v := ?_) rfl (by kernel_rfl) (by kernel_rfl) (by kernel_rfl) (fun _ _ _ h => h) (Or.inl ⟨by rfl, ?_⟩) hS ?_; rotate_left; (focus (intro w0_ hSw; have z1_ := hSw.cell_some hn1 z1; have z2_ := hSw.cell_some hn2 z2; have z3_ := hSw.cell_some hn3 z3; go_simp; try with_reducible rfl)); try simp only [Act.put, List.setIfInBounds_toArray, List.set_cons_zero, List.set_cons_succ])
                  (refine take_p (i := 1) (v := ?_) rfl (by kernel_rfl) (by kernel_rfl) (by kernel_rfl) (fun _ _ _ h => h) (Or.inl ⟨by rfl, ?_⟩) hS ?_; rotate_left; (focus (intro w0_ hSw; have z1_ := hSw.cell_some hn1 z1; have z2_ := hSw.cell_some hn2 z2; have z3_ := hSw.cell_some hn3 z3; go_simp; try with_reducible rfl)); try simp only [Act.put, List.setIfInBounds_toArray, List.set_cons_zero, List.set_cons_succ])
                  (refine take_p (i := 2) (v := ?_) rfl (by kernel_rfl) (by kernel_rfl) (by kernel_rfl) (fun _ _ _ h => h) (Or.inl ⟨by rfl, ?_⟩) hS ?_; rotate_left; (focus (intro w0_ hSw; have z1_ := hSw.cell_some hn1 z1; have z2_ := hSw.cell_some hn2 z2; have z3_ := hSw.cell_some hn3 z3; go_simp; try with_reducible rfl)); try simp only [Act.put, List.setIfInBounds_toArray, List.set_cons_zero, List.set_cons_succ])
                  (refine take_p (i := 3) (v := ?_) rfl (by kernel_rfl) (by kernel_rfl) (by kernel_rfl) (fun _ _ _ h => h) (Or.inl ⟨by rfl, ?_⟩) hS ?_; rotate_left; (focus (intro w0_ hSw; have z1_ := hSw.cell_some hn1 z1; have z2_ := hSw.cell_some hn2 z2; have z3_ := hSw.cell_some hn3 z3; go_simp; try with_reducible rfl)); try simp only [Act.put, List.setIfInBounds_toArray, List.set_cons_zero, List.set_cons_succ])
                  (refine take_p (i := 4) (v := ?_) rfl (by kernel_rfl) (by kernel_rfl) (by kernel_rfl) (fun _ _ _ h => h) (Or.inl ⟨by rfl, ?_⟩) hS ?_; rotate_left; (focus (intro w0_ hSw; have z1_ := hSw.cell_some hn1 z1; have z2_ := hSw.cell_some hn2 z2; have z3_ := hSw.cell_some hn3 z3; go_simp; try with_reducible rfl)); try simp only [Act.put, List.setIfInBounds_toArray, List.set_cons_zero, List.set_cons_succ])
                  (refine take_p (i := 7) (v := ?_) rfl (by kernel_rfl) (by kernel_rfl) (by kernel_rfl) (fun _ _ _ h => h) (Or.inl ⟨by rfl, ?_⟩) hS ?_; rotate_left; (focus (intro w0_ hSw; have z1_ := hSw.cell_some hn1 z1; have z2_ := hSw.cell_some hn2 z2; have z3_ := hSw.cell_some hn3 z3; go_simp; try with_reducible rfl)); try simp only [Act.put, List.setIfInBounds_toArray, List.set_cons_zero, List.set_cons_succ])
                  (refine take_p (i := 8) (v := ?_) rfl (by kernel_rfl) (by kernel_rfl) (by kernel_rfl) (fun _ _ _ h => h) (Or.inl ⟨by rfl, ?_⟩) hS ?_; rotate_left; (focus (intro w0_ hSw; have z1_ := hSw.cell_some hn1 z1; have z2_ := hSw.cell_some hn2 z2; have z3_ := hSw.cell_some hn3 z3; go_simp; try with_reducible rfl)); try simp only [Act.put, List.setIfInBounds_toArray, List.set_cons_zero, List.set_cons_succ])
                  (refine take_p (i := 9) (v := ?_) rfl (by kernel_rfl) (by kernel_rfl) (by kernel_rfl) (fun _ _ _ h => h) (Or.inl ⟨by rfl, ?_⟩) hS ?_; rotate_left; (focus (intro w0_ hSw; have z1_ := hSw.cell_some hn1 z1; have z2_ := hSw.cell_some hn2 z2; have z3_ := hSw.cell_some hn3 z3; go_simp; try with_reducible rfl)); try simp only [Act.put, List.setIfInBounds_toArray, List.set_cons_zero, List.set_cons_succ])
                  (refine take_p (i := 10) (v := ?_) rfl (by kernel_rfl) (by kernel_rfl) (by kernel_rfl) (fun _ _ _ h => h) (Or.inl ⟨by rfl, ?_⟩) hS ?_; rotate_left; (focus (intro w0_ hSw; have z1_ := hSw.cell_some hn1 z1; have z2_ := hSw.cell_some hn2 z2; have z3_ := hSw.cell_some hn3 z3; go_simp; try with_reducible rfl)); try simp only [Act.put, List.setIfInBounds_toArray, List.set_cons_zero, List.set_cons_succ])
                  (refine take_p (i := 11) (v := ?_) rfl (by kernel_rfl) (by kernel_rfl) (by kernel_rfl) (fun _ _ _ h => h) (Or.inl ⟨by rfl, ?_⟩) hS ?_; rotate_left; (focus (intro w0_ hSw; have z1_ := hSw.cell_some hn1 z1; have z2_ := hSw.cell_some hn2 z2; have z3_ := hSw.cell_some hn3 z3; go_simp; try with_reducible rfl)); try simp only [Act.put, List.setIfInBounds_toArray, List.set_cons_zero, List.set_cons_succ])
                  (refine take_p (i := 14) (v := ?_) rfl (by kernel_rfl) (by kernel_rfl) (by kernel_rfl) (fun _ _ _ h => h) (Or.inl ⟨by rfl, ?_⟩) hS ?_; rotate_left; (focus (intro w0_ hSw; have z1_ := hSw.cell_some hn1 z1; have z2_ := hSw.cell_some hn2 z2; have z3_ := hSw.cell_some hn3 z3; go_simp; try with_reducible rfl)); try simp only [Act.put, List.setIfInBounds_toArray, List.set_cons_zero, List.set_cons_succ])
                  (refine take_p (i := 15) (v := ?_) rfl (by kernel_rfl) (by kernel_rfl) (by kernel_rfl) (fun _ _ _ h => h) (Or.inl ⟨by rfl, ?_⟩) hS ?_; rotate_left; (focus (intro w0_ hSw; have z1_ := hSw.cell_some hn1 z1; have z2_ := hSw.cell_some hn2 z2; have z3_ := hSw.cell_some hn3 z3; go_simp; try with_reducible rfl)); try simp only [Act.put, List.setIfInBounds_toArray, List.set_cons_zero, List.set_cons_succ])
                  (refine take_p (i := 16) (v := ?_) rfl (by kernel_rfl) (by kernel_rfl) (by kernel_rfl) (fun _ _ _ h => h) (Or.inl ⟨by rfl, ?_⟩) hS ?_; rotate_left; (focus (intro w0_ hSw; have z1_ := hSw.cell_some hn1 z1; have z2_ := hSw.cell_some hn2 z2; have z3_ := hSw.cell_some hn3 z3; go_simp; try with_reducible rfl)); try simp only [Act.put, List.setIfInBounds_toArray, List.set_cons_zero, List.set_cons_succ])
                  (refine take_p (i := 17) (v := ?_) rfl (by kernel_rfl) (by kernel_rfl) (by kernel_rfl) (fun _ _ _ h => h) (Or.inl ⟨by rfl, ?_⟩) hS ?_; rotate_left; (focus (intro w0_ hSw; have z1_ := hSw.cell_some hn1 z1; have z2_ := hSw.cell_some hn2 z2; have z3_ := hSw.cell_some hn3 z3; go_simp; try with_reducible rfl)); try simp only [Act.put, List.setIfInBounds_toArray, List.set_cons_zero, List.set_cons_succ])
                  (refine take_p (i := 18) (v := ?_) rfl (by kernel_rfl) (by kernel_rfl) (by kernel_rfl) (fun _ _ _ h => h) (Or.inl ⟨by rfl, ?_⟩) hS ?_; rotate_left; (focus (intro w0_ hSw; have z1_ := hSw.cell_some hn1 z1; have z2_ := hSw.cell_some hn2 z2; have z3_ := hSw.cell_some hn3 z3; go_simp; try with_reducible rfl)); try simp only [Act.put, List.setIfInBounds_toArray, List.set_cons_zero, List.set_cons_succ])
                  refine wpAnyH_ready (rs := [5, 12, 19]) (by kernel_rfl) (by simp) ?_
                  refine cons_p rfl (fun K_ hK => ?_) (cons_p rfl (fun K_ hK => ?_) (cons_p rfl (fun K_ hK => ?_) AllReadyH.nil))
                  · as_aux_lemma =>
                      have hTh1 := hTh0.build (.int .i64 (o.u : Int)) 3
                      refine step_build1 rfl 61 3 (.tmp 162) rfl .i64 _ rfl ii _ Try.underlying61 hii hiz hi1 ?_
                      refine hK.out _ _ hTh1.only (fun hHeld => ?_)
                      clear hK K_ hHeld
                      try simp only [Act.put, List.setIfInBounds_toArray, List.set_cons_zero, List.set_cons_succ]
                      replace hS := hTh1.only
                      generalize hwx1 : wd.alloc (.cells #[.int .i64 (o.u : Int)] 3) = wx1 at hTh1 hS ⊢
                      obtain ⟨ga, hga⟩ : ∃ g, g = wd.heap.size := ⟨_, rfl⟩
                      rw [← hga] at hTh1 ⊢
                      clear hwx1 hga
                      refine wpAnyH_ready (rs := [6, 12, 19]) (by kernel_rfl) (by simp) ?_
                      refine cons_p rfl (fun K_ hK => ?_) (cons_p rfl (fun K_ hK => ?_) (cons_p rfl (fun K_ hK => ?_) AllReadyH.nil))
                      · as_aux_lemma =>
                          refine step_append_any rfl (.tmp 158) (.tmp 163) 61 rfl q2 3 ii (.int .i64 0) 1 8 Try.underlying61 hii hiz hi1 hi2 rfl (by decide) _ _ _ rfl hTh1.ru _ (some ⟨ga, 0, none⟩) 1 1 [.int .i64 (o.u : Int)] rfl (hTh1.reads (by simp)) (by intro y hy; rw [List.mem_singleton.1 hy]; rfl) (by have := usV_len F; have := ssV_len F; have := isV_len F; unfold maxLen; omega) (by have := usV_len F; have := ssV_len F; have := isV_len F; omega) (by have := hTh1.only.size; have := hq6; omega) ?_
                          intro rowu wx2 hown hgrow hblk
                          have hTh2 := hTh1.grow_u hown hgrow hblk
                          refine hK.out _ _ hTh2.only (fun hHeld => ?_)
                          clear hK K_ hHeld hown hgrow hblk
                          try simp only [Act.put, List.setIfInBounds_toArray, List.set_cons_zero, List.set_cons_succ]
                          replace hS := hTh2.only
                          refine wpAnyH_ready (rs := [12, 19]) (by kernel_rfl) (by simp) ?_
                          refine cons_p rfl (fun K_ hK => ?_) (cons_p rfl (fun K_ hK => ?_) AllReadyH.nil)
                          · as_aux_lemma =>
                              have hTh3 := hTh2.build (.int .i64 o.slot) 3
                              refine step_build1 rfl 61 3 (.tmp 169) rfl .i64 _ rfl ii _ Try.underlying61 hii hiz hi1 ?_
                              refine hK.out _ _ hTh3.only (fun hHeld => ?_)
                              clear hK K_ hHeld
                              try simp only [Act.put, List.setIfInBounds_toArray, List.set_cons_zero, List.set_cons_succ]
                              replace hS := hTh3.only
                              generalize hwx3 : wx2.alloc (.cells #[.int .i64 o.slot] 3) = wx3 at hTh3 hS ⊢
                              obtain ⟨gb, hgb⟩ : ∃ g, g = wx2.heap.size := ⟨_, rfl⟩
                              rw [← hgb] at hTh3 ⊢
                              clear hwx3 hgb
                              refine wpAnyH_ready (rs := [13, 19]) (by kernel_rfl) (by simp) ?_
                              refine cons_p rfl (fun K_ hK => ?_) (cons_p rfl (fun K_ hK => ?_) AllReadyH.nil)
                              · as_aux_lemma =>
                                  refine step_append_any rfl (.tmp 165) (.tmp 170) 61 rfl q2 3 ii (.int .i64 0) 1 8 Try.underlying61 hii hiz hi1 hi2 rfl (by decide) _ _ _ rfl hTh3.rv _ (some ⟨gb, 0, none⟩) 1 1 [.int .i64 o.slot] rfl (hTh3.reads (by simp)) (by intro y hy; rw [List.mem_singleton.1 hy]; rfl) (by have := usV_len F; have := ssV_len F; have := isV_len F; unfold maxLen; omega) (by have := usV_len F; have := ssV_len F; have := isV_len F; omega) (by have := hTh3.only.size; have := hq6; omega) ?_
                                  intro rowv wx4 hown hgrow hblk
                                  have hTh4 := hTh3.grow_v hown hgrow hblk
                                  refine hK.out _ _ hTh4.only (fun hHeld => ?_)
                                  clear hK K_ hHeld hown hgrow hblk
                                  try simp only [Act.put, List.setIfInBounds_toArray, List.set_cons_zero, List.set_cons_succ]
                                  replace hS := hTh4.only
                                  refine wpAnyH_ready (rs := [19]) (by kernel_rfl) (by simp) ?_
                                  refine cons_p rfl (fun K_ hK => ?_) AllReadyH.nil
                                  have hTh5 := hTh4.build (.int .u16 (o.id : Int)) 32
                                  refine step_build1 rfl 62 32 (.tmp 176) rfl .u16 _ rfl iu _ Try.underlying62 hiu huz hu1 ?_
                                  refine hK.out _ _ hTh5.only (fun hHeld => ?_)
                                  clear hK K_ hHeld
                                  try simp only [Act.put, List.setIfInBounds_toArray, List.set_cons_zero, List.set_cons_succ]
                                  replace hS := hTh5.only
                                  generalize hwx5 : wx4.alloc (.cells #[.int .u16 (o.id : Int)] 32) = wx5 at hTh5 hS ⊢
                                  obtain ⟨gc, hgc⟩ : ∃ g, g = wx4.heap.size := ⟨_, rfl⟩
                                  rw [← hgc] at hTh5 ⊢
                                  clear hwx5 hgc
                                  refine wpAnyH_ready (rs := [20]) (by kernel_rfl) (by simp) ?_
                                  refine cons_p rfl (fun K_ hK => ?_) AllReadyH.nil
                                  refine step_append_any rfl (.tmp 172) (.tmp 177) 62 rfl q2 32 iu (.int .u16 0) 1 2 Try.underlying62 hiu huz hu1 hu2 rfl (by decide) _ _ _ rfl hTh5.ri _ (some ⟨gc, 0, none⟩) 1 1 [.int .u16 (o.id : Int)] rfl (hTh5.reads (by simp)) (by intro y hy; rw [List.mem_singleton.1 hy]; rfl) (by have := usV_len F; have := ssV_len F; have := isV_len F; unfold maxLen; omega) (by have := usV_len F; have := ssV_len F; have := isV_len F; omega) (by have := hTh5.only.size; have := hq6; omega) ?_
                                  intro rowi wx6 hown hgrow hblk
                                  have hTh6 := hTh5.grow_i hown hgrow hblk
                                  refine hK.out _ _ hTh6.only (fun hHeld => ?_)
                                  clear hK K_ hHeld hown hgrow hblk
                                  try simp only [Act.put, List.setIfInBounds_toArray, List.set_cons_zero, List.set_cons_succ]
                                  replace hS := hTh6.only
                                  (refine take_p (i := 21) (v := ?_) rfl (by kernel_rfl) (by kernel_rfl) (by kernel_rfl) (fun _ _ _ h => h) (Or.inl ⟨by rfl, ?_⟩) hS ?_; rotate_left; (focus (intro w0_ hSw; go_simp; try with_reducible rfl)); try simp only [Act.put, List.setIfInBounds_toArray, List.set_cons_zero, List.set_cons_succ])
                                  (refine take_p (i := 22) (v := ?_) rfl (by kernel_rfl) (by kernel_rfl) (by kernel_rfl) (fun _ _ _ h => h) (Or.inl ⟨by rfl, ?_⟩) hS ?_; rotate_left; (focus (intro w0_ hSw; go_simp; try with_reducible rfl)); try simp only [Act.put, List.setIfInBounds_toArray, List.set_cons_zero, List.set_cons_succ])
                                  (refine take_p (i := 23) (v := ?_) rfl (by kernel_rfl) (by kernel_rfl) (by kernel_rfl) (fun _ _ _ h => h) (Or.inl ⟨by rfl, ?_⟩) hS ?_; rotate_left; (focus (intro w0_ hSw; go_simp; try with_reducible rfl)); try simp only [Act.put, List.setIfInBounds_toArray, List.set_cons_zero, List.set_cons_succ])
                                  refine wpAnyH_done (by kernel_rfl) ?_ _
                                  have hBn := hTh6.book (o := o)
                                  have hPn := hTh6.pt hBi6 hP6 hltb2
                                  have hTn := hTh6.tp hBi6 hT6 hltg2
                                  have hOn := hTh6.bk hBi6 hBk6 hub
                                  have hAn := hTh6.blk hBi6 hA6 (by decide) (by decide)
                                  have hzn : Hid (Still w wx6) := Lib.hid (hTh6.stl hBi6 hz6.out hwq2)
                                  have hqn : q2 ≤ wx6.heap.size := by have := hTh6.only.size; omega
                                  obtain ⟨D1, e1, D2, e2, D3, e3, r1, r2, r3⟩ := book_shape hBn
                                  subst r1 r2 r3
                                  rw [List.length_append, List.length_singleton] at hBn ⊢
                                  clear hTh0 hTh1 hTh2 hTh3 hTh4 hTh5 hTh6 hBi6 hBk6 hA6 hP6 hT6 hz6 hS z1 z2 z3
                                  go_wp2_with fail
                                  go_roundw
                                  case rel => exact ⟨j + 1, D1, e1, D2, e2, D3, e3, hlt2, by go_num, by rw [HF.out, List.length_append, List.length_singleton], by rw [HF.out, List.length_append, List.length_singleton], by rw [HF.out, List.length_append, List.length_singleton], hPn, hTn, hOn, by rw [HF.out, List.length_append, List.length_singleton]; exact hBn, hAn, hqn, hzn⟩
                                  case measure => simp [intOf]; omega
                              · as_aux_lemma =>
                                  have hTh4 := hTh3.build (.int .u16 (o.id : Int)) 32
                                  refine step_build1 rfl 62 32 (.tmp 176) rfl .u16 _ rfl iu _ Try.underlying62 hiu huz hu1 ?_
                                  refine hK.out _ _ hTh4.only (fun hHeld => ?_)
                                  clear hK K_ hHeld
                                  try simp only [Act.put, List.setIfInBounds_toArray, List.set_cons_zero, List.set_cons_succ]
                                  replace hS := hTh4.only
                                  generalize hwx4 : wx3.alloc (.cells #[.int .u16 (o.id : Int)] 32) = wx4 at hTh4 hS ⊢
                                  obtain ⟨gc, hgc⟩ : ∃ g, g = wx3.heap.size := ⟨_, rfl⟩
                                  rw [← hgc] at hTh4 ⊢
                                  clear hwx4 hgc
                                  refine wpAnyH_ready (rs := [13]) (by kernel_rfl) (by simp) ?_
                                  refine cons_p rfl (fun K_ hK => ?_) AllReadyH.nil
                                  refine step_append_any rfl (.tmp 165) (.tmp 170) 61 rfl q2 3 ii (.int .i64 0) 1 8 Try.underlying61 hii hiz hi1 hi2 rfl (by decide) _ _ _ rfl hTh4.rv _ (some ⟨gb, 0, none⟩) 1 1 [.int .i64 o.slot] rfl (hTh4.reads (by simp)) (by intro y hy; rw [List.mem_singleton.1 hy]; rfl) (by have := usV_len F; have := ssV_len F; have := isV_len F; unfold maxLen; omega) (by have := usV_len F; have := ssV_len F; have := isV_len F; omega) (by have := hTh4.only.size; have := hq6; omega) ?_
                                  intro rowv wx5 hown hgrow hblk
                                  have hTh5 := hTh4.grow_v hown hgrow hblk
                                  refine hK.out _ _ hTh5.only (fun hHeld => ?_)
                                  clear hK K_ hHeld hown hgrow hblk
                                  try simp only [Act.put, List.setIfInBounds_toArray, List.set_cons_zero, List.set_cons_succ]
                                  replace hS := hTh5.only
                                  refine wpAnyH_ready (rs := [20]) (by kernel_rfl) (by simp) ?_
                                  refine cons_p rfl (fun K_ hK => ?_) AllReadyH.nil
                                  refine step_append_any rfl (.tmp 172) (.tmp 177) 62 rfl q2 32 iu (.int .u16 0) 1 2 Try.underlying62 hiu huz hu1 hu2 rfl (by decide) _ _ _ rfl hTh5.ri _ (some ⟨gc, 0, none⟩) 1 1 [.int .u16 (o.id : Int)] rfl (hTh5.reads (by simp)) (by intro y hy; rw [List.mem_singleton.1 hy]; rfl) (by have := usV_len F; have := ssV_len F; have := isV_len F; unfold maxLen; omega) (by have := usV_len F; have := ssV_len F; have := isV_len F; omega) (by have := hTh5.only.size; have := hq6; omega) ?_
                                  intro rowi wx6 hown hgrow hblk
                                  have hTh6 := hTh5.grow_i hown hgrow hblk
                                  refine hK.out _ _ hTh6.only (fun hHeld => ?_)
                                  clear hK K_ hHeld hown hgrow hblk
                                  try simp only [Act.put, List.setIfInBounds_toArray, List.set_cons_zero, List.set_cons_succ]
                                  replace hS := hTh6.only
                                  (refine take_p (i := 21) (v := ?_) rfl (by kernel_rfl) (by kernel_rfl) (by kernel_rfl) (fun _ _ _ h => h) (Or.inl ⟨by rfl, ?_⟩) hS ?_; rotate_left; (focus (intro w0_ hSw; go_simp; try with_reducible rfl)); try simp only [Act.put, List.setIfInBounds_toArray, List.set_cons_zero, List.set_cons_succ])
                                  (refine take_p (i := 22) (v := ?_) rfl (by kernel_rfl) (by kernel_rfl) (by kernel_rfl) (fun _ _ _ h => h) (Or.inl ⟨by rfl, ?_⟩) hS ?_; rotate_left; (focus (intro w0_ hSw; go_simp; try with_reducible rfl)); try simp only [Act.put, List.setIfInBounds_toArray, List.set_cons_zero, List.set_cons_succ])
                                  (refine take_p (i := 23) (v := ?_) rfl (by kernel_rfl) (by kernel_rfl) (by kernel_rfl) (fun _ _ _ h => h) (Or.inl ⟨by rfl, ?_⟩) hS ?_; rotate_left; (focus (intro w0_ hSw; go_simp; try with_reducible rfl)); try simp only [Act.put, List.setIfInBounds_toArray, List.set_cons_zero, List.set_cons_succ])
                                  refine wpAnyH_done (by kernel_rfl) ?_ _
                                  have hBn := hTh6.book (o := o)
                                  have hPn := hTh6.pt hBi6 hP6 hltb2
                                  have hTn := hTh6.tp hBi6 hT6 hltg2
                                  have hOn := hTh6.bk hBi6 hBk6 hub
                                  have hAn := hTh6.blk hBi6 hA6 (by decide) (by decide)
                                  have hzn : Hid (Still w wx6) := Lib.hid (hTh6.stl hBi6 hz6.out hwq2)
                                  have hqn : q2 ≤ wx6.heap.size := by have := hTh6.only.size; omega
                                  obtain ⟨D1, e1, D2, e2, D3, e3, r1, r2, r3⟩ := book_shape hBn
                                  subst r1 r2 r3
                                  rw [List.length_append, List.length_singleton] at hBn ⊢
                                  clear hTh0 hTh1 hTh2 hTh3 hTh4 hTh5 hTh6 hBi6 hBk6 hA6 hP6 hT6 hz6 hS z1 z2 z3
                                  go_wp2_with fail
                                  go_roundw
                                  case rel => exact ⟨j + 1, D1, e1, D2, e2, D3, e3, hlt2, by go_num, by rw [HF.out, List.length_append, List.length_singleton], by rw [HF.out, List.length_append, List.length_singleton], by rw [HF.out, List.length_append, List.length_singleton], hPn, hTn, hOn, by rw [HF.out, List.length_append, List.length_singleton]; exact hBn, hAn, hqn, hzn⟩
                                  case measure => simp [intOf]; omega
                          · as_aux_lemma =>
                              have hTh3 := hTh2.build (.int .u16 (o.id : Int)) 32
                              refine step_build1 rfl 62 32 (.tmp 176) rfl .u16 _ rfl iu _ Try.underlying62 hiu huz hu1 ?_
                              refine hK.out _ _ hTh3.only (fun hHeld => ?_)
                              clear hK K_ hHeld
                              try simp only [Act.put, List.setIfInBounds_toArray, List.set_cons_zero, List.set_cons_succ]
                              replace hS := hTh3.only
                              generalize hwx3 : wx2.alloc (.cells #[.int .u16 (o.id : Int)] 32) = wx3 at hTh3 hS ⊢
                              obtain ⟨gc, hgc⟩ : ∃ g, g = wx2.heap.size := ⟨_, rfl⟩
                              rw [← hgc] at hTh3 ⊢
                              clear hwx3 hgc
                              refine wpAnyH_ready (rs := [12]) (by kernel_rfl) (by simp) ?_
                              refine cons_p rfl (fun K_ hK => ?_) AllReadyH.nil
                              have hTh4 := hTh3.build (.int .i64 o.slot) 3
                              refine step_build1 rfl 61 3 (.tmp 169) rfl .i64 _ rfl ii _ Try.underlying61 hii hiz hi1 ?_
                              refine hK.out _ _ hTh4.only (fun hHeld => ?_)
                              clear hK K_ hHeld
                              try simp only [Act.put, List.setIfInBounds_toArray, List.set_cons_zero, List.set_cons_succ]
                              replace hS := hTh4.only
                              generalize hwx4 : wx3.alloc (.cells #[.int .i64 o.slot] 3) = wx4 at hTh4 hS ⊢
                              obtain ⟨gb, hgb⟩ : ∃ g, g = wx3.heap.size := ⟨_, rfl⟩
                              rw [← hgb] at hTh4 ⊢
                              clear hwx4 hgb
                              refine wpAnyH_ready (rs := [13]) (by kernel_rfl) (by simp) ?_
                              refine cons_p rfl (fun K_ hK => ?_) AllReadyH.nil
                              refine step_append_any rfl (.tmp 165) (.tmp 170) 61 rfl q2 3 ii (.int .i64 0) 1 8 Try.underlying61 hii hiz hi1 hi2 rfl (by decide) _ _ _ rfl hTh4.rv _ (some ⟨gb, 0, none⟩) 1 1 [.int .i64 o.slot] rfl (hTh4.reads (by simp)) (by intro y hy; rw [List.mem_singleton.1 hy]; rfl) (by have := usV_len F; have := ssV_len F; have := isV_len F; unfold maxLen; omega) (by have := usV_len F; have := ssV_len F; have := isV_len F; omega) (by have := hTh4.only.size; have := hq6; omega) ?_
                              intro rowv wx5 hown hgrow hblk
                              have hTh5 := hTh4.grow_v hown hgrow hblk
                              refine hK.out _ _ hTh5.only (fun hHeld => ?_)
                              clear hK K_ hHeld hown hgrow hblk
                              try simp only [Act.put, List.setIfInBounds_toArray, List.set_cons_zero, List.set_cons_succ]
                              replace hS := hTh5.only
                              refine wpAnyH_ready (rs := [20]) (by kernel_rfl) (by simp) ?_
                              refine cons_p rfl (fun K_ hK => ?_) AllReadyH.nil
                              refine step_append_any rfl (.tmp 172) (.tmp 177) 62 rfl q2 32 iu (.int .u16 0) 1 2 Try.underlying62 hiu huz hu1 hu2 rfl (by decide) _ _ _ rfl hTh5.ri _ (some ⟨gc, 0, none⟩) 1 1 [.int .u16 (o.id : Int)] rfl (hTh5.reads (by simp)) (by intro y hy; rw [List.mem_singleton.1 hy]; rfl) (by have := usV_len F; have := ssV_len F; have := isV_len F; unfold maxLen; omega) (by have := usV_len F; have := ssV_len F; have := isV_len F; omega) (by have := hTh5.only.size; have := hq6; omega) ?_
                              intro rowi wx6 hown hgrow hblk
                              have hTh6 := hTh5.grow_i hown hgrow hblk
                              refine hK.out _ _ hTh6.only (fun hHeld => ?_)
                              clear hK K_ hHeld hown hgrow hblk
                              try simp only [Act.put, List.setIfInBounds_toArray, List.set_cons_zero, List.set_cons_succ]
                              replace hS := hTh6.only
                              (refine take_p (i := 21) (v := ?_) rfl (by kernel_rfl) (by kernel_rfl) (by kernel_rfl) (fun _ _ _ h => h) (Or.inl ⟨by rfl, ?_⟩) hS ?_; rotate_left; (focus (intro w0_ hSw; go_simp; try with_reducible rfl)); try simp only [Act.put, List.setIfInBounds_toArray, List.set_cons_zero, List.set_cons_succ])
                              (refine take_p (i := 22) (v := ?_) rfl (by kernel_rfl) (by kernel_rfl) (by kernel_rfl) (fun _ _ _ h => h) (Or.inl ⟨by rfl, ?_⟩) hS ?_; rotate_left; (focus (intro w0_ hSw; go_simp; try with_reducible rfl)); try simp only [Act.put, List.setIfInBounds_toArray, List.set_cons_zero, List.set_cons_succ])
                              (refine take_p (i := 23) (v := ?_) rfl (by kernel_rfl) (by kernel_rfl) (by kernel_rfl) (fun _ _ _ h => h) (Or.inl ⟨by rfl, ?_⟩) hS ?_; rotate_left; (focus (intro w0_ hSw; go_simp; try with_reducible rfl)); try simp only [Act.put, List.setIfInBounds_toArray, List.set_cons_zero, List.set_cons_succ])
                              refine wpAnyH_done (by kernel_rfl) ?_ _
                              have hBn := hTh6.book (o := o)
                              have hPn := hTh6.pt hBi6 hP6 hltb2
                              have hTn := hTh6.tp hBi6 hT6 hltg2
                              have hOn := hTh6.bk hBi6 hBk6 hub
                              have hAn := hTh6.blk hBi6 hA6 (by decide) (by decide)
                              have hzn : Hid (Still w wx6) := Lib.hid (hTh6.stl hBi6 hz6.out hwq2)
                              have hqn : q2 ≤ wx6.heap.size := by have := hTh6.only.size; omega
                              obtain ⟨D1, e1, D2, e2, D3, e3, r1, r2, r3⟩ := book_shape hBn
                              subst r1 r2 r3
                              rw [List.length_append, List.length_singleton] at hBn ⊢
                              clear hTh0 hTh1 hTh2 hTh3 hTh4 hTh5 hTh6 hBi6 hBk6 hA6 hP6 hT6 hz6 hS z1 z2 z3
                              go_wp2_with fail
                              go_roundw
                              case rel => exact ⟨j + 1, D1, e1, D2, e2, D3, e3, hlt2, by go_num, by rw [HF.out, List.length_append, List.length_singleton], by rw [HF.out, List.length_append, List.length_singleton], by rw [HF.out, List.length_append, List.length_singleton], hPn, hTn, hOn, by rw [HF.out, List.length_append, List.length_singleton]; exact hBn, hAn, hqn, hzn⟩
                              case measure => simp [intOf]; omega
                      · as_aux_lemma =>
                          have hTh2 := hTh1.build (.int .i64 o.slot) 3
                          refine step_build1 rfl 61 3 (.tmp 169) rfl .i64 _ rfl ii _ Try.underlying61 hii hiz hi1 ?_
                          refine hK.out _ _ hTh2.only (fun hHeld => ?_)
                          clear hK K_ hHeld
                          try simp only [Act.put, List.setIfInBounds_toArray, List.set_cons_zero, List.set_cons_succ]
                          replace hS := hTh2.only
                          generalize hwx2 : wx1.alloc (.cells #[.int .i64 o.slot] 3) = wx2 at hTh2 hS ⊢
                          obtain ⟨gb, hgb⟩ : ∃ g, g = wx1.heap.size := ⟨_, rfl⟩
                          rw [← hgb] at hTh2 ⊢
                          clear hwx2 hgb
                          refine wpAnyH_ready (rs := [6, 19]) (by kernel_rfl) (by simp) ?_
                          refine cons_p rfl (fun K_ hK => ?_) (cons_p rfl (fun K_ hK => ?_) AllReadyH.nil)
                          · as_aux_lemma =>
                              refine step_append_any rfl (.tmp 158) (.tmp 163) 61 rfl q2 3 ii (.int .i64 0) 1 8 Try.underlying61 hii hiz hi1 hi2 rfl (by decide) _ _ _ rfl hTh2.ru _ (some ⟨ga, 0, none⟩) 1 1 [.int .i64 (o.u : Int)] rfl (hTh2.reads (by simp)) (by intro y hy; rw [List.mem_singleton.1 hy]; rfl) (by have := usV_len F; have := ssV_len F; have := isV_len F; unfold maxLen; omega) (by have := usV_len F; have := ssV_len F; have := isV_len F; omega) (by have := hTh2.only.size; have := hq6; omega) ?_
                              intro rowu wx3 hown hgrow hblk
                              have hTh3 := hTh2.grow_u hown hgrow hblk
                              refine hK.out _ _ hTh3.only (fun hHeld => ?_)
                              clear hK K_ hHeld hown hgrow hblk
                              try simp only [Act.put, List.setIfInBounds_toArray, List.set_cons_zero, List.set_cons_succ]
                              replace hS := hTh3.only
                              refine wpAnyH_ready (rs := [13, 19]) (by kernel_rfl) (by simp) ?_
                              refine cons_p rfl (fun K_ hK => ?_) (cons_p rfl (fun K_ hK => ?_) AllReadyH.nil)
                              · as_aux_lemma =>
                                  refine step_append_any rfl (.tmp 165) (.tmp 170) 61 rfl q2 3 ii (.int .i64 0) 1 8 Try.underlying61 hii hiz hi1 hi2 rfl (by decide) _ _ _ rfl hTh3.rv _ (some ⟨gb, 0, none⟩) 1 1 [.int .i64 o.slot] rfl (hTh3.reads (by simp)) (by intro y hy; rw [List.mem_singleton.1 hy]; rfl) (by have := usV_len F; have := ssV_len F; have := isV_len F; unfold maxLen; omega) (by have := usV_len F; have := ssV_len F; have := isV_len F; omega) (by have := hTh3.only.size; have := hq6; omega) ?_
                                  intro rowv wx4 hown hgrow hblk
                                  have hTh4 := hTh3.grow_v hown hgrow hblk
                                  refine hK.out _ _ hTh4.only (fun hHeld => ?_)
                                  clear hK K_ hHeld hown hgrow hblk
                                  try simp only [Act.put, List.setIfInBounds_toArray, List.set_cons_zero, List.set_cons_succ]
                                  replace hS := hTh4.only
                                  refine wpAnyH_ready (rs := [19]) (by kernel_rfl) (by simp) ?_
                                  refine cons_p rfl (fun K_ hK => ?_) AllReadyH.nil
                                  have hTh5 := hTh4.build (.int .u16 (o.id : Int)) 32
                                  refine step_build1 rfl 62 32 (.tmp 176) rfl .u16 _ rfl iu _ Try.underlying62 hiu huz hu1 ?_
                                  refine hK.out _ _ hTh5.only (fun hHeld => ?_)
                                  clear hK K_ hHeld
                                  try simp only [Act.put, List.setIfInBounds_toArray, List.set_cons_zero, List.set_cons_succ]
                                  replace hS := hTh5.only
                                  generalize hwx5 : wx4.alloc (.cells #[.int .u16 (o.id : Int)] 32) = wx5 at hTh5 hS ⊢
                                  obtain ⟨gc, hgc⟩ : ∃ g, g = wx4.heap.size := ⟨_, rfl⟩
                                  rw [← hgc] at hTh5 ⊢
                                  clear hwx5 hgc
                                  refine wpAnyH_ready (rs := [20]) (by kernel_rfl) (by simp) ?_
                                  refine cons_p rfl (fun K_ hK => ?_) AllReadyH.nil
                                  refine step_append_any rfl (.tmp 172) (.tmp 177) 62 rfl q2 32 iu (.int .u16 0) 1 2 Try.underlying62 hiu huz hu1 hu2 rfl (by decide) _ _ _ rfl hTh5.ri _ (some ⟨gc, 0, none⟩) 1 1 [.int .u16 (o.id : Int)] rfl (hTh5.reads (by simp)) (by intro y hy; rw [List.mem_singleton.1 hy]; rfl) (by have := usV_len F; have := ssV_len F; have := isV_len F; unfold maxLen; omega) (by have := usV_len F; have := ssV_len F; have := isV_len F; omega) (by have := hTh5.only.size; have := hq6; omega) ?_
                                  intro rowi wx6 hown hgrow hblk
                                  have hTh6 := hTh5.grow_i hown hgrow hblk
                                  refine hK.out _ _ hTh6.only (fun hHeld => ?_)
                                  clear hK K_ hHeld hown hgrow hblk
                                  try simp only [Act.put, List.setIfInBounds_toArray, List.set_cons_zero, List.set_cons_succ]
                                  replace hS := hTh6.only
                                  (refine take_p (i := 21) (v := ?_) rfl (by kernel_rfl) (by kernel_rfl) (by kernel_rfl) (fun _ _ _ h => h) (Or.inl ⟨by rfl, ?_⟩) hS ?_; rotate_left; (focus (intro w0_ hSw; go_simp; try with_reducible rfl)); try simp only [Act.put, List.setIfInBounds_toArray, List.set_cons_zero, List.set_cons_succ])
                                  (refine take_p (i := 22) (v := ?_) rfl (by kernel_rfl) (by kernel_rfl) (by kernel_rfl) (fun _ _ _ h => h) (Or.inl ⟨by rfl, ?_⟩) hS ?_; rotate_left; (focus (intro w0_ hSw; go_simp; try with_reducible rfl)); try simp only [Act.put, List.setIfInBounds_toArray, List.set_cons_zero, List.set_cons_succ])
                                  (refine take_p (i := 23) (v := ?_) rfl (by kernel_rfl) (by kernel_rfl) (by kernel_rfl) (fun _ _ _ h => h) (Or.inl ⟨by rfl, ?_⟩) hS ?_; rotate_left; (focus (intro w0_ hSw; go_simp; try with_reducible rfl)); try simp only [Act.put, List.setIfInBounds_toArray, List.set_cons_zero, List.set_cons_succ])
                                  refine wpAnyH_done (by kernel_rfl) ?_ _
                                  have hBn := hTh6.book (o := o)
                                  have hPn := hTh6.pt hBi6 hP6 hltb2
                                  have hTn := hTh6.tp hBi6 hT6 hltg2
                                  have hOn := hTh6.bk hBi6 hBk6 hub
                                  have hAn := hTh6.blk hBi6 hA6 (by decide) (by decide)
                                  have hzn : Hid (Still w wx6) := Lib.hid (hTh6.stl hBi6 hz6.out hwq2)
                                  have hqn : q2 ≤ wx6.heap.size := by have := hTh6.only.size; omega
                                  obtain ⟨D1, e1, D2, e2, D3, e3, r1, r2, r3⟩ := book_shape hBn
                                  subst r1 r2 r3
                                  rw [List.length_append, List.length_singleton] at hBn ⊢
                                  clear hTh0 hTh1 hTh2 hTh3 hTh4 hTh5 hTh6 hBi6 hBk6 hA6 hP6 hT6 hz6 hS z1 z2 z3
                                  go_wp2_with fail
                                  go_roundw
                                  case rel => exact ⟨j + 1, D1, e1, D2, e2, D3, e3, hlt2, by go_num, by rw [HF.out, List.length_append, List.length_singleton], by rw [HF.out, List.length_append, List.length_singleton], by rw [HF.out, List.length_append, List.length_singleton], hPn, hTn, hOn, by rw [HF.out, List.length_append, List.length_singleton]; exact hBn, hAn, hqn, hzn⟩
                                  case measure => simp [intOf]; omega
                              · as_aux_lemma =>
                                  have hTh4 := hTh3.build (.int .u16 (o.id : Int)) 32
                                  refine step_build1 rfl 62 32 (.tmp 176) rfl .u16 _ rfl iu _ Try.underlying62 hiu huz hu1 ?_
                                  refine hK.out _ _ hTh4.only (fun hHeld => ?_)
                                  clear hK K_ hHeld
                                  try simp only [Act.put, List.setIfInBounds_toArray, List.set_cons_zero, List.set_cons_succ]
                                  replace hS := hTh4.only
                                  generalize hwx4 : wx3.alloc (.cells #[.int .u16 (o.id : Int)] 32) = wx4 at hTh4 hS ⊢
                                  obtain ⟨gc, hgc⟩ : ∃ g, g = wx3.heap.size := ⟨_, rfl⟩
                                  rw [← hgc] at hTh4 ⊢
                                  clear hwx4 hgc
                                  refine wpAnyH_ready (rs := [13]) (by kernel_rfl) (by simp) ?_
                                  refine cons_p rfl (fun K_ hK => ?_) AllReadyH.nil
                                  refine step_append_any rfl (.tmp 165) (.tmp 170) 61 rfl q2 3 ii (.int .i64 0) 1 8 Try.underlying61 hii hiz hi1 hi2 rfl (by decide) _ _ _ rfl hTh4.rv _ (some ⟨gb, 0, none⟩) 1 1 [.int .i64 o.slot] rfl (hTh4.reads (by simp)) (by intro y hy; rw [List.mem_singleton.1 hy]; rfl) (by have := usV_len F; have := ssV_len F; have := isV_len F; unfold maxLen; omega) (by have := usV_len F; have := ssV_len F; have := isV_len F; omega) (by have := hTh4.only.size; have := hq6; omega) ?_
                                  intro rowv wx5 hown hgrow hblk
                                  have hTh5 := hTh4.grow_v hown hgrow hblk
                                  refine hK.out _ _ hTh5.only (fun hHeld => ?_)
                                  clear hK K_ hHeld hown hgrow hblk
                                  try simp only [Act.put, List.setIfInBounds_toArray, List.set_cons_zero, List.set_cons_succ]
                                  replace hS := hTh5.only
                                  refine wpAnyH_ready (rs := [20]) (by kernel_rfl) (by simp) ?_
                                  refine cons_p rfl (fun K_ hK => ?_) AllReadyH.nil
                                  refine step_append_any rfl (.tmp 172) (.tmp 177) 62 rfl q2 32 iu (.int .u16 0) 1 2 Try.underlying62 hiu huz hu1 hu2 rfl (by decide) _ _ _ rfl hTh5.ri _ (some ⟨gc, 0, none⟩) 1 1 [.int .u16 (o.id : Int)] rfl (hTh5.reads (by simp)) (by intro y hy; rw [List.mem_singleton.1 hy]; rfl) (by have := usV_len F; have := ssV_len F; have := isV_len F; unfold maxLen; omega) (by have := usV_len F; have := ssV_len F; have := isV_len F; omega) (by have := hTh5.only.size; have := hq6; omega) ?_
                                  intro rowi wx6 hown hgrow hblk
                                  have hTh6 := hTh5.grow_i hown hgrow hblk
                                  refine hK.out _ _ hTh6.only (fun hHeld => ?_)
                                  clear hK K_ hHeld hown hgrow hblk
                                  try simp only [Act.put, List.setIfInBounds_toArray, List.set_cons_zero, List.set_cons_succ]
                                  replace hS := hTh6.only
                                  (refine take_p (i := 21) (v := ?_) rfl (by kernel_rfl) (by kernel_rfl) (by kernel_rfl) (fun _ _ _ h => h) (Or.inl ⟨by rfl, ?_⟩) hS ?_; rotate_left; (focus (intro w0_ hSw; go_simp; try with_reducible rfl)); try simp only [Act.put, List.setIfInBounds_toArray, List.set_cons_zero, List.set_cons_succ])
                                  (refine take_p (i := 22) (v := ?_) rfl (by kernel_rfl) (by kernel_rfl) (by kernel_rfl) (fun _ _ _ h => h) (Or.inl ⟨by rfl, ?_⟩) hS ?_; rotate_left; (focus (intro w0_ hSw; go_simp; try with_reducible rfl)); try simp only [Act.put, List.setIfInBounds_toArray, List.set_cons_zero, List.set_cons_succ])
                                  (refine take_p (i := 23) (v := ?_) rfl (by kernel_rfl) (by kernel_rfl) (by kernel_rfl) (fun _ _ _ h => h) (Or.inl ⟨by rfl, ?_⟩) hS ?_; rotate_left; (focus (intro w0_ hSw; go_simp; try with_reducible rfl)); try simp only [Act.put, List.setIfInBounds_toArray, List.set_cons_zero, List.set_cons_succ])
                                  refine wpAnyH_done (by kernel_rfl) ?_ _
                                  have hBn := hTh6.book (o := o)
                                  have hPn := hTh6.pt hBi6 hP6 hltb2
                                  have hTn := hTh6.tp hBi6 hT6 hltg2
                                  have hOn := hTh6.bk hBi6 hBk6 hub
                                  have hAn := hTh6.blk hBi6 hA6 (by decide) (by decide)
                                  have hzn : Hid (Still w wx6) := Lib.hid (hTh6.stl hBi6 hz6.out hwq2)
                                  have hqn : q2 ≤ wx6.heap.size := by have := hTh6.only.size; omega
                                  obtain ⟨D1, e1, D2, e2, D3, e3, r1, r2, r3⟩ := book_shape hBn
                                  subst r1 r2 r3
                                  rw [List.length_append, List.length_singleton] at hBn ⊢
                                  clear hTh0 hTh1 hTh2 hTh3 hTh4 hTh5 hTh6 hBi6 hBk6 hA6 hP6 hT6 hz6 hS z1 z2 z3
                                  go_wp2_with fail
                                  go_roundw
                                  case rel => exact ⟨j + 1, D1, e1, D2, e2, D3, e3, hlt2, by go_num, by rw [HF.out, List.length_append, List.length_singleton], by rw [HF.out, List.length_append, List.length_singleton], by rw [HF.out, List.length_append, List.length_singleton], hPn, hTn, hOn, by rw [HF.out, List.length_append, List.length_singleton]; exact hBn, hAn, hqn, hzn⟩
                                  case measure => simp [intOf]; omega
                          · as_aux_lemma =>
                              have hTh3 := hTh2.build (.int .u16 (o.id : Int)) 32
                              refine step_build1 rfl 62 32 (.tmp 176) rfl .u16 _ rfl iu _ Try.underlying62 hiu huz hu1 ?_
                              refine hK.out _ _ hTh3.only (fun hHeld => ?_)
                              clear hK K_ hHeld
                              try simp only [Act.put, List.setIfInBounds_toArray, List.set_cons_zero, List.set_cons_succ]
                              replace hS := hTh3.only
                              generalize hwx3 : wx2.alloc (.cells #[.int .u16 (o.id : Int)] 32) = wx3 at hTh3 hS ⊢
                              obtain ⟨gc, hgc⟩ : ∃ g, g = wx2.heap.size := ⟨_, rfl⟩
                              rw [← hgc] at hTh3 ⊢
                              clear hwx3 hgc
                              refine wpAnyH_ready (rs := [6]) (by kernel_rfl) (by simp) ?_
                              refine cons_p rfl (fun K_ hK => ?_) AllReadyH.nil
                              refine step_append_any rfl (.tmp 158) (.tmp 163) 61 rfl q2 3 ii (.int .i64 0) 1 8 Try.underlying61 hii hiz hi1 hi2 rfl (by decide) _ _ _ rfl hTh3.ru _ (some ⟨ga, 0, none⟩) 1 1 [.int .i64 (o.u : Int)] rfl (hTh3.reads (by simp)) (by intro y hy; rw [List.mem_singleton.1 hy]; rfl) (by have := usV_len F; have := ssV_len F; have := isV_len F; unfold maxLen; omega) (by have := usV_len F; have := ssV_len F; have := isV_len F; omega) (by have := hTh3.only.size; have := hq6; omega) ?_
                              intro rowu wx4 hown hgrow hblk
                              have hTh4 := hTh3.grow_u hown hgrow hblk
                              refine hK.out _ _ hTh4.only (fun hHeld => ?_)
                              clear hK K_ hHeld hown hgrow hblk
                              try simp only [Act.put, List.setIfInBounds_toArray, List.set_cons_zero, List.set_cons_succ]
                              replace hS := hTh4.only
                              refine wpAnyH_ready (rs := [13]) (by kernel_rfl) (by simp) ?_
                              refine cons_p rfl (fun K_ hK => ?_) AllReadyH.nil
                              refine step_append_any rfl (.tmp 165) (.tmp 170) 61 rfl q2 3 ii (.int .i64 0) 1 8 Try.underlying61 hii hiz hi1 hi2 rfl (by decide) _ _ _ rfl hTh4.rv _ (some ⟨gb, 0, none⟩) 1 1 [.int .i64 o.slot] rfl (hTh4.reads (by simp)) (by intro y hy; rw [List.mem_singleton.1 hy]; rfl) (by have := usV_len F; have := ssV_len F; have := isV_len F; unfold maxLen; omega) (by have := usV_len F; have := ssV_len F; have := isV_len F; omega) (by have := hTh4.only.size; have := hq6; omega) ?_
                              intro rowv wx5 hown hgrow hblk
                              have hTh5 := hTh4.grow_v hown hgrow hblk
                              refine hK.out _ _ hTh5.only (fun hHeld => ?_)
                              clear hK K_ hHeld hown hgrow hblk
                              try simp only [Act.put, List.setIfInBounds_toArray, List.set_cons_zero, List.set_cons_succ]
                              replace hS := hTh5.only
                              refine wpAnyH_ready (rs := [20]) (by kernel_rfl) (by simp) ?_
                              refine cons_p rfl (fun K_ hK => ?_) AllReadyH.nil
                              refine step_append_any rfl (.tmp 172) (.tmp 177) 62 rfl q2 32 iu (.int .u16 0) 1 2 Try.underlying62 hiu huz hu1 hu2 rfl (by decide) _ _ _ rfl hTh5.ri _ (some ⟨gc, 0, none⟩) 1 1 [.int .u16 (o.id : Int)] rfl (hTh5.reads (by simp)) (by intro y hy; rw [List.mem_singleton.1 hy]; rfl) (by have := usV_len F; have := ssV_len F; have := isV_len F; unfold maxLen; omega) (by have := usV_len F; have := ssV_len F; have := isV_len F; omega) (by have := hTh5.only.size; have := hq6; omega) ?_
                              intro rowi wx6 hown hgrow hblk
                              have hTh6 := hTh5.grow_i hown hgrow hblk
                              refine hK.out _ _ hTh6.only (fun hHeld => ?_)
                              clear hK K_ hHeld hown hgrow hblk
                              try simp only [Act.put, List.setIfInBounds_toArray, List.set_cons_zero, List.set_cons_succ]
                              replace hS := hTh6.only
                              (refine take_p (i := 21) (v := ?_) rfl (by kernel_rfl) (by kernel_rfl) (by kernel_rfl) (fun _ _ _ h => h) (Or.inl ⟨by rfl, ?_⟩) hS ?_; rotate_left; (focus (intro w0_ hSw; go_simp; try with_reducible rfl)); try simp only [Act.put, List.setIfInBounds_toArray, List.set_cons_zero, List.set_cons_succ])
                              (refine take_p (i := 22) (v := ?_) rfl (by kernel_rfl) (by kernel_rfl) (by kernel_rfl) (fun _ _ _ h => h) (Or.inl ⟨by rfl, ?_⟩) hS ?_; rotate_left; (focus (intro w0_ hSw; go_simp; try with_reducible rfl)); try simp only [Act.put, List.setIfInBounds_toArray, List.set_cons_zero, List.set_cons_succ])
                              (refine take_p (i := 23) (v := ?_) rfl (by kernel_rfl) (by kernel_rfl) (by kernel_rfl) (fun _ _ _ h => h) (Or.inl ⟨by rfl, ?_⟩) hS ?_; rotate_left; (focus (intro w0_ hSw; go_simp; try with_reducible rfl)); try simp only [Act.put, List.setIfInBounds_toArray, List.set_cons_zero, List.set_cons_succ])
                              refine wpAnyH_done (by kernel_rfl) ?_ _
                              have hBn := hTh6.book (o := o)
                              have hPn := hTh6.pt hBi6 hP6 hltb2
                              have hTn := hTh6.tp hBi6 hT6 hltg2
                              have hOn := hTh6.bk hBi6 hBk6 hub
                              have hAn := hTh6.blk hBi6 hA6 (by decide) (by decide)
                              have hzn : Hid (Still w wx6) := Lib.hid (hTh6.stl hBi6 hz6.out hwq2)
                              have hqn : q2 ≤ wx6.heap.size := by have := hTh6.only.size; omega
                              obtain ⟨D1, e1, D2, e2, D3, e3, r1, r2, r3⟩ := book_shape hBn
                              subst r1 r2 r3
                              rw [List.length_append, List.length_singleton] at hBn ⊢
                              clear hTh0 hTh1 hTh2 hTh3 hTh4 hTh5 hTh6 hBi6 hBk6 hA6 hP6 hT6 hz6 hS z1 z2 z3
                              go_wp2_with fail
                              go_roundw
                              case rel => exact ⟨j + 1, D1, e1, D2, e2, D3, e3, hlt2, by go_num, by rw [HF.out, List.length_append, List.length_singleton], by rw [HF.out, List.length_append, List.length_singleton], by rw [HF.out, List.length_append, List.length_singleton], hPn, hTn, hOn, by rw [HF.out, List.length_append, List.length_singleton]; exact hBn, hAn, hqn, hzn⟩
                              case measure => simp [intOf]; omega
                      · as_aux_lemma =>
                          have hTh2 := hTh1.build (.int .u16 (o.id : Int)) 32
                          refine step_build1 rfl 62 32 (.tmp 176) rfl .u16 _ rfl iu _ Try.underlying62 hiu huz hu1 ?_
                          refine hK.out _ _ hTh2.only (fun hHeld => ?_)
                          clear hK K_ hHeld
                          try simp only [Act.put, List.setIfInBounds_toArray, List.set_cons_zero, List.set_cons_succ]
                          replace hS := hTh2.only
                          generalize hwx2 : wx1.alloc (.cells #[.int .u16 (o.id : Int)] 32) = wx2 at hTh2 hS ⊢
                          obtain ⟨gc, hgc⟩ : ∃ g, g = wx1.heap.size := ⟨_, rfl⟩
                          rw [← hgc] at hTh2 ⊢
                          clear hwx2 hgc
                          refine wpAnyH_ready (rs := [6, 12]) (by kernel_rfl) (by simp) ?_
                          refine cons_p rfl (fun K_ hK => ?_) (cons_p rfl (fun K_ hK => ?_) AllReadyH.nil)
                          · as_aux_lemma =>
                              refine step_append_any rfl (.tmp 158) (.tmp 163) 61 rfl q2 3 ii (.int .i64 0) 1 8 Try.underlying61 hii hiz hi1 hi2 rfl (by decide) _ _ _ rfl hTh2.ru _ (some ⟨ga, 0, none⟩) 1 1 [.int .i64 (o.u : Int)] rfl (hTh2.reads (by simp)) (by intro y hy; rw [List.mem_singleton.1 hy]; rfl) (by have := usV_len F; have := ssV_len F; have := isV_len F; unfold maxLen; omega) (by have := usV_len F; have := ssV_len F; have := isV_len F; omega) (by have := hTh2.only.size; have := hq6; omega) ?_
                              intro rowu wx3 hown hgrow hblk
                              have hTh3 := hTh2.grow_u hown hgrow hblk
                              refine hK.out _ _ hTh3.only (fun hHeld => ?_)
                              clear hK K_ hHeld hown hgrow hblk
                              try simp only [Act.put, List.setIfInBounds_toArray, List.set_cons_zero, List.set_cons_succ]
                              replace hS := hTh3.only
                              refine wpAnyH_ready (rs := [12]) (by kernel_rfl) (by simp) ?_
                              refine cons_p rfl (fun K_ hK => ?_) AllReadyH.nil
                              have hTh4 := hTh3.build (.int .i64 o.slot) 3
                              refine step_build1 rfl 61 3 (.tmp 169) rfl .i64 _ rfl ii _ Try.underlying61 hii hiz hi1 ?_
                              refine hK.out _ _ hTh4.only (fun hHeld => ?_)
                              clear hK K_ hHeld
                              try simp only [Act.put, List.setIfInBounds_toArray, List.set_cons_zero, List.set_cons_succ]
                              replace hS := hTh4.only
                              generalize hwx4 : wx3.alloc (.cells #[.int .i64 o.slot] 3) = wx4 at hTh4 hS ⊢
                              obtain ⟨gb, hgb⟩ : ∃ g, g = wx3.heap.size := ⟨_, rfl⟩
                              rw [← hgb] at hTh4 ⊢
                              clear hwx4 hgb
                              refine wpAnyH_ready (rs := [13]) (by kernel_rfl) (by simp) ?_
                              refine cons_p rfl (fun K_ hK => ?_) AllReadyH.nil
                              refine step_append_any rfl (.tmp 165) (.tmp 170) 61 rfl q2 3 ii (.int .i64 0) 1 8 Try.underlying61 hii hiz hi1 hi2 rfl (by decide) _ _ _ rfl hTh4.rv _ (some ⟨gb, 0, none⟩) 1 1 [.int .i64 o.slot] rfl (hTh4.reads (by simp)) (by intro y hy; rw [List.mem_singleton.1 hy]; rfl) (by have := usV_len F; have := ssV_len F; have := isV_len F; unfold maxLen; omega) (by have := usV_len F; have := ssV_len F; have := isV_len F; omega) (by have := hTh4.only.size; have := hq6; omega) ?_
                              intro rowv wx5 hown hgrow hblk
                              have hTh5 := hTh4.grow_v hown hgrow hblk
                              refine hK.out _ _ hTh5.only (fun hHeld => ?_)
                              clear hK K_ hHeld hown hgrow hblk
                              try simp only [Act.put, List.setIfInBounds_toArray, List.set_cons_zero, List.set_cons_succ]
                              replace hS := hTh5.only
                              refine wpAnyH_ready (rs := [20]) (by kernel_rfl) (by simp) ?_
                              refine cons_p rfl (fun K_ hK => ?_) AllReadyH.nil
                              refine step_append_any rfl (.tmp 172) (.tmp 177) 62 rfl q2 32 iu (.int .u16 0) 1 2 Try.underlying62 hiu huz hu1 hu2 rfl (by decide) _ _ _ rfl hTh5.ri _ (some ⟨gc, 0, none⟩) 1 1 [.int .u16 (o.id : Int)] rfl (hTh5.reads (by simp)) (by intro y hy; rw [List.mem_singleton.1 hy]; rfl) (by have := usV_len F; have := ssV_len F; have := isV_len F; unfold maxLen; omega) (by have := usV_len F; have := ssV_len F; have := isV_len F; omega) (by have := hTh5.only.size; have := hq6; omega) ?_
                              intro rowi wx6 hown hgrow hblk
                              have hTh6 := hTh5.grow_i hown hgrow hblk
                              refine hK.out _ _ hTh6.only (fun hHeld => ?_)
                              clear hK K_ hHeld hown hgrow hblk
                              try simp only [Act.put, List.setIfInBounds_toArray, List.set_cons_zero, List.set_cons_succ]
                              replace hS := hTh6.only
                              (refine take_p (i := 21) (v := ?_) rfl (by kernel_rfl) (by kernel_rfl) (by kernel_rfl) (fun _ _ _ h => h) (Or.inl ⟨by rfl, ?_⟩) hS ?_; rotate_left; (focus (intro w0_ hSw; go_simp; try with_reducible rfl)); try simp only [Act.put, List.setIfInBounds_toArray, List.set_cons_zero, List.set_cons_succ])
                              (refine take_p (i := 22) (v := ?_) rfl (by kernel_rfl) (by kernel_rfl) (by kernel_rfl) (fun _ _ _ h => h) (Or.inl ⟨by rfl, ?_⟩) hS ?_; rotate_left; (focus (intro w0_ hSw; go_simp; try with_reducible rfl)); try simp only [Act.put, List.setIfInBounds_toArray, List.set_cons_zero, List.set_cons_succ])
                              (refine take_p (i := 23) (v := ?_) rfl (by kernel_rfl) (by kernel_rfl) (by kernel_rfl) (fun _ _ _ h => h) (Or.inl ⟨by rfl, ?_⟩) hS ?_; rotate_left; (focus (intro w0_ hSw; go_simp; try with_reducible rfl)); try simp only [Act.put, List.setIfInBounds_toArray, List.set_cons_zero, List.set_cons_succ])
                              refine wpAnyH_done (by kernel_rfl) ?_ _
                              have hBn := hTh6.book (o := o)
                              have hPn := hTh6.pt hBi6 hP6 hltb2
                              have hTn := hTh6.tp hBi6 hT6 hltg2
                              have hOn := hTh6.bk hBi6 hBk6 hub
                              have hAn := hTh6.blk hBi6 hA6 (by decide) (by decide)
                              have hzn : Hid (Still w wx6) := Lib.hid (hTh6.stl hBi6 hz6.out hwq2)
                              have hqn : q2 ≤ wx6.heap.size := by have := hTh6.only.size; omega
                              obtain ⟨D1, e1, D2, e2, D3, e3, r1, r2, r3⟩ := book_shape hBn
                              subst r1 r2 r3
                              rw [List.length_append, List.length_singleton] at hBn ⊢
                              clear hTh0 hTh1 hTh2 hTh3 hTh4 hTh5 hTh6 hBi6 hBk6 hA6 hP6 hT6 hz6 hS z1 z2 z3
                              go_wp2_with fail
                              go_roundw
                              case rel => exact ⟨j + 1, D1, e1, D2, e2, D3, e3, hlt2, by go_num, by rw [HF.out, List.length_append, List.length_singleton], by rw [HF.out, List.length_append, List.length_singleton], by rw [HF.out, List.length_append, List.length_singleton], hPn, hTn, hOn, by rw [HF.out, List.length_append, List.length_singleton]; exact hBn, hAn, hqn, hzn⟩
                              case measure => simp [intOf]; omega
                          · as_aux_lemma =>
                              have hTh3 := hTh2.build (.int .i64 o.slot) 3
                              refine step_build1 rfl 61 3 (.tmp 169) rfl .i64 _ rfl ii _ Try.underlying61 hii hiz hi1 ?_
                              refine hK.out _ _ hTh3.only (fun hHeld => ?_)
                              clear hK K_ hHeld
                              try simp only [Act.put, List.setIfInBounds_toArray, List.set_cons_zero, List.set_cons_succ]
                              replace hS := hTh3.only
                              generalize hwx3 : wx2.alloc (.cells #[.int .i64 o.slot] 3) = wx3 at hTh3 hS ⊢
                              obtain ⟨gb, hgb⟩ : ∃ g, g = wx2.heap.size := ⟨_, rfl⟩
                              rw [← hgb] at hTh3 ⊢
                              clear hwx3 hgb
                              refine wpAnyH_ready (rs := [6]) (by kernel_rfl) (by simp) ?_
                              refine cons_p rfl (fun K_ hK => ?_) AllReadyH.nil
                              refine step_append_any rfl (.tmp 158) (.tmp 163) 61 rfl q2 3 ii (.int .i64 0) 1 8 Try.underlying61 hii hiz hi1 hi2 rfl (by decide) _ _ _ rfl hTh3.ru _ (some ⟨ga, 0, none⟩) 1 1 [.int .i64 (o.u : Int)] rfl (hTh3.reads (by simp)) (by intro y hy; rw [List.mem_singleton.1 hy]; rfl) (by have := usV_len F; have := ssV_len F; have := isV_len F; unfold maxLen; omega) (by have := usV_len F; have := ssV_len F; have := isV_len F; omega) (by have := hTh3.only.size; have := hq6; omega) ?_
                              intro rowu wx4 hown hgrow hblk
                              have hTh4 := hTh3.grow_u hown hgrow hblk
                              refine hK.out _ _ hTh4.only (fun hHeld => ?_)
                              clear hK K_ hHeld hown hgrow hblk
                              try simp only [Act.put, List.setIfInBounds_toArray, List.set_cons_zero, List.set_cons_succ]
                              replace hS := hTh4.only
                              refine wpAnyH_ready (rs := [13]) (by kernel_rfl) (by simp) ?_
                              refine cons_p rfl (fun K_ hK => ?_) AllReadyH.nil
                              refine step_append_any rfl (.tmp 165) (.tmp 170) 61 rfl q2 3 ii (.int .i64 0) 1 8 Try.underlying61 hii hiz hi1 hi2 rfl (by decide) _ _ _ rfl hTh4.rv _ (some ⟨gb, 0, none⟩) 1 1 [.int .i64 o.slot] rfl (hTh4.reads (by simp)) (by intro y hy; rw [List.mem_singleton.1 hy]; rfl) (by have := usV_len F; have := ssV_len F; have := isV_len F; unfold maxLen; omega) (by have := usV_len F; have := ssV_len F; have := isV_len F; omega) (by have := hTh4.only.size; have := hq6; omega) ?_
                              intro rowv wx5 hown hgrow hblk
                              have hTh5 := hTh4.grow_v hown hgrow hblk
                              refine hK.out _ _ hTh5.only (fun hHeld => ?_)
                              clear hK K_ hHeld hown hgrow hblk
                              try simp only [Act.put, List.setIfInBounds_toArray, List.set_cons_zero, List.set_cons_succ]
                              replace hS := hTh5.only
                              refine wpAnyH_ready (rs := [20]) (by kernel_rfl) (by simp) ?_
                              refine cons_p rfl (fun K_ hK => ?_) AllReadyH.nil
                              refine step_append_any rfl (.tmp 172) (.tmp 177) 62 rfl q2 32 iu (.int .u16 0) 1 2 Try.underlying62 hiu huz hu1 hu2 rfl (by decide) _ _ _ rfl hTh5.ri _ (some ⟨gc, 0, none⟩) 1 1 [.int .u16 (o.id : Int)] rfl (hTh5.reads (by simp)) (by intro y hy; rw [List.mem_singleton.1 hy]; rfl) (by have := usV_len F; have := ssV_len F; have := isV_len F; unfold maxLen; omega) (by have := usV_len F; have := ssV_len F; have := isV_len F; omega) (by have := hTh5.only.size; have := hq6; omega) ?_
                              intro rowi wx6 hown hgrow hblk
                              have hTh6 := hTh5.grow_i hown hgrow hblk
                              refine hK.out _ _ hTh6.only (fun hHeld => ?_)
                              clear hK K_ hHeld hown hgrow hblk
                              try simp only [Act.put, List.setIfInBounds_toArray, List.set_cons_zero, List.set_cons_succ]
                              replace hS := hTh6.only
                              (refine take_p (i := 21) (v := ?_) rfl (by kernel_rfl) (by kernel_rfl) (by kernel_rfl) (fun _ _ _ h => h) (Or.inl ⟨by rfl, ?_⟩) hS ?_; rotate_left; (focus (intro w0_ hSw; go_simp; try with_reducible rfl)); try simp only [Act.put, List.setIfInBounds_toArray, List.set_cons_zero, List.set_cons_succ])
                              (refine take_p (i := 22) (v := ?_) rfl (by kernel_rfl) (by kernel_rfl) (by kernel_rfl) (fun _ _ _ h => h) (Or.inl ⟨by rfl, ?_⟩) hS ?_; rotate_left; (focus (intro w0_ hSw; go_simp; try with_reducible rfl)); try simp only [Act.put, List.setIfInBounds_toArray, List.set_cons_zero, List.set_cons_succ])
                              (refine take_p (i := 23) (v := ?_) rfl (by kernel_rfl) (by kernel_rfl) (by kernel_rfl) (fun _ _ _ h => h) (Or.inl ⟨by rfl, ?_⟩) hS ?_; rotate_left; (focus (intro w0_ hSw; go_simp; try with_reducible rfl)); try simp only [Act.put, List.setIfInBounds_toArray, List.set_cons_zero, List.set_cons_succ])
                              refine wpAnyH_done (by kernel_rfl) ?_ _
                              have hBn := hTh6.book (o := o)
                              have hPn := hTh6.pt hBi6 hP6 hltb2
                              have hTn := hTh6.tp hBi6 hT6 hltg2
                              have hOn := hTh6.bk hBi6 hBk6 hub
                              have hAn := hTh6.blk hBi6 hA6 (by decide) (by decide)
                              have hzn : Hid (Still w wx6) := Lib.hid (hTh6.stl hBi6 hz6.out hwq2)
                              have hqn : q2 ≤ wx6.heap.size := by have := hTh6.only.size; omega
                              obtain ⟨D1, e1, D2, e2, D3, e3, r1, r2, r3⟩ := book_shape hBn
                              subst r1 r2 r3
                              rw [List.length_append, List.length_singleton] at hBn ⊢
                              clear hTh0 hTh1 hTh2 hTh3 hTh4 hTh5 hTh6 hBi6 hBk6 hA6 hP6 hT6 hz6 hS z1 z2 z3
                              go_wp2_with fail
                              go_roundw
                              case rel => exact ⟨j + 1, D1, e1, D2, e2, D3, e3, hlt2, by go_num, by rw [HF.out, List.length_append, List.length_singleton], by rw [HF.out, List.length_append, List.length_singleton], by rw [HF.out, List.length_append, List.length_singleton], hPn, hTn, hOn, by rw [HF.out, List.length_append, List.length_singleton]; exact hBn, hAn, hqn, hzn⟩
                              case measure => simp [intOf]; omega
                  · as_aux_lemma =>
                      have hTh1 := hTh0.build (.int .i64 o.slot) 3
                      refine step_build1 rfl 61 3 (.tmp 169) rfl .i64 _ rfl ii _ Try.underlying61 hii hiz hi1 ?_
                      refine hK.out _ _ hTh1.only (fun hHeld => ?_)
                      clear hK K_ hHeld
                      try simp only [Act.put, List.setIfInBounds_toArray, List.set_cons_zero, List.set_cons_succ]
                      replace hS := hTh1.only
                      generalize hwx1 : wd.alloc (.cells #[.int .i64 o.slot] 3) = wx1 at hTh1 hS ⊢
                      obtain ⟨gb, hgb⟩ : ∃ g, g = wd.heap.size := ⟨_, rfl⟩
                      rw [← hgb] at hTh1 ⊢
                      clear hwx1 hgb
                      refine wpAnyH_ready (rs := [5, 19]) (by kernel_rfl) (by simp) ?_
                      refine cons_p rfl (fun K_ hK => ?_) (cons_p rfl (fun K_ hK => ?_) AllReadyH.nil)
                      · as_aux_lemma =>
                          have hTh2 := hTh1.build (.int .i64 (o.u : Int)) 3
                          refine step_build1 rfl 61 3 (.tmp 162) rfl .i64 _ rfl ii _ Try.underlying61 hii hiz hi1 ?_
                          refine hK.out _ _ hTh2.only (fun hHeld => ?_)
                          clear hK K_ hHeld
                          try simp only [Act.put, List.setIfInBounds_toArray, List.set_cons_zero, List.set_cons_succ]
                          replace hS := hTh2.only
                          generalize hwx2 : wx1.alloc (.cells #[.int .i64 (o.u : Int)] 3) = wx2 at hTh2 hS ⊢
                          obtain ⟨ga, hga⟩ : ∃ g, g = wx1.heap.size := ⟨_, rfl⟩
                          rw [← hga] at hTh2 ⊢
                          clear hwx2 hga
                          refine wpAnyH_ready (rs := [6, 19]) (by kernel_rfl) (by simp) ?_
                          refine cons_p rfl (fun K_ hK => ?_) (cons_p rfl (fun K_ hK => ?_) AllReadyH.nil)
                          · as_aux_lemma =>
                              refine step_append_any rfl (.tmp 158) (.tmp 163) 61 rfl q2 3 ii (.int .i64 0) 1 8 Try.underlying61 hii hiz hi1 hi2 rfl (by decide) _ _ _ rfl hTh2.ru _ (some ⟨ga, 0, none⟩) 1 1 [.int .i64 (o.u : Int)] rfl (hTh2.reads (by simp)) (by intro y hy; rw [List.mem_singleton.1 hy]; rfl) (by have := usV_len F; have := ssV_len F; have := isV_len F; unfold maxLen; omega) (by have := usV_len F; have := ssV_len F; have := isV_len F; omega) (by have := hTh2.only.size; have := hq6; omega) ?_
                              intro rowu wx3 hown hgrow hblk
                              have hTh3 := hTh2.grow_u hown hgrow hblk
                              refine hK.out _ _ hTh3.only (fun hHeld => ?_)
                              clear hK K_ hHeld hown hgrow hblk
                              try simp only [Act.put, List.setIfInBounds_toArray, List.set_cons_zero, List.set_cons_succ]
                              replace hS := hTh3.only
                              refine wpAnyH_ready (rs := [13, 19]) (by kernel_rfl) (by simp) ?_
                              refine cons_p rfl (fun K_ hK => ?_) (cons_p rfl (fun K_ hK => ?_) AllReadyH.nil)
                              · as_aux_lemma =>
                                  refine step_append_any rfl (.tmp 165) (.tmp 170) 61 rfl q2 3 ii (.int .i64 0) 1 8 Try.underlying61 hii hiz hi1 hi2 rfl (by decide) _ _ _ rfl hTh3.rv _ (some ⟨gb, 0, none⟩) 1 1 [.int .i64 o.slot] rfl (hTh3.reads (by simp)) (by intro y hy; rw [List.mem_singleton.1 hy]; rfl) (by have := usV_len F; have := ssV_len F; have := isV_len F; unfold maxLen; omega) (by have := usV_len F; have := ssV_len F; have := isV_len F; omega) (by have := hTh3.only.size; have := hq6; omega) ?_
                                  intro rowv wx4 hown hgrow hblk
                                  have hTh4 := hTh3.grow_v hown hgrow hblk
                                  refine hK.out _ _ hTh4.only (fun hHeld => ?_)
                                  clear hK K_ hHeld hown hgrow hblk
                                  try simp only [Act.put, List.setIfInBounds_toArray, List.set_cons_zero, List.set_cons_succ]
                                  replace hS := hTh4.only
                                  refine wpAnyH_ready (rs := [19]) (by kernel_rfl) (by simp) ?_
                                  refine cons_p rfl (fun K_ hK => ?_) AllReadyH.nil
                                  have hTh5 := hTh4.build (.int .u16 (o.id : Int)) 32
                                  refine step_build1 rfl 62 32 (.tmp 176) rfl .u16 _ rfl iu _ Try.underlying62 hiu huz hu1 ?_
                                  refine hK.out _ _ hTh5.only (fun hHeld => ?_)
                                  clear hK K_ hHeld
                                  try simp only [Act.put, List.setIfInBounds_toArray, List.set_cons_zero, List.set_cons_succ]
                                  replace hS := hTh5.only
                                  generalize hwx5 : wx4.alloc (.cells #[.int .u16 (o.id : Int)] 32) = wx5 at hTh5 hS ⊢
                                  obtain ⟨gc, hgc⟩ : ∃ g, g = wx4.heap.size := ⟨_, rfl⟩
                                  rw [← hgc] at hTh5 ⊢
                                  clear hwx5 hgc
                                  refine wpAnyH_ready (rs := [20]) (by kernel_rfl) (by simp) ?_
                                  refine cons_p rfl (fun K_ hK => ?_) AllReadyH.nil
                                  refine step_append_any rfl (.tmp 172) (.tmp 177) 62 rfl q2 32 iu (.int .u16 0) 1 2 Try.underlying62 hiu huz hu1 hu2 rfl (by decide) _ _ _ rfl hTh5.ri _ (some ⟨gc, 0, none⟩) 1 1 [.int .u16 (o.id : Int)] rfl (hTh5.reads (by simp)) (by intro y hy; rw [List.mem_singleton.1 hy]; rfl) (by have := usV_len F; have := ssV_len F; have := isV_len F; unfold maxLen; omega) (by have := usV_len F; have := ssV_len F; have := isV_len F; omega) (by have := hTh5.only.size; have := hq6; omega) ?_
                                  intro rowi wx6 hown hgrow hblk
                                  have hTh6 := hTh5.grow_i hown hgrow hblk
                                  refine hK.out _ _ hTh6.only (fun hHeld => ?_)
                                  clear hK K_ hHeld hown hgrow hblk
                                  try simp only [Act.put, List.setIfInBounds_toArray, List.set_cons_zero, List.set_cons_succ]
                                  replace hS := hTh6.only
                                  (refine take_p (i := 21) (v := ?_) rfl (by kernel_rfl) (by kernel_rfl) (by kernel_rfl) (fun _ _ _ h => h) (Or.inl ⟨by rfl, ?_⟩) hS ?_; rotate_left; (focus (intro w0_ hSw; go_simp; try with_reducible rfl)); try simp only [Act.put, List.setIfInBounds_toArray, List.set_cons_zero, List.set_cons_succ])
                                  (refine take_p (i := 22) (v := ?_) rfl (by kernel_rfl) (by kernel_rfl) (by kernel_rfl) (fun _ _ _ h => h) (Or.inl ⟨by rfl, ?_⟩) hS ?_; rotate_left; (focus (intro w0_ hSw; go_simp; try with_reducible rfl)); try simp only [Act.put, List.setIfInBounds_toArray, List.set_cons_zero, List.set_cons_succ])
                                  (refine take_p (i := 23) (v := ?_) rfl (by kernel_rfl) (by kernel_rfl) (by kernel_rfl) (fun _ _ _ h => h) (Or.inl ⟨by rfl, ?_⟩) hS ?_; rotate_left; (focus (intro w0_ hSw; go_simp; try with_reducible rfl)); try simp only [Act.put, List.setIfInBounds_toArray, List.set_cons_zero, List.set_cons_succ])
                                  refine wpAnyH_done (by kernel_rfl) ?_ _
                                  have hBn := hTh6.book (o := o)
                                  have hPn := hTh6.pt hBi6 hP6 hltb2
                                  have hTn := hTh6.tp hBi6 hT6 hltg2
                                  have hOn := hTh6.bk hBi6 hBk6 hub
                                  have hAn := hTh6.blk hBi6 hA6 (by decide) (by decide)
                                  have hzn : Hid (Still w wx6) := Lib.hid (hTh6.stl hBi6 hz6.out hwq2)
                                  have hqn : q2 ≤ wx6.heap.size := by have := hTh6.only.size; omega
                                  obtain ⟨D1, e1, D2, e2, D3, e3, r1, r2, r3⟩ := book_shape hBn
                                  subst r1 r2 r3
                                  rw [List.length_append, List.length_singleton] at hBn ⊢
                                  clear hTh0 hTh1 hTh2 hTh3 hTh4 hTh5 hTh6 hBi6 hBk6 hA6 hP6 hT6 hz6 hS z1 z2 z3
                                  go_wp2_with fail
                                  go_roundw
                                  case rel => exact ⟨j + 1, D1, e1, D2, e2, D3, e3, hlt2, by go_num, by rw [HF.out, List.length_append, List.length_singleton], by rw [HF.out, List.length_append, List.length_singleton], by rw [HF.out, List.length_append, List.length_singleton], hPn, hTn, hOn, by rw [HF.out, List.length_append, List.length_singleton]; exact hBn, hAn, hqn, hzn⟩
                                  case measure => simp [intOf]; omega
                              · as_aux_lemma =>
                                  have hTh4 := hTh3.build (.int .u16 (o.id : Int)) 32
                                  refine step_build1 rfl 62 32 (.tmp 176) rfl .u16 _ rfl iu _ Try.underlying62 hiu huz hu1 ?_
                                  refine hK.out _ _ hTh4.only (fun hHeld => ?_)
                                  clear hK K_ hHeld
                                  try simp only [Act.put, List.setIfInBounds_toArray, List.set_cons_zero, List.set_cons_succ]
                                  replace hS := hTh4.only
                                  generalize hwx4 : wx3.alloc (.cells #[.int .u16 (o.id : Int)] 32) = wx4 at hTh4 hS ⊢
                                  obtain ⟨gc, hgc⟩ : ∃ g, g = wx3.heap.size := ⟨_, rfl⟩
                                  rw [← hgc] at hTh4 ⊢
                                  clear hwx4 hgc
                                  refine wpAnyH_ready (rs := [13]) (by kernel_rfl) (by simp) ?_
                                  refine cons_p rfl (fun K_ hK => ?_) AllReadyH.nil
                                  refine step_append_any rfl (.tmp 165) (.tmp 170) 61 rfl q2 3 ii (.int .i64 0) 1 8 Try.underlying61 hii hiz hi1 hi2 rfl (by decide) _ _ _ rfl hTh4.rv _ (some ⟨gb, 0, none⟩) 1 1 [.int .i64 o.slot] rfl (hTh4.reads (by simp)) (by intro y hy; rw [List.mem_singleton.1 hy]; rfl) (by have := usV_len F; have := ssV_len F; have := isV_len F; unfold maxLen; omega) (by have := usV_len F; have := ssV_len F; have := isV_len F; omega) (by have := hTh4.only.size; have := hq6; omega) ?_
                                  intro rowv wx5 hown hgrow hblk
                                  have hTh5 := hTh4.grow_v hown hgrow hblk
                                  refine hK.out _ _ hTh5.only (fun hHeld => ?_)
                                  clear hK K_ hHeld hown hgrow hblk
                                  try simp only [Act.put, List.setIfInBounds_toArray, List.set_cons_zero, List.set_cons_succ]
                                  replace hS := hTh5.only
                                  refine wpAnyH_ready (rs := [20]) (by kernel_rfl) (by simp) ?_
                                  refine cons_p rfl (fun K_ hK => ?_) AllReadyH.nil
                                  refine step_append_any rfl (.tmp 172) (.tmp 177) 62 rfl q2 32 iu (.int .u16 0) 1 2 Try.underlying62 hiu huz hu1 hu2 rfl (by decide) _ _ _ rfl hTh5.ri _ (some ⟨gc, 0, none⟩) 1 1 [.int .u16 (o.id : Int)] rfl (hTh5.reads (by simp)) (by intro y hy; rw [List.mem_singleton.1 hy]; rfl) (by have := usV_len F; have := ssV_len F; have := isV_len F; unfold maxLen; omega) (by have := usV_len F; have := ssV_len F; have := isV_len F; omega) (by have := hTh5.only.size; have := hq6; omega) ?_
                                  intro rowi wx6 hown hgrow hblk
                                  have hTh6 := hTh5.grow_i hown hgrow hblk
                                  refine hK.out _ _ hTh6.only (fun hHeld => ?_)
                                  clear hK K_ hHeld hown hgrow hblk
                                  try simp only [Act.put, List.setIfInBounds_toArray, List.set_cons_zero, List.set_cons_succ]
                                  replace hS := hTh6.only
                                  (refine take_p (i := 21) (v := ?_) rfl (by kernel_rfl) (by kernel_rfl) (by kernel_rfl) (fun _ _ _ h => h) (Or.inl ⟨by rfl, ?_⟩) hS ?_; rotate_left; (focus (intro w0_ hSw; go_simp; try with_reducible rfl)); try simp only [Act.put, List.setIfInBounds_toArray, List.set_cons_zero, List.set_cons_succ])
                                  (refine take_p (i := 22) (v := ?_) rfl (by kernel_rfl) (by kernel_rfl) (by kernel_rfl) (fun _ _ _ h => h) (Or.inl ⟨by rfl, ?_⟩) hS ?_; rotate_left; (focus (intro w0_ hSw; go_simp; try with_reducible rfl)); try simp only [Act.put, List.setIfInBounds_toArray, List.set_cons_zero, List.set_cons_succ])
                                  (refine take_p (i := 23) (v := ?_) rfl (by kernel_rfl) (by kernel_rfl) (by kernel_rfl) (fun _ _ _ h => h) (Or.inl ⟨by rfl, ?_⟩) hS ?_; rotate_left; (focus (intro w0_ hSw; go_simp; try with_reducible rfl)); try simp only [Act.put, List.setIfInBounds_toArray, List.set_cons_zero, List.set_cons_succ])
                                  refine wpAnyH_done (by kernel_rfl) ?_ _
                                  have hBn := hTh6.book (o := o)
                                  have hPn := hTh6.pt hBi6 hP6 hltb2
                                  have hTn := hTh6.tp hBi6 hT6 hltg2
                                  have hOn := hTh6.bk hBi6 hBk6 hub
                                  have hAn := hTh6.blk hBi6 hA6 (by decide) (by decide)
                                  have hzn : Hid (Still w wx6) := Lib.hid (hTh6.stl hBi6 hz6.out hwq2)
                                  have hqn : q2 ≤ wx6.heap.size := by have := hTh6.only.size; omega
                                  obtain ⟨D1, e1, D2, e2, D3, e3, r1, r2, r3⟩ := book_shape hBn
                                  subst r1 r2 r3
                                  rw [List.length_append, List.length_singleton] at hBn ⊢
                                  clear hTh0 hTh1 hTh2 hTh3 hTh4 hTh5 hTh6 hBi6 hBk6 hA6 hP6 hT6 hz6 hS z1 z2 z3
                                  go_wp2_with fail
                                  go_roundw
                                  case rel => exact ⟨j + 1, D1, e1, D2, e2, D3, e3, hlt2, by go_num, by rw [HF.out, List.length_append, List.length_singleton], by rw [HF.out, List.length_append, List.length_singleton], by rw [HF.out, List.length_append, List.length_singleton], hPn, hTn, hOn, by rw [HF.out, List.length_append, List.length_singleton]; exact hBn, hAn, hqn, hzn⟩
                                  case measure => simp [intOf]; omega
                          · as_aux_lemma =>
                              have hTh3 := hTh2.build (.int .u16 (o.id : Int)) 32
                              refine step_build1 rfl 62 32 (.tmp 176) rfl .u16 _ rfl iu _ Try.underlying62 hiu huz hu1 ?_
                              refine hK.out _ _ hTh3.only (fun hHeld => ?_)
                              clear hK K_ hHeld
                              try simp only [Act.put, List.setIfInBounds_toArray, List.set_cons_zero, List.set_cons_succ]
                              replace hS := hTh3.only
                              generalize hwx3 : wx2.alloc (.cells #[.int .u16 (o.id : Int)] 32) = wx3 at hTh3 hS ⊢
                              obtain ⟨gc, hgc⟩ : ∃ g, g = wx2.heap.size := ⟨_, rfl⟩
                              rw [← hgc] at hTh3 ⊢
                              clear hwx3 hgc
                              refine wpAnyH_ready (rs := [6]) (by kernel_rfl) (by simp) ?_
                              refine cons_p rfl (fun K_ hK => ?_) AllReadyH.nil
                              refine step_append_any rfl (.tmp 158) (.tmp 163) 61 rfl q2 3 ii (.int .i64 0) 1 8 Try.underlying61 hii hiz hi1 hi2 rfl (by decide) _ _ _ rfl hTh3.ru _ (some ⟨ga, 0, none⟩) 1 1 [.int .i64 (o.u : Int)] rfl (hTh3.reads (by simp)) (by intro y hy; rw [List.mem_singleton.1 hy]; rfl) (by have := usV_len F; have := ssV_len F; have := isV_len F; unfold maxLen; omega) (by have := usV_len F; have := ssV_len F; have := isV_len F; omega) (by have := hTh3.only.size; have := hq6; omega) ?_
                              intro rowu wx4 hown hgrow hblk
                              have hTh4 := hTh3.grow_u hown hgrow hblk
                              refine hK.out _ _ hTh4.only (fun hHeld => ?_)
                              clear hK K_ hHeld hown hgrow hblk
                              try simp only [Act.put, List.setIfInBounds_toArray, List.set_cons_zero, List.set_cons_succ]
                              replace hS := hTh4.only
                              refine wpAnyH_ready (rs := [13]) (by kernel_rfl) (by simp) ?_
                              refine cons_p rfl (fun K_ hK => ?_) AllReadyH.nil
                              refine step_append_any rfl (.tmp 165) (.tmp 170) 61 rfl q2 3 ii (.int .i64 0) 1 8 Try.underlying61 hii hiz hi1 hi2 rfl (by decide) _ _ _ rfl hTh4.rv _ (some ⟨gb, 0, none⟩) 1 1 [.int .i64 o.slot] rfl (hTh4.reads (by simp)) (by intro y hy; rw [List.mem_singleton.1 hy]; rfl) (by have := usV_len F; have := ssV_len F; have := isV_len F; unfold maxLen; omega) (by have := usV_len F; have := ssV_len F; have := isV_len F; omega) (by have := hTh4.only.size; have := hq6; omega) ?_
                              intro rowv wx5 hown hgrow hblk
                              have hTh5 := hTh4.grow_v hown hgrow hblk
                              refine hK.out _ _ hTh5.only (fun hHeld => ?_)
                              clear hK K_ hHeld hown hgrow hblk
                              try simp only [Act.put, List.setIfInBounds_toArray, List.set_cons_zero, List.set_cons_succ]
                              replace hS := hTh5.only
                              refine wpAnyH_ready (rs := [20]) (by kernel_rfl) (by simp) ?_
                              refine cons_p rfl (fun K_ hK => ?_) AllReadyH.nil
                              refine step_append_any rfl (.tmp 172) (.tmp 177) 62 rfl q2 32 iu (.int .u16 0) 1 2 Try.underlying62 hiu huz hu1 hu2 rfl (by decide) _ _ _ rfl hTh5.ri _ (some ⟨gc, 0, none⟩) 1 1 [.int .u16 (o.id : Int)] rfl (hTh5.reads (by simp)) (by intro y hy; rw [List.mem_singleton.1 hy]; rfl) (by have := usV_len F; have := ssV_len F; have := isV_len F; unfold maxLen; omega) (by have := usV_len F; have := ssV_len F; have := isV_len F; omega) (by have := hTh5.only.size; have := hq6; omega) ?_
                              intro rowi wx6 hown hgrow hblk
                              have hTh6 := hTh5.grow_i hown hgrow hblk
                              refine hK.out _ _ hTh6.only (fun hHeld => ?_)
                              clear hK K_ hHeld hown hgrow hblk
                              try simp only [Act.put, List.setIfInBounds_toArray, List.set_cons_zero, List.set_cons_succ]
                              replace hS := hTh6.only
                              (refine take_p (i := 21) (v := ?_) rfl (by kernel_rfl) (by kernel_rfl) (by kernel_rfl) (fun _ _ _ h => h) (Or.inl ⟨by rfl, ?_⟩) hS ?_; rotate_left; (focus (intro w0_ hSw; go_simp; try with_reducible rfl)); try simp only [Act.put, List.setIfInBounds_toArray, List.set_cons_zero, List.set_cons_succ])
                              (refine take_p (i := 22) (v := ?_) rfl (by kernel_rfl) (by kernel_rfl) (by kernel_rfl) (fun _ _ _ h => h) (Or.inl ⟨by rfl, ?_⟩) hS ?_; rotate_left; (focus (intro w0_ hSw; go_simp; try with_reducible rfl)); try simp only [Act.put, List.setIfInBounds_toArray, List.set_cons_zero, List.set_cons_succ])
                              (refine take_p (i := 23) (v := ?_) rfl (by kernel_rfl) (by kernel_rfl) (by kernel_rfl) (fun _ _ _ h => h) (Or.inl ⟨by rfl, ?_⟩) hS ?_; rotate_left; (focus (intro w0_ hSw; go_simp; try with_reducible rfl)); try simp only [Act.put, List.setIfInBounds_toArray, List.set_cons_zero, List.set_cons_succ])
                              refine wpAnyH_done (by kernel_rfl) ?_ _
                              have hBn := hTh6.book (o := o)
                              have hPn := hTh6.pt hBi6 hP6 hltb2
                              have hTn := hTh6.tp hBi6 hT6 hltg2
                              have hOn := hTh6.bk hBi6 hBk6 hub
                              have hAn := hTh6.blk hBi6 hA6 (by decide) (by decide)
                              have hzn : Hid (Still w wx6) := Lib.hid (hTh6.stl hBi6 hz6.out hwq2)
                              have hqn : q2 ≤ wx6.heap.size := by have := hTh6.only.size; omega
                              obtain ⟨D1, e1, D2, e2, D3, e3, r1, r2, r3⟩ := book_shape hBn
                              subst r1 r2 r3
                              rw [List.length_append, List.length_singleton] at hBn ⊢
                              clear hTh0 hTh1 hTh2 hTh3 hTh4 hTh5 hTh6 hBi6 hBk6 hA6 hP6 hT6 hz6 hS z1 z2 z3
                              go_wp2_with fail
                              go_roundw
                              case rel => exact ⟨j + 1, D1, e1, D2, e2, D3, e3, hlt2, by go_num, by rw [HF.out, List.length_append, List.length_singleton], by rw [HF.out, List.length_append, List.length_singleton], by rw [HF.out, List.length_append, List.length_singleton], hPn, hTn, hOn, by rw [HF.out, List.length_append, List.length_singleton]; exact hBn, hAn, hqn, hzn⟩
                              case measure => simp [intOf]; omega
                      · as_aux_lemma =>
                          have hTh2 := hTh1.build (.int .u16 (o.id : Int)) 32
                          refine step_build1 rfl 62 32 (.tmp 176) rfl .u16 _ rfl iu _ Try.underlying62 hiu huz hu1 ?_
                          refine hK.out _ _ hTh2.only (fun hHeld => ?_)
                          clear hK K_ hHeld
                          try simp only [Act.put, List.setIfInBounds_toArray, List.set_cons_zero, List.set_cons_succ]
                          replace hS := hTh2.only
                          generalize hwx2 : wx1.alloc (.cells #[.int .u16 (o.id : Int)] 32) = wx2 at hTh2 hS ⊢
                          obtain ⟨gc, hgc⟩ : ∃ g, g = wx1.heap.size := ⟨_, rfl⟩
                          rw [← hgc] at hTh2 ⊢
                          clear hwx2 hgc
                          refine wpAnyH_ready (rs := [5]) (by kernel_rfl) (by simp) ?_
                          refine cons_p rfl (fun K_ hK => ?_) AllReadyH.nil
                          have hTh3 := hTh2.build (.int .i64 (o.u : Int)) 3
                          refine step_build1 rfl 61 3 (.tmp 162) rfl .i64 _ rfl ii _ Try.underlying61 hii hiz hi1 ?_
                          refine hK.out _ _ hTh3.only (fun hHeld => ?_)
                          clear hK K_ hHeld
                          try simp only [Act.put, List.setIfInBounds_toArray, List.set_cons_zero, List.set_cons_succ]
                          replace hS := hTh3.only
                          generalize hwx3 : wx2.alloc (.cells #[.int .i64 (o.u : Int)] 3) = wx3 at hTh3 hS ⊢
                          obtain ⟨ga, hga⟩ : ∃ g, g = wx2.heap.size := ⟨_, rfl⟩
                          rw [← hga] at hTh3 ⊢
                          clear hwx3 hga
                          refine wpAnyH_ready (rs := [6]) (by kernel_rfl) (by simp) ?_
                          refine cons_p rfl (fun K_ hK => ?_) AllReadyH.nil
                          refine step_append_any rfl (.tmp 158) (.tmp 163) 61 rfl q2 3 ii (.int .i64 0) 1 8 Try.underlying61 hii hiz hi1 hi2 rfl (by decide) _ _ _ rfl hTh3.ru _ (some ⟨ga, 0, none⟩) 1 1 [.int .i64 (o.u : Int)] rfl (hTh3.reads (by simp)) (by intro y hy; rw [List.mem_singleton.1 hy]; rfl) (by have := usV_len F; have := ssV_len F; have := isV_len F; unfold maxLen; omega) (by have := usV_len F; have := ssV_len F; have := isV_len F; omega) (by have := hTh3.only.size; have := hq6; omega) ?_
                          intro rowu wx4 hown hgrow hblk
                          have hTh4 := hTh3.grow_u hown hgrow hblk
                          refine hK.out _ _ hTh4.only (fun hHeld => ?_)
                          clear hK K_ hHeld hown hgrow hblk
                          try simp only [Act.put, List.setIfInBounds_toArray, List.set_cons_zero, List.set_cons_succ]
                          replace hS := hTh4.only
                          refine wpAnyH_ready (rs := [13]) (by kernel_rfl) (by simp) ?_
                          refine cons_p rfl (fun K_ hK => ?_) AllReadyH.nil
                          refine step_append_any rfl (.tmp 165) (.tmp 170) 61 rfl q2 3 ii (.int .i64 0) 1 8 Try.underlying61 hii hiz hi1 hi2 rfl (by decide) _ _ _ rfl hTh4.rv _ (some ⟨gb, 0, none⟩) 1 1 [.int .i64 o.slot] rfl (hTh4.reads (by simp)) (by intro y hy; rw [List.mem_singleton.1 hy]; rfl) (by have := usV_len F; have := ssV_len F; have := isV_len F; unfold maxLen; omega) (by have := usV_len F; have := ssV_len F; have := isV_len F; omega) (by have := hTh4.only.size; have := hq6; omega) ?_
                          intro rowv wx5 hown hgrow hblk
                          have hTh5 := hTh4.grow_v hown hgrow hblk
                          refine hK.out _ _ hTh5.only (fun hHeld => ?_)
                          clear hK K_ hHeld hown hgrow hblk
                          try simp only [Act.put, List.setIfInBounds_toArray, List.set_cons_zero, List.set_cons_succ]
                          replace hS := hTh5.only
                          refine wpAnyH_ready (rs := [20]) (by kernel_rfl) (by simp) ?_
                          refine cons_p rfl (fun K_ hK => ?_) AllReadyH.nil
                          refine step_append_any rfl (.tmp 172) (.tmp 177) 62 rfl q2 32 iu (.int .u16 0) 1 2 Try.underlying62 hiu huz hu1 hu2 rfl (by decide) _ _ _ rfl hTh5.ri _ (some ⟨gc, 0, none⟩) 1 1 [.int .u16 (o.id : Int)] rfl (hTh5.reads (by simp)) (by intro y hy; rw [List.mem_singleton.1 hy]; rfl) (by have := usV_len F; have := ssV_len F; have := isV_len F; unfold maxLen; omega) (by have := usV_len F; have := ssV_len F; have := isV_len F; omega) (by have := hTh5.only.size; have := hq6; omega) ?_
                          intro rowi wx6 hown hgrow hblk
                          have hTh6 := hTh5.grow_i hown hgrow hblk
                          refine hK.out _ _ hTh6.only (fun hHeld => ?_)
                          clear hK K_ hHeld hown hgrow hblk
                          try simp only [Act.put, List.setIfInBounds_toArray, List.set_cons_zero, List.set_cons_succ]
                          replace hS := hTh6.only
                          (refine take_p (i := 21) (v := ?_) rfl (by kernel_rfl) (by kernel_rfl) (by kernel_rfl) (fun _ _ _ h => h) (Or.inl ⟨by rfl, ?_⟩) hS ?_; rotate_left; (focus (intro w0_ hSw; go_simp; try with_reducible rfl)); try simp only [Act.put, List.setIfInBounds_toArray, List.set_cons_zero, List.set_cons_succ])
                          (refine take_p (i := 22) (v := ?_) rfl (by kernel_rfl) (by kernel_rfl) (by kernel_rfl) (fun _ _ _ h => h) (Or.inl ⟨by rfl, ?_⟩) hS ?_; rotate_left; (focus (intro w0_ hSw; go_simp; try with_reducible rfl)); try simp only [Act.put, List.setIfInBounds_toArray, List.set_cons_zero, List.set_cons_succ])
                          (refine take_p (i := 23) (v := ?_) rfl (by kernel_rfl) (by kernel_rfl) (by kernel_rfl) (fun _ _ _ h => h) (Or.inl ⟨by rfl, ?_⟩) hS ?_; rotate_left; (focus (intro w0_ hSw; go_simp; try with_reducible rfl)); try simp only [Act.put, List.setIfInBounds_toArray, List.set_cons_zero, List.set_cons_succ])
                          refine wpAnyH_done (by kernel_rfl) ?_ _
                          have hBn := hTh6.book (o := o)
                          have hPn := hTh6.pt hBi6 hP6 hltb2
                          have hTn := hTh6.tp hBi6 hT6 hltg2
                          have hOn := hTh6.bk hBi6 hBk6 hub
                          have hAn := hTh6.blk hBi6 hA6 (by decide) (by decide)
                          have hzn : Hid (Still w wx6) := Lib.hid (hTh6.stl hBi6 hz6.out hwq2)
                          have hqn : q2 ≤ wx6.heap.size := by have := hTh6.only.size; omega
                          obtain ⟨D1, e1, D2, e2, D3, e3, r1, r2, r3⟩ := book_shape hBn
                          subst r1 r2 r3
                          rw [List.length_append, List.length_singleton] at hBn ⊢
                          clear hTh0 hTh1 hTh2 hTh3 hTh4 hTh5 hTh6 hBi6 hBk6 hA6 hP6 hT6 hz6 hS z1 z2 z3
                          go_wp2_with fail
                          go_roundw
                          case rel => exact ⟨j + 1, D1, e1, D2, e2, D3, e3, hlt2, by go_num, by rw [HF.out, List.length_append, List.length_singleton], by rw [HF.out, List.length_append, List.length_singleton], by rw [HF.out, List.length_append, List.length_singleton], hPn, hTn, hOn, by rw [HF.out, List.length_append, List.length_singleton]; exact hBn, hAn, hqn, hzn⟩
                          case measure => simp [intOf]; omega
                  · as_aux_lemma =>
                      have hTh1 := hTh0.build (.int .u16 (o.id : Int)) 32
                      refine step_build1 rfl 62 32 (.tmp 176) rfl .u16 _ rfl iu _ Try.underlying62 hiu huz hu1 ?_
                      refine hK.out _ _ hTh1.only (fun hHeld => ?_)
                      clear hK K_ hHeld
                      try simp only [Act.put, List.setIfInBounds_toArray, List.set_cons_zero, List.set_cons_succ]
                      replace hS := hTh1.only
                      generalize hwx1 : wd.alloc (.cells #[.int .u16 (o.id : Int)] 32) = wx1 at hTh1 hS ⊢
                      obtain ⟨gc, hgc⟩ : ∃ g, g = wd.heap.size := ⟨_, rfl⟩
                      rw [← hgc] at hTh1 ⊢
                      clear hwx1 hgc
                      refine wpAnyH_ready (rs := [5, 12]) (by kernel_rfl) (by simp) ?_
                      refine cons_p rfl (fun K_ hK => ?_) (cons_p rfl (fun K_ hK => ?_) AllReadyH.nil)
                      · as_aux_lemma =>
                          have hTh2 := hTh1.build (.int .i64 (o.u : Int)) 3
                          refine step_build1 rfl 61 3 (.tmp 162) rfl .i64 _ rfl ii _ Try.underlying61 hii hiz hi1 ?_
                          refine hK.out _ _ hTh2.only (fun hHeld => ?_)
                          clear hK K_ hHeld
                          try simp only [Act.put, List.setIfInBounds_toArray, List.set_cons_zero, List.set_cons_succ]
                          replace hS := hTh2.only
                          generalize hwx2 : wx1.alloc (.cells #[.int .i64 (o.u : Int)] 3) = wx2 at hTh2 hS ⊢
                          obtain ⟨ga, hga⟩ : ∃ g, g = wx1.heap.size := ⟨_, rfl⟩
                          rw [← hga] at hTh2 ⊢
                          clear hwx2 hga
                          refine wpAnyH_ready (rs := [6, 12]) (by kernel_rfl) (by simp) ?_
                          refine cons_p rfl (fun K_ hK => ?_) (cons_p rfl (fun K_ hK => ?_) AllReadyH.nil)
                          · as_aux_lemma =>
                              refine step_append_any rfl (.tmp 158) (.tmp 163) 61 rfl q2 3 ii (.int .i64 0) 1 8 Try.underlying61 hii hiz hi1 hi2 rfl (by decide) _ _ _ rfl hTh2.ru _ (some ⟨ga, 0, none⟩) 1 1 [.int .i64 (o.u : Int)] rfl (hTh2.reads (by simp)) (by intro y hy; rw [List.mem_singleton.1 hy]; rfl) (by have := usV_len F; have := ssV_len F; have := isV_len F; unfold maxLen; omega) (by have := usV_len F; have := ssV_len F; have := isV_len F; omega) (by have := hTh2.only.size; have := hq6; omega) ?_
                              intro rowu wx3 hown hgrow hblk
                              have hTh3 := hTh2.grow_u hown hgrow hblk
                              refine hK.out _ _ hTh3.only (fun hHeld => ?_)
                              clear hK K_ hHeld hown hgrow hblk
                              try simp only [Act.put, List.setIfInBounds_toArray, List.set_cons_zero, List.set_cons_succ]
                              replace hS := hTh3.only
                              refine wpAnyH_ready (rs := [12]) (by kernel_rfl) (by simp) ?_
                              refine cons_p rfl (fun K_ hK => ?_) AllReadyH.nil
                              have hTh4 := hTh3.build (.int .i64 o.slot) 3
                              refine step_build1 rfl 61 3 (.tmp 169) rfl .i64 _ rfl ii _ Try.underlying61 hii hiz hi1 ?_
                              refine hK.out _ _ hTh4.only (fun hHeld => ?_)
                              clear hK K_ hHeld
                              try simp only [Act.put, List.setIfInBounds_toArray, List.set_cons_zero, List.set_cons_succ]
                              replace hS := hTh4.only
                              generalize hwx4 : wx3.alloc (.cells #[.int .i64 o.slot] 3) = wx4 at hTh4 hS ⊢
                              obtain ⟨gb, hgb⟩ : ∃ g, g = wx3.heap.size := ⟨_, rfl⟩
                              rw [← hgb] at hTh4 ⊢
                              clear hwx4 hgb
                              refine wpAnyH_ready (rs := [13]) (by kernel_rfl) (by simp) ?_
                              refine cons_p rfl (fun K_ hK => ?_) AllReadyH.nil
                              refine step_append_any rfl (.tmp 165) (.tmp 170) 61 rfl q2 3 ii (.int .i64 0) 1 8 Try.underlying61 hii hiz hi1 hi2 rfl (by decide) _ _ _ rfl hTh4.rv _ (some ⟨gb, 0, none⟩) 1 1 [.int .i64 o.slot] rfl (hTh4.reads (by simp)) (by intro y hy; rw [List.mem_singleton.1 hy]; rfl) (by have := usV_len F; have := ssV_len F; have := isV_len F; unfold maxLen; omega) (by have := usV_len F; have := ssV_len F; have := isV_len F; omega) (by have := hTh4.only.size; have := hq6; omega) ?_
                              intro rowv wx5 hown hgrow hblk
                              have hTh5 := hTh4.grow_v hown hgrow hblk
                              refine hK.out _ _ hTh5.only (fun hHeld => ?_)
                              clear hK K_ hHeld hown hgrow hblk
                              try simp only [Act.put, List.setIfInBounds_toArray, List.set_cons_zero, List.set_cons_succ]
                              replace hS := hTh5.only
                              refine wpAnyH_ready (rs := [20]) (by kernel_rfl) (by simp) ?_
                              refine cons_p rfl (fun K_ hK => ?_) AllReadyH.nil
                              refine step_append_any rfl (.tmp 172) (.tmp 177) 62 rfl q2 32 iu (.int .u16 0) 1 2 Try.underlying62 hiu huz hu1 hu2 rfl (by decide) _ _ _ rfl hTh5.ri _ (some ⟨gc, 0, none⟩) 1 1 [.int .u16 (o.id : Int)] rfl (hTh5.reads (by simp)) (by intro y hy; rw [List.mem_singleton.1 hy]; rfl) (by have := usV_len F; have := ssV_len F; have := isV_len F; unfold maxLen; omega) (by have := usV_len F; have := ssV_len F; have := isV_len F; omega) (by have := hTh5.only.size; have := hq6; omega) ?_
                              intro rowi wx6 hown hgrow hblk
                              have hTh6 := hTh5.grow_i hown hgrow hblk
                              refine hK.out _ _ hTh6.only (fun hHeld => ?_)
                              clear hK K_ hHeld hown hgrow hblk
                              try simp only [Act.put, List.setIfInBounds_toArray, List.set_cons_zero, List.set_cons_succ]
                              replace hS := hTh6.only
                              (refine take_p (i := 21) (v := ?_) rfl (by kernel_rfl) (by kernel_rfl) (by kernel_rfl) (fun _ _ _ h => h) (Or.inl ⟨by rfl, ?_⟩) hS ?_; rotate_left; (focus (intro w0_ hSw; go_simp; try with_reducible rfl)); try simp only [Act.put, List.setIfInBounds_toArray, List.set_cons_zero, List.set_cons_succ])
                              (refine take_p (i := 22) (v := ?_) rfl (by kernel_rfl) (by kernel_rfl) (by kernel_rfl) (fun _ _ _ h => h) (Or.inl ⟨by rfl, ?_⟩) hS ?_; rotate_left; (focus (intro w0_ hSw; go_simp; try with_reducible rfl)); try simp only [Act.put, List.setIfInBounds_toArray, List.set_cons_zero, List.set_cons_succ])
                              (refine take_p (i := 23) (v := ?_) rfl (by kernel_rfl) (by kernel_rfl) (by kernel_rfl) (fun _ _ _ h => h) (Or.inl ⟨by rfl, ?_⟩) hS ?_; rotate_left; (focus (intro w0_ hSw; go_simp; try with_reducible rfl)); try simp only [Act.put, List.setIfInBounds_toArray, List.set_cons_zero, List.set_cons_succ])
                              refine wpAnyH_done (by kernel_rfl) ?_ _
                              have hBn := hTh6.book (o := o)
                              have hPn := hTh6.pt hBi6 hP6 hltb2
                              have hTn := hTh6.tp hBi6 hT6 hltg2
                              have hOn := hTh6.bk hBi6 hBk6 hub
                              have hAn := hTh6.blk hBi6 hA6 (by decide) (by decide)
                              have hzn : Hid (Still w wx6) := Lib.hid (hTh6.stl hBi6 hz6.out hwq2)
                              have hqn : q2 ≤ wx6.heap.size := by have := hTh6.only.size; omega
                              obtain ⟨D1, e1, D2, e2, D3, e3, r1, r2, r3⟩ := book_shape hBn
                              subst r1 r2 r3
                              rw [List.length_append, List.length_singleton] at hBn ⊢
                              clear hTh0 hTh1 hTh2 hTh3 hTh4 hTh5 hTh6 hBi6 hBk6 hA6 hP6 hT6 hz6 hS z1 z2 z3
                              go_wp2_with fail
                              go_roundw
                              case rel => exact ⟨j + 1, D1, e1, D2, e2, D3, e3, hlt2, by go_num, by rw [HF.out, List.length_append, List.length_singleton], by rw [HF.out, List.length_append, List.length_singleton], by rw [HF.out, List.length_append, List.length_singleton], hPn, hTn, hOn, by rw [HF.out, List.length_append, List.length_singleton]; exact hBn, hAn, hqn, hzn⟩
                              case measure => simp [intOf]; omega
                          · as_aux_lemma =>
                              have hTh3 := hTh2.build (.int .i64 o.slot) 3
                              refine step_build1 rfl 61 3 (.tmp 169) rfl .i64 _ rfl ii _ Try.underlying61 hii hiz hi1 ?_
                              refine hK.out _ _ hTh3.only (fun hHeld => ?_)
                              clear hK K_ hHeld
                              try simp only [Act.put, List.setIfInBounds_toArray, List.set_cons_zero, List.set_cons_succ]
                              replace hS := hTh3.only
                              generalize hwx3 : wx2.alloc (.cells #[.int .i64 o.slot] 3) = wx3 at hTh3 hS ⊢
                              obtain ⟨gb, hgb⟩ : ∃ g, g = wx2.heap.size := ⟨_, rfl⟩
                              rw [← hgb] at hTh3 ⊢
                              clear hwx3 hgb
                              refine wpAnyH_ready (rs := [6]) (by kernel_rfl) (by simp) ?_
                              refine cons_p rfl (fun K_ hK => ?_) AllReadyH.nil
                              refine step_append_any rfl (.tmp 158) (.tmp 163) 61 rfl q2 3 ii (.int .i64 0) 1 8 Try.underlying61 hii hiz hi1 hi2 rfl (by decide) _ _ _ rfl hTh3.ru _ (some ⟨ga, 0, none⟩) 1 1 [.int .i64 (o.u : Int)] rfl (hTh3.reads (by simp)) (by intro y hy; rw [List.mem_singleton.1 hy]; rfl) (by have := usV_len F; have := ssV_len F; have := isV_len F; unfold maxLen; omega) (by have := usV_len F; have := ssV_len F; have := isV_len F; omega) (by have := hTh3.only.size; have := hq6; omega) ?_
                              intro rowu wx4 hown hgrow hblk
                              have hTh4 := hTh3.grow_u hown hgrow hblk
                              refine hK.out _ _ hTh4.only (fun hHeld => ?_)
                              clear hK K_ hHeld hown hgrow hblk
                              try simp only [Act.put, List.setIfInBounds_toArray, List.set_cons_zero, List.set_cons_succ]
                              replace hS := hTh4.only
                              refine wpAnyH_ready (rs := [13]) (by kernel_rfl) (by simp) ?_
                              refine cons_p rfl (fun K_ hK => ?_) AllReadyH.nil
                              refine step_append_any rfl (.tmp 165) (.tmp 170) 61 rfl q2 3 ii (.int .i64 0) 1 8 Try.underlying61 hii hiz hi1 hi2 rfl (by decide) _ _ _ rfl hTh4.rv _ (some ⟨gb, 0, none⟩) 1 1 [.int .i64 o.slot] rfl (hTh4.reads (by simp)) (by intro y hy; rw [List.mem_singleton.1 hy]; rfl) (by have := usV_len F; have := ssV_len F; have := isV_len F; unfold maxLen; omega) (by have := usV_len F; have := ssV_len F; have := isV_len F; omega) (by have := hTh4.only.size; have := hq6; omega) ?_
                              intro rowv wx5 hown hgrow hblk
                              have hTh5 := hTh4.grow_v hown hgrow hblk
                              refine hK.out _ _ hTh5.only (fun hHeld => ?_)
                              clear hK K_ hHeld hown hgrow hblk
                              try simp only [Act.put, List.setIfInBounds_toArray, List.set_cons_zero, List.set_cons_succ]
                              replace hS := hTh5.only
                              refine wpAnyH_ready (rs := [20]) (by kernel_rfl) (by simp) ?_
                              refine cons_p rfl (fun K_ hK => ?_) AllReadyH.nil
                              refine step_append_any rfl (.tmp 172) (.tmp 177) 62 rfl q2 32 iu (.int .u16 0) 1 2 Try.underlying62 hiu huz hu1 hu2 rfl (by decide) _ _ _ rfl hTh5.ri _ (some ⟨gc, 0, none⟩) 1 1 [.int .u16 (o.id : Int)] rfl (hTh5.reads (by simp)) (by intro y hy; rw [List.mem_singleton.1 hy]; rfl) (by have := usV_len F; have := ssV_len F; have := isV_len F; unfold maxLen; omega) (by have := usV_len F; have := ssV_len F; have := isV_len F; omega) (by have := hTh5.only.size; have := hq6; omega) ?_
                              intro rowi wx6 hown hgrow hblk
                              have hTh6 := hTh5.grow_i hown hgrow hblk
                              refine hK.out _ _ hTh6.only (fun hHeld => ?_)
                              clear hK K_ hHeld hown hgrow hblk
                              try simp only [Act.put, List.setIfInBounds_toArray, List.set_cons_zero, List.set_cons_succ]
                              replace hS := hTh6.only
                              (refine take_p (i := 21) (v := ?_) rfl (by kernel_rfl) (by kernel_rfl) (by kernel_rfl) (fun _ _ _ h => h) (Or.inl ⟨by rfl, ?_⟩) hS ?_; rotate_left; (focus (intro w0_ hSw; go_simp; try with_reducible rfl)); try simp only [Act.put, List.setIfInBounds_toArray, List.set_cons_zero, List.set_cons_succ])
                              (refine take_p (i := 22) (v := ?_) rfl (by kernel_rfl) (by kernel_rfl) (by kernel_rfl) (fun _ _ _ h => h) (Or.inl ⟨by rfl, ?_⟩) hS ?_; rotate_left; (focus (intro w0_ hSw; go_simp; try with_reducible rfl)); try simp only [Act.put, List.setIfInBounds_toArray, List.set_cons_zero, List.set_cons_succ])
                              (refine take_p (i := 23) (v := ?_) rfl (by kernel_rfl) (by kernel_rfl) (by kernel_rfl) (fun _ _ _ h => h) (Or.inl ⟨by rfl, ?_⟩) hS ?_; rotate_left; (focus (intro w0_ hSw; go_simp; try with_reducible rfl)); try simp only [Act.put, List.setIfInBounds_toArray, List.set_cons_zero, List.set_cons_succ])
                              refine wpAnyH_done (by kernel_rfl) ?_ _
                              have hBn := hTh6.book (o := o)
                              have hPn := hTh6.pt hBi6 hP6 hltb2
                              have hTn := hTh6.tp hBi6 hT6 hltg2
                              have hOn := hTh6.bk hBi6 hBk6 hub
                              have hAn := hTh6.blk hBi6 hA6 (by decide) (by decide)
                              have hzn : Hid (Still w wx6) := Lib.hid (hTh6.stl hBi6 hz6.out hwq2)
                              have hqn : q2 ≤ wx6.heap.size := by have := hTh6.only.size; omega
                              obtain ⟨D1, e1, D2, e2, D3, e3, r1, r2, r3⟩ := book_shape hBn
                              subst r1 r2 r3
                              rw [List.length_append, List.length_singleton] at hBn ⊢
                              clear hTh0 hTh1 hTh2 hTh3 hTh4 hTh5 hTh6 hBi6 hBk6 hA6 hP6 hT6 hz6 hS z1 z2 z3
                              go_wp2_with fail
                              go_roundw
                              case rel => exact ⟨j + 1, D1, e1, D2, e2, D3, e3, hlt2, by go_num, by rw [HF.out, List.length_append, List.length_singleton], by rw [HF.out, List.length_append, List.length_singleton], by rw [HF.out, List.length_append, List.length_singleton], hPn, hTn, hOn, by rw [HF.out, List.length_append, List.length_singleton]; exact hBn, hAn, hqn, hzn⟩
                              case measure => simp [intOf]; omega
                      · as_aux_lemma =>
                          have hTh2 := hTh1.build (.int .i64 o.slot) 3
                          refine step_build1 rfl 61 3 (.tmp 169) rfl .i64 _ rfl ii _ Try.underlying61 hii hiz hi1 ?_
                          refine hK.out _ _ hTh2.only (fun hHeld => ?_)
                          clear hK K_ hHeld
                          try simp only [Act.put, List.setIfInBounds_toArray, List.set_cons_zero, List.set_cons_succ]
                          replace hS := hTh2.only
                          generalize hwx2 : wx1.alloc (.cells #[.int .i64 o.slot] 3) = wx2 at hTh2 hS ⊢
                          obtain ⟨gb, hgb⟩ : ∃ g, g = wx1.heap.size := ⟨_, rfl⟩
                          rw [← hgb] at hTh2 ⊢
                          clear hwx2 hgb
                          refine wpAnyH_ready (rs := [5]) (by kernel_rfl) (by simp) ?_
                          refine cons_p rfl (fun K_ hK => ?_) AllReadyH.nil
                          have hTh3 := hTh2.build (.int .i64 (o.u : Int)) 3
                          refine step_build1 rfl 61 3 (.tmp 162) rfl .i64 _ rfl ii _ Try.underlying61 hii hiz hi1 ?_
                          refine hK.out _ _ hTh3.only (fun hHeld => ?_)
                          clear hK K_ hHeld
                          try simp only [Act.put, List.setIfInBounds_toArray, List.set_cons_zero, List.set_cons_succ]
                          replace hS := hTh3.only
                          generalize hwx3 : wx2.alloc (.cells #[.int .i64 (o.u : Int)] 3) = wx3 at hTh3 hS ⊢
                          obtain ⟨ga, hga⟩ : ∃ g, g = wx2.heap.size := ⟨_, rfl⟩
                          rw [← hga] at hTh3 ⊢
                          clear hwx3 hga
                          refine wpAnyH_ready (rs := [6]) (by kernel_rfl) (by simp) ?_
                          refine cons_p rfl (fun K_ hK => ?_) AllReadyH.nil
                          refine step_append_any rfl (.tmp 158) (.tmp 163) 61 rfl q2 3 ii (.int .i64 0) 1 8 Try.underlying61 hii hiz hi1 hi2 rfl (by decide) _ _ _ rfl hTh3.ru _ (some ⟨ga, 0, none⟩) 1 1 [.int .i64 (o.u : Int)] rfl (hTh3.reads (by simp)) (by intro y hy; rw [List.mem_singleton.1 hy]; rfl) (by have := usV_len F; have := ssV_len F; have := isV_len F; unfold maxLen; omega) (by have := usV_len F; have := ssV_len F; have := isV_len F; omega) (by have := hTh3.only.size; have := hq6; omega) ?_
                          intro rowu wx4 hown hgrow hblk
                          have hTh4 := hTh3.grow_u hown hgrow hblk
                          refine hK.out _ _ hTh4.only (fun hHeld => ?_)
                          clear hK K_ hHeld hown hgrow hblk
                          try simp only [Act.put, List.setIfInBounds_toArray, List.set_cons_zero, List.set_cons_succ]
                          replace hS := hTh4.only
                          refine wpAnyH_ready (rs := [13]) (by kernel_rfl) (by simp) ?_
                          refine cons_p rfl (fun K_ hK => ?_) AllReadyH.nil
                          refine step_append_any rfl (.tmp 165) (.tmp 170) 61 rfl q2 3 ii (.int .i64 0) 1 8 Try.underlying61 hii hiz hi1 hi2 rfl (by decide) _ _ _ rfl hTh4.rv _ (some ⟨gb, 0, none⟩) 1 1 [.int .i64 o.slot] rfl (hTh4.reads (by simp)) (by intro y hy; rw [List.mem_singleton.1 hy]; rfl) (by have := usV_len F; have := ssV_len F; have := isV_len F; unfold maxLen; omega) (by have := usV_len F; have := ssV_len F; have := isV_len F; omega) (by have := hTh4.only.size; have := hq6; omega) ?_
                          intro rowv wx5 hown hgrow hblk
                          have hTh5 := hTh4.grow_v hown hgrow hblk
                          refine hK.out _ _ hTh5.only (fun hHeld => ?_)
                          clear hK K_ hHeld hown hgrow hblk
                          try simp only [Act.put, List.setIfInBounds_toArray, List.set_cons_zero, List.set_cons_succ]
                          replace hS := hTh5.only
                          refine wpAnyH_ready (rs := [20]) (by kernel_rfl) (by simp) ?_
                          refine cons_p rfl (fun K_ hK => ?_) AllReadyH.nil
                          refine step_append_any rfl (.tmp 172) (.tmp 177) 62 rfl q2 32 iu (.int .u16 0) 1 2 Try.underlying62 hiu huz hu1 hu2 rfl (by decide) _ _ _ rfl hTh5.ri _ (some ⟨gc, 0, none⟩) 1 1 [.int .u16 (o.id : Int)] rfl (hTh5.reads (by simp)) (by intro y hy; rw [List.mem_singleton.1 hy]; rfl) (by have := usV_len F; have := ssV_len F; have := isV_len F; unfold maxLen; omega) (by have := usV_len F; have := ssV_len F; have := isV_len F; omega) (by have := hTh5.only.size; have := hq6; omega) ?_
                          intro rowi wx6 hown hgrow hblk
                          have hTh6 := hTh5.grow_i hown hgrow hblk
                          refine hK.out _ _ hTh6.only (fun hHeld => ?_)
                          clear hK K_ hHeld hown hgrow hblk
                          try simp only [Act.put, List.setIfInBounds_toArray, List.set_cons_zero, List.set_cons_succ]
                          replace hS := hTh6.only
                          (refine take_p (i := 21) (v := ?_) rfl (by kernel_rfl) (by kernel_rfl) (by kernel_rfl) (fun _ _ _ h => h) (Or.inl ⟨by rfl, ?_⟩) hS ?_; rotate_left; (focus (intro w0_ hSw; go_simp; try with_reducible rfl)); try simp only [Act.put, List.setIfInBounds_toArray, List.set_cons_zero, List.set_cons_succ])
                          (refine take_p (i := 22) (v := ?_) rfl (by kernel_rfl) (by kernel_rfl) (by kernel_rfl) (fun _ _ _ h => h) (Or.inl ⟨by rfl, ?_⟩) hS ?_; rotate_left; (focus (intro w0_ hSw; go_simp; try with_reducible rfl)); try simp only [Act.put, List.setIfInBounds_toArray, List.set_cons_zero, List.set_cons_succ])
                          (refine take_p (i := 23) (v := ?_) rfl (by kernel_rfl) (by kernel_rfl) (by kernel_rfl) (fun _ _ _ h => h) (Or.inl ⟨by rfl, ?_⟩) hS ?_; rotate_left; (focus (intro w0_ hSw; go_simp; try with_reducible rfl)); try simp only [Act.put, List.setIfInBounds_toArray, List.set_cons_zero, List.set_cons_succ])
                          refine wpAnyH_done (by kernel_rfl) ?_ _
                          have hBn := hTh6.book (o := o)
                          have hPn := hTh6.pt hBi6 hP6 hltb2
                          have hTn := hTh6.tp hBi6 hT6 hltg2
                          have hOn := hTh6.bk hBi6 hBk6 hub
                          have hAn := hTh6.blk hBi6 hA6 (by decide) (by decide)
                          have hzn : Hid (Still w wx6) := Lib.hid (hTh6.stl hBi6 hz6.out hwq2)
                          have hqn : q2 ≤ wx6.heap.size := by have := hTh6.only.size; omega
                          obtain ⟨D1, e1, D2, e2, D3, e3, r1, r2, r3⟩ := book_shape hBn
                          subst r1 r2 r3
                          rw [List.length_append, List.length_singleton] at hBn ⊢
                          clear hTh0 hTh1 hTh2 hTh3 hTh4 hTh5 hTh6 hBi6 hBk6 hA6 hP6 hT6 hz6 hS z1 z2 z3
                          go_wp2_with fail
                          go_roundw
                          case rel => exact ⟨j + 1, D1, e1, D2, e2, D3, e3, hlt2, by go_num, by rw [HF.out, List.length_append, List.length_singleton], by rw [HF.out, List.length_append, List.length_singleton], by rw [HF.out, List.length_append, List.length_singleton], hPn, hTn, hOn, by rw [HF.out, List.length_append, List.length_singleton]; exact hBn, hAn, hqn, hzn⟩
                          case measure => simp [intOf]; omega
                · have hk1 : ¬ kp o = true := by rw [Hkp.out]; simp [hg]
                  rw [if_neg hk1, List.append_nil] at hF
                  have HF := Lib.hid hF
                  clear hF hk1 hg
                  go_wp2_with fail
                  go_roundw
                  case rel => exact ⟨j + 1, B4, c4, B5, c5, B6, c6, hlt2, by go_num, by rw [HF.out], by rw [HF.out], by rw [HF.out], hP6, hT6, hBk6, by rw [HF.out]; exact hBi6, hA6, hq6, hz6⟩
                  case measure => simp [intOf]; omega
            · have hjl : j = L.length := by omega
              subst hjl
              rw [List.take_length] at hBi6 ⊢
              rw [← HL'.out] at hBi6 ⊢
              have hBo := hBi6.base hq5
              have hq7 : q ≤ wr.heap.size := by omega
              clear hBi6 hBk6 hA6
              go_wp2_with fail
              go_roundw
              case rel => exact ⟨k + 1, d, L', B4, B5, B6, c4, c5, c6, hlt, by go_num, rfl, rfl, rfl, hP6, hT6, hBo, by omega, by omega, hq7, hz6⟩
              case measure => simp [intOf]; omega
      · obtain ⟨wo, hwo⟩ : ∃ wo, wo = wr := ⟨_, rfl⟩
        subst hwo
        have hin := hP.inv
        have H := Lib.hid hP
        have hst' := hst.out
        have hcs : ∀ j o, L[j]? = some o → _ := fun j o hj => book_cells hB rfl hj
        have HI := Lib.hid hin
        have hL200 : L.length ≤ 200 := by omega
        obtain ⟨nL, hnL⟩ : ∃ nL, nL = L.length := ⟨_, rfl⟩
        rw [← hnL] at hL200 ⊢
        have HnL := Lib.hid hnL
        clear hP hT hB hst hin hLk hr2 hnL
        go_wp2_with fail
        go_loopw [25, 26, 27, 28, 29] (fun i _ _ _ _ wr' => ∃ uu dd : Nat, uu ≤ N1 ∧ i = .int .i64 uu ∧ wr' = wo.drewN dd) (fun i _ _ _ _ _ => N1 - (intOf i).toNat)
        case atStart => exact ⟨0, 0, Nat.zero_le _, rfl, rfl⟩
        case round =>
          obtain ⟨uu, dd, huu, rfl, rfl⟩ := hrel
          by_cases hlu : uu < N1
          · go_wp2_with fail
            go_loopw [26, 27, 28, 29] (fun y i _ _ wr' => ∃ j dd : Nat, j ≤ nL ∧ i = .int .i64 j ∧ y = .int .i64 (lenR (L.take j) (uu : Int) : Nat) ∧ wr' = wo.drewN dd) (fun _ i _ _ _ => nL - (intOf i).toNat)
            case atStart => exact ⟨0, dd, Nat.zero_le _, rfl, rfl, rfl⟩
            case round =>
              obtain ⟨j, dd, hj, rfl, rfl, rfl⟩ := hrel
              by_cases hlj : j < nL
              · obtain ⟨o, ho⟩ : ∃ o, L[j]? = some o := ⟨L[j]'(by have := HnL.out; omega), List.getElem?_eq_getElem _⟩
                obtain ⟨gg1, gg2, gg3, rfl, rfl, rfl, z1, z2, z3⟩ := hcs j o ho
                have hom := List.mem_of_getElem? ho
                have hfi : findI N1 L (o.u : Int) o.id = some o.slot := by
                  have e := HI.out
                  rw [Hlen.out] at e
                  rw [← findR_in e]
                  exact findR_yes e hom
                have hid64 := HI.out.ids o hom
                have hfd : ∀ e, Calls Try.prog 17 #[.pointer (some ⟨t, 0, none⟩), .int .i64 (o.u : Int), .int .u16 (o.id : Int)] (wo.drewN e) fun e' w' =>
                    e' = .returned (.tuple #[.int .i64 o.slot, .bool true]) ∧ wo.drewN e = w' := fun e => by
                  have := find_any (H.out.still (((Only.refl _ wo).drewN e) : Still wo (wo.drewN e))) (o.u : Int) o.id hid64
                  rw [Hlen.out, hfi] at this
                  exact this
                have hs := lenR_succ ho (uu : Int)
                have hle := lenR_le (L.take j) (uu : Int)
                rw [List.length_take] at hle
                obtain ⟨y, hy⟩ : ∃ y, y = lenR (L.take j) (uu : Int) := ⟨_, rfl⟩
                rw [← hy] at hs hle ⊢
                have hy200 : y ≤ 200 := by omega
                clear hy hle ho hom hfi hcs
                by_cases e1 : (o.u : Int) = (uu : Int)
                · rw [if_pos e1] at hs
                  have Hs := Lib.hid hs
                  rw [e1] at z1 hfd
                  clear hs e1
                  go_wp2_with fail
                  go_quiet ((go_at_call 17; exact quiet_add_left (hfd _)))
                  go_wp2_with fail
                  go_roundw
                  case rel => exact ⟨j + 1, _, hlj, by go_num, by rw [Hs.out]; go_num, rfl⟩
                  case measure => simp [intOf]; omega
                · rw [if_neg e1] at hs
                  have Hs := Lib.hid hs
                  have b1 : ((o.u : Int) == (uu : Int)) = false := by rw [beq_eq_false_iff_ne]; exact e1
                  clear hs
                  go_wp2_with fail
                  go_quiet ((go_at_call 17; exact quiet_add_left (hfd _)))
                  go_wp2_with fail
                  go_roundw
                  case rel => exact ⟨j + 1, _, hlj, by go_num, by rw [Hs.out]; rfl, rfl⟩
                  case measure => simp [intOf]; omega
              · obtain rfl : j = nL := by omega
                rw [List.take_of_length_le (by rw [HnL.out]; omega)]
                clear hcs
                obtain ⟨y, hy⟩ : ∃ y, y = lenR L (uu : Int) := ⟨_, rfl⟩
                rw [← hy]
                have Hy := Lib.hid hy
                clear hy
                go_wp2_with fail
                refine (len_any (H.out.still (((Only.refl _ wo).drewN dd) : Still wo (wo.drewN dd))) (uu : Int)).mono ?_
                rintro e wz ⟨rfl, rfl⟩
                rw [← lenR_in HI.out, ← Hy.out]
                go_wp2_with fail
                go_roundw
                case rel => exact ⟨uu + 1, dd, hlu, by go_num, rfl⟩
                case measure => simp [intOf]; omega
          · clear hcs
            go_wp2_with fail
            go_ret
            exact ⟨rfl, hst'.drewN dd⟩
  · go_enter Try.func5, Try.ntmps5
    by_cases g1 : (200 : Int) < (m : Int)
    · go_wp2_with (go_at_call 9; refine (pend_awake _).mono ?_; rintro e w0 ⟨rfl, ho0⟩)
      go_ret
      exact ⟨rfl, ho0⟩
    · have g3 : (300 : Int) < (n : Int) := by omega
      go_wp2_with (go_at_call 9; refine (pend_awake _).mono ?_; rintro e w0 ⟨rfl, ho0⟩)
      go_ret
      exact ⟨rfl, ho0⟩
theorem unlike_all (W : World) (a0 : Int) (w0 : (Lit.int .i64 a0).wf = true) (a1 : Int) (w1 : (Lit.int .u64 a1).wf = true) (A : Option Addr) (n c : Nat) (xs : List Int) (hnc : n ≤ c) (hcm : c ≤ maxLen) (hA : A = none → n = 0 ∧ c = 0)
    (hr : Reads W W.heap.size 1 A n (xs.map (.int .u64))) (hx : ∀ z ∈ xs, (Lit.int .u64 z).wf = true)
    (A2 : Option Addr) (m c2 : Nat) (l : List A3) (hnc2 : m ≤ c2) (hcm2 : c2 ≤ maxLen) (hl : l.length = m) (hr2 : Reads W W.heap.size 3 A2 m (a3Cells l)) (hw2 : ∀ p ∈ l, A3ok p) :
    Calls Try.prog 5 #[.int .i64 a0, .int .u64 a1, .slice A n c, .slice A2 m c2] W fun e w' => e = .returned (.bool true) ∧ Still W w' :=
  unlike_walk W a0 a1 (wf_u64 w1) A n c xs hA hr (fun z hz => wf_u64 (hx z hz)) A2 m c2 l hl hr2
end Go.Proofs.Ythbapdajmpplhaa
