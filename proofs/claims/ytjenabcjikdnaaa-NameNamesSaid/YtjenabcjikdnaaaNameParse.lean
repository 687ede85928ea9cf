/-
  Package name: Parse.
-/
import Derived.Test.YtjenabcjikdnaaaNameRd3
import Derived.Laws.RangeAny
import Derived.Lib.TrimU
import Derived.Lib.OthersKept
namespace Go.Proofs.Ytjenabcjikdnaaa
open Go.RowKit
set_option linter.unusedVariables false
set_option linter.unusedSimpArgs false

def st0 : St := ⟨[], [], false, 0, 0⟩
def run (s : St) : List UInt8 → Option St
  | [] => some s
  | c :: r => match step s c.toNat with
    | none => none
    | some t => run t r
/-- The labels that a text says. -/
def labsOf (l : List UInt8) : Option (List Lab) := if l = [46] then some [] else match run st0 l with
  | none => none
  | some s => fin s
def parseB (l : List UInt8) : List UInt8 := match labsOf l with
  | none => []
  | some L => joinB L
def parseE (l : List UInt8) : Int := match labsOf l with
  | none => 3
  | some L => if joinE L = 0 then 0 else 5
theorem run_snoc : ∀ (l : List UInt8) (s : St) (c : UInt8), run s (l ++ [c]) = match run s l with
    | none => none
    | some t => step t c.toNat
  | [], s, c => by
      simp only [List.nil_append, run]
      cases step s c.toNat <;> rfl
  | d :: r, s, c => by
      simp only [List.cons_append, run]
      cases h : step s d.toNat with
      | none => rfl
      | some t => exact run_snoc r t c
theorem run_none : ∀ (l m : List UInt8) (s : St), run s l = none → run s (l ++ m) = none
  | [], m, s, h => by cases h
  | d :: r, m, s, h => by
      simp only [List.cons_append, run] at h ⊢
      cases hs : step s d.toNat with
      | none => rfl
      | some t => rw [hs] at h; exact run_none r m t h
theorem run_len : ∀ (l : List UInt8) (s t : St), run s l = some t → t.lab.length ≤ s.lab.length + l.length ∧ t.ls.length ≤ s.ls.length + l.length
  | [], s, t, h => by cases h; exact ⟨Nat.le_refl _, Nat.le_refl _⟩
  | d :: r, s, t, h => by
      simp only [run] at h
      cases hs : step s d.toNat with
      | none => rw [hs] at h; cases h
      | some u =>
          rw [hs] at h
          have h1 := run_len r u t h
          have h2 := step_len hs
          simp only [List.length_cons]
          omega
theorem step_high {s : St} {r : Nat} (h : 126 < r) : step s r = none := by unfold step; rw [if_pos (.inr h)]
theorem parse_none {l : List UInt8} (h : labsOf l = none) : parseB l = [] ∧ parseE l = 3 := by unfold parseB parseE; rw [h]; exact ⟨rfl, rfl⟩
theorem parse_some {l : List UInt8} {L : List Lab} (h : labsOf l = some L) : parseB l = joinB L ∧ parseE l = if joinE L = 0 then 0 else 5 := by unfold parseB parseE; rw [h]; exact ⟨rfl, rfl⟩
theorem join_not {L : List Lab} (h : ¬ joinE L = 0) : joinB L = [] := by
  unfold joinE at h
  unfold joinB
  by_cases h1 : ∀ x ∈ L, okLab x
  · rw [if_pos h1] at h
    by_cases h2 : sz L + 1 ≤ 255
    · rw [if_pos h2] at h; exact absurd rfl h
    · rw [if_neg (fun k => h2 k.2)]
  · rw [if_neg (fun k => h1 k.1)]
theorem blk_iter {w : World} {k : Nat} {s : ByteArray} {pos pos' g : Nat} {t : TypeId} {cs : Array Value} (hk : w.heap[k]? = some (.stringIter s pos)) (h : Blk w g t cs) : g ≠ k := by
  rintro rfl
  unfold Blk at h
  rw [h] at hk
  cases hk
theorem only_iter (w : World) (k : Nat) (s : ByteArray) (p : Nat) : Only (· = k) w (w.iterAt k s p) :=
  ⟨rfl, rfl, rfl, by rw [Lib.iterAt_size]; exact Nat.le_refl _, fun i _ hn => Lib.iterAt_other w k i s p hn⟩
theorem Rdr.only {w w' : World} {b base k : Nat} {s : St} (h : Rdr w b base s) (ho : Only (· = k) w w') (hb : b ≠ k) (hk : k < base) : Rdr w' b base s := by
  obtain ⟨h1, h2, h3, v1, v2, hB, ho1, ho2⟩ := h
  exact ⟨h1, Nat.le_trans h2 ho.size, h3, v1, v2, hB.only ho hb, own_only ho1 ho (fun z hz e => by
    have := (ho1.lt z hz).1
    have e' : z = k := e
    omega), own_only ho2 ho (fun z hz e => by
    have := (ho2.lt z hz).1
    have e' : z = k := e
    omega)⟩

theorem World.iterPos_of' {w : World} {k : Nat} {s : ByteArray} {p : Nat} (h : w.heap[k]? = some (.stringIter s p)) : w.iterPos k = p := by simp [World.iterPos, h]

set_option maxRecDepth 1000000 in
set_option maxHeartbeats 3200000 in
theorem parse_any (s : ByteArray) (hs : s.size ≤ 900000) (w : World) :
    Calls Try.prog 17 #[.string s] w fun e w' => e = .returned (.tuple #[.string (mk (parseB s.data.toList)), .int .i64 (parseE s.data.toList)]) ∧ Still w w' := by
  go_enter Try.func17, Try.ntmps17
  by_cases hdot : s = mk [46]
  · subst hdot
    have h46 := eq_list [46]
    go_wp2_with fail
    go_ret2
    exact ⟨rfl, Only.refl _ _⟩
  have hne := not_list hdot
  have hrun : labsOf s.data.toList = match run st0 s.data.toList with
      | none => none
      | some t => fin t := by
    unfold labsOf
    rw [if_neg (fun e => hdot (by rw [← mk_of s, e]))]
  have HR := Lib.hid hrun
  clear hrun hdot
  have hB0 := (Blk.new w 47 #[.slice none 0 0, .slice none 0 0, .bool false, .int .i64 0, .int .i64 0]).alloc (.stringIter s 0)
  have hs0 := (Still.new w (.cells #[.slice none 0 0, .slice none 0 0, .bool false, .int .i64 0, .int .i64 0] 47)).alloc (.stringIter s 0)
  have hit0 := World.iter_heap (w.alloc (.cells #[.slice none 0 0, .slice none 0 0, .bool false, .int .i64 0, .int .i64 0] 47)) s 0
  have hz0 : (w.alloc (.cells #[.slice none 0 0, .slice none 0 0, .bool false, .int .i64 0, .int .i64 0] 47)).heap.size = w.heap.size + 1 := by simp
  have hz1 : ((w.alloc (.cells #[.slice none 0 0, .slice none 0 0, .bool false, .int .i64 0, .int .i64 0] 47)).iter s 0).heap.size = w.heap.size + 2 := by simp [World.iter]
  rw [hz0] at hit0
  have hR0 : Rdr ((w.alloc (.cells #[.slice none 0 0, .slice none 0 0, .bool false, .int .i64 0, .int .i64 0] 47)).iter s 0) w.heap.size (w.heap.size + 2) st0 := ⟨by omega, by omega, .inl ⟨rfl, rfl, rfl⟩, _, _, hB0, World.ownsRow_nil _ _ _ _, World.ownsRow_nil _ _ _ _⟩
  have hS0 : Still w ((w.alloc (.cells #[.slice none 0 0, .slice none 0 0, .bool false, .int .i64 0, .int .i64 0] 47)).iter s 0) := hs0
  have HR0 := Lib.hid hR0
  have HS0 := Lib.hid hS0
  have HI0 := Lib.hid hit0
  clear hB0 hs0 hit0 hz0 hR0 hS0
  go_wp2_with fail
  have hR0 := HR0.out
  have hS0 := HS0.out
  have hit0 := HI0.out
  clear HR0 HS0 HI0
  obtain ⟨w2, hw2⟩ : ∃ w2, w2 = (w.alloc (.cells #[.slice none 0 0, .slice none 0 0, .bool false, .int .i64 0, .int .i64 0] 47)).iter s 0 := ⟨_, rfl⟩
  rw [← hw2] at hR0 hS0 hit0 hz1 ⊢
  obtain ⟨K, hK⟩ : ∃ K, K = w.heap.size := ⟨_, rfl⟩
  rw [← hK] at hR0 hit0 hz1 ⊢
  have HK := Lib.hid hK
  clear hw2 hK
  go_loopw [13] (fun _ wr => ∃ (p : Nat) (t : St), p ≤ s.size ∧ wr.heap[K + 1]? = some (.stringIter s p) ∧ Hid (run st0 (s.data.toList.take p) = some t) ∧ Rdr wr K (K + 2) t ∧ Only (fun k => k = K ∨ K + 1 ≤ k) w2 wr) (fun _ wr => s.size - wr.iterPos (K + 1))
  case atStart => exact ⟨0, st0, by omega, hit0, Lib.hid rfl, hR0, Only.refl _ _⟩
  case round =>
    clear hR0 hit0
    obtain ⟨p, t, hp, hit, hrun, hR, hF⟩ := hrel
    have hlen := run_len _ _ _ hrun.out
    rw [List.length_take] at hlen
    have hl1 : t.lab.length ≤ 1000000 := by have : st0.lab.length = 0 := rfl; omega
    have hl2 : t.ls.length ≤ 1000000 := by have : st0.ls.length = 0 := rfl; omega
    have hL : s.data.toList.length = s.size := by rw [Array.length_toList]; rfl
    clear hlen
    by_cases hlt : p < s.size
    · have hlt' : p < s.data.toList.length := by rw [hL]; exact hlt
      have hel : s.data.toList[p] = s[p] := by rw [Array.getElem_toList]; rfl
      have hsn : s.data.toList.take (p + 1) = s.data.toList.take p ++ [s[p]] := by
        rw [List.take_add_one, List.getElem?_eq_getElem hlt', hel]; rfl
      have hr1 := run_snoc (s.data.toList.take p) st0 s[p]
      rw [← hsn, hrun.out] at hr1
      have hr1' : run st0 (s.data.toList.take (p + 1)) = step t s[p].toNat := hr1
      have HR1 := Lib.hid hr1'
      have hbad : run st0 (s.data.toList.take (p + 1)) = none → labsOf s.data.toList = none := fun e => by
        rw [HR.out]
        have := run_none _ (s.data.toList.drop (p + 1)) st0 e
        rw [List.take_append_drop] at this
        rw [this]
      have HBad := Lib.hid hbad
      clear hr1 hr1' hsn hel hbad
      by_cases ha : s[p].toNat < 128
      · have hnx := fun ty => Lib.run_next_ascii_at (P := Try.prog) wr (K + 1) s p ty hit hlt ha
        have hit3 := Lib.iterAt_heap wr (K + 1) s p (p + 1) hit
        have ho3 := only_iter wr (K + 1) s (p + 1)
        have hR3 := hR.only ho3 (by omega) (by omega)
        have hF3 := hF.trans ho3 (T := (· = K + 1)) (fun i _ e => .inr (by have e' : i = K + 1 := e; omega))
        generalize wr.iterAt (K + 1) s (p + 1) = w3 at *
        clear ho3 hR hF
        go_wp2_with fail
        refine (take_any K (K + 2) t s[p].toNat (by omega) hl1 hl2 w3 hR3).mono ?_
        rintro e w4 (⟨h5, rfl, hF4⟩ | ⟨u, h5, rfl, hR4, hF4⟩)
        · have HE := Lib.hid (parse_none (HBad.out (HR1.out.trans h5.out)))
          have hst4 := (hS0.trans hF3 (fun i hi e => by
            have e' : i = K ∨ K + 1 ≤ i := e
            have := HK.out
            omega)).trans hF4 (fun i hi e => by
            have e' : i = K ∨ K + 2 ≤ i := e
            have := HK.out
            omega)
          clear h5 hnx
          go_wp2_with fail
          go_ret2
          exact ⟨by rw [HE.out.1, HE.out.2]; rfl, hst4⟩
        · have hrn : run st0 (s.data.toList.take (p + 1)) = some u := HR1.out.trans h5.out
          have hF5 := hF3.trans hF4 (fun i _ e => by
            have e' : i = K ∨ K + 2 ≤ i := e
            rcases e' with e' | e'
            · exact .inl e'
            · exact .inr (by omega))
          have hit4 : w4.heap[K + 1]? = some (.stringIter s (p + 1)) := (hF4.block (K + 1) (Array.getElem?_eq_some_iff.1 hit3).1 (by
            intro e
            have e' : K + 1 = K ∨ K + 2 ≤ K + 1 := e
            omega)).trans hit3
          have HRN := Lib.hid hrn
          clear h5 hnx hrn hF3 hF4 hR3 hit3
          have hpos := World.iterPos_of' hit
          have hpos4 := World.iterPos_of' hit4
          have HP := Lib.hid hpos
          have HP4 := Lib.hid hpos4
          clear hpos hpos4
          go_wp2_with fail
          exact ⟨⟨p + 1, u, by omega, hit4, HRN, hR4, hF5⟩, by rw [HP.out, HP4.out]; omega⟩
      · have hnx := fun ty => Lib.run_next_any_at (P := Try.prog) wr (K + 1) s p ty hit hlt
        have hhi := (decode_high s p hlt (by omega)).1
        have hle := Lib.rune_le s p
        have hit3 := Lib.iterAt_heap wr (K + 1) s p (p + (Utf8.decode s p).2) hit
        have ho3 := only_iter wr (K + 1) s (p + (Utf8.decode s p).2)
        have hR3 := hR.only ho3 (by omega) (by omega)
        have hF3 := hF.trans ho3 (T := (· = K + 1)) (fun i _ e => .inr (by have e' : i = K + 1 := e; omega))
        generalize wr.iterAt (K + 1) s (p + (Utf8.decode s p).2) = w3 at *
        generalize (Utf8.decode s p).1 = rn at *
        have HE := Lib.hid (parse_none (HBad.out (HR1.out.trans (step_high (by omega)))))
        have HN : Hid (step t rn = none) := Lib.hid (step_high (by omega))
        clear ho3 hR hF hhi
        go_wp2_with fail
        refine (take_any K (K + 2) t rn hle hl1 hl2 w3 hR3).mono ?_
        rintro e w4 (⟨h5, rfl, hF4⟩ | ⟨u, h5, rfl, hR4, hF4⟩)
        · have hst4 := (hS0.trans hF3 (fun i hi e => by
            have e' : i = K ∨ K + 1 ≤ i := e
            have := HK.out
            omega)).trans hF4 (fun i hi e => by
            have e' : i = K ∨ K + 2 ≤ i := e
            have := HK.out
            omega)
          clear h5 hnx
          go_wp2_with fail
          go_ret2
          exact ⟨by rw [HE.out.1, HE.out.2]; rfl, hst4⟩
        · have := h5.out
          rw [HN.out] at this
          cases this
    · have hnx := fun ty => Lib.run_next_end_at (P := Try.prog) wr (K + 1) s p ty hit hlt
      have hpe : p = s.data.toList.length := by rw [hL]; omega
      have hfin : labsOf s.data.toList = fin t := by
        rw [HR.out]
        have := hrun.out
        rw [List.take_of_length_le (by omega)] at this
        rw [this]
      have HFin := Lib.hid hfin
      have hst4 := hS0.trans hF (fun i hi e => by
        have e' : i = K ∨ K + 1 ≤ i := e
        have := HK.out
        omega)
      clear hpe hfin hL hF hit hrun
      go_wp2_with fail
      refine (end_any K (K + 2) t hl2 wr hR).mono ?_
      rintro e w4 (⟨h5, rfl, hF4⟩ | ⟨L, h5, rfl, hR4, hF4⟩)
      · have HE := Lib.hid (parse_none (HFin.out.trans h5.out))
        have hst5 := hst4.trans hF4 (fun i hi e => by
          have e' : i = K ∨ K + 2 ≤ i := e
          have := HK.out
          omega)
        clear h5 hnx hR
        go_wp2_with fail
        go_ret2
        exact ⟨by rw [HE.out.1, HE.out.2]; rfl, hst5⟩
      · have HE := Lib.hid (parse_some (HFin.out.trans h5.out))
        have hst5 := hst4.trans hF4 (fun i hi e => by
          have e' : i = K ∨ K + 2 ≤ i := e
          have := HK.out
          omega)
        have hLl : L.length ≤ 1000001 := by
          have hf := h5.out
          unfold fin at hf
          by_cases hsl : t.sl = true
          · rw [if_pos hsl] at hf; cases hf
          · rw [if_neg hsl] at hf
            by_cases hz : (if t.lab.length = 0 then t.ls else t.ls ++ [t.lab]).length = 0
            · rw [if_pos hz] at hf; cases hf
            · rw [if_neg hz] at hf
              have hf' := Option.some.inj hf
              rw [← hf']
              by_cases h0 : t.lab.length = 0
              · rw [if_pos h0]; omega
              · rw [if_neg h0]; simp; omega
        obtain ⟨_, _, _, v1, v2, hB4, hoL, _⟩ := hR4
        obtain ⟨A, cA, hv⟩ := own_shape hoL
        subst hv
        obtain ⟨c0, _⟩ := blk5 hB4
        have hrd := Reads.of_own hoL
        clear h5 hnx hR hB4 hoL
        go_wp2_with fail
        refine (join_any A L.length cA L rfl (by omega) w4 hrd).mono ?_
        rintro e w5 ⟨rfl, h5⟩
        have hst6 := hst5.still h5
        clear h5 hrd c0
        by_cases hj : joinE L = 0
        · have HJ := Lib.hid hj
          go_wp2_with fail
          go_ret2
          exact ⟨by rw [HE.out.1, HE.out.2, if_pos HJ.out]; rfl, hst6⟩
        · have hj' : (joinE L == 0) = false := by rw [beq_eq_false_iff_ne]; exact hj
          have HJ := Lib.hid hj
          have HJB := Lib.hid (join_not hj)
          clear hj
          go_wp2_with fail
          go_ret2
          exact ⟨by rw [HE.out.1, HE.out.2, if_neg HJ.out, HJB.out]; rfl, hst6⟩
end Go.Proofs.Ytjenabcjikdnaaa
