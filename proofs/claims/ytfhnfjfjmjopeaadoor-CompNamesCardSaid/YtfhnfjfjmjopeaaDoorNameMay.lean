/-
  Package name: names as rows of labels; May.
-/
import Derived.Test.YtfhnfjfjmjopeaaDoorRows
import Derived.Test.YtfhnfjfjmjopeaaDoorBase
namespace Go.Proofs.YtfhnfjfjmjopeaaDoor
open Go.RowKit
set_option linter.unusedVariables false
set_option linter.unusedSimpArgs false

/-- The labels that bytes are, up to the 0 that ends them; f: fuel, as much as there are bytes. -/
def dec : Nat → List UInt8 → Option (List (List UInt8))
  | 0, _ => none
  | _ + 1, [] => none
  | f + 1, b :: r => if b = 0 then (if r = [] then some [] else none) else if 63 < b.toNat then none else if r.length < b.toNat then none else (dec f (r.drop b.toNat)).map (r.take b.toNat :: ·)
/-- Are bytes a name? -/
def mayN (l : List UInt8) : Bool := decide (l.length ≤ 255) && (dec l.length l).isSome
theorem dec_nil (f : Nat) : dec f [] = none := by cases f <;> rfl
theorem dec_cons (f : Nat) (b : UInt8) (r : List UInt8) : dec (f + 1) (b :: r) = if b = 0 then (if r = [] then some [] else none) else if 63 < b.toNat then none else if r.length < b.toNat then none else (dec f (r.drop b.toNat)).map (r.take b.toNat :: ·) := rfl
/-- What is known of the whole when the walk stands at a. -/
def At (l : List UInt8) (a : Nat) : Prop := (a ≤ l.length → ∃ f, l.length - a ≤ f ∧ (dec l.length l).isSome = (dec f (l.drop a)).isSome) ∧ (l.length < a → (dec l.length l).isSome = false)
theorem At.start (l : List UInt8) : At l 0 := ⟨fun _ => ⟨l.length, by omega, by rw [List.drop_zero]⟩, fun h => by omega⟩
theorem drop_at {l : List UInt8} {a : Nat} (h : a < l.length) : l.drop a = l[a] :: l.drop (a + 1) := List.drop_eq_getElem_cons h
theorem At.zero {l : List UInt8} {a : Nat} (h : At l a) (ha : a < l.length) (hb : l[a] = 0) : (dec l.length l).isSome = decide (a + 1 = l.length) := by
  obtain ⟨f, hf, e⟩ := h.1 (by omega)
  obtain ⟨f', rfl⟩ : ∃ f', f = f' + 1 := ⟨f - 1, by omega⟩
  rw [e, drop_at ha, dec_cons, if_pos hb]
  by_cases h1 : a + 1 = l.length
  · rw [if_pos (List.drop_of_length_le (by omega)), decide_eq_true h1]; rfl
  · rw [if_neg (by intro e; have := congrArg List.length e; simp at this; omega), decide_eq_false h1]; rfl
theorem At.big {l : List UInt8} {a : Nat} (h : At l a) (ha : a < l.length) (hb : ¬ l[a] = 0) (h63 : 63 < l[a].toNat) : (dec l.length l).isSome = false := by
  obtain ⟨f, hf, e⟩ := h.1 (by omega)
  obtain ⟨f', rfl⟩ : ∃ f', f = f' + 1 := ⟨f - 1, by omega⟩
  rw [e, drop_at ha, dec_cons, if_neg hb, if_pos h63]; rfl
theorem At.next {l : List UInt8} {a : Nat} (h : At l a) (ha : a < l.length) (hb : ¬ l[a] = 0) (h63 : ¬ 63 < l[a].toNat) : At l (a + (1 + l[a].toNat)) := by
  obtain ⟨f, hf, e⟩ := h.1 (by omega)
  obtain ⟨f', rfl⟩ : ∃ f', f = f' + 1 := ⟨f - 1, by omega⟩
  rw [drop_at ha, dec_cons, if_neg hb, if_neg h63] at e
  refine ⟨fun hle => ⟨f', by omega, ?_⟩, fun hlt => ?_⟩
  · rw [if_neg (by rw [List.length_drop]; omega), List.drop_drop] at e
    rw [e, Option.isSome_map]
    congr 3
    omega
  · rw [if_pos (by rw [List.length_drop]; omega)] at e
    rw [e]; rfl
theorem At.done {l : List UInt8} {a : Nat} (h : At l a) (ha : ¬ a < l.length) : (dec l.length l).isSome = false := by
  by_cases hlt : l.length < a
  · exact h.2 hlt
  · obtain ⟨f, hf, e⟩ := h.1 (by omega)
    rw [e, List.drop_of_length_le (by omega), dec_nil]; rfl

set_option maxRecDepth 1000000 in
set_option maxHeartbeats 1600000 in
theorem may_any (s : ByteArray) (hs : s.size ≤ maxLen) (w : World) :
    Calls Tryd.prog 15 #[.string s] w fun e w' => e = .returned (.bool (mayN s.data.toList)) ∧ ∃ q, w' = w.drewN q := by
  unfold maxLen at hs
  have hL : s.data.toList.length = s.size := by rw [Array.length_toList]; rfl
  by_cases hbig : 255 < s.size
  · have hbig' : (255 : Int) < (s.size : Int) := by omega
    have hfin : false = mayN s.data.toList := by unfold mayN; rw [hL, decide_eq_false (by omega)]; rfl
    have Hfin := Lib.hid hfin
    clear hfin hbig hL
    go_enter Tryd.func15, Tryd.ntmps15
    go_wp2_with fail
    go_ret
    exact ⟨ret_bool Hfin.out, 0, rfl⟩
  · have hbig' : ¬ (255 : Int) < (s.size : Int) := by omega
    have hmay : mayN s.data.toList = (dec s.data.toList.length s.data.toList).isSome := by unfold mayN; rw [hL, decide_eq_true (by omega)]; rfl
    rw [hmay]
    have HL := Lib.hid hL
    clear hmay hL
    go_enter Tryd.func15, Tryd.ntmps15
    go_wp2_with fail
    go_loopw [3] (fun i wr => ∃ a q : Nat, a ≤ 400 ∧ i = .int .i64 a ∧ Hid (At s.data.toList a) ∧ wr = w.drewN q) (fun i _ => s.size - (intOf i).toNat)
    case atStart => exact ⟨0, 0, by omega, rfl, Lib.hid (At.start _), rfl⟩
    case round =>
      obtain ⟨a, q, ha, rfl, hat, rfl⟩ := hrel
      by_cases hlt : a < s.size
      · have hlt' : a < s.data.toList.length := by rw [HL.out]; exact hlt
        have hel : s.data.toList[a] = s[a] := by rw [Array.getElem_toList]; rfl
        have h0 := hat.out.zero hlt'
        have h1 := hat.out.big hlt'
        have h2 := hat.out.next hlt'
        rw [hel] at h0 h1 h2
        have H0 := Lib.hid h0
        have H1 := Lib.hid h1
        have H2 := Lib.hid h2
        clear h0 h1 h2 hel
        have hb8 : s[a].toNat < 256 := UInt8.toNat_lt _
        have i1 : (a : Int) < (s.size : Int) := by omega
        have hz : s[a] = 0 ↔ s[a].toNat = 0 := ⟨fun e => by rw [e]; rfl, fun e => UInt8.toNat_inj.1 (by rw [e]; rfl)⟩
        have HZ := Lib.hid hz
        clear hz
        by_cases e0 : s[a].toNat = 0
        · have hfin := H0.out (HZ.out.2 e0)
          rw [HL.out] at hfin
          have Hfin := Lib.hid hfin
          have e0' : ((s[a].toNat : Nat) : Int) = 0 := by omega
          clear H0 H1 H2 HZ hfin
          go_wp2_with fail
          go_ret
          refine ⟨ret_bool ?_, q, rfl⟩
          refine Eq.trans (b := decide (a + 1 = s.size)) ?_ Hfin.out.symm
          by_cases e : a + 1 = s.size
          · rw [decide_eq_true e]; simp; omega
          · rw [decide_eq_false e]; simp; omega
        · have e0' : ¬ ((s[a].toNat : Nat) : Int) = 0 := by omega
          have hne : ¬ s[a] = 0 := fun e => e0 (HZ.out.1 e)
          have Hne := Lib.hid hne
          clear hne
          by_cases e6 : 63 < s[a].toNat
          · have e6' : (63 : Int) < ((s[a].toNat : Nat) : Int) := by omega
            have Hfin := Lib.hid (H1.out Hne.out e6)
            clear H0 H1 H2 HZ
            go_wp2_with fail
            go_ret
            exact ⟨ret_bool Hfin.out.symm, q, rfl⟩
          · have e6' : ¬ (63 : Int) < ((s[a].toNat : Nat) : Int) := by omega
            have Hn := Lib.hid (H2.out Hne.out e6)
            have y1 : IntKind.i64.wrap (1 + ((s[a].toNat : Nat) : Int)) = 1 + ((s[a].toNat : Nat) : Int) := IntWalk.i64_in _ (by omega)
            have y2 : IntKind.i64.wrap ((a : Int) + (1 + ((s[a].toNat : Nat) : Int))) = (a : Int) + (1 + ((s[a].toNat : Nat) : Int)) := IntWalk.i64_in _ (by omega)
            clear H0 H1 H2 HZ
            go_wp2_with fail
            refine ⟨⟨a + (1 + s[a].toNat), q, by omega, by push_cast; rfl, Hn, rfl⟩, ?_⟩
            simp [intOf]; omega
      · have i1 : ¬ (a : Int) < (s.size : Int) := by omega
        have hfin := hat.out.done (by rw [HL.out]; exact hlt)
        have Hfin := Lib.hid hfin
        clear hfin
        have i3 : ((a : Int) == (s.size : Int) - 1) = false := by simp; omega
        have i4 : ¬ (a : Int) = (s.size : Int) - 1 := by omega
        go_wp2_with fail
        go_ret
        exact ⟨ret_bool Hfin.out.symm, q, rfl⟩
end Go.Proofs.YtfhnfjfjmjopeaaDoor
