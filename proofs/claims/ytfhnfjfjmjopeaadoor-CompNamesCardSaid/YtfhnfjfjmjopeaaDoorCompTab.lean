/-
  Package comp: a table of endings with their offsets; the longest ending that it has; what is made known.
-/
import Derived.Test.YtfhnfjfjmjopeaaDoorCompRd
import Derived.Test.YtfhnfjfjmjopeaaDoorNameLab
import Derived.Test.YtfhnfjfjmjopeaaDoorKMap
import Derived.Test.YtfhnfjfjmjopeaaDoorTake
import Derived.BigQuiet
import Derived.Maps.OwnSet
namespace Go.Proofs.YtfhnfjfjmjopeaaDoor
open Go.RowKit
open Go.Maps (Keyed)
set_option linter.unusedVariables false
set_option linter.unusedSimpArgs false

abbrev Kn := List (List UInt8 × Nat)
def lookK (K : Kn) (s : List UInt8) : Option Nat := (K.find? (fun p => decide (p.1 = s))).map (·.2)
theorem lookK_snoc (K : Kn) (s t : List UInt8) (o : Nat) (h : lookK K s = none) : lookK (K ++ [(s, o)]) t = if t = s then some o else lookK K t := by
  unfold lookK at h ⊢
  rw [List.find?_append]
  by_cases e : t = s
  · subst e
    rw [if_pos rfl, Option.map_eq_none_iff.1 h]
    simp
  · have e' : ¬ s = t := fun x => e x.symm
    rw [if_neg e]
    simp [e']
/-- The offset of the longest ending (at a: where it begins). -/
def lg (K : Kn) : Nat → List Lab → Nat × Nat × Bool
  | a, [] => (a + 1, 0, false)
  | a, x :: r => match lookK K (enc (x :: r)) with
    | some o => (a, o, true)
    | none => lg K (a + 1 + x.length) r
/-- What the table has behind: endings that begin ahead of keep. -/
def ad (keep off : Nat) : Kn → Nat → List Lab → Kn
  | K, _, [] => K
  | K, a, x :: r => if a < keep then ad keep off (if (lookK K (enc (x :: r))).isSome = true ∨ 16383 < off + a then K else K ++ [(enc (x :: r), off + a)]) (a + 1 + x.length) r else K
theorem ad_len (keep off : Nat) : ∀ (L : List Lab) (K : Kn) (a : Nat), (ad keep off K a L).length ≤ K.length + L.length
  | [], K, a => by simp [ad]
  | x :: r, K, a => by
    rw [ad]
    by_cases h : a < keep
    · rw [if_pos h]
      have := ad_len keep off r (if (lookK K (enc (x :: r))).isSome = true ∨ 16383 < off + a then K else K ++ [(enc (x :: r), off + a)]) (a + 1 + x.length)
      refine Nat.le_trans this ?_
      split <;> simp <;> omega
    · rw [if_neg h]; omega
def inK (K : Kn) : Lit → Option Value
  | .string l => (lookK K l).map (fun o => Value.int .i64 (o : Nat))
  | _ => none
theorem inK_put {K : Kn} {s : List UInt8} {o : Nat} (h : lookK K s = none) (kl : Lit) : upd (inK K) (.string s) (.int .i64 (o : Nat)) kl = inK (K ++ [(s, o)]) kl := by
  unfold upd
  by_cases hk : kl.sameKey (.string s) = true
  · obtain rfl := WideAt.sameKey_eq hk
    rw [if_pos hk]
    show _ = (lookK (K ++ [(s, o)]) s).map _
    rw [lookK_snoc K s s o h, if_pos rfl]
    rfl
  · rw [if_neg hk]
    unfold inK
    split
    · rename_i l
      have hk : ¬ l = s := fun e => hk (by subst e; exact WideAt.sameKey_self (by trivial))
      rw [lookK_snoc K s l o h, if_neg hk]
    · rfl
theorem klawS : Keyed Tryd.prog 9 := Maps.string_keyed Tryd.underlying9
theorem zeroI (w : World) : (zeroValue 3).run Tryd.prog w = .ok (.int .i64 0) w := by kernel_rfl
theorem eqlM_some (b : Nat) (w : World) : (binOp .eql 30 (.map (some b)) (.map none)).run Tryd.prog w = .ok (.bool false) w := by kernel_rfl
theorem eqlM_none (w : World) : (binOp .eql 30 (.map none) (.map none)).run Tryd.prog w = .ok (.bool true) w := by kernel_rfl

/-- The table's memory: mb is its map, where one was made. -/
structure CTB (w : World) (t : Nat) (mb : Option Nat) (K : Kn) : Prop where
  blk : Blk w t 32 #[.map mb]
  has : (mb = none ∧ K = []) ∨ ∃ b, mb = some b ∧ MapIs w Tryd.prog 9 b K.length (inK K)
section
variable {w w' : World} {t : Nat} {mb : Option Nat} {K : Kn}
theorem CTB.only {S : Nat → Prop} (h : CTB w t mb K) (o : Only S w w') (h1 : ¬ S t) (h2 : ∀ b, mb = some b → ¬ S b) : CTB w' t mb K :=
  ⟨h.blk.only o h1, h.has.imp id (fun ⟨b, e, m⟩ => ⟨b, e, m.only o (h2 b e)⟩)⟩
theorem CTB.still (h : CTB w t mb K) (o : Still w w') : CTB w' t mb K := h.only o (fun h => h) (fun _ _ h => h)
theorem CTB.lt (h : CTB w t mb K) : ∀ b, mb = some b → b < w.heap.size := fun b e => by
  rcases h.has with ⟨h1, _⟩ | ⟨b', h1, h2⟩
  · rw [h1] at e; cases e
  · rw [h1] at e; cases e; exact h2.lt
theorem CTB.ne (h : CTB w t mb K) : ∀ b, mb = some b → t ≠ b := fun b e => by
  rcases h.has with ⟨h1, _⟩ | ⟨b', h1, h2⟩
  · rw [h1] at e; cases e
  · rw [h1] at e
    cases e
    rintro rfl
    obtain ⟨D, ⟨es, clock, hb, _⟩, _⟩ := h2
    have := h.blk
    unfold Blk at this
    rw [this] at hb
    cases hb
theorem CTB.look (h : CTB w t mb K) {s : ByteArray} (hs : s.size ≤ maxLen) :
    (Instr.lookup 30 (.map mb) (.string s) true).run Tryd.prog w = .ok (.tuple #[.int .i64 (((lookK K s.data.toList).getD 0 : Nat) : Int), .bool (lookK K s.data.toList).isSome]) w := by
  rcases h.has with ⟨rfl, rfl⟩ | ⟨b, rfl, m⟩
  · exact Maps.look_nil true klawS Tryd.underlying30 (zeroI w) (key_str Tryd.underlying9 hs)
  · have := m.look klawS Tryd.underlying30 (zeroI w) (key_str Tryd.underlying9 hs) true
    rw [this]
    show Result.ok (Value.tuple #[((lookK K s.data.toList).map _).getD _, .bool ((lookK K s.data.toList).map _).isSome]) w = _
    cases lookK K s.data.toList <;> rfl
end
theorem enc_drop : ∀ (P Q : List Lab), (enc (P ++ Q)).drop (sz P) = enc Q
  | [], Q => rfl
  | x :: r, Q => by
    rw [List.cons_append, enc, sz, show 1 + x.length + sz r = (x.length + sz r) + 1 by omega, List.drop_succ_cons, List.drop_append, show x.length + sz r - x.length = sz r by omega, List.drop_of_length_le (by omega), List.nil_append, enc_drop r Q]
/-- A name's bytes at the beginning of one of its endings. -/
theorem at_parts (P : List Lab) (x : Lab) (r : List Lab) (h : okL (P ++ x :: r)) (s : ByteArray) (hs : s = mk (enc (P ++ x :: r))) (a : Nat) (ha : a = sz P) :
    ∃ h0 : a < s.size, (s[a]).toNat = x.length ∧ a + 1 + x.length < s.size ∧ s.extract a s.size = mk (enc (x :: r)) := by
  have hx : okLab x := h.1 x (List.mem_append_right _ List.mem_cons_self)
  have hdr : (enc (P ++ x :: r)).drop (sz P) = enc (x :: r) := enc_drop P (x :: r)
  have hl : s.size = sz P + (sz (x :: r) + 1) := by rw [hs, mk_size, enc_len, sz_app]; omega
  have hcons : sz (x :: r) = 1 + x.length + sz r := rfl
  subst ha
  have h0 : sz P < s.size := by omega
  refine ⟨h0, ?_, by omega, ?_⟩
  · subst hs
    rw [mk_get]
    have : (enc (P ++ x :: r))[sz P]? = some (UInt8.ofNat x.length) := by
      have := congrArg (fun l => l[0]?) hdr
      simpa [List.getElem?_drop, enc] using this
    obtain ⟨hlt, e⟩ := List.getElem?_eq_some_iff.1 this
    exact (congrArg UInt8.toNat e).trans (toNat_len hx.2)
  · subst hs
    apply ByteArray.ext
    rw [ByteArray.data_extract]
    apply Array.toList_inj.1
    rw [Array.toList_extract]
    show (List.extract (enc (P ++ x :: r)) (sz P) (mk (enc (P ++ x :: r))).size) = enc (x :: r)
    rw [List.extract_eq_take_drop, hdr, List.take_of_length_le (by rw [mk_size, enc_len, enc_len, sz_app]; omega)]
theorem at_end (P : List Lab) (h : okL P) (s : ByteArray) (hs : s = mk (enc P)) (a : Nat) (ha : a = sz P) : ∃ h0 : a < s.size, (s[a]).toNat = 0 ∧ s.size = a + 1 := by
  have hl : s.size = sz P + 1 := by rw [hs, mk_size, enc_len]
  subst ha
  refine ⟨by omega, ?_, by omega⟩
  subst hs
  rw [mk_get]
  have hdr := enc_drop P []
  rw [List.append_nil] at hdr
  have : (enc P)[sz P]? = some 0 := by
    have := congrArg (fun l => l[0]?) hdr
    simpa [List.getElem?_drop, enc] using this
  obtain ⟨hlt, e⟩ := List.getElem?_eq_some_iff.1 this
  exact congrArg UInt8.toNat e
end Go.Proofs.YtfhnfjfjmjopeaaDoor
