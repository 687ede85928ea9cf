/-
  Which rows of zones are tables; of the zone that is found: it is within, and no other one that is within has more labels.
-/
import Derived.Test.YtinjfongndlpgaaZoneLong
namespace Go.Proofs.Ytinjfongndlpgaa
open Go.RowKit
set_option linter.unusedVariables false
set_option linter.unusedSimpArgs false

def okT (Z : List Zn) : Prop := (∀ z ∈ Z, good z = true) ∧ Z.Pairwise (fun a b => a.nm ≠ b.nm)
theorem newE_ok : ∀ (l Z : List Zn), newE Z l = 0 ↔ okT l ∧ ∀ z ∈ l, ∀ y ∈ Z, y.nm ≠ z.nm
  | [], Z => by simp [newE, okT]
  | z :: r, Z => by
    rw [newE]
    by_cases h : add1 Z z = 0
    · rw [if_pos h, newE_ok r (Z ++ [z])]
      have h1 : good z = true ∧ hasN Z z.nm = false := by
        unfold add1 at h
        by_cases g : good z = false
        · rw [if_pos g] at h; cases h
        · rw [if_neg g] at h
          by_cases k : hasN Z z.nm = true
          · rw [if_pos k] at h; cases h
          · exact ⟨by simpa using g, by simpa using k⟩
      have h2 : ∀ y ∈ Z, y.nm ≠ z.nm := fun y hy e => by
        have : hasN Z z.nm = true := List.any_eq_true.2 ⟨y, hy, decide_eq_true e⟩
        rw [h1.2] at this; cases this
      constructor
      · rintro ⟨⟨a, b⟩, c⟩
        refine ⟨⟨fun y hy => ?_, List.pairwise_cons.2 ⟨fun y hy => c y hy z (List.mem_append_right _ (List.mem_singleton_self z)), b⟩⟩, fun y hy x hx => ?_⟩
        · rcases List.mem_cons.1 hy with rfl | hy
          · exact h1.1
          · exact a y hy
        · rcases List.mem_cons.1 hy with rfl | hy
          · exact h2 x hx
          · exact c y hy x (List.mem_append_left _ hx)
      · rintro ⟨⟨a, b⟩, c⟩
        obtain ⟨b1, b2⟩ := List.pairwise_cons.1 b
        refine ⟨⟨fun y hy => a y (List.mem_cons_of_mem _ hy), b2⟩, fun y hy x hx => ?_⟩
        rcases List.mem_append.1 hx with hx | hx
        · exact c y (List.mem_cons_of_mem _ hy) x hx
        · rw [List.mem_singleton.1 hx]; exact b1 y hy
    · rw [if_neg h]
      constructor
      · intro h'; exact absurd h' h
      · rintro ⟨⟨a, b⟩, c⟩
        exfalso
        apply h
        unfold add1
        rw [if_neg (by rw [a z List.mem_cons_self]; decide), if_neg]
        intro k
        obtain ⟨y, hy, e⟩ := List.any_eq_true.1 k
        exact c z List.mem_cons_self y hy (of_decide_eq_true e)
theorem errZ_ok (l : List Zn) : errZ l = 0 ↔ l.length ≤ 16 ∧ okT l := by
  unfold errZ
  by_cases h : 16 < l.length
  · rw [if_pos h]
    exact ⟨fun h => (by cases h), fun ⟨a, _⟩ => by omega⟩
  · rw [if_neg h, newE_ok]
    exact ⟨fun a => ⟨by omega, a.1⟩, fun a => ⟨a.2, fun _ _ _ hy => by cases hy⟩⟩
theorem good_out {z : Zn} (h : good z = true) : ∃ S, okL S ∧ z.nm = mk (enc S) ∧ fold S = S := by
  unfold good at h
  simp only [Bool.and_eq_true, decide_eq_true_eq] at h
  obtain ⟨⟨⟨h1, h2⟩, _⟩, _⟩ := h
  obtain ⟨S, hS, e⟩ := may_mk h1
  refine ⟨S, hS, e, ?_⟩
  rw [e, foldS_enc hS] at h2
  exact enc_inj hS.fold hS (mk_inj h2)
theorem ofN_mem : ∀ {Z : List Zn} {z : Zn}, Z.Pairwise (fun a b => a.nm ≠ b.nm) → z ∈ Z → ofN Z z.nm = some z
  | [], _, _, h => by cases h
  | y :: r, z, hp, h => by
    obtain ⟨p1, p2⟩ := List.pairwise_cons.1 hp
    unfold ofN
    rw [List.find?_cons]
    rcases List.mem_cons.1 h with rfl | h
    · simp
    · have : ¬ y.nm = z.nm := p1 z h
      simp only [this, decide_false]
      exact ofN_mem p2 h
theorem ofN_same {Z Z' : List Zn} (h : okT Z) (h' : okT Z') (e : ∀ z, z ∈ Z ↔ z ∈ Z') (s : ByteArray) : ofN Z s = ofN Z' s := by
  cases a : ofN Z s with
  | some z =>
    obtain ⟨hz, rfl⟩ := ofN_some a
    exact (ofN_mem h'.2 ((e z).1 hz)).symm
  | none =>
    cases b : ofN Z' s with
    | none => rfl
    | some z =>
      obtain ⟨hz, rfl⟩ := ofN_some b
      rw [ofN_mem h.2 ((e z).2 hz)] at a
      cases a
theorem up_same {Z Z' : List Zn} (h : ∀ s, ofN Z s = ofN Z' s) : ∀ F, up Z F = up Z' F
  | [] => by rw [up, up, h]
  | x :: r => by rw [up, up, h, up_same h r]
theorem findZ_same {Z Z' : List Zn} (h : okT Z) (h' : okT Z') (e : ∀ z, z ∈ Z ↔ z ∈ Z') (s : ByteArray) : findZ Z s = findZ Z' s := by
  unfold findZ
  rw [up_same (ofN_same h h' e)]
theorem up_some {Z : List Zn} {z : Zn} : ∀ {F : List Lab}, up Z F = some z → ∃ S, S <:+ F ∧ ofN Z (mk (enc S)) = some z ∧ ∀ S', S' <:+ F → S.length < S'.length → ofN Z (mk (enc S')) = none
  | [], h => by
    rw [up] at h
    exact ⟨[], List.suffix_refl _, h, fun S' h' hl => by rw [List.suffix_nil.1 h'] at hl; cases hl⟩
  | x :: r, h => by
    cases a : ofN Z (mk (enc (x :: r))) with
    | some y =>
      rw [up_hit a] at h
      cases h
      exact ⟨x :: r, List.suffix_refl _, a, fun S' h' hl => by have := h'.length_le; omega⟩
    | none =>
      rw [up_miss a] at h
      obtain ⟨S, h1, h2, h3⟩ := up_some h
      refine ⟨S, h1.trans (List.suffix_cons _ _), h2, fun S' h' hl => ?_⟩
      rcases List.suffix_cons_iff.1 h' with rfl | h'
      · exact a
      · exact h3 S' h' hl
theorem up_none {Z : List Zn} : ∀ {F : List Lab}, up Z F = none → ∀ S', S' <:+ F → ofN Z (mk (enc S')) = none
  | [], h, S', h' => by rw [List.suffix_nil.1 h']; rw [up] at h; exact h
  | x :: r, h, S', h' => by
    cases a : ofN Z (mk (enc (x :: r))) with
    | some y => rw [up_hit a] at h; cases h
    | none =>
      rw [up_miss a] at h
      rcases List.suffix_cons_iff.1 h' with rfl | h'
      · exact a
      · exact up_none h S' h'
theorem okL_suf {S F : List Lab} (h : okL F) (hs : S <:+ F) : okL S := by
  obtain ⟨D, rfl⟩ := hs
  exact h.suf
theorem fold_suf {S F : List Lab} (hs : S <:+ fold F) : fold S = S := by
  obtain ⟨D, e⟩ := hs
  have h := fold_fold F
  rw [← e] at h
  unfold fold at h ⊢
  rw [List.map_append] at h
  exact (List.append_inj h (by simp)).2
theorem find_cases {Z : List Zn} (h : okT Z) (s : ByteArray) :
    (findZ Z s ∈ Z ∧ inS s (findZ Z s).nm = true ∧ ∀ y ∈ Z, inS s y.nm = true → nl y.nm ≤ nl (findZ Z s).nm) ∨ (findZ Z s = none0 ∧ ∀ y ∈ Z, inS s y.nm = false) := by
  rcases hm : mayN s.data.toList with _ | _
  · exact .inr ⟨by unfold findZ; rw [hm]; rfl, fun y _ => inS_no (.inl hm)⟩
  · obtain ⟨L, hL, rfl⟩ := may_mk hm
    rw [findZ_enc Z hL]
    have key : ∀ y ∈ Z, inS (mk (enc L)) y.nm = true → ∃ S, okL S ∧ y.nm = mk (enc S) ∧ S <:+ fold L := fun y hy hi => by
      obtain ⟨S, hS, e, ef⟩ := good_out (h.1 y hy)
      rw [e, inS_enc hL hS] at hi
      refine ⟨S, hS, e, ?_⟩
      have := of_decide_eq_true hi
      rw [ef] at this
      exact this
    cases hu : up Z (fold L) with
    | none =>
      refine .inr ⟨rfl, fun y hy => ?_⟩
      cases hi : inS (mk (enc L)) y.nm with
      | false => rfl
      | true =>
        obtain ⟨S, hS, e, hs⟩ := key y hy hi
        have := up_none hu S hs
        rw [← e, ofN_mem h.2 hy] at this
        cases this
    | some z =>
      obtain ⟨S, h1, h2, h3⟩ := up_some hu
      obtain ⟨hz, en⟩ := ofN_some h2
      have hS : okL S := okL_suf hL.fold h1
      refine .inl ⟨hz, ?_, fun y hy hi => ?_⟩
      · show inS (mk (enc L)) z.nm = true
        rw [en, inS_enc hL hS]
        exact decide_eq_true (by rw [fold_suf h1]; exact h1)
      · show nl y.nm ≤ nl z.nm
        obtain ⟨S', hS', e, hs⟩ := key y hy hi
        rw [e, en, nl_enc hS', nl_enc hS]
        rcases Nat.lt_or_ge S.length S'.length with hlt | hge
        · have := h3 S' hs hlt
          rw [← e, ofN_mem h.2 hy] at this
          cases this
        · exact hge
theorem uniq_in {Z : List Zn} (h : okT Z) {s : ByteArray} {x y : Zn} (hx : x ∈ Z) (hy : y ∈ Z) (ix : inS s x.nm = true) (iy : inS s y.nm = true) (hn : nl x.nm = nl y.nm) : x = y := by
  have hm : mayN s.data.toList = true := by
    unfold inS at ix
    rw [Bool.and_eq_true, Bool.and_eq_true] at ix
    exact ix.1.1
  obtain ⟨L, hL, rfl⟩ := may_mk hm
  obtain ⟨S, hS, e, ef⟩ := good_out (h.1 x hx)
  obtain ⟨S', hS', e', ef'⟩ := good_out (h.1 y hy)
  rw [e, inS_enc hL hS] at ix
  rw [e', inS_enc hL hS'] at iy
  rw [e, e', nl_enc hS, nl_enc hS'] at hn
  have h1 := of_decide_eq_true ix
  have h2 := of_decide_eq_true iy
  rw [ef] at h1
  rw [ef'] at h2
  have : S = S' := by
    rcases List.suffix_or_suffix_of_suffix h1 h2 with a | a
    · exact a.eq_of_length hn
    · exact (a.eq_of_length hn.symm).symm
  subst this
  have a := ofN_mem h.2 hx
  have b := ofN_mem h.2 hy
  rw [e] at a
  rw [e', a] at b
  exact Option.some.inj b
/-- With a zone more. -/
theorem find_more {Z : List Zn} {z : Zn} (h : okT (Z ++ [z])) (h0 : okT Z) (s : ByteArray) :
    findZ (Z ++ [z]) s = if inS s z.nm = true ∧ (Z.any (fun y => inS s y.nm) = false ∨ nl (findZ Z s).nm < nl z.nm) then z else findZ Z s := by
  have hzm : z ∈ Z ++ [z] := List.mem_append_right _ (List.mem_singleton_self z)
  have hany : ∀ y ∈ Z, inS s y.nm = true → Z.any (fun y => inS s y.nm) = true := fun y hy hi => List.any_eq_true.2 ⟨y, hy, hi⟩
  rcases find_cases h s with ⟨a1, a2, a3⟩ | ⟨a1, a2⟩
  · rcases find_cases h0 s with ⟨b1, b2, b3⟩ | ⟨b1, b2⟩
    · have hb := a3 _ (List.mem_append_left _ b1) b2
      by_cases hc : inS s z.nm = true ∧ (Z.any (fun y => inS s y.nm) = false ∨ nl (findZ Z s).nm < nl z.nm)
      · rw [if_pos hc]
        obtain ⟨c1, c2⟩ := hc
        have c3 : nl (findZ Z s).nm < nl z.nm := by
          rcases c2 with c2 | c2
          · rw [hany _ b1 b2] at c2; cases c2
          · exact c2
        rcases List.mem_append.1 a1 with a | a
        · have := b3 _ a a2
          have := a3 z hzm c1
          omega
        · exact List.mem_singleton.1 a
      · rw [if_neg hc]
        rcases List.mem_append.1 a1 with a | a
        · have := b3 _ a a2
          exact uniq_in h0 a b1 a2 b2 (by omega)
        · have e := List.mem_singleton.1 a
          rw [e] at a2 hb ⊢
          have : ¬ nl (findZ Z s).nm < nl z.nm := fun hlt => hc ⟨a2, .inr hlt⟩
          exact uniq_in h hzm (List.mem_append_left _ b1) a2 b2 (by omega)
    · have hno : Z.any (fun y => inS s y.nm) = false := by
        cases e : Z.any (fun y => inS s y.nm) with
        | false => rfl
        | true =>
          obtain ⟨y, hy, hi⟩ := List.any_eq_true.1 e
          rw [b2 y hy] at hi; cases hi
      rcases List.mem_append.1 a1 with a | a
      · rw [b2 _ a] at a2; cases a2
      · have e := List.mem_singleton.1 a
        rw [e] at a2 ⊢
        rw [if_pos ⟨a2, .inl hno⟩]
  · have hz : inS s z.nm = false := a2 z hzm
    rw [if_neg (by rw [hz]; rintro ⟨h, _⟩; cases h), a1]
    rcases find_cases h0 s with ⟨b1, b2, b3⟩ | ⟨b1, b2⟩
    · rw [a2 _ (List.mem_append_left _ b1)] at b2; cases b2
    · exact b1.symm
/-- Letters of either case. -/
theorem find_letters (Z : List Zn) {L M : List Lab} (hL : okL L) (hM : okL M) (e : fold M = fold L) : findZ Z (mk (enc M)) = findZ Z (mk (enc L)) := by
  rw [findZ_enc Z hL, findZ_enc Z hM, e]
theorem find_name (Z : List Zn) (h : okT Z) (s : ByteArray) : ∃ S, okL S ∧ (findZ Z s).nm = mk (enc S) ∧ fold S = S := by
  rcases find_cases h s with ⟨a, _⟩ | ⟨a, _⟩
  · exact good_out (h.1 _ a)
  · rw [a]; exact ⟨[], okL.nil, rfl, rfl⟩
/-- What is within a name is of a zone within that name's zone. -/
theorem find_within {Z : List Zn} (h : okT Z) {x : Lab} {L : List Lab} (hx : okL (x :: L)) : inS (findZ Z (mk (enc (x :: L)))).nm (findZ Z (mk (enc L))).nm = true := by
  have hL := hx.tail
  rw [findZ_enc Z hx, findZ_enc Z hL, fold_cons]
  have self : ∀ y : Zn, (∃ S, okL S ∧ y.nm = mk (enc S)) → inS y.nm y.nm = true := by
    rintro y ⟨S, hS, e⟩
    rw [e, inS_enc hS hS]
    exact decide_eq_true (List.suffix_refl _)
  have nm : ∀ F, okL F → ∃ S, okL S ∧ ((up Z F).getD none0).nm = mk (enc S) ∧ S <:+ F := fun F hF => by
    cases hu : up Z F with
    | none => exact ⟨[], okL.nil, rfl, List.nil_suffix⟩
    | some z =>
      obtain ⟨S, h1, h2, _⟩ := up_some hu
      exact ⟨S, okL_suf hF h1, (ofN_some h2).2, h1⟩
  cases a : ofN Z (mk (enc (x.map low :: fold L))) with
  | none =>
    rw [up_miss a]
    obtain ⟨S, hS, e, _⟩ := nm (fold L) hL.fold
    exact self _ ⟨S, hS, e⟩
  | some y =>
    rw [up_hit a]
    obtain ⟨S, hS, e, hs⟩ := nm (fold L) hL.fold
    have hx' : okL (x.map low :: fold L) := by rw [← fold_cons]; exact hx.fold
    show inS y.nm ((up Z (fold L)).getD none0).nm = true
    rw [e, (ofN_some a).2, inS_enc hx' hS]
    refine decide_eq_true ?_
    have e1 : fold S = S := fold_suf hs
    have e2 : fold (x.map low :: fold L) = x.map low :: fold L := by rw [← fold_cons, fold_fold]
    rw [e1, e2]
    exact hs.trans (List.suffix_cons _ _)
end Go.Proofs.Ytinjfongndlpgaa
