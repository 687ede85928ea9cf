/-
  Package name: names as rows of labels: what bytes are a name's, folding, the row of names.
-/
import Derived.Test.YtfhnfjfjmjopeaaDoorNameMay
import Derived.Lib.Bytealg
namespace Go.Proofs.YtfhnfjfjmjopeaaDoor
open Go.RowKit
set_option linter.unusedVariables false
set_option linter.unusedSimpArgs false

abbrev Lab := List UInt8
/-- The string of bytes. -/
def mk (l : List UInt8) : ByteArray := ⟨l.toArray⟩
theorem mk_list (l : List UInt8) : (mk l).data.toList = l := rfl
theorem mk_size (l : List UInt8) : (mk l).size = l.length := rfl
theorem mk_of (s : ByteArray) : mk s.data.toList = s := rfl
theorem mk_inj {a b : List UInt8} (h : mk a = mk b) : a = b := congrArg (fun s : ByteArray => s.data.toList) h
theorem mk_get {l : List UInt8} {i : Nat} (h : i < (mk l).size) : (mk l)[i] = l[i]'h := rfl

/-- The bytes of labels. -/
def enc : List Lab → List UInt8
  | [] => [0]
  | x :: r => UInt8.ofNat x.length :: (x ++ enc r)
/-- How many bytes labels take, without the 0. -/
def sz : List Lab → Nat
  | [] => 0
  | x :: r => 1 + x.length + sz r
theorem enc_len : ∀ L : List Lab, (enc L).length = sz L + 1
  | [] => rfl
  | x :: r => by simp only [enc, sz, List.length_cons, List.length_append, enc_len r]; omega
def okLab (x : Lab) : Prop := 1 ≤ x.length ∧ x.length ≤ 63
def okL (L : List Lab) : Prop := (∀ x ∈ L, okLab x) ∧ sz L + 1 ≤ 255
theorem okL.nil : okL [] := ⟨(by intro x h; cases h), by simp [sz]⟩
theorem okL.head {x : Lab} {r : List Lab} (h : okL (x :: r)) : okLab x := h.1 x (List.mem_cons_self)
theorem okL.tail {x : Lab} {r : List Lab} (h : okL (x :: r)) : okL r := ⟨fun y hy => h.1 y (List.mem_cons_of_mem _ hy), by have := h.2; simp only [sz] at this; omega⟩
theorem sz_app : ∀ (L M : List Lab), sz (L ++ M) = sz L + sz M
  | [], M => by simp [sz]
  | x :: r, M => by simp only [List.cons_append, sz, sz_app r M]; omega
theorem sz_ge : ∀ {L : List Lab}, (∀ x ∈ L, okLab x) → 2 * L.length ≤ sz L
  | [], _ => Nat.le_refl _
  | x :: r, h => by
      have h1 := sz_ge (L := r) (fun y hy => h y (List.mem_cons_of_mem _ hy))
      have h2 := (h x List.mem_cons_self).1
      simp only [sz, List.length_cons]; omega
theorem okL.len {L : List Lab} (h : okL L) : L.length ≤ 127 := by have := sz_ge h.1; have := h.2; omega
theorem toNat_len {n : Nat} (h : n ≤ 63) : (UInt8.ofNat n).toNat = n := by simp [UInt8.toNat_ofNat']; omega

theorem dec_enc : ∀ (L : List Lab) (f : Nat), (∀ x ∈ L, okLab x) → (enc L).length ≤ f → dec f (enc L) = some L
  | [], f, _, hf => by
      obtain ⟨g, rfl⟩ : ∃ g, f = g + 1 := ⟨f - 1, by simp [enc] at hf; omega⟩
      rfl
  | x :: r, f, h, hf => by
      obtain ⟨g, rfl⟩ : ∃ g, f = g + 1 := ⟨f - 1, by simp [enc] at hf; omega⟩
      have hx := h x List.mem_cons_self
      have hn := toNat_len hx.2
      have h0 : ¬ UInt8.ofNat x.length = 0 := by
        intro e
        have h1 := congrArg UInt8.toNat e
        have h2 := hx.1
        rw [hn] at h1
        have h3 : (0 : UInt8).toNat = 0 := rfl
        omega
      have hg : (enc r).length ≤ g := by
        rw [enc_len] at hf ⊢
        simp only [sz] at hf
        omega
      rw [enc, dec_cons, if_neg h0, if_neg (by rw [hn]; have := hx.2; omega), if_neg (by rw [hn]; simp), hn, List.drop_left, List.take_left, dec_enc r g (fun y hy => h y (List.mem_cons_of_mem _ hy)) hg]
      rfl
theorem enc_dec : ∀ (f : Nat) (l : List UInt8) (L : List Lab), dec f l = some L → l = enc L ∧ ∀ x ∈ L, okLab x
  | 0, l, L, h => by cases h
  | f + 1, [], L, h => by cases h
  | f + 1, b :: r, L, h => by
      rw [dec_cons] at h
      by_cases h0 : b = 0
      · rw [if_pos h0] at h
        by_cases hr : r = []
        · rw [if_pos hr] at h
          cases h
          subst h0; subst hr
          exact ⟨rfl, by intro x hx; cases hx⟩
        · rw [if_neg hr] at h; cases h
      · rw [if_neg h0] at h
        by_cases h6 : 63 < b.toNat
        · rw [if_pos h6] at h; cases h
        · rw [if_neg h6] at h
          by_cases hl : r.length < b.toNat
          · rw [if_pos hl] at h; cases h
          · rw [if_neg hl] at h
            cases hd : dec f (r.drop b.toNat) with
            | none => rw [hd] at h; cases h
            | some M =>
                rw [hd] at h
                cases h
                obtain ⟨e, hM⟩ := enc_dec f _ _ hd
                have hb : 1 ≤ b.toNat := by
                  rcases Nat.eq_zero_or_pos b.toNat with e | e
                  · exact absurd (UInt8.toNat_inj.1 (by rw [e]; rfl)) h0
                  · exact e
                have hlen : (r.take b.toNat).length = b.toNat := by rw [List.length_take]; omega
                refine ⟨?_, ?_⟩
                · simp only [enc]
                  rw [hlen, ← e, List.take_append_drop, UInt8.ofNat_toNat]
                · intro x hx
                  rcases List.mem_cons.1 hx with rfl | hx
                  · exact ⟨by omega, by omega⟩
                  · exact hM x hx
theorem may_enc {L : List Lab} (h : okL L) : mayN (enc L) = true := by
  unfold mayN
  rw [dec_enc L _ h.1 (Nat.le_refl _), enc_len, decide_eq_true h.2]
  rfl
theorem may_out {l : List UInt8} (h : mayN l = true) : ∃ L, okL L ∧ l = enc L := by
  unfold mayN at h
  rw [Bool.and_eq_true, decide_eq_true_eq] at h
  obtain ⟨h1, h2⟩ := h
  cases hd : dec l.length l with
  | none => rw [hd] at h2; cases h2
  | some L =>
      obtain ⟨e, hL⟩ := enc_dec _ _ _ hd
      refine ⟨L, ⟨hL, ?_⟩, e⟩
      rw [e, enc_len] at h1
      exact h1
theorem may_mk {s : ByteArray} (h : mayN s.data.toList = true) : ∃ L, okL L ∧ s = mk (enc L) := by
  obtain ⟨L, h1, h2⟩ := may_out h
  exact ⟨L, h1, by rw [← h2]; rfl⟩
theorem enc_inj {L M : List Lab} (hL : okL L) (hM : okL M) (e : enc L = enc M) : L = M := by
  have h1 := dec_enc L _ hL.1 (Nat.le_refl _)
  have h2 := dec_enc M _ hM.1 (Nat.le_refl _)
  rw [e, h2] at h1
  exact (Option.some.inj h1).symm

/-- A byte, folded. -/
def low (c : UInt8) : UInt8 := if 65 ≤ c.toNat ∧ c.toNat ≤ 90 then UInt8.ofNat (c.toNat + 32) else c
theorem low_len {n : Nat} (h : n ≤ 63) : low (UInt8.ofNat n) = UInt8.ofNat n := by
  unfold low; rw [toNat_len h, if_neg (by omega)]
theorem low_low (c : UInt8) : low (low c) = low c := by
  unfold low
  by_cases h : 65 ≤ c.toNat ∧ c.toNat ≤ 90
  · rw [if_pos h]
    have : (UInt8.ofNat (c.toNat + 32)).toNat = c.toNat + 32 := by simp [UInt8.toNat_ofNat']; omega
    rw [this, if_neg (by omega)]
  · rw [if_neg h, if_neg h]
theorem low_small {c : UInt8} {n : Nat} (h : n ≤ 63) (e : low c = UInt8.ofNat n) : c = UInt8.ofNat n := by
  unfold low at e
  by_cases hc : 65 ≤ c.toNat ∧ c.toNat ≤ 90
  · rw [if_pos hc] at e
    have := congrArg UInt8.toNat e
    rw [toNat_len h] at this
    simp [UInt8.toNat_ofNat'] at this
    omega
  · rw [if_neg hc] at e; exact e
def fold (L : List Lab) : List Lab := L.map (·.map low)
theorem fold_nil : fold [] = [] := rfl
theorem fold_cons (x : Lab) (r : List Lab) : fold (x :: r) = x.map low :: fold r := rfl
theorem fold_len (L : List Lab) : (fold L).length = L.length := List.length_map _
theorem sz_fold : ∀ L : List Lab, sz (fold L) = sz L
  | [] => rfl
  | x :: r => by rw [fold_cons, sz, sz, List.length_map, sz_fold r]
theorem okL.fold {L : List Lab} (h : okL L) : okL (fold L) := by
  refine ⟨?_, by rw [sz_fold]; exact h.2⟩
  intro x hx
  obtain ⟨y, hy, rfl⟩ := List.mem_map.1 hx
  have := h.1 y hy
  unfold okLab at *
  rw [List.length_map]; exact this
theorem fold_fold (L : List Lab) : fold (fold L) = fold L := by
  unfold fold
  rw [List.map_map]
  congr 1
  funext x
  simp only [Function.comp, List.map_map]
  congr 1
  funext c
  exact low_low c
theorem enc_fold : ∀ {L : List Lab}, (∀ x ∈ L, okLab x) → (enc L).map low = enc (fold L)
  | [], _ => rfl
  | x :: r, h => by
      have hx := h x List.mem_cons_self
      rw [fold_cons, enc, enc, List.map_cons, List.map_append, enc_fold (L := r) (fun y hy => h y (List.mem_cons_of_mem _ hy)), List.length_map, low_len hx.2]
/-- Bytes that are alike a name's, folded, are a name's, alike. -/
theorem turned_name : ∀ {L : List Lab} {b : List UInt8}, (∀ x ∈ L, okLab x) → b.map low = (enc L).map low → ∃ M, b = enc M ∧ fold M = fold L ∧ ∀ x ∈ M, okLab x
  | [], b, _, e => by
      refine ⟨[], ?_, rfl, by intro x hx; cases hx⟩
      cases b with
      | nil => cases e
      | cons c t =>
          simp only [enc, List.map_cons, List.map_nil] at e
          obtain ⟨h1, h2⟩ := List.cons.inj e
          have : t = [] := List.map_eq_nil_iff.1 h2
          subst this
          have hc : c = UInt8.ofNat 0 := low_small (by omega) (h1.trans (by rfl))
          rw [hc]
          rfl
  | x :: r, b, h, e => by
      have hx := h x List.mem_cons_self
      cases b with
      | nil => cases e
      | cons c t =>
          simp only [enc, List.map_cons, List.map_append] at e
          obtain ⟨h1, h2⟩ := List.cons.inj e
          have hc : c = UInt8.ofNat x.length := low_small hx.2 (by rw [h1, low_len hx.2])
          have hl : x.length ≤ t.length := by
            have := congrArg List.length h2
            simp only [List.length_map, List.length_append] at this; omega
          have h3 : (t.take x.length).map low = x.map low := by
            have := congrArg (List.take x.length) h2
            rw [List.take_left' (List.length_map _), ← List.map_take] at this
            exact this
          have h4 : (t.drop x.length).map low = (enc r).map low := by
            have := congrArg (List.drop x.length) h2
            rw [List.drop_left' (List.length_map _), ← List.map_drop] at this
            exact this
          obtain ⟨M, e1, e2, e3⟩ := turned_name (L := r) (fun y hy => h y (List.mem_cons_of_mem _ hy)) h4
          have hlen : (t.take x.length).length = x.length := by rw [List.length_take]; omega
          refine ⟨t.take x.length :: M, ?_, ?_, ?_⟩
          · rw [enc, hlen, ← e1, List.take_append_drop, hc]
          · rw [fold_cons, fold_cons, e2, h3]
          · intro y hy
            rcases List.mem_cons.1 hy with rfl | hy
            · unfold okLab; rw [hlen]; exact hx
            · exact e3 y hy

/-- Rows held against each other, the first unlike ones deciding; the shorter one is ahead. -/
def lexc {α : Type} (c : α → α → Int) : List α → List α → Int
  | [], [] => 0
  | [], _ :: _ => -1
  | _ :: _, [] => 1
  | a :: r, b :: t => if c a b = 0 then lexc c r t else c a b
/-- A comparison that is a row's. -/
structure Cmp {α : Type} (c : α → α → Int) : Prop where
  rng : ∀ a b, c a b = -1 ∨ c a b = 0 ∨ c a b = 1
  anti : ∀ a b, c b a = - c a b
  zero : ∀ a b, c a b = 0 ↔ a = b
  trans : ∀ a b d, c a b < 0 → c b d < 0 → c a d < 0
def cmp8 (a b : UInt8) : Int := if a < b then -1 else if b < a then 1 else 0
theorem cmp8_nat (a b : UInt8) : cmp8 a b = if a.toNat < b.toNat then -1 else if b.toNat < a.toNat then 1 else 0 := by
  unfold cmp8; simp only [UInt8.lt_iff_toNat_lt]
theorem cmp8_ok : Cmp cmp8 := by
  refine ⟨?_, ?_, ?_, ?_⟩
  · intro a b; rw [cmp8_nat]; split
    · exact .inl rfl
    · split
      · exact .inr (.inr rfl)
      · exact .inr (.inl rfl)
  · intro a b; rw [cmp8_nat, cmp8_nat]; (repeat' split) <;> omega
  · intro a b; rw [cmp8_nat]; constructor
    · intro h
      apply UInt8.toNat_inj.1
      split at h
      · omega
      · split at h
        · omega
        · omega
    · rintro rfl; simp
  · intro a b d; simp only [cmp8_nat]; (repeat' split) <;> omega
theorem lexc_ok {α : Type} {c : α → α → Int} (h : Cmp c) : Cmp (lexc c) := by
  have z : ∀ a, c a a = 0 := fun a => (h.zero a a).2 rfl
  refine ⟨?_, ?_, ?_, ?_⟩
  · intro a
    induction a with
    | nil => intro b; cases b <;> simp [lexc]
    | cons x r ih =>
        intro b
        cases b with
        | nil => simp [lexc]
        | cons y t =>
            simp only [lexc]
            by_cases e : c x y = 0
            · rw [if_pos e]; exact ih t
            · rw [if_neg e]; exact h.rng x y
  · intro a
    induction a with
    | nil => intro b; cases b <;> simp [lexc]
    | cons x r ih =>
        intro b
        cases b with
        | nil => simp [lexc]
        | cons y t =>
            simp only [lexc]
            have := h.anti x y
            by_cases e : c x y = 0
            · rw [if_pos e, if_pos (by omega)]; exact ih t
            · rw [if_neg e, if_neg (by omega)]; exact this
  · intro a
    induction a with
    | nil => intro b; cases b <;> simp [lexc]
    | cons x r ih =>
        intro b
        cases b with
        | nil => simp [lexc]
        | cons y t =>
            simp only [lexc]
            by_cases e : c x y = 0
            · rw [if_pos e, ih t, (h.zero x y).1 e]; simp
            · rw [if_neg e]
              constructor
              · intro h'; exact absurd h' e
              · intro h'; cases h'; exact absurd (z x) e
  · intro a
    induction a with
    | nil =>
        intro b d
        cases b with
        | nil => intro h1; simp [lexc] at h1
        | cons y t =>
            cases d with
            | nil => intro _ h2; simp [lexc] at h2
            | cons u v => intro _ _; simp [lexc]
    | cons x r ih =>
        intro b d
        cases b with
        | nil => intro h1; simp [lexc] at h1
        | cons y t =>
            cases d with
            | nil => intro _ h2; simp [lexc] at h2
            | cons u v =>
                simp only [lexc]
                intro h1 h2
                by_cases e1 : c x y = 0
                · have exy := (h.zero x y).1 e1
                  subst exy
                  rw [if_pos e1] at h1
                  by_cases e2 : c x u = 0
                  · rw [if_pos e2] at h2 ⊢; exact ih t v h1 h2
                  · rw [if_neg e2] at h2 ⊢; exact h2
                · rw [if_neg e1] at h1
                  by_cases e2 : c y u = 0
                  · have eyu := (h.zero y u).1 e2
                    subst eyu
                    rw [if_neg e1]; exact h1
                  · rw [if_neg e2] at h2
                    have := h.trans x y u h1 h2
                    rw [if_neg (by omega)]; exact this
/-- What begins with a row is not ahead of it. -/
theorem lexc_app {α : Type} {c : α → α → Int} (h : Cmp c) : ∀ (z t : List α), lexc c z (z ++ t) ≤ 0
  | [], [] => by simp [lexc]
  | [], _ :: _ => by simp [lexc]
  | x :: r, t => by
      rw [List.cons_append]
      simp only [lexc]
      rw [if_pos ((h.zero x x).2 rfl)]
      exact lexc_app h r t
/-- Between two rows that begin with a row there are only such. -/
theorem lexc_between {α : Type} {c : α → α → Int} (h : Cmp c) : ∀ (z a b d : List α), lexc c (z ++ a) b ≤ 0 → lexc c b (z ++ d) ≤ 0 → z <+: b
  | [], a, b, d, _, _ => List.nil_prefix
  | x :: r, a, b, d, h1, h2 => by
      cases b with
      | nil => simp [lexc] at h1
      | cons y t =>
          rw [List.cons_append] at h1 h2
          simp only [lexc] at h1 h2
          have ha := h.anti x y
          by_cases e : c x y = 0
          · rw [if_pos e] at h1
            rw [if_pos (by omega)] at h2
            rw [(h.zero x y).1 e]
            exact (List.prefix_cons_inj y).2 (lexc_between h r a t d h1 h2)
          · rw [if_neg e] at h1
            rw [if_neg (by omega)] at h2
            omega
theorem compare_lexc : ∀ a b : List UInt8, Lib.compareBytes a b = lexc cmp8 a b
  | [], [] => rfl
  | [], _ :: _ => rfl
  | _ :: _, [] => rfl
  | a :: r, b :: t => by
      simp only [Lib.compareBytes, lexc, cmp8]
      by_cases h1 : a < b
      · rw [if_pos h1]; simp [h1]
      · rw [if_neg h1]
        by_cases h2 : b < a
        · rw [if_pos h2]; simp [h1, h2]
        · rw [if_neg h2]; simp [h1, h2]; exact compare_lexc r t
abbrev cmpB : Lab → Lab → Int := lexc cmp8
theorem cmpB_ok : Cmp cmpB := lexc_ok cmp8_ok
/-- Names held against each other: by their last labels first. -/
def cmpN (L M : List Lab) : Int := lexc cmpB (fold L).reverse (fold M).reverse
theorem cmpN_rng (L M : List Lab) : cmpN L M = -1 ∨ cmpN L M = 0 ∨ cmpN L M = 1 := (lexc_ok cmpB_ok).rng _ _
theorem cmpN_anti (L M : List Lab) : cmpN M L = - cmpN L M := (lexc_ok cmpB_ok).anti _ _
theorem cmpN_zero (L M : List Lab) : cmpN L M = 0 ↔ fold L = fold M := by
  unfold cmpN
  rw [(lexc_ok cmpB_ok).zero, List.reverse_inj]
theorem cmpN_trans (L M N : List Lab) (h1 : cmpN L M < 0) (h2 : cmpN M N < 0) : cmpN L N < 0 := (lexc_ok cmpB_ok).trans _ _ _ h1 h2
/-- Is a name within a zone? -/
def inN (L Z : List Lab) : Bool := decide (fold Z <:+ fold L)
theorem inN_cmp {L Z : List Lab} (h : inN L Z = true) : cmpN Z L ≤ 0 := by
  obtain ⟨t, ht⟩ := of_decide_eq_true h
  unfold cmpN
  rw [← ht, List.reverse_append]
  exact lexc_app cmpB_ok _ _
theorem inN_between {A B C Z : List Lab} (ha : inN A Z = true) (hc : inN C Z = true) (h1 : cmpN A B ≤ 0) (h2 : cmpN B C ≤ 0) : inN B Z = true := by
  obtain ⟨s, hs⟩ := of_decide_eq_true ha
  obtain ⟨t, ht⟩ := of_decide_eq_true hc
  refine decide_eq_true ?_
  unfold cmpN at h1 h2
  rw [← hs, List.reverse_append] at h1
  rw [← ht, List.reverse_append] at h2
  exact List.reverse_prefix.1 (lexc_between cmpB_ok _ _ _ _ h1 h2)
end Go.Proofs.YtfhnfjfjmjopeaaDoor
