/-
  Package pend: New, Copy.
-/
import Derived.Test.YthbapdajmpplhaaPendFree
import Derived.Test.YthbapdajmpplhaaTake
import Derived.Test.YthbapdajmpplhaaStepApp
namespace Go.Proofs.Ythbapdajmpplhaa
open Go.RowKit
open Go.Maps (Keyed)
set_option linter.unusedVariables false
set_option linter.unusedSimpArgs false

/-- A table under way. -/
structure Half (w : World) (q t : Nat) (bs : List Nat) (L : List Out) : Prop where
  tab : ∃ A c, Blk w t 41 #[.slice A bs.length c] ∧ w.ownsRow q 69 1 (.slice A bs.length c) bs.length (bsV bs)
  ht : q ≤ t
  nd : bs.Nodup
  ge : ∀ b ∈ bs, q ≤ b
  maps : ∀ u b, bs[u]? = some b → MapIs w Try.prog 32 b (lenO L u) (atU L u)
theorem Half.done {w : World} {q t : Nat} {bs : List Nat} {L : List Out} (h : Half w q t bs L) (hI : Inv bs.length L) (h9 : bs.length ≤ 9) : PT w t bs L := by
  obtain ⟨A, c, h1, h2⟩ := h.tab
  exact ⟨⟨A, c, h1, own_base h2 (Nat.zero_le _)⟩, h.nd, h.maps, hI, h9⟩
theorem own_map_ne {w : World} {base size n b : Nat} {e : TypeId} {v : Value} {xs : List Value} (h : w.ownsRow base e size v n xs) (m : ∃ es c, w.heap[b]? = some (.map es c)) : v.ownBlock ≠ some b := by
  obtain ⟨es, c, hm⟩ := m
  intro e
  rcases h.2 with ⟨rfl, _⟩ | ⟨g', cap, cur, rfl, _, hh, _⟩
  · simp [Value.ownBlock] at e
  · simp [Value.ownBlock] at e
    subst e
    rw [hh] at hm
    cases hm
theorem mapIs_grown {w w' : World} {k : TypeId} {b n : Nat} {M : Lit → Option Value} {row : Option Nat} (h : MapIs w Try.prog k b n M) (hg : w.grownBy w' row) (hr : row ≠ some b) : MapIs w' Try.prog k b n M :=
  h.of_block (hg.block b h.lt (fun e => hr e.symm))
theorem blk_grown {w w' : World} {t : TypeId} {g : Nat} {cs : Array Value} {row : Option Nat} (h : Blk w g t cs) (hg : w.grownBy w' row) (hr : row ≠ some g) : Blk w' g t cs :=
  (hg.block g h.lt (fun e => hr e.symm)).trans h
theorem Half.still {w w' : World} {q t : Nat} {bs : List Nat} {L : List Out} (h : Half w q t bs L) (o : Still w w') : Half w' q t bs L := by
  obtain ⟨A, c, h1, h2⟩ := h.tab
  exact ⟨⟨A, c, h1.only o (fun h => h), own_only h2 o (fun _ _ h => h)⟩, h.ht, h.nd, h.ge, fun u b hu => (h.maps u b hu).still o⟩
theorem Half.push {w w' : World} {q t nb c : Nat} {bs : List Nat} {L : List Out} {A : Option Addr} {v' : Value} (h : Half w q t bs L)
    (hb : Blk w t 41 #[.slice A bs.length c]) (ho : w.ownsRow q 69 1 (.slice A bs.length c) bs.length (bsV bs))
    (hn : nb ∉ bs) (hq : q ≤ nb) (hm : MapIs w Try.prog 32 nb (lenO L bs.length) (atU L bs.length))
    (ho' : w'.ownsRow q 69 1 v' (bs.length + 1) (bsV bs ++ [mV nb])) (hg : w.grownBy w' (Value.slice A bs.length c).ownBlock) :
    Half (w'.setCell ⟨t, 0, none⟩ v') q t (bs ++ [nb]) L := by
  obtain ⟨A', c', rfl⟩ := own_shape ho'
  have hlen : (bs ++ [nb]).length = bs.length + 1 := by simp
  have hne : (Value.slice A bs.length c).ownBlock ≠ some t := own_blk_ne ho hb (by decide)
  have hb' := blk_grown hb hg hne
  have hbs : bsV (bs ++ [nb]) = bsV bs ++ [mV nb] := by unfold bsV; simp
  have hnt : (Value.slice A' (bs.length + 1) c').ownBlock ≠ some t := own_blk_ne ho' hb' (by decide)
  have tm : ∀ b, MapIs w Try.prog 32 b (lenO L bs.length) (atU L bs.length) → True := fun _ _ => trivial
  refine ⟨⟨A', c', ?_, ?_⟩, h.ht, ?_, fun b hb => ?_, fun u b hu => ?_⟩
  · have := hb'.set_ 0 (.slice A' (bs.length + 1) c')
    rw [hlen]
    simpa using this
  · rw [hlen, hbs]
    exact own_only ho' ((Only.refl (· = t) w').setCell (p := ⟨t, 0, none⟩) (.inl rfl) _) (fun k hk e => hnt (by rw [hk, e]))
  · rw [List.nodup_append]
    refine ⟨h.nd, by simp, fun a ha b hb e => hn ?_⟩
    rw [List.mem_singleton.1 hb] at e
    exact e ▸ ha
  · rcases List.mem_append.1 hb with hb | hb
    · exact h.ge b hb
    · rw [List.mem_singleton.1 hb]; exact hq
  · have key : ∀ b n M, MapIs w Try.prog 32 b n M → MapIs (w'.setCell ⟨t, 0, none⟩ (.slice A' (bs.length + 1) c')) Try.prog 32 b n M := fun b n M hM => by
      have h1 := mapIs_grown hM hg (own_map_ne ho hM.is_map)
      refine h1.only ((Only.refl (· = t) w').setCell (p := ⟨t, 0, none⟩) (.inl rfl) _) (fun e => ?_)
      subst e
      obtain ⟨es, ck, e⟩ := h1.is_map
      unfold Blk at hb'
      rw [hb'] at e
      cases e
    rw [List.getElem?_append] at hu
    split at hu
    · exact key _ _ _ (h.maps u b hu)
    · rename_i hlt
      have : u = bs.length := by
        rcases Nat.lt_or_ge (u - bs.length) 1 with h1 | h1
        · omega
        · rw [List.getElem?_eq_none (by simpa using h1)] at hu; cases hu
      subst this
      simp at hu
      subst hu
      exact key _ _ _ hm

theorem info_m : (Try.prog.info? 69).map (fun i => (i.zero, i.size, i.bytes)) = some (some (.map none), 1, 8) := by kernel_rfl

set_option maxRecDepth 1000000 in
set_option maxHeartbeats 3200000 in
theorem new_pend (w : World) (n : Nat) (h1 : 1 ≤ n) (h9 : n ≤ 9) :
    Calls Try.prog 10 #[.int .i64 n] w fun e w' => ∃ t bs, e = .returned (.tuple #[.pointer (some ⟨t, 0, none⟩), .int .i64 0]) ∧ bs.length = n ∧ PT w' t bs [] ∧ w.heap.size ≤ t ∧ (∀ b ∈ bs, w.heap.size ≤ b) ∧ Still w w' := by
  obtain ⟨i0, hi, hz0, hz1, hz2⟩ := info_parts info_m
  have hd1 : ¬ (n : Int) < 1 := by omega
  have hd2 : ¬ (9 : Int) < (n : Int) := by omega
  go_enter Try.func10, Try.ntmps10
  go_wp2_with fail
  obtain ⟨q, hq⟩ : ∃ q, q = w.heap.size := ⟨_, rfl⟩
  rw [← hq]
  have Hq := Lib.hid hq
  go_loopw [14] (fun i wr => ∃ k bs, k ≤ n ∧ i = .int .i64 k ∧ bs.length = k ∧ Half wr q q bs [] ∧ Still w wr) (fun i _ => n - (intOf i).toNat)
  case atStart =>
    refine ⟨0, [], Nat.zero_le _, rfl, rfl, ⟨⟨none, 0, Blk.at_ _ _ _ hq, World.ownsRow_nil _ _ _ _⟩, Nat.le_refl _, by simp, by simp, by simp⟩, Still.new _ _⟩
  case round =>
    clear hq
    obtain ⟨k, bs, hk, rfl, hbk, hH, hst⟩ := hrel
    by_cases hlt : k < n
    · obtain ⟨A, c, hb, ho⟩ := hH.tab
      subst hbk
      have hs1 := Still.new wr (.map #[] 0)
      have hs2 := Still.new (wr.alloc (.map #[] 0)) (.cells #[.map (some wr.heap.size)] 69)
      have hb2 := (hb.only hs1 (fun h => h)).only hs2 (fun h => h)
      have ho2 := own_only (own_only ho hs1 (fun _ _ h => h)) hs2 (fun _ _ h => h)
      have hm2 := (MapIs.made wr Try.prog 32).still hs2
      have hH2 := (hH.still hs1).still hs2
      have hst2 := (hst.still hs1).still hs2
      have hlw := hst.size
      have c0 := hb2.cell 0
      have f0 := hb2.frozen 0
      have c00 := hb.cell 0
      simp at c0 c00
      have hbl := hb.lt
      have hmk : (Instr.makeMap 69 none).run Try.prog wr = .ok (.map (some wr.heap.size)) (wr.alloc (.map #[] 0)) := rfl
      have hrd : Reads ((wr.alloc (.map #[] 0)).alloc (.cells #[.map (some wr.heap.size)] 69)) ((wr.alloc (.map #[] 0)).alloc (.cells #[.map (some wr.heap.size)] 69)).heap.size 1 (some ⟨wr.heap.size + 1, 0, none⟩) 1 [.map (some wr.heap.size)] :=
        ⟨by simp, fun _ => ⟨_, rfl, by simp, by
          have := cell_one_new (wr.alloc (.map #[] 0)) (.map (some wr.heap.size)) 69
          simpa using this⟩⟩
      go_wp2_with (at_builtin; refine wpList_append_any _ rfl (.tmp 20) (.tmp 22) 39 rfl q 69 i0 (.map none) 1 8 Try.underlying39 hi hz0 hz1 hz2 rfl (by decide) _ _ _ rfl ho2 _ _ 1 1 _ rfl hrd ?c1 ?c2 ?c3 ?c4 ?_)
      case c1 => intro u hu; simp at hu; subst hu; rfl
      case c2 => unfold maxLen; omega
      case c3 => omega
      case c4 => simp; have := Hq.out; omega
      intro v' w' hown hgrow hblk
      obtain ⟨A', c', rfl⟩ := own_shape hown
      have hbx := blk_grown hb2 hgrow (own_blk_ne ho2 hb2 (by decide))
      have c0' := hbx.cell 0
      have f0' := hbx.frozen 0
      simp at c0'
      have hnq : wr.heap.size ∉ bs := fun hx => by
        obtain ⟨u, hu, e⟩ := List.getElem_of_mem hx
        have := (hH.maps u _ (by rw [List.getElem?_eq_getElem hu, e])).lt
        omega
      have hP := hH2.push hb2 ho2 hnq (by have := Hq.out; omega) (hm2.turn (fun kl => by unfold atU; split <;> rfl)) hown hgrow
      have hqs : q ≤ wr.heap.size := by have := Hq.out; omega
      have hS : Still w (w'.setCell ⟨q, 0, none⟩ (.slice A' (bs.length + 1) c')) := by
        refine ((hst2.grown hgrow (fun k hk => ?_)).setCell (p := ⟨q, 0, none⟩) (.inr (by have := Hq.out; show w.heap.size ≤ q; omega)) _)
        right
        rcases ho2.2 with ⟨e, _⟩ | ⟨g', cap, cur, e, hbq, hh, _⟩
        · rw [e] at hk; simp [Value.ownBlock] at hk
        · rw [e] at hk
          simp [Value.ownBlock] at hk
          have := Hq.out
          omega
      clear hgrow hblk hown hbx hrd hb2 ho2 hH2 hst2 hm2 hs1 hs2
      go_wp2_with fail
      go_roundw
      case rel => exact ⟨bs.length + 1, bs ++ [wr.heap.size], hlt, by go_num, by simp, hP, hS⟩
      case measure => simp [intOf]; omega
    · obtain rfl : k = n := by omega
      go_wp2_with fail
      go_ret2
      exact ⟨q, bs, rfl, hbk, hH.done (Inv.nil _) (by omega), by have := Hq.out; omega, fun b hb => by have := hH.ge b hb; have := Hq.out; omega, hst⟩
theorem new_bad (w : World) (n : Int) (h : n < 1 ∨ 9 < n) :
    Calls Try.prog 10 #[.int .i64 n] w fun e w' => e = .returned (.tuple #[.pointer none, .int .i64 1]) ∧ w = w' := by
  go_enter Try.func10, Try.ntmps10
  by_cases h1 : n < 1
  · go_wp2
    go_ret2
    exact ⟨rfl, rfl⟩
  · have h9 : 9 < n := by omega
    go_wp2
    go_ret2
    exact ⟨rfl, rfl⟩

/-! ### maps.Clone -/
set_option maxRecDepth 1000000 in
theorem clone_map (w : World) (b n : Nat) (M : Lit → Option Value) (h : MapIs w Try.prog 32 b n M) :
    Calls Try.prog 34 #[.map (some b)] w fun e w' => e = .returned (.map (some w.heap.size)) ∧ MapIs w' Try.prog 32 w.heap.size n M ∧ Still w w' ∧ w'.heap.size = w.heap.size + 1 := by
  obtain ⟨es, clock, hb, hm⟩ := h.clone
  have hq := eqlm_some
  go_enter Try.func34, Try.ntmps34
  go_wp2
  rw [run_callFunc_extern Try.func41 (by kernel_rfl) (by kernel_rfl) (by kernel_rfl) (e := Extern.MapsClone.clone) (by kernel_rfl), run_maps_clone_sl w 69 hb]
  simp only [Result.andThen]
  rw [Oper.upon_value]
  go_wp2
  rw [run_typeAssert_map_sl _ 69 _ 32 3 _ Try.underlying69]
  simp only [Result.andThen]
  rw [Oper.upon_value]
  go_wp2
  go_ret
  exact ⟨rfl, hm, Still.new _ _, by simp⟩
end Go.Proofs.Ythbapdajmpplhaa
