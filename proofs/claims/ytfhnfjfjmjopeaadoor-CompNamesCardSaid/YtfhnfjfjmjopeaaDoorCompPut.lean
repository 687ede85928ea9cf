/-
  Package comp: Put, At, New.
-/
import Derived.Test.YtfhnfjfjmjopeaaDoorCompAdd
import Derived.Test.YtfhnfjfjmjopeaaDoorCompStep
namespace Go.Proofs.YtfhnfjfjmjopeaaDoor
open Go.RowKit
open Go.Maps (Keyed)
set_option linter.unusedVariables false
set_option linter.unusedSimpArgs false

/-- Where the pointer's ending begins, and where it leads. -/
def lgC (cp : Bool) (K : Kn) (L : List Lab) : Nat × Nat × Bool := if cp = true then lg K 0 L else ((enc L).length, 0, false)
def outP (R : Nat × Nat × Bool) (b : List UInt8) (L : List Lab) : List UInt8 := b ++ (enc L).take R.1 ++ (if R.2.2 = true then beB 2 (49152 + R.2.1) else [])
def newK (R : Nat × Nat × Bool) (K : Kn) (off : Nat) (L : List Lab) (kn : Bool) : Kn := if kn = true then ad R.1 off K 0 L else K
def lowK (K : Kn) : Prop := ∀ p ∈ K, p.2 ≤ 16383
theorem look_low {K : Kn} (h : lowK K) {s : List UInt8} {o : Nat} (hl : lookK K s = some o) : o ≤ 16383 := by
  unfold lookK at hl
  rw [Option.map_eq_some_iff] at hl
  obtain ⟨p, hp, rfl⟩ := hl
  exact h p (List.mem_of_find?_eq_some hp)
theorem lg_ok {K : Kn} (h : lowK K) : ∀ (L : List Lab) (a : Nat), (lg K a L).2.1 ≤ 16383 ∧ a ≤ (lg K a L).1 ∧ (lg K a L).1 ≤ a + (enc L).length
  | [], a => ⟨Nat.zero_le _, Nat.le_succ _, Nat.le_refl _⟩
  | x :: r, a => by
    rw [lg]
    cases e : lookK K (enc (x :: r)) with
    | some o => exact ⟨look_low h e, Nat.le_refl _, Nat.le_add_right _ _⟩
    | none =>
      obtain ⟨h1, h2, h3⟩ := lg_ok h r (a + 1 + x.length)
      have hl : (enc (x :: r)).length = 1 + x.length + (enc r).length := by rw [enc, List.length_cons, List.length_append]; omega
      exact ⟨h1, by show a ≤ (lg K (a + 1 + x.length) r).1; omega, by show (lg K (a + 1 + x.length) r).1 ≤ _; rw [hl]; omega⟩
theorem ad_low {keep off : Nat} : ∀ (L : List Lab) (K : Kn) (a : Nat), lowK K → lowK (ad keep off K a L)
  | [], K, a, h => h
  | x :: r, K, a, h => by
    rw [ad]
    by_cases hk : a < keep
    · rw [if_pos hk]
      refine ad_low r _ _ ?_
      by_cases hc : (lookK K (enc (x :: r))).isSome = true ∨ 16383 < off + a
      · rw [if_pos hc]; exact h
      · rw [if_neg hc]
        intro p hp
        rcases List.mem_append.1 hp with hp | hp
        · exact h p hp
        · rw [List.mem_singleton.1 hp]
          show off + a ≤ 16383
          have : ¬ 16383 < off + a := fun h => hc (.inr h)
          omega
    · rw [if_neg hk]; exact h
theorem lgC_ok {K : Kn} (h : lowK K) (cp : Bool) (L : List Lab) : (lgC cp K L).2.1 ≤ 16383 ∧ (lgC cp K L).1 ≤ (enc L).length := by
  unfold lgC
  cases cp
  · exact ⟨Nat.zero_le _, Nat.le_refl _⟩
  · obtain ⟨h1, _, h3⟩ := lg_ok h L 0
    rw [if_pos rfl]
    exact ⟨h1, by omega⟩
theorem newK_low {R : Nat × Nat × Bool} {K : Kn} {off : Nat} {L : List Lab} {kn : Bool} (h : lowK K) : lowK (newK R K off L kn) := by
  unfold newK
  cases kn
  · exact h
  · exact ad_low L K 0 h
theorem newK_len {R : Nat × Nat × Bool} {K : Kn} {off : Nat} {L : List Lab} {kn : Bool} : (newK R K off L kn).length ≤ K.length + L.length := by
  unfold newK
  cases kn
  · exact Nat.le_add_right _ _
  · exact ad_len _ _ L K 0
theorem or_ptr {o : Nat} (h : o ≤ 16383) : bits .or .u16 49152 (o : Int) = ((49152 + o : Nat) : Int) := by
  rw [bits_join .u16 16 (by decide) (fun n h0 h1 => by rw [IntWalk.u16_in _ (by omega)]) 14 _ _ (by decide) (by decide) (by decide) (by omega) (by omega) (by omega)]
  omega
theorem comp_new (w : World) : Calls Tryd.prog 14 #[] w fun e w' => ∃ t, e = .returned (.pointer (some ⟨t, 0, none⟩)) ∧ w.heap.size ≤ t ∧ CTB w' t none [] ∧ Still w w' := by
  go_enter Tryd.func14, Tryd.ntmps14
  go_wp2_with fail
  go_ret
  exact ⟨_, rfl, Nat.le_refl _, ⟨Blk.new _ _ _, .inl ⟨rfl, rfl⟩⟩, Still.new _ _⟩
theorem at_any {w : World} {t : Nat} {mb : Option Nat} {K : Kn} (hT : CTB w t mb K) (s : ByteArray) (hs : s.size ≤ maxLen) :
    Calls Tryd.prog 12 #[.pointer (some ⟨t, 0, none⟩), .string s] w fun e w' => e = .returned (.tuple #[.int .i64 (((lookK K s.data.toList).getD 0 : Nat) : Int), .bool (lookK K s.data.toList).isSome]) ∧ Still w w' := by
  have c0 := hT.blk.cell 0
  simp at c0
  have lk := hT.look hs
  go_enter Tryd.func12, Tryd.ntmps12
  go_wp2_with fail
  go_ret2
  exact ⟨rfl, Only.refl _ _⟩
theorem at_nil (w : World) (s : ByteArray) :
    Calls Tryd.prog 12 #[.pointer none, .string s] w fun e w' => e = .returned (.tuple #[.int .i64 0, .bool false]) ∧ Still w w' := by
  go_enter Tryd.func12, Tryd.ntmps12
  go_wp2_with fail
  go_ret2
  exact ⟨rfl, Only.refl _ _⟩
theorem put_nil (w : World) (A : Option Addr) (n c : Nat) (s : ByteArray) (cp kn : Bool) :
    Calls Tryd.prog 11 #[.pointer none, .slice A n c, .string s, .bool cp, .bool kn] w fun e w' => e = .returned (.tuple #[.slice none 0 0, .int .i64 2]) ∧ Still w w' := by
  go_enter Tryd.func11, Tryd.ntmps11
  go_wp2_with fail
  go_ret2
  exact ⟨rfl, Only.refl _ _⟩
theorem put_no (w : World) (t : Nat) (A : Option Addr) (n c : Nat) (s : ByteArray) (hs : s.size ≤ maxLen) (cp kn : Bool) (hm : mayN s.data.toList = false) :
    Calls Tryd.prog 11 #[.pointer (some ⟨t, 0, none⟩), .slice A n c, .string s, .bool cp, .bool kn] w fun e w' => e = .returned (.tuple #[.slice none 0 0, .int .i64 3]) ∧ Still w w' := by
  go_enter Tryd.func11, Tryd.ntmps11
  go_wp2_with fail
  refine (may_any s hs w).mono ?_
  rintro e w' ⟨rfl, q, rfl⟩
  rw [hm]
  go_wp2_with fail
  go_ret2
  exact ⟨rfl, Still.quiet _ _⟩
theorem own_apart {w w' : World} {t : Nat} {mb : Option Nat} {K : Kn} {base n : Nat} {v : Value} {xs : List Value} (h : CTB w t mb K) (ho : w.ownsRow base 5 1 v n xs) (hg : w.grownBy w' v.ownBlock) : CTB w' t mb K := by
  refine h.only ((Only.refl (fun i => v.ownBlock = some i) w).grown hg (fun k hk => .inl hk)) (own_blk_ne ho h.blk (by decide)) (fun b hb e => ?_)
  rcases h.has with ⟨h1, _⟩ | ⟨b', h1, h2⟩
  · rw [h1] at hb; cases hb
  · rw [h1] at hb
    cases hb
    obtain ⟨D, ⟨es, clock, hbm, _⟩, _⟩ := h2
    rcases ho.2 with ⟨rfl, _⟩ | ⟨g, cap, cur, rfl, _, hgg, _⟩
    · cases e
    · have e' : g = b := by simpa [Value.ownBlock] using e
      subst e'
      rw [hgg] at hbm
      cases hbm
/-- A row of bytes is no part of a table. -/
theorem own_table {w w' : World} {t : Nat} {mb : Option Nat} {K : Kn} {base n : Nat} {v : Value} {xs : List Value} (h : CTB w t mb K) (ho : w.ownsRow base 5 1 v n xs) (o : Only (fun i => i = t ∨ mb = some i) w w') : w'.ownsRow base 5 1 v n xs := by
  refine own_only ho o (fun k hk e => ?_)
  rcases e with e | e
  · subst e
    exact own_blk_ne ho h.blk (by decide) hk
  · rcases h.has with ⟨h1, _⟩ | ⟨b', h1, h2⟩
    · rw [h1] at e; cases e
    · rw [h1] at e
      cases e
      obtain ⟨D, ⟨es, clock, hbm, _⟩, _⟩ := h2
      rcases ho.2 with ⟨rfl, _⟩ | ⟨g, cap, cur, rfl, _, hgg, _⟩
      · cases hk
      · have e' : g = k := by simpa [Value.ownBlock] using hk
        subst e'
        rw [hgg] at hbm
        cases hbm
theorem reads_apart {w w' : World} {B size n : Nat} {A : Option Addr} {xs : List Value} {S : Nat → Prop} (h : Reads w B size A n xs) (ho : Only S w w') (hB : B ≤ w.heap.size) (hS : ∀ ad, A = some ad → ¬ S ad.block) : Reads w' B size A n xs :=
  ⟨h.1, fun hn => by
    obtain ⟨ad, e, hb, hc⟩ := h.2 hn
    exact ⟨ad, e, hb, fun j u hu => (ho.cell (by rw [block_of_add]; omega) (by rw [block_of_add]; exact hS ad e)).trans (hc j u hu)⟩⟩

set_option maxRecDepth 1000000 in
set_option maxHeartbeats 6400000 in
theorem put_ok {w : World} {t : Nat} {mb : Option Nat} {K : Kn} (hT : CTB w t mb K) (A : Option Addr) (n c : Nat) (b : List UInt8) (hr : Reads w w.heap.size 1 A n (bv b)) (hrS : ∀ ad, A = some ad → ¬ (ad.block = t ∨ mb = some ad.block)) (hbl : b.length = n) (hn : n ≤ 10000000) (L : List Lab) (hL : okL L) (s : ByteArray) (hs : s = mk (enc L)) (hK : K.length ≤ 1000000) (hlow : lowK K) (cp kn : Bool) :
    Calls Tryd.prog 11 #[.pointer (some ⟨t, 0, none⟩), .slice A n c, .string s, .bool cp, .bool kn] w fun e w' =>
      ∃ A' c' mb', e = .returned (.tuple #[.slice A' (outP (lgC cp K L) b L).length c', .int .i64 0]) ∧ w'.ownsRow w.heap.size 5 1 (.slice A' (outP (lgC cp K L) b L).length c') (outP (lgC cp K L) b L).length (bv (outP (lgC cp K L) b L)) ∧
        CTB w' t mb' (newK (lgC cp K L) K n L kn) ∧ Only (fun i => i = t ∨ mb = some i) w w' ∧ (mb' = mb ∨ (mb = none ∧ ∃ b, mb' = some b ∧ w.heap.size ≤ b)) := by
  obtain ⟨i0, hi, hz0, hz1, hz2⟩ := info_parts info_u8
  have hsz5 : s.size ≤ 255 := by rw [hs, mk_size, enc_len]; exact hL.2
  have hm : mayN s.data.toList = true := by rw [hs, mk_list]; exact may_enc hL
  have hcap : (n : Int) + (s.size : Int) = ((n + s.size : Nat) : Int) := by omega
  have hen : (enc L).length = s.size := by rw [hs, mk_size]
  obtain ⟨hk1, hk2⟩ := lgC_ok hlow cp L
  obtain ⟨R, hR⟩ : ∃ R, R = lgC cp K L := ⟨_, rfl⟩
  rw [← hR] at hk1 hk2 ⊢
  obtain ⟨keep, o, i⟩ := R
  simp only at hk1 hk2
  have hkl : keep ≤ s.size := by omega
  have HR := Lib.hid hR
  have HO := Lib.hid hk1
  have Hs := Lib.hid hs
  have Hbl := Lib.hid hbl
  have HhL := Lib.hid hL
  obtain ⟨X, hX⟩ : ∃ X, X = (enc L).take keep := ⟨_, rfl⟩
  have Hxl : Hid (X.length = keep) := Lib.hid (by rw [hX, List.length_take]; omega)
  have HXs := Lib.hid hX
  clear hR hk1 hk2 hs hbl hX hen hcap
  go_enter Tryd.func11, Tryd.ntmps11
  go_wp2_with fail
  refine (may_any s (by unfold maxLen; omega) w).mono ?_
  rintro e w1 ⟨rfl, q, rfl⟩
  rw [hm]
  have h1 := Still.quiet w q
  have hT1 := hT.still h1
  generalize w.drewN q = w1 at *
  have hw1 := h1.size
  cases cp
  · have hR0 := HR.out
    unfold lgC at hR0
    rw [if_neg (by decide)] at hR0
    injection hR0 with e1 e2
    injection e2 with e2 e3
    subst e2 e3
    obtain rfl : keep = s.size := by rw [e1, ← mk_size (enc L), ← Hs.out]
    clear e1
    cases kn
    · have hTk := hT1
      have hok := Only.of_still h1 (fun i => i = t ∨ mb = some i)
      obtain ⟨wk, hwk⟩ : ∃ wk, wk = w1 := ⟨_, rfl⟩
      rw [← hwk] at hTk hok ⊢
      have HMB : Hid (∃ mbk, (mbk = mb ∨ (mb = none ∧ ∃ b, mbk = some b ∧ w.heap.size ≤ b)) ∧ mbk = mb) := Lib.hid ⟨mb, .inl rfl, rfl⟩
      obtain ⟨mbk, HMBk, hmbk⟩ := HMB.out
      rw [← hmbk] at hTk
      have HMB := Lib.hid HMBk
      clear HMBk hmbk hwk
      have hwk := hok.size
      have hex : s.extract 0 s.size = mk X := by
        have := extract_str s 0 s.size
        rw [Nat.zero_add, List.drop_zero] at this
        have hsl : s.data.toList = enc L := by rw [Hs.out, mk_list]
        rw [this, hsl, HXs.out]
      go_wp2_with (at_make; refine wpList_make_own _ rfl _ _ 33 rfl w.heap.size 5 i0 (.int .u8 0) 1 Tryd.underlying33 hi hz0 hz1 _ _ _ (n + s.size) rfl rfl (by push_cast; rfl) (by rw [hz2]; omega) (by unfold maxLen; omega) hwk ?_)
      intro w5 hown hgrow
      have ho5 := hok.grown hgrow (fun k hk => by cases hk)
      have hT5 := hTk.only ((Only.refl (fun _ => False) wk).grown hgrow (fun k hk => by cases hk)) (fun h => h) (fun _ _ h => h)
      have hr5 := reads_apart hr ho5 (Nat.le_refl _) hrS
      have hr5' := hr5.more (Nat.le_trans hwk hgrow.size)
      have hw5 := ho5.size
      clear hgrow hok hTk hr5
      go_wp2_with (at_builtin; refine wpList_append_any _ rfl (.tmp 44) (.tmp 45) 33 rfl w.heap.size 5 i0 (.int .u8 0) 1 1 Tryd.underlying33 hi hz0 hz1 hz2 rfl (by decide) _ _ _ rfl hown _ A n c (bv b) rfl hr5' ?q1 ?q2 ?q3 ?q4 ?_)
      case q1 => exact bv_one b
      case q2 => unfold maxLen; omega
      case q3 => omega
      case q4 => exact hw5
      intro v6 w6 hown6 hgrow6 hblk6
      obtain ⟨A6, c6, hv⟩ := own_shape hown6
      subst hv
      have hog6 : Only (fun i => w.heap.size ≤ i) w5 w6 := (Only.refl _ _).grown hgrow6 (fun k hk => .inl (hown.lt k hk).1)
      have ho6 := ho5.grown hgrow6 (fun k hk => .inr (hown.lt k hk).1)
      have hT6 := own_apart hT5 hown hgrow6
      have hw6 := ho6.size
      clear hog6 hgrow6 hblk6 hown hT5 ho5 hr5'
      have hXl := Hxl.out
      go_wp2_with (at_builtin; refine Lib.wpList_append_own_string _ rfl (.tmp 47) (.tmp 50) 33 9 rfl w.heap.size 5 i0 Tryd.underlying33 Tryd.underlying9 hi hz0 hz1 hz2 _ _ _ rfl hown6 (mk X) rfl ?r1 ?r2 ?r3 ?_)
      case r1 => first | (unfold maxLen; omega) | (rw [mk_size]; unfold maxLen; omega)
      case r2 => first | omega | (rw [mk_size]; omega)
      case r3 => exact hw6
      intro v7 w7 hown7 hgrow7 _
      obtain ⟨A7, c7, hv⟩ := own_shape hown7
      subst hv
      have ho7 := ho6.grown hgrow7 (fun k hk => .inr (hown6.lt k hk).1)
      have hT7 := own_apart hT6 hown6 hgrow7
      have hrow : bv b ++ Lib.strCells (mk X) = bv (b ++ X) := by rw [bv_append]; rfl
      have hlen7 : 0 + n + (mk X).size = n + X.length := by rw [mk_size]; omega
      have hown8 : w7.ownsRow w.heap.size 5 1 (.slice A7 (n + X.length) c7) (n + X.length) (bv (b ++ X)) := by
        rw [← hrow]
        simpa [mk_size] using hown7
      clear hgrow7 hown7 hrow hown6 hT6 ho6 hlen7 hex
      go_wp2_with fail
      go_ret2
      have hfin : outP (s.size, 0, false) b L = b ++ X := by
        unfold outP
        rw [← HXs.out]
        exact List.append_nil _
      have hfl : (outP (s.size, 0, false) b L).length = n + s.size := by rw [hfin, List.length_append, Hbl.out, hXl]
      rw [hXl] at hown8
      refine ⟨A7, c7, mbk, by rw [hfl, ← hXl]; rfl, ?_, hT7, ho7, HMB.out⟩
      rw [hfl, hfin]
      exact hown8
    · go_wp2_with fail
      refine (add_any hT1 L hL s Hs.out s.size n (by omega) (by omega) hK).mono ?_
      rintro e w3 ⟨rfl, mbk, hTk, ho3, hmb3⟩
      have hok : Only (fun i => i = t ∨ mb = some i) w w3 := (Only.of_still h1 _).trans ho3 (fun i _ e => e)
      have HMB : Hid (mbk = mb ∨ (mb = none ∧ ∃ b, mbk = some b ∧ w.heap.size ≤ b)) := Lib.hid (hmb3.imp id (fun ⟨a, b, c, d⟩ => ⟨a, b, c, by omega⟩))
      obtain ⟨wk, hwk⟩ : ∃ wk, wk = w3 := ⟨_, rfl⟩
      rw [← hwk] at hTk hok ⊢
      clear ho3 hmb3 hwk
      have hwk := hok.size
      have hex : s.extract 0 s.size = mk X := by
        have := extract_str s 0 s.size
        rw [Nat.zero_add, List.drop_zero] at this
        have hsl : s.data.toList = enc L := by rw [Hs.out, mk_list]
        rw [this, hsl, HXs.out]
      go_wp2_with (at_make; refine wpList_make_own _ rfl _ _ 33 rfl w.heap.size 5 i0 (.int .u8 0) 1 Tryd.underlying33 hi hz0 hz1 _ _ _ (n + s.size) rfl rfl (by push_cast; rfl) (by rw [hz2]; omega) (by unfold maxLen; omega) hwk ?_)
      intro w5 hown hgrow
      have ho5 := hok.grown hgrow (fun k hk => by cases hk)
      have hT5 := hTk.only ((Only.refl (fun _ => False) wk).grown hgrow (fun k hk => by cases hk)) (fun h => h) (fun _ _ h => h)
      have hr5 := reads_apart hr ho5 (Nat.le_refl _) hrS
      have hr5' := hr5.more (Nat.le_trans hwk hgrow.size)
      have hw5 := ho5.size
      clear hgrow hok hTk hr5
      go_wp2_with (at_builtin; refine wpList_append_any _ rfl (.tmp 44) (.tmp 45) 33 rfl w.heap.size 5 i0 (.int .u8 0) 1 1 Tryd.underlying33 hi hz0 hz1 hz2 rfl (by decide) _ _ _ rfl hown _ A n c (bv b) rfl hr5' ?q1 ?q2 ?q3 ?q4 ?_)
      case q1 => exact bv_one b
      case q2 => unfold maxLen; omega
      case q3 => omega
      case q4 => exact hw5
      intro v6 w6 hown6 hgrow6 hblk6
      obtain ⟨A6, c6, hv⟩ := own_shape hown6
      subst hv
      have hog6 : Only (fun i => w.heap.size ≤ i) w5 w6 := (Only.refl _ _).grown hgrow6 (fun k hk => .inl (hown.lt k hk).1)
      have ho6 := ho5.grown hgrow6 (fun k hk => .inr (hown.lt k hk).1)
      have hT6 := own_apart hT5 hown hgrow6
      have hw6 := ho6.size
      clear hog6 hgrow6 hblk6 hown hT5 ho5 hr5'
      have hXl := Hxl.out
      go_wp2_with (at_builtin; refine Lib.wpList_append_own_string _ rfl (.tmp 47) (.tmp 50) 33 9 rfl w.heap.size 5 i0 Tryd.underlying33 Tryd.underlying9 hi hz0 hz1 hz2 _ _ _ rfl hown6 (mk X) rfl ?r1 ?r2 ?r3 ?_)
      case r1 => first | (unfold maxLen; omega) | (rw [mk_size]; unfold maxLen; omega)
      case r2 => first | omega | (rw [mk_size]; omega)
      case r3 => exact hw6
      intro v7 w7 hown7 hgrow7 _
      obtain ⟨A7, c7, hv⟩ := own_shape hown7
      subst hv
      have ho7 := ho6.grown hgrow7 (fun k hk => .inr (hown6.lt k hk).1)
      have hT7 := own_apart hT6 hown6 hgrow7
      have hrow : bv b ++ Lib.strCells (mk X) = bv (b ++ X) := by rw [bv_append]; rfl
      have hlen7 : 0 + n + (mk X).size = n + X.length := by rw [mk_size]; omega
      have hown8 : w7.ownsRow w.heap.size 5 1 (.slice A7 (n + X.length) c7) (n + X.length) (bv (b ++ X)) := by
        rw [← hrow]
        simpa [mk_size] using hown7
      clear hgrow7 hown7 hrow hown6 hT6 ho6 hlen7 hex
      go_wp2_with fail
      go_ret2
      have hfin : outP (s.size, 0, false) b L = b ++ X := by
        unfold outP
        rw [← HXs.out]
        exact List.append_nil _
      have hfl : (outP (s.size, 0, false) b L).length = n + s.size := by rw [hfin, List.length_append, Hbl.out, hXl]
      rw [hXl] at hown8
      refine ⟨A7, c7, mbk, by rw [hfl, ← hXl]; rfl, ?_, hT7, ho7, HMB.out⟩
      rw [hfl, hfin]
      exact hown8
  · have hR0 := HR.out
    unfold lgC at hR0
    rw [if_pos rfl] at hR0
    go_wp2_with fail
    refine (longest_any hT1 L hL s Hs.out).mono ?_
    rintro e w2 ⟨rfl, h2⟩
    rw [← hR0]
    have hT2 := hT1.still h2
    have h12 := h1.still h2
    have hw2 := h12.size
    clear hR0
    cases kn
    · have hok := Only.of_still h12 (fun i => i = t ∨ mb = some i)
      obtain ⟨mbk, HMBk, hmbk⟩ : ∃ mbk, (mbk = mb ∨ (mb = none ∧ ∃ b, mbk = some b ∧ w.heap.size ≤ b)) ∧ mbk = mb := ⟨mb, .inl rfl, rfl⟩
      rw [← hmbk] at hT2
      have HMB := Lib.hid HMBk
      have hTk := hT2
      obtain ⟨wk, hwk⟩ : ∃ wk, wk = w2 := ⟨_, rfl⟩
      rw [← hwk] at hTk hok ⊢
      clear HMBk hmbk hwk
      cases i
      · skip
        have hwk := hok.size
        have hex : s.extract 0 keep = mk X := by
          have := extract_str s 0 keep
          rw [Nat.zero_add, List.drop_zero] at this
          have hsl : s.data.toList = enc L := by rw [Hs.out, mk_list]
          rw [this, hsl, HXs.out]
        go_wp2_with (at_make; refine wpList_make_own _ rfl _ _ 33 rfl w.heap.size 5 i0 (.int .u8 0) 1 Tryd.underlying33 hi hz0 hz1 _ _ _ (n + s.size) rfl rfl (by push_cast; rfl) (by rw [hz2]; omega) (by unfold maxLen; omega) hwk ?_)
        intro w5 hown hgrow
        have ho5 := hok.grown hgrow (fun k hk => by cases hk)
        have hT5 := hTk.only ((Only.refl (fun _ => False) wk).grown hgrow (fun k hk => by cases hk)) (fun h => h) (fun _ _ h => h)
        have hr5 := reads_apart hr ho5 (Nat.le_refl _) hrS
        have hr5' := hr5.more (Nat.le_trans hwk hgrow.size)
        have hw5 := ho5.size
        clear hgrow hok hTk hr5
        go_wp2_with (at_builtin; refine wpList_append_any _ rfl (.tmp 44) (.tmp 45) 33 rfl w.heap.size 5 i0 (.int .u8 0) 1 1 Tryd.underlying33 hi hz0 hz1 hz2 rfl (by decide) _ _ _ rfl hown _ A n c (bv b) rfl hr5' ?q1 ?q2 ?q3 ?q4 ?_)
        case q1 => exact bv_one b
        case q2 => unfold maxLen; omega
        case q3 => omega
        case q4 => exact hw5
        intro v6 w6 hown6 hgrow6 hblk6
        obtain ⟨A6, c6, hv⟩ := own_shape hown6
        subst hv
        have hog6 : Only (fun i => w.heap.size ≤ i) w5 w6 := (Only.refl _ _).grown hgrow6 (fun k hk => .inl (hown.lt k hk).1)
        have ho6 := ho5.grown hgrow6 (fun k hk => .inr (hown.lt k hk).1)
        have hT6 := own_apart hT5 hown hgrow6
        have hw6 := ho6.size
        clear hog6 hgrow6 hblk6 hown hT5 ho5 hr5'
        have hXl := Hxl.out
        go_wp2_with (at_builtin; refine Lib.wpList_append_own_string _ rfl (.tmp 47) (.tmp 50) 33 9 rfl w.heap.size 5 i0 Tryd.underlying33 Tryd.underlying9 hi hz0 hz1 hz2 _ _ _ rfl hown6 (mk X) rfl ?r1 ?r2 ?r3 ?_)
        case r1 => first | (unfold maxLen; omega) | (rw [mk_size]; unfold maxLen; omega)
        case r2 => first | omega | (rw [mk_size]; omega)
        case r3 => exact hw6
        intro v7 w7 hown7 hgrow7 _
        obtain ⟨A7, c7, hv⟩ := own_shape hown7
        subst hv
        have ho7 := ho6.grown hgrow7 (fun k hk => .inr (hown6.lt k hk).1)
        have hT7 := own_apart hT6 hown6 hgrow7
        have hrow : bv b ++ Lib.strCells (mk X) = bv (b ++ X) := by rw [bv_append]; rfl
        have hlen7 : 0 + n + (mk X).size = n + X.length := by rw [mk_size]; omega
        have hown8 : w7.ownsRow w.heap.size 5 1 (.slice A7 (n + X.length) c7) (n + X.length) (bv (b ++ X)) := by
          rw [← hrow]
          simpa [mk_size] using hown7
        clear hgrow7 hown7 hrow hown6 hT6 ho6 hlen7 hex
        go_wp2_with fail
        go_ret2
        have hfin : outP (keep, o, false) b L = b ++ X := by
          unfold outP
          rw [← HXs.out]
          exact List.append_nil _
        have hfl : (outP (keep, o, false) b L).length = n + keep := by rw [hfin, List.length_append, Hbl.out, hXl]
        rw [hXl] at hown8
        refine ⟨A7, c7, mbk, by rw [hfl, ← hXl]; rfl, ?_, hT7, ho7, HMB.out⟩
        rw [hfl, hfin]
        exact hown8
      · skip
        have hwk := hok.size
        have hex : s.extract 0 keep = mk X := by
          have := extract_str s 0 keep
          rw [Nat.zero_add, List.drop_zero] at this
          have hsl : s.data.toList = enc L := by rw [Hs.out, mk_list]
          rw [this, hsl, HXs.out]
        go_wp2_with (at_make; refine wpList_make_own _ rfl _ _ 33 rfl w.heap.size 5 i0 (.int .u8 0) 1 Tryd.underlying33 hi hz0 hz1 _ _ _ (n + s.size) rfl rfl (by push_cast; rfl) (by rw [hz2]; omega) (by unfold maxLen; omega) hwk ?_)
        intro w5 hown hgrow
        have ho5 := hok.grown hgrow (fun k hk => by cases hk)
        have hT5 := hTk.only ((Only.refl (fun _ => False) wk).grown hgrow (fun k hk => by cases hk)) (fun h => h) (fun _ _ h => h)
        have hr5 := reads_apart hr ho5 (Nat.le_refl _) hrS
        have hr5' := hr5.more (Nat.le_trans hwk hgrow.size)
        have hw5 := ho5.size
        clear hgrow hok hTk hr5
        go_wp2_with (at_builtin; refine wpList_append_any _ rfl (.tmp 44) (.tmp 45) 33 rfl w.heap.size 5 i0 (.int .u8 0) 1 1 Tryd.underlying33 hi hz0 hz1 hz2 rfl (by decide) _ _ _ rfl hown _ A n c (bv b) rfl hr5' ?q1 ?q2 ?q3 ?q4 ?_)
        case q1 => exact bv_one b
        case q2 => unfold maxLen; omega
        case q3 => omega
        case q4 => exact hw5
        intro v6 w6 hown6 hgrow6 hblk6
        obtain ⟨A6, c6, hv⟩ := own_shape hown6
        subst hv
        have hog6 : Only (fun i => w.heap.size ≤ i) w5 w6 := (Only.refl _ _).grown hgrow6 (fun k hk => .inl (hown.lt k hk).1)
        have ho6 := ho5.grown hgrow6 (fun k hk => .inr (hown.lt k hk).1)
        have hT6 := own_apart hT5 hown hgrow6
        have hw6 := ho6.size
        clear hog6 hgrow6 hblk6 hown hT5 ho5 hr5'
        have hXl := Hxl.out
        go_wp2_with (at_builtin; refine Lib.wpList_append_own_string _ rfl (.tmp 47) (.tmp 50) 33 9 rfl w.heap.size 5 i0 Tryd.underlying33 Tryd.underlying9 hi hz0 hz1 hz2 _ _ _ rfl hown6 (mk X) rfl ?r1 ?r2 ?r3 ?_)
        case r1 => first | (unfold maxLen; omega) | (rw [mk_size]; unfold maxLen; omega)
        case r2 => first | omega | (rw [mk_size]; omega)
        case r3 => exact hw6
        intro v7 w7 hown7 hgrow7 _
        obtain ⟨A7, c7, hv⟩ := own_shape hown7
        subst hv
        have ho7 := ho6.grown hgrow7 (fun k hk => .inr (hown6.lt k hk).1)
        have hT7 := own_apart hT6 hown6 hgrow7
        have hrow : bv b ++ Lib.strCells (mk X) = bv (b ++ X) := by rw [bv_append]; rfl
        have hlen7 : 0 + n + (mk X).size = n + X.length := by rw [mk_size]; omega
        have hown8 : w7.ownsRow w.heap.size 5 1 (.slice A7 (n + X.length) c7) (n + X.length) (bv (b ++ X)) := by
          rw [← hrow]
          simpa [mk_size] using hown7
        clear hgrow7 hown7 hrow hown6 hT6 ho6 hlen7 hex
        have orp := or_ptr (o := o) HO.out
        have o16 : (o : Int) ≤ 16383 := by have := HO.out; omega
        have u16o : IntKind.u16.wrap (o : Int) = (o : Int) := IntWalk.u16_in _ (by omega)
        go_wp2_with fail
        refine (Put2_any A7 (n + X.length) c7 (b ++ X) w7 (Reads.of_own hown8) (by omega) (49152 + o) (by omega)).mono ?_
        rintro e w8 ⟨g, rfl, hg, hown9, h8⟩
        go_wp2_with fail
        go_ret2
        have hfin : outP (keep, o, true) b L = (b ++ X) ++ beB 2 (49152 + o) := by
          unfold outP
          rw [← HXs.out]; rfl
        have hfl : (outP (keep, o, true) b L).length = n + keep + 2 := by rw [hfin, List.length_append, List.length_append, beB_length, Hbl.out, hXl]
        rw [hXl] at hown9
        refine ⟨some ⟨g, 0, none⟩, n + keep + 2, mbk, by rw [hfl]; rfl, ?_, hT7.still h8, ho7.still h8, HMB.out⟩
        rw [hfl, hfin]
        exact own_base hown9 ho7.size
    · go_wp2_with fail
      refine (add_any hT2 L hL s Hs.out keep n (by omega) (by omega) hK).mono ?_
      rintro e w3 ⟨rfl, mbk, hTk, ho3, hmb3⟩
      have hok : Only (fun i => i = t ∨ mb = some i) w w3 := (Only.of_still h12 _).trans ho3 (fun i _ e => e)
      have HMB : Hid (mbk = mb ∨ (mb = none ∧ ∃ b, mbk = some b ∧ w.heap.size ≤ b)) := Lib.hid (hmb3.imp id (fun ⟨a, b, c, d⟩ => ⟨a, b, c, by omega⟩))
      obtain ⟨wk, hwk⟩ : ∃ wk, wk = w3 := ⟨_, rfl⟩
      rw [← hwk] at hTk hok ⊢
      clear ho3 hmb3 hwk
      cases i
      · skip
        have hwk := hok.size
        have hex : s.extract 0 keep = mk X := by
          have := extract_str s 0 keep
          rw [Nat.zero_add, List.drop_zero] at this
          have hsl : s.data.toList = enc L := by rw [Hs.out, mk_list]
          rw [this, hsl, HXs.out]
        go_wp2_with (at_make; refine wpList_make_own _ rfl _ _ 33 rfl w.heap.size 5 i0 (.int .u8 0) 1 Tryd.underlying33 hi hz0 hz1 _ _ _ (n + s.size) rfl rfl (by push_cast; rfl) (by rw [hz2]; omega) (by unfold maxLen; omega) hwk ?_)
        intro w5 hown hgrow
        have ho5 := hok.grown hgrow (fun k hk => by cases hk)
        have hT5 := hTk.only ((Only.refl (fun _ => False) wk).grown hgrow (fun k hk => by cases hk)) (fun h => h) (fun _ _ h => h)
        have hr5 := reads_apart hr ho5 (Nat.le_refl _) hrS
        have hr5' := hr5.more (Nat.le_trans hwk hgrow.size)
        have hw5 := ho5.size
        clear hgrow hok hTk hr5
        go_wp2_with (at_builtin; refine wpList_append_any _ rfl (.tmp 44) (.tmp 45) 33 rfl w.heap.size 5 i0 (.int .u8 0) 1 1 Tryd.underlying33 hi hz0 hz1 hz2 rfl (by decide) _ _ _ rfl hown _ A n c (bv b) rfl hr5' ?q1 ?q2 ?q3 ?q4 ?_)
        case q1 => exact bv_one b
        case q2 => unfold maxLen; omega
        case q3 => omega
        case q4 => exact hw5
        intro v6 w6 hown6 hgrow6 hblk6
        obtain ⟨A6, c6, hv⟩ := own_shape hown6
        subst hv
        have hog6 : Only (fun i => w.heap.size ≤ i) w5 w6 := (Only.refl _ _).grown hgrow6 (fun k hk => .inl (hown.lt k hk).1)
        have ho6 := ho5.grown hgrow6 (fun k hk => .inr (hown.lt k hk).1)
        have hT6 := own_apart hT5 hown hgrow6
        have hw6 := ho6.size
        clear hog6 hgrow6 hblk6 hown hT5 ho5 hr5'
        have hXl := Hxl.out
        go_wp2_with (at_builtin; refine Lib.wpList_append_own_string _ rfl (.tmp 47) (.tmp 50) 33 9 rfl w.heap.size 5 i0 Tryd.underlying33 Tryd.underlying9 hi hz0 hz1 hz2 _ _ _ rfl hown6 (mk X) rfl ?r1 ?r2 ?r3 ?_)
        case r1 => first | (unfold maxLen; omega) | (rw [mk_size]; unfold maxLen; omega)
        case r2 => first | omega | (rw [mk_size]; omega)
        case r3 => exact hw6
        intro v7 w7 hown7 hgrow7 _
        obtain ⟨A7, c7, hv⟩ := own_shape hown7
        subst hv
        have ho7 := ho6.grown hgrow7 (fun k hk => .inr (hown6.lt k hk).1)
        have hT7 := own_apart hT6 hown6 hgrow7
        have hrow : bv b ++ Lib.strCells (mk X) = bv (b ++ X) := by rw [bv_append]; rfl
        have hlen7 : 0 + n + (mk X).size = n + X.length := by rw [mk_size]; omega
        have hown8 : w7.ownsRow w.heap.size 5 1 (.slice A7 (n + X.length) c7) (n + X.length) (bv (b ++ X)) := by
          rw [← hrow]
          simpa [mk_size] using hown7
        clear hgrow7 hown7 hrow hown6 hT6 ho6 hlen7 hex
        go_wp2_with fail
        go_ret2
        have hfin : outP (keep, o, false) b L = b ++ X := by
          unfold outP
          rw [← HXs.out]
          exact List.append_nil _
        have hfl : (outP (keep, o, false) b L).length = n + keep := by rw [hfin, List.length_append, Hbl.out, hXl]
        rw [hXl] at hown8
        refine ⟨A7, c7, mbk, by rw [hfl, ← hXl]; rfl, ?_, hT7, ho7, HMB.out⟩
        rw [hfl, hfin]
        exact hown8
      · skip
        have hwk := hok.size
        have hex : s.extract 0 keep = mk X := by
          have := extract_str s 0 keep
          rw [Nat.zero_add, List.drop_zero] at this
          have hsl : s.data.toList = enc L := by rw [Hs.out, mk_list]
          rw [this, hsl, HXs.out]
        go_wp2_with (at_make; refine wpList_make_own _ rfl _ _ 33 rfl w.heap.size 5 i0 (.int .u8 0) 1 Tryd.underlying33 hi hz0 hz1 _ _ _ (n + s.size) rfl rfl (by push_cast; rfl) (by rw [hz2]; omega) (by unfold maxLen; omega) hwk ?_)
        intro w5 hown hgrow
        have ho5 := hok.grown hgrow (fun k hk => by cases hk)
        have hT5 := hTk.only ((Only.refl (fun _ => False) wk).grown hgrow (fun k hk => by cases hk)) (fun h => h) (fun _ _ h => h)
        have hr5 := reads_apart hr ho5 (Nat.le_refl _) hrS
        have hr5' := hr5.more (Nat.le_trans hwk hgrow.size)
        have hw5 := ho5.size
        clear hgrow hok hTk hr5
        go_wp2_with (at_builtin; refine wpList_append_any _ rfl (.tmp 44) (.tmp 45) 33 rfl w.heap.size 5 i0 (.int .u8 0) 1 1 Tryd.underlying33 hi hz0 hz1 hz2 rfl (by decide) _ _ _ rfl hown _ A n c (bv b) rfl hr5' ?q1 ?q2 ?q3 ?q4 ?_)
        case q1 => exact bv_one b
        case q2 => unfold maxLen; omega
        case q3 => omega
        case q4 => exact hw5
        intro v6 w6 hown6 hgrow6 hblk6
        obtain ⟨A6, c6, hv⟩ := own_shape hown6
        subst hv
        have hog6 : Only (fun i => w.heap.size ≤ i) w5 w6 := (Only.refl _ _).grown hgrow6 (fun k hk => .inl (hown.lt k hk).1)
        have ho6 := ho5.grown hgrow6 (fun k hk => .inr (hown.lt k hk).1)
        have hT6 := own_apart hT5 hown hgrow6
        have hw6 := ho6.size
        clear hog6 hgrow6 hblk6 hown hT5 ho5 hr5'
        have hXl := Hxl.out
        go_wp2_with (at_builtin; refine Lib.wpList_append_own_string _ rfl (.tmp 47) (.tmp 50) 33 9 rfl w.heap.size 5 i0 Tryd.underlying33 Tryd.underlying9 hi hz0 hz1 hz2 _ _ _ rfl hown6 (mk X) rfl ?r1 ?r2 ?r3 ?_)
        case r1 => first | (unfold maxLen; omega) | (rw [mk_size]; unfold maxLen; omega)
        case r2 => first | omega | (rw [mk_size]; omega)
        case r3 => exact hw6
        intro v7 w7 hown7 hgrow7 _
        obtain ⟨A7, c7, hv⟩ := own_shape hown7
        subst hv
        have ho7 := ho6.grown hgrow7 (fun k hk => .inr (hown6.lt k hk).1)
        have hT7 := own_apart hT6 hown6 hgrow7
        have hrow : bv b ++ Lib.strCells (mk X) = bv (b ++ X) := by rw [bv_append]; rfl
        have hlen7 : 0 + n + (mk X).size = n + X.length := by rw [mk_size]; omega
        have hown8 : w7.ownsRow w.heap.size 5 1 (.slice A7 (n + X.length) c7) (n + X.length) (bv (b ++ X)) := by
          rw [← hrow]
          simpa [mk_size] using hown7
        clear hgrow7 hown7 hrow hown6 hT6 ho6 hlen7 hex
        have orp := or_ptr (o := o) HO.out
        have o16 : (o : Int) ≤ 16383 := by have := HO.out; omega
        have u16o : IntKind.u16.wrap (o : Int) = (o : Int) := IntWalk.u16_in _ (by omega)
        go_wp2_with fail
        refine (Put2_any A7 (n + X.length) c7 (b ++ X) w7 (Reads.of_own hown8) (by omega) (49152 + o) (by omega)).mono ?_
        rintro e w8 ⟨g, rfl, hg, hown9, h8⟩
        go_wp2_with fail
        go_ret2
        have hfin : outP (keep, o, true) b L = (b ++ X) ++ beB 2 (49152 + o) := by
          unfold outP
          rw [← HXs.out]; rfl
        have hfl : (outP (keep, o, true) b L).length = n + keep + 2 := by rw [hfin, List.length_append, List.length_append, beB_length, Hbl.out, hXl]
        rw [hXl] at hown9
        refine ⟨some ⟨g, 0, none⟩, n + keep + 2, mbk, by rw [hfl]; rfl, ?_, hT7.still h8, ho7.still h8, HMB.out⟩
        rw [hfl, hfin]
        exact own_base hown9 ho7.size
end Go.Proofs.YtfhnfjfjmjopeaaDoor
