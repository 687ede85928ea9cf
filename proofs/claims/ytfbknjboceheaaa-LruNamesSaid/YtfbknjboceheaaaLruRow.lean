/-
  Package lru: Row, Len.
-/
import Derived.Test.YtfbknjboceheaaaLruDrop
import Derived.Test.YtfbknjboceheaaaOpen
namespace Go.Proofs.Ytfbknjboceheaaa
open Go.RowKit
set_option linter.unusedVariables false

theorem reads_made (w : World) (e : TypeId) (kd : IntKind) (xs : List Int) (n : Nat) (hn : xs.length = n) : Reads (w.alloc (.cells (xs.map (Value.int kd)).toArray e)) (w.heap.size + 1) 1 (some ⟨w.heap.size, 0, none⟩) n (xs.map (.int kd)) := by
  refine ⟨by simp [hn], fun _ => ⟨_, rfl, by simp, fun j u hu => ?_⟩⟩
  have hadd : (⟨w.heap.size, 0, none⟩ : Addr).add j = ⟨w.heap.size, j, none⟩ := by unfold Addr.add; split <;> simp_all
  rw [hadd, (Blk.new w e _).cell j]
  simpa using hu
theorem nodup_le : ∀ (n : Nat) (l : List Nat), l.Nodup → (∀ x ∈ l, x < n) → l.length ≤ n
  | 0, l, _, h => by
    cases l with
    | nil => simp
    | cons a l => have := h a (by simp); omega
  | n + 1, l, hn, h => by
    by_cases hm : n ∈ l
    · have h1 := nodup_le n (l.erase n) (hn.erase n) (fun x hx => by
        have := (List.Nodup.mem_erase_iff hn).1 hx
        have := h x this.2
        omega)
      rw [List.length_erase_of_mem hm] at h1
      omega
    · have h1 := nodup_le n l hn (fun x hx => by
        have := h x hx
        have : x ≠ n := fun e => hm (e ▸ hx)
        omega)
      omega
def slLen : Value → Nat
  | .slice _ n _ => n
  | _ => 0
def toInts (L : List Nat) : List Int := L.map fun (q : Nat) => (q : Int) - 1
theorem info_int : (Try.prog.info? 3).map (fun i => (i.zero, i.size, i.bytes)) = some (some (.int .i64 0), 1, 8) := by kernel_rfl
theorem Lst.still {w w' : World} {g n : Nat} {L : List Nat} (h : Lst w g n L) (k : Still w w') : Lst w' g n L := Blk.only h k (fun h => h)

set_option maxRecDepth 1000000 in
set_option maxHeartbeats 6400000 in
theorem Row_any {w : World} {g n : Nat} {L : List Nat} (hb : Lst w g n L) (hl : LL n L) :
    Calls Try.prog 17 #[.pointer (some ⟨g, 0, none⟩)] w fun e w' => ∃ A c, e = .returned (.slice A L.length c) ∧ w'.ownsRow w.heap.size 3 1 (.slice A L.length c) L.length ((toInts L).map (.int .i64)) ∧ Still w w' := by
  have c0 : w.cell? ⟨g, 1, none⟩ = some (.int .i64 (L.headD 0)) := by
    have := hb.cf hl.mx (q := 0) (by omega)
    rw [sc_self] at this
    exact this
  obtain ⟨i0, hi, hz0, hz1, hz2⟩ := info_parts info_int
  have hlen : L.length ≤ 256 := by
    have h0 : (0 :: L).Nodup := List.nodup_cons.2 ⟨hl.row.nz, hl.row.nd⟩
    have h1 := nodup_le 257 (0 :: L) h0 (fun x hx => by
      rcases List.mem_cons.1 hx with rfl | hx
      · omega
      · have := hl.le x hx; have := hl.mx; omega)
    simp at h1
    omega
  obtain ⟨p0, hp0⟩ : ∃ p0, p0 = L.headD 0 := ⟨_, rfl⟩
  rw [← hp0] at c0
  have Hp0 := Lib.hid hp0
  clear hp0
  go_enter Try.func17, Try.ntmps17
  go_wp2_with fail
  go_loopw [3, 4] (fun v i wr => ∃ (D R : List Nat) (p : Nat), Hid (D ++ R = L) ∧ i = .int .i64 p ∧ Hid (p = R.headD 0) ∧ wr.ownsRow w.heap.size 3 1 v D.length ((toInts D).map (.int .i64)) ∧ Hid (Still w wr)) (fun v _ _ => L.length - slLen v)
  case atStart => exact ⟨[], L, p0, Lib.hid rfl, rfl, Hp0, World.ownsRow_nil _ _ _ _, Lib.hid (Only.refl _ _)⟩
  case round =>
    obtain ⟨D, R, p, hDR, rfl, hp, hown, hst⟩ := hrel
    have hbr := hb.still hst.out
    obtain ⟨A, c, rfl⟩ := own_shape hown
    have hLen : D.length + R.length = L.length := by rw [← hDR.out, List.length_append]
    cases R with
    | nil =>
      have hpz : p = 0 := hp.out
      subst hpz
      go_wp2_with fail
      go_ret
      have hDL : D = L := by have := hDR.out; simpa using this
      subst hDL
      exact ⟨A, c, rfl, hown, hst.out⟩
    | cons b R =>
      have hpb : p = b := hp.out
      subst hpb
      have hmem : p ∈ L := by rw [← hDR.out]; simp
      have hple := hl.le p hmem
      have hmx := hl.mx
      have hpne : p ≠ 0 := fun e => hl.row.nz (by rw [← e]; exact hmem)
      have hpi : ¬ (p : Int) = 0 := by omega
      have hpi2 : (p : Int) < 257 := by omega
      have hnext : sc 0 L p = R.headD 0 := by
        have h1 : Row 0 (D ++ p :: R) := by rw [hDR.out]; exact hl.row
        have := sc_at h1
        rw [hDR.out] at this
        exact this
      have hDl : D.length < L.length := by simp at hLen; omega
      have hsz := hst.out.size
      have hp1 := hown.alloc (.cells #[.int .i64 ((p : Int) - 1)] 3)
      have hrd := reads_made wr 3 .i64 [((p : Int) - 1)] 1 rfl
      go_wp2_with (at_builtin; refine wpList_append_any _ rfl (.tmp 20) (.tmp 23) 36 rfl w.heap.size 3 i0 (.int .i64 0) 1 8 Try.underlying36 hi hz0 hz1 hz2 rfl (by decide) _ _ _ rfl hp1 (wr.heap.size + 1) (some ⟨wr.heap.size, 0, none⟩) 1 1 _ rfl hrd ?c1 ?c2 ?c3 ?c4 ?_)
      case c1 => intro u hu; simp at hu; subst hu; rfl
      case c2 => unfold maxLen; omega
      case c3 => omega
      case c4 => simp; omega
      intro v' w' hown' hgrow hblk
      have hst' : Still w w' := (hst.out.alloc _).grown hgrow (fun k hk => .inr (hown.lt k hk).1)
      have hb' := (hb.still hst').cf hmx (q := p) hple
      rw [hnext] at hb'
      obtain ⟨q, hq⟩ : ∃ q, q = R.headD 0 := ⟨_, rfl⟩
      rw [← hq] at hb'
      have Hq := Lib.hid hq
      obtain ⟨A', c', hv⟩ := own_shape hown'
      subst hv
      clear hq hnext
      go_wp2_with fail
      go_roundw
      case rel =>
        refine ⟨D ++ [p], R, q, Lib.hid (by rw [← hDR.out]; simp), rfl, Hq, ?_, Lib.hid hst'⟩
        rw [List.length_append]
        unfold toInts at hown' ⊢
        rw [List.map_append, List.map_append]
        exact hown'
      case measure => simp [slLen]; omega
end Go.Proofs.Ytfbknjboceheaaa
