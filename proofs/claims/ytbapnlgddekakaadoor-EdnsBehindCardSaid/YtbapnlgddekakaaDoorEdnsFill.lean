/-
  Package edns: fill; bytes appended into a room within a row.
-/
import Derived.Test.YtbapnlgddekakaaDoorEdnsAwake
import Derived.Deep.AppendSrc
namespace Go.Proofs.YtbapnlgddekakaaDoor
open Go.RowKit
set_option linter.unusedVariables false
set_option linter.unusedSimpArgs false

/-- The bytes of an option. -/
def optB (o : Opt) : List UInt8 := beB 2 o.1 ++ beB 2 o.2.size ++ o.2.data.toList
theorem optB_length (o : Opt) : (optB o).length = 4 + o.2.size := by
  unfold optB
  rw [List.length_append, List.length_append, beB_length, beB_length, Array.length_toList]
  rfl
/-- A row with M written at p. -/
def wrAt (L : List UInt8) (p : Nat) (M : List UInt8) : List UInt8 := L.take p ++ M ++ L.drop (p + M.length)
theorem wrAt_length {L : List UInt8} {p : Nat} {M : List UInt8} (h : p + M.length ≤ L.length) : (wrAt L p M).length = L.length := by
  unfold wrAt; rw [List.length_append, List.length_append, List.length_take, List.length_drop]; omega
theorem wrAt_two {L : List UInt8} {p : Nat} {M N : List UInt8} (h : p + M.length + N.length ≤ L.length) : wrAt (wrAt L p M) (p + M.length) N = wrAt L p (M ++ N) := by
  have hl : (L.take p ++ M).length = p + M.length := by rw [List.length_append, List.length_take]; omega
  unfold wrAt
  rw [List.take_append_of_le_length (by omega), List.take_of_length_le (by omega), List.drop_append, hl, List.drop_eq_nil_of_le (by omega), List.nil_append, List.drop_drop, List.length_append]
  rw [show p + M.length + (p + M.length + N.length - (p + M.length)) = p + (M.length + N.length) by omega]
  simp only [List.append_assoc]

section
variable {P : Program} {w : World}
theorem blk_setCells {b : Nat} {t : TypeId} : ∀ (vs pre mid post : List Value) (w : World), mid.length = vs.length → Blk w b t (pre ++ mid ++ post).toArray → Blk (w.setCells b pre.length vs) b t (pre ++ vs ++ post).toArray
  | [], pre, [], post, w, _, h => h
  | v :: vs, pre, m :: mid, post, w, hl, h => by
    have h1 := h.set_ pre.length v
    have e : ((pre ++ (m :: mid) ++ post).toArray).setIfInBounds pre.length v = ((pre ++ [v]) ++ mid ++ post).toArray := by
      rw [List.setIfInBounds_toArray]
      congr 1
      rw [List.append_assoc, List.set_append_right _ _ (Nat.le_refl _), Nat.sub_self]
      simp
    rw [e] at h1
    have h2 := blk_setCells vs (pre ++ [v]) mid post _ (by simpa using hl) h1
    have e2 : (pre ++ [v]).length = pre.length + 1 := by simp
    rw [e2] at h2
    have e3 : pre ++ [v] ++ vs ++ post = pre ++ (v :: vs) ++ post := by simp
    rw [e3] at h2
    exact h2
theorem only_setCells {b : Nat} : ∀ (vs : List Value) (o : Nat) (w : World), Only (· = b) w (w.setCells b o vs)
  | [], _, w => Only.refl _ _
  | v :: r, o, w => ((Only.refl (· = b) w).setCell (p := ⟨b, o, none⟩) (.inl rfl) v).trans (only_setCells r (o + 1) _) (fun _ _ h => h)
theorem blk_write {b : Nat} {t : TypeId} {L : List UInt8} {p : Nat} {M : List UInt8} (h : Blk w b t (bv L).toArray) (hf : p + M.length ≤ L.length) : Blk (w.setCells b p (bv M)) b t (bv (wrAt L p M)).toArray := by
  have hs : L = L.take p ++ (L.drop p).take M.length ++ L.drop (p + M.length) := by
    rw [List.append_assoc]
    have h1 : L.drop (p + M.length) = (L.drop p).drop M.length := by rw [List.drop_drop]
    rw [h1, List.take_append_drop, List.take_append_drop]
  have h2 : (bv (L.take p)).length = p := by rw [bv_length, List.length_take]; omega
  rw [hs, bv_append, bv_append] at h
  have h3 := blk_setCells (bv M) (bv (L.take p)) (bv ((L.drop p).take M.length)) (bv (L.drop (p + M.length))) w (by rw [bv_length, bv_length, List.length_take, List.length_drop]; omega) h
  rw [h2] at h3
  unfold wrAt
  rw [bv_append, bv_append]
  exact h3
theorem wpList_append_src {ops : Array Oper} {rest : List Oper} {o : Oper} {a : Act} {Q : Exit → Act → World → Prop} (hgd : o.guard = none) (s x : Operand) (t tx : TypeId)
    (ho : o.op = .call { callee := .builtin .append, args := #[s, x], argTypes := #[t, tx] })
    (e : TypeId) (i : TypeInfo) (ht : P.underlying t = some (.slice e)) (hi : P.info? e = some i) (hsz : i.size = 1) (b off sLen sCap : Nat) (hs : a.eval s = .slice (some ⟨b, off, none⟩) sLen sCap)
    (xv : Value) (hx : a.eval x = xv) (M L : List UInt8) (hsrc : Src P 1 tx xv M.length (bv M) w) (hroom : sLen + M.length ≤ sCap) (hB : Blk w b e (bv L).toArray) (hfit : off + sLen + M.length ≤ L.length)
    (h : ∀ w', Blk w' b e (bv (wrAt L (off + sLen) M)).toArray → Only (· = b) w w' → wpList P ops Q rest (a.put o.dst (.slice (some ⟨b, off, none⟩) (sLen + M.length) sCap)) w') : wpList P ops Q (o :: rest) a w := by
  refine wpList_plain hgd fun K hK => ?_
  have hrun := run_append_room_src (P := P) w t tx o.type e i ht hi b off sLen sCap xv M.length (bv M) (by rw [hsz]; exact hsrc) hroom
    (fun j hj => by
      rw [bv_length] at hj
      rw [hsz, Nat.mul_one, hB.cell]
      have : off + sLen + j < (bv L).toArray.size := by simp [bv_length]; omega
      simp [Array.getElem?_eq_getElem this])
    (fun j _ => hB.frozen _)
  rw [hsz, Nat.mul_one] at hrun
  unfold Oper.wp execOp
  simp only [ho, resolve, invoke, builtin, Sem.run_bind, Sem.run_pure, Result.andThen_ok, List.map_toArray, List.map_cons, List.map_nil, hs, hx, hrun]
  exact hK _ _ (h _ (blk_write hB hfit) (only_setCells _ _ _))
end

theorem bytes_bv (s : ByteArray) : byteCells s = bv s.data.toList := rfl
section
variable {w : World}
theorem info_byte : (Tryd.prog.info? 5).map (fun i => (i.zero, i.size, i.bytes)) = some (some (.int .u8 0), 1, 1) := by kernel_rfl
set_option maxRecDepth 1000000 in
set_option maxHeartbeats 6400000 in
theorem fill_any {B at_ : Nat} {L : List UInt8} (o : Opt) (h1 : o.1 < 65536) (h2 : o.2.size < 65536) (hB : Blk w B 5 (bv L).toArray) (hfit : at_ + (4 + o.2.size) ≤ L.length) (hL : L.length ≤ 65535) :
    Calls Tryd.prog 20 #[.slice (some ⟨B, at_, none⟩) 0 (4 + o.2.size), .agg #[.int .u16 o.1, .string o.2]] w fun e w' => e = .returned (.int .i64 ((4 + o.2.size : Nat) : Int)) ∧ Blk w' B 5 (bv (wrAt L at_ (optB o))).toArray ∧ Only (· = B) w w' := by
  obtain ⟨i0, hi, hz0, hz1, hz2⟩ := info_parts info_byte
  obtain ⟨oc, od⟩ := o
  simp only at h1 h2 hfit ⊢
  have hs0 := Still.new w (.cells #[.int .u16 oc, .string od] 40)
  have hB0 := hB.only hs0 (fun h => h)
  have hbl := hB.lt
  go_enter Tryd.func20, Tryd.ntmps20
  go_wp2_with fail
  refine (Put2_any none 0 0 [] _ (Reads.nil_bytes _ _) (by omega) oc h1).mono ?_
  rintro e w1 ⟨g, rfl, hg, hown, hs1⟩
  rw [List.nil_append, Nat.zero_add] at hown
  rw [Nat.zero_add]
  have hB1 := hB0.only hs1 (fun h => h)
  have hc1 := (hs0.still hs1)
  have hr1 := Reads.of_own hown
  have k0 := hs1.cell_some (p := ⟨w.heap.size, 0, none⟩) (fun h => h) ((Blk.new w 40 #[.int .u16 oc, .string od]).cell 0)
  have k1 := hs1.cell_some (p := ⟨w.heap.size, 1, none⟩) (fun h => h) ((Blk.new w 40 #[.int .u16 oc, .string od]).cell 1)
  simp only [List.getElem_toArray, List.getElem_cons_zero, List.getElem_cons_succ] at k0 k1
  have k0' : w1.cell? ⟨w.heap.size, 0, none⟩ = some (.int .u16 oc) := k0
  have k1' : w1.cell? ⟨w.heap.size, 1, none⟩ = some (.string od) := k1
  clear k0 k1
  have hsrc : Src Tryd.prog 1 41 (.slice (some ⟨g, 0, none⟩) 2 2) (beB 2 oc).length (bv (beB 2 oc)) w1 := by
    rw [beB_length]
    exact Src.ofSlice w1 Tryd.underlying41 ⟨g, 0, none⟩ 2 2 (bv (beB 2 oc)) (by rw [bv_length, beB_length]) (hown.cells (g := g) rfl) (bv_one _)
  obtain ⟨K, hK⟩ : ∃ K, K = w.heap.size := ⟨_, rfl⟩
  rw [← hK] at k0' k1' hbl ⊢
  have HK := Lib.hid hK
  have hl1 : (beB 2 oc).length = 2 := beB_length _ _
  clear hK hr1 hs0 hs1 hB0 hB
  go_wp2_with (at_builtin; refine wpList_append_src rfl (.tmp 5) (.tmp 8) 41 41 rfl 5 i0 Tryd.underlying41 hi hz1 B at_ 0 (4 + od.size) rfl _ rfl (beB 2 oc) L hsrc ?q1 hB1 ?q2 ?_)
  case q1 => omega
  case q2 => omega
  intro wa hBa hoa
  have hca := (Only.of_still hc1 (· = B)).trans hoa (fun _ _ h => h)
  have k1a := hoa.cell_some (fun e => by have e' : K = B := e; omega) k1'
  (try rw [Nat.add_zero] at hBa)
  (try rw [Nat.zero_add])
  (try rw [hl1])
  have hLa : (wrAt L at_ (beB 2 oc)).length = L.length := wrAt_length (by omega)
  have y1 : IntKind.u16.wrap (od.size : Int) = (od.size : Int) := by rw [IntKind.wrap_u16]; omega
  clear hsrc hown hB1 hc1 hoa k0' k1'
  go_wp2_with fail
  refine (Put2_any none 0 0 [] _ (Reads.nil_bytes _ _) (by omega) od.size h2).mono ?_
  rintro e w2 ⟨g2, rfl, hg2, hown2, hs2⟩
  rw [List.nil_append, Nat.zero_add] at hown2
  rw [Nat.zero_add]
  have hB2 := hBa.only hs2 (fun h => h)
  have hc2 := hca.still hs2
  have k1b := hs2.cell_some (fun h => h) k1a
  have hl2 : (beB 2 od.size).length = 2 := beB_length _ _
  have hsrc : Src Tryd.prog 1 41 (.slice (some ⟨g2, 0, none⟩) 2 2) (beB 2 od.size).length (bv (beB 2 od.size)) w2 := by
    rw [beB_length]
    exact Src.ofSlice w2 Tryd.underlying41 ⟨g2, 0, none⟩ 2 2 (bv (beB 2 od.size)) (by rw [bv_length, beB_length]) (hown2.cells (g := g2) rfl) (bv_one _)
  clear hBa hca k1a hs2
  go_wp2_with (at_builtin; refine wpList_append_src rfl (.tmp 10) (.tmp 15) 41 41 rfl 5 i0 Tryd.underlying41 hi hz1 B at_ 2 (4 + od.size) rfl _ rfl (beB 2 od.size) (wrAt L at_ (beB 2 oc)) hsrc ?q1 hB2 ?q2 ?_)
  case q1 => omega
  case q2 => omega
  intro wb hBb hob
  have hcb := hc2.trans hob (fun _ _ h => h)
  have k1c := hob.cell_some (fun e => by have e' : K = B := e; omega) k1b
  have hw2 := wrAt_two (L := L) (p := at_) (M := beB 2 oc) (N := beB 2 od.size) (by omega)
  rw [hl1] at hw2
  try rw [hw2] at hBb
  (try rw [hl2])
  have hl3 : (beB 2 oc ++ beB 2 od.size).length = 4 := by rw [List.length_append, hl1, hl2]
  have hLb : (wrAt L at_ (beB 2 oc ++ beB 2 od.size)).length = L.length := wrAt_length (by omega)
  have hsz3 : od.data.toList.length = od.size := by rw [Array.length_toList]; rfl
  have hsrc3 : Src Tryd.prog 1 9 (.string od) od.data.toList.length (bv od.data.toList) wb := by
    rw [hsz3, ← bytes_bv]
    exact Src.ofString wb Tryd.underlying9 od
  clear hsrc hown2 hB2 hc2 hob k1b hw2
  go_wp2_with (at_builtin; refine wpList_append_src rfl (.tmp 17) (.tmp 19) 41 9 rfl 5 i0 Tryd.underlying41 hi hz1 B at_ (2 + 2) (4 + od.size) rfl _ rfl od.data.toList (wrAt L at_ (beB 2 oc ++ beB 2 od.size)) hsrc3 ?q1 hBb ?q2 ?_)
  case q1 => omega
  case q2 => omega
  intro wc hBc hoc
  have hcc := hcb.trans hoc (fun _ _ h => h)
  have hw3 := wrAt_two (L := L) (p := at_) (M := beB 2 oc ++ beB 2 od.size) (N := od.data.toList) (by omega)
  rw [hl3] at hw3
  try rw [hw3] at hBc
  (try rw [hsz3])
  clear hsrc3 hBb hcb hoc k1c hw3
  go_wp2_with fail
  go_ret
  exact ⟨ret_int (by omega), hBc, hcc⟩
end
end Go.Proofs.YtbapnlgddekakaaDoor
