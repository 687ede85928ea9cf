/-
  Package edns: Read.
-/
import Derived.Test.YtbapnlgddekakaaDoorEdnsO
import Derived.Handy
namespace Go.Proofs.YtbapnlgddekakaaDoor
open Go.RowKit
set_option linter.unusedVariables false
set_option linter.unusedSimpArgs false

/-- Where a cursor is, as memory tells. -/
def placeOf (w : World) (g : Nat) : Nat := match w.cell? ⟨g, 1, none⟩ with
  | some (.int _ n) => n.toNat
  | _ => 0
theorem Cur.place {w : World} {g : Nat} {s : ByteArray} {a : Nat} (h : Cur w g s a) : placeOf w g = a := by
  unfold placeOf
  have := Blk.cell h 1
  simp at this
  rw [this]
  simp
theorem blk5 {w : World} {g : Nat} {t : TypeId} {v0 v1 v2 v3 v4 : Value} (h : Blk w g t #[v0, v1, v2, v3, v4]) :
    w.cell? ⟨g, 0, none⟩ = some v0 ∧ w.cell? ⟨g, 1, none⟩ = some v1 ∧ w.cell? ⟨g, 2, none⟩ = some v2 ∧ w.cell? ⟨g, 3, none⟩ = some v3 ∧ w.cell? ⟨g, 4, none⟩ = some v4 := by
  have c0 := h.cell 0
  have c1 := h.cell 1
  have c2 := h.cell 2
  have c3 := h.cell 3
  have c4 := h.cell 4
  simp at c0 c1 c2 c3 c4
  exact ⟨c0, c1, c2, c3, c4⟩
theorem Blk.still_ {w w' : World} {g : Nat} {t : TypeId} {cs : Array Value} (h : Blk w g t cs) (hs : Still w w') : Blk w' g t cs := h.only hs (fun h => h)
theorem info_opt : (Tryd.prog.info? 40).map (fun i => (i.zero, i.size, i.bytes)) = some (some (.agg #[.int .u16 0, .string ⟨#[]⟩]), 2, 24) := by kernel_rfl
def ez : Array Value := #[.int .u16 0, .int .u8 0, .int .u8 0, .int .u16 0, .slice none 0 0]
/-- The numbers of an EDNS, its options as a slice. -/
def eA (cl x v f : Int) (A : Option Addr) (n c : Nat) : Array Value := #[.int .u16 cl, .int .u8 x, .int .u8 v, .int .u16 f, .slice A n c]

set_option maxRecDepth 1000000 in
set_option maxHeartbeats 6400000 in
theorem read_any (w : World) (he : ErrT w) (cl : Int) (T : Nat) (hT : T < 4294967296) (x v f : Int) (hx : (T : Int) / 16777216 = x) (hv : (T : Int) / 65536 % 256 = v) (hf : IntKind.u16.wrap (T : Int) = f) (s : ByteArray) (hs : s.size ≤ 1000000) :
    Calls Tryd.prog 19 #[.int .u16 cl, .int .u32 T, .string s] w fun e w' =>
      (∃ os A c, Hid (optsOf s = some os) ∧ e = .returned (.tuple #[.agg (eA cl x v f A os.length c), .int .i64 0]) ∧ w'.ownsRow w.heap.size 40 2 (.slice A os.length c) os.length (oRow os) ∧ Still w w') ∨
      (Hid (optsOf s = none) ∧ e = .returned (.tuple #[.agg ez, .int .i64 4]) ∧ Still w w') := by
  obtain ⟨i0, hi, hz0, hz1, hz2⟩ := info_parts info_opt
  have hml : s.size ≤ maxLen := by unfold maxLen; omega
  have hsA := (Still.new w (.cells #[.int .u16 0, .int .u8 0, .int .u8 0, .int .u16 0, .slice none 0 0] 25)).alloc (.cells #[.int .u16 cl, .int .u8 x, .int .u8 v, .int .u16 f, .slice none 0 0] 25)
  have hB6 := (Blk.new w 25 #[.int .u16 0, .int .u8 0, .int .u8 0, .int .u16 0, .slice none 0 0]).alloc (.cells #[.int .u16 cl, .int .u8 x, .int .u8 v, .int .u16 f, .slice none 0 0] 25)
  have hB8 := Blk.at_ (w.alloc (.cells #[.int .u16 0, .int .u8 0, .int .u8 0, .int .u16 0, .slice none 0 0] 25)) 25 #[.int .u16 cl, .int .u8 x, .int .u8 v, .int .u16 f, .slice none 0 0] (g := w.heap.size + 1) (by simp)
  have hszA : ((w.alloc (.cells #[.int .u16 0, .int .u8 0, .int .u8 0, .int .u16 0, .slice none 0 0] 25)).alloc (.cells #[.int .u16 cl, .int .u8 x, .int .u8 v, .int .u16 f, .slice none 0 0] 25)).heap.size = w.heap.size + 2 := by simp
  go_enter Tryd.func19, Tryd.ntmps19
  go_wp2_with fail
  obtain ⟨w1, hw1⟩ : ∃ w1, w1 = (w.alloc (.cells #[.int .u16 0, .int .u8 0, .int .u8 0, .int .u16 0, .slice none 0 0] 25)).alloc (.cells #[.int .u16 cl, .int .u8 x, .int .u8 v, .int .u16 f, .slice none 0 0] 25) := ⟨_, rfl⟩
  rw [← hw1] at hsA hB6 hB8 hszA ⊢
  obtain ⟨K, hK⟩ : ∃ K, K = w.heap.size := ⟨_, rfl⟩
  rw [← hK] at hB6 hB8 hszA ⊢
  have HK := Lib.hid hK
  have he1 := he.still hsA
  have he0s := he.lt
  clear hw1 hK he hx hv hf hT
  refine (cur_new s w1).mono ?_
  rintro e w2 ⟨g, rfl, hg, hC, hs2⟩
  have hB6 := hB6.only hs2 (fun h => h)
  have hB8 := hB8.only hs2 (fun h => h)
  have he2 := he1.still hs2
  have hS2 := hsA.still hs2
  have hgl := hC.lt
  have hsz2 := hs2.size
  have he2s := he2.lt
  clear hsA hs2 he1
  go_wp2_with fail
  go_loopw [10] (fun _ wr => ∃ (a : Nat) (acc : List Opt) (A : Option Addr) (c : Nat), a ≤ s.size ∧ 4 * acc.length ≤ a ∧ w2.heap.size ≤ wr.heap.size ∧ Cur wr g s a ∧ ErrT wr ∧ Blk wr (K + 1) 25 #[.int .u16 cl, .int .u8 x, .int .u8 v, .int .u16 f, .slice A acc.length c] ∧ Blk wr K 25 #[.int .u16 0, .int .u8 0, .int .u8 0, .int .u16 0, .slice none 0 0] ∧ wr.ownsRow w2.heap.size 40 2 (.slice A acc.length c) acc.length (oRow acc) ∧ Hid (Sofar s acc a) ∧ Hid (Still w wr)) (fun _ wr => s.size - placeOf wr g)
  case atStart => exact ⟨0, [], none, 0, Nat.zero_le _, by simp, Nat.le_refl _, hC, he2, hB8, hB6, World.ownsRow_nil _ _ _ _, Lib.hid (Sofar.start s), Lib.hid hS2⟩
  case round =>
    clear hC he2 hB8 hB6 hS2
    obtain ⟨a, acc, A, c, ha, hacc, hw2r, hC, he, hB8, hB6, hown, hso, hst⟩ := hrel
    have hpl := hC.place
    have Hpl := Lib.hid hpl
    have hsz := hst.out.size
    have hgs := hC.lt
    have h8s := hB8.lt
    clear hpl
    obtain ⟨c0, c1, c2, c3, c4⟩ := blk5 hB8
    go_wp2_with fail
    refine (Left_any hC ha hml).mono ?_
    rintro e w3 ⟨rfl, q, rfl⟩
    have hd := (Only.refl (fun _ => False) wr).drewN q
    have hC0 := hC.still hd
    have hC := hC0
    have he := he.still hd
    have hB8 := hB8.still_ hd
    have hB6 := hB6.still_ hd
    have hown := own_only hown hd (fun _ _ h => h)
    have hst := hst.out.still hd
    have c0 := hd.cell_some (fun h => h) c0
    have c1 := hd.cell_some (fun h => h) c1
    have c2 := hd.cell_some (fun h => h) c2
    have c3 := hd.cell_some (fun h => h) c3
    have c4 := hd.cell_some (fun h => h) c4
    have hszd := hd.size
    generalize wr.drewN q = w3 at *
    clear hd
    by_cases hlt : a < s.size
    · have d1 : (0 : Int) < (s.size : Int) - (a : Int) := by omega
      go_wp2_with fail
      rcases ho : optAt s a with _ | ⟨o, b⟩
      · have hbad := hso.out.bad hlt ho
        have Hbad := Lib.hid hbad
        refine (readOption_none hC he ha (by omega) ho).mono ?_
        rintro e w4 ⟨rfl, ho4⟩
        have hgK : g ≠ K := by omega
        have hB6 := (hB6.only ho4 (by omega)).alloc (.cells #[.int .u16 0, .string ⟨#[]⟩] 40)
        have hst := (hst.trans ho4 (fun i hi e => by have e' : i = g := e; have := HK.out; omega)).alloc (.cells #[.int .u16 0, .string ⟨#[]⟩] 40)
        clear hbad ho hso hC he hB8 hown ho4
        go_wp2_with ((refine wpList_store_blk rfl 25 (.tmp 6) (.tmp 34) rfl K rfl #[.int .u16 0, .int .u8 0, .int .u8 0, .int .u16 0, .slice none 0 0] rfl 25 _ hB6 (by kernel_rfl) rfl (by kernel_rfl) ?_); intro wa hBa hoa)
        (try simp only [Exit.inBlock, Exit.then])
        refine bodyPost_ret (results_cr rfl _ _ K 25 #[.int .u16 0, .int .u8 0, .int .u8 0, .int .u16 0, .slice none 0 0] _ rfl hBa _ rfl Tryd.underlying25 rfl (by kernel_rfl)) rfl ?_
        exact .inr ⟨Hbad, rfl, hst.trans hoa (fun i hi e => by have := HK.out; omega)⟩
      · have hnx := hso.out.next hlt ho
        have hle := optAt_le ho
        refine (readOption_some hC he ha (by omega) ho).mono ?_
        rintro e w4 ⟨rfl, hC, ho4⟩
        have hB6 := (hB6.only ho4 (by omega)).alloc (.cells #[.int .u16 o.1, .string o.2] 40)
        have hB8 := (hB8.only ho4 (by omega)).alloc (.cells #[.int .u16 o.1, .string o.2] 40)
        have hst := (hst.trans ho4 (fun i hi e => by have e' : i = g := e; have := HK.out; omega)).alloc (.cells #[.int .u16 o.1, .string o.2] 40)
        have he4 : ErrT w4 := he.only ho4 (fun e => by have e' : 0 = g := e; exact hC0.ne_err he e'.symm)
        have hown := (own_only hown ho4 (fun z hz e => by have h1 := (hown.lt z hz).1; have e' : z = g := e; omega)).alloc (.cells #[.int .u16 o.1, .string o.2] 40)
        have hC4 := hC.still (Still.new w4 (.cells #[.int .u16 o.1, .string o.2] 40))
        have he4 := he4.still (Still.new w4 (.cells #[.int .u16 o.1, .string o.2] 40))
        have hsz4 := ho4.size
        have Hnx := Lib.hid hnx
        clear hnx ho hso hC he ho4 c0 c1 c2 c3 c4
        obtain ⟨_, _, _, _, c4⟩ := blk5 hB8
        have hp1 := hown.alloc (.cells #[.int .u16 o.1, .string o.2] 40)
        have hrd := Reads.of_own (World.ownsRow_lit (e := 40) (size := 2) (base := 0) (w4.alloc (.cells #[.int .u16 o.1, .string o.2] 40)) #[.int .u16 o.1, .string o.2] 1 (Nat.zero_le _) (by unfold maxLen; omega) rfl)
        rw [show (w4.alloc (.cells #[.int .u16 o.1, .string o.2] 40)).heap.size = w4.heap.size + 1 by simp] at hrd
        have hB8 := hB8.alloc (.cells #[.int .u16 o.1, .string o.2] 40)
        have hB6 := hB6.alloc (.cells #[.int .u16 o.1, .string o.2] 40)
        have hst := hst.alloc (.cells #[.int .u16 o.1, .string o.2] 40)
        have hsnw := Still.new (w4.alloc (.cells #[.int .u16 o.1, .string o.2] 40)) (.cells #[.int .u16 o.1, .string o.2] 40)
        have hC4 := hC4.still hsnw
        have he4 := he4.still hsnw
        have hbb : ((w4.alloc (.cells #[.int .u16 o.1, .string o.2] 40)).alloc (.cells #[.int .u16 o.1, .string o.2] 40)).heap.size = w4.heap.size + 2 := by simp
        clear hsnw hown
        go_wp2_with (at_builtin; refine wpList_append_any _ rfl (.tmp 37) (.tmp 39) 23 rfl w2.heap.size 40 i0 (.agg #[.int .u16 0, .string ⟨#[]⟩]) 2 24 Tryd.underlying23 hi hz0 hz1 hz2 rfl (by decide) _ _ _ rfl hp1 _ (some _) 1 1 _ rfl hrd ?q1 ?q2 ?q3 ?q4 ?_)
        case q1 => exact oC_one o
        case q2 => unfold maxLen; omega
        case q3 => omega
        case q4 => first | (simp; omega) | omega
        intro v' wg hown' hgrow hblk
        obtain ⟨A', c', hv⟩ := own_shape hown'
        subst hv
        have hog : Only (fun z => w2.heap.size ≤ z) ((w4.alloc (.cells #[.int .u16 o.1, .string o.2] 40)).alloc (.cells #[.int .u16 o.1, .string o.2] 40)) wg := (Only.refl _ _).grown hgrow (fun k hk => .inl (hp1.lt k hk).1)
        have hBg := hB8.only hog (by omega)
        have hB6g := hB6.only hog (by omega)
        have hCg := hC4.only hog (by omega)
        have heg : ErrT wg := he4.only hog (fun e => by have h1 := he2s; have e' : w2.heap.size ≤ 0 := e; omega)
        have hstg := hst.grown hgrow (fun z hz => .inr (by have := (hp1.lt z hz).1; have := HK.out; omega))
        have hBs := hBg.set_ 4 (.slice A' (acc.length + 1) c')
        have hoX := (Only.refl (· = K + 1) wg).setCell (p := ⟨K + 1, 4, none⟩) (.inl rfl) (.slice A' (acc.length + 1) c')
        have hos := own_only hown' hoX (fun z hz e => by have h1 := (hown'.lt z hz).1; have e' : z = K + 1 := e; omega)
        have hB6s := hB6g.only hoX (by omega)
        have hCs := hCg.only hoX (by omega)
        have hes : ErrT (wg.setCell ⟨K + 1, 4, none⟩ (.slice A' (acc.length + 1) c')) := heg.only hoX (fun e => by have e' : 0 = K + 1 := e; have := he0s; have := HK.out; omega)
        have hss := hstg.trans hoX (fun i hi e => by have e' : i = K + 1 := e; have := HK.out; omega)
        have hwz : w2.heap.size ≤ (wg.setCell ⟨K + 1, 4, none⟩ (.slice A' (acc.length + 1) c')).heap.size := by have h1 := hog.size; have h2 := hoX.size; omega
        have cg := hBg.cell 4
        have fg := hBg.frozen 4
        simp at cg
        simp at hBs
        have hpl2 := hCs.place
        have Hpl2 := Lib.hid hpl2
        clear hgrow hblk hog hBg hB6g hCg heg hstg hp1 hrd hB8 hB6 hst hC4 he4 c4 hpl2
        go_wp2_with fail
        go_roundw
        case rel => exact ⟨b, acc ++ [o], A', c', by omega, by simp; omega, hwz, hCs, hes, by simpa using hBs, hB6s, by rw [oRow_snoc]; simp only [List.length_append, List.length_cons, List.length_nil, Nat.zero_add]; exact hos, Hnx, Lib.hid hss⟩
        case measure => rw [Hpl2.out, Hpl.out]; omega
    · have d1 : ¬ (0 : Int) < (s.size : Int) - (a : Int) := by omega
      have hfin := hso.out.done (by omega)
      have Hfin := Lib.hid hfin
      clear hfin
      go_wp2_with ((refine wpList_store_blk rfl 25 (.tmp 6) (.tmp 42) rfl K rfl #[.int .u16 cl, .int .u8 x, .int .u8 v, .int .u16 f, .slice A acc.length c] rfl 25 _ hB6 (by kernel_rfl) rfl (by kernel_rfl) ?_); intro wa hBa hoa)
      (try simp only [Exit.inBlock, Exit.then])
      refine bodyPost_ret (results_cr rfl _ _ K 25 #[.int .u16 cl, .int .u8 x, .int .u8 v, .int .u16 f, .slice A acc.length c] _ rfl hBa _ rfl Tryd.underlying25 rfl (by kernel_rfl)) rfl ?_
      exact .inl ⟨acc, A, c, Hfin, rfl, own_base (own_only hown hoa (fun z hz e => by have h1 := (hown.lt z hz).1; have e' : z = K := e; omega)) (by have := HK.out; omega), hst.trans hoa (fun i hi e => by have := HK.out; omega)⟩
end Go.Proofs.YtbapnlgddekakaaDoor
