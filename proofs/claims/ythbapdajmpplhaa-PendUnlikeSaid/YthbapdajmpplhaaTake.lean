/-
  A region that draws, walked by hand: one operation taken at a time; and the condition on the world may be made stronger on the way.
-/
import Derived.Test.YthbapdajmpplhaaBase
import Derived.Deep.RegionHeld3
namespace Go.Proofs.Ythbapdajmpplhaa
open Go.RowKit

/-- S may be weakened on the way back: what is shown under the stronger condition stands under the weaker. -/
theorem held_mono {P : Program} {ops : Array Oper} {Q : Exit → Act → World → Prop} {md : Region.Mode} {S S' : World → Prop} (hS : ∀ w, S' w → S w) :
    ∀ {fuel : Nat} {listed : Array Bool} {a : Act} {w : World}, wpAnyH P md ops Q S' fuel listed a w → wpAnyH P md ops Q S fuel listed a w
  | 0, _, _, _, h => h
  | _ + 1, _, _, _, h => ⟨h.1, fun i hi => wpOp_mono (fun _ w' h' => ⟨hS w' h'.1, held_mono hS h'.2⟩) (h.2 i hi)⟩
/-- Operation number i of a row that is written out. -/
def nthP : List Oper → Nat → Option Oper
  | [], _ => none
  | o :: _, 0 => some o
  | _ :: l, n + 1 => nthP l n
theorem nthP_eq : ∀ (l : List Oper) (i : Nat), l.toArray[i]? = nthP l i
  | [], _ => by simp [nthP]
  | o :: _, 0 => by simp [nthP]
  | _ :: l, n + 1 => by have := nthP_eq l n; simp [nthP] at this ⊢; exact this
theorem take_p {P : Program} {l : List Oper} {Q : Exit → Act → World → Prop} {md : Region.Mode} {S : World → Prop} {i : Nat} {oi : Oper} {v : Value} {fuel : Nat} {listed : Array Bool} {a : Act} {w : World} (hi : nthP l i = some oi)
    (hs : Region.noSelect l.toArray = true) (hf : Region.free md l.toArray listed i = true) (hr : (Region.ready md l.toArray listed).contains i = true)
    (hQ : ∀ c a w, Q (.panic c) (a.put oi.dst v) w → Q (.panic c) a w) (hy : YieldsIf P l.toArray S oi v a) (hS : S w)
    (h : wpAnyH P md l.toArray Q S fuel (listed.setIfInBounds i true) (a.put oi.dst v) w) : wpAnyH P md l.toArray Q S (fuel + 1) listed a w :=
  wpAnyH_take ((nthP_eq l i).trans hi) hs hf hr hQ hy hS h
theorem cons_p {P : Program} {l : List Oper} {Q : Exit → Act → World → Prop} {md : Region.Mode} {S : World → Prop} {fuel : Nat} {listed : Array Bool} {a : Act} {w : World} {i : Nat} {o : Oper} {rs : List Nat} (ho : nthP l i = some o)
    (h : ∀ K' : Act → World → Prop, Shut (∀ a w, S w → (S w → wpAnyH P md l.toArray Q S fuel (listed.setIfInBounds i true) a w) → K' a w) → if Region.wanted o (yielded l.toArray a.tmps) = true then Oper.wp P o a w K' Q else K' (a.put o.dst undef) w)
    (hs : AllReadyH P md l.toArray Q S fuel listed a w rs) : AllReadyH P md l.toArray Q S fuel listed a w (i :: rs) :=
  AllReadyH.cons ((nthP_eq l i).trans ho) h hs
end Go.Proofs.Ythbapdajmpplhaa
