/-
  FOR THE WALK of laws.FnScanned: the list of records and the bytes of one's own keep each other; bytes as the drawing reads them; the head of a list of records.
-/
import Derived.Test.YtghckkameinicaaDoorSameRecs
import Derived.Test.YtghckkameinicaaDoorScanCat
import Derived.Test.YtghckkameinicaaDoorDraw
namespace Go.Proofs.YtghckkameinicaaDoor.Rec
open Go.ChangeShapes Go.WideShapes Go.ChangeAt Go.RowKit
open Go.Proofs.YtghckkameinicaaDoor.Ints Go.Proofs.YtghckkameinicaaDoor.Has
open Go.Proofs.YtghckkameinicaaDoor.Bytes (IsBytes OwnB)
theorem OwnRs.grownB {w w' : World} {base b2 : Nat} {A Ab : Option Addr} {n c nb cb : Nat} {rs : RList} {bs : List Int} (h : OwnRs w base A n c rs) (hB : OwnB w b2 Ab nb cb bs) (hg : w.grownBy w' (Value.slice Ab nb cb).ownBlock) : OwnRs w' base A n c rs := by
  obtain ⟨hs, hl, hr, hrow, hj, hd⟩ := h
  exact ⟨hs, hl, hr, hrow.kept hg (row_ne hrow hB.2.2 (by decide)), fun j hjn => ⟨(hj j hjn).1, (hj j hjn).2.grown hg (row_ne (hj j hjn).2.2 hB.2.2 (by decide))⟩, hd⟩
theorem ownB_grownR {w w' : World} {base b2 : Nat} {A Ab : Option Addr} {n c nb cb : Nat} {hs : List Hd} {rs : RList} {bs : List Int} (hB : OwnB w b2 Ab nb cb bs) (h : OwnRsH w base A n c hs rs) (hg : w.grownBy w' (Value.slice A n c).ownBlock) : OwnB w' b2 Ab nb cb bs :=
  hB.grown hg (row_ne hB.2.2 h.2.2.1 (by decide))
theorem OwnRs.cap {w : World} {base : Nat} {A : Option Addr} {n c : Nat} {rs : RList} (h : OwnRs w base A n c rs) : n ≤ c := by
  obtain ⟨hs, _, _, hrow, _⟩ := h
  rcases hrow.2 with ⟨h0, h1⟩ | ⟨g, cap, cur, hv, _, _, hnc, _⟩
  · omega
  · injection hv with _ _ h3
    omega
theorem IsRecs.take {w : World} {B : Nat} {A : Option Addr} {n m : Nat} {a b : RList} (h : IsRecs w B A n (a ++ b)) (hm : a.length = m) : IsRecs w B A m a := by
  have hl := h.1
  rw [List.length_append] at hl
  refine ⟨hm, fun h0 => ?_⟩
  obtain ⟨g, off, e, hlt, hc⟩ := h.2 (by omega)
  refine ⟨g, off, e, hlt, fun j hj => ?_⟩
  have e1 : (a ++ b).getD j (0, []) = a.getD j (0, []) := by simp [List.getD, List.getElem?_append, show j < a.length by omega]
  have := hc j (by omega)
  rw [e1] at this
  exact this
theorem isBytes_take {w : World} {B : Nat} {A : Option Addr} {n c : Nat} {bs : List Int} (h : IsBytes w B A n bs) (hc : c ≤ n) : IsBytes w B A c (bs.take c) := by
  have hl := h.1
  refine ⟨by simp; omega, fun x hx => h.2.1 x (List.mem_of_mem_take hx), fun h0 => ?_⟩
  obtain ⟨g, off, e, hlt, hcc⟩ := h.2.2 (by omega)
  refine ⟨g, off, e, hlt, fun j hj => ?_⟩
  rw [hcc j (by omega)]
  simp [List.getD, hj]
theorem draw_bytes {w : World} {B : Nat} {A : Option Addr} {n : Nat} {bs : List Int} (h : IsBytes w B A n bs) : Draw.IsBytes w B A n (bs.map fun z => UInt8.ofNat z.toNat) := by
  refine ⟨by simp [h.1], fun h0 => ?_⟩
  obtain ⟨g, off, e, hlt, hc⟩ := h.2.2 h0
  refine ⟨g, off, e, hlt, fun j hj => ?_⟩
  have hl : j < bs.length := by rw [h.1]; exact hj
  have hin := h.2.1 bs[j] (List.getElem_mem hl)
  rw [hc j hj]
  have e1 : bs.getD j 0 = bs[j] := by simp [List.getD, hl]
  have e2 : (bs.map fun z => UInt8.ofNat z.toNat).getD j 0 = UInt8.ofNat bs[j].toNat := by simp [List.getD, hl]
  rw [e1, e2, UInt8.toNat_ofNat_of_lt' (by show _ < 256; omega)]
  congr 2
  omega
end Go.Proofs.YtghckkameinicaaDoor.Rec
