/-
  THE READER OF BYTES: what it is that a reader stands at a place; the contracts of readFrom, fail, place and next over this seat's translation.
-/
import Derived.Test.YtpghccbknlokcaaDoorRecBox
import Derived.Test.YtpghccbknlokcaaDoorBytes
import Derived.Stop.IfaceNil
namespace Go.Proofs.YtpghccbknlokcaaDoor.Rd
open Go.ChangeShapes Go.WideShapes Go.ChangeAt Go.RowKit
open Go.Proofs.YtpghccbknlokcaaDoor.Ints (below_drewN)
open Go.Proofs.YtpghccbknlokcaaDoor.Bytes (IsBytes)
open Go.Proofs.YtpghccbknlokcaaDoor.Rec (grown_set below_a1)
set_option linter.unusedVariables false
set_option linter.unusedSimpArgs false

/-- The three faults as the program's variables hold them, in blocks below B. -/
structure Errs (B : Nat) (w : World) (aT aB aO : Addr) : Prop where
  lt : 1 < B ∧ 2 < B ∧ 0 < B
  cT : w.cell? ⟨1, 0, none⟩ = some (.iface 111 (.pointer (some aT)))
  cB : w.cell? ⟨2, 0, none⟩ = some (.iface 111 (.pointer (some aB)))
  cO : w.cell? ⟨0, 0, none⟩ = some (.iface 111 (.pointer (some aO)))
theorem Errs.below {B C : Nat} {w w' : World} {aT aB aO : Addr} (h : Errs B w aT aB aO) (hb : Below C w w') (hC : B ≤ C) : Errs B w' aT aB aO :=
  ⟨h.lt, (hb.cell (p := ⟨1, 0, none⟩) (Nat.lt_of_lt_of_le h.lt.1 hC)).trans h.cT, (hb.cell (p := ⟨2, 0, none⟩) (Nat.lt_of_lt_of_le h.lt.2.1 hC)).trans h.cB, (hb.cell (p := ⟨0, 0, none⟩) (Nat.lt_of_lt_of_le h.lt.2.2 hC)).trans h.cO⟩

/-- A reader at block R stands at p with the fault f. -/
structure Rd (w : World) (R : Nat) (A : Option Addr) (n c : Nat) (p : Int) (f : Value) : Prop where
  c0 : w.cell? ⟨R, 0, none⟩ = some (.slice A n c)
  c1 : w.cell? ⟨R, 1, none⟩ = some (.int .i64 p)
  c2 : w.cell? ⟨R, 2, none⟩ = some f
  f1 : w.frozen? ⟨R, 1, none⟩ = false
  f2 : w.frozen? ⟨R, 2, none⟩ = false
section
variable {w w' : World} {R : Nat} {A : Option Addr} {n c : Nat} {p : Int} {f : Value}
theorem Rd.lt (h : Rd w R A n c p f) : R < w.heap.size := World.block_lt_of_cell? w _ h.c0
theorem Rd.grown {row : Option Nat} (h : Rd w R A n c p f) (hg : w.grownBy w' row) (hne : row ≠ some R) : Rd w' R A n c p f := by
  have e : w'.heap[R]? = w.heap[R]? := hg.block R h.lt (fun e => hne e.symm)
  exact ⟨(World.cell?_of_block e).trans h.c0, (World.cell?_of_block e).trans h.c1, (World.cell?_of_block e).trans h.c2, (World.frozen?_of_block (a := ⟨R, 1, none⟩) e).trans h.f1, (World.frozen?_of_block (a := ⟨R, 2, none⟩) e).trans h.f2⟩
theorem Rd.below (h : Rd w R A n c p f) (hb : Below w.heap.size w w') : Rd w' R A n c p f :=
  h.grown (row := none) ⟨hb.os, hb.tape, hb.output, hb.size, fun i hi _ => hb.block i hi⟩ (by simp)
theorem Rd.drewN (h : Rd w R A n c p f) (m : Nat) : Rd (w.drewN m) R A n c p f := ⟨h.c0, h.c1, h.c2, h.f1, h.f2⟩
theorem Rd.set1 (h : Rd w R A n c p f) (q : Int) : Rd (w.setCell ⟨R, 1, none⟩ (.int .i64 q)) R A n c q f :=
  ⟨(World.cell?_setCell_other _ _ _ _ (by simp)).trans h.c0, World.cell?_setCell_same _ _ _ h.c1, (World.cell?_setCell_other _ _ _ _ (by simp)).trans h.c2, by rw [World.frozen?_setCell]; exact h.f1, by rw [World.frozen?_setCell]; exact h.f2⟩
theorem Rd.set2 (h : Rd w R A n c p f) (g : Value) : Rd (w.setCell ⟨R, 2, none⟩ g) R A n c p g :=
  ⟨(World.cell?_setCell_other _ _ _ _ (by simp)).trans h.c0, (World.cell?_setCell_other _ _ _ _ (by simp)).trans h.c1, World.cell?_setCell_same _ _ _ h.c2, by rw [World.frozen?_setCell]; exact h.f1, by rw [World.frozen?_setCell]; exact h.f2⟩
end
theorem grown_drewN (w : World) (m : Nat) (row : Option Nat) : w.grownBy (w.drewN m) row := ⟨rfl, rfl, rfl, Nat.le_refl _, fun _ _ _ => rfl⟩
theorem grown_undrew {w w' : World} {m : Nat} {row : Option Nat} (h : (w.drewN m).grownBy w' row) : w.grownBy w' row := ⟨h.os, h.tape, h.output, h.size, h.block⟩
theorem grown_todrew {w w' : World} {row : Option Nat} (h : w.grownBy w' row) (m : Nat) : w.grownBy (w'.drewN m) row := ⟨h.os, h.tape, h.output, h.size, h.block⟩
/-- What is older than the reader has not turned. -/
theorem below_of {w w' : World} {R B : Nat} (h : w.grownBy w' (some R)) (hB : B ≤ R) (hs : B ≤ w.heap.size) : Below B w w' :=
  (Below.refl B w).grown h hs (fun q hq => by cases hq; exact hB)

/-- What is left behind a step of a reader. -/
def Left (w : World) (R : Nat) (A : Option Addr) (n c : Nat) (r : Value) (p : Int) (f : Value) (e : Ending) (w' : World) : Prop :=
  e = .returned r ∧ Rd w' R A n c p f ∧ w.grownBy w' (some R)

theorem eqNil (w : World) : (binOp .eql 82 .nilIface .nilIface).run Tryd.prog w = .ok (.bool true) w := run_eql_nil_nil_at w _ (by kernel_rfl)
theorem neNil (w : World) : (binOp .neq 82 .nilIface .nilIface).run Tryd.prog w = .ok (.bool false) w := run_neq_nil_nil_at w _ (by kernel_rfl)
theorem eqIf (w : World) (u : TypeId) (x : Value) : (binOp .eql 82 (.iface u x) .nilIface).run Tryd.prog w = .ok (.bool false) w := run_eql_iface_nil w _ (by kernel_rfl) u x
theorem neIf (w : World) (u : TypeId) (x : Value) : (binOp .neq 82 (.iface u x) .nilIface).run Tryd.prog w = .ok (.bool true) w := run_neq_iface_nil w _ (by kernel_rfl) u x

set_option maxHeartbeats 400000 in
theorem fail_live (w : World) (R : Nat) (A : Option Addr) (n c : Nat) (p : Int) (a : Addr) (h : Rd w R A n c p .nilIface) :
    Calls Tryd.prog 63 #[.pointer (some ⟨R, 0, none⟩), .iface 111 (.pointer (some a))] w fun e w' => e = .returned (.tuple #[]) ∧ w' = w.setCell ⟨R, 2, none⟩ (.iface 111 (.pointer (some a))) := by
  obtain ⟨c0, c1, c2, f1, f2⟩ := h
  have h1 := eqNil
  go_enter Tryd.func63, Tryd.ntmps63
  go_wp2
  go_end0
  exact ⟨rfl, rfl⟩
set_option maxHeartbeats 400000 in
theorem fail_dead (w : World) (R : Nat) (A : Option Addr) (n c : Nat) (p : Int) (g : Value) (u : TypeId) (x : Value) (h : Rd w R A n c p (.iface u x)) :
    Calls Tryd.prog 63 #[.pointer (some ⟨R, 0, none⟩), g] w fun e w' => e = .returned (.tuple #[]) ∧ w' = w := by
  obtain ⟨c0, c1, c2, f1, f2⟩ := h
  have h1 := eqIf
  go_enter Tryd.func63, Tryd.ntmps63
  go_wp2
  go_end0
  exact ⟨rfl, rfl⟩
theorem blk3 {w : World} {g : Nat} {a b c : Value} {t : TypeId} (h : w.heap[g]? = some (.cells #[a, b, c] t (0, 0))) :
    w.cell? ⟨g, 0, none⟩ = some a ∧ w.cell? ⟨g, 1, none⟩ = some b ∧ w.cell? ⟨g, 2, none⟩ = some c ∧ w.frozen? ⟨g, 1, none⟩ = false ∧ w.frozen? ⟨g, 2, none⟩ = false := by
  refine ⟨?_, ?_, ?_, ?_, ?_⟩ <;> simp [World.cell?, World.frozen?, h]
theorem Rd.new (w : World) (A : Option Addr) (n c : Nat) (p : Int) (f : Value) (t : TypeId) : Rd (w.alloc (.cells #[.slice A n c, .int .i64 p, f] t)) w.heap.size A n c p f := by
  obtain ⟨h0, h1, h2, h3, h4⟩ := blk3 (heap_alloc_new w (.cells #[.slice A n c, .int .i64 p, f] t))
  exact ⟨h0, h1, h2, h3, h4⟩

set_option maxHeartbeats 800000 in
theorem readFrom_in (w : World) (A : Option Addr) (n c : Nat) (p : Int) (h0 : 0 ≤ p) (h1 : p ≤ n) :
    Calls Tryd.prog 48 #[.slice A n c, .int .i64 p] w fun e w' => e = .returned (.pointer (some ⟨w.heap.size, 0, none⟩)) ∧ Rd w' w.heap.size A n c p .nilIface ∧ Below w.heap.size w w' := by
  have hd0 : decide (p < 0) = false := by simp; omega
  have hd1 : decide ((n : Int) < p) = false := by simp; omega
  go_enter Tryd.func48, Tryd.ntmps48
  go_wp2
  go_ret
  exact ⟨rfl, Rd.new _ _ _ _ _ _ _, below_a1 _ _⟩
set_option maxHeartbeats 800000 in
theorem readFrom_out (w : World) (A : Option Addr) (n c : Nat) (p : Int) (B : Nat) (aT aB aO : Addr) (hE : Errs B w aT aB aO) (h0 : p < 0 ∨ (n : Int) < p) :
    Calls Tryd.prog 48 #[.slice A n c, .int .i64 p] w fun e w' => e = .returned (.pointer (some ⟨w.heap.size, 0, none⟩)) ∧ Rd w' w.heap.size none 0 0 0 (.iface 111 (.pointer (some aO))) ∧ Below w.heap.size w w' := by
  obtain ⟨_, cT, cB, cO⟩ := hE
  by_cases h : p < 0
  · have hd0 : decide (p < 0) = true := by simp [h]
    go_enter Tryd.func48, Tryd.ntmps48
    go_wp2
    go_ret
    exact ⟨rfl, Rd.new _ _ _ _ _ _ _, below_a1 _ _⟩
  · have hd0 : decide (p < 0) = false := by simp; omega
    have hd1 : decide ((n : Int) < p) = true := by simp; omega
    go_enter Tryd.func48, Tryd.ntmps48
    go_wp2
    go_ret
    exact ⟨rfl, Rd.new _ _ _ _ _ _ _, below_a1 _ _⟩

set_option maxHeartbeats 1600000 in
theorem next_dead (w : World) (R : Nat) (A : Option Addr) (n c : Nat) (p : Int) (u : TypeId) (x : Value) (h : Rd w R A n c p (.iface u x)) :
    Calls Tryd.prog 62 #[.pointer (some ⟨R, 0, none⟩)] w (Left w R A n c (.int .i64 0) p (.iface u x)) := by
  have H := Lib.hid h
  obtain ⟨c0, c1, c2, f1, f2⟩ := h
  have h1 := eqIf
  have h2 := neIf
  go_enter Tryd.func62, Tryd.ntmps62
  go_wp2
  go_quiet (fail)
  go_wp2
  go_ret
  exact ⟨rfl, H.out.drewN _, grown_drewN _ _ _⟩
set_option maxHeartbeats 1600000 in
theorem next_end (w : World) (R : Nat) (A : Option Addr) (n c : Nat) (B : Nat) (aT aB aO : Addr) (hE : Errs B w aT aB aO) (h : Rd w R A n c n .nilIface) :
    Calls Tryd.prog 62 #[.pointer (some ⟨R, 0, none⟩)] w (Left w R A n c (.int .i64 0) n (.iface 111 (.pointer (some aT)))) := by
  have H := Lib.hid h
  have HN := Lib.hid ((h.set2 (.iface 111 (.pointer (some aT)))))
  obtain ⟨k0, k1, k2, _, _⟩ := HN.out
  obtain ⟨_, cT, cB, cO⟩ := hE
  obtain ⟨c0, c1, c2, f1, f2⟩ := h
  have h1 := eqNil
  have h2 := neIf
  go_enter Tryd.func62, Tryd.ntmps62
  go_wp2
  go_quiet (fail)
  go_wp2_with (go_at_call 63; refine (fail_live _ R A n c n _ (H.out.drewN _)).mono ?_; rintro e w' ⟨rfl, rfl⟩)
  go_ret
  exact ⟨rfl, HN.out.drewN _, grown_todrew (grown_set _ _ _) _⟩
set_option maxHeartbeats 1600000 in
theorem next_live (w : World) (R : Nat) (A : Option Addr) (n c : Nat) (p : Nat) (bs : List Int) (B : Nat) (hB : IsBytes w B A n bs) (hBR : B ≤ R) (hn : n ≤ 1048576) (h : Rd w R A n c p .nilIface) (hp : p < n) :
    Calls Tryd.prog 62 #[.pointer (some ⟨R, 0, none⟩)] w (Left w R A n c (.int .i64 (bs.getD p 0)) ((p + 1 : Nat) : Int) .nilIface) := by
  obtain ⟨b, off, z, rfl, hbB, hz, hc, hz0, hz1⟩ := hB.at_ hp
  rw [← hz, show ((p + 1 : Nat) : Int) = (p : Int) + 1 by omega]
  clear hz
  have H := Lib.hid h
  obtain ⟨k0, k1, k2, _, _⟩ := h.set1 ((p : Int) + 1)
  have k3 : (w.setCell ⟨R, 1, none⟩ (.int .i64 ((p : Int) + 1))).cell? ⟨b, off + p, none⟩ = some (.int .u8 z) := (World.cell?_setCell_other _ _ _ _ (by simp <;> omega)).trans hc
  obtain ⟨c0, c1, c2, f1, f2⟩ := h
  have h1 := eqNil
  have h2 := neNil
  have hne : ((p : Int) == (n : Int)) = false := by simp; omega
  go_enter Tryd.func62, Tryd.ntmps62
  go_wp2
  go_quiet (fail)
  go_wp2
  go_quiet (fail)
  go_wp2
  go_ret
  exact ⟨rfl, ((H.out.drewN _).set1 _).drewN _, grown_todrew (grown_undrew (grown_set _ _ _)) _⟩
end Go.Proofs.YtpghccbknlokcaaDoor.Rd
