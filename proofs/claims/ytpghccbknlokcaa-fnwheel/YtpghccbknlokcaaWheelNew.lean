/-
  CONTRACTS of NewWheel, the program's and the model's, over this seat's translation; and boxes that hold a wheel.
-/
import Derived.Test.YtpghccbknlokcaaTimerMark
import Derived.Test.YtpghccbknlokcaaTimerEq
import Derived.Test.YtpghccbknlokcaaTick
namespace Go.Proofs.Ytpghccbknlokcaa.Timers
open Go.ChangeShapes Go.WideShapes Go.ChangeAt Go.RowKit
open Go.Proofs.Ytpghccbknlokcaa.Tick (tokB tok_t tickOk_any specTickOk_any)
set_option linter.unusedVariables false

/-- A variable that holds a wheel. -/
def Box (w : World) (b : Nat) (now : Int) (A : Option Addr) (n c : Nat) : Prop := w.cell? ⟨b, 0, none⟩ = some (.int .i64 now) ∧ w.cell? ⟨b, 1, none⟩ = some (.slice A n c)
section
variable {w w' : World} {b : Nat} {now : Int} {A : Option Addr} {n c : Nat}
theorem Box.lt (h : Box w b now A n c) : b < w.heap.size := World.block_lt_of_cell? w _ h.1
theorem Box.below (h : Box w b now A n c) (hb : Below w.heap.size w w') : Box w' b now A n c := ⟨below_keep hb h.1, below_keep hb h.2⟩
theorem Box.alloc (h : Box w b now A n c) (o : Obj) : Box (w.alloc o) b now A n c := h.below (below_a1 w o)
theorem Box.new (w : World) (now : Int) (A : Option Addr) (n c : Nat) (t : TypeId) : Box (w.alloc (.cells #[.int .i64 now, .slice A n c] t)) w.heap.size now A n c := by
  obtain ⟨h0, h1, _⟩ := blk2 (heap_alloc_new w (.cells #[.int .i64 now, .slice A n c] t))
  exact ⟨h0, h1⟩
theorem Box.turned {lo hi : Nat} (h : Box w b now A n c) (ht : Turned lo hi w w') (hh : b < lo ∨ hi ≤ b) : Box w' b now A n c :=
  ⟨(World.cell?_of_block (ht.block b h.lt hh)).trans h.1, (World.cell?_of_block (ht.block b h.lt hh)).trans h.2⟩
end

/-- What a function that answers a wheel and one thing more leaves. -/
def AnsW (w : World) (now : Int) (ss : List TList) (r : Value) (e : Ending) (w' : World) : Prop :=
  ∃ A c, e = .returned (.tuple #[.agg #[.int .i64 now, .slice A ss.length c], r]) ∧ OwnS w' w.heap.size w'.heap.size A ss.length c ss ∧ Below w.heap.size w w'

theorem OwnS.none (w : World) (lo hi : Nat) (A : Option Addr) (c : Nat) : OwnS w lo hi A 0 c [] := ⟨rfl, fun h => absurd h (by omega)⟩

theorem heap_new_below {w w1 : World} {o : Obj} (h : Below (w.alloc o).heap.size (w.alloc o) w1) : w1.heap[w.heap.size]? = some o := by
  rw [h.block _ (by simp)]
  exact heap_alloc_new w o

/-- Eight empty lists. -/
def empty8 : List TList := List.replicate 8 []
theorem empty8_len : empty8.length = 8 := rfl

set_option maxHeartbeats 800000 in
theorem newWheel_ok (t : Int) (w : World) (h0 : tokB t = true) :
    Calls Try.prog 8 #[.int .i64 t] w (AnsW w t empty8 (.bool true)) := by
  obtain ⟨i0, hi, hz0, hz1, hz2⟩ := info_parts info66
  go_enter Try.func8, Try.ntmps8
  go_wp2_with (first | (go_at_call 44; refine (tickOk_any _ _).mono ?_; rintro e w' ⟨rfl, rfl⟩) | (at_make; refine wpList_make_full _ rfl _ _ 24 rfl (w.heap.size + 1) 96 i0 (.slice none 0 0) 1 Try.underlying24 hi hz0 hz1 _ _ _ _ 8 rfl rfl rfl rfl ?b1 ?b2 ?b3 ?_))
  case b1 => rw [hz2]; omega
  case b2 => unfold maxLen; omega
  case b3 => simp
  intro w1 hown hgrow
  have hP0 : (madeCells #[Value.slice none 0 0] 8).toList = List.replicate 8 (.slice none 0 0) := toList_madeCells_one _ _
  rw [hP0] at hown
  have hb1 : Below (w.alloc (.cells #[.int .i64 0, .slice none 0 0] 26)).heap.size (w.alloc (.cells #[.int .i64 0, .slice none 0 0] 26)) w1 := (Below.refl _ _).grown hgrow (Nat.le_refl _) (by intro k h; cases h)
  have hO := Lib.hid (OwnS.made hown (Ints.own_lt hown))
  have hb : Below w.heap.size w w1 := (below_a1 w _).trans (hb1.mono (by simp))
  obtain ⟨c0, c1, f0, f1⟩ := blk2 (heap_new_below hb1)
  clear hP0 hgrow hi hz0 hz1 hz2 hb1 hown
  go_wp2
  refine bodyPost_ret (v := .tuple #[.agg #[.int .i64 t, .slice (some ⟨w.heap.size + 1, 0, none⟩) 8 8], .bool true]) (by simp [results, Try.results8, go_sem, c0, c1]) rfl ⟨_, 8, rfl, ?_, ?_⟩
  · have h1 := (hO.out.setLow (p := ⟨w.heap.size, 0, none⟩) (by show w.heap.size < _; omega) (.int .i64 t)).setLow (p := ⟨w.heap.size, 1, none⟩) (by show w.heap.size < _; omega) (.slice (some ⟨w.heap.size + 1, 0, none⟩) 8 8)
    refine (h1.base (by omega)).more ?_
    simp [World.setCell]
  · exact (hb.setCell (p := ⟨w.heap.size, 0, none⟩) (Nat.le_refl _) _).setCell (p := ⟨w.heap.size, 1, none⟩) (Nat.le_refl _) _
theorem newWheel_no (t : Int) (w : World) (h0 : tokB t = false) :
    Calls Try.prog 8 #[.int .i64 t] w (AnsW w 0 [] (.bool false)) := by
  go_enter Try.func8, Try.ntmps8
  go_wp2_with (go_at_call 44; refine (tickOk_any _ _).mono ?_; rintro e w' ⟨rfl, rfl⟩)
  exact bodyPost_ret (v := .tuple #[.agg #[.int .i64 0, .slice none 0 0], .bool false]) (by simp [results, Try.results8, go_sem]) rfl ⟨none, 0, rfl, OwnS.none _ _ _ _ _, below_a1 _ _⟩


end Go.Proofs.Ytpghccbknlokcaa.Timers
