/-
  HEALTH over this seat's translation: what l06Long, IsAvailable, IsLost and NextHealth of the model answer.
-/
import Derived.Test.YtlghdmakaocokaaGreatDoorSp
import Derived.Test.YtlghdmakaocokaaGreatDoorTick2
namespace Go.Proofs.YtlghdmakaocokaaGreatDoor.Hl
open Go.ChangeShapes Go.WideShapes Go.ChangeAt Go.RowKit
open Go.Proofs.YtlghdmakaocokaaGreatDoor.LK Go.Proofs.YtlghdmakaocokaaGreatDoor.Sp
open Go.Proofs.YtlghdmakaocokaaGreatDoor.Tick (inB in_t in_f tokB tok_t tok_f sinceV)
open Go.Proofs.YtlghdmakaocokaaGreatDoor.Tick (specTickOk_any)
open Go.Proofs.YtlghdmakaocokaaGreatDoor.Tick (tickOk_any)
open Go.Proofs.YtlghdmakaocokaaGreatDoor.Tick (sinceI_any)
set_option linter.unusedVariables false
set_option linter.unusedSimpArgs false

def availB (x0 x1 x2 x3 x4 x5 x6 x7 x8 x9 x10 p2 p4 now : Int) : Bool := specB x0 x1 x2 x3 x4 x5 x6 x7 x8 x9 x10 && tokB now && decide (p2 = 2) && decide (x3 ≤ sinceV p4 now)
def lostB (x0 x1 x2 x3 x4 x5 x6 x7 x8 x9 x10 p2 p4 now : Int) : Bool := specB x0 x1 x2 x3 x4 x5 x6 x7 x8 x9 x10 && tokB now && (decide (p2 = 3) || ((decide (p2 = 0) || decide (p2 = 1)) && decide (x7 ≤ sinceV p4 now)))
def cutV (a : Int) : Int := if 1000000000 < a then -1 else a
def nextV (x0 x1 x2 x3 x4 x5 x6 x7 x8 x9 x10 p2 p4 : Int) : Int := if specB x0 x1 x2 x3 x4 x5 x6 x7 x8 x9 x10 && tokB p4 then (if p2 = 3 then p4 else if p2 = 2 then cutV (p4 + x3) else if p2 = 0 ∨ p2 = 1 then cutV (p4 + x7) else -1) else -1
theorem since_bd (a b : Int) : -1 ≤ sinceV a b ∧ sinceV a b ≤ 1000000000 := by
  unfold sinceV tokB
  split
  · rename_i h
    simp at h
    omega
  · omega
set_option maxRecDepth 100000 in
set_option maxHeartbeats 1600000 in
theorem long_any (p0 p1 p2 p3 p4 now d : Int) (w : World) :
    Calls Tryz.prog 50 #[.agg #[.int .i64 p0, .int .i64 p1, .int .i64 p2, .int .i64 p3, .int .i64 p4], .int .i64 now, .int .i64 d] w (Says (.bool (decide (0 ≤ sinceV p4 now) && decide (d ≤ sinceV p4 now))) w) := by
  obtain ⟨z, hz⟩ : ∃ z, z = sinceV p4 now := ⟨_, rfl⟩
  obtain ⟨V, hV⟩ : ∃ V, V = (w.alloc (.cells #[.int .i64 p0, .int .i64 p1, .int .i64 p2, .int .i64 p3, .int .i64 p4] 51)) := ⟨_, rfl⟩
  have hbV : Below w.heap.size w V := by rw [hV]; exact bel1 _ _
  have BP : Hid (V.heap[w.heap.size]? = some (.cells #[.int .i64 p0, .int .i64 p1, .int .i64 p2, .int .i64 p3, .int .i64 p4] 51)) := by have h := box_new w (.cells #[.int .i64 p0, .int .i64 p1, .int .i64 p2, .int .i64 p3, .int .i64 p4] 51); (try simp only [World.size_alloc] at h); rw [hV]; exact h
  go_enter Tryz.func50, Tryz.ntmps50
  go_wp2_with fail
  rw [← hV]
  clear hV
  refine (Tick.specSince_any p4 now _).mono ?_
  rintro e w' ⟨rfl, rfl⟩
  rw [← hz]
  have HZ := Lib.hid hz
  clear hz
  by_cases h0 : 0 ≤ z <;> by_cases h1 : d ≤ z
  all_goals
    go_wp2
    go_ret
    exact ⟨by rw [← HZ.out]; simp [h0, h1], hbV⟩
set_option maxRecDepth 100000 in
set_option maxHeartbeats 1600000 in
theorem specIsAvailable_any (x0 x1 x2 x3 x4 x5 x6 x7 x8 x9 x10 p0 p1 p2 p3 p4 now : Int) (w : World) :
    Calls Tryz.prog 39 #[.agg #[.int .i64 x0, .int .i64 x1, .int .i64 x2, .int .i64 x3, .int .i64 x4, .int .i64 x5, .int .i64 x6, .int .i64 x7, .int .i64 x8, .int .i64 x9, .int .i64 x10], .agg #[.int .i64 p0, .int .i64 p1, .int .i64 p2, .int .i64 p3, .int .i64 p4], .int .i64 now] w (Says (.bool (availB x0 x1 x2 x3 x4 x5 x6 x7 x8 x9 x10 p2 p4 now)) w) := by
  obtain ⟨R, hR⟩ : ∃ R, R = availB x0 x1 x2 x3 x4 x5 x6 x7 x8 x9 x10 p2 p4 now := ⟨_, rfl⟩
  rw [← hR]
  have HR := Lib.hid hR
  clear hR
  obtain ⟨V, hV⟩ : ∃ V, V = ((w.alloc (.cells #[.int .i64 x0, .int .i64 x1, .int .i64 x2, .int .i64 x3, .int .i64 x4, .int .i64 x5, .int .i64 x6, .int .i64 x7, .int .i64 x8, .int .i64 x9, .int .i64 x10] 36)).alloc (.cells #[.int .i64 p0, .int .i64 p1, .int .i64 p2, .int .i64 p3, .int .i64 p4] 51)) := ⟨_, rfl⟩
  have hbV : Below w.heap.size w V := by rw [hV]; exact bel2 _ _ _
  have BS : Hid (V.heap[w.heap.size]? = some (.cells #[.int .i64 x0, .int .i64 x1, .int .i64 x2, .int .i64 x3, .int .i64 x4, .int .i64 x5, .int .i64 x6, .int .i64 x7, .int .i64 x8, .int .i64 x9, .int .i64 x10] 36)) := by have h := box_alloc (box_new w (.cells #[.int .i64 x0, .int .i64 x1, .int .i64 x2, .int .i64 x3, .int .i64 x4, .int .i64 x5, .int .i64 x6, .int .i64 x7, .int .i64 x8, .int .i64 x9, .int .i64 x10] 36)) (.cells #[.int .i64 p0, .int .i64 p1, .int .i64 p2, .int .i64 p3, .int .i64 p4] 51); (try simp only [World.size_alloc] at h); rw [hV]; exact h
  have BP : Hid (V.heap[w.heap.size + 1]? = some (.cells #[.int .i64 p0, .int .i64 p1, .int .i64 p2, .int .i64 p3, .int .i64 p4] 51)) := by have h := box_new (w.alloc (.cells #[.int .i64 x0, .int .i64 x1, .int .i64 x2, .int .i64 x3, .int .i64 x4, .int .i64 x5, .int .i64 x6, .int .i64 x7, .int .i64 x8, .int .i64 x9, .int .i64 x10] 36)) (.cells #[.int .i64 p0, .int .i64 p1, .int .i64 p2, .int .i64 p3, .int .i64 p4] 51); (try simp only [World.size_alloc] at h); rw [hV]; exact h
  go_enter Tryz.func39, Tryz.ntmps39
  go_wp2_with fail
  rw [← hV]
  clear hV
  refine (specSpecOk_any x0 x1 x2 x3 x4 x5 x6 x7 x8 x9 x10 _).mono ?_
  rintro e w1 ⟨rfl, hbs⟩
  have BS' := Lib.hid (box_below BS.out hbs)
  have BP' := Lib.hid (box_below BP.out hbs)
  have hbn1 : Below w.heap.size w w1 := bel_then hbV hbs hbV.size
  clear BS
  have BS := BS'
  clear BS'
  clear BP
  have BP := BP'
  clear BP'
  clear hbs
  cases hs : specB x0 x1 x2 x3 x4 x5 x6 x7 x8 x9 x10
  · have HV : Hid (R = false) := by show R = false; rw [HR.out]; simp [availB, hs]
    go_wp2
    go_ret
    exact ⟨by rw [HV.out]; rfl, hbn1⟩
  go_wp2_with fail
  refine (specTickOk_any now _).mono ?_
  rintro e w' ⟨rfl, rfl⟩
  cases ht : tokB now
  · have HV : Hid (R = false) := by show R = false; rw [HR.out]; simp [availB, ht]
    go_wp2
    go_ret
    exact ⟨by rw [HV.out]; rfl, hbn1⟩
  have cBS_0 : w1.cell? ⟨w.heap.size, 0, none⟩ = some (.int .i64 x0) := box_cell BS.out 0 _ rfl
  have cBS_1 : w1.cell? ⟨w.heap.size, 1, none⟩ = some (.int .i64 x1) := box_cell BS.out 1 _ rfl
  have cBS_2 : w1.cell? ⟨w.heap.size, 2, none⟩ = some (.int .i64 x2) := box_cell BS.out 2 _ rfl
  have cBS_3 : w1.cell? ⟨w.heap.size, 3, none⟩ = some (.int .i64 x3) := box_cell BS.out 3 _ rfl
  have cBS_4 : w1.cell? ⟨w.heap.size, 4, none⟩ = some (.int .i64 x4) := box_cell BS.out 4 _ rfl
  have cBS_5 : w1.cell? ⟨w.heap.size, 5, none⟩ = some (.int .i64 x5) := box_cell BS.out 5 _ rfl
  have cBS_6 : w1.cell? ⟨w.heap.size, 6, none⟩ = some (.int .i64 x6) := box_cell BS.out 6 _ rfl
  have cBS_7 : w1.cell? ⟨w.heap.size, 7, none⟩ = some (.int .i64 x7) := box_cell BS.out 7 _ rfl
  have cBS_8 : w1.cell? ⟨w.heap.size, 8, none⟩ = some (.int .i64 x8) := box_cell BS.out 8 _ rfl
  have cBS_9 : w1.cell? ⟨w.heap.size, 9, none⟩ = some (.int .i64 x9) := box_cell BS.out 9 _ rfl
  have cBS_10 : w1.cell? ⟨w.heap.size, 10, none⟩ = some (.int .i64 x10) := box_cell BS.out 10 _ rfl
  have cBP_0 : w1.cell? ⟨w.heap.size + 1, 0, none⟩ = some (.int .i64 p0) := box_cell BP.out 0 _ rfl
  have cBP_1 : w1.cell? ⟨w.heap.size + 1, 1, none⟩ = some (.int .i64 p1) := box_cell BP.out 1 _ rfl
  have cBP_2 : w1.cell? ⟨w.heap.size + 1, 2, none⟩ = some (.int .i64 p2) := box_cell BP.out 2 _ rfl
  have cBP_3 : w1.cell? ⟨w.heap.size + 1, 3, none⟩ = some (.int .i64 p3) := box_cell BP.out 3 _ rfl
  have cBP_4 : w1.cell? ⟨w.heap.size + 1, 4, none⟩ = some (.int .i64 p4) := box_cell BP.out 4 _ rfl
  by_cases h2 : p2 = 2
  case neg =>
    have HV : Hid (R = false) := by show R = false; rw [HR.out]; simp [availB, h2]
    go_wp2
    go_ret
    exact ⟨by rw [HV.out]; rfl, hbn1⟩
  have hx3 : 0 ≤ x3 := by have := specB_t hs; omega
  have HV : Hid (R = (decide (0 ≤ sinceV p4 now) && decide (x3 ≤ sinceV p4 now))) := by
    show R = _; rw [HR.out]; simp only [availB, hs, ht, h2]; simp; intro h; omega
  skip
  have HLg : Hid (∀ W : World, Calls Tryz.prog 50 #[.agg #[.int .i64 p0, .int .i64 p1, .int .i64 p2, .int .i64 p3, .int .i64 p4], .int .i64 now, .int .i64 x3] W (Says (.bool R) W)) := fun W => by rw [HV.out]; exact long_any p0 p1 p2 p3 p4 now x3 W
  clear HV HR
  subst h2
  go_wp2_with fail
  refine (HLg.out _).mono ?_
  rintro e w2 ⟨rfl, hbs⟩
  clear cBS_0 cBS_1 cBS_2 cBS_3 cBS_4 cBS_5 cBS_6 cBS_7 cBS_8 cBS_9 cBS_10 cBP_0 cBP_1 cBP_2 cBP_3 cBP_4
  have BS' := Lib.hid (box_below BS.out hbs)
  have BP' := Lib.hid (box_below BP.out hbs)
  have hbn2 : Below w.heap.size w w2 := bel_then hbn1 hbs hbn1.size
  clear BS
  have BS := BS'
  clear BS'
  clear BP
  have BP := BP'
  clear BP'
  clear hbs
  go_wp2
  go_ret
  exact ⟨rfl, hbn2⟩
end Go.Proofs.YtlghdmakaocokaaGreatDoor.Hl
