/-
  HEALTH over this seat's translation: what l06Long, IsAvailable, IsLost and NextHealth of the model answer.
-/
import Derived.Test.YtdefckbgcggnoaaGreatSp
import Derived.Test.YtdefckbgcggnoaaGreatTick2
namespace Go.Proofs.YtdefckbgcggnoaaGreat.Hl
open Go.ChangeShapes Go.WideShapes Go.ChangeAt Go.RowKit
open Go.Proofs.YtdefckbgcggnoaaGreat.LK Go.Proofs.YtdefckbgcggnoaaGreat.Sp
open Go.Proofs.YtdefckbgcggnoaaGreat.Tick (inB in_t in_f tokB tok_t tok_f sinceV specTickOk_any tickOk_any sinceI_any)
set_option linter.unusedVariables false
set_option linter.unusedSimpArgs false

def availB (x0 x1 x2 x3 x4 x5 x6 x7 x8 x9 x10 p2 p4 now : Int) : Bool := specB x0 x1 x2 x3 x4 x5 x6 x7 x8 x9 x10 && tokB now && decide (p2 = 2) && decide (x3 ≤ sinceV p4 now)
def lostB (x0 x1 x2 x3 x4 x5 x6 x7 x8 x9 x10 p2 p4 now : Int) : Bool := specB x0 x1 x2 x3 x4 x5 x6 x7 x8 x9 x10 && tokB now && (decide (p2 = 3) || ((decide (p2 = 0) || decide (p2 = 1)) && decide (x7 ≤ sinceV p4 now)))
def cutV (a : Int) : Int := if 1000000000 < a then -1 else a
def nextV (x0 x1 x2 x3 x4 x5 x6 x7 x8 x9 x10 p2 p4 : Int) : Int := if specB x0 x1 x2 x3 x4 x5 x6 x7 x8 x9 x10 && tokB p4 then (if p2 = 3 then p4 else if p2 = 2 then cutV (p4 + x3) else if p2 = 0 ∨ p2 = 1 then cutV (p4 + x7) else -1) else -1
theorem since_bd (a b : Int) : -1 ≤ sinceV a b ∧ sinceV a b ≤ 1000000000 := by
  unfold sinceV tokB
  split
  · rename_i h
    simp at h
    omega
  · omega
set_option maxRecDepth 100000 in
set_option maxHeartbeats 1600000 in
theorem long_any (p0 p1 p2 p3 p4 now d : Int) (w : World) :
    Calls Tryz.prog 122 #[.agg #[.int .i64 p0, .int .i64 p1, .int .i64 p2, .int .i64 p3, .int .i64 p4], .int .i64 now, .int .i64 d] w (Says (.bool (decide (0 ≤ sinceV p4 now) && decide (d ≤ sinceV p4 now))) w) := by
  obtain ⟨z, hz⟩ : ∃ z, z = sinceV p4 now := ⟨_, rfl⟩
  obtain ⟨V, hV⟩ : ∃ V, V = (w.alloc (.cells #[.int .i64 p0, .int .i64 p1, .int .i64 p2, .int .i64 p3, .int .i64 p4] 77)) := ⟨_, rfl⟩
  have hbV : Below w.heap.size w V := by rw [hV]; exact bel1 _ _
  have BP : Hid (V.heap[w.heap.size]? = some (.cells #[.int .i64 p0, .int .i64 p1, .int .i64 p2, .int .i64 p3, .int .i64 p4] 77)) := by have h := box_new w (.cells #[.int .i64 p0, .int .i64 p1, .int .i64 p2, .int .i64 p3, .int .i64 p4] 77); (try simp only [World.size_alloc] at h); rw [hV]; exact h
  go_enter Tryz.func122, Tryz.ntmps122
  go_wp2_with fail
  rw [← hV]
  clear hV
  refine (Tick.specSince_any p4 now _).mono ?_
  rintro e w' ⟨rfl, rfl⟩
  rw [← hz]
  have HZ := Lib.hid hz
  clear hz
  by_cases h0 : 0 ≤ z <;> by_cases h1 : d ≤ z
  all_goals
    go_wp2
    go_ret
    exact ⟨by rw [← HZ.out]; simp [h0, h1], hbV⟩
set_option maxRecDepth 100000 in
set_option maxHeartbeats 1600000 in
theorem specIsAvailable_any (x0 x1 x2 x3 x4 x5 x6 x7 x8 x9 x10 p0 p1 p2 p3 p4 now : Int) (w : World) :
    Calls Tryz.prog 96 #[.agg #[.int .i64 x0, .int .i64 x1, .int .i64 x2, .int .i64 x3, .int .i64 x4, .int .i64 x5, .int .i64 x6, .int .i64 x7, .int .i64 x8, .int .i64 x9, .int .i64 x10], .agg #[.int .i64 p0, .int .i64 p1, .int .i64 p2, .int .i64 p3, .int .i64 p4], .int .i64 now] w (Says (.bool (availB x0 x1 x2 x3 x4 x5 x6 x7 x8 x9 x10 p2 p4 now)) w) := by
  obtain ⟨R, hR⟩ : ∃ R, R = availB x0 x1 x2 x3 x4 x5 x6 x7 x8 x9 x10 p2 p4 now := ⟨_, rfl⟩
  rw [← hR]
  have HR := Lib.hid hR
  clear hR
  obtain ⟨V, hV⟩ : ∃ V, V = ((w.alloc (.cells #[.int .i64 x0, .int .i64 x1, .int .i64 x2, .int .i64 x3, .int .i64 x4, .int .i64 x5, .int .i64 x6, .int .i64 x7, .int .i64 x8, .int .i64 x9, .int .i64 x10] 25)).alloc (.cells #[.int .i64 p0, .int .i64 p1, .int .i64 p2, .int .i64 p3, .int .i64 p4] 77)) := ⟨_, rfl⟩
  have hbV : Below w.heap.size w V := by rw [hV]; exact bel2 _ _ _
  have BS : Hid (V.heap[w.heap.size]? = some (.cells #[.int .i64 x0, .int .i64 x1, .int .i64 x2, .int .i64 x3, .int .i64 x4, .int .i64 x5, .int .i64 x6, .int .i64 x7, .int .i64 x8, .int .i64 x9, .int .i64 x10] 25)) := by have h := box_alloc (box_new w (.cells #[.int .i64 x0, .int .i64 x1, .int .i64 x2, .int .i64 x3, .int .i64 x4, .int .i64 x5, .int .i64 x6, .int .i64 x7, .int .i64 x8, .int .i64 x9, .int .i64 x10] 25)) (.cells #[.int .i64 p0, .int .i64 p1, .int .i64 p2, .int .i64 p3, .int .i64 p4] 77); (try simp only [World.size_alloc] at h); rw [hV]; exact h
  have BP : Hid (V.heap[w.heap.size + 1]? = some (.cells #[.int .i64 p0, .int .i64 p1, .int .i64 p2, .int .i64 p3, .int .i64 p4] 77)) := by have h := box_new (w.alloc (.cells #[.int .i64 x0, .int .i64 x1, .int .i64 x2, .int .i64 x3, .int .i64 x4, .int .i64 x5, .int .i64 x6, .int .i64 x7, .int .i64 x8, .int .i64 x9, .int .i64 x10] 25)) (.cells #[.int .i64 p0, .int .i64 p1, .int .i64 p2, .int .i64 p3, .int .i64 p4] 77); (try simp only [World.size_alloc] at h); rw [hV]; exact h
  go_enter Tryz.func96, Tryz.ntmps96
  go_wp2_with fail
  rw [← hV]
  clear hV
  refine (specSpecOk_any x0 x1 x2 x3 x4 x5 x6 x7 x8 x9 x10 _).mono ?_
  rintro e w1 ⟨rfl, hbs⟩
  have BS' := Lib.hid (box_below BS.out hbs)
  have BP' := Lib.hid (box_below BP.out hbs)
  have hbn1 : Below w.heap.size w w1 := bel_then hbV hbs hbV.size
  clear BS
  have BS := BS'
  clear BS'
  clear BP
  have BP := BP'
  clear BP'
  clear hbs
  cases hs : specB x0 x1 x2 x3 x4 x5 x6 x7 x8 x9 x10
  · have HV : Hid (R = false) := by show R = false; rw [HR.out]; simp [availB, hs]
    go_wp2
    go_ret
    exact ⟨by rw [HV.out]; rfl, hbn1⟩
  go_wp2_with fail
  refine (specTickOk_any now _).mono ?_
  rintro e w' ⟨rfl, rfl⟩
  cases ht : tokB now
  · have HV : Hid (R = false) := by show R = false; rw [HR.out]; simp [availB, ht]
    go_wp2
    go_ret
    exact ⟨by rw [HV.out]; rfl, hbn1⟩
  have cBS_0 : w1.cell? ⟨w.heap.size, 0, none⟩ = some (.int .i64 x0) := box_cell BS.out 0 _ rfl
  have cBS_1 : w1.cell? ⟨w.heap.size, 1, none⟩ = some (.int .i64 x1) := box_cell BS.out 1 _ rfl
  have cBS_2 : w1.cell? ⟨w.heap.size, 2, none⟩ = some (.int .i64 x2) := box_cell BS.out 2 _ rfl
  have cBS_3 : w1.cell? ⟨w.heap.size, 3, none⟩ = some (.int .i64 x3) := box_cell BS.out 3 _ rfl
  have cBS_4 : w1.cell? ⟨w.heap.size, 4, none⟩ = some (.int .i64 x4) := box_cell BS.out 4 _ rfl
  have cBS_5 : w1.cell? ⟨w.heap.size, 5, none⟩ = some (.int .i64 x5) := box_cell BS.out 5 _ rfl
  have cBS_6 : w1.cell? ⟨w.heap.size, 6, none⟩ = some (.int .i64 x6) := box_cell BS.out 6 _ rfl
  have cBS_7 : w1.cell? ⟨w.heap.size, 7, none⟩ = some (.int .i64 x7) := box_cell BS.out 7 _ rfl
  have cBS_8 : w1.cell? ⟨w.heap.size, 8, none⟩ = some (.int .i64 x8) := box_cell BS.out 8 _ rfl
  have cBS_9 : w1.cell? ⟨w.heap.size, 9, none⟩ = some (.int .i64 x9) := box_cell BS.out 9 _ rfl
  have cBS_10 : w1.cell? ⟨w.heap.size, 10, none⟩ = some (.int .i64 x10) := box_cell BS.out 10 _ rfl
  have cBP_0 : w1.cell? ⟨w.heap.size + 1, 0, none⟩ = some (.int .i64 p0) := box_cell BP.out 0 _ rfl
  have cBP_1 : w1.cell? ⟨w.heap.size + 1, 1, none⟩ = some (.int .i64 p1) := box_cell BP.out 1 _ rfl
  have cBP_2 : w1.cell? ⟨w.heap.size + 1, 2, none⟩ = some (.int .i64 p2) := box_cell BP.out 2 _ rfl
  have cBP_3 : w1.cell? ⟨w.heap.size + 1, 3, none⟩ = some (.int .i64 p3) := box_cell BP.out 3 _ rfl
  have cBP_4 : w1.cell? ⟨w.heap.size + 1, 4, none⟩ = some (.int .i64 p4) := box_cell BP.out 4 _ rfl
  by_cases h2 : p2 = 2
  case neg =>
    have HV : Hid (R = false) := by show R = false; rw [HR.out]; simp [availB, h2]
    go_wp2
    go_ret
    exact ⟨by rw [HV.out]; rfl, hbn1⟩
  have hx3 : 0 ≤ x3 := by have := specB_t hs; omega
  have HV : Hid (R = (decide (0 ≤ sinceV p4 now) && decide (x3 ≤ sinceV p4 now))) := by
    show R = _; rw [HR.out]; simp only [availB, hs, ht, h2]; simp; intro h; omega
  skip
  have HLg : Hid (∀ W : World, Calls Tryz.prog 122 #[.agg #[.int .i64 p0, .int .i64 p1, .int .i64 p2, .int .i64 p3, .int .i64 p4], .int .i64 now, .int .i64 x3] W (Says (.bool R) W)) := fun W => by rw [HV.out]; exact long_any p0 p1 p2 p3 p4 now x3 W
  clear HV HR
  subst h2
  go_wp2_with fail
  refine (HLg.out _).mono ?_
  rintro e w2 ⟨rfl, hbs⟩
  clear cBS_0 cBS_1 cBS_2 cBS_3 cBS_4 cBS_5 cBS_6 cBS_7 cBS_8 cBS_9 cBS_10 cBP_0 cBP_1 cBP_2 cBP_3 cBP_4
  have BS' := Lib.hid (box_below BS.out hbs)
  have BP' := Lib.hid (box_below BP.out hbs)
  have hbn2 : Below w.heap.size w w2 := bel_then hbn1 hbs hbn1.size
  clear BS
  have BS := BS'
  clear BS'
  clear BP
  have BP := BP'
  clear BP'
  clear hbs
  go_wp2
  go_ret
  exact ⟨rfl, hbn2⟩
set_option maxRecDepth 100000 in
set_option maxHeartbeats 1600000 in
theorem specIsLost_any (x0 x1 x2 x3 x4 x5 x6 x7 x8 x9 x10 p0 p1 p2 p3 p4 now : Int) (w : World) :
    Calls Tryz.prog 171 #[.agg #[.int .i64 x0, .int .i64 x1, .int .i64 x2, .int .i64 x3, .int .i64 x4, .int .i64 x5, .int .i64 x6, .int .i64 x7, .int .i64 x8, .int .i64 x9, .int .i64 x10], .agg #[.int .i64 p0, .int .i64 p1, .int .i64 p2, .int .i64 p3, .int .i64 p4], .int .i64 now] w (Says (.bool (lostB x0 x1 x2 x3 x4 x5 x6 x7 x8 x9 x10 p2 p4 now)) w) := by
  obtain ⟨R, hR⟩ : ∃ R, R = lostB x0 x1 x2 x3 x4 x5 x6 x7 x8 x9 x10 p2 p4 now := ⟨_, rfl⟩
  rw [← hR]
  have HR := Lib.hid hR
  clear hR
  obtain ⟨V, hV⟩ : ∃ V, V = ((w.alloc (.cells #[.int .i64 x0, .int .i64 x1, .int .i64 x2, .int .i64 x3, .int .i64 x4, .int .i64 x5, .int .i64 x6, .int .i64 x7, .int .i64 x8, .int .i64 x9, .int .i64 x10] 25)).alloc (.cells #[.int .i64 p0, .int .i64 p1, .int .i64 p2, .int .i64 p3, .int .i64 p4] 77)) := ⟨_, rfl⟩
  have hbV : Below w.heap.size w V := by rw [hV]; exact bel2 _ _ _
  have BS : Hid (V.heap[w.heap.size]? = some (.cells #[.int .i64 x0, .int .i64 x1, .int .i64 x2, .int .i64 x3, .int .i64 x4, .int .i64 x5, .int .i64 x6, .int .i64 x7, .int .i64 x8, .int .i64 x9, .int .i64 x10] 25)) := by have h := box_alloc (box_new w (.cells #[.int .i64 x0, .int .i64 x1, .int .i64 x2, .int .i64 x3, .int .i64 x4, .int .i64 x5, .int .i64 x6, .int .i64 x7, .int .i64 x8, .int .i64 x9, .int .i64 x10] 25)) (.cells #[.int .i64 p0, .int .i64 p1, .int .i64 p2, .int .i64 p3, .int .i64 p4] 77); (try simp only [World.size_alloc] at h); rw [hV]; exact h
  have BP : Hid (V.heap[w.heap.size + 1]? = some (.cells #[.int .i64 p0, .int .i64 p1, .int .i64 p2, .int .i64 p3, .int .i64 p4] 77)) := by have h := box_new (w.alloc (.cells #[.int .i64 x0, .int .i64 x1, .int .i64 x2, .int .i64 x3, .int .i64 x4, .int .i64 x5, .int .i64 x6, .int .i64 x7, .int .i64 x8, .int .i64 x9, .int .i64 x10] 25)) (.cells #[.int .i64 p0, .int .i64 p1, .int .i64 p2, .int .i64 p3, .int .i64 p4] 77); (try simp only [World.size_alloc] at h); rw [hV]; exact h
  go_enter Tryz.func171, Tryz.ntmps171
  go_wp2_with fail
  rw [← hV]
  clear hV
  refine (specSpecOk_any x0 x1 x2 x3 x4 x5 x6 x7 x8 x9 x10 _).mono ?_
  rintro e w1 ⟨rfl, hbs⟩
  have BS' := Lib.hid (box_below BS.out hbs)
  have BP' := Lib.hid (box_below BP.out hbs)
  have hbn1 : Below w.heap.size w w1 := bel_then hbV hbs hbV.size
  clear BS
  have BS := BS'
  clear BS'
  clear BP
  have BP := BP'
  clear BP'
  clear hbs
  cases hs : specB x0 x1 x2 x3 x4 x5 x6 x7 x8 x9 x10
  · have HV : Hid (R = false) := by show R = false; rw [HR.out]; simp [lostB, hs]
    go_wp2
    go_ret
    exact ⟨by rw [HV.out]; rfl, hbn1⟩
  go_wp2_with fail
  refine (specTickOk_any now _).mono ?_
  rintro e w' ⟨rfl, rfl⟩
  cases ht : tokB now
  · have HV : Hid (R = false) := by show R = false; rw [HR.out]; simp [lostB, ht]
    go_wp2
    go_ret
    exact ⟨by rw [HV.out]; rfl, hbn1⟩
  have cBS_0 : w1.cell? ⟨w.heap.size, 0, none⟩ = some (.int .i64 x0) := box_cell BS.out 0 _ rfl
  have cBS_1 : w1.cell? ⟨w.heap.size, 1, none⟩ = some (.int .i64 x1) := box_cell BS.out 1 _ rfl
  have cBS_2 : w1.cell? ⟨w.heap.size, 2, none⟩ = some (.int .i64 x2) := box_cell BS.out 2 _ rfl
  have cBS_3 : w1.cell? ⟨w.heap.size, 3, none⟩ = some (.int .i64 x3) := box_cell BS.out 3 _ rfl
  have cBS_4 : w1.cell? ⟨w.heap.size, 4, none⟩ = some (.int .i64 x4) := box_cell BS.out 4 _ rfl
  have cBS_5 : w1.cell? ⟨w.heap.size, 5, none⟩ = some (.int .i64 x5) := box_cell BS.out 5 _ rfl
  have cBS_6 : w1.cell? ⟨w.heap.size, 6, none⟩ = some (.int .i64 x6) := box_cell BS.out 6 _ rfl
  have cBS_7 : w1.cell? ⟨w.heap.size, 7, none⟩ = some (.int .i64 x7) := box_cell BS.out 7 _ rfl
  have cBS_8 : w1.cell? ⟨w.heap.size, 8, none⟩ = some (.int .i64 x8) := box_cell BS.out 8 _ rfl
  have cBS_9 : w1.cell? ⟨w.heap.size, 9, none⟩ = some (.int .i64 x9) := box_cell BS.out 9 _ rfl
  have cBS_10 : w1.cell? ⟨w.heap.size, 10, none⟩ = some (.int .i64 x10) := box_cell BS.out 10 _ rfl
  have cBP_0 : w1.cell? ⟨w.heap.size + 1, 0, none⟩ = some (.int .i64 p0) := box_cell BP.out 0 _ rfl
  have cBP_1 : w1.cell? ⟨w.heap.size + 1, 1, none⟩ = some (.int .i64 p1) := box_cell BP.out 1 _ rfl
  have cBP_2 : w1.cell? ⟨w.heap.size + 1, 2, none⟩ = some (.int .i64 p2) := box_cell BP.out 2 _ rfl
  have cBP_3 : w1.cell? ⟨w.heap.size + 1, 3, none⟩ = some (.int .i64 p3) := box_cell BP.out 3 _ rfl
  have cBP_4 : w1.cell? ⟨w.heap.size + 1, 4, none⟩ = some (.int .i64 p4) := box_cell BP.out 4 _ rfl
  by_cases h3 : p2 = 3
  case pos =>
    have HV : Hid (R = true) := by show R = true; rw [HR.out]; simp [lostB, hs, ht, h3]
    go_wp2
    go_ret
    exact ⟨by rw [HV.out]; rfl, hbn1⟩
  by_cases h01 : p2 = 0 ∨ p2 = 1
  case neg =>
    have h0 : ¬ p2 = 0 := fun h => h01 (.inl h)
    have h1 : ¬ p2 = 1 := fun h => h01 (.inr h)
    have HV : Hid (R = false) := by show R = false; rw [HR.out]; simp [lostB, h3, h0, h1]
    go_wp2
    go_ret
    exact ⟨by rw [HV.out]; rfl, hbn1⟩
  have hx7 : 0 ≤ x7 := by have := specB_t hs; omega
  have HV : Hid (R = (decide (0 ≤ sinceV p4 now) && decide (x7 ≤ sinceV p4 now))) := by
    show R = _; rw [HR.out]
    have h4 : (decide (p2 = 0) || decide (p2 = 1)) = true := by simpa using h01
    simp only [lostB, hs, ht, h3, h4]; simp; intro h; omega
  have HLg : Hid (∀ W : World, Calls Tryz.prog 122 #[.agg #[.int .i64 p0, .int .i64 p1, .int .i64 p2, .int .i64 p3, .int .i64 p4], .int .i64 now, .int .i64 x7] W (Says (.bool R) W)) := fun W => by rw [HV.out]; exact long_any p0 p1 p2 p3 p4 now x7 W
  clear HV HR h3
  rcases h01 with h0 | h0
  all_goals
    subst h0
    go_wp2_with fail
    refine (HLg.out _).mono ?_
    rintro e w2 ⟨rfl, hbs⟩
    clear cBS_0 cBS_1 cBS_2 cBS_3 cBS_4 cBS_5 cBS_6 cBS_7 cBS_8 cBS_9 cBS_10 cBP_0 cBP_1 cBP_2 cBP_3 cBP_4
    have BS' := Lib.hid (box_below BS.out hbs)
    have BP' := Lib.hid (box_below BP.out hbs)
    have hbn2 : Below w.heap.size w w2 := bel_then hbn1 hbs hbn1.size
    clear BS
    have BS := BS'
    clear BS'
    clear BP
    have BP := BP'
    clear BP'
    clear hbs
    go_wp2
    go_ret
    exact ⟨rfl, hbn2⟩
set_option maxRecDepth 100000 in
set_option maxHeartbeats 1600000 in
theorem specNextHealth_any (x0 x1 x2 x3 x4 x5 x6 x7 x8 x9 x10 p0 p1 p2 p3 p4 : Int) (w : World) :
    Calls Tryz.prog 44 #[.agg #[.int .i64 x0, .int .i64 x1, .int .i64 x2, .int .i64 x3, .int .i64 x4, .int .i64 x5, .int .i64 x6, .int .i64 x7, .int .i64 x8, .int .i64 x9, .int .i64 x10], .agg #[.int .i64 p0, .int .i64 p1, .int .i64 p2, .int .i64 p3, .int .i64 p4]] w (Says (.int .i64 (nextV x0 x1 x2 x3 x4 x5 x6 x7 x8 x9 x10 p2 p4)) w) := by
  obtain ⟨R, hR⟩ : ∃ R, R = nextV x0 x1 x2 x3 x4 x5 x6 x7 x8 x9 x10 p2 p4 := ⟨_, rfl⟩
  rw [← hR]
  have HR := Lib.hid hR
  clear hR
  obtain ⟨V, hV⟩ : ∃ V, V = ((w.alloc (.cells #[.int .i64 x0, .int .i64 x1, .int .i64 x2, .int .i64 x3, .int .i64 x4, .int .i64 x5, .int .i64 x6, .int .i64 x7, .int .i64 x8, .int .i64 x9, .int .i64 x10] 25)).alloc (.cells #[.int .i64 p0, .int .i64 p1, .int .i64 p2, .int .i64 p3, .int .i64 p4] 77)) := ⟨_, rfl⟩
  have hbV : Below w.heap.size w V := by rw [hV]; exact bel2 _ _ _
  have BS : Hid (V.heap[w.heap.size]? = some (.cells #[.int .i64 x0, .int .i64 x1, .int .i64 x2, .int .i64 x3, .int .i64 x4, .int .i64 x5, .int .i64 x6, .int .i64 x7, .int .i64 x8, .int .i64 x9, .int .i64 x10] 25)) := by have h := box_alloc (box_new w (.cells #[.int .i64 x0, .int .i64 x1, .int .i64 x2, .int .i64 x3, .int .i64 x4, .int .i64 x5, .int .i64 x6, .int .i64 x7, .int .i64 x8, .int .i64 x9, .int .i64 x10] 25)) (.cells #[.int .i64 p0, .int .i64 p1, .int .i64 p2, .int .i64 p3, .int .i64 p4] 77); (try simp only [World.size_alloc] at h); rw [hV]; exact h
  have BP : Hid (V.heap[w.heap.size + 1]? = some (.cells #[.int .i64 p0, .int .i64 p1, .int .i64 p2, .int .i64 p3, .int .i64 p4] 77)) := by have h := box_new (w.alloc (.cells #[.int .i64 x0, .int .i64 x1, .int .i64 x2, .int .i64 x3, .int .i64 x4, .int .i64 x5, .int .i64 x6, .int .i64 x7, .int .i64 x8, .int .i64 x9, .int .i64 x10] 25)) (.cells #[.int .i64 p0, .int .i64 p1, .int .i64 p2, .int .i64 p3, .int .i64 p4] 77); (try simp only [World.size_alloc] at h); rw [hV]; exact h
  go_enter Tryz.func44, Tryz.ntmps44
  go_wp2_with fail
  rw [← hV]
  clear hV
  refine (specSpecOk_any x0 x1 x2 x3 x4 x5 x6 x7 x8 x9 x10 _).mono ?_
  rintro e w1 ⟨rfl, hbs⟩
  have BS' := Lib.hid (box_below BS.out hbs)
  have BP' := Lib.hid (box_below BP.out hbs)
  have hbn1 : Below w.heap.size w w1 := bel_then hbV hbs hbV.size
  clear BS
  have BS := BS'
  clear BS'
  clear BP
  have BP := BP'
  clear BP'
  clear hbs
  cases hs : specB x0 x1 x2 x3 x4 x5 x6 x7 x8 x9 x10
  · have HV : Hid (R = -1) := by show R = -1; rw [HR.out]; simp [nextV, hs]
    go_wp2
    go_ret
    exact ⟨by rw [HV.out]; rfl, hbn1⟩
  have cBS_0 : w1.cell? ⟨w.heap.size, 0, none⟩ = some (.int .i64 x0) := box_cell BS.out 0 _ rfl
  have cBS_1 : w1.cell? ⟨w.heap.size, 1, none⟩ = some (.int .i64 x1) := box_cell BS.out 1 _ rfl
  have cBS_2 : w1.cell? ⟨w.heap.size, 2, none⟩ = some (.int .i64 x2) := box_cell BS.out 2 _ rfl
  have cBS_3 : w1.cell? ⟨w.heap.size, 3, none⟩ = some (.int .i64 x3) := box_cell BS.out 3 _ rfl
  have cBS_4 : w1.cell? ⟨w.heap.size, 4, none⟩ = some (.int .i64 x4) := box_cell BS.out 4 _ rfl
  have cBS_5 : w1.cell? ⟨w.heap.size, 5, none⟩ = some (.int .i64 x5) := box_cell BS.out 5 _ rfl
  have cBS_6 : w1.cell? ⟨w.heap.size, 6, none⟩ = some (.int .i64 x6) := box_cell BS.out 6 _ rfl
  have cBS_7 : w1.cell? ⟨w.heap.size, 7, none⟩ = some (.int .i64 x7) := box_cell BS.out 7 _ rfl
  have cBS_8 : w1.cell? ⟨w.heap.size, 8, none⟩ = some (.int .i64 x8) := box_cell BS.out 8 _ rfl
  have cBS_9 : w1.cell? ⟨w.heap.size, 9, none⟩ = some (.int .i64 x9) := box_cell BS.out 9 _ rfl
  have cBS_10 : w1.cell? ⟨w.heap.size, 10, none⟩ = some (.int .i64 x10) := box_cell BS.out 10 _ rfl
  have cBP_0 : w1.cell? ⟨w.heap.size + 1, 0, none⟩ = some (.int .i64 p0) := box_cell BP.out 0 _ rfl
  have cBP_1 : w1.cell? ⟨w.heap.size + 1, 1, none⟩ = some (.int .i64 p1) := box_cell BP.out 1 _ rfl
  have cBP_2 : w1.cell? ⟨w.heap.size + 1, 2, none⟩ = some (.int .i64 p2) := box_cell BP.out 2 _ rfl
  have cBP_3 : w1.cell? ⟨w.heap.size + 1, 3, none⟩ = some (.int .i64 p3) := box_cell BP.out 3 _ rfl
  have cBP_4 : w1.cell? ⟨w.heap.size + 1, 4, none⟩ = some (.int .i64 p4) := box_cell BP.out 4 _ rfl
  go_wp2_with fail
  refine (specTickOk_any p4 _).mono ?_
  rintro e w' ⟨rfl, rfl⟩
  cases ht : tokB p4
  · have HV : Hid (R = -1) := by show R = -1; rw [HR.out]; simp [nextV, ht]
    go_wp2
    go_ret
    exact ⟨by rw [HV.out]; rfl, hbn1⟩
  have hb4 := tok_t ht
  have hx := specB_t hs
  have hb3 : 0 ≤ x3 ∧ x3 ≤ 1000 := by omega
  have hb7 : 1 ≤ x7 ∧ x7 ≤ 100000 := by omega
  clear hx
  by_cases h3 : p2 = 3
  case pos =>
    have HV : Hid (R = p4) := by show R = p4; rw [HR.out]; simp [nextV, hs, ht, h3]
    go_wp2
    go_ret
    exact ⟨by rw [HV.out]; rfl, hbn1⟩
  by_cases h2 : p2 = 2
  case pos =>
    by_cases hm : 1000000000 < p4 + x3
    · have HV : Hid (R = -1) := by show R = -1; rw [HR.out]; simp [nextV, hs, ht, h2, cutV, hm]
      go_wp2
      go_ret
      exact ⟨by rw [HV.out]; rfl, hbn1⟩
    · have HV : Hid (R = p4 + x3) := by show R = p4 + x3; rw [HR.out]; simp [nextV, hs, ht, h2, cutV, hm]
      go_wp2
      go_ret
      exact ⟨by rw [HV.out]; rfl, hbn1⟩
  by_cases h0 : p2 = 0
  case pos =>
    by_cases hm : 1000000000 < p4 + x7
    · have HV : Hid (R = -1) := by show R = -1; rw [HR.out]; simp [nextV, hs, ht, h0, cutV, hm]
      go_wp2
      go_ret
      exact ⟨by rw [HV.out]; rfl, hbn1⟩
    · have HV : Hid (R = p4 + x7) := by show R = p4 + x7; rw [HR.out]; simp [nextV, hs, ht, h0, cutV, hm]
      go_wp2
      go_ret
      exact ⟨by rw [HV.out]; rfl, hbn1⟩
  by_cases h1 : p2 = 1
  case pos =>
    by_cases hm : 1000000000 < p4 + x7
    · have HV : Hid (R = -1) := by show R = -1; rw [HR.out]; simp [nextV, hs, ht, h1, cutV, hm]
      go_wp2
      go_ret
      exact ⟨by rw [HV.out]; rfl, hbn1⟩
    · have HV : Hid (R = p4 + x7) := by show R = p4 + x7; rw [HR.out]; simp [nextV, hs, ht, h1, cutV, hm]
      go_wp2
      go_ret
      exact ⟨by rw [HV.out]; rfl, hbn1⟩
  have HV : Hid (R = -1) := by show R = -1; rw [HR.out]; simp [nextV, h3, h2, h0, h1]
  go_wp2
  go_ret
  exact ⟨by rw [HV.out]; rfl, hbn1⟩
end Go.Proofs.YtdefckbgcggnoaaGreat.Hl
