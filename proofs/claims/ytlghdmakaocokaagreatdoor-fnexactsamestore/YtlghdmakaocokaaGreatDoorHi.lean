/-
  HEALTH over this seat's translation: what the program's fateOf, health, IsAvailable, IsLost and NextHealth answer.
-/
import Derived.Test.YtlghdmakaocokaaGreatDoorHl
import Derived.Deep.RegionHeld3
namespace Go.Proofs.YtlghdmakaocokaaGreatDoor.Hl
open Go.ChangeShapes Go.WideShapes Go.ChangeAt Go.RowKit
open Go.Proofs.YtlghdmakaocokaaGreatDoor.LK Go.Proofs.YtlghdmakaocokaaGreatDoor.Sp
open Go.Proofs.YtlghdmakaocokaaGreatDoor.Tick (inB in_t in_f tokB tok_t tok_f sinceV specTickOk_any tickOk_any sinceI_any)
set_option linter.unusedVariables false
set_option linter.unusedSimpArgs false
def fateV (x3 x7 p2 : Int) : Value := if p2 = 2 then .iface 105 (.agg #[.int .i64 x3]) else if p2 = 0 then .iface 106 (.agg #[.int .i64 x7]) else if p2 = 1 then .iface 106 (.agg #[.int .i64 x7]) else if p2 = 3 then .iface 108 (.agg #[]) else .iface 122 (.agg #[])
set_option maxRecDepth 100000 in
set_option maxHeartbeats 1600000 in
theorem fateOf_any (x0 x1 x2 x3 x4 x5 x6 x7 x8 x9 x10 p0 p1 p2 p3 p4 : Int) (w : World) :
    Calls Tryz.prog 65 #[.agg #[.int .i64 x0, .int .i64 x1, .int .i64 x2, .int .i64 x3, .int .i64 x4, .int .i64 x5, .int .i64 x6, .int .i64 x7, .int .i64 x8, .int .i64 x9, .int .i64 x10], .agg #[.int .i64 p0, .int .i64 p1, .int .i64 p2, .int .i64 p3, .int .i64 p4]] w (Says (fateV x3 x7 p2) w) := by
  obtain ⟨R, hR⟩ : ∃ R, R = fateV x3 x7 p2 := ⟨_, rfl⟩
  rw [← hR]
  have HR := Lib.hid hR
  clear hR
  by_cases h2 : p2 = 2
  case pos =>
    have HV : Hid (R = .iface 105 (.agg #[.int .i64 x3])) := by show R = _; rw [HR.out]; simp [fateV, h2]
    clear HR
    subst h2
    go_enter Tryz.func65, Tryz.ntmps65
    go_wp2
    go_ret
    exact ⟨by rw [HV.out]; rfl, bel2 _ _ _⟩
  by_cases h0 : p2 = 0
  case pos =>
    have HV : Hid (R = .iface 106 (.agg #[.int .i64 x7])) := by show R = _; rw [HR.out]; simp [fateV, h0]
    clear HR
    subst h0
    go_enter Tryz.func65, Tryz.ntmps65
    go_wp2
    go_ret
    exact ⟨by rw [HV.out]; rfl, bel2 _ _ _⟩
  by_cases h1 : p2 = 1
  case pos =>
    have HV : Hid (R = .iface 106 (.agg #[.int .i64 x7])) := by show R = _; rw [HR.out]; simp [fateV, h1]
    clear HR
    subst h1
    go_enter Tryz.func65, Tryz.ntmps65
    go_wp2
    go_ret
    exact ⟨by rw [HV.out]; rfl, bel2 _ _ _⟩
  by_cases h3 : p2 = 3
  case pos =>
    have HV : Hid (R = .iface 108 (.agg #[])) := by show R = _; rw [HR.out]; simp [fateV, h3]
    clear HR
    subst h3
    go_enter Tryz.func65, Tryz.ntmps65
    go_wp2
    go_ret
    exact ⟨by rw [HV.out]; rfl, bel2 _ _ _⟩
  have HV : Hid (R = .iface 122 (.agg #[])) := by show R = _; rw [HR.out]; simp [fateV, h0, h1, h2, h3]
  clear HR
  go_enter Tryz.func65, Tryz.ntmps65
  go_wp2
  go_ret
  exact ⟨by rw [HV.out]; rfl, bel2 _ _ _⟩
theorem as_up_up (x : Int) (w : World) : (Instr.typeAssert (.iface 105 (.agg #[.int .i64 x])) 102 105 true).run Tryz.prog w = .ok (.tuple #[.agg #[.int .i64 x], .bool true]) w := by kernel_rfl
theorem as_up_gi (x : Int) (w : World) : (Instr.typeAssert (.iface 105 (.agg #[.int .i64 x])) 102 106 true).run Tryz.prog w = .ok (.tuple #[.agg #[.int .i64 0], .bool false]) w := by kernel_rfl
theorem as_up_br (x : Int) (w : World) : (Instr.typeAssert (.iface 105 (.agg #[.int .i64 x])) 102 108 true).run Tryz.prog w = .ok (.tuple #[.agg #[], .bool false]) w := by kernel_rfl
theorem as_gi_up (x : Int) (w : World) : (Instr.typeAssert (.iface 106 (.agg #[.int .i64 x])) 102 105 true).run Tryz.prog w = .ok (.tuple #[.agg #[.int .i64 0], .bool false]) w := by kernel_rfl
theorem as_gi_gi (x : Int) (w : World) : (Instr.typeAssert (.iface 106 (.agg #[.int .i64 x])) 102 106 true).run Tryz.prog w = .ok (.tuple #[.agg #[.int .i64 x], .bool true]) w := by kernel_rfl
theorem as_gi_br (x : Int) (w : World) : (Instr.typeAssert (.iface 106 (.agg #[.int .i64 x])) 102 108 true).run Tryz.prog w = .ok (.tuple #[.agg #[], .bool false]) w := by kernel_rfl
theorem as_br_up (w : World) : (Instr.typeAssert (.iface 108 (.agg #[])) 102 105 true).run Tryz.prog w = .ok (.tuple #[.agg #[.int .i64 0], .bool false]) w := by kernel_rfl
theorem as_br_gi (w : World) : (Instr.typeAssert (.iface 108 (.agg #[])) 102 106 true).run Tryz.prog w = .ok (.tuple #[.agg #[.int .i64 0], .bool false]) w := by kernel_rfl
theorem as_br_br (w : World) : (Instr.typeAssert (.iface 108 (.agg #[])) 102 108 true).run Tryz.prog w = .ok (.tuple #[.agg #[], .bool true]) w := by kernel_rfl
theorem as_st_up (w : World) : (Instr.typeAssert (.iface 122 (.agg #[])) 102 105 true).run Tryz.prog w = .ok (.tuple #[.agg #[.int .i64 0], .bool false]) w := by kernel_rfl
theorem as_st_gi (w : World) : (Instr.typeAssert (.iface 122 (.agg #[])) 102 106 true).run Tryz.prog w = .ok (.tuple #[.agg #[.int .i64 0], .bool false]) w := by kernel_rfl
theorem as_st_br (w : World) : (Instr.typeAssert (.iface 122 (.agg #[])) 102 108 true).run Tryz.prog w = .ok (.tuple #[.agg #[], .bool false]) w := by kernel_rfl
set_option maxRecDepth 100000 in
set_option maxHeartbeats 1600000 in
theorem health_any (x0 x1 x2 x3 x4 x5 x6 x7 x8 x9 x10 p0 p1 p2 p3 p4 now : Int) (w : World) :
    Calls Tryz.prog 55 #[.agg #[.int .i64 x0, .int .i64 x1, .int .i64 x2, .int .i64 x3, .int .i64 x4, .int .i64 x5, .int .i64 x6, .int .i64 x7, .int .i64 x8, .int .i64 x9, .int .i64 x10], .agg #[.int .i64 p0, .int .i64 p1, .int .i64 p2, .int .i64 p3, .int .i64 p4], .int .i64 now] w (Says (.tuple #[.bool (availB x0 x1 x2 x3 x4 x5 x6 x7 x8 x9 x10 p2 p4 now), .bool (lostB x0 x1 x2 x3 x4 x5 x6 x7 x8 x9 x10 p2 p4 now)]) w) := by
  obtain ⟨RA, hRA⟩ : ∃ R, R = availB x0 x1 x2 x3 x4 x5 x6 x7 x8 x9 x10 p2 p4 now := ⟨_, rfl⟩
  rw [← hRA]
  have HRA := Lib.hid hRA
  clear hRA
  obtain ⟨RL, hRL⟩ : ∃ R, R = lostB x0 x1 x2 x3 x4 x5 x6 x7 x8 x9 x10 p2 p4 now := ⟨_, rfl⟩
  rw [← hRL]
  have HRL := Lib.hid hRL
  clear hRL
  obtain ⟨V, hV⟩ : ∃ V, V = ((w.alloc (.cells #[.int .i64 x0, .int .i64 x1, .int .i64 x2, .int .i64 x3, .int .i64 x4, .int .i64 x5, .int .i64 x6, .int .i64 x7, .int .i64 x8, .int .i64 x9, .int .i64 x10] 36)).alloc (.cells #[.int .i64 p0, .int .i64 p1, .int .i64 p2, .int .i64 p3, .int .i64 p4] 51)) := ⟨_, rfl⟩
  have hbV : Below w.heap.size w V := by rw [hV]; exact bel2 _ _ _
  have BS : Hid (V.heap[w.heap.size]? = some (.cells #[.int .i64 x0, .int .i64 x1, .int .i64 x2, .int .i64 x3, .int .i64 x4, .int .i64 x5, .int .i64 x6, .int .i64 x7, .int .i64 x8, .int .i64 x9, .int .i64 x10] 36)) := by have h := box_alloc (box_new w (.cells #[.int .i64 x0, .int .i64 x1, .int .i64 x2, .int .i64 x3, .int .i64 x4, .int .i64 x5, .int .i64 x6, .int .i64 x7, .int .i64 x8, .int .i64 x9, .int .i64 x10] 36)) (.cells #[.int .i64 p0, .int .i64 p1, .int .i64 p2, .int .i64 p3, .int .i64 p4] 51); (try simp only [World.size_alloc] at h); rw [hV]; exact h
  have BP : Hid (V.heap[w.heap.size + 1]? = some (.cells #[.int .i64 p0, .int .i64 p1, .int .i64 p2, .int .i64 p3, .int .i64 p4] 51)) := by have h := box_new (w.alloc (.cells #[.int .i64 x0, .int .i64 x1, .int .i64 x2, .int .i64 x3, .int .i64 x4, .int .i64 x5, .int .i64 x6, .int .i64 x7, .int .i64 x8, .int .i64 x9, .int .i64 x10] 36)) (.cells #[.int .i64 p0, .int .i64 p1, .int .i64 p2, .int .i64 p3, .int .i64 p4] 51); (try simp only [World.size_alloc] at h); rw [hV]; exact h
  go_enter Tryz.func55, Tryz.ntmps55
  go_wp2_with fail
  rw [← hV]
  clear hV
  refine (specOk_any x0 x1 x2 x3 x4 x5 x6 x7 x8 x9 x10 _).mono ?_
  rintro e w1 ⟨rfl, hbs⟩
  have BS' := Lib.hid (box_below BS.out hbs)
  have BP' := Lib.hid (box_below BP.out hbs)
  have hbn1 : Below w.heap.size w w1 := bel_then hbV hbs hbV.size
  clear BS
  have BS := BS'
  clear BS'
  clear BP
  have BP := BP'
  clear BP'
  clear hbs
  cases hs : specB x0 x1 x2 x3 x4 x5 x6 x7 x8 x9 x10
  · have HA : Hid (RA = false) := by show RA = _; rw [HRA.out]; simp [availB, hs]
    have HL : Hid (RL = false) := by show RL = _; rw [HRL.out]; simp [lostB, hs]
    clear HRA HRL
    go_wp2
    go_ret2
    exact ⟨by rw [HA.out, HL.out]; rfl, hbn1⟩
  go_wp2_with fail
  refine (tickOk_any now _).mono ?_
  rintro e w' ⟨rfl, rfl⟩
  cases ht : tokB now
  · have HA : Hid (RA = false) := by show RA = _; rw [HRA.out]; simp [availB, ht]
    have HL : Hid (RL = false) := by show RL = _; rw [HRL.out]; simp [lostB, ht]
    clear HRA HRL
    go_wp2
    go_ret2
    exact ⟨by rw [HA.out, HL.out]; rfl, hbn1⟩
  have hx := specB_t hs
  have hx3 : 0 ≤ x3 := by omega
  have hx7 : 1 ≤ x7 := by omega
  clear hx
  have cBS_0 : w1.cell? ⟨w.heap.size, 0, none⟩ = some (.int .i64 x0) := box_cell BS.out 0 _ rfl
  have cBS_1 : w1.cell? ⟨w.heap.size, 1, none⟩ = some (.int .i64 x1) := box_cell BS.out 1 _ rfl
  have cBS_2 : w1.cell? ⟨w.heap.size, 2, none⟩ = some (.int .i64 x2) := box_cell BS.out 2 _ rfl
  have cBS_3 : w1.cell? ⟨w.heap.size, 3, none⟩ = some (.int .i64 x3) := box_cell BS.out 3 _ rfl
  have cBS_4 : w1.cell? ⟨w.heap.size, 4, none⟩ = some (.int .i64 x4) := box_cell BS.out 4 _ rfl
  have cBS_5 : w1.cell? ⟨w.heap.size, 5, none⟩ = some (.int .i64 x5) := box_cell BS.out 5 _ rfl
  have cBS_6 : w1.cell? ⟨w.heap.size, 6, none⟩ = some (.int .i64 x6) := box_cell BS.out 6 _ rfl
  have cBS_7 : w1.cell? ⟨w.heap.size, 7, none⟩ = some (.int .i64 x7) := box_cell BS.out 7 _ rfl
  have cBS_8 : w1.cell? ⟨w.heap.size, 8, none⟩ = some (.int .i64 x8) := box_cell BS.out 8 _ rfl
  have cBS_9 : w1.cell? ⟨w.heap.size, 9, none⟩ = some (.int .i64 x9) := box_cell BS.out 9 _ rfl
  have cBS_10 : w1.cell? ⟨w.heap.size, 10, none⟩ = some (.int .i64 x10) := box_cell BS.out 10 _ rfl
  have cBP_0 : w1.cell? ⟨w.heap.size + 1, 0, none⟩ = some (.int .i64 p0) := box_cell BP.out 0 _ rfl
  have cBP_1 : w1.cell? ⟨w.heap.size + 1, 1, none⟩ = some (.int .i64 p1) := box_cell BP.out 1 _ rfl
  have cBP_2 : w1.cell? ⟨w.heap.size + 1, 2, none⟩ = some (.int .i64 p2) := box_cell BP.out 2 _ rfl
  have cBP_3 : w1.cell? ⟨w.heap.size + 1, 3, none⟩ = some (.int .i64 p3) := box_cell BP.out 3 _ rfl
  have cBP_4 : w1.cell? ⟨w.heap.size + 1, 4, none⟩ = some (.int .i64 p4) := box_cell BP.out 4 _ rfl
  obtain ⟨z, hz⟩ : ∃ z, z = sinceV p4 now := ⟨_, rfl⟩
  have HZ := Lib.hid hz
  go_wp2_with fail
  refine (sinceI_any p4 now _).mono ?_
  rintro e w' ⟨rfl, rfl⟩
  rw [← hz]
  clear hz
  by_cases h2 : p2 = 2
  case pos =>
    have HF : Hid (∀ W : World, Calls Tryz.prog 65 #[.agg #[.int .i64 x0, .int .i64 x1, .int .i64 x2, .int .i64 x3, .int .i64 x4, .int .i64 x5, .int .i64 x6, .int .i64 x7, .int .i64 x8, .int .i64 x9, .int .i64 x10], .agg #[.int .i64 p0, .int .i64 p1, .int .i64 p2, .int .i64 p3, .int .i64 p4]] W (Says (.iface 105 (.agg #[.int .i64 x3])) W)) := fun W => by have h := fateOf_any x0 x1 x2 x3 x4 x5 x6 x7 x8 x9 x10 p0 p1 p2 p3 p4 W; rw [show fateV x3 x7 p2 = .iface 105 (.agg #[.int .i64 x3]) by simp [fateV, h2]] at h; exact h
    have HA : Hid (RA = decide (x3 ≤ z)) := by show RA = _; rw [HRA.out, HZ.out]; simp [availB, hs, ht, h2]
    have HL : Hid (RL = false) := by show RL = _; rw [HRL.out]; simp [lostB, h2]
    clear HRA HRL HZ hs ht
    subst h2
    go_wp2_with fail
    refine (HF.out _).mono ?_
    rintro e w2 ⟨rfl, hbs⟩
    clear cBS_0 cBS_1 cBS_2 cBS_3 cBS_4 cBS_5 cBS_6 cBS_7 cBS_8 cBS_9 cBS_10 cBP_0 cBP_1 cBP_2 cBP_3 cBP_4
    have BS' := Lib.hid (box_below BS.out hbs)
    have BP' := Lib.hid (box_below BP.out hbs)
    have hbn2 : Below w.heap.size w w2 := bel_then hbn1 hbs hbn1.size
    clear BS
    have BS := BS'
    clear BS'
    clear BP
    have BP := BP'
    clear BP'
    clear hbs
    have as0 := as_up_up x3
    by_cases hq : x3 ≤ z
    · go_wp2
      go_ret2
      exact ⟨by rw [HA.out, HL.out]; simp [hq], by first | exact hbn2.alloc hbn2.size _ | exact (hbn2.alloc hbn2.size _).alloc (by simp; have := hbn2.size; omega) _⟩
    · go_wp2
      go_ret2
      exact ⟨by rw [HA.out, HL.out]; simp [hq], by first | exact hbn2.alloc hbn2.size _ | exact (hbn2.alloc hbn2.size _).alloc (by simp; have := hbn2.size; omega) _⟩
  by_cases h0 : p2 = 0
  case pos =>
    have HF : Hid (∀ W : World, Calls Tryz.prog 65 #[.agg #[.int .i64 x0, .int .i64 x1, .int .i64 x2, .int .i64 x3, .int .i64 x4, .int .i64 x5, .int .i64 x6, .int .i64 x7, .int .i64 x8, .int .i64 x9, .int .i64 x10], .agg #[.int .i64 p0, .int .i64 p1, .int .i64 p2, .int .i64 p3, .int .i64 p4]] W (Says (.iface 106 (.agg #[.int .i64 x7])) W)) := fun W => by have h := fateOf_any x0 x1 x2 x3 x4 x5 x6 x7 x8 x9 x10 p0 p1 p2 p3 p4 W; rw [show fateV x3 x7 p2 = .iface 106 (.agg #[.int .i64 x7]) by simp [fateV, h0]] at h; exact h
    have HA : Hid (RA = false) := by show RA = _; rw [HRA.out]; simp [availB, h0]
    have HL : Hid (RL = decide (x7 ≤ z)) := by show RL = _; rw [HRL.out, HZ.out]; simp [lostB, hs, ht, h0]
    clear HRA HRL HZ hs ht
    subst h0
    go_wp2_with fail
    refine (HF.out _).mono ?_
    rintro e w2 ⟨rfl, hbs⟩
    clear cBS_0 cBS_1 cBS_2 cBS_3 cBS_4 cBS_5 cBS_6 cBS_7 cBS_8 cBS_9 cBS_10 cBP_0 cBP_1 cBP_2 cBP_3 cBP_4
    have BS' := Lib.hid (box_below BS.out hbs)
    have BP' := Lib.hid (box_below BP.out hbs)
    have hbn2 : Below w.heap.size w w2 := bel_then hbn1 hbs hbn1.size
    clear BS
    have BS := BS'
    clear BS'
    clear BP
    have BP := BP'
    clear BP'
    clear hbs
    have as0 := as_gi_up x7
    have as1 := as_gi_gi x7
    by_cases hq : x7 ≤ z
    · go_wp2
      go_ret2
      exact ⟨by rw [HA.out, HL.out]; simp [hq], by first | exact hbn2.alloc hbn2.size _ | exact (hbn2.alloc hbn2.size _).alloc (by simp; have := hbn2.size; omega) _⟩
    · go_wp2
      go_ret2
      exact ⟨by rw [HA.out, HL.out]; simp [hq], by first | exact hbn2.alloc hbn2.size _ | exact (hbn2.alloc hbn2.size _).alloc (by simp; have := hbn2.size; omega) _⟩
  by_cases h1 : p2 = 1
  case pos =>
    have HF : Hid (∀ W : World, Calls Tryz.prog 65 #[.agg #[.int .i64 x0, .int .i64 x1, .int .i64 x2, .int .i64 x3, .int .i64 x4, .int .i64 x5, .int .i64 x6, .int .i64 x7, .int .i64 x8, .int .i64 x9, .int .i64 x10], .agg #[.int .i64 p0, .int .i64 p1, .int .i64 p2, .int .i64 p3, .int .i64 p4]] W (Says (.iface 106 (.agg #[.int .i64 x7])) W)) := fun W => by have h := fateOf_any x0 x1 x2 x3 x4 x5 x6 x7 x8 x9 x10 p0 p1 p2 p3 p4 W; rw [show fateV x3 x7 p2 = .iface 106 (.agg #[.int .i64 x7]) by simp [fateV, h1]] at h; exact h
    have HA : Hid (RA = false) := by show RA = _; rw [HRA.out]; simp [availB, h1]
    have HL : Hid (RL = decide (x7 ≤ z)) := by show RL = _; rw [HRL.out, HZ.out]; simp [lostB, hs, ht, h1]
    clear HRA HRL HZ hs ht
    subst h1
    go_wp2_with fail
    refine (HF.out _).mono ?_
    rintro e w2 ⟨rfl, hbs⟩
    clear cBS_0 cBS_1 cBS_2 cBS_3 cBS_4 cBS_5 cBS_6 cBS_7 cBS_8 cBS_9 cBS_10 cBP_0 cBP_1 cBP_2 cBP_3 cBP_4
    have BS' := Lib.hid (box_below BS.out hbs)
    have BP' := Lib.hid (box_below BP.out hbs)
    have hbn2 : Below w.heap.size w w2 := bel_then hbn1 hbs hbn1.size
    clear BS
    have BS := BS'
    clear BS'
    clear BP
    have BP := BP'
    clear BP'
    clear hbs
    have as0 := as_gi_up x7
    have as1 := as_gi_gi x7
    by_cases hq : x7 ≤ z
    · go_wp2
      go_ret2
      exact ⟨by rw [HA.out, HL.out]; simp [hq], by first | exact hbn2.alloc hbn2.size _ | exact (hbn2.alloc hbn2.size _).alloc (by simp; have := hbn2.size; omega) _⟩
    · go_wp2
      go_ret2
      exact ⟨by rw [HA.out, HL.out]; simp [hq], by first | exact hbn2.alloc hbn2.size _ | exact (hbn2.alloc hbn2.size _).alloc (by simp; have := hbn2.size; omega) _⟩
  by_cases h3 : p2 = 3
  case pos =>
    have HF : Hid (∀ W : World, Calls Tryz.prog 65 #[.agg #[.int .i64 x0, .int .i64 x1, .int .i64 x2, .int .i64 x3, .int .i64 x4, .int .i64 x5, .int .i64 x6, .int .i64 x7, .int .i64 x8, .int .i64 x9, .int .i64 x10], .agg #[.int .i64 p0, .int .i64 p1, .int .i64 p2, .int .i64 p3, .int .i64 p4]] W (Says (.iface 108 (.agg #[])) W)) := fun W => by have h := fateOf_any x0 x1 x2 x3 x4 x5 x6 x7 x8 x9 x10 p0 p1 p2 p3 p4 W; rw [show fateV x3 x7 p2 = .iface 108 (.agg #[]) by simp [fateV, h3]] at h; exact h
    have HA : Hid (RA = false) := by show RA = _; rw [HRA.out]; simp [availB, h3]
    have HL : Hid (RL = true) := by show RL = _; rw [HRL.out]; simp [lostB, hs, ht, h3]
    clear HRA HRL HZ hs ht
    subst h3
    go_wp2_with fail
    refine (HF.out _).mono ?_
    rintro e w2 ⟨rfl, hbs⟩
    clear cBS_0 cBS_1 cBS_2 cBS_3 cBS_4 cBS_5 cBS_6 cBS_7 cBS_8 cBS_9 cBS_10 cBP_0 cBP_1 cBP_2 cBP_3 cBP_4
    have BS' := Lib.hid (box_below BS.out hbs)
    have BP' := Lib.hid (box_below BP.out hbs)
    have hbn2 : Below w.heap.size w w2 := bel_then hbn1 hbs hbn1.size
    clear BS
    have BS := BS'
    clear BS'
    clear BP
    have BP := BP'
    clear BP'
    clear hbs
    have as0 := as_br_up
    have as1 := as_br_gi
    have as2 := as_br_br
    go_wp2
    go_ret2
    exact ⟨by rw [HA.out, HL.out]; rfl, by first | exact hbn2.alloc hbn2.size _ | exact hbn2⟩
  have HF : Hid (∀ W : World, Calls Tryz.prog 65 #[.agg #[.int .i64 x0, .int .i64 x1, .int .i64 x2, .int .i64 x3, .int .i64 x4, .int .i64 x5, .int .i64 x6, .int .i64 x7, .int .i64 x8, .int .i64 x9, .int .i64 x10], .agg #[.int .i64 p0, .int .i64 p1, .int .i64 p2, .int .i64 p3, .int .i64 p4]] W (Says (.iface 122 (.agg #[])) W)) := fun W => by have h := fateOf_any x0 x1 x2 x3 x4 x5 x6 x7 x8 x9 x10 p0 p1 p2 p3 p4 W; rw [show fateV x3 x7 p2 = .iface 122 (.agg #[]) by simp [fateV, h2, h0, h1, h3]] at h; exact h
  have HA : Hid (RA = false) := by show RA = _; rw [HRA.out]; simp [availB, h2]
  have HL : Hid (RL = false) := by show RL = _; rw [HRL.out]; simp [lostB, h3, h0, h1]
  clear HRA HRL HZ hs ht
  go_wp2_with fail
  refine (HF.out _).mono ?_
  rintro e w2 ⟨rfl, hbs⟩
  clear cBS_0 cBS_1 cBS_2 cBS_3 cBS_4 cBS_5 cBS_6 cBS_7 cBS_8 cBS_9 cBS_10 cBP_0 cBP_1 cBP_2 cBP_3 cBP_4
  have BS' := Lib.hid (box_below BS.out hbs)
  have BP' := Lib.hid (box_below BP.out hbs)
  have hbn2 : Below w.heap.size w w2 := bel_then hbn1 hbs hbn1.size
  clear BS
  have BS := BS'
  clear BS'
  clear BP
  have BP := BP'
  clear BP'
  clear hbs
  have as0 := as_st_up
  have as1 := as_st_gi
  have as2 := as_st_br
  go_wp2
  go_ret2
  exact ⟨by rw [HA.out, HL.out]; rfl, hbn2⟩
set_option maxRecDepth 100000 in
set_option maxHeartbeats 1600000 in
theorem isAvailable_any (x0 x1 x2 x3 x4 x5 x6 x7 x8 x9 x10 p0 p1 p2 p3 p4 now : Int) (w : World) :
    Calls Tryz.prog 48 #[.agg #[.int .i64 x0, .int .i64 x1, .int .i64 x2, .int .i64 x3, .int .i64 x4, .int .i64 x5, .int .i64 x6, .int .i64 x7, .int .i64 x8, .int .i64 x9, .int .i64 x10], .agg #[.int .i64 p0, .int .i64 p1, .int .i64 p2, .int .i64 p3, .int .i64 p4], .int .i64 now] w (Says (.bool (availB x0 x1 x2 x3 x4 x5 x6 x7 x8 x9 x10 p2 p4 now)) w) := by
  obtain ⟨RA, hRA⟩ : ∃ R, R = availB x0 x1 x2 x3 x4 x5 x6 x7 x8 x9 x10 p2 p4 now := ⟨_, rfl⟩
  obtain ⟨RL, hRL⟩ : ∃ R, R = lostB x0 x1 x2 x3 x4 x5 x6 x7 x8 x9 x10 p2 p4 now := ⟨_, rfl⟩
  rw [← hRA]
  have HH : Hid (∀ W : World, Calls Tryz.prog 55 #[.agg #[.int .i64 x0, .int .i64 x1, .int .i64 x2, .int .i64 x3, .int .i64 x4, .int .i64 x5, .int .i64 x6, .int .i64 x7, .int .i64 x8, .int .i64 x9, .int .i64 x10], .agg #[.int .i64 p0, .int .i64 p1, .int .i64 p2, .int .i64 p3, .int .i64 p4], .int .i64 now] W (Says (.tuple #[.bool RA, .bool RL]) W)) := fun W => by rw [hRA, hRL]; exact health_any x0 x1 x2 x3 x4 x5 x6 x7 x8 x9 x10 p0 p1 p2 p3 p4 now W
  clear hRA hRL
  obtain ⟨V, hV⟩ : ∃ V, V = ((w.alloc (.cells #[.int .i64 x0, .int .i64 x1, .int .i64 x2, .int .i64 x3, .int .i64 x4, .int .i64 x5, .int .i64 x6, .int .i64 x7, .int .i64 x8, .int .i64 x9, .int .i64 x10] 36)).alloc (.cells #[.int .i64 p0, .int .i64 p1, .int .i64 p2, .int .i64 p3, .int .i64 p4] 51)) := ⟨_, rfl⟩
  have hbV : Below w.heap.size w V := by rw [hV]; exact bel2 _ _ _
  have BS : Hid (V.heap[w.heap.size]? = some (.cells #[.int .i64 x0, .int .i64 x1, .int .i64 x2, .int .i64 x3, .int .i64 x4, .int .i64 x5, .int .i64 x6, .int .i64 x7, .int .i64 x8, .int .i64 x9, .int .i64 x10] 36)) := by have h := box_alloc (box_new w (.cells #[.int .i64 x0, .int .i64 x1, .int .i64 x2, .int .i64 x3, .int .i64 x4, .int .i64 x5, .int .i64 x6, .int .i64 x7, .int .i64 x8, .int .i64 x9, .int .i64 x10] 36)) (.cells #[.int .i64 p0, .int .i64 p1, .int .i64 p2, .int .i64 p3, .int .i64 p4] 51); (try simp only [World.size_alloc] at h); rw [hV]; exact h
  have BP : Hid (V.heap[w.heap.size + 1]? = some (.cells #[.int .i64 p0, .int .i64 p1, .int .i64 p2, .int .i64 p3, .int .i64 p4] 51)) := by have h := box_new (w.alloc (.cells #[.int .i64 x0, .int .i64 x1, .int .i64 x2, .int .i64 x3, .int .i64 x4, .int .i64 x5, .int .i64 x6, .int .i64 x7, .int .i64 x8, .int .i64 x9, .int .i64 x10] 36)) (.cells #[.int .i64 p0, .int .i64 p1, .int .i64 p2, .int .i64 p3, .int .i64 p4] 51); (try simp only [World.size_alloc] at h); rw [hV]; exact h
  go_enter Tryz.func48, Tryz.ntmps48
  go_wp2_with fail
  rw [← hV]
  clear hV
  refine (HH.out _).mono ?_
  rintro e w1 ⟨rfl, hbs⟩
  have BS' := Lib.hid (box_below BS.out hbs)
  have BP' := Lib.hid (box_below BP.out hbs)
  have hbn1 : Below w.heap.size w w1 := bel_then hbV hbs hbV.size
  clear BS
  have BS := BS'
  clear BS'
  clear BP
  have BP := BP'
  clear BP'
  clear hbs
  go_wp2
  go_ret
  exact ⟨rfl, hbn1⟩
end Go.Proofs.YtlghdmakaocokaaGreatDoor.Hl
