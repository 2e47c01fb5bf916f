/-
  HEALTH over this seat's translation: what the program's fateOf, health, IsAvailable, IsLost and NextHealth answer.
-/
import Derived.Test.YtdefckbgcggnoaaGreatHl
import Derived.Deep.RegionHeld3
namespace Go.Proofs.YtdefckbgcggnoaaGreat.Hl
open Go.ChangeShapes Go.WideShapes Go.ChangeAt Go.RowKit
open Go.Proofs.YtdefckbgcggnoaaGreat.LK Go.Proofs.YtdefckbgcggnoaaGreat.Sp
open Go.Proofs.YtdefckbgcggnoaaGreat.Tick (inB in_t in_f tokB tok_t tok_f sinceV specTickOk_any tickOk_any sinceI_any)
set_option linter.unusedVariables false
set_option linter.unusedSimpArgs false
def fateV (x3 x7 p2 : Int) : Value := if p2 = 2 then .iface 213 (.agg #[.int .i64 x3]) else if p2 = 0 then .iface 214 (.agg #[.int .i64 x7]) else if p2 = 1 then .iface 214 (.agg #[.int .i64 x7]) else if p2 = 3 then .iface 215 (.agg #[]) else .iface 216 (.agg #[])
set_option maxRecDepth 100000 in
set_option maxHeartbeats 1600000 in
theorem fateOf_any (x0 x1 x2 x3 x4 x5 x6 x7 x8 x9 x10 p0 p1 p2 p3 p4 : Int) (w : World) :
    Calls Tryz.prog 143 #[.agg #[.int .i64 x0, .int .i64 x1, .int .i64 x2, .int .i64 x3, .int .i64 x4, .int .i64 x5, .int .i64 x6, .int .i64 x7, .int .i64 x8, .int .i64 x9, .int .i64 x10], .agg #[.int .i64 p0, .int .i64 p1, .int .i64 p2, .int .i64 p3, .int .i64 p4]] w (Says (fateV x3 x7 p2) w) := by
  obtain ⟨R, hR⟩ : ∃ R, R = fateV x3 x7 p2 := ⟨_, rfl⟩
  rw [← hR]
  have HR := Lib.hid hR
  clear hR
  by_cases h2 : p2 = 2
  case pos =>
    have HV : Hid (R = .iface 213 (.agg #[.int .i64 x3])) := by show R = _; rw [HR.out]; simp [fateV, h2]
    clear HR
    subst h2
    go_enter Tryz.func143, Tryz.ntmps143
    go_wp2
    go_ret
    exact ⟨by rw [HV.out]; rfl, bel2 _ _ _⟩
  by_cases h0 : p2 = 0
  case pos =>
    have HV : Hid (R = .iface 214 (.agg #[.int .i64 x7])) := by show R = _; rw [HR.out]; simp [fateV, h0]
    clear HR
    subst h0
    go_enter Tryz.func143, Tryz.ntmps143
    go_wp2
    go_ret
    exact ⟨by rw [HV.out]; rfl, bel2 _ _ _⟩
  by_cases h1 : p2 = 1
  case pos =>
    have HV : Hid (R = .iface 214 (.agg #[.int .i64 x7])) := by show R = _; rw [HR.out]; simp [fateV, h1]
    clear HR
    subst h1
    go_enter Tryz.func143, Tryz.ntmps143
    go_wp2
    go_ret
    exact ⟨by rw [HV.out]; rfl, bel2 _ _ _⟩
  by_cases h3 : p2 = 3
  case pos =>
    have HV : Hid (R = .iface 215 (.agg #[])) := by show R = _; rw [HR.out]; simp [fateV, h3]
    clear HR
    subst h3
    go_enter Tryz.func143, Tryz.ntmps143
    go_wp2
    go_ret
    exact ⟨by rw [HV.out]; rfl, bel2 _ _ _⟩
  have HV : Hid (R = .iface 216 (.agg #[])) := by show R = _; rw [HR.out]; simp [fateV, h0, h1, h2, h3]
  clear HR
  go_enter Tryz.func143, Tryz.ntmps143
  go_wp2
  go_ret
  exact ⟨by rw [HV.out]; rfl, bel2 _ _ _⟩
theorem as_up_up (x : Int) (w : World) : (Instr.typeAssert (.iface 213 (.agg #[.int .i64 x])) 182 213 true).run Tryz.prog w = .ok (.tuple #[.agg #[.int .i64 x], .bool true]) w := by kernel_rfl
theorem as_up_gi (x : Int) (w : World) : (Instr.typeAssert (.iface 213 (.agg #[.int .i64 x])) 182 214 true).run Tryz.prog w = .ok (.tuple #[.agg #[.int .i64 0], .bool false]) w := by kernel_rfl
theorem as_up_br (x : Int) (w : World) : (Instr.typeAssert (.iface 213 (.agg #[.int .i64 x])) 182 215 true).run Tryz.prog w = .ok (.tuple #[.agg #[], .bool false]) w := by kernel_rfl
theorem as_gi_up (x : Int) (w : World) : (Instr.typeAssert (.iface 214 (.agg #[.int .i64 x])) 182 213 true).run Tryz.prog w = .ok (.tuple #[.agg #[.int .i64 0], .bool false]) w := by kernel_rfl
theorem as_gi_gi (x : Int) (w : World) : (Instr.typeAssert (.iface 214 (.agg #[.int .i64 x])) 182 214 true).run Tryz.prog w = .ok (.tuple #[.agg #[.int .i64 x], .bool true]) w := by kernel_rfl
theorem as_gi_br (x : Int) (w : World) : (Instr.typeAssert (.iface 214 (.agg #[.int .i64 x])) 182 215 true).run Tryz.prog w = .ok (.tuple #[.agg #[], .bool false]) w := by kernel_rfl
theorem as_br_up (w : World) : (Instr.typeAssert (.iface 215 (.agg #[])) 182 213 true).run Tryz.prog w = .ok (.tuple #[.agg #[.int .i64 0], .bool false]) w := by kernel_rfl
theorem as_br_gi (w : World) : (Instr.typeAssert (.iface 215 (.agg #[])) 182 214 true).run Tryz.prog w = .ok (.tuple #[.agg #[.int .i64 0], .bool false]) w := by kernel_rfl
theorem as_br_br (w : World) : (Instr.typeAssert (.iface 215 (.agg #[])) 182 215 true).run Tryz.prog w = .ok (.tuple #[.agg #[], .bool true]) w := by kernel_rfl
theorem as_st_up (w : World) : (Instr.typeAssert (.iface 216 (.agg #[])) 182 213 true).run Tryz.prog w = .ok (.tuple #[.agg #[.int .i64 0], .bool false]) w := by kernel_rfl
theorem as_st_gi (w : World) : (Instr.typeAssert (.iface 216 (.agg #[])) 182 214 true).run Tryz.prog w = .ok (.tuple #[.agg #[.int .i64 0], .bool false]) w := by kernel_rfl
theorem as_st_br (w : World) : (Instr.typeAssert (.iface 216 (.agg #[])) 182 215 true).run Tryz.prog w = .ok (.tuple #[.agg #[], .bool false]) w := by kernel_rfl
set_option maxRecDepth 100000 in
set_option maxHeartbeats 1600000 in
theorem health_any (x0 x1 x2 x3 x4 x5 x6 x7 x8 x9 x10 p0 p1 p2 p3 p4 now : Int) (w : World) :
    Calls Tryz.prog 157 #[.agg #[.int .i64 x0, .int .i64 x1, .int .i64 x2, .int .i64 x3, .int .i64 x4, .int .i64 x5, .int .i64 x6, .int .i64 x7, .int .i64 x8, .int .i64 x9, .int .i64 x10], .agg #[.int .i64 p0, .int .i64 p1, .int .i64 p2, .int .i64 p3, .int .i64 p4], .int .i64 now] w (Says (.tuple #[.bool (availB x0 x1 x2 x3 x4 x5 x6 x7 x8 x9 x10 p2 p4 now), .bool (lostB x0 x1 x2 x3 x4 x5 x6 x7 x8 x9 x10 p2 p4 now)]) w) := by
  obtain ⟨RA, hRA⟩ : ∃ R, R = availB x0 x1 x2 x3 x4 x5 x6 x7 x8 x9 x10 p2 p4 now := ⟨_, rfl⟩
  rw [← hRA]
  have HRA := Lib.hid hRA
  clear hRA
  obtain ⟨RL, hRL⟩ : ∃ R, R = lostB x0 x1 x2 x3 x4 x5 x6 x7 x8 x9 x10 p2 p4 now := ⟨_, rfl⟩
  rw [← hRL]
  have HRL := Lib.hid hRL
  clear hRL
  obtain ⟨V, hV⟩ : ∃ V, V = ((w.alloc (.cells #[.int .i64 x0, .int .i64 x1, .int .i64 x2, .int .i64 x3, .int .i64 x4, .int .i64 x5, .int .i64 x6, .int .i64 x7, .int .i64 x8, .int .i64 x9, .int .i64 x10] 25)).alloc (.cells #[.int .i64 p0, .int .i64 p1, .int .i64 p2, .int .i64 p3, .int .i64 p4] 77)) := ⟨_, rfl⟩
  have hbV : Below w.heap.size w V := by rw [hV]; exact bel2 _ _ _
  have BS : Hid (V.heap[w.heap.size]? = some (.cells #[.int .i64 x0, .int .i64 x1, .int .i64 x2, .int .i64 x3, .int .i64 x4, .int .i64 x5, .int .i64 x6, .int .i64 x7, .int .i64 x8, .int .i64 x9, .int .i64 x10] 25)) := by have h := box_alloc (box_new w (.cells #[.int .i64 x0, .int .i64 x1, .int .i64 x2, .int .i64 x3, .int .i64 x4, .int .i64 x5, .int .i64 x6, .int .i64 x7, .int .i64 x8, .int .i64 x9, .int .i64 x10] 25)) (.cells #[.int .i64 p0, .int .i64 p1, .int .i64 p2, .int .i64 p3, .int .i64 p4] 77); (try simp only [World.size_alloc] at h); rw [hV]; exact h
  have BP : Hid (V.heap[w.heap.size + 1]? = some (.cells #[.int .i64 p0, .int .i64 p1, .int .i64 p2, .int .i64 p3, .int .i64 p4] 77)) := by have h := box_new (w.alloc (.cells #[.int .i64 x0, .int .i64 x1, .int .i64 x2, .int .i64 x3, .int .i64 x4, .int .i64 x5, .int .i64 x6, .int .i64 x7, .int .i64 x8, .int .i64 x9, .int .i64 x10] 25)) (.cells #[.int .i64 p0, .int .i64 p1, .int .i64 p2, .int .i64 p3, .int .i64 p4] 77); (try simp only [World.size_alloc] at h); rw [hV]; exact h
  go_enter Tryz.func157, Tryz.ntmps157
  go_wp2_with fail
  rw [← hV]
  clear hV
  refine (specOk_any x0 x1 x2 x3 x4 x5 x6 x7 x8 x9 x10 _).mono ?_
  rintro e w1 ⟨rfl, hbs⟩
  have BS' := Lib.hid (box_below BS.out hbs)
  have BP' := Lib.hid (box_below BP.out hbs)
  have hbn1 : Below w.heap.size w w1 := bel_then hbV hbs hbV.size
  clear BS
  have BS := BS'
  clear BS'
  clear BP
  have BP := BP'
  clear BP'
  clear hbs
  cases hs : specB x0 x1 x2 x3 x4 x5 x6 x7 x8 x9 x10
  · have HA : Hid (RA = false) := by show RA = _; rw [HRA.out]; simp [availB, hs]
    have HL : Hid (RL = false) := by show RL = _; rw [HRL.out]; simp [lostB, hs]
    clear HRA HRL
    go_wp2
    go_ret2
    exact ⟨by rw [HA.out, HL.out]; rfl, hbn1⟩
  go_wp2_with fail
  refine (tickOk_any now _).mono ?_
  rintro e w' ⟨rfl, rfl⟩
  cases ht : tokB now
  · have HA : Hid (RA = false) := by show RA = _; rw [HRA.out]; simp [availB, ht]
    have HL : Hid (RL = false) := by show RL = _; rw [HRL.out]; simp [lostB, ht]
    clear HRA HRL
    go_wp2
    go_ret2
    exact ⟨by rw [HA.out, HL.out]; rfl, hbn1⟩
  have hx := specB_t hs
  have hx3 : 0 ≤ x3 := by omega
  have hx7 : 1 ≤ x7 := by omega
  clear hx
  have cBS_0 : w1.cell? ⟨w.heap.size, 0, none⟩ = some (.int .i64 x0) := box_cell BS.out 0 _ rfl
  have cBS_1 : w1.cell? ⟨w.heap.size, 1, none⟩ = some (.int .i64 x1) := box_cell BS.out 1 _ rfl
  have cBS_2 : w1.cell? ⟨w.heap.size, 2, none⟩ = some (.int .i64 x2) := box_cell BS.out 2 _ rfl
  have cBS_3 : w1.cell? ⟨w.heap.size, 3, none⟩ = some (.int .i64 x3) := box_cell BS.out 3 _ rfl
  have cBS_4 : w1.cell? ⟨w.heap.size, 4, none⟩ = some (.int .i64 x4) := box_cell BS.out 4 _ rfl
  have cBS_5 : w1.cell? ⟨w.heap.size, 5, none⟩ = some (.int .i64 x5) := box_cell BS.out 5 _ rfl
  have cBS_6 : w1.cell? ⟨w.heap.size, 6, none⟩ = some (.int .i64 x6) := box_cell BS.out 6 _ rfl
  have cBS_7 : w1.cell? ⟨w.heap.size, 7, none⟩ = some (.int .i64 x7) := box_cell BS.out 7 _ rfl
  have cBS_8 : w1.cell? ⟨w.heap.size, 8, none⟩ = some (.int .i64 x8) := box_cell BS.out 8 _ rfl
  have cBS_9 : w1.cell? ⟨w.heap.size, 9, none⟩ = some (.int .i64 x9) := box_cell BS.out 9 _ rfl
  have cBS_10 : w1.cell? ⟨w.heap.size, 10, none⟩ = some (.int .i64 x10) := box_cell BS.out 10 _ rfl
  have cBP_0 : w1.cell? ⟨w.heap.size + 1, 0, none⟩ = some (.int .i64 p0) := box_cell BP.out 0 _ rfl
  have cBP_1 : w1.cell? ⟨w.heap.size + 1, 1, none⟩ = some (.int .i64 p1) := box_cell BP.out 1 _ rfl
  have cBP_2 : w1.cell? ⟨w.heap.size + 1, 2, none⟩ = some (.int .i64 p2) := box_cell BP.out 2 _ rfl
  have cBP_3 : w1.cell? ⟨w.heap.size + 1, 3, none⟩ = some (.int .i64 p3) := box_cell BP.out 3 _ rfl
  have cBP_4 : w1.cell? ⟨w.heap.size + 1, 4, none⟩ = some (.int .i64 p4) := box_cell BP.out 4 _ rfl
  obtain ⟨z, hz⟩ : ∃ z, z = sinceV p4 now := ⟨_, rfl⟩
  have HZ := Lib.hid hz
  go_wp2_with fail
  refine (sinceI_any p4 now _).mono ?_
  rintro e w' ⟨rfl, rfl⟩
  rw [← hz]
  clear hz
  by_cases h2 : p2 = 2
  case pos =>
    have HF : Hid (∀ W : World, Calls Tryz.prog 143 #[.agg #[.int .i64 x0, .int .i64 x1, .int .i64 x2, .int .i64 x3, .int .i64 x4, .int .i64 x5, .int .i64 x6, .int .i64 x7, .int .i64 x8, .int .i64 x9, .int .i64 x10], .agg #[.int .i64 p0, .int .i64 p1, .int .i64 p2, .int .i64 p3, .int .i64 p4]] W (Says (.iface 213 (.agg #[.int .i64 x3])) W)) := fun W => by have h := fateOf_any x0 x1 x2 x3 x4 x5 x6 x7 x8 x9 x10 p0 p1 p2 p3 p4 W; rw [show fateV x3 x7 p2 = .iface 213 (.agg #[.int .i64 x3]) by simp [fateV, h2]] at h; exact h
    have HA : Hid (RA = decide (x3 ≤ z)) := by show RA = _; rw [HRA.out, HZ.out]; simp [availB, hs, ht, h2]
    have HL : Hid (RL = false) := by show RL = _; rw [HRL.out]; simp [lostB, h2]
    clear HRA HRL HZ hs ht
    subst h2
    go_wp2_with fail
    refine (HF.out _).mono ?_
    rintro e w2 ⟨rfl, hbs⟩
    clear cBS_0 cBS_1 cBS_2 cBS_3 cBS_4 cBS_5 cBS_6 cBS_7 cBS_8 cBS_9 cBS_10 cBP_0 cBP_1 cBP_2 cBP_3 cBP_4
    have BS' := Lib.hid (box_below BS.out hbs)
    have BP' := Lib.hid (box_below BP.out hbs)
    have hbn2 : Below w.heap.size w w2 := bel_then hbn1 hbs hbn1.size
    clear BS
    have BS := BS'
    clear BS'
    clear BP
    have BP := BP'
    clear BP'
    clear hbs
    have as0 := as_up_up x3
    by_cases hq : x3 ≤ z
    · go_wp2
      go_ret2
      exact ⟨by rw [HA.out, HL.out]; simp [hq], by first | exact hbn2.alloc hbn2.size _ | exact (hbn2.alloc hbn2.size _).alloc (by simp; have := hbn2.size; omega) _⟩
    · go_wp2
      go_ret2
      exact ⟨by rw [HA.out, HL.out]; simp [hq], by first | exact hbn2.alloc hbn2.size _ | exact (hbn2.alloc hbn2.size _).alloc (by simp; have := hbn2.size; omega) _⟩
  by_cases h0 : p2 = 0
  case pos =>
    have HF : Hid (∀ W : World, Calls Tryz.prog 143 #[.agg #[.int .i64 x0, .int .i64 x1, .int .i64 x2, .int .i64 x3, .int .i64 x4, .int .i64 x5, .int .i64 x6, .int .i64 x7, .int .i64 x8, .int .i64 x9, .int .i64 x10], .agg #[.int .i64 p0, .int .i64 p1, .int .i64 p2, .int .i64 p3, .int .i64 p4]] W (Says (.iface 214 (.agg #[.int .i64 x7])) W)) := fun W => by have h := fateOf_any x0 x1 x2 x3 x4 x5 x6 x7 x8 x9 x10 p0 p1 p2 p3 p4 W; rw [show fateV x3 x7 p2 = .iface 214 (.agg #[.int .i64 x7]) by simp [fateV, h0]] at h; exact h
    have HA : Hid (RA = false) := by show RA = _; rw [HRA.out]; simp [availB, h0]
    have HL : Hid (RL = decide (x7 ≤ z)) := by show RL = _; rw [HRL.out, HZ.out]; simp [lostB, hs, ht, h0]
    clear HRA HRL HZ hs ht
    subst h0
    go_wp2_with fail
    refine (HF.out _).mono ?_
    rintro e w2 ⟨rfl, hbs⟩
    clear cBS_0 cBS_1 cBS_2 cBS_3 cBS_4 cBS_5 cBS_6 cBS_7 cBS_8 cBS_9 cBS_10 cBP_0 cBP_1 cBP_2 cBP_3 cBP_4
    have BS' := Lib.hid (box_below BS.out hbs)
    have BP' := Lib.hid (box_below BP.out hbs)
    have hbn2 : Below w.heap.size w w2 := bel_then hbn1 hbs hbn1.size
    clear BS
    have BS := BS'
    clear BS'
    clear BP
    have BP := BP'
    clear BP'
    clear hbs
    have as0 := as_gi_up x7
    have as1 := as_gi_gi x7
    by_cases hq : x7 ≤ z
    · go_wp2
      go_ret2
      exact ⟨by rw [HA.out, HL.out]; simp [hq], by first | exact hbn2.alloc hbn2.size _ | exact (hbn2.alloc hbn2.size _).alloc (by simp; have := hbn2.size; omega) _⟩
    · go_wp2
      go_ret2
      exact ⟨by rw [HA.out, HL.out]; simp [hq], by first | exact hbn2.alloc hbn2.size _ | exact (hbn2.alloc hbn2.size _).alloc (by simp; have := hbn2.size; omega) _⟩
  by_cases h1 : p2 = 1
  case pos =>
    have HF : Hid (∀ W : World, Calls Tryz.prog 143 #[.agg #[.int .i64 x0, .int .i64 x1, .int .i64 x2, .int .i64 x3, .int .i64 x4, .int .i64 x5, .int .i64 x6, .int .i64 x7, .int .i64 x8, .int .i64 x9, .int .i64 x10], .agg #[.int .i64 p0, .int .i64 p1, .int .i64 p2, .int .i64 p3, .int .i64 p4]] W (Says (.iface 214 (.agg #[.int .i64 x7])) W)) := fun W => by have h := fateOf_any x0 x1 x2 x3 x4 x5 x6 x7 x8 x9 x10 p0 p1 p2 p3 p4 W; rw [show fateV x3 x7 p2 = .iface 214 (.agg #[.int .i64 x7]) by simp [fateV, h1]] at h; exact h
    have HA : Hid (RA = false) := by show RA = _; rw [HRA.out]; simp [availB, h1]
    have HL : Hid (RL = decide (x7 ≤ z)) := by show RL = _; rw [HRL.out, HZ.out]; simp [lostB, hs, ht, h1]
    clear HRA HRL HZ hs ht
    subst h1
    go_wp2_with fail
    refine (HF.out _).mono ?_
    rintro e w2 ⟨rfl, hbs⟩
    clear cBS_0 cBS_1 cBS_2 cBS_3 cBS_4 cBS_5 cBS_6 cBS_7 cBS_8 cBS_9 cBS_10 cBP_0 cBP_1 cBP_2 cBP_3 cBP_4
    have BS' := Lib.hid (box_below BS.out hbs)
    have BP' := Lib.hid (box_below BP.out hbs)
    have hbn2 : Below w.heap.size w w2 := bel_then hbn1 hbs hbn1.size
    clear BS
    have BS := BS'
    clear BS'
    clear BP
    have BP := BP'
    clear BP'
    clear hbs
    have as0 := as_gi_up x7
    have as1 := as_gi_gi x7
    by_cases hq : x7 ≤ z
    · go_wp2
      go_ret2
      exact ⟨by rw [HA.out, HL.out]; simp [hq], by first | exact hbn2.alloc hbn2.size _ | exact (hbn2.alloc hbn2.size _).alloc (by simp; have := hbn2.size; omega) _⟩
    · go_wp2
      go_ret2
      exact ⟨by rw [HA.out, HL.out]; simp [hq], by first | exact hbn2.alloc hbn2.size _ | exact (hbn2.alloc hbn2.size _).alloc (by simp; have := hbn2.size; omega) _⟩
  by_cases h3 : p2 = 3
  case pos =>
    have HF : Hid (∀ W : World, Calls Tryz.prog 143 #[.agg #[.int .i64 x0, .int .i64 x1, .int .i64 x2, .int .i64 x3, .int .i64 x4, .int .i64 x5, .int .i64 x6, .int .i64 x7, .int .i64 x8, .int .i64 x9, .int .i64 x10], .agg #[.int .i64 p0, .int .i64 p1, .int .i64 p2, .int .i64 p3, .int .i64 p4]] W (Says (.iface 215 (.agg #[])) W)) := fun W => by have h := fateOf_any x0 x1 x2 x3 x4 x5 x6 x7 x8 x9 x10 p0 p1 p2 p3 p4 W; rw [show fateV x3 x7 p2 = .iface 215 (.agg #[]) by simp [fateV, h3]] at h; exact h
    have HA : Hid (RA = false) := by show RA = _; rw [HRA.out]; simp [availB, h3]
    have HL : Hid (RL = true) := by show RL = _; rw [HRL.out]; simp [lostB, hs, ht, h3]
    clear HRA HRL HZ hs ht
    subst h3
    go_wp2_with fail
    refine (HF.out _).mono ?_
    rintro e w2 ⟨rfl, hbs⟩
    clear cBS_0 cBS_1 cBS_2 cBS_3 cBS_4 cBS_5 cBS_6 cBS_7 cBS_8 cBS_9 cBS_10 cBP_0 cBP_1 cBP_2 cBP_3 cBP_4
    have BS' := Lib.hid (box_below BS.out hbs)
    have BP' := Lib.hid (box_below BP.out hbs)
    have hbn2 : Below w.heap.size w w2 := bel_then hbn1 hbs hbn1.size
    clear BS
    have BS := BS'
    clear BS'
    clear BP
    have BP := BP'
    clear BP'
    clear hbs
    have as0 := as_br_up
    have as1 := as_br_gi
    have as2 := as_br_br
    go_wp2
    go_ret2
    exact ⟨by rw [HA.out, HL.out]; rfl, by first | exact hbn2.alloc hbn2.size _ | exact hbn2⟩
  have HF : Hid (∀ W : World, Calls Tryz.prog 143 #[.agg #[.int .i64 x0, .int .i64 x1, .int .i64 x2, .int .i64 x3, .int .i64 x4, .int .i64 x5, .int .i64 x6, .int .i64 x7, .int .i64 x8, .int .i64 x9, .int .i64 x10], .agg #[.int .i64 p0, .int .i64 p1, .int .i64 p2, .int .i64 p3, .int .i64 p4]] W (Says (.iface 216 (.agg #[])) W)) := fun W => by have h := fateOf_any x0 x1 x2 x3 x4 x5 x6 x7 x8 x9 x10 p0 p1 p2 p3 p4 W; rw [show fateV x3 x7 p2 = .iface 216 (.agg #[]) by simp [fateV, h2, h0, h1, h3]] at h; exact h
  have HA : Hid (RA = false) := by show RA = _; rw [HRA.out]; simp [availB, h2]
  have HL : Hid (RL = false) := by show RL = _; rw [HRL.out]; simp [lostB, h3, h0, h1]
  clear HRA HRL HZ hs ht
  go_wp2_with fail
  refine (HF.out _).mono ?_
  rintro e w2 ⟨rfl, hbs⟩
  clear cBS_0 cBS_1 cBS_2 cBS_3 cBS_4 cBS_5 cBS_6 cBS_7 cBS_8 cBS_9 cBS_10 cBP_0 cBP_1 cBP_2 cBP_3 cBP_4
  have BS' := Lib.hid (box_below BS.out hbs)
  have BP' := Lib.hid (box_below BP.out hbs)
  have hbn2 : Below w.heap.size w w2 := bel_then hbn1 hbs hbn1.size
  clear BS
  have BS := BS'
  clear BS'
  clear BP
  have BP := BP'
  clear BP'
  clear hbs
  have as0 := as_st_up
  have as1 := as_st_gi
  have as2 := as_st_br
  go_wp2
  go_ret2
  exact ⟨by rw [HA.out, HL.out]; rfl, hbn2⟩
set_option maxRecDepth 100000 in
set_option maxHeartbeats 1600000 in
theorem isAvailable_any (x0 x1 x2 x3 x4 x5 x6 x7 x8 x9 x10 p0 p1 p2 p3 p4 now : Int) (w : World) :
    Calls Tryz.prog 124 #[.agg #[.int .i64 x0, .int .i64 x1, .int .i64 x2, .int .i64 x3, .int .i64 x4, .int .i64 x5, .int .i64 x6, .int .i64 x7, .int .i64 x8, .int .i64 x9, .int .i64 x10], .agg #[.int .i64 p0, .int .i64 p1, .int .i64 p2, .int .i64 p3, .int .i64 p4], .int .i64 now] w (Says (.bool (availB x0 x1 x2 x3 x4 x5 x6 x7 x8 x9 x10 p2 p4 now)) w) := by
  obtain ⟨RA, hRA⟩ : ∃ R, R = availB x0 x1 x2 x3 x4 x5 x6 x7 x8 x9 x10 p2 p4 now := ⟨_, rfl⟩
  obtain ⟨RL, hRL⟩ : ∃ R, R = lostB x0 x1 x2 x3 x4 x5 x6 x7 x8 x9 x10 p2 p4 now := ⟨_, rfl⟩
  rw [← hRA]
  have HH : Hid (∀ W : World, Calls Tryz.prog 157 #[.agg #[.int .i64 x0, .int .i64 x1, .int .i64 x2, .int .i64 x3, .int .i64 x4, .int .i64 x5, .int .i64 x6, .int .i64 x7, .int .i64 x8, .int .i64 x9, .int .i64 x10], .agg #[.int .i64 p0, .int .i64 p1, .int .i64 p2, .int .i64 p3, .int .i64 p4], .int .i64 now] W (Says (.tuple #[.bool RA, .bool RL]) W)) := fun W => by rw [hRA, hRL]; exact health_any x0 x1 x2 x3 x4 x5 x6 x7 x8 x9 x10 p0 p1 p2 p3 p4 now W
  clear hRA hRL
  obtain ⟨V, hV⟩ : ∃ V, V = ((w.alloc (.cells #[.int .i64 x0, .int .i64 x1, .int .i64 x2, .int .i64 x3, .int .i64 x4, .int .i64 x5, .int .i64 x6, .int .i64 x7, .int .i64 x8, .int .i64 x9, .int .i64 x10] 25)).alloc (.cells #[.int .i64 p0, .int .i64 p1, .int .i64 p2, .int .i64 p3, .int .i64 p4] 77)) := ⟨_, rfl⟩
  have hbV : Below w.heap.size w V := by rw [hV]; exact bel2 _ _ _
  have BS : Hid (V.heap[w.heap.size]? = some (.cells #[.int .i64 x0, .int .i64 x1, .int .i64 x2, .int .i64 x3, .int .i64 x4, .int .i64 x5, .int .i64 x6, .int .i64 x7, .int .i64 x8, .int .i64 x9, .int .i64 x10] 25)) := by have h := box_alloc (box_new w (.cells #[.int .i64 x0, .int .i64 x1, .int .i64 x2, .int .i64 x3, .int .i64 x4, .int .i64 x5, .int .i64 x6, .int .i64 x7, .int .i64 x8, .int .i64 x9, .int .i64 x10] 25)) (.cells #[.int .i64 p0, .int .i64 p1, .int .i64 p2, .int .i64 p3, .int .i64 p4] 77); (try simp only [World.size_alloc] at h); rw [hV]; exact h
  have BP : Hid (V.heap[w.heap.size + 1]? = some (.cells #[.int .i64 p0, .int .i64 p1, .int .i64 p2, .int .i64 p3, .int .i64 p4] 77)) := by have h := box_new (w.alloc (.cells #[.int .i64 x0, .int .i64 x1, .int .i64 x2, .int .i64 x3, .int .i64 x4, .int .i64 x5, .int .i64 x6, .int .i64 x7, .int .i64 x8, .int .i64 x9, .int .i64 x10] 25)) (.cells #[.int .i64 p0, .int .i64 p1, .int .i64 p2, .int .i64 p3, .int .i64 p4] 77); (try simp only [World.size_alloc] at h); rw [hV]; exact h
  go_enter Tryz.func124, Tryz.ntmps124
  go_wp2_with fail
  rw [← hV]
  clear hV
  refine (HH.out _).mono ?_
  rintro e w1 ⟨rfl, hbs⟩
  have BS' := Lib.hid (box_below BS.out hbs)
  have BP' := Lib.hid (box_below BP.out hbs)
  have hbn1 : Below w.heap.size w w1 := bel_then hbV hbs hbV.size
  clear BS
  have BS := BS'
  clear BS'
  clear BP
  have BP := BP'
  clear BP'
  clear hbs
  go_wp2
  go_ret
  exact ⟨rfl, hbn1⟩
set_option maxRecDepth 100000 in
set_option maxHeartbeats 1600000 in
theorem isLost_any (x0 x1 x2 x3 x4 x5 x6 x7 x8 x9 x10 p0 p1 p2 p3 p4 now : Int) (w : World) :
    Calls Tryz.prog 193 #[.agg #[.int .i64 x0, .int .i64 x1, .int .i64 x2, .int .i64 x3, .int .i64 x4, .int .i64 x5, .int .i64 x6, .int .i64 x7, .int .i64 x8, .int .i64 x9, .int .i64 x10], .agg #[.int .i64 p0, .int .i64 p1, .int .i64 p2, .int .i64 p3, .int .i64 p4], .int .i64 now] w (Says (.bool (lostB x0 x1 x2 x3 x4 x5 x6 x7 x8 x9 x10 p2 p4 now)) w) := by
  obtain ⟨RA, hRA⟩ : ∃ R, R = availB x0 x1 x2 x3 x4 x5 x6 x7 x8 x9 x10 p2 p4 now := ⟨_, rfl⟩
  obtain ⟨RL, hRL⟩ : ∃ R, R = lostB x0 x1 x2 x3 x4 x5 x6 x7 x8 x9 x10 p2 p4 now := ⟨_, rfl⟩
  rw [← hRL]
  have HH : Hid (∀ W : World, Calls Tryz.prog 157 #[.agg #[.int .i64 x0, .int .i64 x1, .int .i64 x2, .int .i64 x3, .int .i64 x4, .int .i64 x5, .int .i64 x6, .int .i64 x7, .int .i64 x8, .int .i64 x9, .int .i64 x10], .agg #[.int .i64 p0, .int .i64 p1, .int .i64 p2, .int .i64 p3, .int .i64 p4], .int .i64 now] W (Says (.tuple #[.bool RA, .bool RL]) W)) := fun W => by rw [hRA, hRL]; exact health_any x0 x1 x2 x3 x4 x5 x6 x7 x8 x9 x10 p0 p1 p2 p3 p4 now W
  clear hRA hRL
  obtain ⟨V, hV⟩ : ∃ V, V = ((w.alloc (.cells #[.int .i64 x0, .int .i64 x1, .int .i64 x2, .int .i64 x3, .int .i64 x4, .int .i64 x5, .int .i64 x6, .int .i64 x7, .int .i64 x8, .int .i64 x9, .int .i64 x10] 25)).alloc (.cells #[.int .i64 p0, .int .i64 p1, .int .i64 p2, .int .i64 p3, .int .i64 p4] 77)) := ⟨_, rfl⟩
  have hbV : Below w.heap.size w V := by rw [hV]; exact bel2 _ _ _
  have BS : Hid (V.heap[w.heap.size]? = some (.cells #[.int .i64 x0, .int .i64 x1, .int .i64 x2, .int .i64 x3, .int .i64 x4, .int .i64 x5, .int .i64 x6, .int .i64 x7, .int .i64 x8, .int .i64 x9, .int .i64 x10] 25)) := by have h := box_alloc (box_new w (.cells #[.int .i64 x0, .int .i64 x1, .int .i64 x2, .int .i64 x3, .int .i64 x4, .int .i64 x5, .int .i64 x6, .int .i64 x7, .int .i64 x8, .int .i64 x9, .int .i64 x10] 25)) (.cells #[.int .i64 p0, .int .i64 p1, .int .i64 p2, .int .i64 p3, .int .i64 p4] 77); (try simp only [World.size_alloc] at h); rw [hV]; exact h
  have BP : Hid (V.heap[w.heap.size + 1]? = some (.cells #[.int .i64 p0, .int .i64 p1, .int .i64 p2, .int .i64 p3, .int .i64 p4] 77)) := by have h := box_new (w.alloc (.cells #[.int .i64 x0, .int .i64 x1, .int .i64 x2, .int .i64 x3, .int .i64 x4, .int .i64 x5, .int .i64 x6, .int .i64 x7, .int .i64 x8, .int .i64 x9, .int .i64 x10] 25)) (.cells #[.int .i64 p0, .int .i64 p1, .int .i64 p2, .int .i64 p3, .int .i64 p4] 77); (try simp only [World.size_alloc] at h); rw [hV]; exact h
  go_enter Tryz.func193, Tryz.ntmps193
  go_wp2_with fail
  rw [← hV]
  clear hV
  refine (HH.out _).mono ?_
  rintro e w1 ⟨rfl, hbs⟩
  have BS' := Lib.hid (box_below BS.out hbs)
  have BP' := Lib.hid (box_below BP.out hbs)
  have hbn1 : Below w.heap.size w w1 := bel_then hbV hbs hbV.size
  clear BS
  have BS := BS'
  clear BS'
  clear BP
  have BP := BP'
  clear BP'
  clear hbs
  go_wp2
  go_ret
  exact ⟨rfl, hbn1⟩
theorem tickAfter_any (a d : Int) (w : World) (ha : 0 ≤ a ∧ a ≤ 1000000000) (hd : 0 ≤ d ∧ d ≤ 100000) : Calls Tryz.prog 84 #[.int .i64 a, .int .i64 d] w fun e w' => e = .returned (.int .i64 (cutV (a + d))) ∧ w = w' := by
  by_cases h : 1000000000 < a + d
  · have HV : Hid (cutV (a + d) = -1) := (if_pos h : cutV (a + d) = -1)
    go_enter Tryz.func84, Tryz.ntmps84
    go_wp2
    go_ret
    exact ⟨by rw [HV.out]; rfl, rfl⟩
  · have HV : Hid (cutV (a + d) = a + d) := (if_neg h : cutV (a + d) = a + d)
    go_enter Tryz.func84, Tryz.ntmps84
    go_wp2
    go_ret
    exact ⟨by rw [HV.out]; rfl, rfl⟩
theorem fromUp_any (a d : Int) (w : World) (ha : 0 ≤ a ∧ a ≤ 1000000000) (hd : 0 ≤ d ∧ d ≤ 100000) : Calls Tryz.prog 284 #[.agg #[.int .i64 d], .int .i64 a] w (Says (.int .i64 (cutV (a + d))) w) := by
  go_enter Tryz.func284, Tryz.ntmps284
  go_wp2_with (go_at_call 84; refine (tickAfter_any _ _ _ ha hd).mono ?_; rintro e w' ⟨rfl, rfl⟩)
  go_ret
  exact ⟨rfl, bel1 _ _⟩
theorem fromGiven_any (a d : Int) (w : World) (ha : 0 ≤ a ∧ a ≤ 1000000000) (hd : 0 ≤ d ∧ d ≤ 100000) : Calls Tryz.prog 285 #[.agg #[.int .i64 d], .int .i64 a] w (Says (.int .i64 (cutV (a + d))) w) := by
  go_enter Tryz.func285, Tryz.ntmps285
  go_wp2_with (go_at_call 84; refine (tickAfter_any _ _ _ ha hd).mono ?_; rintro e w' ⟨rfl, rfl⟩)
  go_ret
  exact ⟨rfl, bel1 _ _⟩
theorem fromBroken_any (a : Int) (w : World) : Calls Tryz.prog 286 #[.agg #[], .int .i64 a] w (Says (.int .i64 a) w) := by
  go_enter Tryz.func286, Tryz.ntmps286
  go_wp2
  go_ret
  exact ⟨rfl, bel1 _ _⟩
theorem fromStays_any (a : Int) (w : World) : Calls Tryz.prog 287 #[.agg #[], .int .i64 a] w (Says (.int .i64 (-1)) w) := by
  go_enter Tryz.func287, Tryz.ntmps287
  go_wp2
  go_ret
  exact ⟨rfl, by first | exact bel1 _ _ | exact Below.refl _ _⟩
theorem mUp (v : Value) (w : World) : (Go.method 394 213 v "loop.example/g00734/impl.from").run Tryz.prog w = .ok (284, v) w := by kernel_rfl
theorem mGiven (v : Value) (w : World) : (Go.method 394 214 v "loop.example/g00734/impl.from").run Tryz.prog w = .ok (285, v) w := by kernel_rfl
theorem mBroken (v : Value) (w : World) : (Go.method 394 215 v "loop.example/g00734/impl.from").run Tryz.prog w = .ok (286, v) w := by kernel_rfl
theorem mStays (v : Value) (w : World) : (Go.method 394 216 v "loop.example/g00734/impl.from").run Tryz.prog w = .ok (287, v) w := by kernel_rfl
set_option maxRecDepth 100000 in
set_option maxHeartbeats 1600000 in
theorem nextHealth_any (x0 x1 x2 x3 x4 x5 x6 x7 x8 x9 x10 p0 p1 p2 p3 p4 : Int) (w : World) :
    Calls Tryz.prog 113 #[.agg #[.int .i64 x0, .int .i64 x1, .int .i64 x2, .int .i64 x3, .int .i64 x4, .int .i64 x5, .int .i64 x6, .int .i64 x7, .int .i64 x8, .int .i64 x9, .int .i64 x10], .agg #[.int .i64 p0, .int .i64 p1, .int .i64 p2, .int .i64 p3, .int .i64 p4]] w (Says (.int .i64 (nextV x0 x1 x2 x3 x4 x5 x6 x7 x8 x9 x10 p2 p4)) w) := by
  obtain ⟨R, hR⟩ : ∃ R, R = nextV x0 x1 x2 x3 x4 x5 x6 x7 x8 x9 x10 p2 p4 := ⟨_, rfl⟩
  rw [← hR]
  have HR := Lib.hid hR
  clear hR
  obtain ⟨V, hV⟩ : ∃ V, V = ((w.alloc (.cells #[.int .i64 x0, .int .i64 x1, .int .i64 x2, .int .i64 x3, .int .i64 x4, .int .i64 x5, .int .i64 x6, .int .i64 x7, .int .i64 x8, .int .i64 x9, .int .i64 x10] 25)).alloc (.cells #[.int .i64 p0, .int .i64 p1, .int .i64 p2, .int .i64 p3, .int .i64 p4] 77)) := ⟨_, rfl⟩
  have hbV : Below w.heap.size w V := by rw [hV]; exact bel2 _ _ _
  have BS : Hid (V.heap[w.heap.size]? = some (.cells #[.int .i64 x0, .int .i64 x1, .int .i64 x2, .int .i64 x3, .int .i64 x4, .int .i64 x5, .int .i64 x6, .int .i64 x7, .int .i64 x8, .int .i64 x9, .int .i64 x10] 25)) := by have h := box_alloc (box_new w (.cells #[.int .i64 x0, .int .i64 x1, .int .i64 x2, .int .i64 x3, .int .i64 x4, .int .i64 x5, .int .i64 x6, .int .i64 x7, .int .i64 x8, .int .i64 x9, .int .i64 x10] 25)) (.cells #[.int .i64 p0, .int .i64 p1, .int .i64 p2, .int .i64 p3, .int .i64 p4] 77); (try simp only [World.size_alloc] at h); rw [hV]; exact h
  have BP : Hid (V.heap[w.heap.size + 1]? = some (.cells #[.int .i64 p0, .int .i64 p1, .int .i64 p2, .int .i64 p3, .int .i64 p4] 77)) := by have h := box_new (w.alloc (.cells #[.int .i64 x0, .int .i64 x1, .int .i64 x2, .int .i64 x3, .int .i64 x4, .int .i64 x5, .int .i64 x6, .int .i64 x7, .int .i64 x8, .int .i64 x9, .int .i64 x10] 25)) (.cells #[.int .i64 p0, .int .i64 p1, .int .i64 p2, .int .i64 p3, .int .i64 p4] 77); (try simp only [World.size_alloc] at h); rw [hV]; exact h
  go_enter Tryz.func113, Tryz.ntmps113
  go_wp2_with fail
  rw [← hV]
  clear hV
  refine (specOk_any x0 x1 x2 x3 x4 x5 x6 x7 x8 x9 x10 _).mono ?_
  rintro e w1 ⟨rfl, hbs⟩
  have BS' := Lib.hid (box_below BS.out hbs)
  have BP' := Lib.hid (box_below BP.out hbs)
  have hbn1 : Below w.heap.size w w1 := bel_then hbV hbs hbV.size
  clear BS
  have BS := BS'
  clear BS'
  clear BP
  have BP := BP'
  clear BP'
  clear hbs
  cases hs : specB x0 x1 x2 x3 x4 x5 x6 x7 x8 x9 x10
  · have HV : Hid (R = -1) := by show R = -1; rw [HR.out]; simp [nextV, hs]
    go_wp2
    go_ret
    exact ⟨by rw [HV.out]; rfl, hbn1⟩
  have cBS_0 : w1.cell? ⟨w.heap.size, 0, none⟩ = some (.int .i64 x0) := box_cell BS.out 0 _ rfl
  have cBS_1 : w1.cell? ⟨w.heap.size, 1, none⟩ = some (.int .i64 x1) := box_cell BS.out 1 _ rfl
  have cBS_2 : w1.cell? ⟨w.heap.size, 2, none⟩ = some (.int .i64 x2) := box_cell BS.out 2 _ rfl
  have cBS_3 : w1.cell? ⟨w.heap.size, 3, none⟩ = some (.int .i64 x3) := box_cell BS.out 3 _ rfl
  have cBS_4 : w1.cell? ⟨w.heap.size, 4, none⟩ = some (.int .i64 x4) := box_cell BS.out 4 _ rfl
  have cBS_5 : w1.cell? ⟨w.heap.size, 5, none⟩ = some (.int .i64 x5) := box_cell BS.out 5 _ rfl
  have cBS_6 : w1.cell? ⟨w.heap.size, 6, none⟩ = some (.int .i64 x6) := box_cell BS.out 6 _ rfl
  have cBS_7 : w1.cell? ⟨w.heap.size, 7, none⟩ = some (.int .i64 x7) := box_cell BS.out 7 _ rfl
  have cBS_8 : w1.cell? ⟨w.heap.size, 8, none⟩ = some (.int .i64 x8) := box_cell BS.out 8 _ rfl
  have cBS_9 : w1.cell? ⟨w.heap.size, 9, none⟩ = some (.int .i64 x9) := box_cell BS.out 9 _ rfl
  have cBS_10 : w1.cell? ⟨w.heap.size, 10, none⟩ = some (.int .i64 x10) := box_cell BS.out 10 _ rfl
  have cBP_0 : w1.cell? ⟨w.heap.size + 1, 0, none⟩ = some (.int .i64 p0) := box_cell BP.out 0 _ rfl
  have cBP_1 : w1.cell? ⟨w.heap.size + 1, 1, none⟩ = some (.int .i64 p1) := box_cell BP.out 1 _ rfl
  have cBP_2 : w1.cell? ⟨w.heap.size + 1, 2, none⟩ = some (.int .i64 p2) := box_cell BP.out 2 _ rfl
  have cBP_3 : w1.cell? ⟨w.heap.size + 1, 3, none⟩ = some (.int .i64 p3) := box_cell BP.out 3 _ rfl
  have cBP_4 : w1.cell? ⟨w.heap.size + 1, 4, none⟩ = some (.int .i64 p4) := box_cell BP.out 4 _ rfl
  go_wp2_with fail
  refine (tickOk_any p4 _).mono ?_
  rintro e w' ⟨rfl, rfl⟩
  cases ht : tokB p4
  · have HV : Hid (R = -1) := by show R = -1; rw [HR.out]; simp [nextV, ht]
    go_wp2
    go_ret
    exact ⟨by rw [HV.out]; rfl, hbn1⟩
  have hb4 := tok_t ht
  have hx := specB_t hs
  have hb3 : 0 ≤ x3 ∧ x3 ≤ 100000 := by omega
  have hb7 : 0 ≤ x7 ∧ x7 ≤ 100000 := by omega
  clear hx
  by_cases h2 : p2 = 2
  case pos =>
    have HF : Hid (∀ W : World, Calls Tryz.prog 143 #[.agg #[.int .i64 x0, .int .i64 x1, .int .i64 x2, .int .i64 x3, .int .i64 x4, .int .i64 x5, .int .i64 x6, .int .i64 x7, .int .i64 x8, .int .i64 x9, .int .i64 x10], .agg #[.int .i64 p0, .int .i64 p1, .int .i64 p2, .int .i64 p3, .int .i64 p4]] W (Says (.iface 213 (.agg #[.int .i64 x3])) W)) := fun W => by have h := fateOf_any x0 x1 x2 x3 x4 x5 x6 x7 x8 x9 x10 p0 p1 p2 p3 p4 W; rw [show fateV x3 x7 p2 = .iface 213 (.agg #[.int .i64 x3]) by simp [fateV, h2]] at h; exact h
    have HV : Hid (R = cutV (p4 + x3)) := by show R = _; rw [HR.out]; simp [nextV, hs, ht, h2]
    have HM : Hid (∀ W : World, Calls Tryz.prog 284 #[.agg #[.int .i64 x3], .int .i64 p4] W (Says (.int .i64 R) W)) := fun W => by rw [HV.out]; exact fromUp_any p4 x3 W hb4 hb3
    have m1 := mUp
    clear HR HV hs ht hb4 hb3 hb7
    subst h2
    go_wp2_with fail
    go_region_held3 (fun w' => w'.cell? ⟨w.heap.size, 0, none⟩ = some (.int .i64 x0) ∧ w'.cell? ⟨w.heap.size, 1, none⟩ = some (.int .i64 x1) ∧ w'.cell? ⟨w.heap.size, 2, none⟩ = some (.int .i64 x2) ∧ w'.cell? ⟨w.heap.size, 3, none⟩ = some (.int .i64 x3) ∧ w'.cell? ⟨w.heap.size, 4, none⟩ = some (.int .i64 x4) ∧ w'.cell? ⟨w.heap.size, 5, none⟩ = some (.int .i64 x5) ∧ w'.cell? ⟨w.heap.size, 6, none⟩ = some (.int .i64 x6) ∧ w'.cell? ⟨w.heap.size, 7, none⟩ = some (.int .i64 x7) ∧ w'.cell? ⟨w.heap.size, 8, none⟩ = some (.int .i64 x8) ∧ w'.cell? ⟨w.heap.size, 9, none⟩ = some (.int .i64 x9) ∧ w'.cell? ⟨w.heap.size, 10, none⟩ = some (.int .i64 x10) ∧ w'.cell? ⟨w.heap.size + 1, 0, none⟩ = some (.int .i64 p0) ∧ w'.cell? ⟨w.heap.size + 1, 1, none⟩ = some (.int .i64 p1) ∧ w'.cell? ⟨w.heap.size + 1, 2, none⟩ = some (.int .i64 2) ∧ w'.cell? ⟨w.heap.size + 1, 3, none⟩ = some (.int .i64 p3) ∧ w'.cell? ⟨w.heap.size + 1, 4, none⟩ = some (.int .i64 p4))
      (first | (go_keep; done) | (refine ⟨cell_keep hbd1 ?_, cell_keep hbd1 ?_, cell_keep hbd1 ?_, cell_keep hbd1 ?_, cell_keep hbd1 ?_, cell_keep hbd1 ?_, cell_keep hbd1 ?_, cell_keep hbd1 ?_, cell_keep hbd1 ?_, cell_keep hbd1 ?_, cell_keep hbd1 ?_, cell_keep hbd1 ?_, cell_keep hbd1 ?_, cell_keep hbd1 ?_, cell_keep hbd1 ?_, cell_keep hbd1 ?_⟩ <;> simp only [*]; done) | (refine ⟨cell_keep hbd0 ?_, cell_keep hbd0 ?_, cell_keep hbd0 ?_, cell_keep hbd0 ?_, cell_keep hbd0 ?_, cell_keep hbd0 ?_, cell_keep hbd0 ?_, cell_keep hbd0 ?_, cell_keep hbd0 ?_, cell_keep hbd0 ?_, cell_keep hbd0 ?_, cell_keep hbd0 ?_, cell_keep hbd0 ?_, cell_keep hbd0 ?_, cell_keep hbd0 ?_, cell_keep hbd0 ?_⟩ <;> simp only [*]; done) | go_keep)
      (first | (have hgo := hbd0; clear hgo; go_at_call 284; refine (HM.out _).mono ?_; rintro e w3 ⟨rfl, hbd1⟩; have hbz : Below w1.heap.size w1 w3 := bel_then (undrew hbd0) hbd1 hbd0.size) | (go_at_call 143; refine (HF.out _).mono ?_; rintro e w2 ⟨rfl, hbd0⟩))
    all_goals
      have hbf := bel_then hbn1 hbz hbn1.size
      go_wp2
      go_ret
      exact ⟨rfl, hbf⟩
  by_cases h0 : p2 = 0
  case pos =>
    have HF : Hid (∀ W : World, Calls Tryz.prog 143 #[.agg #[.int .i64 x0, .int .i64 x1, .int .i64 x2, .int .i64 x3, .int .i64 x4, .int .i64 x5, .int .i64 x6, .int .i64 x7, .int .i64 x8, .int .i64 x9, .int .i64 x10], .agg #[.int .i64 p0, .int .i64 p1, .int .i64 p2, .int .i64 p3, .int .i64 p4]] W (Says (.iface 214 (.agg #[.int .i64 x7])) W)) := fun W => by have h := fateOf_any x0 x1 x2 x3 x4 x5 x6 x7 x8 x9 x10 p0 p1 p2 p3 p4 W; rw [show fateV x3 x7 p2 = .iface 214 (.agg #[.int .i64 x7]) by simp [fateV, h0]] at h; exact h
    have HV : Hid (R = cutV (p4 + x7)) := by show R = _; rw [HR.out]; simp [nextV, hs, ht, h0]
    have HM : Hid (∀ W : World, Calls Tryz.prog 285 #[.agg #[.int .i64 x7], .int .i64 p4] W (Says (.int .i64 R) W)) := fun W => by rw [HV.out]; exact fromGiven_any p4 x7 W hb4 hb7
    have m1 := mGiven
    clear HR HV hs ht hb4 hb3 hb7
    subst h0
    go_wp2_with fail
    go_region_held3 (fun w' => w'.cell? ⟨w.heap.size, 0, none⟩ = some (.int .i64 x0) ∧ w'.cell? ⟨w.heap.size, 1, none⟩ = some (.int .i64 x1) ∧ w'.cell? ⟨w.heap.size, 2, none⟩ = some (.int .i64 x2) ∧ w'.cell? ⟨w.heap.size, 3, none⟩ = some (.int .i64 x3) ∧ w'.cell? ⟨w.heap.size, 4, none⟩ = some (.int .i64 x4) ∧ w'.cell? ⟨w.heap.size, 5, none⟩ = some (.int .i64 x5) ∧ w'.cell? ⟨w.heap.size, 6, none⟩ = some (.int .i64 x6) ∧ w'.cell? ⟨w.heap.size, 7, none⟩ = some (.int .i64 x7) ∧ w'.cell? ⟨w.heap.size, 8, none⟩ = some (.int .i64 x8) ∧ w'.cell? ⟨w.heap.size, 9, none⟩ = some (.int .i64 x9) ∧ w'.cell? ⟨w.heap.size, 10, none⟩ = some (.int .i64 x10) ∧ w'.cell? ⟨w.heap.size + 1, 0, none⟩ = some (.int .i64 p0) ∧ w'.cell? ⟨w.heap.size + 1, 1, none⟩ = some (.int .i64 p1) ∧ w'.cell? ⟨w.heap.size + 1, 2, none⟩ = some (.int .i64 0) ∧ w'.cell? ⟨w.heap.size + 1, 3, none⟩ = some (.int .i64 p3) ∧ w'.cell? ⟨w.heap.size + 1, 4, none⟩ = some (.int .i64 p4))
      (first | (go_keep; done) | (refine ⟨cell_keep hbd1 ?_, cell_keep hbd1 ?_, cell_keep hbd1 ?_, cell_keep hbd1 ?_, cell_keep hbd1 ?_, cell_keep hbd1 ?_, cell_keep hbd1 ?_, cell_keep hbd1 ?_, cell_keep hbd1 ?_, cell_keep hbd1 ?_, cell_keep hbd1 ?_, cell_keep hbd1 ?_, cell_keep hbd1 ?_, cell_keep hbd1 ?_, cell_keep hbd1 ?_, cell_keep hbd1 ?_⟩ <;> simp only [*]; done) | (refine ⟨cell_keep hbd0 ?_, cell_keep hbd0 ?_, cell_keep hbd0 ?_, cell_keep hbd0 ?_, cell_keep hbd0 ?_, cell_keep hbd0 ?_, cell_keep hbd0 ?_, cell_keep hbd0 ?_, cell_keep hbd0 ?_, cell_keep hbd0 ?_, cell_keep hbd0 ?_, cell_keep hbd0 ?_, cell_keep hbd0 ?_, cell_keep hbd0 ?_, cell_keep hbd0 ?_, cell_keep hbd0 ?_⟩ <;> simp only [*]; done) | go_keep)
      (first | (have hgo := hbd0; clear hgo; go_at_call 285; refine (HM.out _).mono ?_; rintro e w3 ⟨rfl, hbd1⟩; have hbz : Below w1.heap.size w1 w3 := bel_then (undrew hbd0) hbd1 hbd0.size) | (go_at_call 143; refine (HF.out _).mono ?_; rintro e w2 ⟨rfl, hbd0⟩))
    all_goals
      have hbf := bel_then hbn1 hbz hbn1.size
      go_wp2
      go_ret
      exact ⟨rfl, hbf⟩
  by_cases h1 : p2 = 1
  case pos =>
    have HF : Hid (∀ W : World, Calls Tryz.prog 143 #[.agg #[.int .i64 x0, .int .i64 x1, .int .i64 x2, .int .i64 x3, .int .i64 x4, .int .i64 x5, .int .i64 x6, .int .i64 x7, .int .i64 x8, .int .i64 x9, .int .i64 x10], .agg #[.int .i64 p0, .int .i64 p1, .int .i64 p2, .int .i64 p3, .int .i64 p4]] W (Says (.iface 214 (.agg #[.int .i64 x7])) W)) := fun W => by have h := fateOf_any x0 x1 x2 x3 x4 x5 x6 x7 x8 x9 x10 p0 p1 p2 p3 p4 W; rw [show fateV x3 x7 p2 = .iface 214 (.agg #[.int .i64 x7]) by simp [fateV, h1]] at h; exact h
    have HV : Hid (R = cutV (p4 + x7)) := by show R = _; rw [HR.out]; simp [nextV, hs, ht, h1]
    have HM : Hid (∀ W : World, Calls Tryz.prog 285 #[.agg #[.int .i64 x7], .int .i64 p4] W (Says (.int .i64 R) W)) := fun W => by rw [HV.out]; exact fromGiven_any p4 x7 W hb4 hb7
    have m1 := mGiven
    clear HR HV hs ht hb4 hb3 hb7
    subst h1
    go_wp2_with fail
    go_region_held3 (fun w' => w'.cell? ⟨w.heap.size, 0, none⟩ = some (.int .i64 x0) ∧ w'.cell? ⟨w.heap.size, 1, none⟩ = some (.int .i64 x1) ∧ w'.cell? ⟨w.heap.size, 2, none⟩ = some (.int .i64 x2) ∧ w'.cell? ⟨w.heap.size, 3, none⟩ = some (.int .i64 x3) ∧ w'.cell? ⟨w.heap.size, 4, none⟩ = some (.int .i64 x4) ∧ w'.cell? ⟨w.heap.size, 5, none⟩ = some (.int .i64 x5) ∧ w'.cell? ⟨w.heap.size, 6, none⟩ = some (.int .i64 x6) ∧ w'.cell? ⟨w.heap.size, 7, none⟩ = some (.int .i64 x7) ∧ w'.cell? ⟨w.heap.size, 8, none⟩ = some (.int .i64 x8) ∧ w'.cell? ⟨w.heap.size, 9, none⟩ = some (.int .i64 x9) ∧ w'.cell? ⟨w.heap.size, 10, none⟩ = some (.int .i64 x10) ∧ w'.cell? ⟨w.heap.size + 1, 0, none⟩ = some (.int .i64 p0) ∧ w'.cell? ⟨w.heap.size + 1, 1, none⟩ = some (.int .i64 p1) ∧ w'.cell? ⟨w.heap.size + 1, 2, none⟩ = some (.int .i64 1) ∧ w'.cell? ⟨w.heap.size + 1, 3, none⟩ = some (.int .i64 p3) ∧ w'.cell? ⟨w.heap.size + 1, 4, none⟩ = some (.int .i64 p4))
      (first | (go_keep; done) | (refine ⟨cell_keep hbd1 ?_, cell_keep hbd1 ?_, cell_keep hbd1 ?_, cell_keep hbd1 ?_, cell_keep hbd1 ?_, cell_keep hbd1 ?_, cell_keep hbd1 ?_, cell_keep hbd1 ?_, cell_keep hbd1 ?_, cell_keep hbd1 ?_, cell_keep hbd1 ?_, cell_keep hbd1 ?_, cell_keep hbd1 ?_, cell_keep hbd1 ?_, cell_keep hbd1 ?_, cell_keep hbd1 ?_⟩ <;> simp only [*]; done) | (refine ⟨cell_keep hbd0 ?_, cell_keep hbd0 ?_, cell_keep hbd0 ?_, cell_keep hbd0 ?_, cell_keep hbd0 ?_, cell_keep hbd0 ?_, cell_keep hbd0 ?_, cell_keep hbd0 ?_, cell_keep hbd0 ?_, cell_keep hbd0 ?_, cell_keep hbd0 ?_, cell_keep hbd0 ?_, cell_keep hbd0 ?_, cell_keep hbd0 ?_, cell_keep hbd0 ?_, cell_keep hbd0 ?_⟩ <;> simp only [*]; done) | go_keep)
      (first | (have hgo := hbd0; clear hgo; go_at_call 285; refine (HM.out _).mono ?_; rintro e w3 ⟨rfl, hbd1⟩; have hbz : Below w1.heap.size w1 w3 := bel_then (undrew hbd0) hbd1 hbd0.size) | (go_at_call 143; refine (HF.out _).mono ?_; rintro e w2 ⟨rfl, hbd0⟩))
    all_goals
      have hbf := bel_then hbn1 hbz hbn1.size
      go_wp2
      go_ret
      exact ⟨rfl, hbf⟩
  by_cases h3 : p2 = 3
  case pos =>
    have HF : Hid (∀ W : World, Calls Tryz.prog 143 #[.agg #[.int .i64 x0, .int .i64 x1, .int .i64 x2, .int .i64 x3, .int .i64 x4, .int .i64 x5, .int .i64 x6, .int .i64 x7, .int .i64 x8, .int .i64 x9, .int .i64 x10], .agg #[.int .i64 p0, .int .i64 p1, .int .i64 p2, .int .i64 p3, .int .i64 p4]] W (Says (.iface 215 (.agg #[])) W)) := fun W => by have h := fateOf_any x0 x1 x2 x3 x4 x5 x6 x7 x8 x9 x10 p0 p1 p2 p3 p4 W; rw [show fateV x3 x7 p2 = .iface 215 (.agg #[]) by simp [fateV, h3]] at h; exact h
    have HV : Hid (R = p4) := by show R = _; rw [HR.out]; simp [nextV, hs, ht, h3]
    have HM : Hid (∀ W : World, Calls Tryz.prog 286 #[.agg #[], .int .i64 p4] W (Says (.int .i64 R) W)) := fun W => by rw [HV.out]; exact fromBroken_any p4 W
    have m1 := mBroken
    clear HR HV hs ht hb4 hb3 hb7
    subst h3
    go_wp2_with fail
    go_region_held3 (fun w' => w'.cell? ⟨w.heap.size, 0, none⟩ = some (.int .i64 x0) ∧ w'.cell? ⟨w.heap.size, 1, none⟩ = some (.int .i64 x1) ∧ w'.cell? ⟨w.heap.size, 2, none⟩ = some (.int .i64 x2) ∧ w'.cell? ⟨w.heap.size, 3, none⟩ = some (.int .i64 x3) ∧ w'.cell? ⟨w.heap.size, 4, none⟩ = some (.int .i64 x4) ∧ w'.cell? ⟨w.heap.size, 5, none⟩ = some (.int .i64 x5) ∧ w'.cell? ⟨w.heap.size, 6, none⟩ = some (.int .i64 x6) ∧ w'.cell? ⟨w.heap.size, 7, none⟩ = some (.int .i64 x7) ∧ w'.cell? ⟨w.heap.size, 8, none⟩ = some (.int .i64 x8) ∧ w'.cell? ⟨w.heap.size, 9, none⟩ = some (.int .i64 x9) ∧ w'.cell? ⟨w.heap.size, 10, none⟩ = some (.int .i64 x10) ∧ w'.cell? ⟨w.heap.size + 1, 0, none⟩ = some (.int .i64 p0) ∧ w'.cell? ⟨w.heap.size + 1, 1, none⟩ = some (.int .i64 p1) ∧ w'.cell? ⟨w.heap.size + 1, 2, none⟩ = some (.int .i64 3) ∧ w'.cell? ⟨w.heap.size + 1, 3, none⟩ = some (.int .i64 p3) ∧ w'.cell? ⟨w.heap.size + 1, 4, none⟩ = some (.int .i64 p4))
      (first | (go_keep; done) | (refine ⟨cell_keep hbd1 ?_, cell_keep hbd1 ?_, cell_keep hbd1 ?_, cell_keep hbd1 ?_, cell_keep hbd1 ?_, cell_keep hbd1 ?_, cell_keep hbd1 ?_, cell_keep hbd1 ?_, cell_keep hbd1 ?_, cell_keep hbd1 ?_, cell_keep hbd1 ?_, cell_keep hbd1 ?_, cell_keep hbd1 ?_, cell_keep hbd1 ?_, cell_keep hbd1 ?_, cell_keep hbd1 ?_⟩ <;> simp only [*]; done) | (refine ⟨cell_keep hbd0 ?_, cell_keep hbd0 ?_, cell_keep hbd0 ?_, cell_keep hbd0 ?_, cell_keep hbd0 ?_, cell_keep hbd0 ?_, cell_keep hbd0 ?_, cell_keep hbd0 ?_, cell_keep hbd0 ?_, cell_keep hbd0 ?_, cell_keep hbd0 ?_, cell_keep hbd0 ?_, cell_keep hbd0 ?_, cell_keep hbd0 ?_, cell_keep hbd0 ?_, cell_keep hbd0 ?_⟩ <;> simp only [*]; done) | go_keep)
      (first | (have hgo := hbd0; clear hgo; go_at_call 286; refine (HM.out _).mono ?_; rintro e w3 ⟨rfl, hbd1⟩; have hbz : Below w1.heap.size w1 w3 := bel_then (undrew hbd0) hbd1 hbd0.size) | (go_at_call 143; refine (HF.out _).mono ?_; rintro e w2 ⟨rfl, hbd0⟩))
    all_goals
      have hbf := bel_then hbn1 hbz hbn1.size
      go_wp2
      go_ret
      exact ⟨rfl, hbf⟩
  have HF : Hid (∀ W : World, Calls Tryz.prog 143 #[.agg #[.int .i64 x0, .int .i64 x1, .int .i64 x2, .int .i64 x3, .int .i64 x4, .int .i64 x5, .int .i64 x6, .int .i64 x7, .int .i64 x8, .int .i64 x9, .int .i64 x10], .agg #[.int .i64 p0, .int .i64 p1, .int .i64 p2, .int .i64 p3, .int .i64 p4]] W (Says (.iface 216 (.agg #[])) W)) := fun W => by have h := fateOf_any x0 x1 x2 x3 x4 x5 x6 x7 x8 x9 x10 p0 p1 p2 p3 p4 W; rw [show fateV x3 x7 p2 = .iface 216 (.agg #[]) by simp [fateV, h2, h0, h1, h3]] at h; exact h
  have HV : Hid (R = -1) := by show R = _; rw [HR.out]; simp [nextV, hs, ht, h2, h0, h1, h3]
  have HM : Hid (∀ W : World, Calls Tryz.prog 287 #[.agg #[], .int .i64 p4] W (Says (.int .i64 R) W)) := fun W => by rw [HV.out]; exact fromStays_any p4 W
  have m1 := mStays
  clear HR HV hs ht hb4 hb3 hb7
  go_wp2_with fail
  go_region_held3 (fun w' => w'.cell? ⟨w.heap.size, 0, none⟩ = some (.int .i64 x0) ∧ w'.cell? ⟨w.heap.size, 1, none⟩ = some (.int .i64 x1) ∧ w'.cell? ⟨w.heap.size, 2, none⟩ = some (.int .i64 x2) ∧ w'.cell? ⟨w.heap.size, 3, none⟩ = some (.int .i64 x3) ∧ w'.cell? ⟨w.heap.size, 4, none⟩ = some (.int .i64 x4) ∧ w'.cell? ⟨w.heap.size, 5, none⟩ = some (.int .i64 x5) ∧ w'.cell? ⟨w.heap.size, 6, none⟩ = some (.int .i64 x6) ∧ w'.cell? ⟨w.heap.size, 7, none⟩ = some (.int .i64 x7) ∧ w'.cell? ⟨w.heap.size, 8, none⟩ = some (.int .i64 x8) ∧ w'.cell? ⟨w.heap.size, 9, none⟩ = some (.int .i64 x9) ∧ w'.cell? ⟨w.heap.size, 10, none⟩ = some (.int .i64 x10) ∧ w'.cell? ⟨w.heap.size + 1, 0, none⟩ = some (.int .i64 p0) ∧ w'.cell? ⟨w.heap.size + 1, 1, none⟩ = some (.int .i64 p1) ∧ w'.cell? ⟨w.heap.size + 1, 2, none⟩ = some (.int .i64 p2) ∧ w'.cell? ⟨w.heap.size + 1, 3, none⟩ = some (.int .i64 p3) ∧ w'.cell? ⟨w.heap.size + 1, 4, none⟩ = some (.int .i64 p4))
    (first | (go_keep; done) | (refine ⟨cell_keep hbd1 ?_, cell_keep hbd1 ?_, cell_keep hbd1 ?_, cell_keep hbd1 ?_, cell_keep hbd1 ?_, cell_keep hbd1 ?_, cell_keep hbd1 ?_, cell_keep hbd1 ?_, cell_keep hbd1 ?_, cell_keep hbd1 ?_, cell_keep hbd1 ?_, cell_keep hbd1 ?_, cell_keep hbd1 ?_, cell_keep hbd1 ?_, cell_keep hbd1 ?_, cell_keep hbd1 ?_⟩ <;> simp only [*]; done) | (refine ⟨cell_keep hbd0 ?_, cell_keep hbd0 ?_, cell_keep hbd0 ?_, cell_keep hbd0 ?_, cell_keep hbd0 ?_, cell_keep hbd0 ?_, cell_keep hbd0 ?_, cell_keep hbd0 ?_, cell_keep hbd0 ?_, cell_keep hbd0 ?_, cell_keep hbd0 ?_, cell_keep hbd0 ?_, cell_keep hbd0 ?_, cell_keep hbd0 ?_, cell_keep hbd0 ?_, cell_keep hbd0 ?_⟩ <;> simp only [*]; done) | go_keep)
    (first | (have hgo := hbd0; clear hgo; go_at_call 287; refine (HM.out _).mono ?_; rintro e w3 ⟨rfl, hbd1⟩; have hbz : Below w1.heap.size w1 w3 := bel_then (undrew hbd0) hbd1 hbd0.size) | (go_at_call 143; refine (HF.out _).mono ?_; rintro e w2 ⟨rfl, hbd0⟩))
  all_goals
    have hbf := bel_then hbn1 hbz hbn1.size
    go_wp2
    go_ret
    exact ⟨rfl, hbf⟩
end Go.Proofs.YtdefckbgcggnoaaGreat.Hl
