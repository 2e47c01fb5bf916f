import Derived.Deep.RegionHeld3
import Derived.Test.YtklgjjmcflgjeaaGreatR01
import Derived.Test.YtklgjjmcflgjeaaGreatR02
set_option linter.unusedVariables false
set_option linter.unusedSimpArgs false
namespace Go.Proofs.YtklgjjmcflgjeaaGreat.Cnt
open Go.ChangeShapes Go.WideShapes Go.ChangeAt Go.RowKit
open LK Sp Put
open Tick (inB in_t in_f)
set_option maxHeartbeats 1600000 in
theorem CountOk_any (l a : Int) (w : World) : Calls Tryz.prog 293 #[.agg #[.int .i64 l, .int .i64 a]] w (Says (.bool (countB l a)) w) := by
  obtain ⟨V, hV⟩ : ∃ V, V = w.alloc (.cells #[.int .i64 l, .int .i64 a] 231) := ⟨_, rfl⟩
  have hbV : Below w.heap.size w V := by rw [hV]; exact bel1 _ _
  have KC : Hid (V.heap[w.heap.size]? = some (.cells #[.int .i64 l, .int .i64 a] 231)) := by rw [hV]; exact box_new w _
  have c0 := box_cell KC.out 0 _ rfl
  have c1 := box_cell KC.out 1 _ rfl
  go_enter Tryz.func293, Tryz.ntmps293
  go_wp2_with fail
  rw [← hV]
  clear hV
  refine (within_any _ _ _ _).mono ?_
  rintro e w' ⟨rfl, rfl⟩
  cases h1 : inB l 0 30
  · go_wp2
    go_ret
    exact ⟨by simp [countB, h1], hbV⟩
  · go_wp2_with fail
    refine (within_any _ _ _ _).mono ?_
    rintro e w' ⟨rfl, rfl⟩
    go_wp2
    go_ret
    exact ⟨by simp [countB, h1], hbV⟩
set_option maxRecDepth 100000 in
set_option maxHeartbeats 1600000 in
theorem Ceiling_any (x0 x1 x2 x3 x4 x5 x6 x7 x8 x9 x10 : Int) (w : World) : Calls Tryz.prog 109 #[.agg #[.int .i64 x0, .int .i64 x1, .int .i64 x2, .int .i64 x3, .int .i64 x4, .int .i64 x5, .int .i64 x6, .int .i64 x7, .int .i64 x8, .int .i64 x9, .int .i64 x10]] w (Says (.int .i64 (ceilV x0 x1 x2 x3 x4 x5 x6 x7 x8 x9 x10)) w) := by
  obtain ⟨V, hV⟩ : ∃ V, V = w.alloc (.cells #[.int .i64 x0, .int .i64 x1, .int .i64 x2, .int .i64 x3, .int .i64 x4, .int .i64 x5, .int .i64 x6, .int .i64 x7, .int .i64 x8, .int .i64 x9, .int .i64 x10] 25) := ⟨_, rfl⟩
  have hbV : Below w.heap.size w V := by rw [hV]; exact bel1 _ _
  have KS : Hid (V.heap[w.heap.size]? = some (.cells #[.int .i64 x0, .int .i64 x1, .int .i64 x2, .int .i64 x3, .int .i64 x4, .int .i64 x5, .int .i64 x6, .int .i64 x7, .int .i64 x8, .int .i64 x9, .int .i64 x10] 25)) := by rw [hV]; exact box_new w _
  go_enter Tryz.func109, Tryz.ntmps109
  go_wp2_with fail
  rw [← hV]
  clear hV
  refine (specOk_any x0 x1 x2 x3 x4 x5 x6 x7 x8 x9 x10 _).mono ?_
  rintro e w1 ⟨rfl, hb⟩
  have KS' := Lib.hid (box_below KS.out hb)
  have HB := Lib.hid (bel_then hbV hb hbV.size)
  clear KS hb hbV
  cases hs : specB x0 x1 x2 x3 x4 x5 x6 x7 x8 x9 x10
  · go_wp2
    go_ret
    exact ⟨by simp [ceilV, hs], HB.out⟩
  · have hbd := specB_t hs
    have c0 := box_cell KS'.out 0 _ rfl
    have c1 := box_cell KS'.out 1 _ rfl
    have c2 := box_cell KS'.out 2 _ rfl
    have HS := Lib.hid hs
    clear hs
    go_wp2
    go_ret
    exact ⟨by simp [ceilV, HS.out], HB.out⟩
set_option maxRecDepth 100000 in
set_option maxHeartbeats 1600000 in
theorem Floor_any (x0 x1 x2 x3 x4 x5 x6 x7 x8 x9 x10 : Int) (w : World) : Calls Tryz.prog 313 #[.agg #[.int .i64 x0, .int .i64 x1, .int .i64 x2, .int .i64 x3, .int .i64 x4, .int .i64 x5, .int .i64 x6, .int .i64 x7, .int .i64 x8, .int .i64 x9, .int .i64 x10]] w (Says (.int .i64 (floorV x0 x1 x2 x3 x4 x5 x6 x7 x8 x9 x10)) w) := by
  obtain ⟨V, hV⟩ : ∃ V, V = w.alloc (.cells #[.int .i64 x0, .int .i64 x1, .int .i64 x2, .int .i64 x3, .int .i64 x4, .int .i64 x5, .int .i64 x6, .int .i64 x7, .int .i64 x8, .int .i64 x9, .int .i64 x10] 25) := ⟨_, rfl⟩
  have hbV : Below w.heap.size w V := by rw [hV]; exact bel1 _ _
  have KS : Hid (V.heap[w.heap.size]? = some (.cells #[.int .i64 x0, .int .i64 x1, .int .i64 x2, .int .i64 x3, .int .i64 x4, .int .i64 x5, .int .i64 x6, .int .i64 x7, .int .i64 x8, .int .i64 x9, .int .i64 x10] 25)) := by rw [hV]; exact box_new w _
  go_enter Tryz.func313, Tryz.ntmps313
  go_wp2_with fail
  rw [← hV]
  clear hV
  refine (specOk_any x0 x1 x2 x3 x4 x5 x6 x7 x8 x9 x10 _).mono ?_
  rintro e w1 ⟨rfl, hb⟩
  have KS' := Lib.hid (box_below KS.out hb)
  have HB := Lib.hid (bel_then hbV hb hbV.size)
  clear KS hb hbV
  cases hs : specB x0 x1 x2 x3 x4 x5 x6 x7 x8 x9 x10
  · go_wp2
    go_ret
    exact ⟨by simp [floorV, hs], HB.out⟩
  · have hbd := specB_t hs
    have c0 := box_cell KS'.out 0 _ rfl
    have c1 := box_cell KS'.out 1 _ rfl
    have c2 := box_cell KS'.out 2 _ rfl
    have HS := Lib.hid hs
    clear hs
    go_wp2
    go_ret
    exact ⟨by simp [floorV, HS.out], HB.out⟩
set_option maxRecDepth 100000 in
set_option maxHeartbeats 1600000 in
theorem LimitOf_any (x0 x1 x2 x3 x4 x5 x6 x7 x8 x9 x10 : Int) (b : Bool) (w : World) : Calls Tryz.prog 272 #[.agg #[.int .i64 x0, .int .i64 x1, .int .i64 x2, .int .i64 x3, .int .i64 x4, .int .i64 x5, .int .i64 x6, .int .i64 x7, .int .i64 x8, .int .i64 x9, .int .i64 x10], .bool b] w (Says (.int .i64 (limV x0 x1 x2 x3 x4 x5 x6 x7 x8 x9 x10 b)) w) := by
  obtain ⟨V, hV⟩ : ∃ V, V = w.alloc (.cells #[.int .i64 x0, .int .i64 x1, .int .i64 x2, .int .i64 x3, .int .i64 x4, .int .i64 x5, .int .i64 x6, .int .i64 x7, .int .i64 x8, .int .i64 x9, .int .i64 x10] 25) := ⟨_, rfl⟩
  have hbV : Below w.heap.size w V := by rw [hV]; exact bel1 _ _
  have KS : Hid (V.heap[w.heap.size]? = some (.cells #[.int .i64 x0, .int .i64 x1, .int .i64 x2, .int .i64 x3, .int .i64 x4, .int .i64 x5, .int .i64 x6, .int .i64 x7, .int .i64 x8, .int .i64 x9, .int .i64 x10] 25)) := by rw [hV]; exact box_new w _
  go_enter Tryz.func272, Tryz.ntmps272
  go_wp2_with fail
  rw [← hV]
  clear hV
  refine (specOk_any x0 x1 x2 x3 x4 x5 x6 x7 x8 x9 x10 _).mono ?_
  rintro e w1 ⟨rfl, hb⟩
  have KS' := Lib.hid (box_below KS.out hb)
  have HB := Lib.hid (bel_then hbV hb hbV.size)
  clear KS hb hbV
  cases hs : specB x0 x1 x2 x3 x4 x5 x6 x7 x8 x9 x10
  · go_wp2
    go_ret
    exact ⟨by simp [limV, hs], HB.out⟩
  · have c0 := box_cell KS'.out 0 _ rfl
    have c9 := box_cell KS'.out 9 _ rfl
    have HS := Lib.hid hs
    clear hs
    by_cases h9 : 0 < x9 <;> cases b
    · have hv : Hid (limV x0 x1 x2 x3 x4 x5 x6 x7 x8 x9 x10 false = x9) := by show _ = _; unfold limV; rw [if_pos HS.out]; exact if_pos ⟨h9, rfl⟩
      go_wp2
      go_ret
      exact ⟨by rw [hv.out]; rfl, HB.out⟩
    · have hv : Hid (limV x0 x1 x2 x3 x4 x5 x6 x7 x8 x9 x10 true = x0) := by show _ = _; unfold limV; rw [if_pos HS.out]; exact if_neg (fun h => absurd h.2 (by simp))
      go_wp2
      go_ret
      exact ⟨by rw [hv.out]; rfl, HB.out⟩
    · have hv : Hid (limV x0 x1 x2 x3 x4 x5 x6 x7 x8 x9 x10 false = x0) := by show _ = _; unfold limV; rw [if_pos HS.out]; exact if_neg (fun h => absurd h.1 h9)
      go_wp2
      go_ret
      exact ⟨by rw [hv.out]; rfl, HB.out⟩
    · have hv : Hid (limV x0 x1 x2 x3 x4 x5 x6 x7 x8 x9 x10 true = x0) := by show _ = _; unfold limV; rw [if_pos HS.out]; exact if_neg (fun h => absurd h.1 h9)
      go_wp2
      go_ret
      exact ⟨by rw [hv.out]; rfl, HB.out⟩
set_option maxHeartbeats 1600000 in
theorem allUp_any (n : Int) (w : World) : Calls Tryz.prog 274 #[.int .i64 n] w (Says (.agg #[.int .i64 n, .int .i64 n]) w) := by
  have KR := box_new w (.cells #[.int .i64 0, .int .i64 0] 231)
  have RB := setRow_box (vs := #[.int .i64 n, .int .i64 n]) KR
  have r0 := box_cell RB 0 _ rfl
  have r1 := box_cell RB 1 _ rfl
  have HBF := Lib.hid (setRow_below (bel1 w (.cells #[.int .i64 0, .int .i64 0] 231)) w.heap.size #[.int .i64 n, .int .i64 n] (Nat.le_refl _) (by simp))
  go_enter Tryz.func274, Tryz.ntmps274
  go_wp2_with (refine wpList_put rfl rfl 231 _ _ rfl w.heap.size _ rfl rfl _ _ KR (Tryz.sizeOf231 _) rfl (by simp [Value.oneCell']) ?_)
  exact bodyPost_ret (v := .agg #[.int .i64 n, .int .i64 n]) (by simp [results, Tryz.results274, go_sem, r0, r1]) rfl ⟨rfl, HBF.out⟩
end Go.Proofs.YtklgjjmcflgjeaaGreat.Cnt
namespace Go.Proofs.YtklgjjmcflgjeaaGreat.Hl
open Go.ChangeShapes Go.WideShapes Go.ChangeAt Go.RowKit
open LK Sp
open Tick (inB in_t in_f tokB tok_t sinceV specTickOk_any tickOk_any sinceI_any)
def fateV (x3 x7 p2 : Int) : Value := if p2 = 2 then .iface 262 (.agg #[.int .i64 x3]) else if p2 = 0 then .iface 263 (.agg #[.int .i64 x7]) else if p2 = 1 then .iface 263 (.agg #[.int .i64 x7]) else if p2 = 3 then .iface 264 (.agg #[]) else .iface 265 (.agg #[])
set_option maxRecDepth 100000 in
set_option maxHeartbeats 1600000 in
theorem fateOf_any (x0 x1 x2 x3 x4 x5 x6 x7 x8 x9 x10 p0 p1 p2 p3 p4 : Int) (w : World) :
    Calls Tryz.prog 180 #[.agg #[.int .i64 x0, .int .i64 x1, .int .i64 x2, .int .i64 x3, .int .i64 x4, .int .i64 x5, .int .i64 x6, .int .i64 x7, .int .i64 x8, .int .i64 x9, .int .i64 x10], .agg #[.int .i64 p0, .int .i64 p1, .int .i64 p2, .int .i64 p3, .int .i64 p4]] w (Says (fateV x3 x7 p2) w) := by
  obtain ⟨R, hR⟩ : ∃ R, R = fateV x3 x7 p2 := ⟨_, rfl⟩
  rw [← hR]
  have HR := Lib.hid hR
  clear hR
  by_cases h2 : p2 = 2
  case pos =>
    have HV : Hid (R = .iface 262 (.agg #[.int .i64 x3])) := by show R = _; rw [HR.out]; simp [fateV, h2]
    clear HR
    subst h2
    go_enter Tryz.func180, Tryz.ntmps180
    go_wp2
    go_ret
    exact ⟨by rw [HV.out]; rfl, bel2 _ _ _⟩
  by_cases h0 : p2 = 0
  case pos =>
    have HV : Hid (R = .iface 263 (.agg #[.int .i64 x7])) := by show R = _; rw [HR.out]; simp [fateV, h0]
    clear HR
    subst h0
    go_enter Tryz.func180, Tryz.ntmps180
    go_wp2
    go_ret
    exact ⟨by rw [HV.out]; rfl, bel2 _ _ _⟩
  by_cases h1 : p2 = 1
  case pos =>
    have HV : Hid (R = .iface 263 (.agg #[.int .i64 x7])) := by show R = _; rw [HR.out]; simp [fateV, h1]
    clear HR
    subst h1
    go_enter Tryz.func180, Tryz.ntmps180
    go_wp2
    go_ret
    exact ⟨by rw [HV.out]; rfl, bel2 _ _ _⟩
  by_cases h3 : p2 = 3
  case pos =>
    have HV : Hid (R = .iface 264 (.agg #[])) := by show R = _; rw [HR.out]; simp [fateV, h3]
    clear HR
    subst h3
    go_enter Tryz.func180, Tryz.ntmps180
    go_wp2
    go_ret
    exact ⟨by rw [HV.out]; rfl, bel2 _ _ _⟩
  have HV : Hid (R = .iface 265 (.agg #[])) := by show R = _; rw [HR.out]; simp [fateV, h0, h1, h2, h3]
  clear HR
  go_enter Tryz.func180, Tryz.ntmps180
  go_wp2
  go_ret
  exact ⟨by rw [HV.out]; rfl, bel2 _ _ _⟩
theorem as_up_up (x : Int) (w : World) : (Instr.typeAssert (.iface 262 (.agg #[.int .i64 x])) 223 262 true).run Tryz.prog w = .ok (.tuple #[.agg #[.int .i64 x], .bool true]) w := by kernel_rfl
theorem as_gi_up (x : Int) (w : World) : (Instr.typeAssert (.iface 263 (.agg #[.int .i64 x])) 223 262 true).run Tryz.prog w = .ok (.tuple #[.agg #[.int .i64 0], .bool false]) w := by kernel_rfl
theorem as_gi_gi (x : Int) (w : World) : (Instr.typeAssert (.iface 263 (.agg #[.int .i64 x])) 223 263 true).run Tryz.prog w = .ok (.tuple #[.agg #[.int .i64 x], .bool true]) w := by kernel_rfl
theorem as_br_up (w : World) : (Instr.typeAssert (.iface 264 (.agg #[])) 223 262 true).run Tryz.prog w = .ok (.tuple #[.agg #[.int .i64 0], .bool false]) w := by kernel_rfl
theorem as_br_gi (w : World) : (Instr.typeAssert (.iface 264 (.agg #[])) 223 263 true).run Tryz.prog w = .ok (.tuple #[.agg #[.int .i64 0], .bool false]) w := by kernel_rfl
theorem as_br_br (w : World) : (Instr.typeAssert (.iface 264 (.agg #[])) 223 264 true).run Tryz.prog w = .ok (.tuple #[.agg #[], .bool true]) w := by kernel_rfl
theorem as_st_up (w : World) : (Instr.typeAssert (.iface 265 (.agg #[])) 223 262 true).run Tryz.prog w = .ok (.tuple #[.agg #[.int .i64 0], .bool false]) w := by kernel_rfl
theorem as_st_gi (w : World) : (Instr.typeAssert (.iface 265 (.agg #[])) 223 263 true).run Tryz.prog w = .ok (.tuple #[.agg #[.int .i64 0], .bool false]) w := by kernel_rfl
theorem as_st_br (w : World) : (Instr.typeAssert (.iface 265 (.agg #[])) 223 264 true).run Tryz.prog w = .ok (.tuple #[.agg #[], .bool false]) w := by kernel_rfl
set_option maxRecDepth 100000 in
set_option maxHeartbeats 1600000 in
theorem health_any (x0 x1 x2 x3 x4 x5 x6 x7 x8 x9 x10 p0 p1 p2 p3 p4 now : Int) (w : World) :
    Calls Tryz.prog 194 #[.agg #[.int .i64 x0, .int .i64 x1, .int .i64 x2, .int .i64 x3, .int .i64 x4, .int .i64 x5, .int .i64 x6, .int .i64 x7, .int .i64 x8, .int .i64 x9, .int .i64 x10], .agg #[.int .i64 p0, .int .i64 p1, .int .i64 p2, .int .i64 p3, .int .i64 p4], .int .i64 now] w (Says (.tuple #[.bool (availB x0 x1 x2 x3 x4 x5 x6 x7 x8 x9 x10 p2 p4 now), .bool (lostB x0 x1 x2 x3 x4 x5 x6 x7 x8 x9 x10 p2 p4 now)]) w) := by
  obtain ⟨RA, hRA⟩ : ∃ R, R = availB x0 x1 x2 x3 x4 x5 x6 x7 x8 x9 x10 p2 p4 now := ⟨_, rfl⟩
  rw [← hRA]
  have HRA := Lib.hid hRA
  clear hRA
  obtain ⟨RL, hRL⟩ : ∃ R, R = lostB x0 x1 x2 x3 x4 x5 x6 x7 x8 x9 x10 p2 p4 now := ⟨_, rfl⟩
  rw [← hRL]
  have HRL := Lib.hid hRL
  clear hRL
  obtain ⟨V, hV⟩ : ∃ V, V = ((w.alloc (.cells #[.int .i64 x0, .int .i64 x1, .int .i64 x2, .int .i64 x3, .int .i64 x4, .int .i64 x5, .int .i64 x6, .int .i64 x7, .int .i64 x8, .int .i64 x9, .int .i64 x10] 25)).alloc (.cells #[.int .i64 p0, .int .i64 p1, .int .i64 p2, .int .i64 p3, .int .i64 p4] 85)) := ⟨_, rfl⟩
  have hbV : Below w.heap.size w V := by rw [hV]; exact bel2 _ _ _
  have BS : Hid (V.heap[w.heap.size]? = some (.cells #[.int .i64 x0, .int .i64 x1, .int .i64 x2, .int .i64 x3, .int .i64 x4, .int .i64 x5, .int .i64 x6, .int .i64 x7, .int .i64 x8, .int .i64 x9, .int .i64 x10] 25)) := by have h := box_alloc (box_new w (.cells #[.int .i64 x0, .int .i64 x1, .int .i64 x2, .int .i64 x3, .int .i64 x4, .int .i64 x5, .int .i64 x6, .int .i64 x7, .int .i64 x8, .int .i64 x9, .int .i64 x10] 25)) (.cells #[.int .i64 p0, .int .i64 p1, .int .i64 p2, .int .i64 p3, .int .i64 p4] 85); (try simp only [World.size_alloc] at h); rw [hV]; exact h
  have BP : Hid (V.heap[w.heap.size + 1]? = some (.cells #[.int .i64 p0, .int .i64 p1, .int .i64 p2, .int .i64 p3, .int .i64 p4] 85)) := by have h := box_new (w.alloc (.cells #[.int .i64 x0, .int .i64 x1, .int .i64 x2, .int .i64 x3, .int .i64 x4, .int .i64 x5, .int .i64 x6, .int .i64 x7, .int .i64 x8, .int .i64 x9, .int .i64 x10] 25)) (.cells #[.int .i64 p0, .int .i64 p1, .int .i64 p2, .int .i64 p3, .int .i64 p4] 85); (try simp only [World.size_alloc] at h); rw [hV]; exact h
  go_enter Tryz.func194, Tryz.ntmps194
  go_wp2_with fail
  rw [← hV]
  clear hV
  refine (specOk_any x0 x1 x2 x3 x4 x5 x6 x7 x8 x9 x10 _).mono ?_
  rintro e w1 ⟨rfl, hbs⟩
  have BS' := Lib.hid (box_below BS.out hbs)
  have BP' := Lib.hid (box_below BP.out hbs)
  have hbn1 : Below w.heap.size w w1 := bel_then hbV hbs hbV.size
  clear BS
  have BS := BS'
  clear BS'
  clear BP
  have BP := BP'
  clear BP'
  clear hbs
  cases hs : specB x0 x1 x2 x3 x4 x5 x6 x7 x8 x9 x10
  · have HA : Hid (RA = false) := by show RA = _; rw [HRA.out]; simp [availB, hs]
    have HL : Hid (RL = false) := by show RL = _; rw [HRL.out]; simp [lostB, hs]
    clear HRA HRL
    go_wp2
    go_ret2
    exact ⟨by rw [HA.out, HL.out]; rfl, hbn1⟩
  go_wp2_with fail
  refine (tickOk_any now _).mono ?_
  rintro e w' ⟨rfl, rfl⟩
  cases ht : tokB now
  · have HA : Hid (RA = false) := by show RA = _; rw [HRA.out]; simp [availB, ht]
    have HL : Hid (RL = false) := by show RL = _; rw [HRL.out]; simp [lostB, ht]
    clear HRA HRL
    go_wp2
    go_ret2
    exact ⟨by rw [HA.out, HL.out]; rfl, hbn1⟩
  have hx := specB_t hs
  have hx3 : 0 ≤ x3 := by omega
  have hx7 : 1 ≤ x7 := by omega
  clear hx
  have cBS_0 : w1.cell? ⟨w.heap.size, 0, none⟩ = some (.int .i64 x0) := box_cell BS.out 0 _ rfl
  have cBS_1 : w1.cell? ⟨w.heap.size, 1, none⟩ = some (.int .i64 x1) := box_cell BS.out 1 _ rfl
  have cBS_2 : w1.cell? ⟨w.heap.size, 2, none⟩ = some (.int .i64 x2) := box_cell BS.out 2 _ rfl
  have cBS_3 : w1.cell? ⟨w.heap.size, 3, none⟩ = some (.int .i64 x3) := box_cell BS.out 3 _ rfl
  have cBS_4 : w1.cell? ⟨w.heap.size, 4, none⟩ = some (.int .i64 x4) := box_cell BS.out 4 _ rfl
  have cBS_5 : w1.cell? ⟨w.heap.size, 5, none⟩ = some (.int .i64 x5) := box_cell BS.out 5 _ rfl
  have cBS_6 : w1.cell? ⟨w.heap.size, 6, none⟩ = some (.int .i64 x6) := box_cell BS.out 6 _ rfl
  have cBS_7 : w1.cell? ⟨w.heap.size, 7, none⟩ = some (.int .i64 x7) := box_cell BS.out 7 _ rfl
  have cBS_8 : w1.cell? ⟨w.heap.size, 8, none⟩ = some (.int .i64 x8) := box_cell BS.out 8 _ rfl
  have cBS_9 : w1.cell? ⟨w.heap.size, 9, none⟩ = some (.int .i64 x9) := box_cell BS.out 9 _ rfl
  have cBS_10 : w1.cell? ⟨w.heap.size, 10, none⟩ = some (.int .i64 x10) := box_cell BS.out 10 _ rfl
  have cBP_0 : w1.cell? ⟨w.heap.size + 1, 0, none⟩ = some (.int .i64 p0) := box_cell BP.out 0 _ rfl
  have cBP_1 : w1.cell? ⟨w.heap.size + 1, 1, none⟩ = some (.int .i64 p1) := box_cell BP.out 1 _ rfl
  have cBP_2 : w1.cell? ⟨w.heap.size + 1, 2, none⟩ = some (.int .i64 p2) := box_cell BP.out 2 _ rfl
  have cBP_3 : w1.cell? ⟨w.heap.size + 1, 3, none⟩ = some (.int .i64 p3) := box_cell BP.out 3 _ rfl
  have cBP_4 : w1.cell? ⟨w.heap.size + 1, 4, none⟩ = some (.int .i64 p4) := box_cell BP.out 4 _ rfl
  obtain ⟨z, hz⟩ : ∃ z, z = sinceV p4 now := ⟨_, rfl⟩
  have HZ := Lib.hid hz
  go_wp2_with fail
  refine (sinceI_any p4 now _).mono ?_
  rintro e w' ⟨rfl, rfl⟩
  rw [← hz]
  clear hz
  by_cases h2 : p2 = 2
  case pos =>
    have HF : Hid (∀ W : World, Calls Tryz.prog 180 #[.agg #[.int .i64 x0, .int .i64 x1, .int .i64 x2, .int .i64 x3, .int .i64 x4, .int .i64 x5, .int .i64 x6, .int .i64 x7, .int .i64 x8, .int .i64 x9, .int .i64 x10], .agg #[.int .i64 p0, .int .i64 p1, .int .i64 p2, .int .i64 p3, .int .i64 p4]] W (Says (.iface 262 (.agg #[.int .i64 x3])) W)) := fun W => by have h := fateOf_any x0 x1 x2 x3 x4 x5 x6 x7 x8 x9 x10 p0 p1 p2 p3 p4 W; rw [show fateV x3 x7 p2 = .iface 262 (.agg #[.int .i64 x3]) by simp [fateV, h2]] at h; exact h
    have HA : Hid (RA = decide (x3 ≤ z)) := by show RA = _; rw [HRA.out, HZ.out]; simp [availB, hs, ht, h2]
    have HL : Hid (RL = false) := by show RL = _; rw [HRL.out]; simp [lostB, h2]
    clear HRA HRL HZ hs ht
    subst h2
    go_wp2_with fail
    refine (HF.out _).mono ?_
    rintro e w2 ⟨rfl, hbs⟩
    clear cBS_0 cBS_1 cBS_2 cBS_3 cBS_4 cBS_5 cBS_6 cBS_7 cBS_8 cBS_9 cBS_10 cBP_0 cBP_1 cBP_2 cBP_3 cBP_4
    have BS' := Lib.hid (box_below BS.out hbs)
    have BP' := Lib.hid (box_below BP.out hbs)
    have hbn2 : Below w.heap.size w w2 := bel_then hbn1 hbs hbn1.size
    clear BS
    have BS := BS'
    clear BS'
    clear BP
    have BP := BP'
    clear BP'
    clear hbs
    have as0 := as_up_up x3
    by_cases hq : x3 ≤ z
    · go_wp2
      go_ret2
      exact ⟨by rw [HA.out, HL.out]; simp [hq], by first | exact hbn2.alloc hbn2.size _ | exact (hbn2.alloc hbn2.size _).alloc (by simp; have := hbn2.size; omega) _⟩
    · go_wp2
      go_ret2
      exact ⟨by rw [HA.out, HL.out]; simp [hq], by first | exact hbn2.alloc hbn2.size _ | exact (hbn2.alloc hbn2.size _).alloc (by simp; have := hbn2.size; omega) _⟩
  by_cases h0 : p2 = 0
  case pos =>
    have HF : Hid (∀ W : World, Calls Tryz.prog 180 #[.agg #[.int .i64 x0, .int .i64 x1, .int .i64 x2, .int .i64 x3, .int .i64 x4, .int .i64 x5, .int .i64 x6, .int .i64 x7, .int .i64 x8, .int .i64 x9, .int .i64 x10], .agg #[.int .i64 p0, .int .i64 p1, .int .i64 p2, .int .i64 p3, .int .i64 p4]] W (Says (.iface 263 (.agg #[.int .i64 x7])) W)) := fun W => by have h := fateOf_any x0 x1 x2 x3 x4 x5 x6 x7 x8 x9 x10 p0 p1 p2 p3 p4 W; rw [show fateV x3 x7 p2 = .iface 263 (.agg #[.int .i64 x7]) by simp [fateV, h0]] at h; exact h
    have HA : Hid (RA = false) := by show RA = _; rw [HRA.out]; simp [availB, h0]
    have HL : Hid (RL = decide (x7 ≤ z)) := by show RL = _; rw [HRL.out, HZ.out]; simp [lostB, hs, ht, h0]
    clear HRA HRL HZ hs ht
    subst h0
    go_wp2_with fail
    refine (HF.out _).mono ?_
    rintro e w2 ⟨rfl, hbs⟩
    clear cBS_0 cBS_1 cBS_2 cBS_3 cBS_4 cBS_5 cBS_6 cBS_7 cBS_8 cBS_9 cBS_10 cBP_0 cBP_1 cBP_2 cBP_3 cBP_4
    have BS' := Lib.hid (box_below BS.out hbs)
    have BP' := Lib.hid (box_below BP.out hbs)
    have hbn2 : Below w.heap.size w w2 := bel_then hbn1 hbs hbn1.size
    clear BS
    have BS := BS'
    clear BS'
    clear BP
    have BP := BP'
    clear BP'
    clear hbs
    have as0 := as_gi_up x7
    have as1 := as_gi_gi x7
    by_cases hq : x7 ≤ z
    · go_wp2
      go_ret2
      exact ⟨by rw [HA.out, HL.out]; simp [hq], by first | exact hbn2.alloc hbn2.size _ | exact (hbn2.alloc hbn2.size _).alloc (by simp; have := hbn2.size; omega) _⟩
    · go_wp2
      go_ret2
      exact ⟨by rw [HA.out, HL.out]; simp [hq], by first | exact hbn2.alloc hbn2.size _ | exact (hbn2.alloc hbn2.size _).alloc (by simp; have := hbn2.size; omega) _⟩
  by_cases h1 : p2 = 1
  case pos =>
    have HF : Hid (∀ W : World, Calls Tryz.prog 180 #[.agg #[.int .i64 x0, .int .i64 x1, .int .i64 x2, .int .i64 x3, .int .i64 x4, .int .i64 x5, .int .i64 x6, .int .i64 x7, .int .i64 x8, .int .i64 x9, .int .i64 x10], .agg #[.int .i64 p0, .int .i64 p1, .int .i64 p2, .int .i64 p3, .int .i64 p4]] W (Says (.iface 263 (.agg #[.int .i64 x7])) W)) := fun W => by have h := fateOf_any x0 x1 x2 x3 x4 x5 x6 x7 x8 x9 x10 p0 p1 p2 p3 p4 W; rw [show fateV x3 x7 p2 = .iface 263 (.agg #[.int .i64 x7]) by simp [fateV, h1]] at h; exact h
    have HA : Hid (RA = false) := by show RA = _; rw [HRA.out]; simp [availB, h1]
    have HL : Hid (RL = decide (x7 ≤ z)) := by show RL = _; rw [HRL.out, HZ.out]; simp [lostB, hs, ht, h1]
    clear HRA HRL HZ hs ht
    subst h1
    go_wp2_with fail
    refine (HF.out _).mono ?_
    rintro e w2 ⟨rfl, hbs⟩
    clear cBS_0 cBS_1 cBS_2 cBS_3 cBS_4 cBS_5 cBS_6 cBS_7 cBS_8 cBS_9 cBS_10 cBP_0 cBP_1 cBP_2 cBP_3 cBP_4
    have BS' := Lib.hid (box_below BS.out hbs)
    have BP' := Lib.hid (box_below BP.out hbs)
    have hbn2 : Below w.heap.size w w2 := bel_then hbn1 hbs hbn1.size
    clear BS
    have BS := BS'
    clear BS'
    clear BP
    have BP := BP'
    clear BP'
    clear hbs
    have as0 := as_gi_up x7
    have as1 := as_gi_gi x7
    by_cases hq : x7 ≤ z
    · go_wp2
      go_ret2
      exact ⟨by rw [HA.out, HL.out]; simp [hq], by first | exact hbn2.alloc hbn2.size _ | exact (hbn2.alloc hbn2.size _).alloc (by simp; have := hbn2.size; omega) _⟩
    · go_wp2
      go_ret2
      exact ⟨by rw [HA.out, HL.out]; simp [hq], by first | exact hbn2.alloc hbn2.size _ | exact (hbn2.alloc hbn2.size _).alloc (by simp; have := hbn2.size; omega) _⟩
  by_cases h3 : p2 = 3
  case pos =>
    have HF : Hid (∀ W : World, Calls Tryz.prog 180 #[.agg #[.int .i64 x0, .int .i64 x1, .int .i64 x2, .int .i64 x3, .int .i64 x4, .int .i64 x5, .int .i64 x6, .int .i64 x7, .int .i64 x8, .int .i64 x9, .int .i64 x10], .agg #[.int .i64 p0, .int .i64 p1, .int .i64 p2, .int .i64 p3, .int .i64 p4]] W (Says (.iface 264 (.agg #[])) W)) := fun W => by have h := fateOf_any x0 x1 x2 x3 x4 x5 x6 x7 x8 x9 x10 p0 p1 p2 p3 p4 W; rw [show fateV x3 x7 p2 = .iface 264 (.agg #[]) by simp [fateV, h3]] at h; exact h
    have HA : Hid (RA = false) := by show RA = _; rw [HRA.out]; simp [availB, h3]
    have HL : Hid (RL = true) := by show RL = _; rw [HRL.out]; simp [lostB, hs, ht, h3]
    clear HRA HRL HZ hs ht
    subst h3
    go_wp2_with fail
    refine (HF.out _).mono ?_
    rintro e w2 ⟨rfl, hbs⟩
    clear cBS_0 cBS_1 cBS_2 cBS_3 cBS_4 cBS_5 cBS_6 cBS_7 cBS_8 cBS_9 cBS_10 cBP_0 cBP_1 cBP_2 cBP_3 cBP_4
    have BS' := Lib.hid (box_below BS.out hbs)
    have BP' := Lib.hid (box_below BP.out hbs)
    have hbn2 : Below w.heap.size w w2 := bel_then hbn1 hbs hbn1.size
    clear BS
    have BS := BS'
    clear BS'
    clear BP
    have BP := BP'
    clear BP'
    clear hbs
    have as0 := as_br_up
    have as1 := as_br_gi
    have as2 := as_br_br
    go_wp2
    go_ret2
    exact ⟨by rw [HA.out, HL.out]; rfl, by first | exact hbn2.alloc hbn2.size _ | exact hbn2⟩
  have HF : Hid (∀ W : World, Calls Tryz.prog 180 #[.agg #[.int .i64 x0, .int .i64 x1, .int .i64 x2, .int .i64 x3, .int .i64 x4, .int .i64 x5, .int .i64 x6, .int .i64 x7, .int .i64 x8, .int .i64 x9, .int .i64 x10], .agg #[.int .i64 p0, .int .i64 p1, .int .i64 p2, .int .i64 p3, .int .i64 p4]] W (Says (.iface 265 (.agg #[])) W)) := fun W => by have h := fateOf_any x0 x1 x2 x3 x4 x5 x6 x7 x8 x9 x10 p0 p1 p2 p3 p4 W; rw [show fateV x3 x7 p2 = .iface 265 (.agg #[]) by simp [fateV, h2, h0, h1, h3]] at h; exact h
  have HA : Hid (RA = false) := by show RA = _; rw [HRA.out]; simp [availB, h2]
  have HL : Hid (RL = false) := by show RL = _; rw [HRL.out]; simp [lostB, h3, h0, h1]
  clear HRA HRL HZ hs ht
  go_wp2_with fail
  refine (HF.out _).mono ?_
  rintro e w2 ⟨rfl, hbs⟩
  clear cBS_0 cBS_1 cBS_2 cBS_3 cBS_4 cBS_5 cBS_6 cBS_7 cBS_8 cBS_9 cBS_10 cBP_0 cBP_1 cBP_2 cBP_3 cBP_4
  have BS' := Lib.hid (box_below BS.out hbs)
  have BP' := Lib.hid (box_below BP.out hbs)
  have hbn2 : Below w.heap.size w w2 := bel_then hbn1 hbs hbn1.size
  clear BS
  have BS := BS'
  clear BS'
  clear BP
  have BP := BP'
  clear BP'
  clear hbs
  have as0 := as_st_up
  have as1 := as_st_gi
  have as2 := as_st_br
  go_wp2
  go_ret2
  exact ⟨by rw [HA.out, HL.out]; rfl, hbn2⟩
set_option maxRecDepth 100000 in
set_option maxHeartbeats 1600000 in
theorem isAvailable_any (x0 x1 x2 x3 x4 x5 x6 x7 x8 x9 x10 p0 p1 p2 p3 p4 now : Int) (w : World) :
    Calls Tryz.prog 148 #[.agg #[.int .i64 x0, .int .i64 x1, .int .i64 x2, .int .i64 x3, .int .i64 x4, .int .i64 x5, .int .i64 x6, .int .i64 x7, .int .i64 x8, .int .i64 x9, .int .i64 x10], .agg #[.int .i64 p0, .int .i64 p1, .int .i64 p2, .int .i64 p3, .int .i64 p4], .int .i64 now] w (Says (.bool (availB x0 x1 x2 x3 x4 x5 x6 x7 x8 x9 x10 p2 p4 now)) w) := by
  obtain ⟨RA, hRA⟩ : ∃ R, R = availB x0 x1 x2 x3 x4 x5 x6 x7 x8 x9 x10 p2 p4 now := ⟨_, rfl⟩
  obtain ⟨RL, hRL⟩ : ∃ R, R = lostB x0 x1 x2 x3 x4 x5 x6 x7 x8 x9 x10 p2 p4 now := ⟨_, rfl⟩
  rw [← hRA]
  have HH : Hid (∀ W : World, Calls Tryz.prog 194 #[.agg #[.int .i64 x0, .int .i64 x1, .int .i64 x2, .int .i64 x3, .int .i64 x4, .int .i64 x5, .int .i64 x6, .int .i64 x7, .int .i64 x8, .int .i64 x9, .int .i64 x10], .agg #[.int .i64 p0, .int .i64 p1, .int .i64 p2, .int .i64 p3, .int .i64 p4], .int .i64 now] W (Says (.tuple #[.bool RA, .bool RL]) W)) := fun W => by rw [hRA, hRL]; exact health_any x0 x1 x2 x3 x4 x5 x6 x7 x8 x9 x10 p0 p1 p2 p3 p4 now W
  clear hRA hRL
  obtain ⟨V, hV⟩ : ∃ V, V = ((w.alloc (.cells #[.int .i64 x0, .int .i64 x1, .int .i64 x2, .int .i64 x3, .int .i64 x4, .int .i64 x5, .int .i64 x6, .int .i64 x7, .int .i64 x8, .int .i64 x9, .int .i64 x10] 25)).alloc (.cells #[.int .i64 p0, .int .i64 p1, .int .i64 p2, .int .i64 p3, .int .i64 p4] 85)) := ⟨_, rfl⟩
  have hbV : Below w.heap.size w V := by rw [hV]; exact bel2 _ _ _
  have BS : Hid (V.heap[w.heap.size]? = some (.cells #[.int .i64 x0, .int .i64 x1, .int .i64 x2, .int .i64 x3, .int .i64 x4, .int .i64 x5, .int .i64 x6, .int .i64 x7, .int .i64 x8, .int .i64 x9, .int .i64 x10] 25)) := by have h := box_alloc (box_new w (.cells #[.int .i64 x0, .int .i64 x1, .int .i64 x2, .int .i64 x3, .int .i64 x4, .int .i64 x5, .int .i64 x6, .int .i64 x7, .int .i64 x8, .int .i64 x9, .int .i64 x10] 25)) (.cells #[.int .i64 p0, .int .i64 p1, .int .i64 p2, .int .i64 p3, .int .i64 p4] 85); (try simp only [World.size_alloc] at h); rw [hV]; exact h
  have BP : Hid (V.heap[w.heap.size + 1]? = some (.cells #[.int .i64 p0, .int .i64 p1, .int .i64 p2, .int .i64 p3, .int .i64 p4] 85)) := by have h := box_new (w.alloc (.cells #[.int .i64 x0, .int .i64 x1, .int .i64 x2, .int .i64 x3, .int .i64 x4, .int .i64 x5, .int .i64 x6, .int .i64 x7, .int .i64 x8, .int .i64 x9, .int .i64 x10] 25)) (.cells #[.int .i64 p0, .int .i64 p1, .int .i64 p2, .int .i64 p3, .int .i64 p4] 85); (try simp only [World.size_alloc] at h); rw [hV]; exact h
  go_enter Tryz.func148, Tryz.ntmps148
  go_wp2_with fail
  rw [← hV]
  clear hV
  refine (HH.out _).mono ?_
  rintro e w1 ⟨rfl, hbs⟩
  have BS' := Lib.hid (box_below BS.out hbs)
  have BP' := Lib.hid (box_below BP.out hbs)
  have hbn1 : Below w.heap.size w w1 := bel_then hbV hbs hbV.size
  clear BS
  have BS := BS'
  clear BS'
  clear BP
  have BP := BP'
  clear BP'
  clear hbs
  go_wp2
  go_ret
  exact ⟨rfl, hbn1⟩
set_option maxRecDepth 100000 in
set_option maxHeartbeats 1600000 in
theorem isLost_any (x0 x1 x2 x3 x4 x5 x6 x7 x8 x9 x10 p0 p1 p2 p3 p4 now : Int) (w : World) :
    Calls Tryz.prog 241 #[.agg #[.int .i64 x0, .int .i64 x1, .int .i64 x2, .int .i64 x3, .int .i64 x4, .int .i64 x5, .int .i64 x6, .int .i64 x7, .int .i64 x8, .int .i64 x9, .int .i64 x10], .agg #[.int .i64 p0, .int .i64 p1, .int .i64 p2, .int .i64 p3, .int .i64 p4], .int .i64 now] w (Says (.bool (lostB x0 x1 x2 x3 x4 x5 x6 x7 x8 x9 x10 p2 p4 now)) w) := by
  obtain ⟨RA, hRA⟩ : ∃ R, R = availB x0 x1 x2 x3 x4 x5 x6 x7 x8 x9 x10 p2 p4 now := ⟨_, rfl⟩
  obtain ⟨RL, hRL⟩ : ∃ R, R = lostB x0 x1 x2 x3 x4 x5 x6 x7 x8 x9 x10 p2 p4 now := ⟨_, rfl⟩
  rw [← hRL]
  have HH : Hid (∀ W : World, Calls Tryz.prog 194 #[.agg #[.int .i64 x0, .int .i64 x1, .int .i64 x2, .int .i64 x3, .int .i64 x4, .int .i64 x5, .int .i64 x6, .int .i64 x7, .int .i64 x8, .int .i64 x9, .int .i64 x10], .agg #[.int .i64 p0, .int .i64 p1, .int .i64 p2, .int .i64 p3, .int .i64 p4], .int .i64 now] W (Says (.tuple #[.bool RA, .bool RL]) W)) := fun W => by rw [hRA, hRL]; exact health_any x0 x1 x2 x3 x4 x5 x6 x7 x8 x9 x10 p0 p1 p2 p3 p4 now W
  clear hRA hRL
  obtain ⟨V, hV⟩ : ∃ V, V = ((w.alloc (.cells #[.int .i64 x0, .int .i64 x1, .int .i64 x2, .int .i64 x3, .int .i64 x4, .int .i64 x5, .int .i64 x6, .int .i64 x7, .int .i64 x8, .int .i64 x9, .int .i64 x10] 25)).alloc (.cells #[.int .i64 p0, .int .i64 p1, .int .i64 p2, .int .i64 p3, .int .i64 p4] 85)) := ⟨_, rfl⟩
  have hbV : Below w.heap.size w V := by rw [hV]; exact bel2 _ _ _
  have BS : Hid (V.heap[w.heap.size]? = some (.cells #[.int .i64 x0, .int .i64 x1, .int .i64 x2, .int .i64 x3, .int .i64 x4, .int .i64 x5, .int .i64 x6, .int .i64 x7, .int .i64 x8, .int .i64 x9, .int .i64 x10] 25)) := by have h := box_alloc (box_new w (.cells #[.int .i64 x0, .int .i64 x1, .int .i64 x2, .int .i64 x3, .int .i64 x4, .int .i64 x5, .int .i64 x6, .int .i64 x7, .int .i64 x8, .int .i64 x9, .int .i64 x10] 25)) (.cells #[.int .i64 p0, .int .i64 p1, .int .i64 p2, .int .i64 p3, .int .i64 p4] 85); (try simp only [World.size_alloc] at h); rw [hV]; exact h
  have BP : Hid (V.heap[w.heap.size + 1]? = some (.cells #[.int .i64 p0, .int .i64 p1, .int .i64 p2, .int .i64 p3, .int .i64 p4] 85)) := by have h := box_new (w.alloc (.cells #[.int .i64 x0, .int .i64 x1, .int .i64 x2, .int .i64 x3, .int .i64 x4, .int .i64 x5, .int .i64 x6, .int .i64 x7, .int .i64 x8, .int .i64 x9, .int .i64 x10] 25)) (.cells #[.int .i64 p0, .int .i64 p1, .int .i64 p2, .int .i64 p3, .int .i64 p4] 85); (try simp only [World.size_alloc] at h); rw [hV]; exact h
  go_enter Tryz.func241, Tryz.ntmps241
  go_wp2_with fail
  rw [← hV]
  clear hV
  refine (HH.out _).mono ?_
  rintro e w1 ⟨rfl, hbs⟩
  have BS' := Lib.hid (box_below BS.out hbs)
  have BP' := Lib.hid (box_below BP.out hbs)
  have hbn1 : Below w.heap.size w w1 := bel_then hbV hbs hbV.size
  clear BS
  have BS := BS'
  clear BS'
  clear BP
  have BP := BP'
  clear BP'
  clear hbs
  go_wp2
  go_ret
  exact ⟨rfl, hbn1⟩
end Go.Proofs.YtklgjjmcflgjeaaGreat.Hl
