import Derived.Test.YtklgjjmcflgjeaaGreatR10
set_option linter.unusedVariables false
set_option linter.unusedSimpArgs false
namespace Go.Proofs.YtklgjjmcflgjeaaGreat.Crew
open Go.ChangeShapes Go.WideShapes Go.ChangeAt Go.RowKit Go.Maps Go.Sort Go.Shelf
open LK Pods FleetV Has Ints
open Tick (inB in_t in_f tokB tok_t tickOk_any specTickOk_any)
def repP (p : Pd) (gen st now : Int) : Pd := if p.2.2.1 ≠ 4 ∧ p.2.2.1 ≠ st then (p.1, p.2.1, st, gen, now) else (p.1, p.2.1, p.2.2.1, gen, p.2.2.2.2)
def takeO (d : PList × Int) (rp gen st now : Int) : Bool := decide (FGood d.1 d.2) && (inB gen 1 1000000000 && inB st 1 4) && tokB now
def takeD (d : PList × Int) (rp gen st now : Int) : PList × Int :=
  if takeO d rp gen st now = true then (match fndP d.1 rp with | none => d | some p => if gen ≤ p.2.2.2.1 then d else if st = 4 then (offP rp d.1, d.2) else (setP (repP p gen st now) d.1, d.2)) else d
def takeV (d : PList × Int) (rp gen st now : Int) : Int :=
  if takeO d rp gen st now = true then (match fndP d.1 rp with | none => 2 | some p => if gen ≤ p.2.2.2.1 then 1 else 0) else 3
section
variable {d : PList × Int} {rp gen st now : Int} {p : Pd}
theorem take_bad (h : takeO d rp gen st now = false) : takeD d rp gen st now = d ∧ takeV d rp gen st now = 3 := by simp [takeD, takeV, h]
theorem take_unk (h : takeO d rp gen st now = true) (hf : fndP d.1 rp = none) : takeD d rp gen st now = d ∧ takeV d rp gen st now = 2 := by simp [takeD, takeV, h, hf]
theorem take_old (h : takeO d rp gen st now = true) (hf : fndP d.1 rp = some p) (hg : gen ≤ p.2.2.2.1) : takeD d rp gen st now = d ∧ takeV d rp gen st now = 1 := by simp [takeD, takeV, h, hf, hg]
theorem take_gone (h : takeO d rp gen st now = true) (hf : fndP d.1 rp = some p) (hg : ¬ gen ≤ p.2.2.2.1) (hs : st = 4) : takeD d rp gen st now = (offP rp d.1, d.2) ∧ takeV d rp gen st now = 0 := by
  subst hs
  simp [takeD, takeV, h, hf, hg]
theorem take_set (h : takeO d rp gen st now = true) (hf : fndP d.1 rp = some p) (hg : ¬ gen ≤ p.2.2.2.1) (hs : st ≠ 4) : takeD d rp gen st now = (setP (repP p gen st now) d.1, d.2) ∧ takeV d rp gen st now = 0 := by simp [takeD, takeV, h, hf, hg, hs]
end
theorem rep_id (p : Pd) (gen st now : Int) : (repP p gen st now).1 = p.1 := by unfold repP; split <;> rfl
set_option maxHeartbeats 800000 in
theorem reportOk_any (x0 x1 x2 : Int) (w : World) :
    Calls Tryz.prog 234 #[.agg #[.int .i64 x0, .int .i64 x1, .int .i64 x2]] w (Says (.bool (inB x1 1 1000000000 && inB x2 1 4)) w) := by
  cases h1 : inB x1 1 1000000000 <;> cases h2 : inB x2 1 4
  all_goals
    go_enter Tryz.func234, Tryz.ntmps234
    go_wp2_with (go_at_call 94; refine (within_any _ _ _ _).mono ?_; rintro e w' ⟨rfl, rfl⟩; first | rw [h1] | rw [h2])
    go_ret
    exact ⟨rfl, bel1 _ _⟩
set_option maxHeartbeats 1600000 in
theorem reported_any (x0 x1 x2 x3 x4 y0 gen st now : Int) (w : World) :
    Calls Tryz.prog 259 #[.agg #[.int .i64 x0, .int .i64 x1, .int .i64 x2, .int .i64 x3, .int .i64 x4], .agg #[.int .i64 y0, .int .i64 gen, .int .i64 st], .int .i64 now] w (Says (podV (repP (x0, x1, x2, x3, x4) gen st now)) w) := by
  cases h1 : (x2 != 4)
  · have HV : Hid (repP (x0, x1, x2, x3, x4) gen st now = (x0, x1, x2, gen, x4)) := by
      have h : x2 = 4 := by simpa using h1
      show _ = _
      unfold repP
      rw [if_neg (by simp [h])]
    go_enter Tryz.func259, Tryz.ntmps259
    go_wp2
    refine bodyPost_ret (v := .agg #[.int .i64 x0, .int .i64 x1, .int .i64 x2, .int .i64 gen, .int .i64 x4]) (by simp [results, Tryz.results259, go_sem]) rfl ?_
    rw [HV.out]
    exact ⟨rfl, bel3 _ _ _ _⟩
  cases h2 : (x2 != st)
  · have HV : Hid (repP (x0, x1, x2, x3, x4) gen st now = (x0, x1, x2, gen, x4)) := by
      have h : x2 = st := by simpa using h2
      show _ = _
      unfold repP
      rw [if_neg (by simp [h])]
    go_enter Tryz.func259, Tryz.ntmps259
    go_wp2
    refine bodyPost_ret (v := .agg #[.int .i64 x0, .int .i64 x1, .int .i64 x2, .int .i64 gen, .int .i64 x4]) (by simp [results, Tryz.results259, go_sem]) rfl ?_
    rw [HV.out]
    exact ⟨rfl, bel3 _ _ _ _⟩
  · have HV : Hid (repP (x0, x1, x2, x3, x4) gen st now = (x0, x1, st, gen, now)) := by
      have h : x2 ≠ 4 := by simpa using h1
      have h' : x2 ≠ st := by simpa using h2
      show _ = _
      unfold repP
      rw [if_pos ⟨h, h'⟩]
    go_enter Tryz.func259, Tryz.ntmps259
    go_wp2
    refine bodyPost_ret (v := .agg #[.int .i64 x0, .int .i64 x1, .int .i64 st, .int .i64 gen, .int .i64 now]) (by simp [results, Tryz.results259, go_sem]) rfl ?_
    rw [HV.out]
    exact ⟨rfl, bel3 _ _ _ _⟩
set_option maxRecDepth 100000 in
set_option maxHeartbeats 3200000 in
theorem crewTake_any (cb mb : Nat) (ps : PList) (nx rp gen st now : Int) (w : World) (hC : CrewAt w cb mb 30 ps nx) (hok : takeO (ps, nx) rp gen st now = true) (hid : (Lit.int .i64 rp).wf = true) (lo : Nat) (hlo : lo ≤ w.heap.size) (hmb : lo ≤ mb) :
    Calls Tryz.prog 235 #[.pointer (some ⟨cb, 0, none⟩), .agg #[.int .i64 rp, .int .i64 gen, .int .i64 st], .int .i64 now] w fun e w' => e = .returned (.int .i64 (takeV (ps, nx) rp gen st now)) ∧ CrewAt w' cb mb 31 (takeD (ps, nx) rp gen st now).1 nx ∧ Below lo w w' := by
  have hkey : keyOf Tryz.prog 3 (.int .i64 rp) = some (.int .i64 rp) := keyOf_int_mk Tryz.underlying3 hid
  obtain ⟨V, hV⟩ : ∃ V, V = w.alloc (.cells #[.int .i64 rp, .int .i64 gen, .int .i64 st] 148) := ⟨_, rfl⟩
  have hbV : Below w.heap.size w V := by rw [hV]; exact bel1 _ _
  have hCV := hC.below hbV
  have KV : V.heap[w.heap.size]? = some (.cells #[.int .i64 rp, .int .i64 gen, .int .i64 st] 148) := by rw [hV]; exact box_new _ _
  have c0 : V.cell? ⟨cb, 0, none⟩ = some (.map (some mb)) := box_cell hCV.box 0 _ rfl
  have v0 := box_cell KV 0 _ rfl
  have v1 := box_cell KV 1 _ rfl
  have v2 := box_cell KV 2 _ rfl
  obtain ⟨v, qs, hrun, hv⟩ := (show V.drew.ownsMap Tryz.prog 3 rdP mb 30 (mapOf ps) from hCV.own.drew).look_ok (t := 217) (e := 85) law Tryz.underlying217 (zeroP _) (zd := .held _) (zp := []) rfl hkey
  obtain ⟨v', qs', hrun2, hv'⟩ := (show ((V.alloc (.cells #[.int .i64 0, .int .i64 0, .int .i64 0, .int .i64 0, .int .i64 0] 85)).drew).ownsMap Tryz.prog 3 rdP mb 30 (mapOf ps) from (hCV.own.alloc _).drew).look_ok (t := 217) (e := 85) law Tryz.underlying217 (zeroP _) (zd := .held _) (zp := []) rfl hkey
  rw [map_at] at hv hv'
  rw [map_has] at hrun hrun2
  have hvv : rdP v = some (.held v, []) := rfl
  have hvv' : rdP v' = some (.held v', []) := rfl
  rw [hvv] at hv
  rw [hvv'] at hv'
  simp only [Option.some.injEq, Prod.mk.injEq] at hv hv'
  replace hv := hv.1
  replace hv' := hv'.1
  have hee : v' = v := by have := hv'.trans hv.symm; injection this
  subst hee
  have HC := Lib.hid hCV
  have hcb := box_lt hC.box
  have hml := hC.own.lt
  have HSV : Hid (V.heap.size = w.heap.size + 1) := by show _ = _; rw [hV]; simp
  have hsv : w.heap.size < V.heap.size := by have := HSV.out; omega
  have hcbV : cb < V.heap.size := Nat.lt_of_lt_of_le hcb hbV.size
  cases hf : fndP ps rp with
  | none =>
    rw [hf] at hv hrun hrun2
    injection hv with hv
    subst hv
    have HN := Lib.hid (take_unk hok hf)
    simp only [Option.isSome] at hrun hrun2
    clear hvv hvv' hv' hC hCV KV
    go_enter Tryz.func235, Tryz.ntmps235
    go_wp2_with fail
    rw [← hV]
    clear hV
    go_region
    all_goals
      go_wp2
      go_ret
      rw [HN.out.1, HN.out.2]
      have h := HC.out.below (bel1 V (.cells #[.int .i64 0, .int .i64 0, .int .i64 0, .int .i64 0, .int .i64 0] 85))
      exact ⟨rfl, ⟨h.box, h.own.mono (by omega), h.asc, h.ids⟩, ((hbV.mono hlo).alloc (by omega) _).drew⟩
  | some p =>
    rw [hf] at hv hrun hrun2
    injection hv with hv
    obtain ⟨y0, y1, y2, y3, y4⟩ := p
    have hv2 : v' = .agg #[.int .i64 y0, .int .i64 y1, .int .i64 y2, .int .i64 y3, .int .i64 y4] := hv
    subst hv2
    simp only [Option.isSome] at hrun hrun2
    obtain ⟨hpm, hpi⟩ := fnd_mem hf
    have hpi : y0 = rp := hpi
    subst hpi
    obtain ⟨U, hU⟩ : ∃ U, U = (V.alloc (.cells #[.int .i64 y0, .int .i64 y1, .int .i64 y2, .int .i64 y3, .int .i64 y4] 85)).drew := ⟨_, rfl⟩
    have hbU : Below V.heap.size V U := by rw [hU]; exact (bel1 _ _).drew
    have hCU := HC.out.below hbU
    have KU : U.heap[V.heap.size]? = some (.cells #[.int .i64 y0, .int .i64 y1, .int .i64 y2, .int .i64 y3, .int .i64 y4] 85) := by rw [hU]; exact box_new _ _
    have LU := box_below KV hbU
    have u1 := box_cell LU 1 _ rfl
    have u2 := box_cell LU 2 _ rfl
    have u0 := box_cell LU 0 _ rfl
    have t0 := box_cell KU 0 _ rfl
    have t1 := box_cell KU 1 _ rfl
    have t2 := box_cell KU 2 _ rfl
    have t3 := box_cell KU 3 _ rfl
    have t4 := box_cell KU 4 _ rfl
    have cu : U.cell? ⟨cb, 0, none⟩ = some (.map (some mb)) := box_cell hCU.box 0 _ rfl
    have HCU := Lib.hid hCU
    have HBU : Hid (Below lo w U) := (hbV.mono hlo).trans (hbU.mono (by omega))
    have hlu : lo ≤ U.heap.size := by have := hbU.size; omega
    have HKU := Lib.hid KU
    have HLU := Lib.hid LU
    clear hvv hvv' hv' hv hC hCV KV KU LU
    by_cases hge : gen ≤ y3
    · have HN := Lib.hid (take_old hok hf hge)
      have hd : decide (gen ≤ y3) = true := by simp [hge]
      clear hf
      go_enter Tryz.func235, Tryz.ntmps235
      go_wp2_with fail
      rw [← hV]
      clear hV
      go_region
      all_goals
        rw [← hU]
        clear hU
        go_wp2
        go_ret
        rw [HN.out.1, HN.out.2]
        exact ⟨rfl, ⟨HCU.out.box, HCU.out.own.mono (by omega), HCU.out.asc, HCU.out.ids⟩, HBU.out⟩
    · have hd : decide (gen ≤ y3) = false := by simp; omega
      by_cases hs4 : st = 4
      · have HN := Lib.hid (take_gone hok hf hge hs4)
        have hd2 : (st == 4) = true := by simp [hs4]
        have hownU : U.drew.ownsMap Tryz.prog 3 rdP mb 30 (mapOf ps) := HCU.out.own.drew
        clear hf hs4
        go_enter Tryz.func235, Tryz.ntmps235
        go_wp2_with fail
        rw [← hV]
        clear hV
        go_region
        all_goals
          rw [← hU]
          clear hU
          go_wp2_with fail
          go_still_tail 6, (by kernel_rfl)
          change wpList _ _ _ _ _ U.drew
          go_wp2_with (first | (at_delete; refine wpList_delete_own _ rfl _ _ 217 3 rfl 85 law Tryz.underlying217 _ mb 30 (mapOf ps) rfl hownU _ _ rfl hkey ?_; intro w3 hM3 ht3) | go_in)
          have hg3 := ht3.grown
          have hne : cb ≠ mb := fun e => by
            have h1 := HCU.out.box
            obtain ⟨es, clock, hb, _⟩ := HCU.out.own
            rw [e, hb] at h1
            cases h1
          have B3 : Hid (w3.heap[cb]? = some (.cells #[.map (some mb), .int .i64 nx] 219 (0, 0))) := (hg3.block cb (by show cb < U.heap.size; exact box_lt HCU.out.box) (by simp [hne])).trans HCU.out.box
          have hb3 : Below lo w w3 := (HBU.out.drew).grown hg3 hlu (by intro q hq; cases hq; exact hmb)
          rw [map_del] at hM3
          have HM3 := Lib.hid hM3
          clear hM3 hg3 ht3 hne
          go_wp2
          go_ret
          rw [HN.out.1, HN.out.2]
          exact ⟨rfl, ⟨B3.out, HM3.out.mono (by omega), asc_off HCU.out.asc, fun q hq => HCU.out.ids q (mem_off.1 hq).1⟩, hb3⟩
      · have HN := Lib.hid (take_set hok hf hge hs4)
        have hd2 : (st == 4) = false := by simp [hs4]
        clear hf
        go_enter Tryz.func235, Tryz.ntmps235
        go_wp2_with fail
        rw [← hV]
        clear hV
        go_region
        all_goals
          rw [← hU]
          clear hU
          have hne : cb ≠ mb := fun e => by
            have h1 := HCU.out.box
            obtain ⟨es, clock, hb, _⟩ := HCU.out.own
            rw [e, hb] at h1
            cases h1
          go_wp2_with fail
          go_region_held3 (fun w' => w'.cell? ⟨cb, 0, none⟩ = some (.map (some mb)) ∧ w'.cell? ⟨w.heap.size, 0, none⟩ = some (.int .i64 y0) ∧ w'.cell? ⟨w.heap.size, 1, none⟩ = some (.int .i64 gen) ∧ w'.cell? ⟨w.heap.size, 2, none⟩ = some (.int .i64 st) ∧ w'.cell? ⟨V.heap.size, 0, none⟩ = some (.int .i64 y0) ∧ w'.cell? ⟨V.heap.size, 1, none⟩ = some (.int .i64 y1) ∧ w'.cell? ⟨V.heap.size, 2, none⟩ = some (.int .i64 y2) ∧ w'.cell? ⟨V.heap.size, 3, none⟩ = some (.int .i64 y3) ∧ w'.cell? ⟨V.heap.size, 4, none⟩ = some (.int .i64 y4)) (first | (go_keep; done) | (refine ⟨cell_keep hb4 ?_, cell_keep hb4 ?_, cell_keep hb4 ?_, cell_keep hb4 ?_, cell_keep hb4 ?_, cell_keep hb4 ?_, cell_keep hb4 ?_, cell_keep hb4 ?_, cell_keep hb4 ?_⟩ <;> simp only [*]; done) | exact ⟨z0, z1, z2, z3, z4, z5, z6, z7, z8⟩ | go_keep)
            (first | (go_at_call 259; refine (reported_any _ _ _ _ _ _ _ _ _ _).mono ?_; rintro e w4 ⟨rfl, hb4⟩; have hb4' : Below U.heap.size U w4 := undrew hb4; have hC4 := HCU.out.below hb4'; obtain ⟨w3, hrun3, hM3, hg3⟩ := hC4.own.update (t := 217) (e := 85) law Tryz.underlying217 (by unfold maxLen; omega) (key := .int .i64 y0) (val := podV (repP (y0, y1, y2, y3, y4) gen st now)) (kl := .int .i64 y0) (d := .held (podV (repP (y0, y1, y2, y3, y4) gen st now))) (ps := []) hkey rfl; have Y0 : w3.heap[cb]? = some (.cells #[.map (some mb), .int .i64 nx] 219 (0, 0)) := (hg3.block cb (box_lt hC4.box) (by simp [hne])).trans hC4.box; have Y1 := (hg3.block w.heap.size (box_lt (box_below HLU.out hb4')) (by simp; omega)).trans (box_below HLU.out hb4'); have Y2 := (hg3.block V.heap.size (box_lt (box_below HKU.out hb4')) (by simp; omega)).trans (box_below HKU.out hb4'); have z0 : w3.cell? ⟨cb, 0, none⟩ = some (.map (some mb)) := box_cell Y0 0 _ rfl; have z1 : w3.cell? ⟨w.heap.size, 0, none⟩ = some (.int .i64 y0) := box_cell Y1 0 _ rfl; have z2 : w3.cell? ⟨w.heap.size, 1, none⟩ = some (.int .i64 gen) := box_cell Y1 1 _ rfl; have z3 : w3.cell? ⟨w.heap.size, 2, none⟩ = some (.int .i64 st) := box_cell Y1 2 _ rfl; have z4 : w3.cell? ⟨V.heap.size, 0, none⟩ = some (.int .i64 y0) := box_cell Y2 0 _ rfl; have z5 : w3.cell? ⟨V.heap.size, 1, none⟩ = some (.int .i64 y1) := box_cell Y2 1 _ rfl; have z6 : w3.cell? ⟨V.heap.size, 2, none⟩ = some (.int .i64 y2) := box_cell Y2 2 _ rfl; have z7 : w3.cell? ⟨V.heap.size, 3, none⟩ = some (.int .i64 y3) := box_cell Y2 3 _ rfl; have z8 : w3.cell? ⟨V.heap.size, 4, none⟩ = some (.int .i64 y4) := box_cell Y2 4 _ rfl))
          all_goals
            have hb3 : Below lo w w3 := (HBU.out.trans (hb4'.mono hlu)).grown hg3 (Nat.le_trans hlu hb4'.size) (by intro q hq; cases hq; exact hmb)
            have HB3 := Lib.hid hb3
            have HY0 := Lib.hid Y0
            have HM3 : Hid (w3.ownsMap Tryz.prog 3 rdP mb 31 (mapOf (setP (repP (y0, y1, y2, y3, y4) gen st now) ps))) := by
              show World.ownsMap _ _ _ _ _ _ _
              rw [← insP_set (p := repP (y0, y1, y2, y3, y4) gen st now) HCU.out.asc hpm (rep_id (y0, y1, y2, y3, y4) gen st now).symm, ← map_put]
              have e : (repP (y0, y1, y2, y3, y4) gen st now).1 = y0 := rep_id (y0, y1, y2, y3, y4) gen st now
              rw [e]
              exact hM3
            have HID : Hid (∀ q ∈ setP (repP (y0, y1, y2, y3, y4) gen st now) ps, 0 ≤ q.1 ∧ q.1 ≤ 1000000000) := fun q hq => by
              rcases mem_setP hq with rfl | hq
              · rw [rep_id]; exact HCU.out.ids (y0, y1, y2, y3, y4) hpm
              · exact HCU.out.ids q hq
            clear hb4 hb4' hC4 hg3 hM3 hb3 Y0 Y1 Y2 z0 z1 z2 z3 z4 z5 z6 z7 z8
            go_wp2
            go_ret
            rw [HN.out.1, HN.out.2]
            exact ⟨rfl, ⟨HY0.out, HM3.out, asc_setP HCU.out.asc, HID.out⟩, HB3.out⟩
set_option maxRecDepth 100000 in
set_option maxHeartbeats 3200000 in
theorem takeReport_any (A : Option Addr) (n c : Nat) (nx rp gen st now : Int) (ps : PList) (B : Nat) (w : World) (hr : IsPods w B A n ps) (hB : B ≤ w.heap.size) (hn : n ≤ 1048576) (hid : (Lit.int .i64 rp).wf = true) :
    Calls Tryz.prog 207 #[.agg #[.slice A n c, .int .i64 nx], .agg #[.int .i64 rp, .int .i64 gen, .int .i64 st], .int .i64 now] w (Made1 FleetTy.fty (takeD (ps, nx) rp gen st now) (.int .i64 (takeV (ps, nx) rp gen st now)) w) := by
  have HR := Lib.hid hr
  clear hr
  have k0 : (((w.alloc (.cells #[.slice A n c, .int .i64 nx] 34)).alloc (.cells #[.int .i64 rp, .int .i64 gen, .int .i64 st] 148)).alloc (.cells #[.slice none 0 0, .int .i64 0] 34)).heap[w.heap.size]? = some (.cells #[.slice A n c, .int .i64 nx] 34) := box_alloc (box_alloc (box_new _ _) _) _
  have k1 : (((w.alloc (.cells #[.slice A n c, .int .i64 nx] 34)).alloc (.cells #[.int .i64 rp, .int .i64 gen, .int .i64 st] 148)).alloc (.cells #[.slice none 0 0, .int .i64 0] 34)).heap[w.heap.size + 1]? = some (.cells #[.int .i64 rp, .int .i64 gen, .int .i64 st] 148) := by
    have h := box_alloc (box_new (w.alloc (.cells #[.slice A n c, .int .i64 nx] 34)) (.cells #[.int .i64 rp, .int .i64 gen, .int .i64 st] 148)) (.cells #[.slice none 0 0, .int .i64 0] 34)
    simp only [World.size_alloc] at h
    exact h
  have k2 : (((w.alloc (.cells #[.slice A n c, .int .i64 nx] 34)).alloc (.cells #[.int .i64 rp, .int .i64 gen, .int .i64 st] 148)).alloc (.cells #[.slice none 0 0, .int .i64 0] 34)).heap[w.heap.size + 1 + 1]? = some (.cells #[.slice none 0 0, .int .i64 0] 34) := by
    have h := box_new ((w.alloc (.cells #[.slice A n c, .int .i64 nx] 34)).alloc (.cells #[.int .i64 rp, .int .i64 gen, .int .i64 st] 148)) (.cells #[.slice none 0 0, .int .i64 0] 34)
    simp only [World.size_alloc] at h
    exact h
  have K0 := Lib.hid k0
  have K1 := Lib.hid k1
  have K2 := Lib.hid k2
  clear k0 k1 k2
  go_enter Tryz.func207, Tryz.ntmps207
  go_wp2_with fail
  refine (crewOf_any A n c nx ps B _ (HR.out.below (bel3 _ _ _ _) hB) (by simp; omega) hn).mono ?_
  rintro e w2 ⟨r, o, rfl, hb, hg, hC⟩
  have hbw : Below w.heap.size w w2 := bel_then (bel3 w _ _ _) hb (by simp; omega)
  have E0 := box_below K0.out hb
  have E1 := box_below K1.out hb
  have E2 := box_below K2.out hb
  have hs2 : w.heap.size + 1 + 1 + 1 ≤ w2.heap.size := by have := hb.size; simp at this; omega
  have HG := Lib.hid hg
  have HBW := Lib.hid hbw
  have X0 := Lib.hid E0
  have X1 := Lib.hid E1
  have X2 := Lib.hid E2
  have a0 := box_cell E0 0 _ rfl
  have a1 := box_cell E0 1 _ rfl
  have b0 := box_cell E1 0 _ rfl
  have b1 := box_cell E1 1 _ rfl
  have b2 := box_cell E1 2 _ rfl
  clear hb hg E0 E1 E2 K0 K1 K2 hbw
  have hO : takeO (ps, nx) rp gen st now = (decide (FGood ps nx) && (inB gen 1 1000000000 && inB st 1 4) && tokB now) := rfl
  have hgr : decide (FGood ps nx) = r := by rw [Bool.eq_iff_iff, decide_eq_true_iff]; exact HG.out.symm
  rw [hgr] at hO
  cases r
  · have HN := Lib.hid (take_bad (d := (ps, nx)) (rp := rp) (gen := gen) (st := st) (now := now) (by rw [hO]; simp))
    clear hC hO hgr
    go_wp2_with fail
    refine (sameFleet_any A n c nx ps B _ (HR.out.below HBW.out hB) (by have := HBW.out.size; omega) hn).mono ?_
    intro e w4 hM
    obtain ⟨A4, c4, rfl, hO4, hb4⟩ := made_own hM
    have Z1 := box_below X2.out hb4
    have z0 := box_cell Z1 0 _ rfl
    have z1 := box_cell Z1 1 _ rfl
    have y0 := box_frozen Z1 0
    have y1 := box_frozen Z1 1
    have HB4 := Lib.hid (bel_then HBW.out hb4 HBW.out.size)
    have HO4 := Lib.hid hO4
    obtain ⟨q, hq⟩ : ∃ q, q = ps.length := ⟨_, rfl⟩
    rw [← hq] at HO4 ⊢
    clear hM hb4 hO4 Z1 hq a0 a1 b0 b1 b2
    go_wp2
    refine bodyPost_ret (v := .tuple #[.agg #[.slice A4 q c4, .int .i64 nx], .int .i64 3]) (by simp [results, Tryz.results207, go_sem, z0, z1]) rfl ?_
    rw [HN.out.1, HN.out.2]
    exact made1_of HB4.out HO4.out (by omega) (S := fun k => k = w.heap.size + 1 + 1) (fun k hk => by omega) ((Turned.set (S := fun k => k = w.heap.size + 1 + 1) _ ⟨w.heap.size + 1 + 1, 0, none⟩ _ rfl).trans (Turned.set (S := fun k => k = w.heap.size + 1 + 1) _ ⟨w.heap.size + 1 + 1, 1, none⟩ _ rfl))
  cases h1 : (inB gen 1 1000000000 && inB st 1 4)
  · have HN := Lib.hid (take_bad (d := (ps, nx)) (rp := rp) (gen := gen) (st := st) (now := now) (by rw [hO, h1]; simp))
    clear hC hO hgr
    go_wp2_with fail
    refine (reportOk_any _ _ _ _).mono ?_
    rintro e w3 ⟨rfl, hb3⟩
    rw [h1]
    have Y2 := Lib.hid (box_below X2.out hb3)
    have G0 := box_below X0.out hb3
    have g0 := box_cell G0 0 _ rfl
    have g1 := box_cell G0 1 _ rfl
    have HB3 := Lib.hid (bel_then HBW.out hb3 HBW.out.size)
    have hs3 : w.heap.size + 1 + 1 + 1 ≤ w3.heap.size := by have := hb3.size; omega
    clear hb3 G0 a0 a1 b0 b1 b2
    go_wp2_with fail
    refine (sameFleet_any A n c nx ps B _ (HR.out.below HB3.out hB) (by have := HB3.out.size; omega) hn).mono ?_
    intro e w4 hM
    obtain ⟨A4, c4, rfl, hO4, hb4⟩ := made_own hM
    have Z1 := box_below Y2.out hb4
    have z0 := box_cell Z1 0 _ rfl
    have z1 := box_cell Z1 1 _ rfl
    have y0 := box_frozen Z1 0
    have y1 := box_frozen Z1 1
    have HB4 := Lib.hid (bel_then HB3.out hb4 HB3.out.size)
    have HO4 := Lib.hid hO4
    obtain ⟨q, hq⟩ : ∃ q, q = ps.length := ⟨_, rfl⟩
    rw [← hq] at HO4 ⊢
    clear hM hb4 hO4 Z1 hq g0 g1
    go_wp2
    refine bodyPost_ret (v := .tuple #[.agg #[.slice A4 q c4, .int .i64 nx], .int .i64 3]) (by simp [results, Tryz.results207, go_sem, z0, z1]) rfl ?_
    rw [HN.out.1, HN.out.2]
    exact made1_of HB4.out HO4.out (by omega) (S := fun k => k = w.heap.size + 1 + 1) (fun k hk => by omega) ((Turned.set (S := fun k => k = w.heap.size + 1 + 1) _ ⟨w.heap.size + 1 + 1, 0, none⟩ _ rfl).trans (Turned.set (S := fun k => k = w.heap.size + 1 + 1) _ ⟨w.heap.size + 1 + 1, 1, none⟩ _ rfl))
  cases h2 : tokB now
  · have HN := Lib.hid (take_bad (d := (ps, nx)) (rp := rp) (gen := gen) (st := st) (now := now) (by rw [hO, h2]; simp))
    clear hC hO hgr
    go_wp2_with fail
    refine (reportOk_any _ _ _ _).mono ?_
    rintro e w3 ⟨rfl, hb3⟩
    rw [h1]
    have Y2 := Lib.hid (box_below X2.out hb3)
    have G0 := box_below X0.out hb3
    have g0 := box_cell G0 0 _ rfl
    have g1 := box_cell G0 1 _ rfl
    have HB3 := Lib.hid (bel_then HBW.out hb3 HBW.out.size)
    have hs3 : w.heap.size + 1 + 1 + 1 ≤ w3.heap.size := by have := hb3.size; omega
    clear hb3 G0 a0 a1 b0 b1 b2
    go_wp2_with (go_at_call 91; refine (tickOk_any _ _).mono ?_; rintro e w' ⟨rfl, rfl⟩; rw [h2])
    refine (sameFleet_any A n c nx ps B _ (HR.out.below HB3.out hB) (by have := HB3.out.size; omega) hn).mono ?_
    intro e w4 hM
    obtain ⟨A4, c4, rfl, hO4, hb4⟩ := made_own hM
    have Z1 := box_below Y2.out hb4
    have z0 := box_cell Z1 0 _ rfl
    have z1 := box_cell Z1 1 _ rfl
    have y0 := box_frozen Z1 0
    have y1 := box_frozen Z1 1
    have HB4 := Lib.hid (bel_then HB3.out hb4 HB3.out.size)
    have HO4 := Lib.hid hO4
    obtain ⟨q, hq⟩ : ∃ q, q = ps.length := ⟨_, rfl⟩
    rw [← hq] at HO4 ⊢
    clear hM hb4 hO4 Z1 hq g0 g1
    go_wp2
    refine bodyPost_ret (v := .tuple #[.agg #[.slice A4 q c4, .int .i64 nx], .int .i64 3]) (by simp [results, Tryz.results207, go_sem, z0, z1]) rfl ?_
    rw [HN.out.1, HN.out.2]
    exact made1_of HB4.out HO4.out (by omega) (S := fun k => k = w.heap.size + 1 + 1) (fun k hk => by omega) ((Turned.set (S := fun k => k = w.heap.size + 1 + 1) _ ⟨w.heap.size + 1 + 1, 0, none⟩ _ rfl).trans (Turned.set (S := fun k => k = w.heap.size + 1 + 1) _ ⟨w.heap.size + 1 + 1, 1, none⟩ _ rfl))
  · have HOK : Hid (takeO (ps, nx) rp gen st now = true) := by show _ = _; rw [hO, h1, h2]; rfl
    have hgd := HG.out.1 rfl
    obtain ⟨cb, mb, rfl, hcb, hmb, hC⟩ := hC rfl
    simp only [World.size_alloc] at hcb hmb
    have HC := Lib.hid hC
    have HGD := Lib.hid hgd
    clear hC hgd hO hgr
    go_wp2_with fail
    refine (reportOk_any _ _ _ _).mono ?_
    rintro e w3 ⟨rfl, hb3⟩
    rw [h1]
    have Y1 := box_below X1.out hb3
    have Y2 := Lib.hid (box_below X2.out hb3)
    have g0 := box_cell Y1 0 _ rfl
    have g1 := box_cell Y1 1 _ rfl
    have g2 := box_cell Y1 2 _ rfl
    have HB3 := Lib.hid (bel_then HBW.out hb3 HBW.out.size)
    have hs3 : w.heap.size + 1 + 1 + 1 ≤ w3.heap.size := by have := hb3.size; omega
    have HC3 := Lib.hid (HC.out.below hb3)
    clear hb3 Y1 a0 a1 b0 b1 b2
    go_wp2_with (go_at_call 91; refine (tickOk_any _ _).mono ?_; rintro e w' ⟨rfl, rfl⟩; rw [h2])
    refine (crewTake_any cb mb ps nx rp gen st now _ HC3.out HOK.out hid (w.heap.size + 1 + 1 + 1) hs3 hmb).mono ?_
    rintro e w5 ⟨rfl, hC5, hb5⟩
    have HB5 : Hid (Below w.heap.size w w5) := HB3.out.trans (hb5.mono (by omega))
    have Y5 : Hid (w5.heap[w.heap.size + 1 + 1]? = some (.cells #[.slice none 0 0, .int .i64 0] 34)) := (hb5.block _ (by omega)).trans Y2.out
    have hs5 : w.heap.size + 1 + 1 < w5.heap.size := box_lt Y5.out
    have hnn : (takeD (ps, nx) rp gen st now).2 = nx := by
      unfold takeD
      split
      · split
        · rfl
        · split
          · rfl
          · split <;> rfl
      · rfl
    have hll : (takeD (ps, nx) rp gen st now).1.length ≤ 1000 := by
      have h30 := HGD.out.1
      unfold takeD
      split
      · split
        · show ps.length ≤ 1000; omega
        · split
          · show ps.length ≤ 1000; omega
          · split
            · have := len_off rp ps; show (offP rp ps).length ≤ 1000; omega
            · show (setP _ ps).length ≤ 1000; rw [len_setP]; omega
      · show ps.length ≤ 1000; omega
    obtain ⟨D, hD⟩ : ∃ D, D = takeD (ps, nx) rp gen st now := ⟨_, rfl⟩
    obtain ⟨V, hV⟩ : ∃ V, V = takeV (ps, nx) rp gen st now := ⟨_, rfl⟩
    rw [← hD] at hnn hll hC5
    rw [← hV]
    have HD := Lib.hid hD
    have HV := Lib.hid hV
    obtain ⟨m, mx⟩ := D
    have hmx : mx = nx := hnn
    subst hmx
    have HC5 := Lib.hid hC5
    clear hD hV hC5 hb5 hnn g0 g1 g2
    go_wp2_with fail
    refine (fleet_any cb mb 31 m mx _ HC5.out hll).mono ?_
    intro e w4 hM
    obtain ⟨A4, c4, rfl, hO4, hb4⟩ := made_own hM
    have Z1 := box_below Y5.out hb4
    have z0 := box_cell Z1 0 _ rfl
    have z1 := box_cell Z1 1 _ rfl
    have y0 := box_frozen Z1 0
    have y1 := box_frozen Z1 1
    have HB4 := Lib.hid (bel_then HB5.out hb4 HB5.out.size)
    have HO4 := Lib.hid hO4
    obtain ⟨q, hq⟩ : ∃ q, q = m.length := ⟨_, rfl⟩
    rw [← hq] at HO4 ⊢
    clear hM hb4 hO4 Z1 hq
    go_wp2
    refine bodyPost_ret (v := .tuple #[.agg #[.slice A4 q c4, .int .i64 mx], .int .i64 V]) (by simp [results, Tryz.results207, go_sem, z0, z1]) rfl ?_
    rw [← HD.out, ← HV.out]
    exact made1_of HB4.out HO4.out (by omega) (S := fun k => k = w.heap.size + 1 + 1) (fun k hk => by omega) ((Turned.set (S := fun k => k = w.heap.size + 1 + 1) _ ⟨w.heap.size + 1 + 1, 0, none⟩ _ rfl).trans (Turned.set (S := fun k => k = w.heap.size + 1 + 1) _ ⟨w.heap.size + 1 + 1, 1, none⟩ _ rfl))
end Go.Proofs.YtklgjjmcflgjeaaGreat.Crew
