/-
  THE CONTRACT of the ring's takeOff over this seat's translation: the timer of that Id is off its list, and it says whether there was one.
-/
import Derived.Test.YtpghccbknlokcaaRingCount
import Derived.Test.YtpghccbknlokcaaRingHang
import Derived.Test.YtpghccbknlokcaaDelFunc
namespace Go.Proofs.Ytpghccbknlokcaa.Ring
open Go.ChangeShapes Go.WideShapes Go.ChangeAt Go.RowKit Go.Shelf
open Go.Proofs.Ytpghccbknlokcaa.Timers Go.Proofs.Ytpghccbknlokcaa.WheelOk
open Go.Proofs.Ytpghccbknlokcaa.Tick (tokB tok_t)
open Go.Proofs.Ytpghccbknlokcaa.Spoke (spokeV spoke_t spokeOf_any)
set_option linter.unusedVariables false

/-- Every list without the timers of that Id. -/
def stopL (x : Int) (rs : List TList) : List TList := rs.map (offL x)
theorem stopL_at (x : Int) (rs : List TList) (j : Nat) : (stopL x rs).getD j [] = offL x (rs.getD j []) := by
  unfold stopL
  simp only [List.getD, List.getElem?_map]
  cases rs[j]? <;> rfl
theorem stopL_length (x : Int) (rs : List TList) : (stopL x rs).length = rs.length := by simp [stopL]
theorem off_sub {x : Int} {ts : TList} {p : Int × Int} (h : p ∈ offL x ts) : p ∈ ts ∧ p.1 ≠ x := by
  unfold offL at h
  rw [List.mem_filter] at h
  exact ⟨h.1, by simpa using h.2⟩
theorem stopL_none {x : Int} {rs : List TList} (h : ∀ p ∈ rs.flatten, p.1 ≠ x) : stopL x rs = rs := by
  unfold stopL
  conv => rhs; rw [← List.map_id rs]
  refine List.map_congr_left fun l hl => off_self fun p hp => h p (List.mem_flatten.2 ⟨l, hl, hp⟩)
/-- Where no Id stands twice, it is enough to look at the one list. -/
theorem stopL_set {x : Int} {rs : List TList} {k : Nat} {p : Int × Int} (hk : k < rs.length) (hp : p ∈ rs.getD k []) (hx : p.1 = x) (hd : (rs.flatten.map Prod.fst).Nodup) : rs.set k (offL x (rs.getD k [])) = stopL x rs := by
  refine List.ext_getElem (by simp [stopL]) fun j h1 h2 => ?_
  have h1' : j < rs.length := by simpa using h1
  by_cases e : j = k
  · subst e
    rw [List.getElem_set_self, getD_lt rs j [] h1']
    simp [stopL]
  · rw [List.getElem_set_ne (Ne.symm e)]
    simp only [stopL, List.getElem_map]
    refine (off_self fun q hq hq2 => ?_).symm
    rw [getD_lt rs k [] hk] at hp
    rw [List.map_flatten] at hd
    have hpw := (List.pairwise_flatten.1 hd).2
    rw [List.pairwise_iff_getElem] at hpw
    have hm1 : x ∈ (rs.map (List.map Prod.fst))[j]'(by simpa using h1') := by simp; exact ⟨q.2, by rw [← hq2]; exact hq⟩
    have hm2 : x ∈ (rs.map (List.map Prod.fst))[k]'(by simpa using hk) := by simp; exact ⟨p.2, by rw [← hx]; exact hp⟩
    rcases Nat.lt_or_gt_of_ne e with h | h
    · exact hpw j k _ _ h x hm1 x hm2 rfl
    · exact hpw k j _ _ h x hm2 x hm1 rfl
theorem atV_cases (rs : List TList) (x : Int) (hT : ∀ j t, t ∈ rs.getD j [] → tokB t.2 = true ∧ spokeV t.2 = (j : Int)) :
    (atV rs.flatten x = -1 ∧ ∀ p ∈ rs.flatten, p.1 ≠ x) ∨ ∃ k p, atV rs.flatten x = p.2 ∧ p ∈ rs.getD k [] ∧ p.1 = x ∧ tokB p.2 = true ∧ spokeV p.2 = (k : Int) := by
  cases h : rs.flatten.find? fun p => p.1 == x with
  | none =>
    refine .inl ⟨by unfold atV; rw [h]; rfl, fun p hp => ?_⟩
    have := List.find?_eq_none.1 h p hp
    simpa using this
  | some p =>
    have hm := List.mem_of_find?_eq_some h
    have hx := List.find?_some h
    obtain ⟨k, hk⟩ := mem_getD hm
    exact .inr ⟨k, p, by unfold atV; rw [h]; rfl, hk, by simpa using hx, (hT k p hk).1, (hT k p hk).2⟩

set_option maxRecDepth 100000 in
set_option maxHeartbeats 1600000 in
theorem takeOff_any (lo g : Nat) (now x : Int) (rs : List TList) (w : World) (hR : OwnR w lo g now rs) (hT : ∀ j t, t ∈ rs.getD j [] → tokB t.2 = true ∧ spokeV t.2 = (j : Int)) (hd : (rs.flatten.map Prod.fst).Nodup) (hF : tot rs ≤ 100) (hlo : lo ≤ w.heap.size) :
    Calls Try.prog 48 #[.pointer (some ⟨g, 0, none⟩), .int .i64 x] w (Hung w lo g now (stopL x rs) (.bool (!(atV rs.flatten x == -1)))) := by
  have hrl : rs.length = 8 := by obtain ⟨vs, h1, h2, _⟩ := hR; exact h2
  rcases atV_cases rs x hT with ⟨hv, hno⟩ | ⟨k, p, hv, hp, hx, ht, hk⟩
  · have HV := Lib.hid hv
    have HST : Hid (stopL x rs = rs) := stopL_none hno
    have HR := Lib.hid hR
    have HT := Lib.hid hT
    clear hv hno hR hT
    go_enter Try.func48, Try.ntmps48
    go_wp2_with fail
    refine (atOf_any lo g now x rs _ (HR.out.below (below_a1 _ _)) (fun j t h => (HT.out j t h).1) hF).mono ?_
    rintro e w1 ⟨rfl, hb1⟩
    rw [HV.out]
    go_wp2_with fail
    go_ret
    refine ⟨by rw [HV.out]; rfl, ?_, ?_⟩
    · rw [HST.out]
      exact (HR.out.below (below_a1 _ _)).below hb1
    · exact ((below_a1 w _).trans (hb1.mono (by simp))).mono hlo
  · have hk8 : k < 8 := by rw [spoke_t ht] at hk; omega
    have HST := Lib.hid (stopL_set (by omega) hp hx hd)
    have htp := tok_t ht
    obtain ⟨y, hy⟩ : ∃ y, y = p.2 := ⟨_, rfl⟩
    rw [← hy] at hv hk ht htp
    have hy1 : (y == -1) = false := by simp; omega
    have HV := Lib.hid hv
    have HK := Lib.hid hk
    have HR := Lib.hid hR
    have HT := Lib.hid hT
    clear hv hR hT hk hp hx hy
    go_enter Try.func48, Try.ntmps48
    go_wp2_with fail
    refine (atOf_any lo g now x rs _ (HR.out.below (below_a1 _ _)) (fun j t h => (HT.out j t h).1) hF).mono ?_
    rintro e w1 ⟨rfl, hb1⟩
    rw [HV.out]
    go_wp2_with fail
    go_quiet ((go_at_call 99; exact Calls.quiet_of_same ((spokeOf_any _ _).mono fun _ _ ⟨h1, h2⟩ => ⟨by rw [h1, HK.out], h2.symm⟩)))
    have hbq : Below w.heap.size w (w1.drewN nq) := Ints.below_drewN ((below_a1 w _).trans (hb1.mono (by simp))) nq
    have HR1 := Lib.hid (HR.out.below hbq)
    obtain ⟨A, c, hcell, hfr, hrow⟩ := HR1.out.cell hk8
    have hbx : (w1.drewN nq).cell? ⟨w.heap.size, 0, none⟩ = some (.int .i64 x) := (Ints.below_drewN hb1 nq).cell (p := ⟨w.heap.size, 0, none⟩) (by simp) |>.trans (box1_new w (.int .i64 x) 3).1
    obtain ⟨m, hm⟩ : ∃ m, m = (rs.getD k []).length := ⟨_, rfl⟩
    have hm1 : m ≤ 100 := by have := tot_get rs k; omega
    rw [← hm] at hcell hrow
    have HM := Lib.hid hm
    have HROW := Lib.hid hrow
    have hnb : (Value.slice A m c).ownBlock ≠ some w.heap.size := by
      intro hq
      obtain ⟨A', c', hcell', _, hrow'⟩ := HR.out.cell hk8
      have h5 := (hbq.cell (p := ⟨g, 1 + k, none⟩) HR.out.lt).symm.trans hcell
      rw [hcell'] at h5
      injection h5 with h5
      rw [h5] at hrow'
      have h6 := (hrow'.lt _ hq).2
      omega
    have HNB := Lib.hid hnb
    have HBQ := Lib.hid hbq
    have HBX := Lib.hid hbx
    clear hrow hm hnb hbq
    go_wp2_with fail
    refine (deleteFunc_any lo A m c (rs.getD k []) x w.heap.size _ (by exact HROW.out) (by omega) (by exact HBX.out) HNB.out).mono ?_
    rintro e w3 ⟨v3, rfl, hrow3, hgr3, hob3⟩
    obtain ⟨hR4, hf4, u4, hu4⟩ := HR1.out.put hk8 (by rw [← HM.out]; exact hcell) (by rw [← HM.out]; exact hgr3) hrow3 (.inl (by rw [← HM.out]; exact hob3))
    obtain ⟨A3, c3, rfl⟩ := own_slice hrow3
    obtain ⟨m3, hm3⟩ : ∃ m3, m3 = (offL x (rs.getD k [])).length := ⟨_, rfl⟩
    rw [← hm3] at hR4 ⊢
    rw [HST.out] at hR4
    have HR4 := Lib.hid hR4
    have hbl : Below lo w w3 := (HBQ.out.mono hlo).grown hgr3 (by have := HBQ.out.size; omega) (fun q hq => (HROW.out.lt q hq).1)
    have hlog := HR1.out.lo_le
    clear hR4 hrow3 hgr3 hob3 hcell hm3
    go_wp2_with fail
    go_ret
    exact ⟨by rw [HV.out, hy1]; rfl, HR4.out, hbl.setCell (p := ⟨g, 1 + k, none⟩) hlog _⟩
end Go.Proofs.Ytpghccbknlokcaa.Ring
