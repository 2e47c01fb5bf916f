/-
  THE CONTRACT of the ring's hang over this seat's translation: the timer stands behind the others of its list; nothing below the ring has turned.
-/
import Derived.Test.YtpghccbknlokcaaRing
namespace Go.Proofs.Ytpghccbknlokcaa.Ring
open Go.ChangeShapes Go.WideShapes Go.ChangeAt Go.RowKit
open Go.Proofs.Ytpghccbknlokcaa.Timers
open Go.Proofs.Ytpghccbknlokcaa.Tick (tokB tok_t)
open Go.Proofs.Ytpghccbknlokcaa.Spoke (spokeV spoke_t spokeOf_any)
set_option linter.unusedVariables false

/-- What a method of the ring that answers v leaves. -/
def Hung (w : World) (lo g : Nat) (now : Int) (rs : List TList) (v : Value) (e : Ending) (w' : World) : Prop := e = .returned v ∧ OwnR w' lo g now rs ∧ Below lo w w'

set_option maxHeartbeats 1600000 in
theorem hang_any (lo g : Nat) (now x y : Int) (rs : List TList) (k : Nat) (w : World) (hR : OwnR w lo g now rs) (hy : tokB y = true) (hk : spokeV y = (k : Int)) (hk8 : k < 8) (hl : (rs.getD k []).length ≤ 100) (hlo : lo ≤ w.heap.size) :
    Calls Try.prog 49 #[.pointer (some ⟨g, 0, none⟩), .int .i64 x, .int .i64 y] w (Hung w lo g now (rs.set k (rs.getD k [] ++ [(x, y)])) (.tuple #[])) := by
  obtain ⟨A, c, hcell, hfr, hrow⟩ := hR.cell hk8
  obtain ⟨i0, hi0, hz0, hz1, hz2⟩ := info_parts info85
  have HK := Lib.hid hk
  have HR := Lib.hid hR
  obtain ⟨m, hm⟩ : ∃ m, m = (rs.getD k []).length := ⟨_, rfl⟩
  rw [← hm] at hcell hrow hl
  have HM := Lib.hid hm
  have HROW := Lib.hid hrow
  clear hk hR hm hrow
  go_enter Try.func49, Try.ntmps49
  go_wp2_with fail
  go_quiet ((go_at_call 99; exact Calls.quiet_of_same ((spokeOf_any _ _).mono fun _ _ ⟨h1, h2⟩ => ⟨by rw [h1, HK.out], h2.symm⟩)))
  have hb0 : Below w.heap.size w ((w.drewN nq).alloc (.cells #[.int .i64 y, .int .i64 x] 150)) := (Ints.below_drewN (Below.refl _ _) nq).alloc (Nat.le_refl _) _
  have HR1 := Lib.hid (HR.out.below hb0)
  have HROW1 := Lib.hid (own_below HROW.out hb0)
  have hc1 := below_keep hb0 hcell
  have HB0 := Lib.hid hb0
  have hg := HR.out.lt
  clear HR HROW hb0
  go_wp2_with (at_builtin; refine wpList_append_lies _ rfl (.tmp 16) (.tmp 20) _ rfl lo 150 i0 _ 2 16 Try.underlying91 hi0 hz0 hz1 hz2 rfl (by omega) (.slice A m c) m _ rfl (by exact HROW1.out) ⟨w.heap.size, 0, none⟩ 1 1 [.int .i64 y, .int .i64 x] rfl rfl ?o2 ?o3 (by omega) ?o4 ?o5 ?o6 (w.heap.size + 1) ?o7 ?_)
  case o2 => exact World.news_of_block (cs := #[.int .i64 y, .int .i64 x]) (heap_alloc_new (w.drewN nq) _)
  case o3 => intro u hu; simp at hu; rcases hu with rfl | rfl <;> rfl
  case o4 => unfold maxLen; omega
  case o5 => omega
  case o6 => simp; omega
  case o7 => simp
  intro g2 cap2 w2 hown2 hgr2 hat2 hlt2
  have hts : (rs.getD k [] ++ [(x, y)]).length = m + 1 := by simp [HM.out]
  have hrow2 : w2.ownsRow lo 150 2 (.slice (some ⟨g2, 0, none⟩) (m + 1) cap2) (rs.getD k [] ++ [(x, y)]).length (flatA (rs.getD k [] ++ [(x, y)])) := by
    rw [hts, flatA_app]
    exact hown2
  have hcm : ((w.drewN nq).alloc (.cells #[.int .i64 y, .int .i64 x] 150)).cell? ⟨g, 1 + k, none⟩ = some (.slice A (rs.getD k []).length c) := by rw [← HM.out]; exact hc1
  obtain ⟨hR2, hf2, u2, hu2⟩ := HR1.out.put hk8 hcm (by rw [← HM.out]; exact hgr2) hrow2 (by
    rw [← HM.out]
    rcases hat2 with h | h
    · exact .inl h.symm
    · refine .inr fun q hq => ?_
      have : g2 = q := by simpa [Value.ownBlock] using hq
      subst this
      simp; omega)
  have HR2 := Lib.hid hR2
  have hbl : Below lo w w2 := (HB0.out.mono hlo).grown hgr2 (by simp; omega) (fun q hq => (HROW1.out.lt q hq).1)
  have hlog := HR1.out.lo_le
  clear hR2 hrow2 hown2 hcm hgr2 hat2 hc1 hcell
  go_wp2
  go_end0
  exact ⟨rfl, HR2.out, hbl.setCell (p := ⟨g, 1 + k, none⟩) hlog _⟩
end Go.Proofs.Ytpghccbknlokcaa.Ring
