/-
  CONTRACTS of the laws' sameRecords (on lists that read alike) and alt, over this seat's translation.
-/
import Derived.Test.YtpghccbknlokcaaDoorSameRec
import Derived.Test.YtpghccbknlokcaaDoorRecs
import Derived.Test.YtpghccbknlokcaaDoorFrame
namespace Go.Proofs.YtpghccbknlokcaaDoor.Rec
open Go.ChangeShapes Go.WideShapes Go.ChangeAt Go.RowKit
open Go.Proofs.YtpghccbknlokcaaDoor.Ints Go.Proofs.YtpghccbknlokcaaDoor.Has
open Go.Proofs.YtpghccbknlokcaaDoor.Bytes (IsBytes OwnB AnsB infoByte own_empty own_nil lit_news)

theorem eqL_self (zs : List Int) : eqL zs zs = true := eqL_all rfl (fun _ _ => rfl)
theorem sameB_self {kd : Int} {ys : List Int} (h : recB kd ys = true) : sameB kd ys kd ys = true := by
  rw [same_4 h h (by simp)]; exact eqL_self ys

set_option maxHeartbeats 1600000 in
theorem sameRecords_same (A C : Option Addr) (n cap cap' : Nat) (rs : RList) (B B' : Nat) (w : World) (hr : IsRecs w B A n rs) (hs : IsRecs w B' C n rs) (hB : B ≤ w.heap.size) (hB' : B' ≤ w.heap.size) (hn : n ≤ 1048576) (hm : ∀ j, j < n → recB (rs.getD j (0, [])).1 (rs.getD j (0, [])).2 = true) :
    Calls Tryd.prog 12 #[.slice A n cap, .slice C n cap'] w (SaysTrue w) := by
  have HM := Lib.hid hm
  clear hm
  go_enter Tryd.func12, Tryd.ntmps12
  go_wp2_with fail
  go_loopw [5] (fun i wr => ∃ k : Nat, k ≤ n ∧ i = .int .i64 k ∧ Below w.heap.size w wr) (fun i _ => n - (intOf i).toNat)
  case atStart => exact ⟨0, Nat.zero_le _, rfl, Below.refl _ _⟩
  case round =>
    obtain ⟨k, hk, rfl, hbr⟩ := hrel
    by_cases hlt : k < n
    · obtain ⟨b, off, A1, c1, kd, zs, rfl, hbB, hz, hc1, hc2, hI1⟩ := (hr.below hbr hB).at_ hlt
      obtain ⟨b', off', A2, c2, kd', zs', rfl, hbB', hz', hc3, hc4, hI2⟩ := (hs.below hbr hB').at_ hlt
      have he := hz.trans hz'.symm
      injection he with he1 he2
      subst he1 he2
      have hrec : recB kd zs = true := by have h1 := HM.out k hlt; rw [← hz] at h1; exact h1
      have HS := Lib.hid (sameB_self hrec)
      have hn1 : zs.length ≤ 1048576 := by have := (rec_t hrec).2.1; omega
      have H1 := Lib.hid hI1
      have H2 := Lib.hid hI2
      generalize zs.length = m at hn1 hc2 hc4 H1 H2
      clear hI1 hI2 hr hs hz hz' hrec
      go_wp2_with fail
      go_region_held3 (fun w' => w'.cell? ⟨b, off + k * 2, none⟩ = some (.int .i64 kd) ∧ w'.cell? ⟨b, off + k * 2 + 1, none⟩ = some (.slice A1 m c1) ∧ w'.cell? ⟨b', off' + k * 2, none⟩ = some (.int .i64 kd) ∧ w'.cell? ⟨b', off' + k * 2 + 1, none⟩ = some (.slice A2 m c2)) (first | go_keep | (refine ⟨below_keep hb2 ?_, below_keep hb2 ?_, below_keep hb2 ?_, below_keep hb2 ?_⟩ <;> simp only [*]))
        (first | (go_at_call 33; refine (sameRecord_any kd kd A1 A2 m m c1 c2 zs zs w.heap.size _ (by exact H1.out.more hB) (by exact H2.out.more hB') (by exact hbr.size) hn1 hn1).mono ?_; rintro e w2 ⟨rfl, hb2⟩; rw [HS.out]))
      have hbr2 : Below w.heap.size w w2 := hbr.drew.trans (hb2.mono hbr.size)
      go_wp2
      go_roundw
      case rel => exact ⟨k + 1, by omega, by go_num, hbr2⟩
      case measure => simp [intOf]; omega
    · go_wp2
      go_ret
      exact ⟨rfl, hbr⟩

end Go.Proofs.YtpghccbknlokcaaDoor.Rec
