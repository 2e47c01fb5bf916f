/-
  CONTRACTS of the laws' sameRecords (on lists that read alike) and alt, over this seat's translation.
-/
import Derived.Test.YtghckkameinicaaDoorSameRec
import Derived.Test.YtghckkameinicaaDoorRecs
import Derived.Test.YtghckkameinicaaDoorFrame
namespace Go.Proofs.YtghckkameinicaaDoor.Rec
open Go.ChangeShapes Go.WideShapes Go.ChangeAt Go.RowKit
open Go.Proofs.YtghckkameinicaaDoor.Ints Go.Proofs.YtghckkameinicaaDoor.Has
open Go.Proofs.YtghckkameinicaaDoor.Bytes (IsBytes OwnB AnsB infoByte own_empty own_nil lit_news)

theorem eqL_self (zs : List Int) : eqL zs zs = true := eqL_all rfl (fun _ _ => rfl)
theorem sameB_self {kd : Int} {ys : List Int} (h : recB kd ys = true) : sameB kd ys kd ys = true := by
  rw [same_4 h h (by simp)]; exact eqL_self ys

set_option maxHeartbeats 1600000 in
theorem sameRecords_same (A C : Option Addr) (n cap cap' : Nat) (rs : RList) (B B' : Nat) (w : World) (hr : IsRecs w B A n rs) (hs : IsRecs w B' C n rs) (hB : B ≤ w.heap.size) (hB' : B' ≤ w.heap.size) (hn : n ≤ 1048576) (hm : ∀ j, j < n → recB (rs.getD j (0, [])).1 (rs.getD j (0, [])).2 = true) :
    Calls Tryd.prog 21 #[.slice A n cap, .slice C n cap'] w (SaysTrue w) := by
  have HM := Lib.hid hm
  clear hm
  go_enter Tryd.func21, Tryd.ntmps21
  go_wp2_with fail
  go_loopw [5] (fun i wr => ∃ k : Nat, k ≤ n ∧ i = .int .i64 k ∧ Below w.heap.size w wr) (fun i _ => n - (intOf i).toNat)
  case atStart => exact ⟨0, Nat.zero_le _, rfl, Below.refl _ _⟩
  case round =>
    obtain ⟨k, hk, rfl, hbr⟩ := hrel
    by_cases hlt : k < n
    · obtain ⟨b, off, A1, c1, kd, zs, rfl, hbB, hz, hc1, hc2, hI1⟩ := (hr.below hbr hB).at_ hlt
      obtain ⟨b', off', A2, c2, kd', zs', rfl, hbB', hz', hc3, hc4, hI2⟩ := (hs.below hbr hB').at_ hlt
      have he := hz.trans hz'.symm
      injection he with he1 he2
      subst he1 he2
      have hrec : recB kd zs = true := by have h1 := HM.out k hlt; rw [← hz] at h1; exact h1
      have HS := Lib.hid (sameB_self hrec)
      have hn1 : zs.length ≤ 1048576 := by have := (rec_t hrec).2.1; omega
      have H1 := Lib.hid hI1
      have H2 := Lib.hid hI2
      generalize zs.length = m at hn1 hc2 hc4 H1 H2
      clear hI1 hI2 hr hs hz hz' hrec
      go_wp2_with fail
      go_region_held3 (fun w' => w'.cell? ⟨b, off + k * 2, none⟩ = some (.int .i64 kd) ∧ w'.cell? ⟨b, off + k * 2 + 1, none⟩ = some (.slice A1 m c1) ∧ w'.cell? ⟨b', off' + k * 2, none⟩ = some (.int .i64 kd) ∧ w'.cell? ⟨b', off' + k * 2 + 1, none⟩ = some (.slice A2 m c2)) (first | go_keep | (refine ⟨below_keep hb2 ?_, below_keep hb2 ?_, below_keep hb2 ?_, below_keep hb2 ?_⟩ <;> simp only [*]))
        (first | (go_at_call 17; refine (sameRecord_any kd kd A1 A2 m m c1 c2 zs zs w.heap.size _ (by exact H1.out.more hB) (by exact H2.out.more hB') (by exact hbr.size) hn1 hn1).mono ?_; rintro e w2 ⟨rfl, hb2⟩; rw [HS.out]))
      have hbr2 : Below w.heap.size w w2 := hbr.drew.trans (hb2.mono hbr.size)
      go_wp2
      go_roundw
      case rel => exact ⟨k + 1, by omega, by go_num, hbr2⟩
      case measure => simp [intOf]; omega
    · go_wp2
      go_ret
      exact ⟨rfl, hbr⟩

theorem own_one (w : World) {x : Int} (hx : 0 ≤ x ∧ x < 256) : OwnB (w.alloc (.cells #[.int .u8 x] 5)) w.heap.size (some ⟨w.heap.size, 0, none⟩) 1 1 [x] :=
  ⟨rfl, by simpa using hx, World.ownsRow_lit w #[.int .u8 x] 1 (Nat.le_refl _) (by unfold maxLen; omega) rfl⟩
set_option maxHeartbeats 1600000 in
theorem alt_any (A : Option Addr) (n c : Nat) (bs : List Int) (x : Int) (hx : 0 ≤ x ∧ x < 256) (B : Nat) (w : World) (hr : IsBytes w B A n bs) (hB : B ≤ w.heap.size) (hn : n ≤ 1048576) :
    Calls Tryd.prog 20 #[.slice A n c, .int .i64 x] w (AnsB w (x :: bs.take 3000)) := by
  obtain ⟨i0, hi0, hz0, hz1, hz2⟩ := info_parts infoByte
  have HL : Hid (bs.length = n) := hr.1
  have HR := Lib.hid hr
  obtain ⟨L, hL⟩ : ∃ L, L = x :: bs.take 3000 := ⟨_, rfl⟩
  rw [← hL]
  have HLL := Lib.hid hL
  clear hL
  have hwx : IntKind.u8.wrap x = x := by rw [IntKind.wrap_u8]; omega
  clear hr
  go_enter Tryd.func20, Tryd.ntmps20
  go_wp2_with fail
  go_loopw [5, 6] (fun o i wr => ∃ (k : Nat) (A3 : Option Addr) (c3 : Nat), k ≤ n ∧ k ≤ 3000 ∧ i = .int .i64 k ∧ o = .slice A3 (k + 1) c3 ∧ Hid (OwnB wr w.heap.size A3 (k + 1) c3 (x :: bs.take k)) ∧ Below w.heap.size w wr ∧ w.heap.size ≤ wr.heap.size) (fun _ i _ => n - (intOf i).toNat)
  case atStart => exact ⟨0, _, _, Nat.zero_le _, by omega, rfl, rfl, own_one w hx, below_a1 _ _, by simp⟩
  case round =>
    obtain ⟨k, A3, c3, hk, hk3, rfl, rfl, HO, hbr, hsr⟩ := hrel
    have HK3 := Lib.hid hk3
    clear hk3
    by_cases hlt : k < n
    · by_cases hlt3 : k < 3000
      · have hd3 : decide ((k : Int) < 3000) = true := by simp; omega
        have hd4 : decide ((k : Int) < (n : Int)) = true := by simp; omega
        have HK4 := Lib.hid hlt3
        clear hlt3
        obtain ⟨b, off, z, rfl, hbB, hz, hc, hz0', hz1'⟩ := (HR.out.below hbr hB).at_ hlt
        have hzb : 0 ≤ z ∧ z < 256 := ⟨hz0', hz1'⟩
        have HT : Hid (x :: bs.take (k + 1) = (x :: bs.take k) ++ [z]) := by
          show _ = _
          rw [List.take_succ_eq_append_getElem (by rw [HL.out]; exact hlt), hz]
          simp [List.getD, show k < bs.length by rw [HL.out]; exact hlt]
        have HLT : Hid ((x :: bs.take k).length = k + 1) := by show _ = _; rw [List.length_cons, List.length_take, HL.out]; omega
        clear hz hz0' hz1'
        generalize x :: bs.take k = tk at HO HT HLT
        go_wp2_with (at_builtin; refine wpList_append_own _ rfl (.tmp 20) (.tmp 25) _ rfl w.heap.size 5 i0 _ 1 1 Tryd.underlying22 hi0 hz0 hz1 hz2 rfl (by omega) (.slice A3 (k + 1) c3) (k + 1) (tk.map (Value.int .u8)) rfl ?o1 ⟨wr.heap.size, 0, none⟩ 1 1 [.int .u8 z] rfl rfl ?o2 ?o3 ?o4 ?o5 ?o6 ?_)
        case o1 => exact (HO.out.alloc _).2.2
        case o2 => exact lit_news (by simp [go_sem])
        case o3 => intro u hu; simp at hu; subst hu; rfl
        case o4 => unfold maxLen; omega
        case o5 => omega
        case o6 => simp; omega
        intro v2 w2 hown2 hgr2 _
        obtain ⟨A4, c4, rfl, hI4⟩ := OwnB.of_append (bs := tk) HLT.out HO.out.2.1 hzb hown2
        have hb2 : Below w.heap.size w w2 := (hbr.alloc hsr _).grown hgr2 (by simp; omega) (fun q hq => (HO.out.lt q hq).1)
        have hs2 : w.heap.size ≤ w2.heap.size := by have := hgr2.size; simp at this; omega
        have HI4 : Hid (OwnB w2 w.heap.size A4 (k + 1 + 1) c4 (x :: bs.take (k + 1))) := by rw [HT.out]; exact hI4
        clear hown2 hgr2 hI4
        go_wp2
        go_roundw
        case rel => exact ⟨k + 1, A4, c4, by omega, by have := HK4.out; omega, by go_num, rfl, HI4, hb2, hs2⟩
        case measure => simp [intOf]; omega
      · have HK : Hid (x :: bs.take k = L) := by
          show _ = _
          rw [HLL.out, show k = 3000 by have := HK3.out; omega]
        have hd3 : decide ((k : Int) < 3000) = false := by simp; omega
        have hd4 : decide ((k : Int) < (n : Int)) = true := by simp; omega
        clear hlt3
        go_wp2
        go_ret
        refine ⟨_, _, _, rfl, ?_, hbr⟩
        have h1 := HO.out
        rw [HK.out] at h1
        exact h1
    · have HK : Hid (x :: bs.take k = L) := by show _ = _; have := HK3.out; rw [HLL.out, List.take_of_length_le (by rw [HL.out]; omega), List.take_of_length_le (by rw [HL.out]; omega)]
      go_wp2
      go_ret
      refine ⟨_, _, _, rfl, ?_, hbr⟩
      have h1 := HO.out
      rw [HK.out] at h1
      exact h1
end Go.Proofs.YtghckkameinicaaDoor.Rec
