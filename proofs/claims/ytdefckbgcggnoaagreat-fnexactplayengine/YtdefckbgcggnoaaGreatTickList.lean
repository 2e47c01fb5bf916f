/-
  CONTRACTS of SoonestOf and SumTicks, the program's and the model's, over this seat's translation: at a slice that reads as a list of ints, what each answers; the world is left as it was.
-/
import Derived.Test.YtdefckbgcggnoaaGreatTick2
import Derived.Test.YtdefckbgcggnoaaGreatInts
namespace Go.Proofs.YtdefckbgcggnoaaGreat.TickList
open Go.ChangeShapes Go.WideShapes Go.ChangeAt Go.RowKit
open Go.Proofs.YtdefckbgcggnoaaGreat.Tick Go.Proofs.YtdefckbgcggnoaaGreat.Ints
set_option linter.unusedVariables false

def stepV (acc t : Int) : Int := if tokB t && (decide (acc < 0) || decide (t < acc)) then t else acc
def soonF (zs : List Int) : Int := zs.foldl stepV (-1)
def soonV (zs : List Int) : Int := if 300 < zs.length then -1 else soonF zs
def sumS (acc t : Int) : Int := if tokB t && decide (0 ≤ acc) then addV acc t else -1
def sumF (zs : List Int) : Int := zs.foldl sumS 0
def sumV (zs : List Int) : Int := if 300 < zs.length then -1 else sumF zs

theorem fold_take {f : Int → Int → Int} {s : Int} (zs : List Int) (k : Nat) (h : k < zs.length) : (zs.take (k + 1)).foldl f s = f ((zs.take k).foldl f s) (zs.getD k 0) := by
  rw [List.take_succ_eq_append_getElem h, List.foldl_append]
  simp [List.getD, h]
theorem soonF_ge (zs : List Int) : -1 ≤ soonF zs := by
  unfold soonF
  suffices h : ∀ (l : List Int) (s : Int), -1 ≤ s → -1 ≤ l.foldl stepV s from h zs (-1) (by omega)
  intro l
  induction l with
  | nil => intro s h; exact h
  | cons x l ih =>
    intro s h
    refine ih _ ?_
    unfold stepV
    split
    · rename_i h1
      have := tok_t (by simpa using (Bool.and_eq_true _ _ ▸ h1).1 : tokB x = true)
      omega
    · exact h
theorem sumF_dead (l : List Int) : l.foldl sumS (-1) = -1 := by
  induction l with
  | nil => rfl
  | cons x l ih => simp only [List.foldl_cons]; have : sumS (-1) x = -1 := by simp [sumS]
                   rw [this]; exact ih
theorem sumF_stop (zs : List Int) (k : Nat) (h : k < zs.length) (hf : tokB (zs.getD k 0) = false) : sumF zs = -1 := by
  unfold sumF
  conv => lhs; rw [← List.take_append_drop (k + 1) zs, List.foldl_append, fold_take zs k h]
  have : sumS ((zs.take k).foldl sumS 0) (zs.getD k 0) = -1 := by simp only [sumS, hf]; rfl
  rw [this]; exact sumF_dead _


set_option maxHeartbeats 1600000 in
theorem soonest_any (A : Option Addr) (n cap : Nat) (zs : List Int) (B : Nat) (w : World) (hr : IsInts w B A n zs) (hn : n ≤ 1048576) :
    Calls Tryz.prog 39 #[.slice A n cap] w fun e w' => e = .returned (.int .i64 (soonV zs)) ∧ w = w' := by
  have HL : Hid (zs.length = n) := hr.1
  by_cases h3 : 300 < n
  · have HV : Hid (soonV zs = -1) := (by unfold soonV; rw [if_pos (by rw [HL.out]; exact h3)] : soonV zs = -1)
    go_enter Tryz.func39, Tryz.ntmps39
    go_wp2
    go_ret
    exact ⟨ret_int HV.out.symm, rfl⟩
  · have HV : Hid (soonV zs = soonF zs) := (by unfold soonV; rw [if_neg (by rw [HL.out]; exact h3)] : soonV zs = soonF zs)
    go_enter Tryz.func39, Tryz.ntmps39
    go_wp2_with fail
    go_loop [3, 12] (fun best i => ∃ k : Nat, k ≤ n ∧ i = .int .i64 k ∧ best = .int .i64 (soonF (zs.take k))) (fun _ i => n - (intOf i).toNat)
    case atStart => exact ⟨0, Nat.zero_le _, rfl, rfl⟩
    case round =>
      obtain ⟨k, hk, rfl, rfl⟩ := hrel
      by_cases hlt : k < n
      · obtain ⟨b, off, z, rfl, hbB, hz, hc⟩ := hr.at_ hlt
        have hs := fold_take (f := stepV) (s := -1) zs k (by rw [HL.out]; exact hlt)
        rw [← hz] at hs
        have HZ : Hid (soonF (zs.take (k + 1)) = stepV (soonF (zs.take k)) z) := hs
        clear hs hz
        obtain ⟨acc, ha⟩ : ∃ acc, acc = soonF (zs.take k) := ⟨_, rfl⟩
        have hge := soonF_ge (zs.take k)
        rw [← ha] at HZ hge ⊢
        clear ha
        cases ht : tokB z
        · have HS : Hid (stepV acc z = acc) := (by simp [stepV, ht] : stepV acc z = acc)
          go_wp2_with (go_at_call 78; refine (tickOk_any _ _).mono ?_; rintro e w' ⟨rfl, rfl⟩)
          go_round
          case rel => exact ⟨k + 1, by omega, by go_num, by rw [HZ.out, HS.out]⟩
          case measure => simp [intOf]; omega
        · cases h0 : (acc == -1)
          · have h00 : ¬ acc = -1 := by simpa using h0
            have h01 : 0 ≤ acc := by omega
            clear h00
            by_cases h1 : z < acc
            · have HS : Hid (stepV acc z = z) := (by simp [stepV, ht, h1] : stepV acc z = z)
              go_wp2_with (go_at_call 78; refine (tickOk_any _ _).mono ?_; rintro e w' ⟨rfl, rfl⟩)
              go_round
              case rel => exact ⟨k + 1, by omega, by go_num, by rw [HZ.out, HS.out]⟩
              case measure => simp [intOf]; omega
            · have HS : Hid (stepV acc z = acc) := (by unfold stepV; rw [if_neg]; simp [ht]; omega : stepV acc z = acc)
              go_wp2_with (go_at_call 78; refine (tickOk_any _ _).mono ?_; rintro e w' ⟨rfl, rfl⟩)
              go_round
              case rel => exact ⟨k + 1, by omega, by go_num, by rw [HZ.out, HS.out]⟩
              case measure => simp [intOf]; omega
          · have h00 : acc = -1 := by simpa using h0
            have HS : Hid (stepV acc z = z) := (by simp [stepV, ht, h00] : stepV acc z = z)
            clear h00
            go_wp2_with (go_at_call 78; refine (tickOk_any _ _).mono ?_; rintro e w' ⟨rfl, rfl⟩)
            go_round
            case rel => exact ⟨k + 1, by omega, by go_num, by rw [HZ.out, HS.out]⟩
            case measure => simp [intOf]; omega
      · go_wp2
        go_ret
        exact ⟨ret_int (by rw [HV.out, List.take_of_length_le (by rw [HL.out]; omega)]), rfl⟩

theorem sumF_bd (zs : List Int) : sumF zs = -1 ∨ (0 ≤ sumF zs ∧ sumF zs ≤ 1000000000) := by
  unfold sumF
  suffices h : ∀ (l : List Int) (s : Int), (s = -1 ∨ (0 ≤ s ∧ s ≤ 1000000000)) → (l.foldl sumS s = -1 ∨ (0 ≤ l.foldl sumS s ∧ l.foldl sumS s ≤ 1000000000)) from h zs 0 (by omega)
  intro l
  induction l with
  | nil => intro s h; exact h
  | cons x l ih =>
    intro s h
    refine ih _ ?_
    unfold sumS
    split
    · have := addV_bd s x
      omega
    · left; rfl
theorem tok_mk {t : Int} (h0 : 0 ≤ t) (h1 : t ≤ 1000000000) : tokB t = true := by simp [tokB, h0, h1]
theorem sumS_ok {acc z : Int} (ht : tokB z = true) (h0 : 0 ≤ acc) : sumS acc z = addV acc z := by simp [sumS, ht, h0]
theorem addV_nn {acc z : Int} (ht : tokB z = true) (h0 : 0 ≤ acc) (h1 : acc ≤ 1000000000) : 0 ≤ addV acc z := by
  have b := tok_t ht
  rw [addV_ok (tok_mk h0 h1) (by simp [inB]; omega)]
  omega




end Go.Proofs.YtdefckbgcggnoaaGreat.TickList
