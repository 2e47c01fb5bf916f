/-
  CONTRACTS of PutNum, the program's and the model's, over this seat's translation: the same bytes, in memory of one's own.
-/
import Derived.Test.YtpghccbknlokcaaDoorTick
import Derived.Test.YtpghccbknlokcaaDoorBytes
namespace Go.Proofs.YtpghccbknlokcaaDoor.Bytes
open Go.ChangeShapes Go.WideShapes Go.ChangeAt Go.RowKit
open Go.Proofs.YtpghccbknlokcaaDoor.Tick (inB in_t in_f l01In_any)
set_option linter.unusedVariables false

def numB (x : Int) : Bool := inB x 0 1099511627775
theorem num_t {x : Int} (h : numB x = true) : 0 ≤ x ∧ x ≤ 1099511627775 := in_t h
theorem num_f {x : Int} (h : numB x = false) : x < 0 ∨ 1099511627775 < x := in_f h
theorem num_of {x : Int} (h0 : 0 ≤ x) (h1 : x ≤ 1099511627775) : numB x = true := by simp [numB, inB, h0, h1]

/-- The groups of 7 bits, the lowest first. -/
def putN (x : Nat) : List Int := if x < 128 then [(x : Int)] else (((x % 128 : Nat) : Int) + 128) :: putN (x / 128)
termination_by x
theorem putN_lo {x : Nat} (h : x < 128) : putN x = [(x : Int)] := by rw [putN, if_pos h]
theorem putN_hi {x : Nat} (h : 128 ≤ x) : putN x = (((x % 128 : Nat) : Int) + 128) :: putN (x / 128) := by rw [putN, if_neg (by omega)]
theorem putN_in (x : Nat) : ∀ y ∈ putN x, 0 ≤ y ∧ y < 256 := by
  induction x using Nat.strongRecOn with
  | _ x ih =>
    intro y hy
    by_cases h : x < 128
    · rw [putN_lo h] at hy
      simp at hy
      omega
    · rw [putN_hi (by omega)] at hy
      rcases List.mem_cons.mp hy with h1 | h1
      · omega
      · exact ih (x / 128) (by omega) y h1
theorem putN_len (k : Nat) : ∀ x : Nat, x < 128 ^ (k + 1) → (putN x).length ≤ k + 1 := by
  induction k with
  | zero => intro x h; rw [putN_lo (by simpa using h)]; simp
  | succ k ih =>
    intro x h
    by_cases h1 : x < 128
    · rw [putN_lo h1]; simp
    · rw [putN_hi (by omega), List.length_cons]
      have := ih (x / 128) (by rw [Nat.div_lt_iff_lt_mul (by omega)]; rw [← Nat.pow_succ]; exact h)
      omega
theorem putN_len6 {x : Nat} (h : (x : Int) ≤ 1099511627775) : (putN x).length ≤ 6 := putN_len 5 x (by omega)
theorem putN_pos (x : Nat) : 0 < (putN x).length := by
  by_cases h1 : x < 128
  · rw [putN_lo h1]; simp
  · rw [putN_hi (by omega)]; simp
def putV (x : Int) : List Int := if numB x then putN x.toNat else []
theorem putV_t {x : Int} (h : numB x = true) : putV x = putN x.toNat := by simp [putV, h]
theorem putV_f {x : Int} (h : numB x = false) : putV x = [] := by simp [putV, h]
theorem putV_len (x : Int) : (putV x).length ≤ 6 := by
  cases h : numB x
  · rw [putV_f h]; simp
  · rw [putV_t h]; have := num_t h; exact putN_len6 (by omega)
theorem putV_in (x : Int) : ∀ y ∈ putV x, 0 ≤ y ∧ y < 256 := by
  cases h : numB x
  · rw [putV_f h]; intro y hy; simp at hy
  · rw [putV_t h]; exact putN_in _

/-- What a maker of bytes leaves: bytes of one's own; nothing older has turned. -/
def AnsB (w : World) (bs : List Int) (e : Ending) (w' : World) : Prop :=
  ∃ A n c, e = .returned (.slice A n c) ∧ OwnB w' w.heap.size A n c bs ∧ Below w.heap.size w w'

theorem lit_news {w : World} {ad : Addr} {x : Value} (h : w.cell? ad = some x) : ∀ j u, [x][j]? = some u → w.cell? (ad.add j) = some u := by
  intro j u hu
  cases j with
  | zero =>
    have hx : x = u := by simpa using hu
    subst hx
    simpa [Addr.add] using h
  | succ j => simp at hu

theorem numberOk_any (x : Int) (w : World) :
    Calls Tryd.prog 45 #[.int .i64 x] w fun e w' => e = .returned (.bool (numB x)) ∧ w = w' := by
  unfold numB inB
  by_cases h0 : 0 ≤ x
  · by_cases h1 : x ≤ 1099511627775
    · go_enter Tryd.func45, Tryd.ntmps45
      go_wp2
      go_ret
      exact ⟨by simp [h0, h1], rfl⟩
    · go_enter Tryd.func45, Tryd.ntmps45
      go_wp2
      go_ret
      exact ⟨by simp [h1], rfl⟩
  · go_enter Tryd.func45, Tryd.ntmps45
    go_wp2
    go_ret
    exact ⟨by simp; omega, rfl⟩

theorem l03Number_any (x : Int) (w : World) :
    Calls Tryd.prog 66 #[.int .i64 x] w fun e w' => e = .returned (.bool (numB x)) ∧ w = w' := by
  go_enter Tryd.func66, Tryd.ntmps66
  go_wp2_with (go_at_call 35; refine (l01In_any _ _ _ _).mono ?_; rintro e w' ⟨rfl, rfl⟩)
  go_ret
  exact ⟨rfl, rfl⟩

theorem own_nil (w : World) (base : Nat) : OwnB w base none 0 0 [] := ⟨rfl, by simp, by refine ⟨rfl, .inl ⟨rfl, rfl⟩⟩⟩
theorem own_empty (w : World) : OwnB (w.alloc (.cells #[] 5)) w.heap.size (some ⟨w.heap.size, 0, none⟩) 0 0 [] :=
  ⟨rfl, by simp, World.ownsRow_lit w #[] 0 (Nat.le_refl _) (by unfold maxLen; omega) rfl⟩
theorem below_a1 (w : World) (o : Obj) : Below w.heap.size w (w.alloc o) := (Below.refl _ _).alloc (Nat.le_refl _) _

set_option maxHeartbeats 1600000 in
theorem putNum_any (x : Int) (w : World) :
    Calls Tryd.prog 46 #[.int .i64 x] w (AnsB w (putV x)) := by
  obtain ⟨i0, hi0, hz0, hz1, hz2⟩ := info_parts infoByte
  cases hx : numB x
  · have HV := Lib.hid (putV_f hx)
    go_enter Tryd.func46, Tryd.ntmps46
    go_wp2_with (go_at_call 45; refine (numberOk_any _ _).mono ?_; rintro e w' ⟨rfl, rfl⟩)
    go_ret
    exact ⟨_, _, _, rfl, by rw [HV.out]; exact own_nil _ _, Below.refl _ _⟩
  · have HV := Lib.hid (putV_t hx)
    have hb := num_t hx
    obtain ⟨M, rfl⟩ : ∃ M : Nat, x = (M : Int) := ⟨x.toNat, by omega⟩
    have HT := Lib.hid (putN_len6 hb.2)
    go_enter Tryd.func46, Tryd.ntmps46
    go_wp2_with (go_at_call 45; refine (numberOk_any _ _).mono ?_; rintro e w' ⟨rfl, rfl⟩)
    go_loopw [0, 3] (fun x o wr => ∃ (m : Nat) (l : List Int) (A : Option Addr) (c : Nat), (m : Int) ≤ 1099511627775 ∧ x = .int .i64 m ∧ o = .slice A l.length c ∧ Hid (putN M = l ++ putN m) ∧ l.length ≤ 6 ∧ Hid (OwnB wr w.heap.size A l.length c l) ∧ Below w.heap.size w wr ∧ w.heap.size ≤ wr.heap.size) (fun x _ _ => (intOf x).toNat)
    case atStart => exact ⟨M, [], _, _, by omega, rfl, rfl, by show _ = _; simp, by simp, own_empty w, below_a1 _ _, by simp⟩
    case round =>
      obtain ⟨m, l, A, c, hm, rfl, rfl, HD, hl6, HO, hbr, hsr⟩ := hrel
      by_cases hge : 128 ≤ m
      · have hd : decide ((128 : Int) ≤ (m : Int)) = true := by simp; omega
        obtain ⟨y, hy⟩ : ∃ y : Int, y = (m : Int) % 128 + 128 := ⟨_, rfl⟩
        have hy0 : 0 ≤ y ∧ y < 256 := by omega
        have hwy : IntKind.u8.wrap ((m : Int) % 128 + 128) = y := by rw [IntKind.wrap_u8]; omega
        have HD2 : Hid (putN M = (l ++ [y]) ++ putN (m / 128)) := by show _ = _; rw [HD.out, putN_hi hge, hy]; simp
        have hl7 : l.length + 1 ≤ 6 := by
          have h1 := congrArg List.length HD2.out
          have h2 := putN_pos (m / 128)
          have h3 := HT.out
          simp only [List.length_append, List.length_cons, List.length_nil] at h1
          omega
        clear hy
        go_wp2_with (at_builtin; refine wpList_append_own _ rfl (.tmp 10) (.tmp 15) _ rfl w.heap.size 5 i0 _ 1 1 Tryd.underlying22 hi0 hz0 hz1 hz2 rfl (by omega) (.slice A l.length c) l.length (l.map (Value.int .u8)) rfl ?o1 ⟨wr.heap.size, 0, none⟩ 1 1 [.int .u8 y] rfl rfl ?o2 ?o3 ?o4 ?o5 ?o6 ?_)
        case o1 => exact (HO.out.alloc _).2.2
        case o2 => exact lit_news (by simp [go_sem])
        case o3 => intro u hu; simp at hu; subst hu; rfl
        case o4 => unfold maxLen; omega
        case o5 => omega
        case o6 => simp; omega
        intro v2 w2 hown2 hgr2 _
        obtain ⟨A4, c4, rfl, hI4⟩ := OwnB.of_append (bs := l) rfl HO.out.2.1 hy0 hown2
        have hb2 : Below w.heap.size w w2 := (hbr.alloc hsr _).grown hgr2 (by simp; omega) (fun q hq => (HO.out.lt q hq).1)
        have hs2 : w.heap.size ≤ w2.heap.size := by have := hgr2.size; simp at this; omega
        have HI4 := Lib.hid hI4
        clear hown2 hgr2 hI4
        go_wp2
        go_roundw
        case rel =>
          have he : (l ++ [y]).length = l.length + 1 := by simp
          exact ⟨m / 128, l ++ [y], A4, c4, by omega, by go_num, by rw [he], HD2, by rw [he]; omega, by rw [he]; exact HI4.out, hb2, hs2⟩
        case measure => simp [intOf]; omega
      · have hd : decide ((128 : Int) ≤ (m : Int)) = false := by simp; omega
        have hy0 : 0 ≤ (m : Int) ∧ (m : Int) < 256 := by omega
        have hwy : IntKind.u8.wrap (m : Int) = (m : Int) := by rw [IntKind.wrap_u8]; omega
        have HD2 : Hid (putN M = l ++ [(m : Int)]) := by show _ = _; rw [HD.out, putN_lo (by omega)]
        go_wp2_with (at_builtin; refine wpList_append_own _ rfl (.tmp 19) (.tmp 22) _ rfl w.heap.size 5 i0 _ 1 1 Tryd.underlying22 hi0 hz0 hz1 hz2 rfl (by omega) (.slice A l.length c) l.length (l.map (Value.int .u8)) rfl ?o1 ⟨wr.heap.size, 0, none⟩ 1 1 [.int .u8 (m : Int)] rfl rfl ?o2 ?o3 ?o4 ?o5 ?o6 ?_)
        case o1 => exact (HO.out.alloc _).2.2
        case o2 => exact lit_news (by simp [go_sem])
        case o3 => intro u hu; simp at hu; subst hu; rfl
        case o4 => unfold maxLen; omega
        case o5 => omega
        case o6 => simp; omega
        intro v2 w2 hown2 hgr2 _
        obtain ⟨A4, c4, rfl, hI4⟩ := OwnB.of_append (bs := l) rfl HO.out.2.1 hy0 hown2
        have hb2 : Below w.heap.size w w2 := (hbr.alloc hsr _).grown hgr2 (by simp; omega) (fun q hq => (HO.out.lt q hq).1)
        have HI4 := Lib.hid hI4
        clear hown2 hgr2 hI4
        go_wp2
        go_ret
        refine ⟨_, _, _, rfl, ?_, hb2⟩
        rw [HV.out, Int.toNat_natCast, HD2.out]
        exact HI4.out

end Go.Proofs.YtpghccbknlokcaaDoor.Bytes
