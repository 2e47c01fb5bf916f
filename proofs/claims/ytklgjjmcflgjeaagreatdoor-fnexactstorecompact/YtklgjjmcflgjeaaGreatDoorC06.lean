import Derived.Test.YtklgjjmcflgjeaaGreatDoorC00
import Derived.Test.YtklgjjmcflgjeaaGreatDoorC02
import Derived.Test.YtklgjjmcflgjeaaGreatDoorC04
set_option linter.unusedVariables false
set_option linter.unusedSimpArgs false
namespace Go.Proofs.YtklgjjmcflgjeaaGreatDoor.Bytes
open Go.ChangeShapes Go.WideShapes Go.ChangeAt Go.RowKit
open Tick (inB in_t in_f l01In_any)
def numB (x : Int) : Bool := inB x 0 1099511627775
theorem num_t {x : Int} (h : numB x = true) : 0 ≤ x ∧ x ≤ 1099511627775 := in_t h
theorem num_f {x : Int} (h : numB x = false) : x < 0 ∨ 1099511627775 < x := in_f h
theorem num_of {x : Int} (h0 : 0 ≤ x) (h1 : x ≤ 1099511627775) : numB x = true := by simp [numB, inB, h0, h1]
def putN (x : Nat) : List Int := if x < 128 then [(x : Int)] else (((x % 128 : Nat) : Int) + 128) :: putN (x / 128)
termination_by x
theorem putN_lo {x : Nat} (h : x < 128) : putN x = [(x : Int)] := by rw [putN, if_pos h]
theorem putN_hi {x : Nat} (h : 128 ≤ x) : putN x = (((x % 128 : Nat) : Int) + 128) :: putN (x / 128) := by rw [putN, if_neg (by omega)]
theorem putN_in (x : Nat) : ∀ y ∈ putN x, 0 ≤ y ∧ y < 256 := by
  induction x using Nat.strongRecOn with
  | _ x ih =>
    intro y hy
    by_cases h : x < 128
    · rw [putN_lo h] at hy
      simp at hy
      omega
    · rw [putN_hi (by omega)] at hy
      rcases List.mem_cons.mp hy with h1 | h1
      · omega
      · exact ih (x / 128) (by omega) y h1
theorem putN_len (k : Nat) : ∀ x : Nat, x < 128 ^ (k + 1) → (putN x).length ≤ k + 1 := by
  induction k with
  | zero => intro x h; rw [putN_lo (by simpa using h)]; simp
  | succ k ih =>
    intro x h
    by_cases h1 : x < 128
    · rw [putN_lo h1]; simp
    · rw [putN_hi (by omega), List.length_cons]
      have := ih (x / 128) (by rw [Nat.div_lt_iff_lt_mul (by omega)]; rw [← Nat.pow_succ]; exact h)
      omega
theorem putN_len6 {x : Nat} (h : (x : Int) ≤ 1099511627775) : (putN x).length ≤ 6 := putN_len 5 x (by omega)
theorem putN_pos (x : Nat) : 0 < (putN x).length := by
  by_cases h1 : x < 128
  · rw [putN_lo h1]; simp
  · rw [putN_hi (by omega)]; simp
def putV (x : Int) : List Int := if numB x then putN x.toNat else []
theorem putV_t {x : Int} (h : numB x = true) : putV x = putN x.toNat := by simp [putV, h]
theorem putV_f {x : Int} (h : numB x = false) : putV x = [] := by simp [putV, h]
theorem putV_len (x : Int) : (putV x).length ≤ 6 := by
  cases h : numB x
  · rw [putV_f h]; simp
  · rw [putV_t h]; have := num_t h; exact putN_len6 (by omega)
theorem putV_in (x : Int) : ∀ y ∈ putV x, 0 ≤ y ∧ y < 256 := by
  cases h : numB x
  · rw [putV_f h]; intro y hy; simp at hy
  · rw [putV_t h]; exact putN_in _
def AnsB (w : World) (bs : List Int) (e : Ending) (w' : World) : Prop :=
  ∃ A n c, e = .returned (.slice A n c) ∧ OwnB w' w.heap.size A n c bs ∧ Below w.heap.size w w'
theorem lit_news {w : World} {ad : Addr} {x : Value} (h : w.cell? ad = some x) : ∀ j u, [x][j]? = some u → w.cell? (ad.add j) = some u := by
  intro j u hu
  cases j with
  | zero =>
    have hx : x = u := by simpa using hu
    subst hx
    simpa [Addr.add] using h
  | succ j => simp at hu
theorem numberOk_any (x : Int) (w : World) :
    Calls Tryz.prog 93 #[.int .i64 x] w fun e w' => e = .returned (.bool (numB x)) ∧ w = w' := by
  unfold numB inB
  by_cases h0 : 0 ≤ x
  · by_cases h1 : x ≤ 1099511627775
    · go_enter Tryz.func93, Tryz.ntmps93
      go_wp2
      go_ret
      exact ⟨by simp [h0, h1], rfl⟩
    · go_enter Tryz.func93, Tryz.ntmps93
      go_wp2
      go_ret
      exact ⟨by simp [h1], rfl⟩
  · go_enter Tryz.func93, Tryz.ntmps93
    go_wp2
    go_ret
    exact ⟨by simp; omega, rfl⟩
theorem l03Number_any (x : Int) (w : World) :
    Calls Tryz.prog 175 #[.int .i64 x] w fun e w' => e = .returned (.bool (numB x)) ∧ w = w' := by
  go_enter Tryz.func175, Tryz.ntmps175
  go_wp2_with (go_at_call 37; refine (l01In_any _ _ _ _).mono ?_; rintro e w' ⟨rfl, rfl⟩)
  go_ret
  exact ⟨rfl, rfl⟩
theorem own_nil (w : World) (base : Nat) : OwnB w base none 0 0 [] := ⟨rfl, by simp, by refine ⟨rfl, .inl ⟨rfl, rfl⟩⟩⟩
theorem own_empty (w : World) : OwnB (w.alloc (.cells #[] 5)) w.heap.size (some ⟨w.heap.size, 0, none⟩) 0 0 [] :=
  ⟨rfl, by simp, World.ownsRow_lit w #[] 0 (Nat.le_refl _) (by unfold maxLen; omega) rfl⟩
theorem below_a1 (w : World) (o : Obj) : Below w.heap.size w (w.alloc o) := (Below.refl _ _).alloc (Nat.le_refl _) _
set_option maxHeartbeats 1600000 in
theorem putNum_any (x : Int) (w : World) :
    Calls Tryz.prog 184 #[.int .i64 x] w (AnsB w (putV x)) := by
  obtain ⟨i0, hi0, hz0, hz1, hz2⟩ := info_parts infoByte
  cases hx : numB x
  · have HV := Lib.hid (putV_f hx)
    go_enter Tryz.func184, Tryz.ntmps184
    go_wp2_with (go_at_call 93; refine (numberOk_any _ _).mono ?_; rintro e w' ⟨rfl, rfl⟩)
    go_ret
    exact ⟨_, _, _, rfl, by rw [HV.out]; exact own_nil _ _, Below.refl _ _⟩
  · have HV := Lib.hid (putV_t hx)
    have hb := num_t hx
    obtain ⟨M, rfl⟩ : ∃ M : Nat, x = (M : Int) := ⟨x.toNat, by omega⟩
    have HT := Lib.hid (putN_len6 hb.2)
    go_enter Tryz.func184, Tryz.ntmps184
    go_wp2_with (go_at_call 93; refine (numberOk_any _ _).mono ?_; rintro e w' ⟨rfl, rfl⟩)
    go_loopw [0, 3] (fun x o wr => ∃ (m : Nat) (l : List Int) (A : Option Addr) (c : Nat), (m : Int) ≤ 1099511627775 ∧ x = .int .i64 m ∧ o = .slice A l.length c ∧ Hid (putN M = l ++ putN m) ∧ l.length ≤ 6 ∧ Hid (OwnB wr w.heap.size A l.length c l) ∧ Below w.heap.size w wr ∧ w.heap.size ≤ wr.heap.size) (fun x _ _ => (RowKit.intOf x).toNat)
    case atStart => exact ⟨M, [], _, _, by omega, rfl, rfl, by show _ = _; simp, by simp, own_empty w, below_a1 _ _, by simp⟩
    case round =>
      obtain ⟨m, l, A, c, hm, rfl, rfl, HD, hl6, HO, hbr, hsr⟩ := hrel
      by_cases hge : 128 ≤ m
      · have hd : decide ((128 : Int) ≤ (m : Int)) = true := by simp; omega
        obtain ⟨y, hy⟩ : ∃ y : Int, y = (m : Int) % 128 + 128 := ⟨_, rfl⟩
        have hy0 : 0 ≤ y ∧ y < 256 := by omega
        have hwy : IntKind.u8.wrap ((m : Int) % 128 + 128) = y := by rw [IntKind.wrap_u8]; omega
        have HD2 : Hid (putN M = (l ++ [y]) ++ putN (m / 128)) := by show _ = _; rw [HD.out, putN_hi hge, hy]; simp
        have hl7 : l.length + 1 ≤ 6 := by
          have h1 := congrArg List.length HD2.out
          have h2 := putN_pos (m / 128)
          have h3 := HT.out
          simp only [List.length_append, List.length_cons, List.length_nil] at h1
          omega
        clear hy
        go_wp2_with (at_builtin; refine wpList_append_own _ rfl (.tmp 10) (.tmp 15) _ rfl w.heap.size 5 i0 _ 1 1 Tryz.underlying22 hi0 hz0 hz1 hz2 rfl (by omega) (.slice A l.length c) l.length (l.map (Value.int .u8)) rfl ?o1 ⟨wr.heap.size, 0, none⟩ 1 1 [.int .u8 y] rfl rfl ?o2 ?o3 ?o4 ?o5 ?o6 ?_)
        case o1 => exact (HO.out.alloc _).2.2
        case o2 => exact lit_news (by simp [go_sem])
        case o3 => intro u hu; simp at hu; subst hu; rfl
        case o4 => unfold maxLen; omega
        case o5 => omega
        case o6 => simp; omega
        intro v2 w2 hown2 hgr2 _
        obtain ⟨A4, c4, rfl, hI4⟩ := OwnB.of_append (bs := l) rfl HO.out.2.1 hy0 hown2
        have hb2 : Below w.heap.size w w2 := (hbr.alloc hsr _).grown hgr2 (by simp; omega) (fun q hq => (HO.out.lt q hq).1)
        have hs2 : w.heap.size ≤ w2.heap.size := by have := hgr2.size; simp at this; omega
        have HI4 := Lib.hid hI4
        clear hown2 hgr2 hI4
        go_wp2
        go_roundw
        case rel =>
          have he : (l ++ [y]).length = l.length + 1 := by simp
          exact ⟨m / 128, l ++ [y], A4, c4, by omega, by go_num, by rw [he], HD2, by rw [he]; omega, by rw [he]; exact HI4.out, hb2, hs2⟩
        case measure => simp [RowKit.intOf]; omega
      · have hd : decide ((128 : Int) ≤ (m : Int)) = false := by simp; omega
        have hy0 : 0 ≤ (m : Int) ∧ (m : Int) < 256 := by omega
        have hwy : IntKind.u8.wrap (m : Int) = (m : Int) := by rw [IntKind.wrap_u8]; omega
        have HD2 : Hid (putN M = l ++ [(m : Int)]) := by show _ = _; rw [HD.out, putN_lo (by omega)]
        go_wp2_with (at_builtin; refine wpList_append_own _ rfl (.tmp 19) (.tmp 22) _ rfl w.heap.size 5 i0 _ 1 1 Tryz.underlying22 hi0 hz0 hz1 hz2 rfl (by omega) (.slice A l.length c) l.length (l.map (Value.int .u8)) rfl ?o1 ⟨wr.heap.size, 0, none⟩ 1 1 [.int .u8 (m : Int)] rfl rfl ?o2 ?o3 ?o4 ?o5 ?o6 ?_)
        case o1 => exact (HO.out.alloc _).2.2
        case o2 => exact lit_news (by simp [go_sem])
        case o3 => intro u hu; simp at hu; subst hu; rfl
        case o4 => unfold maxLen; omega
        case o5 => omega
        case o6 => simp; omega
        intro v2 w2 hown2 hgr2 _
        obtain ⟨A4, c4, rfl, hI4⟩ := OwnB.of_append (bs := l) rfl HO.out.2.1 hy0 hown2
        have hb2 : Below w.heap.size w w2 := (hbr.alloc hsr _).grown hgr2 (by simp; omega) (fun q hq => (HO.out.lt q hq).1)
        have HI4 := Lib.hid hI4
        clear hown2 hgr2 hI4
        go_wp2
        go_ret
        refine ⟨_, _, _, rfl, ?_, hb2⟩
        rw [HV.out, Int.toNat_natCast, HD2.out]
        exact HI4.out
set_option maxHeartbeats 1600000 in
theorem specPutNum_any (x : Int) (w : World) :
    Calls Tryz.prog 169 #[.int .i64 x] w (AnsB w (putV x)) := by
  obtain ⟨i0, hi0, hz0, hz1, hz2⟩ := info_parts infoByte
  cases hx : numB x
  · have HV := Lib.hid (putV_f hx)
    go_enter Tryz.func169, Tryz.ntmps169
    go_wp2_with (go_at_call 175; refine (l03Number_any _ _).mono ?_; rintro e w' ⟨rfl, rfl⟩)
    go_ret
    exact ⟨_, _, _, rfl, by rw [HV.out]; exact own_nil _ _, below_a1 _ _⟩
  · have HV := Lib.hid (putV_t hx)
    have hb := num_t hx
    obtain ⟨M, rfl⟩ : ∃ M : Nat, x = (M : Int) := ⟨x.toNat, by omega⟩
    have HT := Lib.hid (putN_len6 hb.2)
    go_enter Tryz.func169, Tryz.ntmps169
    go_wp2_with (go_at_call 175; refine (l03Number_any _ _).mono ?_; rintro e w' ⟨rfl, rfl⟩)
    go_loopw [0, 3] (fun x o wr => ∃ (m : Nat) (l : List Int) (A : Option Addr) (c : Nat), (m : Int) ≤ 1099511627775 ∧ x = .int .i64 m ∧ o = .slice A l.length c ∧ Hid (putN M = l ++ putN m) ∧ l.length ≤ 6 ∧ Hid (OwnB wr w.heap.size A l.length c l) ∧ Below w.heap.size w wr ∧ w.heap.size ≤ wr.heap.size) (fun x _ _ => (RowKit.intOf x).toNat)
    case atStart => exact ⟨M, [], _, _, by omega, rfl, rfl, by show _ = _; simp, by simp, own_empty w, below_a1 _ _, by simp⟩
    case round =>
      obtain ⟨m, l, A, c, hm, rfl, rfl, HD, hl6, HO, hbr, hsr⟩ := hrel
      by_cases hge : 128 ≤ m
      · have hd : decide ((128 : Int) ≤ (m : Int)) = true := by simp; omega
        obtain ⟨y, hy⟩ : ∃ y : Int, y = (m : Int) % 128 + 128 := ⟨_, rfl⟩
        have hy0 : 0 ≤ y ∧ y < 256 := by omega
        have hwy : IntKind.u8.wrap (128 + (m : Int) % 128) = y := by rw [IntKind.wrap_u8]; omega
        have HD2 : Hid (putN M = (l ++ [y]) ++ putN (m / 128)) := by show _ = _; rw [HD.out, putN_hi hge, hy]; simp
        have hl7 : l.length + 1 ≤ 6 := by
          have h1 := congrArg List.length HD2.out
          have h2 := putN_pos (m / 128)
          have h3 := HT.out
          simp only [List.length_append, List.length_cons, List.length_nil] at h1
          omega
        clear hy
        go_wp2_with (at_builtin; refine wpList_append_own _ rfl (.tmp 10) (.tmp 15) _ rfl w.heap.size 5 i0 _ 1 1 Tryz.underlying22 hi0 hz0 hz1 hz2 rfl (by omega) (.slice A l.length c) l.length (l.map (Value.int .u8)) rfl ?o1 ⟨wr.heap.size, 0, none⟩ 1 1 [.int .u8 y] rfl rfl ?o2 ?o3 ?o4 ?o5 ?o6 ?_)
        case o1 => exact (HO.out.alloc _).2.2
        case o2 => exact lit_news (by simp [go_sem])
        case o3 => intro u hu; simp at hu; subst hu; rfl
        case o4 => unfold maxLen; omega
        case o5 => omega
        case o6 => simp; omega
        intro v2 w2 hown2 hgr2 _
        obtain ⟨A4, c4, rfl, hI4⟩ := OwnB.of_append (bs := l) rfl HO.out.2.1 hy0 hown2
        have hb2 : Below w.heap.size w w2 := (hbr.alloc hsr _).grown hgr2 (by simp; omega) (fun q hq => (HO.out.lt q hq).1)
        have hs2 : w.heap.size ≤ w2.heap.size := by have := hgr2.size; simp at this; omega
        have HI4 := Lib.hid hI4
        clear hown2 hgr2 hI4
        go_wp2
        go_roundw
        case rel =>
          have he : (l ++ [y]).length = l.length + 1 := by simp
          exact ⟨m / 128, l ++ [y], A4, c4, by omega, by go_num, by rw [he], HD2, by rw [he]; omega, by rw [he]; exact HI4.out, hb2, hs2⟩
        case measure => simp [RowKit.intOf]; omega
      · have hd : decide ((128 : Int) ≤ (m : Int)) = false := by simp; omega
        have hy0 : 0 ≤ (m : Int) ∧ (m : Int) < 256 := by omega
        have hwy : IntKind.u8.wrap (m : Int) = (m : Int) := by rw [IntKind.wrap_u8]; omega
        have HD2 : Hid (putN M = l ++ [(m : Int)]) := by show _ = _; rw [HD.out, putN_lo (by omega)]
        go_wp2_with (at_builtin; refine wpList_append_own _ rfl (.tmp 19) (.tmp 22) _ rfl w.heap.size 5 i0 _ 1 1 Tryz.underlying22 hi0 hz0 hz1 hz2 rfl (by omega) (.slice A l.length c) l.length (l.map (Value.int .u8)) rfl ?o1 ⟨wr.heap.size, 0, none⟩ 1 1 [.int .u8 (m : Int)] rfl rfl ?o2 ?o3 ?o4 ?o5 ?o6 ?_)
        case o1 => exact (HO.out.alloc _).2.2
        case o2 => exact lit_news (by simp [go_sem])
        case o3 => intro u hu; simp at hu; subst hu; rfl
        case o4 => unfold maxLen; omega
        case o5 => omega
        case o6 => simp; omega
        intro v2 w2 hown2 hgr2 _
        obtain ⟨A4, c4, rfl, hI4⟩ := OwnB.of_append (bs := l) rfl HO.out.2.1 hy0 hown2
        have hb2 : Below w.heap.size w w2 := (hbr.alloc hsr _).grown hgr2 (by simp; omega) (fun q hq => (HO.out.lt q hq).1)
        have HI4 := Lib.hid hI4
        clear hown2 hgr2 hI4
        go_wp2
        go_ret
        refine ⟨_, _, _, rfl, ?_, hb2⟩
        rw [HV.out, Int.toNat_natCast, HD2.out]
        exact HI4.out
end Go.Proofs.YtklgjjmcflgjeaaGreatDoor.Bytes
namespace Go.Proofs.YtklgjjmcflgjeaaGreatDoor.Rd
open Go.ChangeShapes Go.WideShapes Go.ChangeAt Go.RowKit
open Ints (below_drewN)
open Bytes (IsBytes numB num_t num_f num_of l03Number_any)
open Rec (grown_set below_a1)
def takeX (bs : List Int) (a : Int) : Int := if 0 ≤ a ∧ a ≤ bs.length then (match numR bs a.toNat with | .ok x _ => x | _ => 0) else 0
def takeP (bs : List Int) (a : Int) : Int := if 0 ≤ a ∧ a ≤ bs.length then (match numR bs a.toNat with | .ok _ q => (q : Int) | _ => -1) else -1
theorem take_out {bs : List Int} {a : Int} (h : a < 0 ∨ bs.length < a) : takeX bs a = 0 ∧ takeP bs a = -1 := by
  unfold takeX takeP
  rw [if_neg (by omega), if_neg (by omega)]
  exact ⟨rfl, rfl⟩
theorem take_ok {bs : List Int} {p q : Nat} {x : Int} (h : p ≤ bs.length) (hr : numR bs p = .ok x q) : takeX bs p = x ∧ takeP bs p = q := by
  unfold takeX takeP
  rw [if_pos (by omega), if_pos (by omega), Int.toNat_natCast, hr]
  exact ⟨rfl, rfl⟩
theorem take_torn {bs : List Int} {p : Nat} (h : p ≤ bs.length) (hr : numR bs p = .torn) : takeX bs p = 0 ∧ takeP bs p = -1 := by
  unfold takeX takeP
  rw [if_pos (by omega), if_pos (by omega), Int.toNat_natCast, hr]
  exact ⟨rfl, rfl⟩
theorem take_bent {bs : List Int} {p : Nat} (h : p ≤ bs.length) (hr : numR bs p = .bent) : takeX bs p = 0 ∧ takeP bs p = -1 := by
  unfold takeX takeP
  rw [if_pos (by omega), if_pos (by omega), Int.toNat_natCast, hr]
  exact ⟨rfl, rfl⟩
theorem shl_val (z d : Int) (k : Nat) (hk : k < 6) (hz : 0 ≤ z ∧ z < 256) (hd : d = z % 128 * 128 ^ k) : wrap64 (z % 128 * 2 ^ (7 * k)) = d := by
  have h6 : k = 0 ∨ k = 1 ∨ k = 2 ∨ k = 3 ∨ k = 4 ∨ k = 5 := by omega
  rcases h6 with rfl | rfl | rfl | rfl | rfl | rfl <;> simp [wrap64, hd] <;> omega
set_option maxHeartbeats 3200000 in
theorem specTakeNum_any (A : Option Addr) (n c : Nat) (a : Int) (bs : List Int) (B : Nat) (w : World) (hr : IsBytes w B A n bs) (hn : n ≤ 1048576) :
    Calls Tryz.prog 209 #[.slice A n c, .int .i64 a] w fun e w' => e = .returned (.tuple #[.int .i64 (takeX bs a), .int .i64 (takeP bs a)]) ∧ w = w' := by
  have HL : Hid (bs.length = n) := hr.1
  have HB := Lib.hid hr
  clear hr
  by_cases hin : 0 ≤ a ∧ a ≤ n
  · obtain ⟨p, rfl⟩ : ∃ p : Nat, a = (p : Int) := ⟨a.toNat, by omega⟩
    have hp : p ≤ n := by omega
    have hpl : p ≤ bs.length := by rw [HL.out]; exact hp
    have hd0 : decide ((p : Int) < 0) = false := by simp
    go_enter Tryz.func209, Tryz.ntmps209
    go_wp2_with fail
    go_loop [6, 7] (fun b i => ∃ (k : Nat) (x u : Int), k ≤ 6 ∧ p + k ≤ n ∧ b = .int .i64 x ∧ i = .int .i64 k ∧ 0 ≤ x ∧ x < u ∧ Hid (u = 128 ^ k) ∧ Hid (numR bs p = numG bs (6 - k) (p + k) k x u)) (fun _ i => 6 - (RowKit.intOf i).toNat)
    case atStart => exact ⟨0, 0, 1, by omega, by omega, rfl, rfl, by omega, by omega, rfl, rfl⟩
    case round =>
      obtain ⟨k, x, u, hk, hpk, rfl, rfl, hx0, hxu, HU, HV⟩ := hrel
      by_cases hk6 : k < 6
      · have hd6 : decide ((k : Int) < 6) = true := by simp; omega
        obtain ⟨k', hk'⟩ : ∃ k', 6 - k = k' + 1 := ⟨5 - k, by omega⟩
        have HK := Lib.hid hk'
        clear hk'
        have hu1 : 1 ≤ u ∧ u ≤ 34359738368 := by rw [HU.out]; exact pow5 k hk6
        by_cases hq : p + k < n
        · have hdq : decide ((n : Int) - (k : Int) ≤ (p : Int)) = false := by simp; omega
          have hql : p + k < bs.length := by rw [HL.out]; exact hq
          obtain ⟨b, off, z, rfl, hbB, hz, hc, hz0, hz1⟩ := HB.out.at_ hq
          obtain ⟨d, hd⟩ : ∃ d, d = z % 128 * u := ⟨_, rfl⟩
          have hdb : 0 ≤ d ∧ d ≤ 127 * u := by rw [hd]; exact mul_bd z u hz0 hu1.1
          have hsh := shl_val z d k hk6 ⟨hz0, hz1⟩ (by rw [hd, HU.out])
          have HZ := Lib.hid hz
          have HD := Lib.hid hd
          clear hz hd
          by_cases h128 : 128 ≤ z
          · have hdz : decide (z < 128) = false := by simp; omega
            have HV2 : Hid (numR bs p = numG bs (6 - (k + 1)) (p + (k + 1)) (k + 1) (x + d) (u * 128)) := by
              show _ = _
              rw [HV.out, HK.out, numG_on hql (by rw [← HZ.out]; exact h128), ← HZ.out, ← HD.out, show 6 - (k + 1) = k' by have := HK.out; omega, Nat.add_assoc]
            have HU2 : Hid (u * 128 = 128 ^ (k + 1)) := by show _ = _; rw [HU.out, Int.pow_succ]
            go_wp2
            go_round
            case rel => exact ⟨k + 1, x + d, u * 128, by omega, by omega, by go_num, by go_num, by omega, by omega, HU2, HV2⟩
            case measure => simp [RowKit.intOf]; omega
          · have hdz : decide (z < 128) = true := by simp; omega
            by_cases hbad : (z = 0 ∧ 0 < k) ∨ 1099511627775 < x + d
            · have HV2 : Hid (numR bs p = .bent) := by
                show _ = _
                rw [HV.out, HK.out, numG_bent hql (by rw [← HZ.out]; omega) (by rw [← HZ.out, ← HD.out]; exact hbad)]
              obtain ⟨e1, e2⟩ := take_bent hpl HV2.out
              have X1 := Lib.hid e1
              have X2 := Lib.hid e2
              clear e1 e2
              by_cases hz3 : z = 0 ∧ 0 < k
              · have hz4 : (z == 0) = true := by simp [hz3.1]
                have hz5 : decide ((0 : Int) < (k : Int)) = true := by simp; omega
                have hz6 : decide (0 < k) = true := by simp; omega
                clear hbad hz3
                go_wp2_with (go_at_call 175; refine (l03Number_any _ _).mono ?_; rintro e w' ⟨rfl, rfl⟩)
                go_ret2
                exact ⟨by rw [X1.out, X2.out]; rfl, rfl⟩
              · have hnb : numB (x + d) = false := by simp [numB, Go.Proofs.YtklgjjmcflgjeaaGreatDoor.Tick.inB]; omega
                by_cases hz7 : z = 0
                · have hz4 : (z == 0) = true := by simp [hz7]
                  have hz5 : decide ((0 : Int) < (k : Int)) = false := by simp; omega
                  have hz6 : decide (0 < k) = false := by simp; omega
                  clear hbad hz3 hz7
                  go_wp2_with (go_at_call 175; refine (l03Number_any _ _).mono ?_; rintro e w' ⟨rfl, rfl⟩)
                  go_ret2
                  exact ⟨by rw [X1.out, X2.out]; rfl, rfl⟩
                · have hz4 : (z == 0) = false := by simp [hz7]
                  clear hbad hz3 hz7
                  go_wp2_with (go_at_call 175; refine (l03Number_any _ _).mono ?_; rintro e w' ⟨rfl, rfl⟩)
                  go_ret2
                  exact ⟨by rw [X1.out, X2.out]; rfl, rfl⟩
            · have HV2 : Hid (numR bs p = .ok (x + d) (p + k + 1)) := by
                show _ = _
                rw [HV.out, HK.out, numG_ok hql (by rw [← HZ.out]; omega) (by rw [← HZ.out, ← HD.out]; exact hbad), ← HZ.out, ← HD.out]
              obtain ⟨e1, e2⟩ := take_ok hpl HV2.out
              have X1 := Lib.hid e1
              have X2 := Lib.hid e2
              clear e1 e2
              have hnb : numB (x + d) = true := num_of (by omega) (by omega)
              by_cases hz7 : z = 0
              · have hz4 : (z == 0) = true := by simp [hz7]
                have hz5 : decide ((0 : Int) < (k : Int)) = false := by simp; omega
                have hz6 : decide (0 < k) = false := by simp; omega
                clear hbad hz7
                go_wp2_with (go_at_call 175; refine (l03Number_any _ _).mono ?_; rintro e w' ⟨rfl, rfl⟩)
                go_ret2
                exact ⟨by rw [X1.out, X2.out, show ((p + k + 1 : Nat) : Int) = (p : Int) + (k : Int) + 1 by omega]; rfl, rfl⟩
              · have hz4 : (z == 0) = false := by simp [hz7]
                clear hbad hz7
                go_wp2_with (go_at_call 175; refine (l03Number_any _ _).mono ?_; rintro e w' ⟨rfl, rfl⟩)
                go_ret2
                exact ⟨by rw [X1.out, X2.out, show ((p + k + 1 : Nat) : Int) = (p : Int) + (k : Int) + 1 by omega]; rfl, rfl⟩
        · have hdq : decide ((n : Int) - (k : Int) ≤ (p : Int)) = true := by simp; omega
          have HV2 : Hid (numR bs p = .torn) := by
            show _ = _
            rw [HV.out, HK.out, numG_torn (by rw [HL.out]; omega)]
          obtain ⟨e1, e2⟩ := take_torn hpl HV2.out
          have X1 := Lib.hid e1
          have X2 := Lib.hid e2
          clear e1 e2
          go_wp2
          go_ret2
          exact ⟨by rw [X1.out, X2.out]; rfl, rfl⟩
      · have hd6 : decide ((k : Int) < 6) = false := by simp; omega
        have HV2 : Hid (numR bs p = .bent) := by
          show _ = _
          rw [HV.out, show 6 - k = 0 by omega]
          rfl
        obtain ⟨e1, e2⟩ := take_bent hpl HV2.out
        have X1 := Lib.hid e1
        have X2 := Lib.hid e2
        clear e1 e2
        go_wp2
        go_ret2
        exact ⟨by rw [X1.out, X2.out]; rfl, rfl⟩
  · obtain ⟨e1, e2⟩ := take_out (bs := bs) (a := a) (by rw [HL.out]; omega)
    have X1 := Lib.hid e1
    have X2 := Lib.hid e2
    clear e1 e2
    have hout : a < 0 ∨ (n : Int) < a := by omega
    go_enter Tryz.func209, Tryz.ntmps209
    go_wp2_with fail
    go_loop [6, 7] (fun b i => b = .int .i64 (0 : Int) ∧ i = .int .i64 (0 : Int)) (fun _ i => 0)
    case atStart => exact ⟨rfl, rfl⟩
    case round =>
      obtain ⟨rfl, rfl⟩ := hrel
      by_cases h0 : a < 0
      · have hd0 : decide (a < 0) = true := by simp [h0]
        go_wp2
        go_ret2
        exact ⟨by rw [X1.out, X2.out]; rfl, rfl⟩
      · have hd0 : decide (a < 0) = false := by simp; omega
        have hd1 : decide ((n : Int) ≤ a) = true := by simp; omega
        go_wp2
        go_ret2
        exact ⟨by rw [X1.out, X2.out]; rfl, rfl⟩
end Go.Proofs.YtklgjjmcflgjeaaGreatDoor.Rd
namespace Go.Proofs.YtklgjjmcflgjeaaGreatDoor.Rec
open Go.ChangeShapes Go.WideShapes Go.ChangeAt Go.RowKit
open Ints Has
open Tick (inB in_t in_f l01In_any)
open Bytes (numB num_t num_f)
def recB (kd : Int) (zs : List Int) : Bool := inB kd 0 99 && decide (zs.length ≤ 12) && zs.all numB
theorem rec_1 {kd : Int} {zs : List Int} (h : inB kd 0 99 = false) : recB kd zs = false := by simp [recB, h]
theorem rec_2 {kd : Int} {zs : List Int} (h : 12 < zs.length) : recB kd zs = false := by simp [recB]; intro _ h2; omega
theorem rec_3 {kd : Int} {zs : List Int} (j : Nat) (h : j < zs.length) (h2 : numB (zs.getD j 0) = false) : recB kd zs = false := by
  have h3 : zs.all numB = false := by
    rw [List.all_eq_false]
    exact ⟨zs[j], List.getElem_mem h, by simpa [List.getD, h] using h2⟩
  simp [recB, h3]
theorem rec_4 {kd : Int} {zs : List Int} (h : inB kd 0 99 = true) (h1 : zs.length ≤ 12) (h2 : ∀ j, j < zs.length → numB (zs.getD j 0) = true) : recB kd zs = true := by
  have h3 : zs.all numB = true := by
    rw [List.all_eq_true]
    intro x hx
    obtain ⟨j, hj, rfl⟩ := List.mem_iff_getElem.mp hx
    simpa [List.getD, hj] using h2 j hj
  simp [recB, h, h1, h3]
theorem rec_t {kd : Int} {zs : List Int} (h : recB kd zs = true) : (0 ≤ kd ∧ kd ≤ 99) ∧ zs.length ≤ 12 ∧ ∀ x ∈ zs, numB x = true := by
  simp only [recB, Bool.and_eq_true, decide_eq_true_eq, List.all_eq_true] at h
  exact ⟨in_t h.1.1, h.1.2, h.2⟩
set_option maxHeartbeats 1600000 in
theorem recordOk_any (kd : Int) (A : Option Addr) (n c : Nat) (zs : List Int) (B : Nat) (w : World) (hr : IsInts w B A n zs) (hB : B ≤ w.heap.size) (hn : n ≤ 1048576) :
    Calls Tryz.prog 141 #[.agg #[.int .i64 kd, .slice A n c]] w fun e w' => e = .returned (.bool (recB kd zs)) ∧ Below w.heap.size w w' := by
  have HL : Hid (zs.length = n) := hr.1
  have HR := Lib.hid (hr.below (below_a1 w (.cells #[.int .i64 kd, .slice A n c] 116)) hB)
  clear hr
  by_cases h0 : kd < 0
  · have HV : Hid (recB kd zs = false) := rec_1 (by simp [inB]; omega)
    have hd0 : decide (kd < 0) = true := by simp [h0]
    go_enter Tryz.func141, Tryz.ntmps141
    go_wp2
    go_ret
    exact ⟨by rw [HV.out]; rfl, below_a1 _ _⟩
  · have hd0 : decide (kd < 0) = false := by simp; omega
    by_cases h1 : 99 < kd
    · have HV : Hid (recB kd zs = false) := rec_1 (by simp [inB]; omega)
      have hd1 : decide (99 < kd) = true := by simp [h1]
      go_enter Tryz.func141, Tryz.ntmps141
      go_wp2
      go_ret
      exact ⟨by rw [HV.out]; rfl, below_a1 _ _⟩
    · have hd1 : decide (99 < kd) = false := by simp; omega
      by_cases h2 : 12 < n
      · have HV : Hid (recB kd zs = false) := rec_2 (by rw [HL.out]; exact h2)
        have hd2 : decide ((12 : Int) < n) = true := by simp; omega
        go_enter Tryz.func141, Tryz.ntmps141
        go_wp2
        go_ret
        exact ⟨by rw [HV.out]; rfl, below_a1 _ _⟩
      · have hd2 : decide ((12 : Int) < n) = false := by simp; omega
        have HK : Hid (inB kd 0 99 = true) := by show _ = _; simp [inB]; omega
        go_enter Tryz.func141, Tryz.ntmps141
        go_wp2_with fail
        go_loop [22] (fun i => ∃ k : Nat, k ≤ n ∧ i = .int .i64 k ∧ Hid (∀ j, j < k → numB (zs.getD j 0) = true)) (fun i => n - (RowKit.intOf i).toNat)
        case atStart => exact ⟨0, Nat.zero_le _, rfl, fun j hj => absurd hj (by omega)⟩
        case round =>
          obtain ⟨k, hk, rfl, HF⟩ := hrel
          by_cases hlt : k < n
          · obtain ⟨b, off, z, rfl, hbB, hz, hc⟩ := HR.out.at_ hlt
            cases hnz : numB z
            · have HV : Hid (recB kd zs = false) := rec_3 k (by rw [HL.out]; exact hlt) (by rw [← hz]; exact hnz)
              clear hz
              go_wp2_with (go_at_call 93; refine (Bytes.numberOk_any _ _).mono ?_; rintro e w' ⟨rfl, rfl⟩)
              go_ret
              exact ⟨by rw [HV.out]; rfl, below_a1 _ _⟩
            · have HF2 : Hid (∀ j, j < k + 1 → numB (zs.getD j 0) = true) := fun j hj => by
                by_cases h : j = k
                · subst h; rw [← hz]; exact hnz
                · exact HF.out j (by omega)
              clear hz
              go_wp2_with (go_at_call 93; refine (Bytes.numberOk_any _ _).mono ?_; rintro e w' ⟨rfl, rfl⟩)
              go_round
              case rel => exact ⟨k + 1, by omega, by go_num, HF2⟩
              case measure => simp [RowKit.intOf]; omega
          · have HV : Hid (recB kd zs = true) := rec_4 HK.out (by rw [HL.out]; omega) (fun j hj => HF.out j (by rw [HL.out] at hj; omega))
            go_wp2
            go_ret
            exact ⟨by rw [HV.out]; rfl, below_a1 _ _⟩
set_option maxHeartbeats 1600000 in
theorem specRecordOk_any (kd : Int) (A : Option Addr) (n c : Nat) (zs : List Int) (B : Nat) (w : World) (hr : IsInts w B A n zs) (hB : B ≤ w.heap.size) (hn : n ≤ 1048576) :
    Calls Tryz.prog 128 #[.agg #[.int .i64 kd, .slice A n c]] w fun e w' => e = .returned (.bool (recB kd zs)) ∧ Below w.heap.size w w' := by
  have HL : Hid (zs.length = n) := hr.1
  have HR := Lib.hid (hr.below (below_a1 w (.cells #[.int .i64 kd, .slice A n c] 116)) hB)
  clear hr
  cases h0 : inB kd 0 99
  · have HV : Hid (recB kd zs = false) := rec_1 h0
    go_enter Tryz.func128, Tryz.ntmps128
    go_wp2_with (go_at_call 37; refine (l01In_any _ _ _ _).mono ?_; rintro e w' ⟨rfl, rfl⟩)
    go_ret
    exact ⟨by rw [HV.out]; rfl, below_a1 _ _⟩
  · by_cases h2 : 12 < n
    · have HV : Hid (recB kd zs = false) := rec_2 (by rw [HL.out]; exact h2)
      have hd2 : decide ((12 : Int) < n) = true := by simp; omega
      go_enter Tryz.func128, Tryz.ntmps128
      go_wp2_with (go_at_call 37; refine (l01In_any _ _ _ _).mono ?_; rintro e w' ⟨rfl, rfl⟩)
      go_ret
      exact ⟨by rw [HV.out]; rfl, below_a1 _ _⟩
    · have hd2 : decide ((12 : Int) < n) = false := by simp; omega
      go_enter Tryz.func128, Tryz.ntmps128
      go_wp2_with (go_at_call 37; refine (l01In_any _ _ _ _).mono ?_; rintro e w' ⟨rfl, rfl⟩)
      have HK := Lib.hid h0
      clear h0
      go_loop [3] (fun i => ∃ k : Nat, k ≤ n ∧ i = .int .i64 k ∧ Hid (∀ j, j < k → numB (zs.getD j 0) = true)) (fun i => n - (RowKit.intOf i).toNat)
      case atStart => exact ⟨0, Nat.zero_le _, rfl, fun j hj => absurd hj (by omega)⟩
      case round =>
        obtain ⟨k, hk, rfl, HF⟩ := hrel
        by_cases hlt : k < n
        · obtain ⟨b, off, z, rfl, hbB, hz, hc⟩ := HR.out.at_ hlt
          cases hnz : numB z
          · have HV : Hid (recB kd zs = false) := rec_3 k (by rw [HL.out]; exact hlt) (by rw [← hz]; exact hnz)
            clear hz
            go_wp2_with (go_at_call 175; refine (Bytes.l03Number_any _ _).mono ?_; rintro e w' ⟨rfl, rfl⟩)
            go_ret
            exact ⟨by rw [HV.out]; rfl, below_a1 _ _⟩
          · have HF2 : Hid (∀ j, j < k + 1 → numB (zs.getD j 0) = true) := fun j hj => by
              by_cases h : j = k
              · subst h; rw [← hz]; exact hnz
              · exact HF.out j (by omega)
            clear hz
            go_wp2_with (go_at_call 175; refine (Bytes.l03Number_any _ _).mono ?_; rintro e w' ⟨rfl, rfl⟩)
            go_round
            case rel => exact ⟨k + 1, by omega, by go_num, HF2⟩
            case measure => simp [RowKit.intOf]; omega
        · have HV : Hid (recB kd zs = true) := rec_4 HK.out (by rw [HL.out]; omega) (fun j hj => HF.out j (by rw [HL.out] at hj; omega))
          go_wp2
          go_ret
          exact ⟨by rw [HV.out]; rfl, below_a1 _ _⟩
end Go.Proofs.YtklgjjmcflgjeaaGreatDoor.Rec
