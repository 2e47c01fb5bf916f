import Derived.Test.YtklgjjmcflgjeaaGreatDoorC04
import Derived.Test.YtklgjjmcflgjeaaGreatDoorC05
import Derived.Test.YtklgjjmcflgjeaaGreatDoorC06
set_option linter.unusedVariables false
set_option linter.unusedSimpArgs false
namespace Go.Proofs.YtklgjjmcflgjeaaGreatDoor.Rec
open Go.ChangeShapes Go.WideShapes Go.ChangeAt Go.RowKit
open Ints Has
open Bytes (IsBytes OwnB AnsB numB num_t putV putV_len putV_in putV_t putN_pos sumV sumV_in infoByte own_empty own_nil lit_news)
theorem ownB_base {w : World} {b b' : Nat} {A : Option Addr} {n c : Nat} {bs : List Int} (h : OwnB w b A n c bs) (hb : b' ≤ b) : OwnB w b' A n c bs := ⟨h.1, h.2.1, own_base h.2.2 hb⟩
theorem lit2_news (w : World) (x y : Value) (t : TypeId) : ∀ j u, [x, y][j]? = some u → (w.alloc (.cells #[x, y] t)).cell? ((⟨w.heap.size, 0, none⟩ : Addr).add j) = some u := by
  obtain ⟨h0, h1, _⟩ := blk2 (heap_alloc_new w (.cells #[x, y] t))
  intro j u hu
  match j, hu with
  | 0, hu => simp at hu; subst hu; rw [Addr.add_lit]; exact h0
  | 1, hu => simp at hu; subst hu; rw [Addr.add_lit]; exact h1
  | j + 2, hu => simp at hu
theorem ownB_news {w : World} {b g n c : Nat} {bs : List Int} (h : OwnB w b (some ⟨g, 0, none⟩) n c bs) : ∀ j u, (bs.map (Value.int .u8))[j]? = some u → w.cell? ((⟨g, 0, none⟩ : Addr).add j) = some u := by
  intro j u hu
  have hj : j < bs.length := by
    rcases Nat.lt_or_ge j bs.length with h2 | h2
    · exact h2
    · rw [List.getElem?_eq_none (by simpa using h2)] at hu; cases hu
  rw [Addr.add_lit, Nat.zero_add, h.2.2.cellAt j (by rw [Nat.mul_one, ← h.1]; exact hj)]
  exact hu
theorem ownB_appends {w' : World} {base n m : Nat} {v' : Value} {bs ys : List Int} (hl : bs.length = n) (hm : ys.length = m) (hp : 0 < n + m) (hbs : ∀ y ∈ bs, 0 ≤ y ∧ y < 256) (hys : ∀ y ∈ ys, 0 ≤ y ∧ y < 256) (h : w'.ownsRow base 5 1 v' (n + m) (bs.map (Value.int .u8) ++ ys.map (Value.int .u8))) : ∃ A c, v' = .slice A (n + m) c ∧ OwnB w' base A (n + m) c (bs ++ ys) := by
  obtain ⟨g, cap, rfl, _⟩ := h.form hp
  refine ⟨_, _, rfl, by simp [hl, hm], ?_, by simpa using h⟩
  intro y hy
  rcases List.mem_append.mp hy with hy | hy
  · exact hbs y hy
  · exact hys y hy
def bodyV (kd : Int) (zs : List Int) : List Int := kd :: (zs.length : Int) :: zs.flatMap putV
def frameT (kd : Int) (zs : List Int) : List Int := bodyV kd zs ++ [sumV (bodyV kd zs) / 256, sumV (bodyV kd zs) % 256]
def frameV (kd : Int) (zs : List Int) : List Int := if recB kd zs then frameT kd zs else []
theorem frame_t {kd : Int} {zs : List Int} (h : recB kd zs = true) : frameV kd zs = frameT kd zs := by simp [frameV, h]
theorem frame_f {kd : Int} {zs : List Int} (h : recB kd zs = false) : frameV kd zs = [] := by simp [frameV, h]
theorem flat_len (zs : List Int) : (zs.flatMap putV).length ≤ 6 * zs.length := by
  induction zs with
  | nil => simp
  | cons x l ih => have := putV_len x; simp only [List.flatMap_cons, List.length_append, List.length_cons]; omega
theorem frame_len (kd : Int) (zs : List Int) : (frameV kd zs).length ≤ 76 := by
  cases h : recB kd zs
  · rw [frame_f h]; simp
  · rw [frame_t h]
    have h1 := (rec_t h).2.1
    have h2 := flat_len zs
    simp only [frameT, bodyV, List.length_append, List.length_cons, List.length_nil]
    omega
theorem flat_snoc (zs : List Int) (k : Nat) (h : k < zs.length) : (zs.take (k + 1)).flatMap putV = (zs.take k).flatMap putV ++ putV (zs.getD k 0) := by
  rw [List.take_succ_eq_append_getElem h, List.flatMap_append]
  simp [List.getD, h]
theorem flat_in (zs : List Int) : ∀ y ∈ zs.flatMap putV, 0 ≤ y ∧ y < 256 := by
  intro y hy
  obtain ⟨x, _, hx⟩ := List.mem_flatMap.mp hy
  exact putV_in x y hx
theorem frame_in {kd : Int} {zs : List Int} : ∀ y ∈ frameV kd zs, 0 ≤ y ∧ y < 256 := by
  cases h : recB kd zs
  · rw [frame_f h]; simp
  · rw [frame_t h]
    have h1 := rec_t h
    have h2 := sumV_in (bodyV kd zs)
    intro y hy
    rcases List.mem_append.mp hy with hy | hy
    · rcases List.mem_cons.mp hy with hy | hy
      · omega
      · rcases List.mem_cons.mp hy with hy | hy
        · omega
        · exact flat_in zs y hy
    · simp only [List.mem_cons, List.not_mem_nil, or_false] at hy
      omega
theorem putV_pos {x : Int} (h : numB x = true) : 0 < (putV x).length := by rw [putV_t h]; exact putN_pos _
set_option maxHeartbeats 3200000 in
theorem frameRecord_any (kd : Int) (A : Option Addr) (n c : Nat) (zs : List Int) (B : Nat) (w : World) (hr : IsInts w B A n zs) (hB : B ≤ w.heap.size) (hn : n ≤ 1048576) :
    Calls Tryz.prog 142 #[.agg #[.int .i64 kd, .slice A n c]] w (AnsB w (frameV kd zs)) := by
  obtain ⟨i0, hi0, hz0, hz1, hz2⟩ := info_parts infoByte
  have HL : Hid (zs.length = n) := hr.1
  have HR := Lib.hid (hr.below (below_a1 w (.cells #[.int .i64 kd, .slice A n c] 116)) hB)
  obtain ⟨b0, b1, _, _⟩ := blk2 (heap_alloc_new w (.cells #[.int .i64 kd, .slice A n c] 116))
  clear hr
  cases hx : recB kd zs
  · have HV := Lib.hid (frame_f hx)
    go_enter Tryz.func142, Tryz.ntmps142
    go_wp2_with fail
    refine (recordOk_any kd A n c zs B _ HR.out (by simp; omega) hn).mono ?_
    rintro e w1 ⟨rfl, hb1⟩
    rw [hx]
    go_wp2
    go_ret
    exact ⟨_, _, _, rfl, by rw [HV.out]; exact own_nil _ _, below_alloc1 hb1⟩
  · have HV := Lib.hid (frame_t hx)
    have hrt := rec_t hx
    have hn12 : n ≤ 12 := by rw [← HL.out]; exact hrt.2.1
    have hk0 : 0 ≤ kd ∧ kd < 256 := by omega
    have hwk : IntKind.u8.wrap kd = kd := by rw [IntKind.wrap_u8]; omega
    have hwn : IntKind.u8.wrap (n : Int) = (n : Int) := by rw [IntKind.wrap_u8]; omega
    have HNM := Lib.hid hrt.2.2
    clear hrt
    go_enter Tryz.func142, Tryz.ntmps142
    go_wp2_with fail
    refine (recordOk_any kd A n c zs B _ HR.out (by simp; omega) hn).mono ?_
    rintro e w1 ⟨rfl, hb1⟩
    rw [hx]
    obtain ⟨w0, hw0⟩ : ∃ w0, w0 = w.alloc (.cells #[.int .i64 kd, .slice A n c] 116) := ⟨_, rfl⟩
    rw [← hw0] at hb1 HR b0 b1
    have hs0 : w0.heap.size = w.heap.size + 1 := by rw [hw0]; simp
    have hbw : Below w.heap.size w w0 := by rw [hw0]; exact below_a1 _ _
    rw [hs0] at hb1
    have HS0 := Lib.hid hs0
    clear hw0 hs0
    have c0 : w1.cell? ⟨w.heap.size, 0, none⟩ = some (.int .i64 kd) := (hb1.cell (p := ⟨w.heap.size, 0, none⟩) (by show w.heap.size < _; omega)).trans b0
    have c1 : w1.cell? ⟨w.heap.size, 1, none⟩ = some (.slice A n c) := (hb1.cell (p := ⟨w.heap.size, 1, none⟩) (by show w.heap.size < _; omega)).trans b1
    have hs1 : w.heap.size + 1 ≤ w1.heap.size := by have := hb1.size; rw [HS0.out] at this; exact this
    have hs1' : w.heap.size < w1.heap.size := hs1
    clear b0 b1
    go_wp2_with fail
    go_loopw [3, 21] (fun o i wr => ∃ (k : Nat) (l : List Int) (A3 : Option Addr) (c3 : Nat), k ≤ n ∧ i = .int .i64 k ∧ o = .slice A3 l.length c3 ∧ Hid (l = kd :: (n : Int) :: (zs.take k).flatMap putV) ∧ l.length ≤ 2 + 6 * k ∧ Hid (OwnB wr (w.heap.size + 1) A3 l.length c3 l) ∧ Below (w.heap.size + 1) w0 wr ∧ w.heap.size + 1 ≤ wr.heap.size) (fun _ i _ => n - (RowKit.intOf i).toNat)
    case atStart =>
      refine ⟨0, [kd, (n : Int)], some ⟨w1.heap.size, 0, none⟩, 2, Nat.zero_le _, rfl, rfl, by show _ = _; simp, by simp, ⟨rfl, ?_, ?_⟩, hb1.alloc hs1 _, by simp; omega⟩
      · intro y hy
        simp only [List.mem_cons, List.not_mem_nil, or_false] at hy
        omega
      · exact own_base (World.ownsRow_lit w1 #[.int .u8 kd, .int .u8 (n : Int)] 2 (Nat.le_refl _) (by unfold maxLen; omega) rfl) hs1
    case round =>
      obtain ⟨k, l, A3, c3, hk, rfl, rfl, HD, hl, HO, hbr, hsr⟩ := hrel
      by_cases hlt : k < n
      · obtain ⟨b, off, z, rfl, hbB, hz, hc⟩ := (HR.out.below hbr (by omega)).at_ hlt
        have hkl : k < zs.length := by rw [HL.out]; exact hlt
        have hnz : numB z = true := HNM.out z (by rw [hz]; simp [List.getD, hkl])
        have hmp := putV_pos hnz
        have hml := putV_len z
        have HMI := Lib.hid (putV_in z)
        have HD2 : Hid (l ++ putV z = kd :: (n : Int) :: (zs.take (k + 1)).flatMap putV) := by show _ = _; rw [HD.out, flat_snoc zs k hkl, ← hz]; simp
        clear hz hnz
        generalize hys : putV z = ys at hmp hml HMI HD2
        have HYS := Lib.hid hys
        clear hys
        go_wp2_with fail
        refine (Bytes.putNum_any z wr).mono ?_
        rintro e w2 ⟨A2, m, c2, rfl, h2, hb2⟩
        rw [HYS.out] at h2
        have HM : Hid (ys.length = m) := h2.1
        obtain ⟨g2, cap2, hv2, _, _⟩ := h2.2.2.form (by rw [← h2.1]; exact hmp)
        obtain rfl : A2 = some ⟨g2, 0, none⟩ := by injection hv2
        have H2 := Lib.hid h2
        have hm0 : 0 < m := by rw [← HM.out]; exact hmp
        have hm6 : m ≤ 6 := by rw [← HM.out]; exact hml
        have HO2 := Lib.hid (HO.out.below hb2)
        have hs2 : w.heap.size + 1 ≤ w2.heap.size := Nat.le_trans hsr hb2.size
        have hbr2 : Below (w.heap.size + 1) w0 w2 := hbr.trans (hb2.mono hsr)
        clear h2 hv2 hb2
        go_wp2_with (at_builtin; refine wpList_append_own _ rfl (.tmp 25) (.tmp 27) _ rfl (w.heap.size + 1) 5 i0 _ 1 1 Tryz.underlying22 hi0 hz0 hz1 hz2 rfl (by omega) (.slice A3 l.length c3) l.length (l.map (Value.int .u8)) rfl ?o1 ⟨g2, 0, none⟩ m c2 (ys.map (Value.int .u8)) rfl ?o0 ?o2 ?o3 ?o4 ?o5 ?o6 ?_)
        case o1 => exact HO2.out.2.2
        case o0 => rw [List.length_map, HM.out, Nat.mul_one]
        case o2 => exact ownB_news H2.out
        case o3 => intro u hu; obtain ⟨q, _, rfl⟩ := List.mem_map.mp hu; rfl
        case o4 => unfold maxLen; omega
        case o5 => omega
        case o6 => exact hs2
        intro v2 w3 hown3 hgr3 _
        obtain ⟨A4, c4, rfl, hI4⟩ := ownB_appends (bs := l) (ys := ys) rfl HM.out (by omega) HO.out.2.1 HMI.out hown3
        have hb3 : Below (w.heap.size + 1) w0 w3 := hbr2.grown hgr3 hs2 (fun q hq => (HO.out.lt q hq).1)
        have hs3 : w.heap.size + 1 ≤ w3.heap.size := Nat.le_trans hs2 hgr3.size
        have HI4 := Lib.hid hI4
        clear hown3 hgr3 hI4
        go_wp2
        go_roundw
        case rel =>
          have he : (l ++ ys).length = l.length + m := by rw [List.length_append, HM.out]
          exact ⟨k + 1, l ++ ys, A4, c4, by omega, by go_num, by rw [he], HD2, by rw [he]; omega, by rw [he]; exact HI4.out, hb3, hs3⟩
        case measure => simp [RowKit.intOf]; omega
      · have HB : Hid (l = bodyV kd zs) := by
          have h1 := HD.out
          rw [List.take_of_length_le (by rw [HL.out]; omega), ← HL.out] at h1
          exact h1
        obtain ⟨s, hs⟩ : ∃ s, s = sumV l := ⟨_, rfl⟩
        have hsi := sumV_in l
        rw [← hs] at hsi
        have HSV := Lib.hid hs
        have HB2 : Hid (l ++ [s / 256, s % 256] = frameT kd zs) := by show _ = _; rw [hs, HB.out]; rfl
        clear hs
        go_wp2_with fail
        refine (Bytes.sumOf_any A3 l.length c3 l _ _ HO.out.bytes (by omega)).mono ?_
        rintro e w' ⟨rfl, rfl⟩
        rw [← HSV.out]
        have hw1 : IntKind.u8.wrap (s / 256) = s / 256 := by rw [IntKind.wrap_u8]; omega
        have hw2 : IntKind.u8.wrap (s % 256) = s % 256 := by rw [IntKind.wrap_u8]; omega
        go_wp2_with (at_builtin; refine wpList_append_own _ rfl (.tmp 32) (.tmp 39) _ rfl (w.heap.size + 1) 5 i0 _ 1 1 Tryz.underlying22 hi0 hz0 hz1 hz2 rfl (by omega) (.slice A3 l.length c3) l.length (l.map (Value.int .u8)) rfl ?o1 ⟨wr.heap.size, 0, none⟩ 2 2 [.int .u8 (s / 256), .int .u8 (s % 256)] rfl rfl ?o2 ?o3 ?o4 ?o5 ?o6 ?_)
        case o1 => exact (HO.out.alloc _).2.2
        case o2 => exact lit2_news _ _ _ _
        case o3 => intro u hu; simp at hu; rcases hu with rfl | rfl <;> rfl
        case o4 => unfold maxLen; omega
        case o5 => omega
        case o6 => simp; omega
        intro v2 w3 hown3 hgr3 _
        obtain ⟨A4, c4, rfl, hI4⟩ := ownB_appends (bs := l) (ys := [s / 256, s % 256]) (m := 2) rfl rfl (by omega) HO.out.2.1 (by intro y hy; simp only [List.mem_cons, List.not_mem_nil, or_false] at hy; omega) hown3
        have hb3 : Below w.heap.size w w3 := ((hbw.trans (hbr.mono (by omega))).alloc (by omega) _).grown hgr3 (by simp; omega) (fun q hq => by have := (HO.out.lt q hq).1; omega)
        have HI4 := Lib.hid hI4
        clear hown3 hgr3 hI4
        go_wp2
        go_ret
        refine ⟨_, _, _, rfl, ?_, hb3⟩
        rw [HV.out, ← HB2.out]
        exact ownB_base HI4.out (by omega)
set_option maxHeartbeats 1600000 in
theorem l01Bytes_any (A : Option Addr) (n c : Nat) (bs : List Int) (B : Nat) (w : World) (hr : IsBytes w B A n bs) (hB : B ≤ w.heap.size) (hn : n ≤ 1048576) :
    Calls Tryz.prog 176 #[.slice A n c] w (AnsB w bs) := by
  obtain ⟨i0, hi0, hz0, hz1, hz2⟩ := info_parts infoByte
  have HL : Hid (bs.length = n) := hr.1
  have HR := Lib.hid hr
  clear hr
  go_enter Tryz.func176, Tryz.ntmps176
  go_wp2_with fail
  go_loopw [3, 4] (fun o i wr => ∃ (k : Nat) (A3 : Option Addr) (c3 : Nat), k ≤ n ∧ i = .int .i64 k ∧ o = .slice A3 k c3 ∧ Hid (OwnB wr w.heap.size A3 k c3 (bs.take k)) ∧ Below w.heap.size w wr ∧ w.heap.size ≤ wr.heap.size) (fun _ i _ => n - (RowKit.intOf i).toNat)
  case atStart => exact ⟨0, _, _, Nat.zero_le _, rfl, rfl, own_empty w, below_a1 _ _, by simp⟩
  case round =>
    obtain ⟨k, A3, c3, hk, rfl, rfl, HO, hbr, hsr⟩ := hrel
    by_cases hlt : k < n
    · obtain ⟨b, off, z, rfl, hbB, hz, hc, hz0', hz1'⟩ := (HR.out.below hbr hB).at_ hlt
      have hzb : 0 ≤ z ∧ z < 256 := ⟨hz0', hz1'⟩
      have HT : Hid (bs.take (k + 1) = bs.take k ++ [z]) := by
        show _ = _
        rw [List.take_succ_eq_append_getElem (by rw [HL.out]; exact hlt), hz]
        simp [List.getD, show k < bs.length by rw [HL.out]; exact hlt]
      have HLT : Hid ((bs.take k).length = k) := by show _ = _; rw [List.length_take, HL.out]; omega
      clear hz hz0' hz1'
      generalize bs.take k = tk at HO HT HLT
      go_wp2_with (at_builtin; refine wpList_append_own _ rfl (.tmp 12) (.tmp 17) _ rfl w.heap.size 5 i0 _ 1 1 Tryz.underlying22 hi0 hz0 hz1 hz2 rfl (by omega) (.slice A3 k c3) k (tk.map (Value.int .u8)) rfl ?o1 ⟨wr.heap.size, 0, none⟩ 1 1 [.int .u8 z] rfl rfl ?o2 ?o3 ?o4 ?o5 ?o6 ?_)
      case o1 => exact (HO.out.alloc _).2.2
      case o2 => exact lit_news (by simp [go_sem])
      case o3 => intro u hu; simp at hu; subst hu; rfl
      case o4 => unfold maxLen; omega
      case o5 => omega
      case o6 => simp; omega
      intro v2 w2 hown2 hgr2 _
      obtain ⟨A4, c4, rfl, hI4⟩ := OwnB.of_append (bs := tk) HLT.out HO.out.2.1 hzb hown2
      have hb2 : Below w.heap.size w w2 := (hbr.alloc hsr _).grown hgr2 (by simp; omega) (fun q hq => (HO.out.lt q hq).1)
      have hs2 : w.heap.size ≤ w2.heap.size := by have := hgr2.size; simp at this; omega
      have HI4 : Hid (OwnB w2 w.heap.size A4 (k + 1) c4 (bs.take (k + 1))) := by rw [HT.out]; exact hI4
      clear hown2 hgr2 hI4
      go_wp2
      go_roundw
      case rel => exact ⟨k + 1, A4, c4, by omega, by go_num, rfl, HI4, hb2, hs2⟩
      case measure => simp [RowKit.intOf]; omega
    · have HK : Hid (bs.take k = bs) := by show _ = _; rw [List.take_of_length_le (by rw [HL.out]; omega)]
      go_wp2
      go_ret
      refine ⟨_, _, _, rfl, ?_, hbr⟩
      have h1 := HO.out
      rw [HK.out] at h1
      exact h1
set_option maxHeartbeats 1600000 in
theorem l01Join_any (A C : Option Addr) (n m c d : Nat) (bs ys : List Int) (B : Nat) (w : World) (hr : IsBytes w B A n bs) (hs : IsBytes w B C m ys) (hB : B ≤ w.heap.size) (hn : n ≤ 1048576) (hm : m ≤ 1048576) :
    Calls Tryz.prog 129 #[.slice A n c, .slice C m d] w (AnsB w (bs ++ ys)) := by
  obtain ⟨i0, hi0, hz0, hz1, hz2⟩ := info_parts infoByte
  have HL : Hid (bs.length = n) := hr.1
  have HM : Hid (ys.length = m) := hs.1
  have HR := Lib.hid hr
  have HS := Lib.hid hs
  clear hr hs
  go_enter Tryz.func129, Tryz.ntmps129
  go_wp2_with fail
  refine (l01Bytes_any A n c bs B w HR.out hB hn).mono ?_
  rintro e w1 ⟨A1, n1, c1, rfl, h1, hb1⟩
  obtain rfl : n1 = n := by rw [← h1.1, HL.out]
  have H1 := Lib.hid h1
  have hs1 := hb1.size
  clear h1
  go_wp2_with fail
  go_loopw [5, 6] (fun o i wr => ∃ (k q : Nat) (A3 : Option Addr) (c3 : Nat), k ≤ m ∧ q ≤ n1 + k ∧ i = .int .i64 k ∧ o = .slice A3 q c3 ∧ Hid (OwnB wr w.heap.size A3 q c3 (bs ++ ys.take k)) ∧ Below w.heap.size w wr ∧ w.heap.size ≤ wr.heap.size) (fun _ i _ => m - (RowKit.intOf i).toNat)
  case atStart => exact ⟨0, n1, A1, c1, Nat.zero_le _, by omega, rfl, rfl, by simpa using H1, hb1, hs1⟩
  case round =>
    obtain ⟨k, q, A3, c3, hk, hq, rfl, rfl, HO, hbr, hsr⟩ := hrel
    by_cases hlt : k < m
    · obtain ⟨b, off, z, rfl, hbB, hz, hc, hz0', hz1'⟩ := (HS.out.below hbr hB).at_ hlt
      have hzb : 0 ≤ z ∧ z < 256 := ⟨hz0', hz1'⟩
      have HT : Hid (bs ++ ys.take (k + 1) = (bs ++ ys.take k) ++ [z]) := by
        show _ = _
        rw [List.take_succ_eq_append_getElem (by rw [HM.out]; exact hlt), hz, ← List.append_assoc]
        simp [List.getD, show k < ys.length by rw [HM.out]; exact hlt]
      clear hz hz0' hz1'
      generalize bs ++ ys.take k = tk at HO HT
      go_wp2_with (at_builtin; refine wpList_append_own _ rfl (.tmp 15) (.tmp 20) _ rfl w.heap.size 5 i0 _ 1 1 Tryz.underlying22 hi0 hz0 hz1 hz2 rfl (by omega) (.slice A3 q c3) q (tk.map (Value.int .u8)) rfl ?o1 ⟨wr.heap.size, 0, none⟩ 1 1 [.int .u8 z] rfl rfl ?o2 ?o3 ?o4 ?o5 ?o6 ?_)
      case o1 => exact (HO.out.alloc _).2.2
      case o2 => exact lit_news (by simp [go_sem])
      case o3 => intro u hu; simp at hu; subst hu; rfl
      case o4 => unfold maxLen; omega
      case o5 => omega
      case o6 => simp; omega
      intro v2 w2 hown2 hgr2 _
      obtain ⟨A4, c4, rfl, hI4⟩ := OwnB.of_append (bs := tk) HO.out.1 HO.out.2.1 hzb hown2
      have hb2 : Below w.heap.size w w2 := (hbr.alloc hsr _).grown hgr2 (by simp; omega) (fun q hq => (HO.out.lt q hq).1)
      have hs2 : w.heap.size ≤ w2.heap.size := by have := hgr2.size; simp at this; omega
      have HI4 : Hid (OwnB w2 w.heap.size A4 (q + 1) c4 (bs ++ ys.take (k + 1))) := by rw [HT.out]; exact hI4
      clear hown2 hgr2 hI4
      go_wp2
      go_roundw
      case rel => exact ⟨k + 1, q + 1, A4, c4, by omega, by omega, by go_num, rfl, HI4, hb2, hs2⟩
      case measure => simp [RowKit.intOf]; omega
    · have HK : Hid (ys.take k = ys) := by show _ = _; rw [List.take_of_length_le (by rw [HM.out]; omega)]
      go_wp2
      go_ret
      refine ⟨_, _, _, rfl, ?_, hbr⟩
      have h1 := HO.out
      rw [HK.out] at h1
      exact h1
set_option maxHeartbeats 3200000 in
theorem specFrameRecord_any (kd : Int) (A : Option Addr) (n c : Nat) (zs : List Int) (B : Nat) (w : World) (hr : IsInts w B A n zs) (hB : B ≤ w.heap.size) (hn : n ≤ 1048576) :
    Calls Tryz.prog 122 #[.agg #[.int .i64 kd, .slice A n c]] w (AnsB w (frameV kd zs)) := by
  obtain ⟨i0, hi0, hz0, hz1, hz2⟩ := info_parts infoByte
  have HL : Hid (zs.length = n) := hr.1
  have HR := Lib.hid (hr.below (below_a1 w (.cells #[.int .i64 kd, .slice A n c] 116)) hB)
  obtain ⟨b0, b1, _, _⟩ := blk2 (heap_alloc_new w (.cells #[.int .i64 kd, .slice A n c] 116))
  clear hr
  cases hx : recB kd zs
  · have HV := Lib.hid (frame_f hx)
    go_enter Tryz.func122, Tryz.ntmps122
    go_wp2_with fail
    refine (specRecordOk_any kd A n c zs B _ HR.out (by simp; omega) hn).mono ?_
    rintro e w1 ⟨rfl, hb1⟩
    rw [hx]
    go_wp2
    go_ret
    exact ⟨_, _, _, rfl, by rw [HV.out]; exact own_nil _ _, below_alloc1 hb1⟩
  · have HV := Lib.hid (frame_t hx)
    have hrt := rec_t hx
    have hn12 : n ≤ 12 := by rw [← HL.out]; exact hrt.2.1
    have hk0 : 0 ≤ kd ∧ kd < 256 := by omega
    have hwk : IntKind.u8.wrap kd = kd := by rw [IntKind.wrap_u8]; omega
    have hwn : IntKind.u8.wrap (n : Int) = (n : Int) := by rw [IntKind.wrap_u8]; omega
    have HNM := Lib.hid hrt.2.2
    clear hrt
    go_enter Tryz.func122, Tryz.ntmps122
    go_wp2_with fail
    refine (specRecordOk_any kd A n c zs B _ HR.out (by simp; omega) hn).mono ?_
    rintro e w1 ⟨rfl, hb1⟩
    rw [hx]
    obtain ⟨w0, hw0⟩ : ∃ w0, w0 = w.alloc (.cells #[.int .i64 kd, .slice A n c] 116) := ⟨_, rfl⟩
    rw [← hw0] at hb1 HR b0 b1
    have hs0 : w0.heap.size = w.heap.size + 1 := by rw [hw0]; simp
    have hbw : Below w.heap.size w w0 := by rw [hw0]; exact below_a1 _ _
    rw [hs0] at hb1
    have HS0 := Lib.hid hs0
    clear hw0 hs0
    have c0 : w1.cell? ⟨w.heap.size, 0, none⟩ = some (.int .i64 kd) := (hb1.cell (p := ⟨w.heap.size, 0, none⟩) (by show w.heap.size < _; omega)).trans b0
    have c1 : w1.cell? ⟨w.heap.size, 1, none⟩ = some (.slice A n c) := (hb1.cell (p := ⟨w.heap.size, 1, none⟩) (by show w.heap.size < _; omega)).trans b1
    have hs1 : w.heap.size + 1 ≤ w1.heap.size := by have := hb1.size; rw [HS0.out] at this; exact this
    have HB1 := Lib.hid b1
    clear b0 b1
    go_wp2_with fail
    go_loopw [3, 4] (fun o i wr => ∃ (k : Nat) (l : List Int) (A3 : Option Addr) (c3 : Nat), k ≤ n ∧ i = .int .i64 k ∧ o = .slice A3 l.length c3 ∧ Hid (l = kd :: (n : Int) :: (zs.take k).flatMap putV) ∧ l.length ≤ 2 + 6 * k ∧ Hid (OwnB wr (w.heap.size + 1) A3 l.length c3 l) ∧ Below (w.heap.size + 1) w0 wr ∧ w.heap.size + 1 ≤ wr.heap.size) (fun _ i _ => n - (RowKit.intOf i).toNat)
    case atStart =>
      refine ⟨0, [kd, (n : Int)], some ⟨w1.heap.size, 0, none⟩, 2, Nat.zero_le _, rfl, rfl, by show _ = _; simp, by simp, ⟨rfl, ?_, ?_⟩, hb1.alloc hs1 _, by simp; omega⟩
      · intro y hy
        simp only [List.mem_cons, List.not_mem_nil, or_false] at hy
        omega
      · exact own_base (World.ownsRow_lit w1 #[.int .u8 kd, .int .u8 (n : Int)] 2 (Nat.le_refl _) (by unfold maxLen; omega) rfl) hs1
    case round =>
      obtain ⟨k, l, A3, c3, hk, rfl, rfl, HD, hl, HO, hbr, hsr⟩ := hrel
      have cr : wr.cell? ⟨w.heap.size, 1, none⟩ = some (.slice A n c) := (hbr.cell (p := ⟨w.heap.size, 1, none⟩) (by show w.heap.size < _; omega)).trans HB1.out
      clear c0 c1
      by_cases hlt : k < n
      · obtain ⟨b, off, z, rfl, hbB, hz, hc⟩ := (HR.out.below hbr (by omega)).at_ hlt
        have hkl : k < zs.length := by rw [HL.out]; exact hlt
        have hml := putV_len z
        have HD2 : Hid (l ++ putV z = kd :: (n : Int) :: (zs.take (k + 1)).flatMap putV) := by show _ = _; rw [HD.out, flat_snoc zs k hkl, ← hz]; simp
        clear hz
        generalize hys : putV z = ys at hml HD2
        have HYS := Lib.hid hys
        clear hys
        go_wp2_with fail
        refine (Bytes.specPutNum_any z wr).mono ?_
        rintro e w2 ⟨A2, m, c2, rfl, h2, hb2⟩
        rw [HYS.out] at h2
        have HM : Hid (ys.length = m) := h2.1
        have H2 := Lib.hid h2.bytes
        have hm6 : m ≤ 6 := by rw [← HM.out]; exact hml
        have HO2 := Lib.hid (HO.out.below hb2).bytes
        have hs2 : w.heap.size + 1 ≤ w2.heap.size := Nat.le_trans hsr hb2.size
        have hbr2 : Below (w.heap.size + 1) w0 w2 := hbr.trans (hb2.mono hsr)
        clear h2 hb2
        go_wp2_with fail
        refine (l01Join_any A3 A2 l.length m c3 c2 l ys w2.heap.size _ HO2.out H2.out (Nat.le_refl _) (by omega) (by omega)).mono ?_
        rintro e w3 ⟨A4, n4, c4, rfl, h4, hb3⟩
        obtain rfl : n4 = l.length + m := by rw [← h4.1, List.length_append, HM.out]
        have HI4 := Lib.hid (ownB_base h4 hs2)
        have hb03 : Below (w.heap.size + 1) w0 w3 := hbr2.trans (hb3.mono hs2)
        have hs3 : w.heap.size + 1 ≤ w3.heap.size := Nat.le_trans hs2 hb3.size
        clear h4 hb3
        go_wp2
        go_roundw
        case rel =>
          have he : (l ++ ys).length = l.length + m := by rw [List.length_append, HM.out]
          exact ⟨k + 1, l ++ ys, A4, c4, by omega, by go_num, by rw [he], HD2, by rw [he]; omega, by rw [he]; exact HI4.out, hb03, hs3⟩
        case measure => simp [RowKit.intOf]; omega
      · have HB : Hid (l = bodyV kd zs) := by
          have h1 := HD.out
          rw [List.take_of_length_le (by rw [HL.out]; omega), ← HL.out] at h1
          exact h1
        obtain ⟨s, hs⟩ : ∃ s, s = sumV l := ⟨_, rfl⟩
        have hsi := sumV_in l
        rw [← hs] at hsi
        have HSV := Lib.hid hs
        have HB2 : Hid (l ++ [s / 256, s % 256] = frameT kd zs) := by show _ = _; rw [hs, HB.out]; rfl
        clear hs
        go_wp2_with fail
        refine (Bytes.specSumOf_any A3 l.length c3 l _ _ HO.out.bytes (by omega)).mono ?_
        rintro e w' ⟨rfl, rfl⟩
        rw [← HSV.out]
        have hw1 : IntKind.u8.wrap (s / 256) = s / 256 := by rw [IntKind.wrap_u8]; omega
        have hw2 : IntKind.u8.wrap (s % 256) = s % 256 := by rw [IntKind.wrap_u8]; omega
        go_wp2_with (at_builtin; refine wpList_append_own _ rfl (.tmp 34) (.tmp 41) _ rfl (w.heap.size + 1) 5 i0 _ 1 1 Tryz.underlying22 hi0 hz0 hz1 hz2 rfl (by omega) (.slice A3 l.length c3) l.length (l.map (Value.int .u8)) rfl ?o1 ⟨wr.heap.size, 0, none⟩ 2 2 [.int .u8 (s / 256), .int .u8 (s % 256)] rfl rfl ?o2 ?o3 ?o4 ?o5 ?o6 ?_)
        case o1 => exact (HO.out.alloc _).2.2
        case o2 => exact lit2_news _ _ _ _
        case o3 => intro u hu; simp at hu; rcases hu with rfl | rfl <;> rfl
        case o4 => unfold maxLen; omega
        case o5 => omega
        case o6 => simp; omega
        intro v2 w3 hown3 hgr3 _
        obtain ⟨A4, c4, rfl, hI4⟩ := ownB_appends (bs := l) (ys := [s / 256, s % 256]) (m := 2) rfl rfl (by omega) HO.out.2.1 (by intro y hy; simp only [List.mem_cons, List.not_mem_nil, or_false] at hy; omega) hown3
        have hb3 : Below w.heap.size w w3 := ((hbw.trans (hbr.mono (by omega))).alloc (by omega) _).grown hgr3 (by simp; omega) (fun q hq => by have := (HO.out.lt q hq).1; omega)
        have HI4 := Lib.hid hI4
        clear hown3 hgr3 hI4
        go_wp2
        go_ret
        refine ⟨_, _, _, rfl, ?_, hb3⟩
        rw [HV.out, ← HB2.out]
        exact ownB_base HI4.out (by omega)
end Go.Proofs.YtklgjjmcflgjeaaGreatDoor.Rec
namespace Go.Proofs.YtklgjjmcflgjeaaGreatDoor.Jour
open Go.ChangeShapes Go.WideShapes Go.ChangeAt Go.RowKit
open Bytes LK
open Tick (inB in_t in_f l01In_any)
def jok (d : JD) : Bool := decide ((d.1.length : Int) ≤ 3000) && decide ((d.2.1.length : Int) ≤ 3000) && inB d.2.2 0 d.2.1.length
set_option maxHeartbeats 1600000 in
theorem specJournalOk_any (w : World) (B : Nat) (v : Value) (d : JD) (hr : JRd w B v d) (hf : jty.Few d) :
    Calls Tryz.prog 120 #[v] w (Says (.bool (jok d)) w) := by
  obtain ⟨x, y, s⟩ := d
  obtain ⟨A1, c1, A2, c2, rfl, _, _⟩ := hr
  have hf : x.length + y.length ≤ 1048576 := hf
  show Calls Tryz.prog 120 #[.agg #[.slice A1 x.length c1, .slice A2 y.length c2, .int .i64 s]] w (Says (.bool (decide ((x.length : Int) ≤ 3000) && decide ((y.length : Int) ≤ 3000) && inB s 0 y.length)) w)
  generalize x.length = m at hf ⊢
  generalize y.length = n at hf ⊢
  cases h1 : decide ((m : Int) ≤ 3000)
  · go_enter Tryz.func120, Tryz.ntmps120
    go_wp2
    go_ret
    exact ⟨rfl, bel1 _ _⟩
  · cases h2 : decide ((n : Int) ≤ 3000)
    · go_enter Tryz.func120, Tryz.ntmps120
      go_wp2
      go_ret
      exact ⟨rfl, bel1 _ _⟩
    · go_enter Tryz.func120, Tryz.ntmps120
      go_wp2_with (go_at_call 37; refine (l01In_any _ _ _ _).mono ?_; rintro e w' ⟨rfl, rfl⟩)
      go_ret
      exact ⟨by simp, bel1 _ _⟩
set_option maxHeartbeats 1600000 in
theorem l04Bytes_any (A : Option Addr) (n c : Nat) (bs : List Int) (B : Nat) (w : World) (hr : IsBytes w B A n bs) (hB : B ≤ w.heap.size) (hn : n ≤ 1048576) :
    Calls Tryz.prog 165 #[.slice A n c] w (AnsB w bs) := by
  obtain ⟨i0, hi0, hz0, hz1, hz2⟩ := info_parts infoByte
  have HL : Hid (bs.length = n) := hr.1
  have HR := Lib.hid hr
  clear hr
  go_enter Tryz.func165, Tryz.ntmps165
  go_wp2_with fail
  go_loopw [3, 4] (fun o i wr => ∃ (k : Nat) (A3 : Option Addr) (c3 : Nat), k ≤ n ∧ i = .int .i64 k ∧ o = .slice A3 k c3 ∧ Hid (OwnB wr w.heap.size A3 k c3 (bs.take k)) ∧ Below w.heap.size w wr ∧ w.heap.size ≤ wr.heap.size) (fun _ i _ => n - (RowKit.intOf i).toNat)
  case atStart => exact ⟨0, _, _, Nat.zero_le _, rfl, rfl, own_empty w, below_a1 _ _, by simp⟩
  case round =>
    obtain ⟨k, A3, c3, hk, rfl, rfl, HO, hbr, hsr⟩ := hrel
    by_cases hlt : k < n
    · obtain ⟨b, off, z, rfl, hbB, hz, hc, hz0', hz1'⟩ := (HR.out.below hbr hB).at_ hlt
      have hzb : 0 ≤ z ∧ z < 256 := ⟨hz0', hz1'⟩
      have HT : Hid (bs.take (k + 1) = bs.take k ++ [z]) := by
        show _ = _
        rw [List.take_succ_eq_append_getElem (by rw [HL.out]; exact hlt), hz]
        simp [List.getD, show k < bs.length by rw [HL.out]; exact hlt]
      have HLT : Hid ((bs.take k).length = k) := by show _ = _; rw [List.length_take, HL.out]; omega
      clear hz hz0' hz1'
      generalize bs.take k = tk at HO HT HLT
      go_wp2_with (at_builtin; refine wpList_append_own _ rfl (.tmp 12) (.tmp 17) _ rfl w.heap.size 5 i0 _ 1 1 Tryz.underlying22 hi0 hz0 hz1 hz2 rfl (by omega) (.slice A3 k c3) k (tk.map (Value.int .u8)) rfl ?o1 ⟨wr.heap.size, 0, none⟩ 1 1 [.int .u8 z] rfl rfl ?o2 ?o3 ?o4 ?o5 ?o6 ?_)
      case o1 => exact (HO.out.alloc _).2.2
      case o2 => exact lit_news (by simp [go_sem])
      case o3 => intro u hu; simp at hu; subst hu; rfl
      case o4 => unfold maxLen; omega
      case o5 => omega
      case o6 => simp; omega
      intro v2 w2 hown2 hgr2 _
      obtain ⟨A4, c4, rfl, hI4⟩ := OwnB.of_append (bs := tk) HLT.out HO.out.2.1 hzb hown2
      have hb2 : Below w.heap.size w w2 := (hbr.alloc hsr _).grown hgr2 (by simp; omega) (fun q hq => (HO.out.lt q hq).1)
      have hs2 : w.heap.size ≤ w2.heap.size := by have := hgr2.size; simp at this; omega
      have HI4 : Hid (OwnB w2 w.heap.size A4 (k + 1) c4 (bs.take (k + 1))) := by rw [HT.out]; exact hI4
      clear hown2 hgr2 hI4
      go_wp2
      go_roundw
      case rel => exact ⟨k + 1, A4, c4, by omega, by go_num, rfl, HI4, hb2, hs2⟩
      case measure => simp [RowKit.intOf]; omega
    · have HK : Hid (bs.take k = bs) := by show _ = _; rw [List.take_of_length_le (by rw [HL.out]; omega)]
      go_wp2
      go_ret
      refine ⟨_, _, _, rfl, ?_, hbr⟩
      have h1 := HO.out
      rw [HK.out] at h1
      exact h1
set_option maxRecDepth 100000 in
set_option maxHeartbeats 3200000 in
theorem l04Copy_any (w : World) (B : Nat) (v : Value) (d : JD) (hr : JRd w B v d) (hB : B ≤ w.heap.size) (hf : jty.Few d) :
    Calls Tryz.prog 118 #[v] w (Made jty d w) := by
  obtain ⟨x, y, s⟩ := d
  obtain ⟨A1, c1, A2, c2, rfl, h1, h2⟩ := hr
  have hf : x.length + y.length ≤ 1048576 := hf
  have h1 : IsBytes w B A1 x.length x := h1
  have h2 : IsBytes w B A2 y.length y := h2
  show Calls Tryz.prog 118 #[.agg #[.slice A1 x.length c1, .slice A2 y.length c2, .int .i64 s]] w _
  obtain ⟨m, hm⟩ : ∃ m, m = x.length := ⟨_, rfl⟩
  obtain ⟨n, hn⟩ : ∃ n, n = y.length := ⟨_, rfl⟩
  have hx : m ≤ 1048576 := by omega
  have hy : n ≤ 1048576 := by omega
  rw [← hm] at h1 ⊢
  rw [← hn] at h2 ⊢
  obtain ⟨V, hV⟩ : ∃ V, V = (w.alloc (.cells #[.slice A1 m c1, .slice A2 n c2, .int .i64 s] 32)).alloc (.cells #[.slice none 0 0, .slice none 0 0, .int .i64 0] 32) := ⟨_, rfl⟩
  have hbV : Below w.heap.size w V := by rw [hV]; exact bel2 _ _ _
  have H1 := Lib.hid h1
  have H2 := Lib.hid h2
  have HM := Lib.hid hm
  have HN := Lib.hid hn
  have k0 : V.heap[w.heap.size]? = some (.cells #[.slice A1 m c1, .slice A2 n c2, .int .i64 s] 32) := by rw [hV]; exact box_alloc (box_new _ _) _
  have k1 : V.heap[w.heap.size + 1]? = some (.cells #[.slice none 0 0, .slice none 0 0, .int .i64 0] 32) := by rw [hV]; have h := box_new (w.alloc (.cells #[.slice A1 m c1, .slice A2 n c2, .int .i64 s] 32)) (.cells #[.slice none 0 0, .slice none 0 0, .int .i64 0] 32); simpa using h
  have hsV : V.heap.size = w.heap.size + 1 + 1 := by rw [hV]; simp
  have HSV := Lib.hid hsV
  clear h1 h2 hm hn hf hsV
  go_enter Tryz.func118, Tryz.ntmps118
  go_wp2_with fail
  rw [← hV]
  have HVV := Lib.hid hV
  clear hV
  have c0 : V.cell? ⟨w.heap.size, 0, none⟩ = some (.slice A1 m c1) := box_cell k0 0 _ rfl
  have c1' : V.cell? ⟨w.heap.size, 1, none⟩ = some (.slice A2 n c2) := box_cell k0 1 _ rfl
  have c2' : V.cell? ⟨w.heap.size, 2, none⟩ = some (.int .i64 s) := box_cell k0 2 _ rfl
  have e0 : V.cell? ⟨w.heap.size + 1, 0, none⟩ = some (.slice none 0 0) := box_cell k1 0 _ rfl
  have K0 := Lib.hid k0
  have K1 := Lib.hid k1
  clear k0 k1
  go_region_held3 (fun w' => w'.cell? ⟨w.heap.size, 0, none⟩ = some (.slice A1 m c1) ∧ w'.cell? ⟨w.heap.size, 1, none⟩ = some (.slice A2 n c2) ∧ w'.cell? ⟨w.heap.size, 2, none⟩ = some (.int .i64 s))
    (first | go_keep | (refine ⟨cell_keep hb2 ?_, cell_keep hb2 ?_, cell_keep hb2 ?_⟩ <;> simp only [*]) | (refine ⟨cell_keep hb1 ?_, cell_keep hb1 ?_, cell_keep hb1 ?_⟩ <;> simp only [*]))
    (first | (have hb1n := hb1; go_at_call 165; refine (l04Bytes_any A2 n c2 y B _ (by exact H2.out.below (hbV.trans (hb1'.mono hbV.size)) hB) (by exact Nat.le_trans hB (Nat.le_trans hbV.size hb1'.size)) hy).mono ?_; rintro e w2 ⟨A4, n4, c4, rfl, hO2, hb2⟩; have HO2 := Lib.hid hO2; clear hO2 hb1n; obtain ⟨r0, r1, r2, s0, s1, s2⟩ := box3 (box_below (box_below K1.out hb1') hb2)) | (go_at_call 165; refine (l04Bytes_any A1 m c1 x B _ (by exact H1.out.below hbV.drew hB) (by exact Nat.le_trans hB hbV.size) hx).mono ?_; rintro e w1 ⟨A3, n3, c3, rfl, hO1, hb1⟩; have hb1' : Below V.heap.size V w1 := undrew hb1; have HO1 := Lib.hid hO1; clear hO1))
  all_goals
    have hL1 : ∀ k, (Value.slice A3 n3 c3).ownBlock = some k → V.heap.size ≤ k ∧ k < w1.heap.size := fun k hk => HO1.out.lt k hk
    have h12 : OwnB w2 w.heap.size A3 n3 c3 x := own_base (HO1.out.below hb2) (fun k hk => by have := hL1 k hk; have := hbV.size; omega)
    have hb02 : Below w.heap.size w w2 := bel_then (bel_then hbV hb1' hbV.size) hb2 (Nat.le_trans hbV.size hb1'.size)
    have H12 := Lib.hid h12
    have HB02 := Lib.hid hb02
    have HL1 := Lib.hid hL1
    have HS1 := Lib.hid hb1'.size
    have HS2 := Lib.hid hb2.size
    have HSB := Lib.hid hbV.size
    have HE3 : Hid (n3 = x.length) := HO1.out.1.symm
    have HE4 : Hid (n4 = y.length) := HO2.out.1.symm
    clear h12 hb02 hL1 hb1 hb1' hb2 HO1 c0 c1' c2' e0
    go_wp2
    refine bodyPost_ret (v := .agg #[.slice A3 n3 c3, .slice A4 n4 c4, .int .i64 s]) (by simp [results, Tryz.results118, go_sem, r0, r1, r2]) rfl ?_
    refine made_of (w5 := w2) (w4 := w1) HB02.out H12.out HO2.out (fun k hk => ?_) HS2.out (Nat.le_trans HSB.out HS1.out) HE3.out HE4.out (sets3 (S := fun k => k = w.heap.size + 1) rfl rfl rfl) (fun k hk => ?_) (fun k hk => by omega)
    · have := HL1.out k hk; have := HSV.out; omega
    · have := HS1.out; have := HSV.out; omega
end Go.Proofs.YtklgjjmcflgjeaaGreatDoor.Jour
