/-
  CONTRACTS of FrameRecord and FrameSize, the program's and the model's, and of the model's l01Bytes and l01Join, over this seat's translation: the same bytes, in memory of one's own.
-/
import Derived.Test.YtpghccbknlokcaaDoorRecOk
import Derived.Test.YtpghccbknlokcaaDoorSumOf
namespace Go.Proofs.YtpghccbknlokcaaDoor.Rec
open Go.ChangeShapes Go.WideShapes Go.ChangeAt Go.RowKit
open Go.Proofs.YtpghccbknlokcaaDoor.Ints Go.Proofs.YtpghccbknlokcaaDoor.Has
open Go.Proofs.YtpghccbknlokcaaDoor.Bytes (IsBytes OwnB AnsB numB num_t putV putV_len putV_in putV_t putN_pos sumV sumV_in infoByte own_empty own_nil lit_news)
set_option linter.unusedVariables false

theorem ownB_base {w : World} {b b' : Nat} {A : Option Addr} {n c : Nat} {bs : List Int} (h : OwnB w b A n c bs) (hb : b' ≤ b) : OwnB w b' A n c bs := ⟨h.1, h.2.1, own_base h.2.2 hb⟩
theorem lit2_news (w : World) (x y : Value) (t : TypeId) : ∀ j u, [x, y][j]? = some u → (w.alloc (.cells #[x, y] t)).cell? ((⟨w.heap.size, 0, none⟩ : Addr).add j) = some u := by
  obtain ⟨h0, h1, _⟩ := blk2 (heap_alloc_new w (.cells #[x, y] t))
  intro j u hu
  match j, hu with
  | 0, hu => simp at hu; subst hu; rw [Addr.add_lit]; exact h0
  | 1, hu => simp at hu; subst hu; rw [Addr.add_lit]; exact h1
  | j + 2, hu => simp at hu
theorem ownB_news {w : World} {b g n c : Nat} {bs : List Int} (h : OwnB w b (some ⟨g, 0, none⟩) n c bs) : ∀ j u, (bs.map (Value.int .u8))[j]? = some u → w.cell? ((⟨g, 0, none⟩ : Addr).add j) = some u := by
  intro j u hu
  have hj : j < bs.length := by
    rcases Nat.lt_or_ge j bs.length with h2 | h2
    · exact h2
    · rw [List.getElem?_eq_none (by simpa using h2)] at hu; cases hu
  rw [Addr.add_lit, Nat.zero_add, h.2.2.cellAt j (by rw [Nat.mul_one, ← h.1]; exact hj)]
  exact hu
theorem ownB_appends {w' : World} {base n m : Nat} {v' : Value} {bs ys : List Int} (hl : bs.length = n) (hm : ys.length = m) (hp : 0 < n + m) (hbs : ∀ y ∈ bs, 0 ≤ y ∧ y < 256) (hys : ∀ y ∈ ys, 0 ≤ y ∧ y < 256) (h : w'.ownsRow base 5 1 v' (n + m) (bs.map (Value.int .u8) ++ ys.map (Value.int .u8))) : ∃ A c, v' = .slice A (n + m) c ∧ OwnB w' base A (n + m) c (bs ++ ys) := by
  obtain ⟨g, cap, rfl, _⟩ := h.form hp
  refine ⟨_, _, rfl, by simp [hl, hm], ?_, by simpa using h⟩
  intro y hy
  rcases List.mem_append.mp hy with hy | hy
  · exact hbs y hy
  · exact hys y hy

def bodyV (kd : Int) (zs : List Int) : List Int := kd :: (zs.length : Int) :: zs.flatMap putV
def frameT (kd : Int) (zs : List Int) : List Int := bodyV kd zs ++ [sumV (bodyV kd zs) / 256, sumV (bodyV kd zs) % 256]
def frameV (kd : Int) (zs : List Int) : List Int := if recB kd zs then frameT kd zs else []
theorem frame_t {kd : Int} {zs : List Int} (h : recB kd zs = true) : frameV kd zs = frameT kd zs := by simp [frameV, h]
theorem frame_f {kd : Int} {zs : List Int} (h : recB kd zs = false) : frameV kd zs = [] := by simp [frameV, h]
theorem flat_len (zs : List Int) : (zs.flatMap putV).length ≤ 6 * zs.length := by
  induction zs with
  | nil => simp
  | cons x l ih => have := putV_len x; simp only [List.flatMap_cons, List.length_append, List.length_cons]; omega
theorem frame_len (kd : Int) (zs : List Int) : (frameV kd zs).length ≤ 76 := by
  cases h : recB kd zs
  · rw [frame_f h]; simp
  · rw [frame_t h]
    have h1 := (rec_t h).2.1
    have h2 := flat_len zs
    simp only [frameT, bodyV, List.length_append, List.length_cons, List.length_nil]
    omega
theorem flat_snoc (zs : List Int) (k : Nat) (h : k < zs.length) : (zs.take (k + 1)).flatMap putV = (zs.take k).flatMap putV ++ putV (zs.getD k 0) := by
  rw [List.take_succ_eq_append_getElem h, List.flatMap_append]
  simp [List.getD, h]
theorem flat_in (zs : List Int) : ∀ y ∈ zs.flatMap putV, 0 ≤ y ∧ y < 256 := by
  intro y hy
  obtain ⟨x, _, hx⟩ := List.mem_flatMap.mp hy
  exact putV_in x y hx
theorem frame_in {kd : Int} {zs : List Int} : ∀ y ∈ frameV kd zs, 0 ≤ y ∧ y < 256 := by
  cases h : recB kd zs
  · rw [frame_f h]; simp
  · rw [frame_t h]
    have h1 := rec_t h
    have h2 := sumV_in (bodyV kd zs)
    intro y hy
    rcases List.mem_append.mp hy with hy | hy
    · rcases List.mem_cons.mp hy with hy | hy
      · omega
      · rcases List.mem_cons.mp hy with hy | hy
        · omega
        · exact flat_in zs y hy
    · simp only [List.mem_cons, List.not_mem_nil, or_false] at hy
      omega
theorem putV_pos {x : Int} (h : numB x = true) : 0 < (putV x).length := by rw [putV_t h]; exact putN_pos _

set_option maxHeartbeats 3200000 in
theorem frameRecord_any (kd : Int) (A : Option Addr) (n c : Nat) (zs : List Int) (B : Nat) (w : World) (hr : IsInts w B A n zs) (hB : B ≤ w.heap.size) (hn : n ≤ 1048576) :
    Calls Tryd.prog 26 #[.agg #[.int .i64 kd, .slice A n c]] w (AnsB w (frameV kd zs)) := by
  obtain ⟨i0, hi0, hz0, hz1, hz2⟩ := info_parts infoByte
  have HL : Hid (zs.length = n) := hr.1
  have HR := Lib.hid (hr.below (below_a1 w (.cells #[.int .i64 kd, .slice A n c] 30)) hB)
  obtain ⟨b0, b1, _, _⟩ := blk2 (heap_alloc_new w (.cells #[.int .i64 kd, .slice A n c] 30))
  clear hr
  cases hx : recB kd zs
  · have HV := Lib.hid (frame_f hx)
    go_enter Tryd.func26, Tryd.ntmps26
    go_wp2_with fail
    refine (recordOk_any kd A n c zs B _ HR.out (by simp; omega) hn).mono ?_
    rintro e w1 ⟨rfl, hb1⟩
    rw [hx]
    go_wp2
    go_ret
    exact ⟨_, _, _, rfl, by rw [HV.out]; exact own_nil _ _, below_alloc1 hb1⟩
  · have HV := Lib.hid (frame_t hx)
    have hrt := rec_t hx
    have hn12 : n ≤ 12 := by rw [← HL.out]; exact hrt.2.1
    have hk0 : 0 ≤ kd ∧ kd < 256 := by omega
    have hwk : IntKind.u8.wrap kd = kd := by rw [IntKind.wrap_u8]; omega
    have hwn : IntKind.u8.wrap (n : Int) = (n : Int) := by rw [IntKind.wrap_u8]; omega
    have HNM := Lib.hid hrt.2.2
    clear hrt
    go_enter Tryd.func26, Tryd.ntmps26
    go_wp2_with fail
    refine (recordOk_any kd A n c zs B _ HR.out (by simp; omega) hn).mono ?_
    rintro e w1 ⟨rfl, hb1⟩
    rw [hx]
    obtain ⟨w0, hw0⟩ : ∃ w0, w0 = w.alloc (.cells #[.int .i64 kd, .slice A n c] 30) := ⟨_, rfl⟩
    rw [← hw0] at hb1 HR b0 b1
    have hs0 : w0.heap.size = w.heap.size + 1 := by rw [hw0]; simp
    have hbw : Below w.heap.size w w0 := by rw [hw0]; exact below_a1 _ _
    rw [hs0] at hb1
    have HS0 := Lib.hid hs0
    clear hw0 hs0
    have c0 : w1.cell? ⟨w.heap.size, 0, none⟩ = some (.int .i64 kd) := (hb1.cell (p := ⟨w.heap.size, 0, none⟩) (by show w.heap.size < _; omega)).trans b0
    have c1 : w1.cell? ⟨w.heap.size, 1, none⟩ = some (.slice A n c) := (hb1.cell (p := ⟨w.heap.size, 1, none⟩) (by show w.heap.size < _; omega)).trans b1
    have hs1 : w.heap.size + 1 ≤ w1.heap.size := by have := hb1.size; rw [HS0.out] at this; exact this
    have hs1' : w.heap.size < w1.heap.size := hs1
    clear b0 b1
    go_wp2_with fail
    go_loopw [3, 21] (fun o i wr => ∃ (k : Nat) (l : List Int) (A3 : Option Addr) (c3 : Nat), k ≤ n ∧ i = .int .i64 k ∧ o = .slice A3 l.length c3 ∧ Hid (l = kd :: (n : Int) :: (zs.take k).flatMap putV) ∧ l.length ≤ 2 + 6 * k ∧ Hid (OwnB wr (w.heap.size + 1) A3 l.length c3 l) ∧ Below (w.heap.size + 1) w0 wr ∧ w.heap.size + 1 ≤ wr.heap.size) (fun _ i _ => n - (intOf i).toNat)
    case atStart =>
      refine ⟨0, [kd, (n : Int)], some ⟨w1.heap.size, 0, none⟩, 2, Nat.zero_le _, rfl, rfl, by show _ = _; simp, by simp, ⟨rfl, ?_, ?_⟩, hb1.alloc hs1 _, by simp; omega⟩
      · intro y hy
        simp only [List.mem_cons, List.not_mem_nil, or_false] at hy
        omega
      · exact own_base (World.ownsRow_lit w1 #[.int .u8 kd, .int .u8 (n : Int)] 2 (Nat.le_refl _) (by unfold maxLen; omega) rfl) hs1
    case round =>
      obtain ⟨k, l, A3, c3, hk, rfl, rfl, HD, hl, HO, hbr, hsr⟩ := hrel
      by_cases hlt : k < n
      · obtain ⟨b, off, z, rfl, hbB, hz, hc⟩ := (HR.out.below hbr (by omega)).at_ hlt
        have hkl : k < zs.length := by rw [HL.out]; exact hlt
        have hnz : numB z = true := HNM.out z (by rw [hz]; simp [List.getD, hkl])
        have hmp := putV_pos hnz
        have hml := putV_len z
        have HMI := Lib.hid (putV_in z)
        have HD2 : Hid (l ++ putV z = kd :: (n : Int) :: (zs.take (k + 1)).flatMap putV) := by show _ = _; rw [HD.out, flat_snoc zs k hkl, ← hz]; simp
        clear hz hnz
        generalize hys : putV z = ys at hmp hml HMI HD2
        have HYS := Lib.hid hys
        clear hys
        go_wp2_with fail
        refine (Bytes.putNum_any z wr).mono ?_
        rintro e w2 ⟨A2, m, c2, rfl, h2, hb2⟩
        rw [HYS.out] at h2
        have HM : Hid (ys.length = m) := h2.1
        obtain ⟨g2, cap2, hv2, _, _⟩ := h2.2.2.form (by rw [← h2.1]; exact hmp)
        obtain rfl : A2 = some ⟨g2, 0, none⟩ := by injection hv2
        have H2 := Lib.hid h2
        have hm0 : 0 < m := by rw [← HM.out]; exact hmp
        have hm6 : m ≤ 6 := by rw [← HM.out]; exact hml
        have HO2 := Lib.hid (HO.out.below hb2)
        have hs2 : w.heap.size + 1 ≤ w2.heap.size := Nat.le_trans hsr hb2.size
        have hbr2 : Below (w.heap.size + 1) w0 w2 := hbr.trans (hb2.mono hsr)
        clear h2 hv2 hb2
        go_wp2_with (at_builtin; refine wpList_append_own _ rfl (.tmp 25) (.tmp 27) _ rfl (w.heap.size + 1) 5 i0 _ 1 1 Tryd.underlying22 hi0 hz0 hz1 hz2 rfl (by omega) (.slice A3 l.length c3) l.length (l.map (Value.int .u8)) rfl ?o1 ⟨g2, 0, none⟩ m c2 (ys.map (Value.int .u8)) rfl ?o0 ?o2 ?o3 ?o4 ?o5 ?o6 ?_)
        case o1 => exact HO2.out.2.2
        case o0 => rw [List.length_map, HM.out, Nat.mul_one]
        case o2 => exact ownB_news H2.out
        case o3 => intro u hu; obtain ⟨q, _, rfl⟩ := List.mem_map.mp hu; rfl
        case o4 => unfold maxLen; omega
        case o5 => omega
        case o6 => exact hs2
        intro v2 w3 hown3 hgr3 _
        obtain ⟨A4, c4, rfl, hI4⟩ := ownB_appends (bs := l) (ys := ys) rfl HM.out (by omega) HO.out.2.1 HMI.out hown3
        have hb3 : Below (w.heap.size + 1) w0 w3 := hbr2.grown hgr3 hs2 (fun q hq => (HO.out.lt q hq).1)
        have hs3 : w.heap.size + 1 ≤ w3.heap.size := Nat.le_trans hs2 hgr3.size
        have HI4 := Lib.hid hI4
        clear hown3 hgr3 hI4
        go_wp2
        go_roundw
        case rel =>
          have he : (l ++ ys).length = l.length + m := by rw [List.length_append, HM.out]
          exact ⟨k + 1, l ++ ys, A4, c4, by omega, by go_num, by rw [he], HD2, by rw [he]; omega, by rw [he]; exact HI4.out, hb3, hs3⟩
        case measure => simp [intOf]; omega
      · have HB : Hid (l = bodyV kd zs) := by
          have h1 := HD.out
          rw [List.take_of_length_le (by rw [HL.out]; omega), ← HL.out] at h1
          exact h1
        obtain ⟨s, hs⟩ : ∃ s, s = sumV l := ⟨_, rfl⟩
        have hsi := sumV_in l
        rw [← hs] at hsi
        have HSV := Lib.hid hs
        have HB2 : Hid (l ++ [s / 256, s % 256] = frameT kd zs) := by show _ = _; rw [hs, HB.out]; rfl
        clear hs
        go_wp2_with fail
        refine (Bytes.sumOf_any A3 l.length c3 l _ _ HO.out.bytes (by omega)).mono ?_
        rintro e w' ⟨rfl, rfl⟩
        rw [← HSV.out]
        have hw1 : IntKind.u8.wrap (s / 256) = s / 256 := by rw [IntKind.wrap_u8]; omega
        have hw2 : IntKind.u8.wrap (s % 256) = s % 256 := by rw [IntKind.wrap_u8]; omega
        go_wp2_with (at_builtin; refine wpList_append_own _ rfl (.tmp 32) (.tmp 39) _ rfl (w.heap.size + 1) 5 i0 _ 1 1 Tryd.underlying22 hi0 hz0 hz1 hz2 rfl (by omega) (.slice A3 l.length c3) l.length (l.map (Value.int .u8)) rfl ?o1 ⟨wr.heap.size, 0, none⟩ 2 2 [.int .u8 (s / 256), .int .u8 (s % 256)] rfl rfl ?o2 ?o3 ?o4 ?o5 ?o6 ?_)
        case o1 => exact (HO.out.alloc _).2.2
        case o2 => exact lit2_news _ _ _ _
        case o3 => intro u hu; simp at hu; rcases hu with rfl | rfl <;> rfl
        case o4 => unfold maxLen; omega
        case o5 => omega
        case o6 => simp; omega
        intro v2 w3 hown3 hgr3 _
        obtain ⟨A4, c4, rfl, hI4⟩ := ownB_appends (bs := l) (ys := [s / 256, s % 256]) (m := 2) rfl rfl (by omega) HO.out.2.1 (by intro y hy; simp only [List.mem_cons, List.not_mem_nil, or_false] at hy; omega) hown3
        have hb3 : Below w.heap.size w w3 := ((hbw.trans (hbr.mono (by omega))).alloc (by omega) _).grown hgr3 (by simp; omega) (fun q hq => by have := (HO.out.lt q hq).1; omega)
        have HI4 := Lib.hid hI4
        clear hown3 hgr3 hI4
        go_wp2
        go_ret
        refine ⟨_, _, _, rfl, ?_, hb3⟩
        rw [HV.out, ← HB2.out]
        exact ownB_base HI4.out (by omega)




def sizeV (kd : Int) (zs : List Int) : Int := if recB kd zs then (frameV kd zs).length else -1
theorem size_t {kd : Int} {zs : List Int} (h : recB kd zs = true) : sizeV kd zs = (frameV kd zs).length := by simp [sizeV, h]
theorem size_f {kd : Int} {zs : List Int} (h : recB kd zs = false) : sizeV kd zs = -1 := by simp [sizeV, h]


end Go.Proofs.YtpghccbknlokcaaDoor.Rec
