/-
  THE JOURNAL's VALUES, and the contracts of the model's JournalOk, l04Copy, SyncTail, CrashTail, RoomLeft over this seat's translation.
-/
import Derived.Test.YtpghccbknlokcaaJour
import Derived.Test.YtpghccbknlokcaaFrame
namespace Go.Proofs.Ytpghccbknlokcaa.Jour
open Go.ChangeShapes Go.WideShapes Go.ChangeAt Go.RowKit
open Go.Proofs.Ytpghccbknlokcaa.Bytes Go.Proofs.Ytpghccbknlokcaa.LK
open Go.Proofs.Ytpghccbknlokcaa.Tick (inB in_t in_f l01In_any)
set_option linter.unusedVariables false

def jok (d : JD) : Bool := decide ((d.1.length : Int) ≤ 3000) && decide ((d.2.1.length : Int) ≤ 3000) && inB d.2.2 0 d.2.1.length
theorem jok_t {d : JD} (h : jok d = true) : d.1.length ≤ 3000 ∧ d.2.1.length ≤ 3000 ∧ 0 ≤ d.2.2 ∧ d.2.2 ≤ d.2.1.length := by
  simp [jok, inB] at h; omega
def syncD (d : JD) : JD := if jok d then (d.1, d.2.1, d.2.1.length) else d
def keepN (d : JD) (k : Int) : Nat := (d.2.2 + min (max k 0) (d.2.1.length - d.2.2)).toNat
def crashD (d : JD) (k : Int) : JD := if jok d then (d.1, d.2.1.take (keepN d k), keepN d k) else d
def roomV (d : JD) : Int := if jok d then 3000 - d.2.1.length else -1
theorem few_sync {d : JD} (h : jty.Few d) : jty.Few (syncD d) := by
  unfold syncD
  split
  · exact h
  · exact h
theorem few_crash {d : JD} (h : jty.Few d) (k : Int) : jty.Few (crashD d k) := by
  have h : d.1.length + d.2.1.length ≤ 1048576 := h
  unfold crashD
  split
  · show d.1.length + (d.2.1.take (keepN d k)).length ≤ 1048576
    rw [List.length_take]; omega
  · exact h
theorem keepN_le {d : JD} (h : jok d = true) (k : Int) : keepN d k ≤ d.2.1.length := by
  have := jok_t h; unfold keepN; omega

set_option maxHeartbeats 1600000 in
theorem specJournalOk_any (w : World) (B : Nat) (v : Value) (d : JD) (hr : JRd w B v d) (hf : jty.Few d) :
    Calls Try.prog 78 #[v] w (Says (.bool (jok d)) w) := by
  obtain ⟨x, y, s⟩ := d
  obtain ⟨A1, c1, A2, c2, rfl, _, _⟩ := hr
  have hf : x.length + y.length ≤ 1048576 := hf
  show Calls Try.prog 78 #[.agg #[.slice A1 x.length c1, .slice A2 y.length c2, .int .i64 s]] w (Says (.bool (decide ((x.length : Int) ≤ 3000) && decide ((y.length : Int) ≤ 3000) && inB s 0 y.length)) w)
  generalize x.length = m at hf ⊢
  generalize y.length = n at hf ⊢
  cases h1 : decide ((m : Int) ≤ 3000)
  · go_enter Try.func78, Try.ntmps78
    go_wp2
    go_ret
    exact ⟨rfl, bel1 _ _⟩
  · cases h2 : decide ((n : Int) ≤ 3000)
    · go_enter Try.func78, Try.ntmps78
      go_wp2
      go_ret
      exact ⟨rfl, bel1 _ _⟩
    · go_enter Try.func78, Try.ntmps78
      go_wp2_with (go_at_call 54; refine (l01In_any _ _ _ _).mono ?_; rintro e w' ⟨rfl, rfl⟩)
      go_ret
      exact ⟨by simp, bel1 _ _⟩

set_option maxHeartbeats 1600000 in
theorem l04Bytes_any (A : Option Addr) (n c : Nat) (bs : List Int) (B : Nat) (w : World) (hr : IsBytes w B A n bs) (hB : B ≤ w.heap.size) (hn : n ≤ 1048576) :
    Calls Try.prog 116 #[.slice A n c] w (AnsB w bs) := by
  obtain ⟨i0, hi0, hz0, hz1, hz2⟩ := info_parts infoByte
  have HL : Hid (bs.length = n) := hr.1
  have HR := Lib.hid hr
  clear hr
  go_enter Try.func116, Try.ntmps116
  go_wp2_with fail
  go_loopw [3, 4] (fun o i wr => ∃ (k : Nat) (A3 : Option Addr) (c3 : Nat), k ≤ n ∧ i = .int .i64 k ∧ o = .slice A3 k c3 ∧ Hid (OwnB wr w.heap.size A3 k c3 (bs.take k)) ∧ Below w.heap.size w wr ∧ w.heap.size ≤ wr.heap.size) (fun _ i _ => n - (intOf i).toNat)
  case atStart => exact ⟨0, _, _, Nat.zero_le _, rfl, rfl, own_empty w, below_a1 _ _, by simp⟩
  case round =>
    obtain ⟨k, A3, c3, hk, rfl, rfl, HO, hbr, hsr⟩ := hrel
    by_cases hlt : k < n
    · obtain ⟨b, off, z, rfl, hbB, hz, hc, hz0', hz1'⟩ := (HR.out.below hbr hB).at_ hlt
      have hzb : 0 ≤ z ∧ z < 256 := ⟨hz0', hz1'⟩
      have HT : Hid (bs.take (k + 1) = bs.take k ++ [z]) := by
        show _ = _
        rw [List.take_succ_eq_append_getElem (by rw [HL.out]; exact hlt), hz]
        simp [List.getD, show k < bs.length by rw [HL.out]; exact hlt]
      have HLT : Hid ((bs.take k).length = k) := by show _ = _; rw [List.length_take, HL.out]; omega
      clear hz hz0' hz1'
      generalize bs.take k = tk at HO HT HLT
      go_wp2_with (at_builtin; refine wpList_append_own _ rfl (.tmp 12) (.tmp 17) _ rfl w.heap.size 5 i0 _ 1 1 Try.underlying22 hi0 hz0 hz1 hz2 rfl (by omega) (.slice A3 k c3) k (tk.map (Value.int .u8)) rfl ?o1 ⟨wr.heap.size, 0, none⟩ 1 1 [.int .u8 z] rfl rfl ?o2 ?o3 ?o4 ?o5 ?o6 ?_)
      case o1 => exact (HO.out.alloc _).2.2
      case o2 => exact lit_news (by simp [go_sem])
      case o3 => intro u hu; simp at hu; subst hu; rfl
      case o4 => unfold maxLen; omega
      case o5 => omega
      case o6 => simp; omega
      intro v2 w2 hown2 hgr2 _
      obtain ⟨A4, c4, rfl, hI4⟩ := OwnB.of_append (bs := tk) HLT.out HO.out.2.1 hzb hown2
      have hb2 : Below w.heap.size w w2 := (hbr.alloc hsr _).grown hgr2 (by simp; omega) (fun q hq => (HO.out.lt q hq).1)
      have hs2 : w.heap.size ≤ w2.heap.size := by have := hgr2.size; simp at this; omega
      have HI4 : Hid (OwnB w2 w.heap.size A4 (k + 1) c4 (bs.take (k + 1))) := by rw [HT.out]; exact hI4
      clear hown2 hgr2 hI4
      go_wp2
      go_roundw
      case rel => exact ⟨k + 1, A4, c4, by omega, by go_num, rfl, HI4, hb2, hs2⟩
      case measure => simp [intOf]; omega
    · have HK : Hid (bs.take k = bs) := by show _ = _; rw [List.take_of_length_le (by rw [HL.out]; omega)]
      go_wp2
      go_ret
      refine ⟨_, _, _, rfl, ?_, hbr⟩
      have h1 := HO.out
      rw [HK.out] at h1
      exact h1


set_option maxRecDepth 100000 in
set_option maxHeartbeats 3200000 in
theorem l04Copy_any (w : World) (B : Nat) (v : Value) (d : JD) (hr : JRd w B v d) (hB : B ≤ w.heap.size) (hf : jty.Few d) :
    Calls Try.prog 77 #[v] w (Made jty d w) := by
  obtain ⟨x, y, s⟩ := d
  obtain ⟨A1, c1, A2, c2, rfl, h1, h2⟩ := hr
  have hf : x.length + y.length ≤ 1048576 := hf
  have h1 : IsBytes w B A1 x.length x := h1
  have h2 : IsBytes w B A2 y.length y := h2
  show Calls Try.prog 77 #[.agg #[.slice A1 x.length c1, .slice A2 y.length c2, .int .i64 s]] w _
  obtain ⟨m, hm⟩ : ∃ m, m = x.length := ⟨_, rfl⟩
  obtain ⟨n, hn⟩ : ∃ n, n = y.length := ⟨_, rfl⟩
  have hx : m ≤ 1048576 := by omega
  have hy : n ≤ 1048576 := by omega
  rw [← hm] at h1 ⊢
  rw [← hn] at h2 ⊢
  obtain ⟨V, hV⟩ : ∃ V, V = (w.alloc (.cells #[.slice A1 m c1, .slice A2 n c2, .int .i64 s] 64)).alloc (.cells #[.slice none 0 0, .slice none 0 0, .int .i64 0] 64) := ⟨_, rfl⟩
  have hbV : Below w.heap.size w V := by rw [hV]; exact bel2 _ _ _
  have H1 := Lib.hid h1
  have H2 := Lib.hid h2
  have HM := Lib.hid hm
  have HN := Lib.hid hn
  have k0 : V.heap[w.heap.size]? = some (.cells #[.slice A1 m c1, .slice A2 n c2, .int .i64 s] 64) := by rw [hV]; exact box_alloc (box_new _ _) _
  have k1 : V.heap[w.heap.size + 1]? = some (.cells #[.slice none 0 0, .slice none 0 0, .int .i64 0] 64) := by rw [hV]; have h := box_new (w.alloc (.cells #[.slice A1 m c1, .slice A2 n c2, .int .i64 s] 64)) (.cells #[.slice none 0 0, .slice none 0 0, .int .i64 0] 64); simpa using h
  have hsV : V.heap.size = w.heap.size + 1 + 1 := by rw [hV]; simp
  have HSV := Lib.hid hsV
  clear h1 h2 hm hn hf hsV
  go_enter Try.func77, Try.ntmps77
  go_wp2_with fail
  rw [← hV]
  have HVV := Lib.hid hV
  clear hV
  have c0 : V.cell? ⟨w.heap.size, 0, none⟩ = some (.slice A1 m c1) := box_cell k0 0 _ rfl
  have c1' : V.cell? ⟨w.heap.size, 1, none⟩ = some (.slice A2 n c2) := box_cell k0 1 _ rfl
  have c2' : V.cell? ⟨w.heap.size, 2, none⟩ = some (.int .i64 s) := box_cell k0 2 _ rfl
  have e0 : V.cell? ⟨w.heap.size + 1, 0, none⟩ = some (.slice none 0 0) := box_cell k1 0 _ rfl
  have K0 := Lib.hid k0
  have K1 := Lib.hid k1
  clear k0 k1
  go_region_held3 (fun w' => w'.cell? ⟨w.heap.size, 0, none⟩ = some (.slice A1 m c1) ∧ w'.cell? ⟨w.heap.size, 1, none⟩ = some (.slice A2 n c2) ∧ w'.cell? ⟨w.heap.size, 2, none⟩ = some (.int .i64 s))
    (first | go_keep | (refine ⟨cell_keep hb2 ?_, cell_keep hb2 ?_, cell_keep hb2 ?_⟩ <;> simp only [*]) | (refine ⟨cell_keep hb1 ?_, cell_keep hb1 ?_, cell_keep hb1 ?_⟩ <;> simp only [*]))
    (first | (have hb1n := hb1; go_at_call 116; refine (l04Bytes_any A2 n c2 y B _ (by exact H2.out.below (hbV.trans (hb1'.mono hbV.size)) hB) (by exact Nat.le_trans hB (Nat.le_trans hbV.size hb1'.size)) hy).mono ?_; rintro e w2 ⟨A4, n4, c4, rfl, hO2, hb2⟩; have HO2 := Lib.hid hO2; clear hO2 hb1n; obtain ⟨r0, r1, r2, s0, s1, s2⟩ := box3 (box_below (box_below K1.out hb1') hb2)) | (go_at_call 116; refine (l04Bytes_any A1 m c1 x B _ (by exact H1.out.below hbV.drew hB) (by exact Nat.le_trans hB hbV.size) hx).mono ?_; rintro e w1 ⟨A3, n3, c3, rfl, hO1, hb1⟩; have hb1' : Below V.heap.size V w1 := undrew hb1; have HO1 := Lib.hid hO1; clear hO1))
  all_goals
    have hL1 : ∀ k, (Value.slice A3 n3 c3).ownBlock = some k → V.heap.size ≤ k ∧ k < w1.heap.size := fun k hk => HO1.out.lt k hk
    have h12 : OwnB w2 w.heap.size A3 n3 c3 x := own_base (HO1.out.below hb2) (fun k hk => by have := hL1 k hk; have := hbV.size; omega)
    have hb02 : Below w.heap.size w w2 := bel_then (bel_then hbV hb1' hbV.size) hb2 (Nat.le_trans hbV.size hb1'.size)
    have H12 := Lib.hid h12
    have HB02 := Lib.hid hb02
    have HL1 := Lib.hid hL1
    have HS1 := Lib.hid hb1'.size
    have HS2 := Lib.hid hb2.size
    have HSB := Lib.hid hbV.size
    have HE3 : Hid (n3 = x.length) := HO1.out.1.symm
    have HE4 : Hid (n4 = y.length) := HO2.out.1.symm
    clear h12 hb02 hL1 hb1 hb1' hb2 HO1 c0 c1' c2' e0
    go_wp2
    refine bodyPost_ret (v := .agg #[.slice A3 n3 c3, .slice A4 n4 c4, .int .i64 s]) (by simp [results, Try.results77, go_sem, r0, r1, r2]) rfl ?_
    refine made_of (w5 := w2) (w4 := w1) HB02.out H12.out HO2.out (fun k hk => ?_) HS2.out (Nat.le_trans HSB.out HS1.out) HE3.out HE4.out (sets3 (S := fun k => k = w.heap.size + 1) rfl rfl rfl) (fun k hk => ?_) (fun k hk => by omega)
    · have := HL1.out k hk; have := HSV.out; omega
    · have := HS1.out; have := HSV.out; omega
theorem has_cap {w : World} {lo hi : Nat} {S : Nat → Prop} {A1 A2 : Option Addr} {m n c1 c2 : Nat} {d : JD} {r : Int} (h : Has jty w lo hi S (.agg #[.slice A1 m c1, .slice A2 n c2, .int .i64 r]) d) : n ≤ c2 := by
  obtain ⟨⟨A1', c1', A2', c2', e, _, h2, _⟩, _⟩ := h
  simp only [Value.agg.injEq, Array.mk.injEq, List.cons.injEq, Value.slice.injEq] at e
  obtain ⟨_, ⟨rfl, rfl, rfl⟩, _⟩ := e
  rcases h2.2.2.2 with ⟨e, hn⟩ | ⟨g, cap, cur, e, _, _, h7, _⟩
  · omega
  · injection e with _ _ e3
    omega
theorem slice_to (A : Option Addr) (n c q : Nat) (hq : q ≤ c) (W : World) : (Instr.slice 22 (.slice A n c) none (some (.int .i64 q)) none).run Try.prog W = .ok (.slice A q c) W := by
  obtain ⟨i0, hi, hz0, hz1, hz2⟩ := info_parts infoByte
  rw [run_slice_h W 22 A n c (by kernel_rfl) .i64 q (by omega) (by omega)]
  have hs : (sizeOf (Try.prog.elem 22)).run Try.prog W = .ok 1 W := by
    have he : Try.prog.elem 22 = 5 := by kernel_rfl
    rw [he]
    simp [sizeOf, typeInfo, hi, hz1]
  rw [hs]
  have h0 : (if c = 0 then A else A.map (·.add (0 * 1))) = A := by
    split
    · rfl
    · cases A <;> simp [Addr.add]
  simpa [Result.andThen, sliced] using h0
end Go.Proofs.Ytpghccbknlokcaa.Jour
