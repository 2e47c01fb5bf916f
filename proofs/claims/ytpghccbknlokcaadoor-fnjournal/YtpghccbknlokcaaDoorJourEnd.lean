/-
  WHAT FnJournal COMES TO, on lists: a journal of whole frames, crashed, mended, read, packed and read again.
-/
import Derived.Test.YtpghccbknlokcaaDoorScanCat
import Derived.Test.YtpghccbknlokcaaDoorJourRead
import Derived.Test.YtpghccbknlokcaaDoorJourComp
import Derived.Test.YtpghccbknlokcaaDoorJourCrash
namespace Go.Proofs.YtpghccbknlokcaaDoor.JL
open Go.Proofs.YtpghccbknlokcaaDoor.Rd (catF catF_app catF_cons catF_in scanV scan_cut1 scan_all0)
open Go.Proofs.YtpghccbknlokcaaDoor.Rec (recB frameT frameV frame_t frame_len RList)
open Go.Proofs.YtpghccbknlokcaaDoor.Jour
set_option linter.unusedVariables false

def AllOk (rs : RList) : Prop := ∀ r ∈ rs, recB r.1 r.2 = true
theorem catF_len {rs : RList} (h : AllOk rs) : (catF rs).length ≤ 76 * rs.length := by
  induction rs with
  | nil => simp [catF]
  | cons r rs ih =>
    have h1 := ih (fun x hx => h x (List.mem_cons_of_mem _ hx))
    have h2 := frame_len r.1 r.2
    rw [frame_t (h r (List.mem_cons_self ..))] at h2
    rw [catF_cons, List.length_append, List.length_cons]
    omega
theorem catF_snoc (rs : RList) (r : Int × List Int) : catF (rs ++ [r]) = catF rs ++ frameT r.1 r.2 := by rw [catF_app, catF_cons]; simp [catF]
theorem all_snoc {rs : RList} {r : Int × List Int} (h : AllOk rs) (hr : recB r.1 r.2 = true) : AllOk (rs ++ [r]) := by
  intro x hx
  rcases List.mem_append.1 hx with hx | hx
  · exact h x hx
  · obtain rfl : x = r := by simpa using hx
    exact hr
theorem all_left {a b : RList} (h : AllOk (a ++ b)) : AllOk a := fun x hx => h x (List.mem_append_left _ hx)
theorem take_le (rs : RList) (k : Nat) : (catF (rs.take k)).length ≤ (catF rs).length := by
  have h : catF rs = catF (rs.take k) ++ catF (rs.drop k) := by rw [← catF_app, List.take_append_drop]
  rw [h, List.length_append]; omega
/-- The journal behind the appends: sf records are safe. -/
def atD (rs : RList) (sf : Nat) : JD := ([], catF rs, ((catF (rs.take sf)).length : Int))
theorem at_ok {rs : RList} {sf : Nat} (h : AllOk rs) (hl : rs.length ≤ 30) : jok (atD rs sf) = true := by
  have h1 := catF_len h
  have h2 := take_le rs sf
  have e1 : decide ((([] : List Int).length : Int) ≤ 3000) = true := by simp
  have e2 : decide (((catF rs).length : Int) ≤ 3000) = true := by simp; omega
  have e3 : Tick.inB ((catF (rs.take sf)).length : Int) 0 (catF rs).length = true := by simp only [Tick.inB, Bool.and_eq_true, decide_eq_true_eq]; omega
  show (decide ((([] : List Int).length : Int) ≤ 3000) && decide (((catF rs).length : Int) ≤ 3000) && Tick.inB ((catF (rs.take sf)).length : Int) 0 (catF rs).length) = true
  rw [e1, e2, e3]
  rfl
theorem at_few {rs : RList} {sf : Nat} (h : AllOk rs) (hl : rs.length ≤ 30) : jty.Few (atD rs sf) := by
  have h1 := catF_len h
  show ([] : List Int).length + (catF rs).length ≤ 1048576
  simp; omega
theorem app_val {rs : RList} {sf : Nat} {r : Int × List Int} (h : AllOk rs) (hl : rs.length < 30) (hs : sf ≤ rs.length) (hr : recB r.1 r.2 = true) : appB (atD rs sf) r = true ∧ appD (atD rs sf) r = atD (rs ++ [r]) sf := by
  have h1 := catF_len h
  have h2 := frame_len r.1 r.2
  have hb : appB (atD rs sf) r = true := by
    have h3 : jok (atD rs sf) = true := at_ok h (by omega)
    simp only [appB, h3, hr, Bool.true_and, decide_eq_true_eq]
    show (catF rs).length + _ ≤ 3000
    omega
  refine ⟨hb, ?_⟩
  rw [appD_t hb]
  show ([], catF rs ++ frameV r.1 r.2, _) = atD (rs ++ [r]) sf
  rw [frame_t hr, ← catF_snoc]
  unfold atD
  rw [List.take_append_of_le_length hs]
theorem sync_val {rs : RList} {sf : Nat} (h : AllOk rs) (hl : rs.length ≤ 30) : syncD (atD rs sf) = atD rs rs.length := by
  unfold syncD
  rw [at_ok h hl]
  show ([], catF rs, ((catF rs).length : Int)) = _
  unfold atD
  rw [List.take_of_length_le (Nat.le_refl _)]
/-- All that follows, of a journal of whole frames. -/
theorem ends {rs : RList} {sf : Nat} (h : AllOk rs) (hl : rs.length ≤ 30) (hs : sf ≤ rs.length) (k : Int) :
    ∃ a b, rs = a ++ b ∧ sf ≤ a.length ∧ AllOk a ∧ a.length ≤ 30 ∧ mendD (crashD (atD rs sf) k) = ([], catF a, ((catF a).length : Int)) ∧ 0 ≤ lostV (crashD (atD rs sf) k) ∧
      readB ([], catF a, ((catF a).length : Int)) = true ∧ readD ([], catF a, ((catF a).length : Int)) = a ∧ mendD ([], catF a, ((catF a).length : Int)) = ([], catF a, ((catF a).length : Int)) ∧ lostV ([], catF a, ((catF a).length : Int)) = 0 ∧
      compB ([], catF a, ((catF a).length : Int)) a = true ∧ compD ([], catF a, ((catF a).length : Int)) a = (catF a, [], 0) ∧ readB (catF a, [], 0) = true ∧ readD (catF a, [], 0) = a ∧ roomV (catF a, [], 0) = 3000 ∧ jok (catF a, [], 0) = true := by
  have hj := at_ok (sf := sf) h hl
  have h1 := catF_len h
  have ht := take_le rs sf
  obtain ⟨q, hq⟩ : ∃ q, q = keepN (atD rs sf) k := ⟨_, rfl⟩
  have hq1 : q ≤ (catF rs).length := by rw [hq]; exact keepN_le hj k
  have hq0 : (catF (rs.take sf)).length ≤ q := by
    have e : q = (((catF (rs.take sf)).length : Int) + min (max k 0) (((catF rs).length : Int) - ((catF (rs.take sf)).length : Int))).toNat := hq
    omega
  have hc : crashD (atD rs sf) k = ([], (catF rs).take q, (q : Int)) := by
    unfold crashD
    rw [hj, ← hq]
    rfl
  obtain ⟨a, b, t, e, ha, hsc, _, hmax⟩ := scan_cut1 h hq1
  have hla : a.length ≤ 30 := by rw [e] at hl; simp at hl; omega
  have hA : AllOk a := all_left (b := b) (by rw [← e]; exact h)
  have hca := catF_len hA
  have hsa : sf ≤ a.length := by
    by_cases hlt : sf ≤ a.length
    · exact hlt
    · match b, e, hmax with
      | [], e, _ => rw [e] at hs; simp at hs; omega
      | r :: b, e, hmax =>
        have h5 := hmax r b rfl
        have h6 : rs.take sf = (a ++ [r]) ++ (b.take (sf - a.length - 1)) := by
          rw [e]
          rw [show a ++ r :: b = (a ++ [r]) ++ b by simp, List.take_append, List.take_of_length_le (by simp; omega)]
          simp
          congr 1
        rw [h6, catF_app, catF_snoc, List.length_append, List.length_append] at hq0
        omega
  have hlq : ((catF rs).take q).length = q := by simp; omega
  have hjc : jok ([], (catF rs).take q, (q : Int)) = true := by
    simp [jok, Tick.inB]
    omega
  have hjm : jok ([], catF a, ((catF a).length : Int)) = true := by
    simp [jok, Tick.inB]
    omega
  have hjp : jok (catF a, [], 0) = true := by
    simp [jok, Tick.inB]
    omega
  have hall := scan_all0 hA
  have hnil : scanV [] = ([], 0, 0) := by have := scan_all0 (rs := []) (fun r hr => by cases hr); simpa [catF] using this
  have hfr : frameT = frameT := rfl
  have htk : ((catF rs).take q).take (catF a).length = catF a := by
    rw [List.take_take, Nat.min_eq_left ha, e, catF_app, List.take_left]
  have hpk : ∀ (l : RList) (acc : List Int), AllOk l → acc.length + (catF l).length ≤ 3000 → packV acc l = some (acc ++ catF l) := by
    intro l
    induction l with
    | nil => intro acc _ _; simp [packV, catF]
    | cons r l ih =>
      intro acc hl hle
      have hr := hl r (List.mem_cons_self ..)
      rw [catF_cons, List.length_append] at hle
      simp only [packV]
      rw [hr, frame_t hr, if_pos (by simp; omega), ih _ (fun x hx => hl x (List.mem_cons_of_mem _ hx)) (by rw [List.length_append]; omega), catF_cons, List.append_assoc]
  have hp : packV [] a = some (catF a) := by have := hpk a [] hA (by simp; omega); simpa using this
  refine ⟨a, b, e, hsa, hA, hla, ?_, ?_, ?_, ?_, ?_, ?_, (comp_3 hjm hp).1, (comp_3 hjm hp).2, ?_, ?_, ?_, hjp⟩
  · rw [hc, mendD_t hjc]
    show ([], ((catF rs).take q).take (scanV ((catF rs).take q)).2.1, _) = _
    rw [hsc]
    show ([], ((catF rs).take q).take (catF a).length, _) = _
    rw [htk]
  · rw [hc, lostV_t hjc]
    show 0 ≤ (((catF rs).take q).length : Int) - (scanV ((catF rs).take q)).2.1
    rw [hsc, hlq]
    show (0 : Int) ≤ q - ((catF a).length : Nat)
    omega
  · exact read_3 hjm (by show (scanV []).2.2 = 0; rw [hnil])
  · rw [readD_t (read_3 hjm (by show (scanV []).2.2 = 0; rw [hnil]))]
    show (scanV []).1 ++ (scanV (catF a)).1 = a
    rw [hnil, hall]
    rfl
  · rw [mendD_t hjm]
    show ([], (catF a).take (scanV (catF a)).2.1, _) = _
    rw [hall]
    show ([], (catF a).take (catF a).length, _) = _
    rw [List.take_of_length_le (Nat.le_refl _)]
  · rw [lostV_t hjm]
    show ((catF a).length : Int) - (scanV (catF a)).2.1 = 0
    rw [hall]
    show ((catF a).length : Int) - ((catF a).length : Nat) = 0
    omega
  · exact read_3 hjp (by show (scanV (catF a)).2.2 = 0; rw [hall])
  · rw [readD_t (read_3 hjp (by show (scanV (catF a)).2.2 = 0; rw [hall]))]
    show (scanV (catF a)).1 ++ (scanV []).1 = a
    rw [hall, hnil]
    exact List.append_nil a
  · unfold roomV
    rw [hjp]
    show (3000 : Int) - (([] : List Int).length : Int) = 3000
    simp
end Go.Proofs.YtpghccbknlokcaaDoor.JL
