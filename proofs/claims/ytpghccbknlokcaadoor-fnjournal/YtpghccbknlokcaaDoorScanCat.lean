/-
  FRAMES ONE BEHIND THE OTHER, on lists: they are read as the records; cut anywhere the whole ones are, and what is left is nothing or torn.
-/
import Derived.Test.YtpghccbknlokcaaDoorFrameV
namespace Go.Proofs.YtpghccbknlokcaaDoor.Rd
open Go.Proofs.YtpghccbknlokcaaDoor.Rec (recB frameT frameV frame_t frame_in RList)
set_option linter.unusedVariables false

/-- The frames of the records, one behind the other. -/
def catF (rs : RList) : List Int := rs.flatMap fun r => frameT r.1 r.2
theorem catF_app (a b : RList) : catF (a ++ b) = catF a ++ catF b := by simp [catF]
theorem catF_cons (r : Int × List Int) (b : RList) : catF (r :: b) = frameT r.1 r.2 ++ catF b := by simp [catF]
theorem catF_in {rs : RList} (h : ∀ r ∈ rs, recB r.1 r.2 = true) : ∀ x ∈ catF rs, 0 ≤ x ∧ x < 256 := by
  intro x hx
  obtain ⟨r, hr, hx⟩ := List.mem_flatMap.mp hx
  rw [← frame_t (h r hr)] at hx
  exact frame_in x hx
theorem take_in {bs : List Int} (h : ∀ x ∈ bs, 0 ≤ x ∧ x < 256) (c : Nat) : ∀ x ∈ bs.take c, 0 ≤ x ∧ x < 256 := fun x hx => h x (List.mem_of_mem_take hx)

/-- What a scan of the frames, cut behind c bytes, comes to. -/
theorem scan_cut {rs : RList} (h : ∀ r ∈ rs, recB r.1 r.2 = true) {c : Nat} (hc : c ≤ (catF rs).length) : ∀ (d : Nat) (a b : RList), rs = a ++ b → b.length ≤ d → (catF a).length ≤ c → Amid ((catF rs).take c) (catF a).length a →
    ∃ (a' b' : RList) (t : Int), rs = a' ++ b' ∧ (catF a').length ≤ c ∧ scanV ((catF rs).take c) = (a', (catF a').length, t) ∧ (((catF a').length = c ∧ t = 0) ∨ ((catF a').length < c ∧ t = 1)) ∧ ∀ r b'', b' = r :: b'' → c < (catF a').length + (frameT r.1 r.2).length
  | d, a, b, e, hd, ha, hA => by
    have hl : ((catF rs).take c).length = c := by simp; omega
    have hin := catF_in h
    by_cases hac : (catF a).length = c
    · exact ⟨a, b, 0, e, ha, by rw [amid_end hA (by omega)], .inl ⟨hac, rfl⟩, fun r b'' _ => (by have h9 : 0 < (frameT r.1 r.2).length := (by simp [Rec.frameT]); omega)⟩
    · match b, e with
      | [], e =>
        rw [List.append_nil] at e
        rw [e] at hc
        omega
      | r :: b, e =>
        have hrr : recB r.1 r.2 = true := h r (by rw [e]; simp)
        have hdr : (catF rs).drop (catF a).length = frameT r.1 r.2 ++ catF b := by
          rw [e, catF_app, catF_cons, List.drop_left]
        have hd2 : ((catF rs).take c).drop (catF a).length = (frameT r.1 r.2 ++ catF b).take (c - (catF a).length) := by
          rw [List.drop_take, hdr]
        have hup := recR_drop ((catF rs).take c) (catF a).length (by omega)
        rw [hd2] at hup
        have hok := recR_frame (post := catF b) hrr
        by_cases hfit : (catF a).length + (frameT r.1 r.2).length ≤ c
        · have htk : (frameT r.1 r.2 ++ catF b).take (c - (catF a).length) = frameT r.1 r.2 ++ (catF b).take (c - (catF a).length - (frameT r.1 r.2).length) := by
            rw [List.take_append, List.take_of_length_le (by omega)]
          rw [htk, recR_frame hrr] at hup
          have hnx := amid_next (take_in hin c) hA (by omega) hup
          have hlen : (catF (a ++ [r])).length = (catF a).length + (frameT r.1 r.2).length := by rw [catF_app, catF_cons]; simp [catF]
          match d, hd with
          | 0, hd => simp at hd
          | d + 1, hd =>
            refine scan_cut h hc d (a ++ [r]) b (by rw [e]; simp) (by simp at hd; omega) (by omega) ?_
            rw [hlen]
            exact hnx.1
        · have hin2 : ∀ x ∈ frameT r.1 r.2 ++ catF b, 0 ≤ x ∧ x < 256 := fun x hx => hin x (by rw [← hdr] at hx; exact List.mem_of_mem_drop hx)
          have htn := recR_take hin2 hok (c := c - (catF a).length) (by omega)
          rw [htn] at hup
          exact ⟨a, r :: b, 1, e, ha, by rw [amid_torn hA (by omega) hup], .inr ⟨by omega, rfl⟩, fun r' b'' e' => by injection e' with e1 _; subst e1; omega⟩
theorem scan_cut1 {rs : RList} (h : ∀ r ∈ rs, recB r.1 r.2 = true) {c : Nat} (hc : c ≤ (catF rs).length) :
    ∃ (a' b' : RList) (t : Int), rs = a' ++ b' ∧ (catF a').length ≤ c ∧ scanV ((catF rs).take c) = (a', (catF a').length, t) ∧ (((catF a').length = c ∧ t = 0) ∨ ((catF a').length < c ∧ t = 1)) ∧ ∀ r b'', b' = r :: b'' → c < (catF a').length + (frameT r.1 r.2).length :=
  scan_cut h hc rs.length [] rs rfl (Nat.le_refl _) (by simp [catF]) (amid_start _)
theorem scan_cut0 {rs : RList} (h : ∀ r ∈ rs, recB r.1 r.2 = true) {c : Nat} (hc : c ≤ (catF rs).length) :
    ∃ (a' b' : RList) (t : Int), rs = a' ++ b' ∧ (catF a').length ≤ c ∧ scanV ((catF rs).take c) = (a', (catF a').length, t) ∧ (((catF a').length = c ∧ t = 0) ∨ ((catF a').length < c ∧ t = 1)) := by
  obtain ⟨a', b', t, h1, h2, h3, h4, _⟩ := scan_cut1 h hc
  exact ⟨a', b', t, h1, h2, h3, h4⟩
/-- The frames whole are read as the records, and nothing is left. -/
theorem scan_all {rs : RList} (h : ∀ r ∈ rs, recB r.1 r.2 = true) : ∀ (b a : RList), rs = a ++ b → Amid (catF rs) (catF a).length a → scanV (catF rs) = (rs, (catF rs).length, 0)
  | [], a, e, hA => by
    rw [List.append_nil] at e
    subst e
    exact amid_end hA (Nat.le_refl _)
  | r :: b, a, e, hA => by
    have hrr : recB r.1 r.2 = true := h r (by rw [e]; simp)
    have hdr : (catF rs).drop (catF a).length = frameT r.1 r.2 ++ catF b := by
      rw [e, catF_app, catF_cons, List.drop_left]
    have hle : (catF a).length ≤ (catF rs).length := by rw [e, catF_app, List.length_append]; omega
    have hup := recR_drop (catF rs) (catF a).length hle
    have hok := recR_frame (post := catF b) hrr
    rw [hdr, hok] at hup
    have hfl : 4 ≤ (frameT r.1 r.2).length := by
      have hx : ∀ x ∈ frameT r.1 r.2 ++ catF b, 0 ≤ x ∧ x < 256 := fun x hx => catF_in h x (by rw [← hdr] at hx; exact List.mem_of_mem_drop hx)
      have := (recR_ok hx hok).1
      omega
    have hlt : (catF a).length < (catF rs).length := by rw [e, catF_app, catF_cons, List.length_append, List.length_append]; omega
    have hnx := amid_next (catF_in h) hA hlt hup
    have hlen : (catF (a ++ [r])).length = (catF a).length + (frameT r.1 r.2).length := by rw [catF_app, catF_cons]; simp [catF]
    refine scan_all h b (a ++ [r]) (by rw [e]; simp) ?_
    rw [hlen]
    exact hnx.1
theorem scan_all0 {rs : RList} (h : ∀ r ∈ rs, recB r.1 r.2 = true) : scanV (catF rs) = (rs, (catF rs).length, 0) :=
  scan_all h rs [] rfl (amid_start _)
end Go.Proofs.YtpghccbknlokcaaDoor.Rd
