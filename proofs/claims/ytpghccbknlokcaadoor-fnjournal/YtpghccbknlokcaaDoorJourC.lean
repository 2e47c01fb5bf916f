/-
  JOURNALS WHOSE SLICES HAVE ROOM FOR WHAT THEY HOLD: as Jour, with the capacities told; what a scan answers, in bounds.
-/
import Derived.Test.YtpghccbknlokcaaDoorJour
import Derived.Test.YtpghccbknlokcaaDoorScanV
namespace Go.Proofs.YtpghccbknlokcaaDoor.JourC
open Go.ChangeShapes Go.WideShapes Go.ChangeAt Go.RowKit Go.Joins Go.Deep
open Go.Proofs.YtpghccbknlokcaaDoor.Bytes Go.Proofs.YtpghccbknlokcaaDoor.LK Go.Proofs.YtpghccbknlokcaaDoor.Jour
set_option linter.unusedVariables false

def CRd (w : World) (B : Nat) (v : Value) (d : JD) : Prop := ∃ A1 c1 A2 c2, v = .agg #[.slice A1 d.1.length c1, .slice A2 d.2.1.length c2, .int .i64 d.2.2] ∧ IsBytes w B A1 d.1.length d.1 ∧ IsBytes w B A2 d.2.1.length d.2.1 ∧ d.1.length ≤ c1 ∧ d.2.1.length ≤ c2
theorem CRd.rd {w : World} {B : Nat} {v : Value} {d : JD} (h : CRd w B v d) : JRd w B v d := by
  obtain ⟨A1, c1, A2, c2, e, h1, h2, _⟩ := h
  exact ⟨A1, c1, A2, c2, e, h1, h2⟩
theorem own_room {w : World} {b : Nat} {A : Option Addr} {n c : Nat} {zs : List Int} (h : OwnB w b A n c zs) : n ≤ c := by
  rcases h.2.2.2 with ⟨e, hn⟩ | ⟨g, cap, cur, e, _, _, h7, _⟩
  · omega
  · injection e with _ _ e3
    omega
def cty : Ty where
  D := JD
  Rd := CRd
  Own := JOwn
  Few := jty.Few
  cnt := jty.cnt
  mark := jty.mark
  rd_below := by
    rintro w w' B C v d ⟨A1, c1, A2, c2, rfl, h1, h2, h3, h4⟩ hb hC
    exact ⟨A1, c1, A2, c2, rfl, h1.below hb hC, h2.below hb hC, h3, h4⟩
  own_rd := by
    rintro w S v d B ⟨A1, c1, A2, c2, rfl, h1, h2, s1, s2, _⟩ hB
    exact ⟨A1, c1, A2, c2, rfl, own_bytes h1 (fun k hk => hB k (s1 k hk)), own_bytes h2 (fun k hk => hB k (s2 k hk)), own_room h1, own_room h2⟩
  own_same := jty.own_same
  few_cnt := jty.few_cnt
theorem toC {w : World} {lo hi : Nat} {S : Nat → Prop} {v : Value} {d : JD} (h : Has jty w lo hi S v d) : Has cty w lo hi S v d := ⟨h.own, h.inn, h.hi⟩
theorem ofC {w : World} {lo hi : Nat} {S : Nat → Prop} {v : Value} {d : JD} (h : Has cty w lo hi S v d) : Has jty w lo hi S v d := ⟨h.own, h.inn, h.hi⟩
theorem made1C {w w' : World} {d : JD} {x : Value} {e : Ending} (h : Made1 jty d x w e w') : Made1 cty d x w e w' := by
  obtain ⟨v, S, e1, h1, h2⟩ := h
  exact ⟨v, S, e1, toC h1, h2⟩
theorem shape {w : World} {lo hi : Nat} {S : Nat → Prop} {v : Value} {d : JD} (h : Has cty w lo hi S v d) : ∃ A m c A' n c' s, v = .agg #[.slice A m c, .slice A' n c', .int .i64 s] := Jour.shape (ofC h)
theorem toJournal_any : ToC 18 cty := fun w B v d hr hB hf => (Jour.toJournal_any w B v d hr.rd hB hf).mono (by rintro e w' ⟨v', S, e1, h1, h2⟩; exact ⟨v', S, e1, toC h1, h2⟩)
theorem eqJournal_any : EqC 20 cty := fun w B B' v v' d hr hr' hB hB' hf => Jour.eqJournal_any w B B' v v' d hr.rd hr'.rd hB hB' hf
theorem markJournal_any : MarkC 21 cty := fun w lo hi S v d k h hf h0 h1 => (Jour.markJournal_any w lo hi S v d k (ofC h) hf h0 h1).mono (by rintro e w' ⟨e1, h2, h3⟩; exact ⟨e1, toC h2, h3⟩)
section
variable {H : Type} {enc : TypeId × Value → H} {w : World} {base : Nat} {spare : Nat → Bool} {held : Bool}
theorem bytes_room {fuel : Nat} {v : Value} {x : DataW H × List MemPlace} (h : DataW.trod enc Tryd.prog w base spare held fuel 22 [v] = some x) : ∃ A n c, v = .slice A n c ∧ n ≤ c := by
  rcases open_ints Tryd.underlying22 Tryd.underlying5 (by kernel_rfl) h with ⟨hcs, _⟩ | ⟨x, l, c, zs, hcs, _, hl, hm, hz, _, hcell, hwz⟩
  · injection hcs with hcs
    exact ⟨none, 0, 0, hcs, Nat.le_refl _⟩
  · injection hcs with hcs
    exact ⟨_, _, _, hcs, hl⟩
set_option maxRecDepth 100000 in
theorem open_journal {r : Reach} {b0 : Nat} {v : Value} {d : DataW H} {p : List MemPlace} (hv : Value.okWide Tryd.prog w r b0 43 v) (h : DataW.Trod enc Tryd.prog w base spare held 43 v d p) :
    ∃ A m c A' n c' s dd, v = .agg #[.slice A m c, .slice A' n c', .int .i64 s] ∧ cty.Rd w w.heap.size (.agg #[.slice A m c, .slice A' n c', .int .i64 s]) dd ∧ SzC 16 cty (.agg #[.slice A m c, .slice A' n c', .int .i64 s]) dd w ∧ (Lit.int .i64 dd.2.2).wf = true := by
  obtain ⟨v0, v1, v2, y0, y1, y2, n, rfl, _, _, h0, h1, h2⟩ := open_agg3 Tryd.underlying43 (by kernel_rfl) (by kernel_rfl) hv h
  obtain ⟨A1, n1, c1, x, e1, r1, l1⟩ := bytes_read h0
  obtain ⟨A2, n2, c2, y, e2, r2, l2⟩ := bytes_read h1
  obtain ⟨_, _, _, f1, g1⟩ := bytes_room h0
  obtain ⟨_, _, _, f2, g2⟩ := bytes_room h1
  subst e1 e2
  injection f1 with f11 f12 f13
  injection f2 with f21 f22 f23
  subst f11 f12 f13 f21 f22 f23
  obtain ⟨s, e0, hw0⟩ := DataW.trod_int Tryd.underlying3 h2
  injection e0 with e0
  subst e0
  obtain rfl : x.length = n1 := r1.1
  obtain rfl : y.length = n2 := r2.1
  exact ⟨_, _, _, _, _, _, _, (x, y, s), rfl, ⟨A1, c1, A2, c2, rfl, r1, r2, g1, g2⟩, szJournal_any A1 A2 c1 c2 (x, y, s) w l1 l2, hw0.2⟩
end

open Go.Proofs.YtpghccbknlokcaaDoor.Rd Go.Proofs.YtpghccbknlokcaaDoor.Rec in
theorem scan_end {bs : List Int} (hb : ∀ x ∈ bs, 0 ≤ x ∧ x < 256) : ∀ (d p : Nat) (acc : RList), bs.length - p ≤ d → Amid bs p acc → ∃ q acc' t, scanV bs = (acc', q, t) ∧ Amid bs q acc' := by
  intro d
  induction d with
  | zero =>
    intro p acc h1 h2
    exact ⟨p, acc, 0, amid_end h2 (by omega), h2⟩
  | succ d ih =>
    intro p acc h1 h2
    by_cases hp : p < bs.length
    · cases hr : recR bs p with
      | torn => exact ⟨p, acc, 1, amid_torn h2 hp hr, h2⟩
      | bent => exact ⟨p, acc, 2, amid_bent h2 hp hr, h2⟩
      | ok kd zs q =>
        obtain ⟨h3, h4, h5⟩ := amid_next hb h2 hp hr
        exact ih q _ (by omega) h3
    · exact ⟨p, acc, 0, amid_end h2 (by omega), h2⟩
open Go.Proofs.YtpghccbknlokcaaDoor.Rd Go.Proofs.YtpghccbknlokcaaDoor.Rec in
/-- A scan stands within the bytes; its records are small. -/
theorem scan_in {bs : List Int} (hb : ∀ x ∈ bs, 0 ≤ x ∧ x < 256) : (scanV bs).2.1 ≤ bs.length ∧ endR 1 (scanV bs).1 + 3 * ((scanV bs).1.length : Int) ≤ 1 + (bs.length : Int) ∧ ∀ r ∈ (scanV bs).1, r.2.length ≤ 12 := by
  obtain ⟨q, acc, t, hs, k, _, _, h1, h2, h3⟩ := scan_end hb bs.length 0 [] (by omega) (amid_start bs)
  rw [hs]
  exact ⟨h1, by show endR 1 acc + 3 * (acc.length : Int) ≤ _; omega, h3⟩
end Go.Proofs.YtpghccbknlokcaaDoor.JourC
