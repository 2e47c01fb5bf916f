/-
  THE PROGRAM's BOOK: the contracts of bookOf, sameJournal and the book's methods, over this seat's translation.
-/
import Derived.Test.YtpghccbknlokcaaDoorJourImpl
namespace Go.Proofs.YtpghccbknlokcaaDoor.Jour
open Go.ChangeShapes Go.WideShapes Go.ChangeAt Go.RowKit
open Go.Proofs.YtpghccbknlokcaaDoor.Bytes Go.Proofs.YtpghccbknlokcaaDoor.LK
open Go.Proofs.YtpghccbknlokcaaDoor.Tick (inB in_t in_f l01In_any)
set_option linter.unusedVariables false
set_option linter.unusedSimpArgs false

/-- The book at pb with its file at pf: d at work, all of it from lo on. -/
structure Book (w : World) (lo pb pf : Nat) (A1 A2 : Option Addr) (c1 c2 : Nat) (d : JD) : Prop where
  hb : w.heap[pb]? = some (.cells #[.iface 71 (fp pf), .slice A1 d.1.length c1] 57)
  hf : w.heap[pf]? = some (fileO A2 d.2.1.length c2 d.2.2)
  o1 : OwnB w lo A1 d.1.length c1 d.1
  o2 : OwnB w lo A2 d.2.1.length c2 d.2.1
  ap : ∀ k, (Value.slice A1 d.1.length c1).ownBlock = some k → (Value.slice A2 d.2.1.length c2).ownBlock ≠ some k
  lb : lo ≤ pb
  lf : lo ≤ pf
theorem row_not {w : World} {b k : Nat} {A : Option Addr} {n c : Nat} {zs : List Int} {cs : Array Value} {t : TypeId} {fr : Nat × Nat} (h : OwnB w b A n c zs) (hk : (Value.slice A n c).ownBlock = some k) (ht : t ≠ 5) : w.heap[k]? ≠ some (.cells cs t fr) := by
  rcases h.2.2.2 with ⟨e, _⟩ | ⟨g, cap, cur, e, _, h6, _⟩
  · rw [e] at hk; cases hk
  · rw [e] at hk
    have : g = k := by simpa [Value.ownBlock] using hk
    subst this
    rw [h6]
    intro e5
    injection e5 with e5
    injection e5 with _ e6 _
    exact ht e6.symm
theorem Book.ne {w : World} {lo pb pf : Nat} {A1 A2 : Option Addr} {c1 c2 : Nat} {d : JD} (h : Book w lo pb pf A1 A2 c1 c2 d) : pb ≠ pf := by
  intro e
  have h1 := h.hb
  rw [e, h.hf] at h1
  injection h1 with h1
  injection h1 with _ h2 _
  cases h2
theorem Book.n1 {w : World} {lo pb pf : Nat} {A1 A2 : Option Addr} {c1 c2 : Nat} {d : JD} (h : Book w lo pb pf A1 A2 c1 c2 d) : ∀ k, (Value.slice A1 d.1.length c1).ownBlock = some k → k ≠ pb ∧ k ≠ pf := fun k hk =>
  ⟨by intro e; subst e; exact row_not h.o1 hk (by decide) h.hb, by intro e; subst e; exact row_not h.o1 hk (by decide) h.hf⟩
theorem Book.n2 {w : World} {lo pb pf : Nat} {A1 A2 : Option Addr} {c1 c2 : Nat} {d : JD} (h : Book w lo pb pf A1 A2 c1 c2 d) : ∀ k, (Value.slice A2 d.2.1.length c2).ownBlock = some k → k ≠ pb ∧ k ≠ pf := fun k hk =>
  ⟨by intro e; subst e; exact row_not h.o2 hk (by decide) h.hb, by intro e; subst e; exact row_not h.o2 hk (by decide) h.hf⟩
theorem Book.below {w w' : World} {lo pb pf : Nat} {A1 A2 : Option Addr} {c1 c2 : Nat} {d : JD} (h : Book w lo pb pf A1 A2 c1 c2 d) (hb : Below w.heap.size w w') : Book w' lo pb pf A1 A2 c1 c2 d :=
  ⟨box_below h.hb hb, box_below h.hf hb, h.o1.below hb, h.o2.below hb, h.ap, h.lb, h.lf⟩

/-- What the book's journal leaves. -/
def BookGives (w : World) (lo : Nat) (d : JD) (e : Ending) (w' : World) : Prop := ∃ v, e = .returned v ∧ Has jty w' lo w'.heap.size (fun k => lo ≤ k ∧ k < w'.heap.size) v d ∧ Below w.heap.size w w'
theorem book_gives {w X : World} {lo pb pf : Nat} {A1 A2 : Option Addr} {c1 c2 : Nat} {d : JD} (h : Book w lo pb pf A1 A2 c1 c2 d) (hb : Below w.heap.size w X) :
    BookGives w lo d (.returned (.agg #[.slice A1 d.1.length c1, .slice A2 d.2.1.length c2, .int .i64 d.2.2])) X := by
  have h1 := h.o1.below hb
  have h2 := h.o2.below hb
  exact ⟨_, rfl, ⟨⟨A1, c1, A2, c2, rfl, own_zero h1, own_zero h2, fun k hk => h1.lt k hk, fun k hk => h2.lt k hk, h.ap⟩, fun k hk => hk, Nat.le_refl _⟩, hb⟩
theorem mHeld (v : Value) (w : World) : (Go.method 248 71 v "loop.example/g00734/impl.held").run Tryd.prog w = .ok (83, v) w := by kernel_rfl
theorem mSynced (v : Value) (w : World) : (Go.method 248 71 v "loop.example/g00734/impl.synced").run Tryd.prog w = .ok (86, v) w := by kernel_rfl
theorem mRoom (v : Value) (w : World) : (Go.method 248 71 v "loop.example/g00734/impl.room").run Tryd.prog w = .ok (84, v) w := by kernel_rfl
theorem mSync (v : Value) (w : World) : (Go.method 248 71 v "loop.example/g00734/impl.sync").run Tryd.prog w = .ok (85, v) w := by kernel_rfl
theorem mCut (v : Value) (w : World) : (Go.method 248 71 v "loop.example/g00734/impl.cut").run Tryd.prog w = .ok (82, v) w := by kernel_rfl
theorem mWrite (v : Value) (w : World) : (Go.method 248 71 v "loop.example/g00734/impl.write").run Tryd.prog w = .ok (87, v) w := by kernel_rfl

set_option maxRecDepth 100000 in
set_option maxHeartbeats 3200000 in
theorem journal_any (w : World) (lo pb pf : Nat) (A1 A2 : Option Addr) (c1 c2 : Nat) (d : JD) (h : Book w lo pb pf A1 A2 c1 c2 d) (hlo : lo ≤ w.heap.size) :
    Calls Tryd.prog 28 #[.pointer (some ⟨pb, 0, none⟩)] w (BookGives w lo d) := by
  obtain ⟨x, y, s⟩ := d
  obtain ⟨m, hm⟩ : ∃ m, m = (x, y, s).1.length := ⟨_, rfl⟩
  obtain ⟨n, hn⟩ : ∃ n, n = (x, y, s).2.1.length := ⟨_, rfl⟩
  have H := Lib.hid h
  have k1 := h.hb
  have k2 := h.hf
  rw [← hm] at k1
  rw [← hn] at k2
  have k2 : w.heap[pf]? = some (fileO A2 n c2 s) := k2
  have HM := Lib.hid hm
  have HN := Lib.hid hn
  clear h hm hn
  have hl1 := box_lt k1
  have hl2 := box_lt k2
  obtain ⟨b0, b1, _, _⟩ := box2 k1
  have K1 := Lib.hid k1
  have K2 := Lib.hid k2
  clear k1 k2
  have m1 := mHeld
  have m2 := mSynced
  obtain ⟨V, hV⟩ : ∃ V, V = w.alloc (.cells #[.slice none 0 0, .slice none 0 0, .int .i64 0] 25) := ⟨_, rfl⟩
  have hbV : Below w.heap.size w V := by rw [hV]; exact bel1 _ _
  have k3 : V.heap[w.heap.size]? = some (.cells #[.slice none 0 0, .slice none 0 0, .int .i64 0] 25) := by rw [hV]; exact box_new _ _
  obtain ⟨r0, r1, r2, f0, f1, f2⟩ := box3 k3
  have KV2 : Hid (V.heap[pf]? = some (fileO A2 n c2 s)) := box_below K2.out hbV
  obtain ⟨d0, d1, _, _⟩ := box2 (box_below K1.out hbV)
  have hsV : V.heap.size = w.heap.size + 1 := by rw [hV]; simp
  have HSV := Lib.hid hsV
  clear k3 hsV b0 b1
  go_enter Tryd.func28, Tryd.ntmps28
  go_wp2_with fail
  rw [← hV]
  clear hV
  have hne : pb ≠ w.heap.size := by omega
  go_region_held3 (fun w' => w'.cell? ⟨pb, 0, none⟩ = some (.iface 71 (fp pf)) ∧ w'.cell? ⟨pb, 1, none⟩ = some (.slice A1 m c1))
    (first | (go_keep; done) | exact ⟨far3 hne d0, far3 hne d1⟩)
    (first | (go_at_call 83; refine (held_any pf A2 n c2 s _ (by exact KV2.out)).mono ?_; rintro e w1 ⟨rfl, rfl⟩) | (go_at_call 86; refine (synced_any pf A2 n c2 s _ (by exact KV2.out)).mono ?_; rintro e w2 ⟨rfl, rfl⟩))
  have HX : Hid (Below w.heap.size w (((V.setCell ⟨w.heap.size, 0, none⟩ (.slice A1 m c1)).setCell ⟨w.heap.size, 1, none⟩ (.slice A2 n c2)).setCell ⟨w.heap.size, 2, none⟩ (.int .i64 s)).drew) :=
    (((hbV.setCell (p := ⟨w.heap.size, 0, none⟩) (Nat.le_refl _) _).setCell (p := ⟨w.heap.size, 1, none⟩) (Nat.le_refl _) _).setCell (p := ⟨w.heap.size, 2, none⟩) (Nat.le_refl _) _).drew
  go_wp2
  refine bodyPost_ret (v := .agg #[.slice A1 m c1, .slice A2 n c2, .int .i64 s]) (by simp [results, Tryd.results28, go_sem, r0, r1, r2]) rfl ?_
  have h5 := book_gives H.out HX.out
  rw [← HM.out, ← HN.out] at h5
  exact h5
set_option maxRecDepth 100000 in
set_option maxHeartbeats 3200000 in
theorem sameJournal_any (w : World) (B : Nat) (v : Value) (d : JD) (hr : JRd w B v d) (hB : B ≤ w.heap.size) (hf : jty.Few d) :
    Calls Tryd.prog 27 #[v] w (Made jty d w) := by
  obtain ⟨x, y, s⟩ := d
  obtain ⟨A1, c1, A2, c2, rfl, h1, h2⟩ := hr
  have hf : x.length + y.length ≤ 1048576 := hf
  have h1 : IsBytes w B A1 x.length x := h1
  have h2 : IsBytes w B A2 y.length y := h2
  show Calls Tryd.prog 27 #[.agg #[.slice A1 x.length c1, .slice A2 y.length c2, .int .i64 s]] w _
  obtain ⟨m, hm⟩ : ∃ m, m = x.length := ⟨_, rfl⟩
  obtain ⟨n, hn⟩ : ∃ n, n = y.length := ⟨_, rfl⟩
  have hx : m ≤ 1048576 := by omega
  have hy : n ≤ 1048576 := by omega
  rw [← hm] at h1 ⊢
  rw [← hn] at h2 ⊢
  obtain ⟨V, hV⟩ : ∃ V, V = (w.alloc (.cells #[.slice A1 m c1, .slice A2 n c2, .int .i64 s] 25)).alloc (.cells #[.slice none 0 0, .slice none 0 0, .int .i64 0] 25) := ⟨_, rfl⟩
  have hbV : Below w.heap.size w V := by rw [hV]; exact bel2 _ _ _
  have H1 := Lib.hid h1
  have H2 := Lib.hid h2
  have HM := Lib.hid hm
  have HN := Lib.hid hn
  have k0 : V.heap[w.heap.size]? = some (.cells #[.slice A1 m c1, .slice A2 n c2, .int .i64 s] 25) := by rw [hV]; exact box_alloc (box_new _ _) _
  have k1 : V.heap[w.heap.size + 1]? = some (.cells #[.slice none 0 0, .slice none 0 0, .int .i64 0] 25) := by rw [hV]; have h := box_new (w.alloc (.cells #[.slice A1 m c1, .slice A2 n c2, .int .i64 s] 25)) (.cells #[.slice none 0 0, .slice none 0 0, .int .i64 0] 25); simpa using h
  have hsV : V.heap.size = w.heap.size + 1 + 1 := by rw [hV]; simp
  have HSV := Lib.hid hsV
  clear h1 h2 hm hn hf hsV
  go_enter Tryd.func27, Tryd.ntmps27
  go_wp2_with fail
  rw [← hV]
  have HVV := Lib.hid hV
  clear hV
  have c0 : V.cell? ⟨w.heap.size, 0, none⟩ = some (.slice A1 m c1) := box_cell k0 0 _ rfl
  have c1' : V.cell? ⟨w.heap.size, 1, none⟩ = some (.slice A2 n c2) := box_cell k0 1 _ rfl
  have c2' : V.cell? ⟨w.heap.size, 2, none⟩ = some (.int .i64 s) := box_cell k0 2 _ rfl
  have e0 : V.cell? ⟨w.heap.size + 1, 0, none⟩ = some (.slice none 0 0) := box_cell k1 0 _ rfl
  have K0 := Lib.hid k0
  have K1 := Lib.hid k1
  clear k0 k1
  go_region_held3 (fun w' => w'.cell? ⟨w.heap.size, 0, none⟩ = some (.slice A1 m c1) ∧ w'.cell? ⟨w.heap.size, 1, none⟩ = some (.slice A2 n c2) ∧ w'.cell? ⟨w.heap.size, 2, none⟩ = some (.int .i64 s))
    (first | go_keep | (refine ⟨cell_keep hb2 ?_, cell_keep hb2 ?_, cell_keep hb2 ?_⟩ <;> simp only [*]) | (refine ⟨cell_keep hb1 ?_, cell_keep hb1 ?_, cell_keep hb1 ?_⟩ <;> simp only [*]))
    (first | (have hb1n := hb1; go_at_call 44; refine (cloneB_any A2 n c2 y B _ (by exact H2.out.below (hbV.trans (hb1'.mono hbV.size)) hB) (by exact Nat.le_trans hB (Nat.le_trans hbV.size hb1'.size)) hy).mono ?_; rintro e w2 ⟨A4, n4, c4, rfl, hO2, hb2⟩; have HO2 := Lib.hid hO2; clear hO2 hb1n; obtain ⟨r0, r1, r2, s0, s1, s2⟩ := box3 (box_below (box_below K1.out hb1') hb2)) | (go_at_call 44; refine (cloneB_any A1 m c1 x B _ (by exact H1.out.below hbV.drew hB) (by exact Nat.le_trans hB hbV.size) hx).mono ?_; rintro e w1 ⟨A3, n3, c3, rfl, hO1, hb1⟩; have hb1' : Below V.heap.size V w1 := undrew hb1; have HO1 := Lib.hid hO1; clear hO1))
  all_goals
    have hL1 : ∀ k, (Value.slice A3 n3 c3).ownBlock = some k → V.heap.size ≤ k ∧ k < w1.heap.size := fun k hk => HO1.out.lt k hk
    have h12 : OwnB w2 w.heap.size A3 n3 c3 x := own_base (HO1.out.below hb2) (fun k hk => by have := hL1 k hk; have := hbV.size; omega)
    have hb02 : Below w.heap.size w w2 := bel_then (bel_then hbV hb1' hbV.size) hb2 (Nat.le_trans hbV.size hb1'.size)
    have H12 := Lib.hid h12
    have HB02 := Lib.hid hb02
    have HL1 := Lib.hid hL1
    have HS1 := Lib.hid hb1'.size
    have HS2 := Lib.hid hb2.size
    have HSB := Lib.hid hbV.size
    have HE3 : Hid (n3 = x.length) := HO1.out.1.symm
    have HE4 : Hid (n4 = y.length) := HO2.out.1.symm
    clear h12 hb02 hL1 hb1 hb1' hb2 HO1 c0 c1' c2' e0
    go_wp2
    refine bodyPost_ret (v := .agg #[.slice A3 n3 c3, .slice A4 n4 c4, .int .i64 s]) (by simp [results, Tryd.results27, go_sem, r0, r1, r2]) rfl ?_
    refine made_of (w5 := w2) (w4 := w1) HB02.out H12.out HO2.out (fun k hk => ?_) HS2.out (Nat.le_trans HSB.out HS1.out) HE3.out HE4.out (sets3 (S := fun k => k = w.heap.size + 1) rfl rfl rfl) (fun k hk => ?_) (fun k hk => by omega)
    · have := HL1.out k hk; have := HSV.out; omega
    · have := HS1.out; have := HSV.out; omega
/-- What bookOf leaves. -/
def Booked (w : World) (d : JD) (e : Ending) (w' : World) : Prop :=
  (jok d = false ∧ e = .returned (.tuple #[.pointer none, .bool false]) ∧ Below w.heap.size w w') ∨
  (jok d = true ∧ ∃ pb pf A1 A2 c1 c2, e = .returned (.tuple #[.pointer (some ⟨pb, 0, none⟩), .bool true]) ∧ Book w' w.heap.size pb pf A1 A2 c1 c2 d ∧ Below w.heap.size w w')

set_option maxRecDepth 100000 in
set_option maxHeartbeats 3200000 in
theorem bookOf_any (w : World) (B : Nat) (v : Value) (d : JD) (hr : JRd w B v d) (hB : B ≤ w.heap.size) (hf : jty.Few d) :
    Calls Tryd.prog 24 #[v] w (Booked w d) := by
  have hr0 := hr
  obtain ⟨x, y, s⟩ := d
  obtain ⟨A1, c1, A2, c2, rfl, h1, h2⟩ := hr
  have HR := Lib.hid hr0
  have HF := Lib.hid hf
  have hf : x.length + y.length ≤ 1048576 := hf
  have h1 : IsBytes w B A1 x.length x := h1
  have h2 : IsBytes w B A2 y.length y := h2
  obtain ⟨m, hm⟩ : ∃ m, m = (x, y, s).1.length := ⟨_, rfl⟩
  obtain ⟨n, hn⟩ : ∃ n, n = (x, y, s).2.1.length := ⟨_, rfl⟩
  rw [← hm, ← hn] at HR ⊢
  have hx : m ≤ 1048576 := by have : m = x.length := hm; omega
  have hy : n ≤ 1048576 := by have : n = y.length := hn; omega
  have H1 : Hid (IsBytes w B A1 m x) := by rw [hm]; exact h1
  have H2 : Hid (IsBytes w B A2 n y) := by rw [hn]; exact h2
  have HM := Lib.hid hm
  have HN := Lib.hid hn
  clear hr0 h1 h2 hm hn hf
  go_enter Tryd.func24, Tryd.ntmps24
  go_wp2_with fail
  refine (journalOk_any _ B _ (x, y, s) (jty.rd_below HR.out (bel1 _ _) hB) HF.out).mono ?_
  rintro e w1 ⟨rfl, hb1⟩
  have k0 : w1.heap[w.heap.size]? = some (.cells #[.slice A1 m c1, .slice A2 n c2, .int .i64 s] 25) := box_below (box_new _ _) hb1
  have hb01 : Below w.heap.size w w1 := bel_then (bel1 _ _) hb1 (by simp)
  have hs1 : w.heap.size < w1.heap.size := box_lt k0
  have HJ : Hid (jok (x, y, s) = jok (x, y, s)) := rfl
  clear hb1
  cases hj : jok (x, y, s)
  · go_wp2
    refine bodyPost_ret (results_tmp2 rfl _ _ _) rfl ?_
    exact .inl ⟨hj, rfl, hb01⟩
  · obtain ⟨c0, c1', c2', _, _, _⟩ := box3 k0
    have K0 := Lib.hid k0
    have HJ2 := Lib.hid hj
    clear k0 hj
    go_wp2_with fail
    go_region_held3 (fun w' => w'.cell? ⟨w.heap.size, 0, none⟩ = some (.slice A1 m c1) ∧ w'.cell? ⟨w.heap.size, 1, none⟩ = some (.slice A2 n c2) ∧ w'.cell? ⟨w.heap.size, 2, none⟩ = some (.int .i64 s))
      (first | (go_keep; done) | (refine ⟨cell_keep hb2 ?_, cell_keep hb2 ?_, cell_keep hb2 ?_⟩ <;> simp only [*]) | (refine ⟨cell_keep (bel1 _ _) (cell_keep hb2 ?_), cell_keep (bel1 _ _) (cell_keep hb2 ?_), cell_keep (bel1 _ _) (cell_keep hb2 ?_)⟩ <;> simp only [*]))
      (first | (go_at_call 44; refine (cloneB_any A2 n c2 y B _ (by exact H2.out.below hb01.drew hB) (by exact Nat.le_trans hB hb01.size) hy).mono ?_; rintro e w2 ⟨A4, n4, c4, rfl, hO2, hb2⟩; have HO2 := Lib.hid hO2; clear hO2))
    have hb2' : Below w1.heap.size w1 w2 := undrew hb2
    have hb02 : Below w.heap.size w (w2.alloc (fileO A4 n4 c4 s)) := (bel_then hb01 hb2' hb01.size).alloc (Nat.le_trans hb01.size hb2'.size) _
    have hs2 : w1.heap.size ≤ w2.heap.size := hb2'.size
    obtain ⟨q0, q1, q2, _, _, _⟩ := box3 (box_alloc (box_below K0.out hb2') (fileO A4 n4 c4 s))
    have HL4 : Hid (∀ k, (Value.slice A4 n4 c4).ownBlock = some k → w1.heap.size ≤ k ∧ k < w2.heap.size) := fun k hk => HO2.out.lt k hk
    have HE4 : Hid (n4 = y.length) := HO2.out.1.symm
    have HO2' : Hid (OwnB (w2.alloc (fileO A4 n4 c4 s)) w.heap.size A4 n4 c4 y) := own_base (HO2.out.alloc _) (fun k hk => by have := HL4.out k hk; omega)
    have HFL := Lib.hid (box_new w2 (fileO A4 n4 c4 s))
    have HB02 := Lib.hid hb02
    clear hb2 hb2' hb02 hb01 HO2 c0 c1' c2' K0
    go_wp2_with fail
    refine (cloneB_any A1 m c1 x B _ (H1.out.below HB02.out hB) (by have := HB02.out.size; omega) hx).mono ?_
    rintro e w3 ⟨A3, n3, c3, rfl, hO3, hb3⟩
    have HE3 : Hid (n3 = x.length) := hO3.1.symm
    have hs3 := hb3.size
    simp only [World.size_alloc] at hs3
    have HL3 : Hid (∀ k, (Value.slice A3 n3 c3).ownBlock = some k → w2.heap.size + 1 ≤ k ∧ k < w3.heap.size) := fun k hk => by have h := hO3.lt k hk; simp only [World.size_alloc] at h; exact h
    have HO3 : Hid (OwnB w3 w.heap.size A3 n3 c3 x) := own_base hO3 (fun k hk => by have := HL3.out k hk; omega)
    have HO4 := Lib.hid (HO2'.out.below hb3)
    have HF3 := Lib.hid (box_below HFL.out hb3)
    have HB3 := Lib.hid (bel_then HB02.out hb3 HB02.out.size)
    clear hb3 hO3 q0 q1 q2
    go_wp2
    refine bodyPost_ret (results_tmp2 rfl _ _ _) rfl ?_
    refine .inr ⟨HJ2.out, w3.heap.size, w2.heap.size, A3, A4, c3, c4, rfl, ⟨?_, ?_, ?_, ?_, ?_, by omega, by omega⟩, HB3.out.alloc HB3.out.size _⟩
    · show _ = some (Obj.cells #[.iface 71 (fp w2.heap.size), .slice A3 x.length c3] _ _)
      rw [← HE3.out]
      exact box_new _ _
    · show _ = some (fileO A4 y.length c4 s)
      rw [← HE4.out]
      exact box_alloc HF3.out _
    · show OwnB _ _ A3 x.length c3 x
      rw [← HE3.out]
      exact HO3.out.alloc _
    · show OwnB _ _ A4 y.length c4 y
      rw [← HE4.out]
      exact HO4.out.alloc _
    · intro k hk e
      have h1 := HL3.out k ((ob A3 _ _ _ _).trans hk)
      have h2 := HL4.out k ((ob A4 _ _ _ _).trans e)
      omega

/-- The book's tail is cut. -/
theorem Book.cut {w w' : World} {lo pb pf q : Nat} {A1 A2 A' : Option Addr} {c1 c2 : Nat} {d : JD} (h : Book w lo pb pf A1 A2 c1 c2 d) (hq : q ≤ d.2.1.length) (hlo : lo ≤ w.heap.size)
    (hf : w'.heap[pf]? = some (fileO A' q q q)) (ho : OwnB w' w.heap.size A' q q (d.2.1.take q)) (ht : Turned (fun k => k = pf) w w') : Book w' lo pb pf A1 A' c1 q (d.1, d.2.1.take q, q) := by
  have hl : (d.2.1.take q).length = q := by rw [List.length_take]; exact Nat.min_eq_left hq
  refine ⟨box_turned h.hb ht h.ne, ?_, own_same h.o1 (fun k hk => ht.block k (h.o1.lt k hk).2 (h.n1 k hk).2), ?_, ?_, h.lb, h.lf⟩
  · show _ = some (fileO A' (d.2.1.take q).length q q)
    rw [hl]; exact hf
  · show OwnB w' lo A' (d.2.1.take q).length q (d.2.1.take q)
    rw [hl]
    exact own_base ho (fun k hk => by have := ho.lt k hk; omega)
  · intro k hk e
    have h1 := h.o1.lt k hk
    have h2 := ho.lt k ((ob A' _ _ _ _).trans e)
    omega

/-- What a method of the book leaves that cuts. -/
def BookCut (w : World) (lo pb pf : Nat) (A1 : Option Addr) (c1 : Nat) (d : JD) (e : Ending) (w' : World) : Prop :=
  e = .returned (.tuple #[]) ∧ ∃ A' q, Book w' lo pb pf A1 A' c1 q d ∧ Turned (fun k => k = pf) w w'

end Go.Proofs.YtpghccbknlokcaaDoor.Jour
