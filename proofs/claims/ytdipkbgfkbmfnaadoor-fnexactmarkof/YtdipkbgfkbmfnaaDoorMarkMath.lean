/-
  MARKS, as mathematics: what a mark becomes behind one record more; the mark of so many records.
-/
import Derived.Test.YtdipkbgfkbmfnaaDoorEvReadC
namespace Go.Proofs.YtdipkbgfkbmfnaaDoor.dat
open Go.RowKit Go.Proofs.YtdipkbgfkbmfnaaDoor.win

/-- What a mark becomes behind one record more. -/
noncomputable def markB (c : ConfD) (m : Int) (s : ByteArray) : Int := match evR c s.data.toList with
  | none => m
  | some e => max m (e.t - c.dl)
/-- The mark of these records. -/
noncomputable def tideL (c : ConfD) (l : List ByteArray) : Int := l.foldl (markB c) (-200000)
/-- MarkOf. -/
noncomputable def markD (c : ConfD) (q : PartD) (n : Int) : Int := tideL c (q.recs.take n.toNat)
theorem tideL_succ {c : ConfD} {l : List ByteArray} {j : Nat} {s : ByteArray} (h : l[j]? = some s) : tideL c (l.take (j + 1)) = markB c (tideL c (l.take j)) s := by
  unfold tideL
  rw [List.take_add_one, h, List.foldl_append]
  rfl
theorem tideL_nil (c : ConfD) (l : List ByteArray) : tideL c (l.take 0) = -200000 := by simp [tideL]
theorem conf_delay {c : ConfD} (h : confD c = true) : 0 ≤ c.dl ∧ c.dl ≤ 1000 := by
  unfold confD at h
  simp only [Bool.and_eq_true] at h
  have := h.1.2
  unfold upB at this
  exact of_decide_eq_true this
theorem evR_back {c : ConfD} {s : List UInt8} {e : EventD} (h : evR c s = some e) : eventB c e = true ∧ evText e = s := by
  unfold evR at h
  split at h
  · rename_i hx
    cases h
    exact Classical.choose_spec hx
  · cases h
theorem event_conf {c : ConfD} {e : EventD} (h : eventB c e = true) : confD c = true := by
  unfold eventB at h
  simp only [Bool.and_eq_true] at h
  exact h.1.1.1.1
/-- A moment less the delay is a number that may be reckoned. -/
theorem ev_less {c : ConfD} {s : List UInt8} {e : EventD} (h : evR c s = some e) : (-100000 ≤ e.t ∧ e.t ≤ 100000) ∧ 0 ≤ c.dl ∧ c.dl ≤ 1000 :=
  ⟨(ev_bounds (evR_back h).1).1, conf_delay (event_conf (evR_back h).1)⟩
theorem markB_bounds {c : ConfD} {m : Int} (s : ByteArray) (h : -200000 ≤ m ∧ m ≤ 100000) : -200000 ≤ markB c m s ∧ markB c m s ≤ 100000 := by
  unfold markB
  cases he : evR c s.data.toList with
  | none => exact h
  | some e =>
    have := ev_less he
    simp only
    omega
theorem markB_le {c : ConfD} (m : Int) (s : ByteArray) : m ≤ markB c m s := by
  unfold markB
  cases evR c s.data.toList with
  | none => exact Int.le_refl _
  | some e => simp only; omega
theorem tideL_bounds (c : ConfD) (l : List ByteArray) : -200000 ≤ tideL c l ∧ tideL c l ≤ 100000 := by
  unfold tideL
  have : ∀ (l : List ByteArray) (m : Int), -200000 ≤ m ∧ m ≤ 100000 → -200000 ≤ l.foldl (markB c) m ∧ l.foldl (markB c) m ≤ 100000 := by
    intro l
    induction l with
    | nil => intro m h; exact h
    | cons s r ih => intro m h; exact ih _ (markB_bounds s h)
  exact this l _ (by omega)
/-- Of a Config that is none there are no events. -/
theorem tideL_none {c : ConfD} (h : confD c = false) (l : List ByteArray) : tideL c l = -200000 := by
  unfold tideL
  have : ∀ (l : List ByteArray) (m : Int), l.foldl (markB c) m = m := by
    intro l
    induction l with
    | nil => intro m; rfl
    | cons s r ih =>
      intro m
      rw [List.foldl_cons, ih]
      unfold markB
      cases he : evR c s.data.toList with
      | none => rfl
      | some e => have := event_conf (evR_back he).1; rw [h] at this; cases this
  exact this l _

end Go.Proofs.YtdipkbgfkbmfnaaDoor.dat
