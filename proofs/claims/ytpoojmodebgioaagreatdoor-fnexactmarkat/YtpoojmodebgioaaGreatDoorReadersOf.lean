/-
  readersOf: the heap of the parts that have records.
-/
import Derived.Test.YtpoojmodebgioaaGreatDoorHeapPop
namespace Go.Proofs.YtpoojmodebgioaaGreatDoor.dat
open Go.RowKit Go.Proofs.YtpoojmodebgioaaGreatDoor.win

/-- Logs in memory: the parts' own slices. -/
structure Logs (w : World) (a : Option Addr) (L : List PartD) (H : List PartH) : Prop where
  len : H.length = L.length
  el : ∀ (i : Nat) x, L[i]? = some x → ∃ (b off : Nat) (h : PartH) (f : List Nat), a = some ⟨b, off, none⟩ ∧ b < w.heap.size ∧ H[i]? = some h ∧ Part.Is w x h f ∧ w.cell? ⟨b, off + i, none⟩ = some (.slice h.recsa h.recsl h.recsc)
theorem logs_of {w : World} {a : Option Addr} {len : Nat} {L : List PartD} {fp : List Nat} (h : GRow 1 RPart w a len L fp) : ∃ H, Logs w a L H := by
  classical
  have hex : ∀ i : Nat, ∃ h : PartH, ∀ x, L[i]? = some x → ∃ (b off : Nat) (f : List Nat), a = some ⟨b, off, none⟩ ∧ b < w.heap.size ∧ Part.Is w x h f ∧ w.cell? ⟨b, off + i, none⟩ = some (.slice h.recsa h.recsl h.recsc) := by
    intro i
    by_cases hi : i < len
    · obtain ⟨b, off, x, f, cs, e, hb, hx, hcl, ⟨hh, rfl, his⟩, hc⟩ := h.at hi
      refine ⟨hh, fun y hy => ?_⟩
      rw [hx] at hy
      cases hy
      exact ⟨b, off, f, e, hb, his, by have := hc 0 (by omega); simpa [Part.list] using this⟩
    · exact ⟨⟨none, 0, 0⟩, fun x hx => by have := (List.getElem?_eq_some_iff.1 hx).1; rw [h.1] at this; omega⟩
  refine ⟨(List.range L.length).map fun i => Classical.choose (hex i), by simp, fun i x hx => ?_⟩
  have hi := (List.getElem?_eq_some_iff.1 hx).1
  obtain ⟨b, off, f, h1, h2, h3, h4⟩ := Classical.choose_spec (hex i) x hx
  exact ⟨b, off, _, f, h1, h2, by simp [hi], h3, h4⟩
theorem Logs.below {w w' : World} {a : Option Addr} {L : List PartD} {H : List PartH} (h : Logs w a L H) (hb : Below w.heap.size w w') : Logs w' a L H :=
  ⟨h.len, fun i x hx => by
    obtain ⟨b, off, hh, f, h1, h2, h3, h4, h5⟩ := h.el i x hx
    exact ⟨b, off, hh, f, h1, Nat.lt_of_lt_of_le h2 hb.size, h3, h4.below hb, (hb.cell (p := ⟨b, off + i, none⟩) h2).trans h5⟩⟩
theorem HeapAt.next {q : Nat} {l : List RdD} {w w' : World} (h : HeapAt q l w) (hb : Below w.heap.size w w') : HeapAt q l w' := by
  obtain ⟨v, h1, h2⟩ := h
  exact ⟨v, h1.below hb h1.lt, h2.below local_rd hb⟩
/-- Nothing is read. -/
def zeros (L : List PartD) : List Nat := List.replicate L.length 0
theorem mkR_zero (c : ConfD) (L : List PartD) (H : List PartH) (p : Nat) {h : PartH} (hh : H[p]? = some h) : mkR c L H (zeros L) p = ⟨(p : Int), h.recsa, h.recsl, h.recsc, 0, -200000⟩ := by
  unfold mkR zeros
  rw [getD_replicate, List.getD_eq_getElem?_getD, hh]
  simp [mk, markL]
theorem opn_zero {L : List PartD} {p : Nat} {x : PartD} (hx : L[p]? = some x) : opn L (zeros L) p = decide (0 < x.recs.length) := by
  unfold opn zeros
  rw [getD_replicate, recsOf_at hx]

set_option maxRecDepth 100000 in
set_option maxHeartbeats 2000000 in
theorem impl_readersOf (c : ConfD) (a : Option Addr) (len cap : Nat) (L : List PartD) (H : List PartH) (w : World) (hlog : Logs w a L H) (hl : L.length = len) (h3 : len ≤ 3) :
    Calls Tryz.prog 35 #[.slice a len cap] w fun e w' => ∃ v l, e = .returned v ∧ Grows 4 RRd 99 (w.heap.size + 1) w' v l ∧ Readers c L H (zeros L) len l ∧ Heap l ∧ Below w.heap.size w w' := by
  have HL := Lib.hid hlog
  clear hlog
  go_enter Tryz.func35, Tryz.ntmps35
  go_wp2_with fail
  go_loopg [8] len (fun k i wr => ∃ (j : Nat) (l : List RdD), j + k = len ∧ i = .int .i64 j ∧ HeapAt w.heap.size l wr ∧ Readers c L H (zeros L) j l ∧ Heap l ∧ Below w.heap.size w wr)
  case atStart => exact ⟨0, [], by omega, rfl, ⟨_, by with_reducible (repeat (first | (refine blk_new_at _ _ _ _ ?_; first | rfl | (simp; done)) | refine Blk.alloc ?_ _ | apply Blk.drew | refine Blk.setOther ?_ (by first | (simp; done) | (simp; omega)) _)), Grows.nil⟩, Readers.start _ _ _ _, trivial, by repeat (first | exact Below.refl _ _ | refine Below.setCell ?_ (by first | omega | (simp; done) | (simp; omega)) _ | refine Below.alloc ?_ (by first | omega | (simp; done) | (simp; omega)) _ | apply Below.drew)⟩
  case round =>
    obtain ⟨j, l, hj, rfl, hA, hR, hh, hB⟩ := hrel
    have HA := Lib.hid hA
    have HR := Lib.hid hR
    have HH := Lib.hid hh
    have HB := Lib.hid hB
    by_cases hlt : j < len
    case neg =>
      obtain rfl : j = len := by omega
      obtain ⟨v, hb, hG⟩ := hA
      have c0 := hb.cell 0
      simp at c0
      have HG := Lib.hid hG
      clear hR hh hB hb hG
      go_wp2_with fail
      go_ret
      exact ⟨v, l, rfl, HG.out, HR.out, HH.out, HB.out⟩
    obtain ⟨x, hx⟩ : ∃ x, L[j]? = some x := ⟨L[j]'(by omega), List.getElem?_eq_getElem (by omega)⟩
    obtain ⟨b, off, h, f, rfl, hbl, hh', his, hc⟩ := HL.out.el j x hx
    obtain ⟨ra, rl, rc⟩ := h
    simp only at hc
    have HZ := Lib.hid (mkR_zero c L H j hh')
    have HO := Lib.hid (opn_zero hx)
    have hrl : x.recs.length = rl := by obtain ⟨f0, _, r0, _⟩ := his; exact r0.1
    rw [hrl] at HO
    have d0 : wr.cell? ⟨b, off + j, none⟩ = some (.slice ra rl rc) := (hB.cell (p := ⟨b, off + j, none⟩) hbl).trans hc
    have hlt2 : (j : Int) < (len : Int) := by omega
    have h02 : (0 : Int) ≤ (j : Int) := by omega
    have hlen := hR.len
    clear hA hR hh hB hc his hx hh' hrl
    by_cases hp : 0 < rl
    · have hp2 : (0 : Int) < (rl : Int) := by omega
      have HO2 := Lib.hid (HO.out.trans (decide_eq_true hp))
      go_wp2_with fail
      refine calls_gen (fun W => Below wr.heap.size wr W) (by repeat (first | exact Below.refl _ _ | refine Below.setCell ?_ (by first | omega | (simp; done) | (simp; omega)) _ | refine Below.alloc ?_ (by first | omega | (simp; done) | (simp; omega)) _ | apply Below.drew)) ?_
      intro W1 b1
      refine (heap_Push w.heap.size l ⟨(j : Int), ra, rl, rc, 0, -200000⟩ W1 (HA.out.next b1) (by omega)).mono ?_
      rintro e W2 ⟨rfl, h2, b2⟩
      have H2 := Lib.hid h2
      have B2 := Lib.hid ((HB.out.trans (b1.mono HB.out.size)).trans b2)
      clear h2 b2 b1
      go_wp2_with fail
      go_roundg (len - (j + 1))
      case measure => omega
      case rel =>
        have hu := up_heap (x := mkR c L H (zeros L) j) HH.out (by omega)
        refine ⟨j + 1, _, by omega, by go_num, H2.out, ?_, ?_, B2.out⟩
        · have := (HR.out.add HO2.out).perm hu.1
          rw [HZ.out] at this
          exact this
        · have := hu.2
          rw [HZ.out] at this
          exact this
    · have hp2 : ¬ (0 : Int) < (rl : Int) := by omega
      have HO2 := Lib.hid (HO.out.trans (decide_eq_false hp))
      go_wp2_with fail
      go_roundg (len - (j + 1))
      case measure => omega
      case rel => exact ⟨j + 1, l, by omega, by go_num, HA.out.next (by repeat (first | exact Below.refl _ _ | refine Below.setCell ?_ (by first | omega | (simp; done) | (simp; omega)) _ | refine Below.alloc ?_ (by first | omega | (simp; done) | (simp; omega)) _ | apply Below.drew)), HR.out.skip HO2.out, HH.out, HB.out.alloc HB.out.size _⟩
end Go.Proofs.YtpoojmodebgioaaGreatDoor.dat
