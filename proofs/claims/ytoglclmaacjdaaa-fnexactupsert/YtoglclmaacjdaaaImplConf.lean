/-
  THE CONTRACTS OF isMask, winsOk, masksOk AND ConfigOk of the program: what each call answers; nothing that was there is written.
  Condition: the Config's slices hold the given windows and masks.
-/
import Derived.Test.YtoglclmaacjdaaaLists
import Derived.Test.YtoglclmaacjdaaaConf
namespace Go.Proofs.Ytoglclmaacjdaaa.win
open Go.RowKit

/-- 2 to the d, d at most 3. -/
def pw (d : Int) : Int := if d = 0 then 1 else if d = 1 then 2 else if d = 2 then 4 else 8
/-- A mask of d dimensions. -/
def inB (d m : Int) : Bool := decide (0 ≤ m ∧ m < pw d)

set_option maxHeartbeats 400000 in
theorem isMask (c : Cf) (m : Int) (w : World) (h0 : 0 ≤ c.d) (h3 : c.d ≤ 3) :
    Calls Try.prog 188 #[.agg c.cells, .int .i64 m] w fun e w' => e = .returned (.bool (inB c.d m)) ∧ Below w.heap.size w w' := by
  obtain ⟨d, wa, wl, wc, ma, ml, mc, dl, lt⟩ := c
  simp only [Cf.cells] at *
  have hd : d = 0 ∨ d = 1 ∨ d = 2 ∨ d = 3 := by omega
  clear h0 h3
  by_cases hm : 0 ≤ m
  · rcases hd with rfl | rfl | rfl | rfl
    all_goals (
      go_enter Try.func188, Try.ntmps188
      go_wp2_with fail
      go_ret
      refine ⟨ret_bool ?_, (Below.refl _ _).alloc (Nat.le_refl _) _⟩
      simp [inB, pw, hm])
  · go_enter Try.func188, Try.ntmps188
    go_wp2_with fail
    go_ret
    refine ⟨ret_bool ?_, (Below.refl _ _).alloc (Nat.le_refl _) _⟩
    symm
    simp [inB]
    omega

set_option maxHeartbeats 400000 in
theorem allMasks (a : Option Addr) (len cap : Nat) (l : List Int) (c : Cf) (h0 : 0 ≤ c.d) (h3 : c.d ≤ 3) (w : World) (hmax : len ≤ 2000000) (hrow : Row w a len l) :
    Calls Try.prog 187 #[.slice a len cap, .func (.func 188) #[.agg c.cells] #[]] w fun e w' => e = .returned (.bool (l.all (inB c.d))) ∧ Below w.heap.size w w' := by
  have HR := Lib.hid hrow
  clear hrow
  go_enter Try.func187, Try.ntmps187
  go_wp2_with fail
  go_loopg [9] len (fun k i wr => ∃ j : Nat, j + k = len ∧ i = .int .i64 j ∧ Below w.heap.size w wr ∧ (l.take j).all (inB c.d) = true)
  case atStart => exact ⟨0, by omega, rfl, Below.refl _ _, by simp⟩
  case round =>
    obtain ⟨j, hj, rfl, hb, hno⟩ := hrel
    have HB := Lib.hid hb
    have HN := Lib.hid hno
    clear hno
    by_cases hlt : j < len
    · obtain ⟨b, off, rfl, hbl, hc⟩ := HR.out.2 (by omega)
      obtain ⟨x, hx⟩ : ∃ x, l.getD j 0 = x := ⟨_, rfl⟩
      have hcell : wr.cell? ⟨b, off + j, none⟩ = some (.int .i64 x) := by
        rw [hb.cell (p := ⟨b, off + j, none⟩) hbl, ← hx]
        exact hc j hlt
      have hlt2 : (j : Int) < (len : Int) := by omega
      have h02 : (0 : Int) ≤ (j : Int) := by omega
      have HX := Lib.hid hx
      clear hb hx hc
      go_wp2_with fail
      refine (isMask c _ _ h0 h3).mono ?_
      rintro e w3 ⟨rfl, hb3⟩
      have HB3 := Lib.hid (show Below w.heap.size w w3 from HB.out.trans (hb3.mono HB.out.size))
      clear hb3
      cases hp : (inB c.d) x with
      | false =>
        have HP := Lib.hid (all_no (p := (inB c.d)) (d := 0) (show j < l.length by rw [HR.out.1]; omega) (by rw [HX.out]; exact hp))
        clear hp
        go_wp2_with fail
        go_ret
        exact ⟨ret_bool HP.out.symm, HB3.out⟩
      | true =>
        have HP := Lib.hid (all_take_succ (p := (inB c.d)) (d := 0) (show j < l.length by rw [HR.out.1]; omega) HN.out (by rw [HX.out]; exact hp))
        clear hp
        go_wp2_with fail
        go_roundg (len - (j + 1))
        case measure => omega
        case rel => exact ⟨j + 1, by omega, by go_num, HB3.out, HP.out⟩
    · clear hb
      obtain rfl : j = len := by omega
      go_wp2_with fail
      go_ret
      have := HN.out
      rw [List.take_of_length_le (by rw [HR.out.1]; omega)] at this
      exact ⟨ret_bool this.symm, HB.out⟩

/-- What ConfigOk asks of windows, of masks. -/
def winsB (ws : List (Int × Int)) : Bool := decide (ws.length ≤ 3) && (ws.all fun x => winB x.1 x.2) && decide ws.Nodup
def masksB (d : Int) (ms : List Int) : Bool := decide (ms.length ≤ 4) && ms.all (inB d) && decide ms.Nodup
def confB (c : Cf) (ws : List (Int × Int)) (ms : List Int) : Bool := upB c.d 3 && winsB ws && masksB c.d ms && upB c.dl 1000 && upB c.lt 1000

set_option maxHeartbeats 1000000 in
theorem winsOk (c : Cf) (ws : List (Int × Int)) (ms : List Int) (w : World) (hcap : c.wl ≤ c.wc) (hin : c.In w ws ms) :
    Calls Try.prog 165 #[.agg c.cells] w fun e w' => e = .returned (.bool (winsB ws)) ∧ Below w.heap.size w w' := by
  obtain ⟨d, wa, wl, wc, ma, ml, mc, dl, lt⟩ := c
  simp only [Cf.cells, Cf.In] at *
  have hl := hin.1.1
  have HI := Lib.hid hin.1
  clear hin
  by_cases h3 : wl ≤ 3
  · have h3' : (wl : Int) ≤ 3 := by omega
    go_enter Try.func165, Try.ntmps165
    go_wp2_with fail
    refine calls_gen (fun W => Below w.heap.size w W ∧ Blk W w.heap.size 63 [.int .i64 d, .slice wa wl wc, .slice ma ml mc, .int .i64 dl, .int .i64 lt]) ⟨by repeat (first | exact Below.refl _ _ | refine Below.setCell ?_ (by first | omega | (simp; done) | (simp; omega)) _ | refine Below.alloc ?_ (by first | omega | (simp; done) | (simp; omega)) _ | apply Below.drew), by with_reducible (repeat (first | (refine blk_new_at _ _ _ _ ?_; first | rfl | (simp; done)) | refine Blk.alloc ?_ _ | apply Blk.drew | refine Blk.setOther ?_ (by first | (simp; done) | (simp; omega)) _))⟩ ?_
    rintro W1 ⟨b1, k1⟩
    refine (allWin _ _ _ ws _ (by omega) (HI.out.below b1)).mono ?_
    rintro e W2 ⟨rfl, b2⟩
    have B2 := Lib.hid (b1.trans (b2.mono b1.size))
    have j1 := (k1.below b2 k1.lt).cell 1
    simp at j1
    clear b1 b2 k1
    cases hp : ws.all fun x => winB x.1 x.2 with
    | false =>
      have HP := Lib.hid hp
      clear hp
      go_wp2_with fail
      go_ret
      exact ⟨ret_bool (by simp [winsB, HP.out]), B2.out⟩
    | true =>
      have HP := Lib.hid hp
      clear hp
      go_wp2_with fail
      refine (differWin _ _ _ ws _ (by omega) hcap (HI.out.below B2.out)).mono ?_
      rintro e W3 ⟨rfl, b3⟩
      have B3 := Lib.hid (B2.out.trans (b3.mono B2.out.size))
      clear b3 j1
      go_wp2_with fail
      go_ret
      exact ⟨ret_bool (by simp only [winsB, HP.out, hl]; simp [h3]), B3.out⟩
  · have h3' : ¬ (wl : Int) ≤ 3 := by omega
    go_enter Try.func165, Try.ntmps165
    go_wp2_with fail
    go_ret
    exact ⟨ret_bool (by simp only [winsB, hl]; simp [h3]), by repeat (first | exact Below.refl _ _ | refine Below.setCell ?_ (by first | omega | (simp; done) | (simp; omega)) _ | refine Below.alloc ?_ (by first | omega | (simp; done) | (simp; omega)) _ | apply Below.drew)⟩

set_option maxHeartbeats 1000000 in
theorem masksOk (c : Cf) (ws : List (Int × Int)) (ms : List Int) (w : World) (h0 : 0 ≤ c.d) (hd3 : c.d ≤ 3) (hcap : c.ml ≤ c.mc) (hin : c.In w ws ms) :
    Calls Try.prog 166 #[.agg c.cells] w fun e w' => e = .returned (.bool (masksB c.d ms)) ∧ Below w.heap.size w w' := by
  have HA := Lib.hid (fun a len cap l w => allMasks a len cap l c h0 hd3 w)
  obtain ⟨d, wa, wl, wc, ma, ml, mc, dl, lt⟩ := c
  simp only [Cf.cells, Cf.In] at *
  have hl := hin.2.1
  have HI := Lib.hid hin.2
  clear hin
  by_cases h3 : ml ≤ 4
  · have h3' : (ml : Int) ≤ 4 := by omega
    go_enter Try.func166, Try.ntmps166
    go_wp2_with fail
    refine calls_gen (fun W => Below w.heap.size w W ∧ Blk W w.heap.size 63 [.int .i64 d, .slice wa wl wc, .slice ma ml mc, .int .i64 dl, .int .i64 lt]) ⟨by repeat (first | exact Below.refl _ _ | refine Below.setCell ?_ (by first | omega | (simp; done) | (simp; omega)) _ | refine Below.alloc ?_ (by first | omega | (simp; done) | (simp; omega)) _ | apply Below.drew), by with_reducible (repeat (first | (refine blk_new_at _ _ _ _ ?_; first | rfl | (simp; done)) | refine Blk.alloc ?_ _ | apply Blk.drew | refine Blk.setOther ?_ (by first | (simp; done) | (simp; omega)) _))⟩ ?_
    rintro W1 ⟨b1, k1⟩
    refine (HA.out _ _ _ ms _ (by omega) (HI.out.below b1)).mono ?_
    rintro e W2 ⟨rfl, b2⟩
    have B2 := Lib.hid (b1.trans (b2.mono b1.size))
    have j1 := (k1.below b2 k1.lt).cell 2
    simp at j1
    clear b1 b2 k1
    cases hp : ms.all (inB d) with
    | false =>
      have HP := Lib.hid hp
      clear hp
      go_wp2_with fail
      go_ret
      exact ⟨ret_bool (by simp [masksB, HP.out]), B2.out⟩
    | true =>
      have HP := Lib.hid hp
      clear hp
      go_wp2_with fail
      refine (differInt _ _ _ ms _ (by omega) hcap (HI.out.below B2.out)).mono ?_
      rintro e W3 ⟨rfl, b3⟩
      have B3 := Lib.hid (B2.out.trans (b3.mono B2.out.size))
      clear b3 j1
      go_wp2_with fail
      go_ret
      exact ⟨ret_bool (by simp only [masksB, HP.out, hl]; simp [h3]), B3.out⟩
  · have h3' : ¬ (ml : Int) ≤ 4 := by omega
    go_enter Try.func166, Try.ntmps166
    go_wp2_with fail
    go_ret
    exact ⟨ret_bool (by simp only [masksB, hl]; simp [h3]), by repeat (first | exact Below.refl _ _ | refine Below.setCell ?_ (by first | omega | (simp; done) | (simp; omega)) _ | refine Below.alloc ?_ (by first | omega | (simp; done) | (simp; omega)) _ | apply Below.drew)⟩
end Go.Proofs.Ytoglclmaacjdaaa.win
