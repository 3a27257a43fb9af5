/-
  A DISK AT WORK (program): its files as a row of pointers to blocks of their own; a name's place; a file read under its lock.
-/
import Derived.Test.YtoglclmaacjdaaaDiskOk
import Derived.Test.YtoglclmaacjdaaaLocks
import Derived.Test.YtoglclmaacjdaaaGrow2
import Derived.Conc.MuLone
import Derived.Defers
import Derived.StillTailTactics
namespace Go.Proofs.Ytoglclmaacjdaaa.dat
open Go.RowKit Go.Proofs.Ytoglclmaacjdaaa.win
open Go.MuLone

def Named.list (x : FileD) : List Value := [.string x.name, .int .i32 0, .int .u32 0, .string x.safe, .string x.now]
/-- An element: a pointer to a file's own block. -/
def RNamed : Rel FileD := fun w cs x f => ∃ b, cs = [.pointer (some ⟨b, 0, none⟩)] ∧ Blk w b 101 (Named.list x) ∧ f = [b]
theorem local_Named : Local RNamed := ⟨fun ⟨b, e, k, hf⟩ h => ⟨b, e, (h b (by simp [hf])).trans k, hf⟩, fun ⟨b, _, k, hf⟩ c hc => by rw [hf] at hc; simp at hc; subst hc; exact k.lt⟩

theorem find1 (x : FileD) (name : ByteArray) (b : Nat) (w : World) (hb : Blk w b 101 (Named.list x)) :
    Calls Try.prog 96 #[.pointer (some ⟨b, 0, none⟩), .string name] w fun e w' => e = .returned (.int .i64 (cmpN x.name name)) ∧ w' = w := by
  have c0 := hb.cell 0
  simp [Named.list] at c0
  clear hb
  go_enter Try.func96, Try.ntmps96
  go_wp2_with fail
  refine (strCompare x.name name w).mono ?_
  rintro e w' ⟨rfl, rfl⟩
  go_wp2_with fail
  go_ret
  exact ⟨rfl, rfl⟩

def thereB (l : List FileD) (name : ByteArray) (i : Nat) : Bool := match l[i]? with | some f => decide (f.name = name) | none => false
/-- Place i is the name's, or where it would stand. -/
def PlaceAt (l : List FileD) (name : ByteArray) (i : Nat) : Prop := i ≤ l.length ∧ Ahead l name i ∧ ∀ f, l[i]? = some f → ltB f.name name = false
def Found (l : List FileD) (name : ByteArray) (w : World) (e : Ending) (w' : World) : Prop := ∃ i : Nat, PlaceAt l name i ∧ e = .returned (.tuple #[.int .i64 i, .bool (thereB l name i)]) ∧ w' = w

theorem cell_named {w : World} {a : Option Addr} {len : Nat} {l : List FileD} {fp : List Nat} (h : GRow 1 RNamed w a len l fp) {j : Nat} (hj : j < len) :
    ∃ b off x g, a = some ⟨b, off, none⟩ ∧ b < w.heap.size ∧ l[j]? = some x ∧ Blk w g 101 (Named.list x) ∧ w.cell? ⟨b, off + j, none⟩ = some (.pointer (some ⟨g, 0, none⟩)) := by
  obtain ⟨b, off, x, f, cs, ha, hbl, hx, hcl, hR, hc⟩ := h.at hj
  obtain ⟨g, rfl, hk, rfl⟩ := hR
  refine ⟨b, off, x, g, ha, hbl, hx, hk, ?_⟩
  have := hc 0 (by omega)
  simpa using this

set_option maxRecDepth 100000 in
set_option maxHeartbeats 1000000 in
theorem search (a : Option Addr) (len cap : Nat) (l : List FileD) (fp : List Nat) (name : ByteArray) (w : World) (hrow : GRow 1 RNamed w a len l fp) (hlen : len ≤ 1000) (hmono : ∀ (i j : Nat) f g, i < j → l[i]? = some f → l[j]? = some g → ltB f.name g.name = true) :
    Calls Try.prog 95 #[.slice a len cap, .string name, .func (.func 96) #[] #[]] w (Found l name w) := by
  have HX := Lib.hid hrow
  have HL := Lib.hid hrow.1
  have HM := Lib.hid hmono
  clear hrow hmono
  go_enter Try.func95, Try.ntmps95
  go_wp2_with fail
  go_loopg [9, 10] len (fun k iv jv wr => ∃ i j : Nat, iv = .int .i64 i ∧ jv = .int .i64 j ∧ i ≤ j ∧ j ≤ len ∧ i + k = j ∧ Ahead l name i ∧ (∀ (q : Nat) f, j ≤ q → l[q]? = some f → ltB f.name name = false) ∧ wr = w)
  case atStart => exact ⟨0, len, rfl, rfl, by omega, by omega, by omega, Ahead.zero _ _, fun q f hq hf => by have := (List.getElem?_eq_some_iff.1 hf).1; have := HL.out; omega, rfl⟩
  case round =>
    obtain ⟨i, j, rfl, rfl, hij, hj, hk, ha, hq, rfl⟩ := hrel
    have HA := Lib.hid ha
    have HQ := Lib.hid hq
    clear ha hq
    by_cases hlt : i < j
    case neg =>
      obtain rfl : i = j := by omega
      by_cases hl : i < len
      case neg =>
        have E := Lib.hid (show thereB l name i = false by unfold thereB; rw [List.getElem?_eq_none (by rw [HL.out]; omega)])
        go_wp2_with fail
        go_ret2
        exact ⟨i, ⟨by rw [HL.out]; exact hj, HA.out, fun f hf => HQ.out i f (Nat.le_refl _) hf⟩, by rw [E.out]; rfl, rfl⟩
      obtain ⟨b, off, x, g, rfl, hbl, hx, hg, hc⟩ := cell_named HX.out hl
      have HXX := Lib.hid hx
      have HG := Lib.hid hg
      clear hx hg
      have hl2 : (i : Int) < (len : Int) := by omega
      have hi0 : (0 : Int) ≤ (i : Int) := by omega
      go_wp2_with fail
      refine (find1 x name g wr HG.out).mono ?_
      rintro e w' ⟨rfl, rfl⟩
      have hz := cmpN_zero x.name name
      obtain ⟨q, hq⟩ : ∃ q, cmpN x.name name = q := ⟨_, rfl⟩
      rw [hq] at hz
      rw [hq]
      have E := Lib.hid (show thereB l name i = (q == 0) by unfold thereB; rw [HXX.out, Bool.eq_iff_iff]; simp [hz])
      clear hq hz
      go_wp2_with fail
      go_ret2
      exact ⟨i, ⟨by rw [HL.out]; exact hj, HA.out, fun f hf => HQ.out i f (Nat.le_refl _) hf⟩, by rw [E.out]; rfl, rfl⟩
    have h1 : i ≤ (i + j) / 2 := by omega
    have h2 : (i + j) / 2 < j := by omega
    obtain ⟨b, off, x, g, rfl, hbl, hx, hg, hc⟩ := cell_named HX.out (j := (i + j) / 2) (by omega)
    have HXX := Lib.hid hx
    have HG := Lib.hid hg
    have H12 := Lib.hid (And.intro h1 h2)
    clear hx hg
    go_wp2_with fail
    refine (find1 x name g wr HG.out).mono ?_
    rintro e w' ⟨rfl, rfl⟩
    have hz := cmpN_lt x.name name
    obtain ⟨q, hq⟩ : ∃ q, cmpN x.name name = q := ⟨_, rfl⟩
    rw [hq] at hz
    rw [hq]
    have HZ := Lib.hid hz
    clear hq hz
    by_cases hneg : q < 0
    · go_wp2_with fail
      go_roundg (j - ((i + j) / 2 + 1))
      case measure => omega
      case rel =>
        refine ⟨(i + j) / 2 + 1, j, by go_num, rfl, by omega, hj, by omega, ?_, HQ.out, rfl⟩
        intro p f hp hf
        rcases Nat.lt_or_ge p ((i + j) / 2) with hlt' | hge
        · exact ltB_trans (HM.out p _ f x hlt' hf HXX.out) (HZ.out.1 hneg)
        · obtain rfl : p = (i + j) / 2 := by omega
          rw [HXX.out] at hf
          cases hf
          exact HZ.out.1 hneg
    · have hn2 : 0 ≤ q := by omega
      go_wp2_with fail
      go_roundg ((i + j) / 2 - i)
      case measure => omega
      case rel =>
        refine ⟨i, (i + j) / 2, rfl, by go_num, by omega, by omega, by omega, HA.out, ?_, rfl⟩
        intro p f hp hf
        have hx0 : ltB x.name name = false := by
          cases hb : ltB x.name name
          · rfl
          · exact absurd (HZ.out.2 hb) (by omega)
        rcases Nat.lt_or_ge ((i + j) / 2) p with hlt' | hge
        · cases hb : ltB f.name name
          · rfl
          · rw [ltB_trans (HM.out _ p x f hlt' HXX.out hf) hb] at hx0
            cases hx0
        · obtain rfl : p = (i + j) / 2 := by omega
          rw [HXX.out] at hf
          cases hf
          exact hx0

theorem find_ (a : Option Addr) (len cap : Nat) (l : List FileD) (fp : List Nat) (name : ByteArray) (w : World) (hrow : GRow 1 RNamed w a len l fp) (hlen : len ≤ 1000) (hmono : ∀ (i j : Nat) f g, i < j → l[i]? = some f → l[j]? = some g → ltB f.name g.name = true) :
    Calls Try.prog 52 #[.slice a len cap, .string name] w (Found l name w) := by
  have HS := Lib.hid (search a len cap l fp name w hrow hlen hmono)
  clear hrow hmono
  go_enter Try.func52, Try.ntmps52
  go_wp2_with fail
  refine HS.out.mono ?_
  rintro e w' ⟨i, hp, rfl, rfl⟩
  have HP := Lib.hid hp
  clear hp
  go_wp2_with fail
  go_ret2
  exact ⟨i, HP.out, rfl, rfl⟩

/-- All but one block is as it was, and that one is what it says. -/
structure Now (b : Nat) (x : FileD) (w w' : World) : Prop where
  ap : Apart [b] w w'
  blk : Blk w' b 101 (Named.list x)
theorem Apart.whole {b : Nat} {w w' : World} (h : Apart [b] w w') (hb : w'.heap[b]? = w.heap[b]?) : Below w.heap.size w w' :=
  ⟨h.os, h.tape, h.output, h.size, fun c hc => by
    by_cases e : c = b
    · subst e; exact hb
    · exact h.block c hc (by simpa using e)⟩
theorem Apart.setNew {fp : List Nat} {a w : World} (h : Apart fp a w) {c : Nat} (hc : a.heap.size ≤ c) (o : Nat) (v : Value) : Apart fp a (w.setCell ⟨c, o, none⟩ v) :=
  ⟨h.os, h.tape, h.output, Nat.le_trans h.size (by simp [World.setCell]), fun b hb hn => (Below.heap_setCell w ⟨c, o, none⟩ v b (by show b ≠ c; omega)).trans (h.block b hb hn)⟩
theorem door_gen {P : Program} {fn : Func} {R : Ending → World → Prop} {x : Exit} {a : Act} (F : World → Prop) {W : World} (h : F W) (k : ∀ W', F W' → bodyPostD P fn R x a W') : bodyPostD P fn R x a W := k W h
theorem three_set {w : World} {b c : Nat} {p q r : Value} (hne : b ≠ c) (o : Nat) (v : Value) (h : w.cell? ⟨b, 0, none⟩ = some p ∧ w.cell? ⟨b, 3, none⟩ = some q ∧ w.cell? ⟨b, 4, none⟩ = some r) :
    (w.setCell ⟨c, o, none⟩ v).cell? ⟨b, 0, none⟩ = some p ∧ (w.setCell ⟨c, o, none⟩ v).cell? ⟨b, 3, none⟩ = some q ∧ (w.setCell ⟨c, o, none⟩ v).cell? ⟨b, 4, none⟩ = some r := by
  have hh := cell_same (Below.heap_setCell w ⟨c, o, none⟩ v b hne)
  exact ⟨(hh 0).trans h.1, (hh 3).trans h.2.1, (hh 4).trans h.2.2⟩
theorem three_drew {w : World} {b : Nat} {p q r : Value} (h : w.cell? ⟨b, 0, none⟩ = some p ∧ w.cell? ⟨b, 3, none⟩ = some q ∧ w.cell? ⟨b, 4, none⟩ = some r) :
    w.drew.cell? ⟨b, 0, none⟩ = some p ∧ w.drew.cell? ⟨b, 3, none⟩ = some q ∧ w.drew.cell? ⟨b, 4, none⟩ = some r := h
/-- Only the plain way out. -/
def OnlyN (Q : Exit → Act → World → Prop) : Exit → Act → World → Prop
  | .normal, a, w => Q .normal a w
  | _, _, _ => False
theorem onlyN {Q : Exit → Act → World → Prop} {a : Act} {w : World} (h : Q .normal a w) : OnlyN Q .normal a w := h
/-- As wp_region_mixh, under whatever a panic would bring: nothing of the region panics. -/
theorem wp_region_mixn {P : Program} {Q : Exit → Act → World → Prop} {id : Nat} {a : Act} {w : World} {l : List Oper} (S : World → Prop) (hs : List Nat) (hm : P.follows .mixedOrders = true) (hB : (Region.noSelect l.toArray && mix.heldB .any l.toArray hs l.length 0 (Array.replicate l.length false)) = true)
    (hS : S w.drew) (h : mix.wpHeld P l.toArray (OnlyN Q) S hs 0 l a w.drew) : (Code.region id l.toArray true).wp P Q a w :=
  Code.wp_mono (fun e a w h => by cases e <;> first | exact h | exact h.elim) (mix.wp_region_mixh (Q := OnlyN Q) S hs hm hB (fun _ _ _ _ _ h => h) hS h)
/-- A lock taken. -/
def Held.list (x : FileD) : List Value := [.string x.name, .int .i32 1, .int .u32 0, .string x.safe, .string x.now]

set_option maxRecDepth 100000 in
set_option maxHeartbeats 2000000 in
theorem file_ (x : FileD) (b : Nat) (w : World) (hb : Blk w b 101 (Named.list x)) :
    Calls Try.prog 61 #[.pointer (some ⟨b, 0, none⟩)] w fun e w' => e = .returned (.agg (File.list x).toArray) ∧ Below w.heap.size w w' := by
  have hlt := hb.lt
  have HB := Lib.hid hb
  clear hb
  go_enter_defers Try.func61, Try.ntmps61
  go_wp2_with fail
  refine calls_gen (fun W => Below w.heap.size w W ∧ Blk W b 101 (Named.list x) ∧ Blk W w.heap.size 40 [.string ⟨#[]⟩, .string ⟨#[]⟩, .string ⟨#[]⟩]) ⟨by repeat (first | exact Below.refl _ _ | refine Below.setCell ?_ (by first | omega | (simp; done) | (simp; omega)) _ | refine Below.alloc ?_ (by first | omega | (simp; done) | (simp; omega)) _ | apply Below.drew), HB.out.alloc _, by with_reducible (repeat (first | (refine blk_new_at _ _ _ _ ?_; first | rfl | (simp; done)) | refine Blk.alloc ?_ _ | apply Blk.drew | refine Blk.setOther ?_ (by first | (simp; done) | (simp; omega)) _))⟩ ?_
  rintro W ⟨bw, kb, kr⟩
  refine (lock_free muLib ⟨b, 1, none⟩ W (by simpa [Named.list] using kb.cell 1) (kb.frozen 1)).mono ?_
  rintro e w1 ⟨rfl, rfl⟩
  have hne : w.heap.size ≠ b := by omega
  have AW := Lib.hid (show Apart [b] w (W.setCell ⟨b, 1, none⟩ (.int .i32 1)) from (Apart.of_below bw).setCell (by simp) _ _)
  have KB := Lib.hid (show Blk (W.setCell ⟨b, 1, none⟩ (.int .i32 1)) b 101 (Held.list x) from kb.set 1 _)
  have KR := Lib.hid (kr.setOther (a := ⟨b, 1, none⟩) hne (.int .i32 1))
  clear bw kb kr
  go_wp2_with fail
  refine wp_gen (fun W1 => Apart [b] w W1 ∧ Blk W1 b 101 (Held.list x) ∧ Blk W1 w.heap.size 40 [.string ⟨#[]⟩, .string ⟨#[]⟩, .string ⟨#[]⟩]) ⟨AW.out, KB.out, KR.out⟩ ?_
  clear AW KB KR
  rintro W1 ⟨aw, kb, kr⟩
  have c0 := kb.cell 0
  have c1 := kb.cell 1
  have c3 := kb.cell 3
  have c4 := kb.cell 4
  have fb := kb.frozen
  have r0 := kr.cell 0
  have r1 := kr.cell 1
  have r2 := kr.cell 2
  have fr := kr.frozen
  simp [Held.list] at c0 c1 c3 c4 r0 r1 r2
  have AW := Lib.hid aw
  have KB := Lib.hid kb
  have KR := Lib.hid kr
  clear aw kb kr
  have hne1 : b ≠ w.heap.size := by omega
  have HD := Lib.hid (show W1.cell? ⟨b, 0, none⟩ = some (.string x.name) ∧ W1.cell? ⟨b, 3, none⟩ = some (.string x.safe) ∧ W1.cell? ⟨b, 4, none⟩ = some (.string x.now) from ⟨c0, c3, c4⟩)
  refine wp_region_mixn (fun w' => w'.cell? ⟨b, 0, none⟩ = some (.string x.name) ∧ w'.cell? ⟨b, 3, none⟩ = some (.string x.safe) ∧ w'.cell? ⟨b, 4, none⟩ = some (.string x.now)) [14,16,18,20] (by kernel_rfl) (by kernel_rfl) HD.out ?_
  (repeat (first | (apply mix.held_take; (· rfl); (· rfl); (· (intro w' hSw; (try dsimp only at hSw); go_simp; try with_reducible rfl)); (try simp only [Act.put, List.setIfInBounds_toArray, List.set_cons_zero, List.set_cons_succ])) | ((refine mix.held_pass rfl (by rfl) ?_); (try simp only [Act.put, List.setIfInBounds_toArray, List.set_cons_zero, List.set_cons_succ]))))
  refine mix.held_hard rfl (fun K hK => ?_); go_simp
  refine hK.out _ _ (by refine three_drew ?_; repeat (first | (with_reducible exact HD.out) | (with_reducible refine three_set hne1 _ _ ?_))) (fun hSw => ?_); clear hK K hSw; (try simp only [Act.put, List.setIfInBounds_toArray, List.set_cons_zero, List.set_cons_succ])
  (repeat (first | (apply mix.held_take; (· rfl); (· rfl); (· (intro w' hSw; (try dsimp only at hSw); go_simp; try with_reducible rfl)); (try simp only [Act.put, List.setIfInBounds_toArray, List.set_cons_zero, List.set_cons_succ])) | ((refine mix.held_pass rfl (by rfl) ?_); (try simp only [Act.put, List.setIfInBounds_toArray, List.set_cons_zero, List.set_cons_succ]))))
  refine mix.held_hard rfl (fun K hK => ?_); go_simp
  refine hK.out _ _ (by refine three_drew ?_; repeat (first | (with_reducible exact HD.out) | (with_reducible refine three_set hne1 _ _ ?_))) (fun hSw => ?_); clear hK K hSw; (try simp only [Act.put, List.setIfInBounds_toArray, List.set_cons_zero, List.set_cons_succ])
  (repeat (first | (apply mix.held_take; (· rfl); (· rfl); (· (intro w' hSw; (try dsimp only at hSw); go_simp; try with_reducible rfl)); (try simp only [Act.put, List.setIfInBounds_toArray, List.set_cons_zero, List.set_cons_succ])) | ((refine mix.held_pass rfl (by rfl) ?_); (try simp only [Act.put, List.setIfInBounds_toArray, List.set_cons_zero, List.set_cons_succ]))))
  refine mix.held_hard rfl (fun K hK => ?_); go_simp
  refine hK.out _ _ (by refine three_drew ?_; repeat (first | (with_reducible exact HD.out) | (with_reducible refine three_set hne1 _ _ ?_))) (fun hSw => ?_); clear hK K hSw; (try simp only [Act.put, List.setIfInBounds_toArray, List.set_cons_zero, List.set_cons_succ])
  (repeat (first | (apply mix.held_take; (· rfl); (· rfl); (· (intro w' hSw; (try dsimp only at hSw); go_simp; try with_reducible rfl)); (try simp only [Act.put, List.setIfInBounds_toArray, List.set_cons_zero, List.set_cons_succ])) | ((refine mix.held_pass rfl (by rfl) ?_); (try simp only [Act.put, List.setIfInBounds_toArray, List.set_cons_zero, List.set_cons_succ]))))
  refine mix.held_hard rfl (fun K hK => ?_); go_simp
  refine hK.out _ _ (by refine three_drew ?_; repeat (first | (with_reducible exact HD.out) | (with_reducible refine three_set hne1 _ _ ?_))) (fun hSw => ?_); clear hK K hSw; (try simp only [Act.put, List.setIfInBounds_toArray, List.set_cons_zero, List.set_cons_succ])
  (repeat (first | (apply mix.held_take; (· rfl); (· rfl); (· (intro w' hSw; (try dsimp only at hSw); go_simp; try with_reducible rfl)); (try simp only [Act.put, List.setIfInBounds_toArray, List.set_cons_zero, List.set_cons_succ])) | ((refine mix.held_pass rfl (by rfl) ?_); (try simp only [Act.put, List.setIfInBounds_toArray, List.set_cons_zero, List.set_cons_succ]))))
  refine mix.held_end ?_
  refine onlyN ?_
  go_wp2_with fail
  refine door_gen (fun W2 => Apart [b] w W2 ∧ Blk W2 b 101 (Held.list x) ∧ Blk W2 w.heap.size 40 [.string x.name, .string x.safe, .string x.now]) ⟨?_, ?_, ?_⟩ ?_
  · apply Apart.drew
    repeat (first | (with_reducible exact AW.out) | refine Apart.setNew ?_ (Nat.le_refl _) _ _)
  · with_reducible (repeat (first | exact KB.out | (refine blk_new_at _ _ _ _ ?_; first | rfl | (simp; done)) | refine Blk.alloc ?_ _ | apply Blk.drew | refine Blk.setOther ?_ (by first | (simp; done) | (simp; omega)) _))
  · (apply Blk.of_eq; (repeat (first | (with_reducible exact KR.out) | (with_reducible apply Blk.set) | ((with_reducible apply Blk.other); · first | (simp; done) | (simp; omega)) | (with_reducible apply Blk.drew))); rfl)
  clear AW KB KR HD c0 c1 c3 c4 fb r0 r1 r2 fr
  rintro W2 ⟨aw, kb, kr⟩
  refine leaves_cons (f := 99) (args := #[.pointer (some ⟨b, 1, none⟩)]) (by simp) (by simp [go_sem]) ?_
  refine (unlock_deferred muLib ⟨b, 1, none⟩ .returning W2 (by simpa [Held.list] using kb.cell 1) (kb.frozen 1)).mono ?_
  rintro e u' w'' ⟨rfl, rfl, rfl⟩
  have k2 := kr.setOther (a := ⟨b, 1, none⟩) hne (.int .i32 0)
  have r0 := k2.cell 0
  have r1 := k2.cell 1
  have r2 := k2.cell 2
  simp at r0 r1 r2
  refine ⟨.agg (File.list x).toArray, by simp [results, Try.results61, go_sem, r0, r1, r2, File.list], rfl, ?_⟩
  exact Apart.whole (aw.setCell (by simp) _ _) ((kb.set 1 (.int .i32 0)).trans HB.out.symm)
end Go.Proofs.Ytoglclmaacjdaaa.dat
